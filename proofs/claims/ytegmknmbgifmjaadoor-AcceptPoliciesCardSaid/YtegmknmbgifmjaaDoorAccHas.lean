/- Whether an address is on a list, itself or by an identity, and what policies allow, by the layer and the document: contracts over the program. -/
import Derived.Test.YtegmknmbgifmjaaDoorAccRem
import Derived.Test.YtegmknmbgifmjaaDoorPrvFind2
set_option linter.unusedVariables false
set_option linter.unusedSimpArgs false
namespace Go.Proofs.YtegmknmbgifmjaaDoor.Ace
open Go.RowKit Mem Rw Base Arg
open Prv (findZ fstZ belP Idents fst_cases triples_below)

/-- The address of an identity of a list. -/
def adrAt (fs : List (Int × Int × Int)) (j : Nat) : Int × Int := ((fs.getD j (0, 0, 0)).1, (fs.getD j (0, 0, 0)).2.1)
/-- Whether an address is on a list, itself or by the identity to which it belongs. -/
def hasB (l : List (Int × Int)) (fs : List (Int × Int × Int)) (a : Int × Int) : Bool := onB l a || (decide (0 ≤ findZ a.1 a.2 fs) && onB l (adrAt fs (findZ a.1 a.2 fs).toNat))
theorem has_on {l : List (Int × Int)} {fs : List (Int × Int × Int)} {a : Int × Int} (h : onB l a = true) : hasB l fs a = true := by unfold hasB; rw [h]; rfl
theorem has_off {l : List (Int × Int)} {fs : List (Int × Int × Int)} {a : Int × Int} (h : onB l a = false) (hf : findZ a.1 a.2 fs = -1) : hasB l fs a = false := by unfold hasB; rw [h, hf]; rfl
theorem has_at {l : List (Int × Int)} {fs : List (Int × Int × Int)} {a : Int × Int} {j : Nat} (h : onB l a = false) (hf : findZ a.1 a.2 fs = j) : hasB l fs a = onB l (adrAt fs j) := by
  unfold hasB; rw [h, hf]; simp
theorem find_cases (k b : Int) (fs : List (Int × Int × Int)) : findZ k b fs = -1 ∨ ∃ j : Nat, j < fs.length ∧ findZ k b fs = j := by
  unfold findZ
  by_cases h : Adr.chk k b = 0
  · rw [if_pos h]
    rcases fst_cases (belP k b fs) fs.length with ⟨e, _⟩ | ⟨j, hj, e, _⟩
    · exact .inl e
    · exact .inr ⟨j, hj, e⟩
  · rw [if_neg h]; exact .inl rfl

set_option maxHeartbeats 1000000 in
theorem has_any (A A' : Option Addr) (n c n' c' : Nat) (l : List (Int × Int)) (fs : List (Int × Int × Int)) (a1 a2 : Int) (w : World) (hl : l.length = n) (hn : n ≤ 8796093022200) (hr : ListAt encA w w.heap.size A l) (hf : fs.length = n') (hnc : n' ≤ c') (hn' : n' ≤ 140737488355328) (hr' : TriplesAt w A' fs) (hI : Idents fs)
    (hk : -9223372036854775808 ≤ a1 ∧ a1 ≤ 9223372036854775807) (hb : 0 ≤ a2 ∧ a2 ≤ 18446744073709551615) (hT : Adr.Tab w) :
    Calls Tryd.prog 16 #[.slice A n c, .slice A' n' c', .agg #[.int .i64 a1, .int .u64 a2]] w fun e w' => e = .returned (.bool (hasB l fs (a1, a2))) ∧ Below w.heap.size w w' := by
  have A0 : Below w.heap.size w (w.alloc (.cells #[.int .i64 a1, .int .u64 a2] 25)) := (Below.refl _ _).alloc (Nat.le_refl _) _
  have F0 := Adr.box_new w a1 a2
  have HCo : Hid (∀ w' x1 x2, Below w.heap.size w w' → Calls Tryd.prog 25 #[.slice A n c, .agg #[.int .i64 x1, .int .u64 x2]] w' fun e w2 => e = .returned (.bool (onB l (x1, x2))) ∧ Below w'.heap.size w' w2) := Lib.hid fun w' x1 x2 b => contains_any A n c l x1 x2 w' hl (by omega) (CellsAt.later hr b)
  have HFi : Hid (∀ w', Below w.heap.size w w' → Adr.Tab w' → Calls Tryd.prog 27 #[.slice A' n' c', .agg #[.int .i64 a1, .int .u64 a2]] w' fun e w2 => e = .returned (.int .i64 (findZ a1 a2 fs)) ∧ Below w'.heap.size w' w2) := Lib.hid fun w' b h => Prv.find_any a1 a2 A' n' c' fs w' hf hnc hn' (triples_below hr' b) hI hk hb h
  have HQ : Hid (∀ w', Below w.heap.size w w' → ∀ j : Nat, j < n' → ∃ bl off, A' = some ⟨bl, off, none⟩ ∧ bl < w'.heap.size ∧ w'.cell? ⟨bl, off + j * 3, none⟩ = some (.int .i64 (adrAt fs j).1) ∧ w'.cell? ⟨bl, off + j * 3 + 1, none⟩ = some (.int .u64 (adrAt fs j).2)) := Lib.hid fun w' b j hj => by
    obtain ⟨f, hfj, _⟩ := has hf hj
    have e : adrAt fs j = (f.1, f.2.1) := by unfold adrAt; simp [List.getD, hfj]
    rcases triples_below hr' b with h | ⟨bl, off, rfl, hlt, hc⟩
    · exfalso; rw [h] at hfj; simp at hfj
    · obtain ⟨h0, h1, _⟩ := hc j f hfj
      rw [e]
      exact ⟨bl, off, rfl, hlt, h0, h1⟩
  have HC := Lib.hid (find_cases a1 a2 fs)
  have H1 : Hid (onB l (a1, a2) = true → hasB l fs (a1, a2) = true) := Lib.hid fun h => has_on h
  have H2 : Hid (onB l (a1, a2) = false → findZ a1 a2 fs = -1 → hasB l fs (a1, a2) = false) := Lib.hid fun h hf => has_off h hf
  have H3 : Hid (∀ j : Nat, onB l (a1, a2) = false → findZ a1 a2 fs = j → hasB l fs (a1, a2) = onB l (adrAt fs j)) := Lib.hid fun j h hf => has_at h hf
  have HF := Lib.hid hf
  generalize hasB l fs (a1, a2) = R at *
  generalize hfi : findZ a1 a2 fs = I at *
  clear hl hr hf hr' hI hfi
  have HOn : Hid (∀ q, onB l (a1, a2) = q → ∀ w', Below w.heap.size w w' → Calls Tryd.prog 25 #[.slice A n c, .agg #[.int .i64 a1, .int .u64 a2]] w' fun e w2 => e = .returned (.bool q) ∧ Below w'.heap.size w' w2) := Lib.hid fun q e w' b => by rw [← e]; exact HCo.out w' a1 a2 b
  cases ho : onB l (a1, a2) with
  | true =>
    have HX := Lib.hid (HOn.out _ ho)
    have HR := Lib.hid (H1.out ho)
    clear ho
    go_enter Tryd.func16, Tryd.ntmps16
    go_wp2_with fail
    generalize w.alloc (.cells #[.int .i64 a1, .int .u64 a2] 25) = W0 at *
    refine (HX.out W0 A0).mono ?_
    rintro e W1 ⟨rfl, b1⟩
    go_wp2_with fail
    go_ret
    exact ⟨Ser.ret_bool HR.out.symm, thenB A0 b1⟩
  | false =>
    have HX := Lib.hid (HOn.out _ ho)
    have H2 := Lib.hid (H2.out ho)
    have H3 := Lib.hid (fun j => H3.out j ho)
    clear ho
    have T0 := hT.below A0
    rcases HC.out with e | ⟨j, hj, e⟩
    · subst e
      have HR := Lib.hid (H2.out rfl)
      go_enter Tryd.func16, Tryd.ntmps16
      go_wp2_with fail
      generalize w.alloc (.cells #[.int .i64 a1, .int .u64 a2] 25) = W0 at *
      refine (HX.out W0 A0).mono ?_
      rintro e W1 ⟨rfl, b1⟩
      have B1 := thenB A0 b1
      have F1 := F0.below b1
      have d0 := F1.c0
      have d1 := F1.c1
      have T1 := T0.below b1
      go_wp2_with fail
      refine (HFi.out W1 B1 T1).mono ?_
      rintro e W2 ⟨rfl, b2⟩
      have B2 := thenB B1 b2
      go_wp2_with fail
      go_ret
      exact ⟨Ser.ret_bool HR.out.symm, B2⟩
    · subst e
      have HR := Lib.hid (H3.out j rfl)
      have hj' : j < n' := by rw [← HF.out]; exact hj
      clear hj
      go_enter Tryd.func16, Tryd.ntmps16
      go_wp2_with fail
      generalize w.alloc (.cells #[.int .i64 a1, .int .u64 a2] 25) = W0 at *
      refine (HX.out W0 A0).mono ?_
      rintro e W1 ⟨rfl, b1⟩
      have B1 := thenB A0 b1
      have F1 := F0.below b1
      have d0 := F1.c0
      have d1 := F1.c1
      have T1 := T0.below b1
      go_wp2_with fail
      refine (HFi.out W1 B1 T1).mono ?_
      rintro e W2 ⟨rfl, b2⟩
      have B2 := thenB B1 b2
      obtain ⟨bl, off, rfl, hbl, k0, k1⟩ := HQ.out W2 B2 j hj'
      obtain ⟨y1, y2⟩ : ∃ y : Int × Int, y = adrAt fs j := ⟨_, rfl⟩
      have HZ : Hid (R = onB l ((adrAt fs j).1, (adrAt fs j).2)) := HR
      generalize (adrAt fs j).1 = z1 at *
      generalize (adrAt fs j).2 = z2 at *
      have g1 : (0 : Int) ≤ (j : Int) ∧ (j : Int) < (n' : Int) := by omega
      clear HR
      have HV := Lib.hid (HCo.out W2 z1 z2 B2)
      rw [← HZ.out] at HV
      go_wp2_with fail
      refine HV.out.mono ?_
      rintro e W3 ⟨rfl, b3⟩
      go_wp2_with fail
      go_ret
      exact ⟨rfl, thenB B2 b3⟩
set_option maxHeartbeats 1000000 in
theorem rhas_any (A A' : Option Addr) (n c n' c' : Nat) (l : List (Int × Int)) (fs : List (Int × Int × Int)) (a1 a2 : Int) (w : World) (hl : l.length = n) (hn : n ≤ 8796093022200) (hr : ListAt encA w w.heap.size A l) (hf : fs.length = n') (hnc : n' ≤ c') (hn' : n' ≤ 140737488355328) (hr' : TriplesAt w A' fs) (hI : Idents fs)
    (hk : -9223372036854775808 ≤ a1 ∧ a1 ≤ 9223372036854775807) (hb : 0 ≤ a2 ∧ a2 ≤ 18446744073709551615) :
    Calls Tryd.prog 18 #[.slice A n c, .slice A' n' c', .agg #[.int .i64 a1, .int .u64 a2]] w fun e w' => e = .returned (.bool (hasB l fs (a1, a2))) ∧ Below w.heap.size w w' := by
  have A0 : Below w.heap.size w (w.alloc (.cells #[.int .i64 a1, .int .u64 a2] 25)) := (Below.refl _ _).alloc (Nat.le_refl _) _
  have F0 := Adr.box_new w a1 a2
  have HCo : Hid (∀ w' x1 x2, Below w.heap.size w w' → Calls Tryd.prog 22 #[.slice A n c, .agg #[.int .i64 x1, .int .u64 x2]] w' fun e w2 => e = .returned (.bool (onB l (x1, x2))) ∧ Below w'.heap.size w' w2) := Lib.hid fun w' x1 x2 b => element_any A n c l x1 x2 w' hl (by omega) (CellsAt.later hr b)
  have HFi : Hid (∀ w', Below w.heap.size w w' → Calls Tryd.prog 28 #[.slice A' n' c', .agg #[.int .i64 a1, .int .u64 a2]] w' fun e w2 => e = .returned (.int .i64 (findZ a1 a2 fs)) ∧ Below w'.heap.size w' w2) := Lib.hid fun w' b => Prv.rfind_any a1 a2 A' n' c' fs w' hf hnc hn' (triples_below hr' b) hI hk hb
  have HQ : Hid (∀ w', Below w.heap.size w w' → ∀ j : Nat, j < n' → ∃ bl off, A' = some ⟨bl, off, none⟩ ∧ bl < w'.heap.size ∧ w'.cell? ⟨bl, off + j * 3, none⟩ = some (.int .i64 (adrAt fs j).1) ∧ w'.cell? ⟨bl, off + j * 3 + 1, none⟩ = some (.int .u64 (adrAt fs j).2)) := Lib.hid fun w' b j hj => by
    obtain ⟨f, hfj, _⟩ := has hf hj
    have e : adrAt fs j = (f.1, f.2.1) := by unfold adrAt; simp [List.getD, hfj]
    rcases triples_below hr' b with h | ⟨bl, off, rfl, hlt, hc⟩
    · exfalso; rw [h] at hfj; simp at hfj
    · obtain ⟨h0, h1, _⟩ := hc j f hfj
      rw [e]
      exact ⟨bl, off, rfl, hlt, h0, h1⟩
  have HC := Lib.hid (find_cases a1 a2 fs)
  have H1 : Hid (onB l (a1, a2) = true → hasB l fs (a1, a2) = true) := Lib.hid fun h => has_on h
  have H2 : Hid (onB l (a1, a2) = false → findZ a1 a2 fs = -1 → hasB l fs (a1, a2) = false) := Lib.hid fun h hf => has_off h hf
  have H3 : Hid (∀ j : Nat, onB l (a1, a2) = false → findZ a1 a2 fs = j → hasB l fs (a1, a2) = onB l (adrAt fs j)) := Lib.hid fun j h hf => has_at h hf
  have HF := Lib.hid hf
  generalize hasB l fs (a1, a2) = R at *
  generalize hfi : findZ a1 a2 fs = I at *
  clear hl hr hf hr' hI hfi
  have HOn : Hid (∀ q, onB l (a1, a2) = q → ∀ w', Below w.heap.size w w' → Calls Tryd.prog 22 #[.slice A n c, .agg #[.int .i64 a1, .int .u64 a2]] w' fun e w2 => e = .returned (.bool q) ∧ Below w'.heap.size w' w2) := Lib.hid fun q e w' b => by rw [← e]; exact HCo.out w' a1 a2 b
  cases ho : onB l (a1, a2) with
  | true =>
    have HX := Lib.hid (HOn.out _ ho)
    have HR := Lib.hid (H1.out ho)
    clear ho
    go_enter Tryd.func18, Tryd.ntmps18
    go_wp2_with fail
    generalize w.alloc (.cells #[.int .i64 a1, .int .u64 a2] 25) = W0 at *
    refine (HX.out W0 A0).mono ?_
    rintro e W1 ⟨rfl, b1⟩
    go_wp2_with fail
    go_ret
    exact ⟨Ser.ret_bool HR.out.symm, thenB A0 b1⟩
  | false =>
    have HX := Lib.hid (HOn.out _ ho)
    have H2 := Lib.hid (H2.out ho)
    have H3 := Lib.hid (fun j => H3.out j ho)
    clear ho
    rcases HC.out with e | ⟨j, hj, e⟩
    · subst e
      have HR := Lib.hid (H2.out rfl)
      go_enter Tryd.func18, Tryd.ntmps18
      go_wp2_with fail
      generalize w.alloc (.cells #[.int .i64 a1, .int .u64 a2] 25) = W0 at *
      refine (HX.out W0 A0).mono ?_
      rintro e W1 ⟨rfl, b1⟩
      have B1 := thenB A0 b1
      have F1 := F0.below b1
      have d0 := F1.c0
      have d1 := F1.c1
      go_wp2_with fail
      refine (HFi.out W1 B1).mono ?_
      rintro e W2 ⟨rfl, b2⟩
      have B2 := thenB B1 b2
      go_wp2_with fail
      go_ret
      exact ⟨Ser.ret_bool HR.out.symm, B2⟩
    · subst e
      have HR := Lib.hid (H3.out j rfl)
      have hj' : j < n' := by rw [← HF.out]; exact hj
      clear hj
      go_enter Tryd.func18, Tryd.ntmps18
      go_wp2_with fail
      generalize w.alloc (.cells #[.int .i64 a1, .int .u64 a2] 25) = W0 at *
      refine (HX.out W0 A0).mono ?_
      rintro e W1 ⟨rfl, b1⟩
      have B1 := thenB A0 b1
      have F1 := F0.below b1
      have d0 := F1.c0
      have d1 := F1.c1
      go_wp2_with fail
      refine (HFi.out W1 B1).mono ?_
      rintro e W2 ⟨rfl, b2⟩
      have B2 := thenB B1 b2
      obtain ⟨bl, off, rfl, hbl, k0, k1⟩ := HQ.out W2 B2 j hj'
      obtain ⟨y1, y2⟩ : ∃ y : Int × Int, y = adrAt fs j := ⟨_, rfl⟩
      have HZ : Hid (R = onB l ((adrAt fs j).1, (adrAt fs j).2)) := HR
      generalize (adrAt fs j).1 = z1 at *
      generalize (adrAt fs j).2 = z2 at *
      have g1 : (0 : Int) ≤ (j : Int) ∧ (j : Int) < (n' : Int) := by omega
      clear HR
      have HV := Lib.hid (HCo.out W2 z1 z2 B2)
      rw [← HZ.out] at HV
      go_wp2_with fail
      refine HV.out.mono ?_
      rintro e W3 ⟨rfl, b3⟩
      go_wp2_with fail
      go_ret
      exact ⟨rfl, thenB B2 b3⟩
end Go.Proofs.YtegmknmbgifmjaaDoor.Ace
