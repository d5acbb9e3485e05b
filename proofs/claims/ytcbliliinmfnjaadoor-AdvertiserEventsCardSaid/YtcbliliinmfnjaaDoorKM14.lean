/- The first identity to which an address belongs, in the specification too: contracts over the program. Whether an address is on a list, itself or by an identity, and what policies allow, by the layer and the document: contracts over the program. How arguments read: structs of numbers and slices by value, slices of such structs; what their weights bound. No program is mentioned. What policies allow, by the layer and the document: contracts over the program. -/
import Derived.Test.YtcbliliinmfnjaaDoorKM13
import Derived.Test.YtcbliliinmfnjaaDoorKM8
import Derived.Test.YtcbliliinmfnjaaDoorKM7
section
set_option linter.unusedVariables false
set_option linter.unusedSimpArgs false
namespace Go.Proofs.YtcbliliinmfnjaaDoor.Prv
open Go.RowKit Mem Oct Blk Base Mac Arg

def findZ (k b : Int) (fs : List (Int × Int × Int)) : Int := if Adr.chk k b = 0 then fstZ (belP k b fs) fs.length else -1
theorem find_bad (k b : Int) (A : Option Addr) (n c : Nat) (w : World) (hc : ¬ Adr.chk k b = 0) (hk : -9223372036854775808 ≤ k ∧ k ≤ 9223372036854775807) (hb : 0 ≤ b ∧ b ≤ 18446744073709551615) (hT : Adr.Tab w) :
    Calls Tryd.prog 96 #[.slice A n c, .agg #[.int .i64 k, .int .u64 b]] w fun e w' => e = .returned (.int .i64 (-1)) ∧ Below w.heap.size w w' := by
  have HC : Hid (∀ w, Adr.Tab w → Calls Tryd.prog 87 #[.agg #[.int .i64 k, .int .u64 b]] w fun e w' => e = .returned (.int .i64 (Adr.chk k b)) ∧ Below w.heap.size w w') := Lib.hid fun w hT => Adr.check_any k b w hk hb hT
  generalize Adr.chk k b = C at *
  have gc : (C != 0) = true := by simpa using hc
  have F := Adr.box_new w k b
  have A0 : Below w.heap.size w (w.alloc (.cells #[.int .i64 k, .int .u64 b] 24)) := (Below.refl _ _).alloc (Nat.le_refl _) _
  have c0 := F.c0
  have c1 := F.c1
  have T0 := hT.below A0
  go_enter Tryd.func96, Tryd.ntmps96
  go_wp2_with (go_at_call 87; refine (HC.out _ T0).mono ?_; rintro e w1 ⟨rfl, b1⟩)
  go_ret
  exact ⟨rfl, thenB A0 b1⟩
theorem find_good (k b : Int) (A : Option Addr) (n c : Nat) (fs : List (Int × Int × Int)) (w : World) (hf : fs.length = n) (hnc : n ≤ c) (hn : n ≤ 140737488355328) (hA : TriplesAt w A fs) (hI : Idents fs) (hc : Adr.chk k b = 0)
    (hk : -9223372036854775808 ≤ k ∧ k ≤ 9223372036854775807) (hb : 0 ≤ b ∧ b ≤ 18446744073709551615) (hT : Adr.Tab w) :
    Calls Tryd.prog 96 #[.slice A n c, .agg #[.int .i64 k, .int .u64 b]] w fun e w' => e = .returned (.int .i64 (fstZ (belP k b fs) n)) ∧ Below w.heap.size w w' := by
  have hmf : ∀ (fn : Fn) (first cap : Array Value) (w : World), (Instr.makeFunc fn first cap).run Tryd.prog w = .ok (.func fn first cap) w := fun _ _ _ _ => rfl
  have HC : Hid (∀ w, Adr.Tab w → Calls Tryd.prog 87 #[.agg #[.int .i64 k, .int .u64 b]] w fun e w' => e = .returned (.int .i64 0) ∧ Below w.heap.size w w') := Lib.hid fun w hT => by
    have := Adr.check_any k b w hk hb hT
    rwa [hc] at this
  have HX : Hid (∀ (B : Nat) (w : World), TriplesAt w A fs → w.cell? ⟨B, 0, none⟩ = some (.int .i64 k) ∧ w.cell? ⟨B, 1, none⟩ = some (.int .u64 b) → Adr.Tab w → Calls Tryd.prog 116 #[.slice A n c, .func (.func 114) #[] #[.pointer (some ⟨B, 0, none⟩)]] w fun e w' => e = .returned (.int .i64 (fstZ (belP k b fs) n)) ∧ Below w.heap.size w w') :=
    Lib.hid fun B w h1 h2 h3 => index_any k b B A n c fs w hf hnc hn h1 hI hk hb h2 h3
  generalize fstZ (belP k b fs) n = R at *
  have F := Adr.box_new w k b
  have A0 : Below w.heap.size w (w.alloc (.cells #[.int .i64 k, .int .u64 b] 24)) := (Below.refl _ _).alloc (Nat.le_refl _) _
  have c0 := F.c0
  have c1 := F.c1
  have T0 := hT.below A0
  clear hc hI hf
  go_enter Tryd.func96, Tryd.ntmps96
  go_wp2_with fail
  refine (HC.out _ T0).mono ?_
  rintro e w1 ⟨rfl, b1⟩
  have B1 := thenB A0 b1
  have F1 := F.below b1
  have T1 := T0.below b1
  have hA1 := triples_below hA B1
  go_wp2_with (go_at_call 116; refine (HX.out _ _ hA1 ⟨F1.c0, F1.c1⟩ T1).mono ?_; rintro e w2 ⟨rfl, b2⟩)
  go_ret
  exact ⟨rfl, thenB B1 b2⟩
theorem find_any (k b : Int) (A : Option Addr) (n c : Nat) (fs : List (Int × Int × Int)) (w : World) (hf : fs.length = n) (hnc : n ≤ c) (hn : n ≤ 140737488355328) (hA : TriplesAt w A fs) (hI : Idents fs)
    (hk : -9223372036854775808 ≤ k ∧ k ≤ 9223372036854775807) (hb : 0 ≤ b ∧ b ≤ 18446744073709551615) (hT : Adr.Tab w) :
    Calls Tryd.prog 96 #[.slice A n c, .agg #[.int .i64 k, .int .u64 b]] w fun e w' => e = .returned (.int .i64 (findZ k b fs)) ∧ Below w.heap.size w w' := by
  unfold findZ
  by_cases hc : Adr.chk k b = 0
  · rw [if_pos hc, hf]; exact find_good k b A n c fs w hf hnc hn hA hI hc hk hb hT
  · rw [if_neg hc]; exact find_bad k b A n c w hc hk hb hT
theorem five_below {w w' : World} {g o g' : Nat} {x y z u v : Value} (hs : w.cell? ⟨g, o, none⟩ = some x ∧ w.cell? ⟨g, o + 1, none⟩ = some y ∧ w.cell? ⟨g, o + 2, none⟩ = some z ∧ w.cell? ⟨g', 0, none⟩ = some u ∧ w.cell? ⟨g', 1, none⟩ = some v) (b : Below w.heap.size w w') :
    w'.cell? ⟨g, o, none⟩ = some x ∧ w'.cell? ⟨g, o + 1, none⟩ = some y ∧ w'.cell? ⟨g, o + 2, none⟩ = some z ∧ w'.cell? ⟨g', 0, none⟩ = some u ∧ w'.cell? ⟨g', 1, none⟩ = some v := by
  obtain ⟨h0, h1, h2, h3, h4⟩ := hs
  have l : g < w.heap.size := block_lt_of_cell h0
  have l' := cell_lt h3
  exact ⟨(b.cell (p := ⟨g, o, none⟩) l).trans h0, (b.cell (p := ⟨g, o + 1, none⟩) l).trans h1, (b.cell (p := ⟨g, o + 2, none⟩) l).trans h2, (b.cell (p := ⟨g', 0, none⟩) l').trans h3, (b.cell (p := ⟨g', 1, none⟩) l').trans h4⟩
theorem adr_eq (k b : Int) (w : World) : (binOp .eql 24 (.agg #[.int .i64 k, .int .u64 b]) (.agg #[.int .i64 k, .int .u64 b])).run Tryd.prog w = .ok (.bool true) w := by
  go_simp
theorem adr_guard (k b k' b' : Int) (w : World) (x y : Operand) : (eqGuard .eql 24 x y (.agg #[.int .i64 k, .int .u64 b]) (.agg #[.int .i64 k', .int .u64 b'])).run Tryd.prog w = .ok () w := by
  go_simp
end Go.Proofs.YtcbliliinmfnjaaDoor.Prv

end
section
set_option linter.unusedVariables false
set_option linter.unusedSimpArgs false
namespace Go.Proofs.YtcbliliinmfnjaaDoor.Ace
open Go.RowKit Mem Rw Base Arg
open Prv (findZ fstZ belP Idents fst_cases triples_below)

/-- The address of an identity of a list. -/
def adrAt (fs : List (Int × Int × Int)) (j : Nat) : Int × Int := ((fs.getD j (0, 0, 0)).1, (fs.getD j (0, 0, 0)).2.1)
/-- Whether an address is on a list, itself or by the identity to which it belongs. -/
def hasB (l : List (Int × Int)) (fs : List (Int × Int × Int)) (a : Int × Int) : Bool := onB l a || (decide (0 ≤ findZ a.1 a.2 fs) && onB l (adrAt fs (findZ a.1 a.2 fs).toNat))
theorem has_on {l : List (Int × Int)} {fs : List (Int × Int × Int)} {a : Int × Int} (h : onB l a = true) : hasB l fs a = true := by unfold hasB; rw [h]; rfl
theorem has_off {l : List (Int × Int)} {fs : List (Int × Int × Int)} {a : Int × Int} (h : onB l a = false) (hf : findZ a.1 a.2 fs = -1) : hasB l fs a = false := by unfold hasB; rw [h, hf]; rfl
theorem has_at {l : List (Int × Int)} {fs : List (Int × Int × Int)} {a : Int × Int} {j : Nat} (h : onB l a = false) (hf : findZ a.1 a.2 fs = j) : hasB l fs a = onB l (adrAt fs j) := by
  unfold hasB; rw [h, hf]; simp
theorem find_cases (k b : Int) (fs : List (Int × Int × Int)) : findZ k b fs = -1 ∨ ∃ j : Nat, j < fs.length ∧ findZ k b fs = j := by
  unfold findZ
  by_cases h : Adr.chk k b = 0
  · rw [if_pos h]
    rcases fst_cases (belP k b fs) fs.length with ⟨e, _⟩ | ⟨j, hj, e, _⟩
    · exact .inl e
    · exact .inr ⟨j, hj, e⟩
  · rw [if_neg h]; exact .inl rfl

set_option maxHeartbeats 1000000 in
theorem has_any (A A' : Option Addr) (n c n' c' : Nat) (l : List (Int × Int)) (fs : List (Int × Int × Int)) (a1 a2 : Int) (w : World) (hl : l.length = n) (hn : n ≤ 8796093022200) (hr : ListAt encA w w.heap.size A l) (hf : fs.length = n') (hnc : n' ≤ c') (hn' : n' ≤ 140737488355328) (hr' : TriplesAt w A' fs) (hI : Idents fs)
    (hk : -9223372036854775808 ≤ a1 ∧ a1 ≤ 9223372036854775807) (hb : 0 ≤ a2 ∧ a2 ≤ 18446744073709551615) (hT : Adr.Tab w) :
    Calls Tryd.prog 93 #[.slice A n c, .slice A' n' c', .agg #[.int .i64 a1, .int .u64 a2]] w fun e w' => e = .returned (.bool (hasB l fs (a1, a2))) ∧ Below w.heap.size w w' := by
  have A0 : Below w.heap.size w (w.alloc (.cells #[.int .i64 a1, .int .u64 a2] 24)) := (Below.refl _ _).alloc (Nat.le_refl _) _
  have F0 := Adr.box_new w a1 a2
  have HCo : Hid (∀ w' x1 x2, Below w.heap.size w w' → Calls Tryd.prog 113 #[.slice A n c, .agg #[.int .i64 x1, .int .u64 x2]] w' fun e w2 => e = .returned (.bool (onB l (x1, x2))) ∧ Below w'.heap.size w' w2) := Lib.hid fun w' x1 x2 b => contains_any A n c l x1 x2 w' hl (by omega) (CellsAt.later hr b)
  have HFi : Hid (∀ w', Below w.heap.size w w' → Adr.Tab w' → Calls Tryd.prog 96 #[.slice A' n' c', .agg #[.int .i64 a1, .int .u64 a2]] w' fun e w2 => e = .returned (.int .i64 (findZ a1 a2 fs)) ∧ Below w'.heap.size w' w2) := Lib.hid fun w' b h => Prv.find_any a1 a2 A' n' c' fs w' hf hnc hn' (triples_below hr' b) hI hk hb h
  have HQ : Hid (∀ w', Below w.heap.size w w' → ∀ j : Nat, j < n' → ∃ bl off, A' = some ⟨bl, off, none⟩ ∧ bl < w'.heap.size ∧ w'.cell? ⟨bl, off + j * 3, none⟩ = some (.int .i64 (adrAt fs j).1) ∧ w'.cell? ⟨bl, off + j * 3 + 1, none⟩ = some (.int .u64 (adrAt fs j).2)) := Lib.hid fun w' b j hj => by
    obtain ⟨f, hfj, _⟩ := has hf hj
    have e : adrAt fs j = (f.1, f.2.1) := by unfold adrAt; simp [List.getD, hfj]
    rcases triples_below hr' b with h | ⟨bl, off, rfl, hlt, hc⟩
    · exfalso; rw [h] at hfj; simp at hfj
    · obtain ⟨h0, h1, _⟩ := hc j f hfj
      rw [e]
      exact ⟨bl, off, rfl, hlt, h0, h1⟩
  have HC := Lib.hid (find_cases a1 a2 fs)
  have H1 : Hid (onB l (a1, a2) = true → hasB l fs (a1, a2) = true) := Lib.hid fun h => has_on h
  have H2 : Hid (onB l (a1, a2) = false → findZ a1 a2 fs = -1 → hasB l fs (a1, a2) = false) := Lib.hid fun h hf => has_off h hf
  have H3 : Hid (∀ j : Nat, onB l (a1, a2) = false → findZ a1 a2 fs = j → hasB l fs (a1, a2) = onB l (adrAt fs j)) := Lib.hid fun j h hf => has_at h hf
  have HF := Lib.hid hf
  generalize hasB l fs (a1, a2) = R at *
  generalize hfi : findZ a1 a2 fs = I at *
  clear hl hr hf hr' hI hfi
  have HOn : Hid (∀ q, onB l (a1, a2) = q → ∀ w', Below w.heap.size w w' → Calls Tryd.prog 113 #[.slice A n c, .agg #[.int .i64 a1, .int .u64 a2]] w' fun e w2 => e = .returned (.bool q) ∧ Below w'.heap.size w' w2) := Lib.hid fun q e w' b => by rw [← e]; exact HCo.out w' a1 a2 b
  cases ho : onB l (a1, a2) with
  | true =>
    have HX := Lib.hid (HOn.out _ ho)
    have HR := Lib.hid (H1.out ho)
    clear ho
    go_enter Tryd.func93, Tryd.ntmps93
    go_wp2_with fail
    generalize w.alloc (.cells #[.int .i64 a1, .int .u64 a2] 24) = W0 at *
    refine (HX.out W0 A0).mono ?_
    rintro e W1 ⟨rfl, b1⟩
    go_wp2_with fail
    go_ret
    exact ⟨Ser.ret_bool HR.out.symm, thenB A0 b1⟩
  | false =>
    have HX := Lib.hid (HOn.out _ ho)
    have H2 := Lib.hid (H2.out ho)
    have H3 := Lib.hid (fun j => H3.out j ho)
    clear ho
    have T0 := hT.below A0
    rcases HC.out with e | ⟨j, hj, e⟩
    · subst e
      have HR := Lib.hid (H2.out rfl)
      go_enter Tryd.func93, Tryd.ntmps93
      go_wp2_with fail
      generalize w.alloc (.cells #[.int .i64 a1, .int .u64 a2] 24) = W0 at *
      refine (HX.out W0 A0).mono ?_
      rintro e W1 ⟨rfl, b1⟩
      have B1 := thenB A0 b1
      have F1 := F0.below b1
      have d0 := F1.c0
      have d1 := F1.c1
      have T1 := T0.below b1
      go_wp2_with fail
      refine (HFi.out W1 B1 T1).mono ?_
      rintro e W2 ⟨rfl, b2⟩
      have B2 := thenB B1 b2
      go_wp2_with fail
      go_ret
      exact ⟨Ser.ret_bool HR.out.symm, B2⟩
    · subst e
      have HR := Lib.hid (H3.out j rfl)
      have hj' : j < n' := by rw [← HF.out]; exact hj
      clear hj
      go_enter Tryd.func93, Tryd.ntmps93
      go_wp2_with fail
      generalize w.alloc (.cells #[.int .i64 a1, .int .u64 a2] 24) = W0 at *
      refine (HX.out W0 A0).mono ?_
      rintro e W1 ⟨rfl, b1⟩
      have B1 := thenB A0 b1
      have F1 := F0.below b1
      have d0 := F1.c0
      have d1 := F1.c1
      have T1 := T0.below b1
      go_wp2_with fail
      refine (HFi.out W1 B1 T1).mono ?_
      rintro e W2 ⟨rfl, b2⟩
      have B2 := thenB B1 b2
      obtain ⟨bl, off, rfl, hbl, k0, k1⟩ := HQ.out W2 B2 j hj'
      obtain ⟨y1, y2⟩ : ∃ y : Int × Int, y = adrAt fs j := ⟨_, rfl⟩
      have HZ : Hid (R = onB l ((adrAt fs j).1, (adrAt fs j).2)) := HR
      generalize (adrAt fs j).1 = z1 at *
      generalize (adrAt fs j).2 = z2 at *
      have g1 : (0 : Int) ≤ (j : Int) ∧ (j : Int) < (n' : Int) := by omega
      clear HR
      have HV := Lib.hid (HCo.out W2 z1 z2 B2)
      rw [← HZ.out] at HV
      go_wp2_with fail
      refine HV.out.mono ?_
      rintro e W3 ⟨rfl, b3⟩
      go_wp2_with fail
      go_ret
      exact ⟨rfl, thenB B2 b3⟩
end Go.Proofs.YtcbliliinmfnjaaDoor.Ace

end
section
set_option linter.unusedVariables false
set_option linter.unusedSimpArgs false
namespace Go.Proofs.YtcbliliinmfnjaaDoor.Rd
open Go.ChangeShapes Go.WideShapes Go.ChangeAt Go.RowKit Go.Deep Mem Rw

section
variable {H : Type} {enc : TypeId × Value → H} {P : Program} {w : World} {base : Nat}
/-- What a datum weighs is within reach. -/
def Light (P : Program) (t : TypeId) (d : DataW H) : Prop := ∀ z ∈ d.weights P t, z ≤ reachBytes
theorem light_top {ts : List TypeId} {ds : List (DataW H)} {j : Nat} {t : TypeId} {d : DataW H} (h : (DataW.weightsEach P ts ds).all (· ≤ reachBytes) = true) (ht : ts[j]? = some t) (hd : ds[j]? = some d) : Light P t d := fun z hz => by
  simpa using List.all_eq_true.1 h _ (DataW.weights_mem_each ht hd z hz)
theorem light_part {t : TypeId} {fs : Array Field} {parts : List (DataW H)} {j : Nat} {f : Field} {d : DataW H} (ht : P.underlying t = some (.struct fs)) (h : Light P t (.agg parts)) (hf : fs[j]? = some f) (hd : parts[j]? = some d) : Light P f.type d := fun z hz =>
  h z (by simp only [DataW.weights, ht]; exact DataW.weights_mem_each (by simp [hf]) hd z hz)
theorem mem_all {e : TypeId} {l : List (DataW H)} {d : DataW H} (hd : d ∈ l) {z : Nat} (hz : z ∈ d.weights P e) : z ∈ DataW.weightsAll P e l := by
  induction l with
  | nil => cases hd
  | cons x r ih =>
    simp only [DataW.weightsAll, List.mem_append]
    rcases List.mem_cons.mp hd with rfl | h
    · exact .inl hz
    · exact .inr (ih h)
theorem light_elem {t e : TypeId} {elems spare : List (DataW H)} {d : DataW H} (ht : P.underlying t = some (.slice e)) (h : Light P t (.slice elems spare)) (hd : d ∈ elems) : Light P e d := fun z hz =>
  h z (by simp only [DataW.weights, ht, List.mem_cons, List.mem_append]; exact .inr (.inl (mem_all hd hz)))
theorem list_of {α : Type} {R : Nat → α → Prop} {n : Nat} (h : ∀ i, i < n → ∃ x, R i x) : ∃ xs : List α, xs.length = n ∧ ∀ i x, xs[i]? = some x → R i x := by
  have : ∀ q, q ≤ n → ∃ xs : List α, xs.length = q ∧ ∀ i x, xs[i]? = some x → R i x := by
    intro q
    induction q with
    | zero => intro _; exact ⟨[], rfl, by simp⟩
    | succ q ih =>
      intro hq
      obtain ⟨xs, hl, hx⟩ := ih (by omega)
      obtain ⟨y, hy⟩ := h q (by omega)
      refine ⟨xs ++ [y], by simp [hl], fun i x hi => ?_⟩
      by_cases hiq : i < xs.length
      · rw [List.getElem?_append_left hiq] at hi; exact hx i x hi
      · rw [List.getElem?_append_right (by omega)] at hi
        have h0 : i = q := by
          rcases Nat.lt_or_ge (i - xs.length) 1 with g | g
          · omega
          · rw [List.getElem?_eq_none (by simpa using g)] at hi; cases hi
        subst h0
        rw [hl, Nat.sub_self] at hi
        simp at hi
        subst hi
        exact hy
  exact this n (Nat.le_refl _)
theorem flat_inv {α : Type} {en : α → List Value} {K : Nat} (hK : Sized en K) (l : List α) : ∀ (q : Nat) (u : Value), (l.flatMap en)[q]? = some u → ∃ j i x, q = j * K + i ∧ l[j]? = some x ∧ (en x)[i]? = some u := by
  induction l with
  | nil => intro q u h; simp at h
  | cons x r ih =>
    intro q u h
    rw [List.flatMap_cons] at h
    by_cases hq : q < (en x).length
    · rw [List.getElem?_append_left hq] at h
      exact ⟨0, q, x, by simp, rfl, h⟩
    · rw [List.getElem?_append_right (by omega)] at h
      obtain ⟨j, i, y, e, hj, hi⟩ := ih _ _ h
      refine ⟨j + 1, i, y, ?_, hj, hi⟩
      have := (hK x).1
      rw [Nat.add_mul, Nat.one_mul]; omega
theorem spot_none {b off K : Nat} {spot : Option Nat} (h : (Addr.add ⟨b, off, spot⟩ (0 * K + 0)).spot = none) : spot = none := by
  have : (Addr.add ⟨b, off, spot⟩ (0 * K + 0)).spot = spot := by unfold Addr.add; simp
  rw [this] at h; exact h
/-- A slice of elements that each read as cells of some kind reads as a list. -/
theorem trod_rows {α : Type} {en : α → List Value} {K : Nat} {Good : α → Prop} {t e : TypeId} {v : Value} {fuel : Nat} {y : DataW H × List MemPlace} (hK : Sized en K) (hK0 : 0 < K) (ht : P.underlying t = some (.slice e)) (hC : P.cellsOf e = K)
    (hel : ∀ fuel cs y, DataW.trod enc P w base (fun _ => true) true fuel e cs = some y → cs.length = K → Light P e y.1 → ∃ x : α, cs = en x ∧ Good x)
    (h : DataW.trod enc P w base (fun _ => true) true fuel t [v] = some y) (hl : Light P t y.1) :
    ∃ A n c xs, v = .slice A n c ∧ xs.length = n ∧ n ≤ c ∧ ListAt en w w.heap.size A xs ∧ (∀ x ∈ xs, Good x) ∧ c * P.bytesOf e ≤ 140737488351232 := by
  rcases open_slice ht h with ⟨hcs, hx⟩ | ⟨a, len, cap, m, fl, D, Pl, hcs, _, hl0, hm, hmm, hx, hi⟩
  · obtain rfl : v = .slice none 0 0 := by simpa using hcs
    exact ⟨none, 0, 0, [], rfl, rfl, Nat.le_refl _, .inl rfl, by simp, by simp⟩
  · obtain rfl : v = .slice (some a) len cap := by simpa using hcs
    simp only [if_true] at hmm
    subst hmm
    subst hx
    rw [hC] at hi
    have hwt : m * P.bytesOf e ≤ 140737488351232 := by
      have := hl (m * P.bytesOf e) (by simp only [DataW.weights, ht, List.mem_cons]; left; simp [Nat.add_sub_cancel' hl0])
      simpa [reachBytes] using this
    have each : ∀ i, i < len → ∃ x : α, (∀ q u, (en x)[q]? = some u → w.cell? (a.add (i * K + q)) = some u) ∧ Good x := by
      intro i hlt
      obtain ⟨cs, hcs, htr⟩ := hi i (by omega)
      obtain ⟨_, hlen, hat⟩ := World.cells?_some hcs
      obtain ⟨x, rfl, hg⟩ := hel _ _ _ htr hlen (light_elem ht hl (by simp only [List.mem_map, List.mem_range]; exact ⟨i, hlt, rfl⟩))
      refine ⟨x, fun q u hq => ?_, hg⟩
      have hqK : q < K := by
        rcases Nat.lt_or_ge q (en x).length with g | g
        · omega
        · rw [List.getElem?_eq_none g] at hq; cases hq
      have := hat q hqK
      rw [Go.Deep.add_add] at this
      rw [this]
      rw [List.getElem?_eq_some_iff] at hq
      obtain ⟨g, hq⟩ := hq
      simp [g, hq]
    obtain ⟨xs, hxl, hxs⟩ := list_of each
    refine ⟨_, _, _, xs, rfl, hxl, hl0, ?_, fun x hx => by obtain ⟨i, hi⟩ := List.getElem?_of_mem hx; exact (hxs i x hi).2, hwt⟩
    cases hxe : xs with
    | nil => exact .inl rfl
    | cons x0 xr =>
      right
      have h0 := (hxs 0 x0 (by rw [hxe]; rfl)).1
      obtain ⟨u0, hu0⟩ : ∃ u, (en x0)[0]? = some u := ⟨_, List.getElem?_eq_getElem (by have := (hK x0).1; omega)⟩
      have h00 := h0 0 u0 hu0
      have hblk := block_lt_of_cell h00
      have hspot := World.cell?_spot h00
      obtain ⟨b, off, spot⟩ := a
      obtain rfl := spot_none hspot
      refine ⟨b, off, rfl, by simpa [Arg.add_plain] using hblk, fun q u hq => ?_⟩
      rw [← hxe] at hq
      obtain ⟨j, i, x, rfl, hj, hi⟩ := flat_inv hK xs q u hq
      have := (hxs j x hj).1 i u hi
      rwa [Arg.add_plain] at this
/-- A slice of integers, as a slot of a struct. -/
theorem trod_ints {t e : TypeId} {k : IntKind} {v : Value} {fuel : Nat} {y : DataW H × List MemPlace} (ht : P.underlying t = some (.slice e)) (he : P.underlying e = some (.int k)) (hc : P.cellsOf e = 1)
    (h : DataW.trod enc P w base (fun _ => true) true fuel t [v] = some y) (hl : Light P t y.1) :
    ∃ A n c zs, v = .slice A n c ∧ zs.length = n ∧ n ≤ c ∧ Ints k w w.heap.size A zs ∧ (∀ z ∈ zs, (Lit.int k z).wf = true) ∧ c * P.bytesOf e ≤ 140737488351232 := by
  have hv : ∃ A n c, v = .slice A n c := by
    rcases open_slice ht h with ⟨hcs, hx⟩ | ⟨a, len, cap, m, fl, D, Pl, hcs, _⟩
    · exact ⟨none, 0, 0, by simpa using hcs⟩
    · exact ⟨some a, len, cap, by simpa using hcs⟩
  obtain ⟨A, n, c, rfl⟩ := hv
  obtain ⟨d, p⟩ := y
  obtain ⟨zs, h1, h2, h3, h4, h5⟩ := Arg.read_ints ht he hc ⟨fuel, by simpa [Value.cells] using h⟩
  refine ⟨A, n, c, zs, rfl, h1, h2, h3, h4, ?_⟩
  rcases h5 with ⟨_, rfl⟩ | ⟨elems, spare, rfl, rfl⟩
  · omega
  · have := hl ((elems.length + spare.length) * P.bytesOf e) (by simp [DataW.weights, ht])
    simpa [reachBytes] using this
/-- The slots of a struct of one cell each. -/
theorem trod_slot {t : TypeId} {fs : Array Field} {cs : List Value} {fuel : Nat} {y : DataW H × List MemPlace} (hs : P.underlying t = some (.struct fs)) (hone : oneCellFields P fs = true) (h : DataW.trod enc P w base (fun _ => true) true fuel t cs = some y) (hl : Light P t y.1) :
    ∃ n, ∀ (j : Nat) (f : Field) (c : Value), fs[j]? = some f → cs[j]? = some c → ∃ z, DataW.trod enc P w base (fun _ => true) true n f.type [c] = some z ∧ Light P f.type z.1 := by
  obtain ⟨xs, n, _, rfl, _, hlen, hat⟩ := DataW.trod_struct hs h
  refine ⟨n, fun j f c hf hc => ?_⟩
  obtain ⟨o, s⟩ := hone_of hone j f hf
  have hj : j < fs.size := by
    rcases Nat.lt_or_ge j fs.size with g | g
    · exact g
    · rw [Array.getElem?_eq_none g] at hf; cases hf
  have h1 := hat j f (by simpa using hf)
  rw [o, s] at h1
  have hj2 : j < xs.length := by simpa [hlen] using hj
  rw [List.getElem?_eq_getElem hj2] at h1
  have hcs : (cs.drop j).take 1 = [c] := by
    obtain ⟨g, e⟩ := List.getElem?_eq_some_iff.mp hc
    rw [List.drop_eq_getElem_cons g, List.take_succ_cons, List.take_zero, e]
  rw [hcs] at h1
  refine ⟨_, h1, light_part hs hl hf (by simp [hj2])⟩
theorem slot_int {t : TypeId} {k : IntKind} {c : Value} {n : Nat} {z : DataW H × List MemPlace} (ht : P.underlying t = some (.int k)) (h : DataW.trod enc P w base (fun _ => true) true n t [c] = some z) : ∃ i : Int, c = .int k i ∧ (Lit.int k i).wf = true := by
  obtain ⟨i, hi, _, wi⟩ := DataW.trod_int ht h
  exact ⟨i, by simpa using hi, wi⟩
/-- A struct by value whose cells read as something. -/
theorem open_struct {α : Type} {en : α → List Value} {K b0 : Nat} {Good : α → Prop} {t : TypeId} {fs : Array Field} {v : Value} {d : DataW H} {p : List MemPlace} (hs : P.underlying t = some (.struct fs)) (hC : P.cellsOf t = K)
    (hel : ∀ fuel cs y, DataW.trod enc P w base (fun _ => true) true fuel t cs = some y → cs.length = K → Light P t y.1 → ∃ x : α, cs = en x ∧ Good x)
    (hv : Value.okWide P w .any b0 t v) (h : DataW.Trod enc P w base (fun _ => true) true t v d p) (hl : Light P t d) : ∃ x : α, v = .agg (en x).toArray ∧ Good x := by
  obtain ⟨cs, rfl, hsz⟩ := okWide_struct hs hv
  obtain ⟨fuel, hf⟩ := h
  obtain ⟨x, hx, hg⟩ := hel fuel cs.toList (d, p) (by simpa [Value.cells] using hf) (by simpa [hC] using hsz) hl
  exact ⟨x, by rw [← hx], hg⟩
end
end Go.Proofs.YtcbliliinmfnjaaDoor.Rd

end
section
set_option linter.unusedVariables false
set_option linter.unusedSimpArgs false
namespace Go.Proofs.YtcbliliinmfnjaaDoor.Ace
open Go.RowKit Mem Rw Base Arg
open Prv (findZ Idents triples_below)

/-- Whether a number is on a list. -/
def inI (l : List Int) (p : Int) : Bool := l.any fun x => x == p
theorem in_step {l : List Int} {j : Nat} {x p : Int} (h : l[j]? = some x) (e : (x == p) = false) (hp : inI (l.take j) p = false) : inI (l.take (j + 1)) p = false := by
  rw [take_snoc h]; unfold inI at *; rw [List.any_append, hp]; simpa using e
theorem in_at {l : List Int} {j : Nat} {x p : Int} (h : l[j]? = some x) (e : (x == p) = true) : inI l p = true := by
  unfold inI; rw [List.any_eq_true]; exact ⟨x, List.mem_of_getElem? h, e⟩
set_option maxHeartbeats 1000000 in
theorem containsI_any (A : Option Addr) (n c : Nat) (l : List Int) (p : Int) (w : World) (hl : l.length = n) (hn : n ≤ 8796093022208) (hr : Ints .i64 w w.heap.size A l) :
    Calls Tryd.prog 112 #[.slice A n c, .int .i64 p] w fun e w' => e = .returned (.bool (inI l p)) ∧ w = w' := by
  have HN : Hid (∀ j, j < n → ∃ x, l[j]? = some x ∧ l.getD j 0 = x) := Lib.hid fun j h => by
    obtain ⟨x, hx, _⟩ := has hl h
    exact ⟨x, hx, by simp [List.getD, hx]⟩
  have HO : Hid (0 < n → ∃ b off, A = some ⟨b, off, none⟩ ∧ ∀ j, j < n → w.cell? ⟨b, off + j, none⟩ = some (.int .i64 (l.getD j 0))) := Lib.hid fun h0 => by
    obtain ⟨b, off, e, _, hc⟩ := hr.at_ (i := 0) (by omega)
    exact ⟨b, off, e, fun j hj => hc j (by omega)⟩
  have HT : Hid (inI (l.take n) p = inI l p) := Lib.hid (by rw [List.take_of_length_le (by omega)])
  clear hl hr
  generalize hR : inI l p = R at *
  have HRR := Lib.hid hR
  clear hR
  go_enter Tryd.func112, Tryd.ntmps112
  go_wp2_with fail
  go_loopw [6, 9] (fun _ s9 wr => ∃ j : Nat, j ≤ n ∧ s9 = .int .i64 j ∧ Hid (inI (l.take j) p = false) ∧ w = wr) (fun _ s9 _ => n - (intOf s9).toNat)
  case atStart => exact ⟨0, by omega, rfl, Lib.hid rfl, rfl⟩
  case round =>
    obtain ⟨j, hj, rfl, hno, rfl⟩ := hrel
    by_cases cj : j < n
    · obtain ⟨x, hxj, hxd⟩ := HN.out j cj
      obtain ⟨b, off, rfl, hc⟩ := HO.out (by omega)
      have h0 := hc j cj
      rw [hxd] at h0
      have HS := Lib.hid (fun e => in_step hxj (p := p) e hno.out)
      have HA := Lib.hid (fun e => in_at hxj (p := p) e)
      have g1 : (0 : Int) ≤ (j : Int) ∧ (j : Int) < (n : Int) := by omega
      clear hc hxj hxd
      cases he : (x == p) with
      | true =>
        have HR : Hid (R = true) := Lib.hid (HRR.out.symm.trans (HA.out he))
        go_wp2_with fail
        go_ret
        exact ⟨Ser.ret_bool HR.out.symm, rfl⟩
      | false =>
        have HF := Lib.hid (HS.out he)
        clear HS HA
        go_wp2_with fail
        go_round
        case rel => exact ⟨j + 1, by omega, by go_num, HF, trivial⟩
        case measure => simp [intOf]; omega
    · obtain rfl : j = n := by omega
      have HR : Hid (R = false) := Lib.hid (by rw [← HT.out]; exact hno.out)
      go_wp2_with fail
      go_ret
      exact ⟨Ser.ret_bool HR.out.symm, rfl⟩
/-- The policies with which a request is answered for everybody, and for those on the list. -/
def polO (r : Int) : List Int := if r = 3 then [0, 2] else if r = 5 then [0, 1] else []
def polC (r : Int) : List Int := if r = 3 then [1, 3] else if r = 5 then [2, 3] else []
/-- Two lists of numbers. -/
def Two (w w' : World) (e : Ending) (x y : List Int) : Prop := ∃ A c A' c', e = .returned (.tuple #[.slice A x.length c, .slice A' y.length c']) ∧ Ints .i64 w' w'.heap.size A x ∧ Ints .i64 w' w'.heap.size A' y ∧ Below w.heap.size w w'
theorem policies_any (r : Int) (w : World) : Calls Tryd.prog 111 #[.int .i64 r] w fun e w' => Two w w' e (polO r) (polC r) := by
  by_cases h3 : r = 3
  · subst h3
    go_enter Tryd.func111, Tryd.ntmps111
    go_wp2_with fail
    go_ret2
    exact ⟨_, _, _, _, rfl, kept (lit1 .i64 w [0, 2] _ _ rfl) _, by have := lit1 .i64 (w.alloc (.cells #[.int .i64 0, .int .i64 2] 3)) [1, 3] #[.int .i64 1, .int .i64 3] 3 rfl; rw [show polC 3 = [1, 3] from rfl]; simpa using this, ((Below.refl _ _).alloc (Nat.le_refl _) _).alloc (by simp) _⟩
  · by_cases h5 : r = 5
    · subst h5
      go_enter Tryd.func111, Tryd.ntmps111
      go_wp2_with fail
      go_ret2
      exact ⟨_, _, _, _, rfl, kept (lit1 .i64 w [0, 1] _ _ rfl) _, by have := lit1 .i64 (w.alloc (.cells #[.int .i64 0, .int .i64 1] 3)) [2, 3] #[.int .i64 2, .int .i64 3] 3 rfl; rw [show polC 5 = [2, 3] from rfl]; simpa using this, ((Below.refl _ _).alloc (Nat.le_refl _) _).alloc (by simp) _⟩
    · have HO : Hid (polO r = []) := Lib.hid (by unfold polO; rw [if_neg h3, if_neg h5])
      have HC : Hid (polC r = []) := Lib.hid (by unfold polC; rw [if_neg h3, if_neg h5])
      have g3 : (r == 3) = false := by simpa using h3
      have g5 : (r == 5) = false := by simpa using h5
      go_enter Tryd.func111, Tryd.ntmps111
      go_wp2_with fail
      go_ret2
      rw [HO.out, HC.out]
      exact ⟨_, _, _, _, rfl, .inl rfl, .inl rfl, Below.refl _ _⟩
/-- Whether a request is answered. -/
def allowZ (p r : Int) (o : Bool) : Bool := inI (polO r) p || (inI (polC r) p && o)
set_option maxHeartbeats 1000000 in
theorem allows_any (p r : Int) (A A' : Option Addr) (n c n' c' : Nat) (l : List (Int × Int)) (fs : List (Int × Int × Int)) (a1 a2 : Int) (w : World) (hl : l.length = n) (hn : n ≤ 8796093022200) (hr : ListAt encA w w.heap.size A l) (hf : fs.length = n') (hnc : n' ≤ c') (hn' : n' ≤ 140737488355328) (hr' : TriplesAt w A' fs) (hI : Idents fs)
    (hk : -9223372036854775808 ≤ a1 ∧ a1 ≤ 9223372036854775807) (hb : 0 ≤ a2 ∧ a2 ≤ 18446744073709551615) (hT : Adr.Tab w) :
    Calls Tryd.prog 92 #[.int .i64 p, .int .i64 r, .slice A n c, .slice A' n' c', .agg #[.int .i64 a1, .int .u64 a2]] w fun e w' => e = .returned (.bool (allowZ p r (hasB l fs (a1, a2)))) ∧ Below w.heap.size w w' := by
  have A0 : Below w.heap.size w (w.alloc (.cells #[.int .i64 a1, .int .u64 a2] 24)) := (Below.refl _ _).alloc (Nat.le_refl _) _
  have F0 := Adr.box_new w a1 a2
  have HH : Hid (∀ w', Below w.heap.size w w' → Calls Tryd.prog 93 #[.slice A n c, .slice A' n' c', .agg #[.int .i64 a1, .int .u64 a2]] w' fun e w2 => e = .returned (.bool (hasB l fs (a1, a2))) ∧ Below w'.heap.size w' w2) := Lib.hid fun w' b => has_any A A' n c n' c' l fs a1 a2 w' hl hn (CellsAt.later hr b) hf hnc hn' (triples_below hr' b) hI hk hb (hT.below b)
  have HP : Hid (∀ w', Calls Tryd.prog 111 #[.int .i64 r] w' fun e w2 => Two w' w2 e (polO r) (polC r)) := Lib.hid fun w' => policies_any r w'
  have HL : Hid ((polO r).length ≤ 2 ∧ (polC r).length ≤ 2) := Lib.hid (by unfold polO polC; constructor <;> split <;> (try split) <;> simp)
  have HZ : Hid (∀ o, allowZ p r o = (inI (polO r) p || (inI (polC r) p && o))) := Lib.hid fun o => rfl
  generalize hasB l fs (a1, a2) = O at *
  have HZ := Lib.hid (HZ.out O)
  generalize allowZ p r O = R at *
  generalize polO r = x at *
  generalize polC r = y at *
  clear hl hr hf hr' hI hT
  obtain ⟨n1, h1⟩ : ∃ k, x.length = k := ⟨_, rfl⟩
  obtain ⟨n2, h2⟩ : ∃ k, y.length = k := ⟨_, rfl⟩
  have hx := HL.out
  rw [h1, h2] at hx
  obtain ⟨hx1, hx2⟩ := hx
  have HI : Hid (∀ (w' : World) X q, Ints .i64 w' w'.heap.size X x → Calls Tryd.prog 112 #[.slice X n1 q, .int .i64 p] w' fun e w2 => e = .returned (.bool (inI x p)) ∧ w' = w2) := Lib.hid fun w' X q h => containsI_any X n1 q x p w' h1 (by omega) h
  have HJ : Hid (∀ (w' : World) X q, Ints .i64 w' w'.heap.size X y → Calls Tryd.prog 112 #[.slice X n2 q, .int .i64 p] w' fun e w2 => e = .returned (.bool (inI y p)) ∧ w' = w2) := Lib.hid fun w' X q h => containsI_any X n2 q y p w' h2 (by omega) h
  have L1 := Lib.hid h1
  have L2 := Lib.hid h2
  clear h1 h2
  generalize inI x p = U at *
  generalize inI y p = V at *
  go_enter Tryd.func92, Tryd.ntmps92
  go_wp2_with fail
  generalize w.alloc (.cells #[.int .i64 a1, .int .u64 a2] 24) = W0 at *
  refine (HP.out W0).mono ?_
  intro e W1 htwo
  obtain ⟨X, q, Y, q', rfl, hX, hY, b1⟩ := htwo
  rw [L1.out, L2.out]
  have B1 := thenB A0 b1
  have F1 := F0.below b1
  have d0 := F1.c0
  have d1 := F1.c1
  have K1 := Lib.hid (HI.out W1 X q hX)
  have K2 := Lib.hid (HJ.out W1 Y q' hY)
  clear HI HJ hX hY
  go_wp2_with fail
  refine K1.out.mono ?_
  rintro e W2 ⟨rfl, rfl⟩
  cases U with
  | true =>
    have HR : Hid (R = true) := Lib.hid (by rw [HZ.out]; rfl)
    go_wp2_with fail
    go_ret
    exact ⟨Ser.ret_bool HR.out.symm, B1⟩
  | false =>
    go_wp2_with fail
    refine K2.out.mono ?_
    rintro e W2 ⟨rfl, rfl⟩
    cases V with
    | false =>
      have HR : Hid (R = false) := Lib.hid (by rw [HZ.out]; rfl)
      go_wp2_with fail
      go_ret
      exact ⟨Ser.ret_bool HR.out.symm, B1⟩
    | true =>
      have HR : Hid (R = O) := Lib.hid (by rw [HZ.out]; simp)
      go_wp2_with fail
      refine (HH.out W1 B1).mono ?_
      rintro e W3 ⟨rfl, b3⟩
      go_wp2_with fail
      go_ret
      exact ⟨Ser.ret_bool HR.out.symm, thenB B1 b3⟩
/-- Identities as cells. -/
def encI (f : Int × Int × Int) : List Value := [.int .i64 f.1, .int .u64 f.2.1, .int .u64 f.2.2]
theorem sizI : Sized encI 3 := fun x => ⟨rfl, by intro u hu; simp [encI] at hu; rcases hu with rfl | rfl | rfl <;> rfl⟩
theorem info_idn : (Tryd.prog.info? 122).map (fun i => (i.zero, i.size, i.bytes)) = some (some (.agg #[.int .i64 0, .int .u64 0, .int .u64 0]), 3, 24) := by kernel_rfl
theorem triples_of_list {w : World} {A : Option Addr} {fs : List (Int × Int × Int)} (h : CellsAt w w.heap.size A (fs.flatMap encI)) : TriplesAt w A fs := by
  cases fs with
  | nil => exact .inl rfl
  | cons f r =>
    obtain ⟨b, off, e, hlt, hc⟩ := ListAt.open_ (enc := encI) h sizI (by omega) (by simp)
    exact .inr ⟨b, off, e, hlt, fun j x hj => ⟨hc j x hj 0 _ rfl, hc j x hj 1 _ rfl, hc j x hj 2 _ rfl⟩⟩
end Go.Proofs.YtcbliliinmfnjaaDoor.Ace

end
