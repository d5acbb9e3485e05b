/- Lists of addresses: copies, what is added and removed, by the layer, the document and the statements: contracts over the program. -/
import Derived.Test.YtegmknmbgifmjaaDoorAccWalks
import Derived.Test.YtegmknmbgifmjaaDoorAdqCheck
import Derived.Test.YtegmknmbgifmjaaDoorAdqRefAll
set_option linter.unusedVariables false
set_option linter.unusedSimpArgs false
namespace Go.Proofs.YtegmknmbgifmjaaDoor.Ace
open Go.RowKit Mem Rw Base

theorem info_parts2 {P : Program} {e : TypeId} {z : Value} {s b : Nat} (h : (P.info? e).map (fun i => (i.zero, i.size, i.bytes)) = some (some z, s, b)) (hz : z.cells.size = s) : ∃ i, P.info? e = some i ∧ i.zero = some z ∧ i.size = s ∧ i.bytes = b ∧ z.cells.size = s := by
  cases hq : P.info? e with
  | none => rw [hq] at h; cases h
  | some i =>
    rw [hq] at h
    simp only [Option.map_some, Option.some.injEq, Prod.mk.injEq] at h
    exact ⟨i, rfl, h.1, h.2.1, h.2.2, hz⟩
theorem own_capA {w : World} {A : Option Addr} {base : Nat} {e : TypeId} {n c k : Nat} {xs : List Value} (h : w.ownsRow base e k (.slice A n c) n xs) : n ≤ c := by
  rcases h.2 with ⟨hv, hn⟩ | ⟨g, cap, cur, hv, hbg, hg, hnc, hcm, hcs, htake⟩
  · injection hv with hA hn' hc; omega
  · injection hv with hA hn' hc; omega
/-- A call returns a list in memory of its own. -/
def Row (w w' : World) (e : Ending) (l : List (Int × Int)) : Prop := ∃ A c, e = .returned (.slice A l.length c) ∧ l.length ≤ c ∧ w'.ownsRow w.heap.size 25 2 (.slice A l.length c) l.length (l.flatMap encA) ∧ Below w.heap.size w w'
/-- A call returns a list in memory of its own, and an error. -/
def Pair (w w' : World) (e : Ending) (r : List (Int × Int) × Int) : Prop := ∃ A c, e = .returned (.tuple #[.slice A r.1.length c, .int .i64 r.2]) ∧ r.1.length ≤ c ∧ w'.ownsRow w.heap.size 25 2 (.slice A r.1.length c) r.1.length (r.1.flatMap encA) ∧ Below w.heap.size w w'
theorem Row.len {w w' : World} {e : Ending} {l : List (Int × Int)} {n : Nat} (h : Row w w' e l) (hn : l.length = n) : ∃ A c, e = .returned (.slice A n c) ∧ n ≤ c ∧ w'.ownsRow w.heap.size 25 2 (.slice A n c) n (l.flatMap encA) ∧ Below w.heap.size w w' := by subst hn; exact h
theorem Pair.len {w w' : World} {e : Ending} {l : List (Int × Int)} {x : Int} {n : Nat} (h : Pair w w' e (l, x)) (hn : l.length = n) : ∃ A c, e = .returned (.tuple #[.slice A n c, .int .i64 x]) ∧ n ≤ c ∧ w'.ownsRow w.heap.size 25 2 (.slice A n c) n (l.flatMap encA) ∧ Below w.heap.size w w' := by subst hn; exact h
theorem row_of {w w' : World} {e : Ending} {l : List (Int × Int)} {v : Value} {n B : Nat} (he : e = .returned v) (hn : l.length = n) (ho : w'.ownsRow B 25 2 v n (l.flatMap encA)) (hB : w.heap.size ≤ B) (hb : Below w.heap.size w w') : Row w w' e l := by
  obtain ⟨A, c, rfl⟩ := own_form ho
  subst hn
  exact ⟨A, c, he, own_capA ho, own_base ho hB, hb⟩
theorem pair_of {w w' : World} {e : Ending} {l : List (Int × Int)} {r : List (Int × Int) × Int} {x : Int} {v : Value} {n B : Nat} (hr : r = (l, x)) (he : e = .returned (.tuple #[v, .int .i64 x])) (hn : l.length = n) (ho : w'.ownsRow B 25 2 v n (l.flatMap encA)) (hB : w.heap.size ≤ B) (hb : Below w.heap.size w w') : Pair w w' e r := by
  obtain ⟨A, c, rfl⟩ := own_form ho
  subst hn; subst hr
  exact ⟨A, c, he, own_capA ho, own_base ho hB, hb⟩
theorem flat_lenA {l : List (Int × Int)} {n : Nat} (h : l.length = n) : (l.flatMap encA).length = n * 2 := by rw [flat_len sizA, h]
theorem flat_oneA (l : List (Int × Int)) : ∀ u ∈ l.flatMap encA, u.oneCell' = true := flat_one sizA l
theorem copied_any (A : Option Addr) (n c : Nat) (l : List (Int × Int)) (w : World) (hl : l.length = n) (hn : n ≤ 8796093022208) (hr : ListAt encA w w.heap.size A l) :
    Calls Tryd.prog 11 #[.slice A n c] w fun e w' => Row w w' e l := by
  obtain ⟨iE, hi, hz, hs, hb, hc0⟩ := info_parts2 info_adr rfl
  have hf := flat_lenA hl
  have ho := flat_oneA l
  have hr0 : CellsAt (w.alloc (.cells #[] 25)) w.heap.size A (l.flatMap encA) := CellsAt.alloc hr (Nat.le_refl _) _
  go_enter Tryd.func11, Tryd.ntmps11
  go_wp2_with (at_builtin; refine wpList_append_rows rfl _ _ 22 rfl w.heap.size 25 iE _ 2 16 Tryd.underlying22 hi hz hs hb hc0 (by decide) (.slice (some ⟨w.heap.size, 0, none⟩) 0 0) 0 [] rfl (World.ownsRow_made _ _ 0 (Nat.le_refl _) (by unfold maxLen; omega) rfl) w.heap.size A n c (l.flatMap encA) rfl hf ho hr0 (by unfold maxLen; omega) (by omega) (by simp) ?_; intro v1 w1 own1 b1 g1)
  go_ret
  exact row_of rfl hl (by simpa using own1) (Nat.le_refl _) (((Below.refl _ _).alloc (Nat.le_refl _) _).trans b1)
theorem clone_any (A : Option Addr) (n c : Nat) (l : List (Int × Int)) (w : World) (hl : l.length = n) (hn : n ≤ 8796093022208) (hr : ListAt encA w w.heap.size A l) :
    Calls Tryd.prog 23 #[.slice A n c] w fun e w' => Row w w' e l := by
  obtain ⟨iE, hi, hz, hs, hb, hc0⟩ := info_parts2 info_adr rfl
  have hf := flat_lenA hl
  have ho := flat_oneA l
  have hr0 : CellsAt (w.alloc (.cells #[] 25)) w.heap.size A (l.flatMap encA) := CellsAt.alloc hr (Nat.le_refl _) _
  have q22 : ∀ (w : World) (a : Option Addr) (n c n' c' : Nat), (binOp .eql 22 (.slice a n c) (.slice none n' c')).run Tryd.prog w = .ok (.bool a.isNone) w := fun w a n c n' c' => Lib.run_eql_slice_nil w _ _ a n c n' c' Tryd.underlying22
  cases A with
  | none =>
    have h0 : l = [] := by
      rcases hr with h | ⟨b, off, e, _⟩
      · cases l with
        | nil => rfl
        | cons x r => have := flat_len sizA (x :: r); rw [h] at this; simp at this
      · cases e
    subst h0
    obtain rfl : n = 0 := by simpa using hl.symm
    clear hf ho hr0 hr hl
    go_enter Tryd.func23, Tryd.ntmps23
    go_wp2_with fail
    go_ret
    exact ⟨none, 0, rfl, Nat.le_refl _, ⟨rfl, .inl ⟨rfl, rfl⟩⟩, Below.refl _ _⟩
  | some a =>
    clear hr
    go_enter Tryd.func23, Tryd.ntmps23
    go_wp2_with (at_builtin; refine wpList_append_rows rfl _ _ 22 rfl w.heap.size 25 iE _ 2 16 Tryd.underlying22 hi hz hs hb hc0 (by decide) (.slice (some ⟨w.heap.size, 0, none⟩) 0 0) 0 [] rfl (World.ownsRow_made _ _ 0 (Nat.le_refl _) (by unfold maxLen; omega) rfl) w.heap.size (some a) n c (l.flatMap encA) rfl hf ho hr0 (by unfold maxLen; omega) (by omega) (by simp) ?_; intro v1 w1 own1 b1 g1)
    go_ret
    exact row_of rfl hl (by simpa using own1) (Nat.le_refl _) (((Below.refl _ _).alloc (Nat.le_refl _) _).trans b1)
set_option maxHeartbeats 1000000 in
theorem add_any (A : Option Addr) (n c : Nat) (l : List (Int × Int)) (a1 a2 : Int) (w : World) (hl : l.length = n) (hn : n ≤ 8796093022200) (hr : ListAt encA w w.heap.size A l)
    (hk : -9223372036854775808 ≤ a1 ∧ a1 ≤ 9223372036854775807) (hb : 0 ≤ a2 ∧ a2 ≤ 18446744073709551615) (hT : Adr.Tab w) :
    Calls Tryd.prog 10 #[.slice A n c, .agg #[.int .i64 a1, .int .u64 a2]] w fun e w' => Pair w w' e (addL l (a1, a2)) := by
  obtain ⟨iE, hi, hz, hs, hb2, hc0⟩ := info_parts2 info_adr rfl
  have A0 : Below w.heap.size w (w.alloc (.cells #[.int .i64 a1, .int .u64 a2] 25)) := (Below.refl _ _).alloc (Nat.le_refl _) _
  have F0 := Adr.box_new w a1 a2
  have HCl : Hid (∀ w', Below w.heap.size w w' → Calls Tryd.prog 23 #[.slice A n c] w' fun e w2 => Row w' w2 e l) := Lib.hid fun w' b => clone_any A n c l w' hl (by omega) (CellsAt.later hr b)
  have HCo : Hid (∀ w', Below w.heap.size w w' → Calls Tryd.prog 25 #[.slice A n c, .agg #[.int .i64 a1, .int .u64 a2]] w' fun e w2 => e = .returned (.bool (onB l (a1, a2))) ∧ Below w'.heap.size w' w2) := Lib.hid fun w' b => contains_any A n c l a1 a2 w' hl (by omega) (CellsAt.later hr b)
  have HCk : Hid (∀ w', Adr.Tab w' → Calls Tryd.prog 24 #[.agg #[.int .i64 a1, .int .u64 a2]] w' fun e w2 => e = .returned (.int .i64 (Adr.chk a1 a2)) ∧ Below w'.heap.size w' w2) := Lib.hid fun w' h => Adr.check_any a1 a2 w' hk hb h
  have HL := Lib.hid hl
  have HB : Hid (¬ Adr.chk a1 a2 = 0 → addL l (a1, a2) = (l, Adr.chk a1 a2)) := Lib.hid fun h => add_bad h
  have HO : Hid (Adr.chk a1 a2 = 0 → onB l (a1, a2) = true → addL l (a1, a2) = (l, 7)) := Lib.hid fun h h1 => add_on h h1
  have HF : Hid (Adr.chk a1 a2 = 0 → onB l (a1, a2) = false → 64 ≤ n → addL l (a1, a2) = (l, 8)) := Lib.hid fun h h1 h2 => add_full h h1 (by omega)
  have HK : Hid (Adr.chk a1 a2 = 0 → onB l (a1, a2) = false → n < 64 → addL l (a1, a2) = (l ++ [(a1, a2)], 0)) := Lib.hid fun h h1 h2 => add_ok h h1 (by omega)
  have T0 := hT.below A0
  generalize addL l (a1, a2) = R at *
  generalize Adr.chk a1 a2 = C at *
  generalize onB l (a1, a2) = O at *
  clear hl hr hT
  go_enter Tryd.func10, Tryd.ntmps10
  go_wp2_with fail
  generalize w.alloc (.cells #[.int .i64 a1, .int .u64 a2] 25) = W0 at *
  refine (HCl.out W0 A0).mono ?_
  intro e W1 hrow
  obtain ⟨A1, c1, rfl, hc1, own1, b1⟩ := hrow.len HL.out
  clear hrow
  have B1 := thenB A0 b1
  have F1 := F0.below b1
  have T1 := T0.below b1
  have own1 := own_base own1 A0.size
  have d0 := F1.c0
  have d1 := F1.c1
  go_wp2_with fail
  refine (HCk.out W1 T1).mono ?_
  rintro e W2 ⟨rfl, b2⟩
  have B2 := thenB B1 b2
  have F2 := F1.below b2
  have own2 := own_below own1 b2
  clear d0 d1 own1 F1 F0 T0 T1 A0
  have d0 := F2.c0
  have d1 := F2.c1
  by_cases hC : C = 0
  · subst hC
    go_wp2_with fail
    refine (HCo.out W2 B2).mono ?_
    rintro e W3 ⟨rfl, b3⟩
    have B3 := thenB B2 b3
    have F3 := F2.below b3
    have own3 := own_below own2 b3
    clear d0 d1 own2 F2
    have d0 := F3.c0
    have d1 := F3.c1
    cases O with
    | true =>
      have HR := Lib.hid (HO.out (by first | rfl | trivial) (by first | rfl | trivial))
      have HH := Lib.hid own3
      clear own3
      go_wp2_with fail
      go_ret2
      exact pair_of HR.out rfl HL.out HH.out (Nat.le_refl _) B3
    | false =>
      by_cases h64 : 64 ≤ n
      · have HR := Lib.hid (HF.out (by first | rfl | trivial) (by first | rfl | trivial) h64)
        have g1 : (64 : Int) ≤ (n : Int) := by omega
        have HH := Lib.hid own3
        clear own3
        go_wp2_with fail
        go_ret2
        exact pair_of HR.out rfl HL.out HH.out (Nat.le_refl _) B3
      · have HR := Lib.hid (HK.out (by first | rfl | trivial) (by first | rfl | trivial) (by omega))
        have g1 : ¬ (64 : Int) ≤ (n : Int) := by omega
        have own4 := own3.alloc (.cells #[.int .i64 a1, .int .u64 a2] 25)
        have CA := CellsAt.lit W3 [.int .i64 a1, .int .u64 a2] #[.int .i64 a1, .int .u64 a2] 25 rfl
        have B4 := B3.alloc B3.size (.cells #[.int .i64 a1, .int .u64 a2] 25)
        have HX : Hid (l.flatMap encA ++ [.int .i64 a1, .int .u64 a2] = (l ++ [(a1, a2)]).flatMap encA) := Lib.hid (by simp [encA])
        go_wp2_with (at_builtin; refine wpList_append_rows rfl _ _ 22 rfl w.heap.size 25 iE _ 2 16 Tryd.underlying22 hi hz hs hb2 hc0 (by decide) (.slice A1 n c1) n (l.flatMap encA) rfl own4 _ (some ⟨W3.heap.size, 0, none⟩) 1 1 [.int .i64 a1, .int .u64 a2] rfl rfl (by intro u hu; simp at hu; rcases hu with rfl | rfl <;> rfl) CA (by unfold maxLen; omega) (by omega) B4.size ?_; intro v5 w5 own5 b5 g5)
        go_ret2
        exact pair_of HR.out rfl (n := n + 1) (by simp [HL.out]) (by rw [← HX.out]; exact own5) (Nat.le_refl _) (B4.trans b5)
  · have gC : (C != 0) = true := by simpa using hC
    have HR := Lib.hid (HB.out hC)
    have HH := Lib.hid own2
    clear own2 hC
    go_wp2_with fail
    go_ret2
    exact pair_of HR.out rfl HL.out HH.out (Nat.le_refl _) B2
set_option maxHeartbeats 1000000 in
theorem radd_any (A : Option Addr) (n c : Nat) (l : List (Int × Int)) (a1 a2 : Int) (w : World) (hl : l.length = n) (hn : n ≤ 8796093022200) (hr : ListAt encA w w.heap.size A l)
    (hk : -9223372036854775808 ≤ a1 ∧ a1 ≤ 9223372036854775807) (hb : 0 ≤ a2 ∧ a2 ≤ 18446744073709551615) :
    Calls Tryd.prog 12 #[.slice A n c, .agg #[.int .i64 a1, .int .u64 a2]] w fun e w' => Pair w w' e (addL l (a1, a2)) := by
  obtain ⟨iE, hi, hz, hs, hb2, hc0⟩ := info_parts2 info_adr rfl
  have A0 : Below w.heap.size w (w.alloc (.cells #[.int .i64 a1, .int .u64 a2] 25)) := (Below.refl _ _).alloc (Nat.le_refl _) _
  have F0 := Adr.box_new w a1 a2
  have hf := flat_lenA hl
  have ho := flat_oneA l
  have HCo : Hid (∀ w', Below w.heap.size w w' → Calls Tryd.prog 22 #[.slice A n c, .agg #[.int .i64 a1, .int .u64 a2]] w' fun e w2 => e = .returned (.bool (onB l (a1, a2))) ∧ Below w'.heap.size w' w2) := Lib.hid fun w' b => element_any A n c l a1 a2 w' hl (by omega) (CellsAt.later hr b)
  have HCk : Hid (∀ w', Calls Tryd.prog 26 #[.agg #[.int .i64 a1, .int .u64 a2]] w' fun e w2 => e = .returned (.int .i64 (Adr.chk a1 a2)) ∧ Below w'.heap.size w' w2) := Lib.hid fun w' => Adr.rcheck_any a1 a2 w' hk hb
  have HL := Lib.hid hl
  have HB : Hid (¬ Adr.chk a1 a2 = 0 → addL l (a1, a2) = (l, Adr.chk a1 a2)) := Lib.hid fun h => add_bad h
  have HO : Hid (Adr.chk a1 a2 = 0 → onB l (a1, a2) = true → addL l (a1, a2) = (l, 7)) := Lib.hid fun h h1 => add_on h h1
  have HF : Hid (Adr.chk a1 a2 = 0 → onB l (a1, a2) = false → 64 ≤ n → addL l (a1, a2) = (l, 8)) := Lib.hid fun h h1 h2 => add_full h h1 (by omega)
  have HK : Hid (Adr.chk a1 a2 = 0 → onB l (a1, a2) = false → n < 64 → addL l (a1, a2) = (l ++ [(a1, a2)], 0)) := Lib.hid fun h h1 h2 => add_ok h h1 (by omega)
  generalize addL l (a1, a2) = R at *
  generalize Adr.chk a1 a2 = C at *
  generalize onB l (a1, a2) = O at *
  have hr0 : CellsAt ((w.alloc (.cells #[.int .i64 a1, .int .u64 a2] 25)).alloc (.cells #[] 25)) w.heap.size A (l.flatMap encA) := (CellsAt.below hr A0).alloc A0.size _
  have hs0 : w.heap.size ≤ (w.alloc (.cells #[.int .i64 a1, .int .u64 a2] 25)).heap.size := A0.size
  have own0 : ((w.alloc (.cells #[.int .i64 a1, .int .u64 a2] 25)).alloc (.cells #[] 25)).ownsRow (w.alloc (.cells #[.int .i64 a1, .int .u64 a2] 25)).heap.size 25 2 (.slice (some ⟨w.heap.size + 1, 0, none⟩) 0 0) 0 [] := by
    have := World.ownsRow_made (base := (w.alloc (.cells #[.int .i64 a1, .int .u64 a2] 25)).heap.size) (e := 25) (size := 2) (w.alloc (.cells #[.int .i64 a1, .int .u64 a2] 25)) #[] 0 (Nat.le_refl _) (by unfold maxLen; omega) rfl
    simpa using this
  clear hr hl
  go_enter Tryd.func12, Tryd.ntmps12
  go_wp2_with (at_builtin; refine wpList_append_rows rfl _ _ 22 rfl (w.alloc (.cells #[.int .i64 a1, .int .u64 a2] 25)).heap.size 25 iE _ 2 16 Tryd.underlying22 hi hz hs hb2 hc0 (by decide) (.slice (some ⟨w.heap.size + 1, 0, none⟩) 0 0) 0 [] rfl own0 w.heap.size A n c (l.flatMap encA) rfl hf ho hr0 (by unfold maxLen; omega) (by omega) (by simp) ?_; intro v1 W1 own1 b1 g1; obtain ⟨A1, c1, rfl⟩ := own_form own1; simp only [Nat.zero_add, List.nil_append] at own1 ⊢; have b1 : Below (w.alloc (.cells #[.int .i64 a1, .int .u64 a2] 25)).heap.size (w.alloc (.cells #[.int .i64 a1, .int .u64 a2] 25)) W1 := ((Below.refl _ _).alloc (Nat.le_refl _) _).trans b1; have B1 := thenB A0 b1; have F1 := F0.below b1; have d0 := F1.c0; have d1 := F1.c1)
  generalize (w.alloc (.cells #[.int .i64 a1, .int .u64 a2] 25)) = W0 at *
  clear g1 hr0 hf ho own0
  have own1 := own_base own1 A0.size
  refine (HCk.out W1).mono ?_
  rintro e W2 ⟨rfl, b2⟩
  have B2 := thenB B1 b2
  have F2 := F1.below b2
  have own2 := own_below own1 b2
  clear d0 d1 own1 F1 F0 A0
  have d0 := F2.c0
  have d1 := F2.c1
  by_cases hC : C = 0
  · subst hC
    go_wp2_with fail
    refine (HCo.out W2 B2).mono ?_
    rintro e W3 ⟨rfl, b3⟩
    have B3 := thenB B2 b3
    have F3 := F2.below b3
    have own3 := own_below own2 b3
    clear d0 d1 own2 F2
    have d0 := F3.c0
    have d1 := F3.c1
    cases O with
    | true =>
      have HR := Lib.hid (HO.out (by first | rfl | trivial) (by first | rfl | trivial))
      have HH := Lib.hid own3
      clear own3
      go_wp2_with fail
      go_ret2
      exact pair_of HR.out rfl HL.out HH.out (Nat.le_refl _) B3
    | false =>
      by_cases h64 : 64 ≤ n
      · have HR := Lib.hid (HF.out (by first | rfl | trivial) (by first | rfl | trivial) h64)
        have g1 : (64 : Int) ≤ (n : Int) := by omega
        have HH := Lib.hid own3
        clear own3
        go_wp2_with fail
        go_ret2
        exact pair_of HR.out rfl HL.out HH.out (Nat.le_refl _) B3
      · have HR := Lib.hid (HK.out (by first | rfl | trivial) (by first | rfl | trivial) (by omega))
        have g1 : ¬ (64 : Int) ≤ (n : Int) := by omega
        have own4 := own3.alloc (.cells #[.int .i64 a1, .int .u64 a2] 25)
        have CA := CellsAt.lit W3 [.int .i64 a1, .int .u64 a2] #[.int .i64 a1, .int .u64 a2] 25 rfl
        have B4 := B3.alloc B3.size (.cells #[.int .i64 a1, .int .u64 a2] 25)
        have HX : Hid (l.flatMap encA ++ [.int .i64 a1, .int .u64 a2] = (l ++ [(a1, a2)]).flatMap encA) := Lib.hid (by simp [encA])
        go_wp2_with (at_builtin; refine wpList_append_rows rfl _ _ 22 rfl w.heap.size 25 iE _ 2 16 Tryd.underlying22 hi hz hs hb2 hc0 (by decide) (.slice A1 n c1) n (l.flatMap encA) rfl own4 _ (some ⟨W3.heap.size, 0, none⟩) 1 1 [.int .i64 a1, .int .u64 a2] rfl rfl (by intro u hu; simp at hu; rcases hu with rfl | rfl <;> rfl) CA (by unfold maxLen; omega) (by omega) B4.size ?_; intro v5 w5 own5 b5 g5)
        go_ret2
        exact pair_of HR.out rfl (n := n + 1) (by simp [HL.out]) (by rw [← HX.out]; exact own5) (Nat.le_refl _) (B4.trans b5)
  · have gC : (C != 0) = true := by simpa using hC
    have HR := Lib.hid (HB.out hC)
    have HH := Lib.hid own2
    clear own2 hC
    go_wp2_with fail
    go_ret2
    exact pair_of HR.out rfl HL.out HH.out (Nat.le_refl _) B2
end Go.Proofs.YtegmknmbgifmjaaDoor.Ace
