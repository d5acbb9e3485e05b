/- Control PDUs: Procedure; the chapter's examples hold: contracts over the program. -/
import Derived.Test.YtiopeghbpnjcgaaCpDec
set_option linter.unusedVariables false
set_option linter.unusedSimpArgs false
namespace Go.Proofs.Ytiopeghbpnjcgaa.Cp
open Go.RowKit Mem Oct Rw Av
open Base (thenB)
theorem same23_to {b : Bool} {xs ys : List Int} (hr : decide (xs = ys) = b) {A A' : Option Addr} {n n' c c' : Nat} {w : World} (hx : xs.length = n) (hy : ys.length = n') (bx : Bytes xs) (by_ : Bytes ys) (h : Ints .u8 w w.heap.size A xs) (h' : Ints .u8 w w.heap.size A' ys) :
    Calls Try.prog 14 #[.slice A n c, .slice A' n' c'] w fun e w' => e = .returned (.bool b) ∧ w = w' := by
  subst hr
  have k1 := run_string_ints (P := Try.prog) 33 5 Try.underlying33 Try.underlying5 Try.underlying9 w.heap.size A n c xs hx h
  have k2 := run_string_ints (P := Try.prog) 33 5 Try.underlying33 Try.underlying5 Try.underlying9 w.heap.size A' n' c' ys hy h'
  go_enter Try.func14, Try.ntmps14
  go_wp2
  go_ret
  exact ⟨Ser.ret_bool (str_eq bx by_), rfl⟩

theorem gives_len {w w' : World} {e : Ending} {l : List Int} {x : Int} (h : Gives w w' e (l, x)) {n : Nat} (hn : l.length = n) : ∃ A c, e = .returned (.tuple #[.slice A n c, .int .i64 x]) ∧ w'.ownsRow w.heap.size 5 1 (.slice A n c) n (l.map (Value.int .u8)) ∧ Below w.heap.size w w' := by
  subst hn; exact h
def procZ (k : Int) : Int := if k = 8 then 8 else if k = 9 then 8 else if k = 3 then 3 else if k = 4 then 3 else if k = 5 then 3 else if k = 6 then 3 else if k = 18 then 18 else if k = 19 then 18 else if k = 20 then 20 else if k = 21 then 20 else if k = 0 then 0 else if k = 1 then 1 else if k = 2 then 2 else if k = 12 then 12 else if k = 15 then 15 else -1
set_option maxRecDepth 100000 in
set_option maxHeartbeats 4000000 in
theorem proc_any (k : Int) (w : World) : Calls Try.prog 17 #[.int .i64 k] w fun e w' => e = .returned (.int .i64 (procZ k)) ∧ w = w' := by
  by_cases h8 : k = 8
  · subst h8
    rw [show procZ 8 = 8 from by decide]
    go_enter Try.func17, Try.ntmps17
    go_wp2_with fail
    go_ret
    exact ⟨rfl, rfl⟩
  by_cases h9 : k = 9
  · subst h9
    rw [show procZ 9 = 8 from by decide]
    go_enter Try.func17, Try.ntmps17
    go_wp2_with fail
    go_ret
    exact ⟨rfl, rfl⟩
  by_cases h3 : k = 3
  · subst h3
    rw [show procZ 3 = 3 from by decide]
    go_enter Try.func17, Try.ntmps17
    go_wp2_with fail
    go_ret
    exact ⟨rfl, rfl⟩
  by_cases h4 : k = 4
  · subst h4
    rw [show procZ 4 = 3 from by decide]
    go_enter Try.func17, Try.ntmps17
    go_wp2_with fail
    go_ret
    exact ⟨rfl, rfl⟩
  by_cases h5 : k = 5
  · subst h5
    rw [show procZ 5 = 3 from by decide]
    go_enter Try.func17, Try.ntmps17
    go_wp2_with fail
    go_ret
    exact ⟨rfl, rfl⟩
  by_cases h6 : k = 6
  · subst h6
    rw [show procZ 6 = 3 from by decide]
    go_enter Try.func17, Try.ntmps17
    go_wp2_with fail
    go_ret
    exact ⟨rfl, rfl⟩
  by_cases h18 : k = 18
  · subst h18
    rw [show procZ 18 = 18 from by decide]
    go_enter Try.func17, Try.ntmps17
    go_wp2_with fail
    go_ret
    exact ⟨rfl, rfl⟩
  by_cases h19 : k = 19
  · subst h19
    rw [show procZ 19 = 18 from by decide]
    go_enter Try.func17, Try.ntmps17
    go_wp2_with fail
    go_ret
    exact ⟨rfl, rfl⟩
  by_cases h20 : k = 20
  · subst h20
    rw [show procZ 20 = 20 from by decide]
    go_enter Try.func17, Try.ntmps17
    go_wp2_with fail
    go_ret
    exact ⟨rfl, rfl⟩
  by_cases h21 : k = 21
  · subst h21
    rw [show procZ 21 = 20 from by decide]
    go_enter Try.func17, Try.ntmps17
    go_wp2_with fail
    go_ret
    exact ⟨rfl, rfl⟩
  by_cases h0 : k = 0
  · subst h0
    rw [show procZ 0 = 0 from by decide]
    go_enter Try.func17, Try.ntmps17
    go_wp2_with fail
    go_ret
    exact ⟨rfl, rfl⟩
  by_cases h1 : k = 1
  · subst h1
    rw [show procZ 1 = 1 from by decide]
    go_enter Try.func17, Try.ntmps17
    go_wp2_with fail
    go_ret
    exact ⟨rfl, rfl⟩
  by_cases h2 : k = 2
  · subst h2
    rw [show procZ 2 = 2 from by decide]
    go_enter Try.func17, Try.ntmps17
    go_wp2_with fail
    go_ret
    exact ⟨rfl, rfl⟩
  by_cases h12 : k = 12
  · subst h12
    rw [show procZ 12 = 12 from by decide]
    go_enter Try.func17, Try.ntmps17
    go_wp2_with fail
    go_ret
    exact ⟨rfl, rfl⟩
  by_cases h15 : k = 15
  · subst h15
    rw [show procZ 15 = 15 from by decide]
    go_enter Try.func17, Try.ntmps17
    go_wp2_with fail
    go_ret
    exact ⟨rfl, rfl⟩
  rw [show procZ k = -1 from by unfold procZ; rw [if_neg h8, if_neg h9, if_neg h3, if_neg h4, if_neg h5, if_neg h6, if_neg h18, if_neg h19, if_neg h20, if_neg h21, if_neg h0, if_neg h1, if_neg h2, if_neg h12, if_neg h15]]
  have g8 : (k == 8) = false := by simpa using h8
  have g9 : (k == 9) = false := by simpa using h9
  have g3 : (k == 3) = false := by simpa using h3
  have g4 : (k == 4) = false := by simpa using h4
  have g5 : (k == 5) = false := by simpa using h5
  have g6 : (k == 6) = false := by simpa using h6
  have g18 : (k == 18) = false := by simpa using h18
  have g19 : (k == 19) = false := by simpa using h19
  have g20 : (k == 20) = false := by simpa using h20
  have g21 : (k == 21) = false := by simpa using h21
  have g0 : (k == 0) = false := by simpa using h0
  have g1 : (k == 1) = false := by simpa using h1
  have g2 : (k == 2) = false := by simpa using h2
  have g12 : (k == 12) = false := by simpa using h12
  have g15 : (k == 15) = false := by simpa using h15
  clear h8 h9 h3 h4 h5 h6 h18 h19 h20 h21 h0 h1 h2 h12 h15
  go_enter Try.func17, Try.ntmps17
  go_wp2_with fail
  go_ret
  exact ⟨rfl, rfl⟩
set_option maxRecDepth 100000 in
set_option maxHeartbeats 4000000 in
theorem rproc_any (k : Int) (w : World) : Calls Try.prog 18 #[.int .i64 k] w fun e w' => e = .returned (.int .i64 (procZ k)) ∧ w = w' := by
  by_cases h8 : k = 8
  · subst h8
    rw [show procZ 8 = 8 from by decide]
    go_enter Try.func18, Try.ntmps18
    go_wp2_with fail
    go_ret
    exact ⟨rfl, rfl⟩
  by_cases h9 : k = 9
  · subst h9
    rw [show procZ 9 = 8 from by decide]
    go_enter Try.func18, Try.ntmps18
    go_wp2_with fail
    go_ret
    exact ⟨rfl, rfl⟩
  by_cases h3 : k = 3
  · subst h3
    rw [show procZ 3 = 3 from by decide]
    go_enter Try.func18, Try.ntmps18
    go_wp2_with fail
    go_ret
    exact ⟨rfl, rfl⟩
  by_cases h4 : k = 4
  · subst h4
    rw [show procZ 4 = 3 from by decide]
    go_enter Try.func18, Try.ntmps18
    go_wp2_with fail
    go_ret
    exact ⟨rfl, rfl⟩
  by_cases h5 : k = 5
  · subst h5
    rw [show procZ 5 = 3 from by decide]
    go_enter Try.func18, Try.ntmps18
    go_wp2_with fail
    go_ret
    exact ⟨rfl, rfl⟩
  by_cases h6 : k = 6
  · subst h6
    rw [show procZ 6 = 3 from by decide]
    go_enter Try.func18, Try.ntmps18
    go_wp2_with fail
    go_ret
    exact ⟨rfl, rfl⟩
  by_cases h18 : k = 18
  · subst h18
    rw [show procZ 18 = 18 from by decide]
    go_enter Try.func18, Try.ntmps18
    go_wp2_with fail
    go_ret
    exact ⟨rfl, rfl⟩
  by_cases h19 : k = 19
  · subst h19
    rw [show procZ 19 = 18 from by decide]
    go_enter Try.func18, Try.ntmps18
    go_wp2_with fail
    go_ret
    exact ⟨rfl, rfl⟩
  by_cases h20 : k = 20
  · subst h20
    rw [show procZ 20 = 20 from by decide]
    go_enter Try.func18, Try.ntmps18
    go_wp2_with fail
    go_ret
    exact ⟨rfl, rfl⟩
  by_cases h21 : k = 21
  · subst h21
    rw [show procZ 21 = 20 from by decide]
    go_enter Try.func18, Try.ntmps18
    go_wp2_with fail
    go_ret
    exact ⟨rfl, rfl⟩
  by_cases h0 : k = 0
  · subst h0
    rw [show procZ 0 = 0 from by decide]
    go_enter Try.func18, Try.ntmps18
    go_wp2_with fail
    go_ret
    exact ⟨rfl, rfl⟩
  by_cases h1 : k = 1
  · subst h1
    rw [show procZ 1 = 1 from by decide]
    go_enter Try.func18, Try.ntmps18
    go_wp2_with fail
    go_ret
    exact ⟨rfl, rfl⟩
  by_cases h2 : k = 2
  · subst h2
    rw [show procZ 2 = 2 from by decide]
    go_enter Try.func18, Try.ntmps18
    go_wp2_with fail
    go_ret
    exact ⟨rfl, rfl⟩
  by_cases h12 : k = 12
  · subst h12
    rw [show procZ 12 = 12 from by decide]
    go_enter Try.func18, Try.ntmps18
    go_wp2_with fail
    go_ret
    exact ⟨rfl, rfl⟩
  by_cases h15 : k = 15
  · subst h15
    rw [show procZ 15 = 15 from by decide]
    go_enter Try.func18, Try.ntmps18
    go_wp2_with fail
    go_ret
    exact ⟨rfl, rfl⟩
  rw [show procZ k = -1 from by unfold procZ; rw [if_neg h8, if_neg h9, if_neg h3, if_neg h4, if_neg h5, if_neg h6, if_neg h18, if_neg h19, if_neg h20, if_neg h21, if_neg h0, if_neg h1, if_neg h2, if_neg h12, if_neg h15]]
  have g8 : (k == 8) = false := by simpa using h8
  have g9 : (k == 9) = false := by simpa using h9
  have g3 : (k == 3) = false := by simpa using h3
  have g4 : (k == 4) = false := by simpa using h4
  have g5 : (k == 5) = false := by simpa using h5
  have g6 : (k == 6) = false := by simpa using h6
  have g18 : (k == 18) = false := by simpa using h18
  have g19 : (k == 19) = false := by simpa using h19
  have g20 : (k == 20) = false := by simpa using h20
  have g21 : (k == 21) = false := by simpa using h21
  have g0 : (k == 0) = false := by simpa using h0
  have g1 : (k == 1) = false := by simpa using h1
  have g2 : (k == 2) = false := by simpa using h2
  have g12 : (k == 12) = false := by simpa using h12
  have g15 : (k == 15) = false := by simpa using h15
  clear h8 h9 h3 h4 h5 h6 h18 h19 h20 h21 h0 h1 h2 h12 h15
  go_enter Try.func18, Try.ntmps18
  go_wp2_with fail
  go_ret
  exact ⟨rfl, rfl⟩
set_option maxRecDepth 100000 in
set_option maxHeartbeats 4000000 in
theorem example_any (w : World) : Calls Try.prog 11 #[] w fun e w' => e = .returned (.bool true) ∧ Below w.heap.size w w' := by
  have HE1 : Hid (∀ w, Calls Try.prog 12 #[.agg #[.int .i64 1, .int .i64 0, .int .i64 0, .int .i64 0, .int .i64 0, .int .i64 0, .int .u64 257, .int .u16 258, .int .i64 0, .int .i64 0, .int .u64 0, .int .u64 0, .int .u64 0, .int .i64 0, .int .i64 0]] w fun e w' => Gives w w' e ([1, 1, 1, 0, 0, 0, 2, 1], 0)) := Lib.hid fun w => by have h9 := encode_any (⟨1, 0, 0, 0, 0, 0, 257, 258, 0, 0, 0, 0, 0, 0, 0⟩ : Ct) w (by unfold GoodC; simp only; exact ⟨by decide, by decide, by decide, by decide, by decide, by decide, by decide, by decide, by decide, by decide, by decide, by decide, by decide, by decide, by decide⟩); rw [show encR (⟨1, 0, 0, 0, 0, 0, 257, 258, 0, 0, 0, 0, 0, 0, 0⟩ : Ct) = ([1, 1, 1, 0, 0, 0, 2, 1], 0) by kernel_rfl] at h9; exact h9
  have HE2 : Hid (∀ w, Calls Try.prog 12 #[.agg #[.int .i64 13, .int .i64 0, .int .i64 0, .int .i64 0, .int .i64 0, .int .i64 0, .int .u64 0, .int .u16 0, .int .i64 6, .int .i64 3, .int .u64 0, .int .u64 0, .int .u64 0, .int .i64 0, .int .i64 0]] w fun e w' => Gives w w' e ([13, 6, 3], 0)) := Lib.hid fun w => by have h9 := encode_any (⟨13, 0, 0, 0, 0, 0, 0, 0, 6, 3, 0, 0, 0, 0, 0⟩ : Ct) w (by unfold GoodC; simp only; exact ⟨by decide, by decide, by decide, by decide, by decide, by decide, by decide, by decide, by decide, by decide, by decide, by decide, by decide, by decide, by decide⟩); rw [show encR (⟨13, 0, 0, 0, 0, 0, 0, 0, 6, 3, 0, 0, 0, 0, 0⟩ : Ct) = ([13, 6, 3], 0) by kernel_rfl] at h9; exact h9
  have HD3 : Hid (∀ (g : Nat) (W : World), Ints .u8 W W.heap.size (some ⟨g, 0, none⟩) [20, 26] → Calls Try.prog 15 #[.slice (some ⟨g, 0, none⟩) 2 2] W fun e w' => e = .returned (.tuple #[.agg #[.int .i64 0, .int .i64 0, .int .i64 0, .int .i64 0, .int .i64 0, .int .i64 0, .int .u64 0, .int .u16 0, .int .i64 0, .int .i64 0, .int .u64 0, .int .u64 0, .int .u64 0, .int .i64 0, .int .i64 0], .int .i64 5]) ∧ Below W.heap.size W w') := Lib.hid fun g W h => by have h9 := decode_any (some ⟨g, 0, none⟩) 2 2 [20, 26] W rfl (by decide) (Nat.le_refl _) (Base.bytes_lit _ (by decide)) h; rw [show decR [20, 26] = (zeroC, 5) by kernel_rfl] at h9; exact h9
  have HD4 : Hid (∀ (g : Nat) (W : World), Ints .u8 W W.heap.size (some ⟨g, 0, none⟩) [9] → Calls Try.prog 15 #[.slice (some ⟨g, 0, none⟩) 1 1] W fun e w' => e = .returned (.tuple #[.agg #[.int .i64 0, .int .i64 0, .int .i64 0, .int .i64 0, .int .i64 0, .int .i64 0, .int .u64 0, .int .u16 0, .int .i64 0, .int .i64 0, .int .u64 0, .int .u64 0, .int .u64 0, .int .i64 0, .int .i64 0], .int .i64 3]) ∧ Below W.heap.size W w') := Lib.hid fun g W h => by have h9 := decode_any (some ⟨g, 0, none⟩) 1 1 [9] W rfl (by decide) (Nat.le_refl _) (Base.bytes_lit _ (by decide)) h; rw [show decR [9] = (zeroC, 3) by kernel_rfl] at h9; exact h9
  have HD5 : Hid (∀ (g : Nat) (W : World), Ints .u8 W W.heap.size (some ⟨g, 0, none⟩) [5, 0] → Calls Try.prog 15 #[.slice (some ⟨g, 0, none⟩) 2 2] W fun e w' => e = .returned (.tuple #[.agg #[.int .i64 0, .int .i64 0, .int .i64 0, .int .i64 0, .int .i64 0, .int .i64 0, .int .u64 0, .int .u16 0, .int .i64 0, .int .i64 0, .int .u64 0, .int .u64 0, .int .u64 0, .int .i64 0, .int .i64 0], .int .i64 2]) ∧ Below W.heap.size W w') := Lib.hid fun g W h => by have h9 := decode_any (some ⟨g, 0, none⟩) 2 2 [5, 0] W rfl (by decide) (Nat.le_refl _) (Base.bytes_lit _ (by decide)) h; rw [show decR [5, 0] = (zeroC, 2) by kernel_rfl] at h9; exact h9
  have HD6 : Hid (∀ (g : Nat) (W : World), Ints .u8 W W.heap.size (some ⟨g, 0, none⟩) [10] → Calls Try.prog 15 #[.slice (some ⟨g, 0, none⟩) 1 1] W fun e w' => e = .returned (.tuple #[.agg #[.int .i64 0, .int .i64 0, .int .i64 0, .int .i64 0, .int .i64 0, .int .i64 0, .int .u64 0, .int .u16 0, .int .i64 0, .int .i64 0, .int .u64 0, .int .u64 0, .int .u64 0, .int .i64 0, .int .i64 0], .int .i64 12]) ∧ Below W.heap.size W w') := Lib.hid fun g W h => by have h9 := decode_any (some ⟨g, 0, none⟩) 1 1 [10] W rfl (by decide) (Nat.le_refl _) (Base.bytes_lit _ (by decide)) h; rw [show decR [10] = (zeroC, 12) by kernel_rfl] at h9; exact h9
  go_enter Try.func11, Try.ntmps11
  go_upto_region 2 with (go_at_call 12; refine (HE1.out _).mono ?_; intro e w1 m1; obtain ⟨A1, c1, rfl, own1, b1⟩ := gives_len m1 (n := 8) rfl)
  have BX := b1
  have I1 : Ints .u8 w1 w1.heap.size A1 [1, 1, 1, 0, 0, 0, 2, 1] := Ints.own own1
  clear own1 m1 HE1
  go_upto_region 3 with (go_at_call 12; refine (HE2.out _).mono ?_; intro e w2 m2; obtain ⟨A2, c2, rfl, own2, b2⟩ := gives_len m2 (n := 3) rfl)
  replace BX := thenB BX b2
  replace I1 := Base.later I1 b2
  have I2 : Ints .u8 w2 w2.heap.size A2 [13, 6, 3] := Ints.own own2
  clear own2 m2 HE2 b1 b2
  have L3 := Base.lit1 .u8 w2 [20, 26] #[.int .u8 20, .int .u8 26] 5 rfl
  replace BX := BX.alloc BX.size (.cells #[.int .u8 20, .int .u8 26] 5)
  replace I1 := Base.kept I1 (.cells #[.int .u8 20, .int .u8 26] 5)
  replace I2 := Base.kept I2 (.cells #[.int .u8 20, .int .u8 26] 5)
  go_upto_region 4 with (go_at_call 15; refine (HD3.out _ _ L3).mono ?_; rintro e v3 ⟨rfl, b9⟩)
  replace BX := (thenB BX b9).alloc (thenB BX b9).size (.cells #[.int .i64 0, .int .i64 0, .int .i64 0, .int .i64 0, .int .i64 0, .int .i64 0, .int .u64 0, .int .u16 0, .int .i64 0, .int .i64 0, .int .u64 0, .int .u64 0, .int .u64 0, .int .i64 0, .int .i64 0] 28)
  replace I1 := Base.kept (Base.later I1 b9) (.cells #[.int .i64 0, .int .i64 0, .int .i64 0, .int .i64 0, .int .i64 0, .int .i64 0, .int .u64 0, .int .u16 0, .int .i64 0, .int .i64 0, .int .u64 0, .int .u64 0, .int .u64 0, .int .i64 0, .int .i64 0] 28)
  replace I2 := Base.kept (Base.later I2 b9) (.cells #[.int .i64 0, .int .i64 0, .int .i64 0, .int .i64 0, .int .i64 0, .int .i64 0, .int .u64 0, .int .u16 0, .int .i64 0, .int .i64 0, .int .u64 0, .int .u64 0, .int .u64 0, .int .i64 0, .int .i64 0] 28)
  clear L3 b9 HD3
  generalize v3.alloc (.cells #[.int .i64 0, .int .i64 0, .int .i64 0, .int .i64 0, .int .i64 0, .int .i64 0, .int .u64 0, .int .u16 0, .int .i64 0, .int .i64 0, .int .u64 0, .int .u64 0, .int .u64 0, .int .i64 0, .int .i64 0] 28) = Z3 at *
  have L4 := Base.lit1 .u8 Z3 [9] #[.int .u8 9] 5 rfl
  replace BX := BX.alloc BX.size (.cells #[.int .u8 9] 5)
  replace I1 := Base.kept I1 (.cells #[.int .u8 9] 5)
  replace I2 := Base.kept I2 (.cells #[.int .u8 9] 5)
  go_upto_region 5 with (go_at_call 15; refine (HD4.out _ _ L4).mono ?_; rintro e v4 ⟨rfl, b9⟩)
  replace BX := (thenB BX b9).alloc (thenB BX b9).size (.cells #[.int .i64 0, .int .i64 0, .int .i64 0, .int .i64 0, .int .i64 0, .int .i64 0, .int .u64 0, .int .u16 0, .int .i64 0, .int .i64 0, .int .u64 0, .int .u64 0, .int .u64 0, .int .i64 0, .int .i64 0] 28)
  replace I1 := Base.kept (Base.later I1 b9) (.cells #[.int .i64 0, .int .i64 0, .int .i64 0, .int .i64 0, .int .i64 0, .int .i64 0, .int .u64 0, .int .u16 0, .int .i64 0, .int .i64 0, .int .u64 0, .int .u64 0, .int .u64 0, .int .i64 0, .int .i64 0] 28)
  replace I2 := Base.kept (Base.later I2 b9) (.cells #[.int .i64 0, .int .i64 0, .int .i64 0, .int .i64 0, .int .i64 0, .int .i64 0, .int .u64 0, .int .u16 0, .int .i64 0, .int .i64 0, .int .u64 0, .int .u64 0, .int .u64 0, .int .i64 0, .int .i64 0] 28)
  clear L4 b9 HD4
  generalize v4.alloc (.cells #[.int .i64 0, .int .i64 0, .int .i64 0, .int .i64 0, .int .i64 0, .int .i64 0, .int .u64 0, .int .u16 0, .int .i64 0, .int .i64 0, .int .u64 0, .int .u64 0, .int .u64 0, .int .i64 0, .int .i64 0] 28) = Z4 at *
  have L5 := Base.lit1 .u8 Z4 [5, 0] #[.int .u8 5, .int .u8 0] 5 rfl
  replace BX := BX.alloc BX.size (.cells #[.int .u8 5, .int .u8 0] 5)
  replace I1 := Base.kept I1 (.cells #[.int .u8 5, .int .u8 0] 5)
  replace I2 := Base.kept I2 (.cells #[.int .u8 5, .int .u8 0] 5)
  go_upto_region 6 with (go_at_call 15; refine (HD5.out _ _ L5).mono ?_; rintro e v5 ⟨rfl, b9⟩)
  replace BX := (thenB BX b9).alloc (thenB BX b9).size (.cells #[.int .i64 0, .int .i64 0, .int .i64 0, .int .i64 0, .int .i64 0, .int .i64 0, .int .u64 0, .int .u16 0, .int .i64 0, .int .i64 0, .int .u64 0, .int .u64 0, .int .u64 0, .int .i64 0, .int .i64 0] 28)
  replace I1 := Base.kept (Base.later I1 b9) (.cells #[.int .i64 0, .int .i64 0, .int .i64 0, .int .i64 0, .int .i64 0, .int .i64 0, .int .u64 0, .int .u16 0, .int .i64 0, .int .i64 0, .int .u64 0, .int .u64 0, .int .u64 0, .int .i64 0, .int .i64 0] 28)
  replace I2 := Base.kept (Base.later I2 b9) (.cells #[.int .i64 0, .int .i64 0, .int .i64 0, .int .i64 0, .int .i64 0, .int .i64 0, .int .u64 0, .int .u16 0, .int .i64 0, .int .i64 0, .int .u64 0, .int .u64 0, .int .u64 0, .int .i64 0, .int .i64 0] 28)
  clear L5 b9 HD5
  generalize v5.alloc (.cells #[.int .i64 0, .int .i64 0, .int .i64 0, .int .i64 0, .int .i64 0, .int .i64 0, .int .u64 0, .int .u16 0, .int .i64 0, .int .i64 0, .int .u64 0, .int .u64 0, .int .u64 0, .int .i64 0, .int .i64 0] 28) = Z5 at *
  have L6 := Base.lit1 .u8 Z5 [10] #[.int .u8 10] 5 rfl
  replace BX := BX.alloc BX.size (.cells #[.int .u8 10] 5)
  replace I1 := Base.kept I1 (.cells #[.int .u8 10] 5)
  replace I2 := Base.kept I2 (.cells #[.int .u8 10] 5)
  go_upto_region 7 with (go_at_call 15; refine (HD6.out _ _ L6).mono ?_; rintro e v6 ⟨rfl, b9⟩)
  replace BX := (thenB BX b9).alloc (thenB BX b9).size (.cells #[.int .i64 0, .int .i64 0, .int .i64 0, .int .i64 0, .int .i64 0, .int .i64 0, .int .u64 0, .int .u16 0, .int .i64 0, .int .i64 0, .int .u64 0, .int .u64 0, .int .u64 0, .int .i64 0, .int .i64 0] 28)
  replace I1 := Base.kept (Base.later I1 b9) (.cells #[.int .i64 0, .int .i64 0, .int .i64 0, .int .i64 0, .int .i64 0, .int .i64 0, .int .u64 0, .int .u16 0, .int .i64 0, .int .i64 0, .int .u64 0, .int .u64 0, .int .u64 0, .int .i64 0, .int .i64 0] 28)
  replace I2 := Base.kept (Base.later I2 b9) (.cells #[.int .i64 0, .int .i64 0, .int .i64 0, .int .i64 0, .int .i64 0, .int .i64 0, .int .u64 0, .int .u16 0, .int .i64 0, .int .i64 0, .int .u64 0, .int .u64 0, .int .u64 0, .int .i64 0, .int .i64 0] 28)
  clear L6 b9 HD6
  generalize v6.alloc (.cells #[.int .i64 0, .int .i64 0, .int .i64 0, .int .i64 0, .int .i64 0, .int .i64 0, .int .u64 0, .int .u16 0, .int .i64 0, .int .i64 0, .int .u64 0, .int .u64 0, .int .u64 0, .int .i64 0, .int .i64 0] 28) = Z6 at *
  have BL1 : Below Z6.heap.size Z6 (Z6.alloc (.cells #[.int .u8 1, .int .u8 1, .int .u8 1, .int .u8 0, .int .u8 0, .int .u8 0, .int .u8 2, .int .u8 1] 5)) := (Below.refl _ _).alloc (Nat.le_refl _) _
  have J1 := Base.lit1 .u8 Z6 [1, 1, 1, 0, 0, 0, 2, 1] #[.int .u8 1, .int .u8 1, .int .u8 1, .int .u8 0, .int .u8 0, .int .u8 0, .int .u8 2, .int .u8 1] 5 rfl
  have J2 := Base.lit1 .u8 (Z6.alloc (.cells #[.int .u8 1, .int .u8 1, .int .u8 1, .int .u8 0, .int .u8 0, .int .u8 0, .int .u8 2, .int .u8 1] 5)) [13, 6, 3] #[.int .u8 13, .int .u8 6, .int .u8 3] 5 rfl
  have I1' := Base.kept I1 (.cells #[.int .u8 1, .int .u8 1, .int .u8 1, .int .u8 0, .int .u8 0, .int .u8 0, .int .u8 2, .int .u8 1] 5)
  have I2' := Base.kept (Base.kept I2 (.cells #[.int .u8 1, .int .u8 1, .int .u8 1, .int .u8 0, .int .u8 0, .int .u8 0, .int .u8 2, .int .u8 1] 5)) (.cells #[.int .u8 13, .int .u8 6, .int .u8 3] 5)
  have HS1 := Lib.hid (same23_to (b := true) (xs := [1, 1, 1, 0, 0, 0, 2, 1]) (ys := [1, 1, 1, 0, 0, 0, 2, 1]) (by decide) (n := 8) (n' := 8) (c := c1) (c' := 8) rfl rfl (Base.bytes_lit _ (by decide)) (Base.bytes_lit _ (by decide)) I1' J1)
  have HS2 := Lib.hid (same23_to (b := true) (xs := [13, 6, 3]) (ys := [13, 6, 3]) (by decide) (n := 3) (n' := 3) (c := c2) (c' := 3) rfl rfl (Base.bytes_lit _ (by decide)) (Base.bytes_lit _ (by decide)) I2' J2)
  go_wp2_with (first | (go_at_call_of 14 A1; refine HS1.out.mono ?_; rintro e X1 ⟨rfl, rfl⟩) | (go_at_call_of 14 A2; refine (show Calls _ _ _ _ _ from by simpa using HS2.out).mono ?_; rintro e X2 ⟨rfl, rfl⟩))
  go_ret
  exact ⟨rfl, (BX.alloc BX.size _).alloc (BX.alloc BX.size _).size _⟩
end Go.Proofs.Ytiopeghbpnjcgaa.Cp
