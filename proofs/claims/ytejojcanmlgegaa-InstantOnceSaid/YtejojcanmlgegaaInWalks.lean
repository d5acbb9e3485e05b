/- Changes at instants: planning, checks, sameness, copies: contracts over the program. -/
import Derived.Test.YtejojcanmlgegaaInMath
import Derived.Test.YtejojcanmlgegaaSerWalks
import Derived.Test.YtejojcanmlgegaaBase
import Derived.Test.YtejojcanmlgegaaAvRow
import Derived.Deep.QuietTactic
import Derived.BigQuiet
import Derived.Lib.Hide
import Derived.Deep.CutRange
set_option linter.unusedVariables false
set_option linter.unusedSimpArgs false
namespace Go.Proofs.Ytejojcanmlgegaa.Nst
open Go.RowKit Mem Rw Base

theorem plan_any (ev la : Int) (w : World) (h0 : 0 ≤ ev ∧ ev ≤ 65535) :
    Calls Try.prog 10 #[.int .u16 ev, .int .i64 la] w fun e w' => e = .returned (.int .u16 (planZ ev la)) ∧ w = w' := by
  go_enter Try.func10, Try.ntmps10
  go_wp2_with (go_at_call 20; refine (Ser.add_any _ _ _ h0 (by omega)).mono ?_; rintro e w' ⟨rfl, rfl⟩)
  go_ret
  exact ⟨rfl, rfl⟩
theorem rplan_any (ev la : Int) (w : World) (h0 : 0 ≤ ev ∧ ev ≤ 65535) :
    Calls Try.prog 11 #[.int .u16 ev, .int .i64 la] w fun e w' => e = .returned (.int .u16 (planZ ev la)) ∧ w = w' := by
  go_enter Try.func11, Try.ntmps11
  go_wp2_with (go_at_call 21; refine (Ser.radd_any _ _ _ h0 (by omega)).mono ?_; rintro e w' ⟨rfl, rfl⟩)
  go_ret
  exact ⟨rfl, rfl⟩
set_option maxHeartbeats 2000000 in
theorem check_any (ev : Int) (x : Ch) (w : World) (h0 : 0 ≤ ev ∧ ev ≤ 65535) (hx : GoodI x) :
    Calls Try.prog 12 #[.int .u16 ev, .agg (encX x)] w fun e w' => e = .returned (.int .i64 (chk ev x)) ∧ Below w.heap.size w w' := by
  have HN : Hid (¬ x.k = 0 → ¬ x.k = 1 → chk ev x = 12) := Lib.hid fun h h' => chk_no h h'
  have HY : Hid (x.k = 0 ∨ x.k = 1 → chk ev x = if Ser.passedB ev x.i = true then 18 else 0) := Lib.hid fun h => chk_yes h
  have HP : Hid (∀ w, Calls Try.prog 22 #[.int .u16 ev, .int .u16 x.i] w fun e w' => e = .returned (.bool (Ser.passedB ev x.i)) ∧ w = w') := Lib.hid fun w => Ser.passed_any ev x.i w h0 hx
  have BX : Below w.heap.size w (w.alloc (.cells (encX x) 31)) := (Below.refl _ _).alloc (Nat.le_refl _) _
  have K1 : Blk (w.alloc (.cells (encX x) 31)) w.heap.size 31 (encX x) := Blk.fresh w _ _
  generalize hR : chk ev x = R at *
  obtain ⟨k, i, a, b, c, e, f, m⟩ := x
  dsimp only [encX] at *
  clear hx h0 hR
  have p0 := K1.cell 0
  have p1 := K1.cell 1
  generalize Ser.passedB ev i = P at *
  by_cases hk0 : k = 0
  · subst hk0
    have HR := Lib.hid (HY.out (by omega))
    clear HN HY
    go_enter Try.func12, Try.ntmps12
    go_upto_region 1 with (fail)
    generalize w.alloc (.cells _ 31) = W at *
    cases P with
    | true =>
      go_wp2_with (go_at_call 22; refine (HP.out _).mono ?_; rintro e w' ⟨rfl, rfl⟩)
      go_ret
      exact ⟨Ser.ret_int (by rw [HR.out]; rfl), BX⟩
    | false =>
      go_wp2_with (go_at_call 22; refine (HP.out _).mono ?_; rintro e w' ⟨rfl, rfl⟩)
      go_ret
      exact ⟨Ser.ret_int (by rw [HR.out]; rfl), BX⟩
  · by_cases hk1 : k = 1
    · subst hk1
      have HR := Lib.hid (HY.out (by omega))
      clear HN HY hk0
      go_enter Try.func12, Try.ntmps12
      go_upto_region 1 with (fail)
      generalize w.alloc (.cells _ 31) = W at *
      cases P with
      | true =>
        go_wp2_with (go_at_call 22; refine (HP.out _).mono ?_; rintro e w' ⟨rfl, rfl⟩)
        go_ret
        exact ⟨Ser.ret_int (by rw [HR.out]; rfl), BX⟩
      | false =>
        go_wp2_with (go_at_call 22; refine (HP.out _).mono ?_; rintro e w' ⟨rfl, rfl⟩)
        go_ret
        exact ⟨Ser.ret_int (by rw [HR.out]; rfl), BX⟩
    · have HR := Lib.hid (HN.out hk0 hk1)
      have g0 : (k != 0) = true := by simpa using hk0
      have g1 : (k != 1) = true := by simpa using hk1
      clear HN HY hk0 hk1
      go_enter Try.func12, Try.ntmps12
      go_upto_region 1 with (fail)
      generalize w.alloc (.cells _ 31) = W at *
      go_wp2_with fail
      go_ret
      exact ⟨Ser.ret_int HR.out.symm, BX⟩
set_option maxHeartbeats 2000000 in
theorem rcheck_any (ev : Int) (x : Ch) (w : World) (h0 : 0 ≤ ev ∧ ev ≤ 65535) (hx : GoodI x) :
    Calls Try.prog 13 #[.int .u16 ev, .agg (encX x)] w fun e w' => e = .returned (.int .i64 (chk ev x)) ∧ Below w.heap.size w w' := by
  have HN : Hid (¬ x.k = 0 → ¬ x.k = 1 → chk ev x = 12) := Lib.hid fun h h' => chk_no h h'
  have HY : Hid (x.k = 0 ∨ x.k = 1 → chk ev x = if Ser.passedB ev x.i = true then 18 else 0) := Lib.hid fun h => chk_yes h
  have HP : Hid (∀ w, Calls Try.prog 23 #[.int .u16 ev, .int .u16 x.i] w fun e w' => e = .returned (.bool (Ser.passedB ev x.i)) ∧ w = w') := Lib.hid fun w => Ser.rpassed_any ev x.i w h0 hx
  have BX : Below w.heap.size w (w.alloc (.cells (encX x) 31)) := (Below.refl _ _).alloc (Nat.le_refl _) _
  have K1 : Blk (w.alloc (.cells (encX x) 31)) w.heap.size 31 (encX x) := Blk.fresh w _ _
  generalize hR : chk ev x = R at *
  obtain ⟨k, i, a, b, c, e, f, m⟩ := x
  dsimp only [encX] at *
  clear hx h0 hR
  have p0 := K1.cell 0
  have p1 := K1.cell 1
  generalize Ser.passedB ev i = P at *
  by_cases hk0 : k = 0
  · subst hk0
    have HR := Lib.hid (HY.out (by omega))
    clear HN HY
    go_enter Try.func13, Try.ntmps13
    go_upto_region 1 with (fail)
    generalize w.alloc (.cells _ 31) = W at *
    cases P with
    | true =>
      go_wp2_with (go_at_call 23; refine (HP.out _).mono ?_; rintro e w' ⟨rfl, rfl⟩)
      go_ret
      exact ⟨Ser.ret_int (by rw [HR.out]; rfl), BX⟩
    | false =>
      go_wp2_with (go_at_call 23; refine (HP.out _).mono ?_; rintro e w' ⟨rfl, rfl⟩)
      go_ret
      exact ⟨Ser.ret_int (by rw [HR.out]; rfl), BX⟩
  · by_cases hk1 : k = 1
    · subst hk1
      have HR := Lib.hid (HY.out (by omega))
      clear HN HY hk0
      go_enter Try.func13, Try.ntmps13
      go_upto_region 1 with (fail)
      generalize w.alloc (.cells _ 31) = W at *
      cases P with
      | true =>
        go_wp2_with (go_at_call 23; refine (HP.out _).mono ?_; rintro e w' ⟨rfl, rfl⟩)
        go_ret
        exact ⟨Ser.ret_int (by rw [HR.out]; rfl), BX⟩
      | false =>
        go_wp2_with (go_at_call 23; refine (HP.out _).mono ?_; rintro e w' ⟨rfl, rfl⟩)
        go_ret
        exact ⟨Ser.ret_int (by rw [HR.out]; rfl), BX⟩
    · have HR := Lib.hid (HN.out hk0 hk1)
      have g0 : (k != 0) = true := by simpa using hk0
      have g1 : (k != 1) = true := by simpa using hk1
      clear HN HY hk0 hk1
      go_enter Try.func13, Try.ntmps13
      go_upto_region 1 with (fail)
      generalize w.alloc (.cells _ 31) = W at *
      go_wp2_with fail
      go_ret
      exact ⟨Ser.ret_int HR.out.symm, BX⟩
end Go.Proofs.Ytejojcanmlgegaa.Nst
