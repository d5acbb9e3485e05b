/- Checking an address in the reference, the kind with a hash: contracts over the program. -/
import Derived.Test.YtcbliliinmfnjaaDoorKM6
import Derived.Deep.RegionWith
set_option linter.unusedVariables false
set_option linter.unusedSimpArgs false
namespace Go.Proofs.YtcbliliinmfnjaaDoor.Adr
open Go.RowKit Mem Oct Base

set_option maxHeartbeats 4000000 in
theorem rcheck_three (k b : Int) (w : World) (hk : 2 ≤ k ∧ k ≤ 4) (h4 : k = 3) (hb : 0 ≤ b ∧ b < 281474976710656) :
    Calls Tryd.prog 62 #[.agg #[.int .i64 k, .int .u64 b]] w fun e w' => e = .returned (.int .i64 (chk k b)) ∧ Below w.heap.size w w' := by
  have hW0 := box_new w k b
  have hB : Below w.heap.size w (w.alloc (.cells #[.int .i64 k, .int .u64 b] 24)) := (Below.refl _ _).alloc (Nat.le_refl _) _
  have c0 := hW0.c0
  have c1 := hW0.c1
  have HP : Hid (∀ w, Calls Tryd.prog 95 #[.int .i64 k] w fun e w' => e = .returned (.int .u64 (pre k)) ∧ w = w') := Lib.hid fun w => rprefix_any k w (by omega)
  have br := pre_bd k
  have hw := wf_ref (k := k) hb.1
  have hg := chk_wf (k := k) (b := b) hk hb.2
  have hn := chk_bad (k := k) (b := b) hk hb.2
  have e1 : IntKind.u64.wrap (b.tdiv 70368744177664) = b / 70368744177664 := by rw [Int.tdiv_eq_ediv_of_nonneg hb.1, IntKind.wrap_u64]; omega
  have hq : part k b = b % 70368744177664 / 16777216 := by unfold part; rw [if_pos h4]
  have hm : most k = 4194303 := by unfold most; rw [if_pos h4]
  rw [hq, hm] at hw
  clear hq hm
  generalize pre k = P at *
  subst h4
  by_cases d1 : b / 70368744177664 = P
  · by_cases d2 : b % 70368744177664 / 16777216 = 0
    · have D1 : (b / 70368744177664 != P) = false := by simpa using d1
      have D2 : (b % 70368744177664 / 16777216 == 0) = true := by simpa using d2
      have d1' := Lib.hid d1
      have d2' := Lib.hid d2
      clear d1 d2
      have HX : Hid (chk 3 b = 1) := Lib.hid (hn (by rw [decide_eq_true d2'.out] at hw; simpa using hw))
      clear hn hg hw
      go_enter Tryd.func62, Tryd.ntmps62
      go_wp2_with fail
      clear d1' d2'
      generalize b % 70368744177664 / 16777216 = q at *
      generalize b / 70368744177664 = Q at *
      generalize w.alloc (.cells #[.int .i64 3, .int .u64 b] 24) = W at *
      have c0' : W.drew.cell? ⟨w.heap.size, 0, none⟩ = some (.int .i64 3) := hW0.c0
      have c1' : W.drew.cell? ⟨w.heap.size, 1, none⟩ = some (.int .u64 b) := hW0.c1
      have hB2 : Below w.heap.size w W.drew := hB.drew
      first
        | (go_region_held (fun w' => w'.cell? ⟨w.heap.size, 0, none⟩ = some (.int .i64 3) ∧ w'.cell? ⟨w.heap.size, 1, none⟩ = some (.int .u64 b)) (exact ⟨c0', c1'⟩) (first | (go_at_call 95; refine (HP.out _).mono ?_; rintro e w' ⟨rfl, rfl⟩)))
        | fail
      all_goals go_wp2_with fail
      all_goals go_ret
      all_goals exact ⟨Ser.ret_int HX.out.symm, hB2⟩
    · by_cases d3 : b % 70368744177664 / 16777216 = 4194303
      · have D1 : (b / 70368744177664 != P) = false := by simpa using d1
        have D2 : (b % 70368744177664 / 16777216 == 0) = false := by simpa using d2
        have D3 : (b % 70368744177664 / 16777216 == 4194303) = true := by simpa using d3
        have d3' := Lib.hid d3
        clear d1 d2 d3
        have HX : Hid (chk 3 b = 1) := Lib.hid (hn (by rw [decide_eq_true d3'.out] at hw; simpa using hw))
        clear hn hg hw
        go_enter Tryd.func62, Tryd.ntmps62
        go_wp2_with fail
        generalize w.alloc (.cells #[.int .i64 3, .int .u64 b] 24) = W at *
        have c0' : W.drew.cell? ⟨w.heap.size, 0, none⟩ = some (.int .i64 3) := hW0.c0
        have c1' : W.drew.cell? ⟨w.heap.size, 1, none⟩ = some (.int .u64 b) := hW0.c1
        have hB2 : Below w.heap.size w W.drew := hB.drew
        go_region_held3 (fun w' => w'.cell? ⟨w.heap.size, 0, none⟩ = some (.int .i64 3) ∧ w'.cell? ⟨w.heap.size, 1, none⟩ = some (.int .u64 b)) (exact ⟨c0', c1'⟩) (first
          | (go_at_call 95; refine (HP.out _).mono ?_; rintro e w' ⟨rfl, rfl⟩))
        all_goals go_wp2_with fail
        all_goals go_ret
        all_goals exact ⟨Ser.ret_int HX.out.symm, hB2⟩
      · have D1 : (b / 70368744177664 != P) = false := by simpa using d1
        have D2 : (b % 70368744177664 / 16777216 == 0) = false := by simpa using d2
        have D3 : (b % 70368744177664 / 16777216 == 4194303) = false := by simpa using d3
        have d1' := Lib.hid d1
        have d2' := Lib.hid d2
        have d3' := Lib.hid d3
        clear d1 d2 d3
        have HX : Hid (chk 3 b = 0) := Lib.hid (hg (by rw [decide_eq_false d2'.out, decide_eq_false d3'.out, decide_eq_false (not_not_intro d1'.out)] at hw; simpa using hw))
        clear hn hg hw
        go_enter Tryd.func62, Tryd.ntmps62
        go_wp2_with fail
        generalize w.alloc (.cells #[.int .i64 3, .int .u64 b] 24) = W at *
        have c0' : W.drew.cell? ⟨w.heap.size, 0, none⟩ = some (.int .i64 3) := hW0.c0
        have c1' : W.drew.cell? ⟨w.heap.size, 1, none⟩ = some (.int .u64 b) := hW0.c1
        have hB2 : Below w.heap.size w W.drew := hB.drew
        go_region_held3 (fun w' => w'.cell? ⟨w.heap.size, 0, none⟩ = some (.int .i64 3) ∧ w'.cell? ⟨w.heap.size, 1, none⟩ = some (.int .u64 b)) (exact ⟨c0', c1'⟩) (first
          | (go_at_call 95; refine (HP.out _).mono ?_; rintro e w' ⟨rfl, rfl⟩))
        all_goals go_wp2_with fail
        all_goals go_ret
        all_goals exact ⟨Ser.ret_int HX.out.symm, hB2⟩
  · have D1 : (b / 70368744177664 != P) = true := by simpa using d1
    have d1' := Lib.hid d1
    clear d1
    have HX : Hid (chk 3 b = 1) := Lib.hid (hn (by rw [decide_eq_true d1'.out] at hw; simpa using hw))
    clear hn hg hw
    go_enter Tryd.func62, Tryd.ntmps62
    go_wp2_with fail
    clear d1'
    generalize b % 70368744177664 / 16777216 = q at *
    generalize b / 70368744177664 = Q at *
    generalize w.alloc (.cells #[.int .i64 3, .int .u64 b] 24) = W at *
    have c0' : W.drew.cell? ⟨w.heap.size, 0, none⟩ = some (.int .i64 3) := hW0.c0
    have c1' : W.drew.cell? ⟨w.heap.size, 1, none⟩ = some (.int .u64 b) := hW0.c1
    have hB2 : Below w.heap.size w W.drew := hB.drew
    first
      | (go_region_held (fun w' => w'.cell? ⟨w.heap.size, 0, none⟩ = some (.int .i64 3) ∧ w'.cell? ⟨w.heap.size, 1, none⟩ = some (.int .u64 b)) (exact ⟨c0', c1'⟩) (first | (go_at_call 95; refine (HP.out _).mono ?_; rintro e w' ⟨rfl, rfl⟩)))
      | fail
    all_goals go_wp2_with fail
    all_goals go_ret
    all_goals exact ⟨Ser.ret_int HX.out.symm, hB2⟩
end Go.Proofs.YtcbliliinmfnjaaDoor.Adr
