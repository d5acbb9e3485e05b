/- SerialExtends holds: for every input the call returns true, and each argument reads afterwards as it read before. No condition. -/
import Derived.Test.YtljgpkiakggmkaaRows
import Derived.WalkKit
import Derived.ProofKit
import Derived.OpenShut
import Derived.ShutString
import Derived.ChangeOld
import Derived.Below
import Derived.Lib.Hide
import Derived.Test.YtljgpkiakggmkaaSerWalks
namespace Go.Proofs.Ytljgpkiakggmkaa.serialExtends
open Go.ChangeShapes Go.WideShapes Go.ChangeAt Go.RowKit
open Go.ChangeMaps (open_string shut_string)
set_option linter.unusedVariables false
set_option linter.unusedSimpArgs false

theorem own : ownKnob Try.prog.godebug = none := by kernel_rfl
theorem laidOut : laidOutB Try.prog = true := by kernel_rfl

theorem walk (a0 a1 a2 : Int) (w0 : 0 ≤ a0 ∧ a0 ≤ 18446744073709551615) (w1 : 0 ≤ a1 ∧ a1 ≤ 18446744073709551615) (w2 : -9223372036854775808 ≤ a2 ∧ a2 ≤ 9223372036854775807) (w : World) :
    Calls Try.prog 7 #[.int .u64 a0, .int .u64 a1, .int .i64 a2] w fun e w' => e = .returned (.bool true) ∧ Below w.heap.size w w' := by
  by_cases hlo : a2 < 1
  · go_enter Try.func7, Try.ntmps7
    go_wp2_with (go_at_call 15; refine (Ser.lives_any _).mono ?_; rintro e w1 ⟨rfl, hb⟩)
    go_ret
    exact ⟨rfl, hb⟩
  by_cases hhi : 63 < a2
  · have hlo' : decide (a2 < 1) = false := by simpa using hlo
    go_enter Try.func7, Try.ntmps7
    go_wp2_with (go_at_call 15; refine (Ser.lives_any _).mono ?_; rintro e w1 ⟨rfl, hb⟩)
    go_ret
    exact ⟨rfl, hb⟩
  have hl := Ser.lowZ_bd a1 a2 w1.1 w1.2
  have hlo' : decide (a2 < 1) = false := by simpa using hlo
  have hhi' : decide (63 < a2) = false := by simpa using hhi
  by_cases hlt : a1 < a0
  · by_cases hfar : Ser.p2 (a2.toNat - 1) ≤ a0 - a1
    · go_enter Try.func7, Try.ntmps7
      go_wp2_with (first | (go_at_call 15; refine (Ser.lives_any _).mono ?_; rintro e w1 ⟨rfl, hb⟩) | (go_at_call 28; refine (Ser.power_any _ _ (by omega) (by omega)).mono ?_; rintro e w' ⟨rfl, rfl⟩))
      go_ret
      exact ⟨rfl, hb⟩
    · have e1 := Ser.near_low (last := a0) (n := a1) (b := a2) w0 w1 (by omega) (by rw [Ser.dst_lo (by omega), show (a2 - 1).toNat = a2.toNat - 1 by omega]; omega)
      have e2 := Ser.near_self (last := a0) (n := a1) (b := a2) w0 w1 (by omega) (by rw [Ser.dst_lo (by omega), show (a2 - 1).toNat = a2.toNat - 1 by omega]; omega)
      go_enter Try.func7, Try.ntmps7
      go_wp2_with (first | (go_at_call 15; refine (Ser.lives_any _).mono ?_; rintro e w1 ⟨rfl, hb⟩) | (go_at_call 28; refine (Ser.power_any _ _ (by omega) (by omega)).mono ?_; rintro e w' ⟨rfl, rfl⟩) | (go_at_call 16; refine (Ser.low_any _ _ _ (by omega) (by omega) (by omega)).mono ?_; rintro e w' ⟨rfl, rfl⟩) | (go_at_call 26; refine (Ser.ext_any _ _ _ _ (by omega) (by omega) (by omega)).mono ?_; first | (have t1 := hb2; rintro e w3 ⟨rfl, hb3⟩) | rintro e w2 ⟨rfl, hb2⟩))
      go_ret
      exact ⟨rfl, (hb.trans (hb2.mono hb.size)).trans (hb3.mono (Nat.le_trans hb.size hb2.size))⟩
  · by_cases hfar : Ser.p2 (a2.toNat - 1) ≤ a1 - a0
    · go_enter Try.func7, Try.ntmps7
      go_wp2_with (first | (go_at_call 15; refine (Ser.lives_any _).mono ?_; rintro e w1 ⟨rfl, hb⟩) | (go_at_call 28; refine (Ser.power_any _ _ (by omega) (by omega)).mono ?_; rintro e w' ⟨rfl, rfl⟩))
      go_ret
      exact ⟨rfl, hb⟩
    · have e1 := Ser.near_low (last := a0) (n := a1) (b := a2) w0 w1 (by omega) (by rw [Ser.dst_hi (by omega), show (a2 - 1).toNat = a2.toNat - 1 by omega]; omega)
      have e2 := Ser.near_self (last := a0) (n := a1) (b := a2) w0 w1 (by omega) (by rw [Ser.dst_hi (by omega), show (a2 - 1).toNat = a2.toNat - 1 by omega]; omega)
      go_enter Try.func7, Try.ntmps7
      go_wp2_with (first | (go_at_call 15; refine (Ser.lives_any _).mono ?_; rintro e w1 ⟨rfl, hb⟩) | (go_at_call 28; refine (Ser.power_any _ _ (by omega) (by omega)).mono ?_; rintro e w' ⟨rfl, rfl⟩) | (go_at_call 16; refine (Ser.low_any _ _ _ (by omega) (by omega) (by omega)).mono ?_; rintro e w' ⟨rfl, rfl⟩) | (go_at_call 26; refine (Ser.ext_any _ _ _ _ (by omega) (by omega) (by omega)).mono ?_; first | (have t1 := hb2; rintro e w3 ⟨rfl, hb3⟩) | rintro e w2 ⟨rfl, hb2⟩))
      go_ret
      exact ⟨rfl, (hb.trans (hb2.mono hb.size)).trans (hb3.mono (Nat.le_trans hb.size hb2.size))⟩

set_option maxRecDepth 100000 in
theorem lifted (os : Os) (started : os.Started) (H : Type) (enc : TypeId × Value → H) :
    ReturnsInHanded {} Try.checked os 7 .any (Rows.serialExtendsSpec.pre6 enc Try.prog Try.f7 Rows.serialExtendsRow.domain false) (Rows.serialExtendsSpec.post enc Try.prog Try.f7 false true false false) := by
  refine returnsInHanded_of_change (C := Try.checked) own started (by kernel_rfl) Try.func7
    (ChangeSpec.witness6 (enc := enc) (C := Try.checked) false ⟨#[], #[.int .u64 0, .int .u64 0, .int .i64 0], []⟩ 8 (by kernel_rfl) (by kernel_rfl) (by kernel_rfl) (by kernel_rfl)) ?_
  intro W base args ds gs before hval0 hW hcnd _
  have hval : ∀ (j : Nat) t v, Try.f7.params[j]? = some t → args[j]? = some v → Value.okWide Try.prog W .any base t v := hval0
  have hW' := hW
  obtain ⟨p, q, hA0, hV, rfl, hfz, hnd⟩ := hW
  have hA : DataW.TrodAll enc Try.prog W 0 (fun _ => true) true Try.f7.params.toList args.toList ds p := hA0
  rw [Try.params7] at hA hval
  obtain ⟨v0, vs0, d0, ds0, p0, q0, hargs, rfl, rfl, h0, r0⟩ := trodAll_cons hA
  obtain ⟨v1, vs1, d1, ds1, p1, q1, rfl, rfl, rfl, h1, r1⟩ := trodAll_cons r0
  obtain ⟨v2, vs2, d2, ds2, p2, q2, rfl, rfl, rfl, h2, r2⟩ := trodAll_cons r1
  obtain ⟨rfl, rfl, rfl⟩ := trodAll_nil r2
  obtain rfl : args = #[v0, v1, v2] := by cases args; simp_all
  obtain ⟨rfl, rfl⟩ := trodVars_none hV
  obtain ⟨a0, rfl, rfl, rfl, w0⟩ := open_int Try.underlying22 (hval 0 22 v0 rfl rfl) h0
  obtain ⟨a1, rfl, rfl, rfl, w1⟩ := open_int Try.underlying22 (hval 1 22 v1 rfl rfl) h1
  obtain ⟨a2, rfl, rfl, rfl, w2⟩ := open_int Try.underlying3 (hval 2 3 v2 rfl rfl) h2
  clear hA0 hval0
  refine (walk a0 a1 a2 (bounds_u64 w0) (bounds_u64 w1) (bounds_i64 w2) W).mono fun e W' ⟨he, bel⟩ => ?_
  subst he
  exact ⟨_, rfl, _, _, _, [], _, [], hW', trodAll_mk1 (shut_bool Try.underlying4 _), (trodAll_cons_mk (shut_int Try.underlying22 w0) (trodAll_cons_mk (shut_int Try.underlying22 w1) (trodAll_cons_mk (shut_int Try.underlying3 w2) trodAll_mk0))), rfl, bel.frame _, fun h => by cases h⟩

theorem over : Rows.serialExtendsRow.holds Try.pinned (OpenSpec.ofChange Rows.serialExtendsSpec) :=
  OpenClaim.holds_of_wide 7 Try.f7 rfl rfl rfl rfl rfl rfl rfl ⟨rfl, rfl, rfl, rfl, rfl⟩ rfl rfl rfl rfl rfl (by kernel_rfl) Try.func7 (by kernel_rfl)
    (of_decide_eq_true (by kernel_rfl)) (by unfold Func.isWrapper; first | (rw [if_pos (by decide +kernel)]; kernel_rfl) | (rw [if_neg (by decide +kernel)]; exact ⟨rfl, rfl⟩))
    (fun os started H enc _ => lifted os started H enc)

/-- The statement. -/
theorem proved : Rows.SerialExtendsSaid := over
#print axioms proved
end Go.Proofs.Ytljgpkiakggmkaa.serialExtends
