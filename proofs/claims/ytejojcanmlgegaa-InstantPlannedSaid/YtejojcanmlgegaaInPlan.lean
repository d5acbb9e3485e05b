/- Changes at instants: what was planned can be added in time; what was added is due once: walks. -/
import Derived.Test.YtejojcanmlgegaaInLives
set_option linter.unusedVariables false
set_option linter.unusedSimpArgs false
namespace Go.Proofs.Ytejojcanmlgegaa.Nst
open Go.RowKit Mem Rw Base

/-- A change whose instant was planned at an event. -/
def plc (ev la : Int) : Ch := ⟨0, planZ ev la, 0, 0, 0, 0, 0, 0⟩
theorem plc_in {ev la k : Int} (h0 : 0 ≤ ev ∧ ev ≤ 65535) (hk : 0 ≤ k ∧ k ≤ 16384) (h : k ≤ 5 + max 0 (min la 499)) : addR [] (Ser.addZ ev k) (plc ev la) = ([plc ev la], 0) := by
  have e : chk (Ser.addZ ev k) (plc ev la) = 0 := by
    rw [chk_yes (.inl rfl)]
    rw [if_neg]
    simp only [Ser.passedB, decide_eq_true_eq]
    show ¬ (0 ≤ Ser.diffZ (planZ ev la) (Ser.addZ ev k))
    unfold Ser.diffZ planZ Ser.addZ
    omega
  unfold addR
  rw [if_pos e]
  rfl
theorem plc_out {ev la k : Int} (h0 : 0 ≤ ev ∧ ev ≤ 65535) (hk : 0 ≤ k ∧ k ≤ 16384) (h : ¬ k ≤ 5 + max 0 (min la 499)) : addR [] (Ser.addZ ev k) (plc ev la) = ([], 18) := by
  have e : chk (Ser.addZ ev k) (plc ev la) = 18 := by
    rw [chk_yes (.inl rfl)]
    rw [if_pos]
    simp only [Ser.passedB, decide_eq_true_eq]
    show 0 ≤ Ser.diffZ (planZ ev la) (Ser.addZ ev k)
    unfold Ser.diffZ planZ Ser.addZ
    omega
  unfold addR
  rw [if_neg (by rw [e]; decide), e]
theorem ev_code {ev k e' : Int} (h : e' = Ser.addZ ev k) (w : World) (x : Ch) (hx : GoodI x) : Calls Try.prog 14 #[.slice none 0 0, .int .u16 e', .agg (encX x)] w fun e w' => Pair w w' e (addR [] (Ser.addZ ev k) x) := by
  subst h; exact add_any none 0 0 [] _ x w rfl (by decide) (.inl rfl) (Ser.addZ_bd _ _) hx
set_option maxRecDepth 100000 in
set_option maxHeartbeats 8000000 in
theorem planned_any (ev la k : Int) (w : World) (h0 : 0 ≤ ev ∧ ev ≤ 65535) (hb : -9223372036854775808 ≤ k ∧ k ≤ 9223372036854775807) : Calls Try.prog 7 #[.int .u16 ev, .int .i64 la, .int .i64 k] w fun e w' => e = .returned (.bool true) ∧ Below w.heap.size w w' := by
  have HL := Lib.hid lives_any
  obtain ⟨p, hp⟩ : ∃ p, planZ ev la = p := ⟨_, rfl⟩
  have H1 : Hid (∀ w, Calls Try.prog 10 #[.int .u16 ev, .int .i64 la] w fun e w' => e = .returned (.int .u16 p) ∧ w = w') := Lib.hid fun w => by rw [← hp]; exact plan_any ev la w h0
  by_cases ck : 0 ≤ k ∧ k ≤ 16384
  · have hk := ck
    by_cases cl : k ≤ 5 + max 0 (min la 499)
    · skip
      have HA : Hid (∀ e' w, e' = Ser.addZ ev k → Calls Try.prog 14 #[.slice none 0 0, .int .u16 e', .agg #[.int .i64 0, .int .u16 p, .int .i64 0, .int .i64 0, .int .i64 0, .int .i64 0, .int .i64 0, .int .u64 0]] w fun e w' => ∃ A c, e = .returned (.tuple #[.slice A 1 c, .int .i64 0]) ∧ Below w.heap.size w w') := Lib.hid fun e' w h => by
        have := ev_code h w (plc ev la) (plan_bd ev la)
        rw [plc_in h0 hk cl] at this
        rw [← hp]
        refine this.mono ?_
        rintro e w' ⟨A, c, he, _, _, hb⟩
        exact ⟨A, c, he, hb⟩

      clear hp
      obtain ⟨ck1, ck2⟩ := ck
      go_enter Try.func7, Try.ntmps7
      go_wp2_with (first | (go_at_call 9; refine (HL.out _).mono ?_; rintro e X1 ⟨rfl, b1⟩) | (go_at_call 10; refine (H1.out _).mono ?_; rintro e w9 ⟨rfl, rfl⟩) | (go_at_call 14; refine (HA.out _ _ (by first | rfl | (unfold Ser.addZ; omega))).mono ?_; rintro e X2 ⟨A2, c2, rfl, b2⟩))
      go_ret
      exact ⟨rfl, Base.thenB (b1.alloc b1.size _) b2⟩
    · skip
      have HA : Hid (∀ e' w, e' = Ser.addZ ev k → Calls Try.prog 14 #[.slice none 0 0, .int .u16 e', .agg #[.int .i64 0, .int .u16 p, .int .i64 0, .int .i64 0, .int .i64 0, .int .i64 0, .int .i64 0, .int .u64 0]] w fun e w' => ∃ A c, e = .returned (.tuple #[.slice A 0 c, .int .i64 18]) ∧ Below w.heap.size w w') := Lib.hid fun e' w h => by
        have := ev_code h w (plc ev la) (plan_bd ev la)
        rw [plc_out h0 hk cl] at this
        rw [← hp]
        refine this.mono ?_
        rintro e w' ⟨A, c, he, _, _, hb⟩
        exact ⟨A, c, he, hb⟩

      clear hp
      obtain ⟨ck1, ck2⟩ := ck
      go_enter Try.func7, Try.ntmps7
      go_wp2_with (first | (go_at_call 9; refine (HL.out _).mono ?_; rintro e X1 ⟨rfl, b1⟩) | (go_at_call 10; refine (H1.out _).mono ?_; rintro e w9 ⟨rfl, rfl⟩) | (go_at_call 14; refine (HA.out _ _ (by first | rfl | (unfold Ser.addZ; omega))).mono ?_; rintro e X2 ⟨A2, c2, rfl, b2⟩))
      go_ret
      exact ⟨Ser.ret_bool (by rw [decide_eq_false (by omega)]; rfl), Base.thenB (b1.alloc b1.size _) b2⟩
  · by_cases cn : k < 0
    · go_enter Try.func7, Try.ntmps7
      go_wp2_with (go_at_call 9; refine (HL.out _).mono ?_; rintro e X1 ⟨rfl, b1⟩)
      go_ret
      exact ⟨rfl, b1⟩
    · have c2 : 16384 < k := by omega
      go_enter Try.func7, Try.ntmps7
      go_wp2_with (go_at_call 9; refine (HL.out _).mono ?_; rintro e X1 ⟨rfl, b1⟩)
      go_ret
      exact ⟨rfl, b1⟩
end Go.Proofs.Ytejojcanmlgegaa.Nst
