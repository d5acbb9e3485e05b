/- The results that the document gives for assessment, walked. -/
import Derived.Test.YtngkpnkjapdnaaaAsRProp
set_option linter.unusedVariables false
set_option linter.unusedSimpArgs false
namespace Go.Proofs.Ytngkpnkjapdnaaa.As
open Go.RowKit Mem Chm Base

def Small (fs : List (Int × Int)) : Prop := ∀ f ∈ fs, (-9223372036854775808 ≤ f.1 ∧ f.1 ≤ 9223372036854775807) ∧ (-9223372036854775808 ≤ f.2 ∧ f.2 ≤ 9223372036854775807)
theorem small_of {fs : List (Int × Int)} (h : fs.all (fun f => decide ((-9223372036854775808 ≤ f.1 ∧ f.1 ≤ 9223372036854775807) ∧ (-9223372036854775808 ≤ f.2 ∧ f.2 ≤ 9223372036854775807))) = true) : Small fs := fun f hf => by
  rw [List.all_eq_true] at h; simpa using h f hf
def l4 : List (Int × Int) := [(0, 8), (6, 2), (4, 4), (8, 0)]
theorem cell_below {w w' : World} {g i : Nat} {x : Value} (h : w.cell? ⟨g, i, none⟩ = some x) (b : Below w.heap.size w w') : w'.cell? ⟨g, i, none⟩ = some x := (b.cell (p := ⟨g, i, none⟩) (World.block_lt_of_cell? _ _ h)).trans h
set_option maxHeartbeats 2000000 in
theorem lives_any (w : World) :
    Calls Try.prog 9 #[] w fun e w' => e = .returned (.bool true) ∧ Below w.heap.size w w' := by
  have L1 : Hid (∀ w, Calls Try.prog 11 #[] w fun e w' => ∃ A c, e = .returned (.slice A 37 c) ∧ PairsAt w' w'.heap.size A (List.replicate 37 (0, 0)) ∧ Below w.heap.size w w') := Lib.hid fun w =>
    (fresh_any w).mono fun e w' h => by
      obtain ⟨A, c, he, _, hi, hb⟩ := h.read (n := 37) (by simp)
      exact ⟨A, c, he, hi, hb⟩
  have L2 : Hid (∀ w A c, PairsAt w w.heap.size A (List.replicate 37 (0, 0)) → Calls Try.prog 13 #[.slice A 37 c, .int .i64 3, .bool false] w fun e w' => ∃ b off c', e = .returned (.slice (some ⟨b, off, none⟩) 37 c') ∧ w'.cell? ⟨b, off + 6 + 1, none⟩ = some (.int .i64 1) ∧ Below w.heap.size w w') := Lib.hid fun w A c hp =>
    (record_any A 37 c _ 3 false w (by simp) hp (by decide) (small_of (by decide +kernel))).mono fun e w' h => by
      obtain ⟨A', c', he, _, hi, hb⟩ := h.read (n := 37) (by rw [recL_len]; simp)
      obtain ⟨b, off, rfl, _, hc⟩ := hi.at_ (i := 3) (by rw [recL_len]; decide)
      have := (hc 3 (0, 1) (by decide +kernel)).2
      exact ⟨b, off, c', he, this, hb⟩
  have L3 : Hid (∀ w, Calls Try.prog 20 #[.slice (some ⟨w.heap.size, 0, none⟩) 2 2] (w.alloc (.cells #[.int .i64 5, .int .i64 1, .int .i64 (-2), .int .i64 0] 30)) fun e w' => ∃ A c, e = .returned (.slice A 2 c) ∧ PairsAt w' w'.heap.size A [(2, 0), (0, 0)] ∧ Below w.heap.size w w') := Lib.hid fun w =>
    (decay_any _ 2 2 [(5, 1), (-2, 0)] _ rfl (PairsAt.lit w [(5, 1), (-2, 0)] _ _ rfl) (by decide)).mono fun e w' h => by
      obtain ⟨A, c, he, _, hi, hb⟩ := h.read (n := 2) (by simp)
      exact ⟨A, c, he, hi, alloc1 w _ hb⟩
  have L4 : Hid (∀ w, Calls Try.prog 16 #[.agg #[.int .i64 6, .int .i64 2]] w fun e w' => e = .returned (.int .i64 250) ∧ Below w.heap.size w w') := Lib.hid fun w => by
    have h := rate_any 6 2 w
    rwa [show rateZ (6, 2) = 250 by decide] at h
  have L5 : Hid (∀ w, Calls Try.prog 18 #[.agg #[.int .i64 6, .int .i64 2]] w fun e w' => e = .returned (.bool true) ∧ Below w.heap.size w w') := Lib.hid fun w => bad_to (by decide) w
  have L6 : Hid (∀ w, Calls Try.prog 18 #[.agg #[.int .i64 0, .int .i64 7]] w fun e w' => e = .returned (.bool false) ∧ Below w.heap.size w w') := Lib.hid fun w => bad_to (by decide) w
  have L7 : Hid (∀ w A, PairsAt w w.heap.size A l4 → Calls Try.prog 22 #[.slice A 4 4, .int .u64 15, .int .i64 2] w fun e w' => e = .returned (.int .u64 10) ∧ Below w.heap.size w w') := Lib.hid fun w A hp => by
    have h := propose_any A 4 4 l4 15 2 w rfl hp (by decide) (by decide)
    rwa [show proZ l4 15 2 = 10 by decide +kernel] at h
  have L8 : Hid (∀ w A, PairsAt w w.heap.size A l4 → Calls Try.prog 22 #[.slice A 4 4, .int .u64 15, .int .i64 3] w fun e w' => e = .returned (.int .u64 14) ∧ Below w.heap.size w w') := Lib.hid fun w A hp => by
    have h := propose_any A 4 4 l4 15 3 w rfl hp (by decide) (by decide)
    rwa [show proZ l4 15 3 = 14 by decide +kernel] at h
  have L9 : Hid (∀ w A c, PairsAt w w.heap.size A [(2, 0), (0, 0)] → Calls Try.prog 10 #[.slice A 2 c, .slice (some ⟨w.heap.size, 0, none⟩) 2 2] (w.alloc (.cells #[.int .i64 2, .int .i64 0, .int .i64 0, .int .i64 0] 30)) fun e w' => e = .returned (.bool true) ∧ Below w.heap.size w w') := Lib.hid fun w A c hp => by
    have h := same_any A (some ⟨w.heap.size, 0, none⟩) 2 2 c 2 [(2, 0), (0, 0)] [(2, 0), (0, 0)] _ rfl rfl ((hp.alloc (Nat.le_refl _) (.cells #[.int .i64 2, .int .i64 0, .int .i64 0, .int .i64 0] 30)).more (by simp)) (PairsAt.lit w [(2, 0), (0, 0)] _ 30 rfl) (by decide)
    exact h.mono fun e w' ⟨h1, h2⟩ => ⟨by rw [h1, decide_eq_true rfl], alloc1 w _ h2⟩
  have B0 : Below w.heap.size w (w.alloc (.cells #[.int .i64 0, .int .i64 8, .int .i64 6, .int .i64 2, .int .i64 4, .int .i64 4, .int .i64 8, .int .i64 0] 30)) := (Below.refl _ w).alloc (Nat.le_refl _) _
  have P0 : PairsAt (w.alloc (.cells #[.int .i64 0, .int .i64 8, .int .i64 6, .int .i64 2, .int .i64 4, .int .i64 4, .int .i64 8, .int .i64 0] 30)) (w.alloc (.cells #[.int .i64 0, .int .i64 8, .int .i64 6, .int .i64 2, .int .i64 4, .int .i64 4, .int .i64 8, .int .i64 0] 30)).heap.size (some ⟨w.heap.size, 0, none⟩) l4 := PairsAt.lit w l4 _ _ rfl
  have HA : Hid (∀ w', PairsAt w' w'.heap.size (some ⟨w.heap.size, 0, none⟩) l4 → w'.cell? ⟨w.heap.size, 2, none⟩ = some (.int .i64 6) ∧ w'.cell? ⟨w.heap.size, 3, none⟩ = some (.int .i64 2)) := Lib.hid fun w' h => by
    rcases h with h | ⟨b, off, he, _, hc⟩
    · cases h
    · injection he with he
      injection he with h1 h2
      subst h1; subst h2
      exact hc 1 (6, 2) rfl
  go_enter Try.func9, Try.ntmps9
  go_wp2_with fail
  generalize w.alloc (.cells #[.int .i64 0, .int .i64 8, .int .i64 6, .int .i64 2, .int .i64 4, .int .i64 4, .int .i64 8, .int .i64 0] 30) = W at *
  refine (L1.out _).mono ?_
  rintro e w1 ⟨A1, c1, rfl, P1, b1⟩
  have B1 := thenB B0 b1
  have Q1 := P0.later b1
  go_wp2_with fail
  refine (L2.out _ _ _ P1).mono ?_
  rintro e w2 ⟨gf, of, cf, rfl, kf, b2⟩
  have B2 := thenB B1 b2
  have Q2 := Q1.later b2
  go_wp2_with fail
  refine (L3.out _).mono ?_
  rintro e w3 ⟨A3, c3, rfl, P3, b3⟩
  have B3 := thenB B2 b3
  have Q3 := Q2.later b3
  have kf3 := cell_below kf b3
  obtain ⟨h1, h2⟩ := HA.out _ Q3
  clear B0 P0 b1 B1 P1 Q1 b2 B2 Q2 b3 kf L1 L2 L3
  go_wp2_with (first
    | (go_at_call 16; refine (L4.out _).mono ?_; clear L4; rintro e w4 ⟨rfl, b4⟩; have B4 := thenB B3 b4; have Q4 := Q3.later b4; have P4 := P3.later b4; clear h1 h2; obtain ⟨h1, h2⟩ := HA.out _ Q4)
    | (go_at_call 18; refine (L5.out _).mono ?_; clear L5; rintro e w5 ⟨rfl, b5⟩; have B5 := thenB B4 b5; have Q5 := Q4.later b5; have P5 := P4.later b5)
    | (go_at_call 18; refine (L6.out _).mono ?_; clear L6; rintro e w6 ⟨rfl, b6⟩; have B6 := thenB B5 b6; have Q6 := Q5.later b6; have P6 := P5.later b6)
    | (go_at_call 22; refine (L7.out _ _ Q6).mono ?_; clear L7; rintro e w7 ⟨rfl, b7⟩; have B7 := thenB B6 b7; have Q7 := Q6.later b7; have P7 := P6.later b7)
    | (go_at_call 22; refine (L8.out _ _ Q7).mono ?_; clear L8; rintro e w8 ⟨rfl, b8⟩; have B8 := thenB B7 b8; have P8 := P7.later b8)
    | (go_at_call 10; refine (L9.out _ _ _ P8).mono ?_; clear L9; rintro e w9 ⟨rfl, b9⟩; have B9 := thenB B8 b9))
  go_ret
  exact ⟨rfl, B9⟩
end Go.Proofs.Ytngkpnkjapdnaaa.As
