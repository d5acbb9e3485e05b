/- The statements on opening, walked: each returns true. -/
import Derived.Test.YtpdaeggjahcogaaMacLaws
set_option linter.unusedVariables false
set_option linter.unusedSimpArgs false
namespace Go.Proofs.Ytpdaeggjahcogaa.Mac
open Go.RowKit Mem Oct Blk Base

theorem law_opens (a0 a1 : Int) (A2 : Option Addr) (n2 c2 : Nat) (x2 : List Int) (A3 : Option Addr) (n3 c3 : Nat) (x3 : List Int) (w : World) (u0 : 0 ≤ a0 ∧ a0 ≤ 18446744073709551615) (u1 : 0 ≤ a1 ∧ a1 ≤ 18446744073709551615)
    (hx2 : x2.length = n2) (hc2 : n2 ≤ c2) (hi2 : Ints .u8 w w.heap.size A2 x2) (hb2 : Bytes x2) (hs2 : c2 * 1 ≤ 140737488351232)
    (hx3 : x3.length = n3) (hc3 : n3 ≤ c3) (hi3 : Ints .u8 w w.heap.size A3 x3) (hb3 : Bytes x3) (hs3 : c3 * 1 ≤ 140737488351232) :
    Calls Try.prog 8 #[.int .u64 a0, .int .u64 a1, .slice A2 n2 c2, .slice A3 n3 c3] w fun e w' => e = .returned (.bool true) ∧ Below w.heap.size w w' := by
  by_cases hin : n2 ≤ 300 ∧ n3 ≤ 300
  · obtain ⟨h1, h2⟩ := hin
    have h1' : decide ((300 : Int) < (n2 : Int)) = false := by simp; omega
    have h2' : decide ((300 : Int) < (n3 : Int)) = false := by simp; omega
    have main : ∃ zs er, openR a0 a1 x2 x3 = (zs, er) ∧ Bytes zs ∧ zs.length ≤ 300 ∧ (er = 3 ∨ er = 15 ∨ (er = 0 ∧ sealL a0 a1 x2 zs = x3)) := by
      by_cases h4 : x3.length < 4
      · exact ⟨[], 3, openR_short _ _ _ _ h4, (by intro z hz; cases hz), by simp, .inl rfl⟩
      · by_cases he : x3.drop (x3.length - 4) = endL a0 a1 x2 (x3.take (x3.length - 4))
        · exact ⟨_, 0, openR_good _ _ _ _ h4 he, cry_bytes _ _ (bytes_take hb3 _), by rw [cry_len, List.length_take]; omega, .inr (.inr ⟨rfl, seal_open a0 a1 x2 hb3 h4 he⟩)⟩
        · exact ⟨[], 15, openR_bad _ _ _ _ h4 he, (by intro z hz; cases hz), by simp, .inr (.inl rfl)⟩
    obtain ⟨zs, er, hR, bz, hlz, hcase⟩ := main
    have HR := Lib.hid hR
    clear hR
    obtain ⟨m, hm⟩ : ∃ m, zs.length = m := ⟨_, rfl⟩
    have HM := Lib.hid hm
    rw [hm] at hlz
    clear hm
    rcases hcase with rfl | rfl | ⟨rfl, hS⟩
    · go_enter Try.func8, Try.ntmps8
      go_wp2_with (first
        | (go_at_call 22; refine (open_any a0 a1 A2 A3 n2 c2 n3 c3 x2 x3 _ u0 u1 hx2 hb2 hi2 (by omega) hx3 hb3 hi3 (by omega) hc3 (by omega)).mono ?_; rw [HR.out]; rintro e w1 ⟨B1, d1, rfl, o1, b1⟩; rw [HM.out] at o1 ⊢; have j1 := Ints.own o1)
        | (go_at_call 23; refine (ropen_any a0 a1 A2 A3 n2 c2 n3 c3 x2 x3 _ u0 u1 hx2 hb2 (later hi2 b1) (by omega) hx3 hb3 (later hi3 b1) (by omega) hc3 (by omega)).mono ?_; rw [HR.out]; rintro e w2 ⟨B2, d2, rfl, o2, b2⟩; rw [HM.out] at o2 ⊢; have j2 := Ints.own o2; have h2 := thenB b1 b2)
        | (go_at_call 17; refine (same_to (b := true) (by simp) HM.out HM.out bz bz (later j1 b2) j2).mono ?_; rintro e w3 ⟨rfl, rfl⟩)
        | (go_at_call 12; refine (lives_any _).mono ?_; rintro e w4 ⟨rfl, b4⟩))
      go_ret
      exact ⟨rfl, thenB h2 b4⟩
    · go_enter Try.func8, Try.ntmps8
      go_wp2_with (first
        | (go_at_call 22; refine (open_any a0 a1 A2 A3 n2 c2 n3 c3 x2 x3 _ u0 u1 hx2 hb2 hi2 (by omega) hx3 hb3 hi3 (by omega) hc3 (by omega)).mono ?_; rw [HR.out]; rintro e w1 ⟨B1, d1, rfl, o1, b1⟩; rw [HM.out] at o1 ⊢; have j1 := Ints.own o1)
        | (go_at_call 23; refine (ropen_any a0 a1 A2 A3 n2 c2 n3 c3 x2 x3 _ u0 u1 hx2 hb2 (later hi2 b1) (by omega) hx3 hb3 (later hi3 b1) (by omega) hc3 (by omega)).mono ?_; rw [HR.out]; rintro e w2 ⟨B2, d2, rfl, o2, b2⟩; rw [HM.out] at o2 ⊢; have j2 := Ints.own o2; have h2 := thenB b1 b2)
        | (go_at_call 17; refine (same_to (b := true) (by simp) HM.out HM.out bz bz (later j1 b2) j2).mono ?_; rintro e w3 ⟨rfl, rfl⟩)
        | (go_at_call 12; refine (lives_any _).mono ?_; rintro e w4 ⟨rfl, b4⟩))
      go_ret
      exact ⟨rfl, thenB h2 b4⟩
    · have HL : Hid ((sealL a0 a1 x2 zs).length = n3) := Lib.hid (by rw [hS, hx3])
      have HS := Lib.hid hS
      have HT : Hid (zs = zs) := Lib.hid rfl
      clear hS
      go_enter Try.func8, Try.ntmps8
      go_wp2_with (first
        | (go_at_call 22; refine (open_any a0 a1 A2 A3 n2 c2 n3 c3 x2 x3 _ u0 u1 hx2 hb2 hi2 (by omega) hx3 hb3 hi3 (by omega) hc3 (by omega)).mono ?_; rw [HR.out]; rintro e w1 ⟨B1, d1, rfl, o1, b1⟩; rw [HM.out] at o1 ⊢; have j1 := Ints.own o1)
        | (go_at_call 23; refine (ropen_any a0 a1 A2 A3 n2 c2 n3 c3 x2 x3 _ u0 u1 hx2 hb2 (later hi2 b1) (by omega) hx3 hb3 (later hi3 b1) (by omega) hc3 (by omega)).mono ?_; rw [HR.out]; rintro e w2 ⟨B2, d2, rfl, o2, b2⟩; rw [HM.out] at o2 ⊢; have j2 := Ints.own o2; have h2 := thenB b1 b2)
        | (go_at_call 17; have _h := HT.out; clear _h HT; refine (same_to (b := true) (by simp) HM.out HM.out bz bz (later j1 b2) j2).mono ?_; rintro e w3 ⟨rfl, rfl⟩)
        | (go_at_call 12; refine (lives_any _).mono ?_; rintro e w4 ⟨rfl, b4⟩; have h4 := thenB h2 b4)
        | (go_at_call 20; refine (seal_any a0 a1 A2 B1 n2 c2 _ d1 x2 zs _ u0 u1 hx2 hb2 (later hi2 h4) (by omega) HM.out bz (later (later j1 b2) b4) (by omega)).mono ?_; rw [HS.out]; intro e w5 m5; obtain ⟨B5, d5, rfl, k5, j5, b5⟩ := m5.read hx3; clear m5)
        | (go_at_call 17; refine (same_to (b := true) (by simp) hx3 hx3 hb3 hb3 j5 (later (later hi3 h4) b5)).mono ?_; rintro e w6 ⟨rfl, rfl⟩))
      go_ret
      exact ⟨rfl, thenB h4 b5⟩
  · by_cases h1 : 300 < n2
    · go_enter Try.func8, Try.ntmps8
      go_wp2_with (go_at_call 12; refine (lives_any _).mono ?_; rintro e w1 ⟨rfl, b1⟩)
      go_ret
      exact ⟨rfl, b1⟩
    · have h1' : decide ((300 : Int) < (n2 : Int)) = false := by simp; omega
      have h2 : 300 < n3 := by omega
      go_enter Try.func8, Try.ntmps8
      go_wp2_with (go_at_call 12; refine (lives_any _).mono ?_; rintro e w1 ⟨rfl, b1⟩)
      go_ret
      exact ⟨rfl, b1⟩
theorem law_inverse (a0 a1 : Int) (A2 : Option Addr) (n2 c2 : Nat) (x2 : List Int) (A3 : Option Addr) (n3 c3 : Nat) (x3 : List Int) (w : World) (u0 : 0 ≤ a0 ∧ a0 ≤ 18446744073709551615) (u1 : 0 ≤ a1 ∧ a1 ≤ 18446744073709551615)
    (hx2 : x2.length = n2) (hc2 : n2 ≤ c2) (hi2 : Ints .u8 w w.heap.size A2 x2) (hb2 : Bytes x2) (hs2 : c2 * 1 ≤ 140737488351232)
    (hx3 : x3.length = n3) (hc3 : n3 ≤ c3) (hi3 : Ints .u8 w w.heap.size A3 x3) (hb3 : Bytes x3) (hs3 : c3 * 1 ≤ 140737488351232) :
    Calls Try.prog 9 #[.int .u64 a0, .int .u64 a1, .slice A2 n2 c2, .slice A3 n3 c3] w fun e w' => e = .returned (.bool true) ∧ Below w.heap.size w w' := by
  by_cases hin : n2 ≤ 300 ∧ n3 ≤ 300
  · obtain ⟨h1, h2⟩ := hin
    have h1' : decide ((300 : Int) < (n2 : Int)) = false := by simp; omega
    have h2' : decide ((300 : Int) < (n3 : Int)) = false := by simp; omega
    have hm := mixZ_bd a0 a1 u1
    have hu := unmixZ_bd a0 a1 u1
    have e1 := unmix_mix a0 a1 u1
    have e2 := mix_unmix a0 a1 u1
    obtain ⟨M, hM⟩ : ∃ M, mixZ a0 a1 = M := ⟨_, rfl⟩
    obtain ⟨U, hU⟩ : ∃ U, unmixZ a0 a1 = U := ⟨_, rfl⟩
    rw [hM] at hm e1
    rw [hU] at hu e2
    have HM : Hid (∀ w, Calls Try.prog 25 #[.int .u64 a0, .int .u64 a1] w fun e w' => e = .returned (.int .u64 M) ∧ Below w.heap.size w w') := Lib.hid fun w => by rw [← hM]; exact mix_any a0 a1 w u0 u1
    have HU : Hid (∀ w, Calls Try.prog 24 #[.int .u64 a0, .int .u64 a1] w fun e w' => e = .returned (.int .u64 U) ∧ Below w.heap.size w w') := Lib.hid fun w => by rw [← hU]; exact unmix_any a0 a1 w u0 u1
    have HM2 : Hid (∀ w, Calls Try.prog 24 #[.int .u64 a0, .int .u64 M] w fun e w' => e = .returned (.int .u64 a1) ∧ Below w.heap.size w w') := Lib.hid fun w => by have := unmix_any a0 M w u0 hm; rwa [e1] at this
    have HU2 : Hid (∀ w, Calls Try.prog 25 #[.int .u64 a0, .int .u64 U] w fun e w' => e = .returned (.int .u64 a1) ∧ Below w.heap.size w w') := Lib.hid fun w => by have := mix_any a0 U w u0 hu; rwa [e2] at this
    have HL : Hid ((sealL a0 a1 x2 x3).length = n3 + 4) := Lib.hid (by rw [sealL_len, hx3])
    have hbs := sealL_bytes a0 a1 x2 hb3
    have HO := Lib.hid (open_seal a0 a1 x2 hb3)
    clear hM hU e1 e2
    go_enter Try.func9, Try.ntmps9
    go_wp2_with (first
      | (go_at_call 25; have h0 := HM.out; clear HM; refine (h0 _).mono ?_; clear h0; rintro e w1 ⟨rfl, b1⟩)
      | (go_at_call 24; have h0 := HM2.out; clear HM2; refine (h0 _).mono ?_; clear h0; rintro e w2 ⟨rfl, b2⟩; have g2 := thenB b1 b2)
      | (go_at_call 24; have h0 := HU.out; clear HU; refine (h0 _).mono ?_; clear h0; rintro e w3 ⟨rfl, b3⟩; have g3 := thenB g2 b3)
      | (go_at_call 25; have h0 := HU2.out; clear HU2; refine (h0 _).mono ?_; clear h0; rintro e w4 ⟨rfl, b4⟩; have g4 := thenB g3 b4)
      | (go_at_call 20; refine (seal_any a0 a1 A2 A3 n2 c2 n3 c3 x2 x3 _ u0 u1 hx2 hb2 (later hi2 g4) (by omega) hx3 hb3 (later hi3 g4) (by omega)).mono ?_; intro e w5 m5; obtain ⟨B5, d5, rfl, k5, q5, j5, b5⟩ := readm m5 HL.out; clear m5; have g5 := thenB g4 b5)
      | (go_at_call 22; refine (open_any a0 a1 A2 B5 n2 c2 _ d5 x2 _ _ u0 u1 hx2 hb2 (later hi2 g5) (by omega) HL.out hbs j5 (by omega) k5 q5).mono ?_; rw [HO.out]; rintro e w6 ⟨B6, d6, rfl, o6, b6⟩; rw [hx3] at o6 ⊢; have j6 := Ints.own o6; have g6 := thenB g5 b6)
      | (go_at_call 12; refine (lives_any _).mono ?_; rintro e w7 ⟨rfl, b7⟩; have g7 := thenB g6 b7)
      | (go_at_call 17; refine (same_to (b := true) (by simp) hx3 hx3 hb3 hb3 (later j6 b7) (later hi3 g7)).mono ?_; rintro e w8 ⟨rfl, rfl⟩))
    go_ret
    exact ⟨rfl, g7⟩
  · by_cases h1 : 300 < n2
    · go_enter Try.func9, Try.ntmps9
      go_wp2_with (go_at_call 12; refine (lives_any _).mono ?_; rintro e w1 ⟨rfl, b1⟩)
      go_ret
      exact ⟨rfl, b1⟩
    · have h1' : decide ((300 : Int) < (n2 : Int)) = false := by simp; omega
      have h2 : 300 < n3 := by omega
      go_enter Try.func9, Try.ntmps9
      go_wp2_with (go_at_call 12; refine (lives_any _).mono ?_; rintro e w1 ⟨rfl, b1⟩)
      go_ret
      exact ⟨rfl, b1⟩
end Go.Proofs.Ytpdaeggjahcogaa.Mac
