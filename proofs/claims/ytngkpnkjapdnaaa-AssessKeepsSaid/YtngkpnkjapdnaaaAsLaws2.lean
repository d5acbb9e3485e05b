/- The statements on halves and proposals, walked: each returns true. -/
import Derived.Test.YtngkpnkjapdnaaaAsLaws
set_option linter.unusedVariables false
set_option linter.unusedSimpArgs false
namespace Go.Proofs.Ytngkpnkjapdnaaa.As
open Go.RowKit Mem Chm Base

set_option maxHeartbeats 1000000 in
theorem law_decays (A : Option Addr) (n c : Nat) (fs : List (Int × Int)) (w : World) (hl : fs.length = n) (hc : n ≤ c) (hr : PairsAt w w.heap.size A fs) (hb : Small fs) (hs : c * 16 ≤ 140737488351232) :
    Calls Try.prog 5 #[.slice A n c] w fun e w' => e = .returned (.bool true) ∧ Below w.heap.size w w' := by
  have HL := Lib.hid (lives_any w)
  by_cases h0 : 100 < n
  · have g0 : (100 : Int) < (n : Int) := by omega
    go_enter Try.func5, Try.ntmps5
    go_wp2_with (go_at_call 9; refine HL.out.mono ?_; rintro e w1 ⟨rfl, b1⟩)
    go_ret
    exact ⟨rfl, b1⟩
  · have g0 : ¬ (100 : Int) < (n : Int) := by omega
    have hlm : (fs.map decT).length = n := by simp [hl]
    have H4 : Hid (∀ w, PairsAt w w.heap.size A fs → Calls Try.prog 14 #[.slice A n c] w fun e w' => ∃ A c, e = .returned (.slice A n c) ∧ PairsAt w' w'.heap.size A fs ∧ Below w.heap.size w w') := Lib.hid fun w h =>
      (copied_any A n c fs w hl h (by omega)).mono fun e w' h => by
        obtain ⟨A, c, he, _, hi, hb⟩ := h.read (n := n) hl
        exact ⟨A, c, he, hi, hb⟩
    have H5 : Hid (∀ A c w, PairsAt w w.heap.size A fs → Calls Try.prog 20 #[.slice A n c] w fun e w' => ∃ A c, e = .returned (.slice A n c) ∧ PairsAt w' w'.heap.size A (fs.map decT) ∧ Below w.heap.size w w') := Lib.hid fun A c w h =>
      (decay_any A n c fs w hl h (by omega)).mono fun e w' h => by
        obtain ⟨A, c, he, _, hi, hb⟩ := h.read (n := n) hlm
        exact ⟨A, c, he, hi, hb⟩
    have H6 : Hid (∀ w, PairsAt w w.heap.size A fs → Calls Try.prog 21 #[.slice A n c] w fun e w' => ∃ A c, e = .returned (.slice A n c) ∧ PairsAt w' w'.heap.size A (fs.map decT) ∧ Below w.heap.size w w') := Lib.hid fun w h =>
      (rdecay_any A n c fs w hl h (by omega)).mono fun e w' h => by
        obtain ⟨A, c, he, _, hi, hb⟩ := h.read (n := n) hlm
        exact ⟨A, c, he, hi, hb⟩
    have H7 : Hid (∀ A A' c c' w, PairsAt w w.heap.size A (fs.map decT) → PairsAt w w.heap.size A' (fs.map decT) → Calls Try.prog 10 #[.slice A n c, .slice A' n c'] w fun e w' => e = .returned (.bool true) ∧ Below w.heap.size w w') := Lib.hid fun A A' c c' w h h' => same_to hlm rfl h h' (by omega)
    generalize fs.map decT = gs at *
    clear hb hl hc hlm
    go_enter Try.func5, Try.ntmps5
    go_wp2_with (first
      | (go_at_call 9; refine HL.out.mono ?_; rintro e w4 ⟨rfl, B4⟩; have P4 := hr.later B4)
      | (go_at_call 14; refine (H4.out _ P4).mono ?_; rintro e w5 ⟨A5, c5, rfl, Q5, b5⟩; have B5 := thenB B4 b5; have P5 := P4.later b5)
      | (go_at_call 20; refine (H5.out _ _ _ Q5).mono ?_; rintro e w6 ⟨A6, c6, rfl, Q6, b6⟩; have B6 := thenB B5 b6; have P6 := P5.later b6)
      | (go_at_call 21; refine (H6.out _ P6).mono ?_; rintro e w7 ⟨A7, c7, rfl, Q7, b7⟩; have B7 := thenB B6 b7; have Q6' := Q6.later b7)
      | (go_at_call 10; refine (H7.out _ _ _ _ _ Q6' Q7).mono ?_; rintro e w8 ⟨rfl, b8⟩; have B8 := thenB B7 b8))
    go_ret
    exact ⟨rfl, B8⟩
set_option maxHeartbeats 1000000 in
theorem law_proposes (A : Option Addr) (n c : Nat) (fs : List (Int × Int)) (m : Nat) (least : Int) (w : World) (hl : fs.length = n) (hc : n ≤ c) (hr : PairsAt w w.heap.size A fs) (hb : Small fs) (hs : c * 16 ≤ 140737488351232) (hm : m ≤ 18446744073709551615) :
    Calls Try.prog 6 #[.slice A n c, .int .u64 m, .int .i64 least] w fun e w' => e = .returned (.bool true) ∧ Below w.heap.size w w' := by
  have HL := Lib.hid (lives_any w)
  by_cases h0 : 100 < n
  · have g0 : (100 : Int) < (n : Int) := by omega
    go_enter Try.func6, Try.ntmps6
    go_wp2_with (go_at_call 9; refine HL.out.mono ?_; rintro e w1 ⟨rfl, b1⟩)
    go_ret
    exact ⟨rfl, b1⟩
  · have g0 : ¬ (100 : Int) < (n : Int) := by omega
    have H4 : Hid (∀ w, PairsAt w w.heap.size A fs → Calls Try.prog 14 #[.slice A n c] w fun e w' => ∃ A c, e = .returned (.slice A n c) ∧ PairsAt w' w'.heap.size A fs ∧ Below w.heap.size w w') := Lib.hid fun w h =>
      (copied_any A n c fs w hl h (by omega)).mono fun e w' h => by
        obtain ⟨A, c, he, _, hi, hb⟩ := h.read (n := n) hl
        exact ⟨A, c, he, hi, hb⟩
    have H5 : Hid (∀ A c w, PairsAt w w.heap.size A fs → Calls Try.prog 22 #[.slice A n c, .int .u64 m, .int .i64 least] w fun e w' => e = .returned (.int .u64 (proZ fs m least : Nat)) ∧ Below w.heap.size w w') := Lib.hid fun A c w h => propose_any A n c fs m least w hl h (by omega) hm
    have H6 : Hid (∀ w, PairsAt w w.heap.size A fs → Calls Try.prog 23 #[.slice A n c, .int .u64 m, .int .i64 least] w fun e w' => e = .returned (.int .u64 (proZ fs m least : Nat)) ∧ Below w.heap.size w w') := Lib.hid fun w h => rpropose_any A n c fs m least w hl h (by omega) hm
    generalize proZ fs m least = P at *
    clear hb hl hc
    go_enter Try.func6, Try.ntmps6
    go_wp2_with (first
      | (go_at_call 9; refine HL.out.mono ?_; rintro e w4 ⟨rfl, B4⟩; have P4 := hr.later B4)
      | (go_at_call 14; refine (H4.out _ P4).mono ?_; rintro e w5 ⟨A5, c5, rfl, Q5, b5⟩; have B5 := thenB B4 b5; have P5 := P4.later b5)
      | (go_at_call 22; refine (H5.out _ _ _ Q5).mono ?_; rintro e w6 ⟨rfl, b6⟩; have B6 := thenB B5 b6; have P6 := P5.later b6)
      | (go_at_call 23; refine (H6.out _ P6).mono ?_; rintro e w7 ⟨rfl, b7⟩; have B7 := thenB B6 b7))
    go_ret
    exact ⟨rfl, B7⟩
end Go.Proofs.Ytngkpnkjapdnaaa.As
