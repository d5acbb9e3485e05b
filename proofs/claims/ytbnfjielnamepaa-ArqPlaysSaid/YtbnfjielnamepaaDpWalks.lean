/- Data PDUs: what is wrong with one, blank packets, sameness, by the layer and the document: contracts over the program. -/
import Derived.Test.YtbnfjielnamepaaDpMath
import Derived.Test.YtbnfjielnamepaaBase
import Derived.Test.YtbnfjielnamepaaAvRow
import Derived.Test.YtbnfjielnamepaaSerMath
set_option linter.unusedVariables false
set_option linter.unusedSimpArgs false
namespace Go.Proofs.Ytbnfjielnamepaa.Dp
open Go.RowKit Mem Oct Rw
open Base (thenB)

theorem bit_to {n : Int} {b : Bool} (h : bitB n = b) (w : World) : Calls Try.prog 42 #[.int .i64 n] w fun e w' => e = .returned (.bool b) ∧ w = w' := by
  subst h
  by_cases h0 : n = 0
  · subst h0
    go_enter Try.func42, Try.ntmps42
    go_wp2_with fail
    go_ret
    exact ⟨rfl, rfl⟩
  · have g0 : (n == 0) = false := by simpa using h0
    have e : bitB n = (n == 1) := by unfold bitB; simp [h0]; rfl
    rw [e]
    clear e h0
    go_enter Try.func42, Try.ntmps42
    go_wp2_with fail
    go_ret
    exact ⟨rfl, rfl⟩
theorem kind_yes {k : Int} (h : k = 1 ∨ k = 2 ∨ k = 3) (w : World) : Calls Try.prog 43 #[.int .i64 k] w fun e w' => e = .returned (.bool true) ∧ w = w' := by
  rcases h with rfl | rfl | rfl <;>
  · go_enter Try.func43, Try.ntmps43
    go_wp2_with fail
    go_ret
    exact ⟨rfl, rfl⟩
theorem kind_no {k : Int} (h : ¬ (k = 1 ∨ k = 2 ∨ k = 3)) (w : World) : Calls Try.prog 43 #[.int .i64 k] w fun e w' => e = .returned (.bool false) ∧ w = w' := by
  have g1 : (k == 1) = false := by simpa using (by omega : ¬ k = 1)
  have g2 : (k == 2) = false := by simpa using (by omega : ¬ k = 2)
  have g3 : (k == 3) = false := by simpa using (by omega : ¬ k = 3)
  clear h
  go_enter Try.func43, Try.ntmps43
  go_wp2_with fail
  go_ret
  exact ⟨rfl, rfl⟩
theorem n_zero {n : Nat} (h : n = 0) : ((n : Int) == 0) = true := by simpa using (by omega : (n : Int) = 0)
theorem n_pos {n : Nat} (h : n ≠ 0) : ((n : Int) == 0) = false := by simpa using (by omega : ¬ (n : Int) = 0)
theorem blank_to {k : Int} {n : Nat} {b : Bool} (h : blankB k n = b) (A : Option Addr) (c : Nat) (w : World) : Calls Try.prog 16 #[.agg #[.int .i64 k, .slice A n c]] w fun e w' => e = .returned (.bool b) ∧ Below w.heap.size w w' := by
  subst h
  have B0 : Below w.heap.size w (w.alloc (.cells #[.int .i64 k, .slice A n c] 24)) := (Below.refl _ _).alloc (Nat.le_refl _) _
  by_cases h0 : k = 1
  · subst h0
    have e : blankB 1 n = ((n : Int) == 0) := by unfold blankB; by_cases h : n = 0 <;> simp [h]
    rw [e]
    clear e
    go_enter Try.func16, Try.ntmps16
    go_wp2_with fail
    go_ret
    exact ⟨rfl, B0⟩
  · have g0 : (k == 1) = false := by simpa using h0
    have e : blankB k n = false := by unfold blankB; simp [h0]
    rw [e]
    clear e h0
    go_enter Try.func16, Try.ntmps16
    go_wp2_with fail
    go_ret
    exact ⟨rfl, B0⟩
/-! ### What is wrong with a PDU -/
theorem chk_b1 {sn nesn md k : Int} {n : Nat} (h : bitB sn = false) : chkN sn nesn md k n = 5 := by unfold chkN; simp [h]
theorem chk_b2 {sn nesn md k : Int} {n : Nat} (h : bitB nesn = false) : chkN sn nesn md k n = 5 := by unfold chkN; simp [h]
theorem chk_b3 {sn nesn md k : Int} {n : Nat} (h : bitB md = false) : chkN sn nesn md k n = 5 := by unfold chkN; simp [h]
theorem chk_b {sn nesn md k : Int} {n : Nat} (h : bitB sn = true) (h2 : bitB nesn = true) (h3 : bitB md = true) : chkN sn nesn md k n = chkK k n := by unfold chkN; simp [h, h2, h3]
theorem chkK_1 {k : Int} {n : Nat} (h : ¬ (k = 1 ∨ k = 2 ∨ k = 3)) : chkK k n = 12 := by unfold chkK; rw [if_pos (by omega)]
theorem chkK_2 {k : Int} {n : Nat} (h : k = 1 ∨ k = 2 ∨ k = 3) (h0 : n = 0) (h1 : k ≠ 1) : chkK k n = 1 := by unfold chkK; rw [if_neg (by omega), if_pos ⟨h0, h1⟩]
theorem chkK_3 {k : Int} {n : Nat} (h : k = 1 ∨ k = 2 ∨ k = 3) (h0 : ¬ (n = 0 ∧ k ≠ 1)) (h1 : 255 < n) : chkK k n = 4 := by unfold chkK; rw [if_neg (by omega), if_neg h0, if_pos h1]
theorem chkK_4 {k : Int} {n : Nat} (h : k = 1 ∨ k = 2 ∨ k = 3) (h0 : ¬ (n = 0 ∧ k ≠ 1)) (h1 : ¬ 255 < n) : chkK k n = 0 := by unfold chkK; rw [if_neg (by omega), if_neg h0, if_neg h1]
set_option maxHeartbeats 1000000 in
theorem check_any (sn nesn md k : Int) (A : Option Addr) (n c : Nat) (w : World) : Calls Try.prog 14 #[.agg #[.int .i64 sn, .int .i64 nesn, .int .i64 md, .int .i64 k, .slice A n c]] w fun e w' => e = .returned (.int .i64 (chkN sn nesn md k n)) ∧ Below w.heap.size w w' := by
  have B0 : Below w.heap.size w (w.alloc (.cells #[.int .i64 sn, .int .i64 nesn, .int .i64 md, .int .i64 k, .slice A n c] 26)) := (Below.refl _ _).alloc (Nat.le_refl _) _
  cases h1 : bitB sn with
  | false =>
    rw [chk_b1 h1]
    go_enter Try.func14, Try.ntmps14
    go_wp2_with (go_at_call 42; refine (bit_to (by assumption) _).mono ?_; rintro e w2 ⟨rfl, rfl⟩)
    go_ret
    exact ⟨rfl, B0⟩
  | true =>
    cases h2 : bitB nesn with
    | false =>
      rw [chk_b2 h2]
      go_enter Try.func14, Try.ntmps14
      go_wp2_with (go_at_call 42; refine (bit_to (by assumption) _).mono ?_; rintro e w2 ⟨rfl, rfl⟩)
      go_ret
      exact ⟨rfl, B0⟩
    | true =>
      cases h3 : bitB md with
      | false =>
        rw [chk_b3 h3]
        go_enter Try.func14, Try.ntmps14
        go_wp2_with (go_at_call 42; refine (bit_to (by assumption) _).mono ?_; rintro e w2 ⟨rfl, rfl⟩)
        go_ret
        exact ⟨rfl, B0⟩
      | true =>
        rw [chk_b h1 h2 h3]
        by_cases hk : k = 1 ∨ k = 2 ∨ k = 3
        · by_cases h0 : n = 0
          · have gn := n_zero h0
            by_cases hk1 : k = 1
            · rw [chkK_4 hk (by omega) (by omega)]
              subst hk1
              have hb : blankB 1 n = true := by unfold blankB; simp [h0]
              have g5 : ¬ (255 : Int) < (n : Int) := by omega
              try clear h0
              go_enter Try.func14, Try.ntmps14
              go_wp2_with (first | (go_at_call 42; refine (bit_to (by assumption) _).mono ?_; rintro e w2 ⟨rfl, rfl⟩) | (go_at_call 43; refine (kind_yes (Or.inl rfl) _).mono ?_; rintro e w2 ⟨rfl, rfl⟩) | (go_at_call 16; refine (blank_to hb A c _).mono ?_; rintro e w2 ⟨rfl, b2⟩; have z4 : w2.cell? ⟨w.heap.size, 4, none⟩ = some (.slice A n c) := (b2.cell (p := ⟨w.heap.size, 4, none⟩) (by simp)).trans (by simp)))
              go_ret
              exact ⟨rfl, thenB B0 b2⟩
            · rw [chkK_2 hk h0 hk1]
              have hb : blankB k n = false := by unfold blankB; simp [hk1]
              clear h0
              go_enter Try.func14, Try.ntmps14
              go_wp2_with (first | (go_at_call 42; refine (bit_to (by assumption) _).mono ?_; rintro e w2 ⟨rfl, rfl⟩) | (go_at_call 43; refine (kind_yes hk _).mono ?_; rintro e w2 ⟨rfl, rfl⟩) | (go_at_call 16; refine (blank_to hb A c _).mono ?_; rintro e w2 ⟨rfl, b2⟩; have z4 : w2.cell? ⟨w.heap.size, 4, none⟩ = some (.slice A n c) := (b2.cell (p := ⟨w.heap.size, 4, none⟩) (by simp)).trans (by simp)))
              go_ret
              exact ⟨rfl, thenB B0 b2⟩
          · have gn := n_pos h0
            by_cases h5 : 255 < n
            · rw [chkK_3 hk (by omega) h5]
              have g5 : (255 : Int) < (n : Int) := by omega
              go_enter Try.func14, Try.ntmps14
              go_wp2_with (first | (go_at_call 42; refine (bit_to (by assumption) _).mono ?_; rintro e w2 ⟨rfl, rfl⟩) | (go_at_call 43; refine (kind_yes hk _).mono ?_; rintro e w2 ⟨rfl, rfl⟩))
              go_ret
              exact ⟨rfl, B0⟩
            · rw [chkK_4 hk (by omega) h5]
              have g5 : ¬ (255 : Int) < (n : Int) := by omega
              try clear h0
              go_enter Try.func14, Try.ntmps14
              go_wp2_with (first | (go_at_call 42; refine (bit_to (by assumption) _).mono ?_; rintro e w2 ⟨rfl, rfl⟩) | (go_at_call 43; refine (kind_yes hk _).mono ?_; rintro e w2 ⟨rfl, rfl⟩))
              go_ret
              exact ⟨rfl, B0⟩
        · rw [chkK_1 hk]
          go_enter Try.func14, Try.ntmps14
          go_wp2_with (first | (go_at_call 42; refine (bit_to (by assumption) _).mono ?_; rintro e w2 ⟨rfl, rfl⟩) | (go_at_call 43; refine (kind_no hk _).mono ?_; rintro e w2 ⟨rfl, rfl⟩))
          go_ret
          exact ⟨rfl, B0⟩
end Go.Proofs.Ytbnfjielnamepaa.Dp
