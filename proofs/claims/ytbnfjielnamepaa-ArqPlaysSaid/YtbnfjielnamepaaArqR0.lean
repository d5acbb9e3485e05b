/- Contracts of the document's small functions. -/
import Derived.Test.YtbnfjielnamepaaArqWalks1
import Derived.Test.YtbnfjielnamepaaDpWalks
set_option linter.unusedVariables false
set_option linter.unusedSimpArgs false
namespace Go.Proofs.Ytbnfjielnamepaa.Dp
open Go.RowKit Mem Oct Rw Av
open Base (thenB)

theorem rbit_to {n : Int} {b : Bool} (h : bitB n = b) (w : World) : Calls Try.prog 44 #[.int .i64 n] w fun e w' => e = .returned (.bool b) ∧ w = w' := by
  subst h
  by_cases h0 : n = 0
  · subst h0
    go_enter Try.func44, Try.ntmps44
    go_wp2_with fail
    go_ret
    exact ⟨rfl, rfl⟩
  · have g0 : (n == 0) = false := by simpa using h0
    have e : bitB n = (n == 1) := by unfold bitB; simp [h0]; rfl
    rw [e]
    clear e h0
    go_enter Try.func44, Try.ntmps44
    go_wp2_with fail
    go_ret
    exact ⟨rfl, rfl⟩
theorem rpacket_any (k : Int) (A : Option Addr) (n c : Nat) (w : World) : Calls Try.prog 45 #[.agg #[.int .i64 k, .slice A n c]] w fun e w' => e = .returned (.int .i64 (chkK k n)) ∧ Below w.heap.size w w' := by
  have B0 : Below w.heap.size w (w.alloc (.cells #[.int .i64 k, .slice A n c] 24)) := (Below.refl _ _).alloc (Nat.le_refl _) _
  by_cases hk : k = 1 ∨ k = 2 ∨ k = 3
  · by_cases h0 : n = 0
    · have gn := n_zero h0
      by_cases hk1 : k = 1
      · rw [chkK_4 hk (by omega) (by omega)]
        subst hk1
        have g5 : ¬ (255 : Int) < (n : Int) := by omega
        try clear h0
        go_enter Try.func45, Try.ntmps45
        go_wp2_with fail
        go_ret
        exact ⟨rfl, B0⟩
      · rw [chkK_2 hk h0 hk1]
        have g1 : (k != 1) = true := by simpa using hk1
        have g2 : ¬ k < 1 := by omega
        have g3 : ¬ 3 < k := by omega
        clear hk hk1 h0
        go_enter Try.func45, Try.ntmps45
        go_wp2_with fail
        go_ret
        exact ⟨rfl, B0⟩
    · have gn := n_pos h0
      have g2 : ¬ k < 1 := by omega
      have g3 : ¬ 3 < k := by omega
      by_cases h5 : 255 < n
      · rw [chkK_3 hk (by omega) h5]
        have g5 : (255 : Int) < (n : Int) := by omega
        clear hk
        go_enter Try.func45, Try.ntmps45
        go_wp2_with fail
        go_ret
        exact ⟨rfl, B0⟩
      · rw [chkK_4 hk (by omega) h5]
        have g5 : ¬ (255 : Int) < (n : Int) := by omega
        clear hk
        go_enter Try.func45, Try.ntmps45
        go_wp2_with fail
        go_ret
        exact ⟨rfl, B0⟩
  · rw [chkK_1 hk]
    by_cases g2 : k < 1
    · clear hk
      go_enter Try.func45, Try.ntmps45
      go_wp2_with fail
      go_ret
      exact ⟨rfl, B0⟩
    · have g3 : 3 < k := by omega
      clear hk
      go_enter Try.func45, Try.ntmps45
      go_wp2_with fail
      go_ret
      exact ⟨rfl, B0⟩
set_option maxHeartbeats 1000000 in
theorem rcheck_any (sn nesn md k : Int) (A : Option Addr) (n c : Nat) (w : World) : Calls Try.prog 15 #[.agg #[.int .i64 sn, .int .i64 nesn, .int .i64 md, .int .i64 k, .slice A n c]] w fun e w' => e = .returned (.int .i64 (chkN sn nesn md k n)) ∧ Below w.heap.size w w' := by
  have B0 : Below w.heap.size w (w.alloc (.cells #[.int .i64 sn, .int .i64 nesn, .int .i64 md, .int .i64 k, .slice A n c] 26)) := (Below.refl _ _).alloc (Nat.le_refl _) _
  cases h1 : bitB sn with
  | false =>
    rw [chk_b1 h1]
    go_enter Try.func15, Try.ntmps15
    go_wp2_with (go_at_call 44; refine (rbit_to (by assumption) _).mono ?_; rintro e w2 ⟨rfl, rfl⟩)
    go_ret
    exact ⟨rfl, B0⟩
  | true =>
    cases h2 : bitB nesn with
    | false =>
      rw [chk_b2 h2]
      go_enter Try.func15, Try.ntmps15
      go_wp2_with (go_at_call 44; refine (rbit_to (by assumption) _).mono ?_; rintro e w2 ⟨rfl, rfl⟩)
      go_ret
      exact ⟨rfl, B0⟩
    | true =>
      cases h3 : bitB md with
      | false =>
        rw [chk_b3 h3]
        go_enter Try.func15, Try.ntmps15
        go_wp2_with (go_at_call 44; refine (rbit_to (by assumption) _).mono ?_; rintro e w2 ⟨rfl, rfl⟩)
        go_ret
        exact ⟨rfl, B0⟩
      | true =>
        rw [chk_b h1 h2 h3]
        have HP := Lib.hid (rpacket_any k A n c)
        generalize chkK k n = R at *
        go_enter Try.func15, Try.ntmps15
        go_wp2_with (first | (go_at_call 44; refine (rbit_to (by assumption) _).mono ?_; rintro e w2 ⟨rfl, rfl⟩) | (go_at_call 45; refine (HP.out _).mono ?_; rintro e w2 ⟨rfl, b2⟩))
        go_ret
        exact ⟨rfl, thenB B0 b2⟩
end Go.Proofs.Ytbnfjielnamepaa.Dp
namespace Go.Proofs.Ytbnfjielnamepaa.Arq
open Go.RowKit Mem Oct Rw Av Dp
open Base (thenB)

theorem rnew_any (w : World) : Calls Try.prog 26 #[] w fun e w' => e = .returned (.agg #[.int .i64 0, .int .i64 0, .slice none 0 0, .bool false, .bool false, .int .i64 0, .int .i64 0]) ∧ Below w.heap.size w w' := by
  have B0 : Below w.heap.size w (w.alloc (.cells #[.int .i64 0, .int .i64 0, .slice none 0 0, .bool false, .bool false, .int .i64 0, .int .i64 0] 43)) := (Below.refl _ _).alloc (Nat.le_refl _) _
  have K := Blk.fresh w 43 #[.int .i64 0, .int .i64 0, .slice none 0 0, .bool false, .bool false, .int .i64 0, .int .i64 0]
  have H1 : (#[.int .i64 0, .int .i64 0, .slice none 0 0, .bool false, .bool false, .int .i64 0, .int .i64 0] : Array Value).all (·.oneCell') = true := by rw [← Array.all_toList]; rfl
  go_enter Try.func26, Try.ntmps26
  go_upto_region 1 with (fail)
  generalize w.alloc (.cells #[.int .i64 0, .int .i64 0, .slice none 0 0, .bool false, .bool false, .int .i64 0, .int .i64 0] 43) = W0 at *
  go_wp2_with (refine wpList_store_row rfl 43 (.tmp 0) _ rfl w.heap.size #[.int .i64 0, .int .i64 0, .slice none 0 0, .bool false, .bool false, .int .i64 0, .int .i64 0] rfl rfl 43 _ K (by kernel_rfl) rfl H1 ?_)
  have KR := setRow_heap W0 w.heap.size _ #[.int .i64 0, .int .i64 0, .slice none 0 0, .bool false, .bool false, .int .i64 0, .int .i64 0] 43 (0, 0) K
  have BE := below_setRow B0 (Nat.le_refl _) #[.int .i64 0, .int .i64 0, .slice none 0 0, .bool false, .bool false, .int .i64 0, .int .i64 0]
  generalize W0.setRow w.heap.size #[.int .i64 0, .int .i64 0, .slice none 0 0, .bool false, .bool false, .int .i64 0, .int .i64 0] = Y at *
  refine bodyPost_ret (v := .agg #[.int .i64 0, .int .i64 0, .slice none 0 0, .bool false, .bool false, .int .i64 0, .int .i64 0]) ?_ rfl ⟨rfl, BE⟩
  have HL := run_loadVar_row (P := Try.prog) Y (w.heap.size) 43 43 #[.int .i64 0, .int .i64 0, .slice none 0 0, .bool false, .bool false, .int .i64 0, .int .i64 0] (0, 0) _ KR Try.underlying43 rfl (by kernel_rfl)
  generalize (#[.int .i64 0, .int .i64 0, .slice none 0 0, .bool false, .bool false, .int .i64 0, .int .i64 0] : Array Value) = CS at *
  simp [results, show (Try.f26).results = #[.cell 0 43] from rfl, asAddr, HL, Act.put]
theorem isblank_to {k : Int} {n : Nat} {b : Bool} (h : blankB k n = b) (A : Option Addr) (c : Nat) (w : World) : Calls Try.prog 56 #[.agg #[.int .i64 k, .slice A n c]] w fun e w' => e = .returned (.bool b) ∧ Below w.heap.size w w' := by
  subst h
  have B0 : Below w.heap.size w (w.alloc (.cells #[.int .i64 k, .slice A n c] 24)) := (Below.refl _ _).alloc (Nat.le_refl _) _
  by_cases h0 : k = 1
  · subst h0
    have e : blankB 1 n = ((n : Int) == 0) := by unfold blankB; by_cases h : n = 0 <;> simp [h]
    rw [e]
    clear e
    go_enter Try.func56, Try.ntmps56
    go_wp2_with fail
    go_ret
    exact ⟨rfl, B0⟩
  · have g0 : (k == 1) = false := by simpa using h0
    have e : blankB k n = false := by unfold blankB; simp [h0]
    rw [e]
    clear e h0
    go_enter Try.func56, Try.ntmps56
    go_wp2_with fail
    go_ret
    exact ⟨rfl, B0⟩
theorem ridle_any (sn nesn : Int) (A : Option Addr) (n c : Nat) (op em : Bool) (ack tak : Int) (w : World) : Calls Try.prog 38 #[.agg #[.int .i64 sn, .int .i64 nesn, .slice A n c, .bool op, .bool em, .int .i64 ack, .int .i64 tak]] w fun e w' => e = .returned (.bool ((n : Int) == 0)) ∧ Below w.heap.size w w' := by
  go_enter Try.func38, Try.ntmps38
  go_wp2_with fail
  go_ret
  exact ⟨rfl, (Below.refl _ _).alloc (Nat.le_refl _) _⟩
end Go.Proofs.Ytbnfjielnamepaa.Arq
