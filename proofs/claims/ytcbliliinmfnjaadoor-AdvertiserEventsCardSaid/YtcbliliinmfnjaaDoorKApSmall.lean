/- Advertising PDUs: the parts of a kind, and what is wrong with each: contracts over the program. -/
import Derived.Test.YtcbliliinmfnjaaDoorKApParts
set_option linter.unusedVariables false
set_option linter.unusedSimpArgs false
namespace Go.Proofs.YtcbliliinmfnjaaDoor.Ap
open Go.RowKit Mem Oct
open Base (thenB)

theorem parts_0 (w : World) : Calls Tryd.prog 85 #[.int .i64 0] w fun e w' => e = .returned (.tuple #[.agg #[.bool false, .bool true, .bool false], .bool true]) ∧ Below w.heap.size w w' := by
  go_enter Tryd.func85, Tryd.ntmps85
  go_wp2_with fail
  refine bodyPost_ret (v := .tuple #[.agg #[.bool false, .bool true, .bool false], .bool true]) ?_ rfl ⟨rfl, ?_⟩
  · simp [results, Tryd.f85, go_sem]
  · exact ((Below.refl _ _).alloc (Nat.le_refl _) _).alloc (by simp) _
theorem parts_1 (w : World) : Calls Tryd.prog 85 #[.int .i64 1] w fun e w' => e = .returned (.tuple #[.agg #[.bool true, .bool false, .bool false], .bool true]) ∧ Below w.heap.size w w' := by
  go_enter Tryd.func85, Tryd.ntmps85
  go_wp2_with fail
  refine bodyPost_ret (v := .tuple #[.agg #[.bool true, .bool false, .bool false], .bool true]) ?_ rfl ⟨rfl, ?_⟩
  · simp [results, Tryd.f85, go_sem]
  · exact ((Below.refl _ _).alloc (Nat.le_refl _) _).alloc (by simp) _
theorem parts_2 (w : World) : Calls Tryd.prog 85 #[.int .i64 2] w fun e w' => e = .returned (.tuple #[.agg #[.bool false, .bool true, .bool false], .bool true]) ∧ Below w.heap.size w w' := by
  go_enter Tryd.func85, Tryd.ntmps85
  go_wp2_with fail
  refine bodyPost_ret (v := .tuple #[.agg #[.bool false, .bool true, .bool false], .bool true]) ?_ rfl ⟨rfl, ?_⟩
  · simp [results, Tryd.f85, go_sem]
  · exact ((Below.refl _ _).alloc (Nat.le_refl _) _).alloc (by simp) _
theorem parts_3 (w : World) : Calls Tryd.prog 85 #[.int .i64 3] w fun e w' => e = .returned (.tuple #[.agg #[.bool true, .bool false, .bool false], .bool true]) ∧ Below w.heap.size w w' := by
  go_enter Tryd.func85, Tryd.ntmps85
  go_wp2_with fail
  refine bodyPost_ret (v := .tuple #[.agg #[.bool true, .bool false, .bool false], .bool true]) ?_ rfl ⟨rfl, ?_⟩
  · simp [results, Tryd.f85, go_sem]
  · exact ((Below.refl _ _).alloc (Nat.le_refl _) _).alloc (by simp) _
theorem parts_4 (w : World) : Calls Tryd.prog 85 #[.int .i64 4] w fun e w' => e = .returned (.tuple #[.agg #[.bool false, .bool true, .bool false], .bool true]) ∧ Below w.heap.size w w' := by
  go_enter Tryd.func85, Tryd.ntmps85
  go_wp2_with fail
  refine bodyPost_ret (v := .tuple #[.agg #[.bool false, .bool true, .bool false], .bool true]) ?_ rfl ⟨rfl, ?_⟩
  · simp [results, Tryd.f85, go_sem]
  · exact ((Below.refl _ _).alloc (Nat.le_refl _) _).alloc (by simp) _
theorem parts_5 (w : World) : Calls Tryd.prog 85 #[.int .i64 5] w fun e w' => e = .returned (.tuple #[.agg #[.bool true, .bool false, .bool true], .bool true]) ∧ Below w.heap.size w w' := by
  go_enter Tryd.func85, Tryd.ntmps85
  go_wp2_with fail
  refine bodyPost_ret (v := .tuple #[.agg #[.bool true, .bool false, .bool true], .bool true]) ?_ rfl ⟨rfl, ?_⟩
  · simp [results, Tryd.f85, go_sem]
  · exact ((Below.refl _ _).alloc (Nat.le_refl _) _).alloc (by simp) _
theorem parts_6 (w : World) : Calls Tryd.prog 85 #[.int .i64 6] w fun e w' => e = .returned (.tuple #[.agg #[.bool false, .bool true, .bool false], .bool true]) ∧ Below w.heap.size w w' := by
  go_enter Tryd.func85, Tryd.ntmps85
  go_wp2_with fail
  refine bodyPost_ret (v := .tuple #[.agg #[.bool false, .bool true, .bool false], .bool true]) ?_ rfl ⟨rfl, ?_⟩
  · simp [results, Tryd.f85, go_sem]
  · exact ((Below.refl _ _).alloc (Nat.le_refl _) _).alloc (by simp) _
theorem parts_no (k : Int) (w : World) (h : ¬ (0 ≤ k ∧ k ≤ 6)) : Calls Tryd.prog 85 #[.int .i64 k] w fun e w' => e = .returned (.tuple #[.agg #[.bool false, .bool false, .bool false], .bool false]) ∧ Below w.heap.size w w' := by
  have g0 : (k == 0) = false := by simpa using (by omega : ¬ k = 0)
  have g1 : (k == 1) = false := by simpa using (by omega : ¬ k = 1)
  have g2 : (k == 2) = false := by simpa using (by omega : ¬ k = 2)
  have g3 : (k == 3) = false := by simpa using (by omega : ¬ k = 3)
  have g4 : (k == 4) = false := by simpa using (by omega : ¬ k = 4)
  have g5 : (k == 5) = false := by simpa using (by omega : ¬ k = 5)
  have g6 : (k == 6) = false := by simpa using (by omega : ¬ k = 6)
  clear h
  go_enter Tryd.func85, Tryd.ntmps85
  go_wp2_with fail
  refine bodyPost_ret (v := .tuple #[.agg #[.bool false, .bool false, .bool false], .bool false]) ?_ rfl ⟨rfl, ?_⟩
  · simp [results, Tryd.f85, go_sem]
  · exact ((Below.refl _ _).alloc (Nat.le_refl _) _).alloc (by simp) _
theorem parts_any (k : Int) (w : World) : Calls Tryd.prog 85 #[.int .i64 k] w fun e w' => e = .returned (.tuple #[.agg #[.bool (tgtB k), .bool (datB k), .bool (conB k)], .bool (knoB k)]) ∧ Below w.heap.size w w' := by
  cases h : knoB k with
  | true =>
    rcases kinds h with rfl | rfl | rfl | rfl | rfl | rfl | rfl
    · exact parts_0 w
    · exact parts_1 w
    · exact parts_2 w
    · exact parts_3 w
    · exact parts_4 w
    · exact parts_5 w
    · exact parts_6 w
  | false =>
    have h := kind_no h
    have e : tgtB k = false ∧ datB k = false ∧ conB k = false := by
      unfold tgtB datB conB
      refine ⟨?_, ?_, ?_⟩ <;> simp <;> omega
    rw [e.1, e.2.1, e.2.2]
    exact parts_no k w h

theorem ctarget_any (T D C : Bool) (k b : Int) (w : World) (hk : -9223372036854775808 ≤ k ∧ k ≤ 9223372036854775807) (hb : 0 ≤ b ∧ b ≤ 18446744073709551615) (hT : Adr.Tab w) :
    Calls Tryd.prog 88 #[.agg #[.bool T, .bool D, .bool C], .agg #[.int .i64 k, .int .u64 b]] w fun e w' => e = .returned (.int .i64 (tE T k b)) ∧ Below w.heap.size w w' := by
  have HC : Hid (∀ w, Adr.Tab w → Calls Tryd.prog 87 #[.agg #[.int .i64 k, .int .u64 b]] w fun e w' => e = .returned (.int .i64 (Adr.chk k b)) ∧ Below w.heap.size w w') := Lib.hid fun w hT => Adr.check_any k b w hk hb hT
  have A0 : Below w.heap.size w ((w.alloc (.cells #[.bool T, .bool D, .bool C] 132)).alloc (.cells #[.int .i64 k, .int .u64 b] 24)) := ((Below.refl _ _).alloc (Nat.le_refl _) _).alloc (by simp) _
  have T0 := hT.below A0
  cases T with
  | true =>
    have e : Hid (tE true k b = Adr.chk k b) := Lib.hid rfl
    rw [e.out]
    generalize Adr.chk k b = R at *
    go_enter Tryd.func88, Tryd.ntmps88
    go_wp2_with fail
    generalize (w.alloc (.cells #[.bool true, .bool D, .bool C] 132)).alloc (.cells #[.int .i64 k, .int .u64 b] 24) = W0 at *
    refine (HC.out W0 T0).mono ?_
    rintro e w1 ⟨rfl, b1⟩
    go_wp2_with fail
    go_ret
    exact ⟨rfl, thenB A0 b1⟩
  | false =>
    have q2 := adr_ng k b 0 0
    have q1 := adr_neq k b 0 0
    by_cases hz : k = 0 ∧ b = 0
    · have e : Hid (tE false k b = 0) := Lib.hid (by unfold tE; rw [if_neg (by simp), if_pos hz])
      rw [decide_eq_true hz] at q1
      rw [e.out]
      clear hz
      go_enter Tryd.func88, Tryd.ntmps88
      go_wp2_with fail
      go_ret
      exact ⟨rfl, A0⟩
    · have e : Hid (tE false k b = 1) := Lib.hid (by unfold tE; rw [if_neg (by simp), if_neg hz])
      rw [decide_eq_false hz] at q1
      rw [e.out]
      clear hz
      go_enter Tryd.func88, Tryd.ntmps88
      go_wp2_with fail
      go_ret
      exact ⟨rfl, A0⟩
theorem cdata_any (T D C : Bool) (A : Option Addr) (n c : Nat) (w : World) :
    Calls Tryd.prog 89 #[.agg #[.bool T, .bool D, .bool C], .slice A n c] w fun e w' => e = .returned (.int .i64 (dE D n)) ∧ Below w.heap.size w w' := by
  have A0 : Below w.heap.size w (w.alloc (.cells #[.bool T, .bool D, .bool C] 132)) := (Below.refl _ _).alloc (Nat.le_refl _) _
  cases D with
  | true =>
    by_cases h : 31 < n
    · have e : Hid (dE true n = 4) := Lib.hid (by unfold dE; rw [if_pos rfl, if_pos h])
      rw [e.out]
      have g1 : (31 : Int) < (n : Int) := by omega
      go_enter Tryd.func89, Tryd.ntmps89
      go_wp2_with fail
      go_ret
      exact ⟨rfl, A0⟩
    · have e : Hid (dE true n = 0) := Lib.hid (by unfold dE; rw [if_pos rfl, if_neg h])
      rw [e.out]
      have g1 : ¬ (31 : Int) < (n : Int) := by omega
      go_enter Tryd.func89, Tryd.ntmps89
      go_wp2_with fail
      go_ret
      exact ⟨rfl, A0⟩
  | false =>
    by_cases h : 0 < n
    · have e : Hid (dE false n = 1) := Lib.hid (by unfold dE; rw [if_neg (by simp), if_pos h])
      rw [e.out]
      have g1 : (0 : Int) < (n : Int) := by omega
      go_enter Tryd.func89, Tryd.ntmps89
      go_wp2_with fail
      go_ret
      exact ⟨rfl, A0⟩
    · have e : Hid (dE false n = 0) := Lib.hid (by unfold dE; rw [if_neg (by simp), if_neg h])
      rw [e.out]
      have g1 : ¬ (0 : Int) < (n : Int) := by omega
      go_enter Tryd.func89, Tryd.ntmps89
      go_wp2_with fail
      go_ret
      exact ⟨rfl, A0⟩
abbrev celC (p : Pd) : Array Value := #[.int .u32 p.a, .int .u32 p.b, .int .i64 p.s, .int .i64 p.o, .int .i64 p.i, .int .i64 p.l, .int .i64 p.t, .int .u64 (p.m : Int), .int .i64 p.h, .int .i64 p.d, .int .i64 p.g]
set_option maxHeartbeats 1000000 in
theorem cconn_let (T D C : Bool) (a b s o i l t m h d g R : Int) (Z : Bool) (w : World) (HC : Hid (∀ w, Calls Tryd.prog 110 #[.agg #[.int .u32 a, .int .u32 b, .int .i64 s, .int .i64 o, .int .i64 i, .int .i64 l, .int .i64 t, .int .u64 m, .int .i64 h, .int .i64 d, .int .i64 g]] w fun e w' => e = .returned (.int .i64 R) ∧ Below w.heap.size w w'))
    (hz : Z = decide (a = 0 ∧ b = 0 ∧ s = 0 ∧ o = 0 ∧ i = 0 ∧ l = 0 ∧ t = 0 ∧ m = 0 ∧ h = 0 ∧ d = 0 ∧ g = 0)) (X : Int) (hX : Hid (X = if C = true then R else if Z = true then 0 else 1)) :
    Calls Tryd.prog 90 #[.agg #[.bool T, .bool D, .bool C], .agg #[.int .u32 a, .int .u32 b, .int .i64 s, .int .i64 o, .int .i64 i, .int .i64 l, .int .i64 t, .int .u64 m, .int .i64 h, .int .i64 d, .int .i64 g]] w fun e w' => e = .returned (.int .i64 X) ∧ Below w.heap.size w w' := by
  have A0 : Below w.heap.size w ((w.alloc (.cells #[.bool T, .bool D, .bool C] 132)).alloc (.cells #[.int .u32 a, .int .u32 b, .int .i64 s, .int .i64 o, .int .i64 i, .int .i64 l, .int .i64 t, .int .u64 m, .int .i64 h, .int .i64 d, .int .i64 g] 50)) := ((Below.refl _ _).alloc (Nat.le_refl _) _).alloc (by simp) _
  have q1 := par_neq a b s o i l t m h d g 0 0 0 0 0 0 0 0 0 0 0
  have q2 := par_ng a b s o i l t m h d g 0 0 0 0 0 0 0 0 0 0 0
  rw [← hz] at q1
  clear hz
  cases C with
  | true =>
    have e1 : Hid (X = R) := Lib.hid (hX.out.trans (if_pos rfl))
    rw [e1.out]
    clear q1 q2
    go_enter Tryd.func90, Tryd.ntmps90
    go_wp2_with fail
    refine (HC.out _).mono ?_
    rintro e w1 ⟨rfl, b1⟩
    go_wp2_with fail
    go_ret
    exact ⟨rfl, thenB A0 b1⟩
  | false =>
    cases Z with
    | true =>
      have e1 : Hid (X = 0) := Lib.hid hX.out
      rw [e1.out]
      rw [Bool.not_true] at q1
      go_enter Tryd.func90, Tryd.ntmps90
      go_wp2_with fail
      go_ret
      exact ⟨rfl, A0⟩
    | false =>
      have e1 : Hid (X = 1) := Lib.hid hX.out
      rw [e1.out]
      rw [Bool.not_false] at q1
      go_enter Tryd.func90, Tryd.ntmps90
      go_wp2_with fail
      go_ret
      exact ⟨rfl, A0⟩
theorem cconn_any (T D C : Bool) (p : Pd) (w : World) (hm : p.m ≤ 18446744073709551615) :
    Calls Tryd.prog 90 #[.agg #[.bool T, .bool D, .bool C], .agg (celC p)] w fun e w' => e = .returned (.int .i64 (cE C p)) ∧ Below w.heap.size w w' :=
  cconn_let T D C p.a p.b p.s p.o p.i p.l p.t (p.m : Int) p.h p.d p.g (okC p) (zerC p) w (Lib.hid fun w => Cn.check_any p.a p.b p.s p.o p.i p.l p.t p.h p.d p.g p.m w hm) (by unfold zerC; simp only [Int.natCast_eq_zero]) (cE C p) (Lib.hid rfl)
end Go.Proofs.YtcbliliinmfnjaaDoor.Ap
