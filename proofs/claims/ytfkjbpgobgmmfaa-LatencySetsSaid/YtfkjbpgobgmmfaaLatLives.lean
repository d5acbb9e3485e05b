/- Latency: the results that the document gives: walks. -/
import Derived.Test.YtfkjbpgobgmmfaaLatWalks
set_option linter.unusedVariables false
set_option linter.unusedSimpArgs false
namespace Go.Proofs.Ytfkjbpgobgmmfaa.Lat
open Go.RowKit Mem Oct Rw Av
open Base (thenB)

theorem lis_eql (a s : Int) (f : Bool) (a' s' : Int) (f' : Bool) (w : World) : (binOp .eql 23 (.agg #[.int .i64 a, .int .i64 s, .bool f]) (.agg #[.int .i64 a', .int .i64 s', .bool f'])).run Try.prog w = .ok (.bool (decide (a = a' ∧ s = s' ∧ f = f'))) w := by
  go_simp
  (repeat' split) <;> simp_all
theorem lis_eg (a s : Int) (f : Bool) (a' s' : Int) (f' : Bool) (w : World) (x y : Operand) : (eqGuard .eql 23 x y (.agg #[.int .i64 a, .int .i64 s, .bool f]) (.agg #[.int .i64 a', .int .i64 s', .bool f'])).run Try.prog w = .ok () w := by
  go_simp
theorem lis_neq (a s : Int) (f : Bool) (a' s' : Int) (f' : Bool) (w : World) : (binOp .neq 23 (.agg #[.int .i64 a, .int .i64 s, .bool f]) (.agg #[.int .i64 a', .int .i64 s', .bool f'])).run Try.prog w = .ok (.bool (!decide (a = a' ∧ s = s' ∧ f = f'))) w := by
  go_simp
  (repeat' split) <;> simp_all
theorem lis_ng (a s : Int) (f : Bool) (a' s' : Int) (f' : Bool) (w : World) (x y : Operand) : (eqGuard .neq 23 x y (.agg #[.int .i64 a, .int .i64 s, .bool f]) (.agg #[.int .i64 a', .int .i64 s', .bool f'])).run Try.prog w = .ok () w := by
  go_simp
set_option maxRecDepth 100000 in
set_option maxHeartbeats 4000000 in
theorem lives_any (w : World) : Calls Try.prog 8 #[] w fun e w' => e = .returned (.bool true) ∧ Below w.heap.size w w' := by
  obtain ⟨V, hV⟩ : ∃ V, V = (.agg #[.int .i64 3, .int .i64 0, .bool true] : Value) := ⟨_, rfl⟩
  obtain ⟨U, hU⟩ : ∃ U, U = (.agg #[.int .i64 499, .int .i64 0, .bool true] : Value) := ⟨_, rfl⟩
  have q1 : ∀ w, (binOp .eql 23 V (.agg #[.int .i64 3, .int .i64 0, .bool true])).run Try.prog w = .ok (.bool true) w := fun w => by rw [hV]; simpa using lis_eql 3 0 true 3 0 true w
  have q2 : ∀ w x y, (eqGuard .eql 23 x y V (.agg #[.int .i64 3, .int .i64 0, .bool true])).run Try.prog w = .ok () w := fun w x y => by rw [hV]; exact lis_eg 3 0 true 3 0 true w x y
  have q3 : ∀ w, (binOp .eql 23 U (.agg #[.int .i64 499, .int .i64 0, .bool true])).run Try.prog w = .ok (.bool true) w := fun w => by rw [hU]; simpa using lis_eql 499 0 true 499 0 true w
  have q4 : ∀ w x y, (eqGuard .eql 23 x y U (.agg #[.int .i64 499, .int .i64 0, .bool true])).run Try.prog w = .ok () w := fun w x y => by rw [hU]; exact lis_eg 499 0 true 499 0 true w x y
  have HN : Hid (∀ w, Calls Try.prog 9 #[.int .i64 3] w fun e w' => e = .returned (V) ∧ Below w.heap.size w w') := Lib.hid fun w => by (try rw [hV]); (try rw [hU]); exact new_any 3 w
  have HA : Hid (∀ w, Calls Try.prog 17 #[V, .bool true] w fun e w' => e = .returned (.agg #[.int .i64 3, .int .i64 0, .bool false]) ∧ Below w.heap.size w w') := Lib.hid fun w => by (try rw [hV]); (try rw [hU]); exact attend_any 3 0 true true w
  have HS : Hid (∀ w, Calls Try.prog 15 #[.agg #[.int .i64 3, .int .i64 0, .bool false]] w fun e w' => e = .returned (.tuple #[.agg #[.int .i64 3, .int .i64 1, .bool false], .int .i64 0]) ∧ Below w.heap.size w w') := Lib.hid fun w => by (try rw [hV]); (try rw [hU]); exact skip_yes (a := 3) (s := 0) (f := false) (by decide) (by decide) w
  have HT : Hid (∀ w, Calls Try.prog 15 #[V] w fun e w' => e = .returned (.tuple #[.agg #[.int .i64 3, .int .i64 0, .bool true], .int .i64 9]) ∧ Below w.heap.size w w') := Lib.hid fun w => by (try rw [hV]); (try rw [hU]); exact skip_no (a := 3) (s := 0) (f := true) (by decide) w
  have HM1 : Hid (∀ w, Calls Try.prog 13 #[V, .bool false] w fun e w' => e = .returned (.bool true) ∧ Below w.heap.size w w') := Lib.hid fun w => by (try rw [hV]); (try rw [hU]); exact must_any 3 0 true false w
  have HM2 : Hid (∀ b w, Calls Try.prog 13 #[.agg #[.int .i64 3, .int .i64 0, .bool false], .bool b] w fun e w' => e = .returned (.bool b) ∧ Below w.heap.size w w') := Lib.hid fun b w => by have := must_any 3 0 false b w; cases b <;> exact this
  have HU : Hid (∀ w, Calls Try.prog 11 #[.agg #[.int .i64 3, .int .i64 1, .bool false], .int .i64 600] w fun e w' => e = .returned (U) ∧ Below w.heap.size w w') := Lib.hid fun w => by (try rw [hV]); (try rw [hU]); exact set_any 3 1 600 false w
  clear hV hU
  go_enter Try.func8, Try.ntmps8
  go_upto_region 2 with (first | (go_at_call 9; refine (HN.out _).mono ?_; rintro e w1 ⟨rfl, b1⟩) | (go_at_call 17; refine (HA.out _).mono ?_; rintro e w2 ⟨rfl, b2⟩))
  have BX := thenB b1 b2
  have K1 := Blk.fresh w2 23 #[.int .i64 3, .int .i64 0, .bool false]
  replace BX := BX.alloc BX.size (.cells #[.int .i64 3, .int .i64 0, .bool false] 23)
  obtain ⟨g1, eg1⟩ : ∃ g, w2.heap.size = g := ⟨_, rfl⟩
  rw [eg1] at K1
  try simp only [eg1]
  generalize w2.alloc (.cells #[.int .i64 3, .int .i64 0, .bool false] 23) = W2 at *
  clear eg1
  have k0 := K1.cell 0
  have k1 := K1.cell 1
  have k2 := K1.cell 2
  go_upto_region 3 with (go_at_call 15; refine (HS.out _).mono ?_; rintro e w3 ⟨rfl, b3⟩)
  replace BX := thenB BX b3
  replace K1 := K1.below b3 K1.lt
  clear k0 k1 k2
  have K2 := Blk.fresh w3 23 #[.int .i64 3, .int .i64 1, .bool false]
  replace BX := BX.alloc BX.size (.cells #[.int .i64 3, .int .i64 1, .bool false] 23)
  replace K1 := K1.alloc (.cells #[.int .i64 3, .int .i64 1, .bool false] 23)
  obtain ⟨g2, eg2⟩ : ∃ g, w3.heap.size = g := ⟨_, rfl⟩
  rw [eg2] at K2
  try simp only [eg2]
  generalize w3.alloc (.cells #[.int .i64 3, .int .i64 1, .bool false] 23) = W3 at *
  clear eg2
  go_upto_region 4 with (first | (go_at_call 9; refine (HN.out _).mono ?_; rintro e w4 ⟨rfl, b4⟩) | (go_at_call 15; refine (HT.out _).mono ?_; rintro e w5 ⟨rfl, b5⟩))
  replace BX := thenB (thenB BX b4) b5
  replace K1 := (K1.below b4 K1.lt).below b5 (K1.below b4 K1.lt).lt
  replace K2 := (K2.below b4 K2.lt).below b5 (K2.below b4 K2.lt).lt
  have K3 := Blk.fresh w5 23 #[.int .i64 3, .int .i64 0, .bool true]
  replace BX := BX.alloc BX.size (.cells #[.int .i64 3, .int .i64 0, .bool true] 23)
  replace K1 := K1.alloc (.cells #[.int .i64 3, .int .i64 0, .bool true] 23)
  replace K2 := K2.alloc (.cells #[.int .i64 3, .int .i64 0, .bool true] 23)
  obtain ⟨g3, eg3⟩ : ∃ g, w5.heap.size = g := ⟨_, rfl⟩
  rw [eg3] at K3
  try simp only [eg3]
  generalize w5.alloc (.cells #[.int .i64 3, .int .i64 0, .bool true] 23) = W5 at *
  clear eg3
  have k0 := K1.cell 0
  have k1 := K1.cell 1
  have k2 := K1.cell 2
  have m0 := K2.cell 0
  have m1 := K2.cell 1
  have m2 := K2.cell 2
  go_wp2_with (first | (go_at_call 9; refine (HN.out _).mono ?_; rintro e ww ⟨rfl, bb⟩; replace BX := thenB BX bb; replace K1 := K1.below bb K1.lt; replace k0 := K1.cell 0; replace k1 := K1.cell 1; replace k2 := K1.cell 2; replace K2 := K2.below bb K2.lt; replace m0 := K2.cell 0; replace m1 := K2.cell 1; replace m2 := K2.cell 2) | (go_at_call_of 13 V; refine (HM1.out _).mono ?_; rintro e ww ⟨rfl, bb⟩; replace BX := thenB BX bb; replace K1 := K1.below bb K1.lt; replace k0 := K1.cell 0; replace k1 := K1.cell 1; replace k2 := K1.cell 2; replace K2 := K2.below bb K2.lt; replace m0 := K2.cell 0; replace m1 := K2.cell 1; replace m2 := K2.cell 2) | (go_at_call 13; refine (HM2.out _ _).mono ?_; rintro e ww ⟨rfl, bb⟩; replace BX := thenB BX bb; replace K1 := K1.below bb K1.lt; replace k0 := K1.cell 0; replace k1 := K1.cell 1; replace k2 := K1.cell 2; replace K2 := K2.below bb K2.lt; replace m0 := K2.cell 0; replace m1 := K2.cell 1; replace m2 := K2.cell 2) | (go_at_call 11; refine (HU.out _).mono ?_; rintro e ww ⟨rfl, bb⟩; replace BX := thenB BX bb; replace K1 := K1.below bb K1.lt; replace k0 := K1.cell 0; replace k1 := K1.cell 1; replace k2 := K1.cell 2; replace K2 := K2.below bb K2.lt; replace m0 := K2.cell 0; replace m1 := K2.cell 1; replace m2 := K2.cell 2))
  go_ret
  exact ⟨rfl, BX⟩
end Go.Proofs.Ytfkjbpgobgmmfaa.Lat
