/- Latency: after an acknowledgement as many events may be skipped as the latency says: walks. -/
import Derived.Test.YtfkjbpgobgmmfaaLatLives
import Derived.Deep.CutRange
set_option linter.unusedVariables false
set_option linter.unusedSimpArgs false
namespace Go.Proofs.Ytfkjbpgobgmmfaa.Lat
open Go.RowKit Mem Oct Rw Av
open Base (thenB)

set_option maxRecDepth 100000 in
set_option maxHeartbeats 4000000 in
theorem use_any (a s : Int) (f : Bool) (n : Int) (w : World) : Calls Try.prog 7 #[.agg #[.int .i64 a, .int .i64 s, .bool f], .int .i64 n] w fun e w' => e = .returned (.bool true) ∧ Below w.heap.size w w' := by
  have BX : Below w.heap.size w (w.alloc (.cells #[.int .i64 a, .int .i64 s, .bool f] 23)) := (Below.refl _ _).alloc (Nat.le_refl _) _
  have K1 : Blk (w.alloc (.cells #[.int .i64 a, .int .i64 s, .bool f] 23)) (w.heap.size) 23 #[.int .i64 a, .int .i64 s, .bool f] := Blk.fresh w 23 #[.int .i64 a, .int .i64 s, .bool f]
  have HL := Lib.hid lives_any
  obtain ⟨m, hm⟩ : ∃ m : Nat, lat n = m := ⟨(lat n).toNat, by have := lat_bd n; omega⟩
  have hmb : m ≤ 499 := by have := lat_bd n; omega
  have hmx : max 0 (min n 499) = (m : Int) := hm
  have HS : Hid (∀ w, Calls Try.prog 11 #[.agg #[.int .i64 a, .int .i64 s, .bool f], .int .i64 n] w fun e w' => e = .returned (.agg #[.int .i64 (m : Int), .int .i64 0, .bool true]) ∧ Below w.heap.size w w') := Lib.hid fun w => by have := set_any a s n f w; rwa [hm] at this
  have HA : Hid (∀ w, Calls Try.prog 17 #[.agg #[.int .i64 (m : Int), .int .i64 0, .bool true], .bool true] w fun e w' => e = .returned (.agg #[.int .i64 (m : Int), .int .i64 0, .bool false]) ∧ Below w.heap.size w w') := Lib.hid fun w => attend_any m 0 true true w
  have HY : Hid (∀ j : Nat, j < m → ∀ w, Calls Try.prog 15 #[.agg #[.int .i64 (m : Int), .int .i64 (j : Int), .bool false]] w fun e w' => e = .returned (.tuple #[.agg #[.int .i64 (m : Int), .int .i64 ((j : Int) + 1), .bool false], .int .i64 0]) ∧ Below w.heap.size w w') := Lib.hid fun j hj w => skip_yes (by unfold mst; simp; omega) (by omega) w
  have HZ : Hid (∀ w, Calls Try.prog 15 #[.agg #[.int .i64 (m : Int), .int .i64 (m : Int), .bool false]] w fun e w' => e = .returned (.tuple #[.agg #[.int .i64 (m : Int), .int .i64 (m : Int), .bool false], .int .i64 9]) ∧ Below w.heap.size w w') := Lib.hid fun w => skip_no (by unfold mst; simp) w
  clear hm
  go_enter Try.func7, Try.ntmps7
  go_upto_region 3 with (go_at_call 8; refine (HL.out _).mono ?_; rintro e W1 ⟨rfl, b1⟩)
  replace BX := thenB BX b1
  replace K1 := K1.below b1 K1.lt
  have k0 := K1.cell 0
  have k1 := K1.cell 1
  have k2 := K1.cell 2
  go_upto_region 4 with (first | (go_at_call 11; refine (HS.out _).mono ?_; rintro e W2 ⟨rfl, b2⟩) | (go_at_call 17; refine (HA.out _).mono ?_; rintro e W3 ⟨rfl, b3⟩))
  replace BX := thenB (thenB BX b2) b3
  clear k0 k1 k2 K1
  have K5 := Blk.fresh W3 23 #[.int .i64 (m : Int), .int .i64 0, .bool false]
  replace BX := BX.alloc BX.size (.cells #[.int .i64 (m : Int), .int .i64 0, .bool false] 23)
  obtain ⟨g5, eg5⟩ : ∃ g, W3.heap.size = g := ⟨_, rfl⟩
  rw [eg5] at K5
  try simp only [eg5]
  generalize W3.alloc (.cells #[.int .i64 (m : Int), .int .i64 0, .bool false] 23) = W4 at *
  have hg5 : w.heap.size ≤ g5 := by rw [← eg5]; exact (thenB (thenB (thenB ((Below.refl _ _).alloc (Nat.le_refl _) _) b1) b2) b3).size
  clear eg5 b1 b2 b3
  go_wp2_with fail
  go_loopw [6, 7] (fun s6 s7 wr => ∃ j : Nat, j ≤ m ∧ s6 = .int .i64 j ∧ s7 = .int .i64 j ∧ Blk wr g5 23 #[.int .i64 (m : Int), .int .i64 (j : Int), .bool false] ∧ Below w.heap.size w wr) (fun _ s7 _ => 500 - (intOf s7).toNat)
  case atStart => exact ⟨0, by omega, rfl, rfl, K5, BX⟩
  case round =>
    obtain ⟨j, hj, rfl, rfl, KJ, BJ⟩ := hrel
    clear K5 BX
    have K5 := KJ
    have BX := BJ
    clear KJ BJ
    have g1 : (j : Int) < 500 := by omega
    have k0 := K5.cell 0
    have k1 := K5.cell 1
    have k2 := K5.cell 2
    by_cases cj : j < m
    · have HYj := Lib.hid (HY.out j cj)
      have e5 : IntKind.i64.wrap ((j : Int) + 1) = (j : Int) + 1 := by simp only [IntKind.wrap, IntKind.signed, IntKind.bits]; simp; omega
      go_upto_region 9 with (go_at_call 15; refine (HYj.out _).mono ?_; rintro e X1 ⟨rfl, b1⟩)
      replace BX := thenB BX b1
      replace K5 := K5.below b1 K5.lt
      clear k0 k1 k2
      have K8 := Blk.fresh X1 23 #[.int .i64 (m : Int), .int .i64 ((j : Int) + 1), .bool false]
      replace BX := BX.alloc BX.size (.cells #[.int .i64 (m : Int), .int .i64 ((j : Int) + 1), .bool false] 23)
      replace K5 := K5.alloc (.cells #[.int .i64 (m : Int), .int .i64 ((j : Int) + 1), .bool false] 23)
      obtain ⟨g8, eg8⟩ : ∃ g, X1.heap.size = g := ⟨_, rfl⟩
      rw [eg8] at K8
      try simp only [eg8]
      generalize X1.alloc (.cells #[.int .i64 (m : Int), .int .i64 ((j : Int) + 1), .bool false] 23) = X2 at *
      clear eg8
      have H1 : (#[.int .i64 (m : Int), .int .i64 ((j : Int) + 1), .bool false] : Array Value).all (·.oneCell') = true := by rw [← Array.all_toList]; rfl
      go_upto_region 11 with (first | (refine wpList_load_row rfl 23 (.tmp 8) rfl g8 rfl 23 _ (0, 0) _ K8 Try.underlying23 rfl (by kernel_rfl) ?_) | (refine wpList_store_row rfl 23 (.tmp 5) _ rfl g5 #[.int .i64 (m : Int), .int .i64 ((j : Int) + 1), .bool false] rfl rfl 23 _ K5 (by kernel_rfl) rfl H1 ?_))
      have K5 := Av.bset_row (cs' := #[.int .i64 (m : Int), .int .i64 ((j : Int) + 1), .bool false]) K5
      have BX := below_setRow BX hg5 #[.int .i64 (m : Int), .int .i64 ((j : Int) + 1), .bool false]
      go_wp2_with fail
      go_roundw
      case rel => exact ⟨j + 1, by omega, by go_num, by go_num, K5, BX⟩
      case measure => simp [intOf]; omega
    · obtain rfl : j = m := by omega
      have e7 : ((j : Int) == max 0 (min n 499)) = true := by rw [hmx]; simp
      go_wp2_with (go_at_call 15; refine (HZ.out _).mono ?_; rintro e X1 ⟨rfl, b1⟩)
      go_ret
      exact ⟨rfl, (thenB BX b1).alloc (thenB BX b1).size _⟩
end Go.Proofs.Ytfkjbpgobgmmfaa.Lat
