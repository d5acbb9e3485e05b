/- Latency: the statements without a loop hold: walks. -/
import Derived.Test.YtfkjbpgobgmmfaaLatLives
import Derived.Deep.CutRange
set_option linter.unusedVariables false
set_option linter.unusedSimpArgs false
namespace Go.Proofs.Ytfkjbpgobgmmfaa.Lat
open Go.RowKit Mem Oct Rw Av
open Base (thenB)

set_option maxRecDepth 100000 in
set_option maxHeartbeats 4000000 in
theorem sets_any (a s : Int) (f : Bool) (n : Int) (w : World) : Calls Try.prog 3 #[.agg #[.int .i64 a, .int .i64 s, .bool f], .int .i64 n] w fun e w' => e = .returned (.bool true) ∧ Below w.heap.size w w' := by
  have BX : Below w.heap.size w (w.alloc (.cells #[.int .i64 a, .int .i64 s, .bool f] 23)) := (Below.refl _ _).alloc (Nat.le_refl _) _
  have K1 : Blk (w.alloc (.cells #[.int .i64 a, .int .i64 s, .bool f] 23)) (w.heap.size) 23 #[.int .i64 a, .int .i64 s, .bool f] := Blk.fresh w 23 #[.int .i64 a, .int .i64 s, .bool f]
  have HL := Lib.hid lives_any
  have HN := Lib.hid (new_any n)
  have HR := Lib.hid (rnew_any n)
  have HS := Lib.hid (set_any a s n f)
  have HT := Lib.hid (rset_any a s n f)
  have q1 : ∀ w, (binOp .eql 23 (.agg #[.int .i64 (lat n), .int .i64 0, .bool true]) (.agg #[.int .i64 (lat n), .int .i64 0, .bool true])).run Try.prog w = .ok (.bool true) w := fun w => by simpa using lis_eql (lat n) 0 true (lat n) 0 true w
  have q2 : ∀ w x y, (eqGuard .eql 23 x y (.agg #[.int .i64 (lat n), .int .i64 0, .bool true]) (.agg #[.int .i64 (lat n), .int .i64 0, .bool true])).run Try.prog w = .ok () w := fun w x y => lis_eg (lat n) 0 true (lat n) 0 true w x y
  generalize (.agg #[.int .i64 (lat n), .int .i64 0, .bool true] : Value) = V at *
  go_enter Try.func3, Try.ntmps3
  go_upto_region 1 with (fail)
  generalize w.alloc (.cells #[.int .i64 a, .int .i64 s, .bool f] 23) = W0 at *
  have K1' : Blk W0.drew (w.heap.size) 23 #[.int .i64 a, .int .i64 s, .bool f] := Mem.Blk.drew K1
  refine wp_region_held_drew (S := (fun w' => Blk w' (w.heap.size) 23 #[.int .i64 a, .int .i64 s, .bool f])) (by kernel_rfl) ?_ (fun hHeld => ?_)
  · exact K1'
  replace K1 := K1'
  clear K1'
  replace BX : Below w.heap.size w W0.drew := BX.drew
  generalize W0.drew = X0 at *
  refine wpAnyH_ready (rs := [0]) (by kernel_rfl) (by simp) ?_
  refine AllReadyH.cons rfl (fun K hK => ?_) (AllReadyH.nil)
  go_simp
  refine (HL.out X0).mono ?_
  rintro e X1 ⟨rfl, b9⟩
  replace K1 := K1.below b9 K1.lt
  replace BX := Base.thenB BX b9
  clear b9
  refine hK.out _ _ K1 (fun hHeld => ?_)
  clear hK K
  try simp only [List.getElem_toArray, List.getElem_cons_zero, List.getElem_cons_succ, Act.put, List.setIfInBounds_toArray, List.set_cons_zero, List.set_cons_succ]
  refine wpAnyH_take (i := 1) (v := .bool true) rfl (by kernel_rfl) (by kernel_rfl) (by kernel_rfl) (fun _ _ _ h => h) (Or.inl ⟨by first | rfl | go_simp, by intro w9 hSw; (try dsimp only at hSw); go_simp⟩) (by assumption) ?_
  simp only [List.getElem_toArray, List.getElem_cons_zero, List.getElem_cons_succ, Act.put, List.setIfInBounds_toArray, List.set_cons_zero, List.set_cons_succ]
  refine wpAnyH_take (i := 2) (v := .int .i64 n) rfl (by kernel_rfl) (by kernel_rfl) (by kernel_rfl) (fun _ _ _ h => h) (Or.inl ⟨by first | rfl | go_simp, by intro w9 hSw; (try dsimp only at hSw); go_simp⟩) (by assumption) ?_
  simp only [List.getElem_toArray, List.getElem_cons_zero, List.getElem_cons_succ, Act.put, List.setIfInBounds_toArray, List.set_cons_zero, List.set_cons_succ]
  refine wpAnyH_take (i := 4) (v := .int .i64 n) rfl (by kernel_rfl) (by kernel_rfl) (by kernel_rfl) (fun _ _ _ h => h) (Or.inl ⟨by first | rfl | go_simp, by intro w9 hSw; (try dsimp only at hSw); go_simp⟩) (by assumption) ?_
  simp only [List.getElem_toArray, List.getElem_cons_zero, List.getElem_cons_succ, Act.put, List.setIfInBounds_toArray, List.set_cons_zero, List.set_cons_succ]
  refine wpAnyH_ready (rs := [3]) (by kernel_rfl) (by simp) ?_
  refine AllReadyH.cons rfl (fun K hK => ?_) (AllReadyH.nil)
  go_simp
  refine (HN.out X1).mono ?_
  rintro e X2 ⟨rfl, b9⟩
  replace K1 := K1.below b9 K1.lt
  replace BX := Base.thenB BX b9
  clear b9
  refine hK.out _ _ K1 (fun hHeld => ?_)
  clear hK K
  try simp only [List.getElem_toArray, List.getElem_cons_zero, List.getElem_cons_succ, Act.put, List.setIfInBounds_toArray, List.set_cons_zero, List.set_cons_succ]
  refine wpAnyH_ready (rs := [5]) (by kernel_rfl) (by simp) ?_
  refine AllReadyH.cons rfl (fun K hK => ?_) (AllReadyH.nil)
  go_simp
  refine (HR.out X2).mono ?_
  rintro e X3 ⟨rfl, b9⟩
  replace K1 := K1.below b9 K1.lt
  replace BX := Base.thenB BX b9
  clear b9
  refine hK.out _ _ K1 (fun hHeld => ?_)
  clear hK K
  try simp only [List.getElem_toArray, List.getElem_cons_zero, List.getElem_cons_succ, Act.put, List.setIfInBounds_toArray, List.set_cons_zero, List.set_cons_succ]
  refine wpAnyH_take (i := 6) (v := .bool true) rfl (by kernel_rfl) (by kernel_rfl) (by kernel_rfl) (fun _ _ _ h => h) (Or.inl ⟨by first | rfl | go_simp, by intro w9 hSw; (try dsimp only at hSw); go_simp⟩) (by assumption) ?_
  simp only [List.getElem_toArray, List.getElem_cons_zero, List.getElem_cons_succ, Act.put, List.setIfInBounds_toArray, List.set_cons_zero, List.set_cons_succ]
  refine wpAnyH_take (i := 7) (v := .bool true) rfl (by kernel_rfl) (by kernel_rfl) (by kernel_rfl) (fun _ _ _ h => h) (Or.inl ⟨by first | rfl | go_simp, by intro w9 hSw; (try dsimp only at hSw); go_simp⟩) (by assumption) ?_
  simp only [List.getElem_toArray, List.getElem_cons_zero, List.getElem_cons_succ, Act.put, List.setIfInBounds_toArray, List.set_cons_zero, List.set_cons_succ]
  refine wpAnyH_take (i := 8) (v := .bool true) rfl (by kernel_rfl) (by kernel_rfl) (by kernel_rfl) (fun _ _ _ h => h) (Or.inl ⟨by first | rfl | go_simp, by intro w9 hSw; (try dsimp only at hSw); go_simp⟩) (by assumption) ?_
  simp only [List.getElem_toArray, List.getElem_cons_zero, List.getElem_cons_succ, Act.put, List.setIfInBounds_toArray, List.set_cons_zero, List.set_cons_succ]
  refine wpAnyH_take (i := 9) (v := .agg #[.int .i64 a, .int .i64 s, .bool f]) rfl (by kernel_rfl) (by kernel_rfl) (by kernel_rfl) (fun _ _ _ h => h) (Av.yields_part (by first | rfl | go_simp) _ _ rfl (w.heap.size) 0 rfl #[.int .i64 a, .int .i64 s, .bool f] _ 23 #[.int .i64 a, .int .i64 s, .bool f] (fun w9 hSw => hSw) rfl Try.underlying23 rfl (by kernel_rfl)) (by assumption) ?_
  simp only [List.getElem_toArray, List.getElem_cons_zero, List.getElem_cons_succ, Act.put, List.setIfInBounds_toArray, List.set_cons_zero, List.set_cons_succ]
  refine wpAnyH_take (i := 10) (v := .int .i64 n) rfl (by kernel_rfl) (by kernel_rfl) (by kernel_rfl) (fun _ _ _ h => h) (Or.inl ⟨by first | rfl | go_simp, by intro w9 hSw; (try dsimp only at hSw); go_simp⟩) (by assumption) ?_
  simp only [List.getElem_toArray, List.getElem_cons_zero, List.getElem_cons_succ, Act.put, List.setIfInBounds_toArray, List.set_cons_zero, List.set_cons_succ]
  refine wpAnyH_take (i := 12) (v := .agg #[.int .i64 a, .int .i64 s, .bool f]) rfl (by kernel_rfl) (by kernel_rfl) (by kernel_rfl) (fun _ _ _ h => h) (Av.yields_part (by first | rfl | go_simp) _ _ rfl (w.heap.size) 0 rfl #[.int .i64 a, .int .i64 s, .bool f] _ 23 #[.int .i64 a, .int .i64 s, .bool f] (fun w9 hSw => hSw) rfl Try.underlying23 rfl (by kernel_rfl)) (by assumption) ?_
  simp only [List.getElem_toArray, List.getElem_cons_zero, List.getElem_cons_succ, Act.put, List.setIfInBounds_toArray, List.set_cons_zero, List.set_cons_succ]
  refine wpAnyH_take (i := 13) (v := .int .i64 n) rfl (by kernel_rfl) (by kernel_rfl) (by kernel_rfl) (fun _ _ _ h => h) (Or.inl ⟨by first | rfl | go_simp, by intro w9 hSw; (try dsimp only at hSw); go_simp⟩) (by assumption) ?_
  simp only [List.getElem_toArray, List.getElem_cons_zero, List.getElem_cons_succ, Act.put, List.setIfInBounds_toArray, List.set_cons_zero, List.set_cons_succ]
  refine wpAnyH_ready (rs := [11]) (by kernel_rfl) (by simp) ?_
  refine AllReadyH.cons rfl (fun K hK => ?_) (AllReadyH.nil)
  go_simp
  refine (HS.out X3).mono ?_
  rintro e X4 ⟨rfl, b9⟩
  replace K1 := K1.below b9 K1.lt
  replace BX := Base.thenB BX b9
  clear b9
  refine hK.out _ _ K1 (fun hHeld => ?_)
  clear hK K
  try simp only [List.getElem_toArray, List.getElem_cons_zero, List.getElem_cons_succ, Act.put, List.setIfInBounds_toArray, List.set_cons_zero, List.set_cons_succ]
  refine wpAnyH_ready (rs := [14]) (by kernel_rfl) (by simp) ?_
  refine AllReadyH.cons rfl (fun K hK => ?_) (AllReadyH.nil)
  go_simp
  refine (HT.out X4).mono ?_
  rintro e X5 ⟨rfl, b9⟩
  replace K1 := K1.below b9 K1.lt
  replace BX := Base.thenB BX b9
  clear b9
  refine hK.out _ _ K1 (fun hHeld => ?_)
  clear hK K
  try simp only [List.getElem_toArray, List.getElem_cons_zero, List.getElem_cons_succ, Act.put, List.setIfInBounds_toArray, List.set_cons_zero, List.set_cons_succ]
  refine wpAnyH_take (i := 15) (v := .bool true) rfl (by kernel_rfl) (by kernel_rfl) (by kernel_rfl) (fun _ _ _ h => h) (Or.inl ⟨by first | rfl | go_simp, by intro w9 hSw; (try dsimp only at hSw); go_simp⟩) (by assumption) ?_
  simp only [List.getElem_toArray, List.getElem_cons_zero, List.getElem_cons_succ, Act.put, List.setIfInBounds_toArray, List.set_cons_zero, List.set_cons_succ]
  refine wpAnyH_take (i := 16) (v := .bool true) rfl (by kernel_rfl) (by kernel_rfl) (by kernel_rfl) (fun _ _ _ h => h) (Or.inl ⟨by first | rfl | go_simp, by intro w9 hSw; (try dsimp only at hSw); go_simp⟩) (by assumption) ?_
  simp only [List.getElem_toArray, List.getElem_cons_zero, List.getElem_cons_succ, Act.put, List.setIfInBounds_toArray, List.set_cons_zero, List.set_cons_succ]
  refine wpAnyH_take (i := 17) (v := .bool true) rfl (by kernel_rfl) (by kernel_rfl) (by kernel_rfl) (fun _ _ _ h => h) (Or.inl ⟨by first | rfl | go_simp, by intro w9 hSw; (try dsimp only at hSw); go_simp⟩) (by assumption) ?_
  simp only [List.getElem_toArray, List.getElem_cons_zero, List.getElem_cons_succ, Act.put, List.setIfInBounds_toArray, List.set_cons_zero, List.set_cons_succ]
  refine wpAnyH_done (by kernel_rfl) ?_ _
  go_wp2_with fail
  go_ret
  exact ⟨rfl, BX⟩
set_option maxRecDepth 100000 in
set_option maxHeartbeats 4000000 in
theorem must_law (a s : Int) (f b : Bool) (w : World) : Calls Try.prog 4 #[.agg #[.int .i64 a, .int .i64 s, .bool f], .bool b] w fun e w' => e = .returned (.bool true) ∧ Below w.heap.size w w' := by
  have BX : Below w.heap.size w (w.alloc (.cells #[.int .i64 a, .int .i64 s, .bool f] 23)) := (Below.refl _ _).alloc (Nat.le_refl _) _
  have K1 : Blk (w.alloc (.cells #[.int .i64 a, .int .i64 s, .bool f] 23)) (w.heap.size) 23 #[.int .i64 a, .int .i64 s, .bool f] := Blk.fresh w 23 #[.int .i64 a, .int .i64 s, .bool f]
  have HL := Lib.hid lives_any
  have HN := Lib.hid (must_any a s f b)
  have HR := Lib.hid (rmust_any a s f b)
  generalize mst a s f b = M at *
  have e1 : (M == M) = true := by simp
  go_enter Try.func4, Try.ntmps4
  go_upto_region 1 with (fail)
  generalize w.alloc (.cells #[.int .i64 a, .int .i64 s, .bool f] 23) = W0 at *
  have K1' : Blk W0.drew (w.heap.size) 23 #[.int .i64 a, .int .i64 s, .bool f] := Mem.Blk.drew K1
  refine wp_region_held_drew (S := (fun w' => Blk w' (w.heap.size) 23 #[.int .i64 a, .int .i64 s, .bool f])) (by kernel_rfl) ?_ (fun hHeld => ?_)
  · exact K1'
  replace K1 := K1'
  clear K1'
  replace BX : Below w.heap.size w W0.drew := BX.drew
  generalize W0.drew = X0 at *
  refine wpAnyH_ready (rs := [0]) (by kernel_rfl) (by simp) ?_
  refine AllReadyH.cons rfl (fun K hK => ?_) (AllReadyH.nil)
  go_simp
  refine (HL.out X0).mono ?_
  rintro e X1 ⟨rfl, b9⟩
  replace K1 := K1.below b9 K1.lt
  replace BX := Base.thenB BX b9
  clear b9
  refine hK.out _ _ K1 (fun hHeld => ?_)
  clear hK K
  try simp only [List.getElem_toArray, List.getElem_cons_zero, List.getElem_cons_succ, Act.put, List.setIfInBounds_toArray, List.set_cons_zero, List.set_cons_succ]
  refine wpAnyH_take (i := 1) (v := .bool true) rfl (by kernel_rfl) (by kernel_rfl) (by kernel_rfl) (fun _ _ _ h => h) (Or.inl ⟨by first | rfl | go_simp, by intro w9 hSw; (try dsimp only at hSw); go_simp⟩) (by assumption) ?_
  simp only [List.getElem_toArray, List.getElem_cons_zero, List.getElem_cons_succ, Act.put, List.setIfInBounds_toArray, List.set_cons_zero, List.set_cons_succ]
  refine wpAnyH_take (i := 2) (v := .agg #[.int .i64 a, .int .i64 s, .bool f]) rfl (by kernel_rfl) (by kernel_rfl) (by kernel_rfl) (fun _ _ _ h => h) (Av.yields_part (by first | rfl | go_simp) _ _ rfl (w.heap.size) 0 rfl #[.int .i64 a, .int .i64 s, .bool f] _ 23 #[.int .i64 a, .int .i64 s, .bool f] (fun w9 hSw => hSw) rfl Try.underlying23 rfl (by kernel_rfl)) (by assumption) ?_
  simp only [List.getElem_toArray, List.getElem_cons_zero, List.getElem_cons_succ, Act.put, List.setIfInBounds_toArray, List.set_cons_zero, List.set_cons_succ]
  refine wpAnyH_take (i := 3) (v := .bool b) rfl (by kernel_rfl) (by kernel_rfl) (by kernel_rfl) (fun _ _ _ h => h) (Or.inl ⟨by first | rfl | go_simp, by intro w9 hSw; (try dsimp only at hSw); go_simp⟩) (by assumption) ?_
  simp only [List.getElem_toArray, List.getElem_cons_zero, List.getElem_cons_succ, Act.put, List.setIfInBounds_toArray, List.set_cons_zero, List.set_cons_succ]
  refine wpAnyH_take (i := 5) (v := .agg #[.int .i64 a, .int .i64 s, .bool f]) rfl (by kernel_rfl) (by kernel_rfl) (by kernel_rfl) (fun _ _ _ h => h) (Av.yields_part (by first | rfl | go_simp) _ _ rfl (w.heap.size) 0 rfl #[.int .i64 a, .int .i64 s, .bool f] _ 23 #[.int .i64 a, .int .i64 s, .bool f] (fun w9 hSw => hSw) rfl Try.underlying23 rfl (by kernel_rfl)) (by assumption) ?_
  simp only [List.getElem_toArray, List.getElem_cons_zero, List.getElem_cons_succ, Act.put, List.setIfInBounds_toArray, List.set_cons_zero, List.set_cons_succ]
  refine wpAnyH_take (i := 6) (v := .bool b) rfl (by kernel_rfl) (by kernel_rfl) (by kernel_rfl) (fun _ _ _ h => h) (Or.inl ⟨by first | rfl | go_simp, by intro w9 hSw; (try dsimp only at hSw); go_simp⟩) (by assumption) ?_
  simp only [List.getElem_toArray, List.getElem_cons_zero, List.getElem_cons_succ, Act.put, List.setIfInBounds_toArray, List.set_cons_zero, List.set_cons_succ]
  refine wpAnyH_ready (rs := [4]) (by kernel_rfl) (by simp) ?_
  refine AllReadyH.cons rfl (fun K hK => ?_) (AllReadyH.nil)
  go_simp
  refine (HN.out X1).mono ?_
  rintro e X2 ⟨rfl, b9⟩
  replace K1 := K1.below b9 K1.lt
  replace BX := Base.thenB BX b9
  clear b9
  refine hK.out _ _ K1 (fun hHeld => ?_)
  clear hK K
  try simp only [List.getElem_toArray, List.getElem_cons_zero, List.getElem_cons_succ, Act.put, List.setIfInBounds_toArray, List.set_cons_zero, List.set_cons_succ]
  refine wpAnyH_ready (rs := [7]) (by kernel_rfl) (by simp) ?_
  refine AllReadyH.cons rfl (fun K hK => ?_) (AllReadyH.nil)
  go_simp
  refine (HR.out X2).mono ?_
  rintro e X3 ⟨rfl, b9⟩
  replace K1 := K1.below b9 K1.lt
  replace BX := Base.thenB BX b9
  clear b9
  refine hK.out _ _ K1 (fun hHeld => ?_)
  clear hK K
  try simp only [List.getElem_toArray, List.getElem_cons_zero, List.getElem_cons_succ, Act.put, List.setIfInBounds_toArray, List.set_cons_zero, List.set_cons_succ]
  refine wpAnyH_take (i := 8) (v := .bool true) rfl (by kernel_rfl) (by kernel_rfl) (by kernel_rfl) (fun _ _ _ h => h) (Or.inl ⟨by first | rfl | go_simp, by intro w9 hSw; (try dsimp only at hSw); go_simp⟩) (by assumption) ?_
  simp only [List.getElem_toArray, List.getElem_cons_zero, List.getElem_cons_succ, Act.put, List.setIfInBounds_toArray, List.set_cons_zero, List.set_cons_succ]
  refine wpAnyH_take (i := 9) (v := .bool true) rfl (by kernel_rfl) (by kernel_rfl) (by kernel_rfl) (fun _ _ _ h => h) (Or.inl ⟨by first | rfl | go_simp, by intro w9 hSw; (try dsimp only at hSw); go_simp⟩) (by assumption) ?_
  simp only [List.getElem_toArray, List.getElem_cons_zero, List.getElem_cons_succ, Act.put, List.setIfInBounds_toArray, List.set_cons_zero, List.set_cons_succ]
  refine wpAnyH_take (i := 10) (v := .bool true) rfl (by kernel_rfl) (by kernel_rfl) (by kernel_rfl) (fun _ _ _ h => h) (Or.inl ⟨by first | rfl | go_simp, by intro w9 hSw; (try dsimp only at hSw); go_simp⟩) (by assumption) ?_
  simp only [List.getElem_toArray, List.getElem_cons_zero, List.getElem_cons_succ, Act.put, List.setIfInBounds_toArray, List.set_cons_zero, List.set_cons_succ]
  refine wpAnyH_done (by kernel_rfl) ?_ _
  go_wp2_with fail
  go_ret
  exact ⟨rfl, BX⟩
set_option maxRecDepth 100000 in
set_option maxHeartbeats 4000000 in
theorem moves_any (a s : Int) (f b : Bool) (w : World) (ha : -9223372036854775808 ≤ a ∧ a ≤ 9223372036854775807) (hs : -9223372036854775808 ≤ s ∧ s ≤ 9223372036854775807) : Calls Try.prog 5 #[.agg #[.int .i64 a, .int .i64 s, .bool f], .bool b] w fun e w' => e = .returned (.bool true) ∧ Below w.heap.size w w' := by
  have BX : Below w.heap.size w (w.alloc (.cells #[.int .i64 a, .int .i64 s, .bool f] 23)) := (Below.refl _ _).alloc (Nat.le_refl _) _
  have K1 : Blk (w.alloc (.cells #[.int .i64 a, .int .i64 s, .bool f] 23)) (w.heap.size) 23 #[.int .i64 a, .int .i64 s, .bool f] := Blk.fresh w 23 #[.int .i64 a, .int .i64 s, .bool f]
  have HL := Lib.hid lives_any
  have HA := Lib.hid (attend_any a s f b)
  have HR := Lib.hid (rattend_any a s f b)
  obtain ⟨r, x, H1, H2⟩ : ∃ r x, Hid (∀ w, Calls Try.prog 15 #[.agg #[.int .i64 a, .int .i64 s, .bool f]] w fun e w' => e = .returned (.tuple #[.agg #[.int .i64 a, .int .i64 r, .bool f], .int .i64 x]) ∧ Below w.heap.size w w') ∧ Hid (∀ w, Calls Try.prog 16 #[.agg #[.int .i64 a, .int .i64 s, .bool f]] w fun e w' => e = .returned (.tuple #[.agg #[.int .i64 a, .int .i64 r, .bool f], .int .i64 x]) ∧ Below w.heap.size w w') := by
    cases hm : mst a s f false with
    | true => exact ⟨s, 9, Lib.hid (skip_no hm), Lib.hid (rskip_no hm)⟩
    | false =>
      have h2 : ¬ a ≤ s := by unfold mst at hm; simp at hm; omega
      exact ⟨s + 1, 0, Lib.hid (skip_yes hm (by omega)), Lib.hid (rskip_yes hm (by omega))⟩
  have q1 : ∀ w, (binOp .eql 23 (.agg #[.int .i64 a, .int .i64 0, .bool (!b && f)]) (.agg #[.int .i64 a, .int .i64 0, .bool (!b && f)])).run Try.prog w = .ok (.bool true) w := fun w => by simpa using lis_eql a 0 (!b && f) a 0 (!b && f) w
  have q2 : ∀ w x y, (eqGuard .eql 23 x y (.agg #[.int .i64 a, .int .i64 0, .bool (!b && f)]) (.agg #[.int .i64 a, .int .i64 0, .bool (!b && f)])).run Try.prog w = .ok () w := fun w x y => lis_eg a 0 (!b && f) a 0 (!b && f) w x y
  have q3 : ∀ w, (binOp .eql 23 (.agg #[.int .i64 a, .int .i64 r, .bool f]) (.agg #[.int .i64 a, .int .i64 r, .bool f])).run Try.prog w = .ok (.bool true) w := fun w => by simpa using lis_eql a r f a r f w
  have q4 : ∀ w x y, (eqGuard .eql 23 x y (.agg #[.int .i64 a, .int .i64 r, .bool f]) (.agg #[.int .i64 a, .int .i64 r, .bool f])).run Try.prog w = .ok () w := fun w x y => lis_eg a r f a r f w x y
  have e1 : (x == x) = true := by simp
  generalize (.agg #[.int .i64 a, .int .i64 0, .bool (!b && f)] : Value) = V at *
  clear ha hs
  go_enter Try.func5, Try.ntmps5
  go_upto_region 1 with (fail)
  generalize w.alloc (.cells #[.int .i64 a, .int .i64 s, .bool f] 23) = W0 at *
  have k0 := K1.cell 0
  have k1 := K1.cell 1
  have k2 := K1.cell 2
  go_upto_region 2 with (go_at_call 15; refine (H1.out _).mono ?_; rintro e w1 ⟨rfl, b1⟩)
  clear k0 k1 k2
  replace BX := thenB BX b1
  replace K1 := K1.below b1 K1.lt
  have K2 := Blk.fresh w1 23 #[.int .i64 a, .int .i64 r, .bool f]
  replace BX := BX.alloc BX.size (.cells #[.int .i64 a, .int .i64 r, .bool f] 23)
  replace K1 := K1.alloc (.cells #[.int .i64 a, .int .i64 r, .bool f] 23)
  obtain ⟨g1, eg1⟩ : ∃ g, w1.heap.size = g := ⟨_, rfl⟩
  rw [eg1] at K2
  try simp only [eg1]
  generalize w1.alloc (.cells #[.int .i64 a, .int .i64 r, .bool f] 23) = W1 at *
  clear eg1
  have k0 := K1.cell 0
  have k1 := K1.cell 1
  have k2 := K1.cell 2
  go_upto_region 3 with (go_at_call 16; refine (H2.out _).mono ?_; rintro e w2 ⟨rfl, b2⟩)
  clear k0 k1 k2
  replace BX := thenB BX b2
  replace K1 := K1.below b2 K1.lt
  replace K2 := K2.below b2 K2.lt
  have K3 := Blk.fresh w2 23 #[.int .i64 a, .int .i64 r, .bool f]
  replace BX := BX.alloc BX.size (.cells #[.int .i64 a, .int .i64 r, .bool f] 23)
  replace K1 := K1.alloc (.cells #[.int .i64 a, .int .i64 r, .bool f] 23)
  replace K2 := K2.alloc (.cells #[.int .i64 a, .int .i64 r, .bool f] 23)
  obtain ⟨g2, eg2⟩ : ∃ g, w2.heap.size = g := ⟨_, rfl⟩
  rw [eg2] at K3
  try simp only [eg2]
  generalize w2.alloc (.cells #[.int .i64 a, .int .i64 r, .bool f] 23) = W2 at *
  clear eg2
  have K1' : Blk W2.drew (w.heap.size) 23 #[.int .i64 a, .int .i64 s, .bool f] := Mem.Blk.drew K1
  have K2' : Blk W2.drew (g1) 23 #[.int .i64 a, .int .i64 r, .bool f] := Mem.Blk.drew K2
  have K3' : Blk W2.drew (g2) 23 #[.int .i64 a, .int .i64 r, .bool f] := Mem.Blk.drew K3
  refine wp_region_held_drew (S := (fun w' => Blk w' (g1) 23 #[.int .i64 a, .int .i64 r, .bool f] ∧ Blk w' (g2) 23 #[.int .i64 a, .int .i64 r, .bool f] ∧ Blk w' (w.heap.size) 23 #[.int .i64 a, .int .i64 s, .bool f])) (by kernel_rfl) ?_ (fun hHeld => ?_)
  · exact ⟨K2', K3', K1'⟩
  replace K1 := K1'
  clear K1'
  replace K2 := K2'
  clear K2'
  replace K3 := K3'
  clear K3'
  replace BX : Below w.heap.size w W2.drew := BX.drew
  generalize W2.drew = X0 at *
  refine wpAnyH_ready (rs := [0]) (by kernel_rfl) (by simp) ?_
  refine AllReadyH.cons rfl (fun K hK => ?_) (AllReadyH.nil)
  go_simp
  refine (HL.out X0).mono ?_
  rintro e X1 ⟨rfl, b9⟩
  replace K1 := K1.below b9 K1.lt
  replace K2 := K2.below b9 K2.lt
  replace K3 := K3.below b9 K3.lt
  replace BX := Base.thenB BX b9
  clear b9
  refine hK.out _ _ ⟨K2, K3, K1⟩ (fun hHeld => ?_)
  clear hK K
  try simp only [List.getElem_toArray, List.getElem_cons_zero, List.getElem_cons_succ, Act.put, List.setIfInBounds_toArray, List.set_cons_zero, List.set_cons_succ]
  refine wpAnyH_take (i := 1) (v := .bool true) rfl (by kernel_rfl) (by kernel_rfl) (by kernel_rfl) (fun _ _ _ h => h) (Or.inl ⟨by first | rfl | go_simp, by intro w9 hSw; (try dsimp only at hSw); go_simp⟩) (by assumption) ?_
  simp only [List.getElem_toArray, List.getElem_cons_zero, List.getElem_cons_succ, Act.put, List.setIfInBounds_toArray, List.set_cons_zero, List.set_cons_succ]
  refine wpAnyH_take (i := 2) (v := .agg #[.int .i64 a, .int .i64 r, .bool f]) rfl (by kernel_rfl) (by kernel_rfl) (by kernel_rfl) (fun _ _ _ h => h) (Av.yields_part (by first | rfl | go_simp) _ _ rfl (g1) 0 rfl #[.int .i64 a, .int .i64 r, .bool f] _ 23 #[.int .i64 a, .int .i64 r, .bool f] (fun w9 hSw => hSw.1) rfl Try.underlying23 rfl (by kernel_rfl)) (by assumption) ?_
  simp only [List.getElem_toArray, List.getElem_cons_zero, List.getElem_cons_succ, Act.put, List.setIfInBounds_toArray, List.set_cons_zero, List.set_cons_succ]
  refine wpAnyH_take (i := 3) (v := .agg #[.int .i64 a, .int .i64 r, .bool f]) rfl (by kernel_rfl) (by kernel_rfl) (by kernel_rfl) (fun _ _ _ h => h) (Av.yields_part (by first | rfl | go_simp) _ _ rfl (g2) 0 rfl #[.int .i64 a, .int .i64 r, .bool f] _ 23 #[.int .i64 a, .int .i64 r, .bool f] (fun w9 hSw => hSw.2.1) rfl Try.underlying23 rfl (by kernel_rfl)) (by assumption) ?_
  simp only [List.getElem_toArray, List.getElem_cons_zero, List.getElem_cons_succ, Act.put, List.setIfInBounds_toArray, List.set_cons_zero, List.set_cons_succ]
  refine wpAnyH_take (i := 4) (v := .bool true) rfl (by kernel_rfl) (by kernel_rfl) (by kernel_rfl) (fun _ _ _ h => h) (Or.inl ⟨by first | rfl | go_simp, by intro w9 hSw; (try dsimp only at hSw); go_simp⟩) (by assumption) ?_
  simp only [List.getElem_toArray, List.getElem_cons_zero, List.getElem_cons_succ, Act.put, List.setIfInBounds_toArray, List.set_cons_zero, List.set_cons_succ]
  refine wpAnyH_take (i := 5) (v := .bool true) rfl (by kernel_rfl) (by kernel_rfl) (by kernel_rfl) (fun _ _ _ h => h) (Or.inl ⟨by first | rfl | go_simp, by intro w9 hSw; (try dsimp only at hSw); go_simp⟩) (by assumption) ?_
  simp only [List.getElem_toArray, List.getElem_cons_zero, List.getElem_cons_succ, Act.put, List.setIfInBounds_toArray, List.set_cons_zero, List.set_cons_succ]
  refine wpAnyH_take (i := 6) (v := .bool true) rfl (by kernel_rfl) (by kernel_rfl) (by kernel_rfl) (fun _ _ _ h => h) (Or.inl ⟨by first | rfl | go_simp, by intro w9 hSw; (try dsimp only at hSw); go_simp⟩) (by assumption) ?_
  simp only [List.getElem_toArray, List.getElem_cons_zero, List.getElem_cons_succ, Act.put, List.setIfInBounds_toArray, List.set_cons_zero, List.set_cons_succ]
  refine wpAnyH_take (i := 7) (v := .int .i64 x) rfl (by kernel_rfl) (by kernel_rfl) (by kernel_rfl) (fun _ _ _ h => h) (Or.inl ⟨by first | rfl | go_simp, by intro w9 hSw; (try dsimp only at hSw); go_simp⟩) (by assumption) ?_
  simp only [List.getElem_toArray, List.getElem_cons_zero, List.getElem_cons_succ, Act.put, List.setIfInBounds_toArray, List.set_cons_zero, List.set_cons_succ]
  refine wpAnyH_take (i := 8) (v := .int .i64 x) rfl (by kernel_rfl) (by kernel_rfl) (by kernel_rfl) (fun _ _ _ h => h) (Or.inl ⟨by first | rfl | go_simp, by intro w9 hSw; (try dsimp only at hSw); go_simp⟩) (by assumption) ?_
  simp only [List.getElem_toArray, List.getElem_cons_zero, List.getElem_cons_succ, Act.put, List.setIfInBounds_toArray, List.set_cons_zero, List.set_cons_succ]
  refine wpAnyH_take (i := 9) (v := .bool true) rfl (by kernel_rfl) (by kernel_rfl) (by kernel_rfl) (fun _ _ _ h => h) (Or.inl ⟨by first | rfl | go_simp, by intro w9 hSw; (try dsimp only at hSw); go_simp⟩) (by assumption) ?_
  simp only [List.getElem_toArray, List.getElem_cons_zero, List.getElem_cons_succ, Act.put, List.setIfInBounds_toArray, List.set_cons_zero, List.set_cons_succ]
  refine wpAnyH_take (i := 10) (v := .bool true) rfl (by kernel_rfl) (by kernel_rfl) (by kernel_rfl) (fun _ _ _ h => h) (Or.inl ⟨by first | rfl | go_simp, by intro w9 hSw; (try dsimp only at hSw); go_simp⟩) (by assumption) ?_
  simp only [List.getElem_toArray, List.getElem_cons_zero, List.getElem_cons_succ, Act.put, List.setIfInBounds_toArray, List.set_cons_zero, List.set_cons_succ]
  refine wpAnyH_take (i := 11) (v := .bool true) rfl (by kernel_rfl) (by kernel_rfl) (by kernel_rfl) (fun _ _ _ h => h) (Or.inl ⟨by first | rfl | go_simp, by intro w9 hSw; (try dsimp only at hSw); go_simp⟩) (by assumption) ?_
  simp only [List.getElem_toArray, List.getElem_cons_zero, List.getElem_cons_succ, Act.put, List.setIfInBounds_toArray, List.set_cons_zero, List.set_cons_succ]
  refine wpAnyH_take (i := 12) (v := .agg #[.int .i64 a, .int .i64 s, .bool f]) rfl (by kernel_rfl) (by kernel_rfl) (by kernel_rfl) (fun _ _ _ h => h) (Av.yields_part (by first | rfl | go_simp) _ _ rfl (w.heap.size) 0 rfl #[.int .i64 a, .int .i64 s, .bool f] _ 23 #[.int .i64 a, .int .i64 s, .bool f] (fun w9 hSw => hSw.2.2) rfl Try.underlying23 rfl (by kernel_rfl)) (by assumption) ?_
  simp only [List.getElem_toArray, List.getElem_cons_zero, List.getElem_cons_succ, Act.put, List.setIfInBounds_toArray, List.set_cons_zero, List.set_cons_succ]
  refine wpAnyH_take (i := 13) (v := .bool b) rfl (by kernel_rfl) (by kernel_rfl) (by kernel_rfl) (fun _ _ _ h => h) (Or.inl ⟨by first | rfl | go_simp, by intro w9 hSw; (try dsimp only at hSw); go_simp⟩) (by assumption) ?_
  simp only [List.getElem_toArray, List.getElem_cons_zero, List.getElem_cons_succ, Act.put, List.setIfInBounds_toArray, List.set_cons_zero, List.set_cons_succ]
  refine wpAnyH_take (i := 15) (v := .agg #[.int .i64 a, .int .i64 s, .bool f]) rfl (by kernel_rfl) (by kernel_rfl) (by kernel_rfl) (fun _ _ _ h => h) (Av.yields_part (by first | rfl | go_simp) _ _ rfl (w.heap.size) 0 rfl #[.int .i64 a, .int .i64 s, .bool f] _ 23 #[.int .i64 a, .int .i64 s, .bool f] (fun w9 hSw => hSw.2.2) rfl Try.underlying23 rfl (by kernel_rfl)) (by assumption) ?_
  simp only [List.getElem_toArray, List.getElem_cons_zero, List.getElem_cons_succ, Act.put, List.setIfInBounds_toArray, List.set_cons_zero, List.set_cons_succ]
  refine wpAnyH_take (i := 16) (v := .bool b) rfl (by kernel_rfl) (by kernel_rfl) (by kernel_rfl) (fun _ _ _ h => h) (Or.inl ⟨by first | rfl | go_simp, by intro w9 hSw; (try dsimp only at hSw); go_simp⟩) (by assumption) ?_
  simp only [List.getElem_toArray, List.getElem_cons_zero, List.getElem_cons_succ, Act.put, List.setIfInBounds_toArray, List.set_cons_zero, List.set_cons_succ]
  refine wpAnyH_ready (rs := [14]) (by kernel_rfl) (by simp) ?_
  refine AllReadyH.cons rfl (fun K hK => ?_) (AllReadyH.nil)
  go_simp
  refine (HA.out X1).mono ?_
  rintro e X2 ⟨rfl, b9⟩
  replace K1 := K1.below b9 K1.lt
  replace K2 := K2.below b9 K2.lt
  replace K3 := K3.below b9 K3.lt
  replace BX := Base.thenB BX b9
  clear b9
  refine hK.out _ _ ⟨K2, K3, K1⟩ (fun hHeld => ?_)
  clear hK K
  try simp only [List.getElem_toArray, List.getElem_cons_zero, List.getElem_cons_succ, Act.put, List.setIfInBounds_toArray, List.set_cons_zero, List.set_cons_succ]
  refine wpAnyH_ready (rs := [17]) (by kernel_rfl) (by simp) ?_
  refine AllReadyH.cons rfl (fun K hK => ?_) (AllReadyH.nil)
  go_simp
  refine (HR.out X2).mono ?_
  rintro e X3 ⟨rfl, b9⟩
  replace K1 := K1.below b9 K1.lt
  replace K2 := K2.below b9 K2.lt
  replace K3 := K3.below b9 K3.lt
  replace BX := Base.thenB BX b9
  clear b9
  refine hK.out _ _ ⟨K2, K3, K1⟩ (fun hHeld => ?_)
  clear hK K
  try simp only [List.getElem_toArray, List.getElem_cons_zero, List.getElem_cons_succ, Act.put, List.setIfInBounds_toArray, List.set_cons_zero, List.set_cons_succ]
  refine wpAnyH_take (i := 18) (v := .bool true) rfl (by kernel_rfl) (by kernel_rfl) (by kernel_rfl) (fun _ _ _ h => h) (Or.inl ⟨by first | rfl | go_simp, by intro w9 hSw; (try dsimp only at hSw); go_simp⟩) (by assumption) ?_
  simp only [List.getElem_toArray, List.getElem_cons_zero, List.getElem_cons_succ, Act.put, List.setIfInBounds_toArray, List.set_cons_zero, List.set_cons_succ]
  refine wpAnyH_take (i := 19) (v := .bool true) rfl (by kernel_rfl) (by kernel_rfl) (by kernel_rfl) (fun _ _ _ h => h) (Or.inl ⟨by first | rfl | go_simp, by intro w9 hSw; (try dsimp only at hSw); go_simp⟩) (by assumption) ?_
  simp only [List.getElem_toArray, List.getElem_cons_zero, List.getElem_cons_succ, Act.put, List.setIfInBounds_toArray, List.set_cons_zero, List.set_cons_succ]
  refine wpAnyH_take (i := 20) (v := .bool true) rfl (by kernel_rfl) (by kernel_rfl) (by kernel_rfl) (fun _ _ _ h => h) (Or.inl ⟨by first | rfl | go_simp, by intro w9 hSw; (try dsimp only at hSw); go_simp⟩) (by assumption) ?_
  simp only [List.getElem_toArray, List.getElem_cons_zero, List.getElem_cons_succ, Act.put, List.setIfInBounds_toArray, List.set_cons_zero, List.set_cons_succ]
  refine wpAnyH_done (by kernel_rfl) ?_ _
  go_wp2_with fail
  go_ret
  exact ⟨rfl, BX⟩
end Go.Proofs.Ytfkjbpgobgmmfaa.Lat
