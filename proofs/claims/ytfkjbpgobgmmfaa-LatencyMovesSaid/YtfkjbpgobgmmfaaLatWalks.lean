/- Latency: what the functions of the layer and of the document return: contracts over the program. -/
import Derived.Test.YtfkjbpgobgmmfaaBase
import Derived.Test.YtfkjbpgobgmmfaaAvRow
import Derived.Test.YtfkjbpgobgmmfaaAirOwn0
import Derived.Deep.Cut
set_option linter.unusedVariables false
set_option linter.unusedSimpArgs false
namespace Go.Proofs.Ytfkjbpgobgmmfaa.Lat
open Go.RowKit Mem Oct Rw Av
open Base (thenB)

/-- The latency that New and Set take. -/
def lat (n : Int) : Int := max 0 (min n 499)
theorem lat_bd (n : Int) : 0 ≤ lat n ∧ lat n ≤ 499 := by unfold lat; omega
/-- Whether the peripheral must listen. -/
def mst (a s : Int) (f b : Bool) : Bool := f || b || decide (a ≤ s)
set_option maxRecDepth 100000 in
set_option maxHeartbeats 1000000 in
theorem set_any (a s n : Int) (f : Bool) (w : World) : Calls Try.prog 11 #[.agg #[.int .i64 a, .int .i64 s, .bool f], .int .i64 n] w fun e w' => e = .returned (.agg #[.int .i64 (lat n), .int .i64 0, .bool true]) ∧ Below w.heap.size w w' := by
  have BX : Below w.heap.size w ((w.alloc (.cells #[.int .i64 a, .int .i64 s, .bool f] 23)).alloc (.cells #[.int .i64 0, .int .i64 0, .bool false] 23)) := ((Below.refl _ _).alloc (Nat.le_refl _) _).alloc (by simp) _
  have K1 : Blk ((w.alloc (.cells #[.int .i64 a, .int .i64 s, .bool f] 23)).alloc (.cells #[.int .i64 0, .int .i64 0, .bool false] 23)) w.heap.size 23 #[.int .i64 a, .int .i64 s, .bool f] := (Blk.fresh w 23 #[.int .i64 a, .int .i64 s, .bool f]).alloc _
  have K2 : Blk ((w.alloc (.cells #[.int .i64 a, .int .i64 s, .bool f] 23)).alloc (.cells #[.int .i64 0, .int .i64 0, .bool false] 23)) (w.heap.size + 1) 23 #[.int .i64 0, .int .i64 0, .bool false] := Av.Blk.next
  go_enter Try.func11, Try.ntmps11
  go_upto_region 1 with (fail)
  generalize (w.alloc (.cells #[.int .i64 a, .int .i64 s, .bool f] 23)).alloc (.cells #[.int .i64 0, .int .i64 0, .bool false] 23) = W0 at *
  go_upto_region 2 with (refine Av.wpList_store_cell rfl _ _ _ rfl w.heap.size 0 (.int .i64 (lat n)) rfl rfl 23 _ K1 (by show 0 < 3; decide) (by kernel_rfl) rfl ?_; replace K2 := Av.bother (i := 0) K2 (show w.heap.size ≠ w.heap.size + 1 by omega) (.int .i64 (lat n)); replace K1 := Av.bset K1 0 (.int .i64 (lat n)) rfl; replace BX := BX.setCell (p := ⟨w.heap.size, 0, none⟩) (Nat.le_refl _) (.int .i64 (lat n)))
  generalize W0.setCell ⟨w.heap.size, 0, none⟩ (.int .i64 (lat n)) = W1 at *
  go_upto_region 3 with (first | (refine Av.wpList_store_cell rfl _ _ _ rfl w.heap.size 1 (.int .i64 0) rfl rfl 23 _ K1 (by show 1 < 3; decide) (by kernel_rfl) rfl ?_; replace K2 := Av.bother (i := 1) K2 (show w.heap.size ≠ w.heap.size + 1 by omega) (.int .i64 0); replace K1 := Av.bset K1 1 (.int .i64 0) rfl; replace BX := BX.setCell (p := ⟨w.heap.size, 1, none⟩) (Nat.le_refl _) (.int .i64 0)) | (refine Av.wpList_store_cell rfl _ _ _ rfl w.heap.size 2 (.bool true) rfl rfl 23 _ K1 (by show 2 < 3; decide) (by kernel_rfl) rfl ?_; replace K2 := Av.bother (i := 2) K2 (show w.heap.size ≠ w.heap.size + 1 by omega) (.bool true); replace K1 := Av.bset K1 2 (.bool true) rfl; replace BX := BX.setCell (p := ⟨w.heap.size, 2, none⟩) (Nat.le_refl _) (.bool true)))
  generalize (W1.setCell ⟨w.heap.size, 1, none⟩ (.int .i64 0)).setCell ⟨w.heap.size, 2, none⟩ (.bool true) = W9 at *
  have H1 : (#[.int .i64 (lat n), .int .i64 0, .bool true] : Array Value).all (·.oneCell') = true := by rw [← Array.all_toList]; rfl
  go_wp2_with (first | (refine wpList_store_row rfl 23 (.tmp 4) _ rfl (w.heap.size + 1) #[.int .i64 (lat n), .int .i64 0, .bool true] rfl rfl 23 _ K2 (by kernel_rfl) rfl H1 ?_) | (refine wpList_load_row rfl 23 (.tmp 2) rfl w.heap.size rfl 23 _ (0, 0) _ K1 Try.underlying23 rfl (by kernel_rfl) ?_))
  have KR := setRow_heap W9 (w.heap.size + 1) _ #[.int .i64 (lat n), .int .i64 0, .bool true] 23 (0, 0) K2
  have BE := below_setRow BX (Nat.le_succ _) #[.int .i64 (lat n), .int .i64 0, .bool true]
  generalize W9.setRow (w.heap.size + 1) #[.int .i64 (lat n), .int .i64 0, .bool true] = Y at *
  refine bodyPost_ret (v := .agg #[.int .i64 (lat n), .int .i64 0, .bool true]) ?_ rfl ⟨rfl, BE⟩
  clear K1
  have HL := run_loadVar_row (P := Try.prog) Y (w.heap.size + 1) 23 23 #[.int .i64 (lat n), .int .i64 0, .bool true] (0, 0) _ KR Try.underlying23 rfl (by kernel_rfl)
  generalize (#[.int .i64 (lat n), .int .i64 0, .bool true] : Array Value) = CS at *
  simp [results, show (Try.f11).results = #[.cell 4 23] from rfl, asAddr, HL, Act.put]
set_option maxRecDepth 100000 in
set_option maxHeartbeats 1000000 in
theorem new_any (n : Int) (w : World) : Calls Try.prog 9 #[.int .i64 n] w fun e w' => e = .returned (.agg #[.int .i64 (lat n), .int .i64 0, .bool true]) ∧ Below w.heap.size w w' := by
  have BX : Below w.heap.size w (w.alloc (.cells #[.int .i64 0, .int .i64 0, .bool false] 23)) := (Below.refl _ _).alloc (Nat.le_refl _) _
  have K := Blk.fresh w 23 #[.int .i64 0, .int .i64 0, .bool false]
  have HS := Lib.hid (set_any 0 0 n false)
  have H1 : (#[.int .i64 (lat n), .int .i64 0, .bool true] : Array Value).all (·.oneCell') = true := by rw [← Array.all_toList]; rfl
  go_enter Try.func9, Try.ntmps9
  go_upto_region 1 with (fail)
  generalize w.alloc (.cells #[.int .i64 0, .int .i64 0, .bool false] 23) = W0 at *
  go_wp2_with (first | (go_at_call 11; refine (HS.out _).mono ?_; rintro e W9 ⟨rfl, b9⟩; replace K := K.below b9 K.lt; replace BX := thenB BX b9) | (refine wpList_store_row rfl 23 (.tmp 2) _ rfl w.heap.size #[.int .i64 (lat n), .int .i64 0, .bool true] rfl rfl 23 _ K (by kernel_rfl) rfl H1 ?_))
  have KR := setRow_heap W9 w.heap.size _ #[.int .i64 (lat n), .int .i64 0, .bool true] 23 (0, 0) K
  have BE := below_setRow BX (Nat.le_refl _) #[.int .i64 (lat n), .int .i64 0, .bool true]
  generalize W9.setRow w.heap.size #[.int .i64 (lat n), .int .i64 0, .bool true] = Y at *
  refine bodyPost_ret (v := .agg #[.int .i64 (lat n), .int .i64 0, .bool true]) ?_ rfl ⟨rfl, BE⟩
  have HL := run_loadVar_row (P := Try.prog) Y w.heap.size 23 23 #[.int .i64 (lat n), .int .i64 0, .bool true] (0, 0) _ KR Try.underlying23 rfl (by kernel_rfl)
  generalize (#[.int .i64 (lat n), .int .i64 0, .bool true] : Array Value) = CS at *
  simp [results, show (Try.f9).results = #[.cell 2 23] from rfl, asAddr, HL, Act.put]
set_option maxRecDepth 100000 in
set_option maxHeartbeats 1000000 in
theorem rnew_any (n : Int) (w : World) : Calls Try.prog 10 #[.int .i64 n] w fun e w' => e = .returned (.agg #[.int .i64 (lat n), .int .i64 0, .bool true]) ∧ Below w.heap.size w w' := by
  have BX : Below w.heap.size w (w.alloc (.cells #[.int .i64 0, .int .i64 0, .bool false] 23)) := (Below.refl _ _).alloc (Nat.le_refl _) _
  have K := Blk.fresh w 23 #[.int .i64 0, .int .i64 0, .bool false]
  have H1 : (#[.int .i64 (lat n), .int .i64 0, .bool true] : Array Value).all (·.oneCell') = true := by rw [← Array.all_toList]; rfl
  go_enter Try.func10, Try.ntmps10
  go_upto_region 1 with (fail)
  generalize w.alloc (.cells #[.int .i64 0, .int .i64 0, .bool false] 23) = W9 at *
  go_wp2_with (refine wpList_store_row rfl 23 (.tmp 2) _ rfl w.heap.size #[.int .i64 (lat n), .int .i64 0, .bool true] rfl rfl 23 _ K (by kernel_rfl) rfl H1 ?_)
  have KR := setRow_heap W9 w.heap.size _ #[.int .i64 (lat n), .int .i64 0, .bool true] 23 (0, 0) K
  have BE := below_setRow BX (Nat.le_refl _) #[.int .i64 (lat n), .int .i64 0, .bool true]
  generalize W9.setRow w.heap.size #[.int .i64 (lat n), .int .i64 0, .bool true] = Y at *
  refine bodyPost_ret (v := .agg #[.int .i64 (lat n), .int .i64 0, .bool true]) ?_ rfl ⟨rfl, BE⟩
  have HL := run_loadVar_row (P := Try.prog) Y w.heap.size 23 23 #[.int .i64 (lat n), .int .i64 0, .bool true] (0, 0) _ KR Try.underlying23 rfl (by kernel_rfl)
  generalize (#[.int .i64 (lat n), .int .i64 0, .bool true] : Array Value) = CS at *
  simp [results, show (Try.f10).results = #[.cell 2 23] from rfl, asAddr, HL, Act.put]
set_option maxRecDepth 100000 in
set_option maxHeartbeats 1000000 in
theorem rset_any (a s n : Int) (f : Bool) (w : World) : Calls Try.prog 12 #[.agg #[.int .i64 a, .int .i64 s, .bool f], .int .i64 n] w fun e w' => e = .returned (.agg #[.int .i64 (lat n), .int .i64 0, .bool true]) ∧ Below w.heap.size w w' := by
  have BX : Below w.heap.size w ((w.alloc (.cells #[.int .i64 a, .int .i64 s, .bool f] 23)).alloc (.cells #[.int .i64 0, .int .i64 0, .bool false] 23)) := ((Below.refl _ _).alloc (Nat.le_refl _) _).alloc (by simp) _
  have K1 : Blk ((w.alloc (.cells #[.int .i64 a, .int .i64 s, .bool f] 23)).alloc (.cells #[.int .i64 0, .int .i64 0, .bool false] 23)) w.heap.size 23 #[.int .i64 a, .int .i64 s, .bool f] := (Blk.fresh w 23 #[.int .i64 a, .int .i64 s, .bool f]).alloc _
  have K2 : Blk ((w.alloc (.cells #[.int .i64 a, .int .i64 s, .bool f] 23)).alloc (.cells #[.int .i64 0, .int .i64 0, .bool false] 23)) (w.heap.size + 1) 23 #[.int .i64 0, .int .i64 0, .bool false] := Av.Blk.next
  have HS := Lib.hid (rnew_any n)
  have H1 : (#[.int .i64 (lat n), .int .i64 0, .bool true] : Array Value).all (·.oneCell') = true := by rw [← Array.all_toList]; rfl
  go_enter Try.func12, Try.ntmps12
  go_upto_region 1 with (fail)
  generalize (w.alloc (.cells #[.int .i64 a, .int .i64 s, .bool f] 23)).alloc (.cells #[.int .i64 0, .int .i64 0, .bool false] 23) = W0 at *
  go_wp2_with (first | (go_at_call 10; refine (HS.out _).mono ?_; rintro e W9 ⟨rfl, b9⟩; replace K2 := K2.below b9 K2.lt; replace BX := thenB BX b9) | (refine wpList_store_row rfl 23 (.tmp 4) _ rfl (w.heap.size + 1) #[.int .i64 (lat n), .int .i64 0, .bool true] rfl rfl 23 _ K2 (by kernel_rfl) rfl H1 ?_))
  have KR := setRow_heap W9 (w.heap.size + 1) _ #[.int .i64 (lat n), .int .i64 0, .bool true] 23 (0, 0) K2
  have BE := below_setRow BX (Nat.le_succ _) #[.int .i64 (lat n), .int .i64 0, .bool true]
  generalize W9.setRow (w.heap.size + 1) #[.int .i64 (lat n), .int .i64 0, .bool true] = Y at *
  refine bodyPost_ret (v := .agg #[.int .i64 (lat n), .int .i64 0, .bool true]) ?_ rfl ⟨rfl, BE⟩
  have HL := run_loadVar_row (P := Try.prog) Y (w.heap.size + 1) 23 23 #[.int .i64 (lat n), .int .i64 0, .bool true] (0, 0) _ KR Try.underlying23 rfl (by kernel_rfl)
  generalize (#[.int .i64 (lat n), .int .i64 0, .bool true] : Array Value) = CS at *
  simp [results, show (Try.f12).results = #[.cell 4 23] from rfl, asAddr, HL, Act.put]
set_option maxRecDepth 100000 in
set_option maxHeartbeats 1000000 in
theorem attend_true (a s : Int) (f : Bool) (w : World) : Calls Try.prog 17 #[.agg #[.int .i64 a, .int .i64 s, .bool f], .bool true] w fun e w' => e = .returned (.agg #[.int .i64 a, .int .i64 0, .bool false]) ∧ Below w.heap.size w w' := by
  have BX : Below w.heap.size w ((w.alloc (.cells #[.int .i64 a, .int .i64 s, .bool f] 23)).alloc (.cells #[.int .i64 0, .int .i64 0, .bool false] 23)) := ((Below.refl _ _).alloc (Nat.le_refl _) _).alloc (by simp) _
  have K1 : Blk ((w.alloc (.cells #[.int .i64 a, .int .i64 s, .bool f] 23)).alloc (.cells #[.int .i64 0, .int .i64 0, .bool false] 23)) w.heap.size 23 #[.int .i64 a, .int .i64 s, .bool f] := (Blk.fresh w 23 #[.int .i64 a, .int .i64 s, .bool f]).alloc _
  have K2 : Blk ((w.alloc (.cells #[.int .i64 a, .int .i64 s, .bool f] 23)).alloc (.cells #[.int .i64 0, .int .i64 0, .bool false] 23)) (w.heap.size + 1) 23 #[.int .i64 0, .int .i64 0, .bool false] := Av.Blk.next
  go_enter Try.func17, Try.ntmps17
  go_upto_region 1 with (fail)
  generalize (w.alloc (.cells #[.int .i64 a, .int .i64 s, .bool f] 23)).alloc (.cells #[.int .i64 0, .int .i64 0, .bool false] 23) = W0 at *
  go_upto_region 2 with (refine Av.wpList_store_cell rfl _ _ _ rfl w.heap.size 1 (.int .i64 0) rfl rfl 23 _ K1 (by show 1 < 3; decide) (by kernel_rfl) rfl ?_; replace K2 := Av.bother (i := 1) K2 (show w.heap.size ≠ w.heap.size + 1 by omega) (.int .i64 0); replace K1 := Av.bset K1 1 (.int .i64 0) rfl; replace BX := BX.setCell (p := ⟨w.heap.size, 1, none⟩) (Nat.le_refl _) (.int .i64 0))
  generalize W0.setCell ⟨w.heap.size, 1, none⟩ (.int .i64 0) = W1 at *
  go_upto_region 4 with (refine Av.wpList_store_cell rfl _ _ _ rfl w.heap.size 2 (.bool false) rfl rfl 23 _ K1 (by show 2 < 3; decide) (by kernel_rfl) rfl ?_; replace K2 := Av.bother (i := 2) K2 (show w.heap.size ≠ w.heap.size + 1 by omega) (.bool false); replace K1 := Av.bset K1 2 (.bool false) rfl; replace BX := BX.setCell (p := ⟨w.heap.size, 2, none⟩) (Nat.le_refl _) (.bool false))
  generalize W1.setCell ⟨w.heap.size, 2, none⟩ (.bool false) = W9 at *
  have H1 : (#[.int .i64 a, .int .i64 0, .bool false] : Array Value).all (·.oneCell') = true := by rw [← Array.all_toList]; rfl
  go_wp2_with (first | (refine wpList_store_row rfl 23 (.tmp 4) _ rfl (w.heap.size + 1) #[.int .i64 a, .int .i64 0, .bool false] rfl rfl 23 _ K2 (by kernel_rfl) rfl H1 ?_) | (refine wpList_load_row rfl 23 (.tmp 2) rfl w.heap.size rfl 23 _ (0, 0) _ K1 Try.underlying23 rfl (by kernel_rfl) ?_))
  have KR := setRow_heap W9 (w.heap.size + 1) _ #[.int .i64 a, .int .i64 0, .bool false] 23 (0, 0) K2
  have BE := below_setRow BX (Nat.le_succ _) #[.int .i64 a, .int .i64 0, .bool false]
  generalize W9.setRow (w.heap.size + 1) #[.int .i64 a, .int .i64 0, .bool false] = Y at *
  refine bodyPost_ret (v := .agg #[.int .i64 a, .int .i64 0, .bool false]) ?_ rfl ⟨rfl, BE⟩
  clear K1
  have HL := run_loadVar_row (P := Try.prog) Y (w.heap.size + 1) 23 23 #[.int .i64 a, .int .i64 0, .bool false] (0, 0) _ KR Try.underlying23 rfl (by kernel_rfl)
  generalize (#[.int .i64 a, .int .i64 0, .bool false] : Array Value) = CS at *
  simp [results, show (Try.f17).results = #[.cell 4 23] from rfl, asAddr, HL, Act.put]
set_option maxRecDepth 100000 in
set_option maxHeartbeats 1000000 in
theorem attend_false (a s : Int) (f : Bool) (w : World) : Calls Try.prog 17 #[.agg #[.int .i64 a, .int .i64 s, .bool f], .bool false] w fun e w' => e = .returned (.agg #[.int .i64 a, .int .i64 0, .bool f]) ∧ Below w.heap.size w w' := by
  have BX : Below w.heap.size w ((w.alloc (.cells #[.int .i64 a, .int .i64 s, .bool f] 23)).alloc (.cells #[.int .i64 0, .int .i64 0, .bool false] 23)) := ((Below.refl _ _).alloc (Nat.le_refl _) _).alloc (by simp) _
  have K1 : Blk ((w.alloc (.cells #[.int .i64 a, .int .i64 s, .bool f] 23)).alloc (.cells #[.int .i64 0, .int .i64 0, .bool false] 23)) w.heap.size 23 #[.int .i64 a, .int .i64 s, .bool f] := (Blk.fresh w 23 #[.int .i64 a, .int .i64 s, .bool f]).alloc _
  have K2 : Blk ((w.alloc (.cells #[.int .i64 a, .int .i64 s, .bool f] 23)).alloc (.cells #[.int .i64 0, .int .i64 0, .bool false] 23)) (w.heap.size + 1) 23 #[.int .i64 0, .int .i64 0, .bool false] := Av.Blk.next
  go_enter Try.func17, Try.ntmps17
  go_upto_region 1 with (fail)
  generalize (w.alloc (.cells #[.int .i64 a, .int .i64 s, .bool f] 23)).alloc (.cells #[.int .i64 0, .int .i64 0, .bool false] 23) = W0 at *
  go_upto_region 2 with (refine Av.wpList_store_cell rfl _ _ _ rfl w.heap.size 1 (.int .i64 0) rfl rfl 23 _ K1 (by show 1 < 3; decide) (by kernel_rfl) rfl ?_; replace K2 := Av.bother (i := 1) K2 (show w.heap.size ≠ w.heap.size + 1 by omega) (.int .i64 0); replace K1 := Av.bset K1 1 (.int .i64 0) rfl; replace BX := BX.setCell (p := ⟨w.heap.size, 1, none⟩) (Nat.le_refl _) (.int .i64 0))
  generalize W0.setCell ⟨w.heap.size, 1, none⟩ (.int .i64 0) = W9 at *
  go_upto_region 4 with (fail)
  have H1 : (#[.int .i64 a, .int .i64 0, .bool f] : Array Value).all (·.oneCell') = true := by rw [← Array.all_toList]; rfl
  go_wp2_with (first | (refine wpList_store_row rfl 23 (.tmp 4) _ rfl (w.heap.size + 1) #[.int .i64 a, .int .i64 0, .bool f] rfl rfl 23 _ K2 (by kernel_rfl) rfl H1 ?_) | (refine wpList_load_row rfl 23 (.tmp 2) rfl w.heap.size rfl 23 _ (0, 0) _ K1 Try.underlying23 rfl (by kernel_rfl) ?_))
  have KR := setRow_heap W9 (w.heap.size + 1) _ #[.int .i64 a, .int .i64 0, .bool f] 23 (0, 0) K2
  have BE := below_setRow BX (Nat.le_succ _) #[.int .i64 a, .int .i64 0, .bool f]
  generalize W9.setRow (w.heap.size + 1) #[.int .i64 a, .int .i64 0, .bool f] = Y at *
  refine bodyPost_ret (v := .agg #[.int .i64 a, .int .i64 0, .bool f]) ?_ rfl ⟨rfl, BE⟩
  clear K1
  have HL := run_loadVar_row (P := Try.prog) Y (w.heap.size + 1) 23 23 #[.int .i64 a, .int .i64 0, .bool f] (0, 0) _ KR Try.underlying23 rfl (by kernel_rfl)
  generalize (#[.int .i64 a, .int .i64 0, .bool f] : Array Value) = CS at *
  simp [results, show (Try.f17).results = #[.cell 4 23] from rfl, asAddr, HL, Act.put]
theorem attend_any (a s : Int) (f b : Bool) (w : World) : Calls Try.prog 17 #[.agg #[.int .i64 a, .int .i64 s, .bool f], .bool b] w fun e w' => e = .returned (.agg #[.int .i64 a, .int .i64 0, .bool (!b && f)]) ∧ Below w.heap.size w w' := by
  cases b
  · exact attend_false a s f w
  · exact attend_true a s f w
set_option maxRecDepth 100000 in
set_option maxHeartbeats 1000000 in
theorem rattend_true (a s : Int) (f : Bool) (w : World) : Calls Try.prog 18 #[.agg #[.int .i64 a, .int .i64 s, .bool f], .bool true] w fun e w' => e = .returned (.agg #[.int .i64 a, .int .i64 0, .bool false]) ∧ Below w.heap.size w w' := by
  have BX : Below w.heap.size w ((w.alloc (.cells #[.int .i64 a, .int .i64 s, .bool f] 23)).alloc (.cells #[.int .i64 0, .int .i64 0, .bool false] 23)) := ((Below.refl _ _).alloc (Nat.le_refl _) _).alloc (by simp) _
  have K1 : Blk ((w.alloc (.cells #[.int .i64 a, .int .i64 s, .bool f] 23)).alloc (.cells #[.int .i64 0, .int .i64 0, .bool false] 23)) w.heap.size 23 #[.int .i64 a, .int .i64 s, .bool f] := (Blk.fresh w 23 #[.int .i64 a, .int .i64 s, .bool f]).alloc _
  have K2 : Blk ((w.alloc (.cells #[.int .i64 a, .int .i64 s, .bool f] 23)).alloc (.cells #[.int .i64 0, .int .i64 0, .bool false] 23)) (w.heap.size + 1) 23 #[.int .i64 0, .int .i64 0, .bool false] := Av.Blk.next
  go_enter Try.func18, Try.ntmps18
  go_upto_region 1 with (fail)
  generalize (w.alloc (.cells #[.int .i64 a, .int .i64 s, .bool f] 23)).alloc (.cells #[.int .i64 0, .int .i64 0, .bool false] 23) = W0 at *
  go_upto_region 2 with (refine Av.wpList_store_cell rfl _ _ _ rfl w.heap.size 1 (.int .i64 0) rfl rfl 23 _ K1 (by show 1 < 3; decide) (by kernel_rfl) rfl ?_; replace K2 := Av.bother (i := 1) K2 (show w.heap.size ≠ w.heap.size + 1 by omega) (.int .i64 0); replace K1 := Av.bset K1 1 (.int .i64 0) rfl; replace BX := BX.setCell (p := ⟨w.heap.size, 1, none⟩) (Nat.le_refl _) (.int .i64 0))
  generalize W0.setCell ⟨w.heap.size, 1, none⟩ (.int .i64 0) = W1 at *
  go_upto_region 4 with (refine Av.wpList_store_cell rfl _ _ _ rfl w.heap.size 2 (.bool false) rfl rfl 23 _ K1 (by show 2 < 3; decide) (by kernel_rfl) rfl ?_; replace K2 := Av.bother (i := 2) K2 (show w.heap.size ≠ w.heap.size + 1 by omega) (.bool false); replace K1 := Av.bset K1 2 (.bool false) rfl; replace BX := BX.setCell (p := ⟨w.heap.size, 2, none⟩) (Nat.le_refl _) (.bool false))
  generalize W1.setCell ⟨w.heap.size, 2, none⟩ (.bool false) = W9 at *
  have H1 : (#[.int .i64 a, .int .i64 0, .bool false] : Array Value).all (·.oneCell') = true := by rw [← Array.all_toList]; rfl
  go_wp2_with (first | (refine wpList_store_row rfl 23 (.tmp 4) _ rfl (w.heap.size + 1) #[.int .i64 a, .int .i64 0, .bool false] rfl rfl 23 _ K2 (by kernel_rfl) rfl H1 ?_) | (refine wpList_load_row rfl 23 (.tmp 2) rfl w.heap.size rfl 23 _ (0, 0) _ K1 Try.underlying23 rfl (by kernel_rfl) ?_))
  have KR := setRow_heap W9 (w.heap.size + 1) _ #[.int .i64 a, .int .i64 0, .bool false] 23 (0, 0) K2
  have BE := below_setRow BX (Nat.le_succ _) #[.int .i64 a, .int .i64 0, .bool false]
  generalize W9.setRow (w.heap.size + 1) #[.int .i64 a, .int .i64 0, .bool false] = Y at *
  refine bodyPost_ret (v := .agg #[.int .i64 a, .int .i64 0, .bool false]) ?_ rfl ⟨rfl, BE⟩
  clear K1
  have HL := run_loadVar_row (P := Try.prog) Y (w.heap.size + 1) 23 23 #[.int .i64 a, .int .i64 0, .bool false] (0, 0) _ KR Try.underlying23 rfl (by kernel_rfl)
  generalize (#[.int .i64 a, .int .i64 0, .bool false] : Array Value) = CS at *
  simp [results, show (Try.f18).results = #[.cell 4 23] from rfl, asAddr, HL, Act.put]
set_option maxRecDepth 100000 in
set_option maxHeartbeats 1000000 in
theorem rattend_false (a s : Int) (f : Bool) (w : World) : Calls Try.prog 18 #[.agg #[.int .i64 a, .int .i64 s, .bool f], .bool false] w fun e w' => e = .returned (.agg #[.int .i64 a, .int .i64 0, .bool f]) ∧ Below w.heap.size w w' := by
  have BX : Below w.heap.size w ((w.alloc (.cells #[.int .i64 a, .int .i64 s, .bool f] 23)).alloc (.cells #[.int .i64 0, .int .i64 0, .bool false] 23)) := ((Below.refl _ _).alloc (Nat.le_refl _) _).alloc (by simp) _
  have K1 : Blk ((w.alloc (.cells #[.int .i64 a, .int .i64 s, .bool f] 23)).alloc (.cells #[.int .i64 0, .int .i64 0, .bool false] 23)) w.heap.size 23 #[.int .i64 a, .int .i64 s, .bool f] := (Blk.fresh w 23 #[.int .i64 a, .int .i64 s, .bool f]).alloc _
  have K2 : Blk ((w.alloc (.cells #[.int .i64 a, .int .i64 s, .bool f] 23)).alloc (.cells #[.int .i64 0, .int .i64 0, .bool false] 23)) (w.heap.size + 1) 23 #[.int .i64 0, .int .i64 0, .bool false] := Av.Blk.next
  go_enter Try.func18, Try.ntmps18
  go_upto_region 1 with (fail)
  generalize (w.alloc (.cells #[.int .i64 a, .int .i64 s, .bool f] 23)).alloc (.cells #[.int .i64 0, .int .i64 0, .bool false] 23) = W0 at *
  go_upto_region 2 with (refine Av.wpList_store_cell rfl _ _ _ rfl w.heap.size 1 (.int .i64 0) rfl rfl 23 _ K1 (by show 1 < 3; decide) (by kernel_rfl) rfl ?_; replace K2 := Av.bother (i := 1) K2 (show w.heap.size ≠ w.heap.size + 1 by omega) (.int .i64 0); replace K1 := Av.bset K1 1 (.int .i64 0) rfl; replace BX := BX.setCell (p := ⟨w.heap.size, 1, none⟩) (Nat.le_refl _) (.int .i64 0))
  generalize W0.setCell ⟨w.heap.size, 1, none⟩ (.int .i64 0) = W9 at *
  go_upto_region 4 with (fail)
  have H1 : (#[.int .i64 a, .int .i64 0, .bool f] : Array Value).all (·.oneCell') = true := by rw [← Array.all_toList]; rfl
  go_wp2_with (first | (refine wpList_store_row rfl 23 (.tmp 4) _ rfl (w.heap.size + 1) #[.int .i64 a, .int .i64 0, .bool f] rfl rfl 23 _ K2 (by kernel_rfl) rfl H1 ?_) | (refine wpList_load_row rfl 23 (.tmp 2) rfl w.heap.size rfl 23 _ (0, 0) _ K1 Try.underlying23 rfl (by kernel_rfl) ?_))
  have KR := setRow_heap W9 (w.heap.size + 1) _ #[.int .i64 a, .int .i64 0, .bool f] 23 (0, 0) K2
  have BE := below_setRow BX (Nat.le_succ _) #[.int .i64 a, .int .i64 0, .bool f]
  generalize W9.setRow (w.heap.size + 1) #[.int .i64 a, .int .i64 0, .bool f] = Y at *
  refine bodyPost_ret (v := .agg #[.int .i64 a, .int .i64 0, .bool f]) ?_ rfl ⟨rfl, BE⟩
  clear K1
  have HL := run_loadVar_row (P := Try.prog) Y (w.heap.size + 1) 23 23 #[.int .i64 a, .int .i64 0, .bool f] (0, 0) _ KR Try.underlying23 rfl (by kernel_rfl)
  generalize (#[.int .i64 a, .int .i64 0, .bool f] : Array Value) = CS at *
  simp [results, show (Try.f18).results = #[.cell 4 23] from rfl, asAddr, HL, Act.put]
theorem rattend_any (a s : Int) (f b : Bool) (w : World) : Calls Try.prog 18 #[.agg #[.int .i64 a, .int .i64 s, .bool f], .bool b] w fun e w' => e = .returned (.agg #[.int .i64 a, .int .i64 0, .bool (!b && f)]) ∧ Below w.heap.size w w' := by
  cases b
  · exact rattend_false a s f w
  · exact rattend_true a s f w
set_option maxRecDepth 100000 in
set_option maxHeartbeats 1000000 in
theorem must_any (a s : Int) (f b : Bool) (w : World) : Calls Try.prog 13 #[.agg #[.int .i64 a, .int .i64 s, .bool f], .bool b] w fun e w' => e = .returned (.bool (mst a s f b)) ∧ Below w.heap.size w w' := by
  have BX : Below w.heap.size w (w.alloc (.cells #[.int .i64 a, .int .i64 s, .bool f] 23)) := (Below.refl _ _).alloc (Nat.le_refl _) _
  unfold mst
  cases f
  · cases b
    · by_cases h : a ≤ s
      · rw [decide_eq_true h]
        go_enter Try.func13, Try.ntmps13
        go_wp2_with fail
        go_ret
        exact ⟨rfl, BX⟩
      · rw [decide_eq_false h]
        go_enter Try.func13, Try.ntmps13
        go_wp2_with fail
        go_ret
        exact ⟨rfl, BX⟩
    · go_enter Try.func13, Try.ntmps13
      go_wp2_with fail
      go_ret
      exact ⟨rfl, BX⟩
  · go_enter Try.func13, Try.ntmps13
    go_wp2_with fail
    go_ret
    exact ⟨rfl, BX⟩
set_option maxRecDepth 100000 in
set_option maxHeartbeats 1000000 in
theorem rmust_any (a s : Int) (f b : Bool) (w : World) : Calls Try.prog 14 #[.agg #[.int .i64 a, .int .i64 s, .bool f], .bool b] w fun e w' => e = .returned (.bool (mst a s f b)) ∧ Below w.heap.size w w' := by
  have BX : Below w.heap.size w (w.alloc (.cells #[.int .i64 a, .int .i64 s, .bool f] 23)) := (Below.refl _ _).alloc (Nat.le_refl _) _
  unfold mst
  cases f
  · cases b
    · by_cases h : a ≤ s
      · rw [decide_eq_true h]
        go_enter Try.func14, Try.ntmps14
        go_wp2_with fail
        go_ret
        exact ⟨rfl, BX⟩
      · rw [decide_eq_false h]
        go_enter Try.func14, Try.ntmps14
        go_wp2_with fail
        go_ret
        exact ⟨rfl, BX⟩
    · go_enter Try.func14, Try.ntmps14
      go_wp2_with fail
      go_ret
      exact ⟨rfl, BX⟩
  · go_enter Try.func14, Try.ntmps14
    go_wp2_with fail
    go_ret
    exact ⟨rfl, BX⟩
set_option maxRecDepth 100000 in
set_option maxHeartbeats 1000000 in
theorem skip_no {a s : Int} {f : Bool} (hm : mst a s f false = true) (w : World) : Calls Try.prog 15 #[.agg #[.int .i64 a, .int .i64 s, .bool f]] w fun e w' => e = .returned (.tuple #[.agg #[.int .i64 a, .int .i64 s, .bool f], .int .i64 9]) ∧ Below w.heap.size w w' := by
  have BX : Below w.heap.size w ((w.alloc (.cells #[.int .i64 a, .int .i64 s, .bool f] 23)).alloc (.cells #[.int .i64 0, .int .i64 0, .bool false] 23)) := ((Below.refl _ _).alloc (Nat.le_refl _) _).alloc (by simp) _
  have K1 : Blk ((w.alloc (.cells #[.int .i64 a, .int .i64 s, .bool f] 23)).alloc (.cells #[.int .i64 0, .int .i64 0, .bool false] 23)) w.heap.size 23 #[.int .i64 a, .int .i64 s, .bool f] := (Blk.fresh w 23 #[.int .i64 a, .int .i64 s, .bool f]).alloc _
  have K2 : Blk ((w.alloc (.cells #[.int .i64 a, .int .i64 s, .bool f] 23)).alloc (.cells #[.int .i64 0, .int .i64 0, .bool false] 23)) (w.heap.size + 1) 23 #[.int .i64 0, .int .i64 0, .bool false] := Av.Blk.next
  have HM : Hid (∀ w, Calls Try.prog 13 #[.agg #[.int .i64 a, .int .i64 s, .bool f], .bool false] w fun e w' => e = .returned (.bool true) ∧ Below w.heap.size w w') := Lib.hid fun w => by have := must_any a s f false w; rwa [hm] at this
  clear hm
  go_enter Try.func15, Try.ntmps15
  go_upto_region 1 with (fail)
  generalize (w.alloc (.cells #[.int .i64 a, .int .i64 s, .bool f] 23)).alloc (.cells #[.int .i64 0, .int .i64 0, .bool false] 23) = W0 at *
  have k0 := K1.cell 0
  have k1 := K1.cell 1
  have k2 := K1.cell 2
  go_upto_region 2 with (go_at_call 13; refine (HM.out _).mono ?_; rintro e W9 ⟨rfl, b9⟩; replace K1 := K1.below b9 K1.lt; replace K2 := K2.below b9 K2.lt; replace BX := thenB BX b9; clear k0 k1 k2)
  have H1 : (#[.int .i64 a, .int .i64 s, .bool f] : Array Value).all (·.oneCell') = true := by rw [← Array.all_toList]; rfl
  go_wp2_with (first | (refine wpList_store_row rfl 23 (.tmp 2) _ rfl (w.heap.size + 1) #[.int .i64 a, .int .i64 s, .bool f] rfl rfl 23 _ K2 (by kernel_rfl) rfl H1 ?_) | (refine wpList_load_row rfl 23 (.tmp 1) rfl w.heap.size rfl 23 _ (0, 0) _ K1 Try.underlying23 rfl (by kernel_rfl) ?_))
  have KR := setRow_heap W9 (w.heap.size + 1) _ #[.int .i64 a, .int .i64 s, .bool f] 23 (0, 0) K2
  have BE := below_setRow BX (Nat.le_succ _) #[.int .i64 a, .int .i64 s, .bool f]
  generalize W9.setRow (w.heap.size + 1) #[.int .i64 a, .int .i64 s, .bool f] = Y at *
  refine bodyPost_ret (v := .tuple #[.agg #[.int .i64 a, .int .i64 s, .bool f], .int .i64 9]) ?_ rfl ⟨rfl, BE⟩
  clear K1
  have HL := run_loadVar_row (P := Try.prog) Y (w.heap.size + 1) 23 23 #[.int .i64 a, .int .i64 s, .bool f] (0, 0) _ KR Try.underlying23 rfl (by kernel_rfl)
  generalize (#[.int .i64 a, .int .i64 s, .bool f] : Array Value) = CS at *
  simp [results, show (Try.f15).results = #[.cell 2 23, .tmp 3] from rfl, asAddr, HL, Act.put]
set_option maxRecDepth 100000 in
set_option maxHeartbeats 1000000 in
theorem skip_yes {a s : Int} {f : Bool} (hm : mst a s f false = false) (hs : -9223372036854775808 ≤ s + 1 ∧ s + 1 ≤ 9223372036854775807) (w : World) : Calls Try.prog 15 #[.agg #[.int .i64 a, .int .i64 s, .bool f]] w fun e w' => e = .returned (.tuple #[.agg #[.int .i64 a, .int .i64 (s + 1), .bool f], .int .i64 0]) ∧ Below w.heap.size w w' := by
  have e1 := IntWalk.wrap64_in (s + 1) hs
  have BX : Below w.heap.size w ((w.alloc (.cells #[.int .i64 a, .int .i64 s, .bool f] 23)).alloc (.cells #[.int .i64 0, .int .i64 0, .bool false] 23)) := ((Below.refl _ _).alloc (Nat.le_refl _) _).alloc (by simp) _
  have K1 : Blk ((w.alloc (.cells #[.int .i64 a, .int .i64 s, .bool f] 23)).alloc (.cells #[.int .i64 0, .int .i64 0, .bool false] 23)) w.heap.size 23 #[.int .i64 a, .int .i64 s, .bool f] := (Blk.fresh w 23 #[.int .i64 a, .int .i64 s, .bool f]).alloc _
  have K2 : Blk ((w.alloc (.cells #[.int .i64 a, .int .i64 s, .bool f] 23)).alloc (.cells #[.int .i64 0, .int .i64 0, .bool false] 23)) (w.heap.size + 1) 23 #[.int .i64 0, .int .i64 0, .bool false] := Av.Blk.next
  have HM : Hid (∀ w, Calls Try.prog 13 #[.agg #[.int .i64 a, .int .i64 s, .bool f], .bool false] w fun e w' => e = .returned (.bool false) ∧ Below w.heap.size w w') := Lib.hid fun w => by have := must_any a s f false w; rwa [hm] at this
  clear hm
  go_enter Try.func15, Try.ntmps15
  go_upto_region 1 with (fail)
  generalize (w.alloc (.cells #[.int .i64 a, .int .i64 s, .bool f] 23)).alloc (.cells #[.int .i64 0, .int .i64 0, .bool false] 23) = W0 at *
  have k0 := K1.cell 0
  have k1 := K1.cell 1
  have k2 := K1.cell 2
  go_upto_region 3 with (go_at_call 13; refine (HM.out _).mono ?_; rintro e W9 ⟨rfl, b9⟩; replace K1 := K1.below b9 K1.lt; replace K2 := K2.below b9 K2.lt; replace BX := thenB BX b9; clear k0 k1 k2)
  have k1 := K1.cell 1
  go_upto_region 4 with (refine Av.wpList_store_cell rfl _ _ _ rfl w.heap.size 1 (.int .i64 (s + 1)) rfl rfl 23 _ K1 (by show 1 < 3; decide) (by kernel_rfl) rfl ?_; replace K2 := Av.bother (i := 1) K2 (show w.heap.size ≠ w.heap.size + 1 by omega) (.int .i64 (s + 1)); replace K1 := Av.bset K1 1 (.int .i64 (s + 1)) rfl; replace BX := BX.setCell (p := ⟨w.heap.size, 1, none⟩) (Nat.le_refl _) (.int .i64 (s + 1)))
  generalize W9.setCell ⟨w.heap.size, 1, none⟩ (.int .i64 (s + 1)) = W8 at *
  clear k1
  have H1 : (#[.int .i64 a, .int .i64 (s + 1), .bool f] : Array Value).all (·.oneCell') = true := by rw [← Array.all_toList]; rfl
  go_wp2_with (first | (refine wpList_store_row rfl 23 (.tmp 2) _ rfl (w.heap.size + 1) #[.int .i64 a, .int .i64 (s + 1), .bool f] rfl rfl 23 _ K2 (by kernel_rfl) rfl H1 ?_) | (refine wpList_load_row rfl 23 (.tmp 1) rfl w.heap.size rfl 23 _ (0, 0) _ K1 Try.underlying23 rfl (by kernel_rfl) ?_))
  have KR := setRow_heap W8 (w.heap.size + 1) _ #[.int .i64 a, .int .i64 (s + 1), .bool f] 23 (0, 0) K2
  have BE := below_setRow BX (Nat.le_succ _) #[.int .i64 a, .int .i64 (s + 1), .bool f]
  generalize W8.setRow (w.heap.size + 1) #[.int .i64 a, .int .i64 (s + 1), .bool f] = Y at *
  refine bodyPost_ret (v := .tuple #[.agg #[.int .i64 a, .int .i64 (s + 1), .bool f], .int .i64 0]) ?_ rfl ⟨rfl, BE⟩
  clear K1
  have HL := run_loadVar_row (P := Try.prog) Y (w.heap.size + 1) 23 23 #[.int .i64 a, .int .i64 (s + 1), .bool f] (0, 0) _ KR Try.underlying23 rfl (by kernel_rfl)
  generalize (#[.int .i64 a, .int .i64 (s + 1), .bool f] : Array Value) = CS at *
  simp [results, show (Try.f15).results = #[.cell 2 23, .tmp 3] from rfl, asAddr, HL, Act.put]
set_option maxRecDepth 100000 in
set_option maxHeartbeats 1000000 in
theorem rskip_no {a s : Int} {f : Bool} (hm : mst a s f false = true) (w : World) : Calls Try.prog 16 #[.agg #[.int .i64 a, .int .i64 s, .bool f]] w fun e w' => e = .returned (.tuple #[.agg #[.int .i64 a, .int .i64 s, .bool f], .int .i64 9]) ∧ Below w.heap.size w w' := by
  have BX : Below w.heap.size w ((w.alloc (.cells #[.int .i64 a, .int .i64 s, .bool f] 23)).alloc (.cells #[.int .i64 0, .int .i64 0, .bool false] 23)) := ((Below.refl _ _).alloc (Nat.le_refl _) _).alloc (by simp) _
  have K1 : Blk ((w.alloc (.cells #[.int .i64 a, .int .i64 s, .bool f] 23)).alloc (.cells #[.int .i64 0, .int .i64 0, .bool false] 23)) w.heap.size 23 #[.int .i64 a, .int .i64 s, .bool f] := (Blk.fresh w 23 #[.int .i64 a, .int .i64 s, .bool f]).alloc _
  have K2 : Blk ((w.alloc (.cells #[.int .i64 a, .int .i64 s, .bool f] 23)).alloc (.cells #[.int .i64 0, .int .i64 0, .bool false] 23)) (w.heap.size + 1) 23 #[.int .i64 0, .int .i64 0, .bool false] := Av.Blk.next
  have HM : Hid (∀ w, Calls Try.prog 14 #[.agg #[.int .i64 a, .int .i64 s, .bool f], .bool false] w fun e w' => e = .returned (.bool true) ∧ Below w.heap.size w w') := Lib.hid fun w => by have := rmust_any a s f false w; rwa [hm] at this
  clear hm
  go_enter Try.func16, Try.ntmps16
  go_upto_region 1 with (fail)
  generalize (w.alloc (.cells #[.int .i64 a, .int .i64 s, .bool f] 23)).alloc (.cells #[.int .i64 0, .int .i64 0, .bool false] 23) = W0 at *
  have k0 := K1.cell 0
  have k1 := K1.cell 1
  have k2 := K1.cell 2
  go_upto_region 2 with (go_at_call 14; refine (HM.out _).mono ?_; rintro e W9 ⟨rfl, b9⟩; replace K1 := K1.below b9 K1.lt; replace K2 := K2.below b9 K2.lt; replace BX := thenB BX b9; clear k0 k1 k2)
  have H1 : (#[.int .i64 a, .int .i64 s, .bool f] : Array Value).all (·.oneCell') = true := by rw [← Array.all_toList]; rfl
  go_wp2_with (first | (refine wpList_store_row rfl 23 (.tmp 2) _ rfl (w.heap.size + 1) #[.int .i64 a, .int .i64 s, .bool f] rfl rfl 23 _ K2 (by kernel_rfl) rfl H1 ?_) | (refine wpList_load_row rfl 23 (.tmp 1) rfl w.heap.size rfl 23 _ (0, 0) _ K1 Try.underlying23 rfl (by kernel_rfl) ?_))
  have KR := setRow_heap W9 (w.heap.size + 1) _ #[.int .i64 a, .int .i64 s, .bool f] 23 (0, 0) K2
  have BE := below_setRow BX (Nat.le_succ _) #[.int .i64 a, .int .i64 s, .bool f]
  generalize W9.setRow (w.heap.size + 1) #[.int .i64 a, .int .i64 s, .bool f] = Y at *
  refine bodyPost_ret (v := .tuple #[.agg #[.int .i64 a, .int .i64 s, .bool f], .int .i64 9]) ?_ rfl ⟨rfl, BE⟩
  clear K1
  have HL := run_loadVar_row (P := Try.prog) Y (w.heap.size + 1) 23 23 #[.int .i64 a, .int .i64 s, .bool f] (0, 0) _ KR Try.underlying23 rfl (by kernel_rfl)
  generalize (#[.int .i64 a, .int .i64 s, .bool f] : Array Value) = CS at *
  simp [results, show (Try.f16).results = #[.cell 2 23, .tmp 3] from rfl, asAddr, HL, Act.put]
set_option maxRecDepth 100000 in
set_option maxHeartbeats 1000000 in
theorem rskip_yes {a s : Int} {f : Bool} (hm : mst a s f false = false) (hs : -9223372036854775808 ≤ s + 1 ∧ s + 1 ≤ 9223372036854775807) (w : World) : Calls Try.prog 16 #[.agg #[.int .i64 a, .int .i64 s, .bool f]] w fun e w' => e = .returned (.tuple #[.agg #[.int .i64 a, .int .i64 (s + 1), .bool f], .int .i64 0]) ∧ Below w.heap.size w w' := by
  have e1 := IntWalk.wrap64_in (s + 1) hs
  have BX : Below w.heap.size w ((w.alloc (.cells #[.int .i64 a, .int .i64 s, .bool f] 23)).alloc (.cells #[.int .i64 0, .int .i64 0, .bool false] 23)) := ((Below.refl _ _).alloc (Nat.le_refl _) _).alloc (by simp) _
  have K1 : Blk ((w.alloc (.cells #[.int .i64 a, .int .i64 s, .bool f] 23)).alloc (.cells #[.int .i64 0, .int .i64 0, .bool false] 23)) w.heap.size 23 #[.int .i64 a, .int .i64 s, .bool f] := (Blk.fresh w 23 #[.int .i64 a, .int .i64 s, .bool f]).alloc _
  have K2 : Blk ((w.alloc (.cells #[.int .i64 a, .int .i64 s, .bool f] 23)).alloc (.cells #[.int .i64 0, .int .i64 0, .bool false] 23)) (w.heap.size + 1) 23 #[.int .i64 0, .int .i64 0, .bool false] := Av.Blk.next
  have HM : Hid (∀ w, Calls Try.prog 14 #[.agg #[.int .i64 a, .int .i64 s, .bool f], .bool false] w fun e w' => e = .returned (.bool false) ∧ Below w.heap.size w w') := Lib.hid fun w => by have := rmust_any a s f false w; rwa [hm] at this
  clear hm
  go_enter Try.func16, Try.ntmps16
  go_upto_region 1 with (fail)
  generalize (w.alloc (.cells #[.int .i64 a, .int .i64 s, .bool f] 23)).alloc (.cells #[.int .i64 0, .int .i64 0, .bool false] 23) = W0 at *
  have k0 := K1.cell 0
  have k1 := K1.cell 1
  have k2 := K1.cell 2
  go_upto_region 3 with (go_at_call 14; refine (HM.out _).mono ?_; rintro e W9 ⟨rfl, b9⟩; replace K1 := K1.below b9 K1.lt; replace K2 := K2.below b9 K2.lt; replace BX := thenB BX b9; clear k0 k1 k2)
  have k1 := K1.cell 1
  go_upto_region 4 with (refine Av.wpList_store_cell rfl _ _ _ rfl w.heap.size 1 (.int .i64 (s + 1)) rfl rfl 23 _ K1 (by show 1 < 3; decide) (by kernel_rfl) rfl ?_; replace K2 := Av.bother (i := 1) K2 (show w.heap.size ≠ w.heap.size + 1 by omega) (.int .i64 (s + 1)); replace K1 := Av.bset K1 1 (.int .i64 (s + 1)) rfl; replace BX := BX.setCell (p := ⟨w.heap.size, 1, none⟩) (Nat.le_refl _) (.int .i64 (s + 1)))
  generalize W9.setCell ⟨w.heap.size, 1, none⟩ (.int .i64 (s + 1)) = W8 at *
  clear k1
  have H1 : (#[.int .i64 a, .int .i64 (s + 1), .bool f] : Array Value).all (·.oneCell') = true := by rw [← Array.all_toList]; rfl
  go_wp2_with (first | (refine wpList_store_row rfl 23 (.tmp 2) _ rfl (w.heap.size + 1) #[.int .i64 a, .int .i64 (s + 1), .bool f] rfl rfl 23 _ K2 (by kernel_rfl) rfl H1 ?_) | (refine wpList_load_row rfl 23 (.tmp 1) rfl w.heap.size rfl 23 _ (0, 0) _ K1 Try.underlying23 rfl (by kernel_rfl) ?_))
  have KR := setRow_heap W8 (w.heap.size + 1) _ #[.int .i64 a, .int .i64 (s + 1), .bool f] 23 (0, 0) K2
  have BE := below_setRow BX (Nat.le_succ _) #[.int .i64 a, .int .i64 (s + 1), .bool f]
  generalize W8.setRow (w.heap.size + 1) #[.int .i64 a, .int .i64 (s + 1), .bool f] = Y at *
  refine bodyPost_ret (v := .tuple #[.agg #[.int .i64 a, .int .i64 (s + 1), .bool f], .int .i64 0]) ?_ rfl ⟨rfl, BE⟩
  clear K1
  have HL := run_loadVar_row (P := Try.prog) Y (w.heap.size + 1) 23 23 #[.int .i64 a, .int .i64 (s + 1), .bool f] (0, 0) _ KR Try.underlying23 rfl (by kernel_rfl)
  generalize (#[.int .i64 a, .int .i64 (s + 1), .bool f] : Array Value) = CS at *
  simp [results, show (Try.f16).results = #[.cell 2 23, .tmp 3] from rfl, asAddr, HL, Act.put]
end Go.Proofs.Ytfkjbpgobgmmfaa.Lat
