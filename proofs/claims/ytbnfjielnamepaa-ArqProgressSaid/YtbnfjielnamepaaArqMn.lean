/- Acknowledgement: two sides after any step: contracts over the program. -/
import Derived.Test.YtbnfjielnamepaaArqMl0
import Derived.Test.YtbnfjielnamepaaArqMl1
import Derived.Test.YtbnfjielnamepaaArqMs0
import Derived.Test.YtbnfjielnamepaaArqMs1
set_option linter.unusedVariables false
set_option linter.unusedSimpArgs false
namespace Go.Proofs.Ytbnfjielnamepaa.Arq
open Go.RowKit Mem Oct Rw Av Dp
open Base (thenB)

set_option maxRecDepth 100000 in
set_option maxHeartbeats 4000000 in
theorem moven_any (sn0 nesn0 : Int) (q0 : List Pk) (op0 em0 : Bool) (ack0 tak0 : Nat) (sn1 nesn1 : Int) (q1 : List Pk) (op1 em1 : Bool) (ack1 tak1 : Nat) (qa qb ga gb : List Pk) (d : Int) (lost : Bool) (x : Pm) (m : Nat) (w : World) (V0 V1 V2 V3 V4 V5 : Value) (l0 l1 l2 l3 l4 l5 : List Pm) (hmw : m ≤ w.heap.size)
    (HX : EnAt w m ⟨⟨sn0, nesn0, q0, op0, em0, ack0, tak0⟩, ⟨sn1, nesn1, q1, op1, em1, ack1, tak1⟩, qa, qb, ga, gb⟩ V0 V1 V2 V3 V4 V5 l0 l1 l2 l3 l4 l5) (h0 : d ≠ 0) (h1 : d ≠ 1) (h2 : d ≠ 2) (h3 : d ≠ 3) :
    Calls Try.prog 39 #[.agg #[.int .i64 sn0, .int .i64 nesn0, V0, .bool op0, .bool em0, .int .i64 (ack0 : Int), .int .i64 (tak0 : Int), .int .i64 sn1, .int .i64 nesn1, V1, .bool op1, .bool em1, .int .i64 (ack1 : Int), .int .i64 (tak1 : Int), V2, V3, V4, V5], .agg #[.int .i64 d, .bool lost, .int .i64 x.k, .slice x.A x.v.length x.c]] w fun e w' => Moved w w' e m (moveR ⟨⟨sn0, nesn0, q0, op0, em0, ack0, tak0⟩, ⟨sn1, nesn1, q1, op1, em1, ack1, tak1⟩, qa, qb, ga, gb⟩ d lost x.p) := by
  have oV0 : V0.oneCell' = true := qq_one HX.all.q0
  have oV1 : V1.oneCell' = true := qq_one HX.all.q1
  have oV2 : V2.oneCell' = true := rr_one HX.all.r2
  have oV3 : V3.oneCell' = true := rr_one HX.all.r3
  have oV4 : V4.oneCell' = true := rr_one HX.all.r4
  have oV5 : V5.oneCell' = true := rr_one HX.all.r5
  have BX : Below m w (((w.alloc (.cells #[.int .i64 sn0, .int .i64 nesn0, V0, .bool op0, .bool em0, .int .i64 (ack0 : Int), .int .i64 (tak0 : Int), .int .i64 sn1, .int .i64 nesn1, V1, .bool op1, .bool em1, .int .i64 (ack1 : Int), .int .i64 (tak1 : Int), V2, V3, V4, V5] 62)).alloc (.cells #[.int .i64 d, .bool lost, .int .i64 x.k, .slice x.A x.v.length x.c] 65)).alloc (.cells #[.int .i64 0, .int .i64 0, .slice none 0 0, .bool false, .bool false, .int .i64 0, .int .i64 0, .int .i64 0, .int .i64 0, .slice none 0 0, .bool false, .bool false, .int .i64 0, .int .i64 0, .slice none 0 0, .slice none 0 0, .slice none 0 0, .slice none 0 0] 62)) := (((Below.refl _ _).alloc hmw _).alloc (by simp; omega) _).alloc (by simp; omega) _
  have K2 : Blk (((w.alloc (.cells #[.int .i64 sn0, .int .i64 nesn0, V0, .bool op0, .bool em0, .int .i64 (ack0 : Int), .int .i64 (tak0 : Int), .int .i64 sn1, .int .i64 nesn1, V1, .bool op1, .bool em1, .int .i64 (ack1 : Int), .int .i64 (tak1 : Int), V2, V3, V4, V5] 62)).alloc (.cells #[.int .i64 d, .bool lost, .int .i64 x.k, .slice x.A x.v.length x.c] 65)).alloc (.cells #[.int .i64 0, .int .i64 0, .slice none 0 0, .bool false, .bool false, .int .i64 0, .int .i64 0, .int .i64 0, .int .i64 0, .slice none 0 0, .bool false, .bool false, .int .i64 0, .int .i64 0, .slice none 0 0, .slice none 0 0, .slice none 0 0, .slice none 0 0] 62)) (w.heap.size) 62 #[.int .i64 sn0, .int .i64 nesn0, V0, .bool op0, .bool em0, .int .i64 (ack0 : Int), .int .i64 (tak0 : Int), .int .i64 sn1, .int .i64 nesn1, V1, .bool op1, .bool em1, .int .i64 (ack1 : Int), .int .i64 (tak1 : Int), V2, V3, V4, V5] := ((Blk.fresh w 62 #[.int .i64 sn0, .int .i64 nesn0, V0, .bool op0, .bool em0, .int .i64 (ack0 : Int), .int .i64 (tak0 : Int), .int .i64 sn1, .int .i64 nesn1, V1, .bool op1, .bool em1, .int .i64 (ack1 : Int), .int .i64 (tak1 : Int), V2, V3, V4, V5]).alloc _).alloc _
  have K3 : Blk (((w.alloc (.cells #[.int .i64 sn0, .int .i64 nesn0, V0, .bool op0, .bool em0, .int .i64 (ack0 : Int), .int .i64 (tak0 : Int), .int .i64 sn1, .int .i64 nesn1, V1, .bool op1, .bool em1, .int .i64 (ack1 : Int), .int .i64 (tak1 : Int), V2, V3, V4, V5] 62)).alloc (.cells #[.int .i64 d, .bool lost, .int .i64 x.k, .slice x.A x.v.length x.c] 65)).alloc (.cells #[.int .i64 0, .int .i64 0, .slice none 0 0, .bool false, .bool false, .int .i64 0, .int .i64 0, .int .i64 0, .int .i64 0, .slice none 0 0, .bool false, .bool false, .int .i64 0, .int .i64 0, .slice none 0 0, .slice none 0 0, .slice none 0 0, .slice none 0 0] 62)) (w.heap.size + 1) 65 #[.int .i64 d, .bool lost, .int .i64 x.k, .slice x.A x.v.length x.c] := (Av.Blk.next).alloc _
  have K4 : Blk (((w.alloc (.cells #[.int .i64 sn0, .int .i64 nesn0, V0, .bool op0, .bool em0, .int .i64 (ack0 : Int), .int .i64 (tak0 : Int), .int .i64 sn1, .int .i64 nesn1, V1, .bool op1, .bool em1, .int .i64 (ack1 : Int), .int .i64 (tak1 : Int), V2, V3, V4, V5] 62)).alloc (.cells #[.int .i64 d, .bool lost, .int .i64 x.k, .slice x.A x.v.length x.c] 65)).alloc (.cells #[.int .i64 0, .int .i64 0, .slice none 0 0, .bool false, .bool false, .int .i64 0, .int .i64 0, .int .i64 0, .int .i64 0, .slice none 0 0, .bool false, .bool false, .int .i64 0, .int .i64 0, .slice none 0 0, .slice none 0 0, .slice none 0 0, .slice none 0 0] 62)) (w.heap.size + 2) 62 #[.int .i64 0, .int .i64 0, .slice none 0 0, .bool false, .bool false, .int .i64 0, .int .i64 0, .int .i64 0, .int .i64 0, .slice none 0 0, .bool false, .bool false, .int .i64 0, .int .i64 0, .slice none 0 0, .slice none 0 0, .slice none 0 0, .slice none 0 0] := by
    have := Blk.fresh ((w.alloc (.cells #[.int .i64 sn0, .int .i64 nesn0, V0, .bool op0, .bool em0, .int .i64 (ack0 : Int), .int .i64 (tak0 : Int), .int .i64 sn1, .int .i64 nesn1, V1, .bool op1, .bool em1, .int .i64 (ack1 : Int), .int .i64 (tak1 : Int), V2, V3, V4, V5] 62)).alloc (.cells #[.int .i64 d, .bool lost, .int .i64 x.k, .slice x.A x.v.length x.c] 65)) 62 #[.int .i64 0, .int .i64 0, .slice none 0 0, .bool false, .bool false, .int .i64 0, .int .i64 0, .int .i64 0, .int .i64 0, .slice none 0 0, .bool false, .bool false, .int .i64 0, .int .i64 0, .slice none 0 0, .slice none 0 0, .slice none 0 0, .slice none 0 0]
    simpa using this
  have HA : All (((w.alloc (.cells #[.int .i64 sn0, .int .i64 nesn0, V0, .bool op0, .bool em0, .int .i64 (ack0 : Int), .int .i64 (tak0 : Int), .int .i64 sn1, .int .i64 nesn1, V1, .bool op1, .bool em1, .int .i64 (ack1 : Int), .int .i64 (tak1 : Int), V2, V3, V4, V5] 62)).alloc (.cells #[.int .i64 d, .bool lost, .int .i64 x.k, .slice x.A x.v.length x.c] 65)).alloc (.cells #[.int .i64 0, .int .i64 0, .slice none 0 0, .bool false, .bool false, .int .i64 0, .int .i64 0, .int .i64 0, .int .i64 0, .slice none 0 0, .bool false, .bool false, .int .i64 0, .int .i64 0, .slice none 0 0, .slice none 0 0, .slice none 0 0, .slice none 0 0] 62)) m m V0 V1 V2 V3 V4 V5 l0 l1 l2 l3 l4 l5 := HX.all.below ((((Below.refl _ _).alloc (Nat.le_refl _) _).alloc (by simp) _).alloc (by simp; omega) _)
  have HO : Hid (moveR ⟨⟨sn0, nesn0, q0, op0, em0, ack0, tak0⟩, ⟨sn1, nesn1, q1, op1, em1, ack1, tak1⟩, qa, qb, ga, gb⟩ d lost x.p = ⟨⟨sn0, nesn0, q0, op0, em0, ack0, tak0⟩, ⟨sn1, nesn1, q1, op1, em1, ack1, tak1⟩, qa, qb, ga, gb⟩) := Lib.hid (by unfold moveR; rw [if_neg h0, if_neg h1, if_neg h2, if_neg h3])
  have d0 : (d == 0) = false := by simpa using h0
  have d1 : (d == 1) = false := by simpa using h1
  have d2 : (d == 2) = false := by simpa using h2
  have d3 : (d == 3) = false := by simpa using h3
  clear h0 h1 h2 h3
  go_enter Try.func39, Try.ntmps39
  go_upto_region 1 with (fail)
  generalize ((w.alloc (.cells #[.int .i64 sn0, .int .i64 nesn0, V0, .bool op0, .bool em0, .int .i64 (ack0 : Int), .int .i64 (tak0 : Int), .int .i64 sn1, .int .i64 nesn1, V1, .bool op1, .bool em1, .int .i64 (ack1 : Int), .int .i64 (tak1 : Int), V2, V3, V4, V5] 62)).alloc (.cells #[.int .i64 d, .bool lost, .int .i64 x.k, .slice x.A x.v.length x.c] 65)).alloc (.cells #[.int .i64 0, .int .i64 0, .slice none 0 0, .bool false, .bool false, .int .i64 0, .int .i64 0, .int .i64 0, .int .i64 0, .slice none 0 0, .bool false, .bool false, .int .i64 0, .int .i64 0, .slice none 0 0, .slice none 0 0, .slice none 0 0, .slice none 0 0] 62) = W0 at *
  have q0 := K3.cell 0
  go_upto_region 15 with (fail)
  clear q0 d0 d1 d2 d3
  have H1 : (#[.int .i64 sn0, .int .i64 nesn0, V0, .bool op0, .bool em0, .int .i64 (ack0 : Int), .int .i64 (tak0 : Int), .int .i64 sn1, .int .i64 nesn1, V1, .bool op1, .bool em1, .int .i64 (ack1 : Int), .int .i64 (tak1 : Int), V2, V3, V4, V5] : Array Value).all (·.oneCell') = true := by rw [← Array.all_toList]; simp only [List.all_cons, List.all_nil, oV0, oV1, oV2, oV3, oV4, oV5, Bool.and_true, Bool.and_self]; rfl
  go_wp2_with (first | (refine wpList_store_row rfl 62 (.tmp 4) _ rfl (w.heap.size + 2) #[.int .i64 sn0, .int .i64 nesn0, V0, .bool op0, .bool em0, .int .i64 (ack0 : Int), .int .i64 (tak0 : Int), .int .i64 sn1, .int .i64 nesn1, V1, .bool op1, .bool em1, .int .i64 (ack1 : Int), .int .i64 (tak1 : Int), V2, V3, V4, V5] rfl rfl 62 _ K4 (by kernel_rfl) rfl H1 ?_) | (refine wpList_load_row rfl 62 (.tmp 2) rfl (w.heap.size) rfl 62 _ (0, 0) _ K2 Try.underlying62 rfl (by kernel_rfl) ?_))
  have HF := HA.step (stp_row K4 #[.int .i64 sn0, .int .i64 nesn0, V0, .bool op0, .bool em0, .int .i64 (ack0 : Int), .int .i64 (tak0 : Int), .int .i64 sn1, .int .i64 nesn1, V1, .bool op1, .bool em1, .int .i64 (ack1 : Int), .int .i64 (tak1 : Int), V2, V3, V4, V5]) (by decide) (by decide) (by omega)
  have KR := setRow_heap W0 (w.heap.size + 2) _ #[.int .i64 sn0, .int .i64 nesn0, V0, .bool op0, .bool em0, .int .i64 (ack0 : Int), .int .i64 (tak0 : Int), .int .i64 sn1, .int .i64 nesn1, V1, .bool op1, .bool em1, .int .i64 (ack1 : Int), .int .i64 (tak1 : Int), V2, V3, V4, V5] 62 (0, 0) K4
  have BE : Below m w (W0.setRow (w.heap.size + 2) #[.int .i64 sn0, .int .i64 nesn0, V0, .bool op0, .bool em0, .int .i64 (ack0 : Int), .int .i64 (tak0 : Int), .int .i64 sn1, .int .i64 nesn1, V1, .bool op1, .bool em1, .int .i64 (ack1 : Int), .int .i64 (tak1 : Int), V2, V3, V4, V5]) := below_setRow BX (by omega) #[.int .i64 sn0, .int .i64 nesn0, V0, .bool op0, .bool em0, .int .i64 (ack0 : Int), .int .i64 (tak0 : Int), .int .i64 sn1, .int .i64 nesn1, V1, .bool op1, .bool em1, .int .i64 (ack1 : Int), .int .i64 (tak1 : Int), V2, V3, V4, V5]
  generalize W0.setRow (w.heap.size + 2) #[.int .i64 sn0, .int .i64 nesn0, V0, .bool op0, .bool em0, .int .i64 (ack0 : Int), .int .i64 (tak0 : Int), .int .i64 sn1, .int .i64 nesn1, V1, .bool op1, .bool em1, .int .i64 (ack1 : Int), .int .i64 (tak1 : Int), V2, V3, V4, V5] = Y at *
  refine bodyPost_ret (v := .agg #[.int .i64 sn0, .int .i64 nesn0, V0, .bool op0, .bool em0, .int .i64 (ack0 : Int), .int .i64 (tak0 : Int), .int .i64 sn1, .int .i64 nesn1, V1, .bool op1, .bool em1, .int .i64 (ack1 : Int), .int .i64 (tak1 : Int), V2, V3, V4, V5]) ?_ rfl (by rw [HO.out]; exact ⟨V0, V1, V2, V3, V4, V5, l0, l1, l2, l3, l4, l5, rfl, ⟨HF, HX.e0, HX.e1, HX.e2, HX.e3, HX.e4, HX.e5⟩, BE⟩)
  clear K2
  have HL := run_loadVar_row (P := Try.prog) Y (w.heap.size + 2) 62 62 #[.int .i64 sn0, .int .i64 nesn0, V0, .bool op0, .bool em0, .int .i64 (ack0 : Int), .int .i64 (tak0 : Int), .int .i64 sn1, .int .i64 nesn1, V1, .bool op1, .bool em1, .int .i64 (ack1 : Int), .int .i64 (tak1 : Int), V2, V3, V4, V5] (0, 0) _ KR Try.underlying62 rfl (by kernel_rfl)
  generalize (#[.int .i64 sn0, .int .i64 nesn0, V0, .bool op0, .bool em0, .int .i64 (ack0 : Int), .int .i64 (tak0 : Int), .int .i64 sn1, .int .i64 nesn1, V1, .bool op1, .bool em1, .int .i64 (ack1 : Int), .int .i64 (tak1 : Int), V2, V3, V4, V5] : Array Value) = CS at *
  simp [results, show (Try.f39).results = #[.cell 4 62] from rfl, asAddr, HL, Act.put]
theorem moved_any (x : En) (j : Nat) (d : Int) (lost : Bool) (y : Pm) (m : Nat) (w : World) (V0 V1 V2 V3 V4 V5 : Value) (l0 l1 l2 l3 l4 l5 : List Pm) (hmw : m ≤ w.heap.size) (HI : Inv x j) (hj : j ≤ 1000)
    (HX : EnAt w m x V0 V1 V2 V3 V4 V5 l0 l1 l2 l3 l4 l5) (hpp : Older m w y) :
    Calls Try.prog 39 #[.agg (xcel x V0 V1 V2 V3 V4 V5), .agg #[.int .i64 d, .bool lost, .int .i64 y.k, .slice y.A y.v.length y.c]] w fun e w' => Moved w w' e m (moveR x d lost y.p) := by
  have n0 : l0.length ≤ j := by
    have h : l0.length = x.a.q.length := by rw [← HX.e0, List.length_map]
    have := HI.ab.q; have := HI.la
    rw [h, HI.ab.q, List.length_drop]; omega
  have n1 : l1.length ≤ j := by
    have h : l1.length = x.b.q.length := by rw [← HX.e1, List.length_map]
    have := HI.lb
    rw [h, HI.ba.q, List.length_drop]; omega
  have n2 : l2.length ≤ j := by
    have h : l2.length = x.qa.length := by rw [← HX.e2, List.length_map]
    have := HI.la; omega
  have n3 : l3.length ≤ j := by
    have h : l3.length = x.qb.length := by rw [← HX.e3, List.length_map]
    have := HI.lb; omega
  have n4 : l4.length ≤ j := by
    have h : l4.length = x.ga.length := by rw [← HX.e4, List.length_map]
    have := HI.lb; have := rel_len HI.ba; have := HI.ba.tl; omega
  have n5 : l5.length ≤ j := by
    have h : l5.length = x.gb.length := by rw [← HX.e5, List.length_map]
    have := HI.la; have := rel_len HI.ab; have := HI.ab.tl; omega
  have ba := HI.ab.bs
  have bb := HI.ab.br
  have ca : x.a.ack ≤ 1000 ∧ x.a.tak ≤ 1000 := by have := HI.ab.le; have := HI.la; have := HI.lb; have := HI.ba.tl; omega
  have cb : x.b.ack ≤ 1000 ∧ x.b.tak ≤ 1000 := by have := HI.ba.le; have := HI.la; have := HI.lb; have := HI.ab.tl; omega
  have ka : chk (pduR (openR x.a)) = 0 := pdu_ok (rel_open HI.ab)
  have kb : chk (pduR (openR x.b)) = 0 := pdu_ok (rel_open HI.ba)
  have m01 : l0.length ≤ 100000 ∧ l1.length ≤ 100000 := by omega
  have m23 : l2.length ≤ 100000 ∧ l3.length ≤ 100000 := by omega
  have m45 : l4.length ≤ 100000 ∧ l5.length ≤ 100000 := by omega
  clear n0 n1 n2 n3 n4 n5 HI
  obtain ⟨⟨sn0, nesn0, q0, op0, em0, ack0, tak0⟩, ⟨sn1, nesn1, q1, op1, em1, ack1, tak1⟩, qa, qb, ga, gb⟩ := x
  by_cases h0 : d = 0
  · subst h0; exact moveq0_any sn0 nesn0 q0 op0 em0 ack0 tak0 sn1 nesn1 q1 op1 em1 ack1 tak1 qa qb ga gb lost y m w V0 V1 V2 V3 V4 V5 l0 l1 l2 l3 l4 l5 hmw HX m01 m23 hpp
  by_cases h1 : d = 1
  · subst h1; exact moveq1_any sn0 nesn0 q0 op0 em0 ack0 tak0 sn1 nesn1 q1 op1 em1 ack1 tak1 qa qb ga gb lost y m w V0 V1 V2 V3 V4 V5 l0 l1 l2 l3 l4 l5 hmw HX m01 m23 hpp
  by_cases h2 : d = 2
  · subst h2
    cases lost with
    | true => exact movel0_any sn0 nesn0 q0 op0 em0 ack0 tak0 sn1 nesn1 q1 op1 em1 ack1 tak1 qa qb ga gb y m w V0 V1 V2 V3 V4 V5 l0 l1 l2 l3 l4 l5 hmw HX m01 m45
    | false => exact moves0_any sn0 nesn0 q0 op0 em0 ack0 tak0 sn1 nesn1 q1 op1 em1 ack1 tak1 qa qb ga gb y m w V0 V1 V2 V3 V4 V5 l0 l1 l2 l3 l4 l5 hmw HX m01 m45 bb cb ka
  by_cases h3 : d = 3
  · subst h3
    cases lost with
    | true => exact movel1_any sn0 nesn0 q0 op0 em0 ack0 tak0 sn1 nesn1 q1 op1 em1 ack1 tak1 qa qb ga gb y m w V0 V1 V2 V3 V4 V5 l0 l1 l2 l3 l4 l5 hmw HX m01 m45
    | false => exact moves1_any sn0 nesn0 q0 op0 em0 ack0 tak0 sn1 nesn1 q1 op1 em1 ack1 tak1 qa qb ga gb y m w V0 V1 V2 V3 V4 V5 l0 l1 l2 l3 l4 l5 hmw HX m01 m45 ba ca kb
  exact moven_any sn0 nesn0 q0 op0 em0 ack0 tak0 sn1 nesn1 q1 op1 em1 ack1 tak1 qa qb ga gb d lost y m w V0 V1 V2 V3 V4 V5 l0 l1 l2 l3 l4 l5 hmw HX h0 h1 h2 h3
end Go.Proofs.Ytbnfjielnamepaa.Arq
