/- Acknowledgement: two sides, side 1 sends: contracts over the program. -/
import Derived.Test.YtbnfjielnamepaaArqMvQ
set_option linter.unusedVariables false
set_option linter.unusedSimpArgs false
namespace Go.Proofs.Ytbnfjielnamepaa.Arq
open Go.RowKit Mem Oct Rw Av Dp
open Base (thenB)

set_option maxRecDepth 100000 in
set_option maxHeartbeats 4000000 in
theorem movel1_any (sn0 nesn0 : Int) (q0 : List Pk) (op0 em0 : Bool) (ack0 tak0 : Nat) (sn1 nesn1 : Int) (q1 : List Pk) (op1 em1 : Bool) (ack1 tak1 : Nat) (qa qb ga gb : List Pk) (x : Pm) (m : Nat) (w : World) (V0 V1 V2 V3 V4 V5 : Value) (l0 l1 l2 l3 l4 l5 : List Pm) (hmw : m ≤ w.heap.size)
    (HX : EnAt w m ⟨⟨sn0, nesn0, q0, op0, em0, ack0, tak0⟩, ⟨sn1, nesn1, q1, op1, em1, ack1, tak1⟩, qa, qb, ga, gb⟩ V0 V1 V2 V3 V4 V5 l0 l1 l2 l3 l4 l5) (hb0 : l0.length ≤ 100000 ∧ l1.length ≤ 100000) (hb4 : l4.length ≤ 100000 ∧ l5.length ≤ 100000) :
    Calls Try.prog 39 #[.agg #[.int .i64 sn0, .int .i64 nesn0, V0, .bool op0, .bool em0, .int .i64 (ack0 : Int), .int .i64 (tak0 : Int), .int .i64 sn1, .int .i64 nesn1, V1, .bool op1, .bool em1, .int .i64 (ack1 : Int), .int .i64 (tak1 : Int), V2, V3, V4, V5], .agg #[.int .i64 3, .bool true, .int .i64 x.k, .slice x.A x.v.length x.c]] w fun e w' => Moved w w' e m (moveR ⟨⟨sn0, nesn0, q0, op0, em0, ack0, tak0⟩, ⟨sn1, nesn1, q1, op1, em1, ack1, tak1⟩, qa, qb, ga, gb⟩ 3 true x.p) := by
  obtain ⟨iE, hi, hz0, hs, hb, hc0⟩ := info_parts2 info_pk rfl
  have oV0 : V0.oneCell' = true := qq_one HX.all.q0
  have oV1 : V1.oneCell' = true := qq_one HX.all.q1
  have oV2 : V2.oneCell' = true := rr_one HX.all.r2
  have oV3 : V3.oneCell' = true := rr_one HX.all.r3
  have oV4 : V4.oneCell' = true := rr_one HX.all.r4
  have oV5 : V5.oneCell' = true := rr_one HX.all.r5
  have BX : Below m w (((w.alloc (.cells #[.int .i64 sn0, .int .i64 nesn0, V0, .bool op0, .bool em0, .int .i64 (ack0 : Int), .int .i64 (tak0 : Int), .int .i64 sn1, .int .i64 nesn1, V1, .bool op1, .bool em1, .int .i64 (ack1 : Int), .int .i64 (tak1 : Int), V2, V3, V4, V5] 62)).alloc (.cells #[.int .i64 3, .bool true, .int .i64 x.k, .slice x.A x.v.length x.c] 65)).alloc (.cells #[.int .i64 0, .int .i64 0, .slice none 0 0, .bool false, .bool false, .int .i64 0, .int .i64 0, .int .i64 0, .int .i64 0, .slice none 0 0, .bool false, .bool false, .int .i64 0, .int .i64 0, .slice none 0 0, .slice none 0 0, .slice none 0 0, .slice none 0 0] 62)) := (((Below.refl _ _).alloc hmw _).alloc (by simp; omega) _).alloc (by simp; omega) _
  have K2 : Blk (((w.alloc (.cells #[.int .i64 sn0, .int .i64 nesn0, V0, .bool op0, .bool em0, .int .i64 (ack0 : Int), .int .i64 (tak0 : Int), .int .i64 sn1, .int .i64 nesn1, V1, .bool op1, .bool em1, .int .i64 (ack1 : Int), .int .i64 (tak1 : Int), V2, V3, V4, V5] 62)).alloc (.cells #[.int .i64 3, .bool true, .int .i64 x.k, .slice x.A x.v.length x.c] 65)).alloc (.cells #[.int .i64 0, .int .i64 0, .slice none 0 0, .bool false, .bool false, .int .i64 0, .int .i64 0, .int .i64 0, .int .i64 0, .slice none 0 0, .bool false, .bool false, .int .i64 0, .int .i64 0, .slice none 0 0, .slice none 0 0, .slice none 0 0, .slice none 0 0] 62)) (w.heap.size) 62 #[.int .i64 sn0, .int .i64 nesn0, V0, .bool op0, .bool em0, .int .i64 (ack0 : Int), .int .i64 (tak0 : Int), .int .i64 sn1, .int .i64 nesn1, V1, .bool op1, .bool em1, .int .i64 (ack1 : Int), .int .i64 (tak1 : Int), V2, V3, V4, V5] := ((Blk.fresh w 62 #[.int .i64 sn0, .int .i64 nesn0, V0, .bool op0, .bool em0, .int .i64 (ack0 : Int), .int .i64 (tak0 : Int), .int .i64 sn1, .int .i64 nesn1, V1, .bool op1, .bool em1, .int .i64 (ack1 : Int), .int .i64 (tak1 : Int), V2, V3, V4, V5]).alloc _).alloc _
  have K3 : Blk (((w.alloc (.cells #[.int .i64 sn0, .int .i64 nesn0, V0, .bool op0, .bool em0, .int .i64 (ack0 : Int), .int .i64 (tak0 : Int), .int .i64 sn1, .int .i64 nesn1, V1, .bool op1, .bool em1, .int .i64 (ack1 : Int), .int .i64 (tak1 : Int), V2, V3, V4, V5] 62)).alloc (.cells #[.int .i64 3, .bool true, .int .i64 x.k, .slice x.A x.v.length x.c] 65)).alloc (.cells #[.int .i64 0, .int .i64 0, .slice none 0 0, .bool false, .bool false, .int .i64 0, .int .i64 0, .int .i64 0, .int .i64 0, .slice none 0 0, .bool false, .bool false, .int .i64 0, .int .i64 0, .slice none 0 0, .slice none 0 0, .slice none 0 0, .slice none 0 0] 62)) (w.heap.size + 1) 65 #[.int .i64 3, .bool true, .int .i64 x.k, .slice x.A x.v.length x.c] := (Av.Blk.next).alloc _
  have K4 : Blk (((w.alloc (.cells #[.int .i64 sn0, .int .i64 nesn0, V0, .bool op0, .bool em0, .int .i64 (ack0 : Int), .int .i64 (tak0 : Int), .int .i64 sn1, .int .i64 nesn1, V1, .bool op1, .bool em1, .int .i64 (ack1 : Int), .int .i64 (tak1 : Int), V2, V3, V4, V5] 62)).alloc (.cells #[.int .i64 3, .bool true, .int .i64 x.k, .slice x.A x.v.length x.c] 65)).alloc (.cells #[.int .i64 0, .int .i64 0, .slice none 0 0, .bool false, .bool false, .int .i64 0, .int .i64 0, .int .i64 0, .int .i64 0, .slice none 0 0, .bool false, .bool false, .int .i64 0, .int .i64 0, .slice none 0 0, .slice none 0 0, .slice none 0 0, .slice none 0 0] 62)) (w.heap.size + 2) 62 #[.int .i64 0, .int .i64 0, .slice none 0 0, .bool false, .bool false, .int .i64 0, .int .i64 0, .int .i64 0, .int .i64 0, .slice none 0 0, .bool false, .bool false, .int .i64 0, .int .i64 0, .slice none 0 0, .slice none 0 0, .slice none 0 0, .slice none 0 0] := by
    have := Blk.fresh ((w.alloc (.cells #[.int .i64 sn0, .int .i64 nesn0, V0, .bool op0, .bool em0, .int .i64 (ack0 : Int), .int .i64 (tak0 : Int), .int .i64 sn1, .int .i64 nesn1, V1, .bool op1, .bool em1, .int .i64 (ack1 : Int), .int .i64 (tak1 : Int), V2, V3, V4, V5] 62)).alloc (.cells #[.int .i64 3, .bool true, .int .i64 x.k, .slice x.A x.v.length x.c] 65)) 62 #[.int .i64 0, .int .i64 0, .slice none 0 0, .bool false, .bool false, .int .i64 0, .int .i64 0, .int .i64 0, .int .i64 0, .slice none 0 0, .bool false, .bool false, .int .i64 0, .int .i64 0, .slice none 0 0, .slice none 0 0, .slice none 0 0, .slice none 0 0]
    simpa using this
  have HA : All (((w.alloc (.cells #[.int .i64 sn0, .int .i64 nesn0, V0, .bool op0, .bool em0, .int .i64 (ack0 : Int), .int .i64 (tak0 : Int), .int .i64 sn1, .int .i64 nesn1, V1, .bool op1, .bool em1, .int .i64 (ack1 : Int), .int .i64 (tak1 : Int), V2, V3, V4, V5] 62)).alloc (.cells #[.int .i64 3, .bool true, .int .i64 x.k, .slice x.A x.v.length x.c] 65)).alloc (.cells #[.int .i64 0, .int .i64 0, .slice none 0 0, .bool false, .bool false, .int .i64 0, .int .i64 0, .int .i64 0, .int .i64 0, .slice none 0 0, .bool false, .bool false, .int .i64 0, .int .i64 0, .slice none 0 0, .slice none 0 0, .slice none 0 0, .slice none 0 0] 62)) m m V0 V1 V2 V3 V4 V5 l0 l1 l2 l3 l4 l5 := HX.all.below ((((Below.refl _ _).alloc (Nat.le_refl _) _).alloc (by simp) _).alloc (by simp; omega) _)
  have e00 : IntKind.i64.wrap 0 = 0 := by decide
  have e01 : IntKind.i64.wrap 1 = 1 := by decide
  have hpe := (pdu_bits (openR ⟨sn1, nesn1, q1, op1, em1, ack1, tak1⟩))
  have hon : ∃ b, openR ⟨sn1, nesn1, q1, op1, em1, ack1, tak1⟩ = b := ⟨_, rfl⟩
  obtain ⟨⟨psn, pnesn, pmd, pk⟩, hp⟩ : ∃ p, pduR (openR ⟨sn1, nesn1, q1, op1, em1, ack1, tak1⟩) = p := ⟨_, rfl⟩
  have hoq : (openR ⟨sn1, nesn1, q1, op1, em1, ack1, tak1⟩).q = q1 := by unfold openR; split <;> rfl
  obtain ⟨⟨sn', nesn', q', op', em', ack', tak'⟩, hr⟩ : ∃ b, openR ⟨sn1, nesn1, q1, op1, em1, ack1, tak1⟩ = b := ⟨_, rfl⟩
  have HS : Hid (∀ X, All X m m V0 V1 V2 V3 V4 V5 l0 l1 l2 l3 l4 l5 → Calls Try.prog 30 #[.agg #[.int .i64 sn1, .int .i64 nesn1, V1, .bool op1, .bool em1, .int .i64 (ack1 : Int), .int .i64 (tak1 : Int)]] X fun e X' => ∃ V' l' y, e = .returned (.tuple #[.agg #[.int .i64 sn', .int .i64 nesn', V', .bool op', .bool em', .int .i64 (ack' : Int), .int .i64 (tak' : Int)], .agg #[.int .i64 psn, .int .i64 pnesn, .int .i64 pmd, .int .i64 y.k, .slice y.A y.v.length y.c]]) ∧ QQ X' X.heap.size 0 V' l' ∧ Hid (l'.map Pm.p = q') ∧ Hid (y.p = pk) ∧ PP X' 0 y ∧ Below X.heap.size X X') := Lib.hid fun X ha => by
    have := send_any ⟨sn1, nesn1, q1, op1, em1, ack1, tak1⟩ V1 l1 X (by omega) ha.q1.qi HX.e1
    unfold Sent at this
    rw [hp, hr] at this
    refine this.mono fun e w' ⟨V', l', y, he, h1, h2, h3, h4, h5⟩ => ⟨V', l', y, he, h1, Lib.hid ?_, Lib.hid h3, h4, h5⟩
    rw [h2, ← hoq, hr]
  have HO : Hid (moveR ⟨⟨sn0, nesn0, q0, op0, em0, ack0, tak0⟩, ⟨sn1, nesn1, q1, op1, em1, ack1, tak1⟩, qa, qb, ga, gb⟩ 3 true x.p = ⟨⟨sn0, nesn0, q0, op0, em0, ack0, tak0⟩, ⟨sn', nesn', q', op', em', ack', tak'⟩, qa, qb, ga, gb⟩) := Lib.hid (by unfold moveR; simp [hr])
  clear hpe hp hr hoq hon
  go_enter Try.func39, Try.ntmps39
  go_upto_region 1 with (fail)
  generalize ((w.alloc (.cells #[.int .i64 sn0, .int .i64 nesn0, V0, .bool op0, .bool em0, .int .i64 (ack0 : Int), .int .i64 (tak0 : Int), .int .i64 sn1, .int .i64 nesn1, V1, .bool op1, .bool em1, .int .i64 (ack1 : Int), .int .i64 (tak1 : Int), V2, V3, V4, V5] 62)).alloc (.cells #[.int .i64 3, .bool true, .int .i64 x.k, .slice x.A x.v.length x.c] 65)).alloc (.cells #[.int .i64 0, .int .i64 0, .slice none 0 0, .bool false, .bool false, .int .i64 0, .int .i64 0, .int .i64 0, .int .i64 0, .slice none 0 0, .bool false, .bool false, .int .i64 0, .int .i64 0, .slice none 0 0, .slice none 0 0, .slice none 0 0, .slice none 0 0] 62) = W0 at *
  have q0 := K3.cell 0
  go_upto_region 7 with (fail)
  clear q0
  have K2' : Blk W0.drew (w.heap.size) 62 #[.int .i64 sn0, .int .i64 nesn0, V0, .bool op0, .bool em0, .int .i64 (ack0 : Int), .int .i64 (tak0 : Int), .int .i64 sn1, .int .i64 nesn1, V1, .bool op1, .bool em1, .int .i64 (ack1 : Int), .int .i64 (tak1 : Int), V2, V3, V4, V5] := Mem.Blk.drew K2
  have K3' : Blk W0.drew (w.heap.size + 1) 65 #[.int .i64 3, .bool true, .int .i64 x.k, .slice x.A x.v.length x.c] := Mem.Blk.drew K3
  have K4' : Blk W0.drew (w.heap.size + 2) 62 #[.int .i64 0, .int .i64 0, .slice none 0 0, .bool false, .bool false, .int .i64 0, .int .i64 0, .int .i64 0, .int .i64 0, .slice none 0 0, .bool false, .bool false, .int .i64 0, .int .i64 0, .slice none 0 0, .slice none 0 0, .slice none 0 0, .slice none 0 0] := Mem.Blk.drew K4
  refine wp_region_held_drew (S := (fun w' => Blk w' (w.heap.size + 1) 65 #[.int .i64 3, .bool true, .int .i64 x.k, .slice x.A x.v.length x.c])) (by kernel_rfl) ?_ (fun hHeld => ?_)
  · exact K3'
  replace K2 := K2'
  clear K2'
  replace K3 := K3'
  clear K3'
  replace K4 := K4'
  clear K4'
  replace BX : Below m w W0.drew := BX.drew
  replace HA := (show All W0.drew m m V0 V1 V2 V3 V4 V5 l0 l1 l2 l3 l4 l5 from HA.below ((Below.refl W0.heap.size W0).drew))
  generalize W0.drew = T0 at *
  refine wpAnyH_take (i := 0) (v := .pointer (some ⟨w.heap.size + 1, 0, none⟩)) rfl (by kernel_rfl) (by kernel_rfl) (by kernel_rfl) (fun _ _ _ h => h) (Or.inl ⟨by first | rfl | go_simp, by intro w9 hSw; (try dsimp only at hSw); go_simp⟩) (by assumption) ?_
  simp only [List.getElem_toArray, List.getElem_cons_zero, List.getElem_cons_succ, Act.put, List.setIfInBounds_toArray, List.set_cons_zero, List.set_cons_succ]
  refine wpAnyH_take (i := 1) (v := .int .i64 3) rfl (by kernel_rfl) (by kernel_rfl) (by kernel_rfl) (fun _ _ _ h => h) (Or.inl ⟨by first | rfl | go_simp, by intro w9 hSw; (try dsimp only at hSw); have c9 := hSw.cell 0; clear hSw; go_simp⟩) (by assumption) ?_
  simp only [List.getElem_toArray, List.getElem_cons_zero, List.getElem_cons_succ, Act.put, List.setIfInBounds_toArray, List.set_cons_zero, List.set_cons_succ]
  refine wpAnyH_take (i := 2) (v := .int .i64 1) rfl (by kernel_rfl) (by kernel_rfl) (by kernel_rfl) (fun _ _ _ h => h) (Or.inl ⟨by first | rfl | go_simp, by intro w9 hSw; (try dsimp only at hSw); go_simp⟩) (by assumption) ?_
  simp only [List.getElem_toArray, List.getElem_cons_zero, List.getElem_cons_succ, Act.put, List.setIfInBounds_toArray, List.set_cons_zero, List.set_cons_succ]
  refine wpAnyH_take (i := 3) (v := .pointer (some ⟨w.heap.size + 1, 0, none⟩)) rfl (by kernel_rfl) (by kernel_rfl) (by kernel_rfl) (fun _ _ _ h => h) (Or.inl ⟨by first | rfl | go_simp, by intro w9 hSw; (try dsimp only at hSw); go_simp⟩) (by assumption) ?_
  simp only [List.getElem_toArray, List.getElem_cons_zero, List.getElem_cons_succ, Act.put, List.setIfInBounds_toArray, List.set_cons_zero, List.set_cons_succ]
  refine wpAnyH_take (i := 4) (v := .int .i64 3) rfl (by kernel_rfl) (by kernel_rfl) (by kernel_rfl) (fun _ _ _ h => h) (Or.inl ⟨by first | rfl | go_simp, by intro w9 hSw; (try dsimp only at hSw); have c9 := hSw.cell 0; clear hSw; go_simp⟩) (by assumption) ?_
  simp only [List.getElem_toArray, List.getElem_cons_zero, List.getElem_cons_succ, Act.put, List.setIfInBounds_toArray, List.set_cons_zero, List.set_cons_succ]
  refine wpAnyH_take (i := 5) (v := .int .i64 0) rfl (by kernel_rfl) (by kernel_rfl) (by kernel_rfl) (fun _ _ _ h => h) (Or.inl ⟨by first | rfl | go_simp, by intro w9 hSw; (try dsimp only at hSw); go_simp⟩) (by assumption) ?_
  simp only [List.getElem_toArray, List.getElem_cons_zero, List.getElem_cons_succ, Act.put, List.setIfInBounds_toArray, List.set_cons_zero, List.set_cons_succ]
  refine wpAnyH_take (i := 6) (v := .int .i64 1) rfl (by kernel_rfl) (by kernel_rfl) (by kernel_rfl) (fun _ _ _ h => h) (Or.inl ⟨by first | rfl | go_simp, by intro w9 hSw; (try dsimp only at hSw); go_simp⟩) (by assumption) ?_
  simp only [List.getElem_toArray, List.getElem_cons_zero, List.getElem_cons_succ, Act.put, List.setIfInBounds_toArray, List.set_cons_zero, List.set_cons_succ]
  refine wpAnyH_take (i := 7) (v := .int .i64 0) rfl (by kernel_rfl) (by kernel_rfl) (by kernel_rfl) (fun _ _ _ h => h) (Or.inl ⟨by first | rfl | go_simp, by intro w9 hSw; (try dsimp only at hSw); go_simp⟩) (by assumption) ?_
  simp only [List.getElem_toArray, List.getElem_cons_zero, List.getElem_cons_succ, Act.put, List.setIfInBounds_toArray, List.set_cons_zero, List.set_cons_succ]
  refine wpAnyH_done (by kernel_rfl) ?_ _
  clear hHeld
  have q0 := K2.cell 7
  have q1 := K2.cell 8
  have q2 := K2.cell 9
  have q3 := K2.cell 10
  have q4 := K2.cell 11
  have q5 := K2.cell 12
  have q6 := K2.cell 13
  go_upto_region 9 with (first | (go_at_call 30; refine (HS.out _ HA).mono ?_; rintro e W1 ⟨V', l', y, rfl, hq', hl', hy, HY, b9⟩; replace HA := HA.set1 (by have := BX.size; omega) b9 hq'; have oV' : V'.oneCell' = true := qq_one hq'; replace K2 := K2.below b9 K2.lt; replace K3 := K3.below b9 K3.lt; replace K4 := K4.below b9 K4.lt; replace BX := thenBm hmw BX b9; clear b9 hq' q0 q1 q2 q3 q4 q5 q6; have H1 : (#[.int .i64 sn', .int .i64 nesn', V', .bool op', .bool em', .int .i64 (ack' : Int), .int .i64 (tak' : Int)] : Array Value).all (·.oneCell') = true := (by rw [← Array.all_toList]; simp only [List.all_cons, List.all_nil, oV', Bool.and_true, Bool.and_self]; rfl); have H2 : (#[.int .i64 psn, .int .i64 pnesn, .int .i64 pmd, .int .i64 y.k, .slice y.A y.v.length y.c] : Array Value).all (·.oneCell') = true := (by rw [← Array.all_toList]; rfl)) | (refine wpList_store_row rfl 43 (.tmp 9) _ rfl W1.heap.size #[.int .i64 sn', .int .i64 nesn', V', .bool op', .bool em', .int .i64 (ack' : Int), .int .i64 (tak' : Int)] rfl rfl 43 _ ((Blk.fresh W1 43 #[.int .i64 0, .int .i64 0, .slice none 0 0, .bool false, .bool false, .int .i64 0, .int .i64 0]).alloc (.cells #[.int .i64 0, .int .i64 0, .int .i64 0, .int .i64 0, .slice none 0 0] 26)) (by kernel_rfl) rfl H1 ?_) | (refine wpList_store_row rfl 26 (.tmp 10) _ rfl (W1.heap.size + 1) #[.int .i64 psn, .int .i64 pnesn, .int .i64 pmd, .int .i64 y.k, .slice y.A y.v.length y.c] rfl rfl 26 _ (Av.bother_row (Av.Blk.next) (by omega)) (by kernel_rfl) rfl H2 ?_))
  have k5 : Blk ((W1.alloc (.cells #[.int .i64 0, .int .i64 0, .slice none 0 0, .bool false, .bool false, .int .i64 0, .int .i64 0] 43)).alloc (.cells #[.int .i64 0, .int .i64 0, .int .i64 0, .int .i64 0, .slice none 0 0] 26)) W1.heap.size 43 #[.int .i64 0, .int .i64 0, .slice none 0 0, .bool false, .bool false, .int .i64 0, .int .i64 0] := (Blk.fresh W1 43 #[.int .i64 0, .int .i64 0, .slice none 0 0, .bool false, .bool false, .int .i64 0, .int .i64 0]).alloc (.cells #[.int .i64 0, .int .i64 0, .int .i64 0, .int .i64 0, .slice none 0 0] 26)
  have k6 : Blk ((W1.alloc (.cells #[.int .i64 0, .int .i64 0, .slice none 0 0, .bool false, .bool false, .int .i64 0, .int .i64 0] 43)).alloc (.cells #[.int .i64 0, .int .i64 0, .int .i64 0, .int .i64 0, .slice none 0 0] 26)) (W1.heap.size + 1) 26 #[.int .i64 0, .int .i64 0, .int .i64 0, .int .i64 0, .slice none 0 0] := Av.Blk.next
  replace K2 := (K2.alloc (.cells #[.int .i64 0, .int .i64 0, .slice none 0 0, .bool false, .bool false, .int .i64 0, .int .i64 0] 43)).alloc (.cells #[.int .i64 0, .int .i64 0, .int .i64 0, .int .i64 0, .slice none 0 0] 26)
  replace K3 := (K3.alloc (.cells #[.int .i64 0, .int .i64 0, .slice none 0 0, .bool false, .bool false, .int .i64 0, .int .i64 0] 43)).alloc (.cells #[.int .i64 0, .int .i64 0, .int .i64 0, .int .i64 0, .slice none 0 0] 26)
  have hs4 := K4.lt
  replace K4 := (K4.alloc (.cells #[.int .i64 0, .int .i64 0, .slice none 0 0, .bool false, .bool false, .int .i64 0, .int .i64 0] 43)).alloc (.cells #[.int .i64 0, .int .i64 0, .int .i64 0, .int .i64 0, .slice none 0 0] 26)
  replace HA := (HA.below ((Below.refl W1.heap.size W1).alloc (Nat.le_refl _) (.cells #[.int .i64 0, .int .i64 0, .slice none 0 0, .bool false, .bool false, .int .i64 0, .int .i64 0] 43))).below ((Below.refl _ (W1.alloc (.cells #[.int .i64 0, .int .i64 0, .slice none 0 0, .bool false, .bool false, .int .i64 0, .int .i64 0] 43))).alloc (Nat.le_refl _) (.cells #[.int .i64 0, .int .i64 0, .int .i64 0, .int .i64 0, .slice none 0 0] 26))
  replace HY := (HY.below ((Below.refl W1.heap.size W1).alloc (Nat.le_refl _) (.cells #[.int .i64 0, .int .i64 0, .slice none 0 0, .bool false, .bool false, .int .i64 0, .int .i64 0] 43))).below ((Below.refl _ (W1.alloc (.cells #[.int .i64 0, .int .i64 0, .slice none 0 0, .bool false, .bool false, .int .i64 0, .int .i64 0] 43))).alloc (Nat.le_refl _) (.cells #[.int .i64 0, .int .i64 0, .int .i64 0, .int .i64 0, .slice none 0 0] 26))
  have hbs := BX.size
  replace BX := (BX.alloc (by omega) (.cells #[.int .i64 0, .int .i64 0, .slice none 0 0, .bool false, .bool false, .int .i64 0, .int .i64 0] 43)).alloc (by simp; omega) (.cells #[.int .i64 0, .int .i64 0, .int .i64 0, .int .i64 0, .slice none 0 0] 26)
  clear H1 H2
  have sA := stp_row k5 #[.int .i64 sn', .int .i64 nesn', V', .bool op', .bool em', .int .i64 (ack' : Int), .int .i64 (tak' : Int)]
  have k6b := sA.blk_ne k6 (by omega)
  have sB := stp_row k6b #[.int .i64 psn, .int .i64 pnesn, .int .i64 pmd, .int .i64 y.k, .slice y.A y.v.length y.c]
  have K5 := sB.blk_ne (Av.bset_row (cs' := #[.int .i64 sn', .int .i64 nesn', V', .bool op', .bool em', .int .i64 (ack' : Int), .int .i64 (tak' : Int)]) k5) (by omega)
  have K6 := Av.bset_row (cs' := #[.int .i64 psn, .int .i64 pnesn, .int .i64 pmd, .int .i64 y.k, .slice y.A y.v.length y.c]) k6b
  replace K2 := sB.blk_ne (sA.blk_ne K2 (by omega)) (by omega)
  replace K3 := sB.blk_ne (sA.blk_ne K3 (by omega)) (by omega)
  replace K4 := sB.blk_ne (sA.blk_ne K4 (by omega)) (by omega)
  replace HA := (HA.step sA (by decide) (by decide) (by omega)).step sB (by decide) (by decide) (by omega)
  replace HY := (HY.step sA (by decide) (Nat.zero_le _)).step sB (by decide) (Nat.zero_le _)
  replace BX : Below m w ((((W1.alloc (.cells #[.int .i64 0, .int .i64 0, .slice none 0 0, .bool false, .bool false, .int .i64 0, .int .i64 0] 43)).alloc (.cells #[.int .i64 0, .int .i64 0, .int .i64 0, .int .i64 0, .slice none 0 0] 26)).setRow W1.heap.size #[.int .i64 sn', .int .i64 nesn', V', .bool op', .bool em', .int .i64 (ack' : Int), .int .i64 (tak' : Int)]).setRow (W1.heap.size + 1) #[.int .i64 psn, .int .i64 pnesn, .int .i64 pmd, .int .i64 y.k, .slice y.A y.v.length y.c]) := below_setRow (below_setRow BX (by omega) _) (by omega) _
  clear sA sB k5 k6 k6b
  obtain ⟨g5, e5⟩ : ∃ g5, W1.heap.size = g5 := ⟨_, rfl⟩
  rw [e5] at K2 K3 K4 K5 K6 hs4 HA HY BX
  try simp only [e5]
  generalize ((W1.alloc (.cells #[.int .i64 0, .int .i64 0, .slice none 0 0, .bool false, .bool false, .int .i64 0, .int .i64 0] 43)).alloc (.cells #[.int .i64 0, .int .i64 0, .int .i64 0, .int .i64 0, .slice none 0 0] 26)) = W9 at *
  generalize (W9.setRow g5 #[.int .i64 sn', .int .i64 nesn', V', .bool op', .bool em', .int .i64 (ack' : Int), .int .i64 (tak' : Int)]).setRow (g5 + 1) #[.int .i64 psn, .int .i64 pnesn, .int .i64 pmd, .int .i64 y.k, .slice y.A y.v.length y.c] = W2 at *
  clear e5
  have H1 : (#[.int .i64 sn', .int .i64 nesn', V', .bool op', .bool em', .int .i64 (ack' : Int), .int .i64 (tak' : Int)] : Array Value).all (·.oneCell') = true := by rw [← Array.all_toList]; simp only [List.all_cons, List.all_nil, oV', Bool.and_true, Bool.and_self]; rfl
  go_upto_region 10 with (first | (refine wpList_store_part rfl 43 _ _ rfl (w.heap.size) 7 #[.int .i64 sn', .int .i64 nesn', V', .bool op', .bool em', .int .i64 (ack' : Int), .int .i64 (tak' : Int)] rfl rfl 62 _ #[.int .i64 sn0, .int .i64 nesn0, V0, .bool op0, .bool em0, .int .i64 (ack0 : Int), .int .i64 (tak0 : Int), .int .i64 sn', .int .i64 nesn', V', .bool op', .bool em', .int .i64 (ack' : Int), .int .i64 (tak' : Int), V2, V3, V4, V5] K2 (by kernel_rfl) (by show 7 + 7 ≤ 18; decide) H1 rfl ?_) | (refine wpList_load_row rfl 43 (.tmp 9) rfl g5 rfl 43 _ (0, 0) _ K5 Try.underlying43 rfl (by kernel_rfl) ?_))
  replace HA := HA.step (stp_row K2 #[.int .i64 sn0, .int .i64 nesn0, V0, .bool op0, .bool em0, .int .i64 (ack0 : Int), .int .i64 (tak0 : Int), .int .i64 sn', .int .i64 nesn', V', .bool op', .bool em', .int .i64 (ack' : Int), .int .i64 (tak' : Int), V2, V3, V4, V5]) (by decide) (by decide) (by omega)
  replace HY := HY.step (stp_row K2 #[.int .i64 sn0, .int .i64 nesn0, V0, .bool op0, .bool em0, .int .i64 (ack0 : Int), .int .i64 (tak0 : Int), .int .i64 sn', .int .i64 nesn', V', .bool op', .bool em', .int .i64 (ack' : Int), .int .i64 (tak' : Int), V2, V3, V4, V5]) (by decide) (Nat.zero_le _)
  replace K3 := (stp_row K2 #[.int .i64 sn0, .int .i64 nesn0, V0, .bool op0, .bool em0, .int .i64 (ack0 : Int), .int .i64 (tak0 : Int), .int .i64 sn', .int .i64 nesn', V', .bool op', .bool em', .int .i64 (ack' : Int), .int .i64 (tak' : Int), V2, V3, V4, V5]).blk_ne K3 (by omega)
  replace K4 := (stp_row K2 #[.int .i64 sn0, .int .i64 nesn0, V0, .bool op0, .bool em0, .int .i64 (ack0 : Int), .int .i64 (tak0 : Int), .int .i64 sn', .int .i64 nesn', V', .bool op', .bool em', .int .i64 (ack' : Int), .int .i64 (tak' : Int), V2, V3, V4, V5]).blk_ne K4 (by omega)
  replace K6 := (stp_row K2 #[.int .i64 sn0, .int .i64 nesn0, V0, .bool op0, .bool em0, .int .i64 (ack0 : Int), .int .i64 (tak0 : Int), .int .i64 sn', .int .i64 nesn', V', .bool op', .bool em', .int .i64 (ack' : Int), .int .i64 (tak' : Int), V2, V3, V4, V5]).blk_ne K6 (by omega)
  replace BX : Below m w (W2.setRow (w.heap.size) #[.int .i64 sn0, .int .i64 nesn0, V0, .bool op0, .bool em0, .int .i64 (ack0 : Int), .int .i64 (tak0 : Int), .int .i64 sn', .int .i64 nesn', V', .bool op', .bool em', .int .i64 (ack' : Int), .int .i64 (tak' : Int), V2, V3, V4, V5]) := below_setRow BX (by omega) _
  replace K2 := Av.bset_row (cs' := #[.int .i64 sn0, .int .i64 nesn0, V0, .bool op0, .bool em0, .int .i64 (ack0 : Int), .int .i64 (tak0 : Int), .int .i64 sn', .int .i64 nesn', V', .bool op', .bool em', .int .i64 (ack' : Int), .int .i64 (tak' : Int), V2, V3, V4, V5]) K2
  clear K5 H1
  generalize W2.setRow (w.heap.size) #[.int .i64 sn0, .int .i64 nesn0, V0, .bool op0, .bool em0, .int .i64 (ack0 : Int), .int .i64 (tak0 : Int), .int .i64 sn', .int .i64 nesn', V', .bool op', .bool em', .int .i64 (ack' : Int), .int .i64 (tak' : Int), V2, V3, V4, V5] = W3 at *
  have r1 := K3.cell 1
  go_upto_region 15 with (fail)
  clear r1
  have H1 : (#[.int .i64 sn0, .int .i64 nesn0, V0, .bool op0, .bool em0, .int .i64 (ack0 : Int), .int .i64 (tak0 : Int), .int .i64 sn', .int .i64 nesn', V', .bool op', .bool em', .int .i64 (ack' : Int), .int .i64 (tak' : Int), V2, V3, V4, V5] : Array Value).all (·.oneCell') = true := by rw [← Array.all_toList]; simp only [List.all_cons, List.all_nil, oV0, oV', oV2, oV3, oV4, oV5, Bool.and_true, Bool.and_self]; rfl
  go_wp2_with (first | (refine wpList_store_row rfl 62 (.tmp 4) _ rfl (w.heap.size + 2) #[.int .i64 sn0, .int .i64 nesn0, V0, .bool op0, .bool em0, .int .i64 (ack0 : Int), .int .i64 (tak0 : Int), .int .i64 sn', .int .i64 nesn', V', .bool op', .bool em', .int .i64 (ack' : Int), .int .i64 (tak' : Int), V2, V3, V4, V5] rfl rfl 62 _ K4 (by kernel_rfl) rfl H1 ?_) | (refine wpList_load_row rfl 62 (.tmp 2) rfl (w.heap.size) rfl 62 _ (0, 0) _ K2 Try.underlying62 rfl (by kernel_rfl) ?_))
  have HF := HA.step (stp_row K4 #[.int .i64 sn0, .int .i64 nesn0, V0, .bool op0, .bool em0, .int .i64 (ack0 : Int), .int .i64 (tak0 : Int), .int .i64 sn', .int .i64 nesn', V', .bool op', .bool em', .int .i64 (ack' : Int), .int .i64 (tak' : Int), V2, V3, V4, V5]) (by decide) (by decide) (by omega)
  have KR := setRow_heap W3 (w.heap.size + 2) _ #[.int .i64 sn0, .int .i64 nesn0, V0, .bool op0, .bool em0, .int .i64 (ack0 : Int), .int .i64 (tak0 : Int), .int .i64 sn', .int .i64 nesn', V', .bool op', .bool em', .int .i64 (ack' : Int), .int .i64 (tak' : Int), V2, V3, V4, V5] 62 (0, 0) K4
  have BE : Below m w (W3.setRow (w.heap.size + 2) #[.int .i64 sn0, .int .i64 nesn0, V0, .bool op0, .bool em0, .int .i64 (ack0 : Int), .int .i64 (tak0 : Int), .int .i64 sn', .int .i64 nesn', V', .bool op', .bool em', .int .i64 (ack' : Int), .int .i64 (tak' : Int), V2, V3, V4, V5]) := below_setRow BX (by omega) #[.int .i64 sn0, .int .i64 nesn0, V0, .bool op0, .bool em0, .int .i64 (ack0 : Int), .int .i64 (tak0 : Int), .int .i64 sn', .int .i64 nesn', V', .bool op', .bool em', .int .i64 (ack' : Int), .int .i64 (tak' : Int), V2, V3, V4, V5]
  generalize W3.setRow (w.heap.size + 2) #[.int .i64 sn0, .int .i64 nesn0, V0, .bool op0, .bool em0, .int .i64 (ack0 : Int), .int .i64 (tak0 : Int), .int .i64 sn', .int .i64 nesn', V', .bool op', .bool em', .int .i64 (ack' : Int), .int .i64 (tak' : Int), V2, V3, V4, V5] = Y at *
  refine bodyPost_ret (v := .agg #[.int .i64 sn0, .int .i64 nesn0, V0, .bool op0, .bool em0, .int .i64 (ack0 : Int), .int .i64 (tak0 : Int), .int .i64 sn', .int .i64 nesn', V', .bool op', .bool em', .int .i64 (ack' : Int), .int .i64 (tak' : Int), V2, V3, V4, V5]) ?_ rfl (by rw [HO.out]; exact ⟨V0, V', V2, V3, V4, V5, l0, l', l2, l3, l4, l5, rfl, ⟨HF, HX.e0, hl'.out, HX.e2, HX.e3, HX.e4, HX.e5⟩, BE⟩)
  clear K2
  have HL := run_loadVar_row (P := Try.prog) Y (w.heap.size + 2) 62 62 #[.int .i64 sn0, .int .i64 nesn0, V0, .bool op0, .bool em0, .int .i64 (ack0 : Int), .int .i64 (tak0 : Int), .int .i64 sn', .int .i64 nesn', V', .bool op', .bool em', .int .i64 (ack' : Int), .int .i64 (tak' : Int), V2, V3, V4, V5] (0, 0) _ KR Try.underlying62 rfl (by kernel_rfl)
  generalize (#[.int .i64 sn0, .int .i64 nesn0, V0, .bool op0, .bool em0, .int .i64 (ack0 : Int), .int .i64 (tak0 : Int), .int .i64 sn', .int .i64 nesn', V', .bool op', .bool em', .int .i64 (ack' : Int), .int .i64 (tak' : Int), V2, V3, V4, V5] : Array Value) = CS at *
  simp [results, show (Try.f39).results = #[.cell 4 62] from rfl, asAddr, HL, Act.put]
end Go.Proofs.Ytbnfjielnamepaa.Arq
