/- Acknowledgement: what two sides got is in order: contracts over the program. -/
import Derived.Test.YtbnfjielnamepaaArqSame
import Derived.Test.YtbnfjielnamepaaArqMn
set_option linter.unusedVariables false
set_option linter.unusedSimpArgs false
namespace Go.Proofs.Ytbnfjielnamepaa.Arq
open Go.RowKit Mem Oct Rw Av Dp
open Base (thenB)

set_option maxRecDepth 100000 in
set_option maxHeartbeats 4000000 in
theorem orderly0_core (sn0 nesn0 : Int) (op0 em0 : Bool) (ack0 tak0 : Nat) (sn1 nesn1 : Int) (op1 em1 : Bool) (ack1 tak1 : Nat) (V1 V3 V4 : Value) (Aq Au Ag : Option Addr) (nq cq nu cu cg : Nat) (w : World)
    (hu : tak1 ≤ nu) (hk : ack0 ≤ nu) (hn : nu ≤ 1000) (hc : nu ≤ cu) (near : tak1 = ack0 ∨ tak1 = ack0 + 1)
    (HS1 : Hid (∀ X, Below w.heap.size w X → Calls Try.prog 41 #[.slice Ag tak1 cg, .slice Au tak1 cu] X fun e w' => e = .returned (.bool true) ∧ Below X.heap.size X w'))
    (HS2 : Hid (∀ X, Below w.heap.size w X → Calls Try.prog 41 #[.slice Aq nq cq, .slice (if cu = ack0 then Au else Au.map (·.add (ack0 * 2))) (nu - ack0) (cu - ack0)] X fun e w' => e = .returned (.bool true) ∧ Below X.heap.size X w'))
    (oV1 : V1.oneCell' = true) (oV3 : V3.oneCell' = true) (oV4 : V4.oneCell' = true) :
    Calls Try.prog 40 #[.agg #[.int .i64 sn0, .int .i64 nesn0, .slice Aq nq cq, .bool op0, .bool em0, .int .i64 (ack0 : Int), .int .i64 (tak0 : Int), .int .i64 sn1, .int .i64 nesn1, V1, .bool op1, .bool em1, .int .i64 (ack1 : Int), .int .i64 (tak1 : Int), .slice Au nu cu, V3, V4, .slice Ag tak1 cg], .int .i64 0] w fun e w' => e = .returned (.bool true) ∧ Below w.heap.size w w' := by
  have BX : Below w.heap.size w (w.alloc (.cells #[.int .i64 sn0, .int .i64 nesn0, .slice Aq nq cq, .bool op0, .bool em0, .int .i64 (ack0 : Int), .int .i64 (tak0 : Int), .int .i64 sn1, .int .i64 nesn1, V1, .bool op1, .bool em1, .int .i64 (ack1 : Int), .int .i64 (tak1 : Int), .slice Au nu cu, V3, V4, .slice Ag tak1 cg] 62)) := (Below.refl _ _).alloc (Nat.le_refl _) _
  have K2 : Blk (w.alloc (.cells #[.int .i64 sn0, .int .i64 nesn0, .slice Aq nq cq, .bool op0, .bool em0, .int .i64 (ack0 : Int), .int .i64 (tak0 : Int), .int .i64 sn1, .int .i64 nesn1, V1, .bool op1, .bool em1, .int .i64 (ack1 : Int), .int .i64 (tak1 : Int), .slice Au nu cu, V3, V4, .slice Ag tak1 cg] 62)) w.heap.size 62 #[.int .i64 sn0, .int .i64 nesn0, .slice Aq nq cq, .bool op0, .bool em0, .int .i64 (ack0 : Int), .int .i64 (tak0 : Int), .int .i64 sn1, .int .i64 nesn1, V1, .bool op1, .bool em1, .int .i64 (ack1 : Int), .int .i64 (tak1 : Int), .slice Au nu cu, V3, V4, .slice Ag tak1 cg] := Blk.fresh w 62 #[.int .i64 sn0, .int .i64 nesn0, .slice Aq nq cq, .bool op0, .bool em0, .int .i64 (ack0 : Int), .int .i64 (tak0 : Int), .int .i64 sn1, .int .i64 nesn1, V1, .bool op1, .bool em1, .int .i64 (ack1 : Int), .int .i64 (tak1 : Int), .slice Au nu cu, V3, V4, .slice Ag tak1 cg]
  have e00 : IntKind.i64.wrap 0 = 0 := by decide
  have e01 : IntKind.i64.wrap 1 = 1 := by decide
  have u1 : ¬ ((nu : Int) < (tak1 : Int)) := by omega
  have u2 : ¬ ((ack0 : Int) < 0) := by omega
  have u3 : ¬ ((nu : Int) < (ack0 : Int)) := by omega
  have u4 : (0 : Int) ≤ (tak1 : Int) ∧ (tak1 : Int) ≤ (cu : Int) := by omega
  have u5 : (0 : Int) ≤ (ack0 : Int) ∧ (ack0 : Int) ≤ (nu : Int) := by omega
  go_enter Try.func40, Try.ntmps40
  go_upto_region 1 with (fail)
  generalize w.alloc (.cells #[.int .i64 sn0, .int .i64 nesn0, .slice Aq nq cq, .bool op0, .bool em0, .int .i64 (ack0 : Int), .int .i64 (tak0 : Int), .int .i64 sn1, .int .i64 nesn1, V1, .bool op1, .bool em1, .int .i64 (ack1 : Int), .int .i64 (tak1 : Int), .slice Au nu cu, V3, V4, .slice Ag tak1 cg] 62) = W0 at *
  go_cut [5, 6] from 9 to 17 (fun s5 s6 wx => ∃ ga gb, s5 = .pointer (some ⟨ga, 0, none⟩) ∧ s6 = .pointer (some ⟨gb, 0, none⟩) ∧ Blk wx (w.heap.size) 62 #[.int .i64 sn0, .int .i64 nesn0, .slice Aq nq cq, .bool op0, .bool em0, .int .i64 (ack0 : Int), .int .i64 (tak0 : Int), .int .i64 sn1, .int .i64 nesn1, V1, .bool op1, .bool em1, .int .i64 (ack1 : Int), .int .i64 (tak1 : Int), .slice Au nu cu, V3, V4, .slice Ag tak1 cg] ∧ Blk wx ga 43 #[.int .i64 sn0, .int .i64 nesn0, .slice Aq nq cq, .bool op0, .bool em0, .int .i64 (ack0 : Int), .int .i64 (tak0 : Int)] ∧ Blk wx gb 43 #[.int .i64 sn1, .int .i64 nesn1, V1, .bool op1, .bool em1, .int .i64 (ack1 : Int), .int .i64 (tak1 : Int)] ∧ Below w.heap.size w wx)
  case first =>
    have K2' : Blk W0.drew (w.heap.size) 62 #[.int .i64 sn0, .int .i64 nesn0, .slice Aq nq cq, .bool op0, .bool em0, .int .i64 (ack0 : Int), .int .i64 (tak0 : Int), .int .i64 sn1, .int .i64 nesn1, V1, .bool op1, .bool em1, .int .i64 (ack1 : Int), .int .i64 (tak1 : Int), .slice Au nu cu, V3, V4, .slice Ag tak1 cg] := Mem.Blk.drew K2
    refine wp_region_held_drew (S := (fun w' => Blk w' (w.heap.size) 62 #[.int .i64 sn0, .int .i64 nesn0, .slice Aq nq cq, .bool op0, .bool em0, .int .i64 (ack0 : Int), .int .i64 (tak0 : Int), .int .i64 sn1, .int .i64 nesn1, V1, .bool op1, .bool em1, .int .i64 (ack1 : Int), .int .i64 (tak1 : Int), .slice Au nu cu, V3, V4, .slice Ag tak1 cg])) (by kernel_rfl) ?_ (fun hHeld => ?_)
    · exact K2'
    replace K2 := K2'
    clear K2'
    replace BX : Below w.heap.size w W0.drew := BX.drew
    generalize W0.drew = X0 at *
    refine wpAnyH_take (i := 0) (v := .int .i64 0) rfl (by kernel_rfl) (by kernel_rfl) (by kernel_rfl) (fun _ _ _ h => h) (Or.inl ⟨by first | rfl | go_simp, by intro w9 hSw; (try dsimp only at hSw); go_simp⟩) (by assumption) ?_
    simp only [List.getElem_toArray, List.getElem_cons_zero, List.getElem_cons_succ, Act.put, List.setIfInBounds_toArray, List.set_cons_zero, List.set_cons_succ]
    refine wpAnyH_take (i := 1) (v := .pointer (some ⟨w.heap.size, 0, none⟩)) rfl (by kernel_rfl) (by kernel_rfl) (by kernel_rfl) (fun _ _ _ h => h) (Or.inl ⟨by first | rfl | go_simp, by intro w9 hSw; (try dsimp only at hSw); go_simp⟩) (by assumption) ?_
    simp only [List.getElem_toArray, List.getElem_cons_zero, List.getElem_cons_succ, Act.put, List.setIfInBounds_toArray, List.set_cons_zero, List.set_cons_succ]
    refine wpAnyH_take (i := 2) (v := .pointer (some ⟨w.heap.size, 0, none⟩)) rfl (by kernel_rfl) (by kernel_rfl) (by kernel_rfl) (fun _ _ _ h => h) (Or.inl ⟨by first | rfl | go_simp, by intro w9 hSw; (try dsimp only at hSw); go_simp⟩) (by assumption) ?_
    simp only [List.getElem_toArray, List.getElem_cons_zero, List.getElem_cons_succ, Act.put, List.setIfInBounds_toArray, List.set_cons_zero, List.set_cons_succ]
    refine wpAnyH_take (i := 3) (v := .agg #[.int .i64 sn0, .int .i64 nesn0, .slice Aq nq cq, .bool op0, .bool em0, .int .i64 (ack0 : Int), .int .i64 (tak0 : Int)]) rfl (by kernel_rfl) (by kernel_rfl) (by kernel_rfl) (fun _ _ _ h => h) (Av.yields_part (by first | rfl | go_simp) _ _ rfl (w.heap.size) 0 rfl #[.int .i64 sn0, .int .i64 nesn0, .slice Aq nq cq, .bool op0, .bool em0, .int .i64 (ack0 : Int), .int .i64 (tak0 : Int)] _ 62 #[.int .i64 sn0, .int .i64 nesn0, .slice Aq nq cq, .bool op0, .bool em0, .int .i64 (ack0 : Int), .int .i64 (tak0 : Int), .int .i64 sn1, .int .i64 nesn1, V1, .bool op1, .bool em1, .int .i64 (ack1 : Int), .int .i64 (tak1 : Int), .slice Au nu cu, V3, V4, .slice Ag tak1 cg] (fun w9 hSw => hSw) rfl Try.underlying43 rfl (by kernel_rfl)) (by assumption) ?_
    simp only [List.getElem_toArray, List.getElem_cons_zero, List.getElem_cons_succ, Act.put, List.setIfInBounds_toArray, List.set_cons_zero, List.set_cons_succ]
    refine wpAnyH_take (i := 4) (v := .int .i64 0) rfl (by kernel_rfl) (by kernel_rfl) (by kernel_rfl) (fun _ _ _ h => h) (Or.inl ⟨by first | rfl | go_simp, by intro w9 hSw; (try dsimp only at hSw); go_simp⟩) (by assumption) ?_
    simp only [List.getElem_toArray, List.getElem_cons_zero, List.getElem_cons_succ, Act.put, List.setIfInBounds_toArray, List.set_cons_zero, List.set_cons_succ]
    refine wpAnyH_take (i := 5) (v := .int .i64 1) rfl (by kernel_rfl) (by kernel_rfl) (by kernel_rfl) (fun _ _ _ h => h) (Or.inl ⟨by first | rfl | go_simp, by intro w9 hSw; (try dsimp only at hSw); go_simp⟩) (by assumption) ?_
    simp only [List.getElem_toArray, List.getElem_cons_zero, List.getElem_cons_succ, Act.put, List.setIfInBounds_toArray, List.set_cons_zero, List.set_cons_succ]
    refine wpAnyH_take (i := 6) (v := .pointer (some ⟨w.heap.size, 0, none⟩)) rfl (by kernel_rfl) (by kernel_rfl) (by kernel_rfl) (fun _ _ _ h => h) (Or.inl ⟨by first | rfl | go_simp, by intro w9 hSw; (try dsimp only at hSw); go_simp⟩) (by assumption) ?_
    simp only [List.getElem_toArray, List.getElem_cons_zero, List.getElem_cons_succ, Act.put, List.setIfInBounds_toArray, List.set_cons_zero, List.set_cons_succ]
    refine wpAnyH_take (i := 7) (v := .pointer (some ⟨w.heap.size, 7, none⟩)) rfl (by kernel_rfl) (by kernel_rfl) (by kernel_rfl) (fun _ _ _ h => h) (Or.inl ⟨by first | rfl | go_simp, by intro w9 hSw; (try dsimp only at hSw); go_simp⟩) (by assumption) ?_
    simp only [List.getElem_toArray, List.getElem_cons_zero, List.getElem_cons_succ, Act.put, List.setIfInBounds_toArray, List.set_cons_zero, List.set_cons_succ]
    refine wpAnyH_take (i := 8) (v := .agg #[.int .i64 sn1, .int .i64 nesn1, V1, .bool op1, .bool em1, .int .i64 (ack1 : Int), .int .i64 (tak1 : Int)]) rfl (by kernel_rfl) (by kernel_rfl) (by kernel_rfl) (fun _ _ _ h => h) (Av.yields_part (by first | rfl | go_simp) _ _ rfl (w.heap.size) 7 rfl #[.int .i64 sn1, .int .i64 nesn1, V1, .bool op1, .bool em1, .int .i64 (ack1 : Int), .int .i64 (tak1 : Int)] _ 62 #[.int .i64 sn0, .int .i64 nesn0, .slice Aq nq cq, .bool op0, .bool em0, .int .i64 (ack0 : Int), .int .i64 (tak0 : Int), .int .i64 sn1, .int .i64 nesn1, V1, .bool op1, .bool em1, .int .i64 (ack1 : Int), .int .i64 (tak1 : Int), .slice Au nu cu, V3, V4, .slice Ag tak1 cg] (fun w9 hSw => hSw) rfl Try.underlying43 rfl (by kernel_rfl)) (by assumption) ?_
    simp only [List.getElem_toArray, List.getElem_cons_zero, List.getElem_cons_succ, Act.put, List.setIfInBounds_toArray, List.set_cons_zero, List.set_cons_succ]
    refine wpAnyH_ready (rs := [9, 10]) (by kernel_rfl) (by simp) ?_
    refine AllReadyH.cons rfl (fun K hK => ?_) (AllReadyH.cons rfl (fun K hK => ?_) (AllReadyH.nil))
    · skip
      go_simp
      have b9 := (Below.refl X0.heap.size X0).alloc (Nat.le_refl _) (.cells #[.int .i64 0, .int .i64 0, .slice none 0 0, .bool false, .bool false, .int .i64 0, .int .i64 0] 43)
      have KA := Blk.fresh X0 43 #[.int .i64 0, .int .i64 0, .slice none 0 0, .bool false, .bool false, .int .i64 0, .int .i64 0]
      have hxKA := K2.lt
      generalize X0.alloc (.cells #[.int .i64 0, .int .i64 0, .slice none 0 0, .bool false, .bool false, .int .i64 0, .int .i64 0] 43) = X1 at *
      replace K2 := K2.below b9 K2.lt
      replace BX := Base.thenB BX b9
      clear b9
      refine hK.out _ _ K2 (fun hHeld => ?_)
      clear hK K
      try simp only [List.getElem_toArray, List.getElem_cons_zero, List.getElem_cons_succ, Act.put, List.setIfInBounds_toArray, List.set_cons_zero, List.set_cons_succ]
      refine wpAnyH_ready (rs := [10]) (by kernel_rfl) (by simp) ?_
      refine AllReadyH.cons rfl (fun K hK => ?_) (AllReadyH.nil)
      go_simp
      have b9 := (Below.refl X1.heap.size X1).alloc (Nat.le_refl _) (.cells #[.int .i64 0, .int .i64 0, .slice none 0 0, .bool false, .bool false, .int .i64 0, .int .i64 0] 43)
      have KB := Blk.fresh X1 43 #[.int .i64 0, .int .i64 0, .slice none 0 0, .bool false, .bool false, .int .i64 0, .int .i64 0]
      have hxKB := K2.lt
      have hyKB := KA.lt
      generalize X1.alloc (.cells #[.int .i64 0, .int .i64 0, .slice none 0 0, .bool false, .bool false, .int .i64 0, .int .i64 0] 43) = X2 at *
      replace K2 := K2.below b9 K2.lt
      replace KA := KA.below b9 KA.lt
      replace BX := Base.thenB BX b9
      clear b9
      refine hK.out _ _ K2 (fun hHeld => ?_)
      clear hK K
      try simp only [List.getElem_toArray, List.getElem_cons_zero, List.getElem_cons_succ, Act.put, List.setIfInBounds_toArray, List.set_cons_zero, List.set_cons_succ]
      refine wpAnyH_ready (rs := [11]) (by kernel_rfl) (by simp) ?_
      refine AllReadyH.cons rfl (fun K hK => ?_) (AllReadyH.nil)
      have H9 : (#[.int .i64 sn0, .int .i64 nesn0, .slice Aq nq cq, .bool op0, .bool em0, .int .i64 (ack0 : Int), .int .i64 (tak0 : Int)] : Array Value).all (·.oneCell') = true := by rw [← Array.all_toList]; rfl
      refine Av.step_store_row rfl 43 (.tmp 5) (.tmp 12) rfl (X0.heap.size) #[.int .i64 sn0, .int .i64 nesn0, .slice Aq nq cq, .bool op0, .bool em0, .int .i64 (ack0 : Int), .int .i64 (tak0 : Int)] rfl rfl 43 _ KA (by kernel_rfl) rfl H9 ?_
      replace K2 : Blk (X2.setRow (X0.heap.size) #[.int .i64 sn0, .int .i64 nesn0, .slice Aq nq cq, .bool op0, .bool em0, .int .i64 (ack0 : Int), .int .i64 (tak0 : Int)]) (w.heap.size) 62 #[.int .i64 sn0, .int .i64 nesn0, .slice Aq nq cq, .bool op0, .bool em0, .int .i64 (ack0 : Int), .int .i64 (tak0 : Int), .int .i64 sn1, .int .i64 nesn1, V1, .bool op1, .bool em1, .int .i64 (ack1 : Int), .int .i64 (tak1 : Int), .slice Au nu cu, V3, V4, .slice Ag tak1 cg] := Av.bother_row K2 (by omega)
      replace KA : Blk (X2.setRow (X0.heap.size) #[.int .i64 sn0, .int .i64 nesn0, .slice Aq nq cq, .bool op0, .bool em0, .int .i64 (ack0 : Int), .int .i64 (tak0 : Int)]) (X0.heap.size) 43 #[.int .i64 sn0, .int .i64 nesn0, .slice Aq nq cq, .bool op0, .bool em0, .int .i64 (ack0 : Int), .int .i64 (tak0 : Int)] := Av.bset_row KA
      replace KB : Blk (X2.setRow (X0.heap.size) #[.int .i64 sn0, .int .i64 nesn0, .slice Aq nq cq, .bool op0, .bool em0, .int .i64 (ack0 : Int), .int .i64 (tak0 : Int)]) (X1.heap.size) 43 #[.int .i64 0, .int .i64 0, .slice none 0 0, .bool false, .bool false, .int .i64 0, .int .i64 0] := Av.bother_row KB (by omega)
      replace BX : Below w.heap.size w (X2.setRow (X0.heap.size) #[.int .i64 sn0, .int .i64 nesn0, .slice Aq nq cq, .bool op0, .bool em0, .int .i64 (ack0 : Int), .int .i64 (tak0 : Int)]) := below_setRow BX (by omega) _
      clear H9
      generalize X2.setRow (X0.heap.size) #[.int .i64 sn0, .int .i64 nesn0, .slice Aq nq cq, .bool op0, .bool em0, .int .i64 (ack0 : Int), .int .i64 (tak0 : Int)] = X3 at *
      refine hK.out _ _ K2 (fun hHeld => ?_)
      clear hK K
      try simp only [List.getElem_toArray, List.getElem_cons_zero, List.getElem_cons_succ, Act.put, List.setIfInBounds_toArray, List.set_cons_zero, List.set_cons_succ]
      refine wpAnyH_ready (rs := [12]) (by kernel_rfl) (by simp) ?_
      refine AllReadyH.cons rfl (fun K hK => ?_) (AllReadyH.nil)
      have H9 : (#[.int .i64 sn1, .int .i64 nesn1, V1, .bool op1, .bool em1, .int .i64 (ack1 : Int), .int .i64 (tak1 : Int)] : Array Value).all (·.oneCell') = true := by rw [← Array.all_toList]; simp only [List.all_cons, List.all_nil, oV1, Bool.and_true, Bool.and_self]; rfl
      refine Av.step_store_row rfl 43 (.tmp 6) (.tmp 17) rfl (X1.heap.size) #[.int .i64 sn1, .int .i64 nesn1, V1, .bool op1, .bool em1, .int .i64 (ack1 : Int), .int .i64 (tak1 : Int)] rfl rfl 43 _ KB (by kernel_rfl) rfl H9 ?_
      replace K2 : Blk (X3.setRow (X1.heap.size) #[.int .i64 sn1, .int .i64 nesn1, V1, .bool op1, .bool em1, .int .i64 (ack1 : Int), .int .i64 (tak1 : Int)]) (w.heap.size) 62 #[.int .i64 sn0, .int .i64 nesn0, .slice Aq nq cq, .bool op0, .bool em0, .int .i64 (ack0 : Int), .int .i64 (tak0 : Int), .int .i64 sn1, .int .i64 nesn1, V1, .bool op1, .bool em1, .int .i64 (ack1 : Int), .int .i64 (tak1 : Int), .slice Au nu cu, V3, V4, .slice Ag tak1 cg] := Av.bother_row K2 (by omega)
      replace KA : Blk (X3.setRow (X1.heap.size) #[.int .i64 sn1, .int .i64 nesn1, V1, .bool op1, .bool em1, .int .i64 (ack1 : Int), .int .i64 (tak1 : Int)]) (X0.heap.size) 43 #[.int .i64 sn0, .int .i64 nesn0, .slice Aq nq cq, .bool op0, .bool em0, .int .i64 (ack0 : Int), .int .i64 (tak0 : Int)] := Av.bother_row KA (by omega)
      replace KB : Blk (X3.setRow (X1.heap.size) #[.int .i64 sn1, .int .i64 nesn1, V1, .bool op1, .bool em1, .int .i64 (ack1 : Int), .int .i64 (tak1 : Int)]) (X1.heap.size) 43 #[.int .i64 sn1, .int .i64 nesn1, V1, .bool op1, .bool em1, .int .i64 (ack1 : Int), .int .i64 (tak1 : Int)] := Av.bset_row KB
      replace BX : Below w.heap.size w (X3.setRow (X1.heap.size) #[.int .i64 sn1, .int .i64 nesn1, V1, .bool op1, .bool em1, .int .i64 (ack1 : Int), .int .i64 (tak1 : Int)]) := below_setRow BX (by omega) _
      clear H9
      generalize X3.setRow (X1.heap.size) #[.int .i64 sn1, .int .i64 nesn1, V1, .bool op1, .bool em1, .int .i64 (ack1 : Int), .int .i64 (tak1 : Int)] = X4 at *
      refine hK.out _ _ K2 (fun hHeld => ?_)
      clear hK K
      try simp only [List.getElem_toArray, List.getElem_cons_zero, List.getElem_cons_succ, Act.put, List.setIfInBounds_toArray, List.set_cons_zero, List.set_cons_succ]
      refine wpAnyH_done (by kernel_rfl) ?_ _
      clear hHeld
      go_wp2_with fail
      go_meet
      exact ⟨X0.heap.size, X1.heap.size, rfl, rfl, K2, KA, KB, BX⟩
    · skip
      go_simp
      have b9 := (Below.refl X0.heap.size X0).alloc (Nat.le_refl _) (.cells #[.int .i64 0, .int .i64 0, .slice none 0 0, .bool false, .bool false, .int .i64 0, .int .i64 0] 43)
      have KB := Blk.fresh X0 43 #[.int .i64 0, .int .i64 0, .slice none 0 0, .bool false, .bool false, .int .i64 0, .int .i64 0]
      have hxKB := K2.lt
      generalize X0.alloc (.cells #[.int .i64 0, .int .i64 0, .slice none 0 0, .bool false, .bool false, .int .i64 0, .int .i64 0] 43) = X5 at *
      replace K2 := K2.below b9 K2.lt
      replace BX := Base.thenB BX b9
      clear b9
      refine hK.out _ _ K2 (fun hHeld => ?_)
      clear hK K
      try simp only [List.getElem_toArray, List.getElem_cons_zero, List.getElem_cons_succ, Act.put, List.setIfInBounds_toArray, List.set_cons_zero, List.set_cons_succ]
      refine wpAnyH_ready (rs := [9]) (by kernel_rfl) (by simp) ?_
      refine AllReadyH.cons rfl (fun K hK => ?_) (AllReadyH.nil)
      go_simp
      have b9 := (Below.refl X5.heap.size X5).alloc (Nat.le_refl _) (.cells #[.int .i64 0, .int .i64 0, .slice none 0 0, .bool false, .bool false, .int .i64 0, .int .i64 0] 43)
      have KA := Blk.fresh X5 43 #[.int .i64 0, .int .i64 0, .slice none 0 0, .bool false, .bool false, .int .i64 0, .int .i64 0]
      have hxKA := K2.lt
      have hyKA := KB.lt
      generalize X5.alloc (.cells #[.int .i64 0, .int .i64 0, .slice none 0 0, .bool false, .bool false, .int .i64 0, .int .i64 0] 43) = X6 at *
      replace K2 := K2.below b9 K2.lt
      replace KB := KB.below b9 KB.lt
      replace BX := Base.thenB BX b9
      clear b9
      refine hK.out _ _ K2 (fun hHeld => ?_)
      clear hK K
      try simp only [List.getElem_toArray, List.getElem_cons_zero, List.getElem_cons_succ, Act.put, List.setIfInBounds_toArray, List.set_cons_zero, List.set_cons_succ]
      refine wpAnyH_ready (rs := [11]) (by kernel_rfl) (by simp) ?_
      refine AllReadyH.cons rfl (fun K hK => ?_) (AllReadyH.nil)
      have H9 : (#[.int .i64 sn0, .int .i64 nesn0, .slice Aq nq cq, .bool op0, .bool em0, .int .i64 (ack0 : Int), .int .i64 (tak0 : Int)] : Array Value).all (·.oneCell') = true := by rw [← Array.all_toList]; rfl
      refine Av.step_store_row rfl 43 (.tmp 5) (.tmp 12) rfl (X5.heap.size) #[.int .i64 sn0, .int .i64 nesn0, .slice Aq nq cq, .bool op0, .bool em0, .int .i64 (ack0 : Int), .int .i64 (tak0 : Int)] rfl rfl 43 _ KA (by kernel_rfl) rfl H9 ?_
      replace K2 : Blk (X6.setRow (X5.heap.size) #[.int .i64 sn0, .int .i64 nesn0, .slice Aq nq cq, .bool op0, .bool em0, .int .i64 (ack0 : Int), .int .i64 (tak0 : Int)]) (w.heap.size) 62 #[.int .i64 sn0, .int .i64 nesn0, .slice Aq nq cq, .bool op0, .bool em0, .int .i64 (ack0 : Int), .int .i64 (tak0 : Int), .int .i64 sn1, .int .i64 nesn1, V1, .bool op1, .bool em1, .int .i64 (ack1 : Int), .int .i64 (tak1 : Int), .slice Au nu cu, V3, V4, .slice Ag tak1 cg] := Av.bother_row K2 (by omega)
      replace KB : Blk (X6.setRow (X5.heap.size) #[.int .i64 sn0, .int .i64 nesn0, .slice Aq nq cq, .bool op0, .bool em0, .int .i64 (ack0 : Int), .int .i64 (tak0 : Int)]) (X0.heap.size) 43 #[.int .i64 0, .int .i64 0, .slice none 0 0, .bool false, .bool false, .int .i64 0, .int .i64 0] := Av.bother_row KB (by omega)
      replace KA : Blk (X6.setRow (X5.heap.size) #[.int .i64 sn0, .int .i64 nesn0, .slice Aq nq cq, .bool op0, .bool em0, .int .i64 (ack0 : Int), .int .i64 (tak0 : Int)]) (X5.heap.size) 43 #[.int .i64 sn0, .int .i64 nesn0, .slice Aq nq cq, .bool op0, .bool em0, .int .i64 (ack0 : Int), .int .i64 (tak0 : Int)] := Av.bset_row KA
      replace BX : Below w.heap.size w (X6.setRow (X5.heap.size) #[.int .i64 sn0, .int .i64 nesn0, .slice Aq nq cq, .bool op0, .bool em0, .int .i64 (ack0 : Int), .int .i64 (tak0 : Int)]) := below_setRow BX (by omega) _
      clear H9
      generalize X6.setRow (X5.heap.size) #[.int .i64 sn0, .int .i64 nesn0, .slice Aq nq cq, .bool op0, .bool em0, .int .i64 (ack0 : Int), .int .i64 (tak0 : Int)] = X7 at *
      refine hK.out _ _ K2 (fun hHeld => ?_)
      clear hK K
      try simp only [List.getElem_toArray, List.getElem_cons_zero, List.getElem_cons_succ, Act.put, List.setIfInBounds_toArray, List.set_cons_zero, List.set_cons_succ]
      refine wpAnyH_ready (rs := [12]) (by kernel_rfl) (by simp) ?_
      refine AllReadyH.cons rfl (fun K hK => ?_) (AllReadyH.nil)
      have H9 : (#[.int .i64 sn1, .int .i64 nesn1, V1, .bool op1, .bool em1, .int .i64 (ack1 : Int), .int .i64 (tak1 : Int)] : Array Value).all (·.oneCell') = true := by rw [← Array.all_toList]; simp only [List.all_cons, List.all_nil, oV1, Bool.and_true, Bool.and_self]; rfl
      refine Av.step_store_row rfl 43 (.tmp 6) (.tmp 17) rfl (X0.heap.size) #[.int .i64 sn1, .int .i64 nesn1, V1, .bool op1, .bool em1, .int .i64 (ack1 : Int), .int .i64 (tak1 : Int)] rfl rfl 43 _ KB (by kernel_rfl) rfl H9 ?_
      replace K2 : Blk (X7.setRow (X0.heap.size) #[.int .i64 sn1, .int .i64 nesn1, V1, .bool op1, .bool em1, .int .i64 (ack1 : Int), .int .i64 (tak1 : Int)]) (w.heap.size) 62 #[.int .i64 sn0, .int .i64 nesn0, .slice Aq nq cq, .bool op0, .bool em0, .int .i64 (ack0 : Int), .int .i64 (tak0 : Int), .int .i64 sn1, .int .i64 nesn1, V1, .bool op1, .bool em1, .int .i64 (ack1 : Int), .int .i64 (tak1 : Int), .slice Au nu cu, V3, V4, .slice Ag tak1 cg] := Av.bother_row K2 (by omega)
      replace KB : Blk (X7.setRow (X0.heap.size) #[.int .i64 sn1, .int .i64 nesn1, V1, .bool op1, .bool em1, .int .i64 (ack1 : Int), .int .i64 (tak1 : Int)]) (X0.heap.size) 43 #[.int .i64 sn1, .int .i64 nesn1, V1, .bool op1, .bool em1, .int .i64 (ack1 : Int), .int .i64 (tak1 : Int)] := Av.bset_row KB
      replace KA : Blk (X7.setRow (X0.heap.size) #[.int .i64 sn1, .int .i64 nesn1, V1, .bool op1, .bool em1, .int .i64 (ack1 : Int), .int .i64 (tak1 : Int)]) (X5.heap.size) 43 #[.int .i64 sn0, .int .i64 nesn0, .slice Aq nq cq, .bool op0, .bool em0, .int .i64 (ack0 : Int), .int .i64 (tak0 : Int)] := Av.bother_row KA (by omega)
      replace BX : Below w.heap.size w (X7.setRow (X0.heap.size) #[.int .i64 sn1, .int .i64 nesn1, V1, .bool op1, .bool em1, .int .i64 (ack1 : Int), .int .i64 (tak1 : Int)]) := below_setRow BX (by omega) _
      clear H9
      generalize X7.setRow (X0.heap.size) #[.int .i64 sn1, .int .i64 nesn1, V1, .bool op1, .bool em1, .int .i64 (ack1 : Int), .int .i64 (tak1 : Int)] = X8 at *
      refine hK.out _ _ K2 (fun hHeld => ?_)
      clear hK K
      try simp only [List.getElem_toArray, List.getElem_cons_zero, List.getElem_cons_succ, Act.put, List.setIfInBounds_toArray, List.set_cons_zero, List.set_cons_succ]
      refine wpAnyH_done (by kernel_rfl) ?_ _
      clear hHeld
      go_wp2_with fail
      go_meet
      exact ⟨X5.heap.size, X0.heap.size, rfl, rfl, K2, KA, KB, BX⟩
  case rest =>
    obtain ⟨ga, gb, rfl, rfl, K2, KA, KB, BX⟩ := hcut
    go_upto_region 2 with (fail)
    have K2' : Blk wc.drew (w.heap.size) 62 #[.int .i64 sn0, .int .i64 nesn0, .slice Aq nq cq, .bool op0, .bool em0, .int .i64 (ack0 : Int), .int .i64 (tak0 : Int), .int .i64 sn1, .int .i64 nesn1, V1, .bool op1, .bool em1, .int .i64 (ack1 : Int), .int .i64 (tak1 : Int), .slice Au nu cu, V3, V4, .slice Ag tak1 cg] := Mem.Blk.drew K2
    have KA' : Blk wc.drew (ga) 43 #[.int .i64 sn0, .int .i64 nesn0, .slice Aq nq cq, .bool op0, .bool em0, .int .i64 (ack0 : Int), .int .i64 (tak0 : Int)] := Mem.Blk.drew KA
    have KB' : Blk wc.drew (gb) 43 #[.int .i64 sn1, .int .i64 nesn1, V1, .bool op1, .bool em1, .int .i64 (ack1 : Int), .int .i64 (tak1 : Int)] := Mem.Blk.drew KB
    refine wp_region_held_drew (S := (fun w' => Blk w' (w.heap.size) 62 #[.int .i64 sn0, .int .i64 nesn0, .slice Aq nq cq, .bool op0, .bool em0, .int .i64 (ack0 : Int), .int .i64 (tak0 : Int), .int .i64 sn1, .int .i64 nesn1, V1, .bool op1, .bool em1, .int .i64 (ack1 : Int), .int .i64 (tak1 : Int), .slice Au nu cu, V3, V4, .slice Ag tak1 cg])) (by kernel_rfl) ?_ (fun hHeld => ?_)
    · exact K2'
    replace K2 := K2'
    clear K2'
    replace KA := KA'
    clear KA'
    replace KB := KB'
    clear KB'
    replace BX : Below w.heap.size w wc.drew := BX.drew
    generalize wc.drew = X0 at *
    refine wpAnyH_take (i := 0) (v := .int .i64 0) rfl (by kernel_rfl) (by kernel_rfl) (by kernel_rfl) (fun _ _ _ h => h) (Or.inl ⟨by first | rfl | go_simp, by intro w9 hSw; (try dsimp only at hSw); go_simp⟩) (by assumption) ?_
    simp only [List.getElem_toArray, List.getElem_cons_zero, List.getElem_cons_succ, Act.put, List.setIfInBounds_toArray, List.set_cons_zero, List.set_cons_succ]
    refine wpAnyH_take (i := 1) (v := .pointer (some ⟨w.heap.size, 14, none⟩)) rfl (by kernel_rfl) (by kernel_rfl) (by kernel_rfl) (fun _ _ _ h => h) (Or.inl ⟨by first | rfl | go_simp, by intro w9 hSw; (try dsimp only at hSw); go_simp⟩) (by assumption) ?_
    simp only [List.getElem_toArray, List.getElem_cons_zero, List.getElem_cons_succ, Act.put, List.setIfInBounds_toArray, List.set_cons_zero, List.set_cons_succ]
    refine wpAnyH_take (i := 2) (v := .pointer (some ⟨w.heap.size, 14, none⟩)) rfl (by kernel_rfl) (by kernel_rfl) (by kernel_rfl) (fun _ _ _ h => h) (Or.inl ⟨by first | rfl | go_simp, by intro w9 hSw; (try dsimp only at hSw); go_simp⟩) (by assumption) ?_
    simp only [List.getElem_toArray, List.getElem_cons_zero, List.getElem_cons_succ, Act.put, List.setIfInBounds_toArray, List.set_cons_zero, List.set_cons_succ]
    refine wpAnyH_take (i := 3) (v := .slice Au nu cu) rfl (by kernel_rfl) (by kernel_rfl) (by kernel_rfl) (fun _ _ _ h => h) (Or.inl ⟨by first | rfl | go_simp, by intro w9 hSw; (try dsimp only at hSw); have c9 := hSw.cell 14; clear hSw; go_simp⟩) (by assumption) ?_
    simp only [List.getElem_toArray, List.getElem_cons_zero, List.getElem_cons_succ, Act.put, List.setIfInBounds_toArray, List.set_cons_zero, List.set_cons_succ]
    refine wpAnyH_take (i := 4) (v := .int .i64 0) rfl (by kernel_rfl) (by kernel_rfl) (by kernel_rfl) (fun _ _ _ h => h) (Or.inl ⟨by first | rfl | go_simp, by intro w9 hSw; (try dsimp only at hSw); go_simp⟩) (by assumption) ?_
    simp only [List.getElem_toArray, List.getElem_cons_zero, List.getElem_cons_succ, Act.put, List.setIfInBounds_toArray, List.set_cons_zero, List.set_cons_succ]
    refine wpAnyH_take (i := 5) (v := .int .i64 1) rfl (by kernel_rfl) (by kernel_rfl) (by kernel_rfl) (fun _ _ _ h => h) (Or.inl ⟨by first | rfl | go_simp, by intro w9 hSw; (try dsimp only at hSw); go_simp⟩) (by assumption) ?_
    simp only [List.getElem_toArray, List.getElem_cons_zero, List.getElem_cons_succ, Act.put, List.setIfInBounds_toArray, List.set_cons_zero, List.set_cons_succ]
    refine wpAnyH_take (i := 6) (v := .pointer (some ⟨w.heap.size, 16, none⟩)) rfl (by kernel_rfl) (by kernel_rfl) (by kernel_rfl) (fun _ _ _ h => h) (Or.inl ⟨by first | rfl | go_simp, by intro w9 hSw; (try dsimp only at hSw); go_simp⟩) (by assumption) ?_
    simp only [List.getElem_toArray, List.getElem_cons_zero, List.getElem_cons_succ, Act.put, List.setIfInBounds_toArray, List.set_cons_zero, List.set_cons_succ]
    refine wpAnyH_take (i := 7) (v := .pointer (some ⟨w.heap.size, 17, none⟩)) rfl (by kernel_rfl) (by kernel_rfl) (by kernel_rfl) (fun _ _ _ h => h) (Or.inl ⟨by first | rfl | go_simp, by intro w9 hSw; (try dsimp only at hSw); go_simp⟩) (by assumption) ?_
    simp only [List.getElem_toArray, List.getElem_cons_zero, List.getElem_cons_succ, Act.put, List.setIfInBounds_toArray, List.set_cons_zero, List.set_cons_succ]
    refine wpAnyH_take (i := 8) (v := .slice Ag tak1 cg) rfl (by kernel_rfl) (by kernel_rfl) (by kernel_rfl) (fun _ _ _ h => h) (Or.inl ⟨by first | rfl | go_simp, by intro w9 hSw; (try dsimp only at hSw); have c9 := hSw.cell 17; clear hSw; go_simp⟩) (by assumption) ?_
    simp only [List.getElem_toArray, List.getElem_cons_zero, List.getElem_cons_succ, Act.put, List.setIfInBounds_toArray, List.set_cons_zero, List.set_cons_succ]
    refine wpAnyH_take (i := 9) (v := .slice Au nu cu) rfl (by kernel_rfl) (by kernel_rfl) (by kernel_rfl) (fun _ _ _ h => h) (Or.inl ⟨by first | rfl | go_simp, by intro w9 hSw; (try dsimp only at hSw); go_simp⟩) (by assumption) ?_
    simp only [List.getElem_toArray, List.getElem_cons_zero, List.getElem_cons_succ, Act.put, List.setIfInBounds_toArray, List.set_cons_zero, List.set_cons_succ]
    refine wpAnyH_take (i := 10) (v := .slice Ag tak1 cg) rfl (by kernel_rfl) (by kernel_rfl) (by kernel_rfl) (fun _ _ _ h => h) (Or.inl ⟨by first | rfl | go_simp, by intro w9 hSw; (try dsimp only at hSw); go_simp⟩) (by assumption) ?_
    simp only [List.getElem_toArray, List.getElem_cons_zero, List.getElem_cons_succ, Act.put, List.setIfInBounds_toArray, List.set_cons_zero, List.set_cons_succ]
    refine wpAnyH_done (by kernel_rfl) ?_ _
    clear hHeld
    go_upto_region 3 with (fail)
    have K2' : Blk X0.drew (w.heap.size) 62 #[.int .i64 sn0, .int .i64 nesn0, .slice Aq nq cq, .bool op0, .bool em0, .int .i64 (ack0 : Int), .int .i64 (tak0 : Int), .int .i64 sn1, .int .i64 nesn1, V1, .bool op1, .bool em1, .int .i64 (ack1 : Int), .int .i64 (tak1 : Int), .slice Au nu cu, V3, V4, .slice Ag tak1 cg] := Mem.Blk.drew K2
    have KA' : Blk X0.drew (ga) 43 #[.int .i64 sn0, .int .i64 nesn0, .slice Aq nq cq, .bool op0, .bool em0, .int .i64 (ack0 : Int), .int .i64 (tak0 : Int)] := Mem.Blk.drew KA
    have KB' : Blk X0.drew (gb) 43 #[.int .i64 sn1, .int .i64 nesn1, V1, .bool op1, .bool em1, .int .i64 (ack1 : Int), .int .i64 (tak1 : Int)] := Mem.Blk.drew KB
    refine wp_region_held_drew (S := (fun w' => Blk w' (ga) 43 #[.int .i64 sn0, .int .i64 nesn0, .slice Aq nq cq, .bool op0, .bool em0, .int .i64 (ack0 : Int), .int .i64 (tak0 : Int)])) (by kernel_rfl) ?_ (fun hHeld => ?_)
    · exact KA'
    replace K2 := K2'
    clear K2'
    replace KA := KA'
    clear KA'
    replace KB := KB'
    clear KB'
    replace BX : Below w.heap.size w X0.drew := BX.drew
    generalize X0.drew = Y0 at *
    refine wpAnyH_take (i := 0) (v := .slice Ag tak1 cg) rfl (by kernel_rfl) (by kernel_rfl) (by kernel_rfl) (fun _ _ _ h => h) (Or.inl ⟨by first | rfl | go_simp, by intro w9 hSw; (try dsimp only at hSw); go_simp⟩) (by assumption) ?_
    simp only [List.getElem_toArray, List.getElem_cons_zero, List.getElem_cons_succ, Act.put, List.setIfInBounds_toArray, List.set_cons_zero, List.set_cons_succ]
    refine wpAnyH_take (i := 1) (v := .int .i64 (tak1 : Int)) rfl (by kernel_rfl) (by kernel_rfl) (by kernel_rfl) (fun _ _ _ h => h) (Or.inl ⟨by first | rfl | go_simp, by intro w9 hSw; (try dsimp only at hSw); go_simp⟩) (by assumption) ?_
    simp only [List.getElem_toArray, List.getElem_cons_zero, List.getElem_cons_succ, Act.put, List.setIfInBounds_toArray, List.set_cons_zero, List.set_cons_succ]
    refine wpAnyH_take (i := 2) (v := .slice Au nu cu) rfl (by kernel_rfl) (by kernel_rfl) (by kernel_rfl) (fun _ _ _ h => h) (Or.inl ⟨by first | rfl | go_simp, by intro w9 hSw; (try dsimp only at hSw); go_simp⟩) (by assumption) ?_
    simp only [List.getElem_toArray, List.getElem_cons_zero, List.getElem_cons_succ, Act.put, List.setIfInBounds_toArray, List.set_cons_zero, List.set_cons_succ]
    refine wpAnyH_take (i := 3) (v := .int .i64 (nu : Int)) rfl (by kernel_rfl) (by kernel_rfl) (by kernel_rfl) (fun _ _ _ h => h) (Or.inl ⟨by first | rfl | go_simp, by intro w9 hSw; (try dsimp only at hSw); go_simp⟩) (by assumption) ?_
    simp only [List.getElem_toArray, List.getElem_cons_zero, List.getElem_cons_succ, Act.put, List.setIfInBounds_toArray, List.set_cons_zero, List.set_cons_succ]
    refine wpAnyH_take (i := 4) (v := .bool false) rfl (by kernel_rfl) (by kernel_rfl) (by kernel_rfl) (fun _ _ _ h => h) (Or.inl ⟨by first | rfl | go_simp, by intro w9 hSw; (try dsimp only at hSw); go_simp⟩) (by assumption) ?_
    simp only [List.getElem_toArray, List.getElem_cons_zero, List.getElem_cons_succ, Act.put, List.setIfInBounds_toArray, List.set_cons_zero, List.set_cons_succ]
    refine wpAnyH_take (i := 5) (v := .bool false) rfl (by kernel_rfl) (by kernel_rfl) (by kernel_rfl) (fun _ _ _ h => h) (Or.inl ⟨by first | rfl | go_simp, by intro w9 hSw; (try dsimp only at hSw); go_simp⟩) (by assumption) ?_
    simp only [List.getElem_toArray, List.getElem_cons_zero, List.getElem_cons_succ, Act.put, List.setIfInBounds_toArray, List.set_cons_zero, List.set_cons_succ]
    refine wpAnyH_take (i := 6) (v := .pointer (some ⟨ga, 5, none⟩)) rfl (by kernel_rfl) (by kernel_rfl) (by kernel_rfl) (fun _ _ _ h => h) (Or.inl ⟨by first | rfl | go_simp, by intro w9 hSw; (try dsimp only at hSw); go_simp⟩) (by assumption) ?_
    simp only [List.getElem_toArray, List.getElem_cons_zero, List.getElem_cons_succ, Act.put, List.setIfInBounds_toArray, List.set_cons_zero, List.set_cons_succ]
    refine wpAnyH_take (i := 7) (v := .int .i64 (ack0 : Int)) rfl (by kernel_rfl) (by kernel_rfl) (by kernel_rfl) (fun _ _ _ h => h) (Or.inl ⟨by first | rfl | go_simp, by intro w9 hSw; (try dsimp only at hSw); have c9 := hSw.cell 5; clear hSw; go_simp⟩) (by assumption) ?_
    simp only [List.getElem_toArray, List.getElem_cons_zero, List.getElem_cons_succ, Act.put, List.setIfInBounds_toArray, List.set_cons_zero, List.set_cons_succ]
    refine wpAnyH_take (i := 8) (v := .bool false) rfl (by kernel_rfl) (by kernel_rfl) (by kernel_rfl) (fun _ _ _ h => h) (Or.inl ⟨by first | rfl | go_simp, by intro w9 hSw; (try dsimp only at hSw); go_simp⟩) (by assumption) ?_
    simp only [List.getElem_toArray, List.getElem_cons_zero, List.getElem_cons_succ, Act.put, List.setIfInBounds_toArray, List.set_cons_zero, List.set_cons_succ]
    refine wpAnyH_take (i := 9) (v := .bool false) rfl (by kernel_rfl) (by kernel_rfl) (by kernel_rfl) (fun _ _ _ h => h) (Or.inl ⟨by first | rfl | go_simp, by intro w9 hSw; (try dsimp only at hSw); go_simp⟩) (by assumption) ?_
    simp only [List.getElem_toArray, List.getElem_cons_zero, List.getElem_cons_succ, Act.put, List.setIfInBounds_toArray, List.set_cons_zero, List.set_cons_succ]
    refine wpAnyH_take (i := 10) (v := .bool false) rfl (by kernel_rfl) (by kernel_rfl) (by kernel_rfl) (fun _ _ _ h => h) (Or.inl ⟨by first | rfl | go_simp, by intro w9 hSw; (try dsimp only at hSw); go_simp⟩) (by assumption) ?_
    simp only [List.getElem_toArray, List.getElem_cons_zero, List.getElem_cons_succ, Act.put, List.setIfInBounds_toArray, List.set_cons_zero, List.set_cons_succ]
    refine wpAnyH_take (i := 11) (v := .pointer (some ⟨ga, 5, none⟩)) rfl (by kernel_rfl) (by kernel_rfl) (by kernel_rfl) (fun _ _ _ h => h) (Or.inl ⟨by first | rfl | go_simp, by intro w9 hSw; (try dsimp only at hSw); go_simp⟩) (by assumption) ?_
    simp only [List.getElem_toArray, List.getElem_cons_zero, List.getElem_cons_succ, Act.put, List.setIfInBounds_toArray, List.set_cons_zero, List.set_cons_succ]
    refine wpAnyH_take (i := 12) (v := .int .i64 (ack0 : Int)) rfl (by kernel_rfl) (by kernel_rfl) (by kernel_rfl) (fun _ _ _ h => h) (Or.inl ⟨by first | rfl | go_simp, by intro w9 hSw; (try dsimp only at hSw); have c9 := hSw.cell 5; clear hSw; go_simp⟩) (by assumption) ?_
    simp only [List.getElem_toArray, List.getElem_cons_zero, List.getElem_cons_succ, Act.put, List.setIfInBounds_toArray, List.set_cons_zero, List.set_cons_succ]
    refine wpAnyH_take (i := 13) (v := .slice Au nu cu) rfl (by kernel_rfl) (by kernel_rfl) (by kernel_rfl) (fun _ _ _ h => h) (Or.inl ⟨by first | rfl | go_simp, by intro w9 hSw; (try dsimp only at hSw); go_simp⟩) (by assumption) ?_
    simp only [List.getElem_toArray, List.getElem_cons_zero, List.getElem_cons_succ, Act.put, List.setIfInBounds_toArray, List.set_cons_zero, List.set_cons_succ]
    refine wpAnyH_take (i := 14) (v := .int .i64 (nu : Int)) rfl (by kernel_rfl) (by kernel_rfl) (by kernel_rfl) (fun _ _ _ h => h) (Or.inl ⟨by first | rfl | go_simp, by intro w9 hSw; (try dsimp only at hSw); go_simp⟩) (by assumption) ?_
    simp only [List.getElem_toArray, List.getElem_cons_zero, List.getElem_cons_succ, Act.put, List.setIfInBounds_toArray, List.set_cons_zero, List.set_cons_succ]
    refine wpAnyH_take (i := 15) (v := .bool false) rfl (by kernel_rfl) (by kernel_rfl) (by kernel_rfl) (fun _ _ _ h => h) (Or.inl ⟨by first | rfl | go_simp, by intro w9 hSw; (try dsimp only at hSw); go_simp⟩) (by assumption) ?_
    simp only [List.getElem_toArray, List.getElem_cons_zero, List.getElem_cons_succ, Act.put, List.setIfInBounds_toArray, List.set_cons_zero, List.set_cons_succ]
    refine wpAnyH_take (i := 16) (v := .bool false) rfl (by kernel_rfl) (by kernel_rfl) (by kernel_rfl) (fun _ _ _ h => h) (Or.inl ⟨by first | rfl | go_simp, by intro w9 hSw; (try dsimp only at hSw); go_simp⟩) (by assumption) ?_
    simp only [List.getElem_toArray, List.getElem_cons_zero, List.getElem_cons_succ, Act.put, List.setIfInBounds_toArray, List.set_cons_zero, List.set_cons_succ]
    refine wpAnyH_take (i := 17) (v := .bool false) rfl (by kernel_rfl) (by kernel_rfl) (by kernel_rfl) (fun _ _ _ h => h) (Or.inl ⟨by first | rfl | go_simp, by intro w9 hSw; (try dsimp only at hSw); go_simp⟩) (by assumption) ?_
    simp only [List.getElem_toArray, List.getElem_cons_zero, List.getElem_cons_succ, Act.put, List.setIfInBounds_toArray, List.set_cons_zero, List.set_cons_succ]
    refine wpAnyH_take (i := 18) (v := .slice Ag tak1 cg) rfl (by kernel_rfl) (by kernel_rfl) (by kernel_rfl) (fun _ _ _ h => h) (Or.inl ⟨by first | rfl | go_simp, by intro w9 hSw; (try dsimp only at hSw); go_simp⟩) (by assumption) ?_
    simp only [List.getElem_toArray, List.getElem_cons_zero, List.getElem_cons_succ, Act.put, List.setIfInBounds_toArray, List.set_cons_zero, List.set_cons_succ]
    refine wpAnyH_take (i := 19) (v := .slice Au nu cu) rfl (by kernel_rfl) (by kernel_rfl) (by kernel_rfl) (fun _ _ _ h => h) (Or.inl ⟨by first | rfl | go_simp, by intro w9 hSw; (try dsimp only at hSw); go_simp⟩) (by assumption) ?_
    simp only [List.getElem_toArray, List.getElem_cons_zero, List.getElem_cons_succ, Act.put, List.setIfInBounds_toArray, List.set_cons_zero, List.set_cons_succ]
    refine wpAnyH_take (i := 20) (v := .slice Ag tak1 cg) rfl (by kernel_rfl) (by kernel_rfl) (by kernel_rfl) (fun _ _ _ h => h) (Or.inl ⟨by first | rfl | go_simp, by intro w9 hSw; (try dsimp only at hSw); go_simp⟩) (by assumption) ?_
    simp only [List.getElem_toArray, List.getElem_cons_zero, List.getElem_cons_succ, Act.put, List.setIfInBounds_toArray, List.set_cons_zero, List.set_cons_succ]
    refine wpAnyH_take (i := 21) (v := .int .i64 (tak1 : Int)) rfl (by kernel_rfl) (by kernel_rfl) (by kernel_rfl) (fun _ _ _ h => h) (Or.inl ⟨by first | rfl | go_simp, by intro w9 hSw; (try dsimp only at hSw); go_simp⟩) (by assumption) ?_
    simp only [List.getElem_toArray, List.getElem_cons_zero, List.getElem_cons_succ, Act.put, List.setIfInBounds_toArray, List.set_cons_zero, List.set_cons_succ]
    refine wpAnyH_take (i := 22) (v := .slice Au tak1 cu) rfl (by kernel_rfl) (by kernel_rfl) (by kernel_rfl) (fun _ _ _ h => h) (Or.inl ⟨by first | rfl | go_simp, by intro w9 hSw; (try dsimp only at hSw); go_simp⟩) (by assumption) ?_
    simp only [List.getElem_toArray, List.getElem_cons_zero, List.getElem_cons_succ, Act.put, List.setIfInBounds_toArray, List.set_cons_zero, List.set_cons_succ]
    refine wpAnyH_ready (rs := [23]) (by kernel_rfl) (by simp) ?_
    refine AllReadyH.cons rfl (fun K hK => ?_) (AllReadyH.nil)
    go_simp
    refine (HS1.out Y0 BX).mono ?_
    rintro e Y1 ⟨rfl, b9⟩
    replace K2 := K2.below b9 K2.lt
    replace KA := KA.below b9 KA.lt
    replace KB := KB.below b9 KB.lt
    replace BX := Base.thenB BX b9
    clear b9
    refine hK.out _ _ KA (fun hHeld => ?_)
    clear hK K
    try simp only [List.getElem_toArray, List.getElem_cons_zero, List.getElem_cons_succ, Act.put, List.setIfInBounds_toArray, List.set_cons_zero, List.set_cons_succ]
    refine wpAnyH_take (i := 24) (v := .bool false) rfl (by kernel_rfl) (by kernel_rfl) (by kernel_rfl) (fun _ _ _ h => h) (Or.inl ⟨by first | rfl | go_simp, by intro w9 hSw; (try dsimp only at hSw); go_simp⟩) (by assumption) ?_
    simp only [List.getElem_toArray, List.getElem_cons_zero, List.getElem_cons_succ, Act.put, List.setIfInBounds_toArray, List.set_cons_zero, List.set_cons_succ]
    refine wpAnyH_take (i := 25) (v := .bool false) rfl (by kernel_rfl) (by kernel_rfl) (by kernel_rfl) (fun _ _ _ h => h) (Or.inl ⟨by first | rfl | go_simp, by intro w9 hSw; (try dsimp only at hSw); go_simp⟩) (by assumption) ?_
    simp only [List.getElem_toArray, List.getElem_cons_zero, List.getElem_cons_succ, Act.put, List.setIfInBounds_toArray, List.set_cons_zero, List.set_cons_succ]
    refine wpAnyH_take (i := 26) (v := .bool false) rfl (by kernel_rfl) (by kernel_rfl) (by kernel_rfl) (fun _ _ _ h => h) (Or.inl ⟨by first | rfl | go_simp, by intro w9 hSw; (try dsimp only at hSw); go_simp⟩) (by assumption) ?_
    simp only [List.getElem_toArray, List.getElem_cons_zero, List.getElem_cons_succ, Act.put, List.setIfInBounds_toArray, List.set_cons_zero, List.set_cons_succ]
    refine wpAnyH_take (i := 27) (v := .pointer (some ⟨ga, 2, none⟩)) rfl (by kernel_rfl) (by kernel_rfl) (by kernel_rfl) (fun _ _ _ h => h) (Or.inl ⟨by first | rfl | go_simp, by intro w9 hSw; (try dsimp only at hSw); go_simp⟩) (by assumption) ?_
    simp only [List.getElem_toArray, List.getElem_cons_zero, List.getElem_cons_succ, Act.put, List.setIfInBounds_toArray, List.set_cons_zero, List.set_cons_succ]
    refine wpAnyH_take (i := 28) (v := .slice Aq nq cq) rfl (by kernel_rfl) (by kernel_rfl) (by kernel_rfl) (fun _ _ _ h => h) (Or.inl ⟨by first | rfl | go_simp, by intro w9 hSw; (try dsimp only at hSw); have c9 := hSw.cell 2; clear hSw; go_simp⟩) (by assumption) ?_
    simp only [List.getElem_toArray, List.getElem_cons_zero, List.getElem_cons_succ, Act.put, List.setIfInBounds_toArray, List.set_cons_zero, List.set_cons_succ]
    refine wpAnyH_take (i := 29) (v := .slice Au nu cu) rfl (by kernel_rfl) (by kernel_rfl) (by kernel_rfl) (fun _ _ _ h => h) (Or.inl ⟨by first | rfl | go_simp, by intro w9 hSw; (try dsimp only at hSw); go_simp⟩) (by assumption) ?_
    simp only [List.getElem_toArray, List.getElem_cons_zero, List.getElem_cons_succ, Act.put, List.setIfInBounds_toArray, List.set_cons_zero, List.set_cons_succ]
    refine wpAnyH_take (i := 30) (v := .pointer (some ⟨ga, 5, none⟩)) rfl (by kernel_rfl) (by kernel_rfl) (by kernel_rfl) (fun _ _ _ h => h) (Or.inl ⟨by first | rfl | go_simp, by intro w9 hSw; (try dsimp only at hSw); go_simp⟩) (by assumption) ?_
    simp only [List.getElem_toArray, List.getElem_cons_zero, List.getElem_cons_succ, Act.put, List.setIfInBounds_toArray, List.set_cons_zero, List.set_cons_succ]
    refine wpAnyH_take (i := 31) (v := .int .i64 (ack0 : Int)) rfl (by kernel_rfl) (by kernel_rfl) (by kernel_rfl) (fun _ _ _ h => h) (Or.inl ⟨by first | rfl | go_simp, by intro w9 hSw; (try dsimp only at hSw); have c9 := hSw.cell 5; clear hSw; go_simp⟩) (by assumption) ?_
    simp only [List.getElem_toArray, List.getElem_cons_zero, List.getElem_cons_succ, Act.put, List.setIfInBounds_toArray, List.set_cons_zero, List.set_cons_succ]
    refine wpAnyH_take (i := 32) (v := .slice (if cu = ack0 then Au else Au.map (·.add (ack0 * 2))) (nu - ack0) (cu - ack0)) rfl (by kernel_rfl) (by kernel_rfl) (by kernel_rfl) (fun _ _ _ h => h) (Or.inl ⟨by first | rfl | go_simp, by intro w9 hSw; (try dsimp only at hSw); go_simp⟩) (by assumption) ?_
    simp only [List.getElem_toArray, List.getElem_cons_zero, List.getElem_cons_succ, Act.put, List.setIfInBounds_toArray, List.set_cons_zero, List.set_cons_succ]
    refine wpAnyH_ready (rs := [33]) (by kernel_rfl) (by simp) ?_
    refine AllReadyH.cons rfl (fun K hK => ?_) (AllReadyH.nil)
    go_simp
    refine (HS2.out Y1 BX).mono ?_
    rintro e Y2 ⟨rfl, b9⟩
    replace K2 := K2.below b9 K2.lt
    replace KA := KA.below b9 KA.lt
    replace KB := KB.below b9 KB.lt
    replace BX := Base.thenB BX b9
    clear b9
    refine hK.out _ _ KA (fun hHeld => ?_)
    clear hK K
    try simp only [List.getElem_toArray, List.getElem_cons_zero, List.getElem_cons_succ, Act.put, List.setIfInBounds_toArray, List.set_cons_zero, List.set_cons_succ]
    refine wpAnyH_take (i := 34) (v := .bool false) rfl (by kernel_rfl) (by kernel_rfl) (by kernel_rfl) (fun _ _ _ h => h) (Or.inl ⟨by first | rfl | go_simp, by intro w9 hSw; (try dsimp only at hSw); go_simp⟩) (by assumption) ?_
    simp only [List.getElem_toArray, List.getElem_cons_zero, List.getElem_cons_succ, Act.put, List.setIfInBounds_toArray, List.set_cons_zero, List.set_cons_succ]
    refine wpAnyH_take (i := 35) (v := .bool false) rfl (by kernel_rfl) (by kernel_rfl) (by kernel_rfl) (fun _ _ _ h => h) (Or.inl ⟨by first | rfl | go_simp, by intro w9 hSw; (try dsimp only at hSw); go_simp⟩) (by assumption) ?_
    simp only [List.getElem_toArray, List.getElem_cons_zero, List.getElem_cons_succ, Act.put, List.setIfInBounds_toArray, List.set_cons_zero, List.set_cons_succ]
    refine wpAnyH_done (by kernel_rfl) ?_ _
    clear hHeld
    have k5 := KA.cell 5
    have k6 := KB.cell 6
    clear K2 KA KB HS1 HS2
    rcases near with near | near
    · subst near; go_wp2_with fail; all_goals (go_ret; exact ⟨rfl, BX⟩)
    · have f1 : ((tak1 : Int) == (ack0 : Int)) = false := by simp; omega
      have f2 : IntKind.i64.wrap ((ack0 : Int) + 1) = (tak1 : Int) := by rw [IntWalk.i64_in _ (by omega)]; omega
      clear near
      go_wp2_with fail; all_goals (go_ret; exact ⟨rfl, BX⟩)
set_option maxRecDepth 100000 in
set_option maxHeartbeats 4000000 in
theorem orderly1_core (sn0 nesn0 : Int) (op0 em0 : Bool) (ack0 tak0 : Nat) (sn1 nesn1 : Int) (op1 em1 : Bool) (ack1 tak1 : Nat) (V0 V2 V5 : Value) (Aq Au Ag : Option Addr) (nq cq nu cu cg : Nat) (w : World)
    (hu : tak0 ≤ nu) (hk : ack1 ≤ nu) (hn : nu ≤ 1000) (hc : nu ≤ cu) (near : tak0 = ack1 ∨ tak0 = ack1 + 1)
    (HS1 : Hid (∀ X, Below w.heap.size w X → Calls Try.prog 41 #[.slice Ag tak0 cg, .slice Au tak0 cu] X fun e w' => e = .returned (.bool true) ∧ Below X.heap.size X w'))
    (HS2 : Hid (∀ X, Below w.heap.size w X → Calls Try.prog 41 #[.slice Aq nq cq, .slice (if cu = ack1 then Au else Au.map (·.add (ack1 * 2))) (nu - ack1) (cu - ack1)] X fun e w' => e = .returned (.bool true) ∧ Below X.heap.size X w'))
    (oV0 : V0.oneCell' = true) (oV2 : V2.oneCell' = true) (oV5 : V5.oneCell' = true) :
    Calls Try.prog 40 #[.agg #[.int .i64 sn0, .int .i64 nesn0, V0, .bool op0, .bool em0, .int .i64 (ack0 : Int), .int .i64 (tak0 : Int), .int .i64 sn1, .int .i64 nesn1, .slice Aq nq cq, .bool op1, .bool em1, .int .i64 (ack1 : Int), .int .i64 (tak1 : Int), V2, .slice Au nu cu, .slice Ag tak0 cg, V5], .int .i64 1] w fun e w' => e = .returned (.bool true) ∧ Below w.heap.size w w' := by
  have BX : Below w.heap.size w (w.alloc (.cells #[.int .i64 sn0, .int .i64 nesn0, V0, .bool op0, .bool em0, .int .i64 (ack0 : Int), .int .i64 (tak0 : Int), .int .i64 sn1, .int .i64 nesn1, .slice Aq nq cq, .bool op1, .bool em1, .int .i64 (ack1 : Int), .int .i64 (tak1 : Int), V2, .slice Au nu cu, .slice Ag tak0 cg, V5] 62)) := (Below.refl _ _).alloc (Nat.le_refl _) _
  have K2 : Blk (w.alloc (.cells #[.int .i64 sn0, .int .i64 nesn0, V0, .bool op0, .bool em0, .int .i64 (ack0 : Int), .int .i64 (tak0 : Int), .int .i64 sn1, .int .i64 nesn1, .slice Aq nq cq, .bool op1, .bool em1, .int .i64 (ack1 : Int), .int .i64 (tak1 : Int), V2, .slice Au nu cu, .slice Ag tak0 cg, V5] 62)) w.heap.size 62 #[.int .i64 sn0, .int .i64 nesn0, V0, .bool op0, .bool em0, .int .i64 (ack0 : Int), .int .i64 (tak0 : Int), .int .i64 sn1, .int .i64 nesn1, .slice Aq nq cq, .bool op1, .bool em1, .int .i64 (ack1 : Int), .int .i64 (tak1 : Int), V2, .slice Au nu cu, .slice Ag tak0 cg, V5] := Blk.fresh w 62 #[.int .i64 sn0, .int .i64 nesn0, V0, .bool op0, .bool em0, .int .i64 (ack0 : Int), .int .i64 (tak0 : Int), .int .i64 sn1, .int .i64 nesn1, .slice Aq nq cq, .bool op1, .bool em1, .int .i64 (ack1 : Int), .int .i64 (tak1 : Int), V2, .slice Au nu cu, .slice Ag tak0 cg, V5]
  have e00 : IntKind.i64.wrap 0 = 0 := by decide
  have e01 : IntKind.i64.wrap 1 = 1 := by decide
  have u1 : ¬ ((nu : Int) < (tak0 : Int)) := by omega
  have u2 : ¬ ((ack1 : Int) < 0) := by omega
  have u3 : ¬ ((nu : Int) < (ack1 : Int)) := by omega
  have u4 : (0 : Int) ≤ (tak0 : Int) ∧ (tak0 : Int) ≤ (cu : Int) := by omega
  have u5 : (0 : Int) ≤ (ack1 : Int) ∧ (ack1 : Int) ≤ (nu : Int) := by omega
  go_enter Try.func40, Try.ntmps40
  go_upto_region 1 with (fail)
  generalize w.alloc (.cells #[.int .i64 sn0, .int .i64 nesn0, V0, .bool op0, .bool em0, .int .i64 (ack0 : Int), .int .i64 (tak0 : Int), .int .i64 sn1, .int .i64 nesn1, .slice Aq nq cq, .bool op1, .bool em1, .int .i64 (ack1 : Int), .int .i64 (tak1 : Int), V2, .slice Au nu cu, .slice Ag tak0 cg, V5] 62) = W0 at *
  go_cut [5, 6] from 9 to 17 (fun s5 s6 wx => ∃ ga gb, s5 = .pointer (some ⟨ga, 0, none⟩) ∧ s6 = .pointer (some ⟨gb, 0, none⟩) ∧ Blk wx (w.heap.size) 62 #[.int .i64 sn0, .int .i64 nesn0, V0, .bool op0, .bool em0, .int .i64 (ack0 : Int), .int .i64 (tak0 : Int), .int .i64 sn1, .int .i64 nesn1, .slice Aq nq cq, .bool op1, .bool em1, .int .i64 (ack1 : Int), .int .i64 (tak1 : Int), V2, .slice Au nu cu, .slice Ag tak0 cg, V5] ∧ Blk wx ga 43 #[.int .i64 sn1, .int .i64 nesn1, .slice Aq nq cq, .bool op1, .bool em1, .int .i64 (ack1 : Int), .int .i64 (tak1 : Int)] ∧ Blk wx gb 43 #[.int .i64 sn0, .int .i64 nesn0, V0, .bool op0, .bool em0, .int .i64 (ack0 : Int), .int .i64 (tak0 : Int)] ∧ Below w.heap.size w wx)
  case first =>
    have K2' : Blk W0.drew (w.heap.size) 62 #[.int .i64 sn0, .int .i64 nesn0, V0, .bool op0, .bool em0, .int .i64 (ack0 : Int), .int .i64 (tak0 : Int), .int .i64 sn1, .int .i64 nesn1, .slice Aq nq cq, .bool op1, .bool em1, .int .i64 (ack1 : Int), .int .i64 (tak1 : Int), V2, .slice Au nu cu, .slice Ag tak0 cg, V5] := Mem.Blk.drew K2
    refine wp_region_held_drew (S := (fun w' => Blk w' (w.heap.size) 62 #[.int .i64 sn0, .int .i64 nesn0, V0, .bool op0, .bool em0, .int .i64 (ack0 : Int), .int .i64 (tak0 : Int), .int .i64 sn1, .int .i64 nesn1, .slice Aq nq cq, .bool op1, .bool em1, .int .i64 (ack1 : Int), .int .i64 (tak1 : Int), V2, .slice Au nu cu, .slice Ag tak0 cg, V5])) (by kernel_rfl) ?_ (fun hHeld => ?_)
    · exact K2'
    replace K2 := K2'
    clear K2'
    replace BX : Below w.heap.size w W0.drew := BX.drew
    generalize W0.drew = X0 at *
    refine wpAnyH_take (i := 0) (v := .int .i64 1) rfl (by kernel_rfl) (by kernel_rfl) (by kernel_rfl) (fun _ _ _ h => h) (Or.inl ⟨by first | rfl | go_simp, by intro w9 hSw; (try dsimp only at hSw); go_simp⟩) (by assumption) ?_
    simp only [List.getElem_toArray, List.getElem_cons_zero, List.getElem_cons_succ, Act.put, List.setIfInBounds_toArray, List.set_cons_zero, List.set_cons_succ]
    refine wpAnyH_take (i := 1) (v := .pointer (some ⟨w.heap.size, 0, none⟩)) rfl (by kernel_rfl) (by kernel_rfl) (by kernel_rfl) (fun _ _ _ h => h) (Or.inl ⟨by first | rfl | go_simp, by intro w9 hSw; (try dsimp only at hSw); go_simp⟩) (by assumption) ?_
    simp only [List.getElem_toArray, List.getElem_cons_zero, List.getElem_cons_succ, Act.put, List.setIfInBounds_toArray, List.set_cons_zero, List.set_cons_succ]
    refine wpAnyH_take (i := 2) (v := .pointer (some ⟨w.heap.size, 7, none⟩)) rfl (by kernel_rfl) (by kernel_rfl) (by kernel_rfl) (fun _ _ _ h => h) (Or.inl ⟨by first | rfl | go_simp, by intro w9 hSw; (try dsimp only at hSw); go_simp⟩) (by assumption) ?_
    simp only [List.getElem_toArray, List.getElem_cons_zero, List.getElem_cons_succ, Act.put, List.setIfInBounds_toArray, List.set_cons_zero, List.set_cons_succ]
    refine wpAnyH_take (i := 3) (v := .agg #[.int .i64 sn1, .int .i64 nesn1, .slice Aq nq cq, .bool op1, .bool em1, .int .i64 (ack1 : Int), .int .i64 (tak1 : Int)]) rfl (by kernel_rfl) (by kernel_rfl) (by kernel_rfl) (fun _ _ _ h => h) (Av.yields_part (by first | rfl | go_simp) _ _ rfl (w.heap.size) 7 rfl #[.int .i64 sn1, .int .i64 nesn1, .slice Aq nq cq, .bool op1, .bool em1, .int .i64 (ack1 : Int), .int .i64 (tak1 : Int)] _ 62 #[.int .i64 sn0, .int .i64 nesn0, V0, .bool op0, .bool em0, .int .i64 (ack0 : Int), .int .i64 (tak0 : Int), .int .i64 sn1, .int .i64 nesn1, .slice Aq nq cq, .bool op1, .bool em1, .int .i64 (ack1 : Int), .int .i64 (tak1 : Int), V2, .slice Au nu cu, .slice Ag tak0 cg, V5] (fun w9 hSw => hSw) rfl Try.underlying43 rfl (by kernel_rfl)) (by assumption) ?_
    simp only [List.getElem_toArray, List.getElem_cons_zero, List.getElem_cons_succ, Act.put, List.setIfInBounds_toArray, List.set_cons_zero, List.set_cons_succ]
    refine wpAnyH_take (i := 4) (v := .int .i64 1) rfl (by kernel_rfl) (by kernel_rfl) (by kernel_rfl) (fun _ _ _ h => h) (Or.inl ⟨by first | rfl | go_simp, by intro w9 hSw; (try dsimp only at hSw); go_simp⟩) (by assumption) ?_
    simp only [List.getElem_toArray, List.getElem_cons_zero, List.getElem_cons_succ, Act.put, List.setIfInBounds_toArray, List.set_cons_zero, List.set_cons_succ]
    refine wpAnyH_take (i := 5) (v := .int .i64 0) rfl (by kernel_rfl) (by kernel_rfl) (by kernel_rfl) (fun _ _ _ h => h) (Or.inl ⟨by first | rfl | go_simp, by intro w9 hSw; (try dsimp only at hSw); go_simp⟩) (by assumption) ?_
    simp only [List.getElem_toArray, List.getElem_cons_zero, List.getElem_cons_succ, Act.put, List.setIfInBounds_toArray, List.set_cons_zero, List.set_cons_succ]
    refine wpAnyH_take (i := 6) (v := .pointer (some ⟨w.heap.size, 0, none⟩)) rfl (by kernel_rfl) (by kernel_rfl) (by kernel_rfl) (fun _ _ _ h => h) (Or.inl ⟨by first | rfl | go_simp, by intro w9 hSw; (try dsimp only at hSw); go_simp⟩) (by assumption) ?_
    simp only [List.getElem_toArray, List.getElem_cons_zero, List.getElem_cons_succ, Act.put, List.setIfInBounds_toArray, List.set_cons_zero, List.set_cons_succ]
    refine wpAnyH_take (i := 7) (v := .pointer (some ⟨w.heap.size, 0, none⟩)) rfl (by kernel_rfl) (by kernel_rfl) (by kernel_rfl) (fun _ _ _ h => h) (Or.inl ⟨by first | rfl | go_simp, by intro w9 hSw; (try dsimp only at hSw); go_simp⟩) (by assumption) ?_
    simp only [List.getElem_toArray, List.getElem_cons_zero, List.getElem_cons_succ, Act.put, List.setIfInBounds_toArray, List.set_cons_zero, List.set_cons_succ]
    refine wpAnyH_take (i := 8) (v := .agg #[.int .i64 sn0, .int .i64 nesn0, V0, .bool op0, .bool em0, .int .i64 (ack0 : Int), .int .i64 (tak0 : Int)]) rfl (by kernel_rfl) (by kernel_rfl) (by kernel_rfl) (fun _ _ _ h => h) (Av.yields_part (by first | rfl | go_simp) _ _ rfl (w.heap.size) 0 rfl #[.int .i64 sn0, .int .i64 nesn0, V0, .bool op0, .bool em0, .int .i64 (ack0 : Int), .int .i64 (tak0 : Int)] _ 62 #[.int .i64 sn0, .int .i64 nesn0, V0, .bool op0, .bool em0, .int .i64 (ack0 : Int), .int .i64 (tak0 : Int), .int .i64 sn1, .int .i64 nesn1, .slice Aq nq cq, .bool op1, .bool em1, .int .i64 (ack1 : Int), .int .i64 (tak1 : Int), V2, .slice Au nu cu, .slice Ag tak0 cg, V5] (fun w9 hSw => hSw) rfl Try.underlying43 rfl (by kernel_rfl)) (by assumption) ?_
    simp only [List.getElem_toArray, List.getElem_cons_zero, List.getElem_cons_succ, Act.put, List.setIfInBounds_toArray, List.set_cons_zero, List.set_cons_succ]
    refine wpAnyH_ready (rs := [9, 10]) (by kernel_rfl) (by simp) ?_
    refine AllReadyH.cons rfl (fun K hK => ?_) (AllReadyH.cons rfl (fun K hK => ?_) (AllReadyH.nil))
    · skip
      go_simp
      have b9 := (Below.refl X0.heap.size X0).alloc (Nat.le_refl _) (.cells #[.int .i64 0, .int .i64 0, .slice none 0 0, .bool false, .bool false, .int .i64 0, .int .i64 0] 43)
      have KA := Blk.fresh X0 43 #[.int .i64 0, .int .i64 0, .slice none 0 0, .bool false, .bool false, .int .i64 0, .int .i64 0]
      have hxKA := K2.lt
      generalize X0.alloc (.cells #[.int .i64 0, .int .i64 0, .slice none 0 0, .bool false, .bool false, .int .i64 0, .int .i64 0] 43) = X1 at *
      replace K2 := K2.below b9 K2.lt
      replace BX := Base.thenB BX b9
      clear b9
      refine hK.out _ _ K2 (fun hHeld => ?_)
      clear hK K
      try simp only [List.getElem_toArray, List.getElem_cons_zero, List.getElem_cons_succ, Act.put, List.setIfInBounds_toArray, List.set_cons_zero, List.set_cons_succ]
      refine wpAnyH_ready (rs := [10]) (by kernel_rfl) (by simp) ?_
      refine AllReadyH.cons rfl (fun K hK => ?_) (AllReadyH.nil)
      go_simp
      have b9 := (Below.refl X1.heap.size X1).alloc (Nat.le_refl _) (.cells #[.int .i64 0, .int .i64 0, .slice none 0 0, .bool false, .bool false, .int .i64 0, .int .i64 0] 43)
      have KB := Blk.fresh X1 43 #[.int .i64 0, .int .i64 0, .slice none 0 0, .bool false, .bool false, .int .i64 0, .int .i64 0]
      have hxKB := K2.lt
      have hyKB := KA.lt
      generalize X1.alloc (.cells #[.int .i64 0, .int .i64 0, .slice none 0 0, .bool false, .bool false, .int .i64 0, .int .i64 0] 43) = X2 at *
      replace K2 := K2.below b9 K2.lt
      replace KA := KA.below b9 KA.lt
      replace BX := Base.thenB BX b9
      clear b9
      refine hK.out _ _ K2 (fun hHeld => ?_)
      clear hK K
      try simp only [List.getElem_toArray, List.getElem_cons_zero, List.getElem_cons_succ, Act.put, List.setIfInBounds_toArray, List.set_cons_zero, List.set_cons_succ]
      refine wpAnyH_ready (rs := [11]) (by kernel_rfl) (by simp) ?_
      refine AllReadyH.cons rfl (fun K hK => ?_) (AllReadyH.nil)
      have H9 : (#[.int .i64 sn1, .int .i64 nesn1, .slice Aq nq cq, .bool op1, .bool em1, .int .i64 (ack1 : Int), .int .i64 (tak1 : Int)] : Array Value).all (·.oneCell') = true := by rw [← Array.all_toList]; rfl
      refine Av.step_store_row rfl 43 (.tmp 5) (.tmp 12) rfl (X0.heap.size) #[.int .i64 sn1, .int .i64 nesn1, .slice Aq nq cq, .bool op1, .bool em1, .int .i64 (ack1 : Int), .int .i64 (tak1 : Int)] rfl rfl 43 _ KA (by kernel_rfl) rfl H9 ?_
      replace K2 : Blk (X2.setRow (X0.heap.size) #[.int .i64 sn1, .int .i64 nesn1, .slice Aq nq cq, .bool op1, .bool em1, .int .i64 (ack1 : Int), .int .i64 (tak1 : Int)]) (w.heap.size) 62 #[.int .i64 sn0, .int .i64 nesn0, V0, .bool op0, .bool em0, .int .i64 (ack0 : Int), .int .i64 (tak0 : Int), .int .i64 sn1, .int .i64 nesn1, .slice Aq nq cq, .bool op1, .bool em1, .int .i64 (ack1 : Int), .int .i64 (tak1 : Int), V2, .slice Au nu cu, .slice Ag tak0 cg, V5] := Av.bother_row K2 (by omega)
      replace KA : Blk (X2.setRow (X0.heap.size) #[.int .i64 sn1, .int .i64 nesn1, .slice Aq nq cq, .bool op1, .bool em1, .int .i64 (ack1 : Int), .int .i64 (tak1 : Int)]) (X0.heap.size) 43 #[.int .i64 sn1, .int .i64 nesn1, .slice Aq nq cq, .bool op1, .bool em1, .int .i64 (ack1 : Int), .int .i64 (tak1 : Int)] := Av.bset_row KA
      replace KB : Blk (X2.setRow (X0.heap.size) #[.int .i64 sn1, .int .i64 nesn1, .slice Aq nq cq, .bool op1, .bool em1, .int .i64 (ack1 : Int), .int .i64 (tak1 : Int)]) (X1.heap.size) 43 #[.int .i64 0, .int .i64 0, .slice none 0 0, .bool false, .bool false, .int .i64 0, .int .i64 0] := Av.bother_row KB (by omega)
      replace BX : Below w.heap.size w (X2.setRow (X0.heap.size) #[.int .i64 sn1, .int .i64 nesn1, .slice Aq nq cq, .bool op1, .bool em1, .int .i64 (ack1 : Int), .int .i64 (tak1 : Int)]) := below_setRow BX (by omega) _
      clear H9
      generalize X2.setRow (X0.heap.size) #[.int .i64 sn1, .int .i64 nesn1, .slice Aq nq cq, .bool op1, .bool em1, .int .i64 (ack1 : Int), .int .i64 (tak1 : Int)] = X3 at *
      refine hK.out _ _ K2 (fun hHeld => ?_)
      clear hK K
      try simp only [List.getElem_toArray, List.getElem_cons_zero, List.getElem_cons_succ, Act.put, List.setIfInBounds_toArray, List.set_cons_zero, List.set_cons_succ]
      refine wpAnyH_ready (rs := [12]) (by kernel_rfl) (by simp) ?_
      refine AllReadyH.cons rfl (fun K hK => ?_) (AllReadyH.nil)
      have H9 : (#[.int .i64 sn0, .int .i64 nesn0, V0, .bool op0, .bool em0, .int .i64 (ack0 : Int), .int .i64 (tak0 : Int)] : Array Value).all (·.oneCell') = true := by rw [← Array.all_toList]; simp only [List.all_cons, List.all_nil, oV0, Bool.and_true, Bool.and_self]; rfl
      refine Av.step_store_row rfl 43 (.tmp 6) (.tmp 17) rfl (X1.heap.size) #[.int .i64 sn0, .int .i64 nesn0, V0, .bool op0, .bool em0, .int .i64 (ack0 : Int), .int .i64 (tak0 : Int)] rfl rfl 43 _ KB (by kernel_rfl) rfl H9 ?_
      replace K2 : Blk (X3.setRow (X1.heap.size) #[.int .i64 sn0, .int .i64 nesn0, V0, .bool op0, .bool em0, .int .i64 (ack0 : Int), .int .i64 (tak0 : Int)]) (w.heap.size) 62 #[.int .i64 sn0, .int .i64 nesn0, V0, .bool op0, .bool em0, .int .i64 (ack0 : Int), .int .i64 (tak0 : Int), .int .i64 sn1, .int .i64 nesn1, .slice Aq nq cq, .bool op1, .bool em1, .int .i64 (ack1 : Int), .int .i64 (tak1 : Int), V2, .slice Au nu cu, .slice Ag tak0 cg, V5] := Av.bother_row K2 (by omega)
      replace KA : Blk (X3.setRow (X1.heap.size) #[.int .i64 sn0, .int .i64 nesn0, V0, .bool op0, .bool em0, .int .i64 (ack0 : Int), .int .i64 (tak0 : Int)]) (X0.heap.size) 43 #[.int .i64 sn1, .int .i64 nesn1, .slice Aq nq cq, .bool op1, .bool em1, .int .i64 (ack1 : Int), .int .i64 (tak1 : Int)] := Av.bother_row KA (by omega)
      replace KB : Blk (X3.setRow (X1.heap.size) #[.int .i64 sn0, .int .i64 nesn0, V0, .bool op0, .bool em0, .int .i64 (ack0 : Int), .int .i64 (tak0 : Int)]) (X1.heap.size) 43 #[.int .i64 sn0, .int .i64 nesn0, V0, .bool op0, .bool em0, .int .i64 (ack0 : Int), .int .i64 (tak0 : Int)] := Av.bset_row KB
      replace BX : Below w.heap.size w (X3.setRow (X1.heap.size) #[.int .i64 sn0, .int .i64 nesn0, V0, .bool op0, .bool em0, .int .i64 (ack0 : Int), .int .i64 (tak0 : Int)]) := below_setRow BX (by omega) _
      clear H9
      generalize X3.setRow (X1.heap.size) #[.int .i64 sn0, .int .i64 nesn0, V0, .bool op0, .bool em0, .int .i64 (ack0 : Int), .int .i64 (tak0 : Int)] = X4 at *
      refine hK.out _ _ K2 (fun hHeld => ?_)
      clear hK K
      try simp only [List.getElem_toArray, List.getElem_cons_zero, List.getElem_cons_succ, Act.put, List.setIfInBounds_toArray, List.set_cons_zero, List.set_cons_succ]
      refine wpAnyH_done (by kernel_rfl) ?_ _
      clear hHeld
      go_wp2_with fail
      go_meet
      exact ⟨X0.heap.size, X1.heap.size, rfl, rfl, K2, KA, KB, BX⟩
    · skip
      go_simp
      have b9 := (Below.refl X0.heap.size X0).alloc (Nat.le_refl _) (.cells #[.int .i64 0, .int .i64 0, .slice none 0 0, .bool false, .bool false, .int .i64 0, .int .i64 0] 43)
      have KB := Blk.fresh X0 43 #[.int .i64 0, .int .i64 0, .slice none 0 0, .bool false, .bool false, .int .i64 0, .int .i64 0]
      have hxKB := K2.lt
      generalize X0.alloc (.cells #[.int .i64 0, .int .i64 0, .slice none 0 0, .bool false, .bool false, .int .i64 0, .int .i64 0] 43) = X5 at *
      replace K2 := K2.below b9 K2.lt
      replace BX := Base.thenB BX b9
      clear b9
      refine hK.out _ _ K2 (fun hHeld => ?_)
      clear hK K
      try simp only [List.getElem_toArray, List.getElem_cons_zero, List.getElem_cons_succ, Act.put, List.setIfInBounds_toArray, List.set_cons_zero, List.set_cons_succ]
      refine wpAnyH_ready (rs := [9]) (by kernel_rfl) (by simp) ?_
      refine AllReadyH.cons rfl (fun K hK => ?_) (AllReadyH.nil)
      go_simp
      have b9 := (Below.refl X5.heap.size X5).alloc (Nat.le_refl _) (.cells #[.int .i64 0, .int .i64 0, .slice none 0 0, .bool false, .bool false, .int .i64 0, .int .i64 0] 43)
      have KA := Blk.fresh X5 43 #[.int .i64 0, .int .i64 0, .slice none 0 0, .bool false, .bool false, .int .i64 0, .int .i64 0]
      have hxKA := K2.lt
      have hyKA := KB.lt
      generalize X5.alloc (.cells #[.int .i64 0, .int .i64 0, .slice none 0 0, .bool false, .bool false, .int .i64 0, .int .i64 0] 43) = X6 at *
      replace K2 := K2.below b9 K2.lt
      replace KB := KB.below b9 KB.lt
      replace BX := Base.thenB BX b9
      clear b9
      refine hK.out _ _ K2 (fun hHeld => ?_)
      clear hK K
      try simp only [List.getElem_toArray, List.getElem_cons_zero, List.getElem_cons_succ, Act.put, List.setIfInBounds_toArray, List.set_cons_zero, List.set_cons_succ]
      refine wpAnyH_ready (rs := [11]) (by kernel_rfl) (by simp) ?_
      refine AllReadyH.cons rfl (fun K hK => ?_) (AllReadyH.nil)
      have H9 : (#[.int .i64 sn1, .int .i64 nesn1, .slice Aq nq cq, .bool op1, .bool em1, .int .i64 (ack1 : Int), .int .i64 (tak1 : Int)] : Array Value).all (·.oneCell') = true := by rw [← Array.all_toList]; rfl
      refine Av.step_store_row rfl 43 (.tmp 5) (.tmp 12) rfl (X5.heap.size) #[.int .i64 sn1, .int .i64 nesn1, .slice Aq nq cq, .bool op1, .bool em1, .int .i64 (ack1 : Int), .int .i64 (tak1 : Int)] rfl rfl 43 _ KA (by kernel_rfl) rfl H9 ?_
      replace K2 : Blk (X6.setRow (X5.heap.size) #[.int .i64 sn1, .int .i64 nesn1, .slice Aq nq cq, .bool op1, .bool em1, .int .i64 (ack1 : Int), .int .i64 (tak1 : Int)]) (w.heap.size) 62 #[.int .i64 sn0, .int .i64 nesn0, V0, .bool op0, .bool em0, .int .i64 (ack0 : Int), .int .i64 (tak0 : Int), .int .i64 sn1, .int .i64 nesn1, .slice Aq nq cq, .bool op1, .bool em1, .int .i64 (ack1 : Int), .int .i64 (tak1 : Int), V2, .slice Au nu cu, .slice Ag tak0 cg, V5] := Av.bother_row K2 (by omega)
      replace KB : Blk (X6.setRow (X5.heap.size) #[.int .i64 sn1, .int .i64 nesn1, .slice Aq nq cq, .bool op1, .bool em1, .int .i64 (ack1 : Int), .int .i64 (tak1 : Int)]) (X0.heap.size) 43 #[.int .i64 0, .int .i64 0, .slice none 0 0, .bool false, .bool false, .int .i64 0, .int .i64 0] := Av.bother_row KB (by omega)
      replace KA : Blk (X6.setRow (X5.heap.size) #[.int .i64 sn1, .int .i64 nesn1, .slice Aq nq cq, .bool op1, .bool em1, .int .i64 (ack1 : Int), .int .i64 (tak1 : Int)]) (X5.heap.size) 43 #[.int .i64 sn1, .int .i64 nesn1, .slice Aq nq cq, .bool op1, .bool em1, .int .i64 (ack1 : Int), .int .i64 (tak1 : Int)] := Av.bset_row KA
      replace BX : Below w.heap.size w (X6.setRow (X5.heap.size) #[.int .i64 sn1, .int .i64 nesn1, .slice Aq nq cq, .bool op1, .bool em1, .int .i64 (ack1 : Int), .int .i64 (tak1 : Int)]) := below_setRow BX (by omega) _
      clear H9
      generalize X6.setRow (X5.heap.size) #[.int .i64 sn1, .int .i64 nesn1, .slice Aq nq cq, .bool op1, .bool em1, .int .i64 (ack1 : Int), .int .i64 (tak1 : Int)] = X7 at *
      refine hK.out _ _ K2 (fun hHeld => ?_)
      clear hK K
      try simp only [List.getElem_toArray, List.getElem_cons_zero, List.getElem_cons_succ, Act.put, List.setIfInBounds_toArray, List.set_cons_zero, List.set_cons_succ]
      refine wpAnyH_ready (rs := [12]) (by kernel_rfl) (by simp) ?_
      refine AllReadyH.cons rfl (fun K hK => ?_) (AllReadyH.nil)
      have H9 : (#[.int .i64 sn0, .int .i64 nesn0, V0, .bool op0, .bool em0, .int .i64 (ack0 : Int), .int .i64 (tak0 : Int)] : Array Value).all (·.oneCell') = true := by rw [← Array.all_toList]; simp only [List.all_cons, List.all_nil, oV0, Bool.and_true, Bool.and_self]; rfl
      refine Av.step_store_row rfl 43 (.tmp 6) (.tmp 17) rfl (X0.heap.size) #[.int .i64 sn0, .int .i64 nesn0, V0, .bool op0, .bool em0, .int .i64 (ack0 : Int), .int .i64 (tak0 : Int)] rfl rfl 43 _ KB (by kernel_rfl) rfl H9 ?_
      replace K2 : Blk (X7.setRow (X0.heap.size) #[.int .i64 sn0, .int .i64 nesn0, V0, .bool op0, .bool em0, .int .i64 (ack0 : Int), .int .i64 (tak0 : Int)]) (w.heap.size) 62 #[.int .i64 sn0, .int .i64 nesn0, V0, .bool op0, .bool em0, .int .i64 (ack0 : Int), .int .i64 (tak0 : Int), .int .i64 sn1, .int .i64 nesn1, .slice Aq nq cq, .bool op1, .bool em1, .int .i64 (ack1 : Int), .int .i64 (tak1 : Int), V2, .slice Au nu cu, .slice Ag tak0 cg, V5] := Av.bother_row K2 (by omega)
      replace KB : Blk (X7.setRow (X0.heap.size) #[.int .i64 sn0, .int .i64 nesn0, V0, .bool op0, .bool em0, .int .i64 (ack0 : Int), .int .i64 (tak0 : Int)]) (X0.heap.size) 43 #[.int .i64 sn0, .int .i64 nesn0, V0, .bool op0, .bool em0, .int .i64 (ack0 : Int), .int .i64 (tak0 : Int)] := Av.bset_row KB
      replace KA : Blk (X7.setRow (X0.heap.size) #[.int .i64 sn0, .int .i64 nesn0, V0, .bool op0, .bool em0, .int .i64 (ack0 : Int), .int .i64 (tak0 : Int)]) (X5.heap.size) 43 #[.int .i64 sn1, .int .i64 nesn1, .slice Aq nq cq, .bool op1, .bool em1, .int .i64 (ack1 : Int), .int .i64 (tak1 : Int)] := Av.bother_row KA (by omega)
      replace BX : Below w.heap.size w (X7.setRow (X0.heap.size) #[.int .i64 sn0, .int .i64 nesn0, V0, .bool op0, .bool em0, .int .i64 (ack0 : Int), .int .i64 (tak0 : Int)]) := below_setRow BX (by omega) _
      clear H9
      generalize X7.setRow (X0.heap.size) #[.int .i64 sn0, .int .i64 nesn0, V0, .bool op0, .bool em0, .int .i64 (ack0 : Int), .int .i64 (tak0 : Int)] = X8 at *
      refine hK.out _ _ K2 (fun hHeld => ?_)
      clear hK K
      try simp only [List.getElem_toArray, List.getElem_cons_zero, List.getElem_cons_succ, Act.put, List.setIfInBounds_toArray, List.set_cons_zero, List.set_cons_succ]
      refine wpAnyH_done (by kernel_rfl) ?_ _
      clear hHeld
      go_wp2_with fail
      go_meet
      exact ⟨X5.heap.size, X0.heap.size, rfl, rfl, K2, KA, KB, BX⟩
  case rest =>
    obtain ⟨ga, gb, rfl, rfl, K2, KA, KB, BX⟩ := hcut
    go_upto_region 2 with (fail)
    have K2' : Blk wc.drew (w.heap.size) 62 #[.int .i64 sn0, .int .i64 nesn0, V0, .bool op0, .bool em0, .int .i64 (ack0 : Int), .int .i64 (tak0 : Int), .int .i64 sn1, .int .i64 nesn1, .slice Aq nq cq, .bool op1, .bool em1, .int .i64 (ack1 : Int), .int .i64 (tak1 : Int), V2, .slice Au nu cu, .slice Ag tak0 cg, V5] := Mem.Blk.drew K2
    have KA' : Blk wc.drew (ga) 43 #[.int .i64 sn1, .int .i64 nesn1, .slice Aq nq cq, .bool op1, .bool em1, .int .i64 (ack1 : Int), .int .i64 (tak1 : Int)] := Mem.Blk.drew KA
    have KB' : Blk wc.drew (gb) 43 #[.int .i64 sn0, .int .i64 nesn0, V0, .bool op0, .bool em0, .int .i64 (ack0 : Int), .int .i64 (tak0 : Int)] := Mem.Blk.drew KB
    refine wp_region_held_drew (S := (fun w' => Blk w' (w.heap.size) 62 #[.int .i64 sn0, .int .i64 nesn0, V0, .bool op0, .bool em0, .int .i64 (ack0 : Int), .int .i64 (tak0 : Int), .int .i64 sn1, .int .i64 nesn1, .slice Aq nq cq, .bool op1, .bool em1, .int .i64 (ack1 : Int), .int .i64 (tak1 : Int), V2, .slice Au nu cu, .slice Ag tak0 cg, V5])) (by kernel_rfl) ?_ (fun hHeld => ?_)
    · exact K2'
    replace K2 := K2'
    clear K2'
    replace KA := KA'
    clear KA'
    replace KB := KB'
    clear KB'
    replace BX : Below w.heap.size w wc.drew := BX.drew
    generalize wc.drew = X0 at *
    refine wpAnyH_take (i := 0) (v := .int .i64 1) rfl (by kernel_rfl) (by kernel_rfl) (by kernel_rfl) (fun _ _ _ h => h) (Or.inl ⟨by first | rfl | go_simp, by intro w9 hSw; (try dsimp only at hSw); go_simp⟩) (by assumption) ?_
    simp only [List.getElem_toArray, List.getElem_cons_zero, List.getElem_cons_succ, Act.put, List.setIfInBounds_toArray, List.set_cons_zero, List.set_cons_succ]
    refine wpAnyH_take (i := 1) (v := .pointer (some ⟨w.heap.size, 14, none⟩)) rfl (by kernel_rfl) (by kernel_rfl) (by kernel_rfl) (fun _ _ _ h => h) (Or.inl ⟨by first | rfl | go_simp, by intro w9 hSw; (try dsimp only at hSw); go_simp⟩) (by assumption) ?_
    simp only [List.getElem_toArray, List.getElem_cons_zero, List.getElem_cons_succ, Act.put, List.setIfInBounds_toArray, List.set_cons_zero, List.set_cons_succ]
    refine wpAnyH_take (i := 2) (v := .pointer (some ⟨w.heap.size, 15, none⟩)) rfl (by kernel_rfl) (by kernel_rfl) (by kernel_rfl) (fun _ _ _ h => h) (Or.inl ⟨by first | rfl | go_simp, by intro w9 hSw; (try dsimp only at hSw); go_simp⟩) (by assumption) ?_
    simp only [List.getElem_toArray, List.getElem_cons_zero, List.getElem_cons_succ, Act.put, List.setIfInBounds_toArray, List.set_cons_zero, List.set_cons_succ]
    refine wpAnyH_take (i := 3) (v := .slice Au nu cu) rfl (by kernel_rfl) (by kernel_rfl) (by kernel_rfl) (fun _ _ _ h => h) (Or.inl ⟨by first | rfl | go_simp, by intro w9 hSw; (try dsimp only at hSw); have c9 := hSw.cell 15; clear hSw; go_simp⟩) (by assumption) ?_
    simp only [List.getElem_toArray, List.getElem_cons_zero, List.getElem_cons_succ, Act.put, List.setIfInBounds_toArray, List.set_cons_zero, List.set_cons_succ]
    refine wpAnyH_take (i := 4) (v := .int .i64 1) rfl (by kernel_rfl) (by kernel_rfl) (by kernel_rfl) (fun _ _ _ h => h) (Or.inl ⟨by first | rfl | go_simp, by intro w9 hSw; (try dsimp only at hSw); go_simp⟩) (by assumption) ?_
    simp only [List.getElem_toArray, List.getElem_cons_zero, List.getElem_cons_succ, Act.put, List.setIfInBounds_toArray, List.set_cons_zero, List.set_cons_succ]
    refine wpAnyH_take (i := 5) (v := .int .i64 0) rfl (by kernel_rfl) (by kernel_rfl) (by kernel_rfl) (fun _ _ _ h => h) (Or.inl ⟨by first | rfl | go_simp, by intro w9 hSw; (try dsimp only at hSw); go_simp⟩) (by assumption) ?_
    simp only [List.getElem_toArray, List.getElem_cons_zero, List.getElem_cons_succ, Act.put, List.setIfInBounds_toArray, List.set_cons_zero, List.set_cons_succ]
    refine wpAnyH_take (i := 6) (v := .pointer (some ⟨w.heap.size, 16, none⟩)) rfl (by kernel_rfl) (by kernel_rfl) (by kernel_rfl) (fun _ _ _ h => h) (Or.inl ⟨by first | rfl | go_simp, by intro w9 hSw; (try dsimp only at hSw); go_simp⟩) (by assumption) ?_
    simp only [List.getElem_toArray, List.getElem_cons_zero, List.getElem_cons_succ, Act.put, List.setIfInBounds_toArray, List.set_cons_zero, List.set_cons_succ]
    refine wpAnyH_take (i := 7) (v := .pointer (some ⟨w.heap.size, 16, none⟩)) rfl (by kernel_rfl) (by kernel_rfl) (by kernel_rfl) (fun _ _ _ h => h) (Or.inl ⟨by first | rfl | go_simp, by intro w9 hSw; (try dsimp only at hSw); go_simp⟩) (by assumption) ?_
    simp only [List.getElem_toArray, List.getElem_cons_zero, List.getElem_cons_succ, Act.put, List.setIfInBounds_toArray, List.set_cons_zero, List.set_cons_succ]
    refine wpAnyH_take (i := 8) (v := .slice Ag tak0 cg) rfl (by kernel_rfl) (by kernel_rfl) (by kernel_rfl) (fun _ _ _ h => h) (Or.inl ⟨by first | rfl | go_simp, by intro w9 hSw; (try dsimp only at hSw); have c9 := hSw.cell 16; clear hSw; go_simp⟩) (by assumption) ?_
    simp only [List.getElem_toArray, List.getElem_cons_zero, List.getElem_cons_succ, Act.put, List.setIfInBounds_toArray, List.set_cons_zero, List.set_cons_succ]
    refine wpAnyH_take (i := 9) (v := .slice Au nu cu) rfl (by kernel_rfl) (by kernel_rfl) (by kernel_rfl) (fun _ _ _ h => h) (Or.inl ⟨by first | rfl | go_simp, by intro w9 hSw; (try dsimp only at hSw); go_simp⟩) (by assumption) ?_
    simp only [List.getElem_toArray, List.getElem_cons_zero, List.getElem_cons_succ, Act.put, List.setIfInBounds_toArray, List.set_cons_zero, List.set_cons_succ]
    refine wpAnyH_take (i := 10) (v := .slice Ag tak0 cg) rfl (by kernel_rfl) (by kernel_rfl) (by kernel_rfl) (fun _ _ _ h => h) (Or.inl ⟨by first | rfl | go_simp, by intro w9 hSw; (try dsimp only at hSw); go_simp⟩) (by assumption) ?_
    simp only [List.getElem_toArray, List.getElem_cons_zero, List.getElem_cons_succ, Act.put, List.setIfInBounds_toArray, List.set_cons_zero, List.set_cons_succ]
    refine wpAnyH_done (by kernel_rfl) ?_ _
    clear hHeld
    go_upto_region 3 with (fail)
    have K2' : Blk X0.drew (w.heap.size) 62 #[.int .i64 sn0, .int .i64 nesn0, V0, .bool op0, .bool em0, .int .i64 (ack0 : Int), .int .i64 (tak0 : Int), .int .i64 sn1, .int .i64 nesn1, .slice Aq nq cq, .bool op1, .bool em1, .int .i64 (ack1 : Int), .int .i64 (tak1 : Int), V2, .slice Au nu cu, .slice Ag tak0 cg, V5] := Mem.Blk.drew K2
    have KA' : Blk X0.drew (ga) 43 #[.int .i64 sn1, .int .i64 nesn1, .slice Aq nq cq, .bool op1, .bool em1, .int .i64 (ack1 : Int), .int .i64 (tak1 : Int)] := Mem.Blk.drew KA
    have KB' : Blk X0.drew (gb) 43 #[.int .i64 sn0, .int .i64 nesn0, V0, .bool op0, .bool em0, .int .i64 (ack0 : Int), .int .i64 (tak0 : Int)] := Mem.Blk.drew KB
    refine wp_region_held_drew (S := (fun w' => Blk w' (ga) 43 #[.int .i64 sn1, .int .i64 nesn1, .slice Aq nq cq, .bool op1, .bool em1, .int .i64 (ack1 : Int), .int .i64 (tak1 : Int)])) (by kernel_rfl) ?_ (fun hHeld => ?_)
    · exact KA'
    replace K2 := K2'
    clear K2'
    replace KA := KA'
    clear KA'
    replace KB := KB'
    clear KB'
    replace BX : Below w.heap.size w X0.drew := BX.drew
    generalize X0.drew = Y0 at *
    refine wpAnyH_take (i := 0) (v := .slice Ag tak0 cg) rfl (by kernel_rfl) (by kernel_rfl) (by kernel_rfl) (fun _ _ _ h => h) (Or.inl ⟨by first | rfl | go_simp, by intro w9 hSw; (try dsimp only at hSw); go_simp⟩) (by assumption) ?_
    simp only [List.getElem_toArray, List.getElem_cons_zero, List.getElem_cons_succ, Act.put, List.setIfInBounds_toArray, List.set_cons_zero, List.set_cons_succ]
    refine wpAnyH_take (i := 1) (v := .int .i64 (tak0 : Int)) rfl (by kernel_rfl) (by kernel_rfl) (by kernel_rfl) (fun _ _ _ h => h) (Or.inl ⟨by first | rfl | go_simp, by intro w9 hSw; (try dsimp only at hSw); go_simp⟩) (by assumption) ?_
    simp only [List.getElem_toArray, List.getElem_cons_zero, List.getElem_cons_succ, Act.put, List.setIfInBounds_toArray, List.set_cons_zero, List.set_cons_succ]
    refine wpAnyH_take (i := 2) (v := .slice Au nu cu) rfl (by kernel_rfl) (by kernel_rfl) (by kernel_rfl) (fun _ _ _ h => h) (Or.inl ⟨by first | rfl | go_simp, by intro w9 hSw; (try dsimp only at hSw); go_simp⟩) (by assumption) ?_
    simp only [List.getElem_toArray, List.getElem_cons_zero, List.getElem_cons_succ, Act.put, List.setIfInBounds_toArray, List.set_cons_zero, List.set_cons_succ]
    refine wpAnyH_take (i := 3) (v := .int .i64 (nu : Int)) rfl (by kernel_rfl) (by kernel_rfl) (by kernel_rfl) (fun _ _ _ h => h) (Or.inl ⟨by first | rfl | go_simp, by intro w9 hSw; (try dsimp only at hSw); go_simp⟩) (by assumption) ?_
    simp only [List.getElem_toArray, List.getElem_cons_zero, List.getElem_cons_succ, Act.put, List.setIfInBounds_toArray, List.set_cons_zero, List.set_cons_succ]
    refine wpAnyH_take (i := 4) (v := .bool false) rfl (by kernel_rfl) (by kernel_rfl) (by kernel_rfl) (fun _ _ _ h => h) (Or.inl ⟨by first | rfl | go_simp, by intro w9 hSw; (try dsimp only at hSw); go_simp⟩) (by assumption) ?_
    simp only [List.getElem_toArray, List.getElem_cons_zero, List.getElem_cons_succ, Act.put, List.setIfInBounds_toArray, List.set_cons_zero, List.set_cons_succ]
    refine wpAnyH_take (i := 5) (v := .bool false) rfl (by kernel_rfl) (by kernel_rfl) (by kernel_rfl) (fun _ _ _ h => h) (Or.inl ⟨by first | rfl | go_simp, by intro w9 hSw; (try dsimp only at hSw); go_simp⟩) (by assumption) ?_
    simp only [List.getElem_toArray, List.getElem_cons_zero, List.getElem_cons_succ, Act.put, List.setIfInBounds_toArray, List.set_cons_zero, List.set_cons_succ]
    refine wpAnyH_take (i := 6) (v := .pointer (some ⟨ga, 5, none⟩)) rfl (by kernel_rfl) (by kernel_rfl) (by kernel_rfl) (fun _ _ _ h => h) (Or.inl ⟨by first | rfl | go_simp, by intro w9 hSw; (try dsimp only at hSw); go_simp⟩) (by assumption) ?_
    simp only [List.getElem_toArray, List.getElem_cons_zero, List.getElem_cons_succ, Act.put, List.setIfInBounds_toArray, List.set_cons_zero, List.set_cons_succ]
    refine wpAnyH_take (i := 7) (v := .int .i64 (ack1 : Int)) rfl (by kernel_rfl) (by kernel_rfl) (by kernel_rfl) (fun _ _ _ h => h) (Or.inl ⟨by first | rfl | go_simp, by intro w9 hSw; (try dsimp only at hSw); have c9 := hSw.cell 5; clear hSw; go_simp⟩) (by assumption) ?_
    simp only [List.getElem_toArray, List.getElem_cons_zero, List.getElem_cons_succ, Act.put, List.setIfInBounds_toArray, List.set_cons_zero, List.set_cons_succ]
    refine wpAnyH_take (i := 8) (v := .bool false) rfl (by kernel_rfl) (by kernel_rfl) (by kernel_rfl) (fun _ _ _ h => h) (Or.inl ⟨by first | rfl | go_simp, by intro w9 hSw; (try dsimp only at hSw); go_simp⟩) (by assumption) ?_
    simp only [List.getElem_toArray, List.getElem_cons_zero, List.getElem_cons_succ, Act.put, List.setIfInBounds_toArray, List.set_cons_zero, List.set_cons_succ]
    refine wpAnyH_take (i := 9) (v := .bool false) rfl (by kernel_rfl) (by kernel_rfl) (by kernel_rfl) (fun _ _ _ h => h) (Or.inl ⟨by first | rfl | go_simp, by intro w9 hSw; (try dsimp only at hSw); go_simp⟩) (by assumption) ?_
    simp only [List.getElem_toArray, List.getElem_cons_zero, List.getElem_cons_succ, Act.put, List.setIfInBounds_toArray, List.set_cons_zero, List.set_cons_succ]
    refine wpAnyH_take (i := 10) (v := .bool false) rfl (by kernel_rfl) (by kernel_rfl) (by kernel_rfl) (fun _ _ _ h => h) (Or.inl ⟨by first | rfl | go_simp, by intro w9 hSw; (try dsimp only at hSw); go_simp⟩) (by assumption) ?_
    simp only [List.getElem_toArray, List.getElem_cons_zero, List.getElem_cons_succ, Act.put, List.setIfInBounds_toArray, List.set_cons_zero, List.set_cons_succ]
    refine wpAnyH_take (i := 11) (v := .pointer (some ⟨ga, 5, none⟩)) rfl (by kernel_rfl) (by kernel_rfl) (by kernel_rfl) (fun _ _ _ h => h) (Or.inl ⟨by first | rfl | go_simp, by intro w9 hSw; (try dsimp only at hSw); go_simp⟩) (by assumption) ?_
    simp only [List.getElem_toArray, List.getElem_cons_zero, List.getElem_cons_succ, Act.put, List.setIfInBounds_toArray, List.set_cons_zero, List.set_cons_succ]
    refine wpAnyH_take (i := 12) (v := .int .i64 (ack1 : Int)) rfl (by kernel_rfl) (by kernel_rfl) (by kernel_rfl) (fun _ _ _ h => h) (Or.inl ⟨by first | rfl | go_simp, by intro w9 hSw; (try dsimp only at hSw); have c9 := hSw.cell 5; clear hSw; go_simp⟩) (by assumption) ?_
    simp only [List.getElem_toArray, List.getElem_cons_zero, List.getElem_cons_succ, Act.put, List.setIfInBounds_toArray, List.set_cons_zero, List.set_cons_succ]
    refine wpAnyH_take (i := 13) (v := .slice Au nu cu) rfl (by kernel_rfl) (by kernel_rfl) (by kernel_rfl) (fun _ _ _ h => h) (Or.inl ⟨by first | rfl | go_simp, by intro w9 hSw; (try dsimp only at hSw); go_simp⟩) (by assumption) ?_
    simp only [List.getElem_toArray, List.getElem_cons_zero, List.getElem_cons_succ, Act.put, List.setIfInBounds_toArray, List.set_cons_zero, List.set_cons_succ]
    refine wpAnyH_take (i := 14) (v := .int .i64 (nu : Int)) rfl (by kernel_rfl) (by kernel_rfl) (by kernel_rfl) (fun _ _ _ h => h) (Or.inl ⟨by first | rfl | go_simp, by intro w9 hSw; (try dsimp only at hSw); go_simp⟩) (by assumption) ?_
    simp only [List.getElem_toArray, List.getElem_cons_zero, List.getElem_cons_succ, Act.put, List.setIfInBounds_toArray, List.set_cons_zero, List.set_cons_succ]
    refine wpAnyH_take (i := 15) (v := .bool false) rfl (by kernel_rfl) (by kernel_rfl) (by kernel_rfl) (fun _ _ _ h => h) (Or.inl ⟨by first | rfl | go_simp, by intro w9 hSw; (try dsimp only at hSw); go_simp⟩) (by assumption) ?_
    simp only [List.getElem_toArray, List.getElem_cons_zero, List.getElem_cons_succ, Act.put, List.setIfInBounds_toArray, List.set_cons_zero, List.set_cons_succ]
    refine wpAnyH_take (i := 16) (v := .bool false) rfl (by kernel_rfl) (by kernel_rfl) (by kernel_rfl) (fun _ _ _ h => h) (Or.inl ⟨by first | rfl | go_simp, by intro w9 hSw; (try dsimp only at hSw); go_simp⟩) (by assumption) ?_
    simp only [List.getElem_toArray, List.getElem_cons_zero, List.getElem_cons_succ, Act.put, List.setIfInBounds_toArray, List.set_cons_zero, List.set_cons_succ]
    refine wpAnyH_take (i := 17) (v := .bool false) rfl (by kernel_rfl) (by kernel_rfl) (by kernel_rfl) (fun _ _ _ h => h) (Or.inl ⟨by first | rfl | go_simp, by intro w9 hSw; (try dsimp only at hSw); go_simp⟩) (by assumption) ?_
    simp only [List.getElem_toArray, List.getElem_cons_zero, List.getElem_cons_succ, Act.put, List.setIfInBounds_toArray, List.set_cons_zero, List.set_cons_succ]
    refine wpAnyH_take (i := 18) (v := .slice Ag tak0 cg) rfl (by kernel_rfl) (by kernel_rfl) (by kernel_rfl) (fun _ _ _ h => h) (Or.inl ⟨by first | rfl | go_simp, by intro w9 hSw; (try dsimp only at hSw); go_simp⟩) (by assumption) ?_
    simp only [List.getElem_toArray, List.getElem_cons_zero, List.getElem_cons_succ, Act.put, List.setIfInBounds_toArray, List.set_cons_zero, List.set_cons_succ]
    refine wpAnyH_take (i := 19) (v := .slice Au nu cu) rfl (by kernel_rfl) (by kernel_rfl) (by kernel_rfl) (fun _ _ _ h => h) (Or.inl ⟨by first | rfl | go_simp, by intro w9 hSw; (try dsimp only at hSw); go_simp⟩) (by assumption) ?_
    simp only [List.getElem_toArray, List.getElem_cons_zero, List.getElem_cons_succ, Act.put, List.setIfInBounds_toArray, List.set_cons_zero, List.set_cons_succ]
    refine wpAnyH_take (i := 20) (v := .slice Ag tak0 cg) rfl (by kernel_rfl) (by kernel_rfl) (by kernel_rfl) (fun _ _ _ h => h) (Or.inl ⟨by first | rfl | go_simp, by intro w9 hSw; (try dsimp only at hSw); go_simp⟩) (by assumption) ?_
    simp only [List.getElem_toArray, List.getElem_cons_zero, List.getElem_cons_succ, Act.put, List.setIfInBounds_toArray, List.set_cons_zero, List.set_cons_succ]
    refine wpAnyH_take (i := 21) (v := .int .i64 (tak0 : Int)) rfl (by kernel_rfl) (by kernel_rfl) (by kernel_rfl) (fun _ _ _ h => h) (Or.inl ⟨by first | rfl | go_simp, by intro w9 hSw; (try dsimp only at hSw); go_simp⟩) (by assumption) ?_
    simp only [List.getElem_toArray, List.getElem_cons_zero, List.getElem_cons_succ, Act.put, List.setIfInBounds_toArray, List.set_cons_zero, List.set_cons_succ]
    refine wpAnyH_take (i := 22) (v := .slice Au tak0 cu) rfl (by kernel_rfl) (by kernel_rfl) (by kernel_rfl) (fun _ _ _ h => h) (Or.inl ⟨by first | rfl | go_simp, by intro w9 hSw; (try dsimp only at hSw); go_simp⟩) (by assumption) ?_
    simp only [List.getElem_toArray, List.getElem_cons_zero, List.getElem_cons_succ, Act.put, List.setIfInBounds_toArray, List.set_cons_zero, List.set_cons_succ]
    refine wpAnyH_ready (rs := [23]) (by kernel_rfl) (by simp) ?_
    refine AllReadyH.cons rfl (fun K hK => ?_) (AllReadyH.nil)
    go_simp
    refine (HS1.out Y0 BX).mono ?_
    rintro e Y1 ⟨rfl, b9⟩
    replace K2 := K2.below b9 K2.lt
    replace KA := KA.below b9 KA.lt
    replace KB := KB.below b9 KB.lt
    replace BX := Base.thenB BX b9
    clear b9
    refine hK.out _ _ KA (fun hHeld => ?_)
    clear hK K
    try simp only [List.getElem_toArray, List.getElem_cons_zero, List.getElem_cons_succ, Act.put, List.setIfInBounds_toArray, List.set_cons_zero, List.set_cons_succ]
    refine wpAnyH_take (i := 24) (v := .bool false) rfl (by kernel_rfl) (by kernel_rfl) (by kernel_rfl) (fun _ _ _ h => h) (Or.inl ⟨by first | rfl | go_simp, by intro w9 hSw; (try dsimp only at hSw); go_simp⟩) (by assumption) ?_
    simp only [List.getElem_toArray, List.getElem_cons_zero, List.getElem_cons_succ, Act.put, List.setIfInBounds_toArray, List.set_cons_zero, List.set_cons_succ]
    refine wpAnyH_take (i := 25) (v := .bool false) rfl (by kernel_rfl) (by kernel_rfl) (by kernel_rfl) (fun _ _ _ h => h) (Or.inl ⟨by first | rfl | go_simp, by intro w9 hSw; (try dsimp only at hSw); go_simp⟩) (by assumption) ?_
    simp only [List.getElem_toArray, List.getElem_cons_zero, List.getElem_cons_succ, Act.put, List.setIfInBounds_toArray, List.set_cons_zero, List.set_cons_succ]
    refine wpAnyH_take (i := 26) (v := .bool false) rfl (by kernel_rfl) (by kernel_rfl) (by kernel_rfl) (fun _ _ _ h => h) (Or.inl ⟨by first | rfl | go_simp, by intro w9 hSw; (try dsimp only at hSw); go_simp⟩) (by assumption) ?_
    simp only [List.getElem_toArray, List.getElem_cons_zero, List.getElem_cons_succ, Act.put, List.setIfInBounds_toArray, List.set_cons_zero, List.set_cons_succ]
    refine wpAnyH_take (i := 27) (v := .pointer (some ⟨ga, 2, none⟩)) rfl (by kernel_rfl) (by kernel_rfl) (by kernel_rfl) (fun _ _ _ h => h) (Or.inl ⟨by first | rfl | go_simp, by intro w9 hSw; (try dsimp only at hSw); go_simp⟩) (by assumption) ?_
    simp only [List.getElem_toArray, List.getElem_cons_zero, List.getElem_cons_succ, Act.put, List.setIfInBounds_toArray, List.set_cons_zero, List.set_cons_succ]
    refine wpAnyH_take (i := 28) (v := .slice Aq nq cq) rfl (by kernel_rfl) (by kernel_rfl) (by kernel_rfl) (fun _ _ _ h => h) (Or.inl ⟨by first | rfl | go_simp, by intro w9 hSw; (try dsimp only at hSw); have c9 := hSw.cell 2; clear hSw; go_simp⟩) (by assumption) ?_
    simp only [List.getElem_toArray, List.getElem_cons_zero, List.getElem_cons_succ, Act.put, List.setIfInBounds_toArray, List.set_cons_zero, List.set_cons_succ]
    refine wpAnyH_take (i := 29) (v := .slice Au nu cu) rfl (by kernel_rfl) (by kernel_rfl) (by kernel_rfl) (fun _ _ _ h => h) (Or.inl ⟨by first | rfl | go_simp, by intro w9 hSw; (try dsimp only at hSw); go_simp⟩) (by assumption) ?_
    simp only [List.getElem_toArray, List.getElem_cons_zero, List.getElem_cons_succ, Act.put, List.setIfInBounds_toArray, List.set_cons_zero, List.set_cons_succ]
    refine wpAnyH_take (i := 30) (v := .pointer (some ⟨ga, 5, none⟩)) rfl (by kernel_rfl) (by kernel_rfl) (by kernel_rfl) (fun _ _ _ h => h) (Or.inl ⟨by first | rfl | go_simp, by intro w9 hSw; (try dsimp only at hSw); go_simp⟩) (by assumption) ?_
    simp only [List.getElem_toArray, List.getElem_cons_zero, List.getElem_cons_succ, Act.put, List.setIfInBounds_toArray, List.set_cons_zero, List.set_cons_succ]
    refine wpAnyH_take (i := 31) (v := .int .i64 (ack1 : Int)) rfl (by kernel_rfl) (by kernel_rfl) (by kernel_rfl) (fun _ _ _ h => h) (Or.inl ⟨by first | rfl | go_simp, by intro w9 hSw; (try dsimp only at hSw); have c9 := hSw.cell 5; clear hSw; go_simp⟩) (by assumption) ?_
    simp only [List.getElem_toArray, List.getElem_cons_zero, List.getElem_cons_succ, Act.put, List.setIfInBounds_toArray, List.set_cons_zero, List.set_cons_succ]
    refine wpAnyH_take (i := 32) (v := .slice (if cu = ack1 then Au else Au.map (·.add (ack1 * 2))) (nu - ack1) (cu - ack1)) rfl (by kernel_rfl) (by kernel_rfl) (by kernel_rfl) (fun _ _ _ h => h) (Or.inl ⟨by first | rfl | go_simp, by intro w9 hSw; (try dsimp only at hSw); go_simp⟩) (by assumption) ?_
    simp only [List.getElem_toArray, List.getElem_cons_zero, List.getElem_cons_succ, Act.put, List.setIfInBounds_toArray, List.set_cons_zero, List.set_cons_succ]
    refine wpAnyH_ready (rs := [33]) (by kernel_rfl) (by simp) ?_
    refine AllReadyH.cons rfl (fun K hK => ?_) (AllReadyH.nil)
    go_simp
    refine (HS2.out Y1 BX).mono ?_
    rintro e Y2 ⟨rfl, b9⟩
    replace K2 := K2.below b9 K2.lt
    replace KA := KA.below b9 KA.lt
    replace KB := KB.below b9 KB.lt
    replace BX := Base.thenB BX b9
    clear b9
    refine hK.out _ _ KA (fun hHeld => ?_)
    clear hK K
    try simp only [List.getElem_toArray, List.getElem_cons_zero, List.getElem_cons_succ, Act.put, List.setIfInBounds_toArray, List.set_cons_zero, List.set_cons_succ]
    refine wpAnyH_take (i := 34) (v := .bool false) rfl (by kernel_rfl) (by kernel_rfl) (by kernel_rfl) (fun _ _ _ h => h) (Or.inl ⟨by first | rfl | go_simp, by intro w9 hSw; (try dsimp only at hSw); go_simp⟩) (by assumption) ?_
    simp only [List.getElem_toArray, List.getElem_cons_zero, List.getElem_cons_succ, Act.put, List.setIfInBounds_toArray, List.set_cons_zero, List.set_cons_succ]
    refine wpAnyH_take (i := 35) (v := .bool false) rfl (by kernel_rfl) (by kernel_rfl) (by kernel_rfl) (fun _ _ _ h => h) (Or.inl ⟨by first | rfl | go_simp, by intro w9 hSw; (try dsimp only at hSw); go_simp⟩) (by assumption) ?_
    simp only [List.getElem_toArray, List.getElem_cons_zero, List.getElem_cons_succ, Act.put, List.setIfInBounds_toArray, List.set_cons_zero, List.set_cons_succ]
    refine wpAnyH_done (by kernel_rfl) ?_ _
    clear hHeld
    have k5 := KA.cell 5
    have k6 := KB.cell 6
    clear K2 KA KB HS1 HS2
    rcases near with near | near
    · subst near; go_wp2_with fail; all_goals (go_ret; exact ⟨rfl, BX⟩)
    · have f1 : ((tak0 : Int) == (ack1 : Int)) = false := by simp; omega
      have f2 : IntKind.i64.wrap ((ack1 : Int) + 1) = (tak0 : Int) := by rw [IntWalk.i64_in _ (by omega)]; omega
      clear near
      go_wp2_with fail; all_goals (go_ret; exact ⟨rfl, BX⟩)
end Go.Proofs.Ytbnfjielnamepaa.Arq
