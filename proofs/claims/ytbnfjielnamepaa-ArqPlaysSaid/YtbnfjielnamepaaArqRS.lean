/- Acknowledgement: what a side sends, by the document: contracts over the document. -/
import Derived.Test.YtbnfjielnamepaaArqRQ
import Derived.Test.YtbnfjielnamepaaArqAck
import Derived.Deep.CutRange
set_option linter.unusedVariables false
set_option linter.unusedSimpArgs false
namespace Go.Proofs.Ytbnfjielnamepaa.Arq
open Go.RowKit Mem Oct Rw Av Dp
open Base (thenB)

/-- The document's side sent: the side, the PDU. -/
def RSent (w w' : World) (e : Ending) (s : Sd) (V : Value) (o : Nat) : Prop := ∃ x, e = .returned (.tuple #[.agg (acel (openR s) V), .agg #[.int .i64 (pduR (openR s)).sn, .int .i64 (pduR (openR s)).nesn, .int .i64 (pduR (openR s)).md, .int .i64 x.k, .slice x.A x.v.length x.c]]) ∧ x.p = (pduR (openR s)).pk ∧ PP w' o x ∧ Below w.heap.size w w'
open List (getElem_toArray getElem_cons_zero getElem_cons_succ setIfInBounds_toArray set_cons_zero set_cons_succ)
set_option maxRecDepth 100000 in
set_option maxHeartbeats 4000000 in
theorem rsend_tt0 (sn nesn : Int) (ack tak : Nat) (A : Option Addr) (c : Nat) (o : Nat) (w : World) (ho : o ≤ w.heap.size)  :
   Calls Try.prog 31 #[.agg #[.int .i64 sn, .int .i64 nesn, .slice A 0 c, .bool true, .bool true, .int .i64 ack, .int .i64 tak]] w fun e w' => RSent w w' e ⟨sn, nesn, [], true, true, ack, tak⟩ (.slice A 0 c) o := by
 have BX : Below w.heap.size w (((w.alloc (.cells #[.int .i64 sn, .int .i64 nesn, .slice A 0 c, .bool true, .bool true, .int .i64 ack, .int .i64 tak] 43)).alloc (.cells #[.int .i64 0, .int .i64 0, .slice none 0 0, .bool false, .bool false, .int .i64 0, .int .i64 0] 43)).alloc (.cells #[.int .i64 0, .int .i64 0, .int .i64 0, .int .i64 0, .slice none 0 0] 26)) := (((Below.refl _ _).alloc (Nat.le_refl _) _).alloc (by simp) _).alloc (by simp; omega) _
 have K1 : Blk (((w.alloc (.cells #[.int .i64 sn, .int .i64 nesn, .slice A 0 c, .bool true, .bool true, .int .i64 ack, .int .i64 tak] 43)).alloc (.cells #[.int .i64 0, .int .i64 0, .slice none 0 0, .bool false, .bool false, .int .i64 0, .int .i64 0] 43)).alloc (.cells #[.int .i64 0, .int .i64 0, .int .i64 0, .int .i64 0, .slice none 0 0] 26)) w.heap.size 43 #[.int .i64 sn, .int .i64 nesn, .slice A 0 c, .bool true, .bool true, .int .i64 ack, .int .i64 tak] := ((Blk.fresh w 43 #[.int .i64 sn, .int .i64 nesn, .slice A 0 c, .bool true, .bool true, .int .i64 ack, .int .i64 tak]).alloc _).alloc _
 have K2 : Blk (((w.alloc (.cells #[.int .i64 sn, .int .i64 nesn, .slice A 0 c, .bool true, .bool true, .int .i64 ack, .int .i64 tak] 43)).alloc (.cells #[.int .i64 0, .int .i64 0, .slice none 0 0, .bool false, .bool false, .int .i64 0, .int .i64 0] 43)).alloc (.cells #[.int .i64 0, .int .i64 0, .int .i64 0, .int .i64 0, .slice none 0 0] 26)) (w.heap.size + 1) 43 #[.int .i64 0, .int .i64 0, .slice none 0 0, .bool false, .bool false, .int .i64 0, .int .i64 0] := (Av.Blk.next).alloc _
 have K3 : Blk (((w.alloc (.cells #[.int .i64 sn, .int .i64 nesn, .slice A 0 c, .bool true, .bool true, .int .i64 ack, .int .i64 tak] 43)).alloc (.cells #[.int .i64 0, .int .i64 0, .slice none 0 0, .bool false, .bool false, .int .i64 0, .int .i64 0] 43)).alloc (.cells #[.int .i64 0, .int .i64 0, .int .i64 0, .int .i64 0, .slice none 0 0] 26)) (w.heap.size + 2) 26 #[.int .i64 0, .int .i64 0, .int .i64 0, .int .i64 0, .slice none 0 0] := by
     have := Blk.fresh ((w.alloc (.cells #[.int .i64 sn, .int .i64 nesn, .slice A 0 c, .bool true, .bool true, .int .i64 ack, .int .i64 tak] 43)).alloc (.cells #[.int .i64 0, .int .i64 0, .slice none 0 0, .bool false, .bool false, .int .i64 0, .int .i64 0] 43)) 26 #[.int .i64 0, .int .i64 0, .int .i64 0, .int .i64 0, .slice none 0 0]
     simpa using this
 have HO : Hid (openR ⟨sn, nesn, [], true, true, ack, tak⟩ = ⟨sn, nesn, [], true, true, ack, tak⟩ ∧ Pm.p ⟨1, none, 0, []⟩ = (pduR (openR ⟨sn, nesn, [], true, true, ack, tak⟩)).pk) := Lib.hid ⟨rfl, by simp [openR, pduR]; rfl⟩
 have hmd : (pduR ⟨sn, nesn, [], true, true, ack, tak⟩).md = 0 := by simp [pduR]
 have gz : (((0 : Nat) : Int) == 0) = true := rfl
 have g1 : ¬ (0 : Int) < 0 := by omega
 have g8 : ¬ ((0 : Int) < ((0 : Nat) : Int)) := by omega
 skip
 go_enter Try.func31, Try.ntmps31
 go_upto_region 1 with (fail)
 generalize ((w.alloc (.cells #[.int .i64 sn, .int .i64 nesn, .slice A 0 c, .bool true, .bool true, .int .i64 ack, .int .i64 tak] 43)).alloc (.cells #[.int .i64 0, .int .i64 0, .slice none 0 0, .bool false, .bool false, .int .i64 0, .int .i64 0] 43)).alloc (.cells #[.int .i64 0, .int .i64 0, .int .i64 0, .int .i64 0, .slice none 0 0] 26) = W2 at *
 have p3 := K1.cell 3
 have p2 := K1.cell 2
 have hs3 := K3.lt
 go_upto_region 4 with (fail)
 clear p3 p2
 clear gz
 have HB := Lib.hid rblankpk_any
 go_cut [4] from 15 to 20 (fun s4 wx => ∃ g6, s4 = .pointer (some ⟨g6, 0, none⟩) ∧ w.heap.size + 3 ≤ g6 ∧ Blk wx g6 26 #[.int .i64 sn, .int .i64 nesn, .int .i64 0, .int .i64 1, .slice none 0 0] ∧ Blk wx (w.heap.size) 43 #[.int .i64 sn, .int .i64 nesn, .slice A 0 c, .bool true, .bool true, .int .i64 ack, .int .i64 tak] ∧ Blk wx (w.heap.size + 1) 43 #[.int .i64 0, .int .i64 0, .slice none 0 0, .bool false, .bool false, .int .i64 0, .int .i64 0] ∧ Blk wx (w.heap.size + 2) 26 #[.int .i64 0, .int .i64 0, .int .i64 0, .int .i64 0, .slice none 0 0] ∧ Below w.heap.size w wx)
 case first =>
  have K1' : Blk W2.drew (w.heap.size) 43 #[.int .i64 sn, .int .i64 nesn, .slice A 0 c, .bool true, .bool true, .int .i64 ack, .int .i64 tak] := Mem.Blk.drew K1
  have K2' : Blk W2.drew (w.heap.size + 1) 43 #[.int .i64 0, .int .i64 0, .slice none 0 0, .bool false, .bool false, .int .i64 0, .int .i64 0] := Mem.Blk.drew K2
  have K3' : Blk W2.drew (w.heap.size + 2) 26 #[.int .i64 0, .int .i64 0, .int .i64 0, .int .i64 0, .slice none 0 0] := Mem.Blk.drew K3
  refine wp_region_held_drew (S := (fun w' => Blk w' (w.heap.size) 43 #[.int .i64 sn, .int .i64 nesn, .slice A 0 c, .bool true, .bool true, .int .i64 ack, .int .i64 tak])) (by kernel_rfl) ?_ (fun hHeld => ?_)
  ·
    exact K1'
  replace K1 := K1'
  clear K1'
  replace K2 := K2'
  clear K2'
  replace K3 := K3'
  clear K3'
  replace BX : Below w.heap.size w W2.drew := BX.drew
  generalize W2.drew = X0 at *
  refine wpAnyH_take (i := 0) (v := .pointer (some ⟨w.heap.size, 0, none⟩)) rfl (by kernel_rfl) (by kernel_rfl) (by kernel_rfl) (fun _ _ _ h => h) (.inl ⟨by first | rfl | go_simp, by intro u h; (try dsimp only at h); go_simp⟩) ‹_› ?_
  simp only [getElem_toArray, getElem_cons_zero, getElem_cons_succ, Act.put, setIfInBounds_toArray, set_cons_zero, set_cons_succ]
  refine wpAnyH_take (i := 1) (v := .int .i64 sn) rfl (by kernel_rfl) (by kernel_rfl) (by kernel_rfl) (fun _ _ _ h => h) (Or.inl ⟨by first | rfl | go_simp, by intro w9 hSw; (try dsimp only at hSw); have c9 := hSw.cell 0; clear hSw; go_simp⟩) ‹_› ?_
  simp only [getElem_toArray, getElem_cons_zero, getElem_cons_succ, Act.put, setIfInBounds_toArray, set_cons_zero, set_cons_succ]
  refine wpAnyH_take (i := 2) (v := .pointer (some ⟨w.heap.size, 1, none⟩)) rfl (by kernel_rfl) (by kernel_rfl) (by kernel_rfl) (fun _ _ _ h => h) (.inl ⟨by first | rfl | go_simp, by intro u h; (try dsimp only at h); go_simp⟩) ‹_› ?_
  simp only [getElem_toArray, getElem_cons_zero, getElem_cons_succ, Act.put, setIfInBounds_toArray, set_cons_zero, set_cons_succ]
  refine wpAnyH_take (i := 3) (v := .int .i64 nesn) rfl (by kernel_rfl) (by kernel_rfl) (by kernel_rfl) (fun _ _ _ h => h) (Or.inl ⟨by first | rfl | go_simp, by intro w9 hSw; (try dsimp only at hSw); have c9 := hSw.cell 1; clear hSw; go_simp⟩) ‹_› ?_
  simp only [getElem_toArray, getElem_cons_zero, getElem_cons_succ, Act.put, setIfInBounds_toArray, set_cons_zero, set_cons_succ]
  refine wpAnyH_ready (rs := [4, 6]) (by kernel_rfl) (by simp) ?_
  refine AllReadyH.cons rfl (fun K hK => ?_) (AllReadyH.cons rfl (fun K hK => ?_) (AllReadyH.nil))
  ·
    go_simp
    refine (HB.out X0).mono ?_
    rintro e X1 ⟨rfl, b9⟩
    replace K1 := K1.below b9 K1.lt
    replace K2 := K2.below b9 K2.lt
    replace K3 := K3.below b9 K3.lt
    replace BX := thenB BX b9
    clear b9
    refine hK.out _ _ K1 (fun hHeld => ?_)
    clear hK K
    try simp only [getElem_toArray, getElem_cons_zero, getElem_cons_succ, Act.put, setIfInBounds_toArray, set_cons_zero, set_cons_succ]
    refine wpAnyH_take (i := 5) (v := .agg #[.int .i64 sn, .int .i64 nesn, .int .i64 0, .int .i64 1, .slice none 0 0]) rfl (by kernel_rfl) (by kernel_rfl) (by kernel_rfl) (fun _ _ _ h => h) (.inl ⟨by first | rfl | go_simp, by intro u h; (try dsimp only at h); go_simp⟩) ‹_› ?_
    simp only [getElem_toArray, getElem_cons_zero, getElem_cons_succ, Act.put, setIfInBounds_toArray, set_cons_zero, set_cons_succ]
    refine wpAnyH_ready (rs := [6]) (by kernel_rfl) (by simp) ?_
    refine .cons rfl (fun K hK => ?_) .nil
    go_simp
    have b9 := (Below.refl X1.heap.size X1).alloc (Nat.le_refl _) (.cells #[.int .i64 0, .int .i64 0, .int .i64 0, .int .i64 0, .slice none 0 0] 26)
    have K6 : Blk (X1.alloc (.cells #[.int .i64 0, .int .i64 0, .int .i64 0, .int .i64 0, .slice none 0 0] 26)) X1.heap.size 26 #[.int .i64 0, .int .i64 0, .int .i64 0, .int .i64 0, .slice none 0 0] := Blk.fresh X1 26 #[.int .i64 0, .int .i64 0, .int .i64 0, .int .i64 0, .slice none 0 0]
    have hx6 : w.heap.size + 3 ≤ X1.heap.size := by have := K3.lt; omega
    replace K1 := K1.below b9 K1.lt
    replace K2 := K2.below b9 K2.lt
    replace K3 := K3.below b9 K3.lt
    replace BX := thenB BX b9
    clear b9
    generalize X1.alloc (.cells #[.int .i64 0, .int .i64 0, .int .i64 0, .int .i64 0, .slice none 0 0] 26) = X2 at *
    refine hK.out _ _ K1 (fun hHeld => ?_)
    clear hK K
    try simp only [getElem_toArray, getElem_cons_zero, getElem_cons_succ, Act.put, setIfInBounds_toArray, set_cons_zero, set_cons_succ]
    refine wpAnyH_ready (rs := [7]) (by kernel_rfl) (by simp) ?_
    refine .cons rfl (fun K hK => ?_) .nil
    have H9 : (#[.int .i64 sn, .int .i64 nesn, .int .i64 0, .int .i64 1, .slice none 0 0] : Array Value).all (·.oneCell') = true := by rw [← Array.all_toList]; rfl
    refine Av.step_store_row rfl 26 (.tmp 4) (.tmp 20) rfl (X1.heap.size) #[.int .i64 sn, .int .i64 nesn, .int .i64 0, .int .i64 1, .slice none 0 0] rfl rfl 26 _ K6 (by kernel_rfl) rfl H9 ?_
    replace K1 : Blk (X2.setRow (X1.heap.size) #[.int .i64 sn, .int .i64 nesn, .int .i64 0, .int .i64 1, .slice none 0 0]) (w.heap.size) 43 #[.int .i64 sn, .int .i64 nesn, .slice A 0 c, .bool true, .bool true, .int .i64 ack, .int .i64 tak] := Av.bother_row K1 (by omega)
    replace K2 : Blk (X2.setRow (X1.heap.size) #[.int .i64 sn, .int .i64 nesn, .int .i64 0, .int .i64 1, .slice none 0 0]) (w.heap.size + 1) 43 #[.int .i64 0, .int .i64 0, .slice none 0 0, .bool false, .bool false, .int .i64 0, .int .i64 0] := Av.bother_row K2 (by omega)
    replace K3 : Blk (X2.setRow (X1.heap.size) #[.int .i64 sn, .int .i64 nesn, .int .i64 0, .int .i64 1, .slice none 0 0]) (w.heap.size + 2) 26 #[.int .i64 0, .int .i64 0, .int .i64 0, .int .i64 0, .slice none 0 0] := Av.bother_row K3 (by omega)
    replace K6 : Blk (X2.setRow (X1.heap.size) #[.int .i64 sn, .int .i64 nesn, .int .i64 0, .int .i64 1, .slice none 0 0]) (X1.heap.size) 26 #[.int .i64 sn, .int .i64 nesn, .int .i64 0, .int .i64 1, .slice none 0 0] := Av.bset_row K6
    replace BX : Below w.heap.size w (X2.setRow (X1.heap.size) #[.int .i64 sn, .int .i64 nesn, .int .i64 0, .int .i64 1, .slice none 0 0]) := below_setRow BX (by omega) _
    clear H9
    generalize X2.setRow (X1.heap.size) #[.int .i64 sn, .int .i64 nesn, .int .i64 0, .int .i64 1, .slice none 0 0] = X3 at *
    refine hK.out _ _ K1 (fun hHeld => ?_)
    clear hK K
    try simp only [getElem_toArray, getElem_cons_zero, getElem_cons_succ, Act.put, setIfInBounds_toArray, set_cons_zero, set_cons_succ]
    refine wpAnyH_done (by kernel_rfl) ?_ _
    clear hHeld
    go_wp2_with fail
    go_meet
    exact ⟨X1.heap.size, rfl, hx6, K6, K1, K2, K3, BX⟩
  ·
    go_simp
    have b9 := (Below.refl X0.heap.size X0).alloc (Nat.le_refl _) (.cells #[.int .i64 0, .int .i64 0, .int .i64 0, .int .i64 0, .slice none 0 0] 26)
    have K6 : Blk (X0.alloc (.cells #[.int .i64 0, .int .i64 0, .int .i64 0, .int .i64 0, .slice none 0 0] 26)) X0.heap.size 26 #[.int .i64 0, .int .i64 0, .int .i64 0, .int .i64 0, .slice none 0 0] := Blk.fresh X0 26 #[.int .i64 0, .int .i64 0, .int .i64 0, .int .i64 0, .slice none 0 0]
    have hx6 : w.heap.size + 3 ≤ X0.heap.size := by have := K3.lt; omega
    replace K1 := K1.below b9 K1.lt
    replace K2 := K2.below b9 K2.lt
    replace K3 := K3.below b9 K3.lt
    replace BX := thenB BX b9
    clear b9
    generalize X0.alloc (.cells #[.int .i64 0, .int .i64 0, .int .i64 0, .int .i64 0, .slice none 0 0] 26) = X4 at *
    refine hK.out _ _ K1 (fun hHeld => ?_)
    clear hK K
    try simp only [getElem_toArray, getElem_cons_zero, getElem_cons_succ, Act.put, setIfInBounds_toArray, set_cons_zero, set_cons_succ]
    refine wpAnyH_ready (rs := [4]) (by kernel_rfl) (by simp) ?_
    refine .cons rfl (fun K hK => ?_) .nil
    go_simp
    refine (HB.out X4).mono ?_
    rintro e X5 ⟨rfl, b9⟩
    replace K1 := K1.below b9 K1.lt
    replace K2 := K2.below b9 K2.lt
    replace K3 := K3.below b9 K3.lt
    replace K6 := K6.below b9 K6.lt
    replace BX := thenB BX b9
    clear b9
    refine hK.out _ _ K1 (fun hHeld => ?_)
    clear hK K
    try simp only [getElem_toArray, getElem_cons_zero, getElem_cons_succ, Act.put, setIfInBounds_toArray, set_cons_zero, set_cons_succ]
    refine wpAnyH_take (i := 5) (v := .agg #[.int .i64 sn, .int .i64 nesn, .int .i64 0, .int .i64 1, .slice none 0 0]) rfl (by kernel_rfl) (by kernel_rfl) (by kernel_rfl) (fun _ _ _ h => h) (.inl ⟨by first | rfl | go_simp, by intro u h; (try dsimp only at h); go_simp⟩) ‹_› ?_
    simp only [getElem_toArray, getElem_cons_zero, getElem_cons_succ, Act.put, setIfInBounds_toArray, set_cons_zero, set_cons_succ]
    refine wpAnyH_ready (rs := [7]) (by kernel_rfl) (by simp) ?_
    refine .cons rfl (fun K hK => ?_) .nil
    have H9 : (#[.int .i64 sn, .int .i64 nesn, .int .i64 0, .int .i64 1, .slice none 0 0] : Array Value).all (·.oneCell') = true := by rw [← Array.all_toList]; rfl
    refine Av.step_store_row rfl 26 (.tmp 4) (.tmp 20) rfl (X0.heap.size) #[.int .i64 sn, .int .i64 nesn, .int .i64 0, .int .i64 1, .slice none 0 0] rfl rfl 26 _ K6 (by kernel_rfl) rfl H9 ?_
    replace K1 : Blk (X5.setRow (X0.heap.size) #[.int .i64 sn, .int .i64 nesn, .int .i64 0, .int .i64 1, .slice none 0 0]) (w.heap.size) 43 #[.int .i64 sn, .int .i64 nesn, .slice A 0 c, .bool true, .bool true, .int .i64 ack, .int .i64 tak] := Av.bother_row K1 (by omega)
    replace K2 : Blk (X5.setRow (X0.heap.size) #[.int .i64 sn, .int .i64 nesn, .int .i64 0, .int .i64 1, .slice none 0 0]) (w.heap.size + 1) 43 #[.int .i64 0, .int .i64 0, .slice none 0 0, .bool false, .bool false, .int .i64 0, .int .i64 0] := Av.bother_row K2 (by omega)
    replace K3 : Blk (X5.setRow (X0.heap.size) #[.int .i64 sn, .int .i64 nesn, .int .i64 0, .int .i64 1, .slice none 0 0]) (w.heap.size + 2) 26 #[.int .i64 0, .int .i64 0, .int .i64 0, .int .i64 0, .slice none 0 0] := Av.bother_row K3 (by omega)
    replace K6 : Blk (X5.setRow (X0.heap.size) #[.int .i64 sn, .int .i64 nesn, .int .i64 0, .int .i64 1, .slice none 0 0]) (X0.heap.size) 26 #[.int .i64 sn, .int .i64 nesn, .int .i64 0, .int .i64 1, .slice none 0 0] := Av.bset_row K6
    replace BX : Below w.heap.size w (X5.setRow (X0.heap.size) #[.int .i64 sn, .int .i64 nesn, .int .i64 0, .int .i64 1, .slice none 0 0]) := below_setRow BX (by omega) _
    clear H9
    generalize X5.setRow (X0.heap.size) #[.int .i64 sn, .int .i64 nesn, .int .i64 0, .int .i64 1, .slice none 0 0] = X6 at *
    refine hK.out _ _ K1 (fun hHeld => ?_)
    clear hK K
    try simp only [getElem_toArray, getElem_cons_zero, getElem_cons_succ, Act.put, setIfInBounds_toArray, set_cons_zero, set_cons_succ]
    refine wpAnyH_done (by kernel_rfl) ?_ _
    clear hHeld
    go_wp2_with fail
    go_meet
    exact ⟨X0.heap.size, rfl, hx6, K6, K1, K2, K3, BX⟩
 case rest =>
  obtain ⟨g6, rfl, hx6, K6, K1, K2, K3, BX⟩ := hcut
  clear HB
  have p2 := K1.cell 2
  have p4 := K1.cell 4
  have HX : PP wc o ⟨1, none, 0, []⟩ := ⟨Nat.le_refl _, Nat.zero_le _, fun z hz => absurd hz (by simp), .inl (.inl rfl)⟩
  go_upto_region 11 with (fail)
  clear p2 p4
  have K1' : Blk wc.drew (w.heap.size) 43 #[.int .i64 sn, .int .i64 nesn, .slice A 0 c, .bool true, .bool true, .int .i64 ack, .int .i64 tak] := Mem.Blk.drew K1
  have K2' : Blk wc.drew (w.heap.size + 1) 43 #[.int .i64 0, .int .i64 0, .slice none 0 0, .bool false, .bool false, .int .i64 0, .int .i64 0] := Mem.Blk.drew K2
  have K3' : Blk wc.drew (w.heap.size + 2) 26 #[.int .i64 0, .int .i64 0, .int .i64 0, .int .i64 0, .slice none 0 0] := Mem.Blk.drew K3
  have K6' : Blk wc.drew (g6) 26 #[.int .i64 sn, .int .i64 nesn, .int .i64 0, .int .i64 1, .slice none 0 0] := Mem.Blk.drew K6
  refine wp_region_held_drew (S := (fun w' => Blk w' (g6) 26 #[.int .i64 sn, .int .i64 nesn, .int .i64 0, .int .i64 1, .slice none 0 0] ∧ Blk w' (w.heap.size) 43 #[.int .i64 sn, .int .i64 nesn, .slice A 0 c, .bool true, .bool true, .int .i64 ack, .int .i64 tak])) (by kernel_rfl) ?_ (fun hHeld => ?_)
  ·
    exact ⟨K6', K1'⟩
  replace K1 := K1'
  clear K1'
  replace K2 := K2'
  clear K2'
  replace K3 := K3'
  clear K3'
  replace K6 := K6'
  clear K6'
  replace BX : Below w.heap.size w wc.drew := BX.drew
  replace HX := (show PP wc.drew o ⟨1, none, 0, []⟩ from HX.below ((Below.refl wc.heap.size wc).drew))
  generalize wc.drew = Z0 at *
  refine wpAnyH_take (i := 0) (v := .agg #[.int .i64 sn, .int .i64 nesn, .slice A 0 c, .bool true, .bool true, .int .i64 ack, .int .i64 tak]) rfl (by kernel_rfl) (by kernel_rfl) (by kernel_rfl) (fun _ _ _ h => h) (Av.yields_part (by first | rfl | go_simp) _ _ rfl (w.heap.size) 0 rfl #[.int .i64 sn, .int .i64 nesn, .slice A 0 c, .bool true, .bool true, .int .i64 ack, .int .i64 tak] _ 43 #[.int .i64 sn, .int .i64 nesn, .slice A 0 c, .bool true, .bool true, .int .i64 ack, .int .i64 tak] (fun w9 hSw => hSw.2) rfl Try.underlying43 rfl (by kernel_rfl)) ‹_› ?_
  simp only [getElem_toArray, getElem_cons_zero, getElem_cons_succ, Act.put, setIfInBounds_toArray, set_cons_zero, set_cons_succ]
  refine wpAnyH_take (i := 1) (v := .agg #[.int .i64 sn, .int .i64 nesn, .int .i64 0, .int .i64 1, .slice none 0 0]) rfl (by kernel_rfl) (by kernel_rfl) (by kernel_rfl) (fun _ _ _ h => h) (Av.yields_part (by first | rfl | go_simp) _ _ rfl (g6) 0 rfl #[.int .i64 sn, .int .i64 nesn, .int .i64 0, .int .i64 1, .slice none 0 0] _ 26 #[.int .i64 sn, .int .i64 nesn, .int .i64 0, .int .i64 1, .slice none 0 0] (fun w9 hSw => hSw.1) rfl Try.underlying26 rfl (by kernel_rfl)) ‹_› ?_
  simp only [getElem_toArray, getElem_cons_zero, getElem_cons_succ, Act.put, setIfInBounds_toArray, set_cons_zero, set_cons_succ]
  refine wpAnyH_ready (rs := [2]) (by kernel_rfl) (by simp) ?_
  refine .cons rfl (fun K hK => ?_) .nil
  have H9 : (#[.int .i64 sn, .int .i64 nesn, .slice A 0 c, .bool true, .bool true, .int .i64 ack, .int .i64 tak] : Array Value).all (·.oneCell') = true := by rw [← Array.all_toList]; rfl
  refine Av.step_store_row rfl 43 (.tmp 2) (.tmp 41) rfl (w.heap.size + 1) #[.int .i64 sn, .int .i64 nesn, .slice A 0 c, .bool true, .bool true, .int .i64 ack, .int .i64 tak] rfl rfl 43 _ K2 (by kernel_rfl) rfl H9 ?_
  replace HX := HX.step (stp_row K2 #[.int .i64 sn, .int .i64 nesn, .slice A 0 c, .bool true, .bool true, .int .i64 ack, .int .i64 tak]) (by decide) (show o ≤ w.heap.size + 1 by omega)
  replace K1 : Blk (Z0.setRow (w.heap.size + 1) #[.int .i64 sn, .int .i64 nesn, .slice A 0 c, .bool true, .bool true, .int .i64 ack, .int .i64 tak]) (w.heap.size) 43 #[.int .i64 sn, .int .i64 nesn, .slice A 0 c, .bool true, .bool true, .int .i64 ack, .int .i64 tak] := Av.bother_row K1 (by omega)
  replace K2 : Blk (Z0.setRow (w.heap.size + 1) #[.int .i64 sn, .int .i64 nesn, .slice A 0 c, .bool true, .bool true, .int .i64 ack, .int .i64 tak]) (w.heap.size + 1) 43 #[.int .i64 sn, .int .i64 nesn, .slice A 0 c, .bool true, .bool true, .int .i64 ack, .int .i64 tak] := Av.bset_row K2
  replace K3 : Blk (Z0.setRow (w.heap.size + 1) #[.int .i64 sn, .int .i64 nesn, .slice A 0 c, .bool true, .bool true, .int .i64 ack, .int .i64 tak]) (w.heap.size + 2) 26 #[.int .i64 0, .int .i64 0, .int .i64 0, .int .i64 0, .slice none 0 0] := Av.bother_row K3 (by omega)
  replace K6 : Blk (Z0.setRow (w.heap.size + 1) #[.int .i64 sn, .int .i64 nesn, .slice A 0 c, .bool true, .bool true, .int .i64 ack, .int .i64 tak]) (g6) 26 #[.int .i64 sn, .int .i64 nesn, .int .i64 0, .int .i64 1, .slice none 0 0] := Av.bother_row K6 (by omega)
  replace BX : Below w.heap.size w (Z0.setRow (w.heap.size + 1) #[.int .i64 sn, .int .i64 nesn, .slice A 0 c, .bool true, .bool true, .int .i64 ack, .int .i64 tak]) := below_setRow BX (by omega) _
  clear H9
  generalize Z0.setRow (w.heap.size + 1) #[.int .i64 sn, .int .i64 nesn, .slice A 0 c, .bool true, .bool true, .int .i64 ack, .int .i64 tak] = Z1 at *
  refine hK.out _ _ ⟨K6, K1⟩ (fun hHeld => ?_)
  clear hK K
  try simp only [getElem_toArray, getElem_cons_zero, getElem_cons_succ, Act.put, setIfInBounds_toArray, set_cons_zero, set_cons_succ]
  refine wpAnyH_ready (rs := [3]) (by kernel_rfl) (by simp) ?_
  refine .cons rfl (fun K hK => ?_) .nil
  have H9 : (#[.int .i64 sn, .int .i64 nesn, .int .i64 0, .int .i64 1, .slice none 0 0] : Array Value).all (·.oneCell') = true := by rw [← Array.all_toList]; rfl
  refine Av.step_store_row rfl 26 (.tmp 3) (.tmp 42) rfl (w.heap.size + 2) #[.int .i64 sn, .int .i64 nesn, .int .i64 0, .int .i64 1, .slice none 0 0] rfl rfl 26 _ K3 (by kernel_rfl) rfl H9 ?_
  replace HX := HX.step (stp_row K3 #[.int .i64 sn, .int .i64 nesn, .int .i64 0, .int .i64 1, .slice none 0 0]) (by decide) (show o ≤ w.heap.size + 2 by omega)
  replace K1 : Blk (Z1.setRow (w.heap.size + 2) #[.int .i64 sn, .int .i64 nesn, .int .i64 0, .int .i64 1, .slice none 0 0]) (w.heap.size) 43 #[.int .i64 sn, .int .i64 nesn, .slice A 0 c, .bool true, .bool true, .int .i64 ack, .int .i64 tak] := Av.bother_row K1 (by omega)
  replace K2 : Blk (Z1.setRow (w.heap.size + 2) #[.int .i64 sn, .int .i64 nesn, .int .i64 0, .int .i64 1, .slice none 0 0]) (w.heap.size + 1) 43 #[.int .i64 sn, .int .i64 nesn, .slice A 0 c, .bool true, .bool true, .int .i64 ack, .int .i64 tak] := Av.bother_row K2 (by omega)
  replace K3 : Blk (Z1.setRow (w.heap.size + 2) #[.int .i64 sn, .int .i64 nesn, .int .i64 0, .int .i64 1, .slice none 0 0]) (w.heap.size + 2) 26 #[.int .i64 sn, .int .i64 nesn, .int .i64 0, .int .i64 1, .slice none 0 0] := Av.bset_row K3
  replace K6 : Blk (Z1.setRow (w.heap.size + 2) #[.int .i64 sn, .int .i64 nesn, .int .i64 0, .int .i64 1, .slice none 0 0]) (g6) 26 #[.int .i64 sn, .int .i64 nesn, .int .i64 0, .int .i64 1, .slice none 0 0] := Av.bother_row K6 (by omega)
  replace BX : Below w.heap.size w (Z1.setRow (w.heap.size + 2) #[.int .i64 sn, .int .i64 nesn, .int .i64 0, .int .i64 1, .slice none 0 0]) := below_setRow BX (by omega) _
  clear H9
  generalize Z1.setRow (w.heap.size + 2) #[.int .i64 sn, .int .i64 nesn, .int .i64 0, .int .i64 1, .slice none 0 0] = Z2 at *
  refine hK.out _ _ ⟨K6, K1⟩ (fun hHeld => ?_)
  clear hK K
  try simp only [getElem_toArray, getElem_cons_zero, getElem_cons_succ, Act.put, setIfInBounds_toArray, set_cons_zero, set_cons_succ]
  refine wpAnyH_done (by kernel_rfl) ?_ _
  go_wp2_with fail
  refine bodyPost_ret (v := .tuple #[.agg #[.int .i64 sn, .int .i64 nesn, .slice A 0 c, .bool true, .bool true, .int .i64 ack, .int .i64 tak], .agg #[.int .i64 sn, .int .i64 nesn, .int .i64 0, .int .i64 1, .slice none 0 0]]) ?_ rfl ⟨⟨1, none, 0, []⟩, by rw [HO.out.1, (pdu_bits _).1, (pdu_bits _).2.1, hmd]; rfl, HO.out.2, HX, BX⟩
  clear hHeld K1 K6
  have HLa := run_loadVar_row (P := Try.prog) Z2 (w.heap.size + 1) 43 43 #[.int .i64 sn, .int .i64 nesn, .slice A 0 c, .bool true, .bool true, .int .i64 ack, .int .i64 tak] (0, 0) _ K2 Try.underlying43 rfl (by kernel_rfl)
  have HLb := run_loadVar_row (P := Try.prog) Z2 (w.heap.size + 2) 26 26 #[.int .i64 sn, .int .i64 nesn, .int .i64 0, .int .i64 1, .slice none 0 0] (0, 0) _ K3 Try.underlying26 rfl (by kernel_rfl)
  generalize (#[.int .i64 sn, .int .i64 nesn, .slice A 0 c, .bool true, .bool true, .int .i64 ack, .int .i64 tak] : Array Value) = CS at *
  generalize (#[.int .i64 sn, .int .i64 nesn, .int .i64 0, .int .i64 1, .slice none 0 0] : Array Value) = CP at *
  simp [results, show (Try.f31).results = #[.cell 2 43, .cell 3 26] from rfl, asAddr, HLa, HLb, Act.put]
set_option maxRecDepth 100000 in
set_option maxHeartbeats 4000000 in
theorem rsend_tt1 (sn nesn : Int) (ack tak : Nat) (A : Option Addr) (n c : Nat) (q : List Pk) (o : Nat) (w : World) (ho : o ≤ w.heap.size) (hn : n ≤ 1000000) (hqn : q ≠ []) (h1 : 1 ≤ n) :
   Calls Try.prog 31 #[.agg #[.int .i64 sn, .int .i64 nesn, .slice A n c, .bool true, .bool true, .int .i64 ack, .int .i64 tak]] w fun e w' => RSent w w' e ⟨sn, nesn, q, true, true, ack, tak⟩ (.slice A n c) o := by
 have BX : Below w.heap.size w (((w.alloc (.cells #[.int .i64 sn, .int .i64 nesn, .slice A n c, .bool true, .bool true, .int .i64 ack, .int .i64 tak] 43)).alloc (.cells #[.int .i64 0, .int .i64 0, .slice none 0 0, .bool false, .bool false, .int .i64 0, .int .i64 0] 43)).alloc (.cells #[.int .i64 0, .int .i64 0, .int .i64 0, .int .i64 0, .slice none 0 0] 26)) := (((Below.refl _ _).alloc (Nat.le_refl _) _).alloc (by simp) _).alloc (by simp; omega) _
 have K1 : Blk (((w.alloc (.cells #[.int .i64 sn, .int .i64 nesn, .slice A n c, .bool true, .bool true, .int .i64 ack, .int .i64 tak] 43)).alloc (.cells #[.int .i64 0, .int .i64 0, .slice none 0 0, .bool false, .bool false, .int .i64 0, .int .i64 0] 43)).alloc (.cells #[.int .i64 0, .int .i64 0, .int .i64 0, .int .i64 0, .slice none 0 0] 26)) w.heap.size 43 #[.int .i64 sn, .int .i64 nesn, .slice A n c, .bool true, .bool true, .int .i64 ack, .int .i64 tak] := ((Blk.fresh w 43 #[.int .i64 sn, .int .i64 nesn, .slice A n c, .bool true, .bool true, .int .i64 ack, .int .i64 tak]).alloc _).alloc _
 have K2 : Blk (((w.alloc (.cells #[.int .i64 sn, .int .i64 nesn, .slice A n c, .bool true, .bool true, .int .i64 ack, .int .i64 tak] 43)).alloc (.cells #[.int .i64 0, .int .i64 0, .slice none 0 0, .bool false, .bool false, .int .i64 0, .int .i64 0] 43)).alloc (.cells #[.int .i64 0, .int .i64 0, .int .i64 0, .int .i64 0, .slice none 0 0] 26)) (w.heap.size + 1) 43 #[.int .i64 0, .int .i64 0, .slice none 0 0, .bool false, .bool false, .int .i64 0, .int .i64 0] := (Av.Blk.next).alloc _
 have K3 : Blk (((w.alloc (.cells #[.int .i64 sn, .int .i64 nesn, .slice A n c, .bool true, .bool true, .int .i64 ack, .int .i64 tak] 43)).alloc (.cells #[.int .i64 0, .int .i64 0, .slice none 0 0, .bool false, .bool false, .int .i64 0, .int .i64 0] 43)).alloc (.cells #[.int .i64 0, .int .i64 0, .int .i64 0, .int .i64 0, .slice none 0 0] 26)) (w.heap.size + 2) 26 #[.int .i64 0, .int .i64 0, .int .i64 0, .int .i64 0, .slice none 0 0] := by
     have := Blk.fresh ((w.alloc (.cells #[.int .i64 sn, .int .i64 nesn, .slice A n c, .bool true, .bool true, .int .i64 ack, .int .i64 tak] 43)).alloc (.cells #[.int .i64 0, .int .i64 0, .slice none 0 0, .bool false, .bool false, .int .i64 0, .int .i64 0] 43)) 26 #[.int .i64 0, .int .i64 0, .int .i64 0, .int .i64 0, .slice none 0 0]
     simpa using this
 have HO : Hid (openR ⟨sn, nesn, q, true, true, ack, tak⟩ = ⟨sn, nesn, q, true, true, ack, tak⟩ ∧ Pm.p ⟨1, none, 0, []⟩ = (pduR (openR ⟨sn, nesn, q, true, true, ack, tak⟩)).pk) := Lib.hid ⟨rfl, rfl⟩
 have hmd : (pduR ⟨sn, nesn, q, true, true, ack, tak⟩).md = 1 := by simp [pduR, hqn]
 have gz : ((n : Int) == 0) = false := n_pos (by omega)
 have g1 : (0 : Int) < (n : Int) := by omega
 have eB : IntKind.i64.wrap ((n : Int) - 1) = (n : Int) - 1 := by rw [IntWalk.i64_in _ (by omega)]
 clear hqn h1
 go_enter Try.func31, Try.ntmps31
 go_upto_region 1 with (fail)
 generalize ((w.alloc (.cells #[.int .i64 sn, .int .i64 nesn, .slice A n c, .bool true, .bool true, .int .i64 ack, .int .i64 tak] 43)).alloc (.cells #[.int .i64 0, .int .i64 0, .slice none 0 0, .bool false, .bool false, .int .i64 0, .int .i64 0] 43)).alloc (.cells #[.int .i64 0, .int .i64 0, .int .i64 0, .int .i64 0, .slice none 0 0] 26) = W2 at *
 have p3 := K1.cell 3
 have p2 := K1.cell 2
 have hs3 := K3.lt
 go_upto_region 4 with (fail)
 clear p3 p2
 clear gz
 have HB := Lib.hid rblankpk_any
 go_cut [4] from 15 to 20 (fun s4 wx => ∃ g6, s4 = .pointer (some ⟨g6, 0, none⟩) ∧ w.heap.size + 3 ≤ g6 ∧ Blk wx g6 26 #[.int .i64 sn, .int .i64 nesn, .int .i64 0, .int .i64 1, .slice none 0 0] ∧ Blk wx (w.heap.size) 43 #[.int .i64 sn, .int .i64 nesn, .slice A n c, .bool true, .bool true, .int .i64 ack, .int .i64 tak] ∧ Blk wx (w.heap.size + 1) 43 #[.int .i64 0, .int .i64 0, .slice none 0 0, .bool false, .bool false, .int .i64 0, .int .i64 0] ∧ Blk wx (w.heap.size + 2) 26 #[.int .i64 0, .int .i64 0, .int .i64 0, .int .i64 0, .slice none 0 0] ∧ Below w.heap.size w wx)
 case first =>
  have K1' : Blk W2.drew (w.heap.size) 43 #[.int .i64 sn, .int .i64 nesn, .slice A n c, .bool true, .bool true, .int .i64 ack, .int .i64 tak] := Mem.Blk.drew K1
  have K2' : Blk W2.drew (w.heap.size + 1) 43 #[.int .i64 0, .int .i64 0, .slice none 0 0, .bool false, .bool false, .int .i64 0, .int .i64 0] := Mem.Blk.drew K2
  have K3' : Blk W2.drew (w.heap.size + 2) 26 #[.int .i64 0, .int .i64 0, .int .i64 0, .int .i64 0, .slice none 0 0] := Mem.Blk.drew K3
  refine wp_region_held_drew (S := (fun w' => Blk w' (w.heap.size) 43 #[.int .i64 sn, .int .i64 nesn, .slice A n c, .bool true, .bool true, .int .i64 ack, .int .i64 tak])) (by kernel_rfl) ?_ (fun hHeld => ?_)
  ·
    exact K1'
  replace K1 := K1'
  clear K1'
  replace K2 := K2'
  clear K2'
  replace K3 := K3'
  clear K3'
  replace BX : Below w.heap.size w W2.drew := BX.drew
  generalize W2.drew = X0 at *
  refine wpAnyH_take (i := 0) (v := .pointer (some ⟨w.heap.size, 0, none⟩)) rfl (by kernel_rfl) (by kernel_rfl) (by kernel_rfl) (fun _ _ _ h => h) (.inl ⟨by first | rfl | go_simp, by intro u h; (try dsimp only at h); go_simp⟩) ‹_› ?_
  simp only [getElem_toArray, getElem_cons_zero, getElem_cons_succ, Act.put, setIfInBounds_toArray, set_cons_zero, set_cons_succ]
  refine wpAnyH_take (i := 1) (v := .int .i64 sn) rfl (by kernel_rfl) (by kernel_rfl) (by kernel_rfl) (fun _ _ _ h => h) (Or.inl ⟨by first | rfl | go_simp, by intro w9 hSw; (try dsimp only at hSw); have c9 := hSw.cell 0; clear hSw; go_simp⟩) ‹_› ?_
  simp only [getElem_toArray, getElem_cons_zero, getElem_cons_succ, Act.put, setIfInBounds_toArray, set_cons_zero, set_cons_succ]
  refine wpAnyH_take (i := 2) (v := .pointer (some ⟨w.heap.size, 1, none⟩)) rfl (by kernel_rfl) (by kernel_rfl) (by kernel_rfl) (fun _ _ _ h => h) (.inl ⟨by first | rfl | go_simp, by intro u h; (try dsimp only at h); go_simp⟩) ‹_› ?_
  simp only [getElem_toArray, getElem_cons_zero, getElem_cons_succ, Act.put, setIfInBounds_toArray, set_cons_zero, set_cons_succ]
  refine wpAnyH_take (i := 3) (v := .int .i64 nesn) rfl (by kernel_rfl) (by kernel_rfl) (by kernel_rfl) (fun _ _ _ h => h) (Or.inl ⟨by first | rfl | go_simp, by intro w9 hSw; (try dsimp only at hSw); have c9 := hSw.cell 1; clear hSw; go_simp⟩) ‹_› ?_
  simp only [getElem_toArray, getElem_cons_zero, getElem_cons_succ, Act.put, setIfInBounds_toArray, set_cons_zero, set_cons_succ]
  refine wpAnyH_ready (rs := [4, 6]) (by kernel_rfl) (by simp) ?_
  refine AllReadyH.cons rfl (fun K hK => ?_) (AllReadyH.cons rfl (fun K hK => ?_) (AllReadyH.nil))
  ·
    go_simp
    refine (HB.out X0).mono ?_
    rintro e X1 ⟨rfl, b9⟩
    replace K1 := K1.below b9 K1.lt
    replace K2 := K2.below b9 K2.lt
    replace K3 := K3.below b9 K3.lt
    replace BX := thenB BX b9
    clear b9
    refine hK.out _ _ K1 (fun hHeld => ?_)
    clear hK K
    try simp only [getElem_toArray, getElem_cons_zero, getElem_cons_succ, Act.put, setIfInBounds_toArray, set_cons_zero, set_cons_succ]
    refine wpAnyH_take (i := 5) (v := .agg #[.int .i64 sn, .int .i64 nesn, .int .i64 0, .int .i64 1, .slice none 0 0]) rfl (by kernel_rfl) (by kernel_rfl) (by kernel_rfl) (fun _ _ _ h => h) (.inl ⟨by first | rfl | go_simp, by intro u h; (try dsimp only at h); go_simp⟩) ‹_› ?_
    simp only [getElem_toArray, getElem_cons_zero, getElem_cons_succ, Act.put, setIfInBounds_toArray, set_cons_zero, set_cons_succ]
    refine wpAnyH_ready (rs := [6]) (by kernel_rfl) (by simp) ?_
    refine .cons rfl (fun K hK => ?_) .nil
    go_simp
    have b9 := (Below.refl X1.heap.size X1).alloc (Nat.le_refl _) (.cells #[.int .i64 0, .int .i64 0, .int .i64 0, .int .i64 0, .slice none 0 0] 26)
    have K6 : Blk (X1.alloc (.cells #[.int .i64 0, .int .i64 0, .int .i64 0, .int .i64 0, .slice none 0 0] 26)) X1.heap.size 26 #[.int .i64 0, .int .i64 0, .int .i64 0, .int .i64 0, .slice none 0 0] := Blk.fresh X1 26 #[.int .i64 0, .int .i64 0, .int .i64 0, .int .i64 0, .slice none 0 0]
    have hx6 : w.heap.size + 3 ≤ X1.heap.size := by have := K3.lt; omega
    replace K1 := K1.below b9 K1.lt
    replace K2 := K2.below b9 K2.lt
    replace K3 := K3.below b9 K3.lt
    replace BX := thenB BX b9
    clear b9
    generalize X1.alloc (.cells #[.int .i64 0, .int .i64 0, .int .i64 0, .int .i64 0, .slice none 0 0] 26) = X2 at *
    refine hK.out _ _ K1 (fun hHeld => ?_)
    clear hK K
    try simp only [getElem_toArray, getElem_cons_zero, getElem_cons_succ, Act.put, setIfInBounds_toArray, set_cons_zero, set_cons_succ]
    refine wpAnyH_ready (rs := [7]) (by kernel_rfl) (by simp) ?_
    refine .cons rfl (fun K hK => ?_) .nil
    have H9 : (#[.int .i64 sn, .int .i64 nesn, .int .i64 0, .int .i64 1, .slice none 0 0] : Array Value).all (·.oneCell') = true := by rw [← Array.all_toList]; rfl
    refine Av.step_store_row rfl 26 (.tmp 4) (.tmp 20) rfl (X1.heap.size) #[.int .i64 sn, .int .i64 nesn, .int .i64 0, .int .i64 1, .slice none 0 0] rfl rfl 26 _ K6 (by kernel_rfl) rfl H9 ?_
    replace K1 : Blk (X2.setRow (X1.heap.size) #[.int .i64 sn, .int .i64 nesn, .int .i64 0, .int .i64 1, .slice none 0 0]) (w.heap.size) 43 #[.int .i64 sn, .int .i64 nesn, .slice A n c, .bool true, .bool true, .int .i64 ack, .int .i64 tak] := Av.bother_row K1 (by omega)
    replace K2 : Blk (X2.setRow (X1.heap.size) #[.int .i64 sn, .int .i64 nesn, .int .i64 0, .int .i64 1, .slice none 0 0]) (w.heap.size + 1) 43 #[.int .i64 0, .int .i64 0, .slice none 0 0, .bool false, .bool false, .int .i64 0, .int .i64 0] := Av.bother_row K2 (by omega)
    replace K3 : Blk (X2.setRow (X1.heap.size) #[.int .i64 sn, .int .i64 nesn, .int .i64 0, .int .i64 1, .slice none 0 0]) (w.heap.size + 2) 26 #[.int .i64 0, .int .i64 0, .int .i64 0, .int .i64 0, .slice none 0 0] := Av.bother_row K3 (by omega)
    replace K6 : Blk (X2.setRow (X1.heap.size) #[.int .i64 sn, .int .i64 nesn, .int .i64 0, .int .i64 1, .slice none 0 0]) (X1.heap.size) 26 #[.int .i64 sn, .int .i64 nesn, .int .i64 0, .int .i64 1, .slice none 0 0] := Av.bset_row K6
    replace BX : Below w.heap.size w (X2.setRow (X1.heap.size) #[.int .i64 sn, .int .i64 nesn, .int .i64 0, .int .i64 1, .slice none 0 0]) := below_setRow BX (by omega) _
    clear H9
    generalize X2.setRow (X1.heap.size) #[.int .i64 sn, .int .i64 nesn, .int .i64 0, .int .i64 1, .slice none 0 0] = X3 at *
    refine hK.out _ _ K1 (fun hHeld => ?_)
    clear hK K
    try simp only [getElem_toArray, getElem_cons_zero, getElem_cons_succ, Act.put, setIfInBounds_toArray, set_cons_zero, set_cons_succ]
    refine wpAnyH_done (by kernel_rfl) ?_ _
    clear hHeld
    go_wp2_with fail
    go_meet
    exact ⟨X1.heap.size, rfl, hx6, K6, K1, K2, K3, BX⟩
  ·
    go_simp
    have b9 := (Below.refl X0.heap.size X0).alloc (Nat.le_refl _) (.cells #[.int .i64 0, .int .i64 0, .int .i64 0, .int .i64 0, .slice none 0 0] 26)
    have K6 : Blk (X0.alloc (.cells #[.int .i64 0, .int .i64 0, .int .i64 0, .int .i64 0, .slice none 0 0] 26)) X0.heap.size 26 #[.int .i64 0, .int .i64 0, .int .i64 0, .int .i64 0, .slice none 0 0] := Blk.fresh X0 26 #[.int .i64 0, .int .i64 0, .int .i64 0, .int .i64 0, .slice none 0 0]
    have hx6 : w.heap.size + 3 ≤ X0.heap.size := by have := K3.lt; omega
    replace K1 := K1.below b9 K1.lt
    replace K2 := K2.below b9 K2.lt
    replace K3 := K3.below b9 K3.lt
    replace BX := thenB BX b9
    clear b9
    generalize X0.alloc (.cells #[.int .i64 0, .int .i64 0, .int .i64 0, .int .i64 0, .slice none 0 0] 26) = X4 at *
    refine hK.out _ _ K1 (fun hHeld => ?_)
    clear hK K
    try simp only [getElem_toArray, getElem_cons_zero, getElem_cons_succ, Act.put, setIfInBounds_toArray, set_cons_zero, set_cons_succ]
    refine wpAnyH_ready (rs := [4]) (by kernel_rfl) (by simp) ?_
    refine .cons rfl (fun K hK => ?_) .nil
    go_simp
    refine (HB.out X4).mono ?_
    rintro e X5 ⟨rfl, b9⟩
    replace K1 := K1.below b9 K1.lt
    replace K2 := K2.below b9 K2.lt
    replace K3 := K3.below b9 K3.lt
    replace K6 := K6.below b9 K6.lt
    replace BX := thenB BX b9
    clear b9
    refine hK.out _ _ K1 (fun hHeld => ?_)
    clear hK K
    try simp only [getElem_toArray, getElem_cons_zero, getElem_cons_succ, Act.put, setIfInBounds_toArray, set_cons_zero, set_cons_succ]
    refine wpAnyH_take (i := 5) (v := .agg #[.int .i64 sn, .int .i64 nesn, .int .i64 0, .int .i64 1, .slice none 0 0]) rfl (by kernel_rfl) (by kernel_rfl) (by kernel_rfl) (fun _ _ _ h => h) (.inl ⟨by first | rfl | go_simp, by intro u h; (try dsimp only at h); go_simp⟩) ‹_› ?_
    simp only [getElem_toArray, getElem_cons_zero, getElem_cons_succ, Act.put, setIfInBounds_toArray, set_cons_zero, set_cons_succ]
    refine wpAnyH_ready (rs := [7]) (by kernel_rfl) (by simp) ?_
    refine .cons rfl (fun K hK => ?_) .nil
    have H9 : (#[.int .i64 sn, .int .i64 nesn, .int .i64 0, .int .i64 1, .slice none 0 0] : Array Value).all (·.oneCell') = true := by rw [← Array.all_toList]; rfl
    refine Av.step_store_row rfl 26 (.tmp 4) (.tmp 20) rfl (X0.heap.size) #[.int .i64 sn, .int .i64 nesn, .int .i64 0, .int .i64 1, .slice none 0 0] rfl rfl 26 _ K6 (by kernel_rfl) rfl H9 ?_
    replace K1 : Blk (X5.setRow (X0.heap.size) #[.int .i64 sn, .int .i64 nesn, .int .i64 0, .int .i64 1, .slice none 0 0]) (w.heap.size) 43 #[.int .i64 sn, .int .i64 nesn, .slice A n c, .bool true, .bool true, .int .i64 ack, .int .i64 tak] := Av.bother_row K1 (by omega)
    replace K2 : Blk (X5.setRow (X0.heap.size) #[.int .i64 sn, .int .i64 nesn, .int .i64 0, .int .i64 1, .slice none 0 0]) (w.heap.size + 1) 43 #[.int .i64 0, .int .i64 0, .slice none 0 0, .bool false, .bool false, .int .i64 0, .int .i64 0] := Av.bother_row K2 (by omega)
    replace K3 : Blk (X5.setRow (X0.heap.size) #[.int .i64 sn, .int .i64 nesn, .int .i64 0, .int .i64 1, .slice none 0 0]) (w.heap.size + 2) 26 #[.int .i64 0, .int .i64 0, .int .i64 0, .int .i64 0, .slice none 0 0] := Av.bother_row K3 (by omega)
    replace K6 : Blk (X5.setRow (X0.heap.size) #[.int .i64 sn, .int .i64 nesn, .int .i64 0, .int .i64 1, .slice none 0 0]) (X0.heap.size) 26 #[.int .i64 sn, .int .i64 nesn, .int .i64 0, .int .i64 1, .slice none 0 0] := Av.bset_row K6
    replace BX : Below w.heap.size w (X5.setRow (X0.heap.size) #[.int .i64 sn, .int .i64 nesn, .int .i64 0, .int .i64 1, .slice none 0 0]) := below_setRow BX (by omega) _
    clear H9
    generalize X5.setRow (X0.heap.size) #[.int .i64 sn, .int .i64 nesn, .int .i64 0, .int .i64 1, .slice none 0 0] = X6 at *
    refine hK.out _ _ K1 (fun hHeld => ?_)
    clear hK K
    try simp only [getElem_toArray, getElem_cons_zero, getElem_cons_succ, Act.put, setIfInBounds_toArray, set_cons_zero, set_cons_succ]
    refine wpAnyH_done (by kernel_rfl) ?_ _
    clear hHeld
    go_wp2_with fail
    go_meet
    exact ⟨X0.heap.size, rfl, hx6, K6, K1, K2, K3, BX⟩
 case rest =>
  obtain ⟨g6, rfl, hx6, K6, K1, K2, K3, BX⟩ := hcut
  clear HB
  have p2 := K1.cell 2
  have p4 := K1.cell 4
  have HX : PP wc o ⟨1, none, 0, []⟩ := ⟨Nat.le_refl _, Nat.zero_le _, fun z hz => absurd hz (by simp), .inl (.inl rfl)⟩
  go_upto_region 11 with (refine Av.wpList_store_cell rfl _ _ _ rfl g6 2 (.int .i64 1) rfl rfl 26 _ K6 (by show 2 < 5; decide) (by kernel_rfl) rfl ?_)
  have sA := stp_cell (i := 2) K6 (.int .i64 1)
  replace K6 := Av.bset K6 2 (.int .i64 1) rfl
  replace K1 := sA.blk_ne K1 (by omega)
  replace K2 := sA.blk_ne K2 (by omega)
  replace K3 := sA.blk_ne K3 (by omega)
  replace HX := HX.step sA (by decide) (by omega)
  replace BX := BX.setCell (p := ⟨g6, 2, none⟩) (by show w.heap.size ≤ g6; omega) (.int .i64 1)
  clear sA p2 p4
  generalize wc.setCell ⟨g6, 2, none⟩ (.int .i64 1) = X5 at *
  have K1' : Blk X5.drew (w.heap.size) 43 #[.int .i64 sn, .int .i64 nesn, .slice A n c, .bool true, .bool true, .int .i64 ack, .int .i64 tak] := Mem.Blk.drew K1
  have K2' : Blk X5.drew (w.heap.size + 1) 43 #[.int .i64 0, .int .i64 0, .slice none 0 0, .bool false, .bool false, .int .i64 0, .int .i64 0] := Mem.Blk.drew K2
  have K3' : Blk X5.drew (w.heap.size + 2) 26 #[.int .i64 0, .int .i64 0, .int .i64 0, .int .i64 0, .slice none 0 0] := Mem.Blk.drew K3
  have K6' : Blk X5.drew (g6) 26 #[.int .i64 sn, .int .i64 nesn, .int .i64 1, .int .i64 1, .slice none 0 0] := Mem.Blk.drew K6
  refine wp_region_held_drew (S := (fun w' => Blk w' (g6) 26 #[.int .i64 sn, .int .i64 nesn, .int .i64 1, .int .i64 1, .slice none 0 0] ∧ Blk w' (w.heap.size) 43 #[.int .i64 sn, .int .i64 nesn, .slice A n c, .bool true, .bool true, .int .i64 ack, .int .i64 tak])) (by kernel_rfl) ?_ (fun hHeld => ?_)
  ·
    exact ⟨K6', K1'⟩
  replace K1 := K1'
  clear K1'
  replace K2 := K2'
  clear K2'
  replace K3 := K3'
  clear K3'
  replace K6 := K6'
  clear K6'
  replace BX : Below w.heap.size w X5.drew := BX.drew
  replace HX := (show PP X5.drew o ⟨1, none, 0, []⟩ from HX.below ((Below.refl X5.heap.size X5).drew))
  generalize X5.drew = Z0 at *
  refine wpAnyH_take (i := 0) (v := .agg #[.int .i64 sn, .int .i64 nesn, .slice A n c, .bool true, .bool true, .int .i64 ack, .int .i64 tak]) rfl (by kernel_rfl) (by kernel_rfl) (by kernel_rfl) (fun _ _ _ h => h) (Av.yields_part (by first | rfl | go_simp) _ _ rfl (w.heap.size) 0 rfl #[.int .i64 sn, .int .i64 nesn, .slice A n c, .bool true, .bool true, .int .i64 ack, .int .i64 tak] _ 43 #[.int .i64 sn, .int .i64 nesn, .slice A n c, .bool true, .bool true, .int .i64 ack, .int .i64 tak] (fun w9 hSw => hSw.2) rfl Try.underlying43 rfl (by kernel_rfl)) ‹_› ?_
  simp only [getElem_toArray, getElem_cons_zero, getElem_cons_succ, Act.put, setIfInBounds_toArray, set_cons_zero, set_cons_succ]
  refine wpAnyH_take (i := 1) (v := .agg #[.int .i64 sn, .int .i64 nesn, .int .i64 1, .int .i64 1, .slice none 0 0]) rfl (by kernel_rfl) (by kernel_rfl) (by kernel_rfl) (fun _ _ _ h => h) (Av.yields_part (by first | rfl | go_simp) _ _ rfl (g6) 0 rfl #[.int .i64 sn, .int .i64 nesn, .int .i64 1, .int .i64 1, .slice none 0 0] _ 26 #[.int .i64 sn, .int .i64 nesn, .int .i64 1, .int .i64 1, .slice none 0 0] (fun w9 hSw => hSw.1) rfl Try.underlying26 rfl (by kernel_rfl)) ‹_› ?_
  simp only [getElem_toArray, getElem_cons_zero, getElem_cons_succ, Act.put, setIfInBounds_toArray, set_cons_zero, set_cons_succ]
  refine wpAnyH_ready (rs := [2]) (by kernel_rfl) (by simp) ?_
  refine .cons rfl (fun K hK => ?_) .nil
  have H9 : (#[.int .i64 sn, .int .i64 nesn, .slice A n c, .bool true, .bool true, .int .i64 ack, .int .i64 tak] : Array Value).all (·.oneCell') = true := by rw [← Array.all_toList]; rfl
  refine Av.step_store_row rfl 43 (.tmp 2) (.tmp 41) rfl (w.heap.size + 1) #[.int .i64 sn, .int .i64 nesn, .slice A n c, .bool true, .bool true, .int .i64 ack, .int .i64 tak] rfl rfl 43 _ K2 (by kernel_rfl) rfl H9 ?_
  replace HX := HX.step (stp_row K2 #[.int .i64 sn, .int .i64 nesn, .slice A n c, .bool true, .bool true, .int .i64 ack, .int .i64 tak]) (by decide) (show o ≤ w.heap.size + 1 by omega)
  replace K1 : Blk (Z0.setRow (w.heap.size + 1) #[.int .i64 sn, .int .i64 nesn, .slice A n c, .bool true, .bool true, .int .i64 ack, .int .i64 tak]) (w.heap.size) 43 #[.int .i64 sn, .int .i64 nesn, .slice A n c, .bool true, .bool true, .int .i64 ack, .int .i64 tak] := Av.bother_row K1 (by omega)
  replace K2 : Blk (Z0.setRow (w.heap.size + 1) #[.int .i64 sn, .int .i64 nesn, .slice A n c, .bool true, .bool true, .int .i64 ack, .int .i64 tak]) (w.heap.size + 1) 43 #[.int .i64 sn, .int .i64 nesn, .slice A n c, .bool true, .bool true, .int .i64 ack, .int .i64 tak] := Av.bset_row K2
  replace K3 : Blk (Z0.setRow (w.heap.size + 1) #[.int .i64 sn, .int .i64 nesn, .slice A n c, .bool true, .bool true, .int .i64 ack, .int .i64 tak]) (w.heap.size + 2) 26 #[.int .i64 0, .int .i64 0, .int .i64 0, .int .i64 0, .slice none 0 0] := Av.bother_row K3 (by omega)
  replace K6 : Blk (Z0.setRow (w.heap.size + 1) #[.int .i64 sn, .int .i64 nesn, .slice A n c, .bool true, .bool true, .int .i64 ack, .int .i64 tak]) (g6) 26 #[.int .i64 sn, .int .i64 nesn, .int .i64 1, .int .i64 1, .slice none 0 0] := Av.bother_row K6 (by omega)
  replace BX : Below w.heap.size w (Z0.setRow (w.heap.size + 1) #[.int .i64 sn, .int .i64 nesn, .slice A n c, .bool true, .bool true, .int .i64 ack, .int .i64 tak]) := below_setRow BX (by omega) _
  clear H9
  generalize Z0.setRow (w.heap.size + 1) #[.int .i64 sn, .int .i64 nesn, .slice A n c, .bool true, .bool true, .int .i64 ack, .int .i64 tak] = Z1 at *
  refine hK.out _ _ ⟨K6, K1⟩ (fun hHeld => ?_)
  clear hK K
  try simp only [getElem_toArray, getElem_cons_zero, getElem_cons_succ, Act.put, setIfInBounds_toArray, set_cons_zero, set_cons_succ]
  refine wpAnyH_ready (rs := [3]) (by kernel_rfl) (by simp) ?_
  refine .cons rfl (fun K hK => ?_) .nil
  have H9 : (#[.int .i64 sn, .int .i64 nesn, .int .i64 1, .int .i64 1, .slice none 0 0] : Array Value).all (·.oneCell') = true := by rw [← Array.all_toList]; rfl
  refine Av.step_store_row rfl 26 (.tmp 3) (.tmp 42) rfl (w.heap.size + 2) #[.int .i64 sn, .int .i64 nesn, .int .i64 1, .int .i64 1, .slice none 0 0] rfl rfl 26 _ K3 (by kernel_rfl) rfl H9 ?_
  replace HX := HX.step (stp_row K3 #[.int .i64 sn, .int .i64 nesn, .int .i64 1, .int .i64 1, .slice none 0 0]) (by decide) (show o ≤ w.heap.size + 2 by omega)
  replace K1 : Blk (Z1.setRow (w.heap.size + 2) #[.int .i64 sn, .int .i64 nesn, .int .i64 1, .int .i64 1, .slice none 0 0]) (w.heap.size) 43 #[.int .i64 sn, .int .i64 nesn, .slice A n c, .bool true, .bool true, .int .i64 ack, .int .i64 tak] := Av.bother_row K1 (by omega)
  replace K2 : Blk (Z1.setRow (w.heap.size + 2) #[.int .i64 sn, .int .i64 nesn, .int .i64 1, .int .i64 1, .slice none 0 0]) (w.heap.size + 1) 43 #[.int .i64 sn, .int .i64 nesn, .slice A n c, .bool true, .bool true, .int .i64 ack, .int .i64 tak] := Av.bother_row K2 (by omega)
  replace K3 : Blk (Z1.setRow (w.heap.size + 2) #[.int .i64 sn, .int .i64 nesn, .int .i64 1, .int .i64 1, .slice none 0 0]) (w.heap.size + 2) 26 #[.int .i64 sn, .int .i64 nesn, .int .i64 1, .int .i64 1, .slice none 0 0] := Av.bset_row K3
  replace K6 : Blk (Z1.setRow (w.heap.size + 2) #[.int .i64 sn, .int .i64 nesn, .int .i64 1, .int .i64 1, .slice none 0 0]) (g6) 26 #[.int .i64 sn, .int .i64 nesn, .int .i64 1, .int .i64 1, .slice none 0 0] := Av.bother_row K6 (by omega)
  replace BX : Below w.heap.size w (Z1.setRow (w.heap.size + 2) #[.int .i64 sn, .int .i64 nesn, .int .i64 1, .int .i64 1, .slice none 0 0]) := below_setRow BX (by omega) _
  clear H9
  generalize Z1.setRow (w.heap.size + 2) #[.int .i64 sn, .int .i64 nesn, .int .i64 1, .int .i64 1, .slice none 0 0] = Z2 at *
  refine hK.out _ _ ⟨K6, K1⟩ (fun hHeld => ?_)
  clear hK K
  try simp only [getElem_toArray, getElem_cons_zero, getElem_cons_succ, Act.put, setIfInBounds_toArray, set_cons_zero, set_cons_succ]
  refine wpAnyH_done (by kernel_rfl) ?_ _
  go_wp2_with fail
  refine bodyPost_ret (v := .tuple #[.agg #[.int .i64 sn, .int .i64 nesn, .slice A n c, .bool true, .bool true, .int .i64 ack, .int .i64 tak], .agg #[.int .i64 sn, .int .i64 nesn, .int .i64 1, .int .i64 1, .slice none 0 0]]) ?_ rfl ⟨⟨1, none, 0, []⟩, by rw [HO.out.1, (pdu_bits _).1, (pdu_bits _).2.1, hmd]; rfl, HO.out.2, HX, BX⟩
  clear hHeld K1 K6
  have HLa := run_loadVar_row (P := Try.prog) Z2 (w.heap.size + 1) 43 43 #[.int .i64 sn, .int .i64 nesn, .slice A n c, .bool true, .bool true, .int .i64 ack, .int .i64 tak] (0, 0) _ K2 Try.underlying43 rfl (by kernel_rfl)
  have HLb := run_loadVar_row (P := Try.prog) Z2 (w.heap.size + 2) 26 26 #[.int .i64 sn, .int .i64 nesn, .int .i64 1, .int .i64 1, .slice none 0 0] (0, 0) _ K3 Try.underlying26 rfl (by kernel_rfl)
  generalize (#[.int .i64 sn, .int .i64 nesn, .slice A n c, .bool true, .bool true, .int .i64 ack, .int .i64 tak] : Array Value) = CS at *
  generalize (#[.int .i64 sn, .int .i64 nesn, .int .i64 1, .int .i64 1, .slice none 0 0] : Array Value) = CP at *
  simp [results, show (Try.f31).results = #[.cell 2 43, .cell 3 26] from rfl, asAddr, HLa, HLb, Act.put]
set_option maxRecDepth 100000 in
set_option maxHeartbeats 4000000 in
theorem rsend_tf0 (sn nesn : Int) (ack tak : Nat) (A : Option Addr) (c : Nat) (o : Nat) (w : World) (ho : o ≤ w.heap.size)  :
   Calls Try.prog 31 #[.agg #[.int .i64 sn, .int .i64 nesn, .slice A 0 c, .bool true, .bool false, .int .i64 ack, .int .i64 tak]] w fun e w' => RSent w w' e ⟨sn, nesn, [], true, false, ack, tak⟩ (.slice A 0 c) o := by
 have BX : Below w.heap.size w (((w.alloc (.cells #[.int .i64 sn, .int .i64 nesn, .slice A 0 c, .bool true, .bool false, .int .i64 ack, .int .i64 tak] 43)).alloc (.cells #[.int .i64 0, .int .i64 0, .slice none 0 0, .bool false, .bool false, .int .i64 0, .int .i64 0] 43)).alloc (.cells #[.int .i64 0, .int .i64 0, .int .i64 0, .int .i64 0, .slice none 0 0] 26)) := (((Below.refl _ _).alloc (Nat.le_refl _) _).alloc (by simp) _).alloc (by simp; omega) _
 have K1 : Blk (((w.alloc (.cells #[.int .i64 sn, .int .i64 nesn, .slice A 0 c, .bool true, .bool false, .int .i64 ack, .int .i64 tak] 43)).alloc (.cells #[.int .i64 0, .int .i64 0, .slice none 0 0, .bool false, .bool false, .int .i64 0, .int .i64 0] 43)).alloc (.cells #[.int .i64 0, .int .i64 0, .int .i64 0, .int .i64 0, .slice none 0 0] 26)) w.heap.size 43 #[.int .i64 sn, .int .i64 nesn, .slice A 0 c, .bool true, .bool false, .int .i64 ack, .int .i64 tak] := ((Blk.fresh w 43 #[.int .i64 sn, .int .i64 nesn, .slice A 0 c, .bool true, .bool false, .int .i64 ack, .int .i64 tak]).alloc _).alloc _
 have K2 : Blk (((w.alloc (.cells #[.int .i64 sn, .int .i64 nesn, .slice A 0 c, .bool true, .bool false, .int .i64 ack, .int .i64 tak] 43)).alloc (.cells #[.int .i64 0, .int .i64 0, .slice none 0 0, .bool false, .bool false, .int .i64 0, .int .i64 0] 43)).alloc (.cells #[.int .i64 0, .int .i64 0, .int .i64 0, .int .i64 0, .slice none 0 0] 26)) (w.heap.size + 1) 43 #[.int .i64 0, .int .i64 0, .slice none 0 0, .bool false, .bool false, .int .i64 0, .int .i64 0] := (Av.Blk.next).alloc _
 have K3 : Blk (((w.alloc (.cells #[.int .i64 sn, .int .i64 nesn, .slice A 0 c, .bool true, .bool false, .int .i64 ack, .int .i64 tak] 43)).alloc (.cells #[.int .i64 0, .int .i64 0, .slice none 0 0, .bool false, .bool false, .int .i64 0, .int .i64 0] 43)).alloc (.cells #[.int .i64 0, .int .i64 0, .int .i64 0, .int .i64 0, .slice none 0 0] 26)) (w.heap.size + 2) 26 #[.int .i64 0, .int .i64 0, .int .i64 0, .int .i64 0, .slice none 0 0] := by
     have := Blk.fresh ((w.alloc (.cells #[.int .i64 sn, .int .i64 nesn, .slice A 0 c, .bool true, .bool false, .int .i64 ack, .int .i64 tak] 43)).alloc (.cells #[.int .i64 0, .int .i64 0, .slice none 0 0, .bool false, .bool false, .int .i64 0, .int .i64 0] 43)) 26 #[.int .i64 0, .int .i64 0, .int .i64 0, .int .i64 0, .slice none 0 0]
     simpa using this
 have HO : Hid (openR ⟨sn, nesn, [], true, false, ack, tak⟩ = ⟨sn, nesn, [], true, false, ack, tak⟩ ∧ Pm.p ⟨1, none, 0, []⟩ = (pduR (openR ⟨sn, nesn, [], true, false, ack, tak⟩)).pk) := Lib.hid ⟨rfl, by simp [openR, pduR]; rfl⟩
 have hmd : (pduR ⟨sn, nesn, [], true, false, ack, tak⟩).md = 0 := by simp [pduR]
 have gz : (((0 : Nat) : Int) == 0) = true := rfl
 have g1 : ¬ (0 : Int) < 0 := by omega
 have g8 : ¬ ((0 : Int) < ((0 : Nat) : Int)) := by omega
 skip
 go_enter Try.func31, Try.ntmps31
 go_upto_region 1 with (fail)
 generalize ((w.alloc (.cells #[.int .i64 sn, .int .i64 nesn, .slice A 0 c, .bool true, .bool false, .int .i64 ack, .int .i64 tak] 43)).alloc (.cells #[.int .i64 0, .int .i64 0, .slice none 0 0, .bool false, .bool false, .int .i64 0, .int .i64 0] 43)).alloc (.cells #[.int .i64 0, .int .i64 0, .int .i64 0, .int .i64 0, .slice none 0 0] 26) = W2 at *
 have p3 := K1.cell 3
 have p2 := K1.cell 2
 have hs3 := K3.lt
 go_upto_region 4 with (fail)
 clear p3 p2
 clear gz
 have HB := Lib.hid rblankpk_any
 go_cut [4] from 15 to 20 (fun s4 wx => ∃ g6, s4 = .pointer (some ⟨g6, 0, none⟩) ∧ w.heap.size + 3 ≤ g6 ∧ Blk wx g6 26 #[.int .i64 sn, .int .i64 nesn, .int .i64 0, .int .i64 1, .slice none 0 0] ∧ Blk wx (w.heap.size) 43 #[.int .i64 sn, .int .i64 nesn, .slice A 0 c, .bool true, .bool false, .int .i64 ack, .int .i64 tak] ∧ Blk wx (w.heap.size + 1) 43 #[.int .i64 0, .int .i64 0, .slice none 0 0, .bool false, .bool false, .int .i64 0, .int .i64 0] ∧ Blk wx (w.heap.size + 2) 26 #[.int .i64 0, .int .i64 0, .int .i64 0, .int .i64 0, .slice none 0 0] ∧ Below w.heap.size w wx)
 case first =>
  have K1' : Blk W2.drew (w.heap.size) 43 #[.int .i64 sn, .int .i64 nesn, .slice A 0 c, .bool true, .bool false, .int .i64 ack, .int .i64 tak] := Mem.Blk.drew K1
  have K2' : Blk W2.drew (w.heap.size + 1) 43 #[.int .i64 0, .int .i64 0, .slice none 0 0, .bool false, .bool false, .int .i64 0, .int .i64 0] := Mem.Blk.drew K2
  have K3' : Blk W2.drew (w.heap.size + 2) 26 #[.int .i64 0, .int .i64 0, .int .i64 0, .int .i64 0, .slice none 0 0] := Mem.Blk.drew K3
  refine wp_region_held_drew (S := (fun w' => Blk w' (w.heap.size) 43 #[.int .i64 sn, .int .i64 nesn, .slice A 0 c, .bool true, .bool false, .int .i64 ack, .int .i64 tak])) (by kernel_rfl) ?_ (fun hHeld => ?_)
  ·
    exact K1'
  replace K1 := K1'
  clear K1'
  replace K2 := K2'
  clear K2'
  replace K3 := K3'
  clear K3'
  replace BX : Below w.heap.size w W2.drew := BX.drew
  generalize W2.drew = X0 at *
  refine wpAnyH_take (i := 0) (v := .pointer (some ⟨w.heap.size, 0, none⟩)) rfl (by kernel_rfl) (by kernel_rfl) (by kernel_rfl) (fun _ _ _ h => h) (.inl ⟨by first | rfl | go_simp, by intro u h; (try dsimp only at h); go_simp⟩) ‹_› ?_
  simp only [getElem_toArray, getElem_cons_zero, getElem_cons_succ, Act.put, setIfInBounds_toArray, set_cons_zero, set_cons_succ]
  refine wpAnyH_take (i := 1) (v := .int .i64 sn) rfl (by kernel_rfl) (by kernel_rfl) (by kernel_rfl) (fun _ _ _ h => h) (Or.inl ⟨by first | rfl | go_simp, by intro w9 hSw; (try dsimp only at hSw); have c9 := hSw.cell 0; clear hSw; go_simp⟩) ‹_› ?_
  simp only [getElem_toArray, getElem_cons_zero, getElem_cons_succ, Act.put, setIfInBounds_toArray, set_cons_zero, set_cons_succ]
  refine wpAnyH_take (i := 2) (v := .pointer (some ⟨w.heap.size, 1, none⟩)) rfl (by kernel_rfl) (by kernel_rfl) (by kernel_rfl) (fun _ _ _ h => h) (.inl ⟨by first | rfl | go_simp, by intro u h; (try dsimp only at h); go_simp⟩) ‹_› ?_
  simp only [getElem_toArray, getElem_cons_zero, getElem_cons_succ, Act.put, setIfInBounds_toArray, set_cons_zero, set_cons_succ]
  refine wpAnyH_take (i := 3) (v := .int .i64 nesn) rfl (by kernel_rfl) (by kernel_rfl) (by kernel_rfl) (fun _ _ _ h => h) (Or.inl ⟨by first | rfl | go_simp, by intro w9 hSw; (try dsimp only at hSw); have c9 := hSw.cell 1; clear hSw; go_simp⟩) ‹_› ?_
  simp only [getElem_toArray, getElem_cons_zero, getElem_cons_succ, Act.put, setIfInBounds_toArray, set_cons_zero, set_cons_succ]
  refine wpAnyH_ready (rs := [4, 6]) (by kernel_rfl) (by simp) ?_
  refine AllReadyH.cons rfl (fun K hK => ?_) (AllReadyH.cons rfl (fun K hK => ?_) (AllReadyH.nil))
  ·
    go_simp
    refine (HB.out X0).mono ?_
    rintro e X1 ⟨rfl, b9⟩
    replace K1 := K1.below b9 K1.lt
    replace K2 := K2.below b9 K2.lt
    replace K3 := K3.below b9 K3.lt
    replace BX := thenB BX b9
    clear b9
    refine hK.out _ _ K1 (fun hHeld => ?_)
    clear hK K
    try simp only [getElem_toArray, getElem_cons_zero, getElem_cons_succ, Act.put, setIfInBounds_toArray, set_cons_zero, set_cons_succ]
    refine wpAnyH_take (i := 5) (v := .agg #[.int .i64 sn, .int .i64 nesn, .int .i64 0, .int .i64 1, .slice none 0 0]) rfl (by kernel_rfl) (by kernel_rfl) (by kernel_rfl) (fun _ _ _ h => h) (.inl ⟨by first | rfl | go_simp, by intro u h; (try dsimp only at h); go_simp⟩) ‹_› ?_
    simp only [getElem_toArray, getElem_cons_zero, getElem_cons_succ, Act.put, setIfInBounds_toArray, set_cons_zero, set_cons_succ]
    refine wpAnyH_ready (rs := [6]) (by kernel_rfl) (by simp) ?_
    refine .cons rfl (fun K hK => ?_) .nil
    go_simp
    have b9 := (Below.refl X1.heap.size X1).alloc (Nat.le_refl _) (.cells #[.int .i64 0, .int .i64 0, .int .i64 0, .int .i64 0, .slice none 0 0] 26)
    have K6 : Blk (X1.alloc (.cells #[.int .i64 0, .int .i64 0, .int .i64 0, .int .i64 0, .slice none 0 0] 26)) X1.heap.size 26 #[.int .i64 0, .int .i64 0, .int .i64 0, .int .i64 0, .slice none 0 0] := Blk.fresh X1 26 #[.int .i64 0, .int .i64 0, .int .i64 0, .int .i64 0, .slice none 0 0]
    have hx6 : w.heap.size + 3 ≤ X1.heap.size := by have := K3.lt; omega
    replace K1 := K1.below b9 K1.lt
    replace K2 := K2.below b9 K2.lt
    replace K3 := K3.below b9 K3.lt
    replace BX := thenB BX b9
    clear b9
    generalize X1.alloc (.cells #[.int .i64 0, .int .i64 0, .int .i64 0, .int .i64 0, .slice none 0 0] 26) = X2 at *
    refine hK.out _ _ K1 (fun hHeld => ?_)
    clear hK K
    try simp only [getElem_toArray, getElem_cons_zero, getElem_cons_succ, Act.put, setIfInBounds_toArray, set_cons_zero, set_cons_succ]
    refine wpAnyH_ready (rs := [7]) (by kernel_rfl) (by simp) ?_
    refine .cons rfl (fun K hK => ?_) .nil
    have H9 : (#[.int .i64 sn, .int .i64 nesn, .int .i64 0, .int .i64 1, .slice none 0 0] : Array Value).all (·.oneCell') = true := by rw [← Array.all_toList]; rfl
    refine Av.step_store_row rfl 26 (.tmp 4) (.tmp 20) rfl (X1.heap.size) #[.int .i64 sn, .int .i64 nesn, .int .i64 0, .int .i64 1, .slice none 0 0] rfl rfl 26 _ K6 (by kernel_rfl) rfl H9 ?_
    replace K1 : Blk (X2.setRow (X1.heap.size) #[.int .i64 sn, .int .i64 nesn, .int .i64 0, .int .i64 1, .slice none 0 0]) (w.heap.size) 43 #[.int .i64 sn, .int .i64 nesn, .slice A 0 c, .bool true, .bool false, .int .i64 ack, .int .i64 tak] := Av.bother_row K1 (by omega)
    replace K2 : Blk (X2.setRow (X1.heap.size) #[.int .i64 sn, .int .i64 nesn, .int .i64 0, .int .i64 1, .slice none 0 0]) (w.heap.size + 1) 43 #[.int .i64 0, .int .i64 0, .slice none 0 0, .bool false, .bool false, .int .i64 0, .int .i64 0] := Av.bother_row K2 (by omega)
    replace K3 : Blk (X2.setRow (X1.heap.size) #[.int .i64 sn, .int .i64 nesn, .int .i64 0, .int .i64 1, .slice none 0 0]) (w.heap.size + 2) 26 #[.int .i64 0, .int .i64 0, .int .i64 0, .int .i64 0, .slice none 0 0] := Av.bother_row K3 (by omega)
    replace K6 : Blk (X2.setRow (X1.heap.size) #[.int .i64 sn, .int .i64 nesn, .int .i64 0, .int .i64 1, .slice none 0 0]) (X1.heap.size) 26 #[.int .i64 sn, .int .i64 nesn, .int .i64 0, .int .i64 1, .slice none 0 0] := Av.bset_row K6
    replace BX : Below w.heap.size w (X2.setRow (X1.heap.size) #[.int .i64 sn, .int .i64 nesn, .int .i64 0, .int .i64 1, .slice none 0 0]) := below_setRow BX (by omega) _
    clear H9
    generalize X2.setRow (X1.heap.size) #[.int .i64 sn, .int .i64 nesn, .int .i64 0, .int .i64 1, .slice none 0 0] = X3 at *
    refine hK.out _ _ K1 (fun hHeld => ?_)
    clear hK K
    try simp only [getElem_toArray, getElem_cons_zero, getElem_cons_succ, Act.put, setIfInBounds_toArray, set_cons_zero, set_cons_succ]
    refine wpAnyH_done (by kernel_rfl) ?_ _
    clear hHeld
    go_wp2_with fail
    go_meet
    exact ⟨X1.heap.size, rfl, hx6, K6, K1, K2, K3, BX⟩
  ·
    go_simp
    have b9 := (Below.refl X0.heap.size X0).alloc (Nat.le_refl _) (.cells #[.int .i64 0, .int .i64 0, .int .i64 0, .int .i64 0, .slice none 0 0] 26)
    have K6 : Blk (X0.alloc (.cells #[.int .i64 0, .int .i64 0, .int .i64 0, .int .i64 0, .slice none 0 0] 26)) X0.heap.size 26 #[.int .i64 0, .int .i64 0, .int .i64 0, .int .i64 0, .slice none 0 0] := Blk.fresh X0 26 #[.int .i64 0, .int .i64 0, .int .i64 0, .int .i64 0, .slice none 0 0]
    have hx6 : w.heap.size + 3 ≤ X0.heap.size := by have := K3.lt; omega
    replace K1 := K1.below b9 K1.lt
    replace K2 := K2.below b9 K2.lt
    replace K3 := K3.below b9 K3.lt
    replace BX := thenB BX b9
    clear b9
    generalize X0.alloc (.cells #[.int .i64 0, .int .i64 0, .int .i64 0, .int .i64 0, .slice none 0 0] 26) = X4 at *
    refine hK.out _ _ K1 (fun hHeld => ?_)
    clear hK K
    try simp only [getElem_toArray, getElem_cons_zero, getElem_cons_succ, Act.put, setIfInBounds_toArray, set_cons_zero, set_cons_succ]
    refine wpAnyH_ready (rs := [4]) (by kernel_rfl) (by simp) ?_
    refine .cons rfl (fun K hK => ?_) .nil
    go_simp
    refine (HB.out X4).mono ?_
    rintro e X5 ⟨rfl, b9⟩
    replace K1 := K1.below b9 K1.lt
    replace K2 := K2.below b9 K2.lt
    replace K3 := K3.below b9 K3.lt
    replace K6 := K6.below b9 K6.lt
    replace BX := thenB BX b9
    clear b9
    refine hK.out _ _ K1 (fun hHeld => ?_)
    clear hK K
    try simp only [getElem_toArray, getElem_cons_zero, getElem_cons_succ, Act.put, setIfInBounds_toArray, set_cons_zero, set_cons_succ]
    refine wpAnyH_take (i := 5) (v := .agg #[.int .i64 sn, .int .i64 nesn, .int .i64 0, .int .i64 1, .slice none 0 0]) rfl (by kernel_rfl) (by kernel_rfl) (by kernel_rfl) (fun _ _ _ h => h) (.inl ⟨by first | rfl | go_simp, by intro u h; (try dsimp only at h); go_simp⟩) ‹_› ?_
    simp only [getElem_toArray, getElem_cons_zero, getElem_cons_succ, Act.put, setIfInBounds_toArray, set_cons_zero, set_cons_succ]
    refine wpAnyH_ready (rs := [7]) (by kernel_rfl) (by simp) ?_
    refine .cons rfl (fun K hK => ?_) .nil
    have H9 : (#[.int .i64 sn, .int .i64 nesn, .int .i64 0, .int .i64 1, .slice none 0 0] : Array Value).all (·.oneCell') = true := by rw [← Array.all_toList]; rfl
    refine Av.step_store_row rfl 26 (.tmp 4) (.tmp 20) rfl (X0.heap.size) #[.int .i64 sn, .int .i64 nesn, .int .i64 0, .int .i64 1, .slice none 0 0] rfl rfl 26 _ K6 (by kernel_rfl) rfl H9 ?_
    replace K1 : Blk (X5.setRow (X0.heap.size) #[.int .i64 sn, .int .i64 nesn, .int .i64 0, .int .i64 1, .slice none 0 0]) (w.heap.size) 43 #[.int .i64 sn, .int .i64 nesn, .slice A 0 c, .bool true, .bool false, .int .i64 ack, .int .i64 tak] := Av.bother_row K1 (by omega)
    replace K2 : Blk (X5.setRow (X0.heap.size) #[.int .i64 sn, .int .i64 nesn, .int .i64 0, .int .i64 1, .slice none 0 0]) (w.heap.size + 1) 43 #[.int .i64 0, .int .i64 0, .slice none 0 0, .bool false, .bool false, .int .i64 0, .int .i64 0] := Av.bother_row K2 (by omega)
    replace K3 : Blk (X5.setRow (X0.heap.size) #[.int .i64 sn, .int .i64 nesn, .int .i64 0, .int .i64 1, .slice none 0 0]) (w.heap.size + 2) 26 #[.int .i64 0, .int .i64 0, .int .i64 0, .int .i64 0, .slice none 0 0] := Av.bother_row K3 (by omega)
    replace K6 : Blk (X5.setRow (X0.heap.size) #[.int .i64 sn, .int .i64 nesn, .int .i64 0, .int .i64 1, .slice none 0 0]) (X0.heap.size) 26 #[.int .i64 sn, .int .i64 nesn, .int .i64 0, .int .i64 1, .slice none 0 0] := Av.bset_row K6
    replace BX : Below w.heap.size w (X5.setRow (X0.heap.size) #[.int .i64 sn, .int .i64 nesn, .int .i64 0, .int .i64 1, .slice none 0 0]) := below_setRow BX (by omega) _
    clear H9
    generalize X5.setRow (X0.heap.size) #[.int .i64 sn, .int .i64 nesn, .int .i64 0, .int .i64 1, .slice none 0 0] = X6 at *
    refine hK.out _ _ K1 (fun hHeld => ?_)
    clear hK K
    try simp only [getElem_toArray, getElem_cons_zero, getElem_cons_succ, Act.put, setIfInBounds_toArray, set_cons_zero, set_cons_succ]
    refine wpAnyH_done (by kernel_rfl) ?_ _
    clear hHeld
    go_wp2_with fail
    go_meet
    exact ⟨X0.heap.size, rfl, hx6, K6, K1, K2, K3, BX⟩
 case rest =>
  obtain ⟨g6, rfl, hx6, K6, K1, K2, K3, BX⟩ := hcut
  clear HB
  have p2 := K1.cell 2
  have p4 := K1.cell 4
  have HX : PP wc o ⟨1, none, 0, []⟩ := ⟨Nat.le_refl _, Nat.zero_le _, fun z hz => absurd hz (by simp), .inl (.inl rfl)⟩
  go_upto_region 11 with (fail)
  clear p2 p4
  have K1' : Blk wc.drew (w.heap.size) 43 #[.int .i64 sn, .int .i64 nesn, .slice A 0 c, .bool true, .bool false, .int .i64 ack, .int .i64 tak] := Mem.Blk.drew K1
  have K2' : Blk wc.drew (w.heap.size + 1) 43 #[.int .i64 0, .int .i64 0, .slice none 0 0, .bool false, .bool false, .int .i64 0, .int .i64 0] := Mem.Blk.drew K2
  have K3' : Blk wc.drew (w.heap.size + 2) 26 #[.int .i64 0, .int .i64 0, .int .i64 0, .int .i64 0, .slice none 0 0] := Mem.Blk.drew K3
  have K6' : Blk wc.drew (g6) 26 #[.int .i64 sn, .int .i64 nesn, .int .i64 0, .int .i64 1, .slice none 0 0] := Mem.Blk.drew K6
  refine wp_region_held_drew (S := (fun w' => Blk w' (g6) 26 #[.int .i64 sn, .int .i64 nesn, .int .i64 0, .int .i64 1, .slice none 0 0] ∧ Blk w' (w.heap.size) 43 #[.int .i64 sn, .int .i64 nesn, .slice A 0 c, .bool true, .bool false, .int .i64 ack, .int .i64 tak])) (by kernel_rfl) ?_ (fun hHeld => ?_)
  ·
    exact ⟨K6', K1'⟩
  replace K1 := K1'
  clear K1'
  replace K2 := K2'
  clear K2'
  replace K3 := K3'
  clear K3'
  replace K6 := K6'
  clear K6'
  replace BX : Below w.heap.size w wc.drew := BX.drew
  replace HX := (show PP wc.drew o ⟨1, none, 0, []⟩ from HX.below ((Below.refl wc.heap.size wc).drew))
  generalize wc.drew = Z0 at *
  refine wpAnyH_take (i := 0) (v := .agg #[.int .i64 sn, .int .i64 nesn, .slice A 0 c, .bool true, .bool false, .int .i64 ack, .int .i64 tak]) rfl (by kernel_rfl) (by kernel_rfl) (by kernel_rfl) (fun _ _ _ h => h) (Av.yields_part (by first | rfl | go_simp) _ _ rfl (w.heap.size) 0 rfl #[.int .i64 sn, .int .i64 nesn, .slice A 0 c, .bool true, .bool false, .int .i64 ack, .int .i64 tak] _ 43 #[.int .i64 sn, .int .i64 nesn, .slice A 0 c, .bool true, .bool false, .int .i64 ack, .int .i64 tak] (fun w9 hSw => hSw.2) rfl Try.underlying43 rfl (by kernel_rfl)) ‹_› ?_
  simp only [getElem_toArray, getElem_cons_zero, getElem_cons_succ, Act.put, setIfInBounds_toArray, set_cons_zero, set_cons_succ]
  refine wpAnyH_take (i := 1) (v := .agg #[.int .i64 sn, .int .i64 nesn, .int .i64 0, .int .i64 1, .slice none 0 0]) rfl (by kernel_rfl) (by kernel_rfl) (by kernel_rfl) (fun _ _ _ h => h) (Av.yields_part (by first | rfl | go_simp) _ _ rfl (g6) 0 rfl #[.int .i64 sn, .int .i64 nesn, .int .i64 0, .int .i64 1, .slice none 0 0] _ 26 #[.int .i64 sn, .int .i64 nesn, .int .i64 0, .int .i64 1, .slice none 0 0] (fun w9 hSw => hSw.1) rfl Try.underlying26 rfl (by kernel_rfl)) ‹_› ?_
  simp only [getElem_toArray, getElem_cons_zero, getElem_cons_succ, Act.put, setIfInBounds_toArray, set_cons_zero, set_cons_succ]
  refine wpAnyH_ready (rs := [2]) (by kernel_rfl) (by simp) ?_
  refine .cons rfl (fun K hK => ?_) .nil
  have H9 : (#[.int .i64 sn, .int .i64 nesn, .slice A 0 c, .bool true, .bool false, .int .i64 ack, .int .i64 tak] : Array Value).all (·.oneCell') = true := by rw [← Array.all_toList]; rfl
  refine Av.step_store_row rfl 43 (.tmp 2) (.tmp 41) rfl (w.heap.size + 1) #[.int .i64 sn, .int .i64 nesn, .slice A 0 c, .bool true, .bool false, .int .i64 ack, .int .i64 tak] rfl rfl 43 _ K2 (by kernel_rfl) rfl H9 ?_
  replace HX := HX.step (stp_row K2 #[.int .i64 sn, .int .i64 nesn, .slice A 0 c, .bool true, .bool false, .int .i64 ack, .int .i64 tak]) (by decide) (show o ≤ w.heap.size + 1 by omega)
  replace K1 : Blk (Z0.setRow (w.heap.size + 1) #[.int .i64 sn, .int .i64 nesn, .slice A 0 c, .bool true, .bool false, .int .i64 ack, .int .i64 tak]) (w.heap.size) 43 #[.int .i64 sn, .int .i64 nesn, .slice A 0 c, .bool true, .bool false, .int .i64 ack, .int .i64 tak] := Av.bother_row K1 (by omega)
  replace K2 : Blk (Z0.setRow (w.heap.size + 1) #[.int .i64 sn, .int .i64 nesn, .slice A 0 c, .bool true, .bool false, .int .i64 ack, .int .i64 tak]) (w.heap.size + 1) 43 #[.int .i64 sn, .int .i64 nesn, .slice A 0 c, .bool true, .bool false, .int .i64 ack, .int .i64 tak] := Av.bset_row K2
  replace K3 : Blk (Z0.setRow (w.heap.size + 1) #[.int .i64 sn, .int .i64 nesn, .slice A 0 c, .bool true, .bool false, .int .i64 ack, .int .i64 tak]) (w.heap.size + 2) 26 #[.int .i64 0, .int .i64 0, .int .i64 0, .int .i64 0, .slice none 0 0] := Av.bother_row K3 (by omega)
  replace K6 : Blk (Z0.setRow (w.heap.size + 1) #[.int .i64 sn, .int .i64 nesn, .slice A 0 c, .bool true, .bool false, .int .i64 ack, .int .i64 tak]) (g6) 26 #[.int .i64 sn, .int .i64 nesn, .int .i64 0, .int .i64 1, .slice none 0 0] := Av.bother_row K6 (by omega)
  replace BX : Below w.heap.size w (Z0.setRow (w.heap.size + 1) #[.int .i64 sn, .int .i64 nesn, .slice A 0 c, .bool true, .bool false, .int .i64 ack, .int .i64 tak]) := below_setRow BX (by omega) _
  clear H9
  generalize Z0.setRow (w.heap.size + 1) #[.int .i64 sn, .int .i64 nesn, .slice A 0 c, .bool true, .bool false, .int .i64 ack, .int .i64 tak] = Z1 at *
  refine hK.out _ _ ⟨K6, K1⟩ (fun hHeld => ?_)
  clear hK K
  try simp only [getElem_toArray, getElem_cons_zero, getElem_cons_succ, Act.put, setIfInBounds_toArray, set_cons_zero, set_cons_succ]
  refine wpAnyH_ready (rs := [3]) (by kernel_rfl) (by simp) ?_
  refine .cons rfl (fun K hK => ?_) .nil
  have H9 : (#[.int .i64 sn, .int .i64 nesn, .int .i64 0, .int .i64 1, .slice none 0 0] : Array Value).all (·.oneCell') = true := by rw [← Array.all_toList]; rfl
  refine Av.step_store_row rfl 26 (.tmp 3) (.tmp 42) rfl (w.heap.size + 2) #[.int .i64 sn, .int .i64 nesn, .int .i64 0, .int .i64 1, .slice none 0 0] rfl rfl 26 _ K3 (by kernel_rfl) rfl H9 ?_
  replace HX := HX.step (stp_row K3 #[.int .i64 sn, .int .i64 nesn, .int .i64 0, .int .i64 1, .slice none 0 0]) (by decide) (show o ≤ w.heap.size + 2 by omega)
  replace K1 : Blk (Z1.setRow (w.heap.size + 2) #[.int .i64 sn, .int .i64 nesn, .int .i64 0, .int .i64 1, .slice none 0 0]) (w.heap.size) 43 #[.int .i64 sn, .int .i64 nesn, .slice A 0 c, .bool true, .bool false, .int .i64 ack, .int .i64 tak] := Av.bother_row K1 (by omega)
  replace K2 : Blk (Z1.setRow (w.heap.size + 2) #[.int .i64 sn, .int .i64 nesn, .int .i64 0, .int .i64 1, .slice none 0 0]) (w.heap.size + 1) 43 #[.int .i64 sn, .int .i64 nesn, .slice A 0 c, .bool true, .bool false, .int .i64 ack, .int .i64 tak] := Av.bother_row K2 (by omega)
  replace K3 : Blk (Z1.setRow (w.heap.size + 2) #[.int .i64 sn, .int .i64 nesn, .int .i64 0, .int .i64 1, .slice none 0 0]) (w.heap.size + 2) 26 #[.int .i64 sn, .int .i64 nesn, .int .i64 0, .int .i64 1, .slice none 0 0] := Av.bset_row K3
  replace K6 : Blk (Z1.setRow (w.heap.size + 2) #[.int .i64 sn, .int .i64 nesn, .int .i64 0, .int .i64 1, .slice none 0 0]) (g6) 26 #[.int .i64 sn, .int .i64 nesn, .int .i64 0, .int .i64 1, .slice none 0 0] := Av.bother_row K6 (by omega)
  replace BX : Below w.heap.size w (Z1.setRow (w.heap.size + 2) #[.int .i64 sn, .int .i64 nesn, .int .i64 0, .int .i64 1, .slice none 0 0]) := below_setRow BX (by omega) _
  clear H9
  generalize Z1.setRow (w.heap.size + 2) #[.int .i64 sn, .int .i64 nesn, .int .i64 0, .int .i64 1, .slice none 0 0] = Z2 at *
  refine hK.out _ _ ⟨K6, K1⟩ (fun hHeld => ?_)
  clear hK K
  try simp only [getElem_toArray, getElem_cons_zero, getElem_cons_succ, Act.put, setIfInBounds_toArray, set_cons_zero, set_cons_succ]
  refine wpAnyH_done (by kernel_rfl) ?_ _
  go_wp2_with fail
  refine bodyPost_ret (v := .tuple #[.agg #[.int .i64 sn, .int .i64 nesn, .slice A 0 c, .bool true, .bool false, .int .i64 ack, .int .i64 tak], .agg #[.int .i64 sn, .int .i64 nesn, .int .i64 0, .int .i64 1, .slice none 0 0]]) ?_ rfl ⟨⟨1, none, 0, []⟩, by rw [HO.out.1, (pdu_bits _).1, (pdu_bits _).2.1, hmd]; rfl, HO.out.2, HX, BX⟩
  clear hHeld K1 K6
  have HLa := run_loadVar_row (P := Try.prog) Z2 (w.heap.size + 1) 43 43 #[.int .i64 sn, .int .i64 nesn, .slice A 0 c, .bool true, .bool false, .int .i64 ack, .int .i64 tak] (0, 0) _ K2 Try.underlying43 rfl (by kernel_rfl)
  have HLb := run_loadVar_row (P := Try.prog) Z2 (w.heap.size + 2) 26 26 #[.int .i64 sn, .int .i64 nesn, .int .i64 0, .int .i64 1, .slice none 0 0] (0, 0) _ K3 Try.underlying26 rfl (by kernel_rfl)
  generalize (#[.int .i64 sn, .int .i64 nesn, .slice A 0 c, .bool true, .bool false, .int .i64 ack, .int .i64 tak] : Array Value) = CS at *
  generalize (#[.int .i64 sn, .int .i64 nesn, .int .i64 0, .int .i64 1, .slice none 0 0] : Array Value) = CP at *
  simp [results, show (Try.f31).results = #[.cell 2 43, .cell 3 26] from rfl, asAddr, HLa, HLb, Act.put]
set_option maxRecDepth 100000 in
set_option maxHeartbeats 4000000 in
theorem rsend_tf1 (sn nesn : Int) (ack tak : Nat) (x : Pm) (r : List Pm) (y : Pk) (q' : List Pk) (b0 off0 n c : Nat) (o : Nat) (w : World) (ho : o ≤ w.heap.size) (hn : n ≤ 1000000) (hq : QQ w 0 o (.slice (some ⟨b0, off0, none⟩) n c) (x :: r)) (hxy : x.p = y) (hmq : r.map Pm.p = q') (hnl : r.length + 1 = n) (h1 : n = 1) :
   Calls Try.prog 31 #[.agg #[.int .i64 sn, .int .i64 nesn, .slice (some ⟨b0, off0, none⟩) n c, .bool true, .bool false, .int .i64 ack, .int .i64 tak]] w fun e w' => RSent w w' e ⟨sn, nesn, (y :: q'), true, false, ack, tak⟩ (.slice (some ⟨b0, off0, none⟩) n c) o := by
 have BX : Below w.heap.size w (((w.alloc (.cells #[.int .i64 sn, .int .i64 nesn, .slice (some ⟨b0, off0, none⟩) n c, .bool true, .bool false, .int .i64 ack, .int .i64 tak] 43)).alloc (.cells #[.int .i64 0, .int .i64 0, .slice none 0 0, .bool false, .bool false, .int .i64 0, .int .i64 0] 43)).alloc (.cells #[.int .i64 0, .int .i64 0, .int .i64 0, .int .i64 0, .slice none 0 0] 26)) := (((Below.refl _ _).alloc (Nat.le_refl _) _).alloc (by simp) _).alloc (by simp; omega) _
 have K1 : Blk (((w.alloc (.cells #[.int .i64 sn, .int .i64 nesn, .slice (some ⟨b0, off0, none⟩) n c, .bool true, .bool false, .int .i64 ack, .int .i64 tak] 43)).alloc (.cells #[.int .i64 0, .int .i64 0, .slice none 0 0, .bool false, .bool false, .int .i64 0, .int .i64 0] 43)).alloc (.cells #[.int .i64 0, .int .i64 0, .int .i64 0, .int .i64 0, .slice none 0 0] 26)) w.heap.size 43 #[.int .i64 sn, .int .i64 nesn, .slice (some ⟨b0, off0, none⟩) n c, .bool true, .bool false, .int .i64 ack, .int .i64 tak] := ((Blk.fresh w 43 #[.int .i64 sn, .int .i64 nesn, .slice (some ⟨b0, off0, none⟩) n c, .bool true, .bool false, .int .i64 ack, .int .i64 tak]).alloc _).alloc _
 have K2 : Blk (((w.alloc (.cells #[.int .i64 sn, .int .i64 nesn, .slice (some ⟨b0, off0, none⟩) n c, .bool true, .bool false, .int .i64 ack, .int .i64 tak] 43)).alloc (.cells #[.int .i64 0, .int .i64 0, .slice none 0 0, .bool false, .bool false, .int .i64 0, .int .i64 0] 43)).alloc (.cells #[.int .i64 0, .int .i64 0, .int .i64 0, .int .i64 0, .slice none 0 0] 26)) (w.heap.size + 1) 43 #[.int .i64 0, .int .i64 0, .slice none 0 0, .bool false, .bool false, .int .i64 0, .int .i64 0] := (Av.Blk.next).alloc _
 have K3 : Blk (((w.alloc (.cells #[.int .i64 sn, .int .i64 nesn, .slice (some ⟨b0, off0, none⟩) n c, .bool true, .bool false, .int .i64 ack, .int .i64 tak] 43)).alloc (.cells #[.int .i64 0, .int .i64 0, .slice none 0 0, .bool false, .bool false, .int .i64 0, .int .i64 0] 43)).alloc (.cells #[.int .i64 0, .int .i64 0, .int .i64 0, .int .i64 0, .slice none 0 0] 26)) (w.heap.size + 2) 26 #[.int .i64 0, .int .i64 0, .int .i64 0, .int .i64 0, .slice none 0 0] := by
     have := Blk.fresh ((w.alloc (.cells #[.int .i64 sn, .int .i64 nesn, .slice (some ⟨b0, off0, none⟩) n c, .bool true, .bool false, .int .i64 ack, .int .i64 tak] 43)).alloc (.cells #[.int .i64 0, .int .i64 0, .slice none 0 0, .bool false, .bool false, .int .i64 0, .int .i64 0] 43)) 26 #[.int .i64 0, .int .i64 0, .int .i64 0, .int .i64 0, .slice none 0 0]
     simpa using this
 have HQ := hq.below BX
 have hrq : q' = [] ↔ n = 1 := by
     rw [← hmq, List.map_eq_nil_iff]
     constructor
     ·
      intro h; rw [h] at hnl; simpa using hnl.symm
     ·
      intro h; exact List.eq_nil_of_length_eq_zero (by omega)
 have HO : Hid (openR ⟨sn, nesn, (y :: q'), true, false, ack, tak⟩ = ⟨sn, nesn, (y :: q'), true, false, ack, tak⟩ ∧ Pm.p x = (pduR (openR ⟨sn, nesn, (y :: q'), true, false, ack, tak⟩)).pk) := Lib.hid ⟨rfl, by simp [openR, pduR, hxy]⟩
 have hmd : (pduR ⟨sn, nesn, (y :: q'), true, false, ack, tak⟩).md = 0 := by simp [pduR, hrq, h1]
 have gz : ((n : Int) == 0) = false := n_pos (by omega)
 have g1 : (0 : Int) < (n : Int) := by omega
 have eB : IntKind.i64.wrap ((n : Int) - 1) = (n : Int) - 1 := by rw [IntWalk.i64_in _ (by omega)]
 have g2 : ¬ (0 : Int) < (n : Int) - 1 := by omega
 clear hq hxy hmq hnl hrq h1
 go_enter Try.func31, Try.ntmps31
 go_upto_region 1 with (fail)
 generalize ((w.alloc (.cells #[.int .i64 sn, .int .i64 nesn, .slice (some ⟨b0, off0, none⟩) n c, .bool true, .bool false, .int .i64 ack, .int .i64 tak] 43)).alloc (.cells #[.int .i64 0, .int .i64 0, .slice none 0 0, .bool false, .bool false, .int .i64 0, .int .i64 0] 43)).alloc (.cells #[.int .i64 0, .int .i64 0, .int .i64 0, .int .i64 0, .slice none 0 0] 26) = W2 at *
 have p3 := K1.cell 3
 have p2 := K1.cell 2
 have hs3 := K3.lt
 go_upto_region 4 with (fail)
 clear p3 p2
 clear gz
 have HB := Lib.hid rblankpk_any
 go_cut [4] from 15 to 20 (fun s4 wx => ∃ g6, s4 = .pointer (some ⟨g6, 0, none⟩) ∧ w.heap.size + 3 ≤ g6 ∧ Blk wx g6 26 #[.int .i64 sn, .int .i64 nesn, .int .i64 0, .int .i64 1, .slice none 0 0] ∧ Blk wx (w.heap.size) 43 #[.int .i64 sn, .int .i64 nesn, .slice (some ⟨b0, off0, none⟩) n c, .bool true, .bool false, .int .i64 ack, .int .i64 tak] ∧ Blk wx (w.heap.size + 1) 43 #[.int .i64 0, .int .i64 0, .slice none 0 0, .bool false, .bool false, .int .i64 0, .int .i64 0] ∧ Blk wx (w.heap.size + 2) 26 #[.int .i64 0, .int .i64 0, .int .i64 0, .int .i64 0, .slice none 0 0] ∧ QQ wx 0 o (.slice (some ⟨b0, off0, none⟩) n c) (x :: r) ∧ Below w.heap.size w wx)
 case first =>
  have K1' : Blk W2.drew (w.heap.size) 43 #[.int .i64 sn, .int .i64 nesn, .slice (some ⟨b0, off0, none⟩) n c, .bool true, .bool false, .int .i64 ack, .int .i64 tak] := Mem.Blk.drew K1
  have K2' : Blk W2.drew (w.heap.size + 1) 43 #[.int .i64 0, .int .i64 0, .slice none 0 0, .bool false, .bool false, .int .i64 0, .int .i64 0] := Mem.Blk.drew K2
  have K3' : Blk W2.drew (w.heap.size + 2) 26 #[.int .i64 0, .int .i64 0, .int .i64 0, .int .i64 0, .slice none 0 0] := Mem.Blk.drew K3
  refine wp_region_held_drew (S := (fun w' => Blk w' (w.heap.size) 43 #[.int .i64 sn, .int .i64 nesn, .slice (some ⟨b0, off0, none⟩) n c, .bool true, .bool false, .int .i64 ack, .int .i64 tak])) (by kernel_rfl) ?_ (fun hHeld => ?_)
  ·
    exact K1'
  replace K1 := K1'
  clear K1'
  replace K2 := K2'
  clear K2'
  replace K3 := K3'
  clear K3'
  replace BX : Below w.heap.size w W2.drew := BX.drew
  replace HQ := (show QQ W2.drew 0 o (.slice (some ⟨b0, off0, none⟩) n c) (x :: r) from HQ.below ((Below.refl W2.heap.size W2).drew))
  generalize W2.drew = X0 at *
  refine wpAnyH_take (i := 0) (v := .pointer (some ⟨w.heap.size, 0, none⟩)) rfl (by kernel_rfl) (by kernel_rfl) (by kernel_rfl) (fun _ _ _ h => h) (.inl ⟨by first | rfl | go_simp, by intro u h; (try dsimp only at h); go_simp⟩) ‹_› ?_
  simp only [getElem_toArray, getElem_cons_zero, getElem_cons_succ, Act.put, setIfInBounds_toArray, set_cons_zero, set_cons_succ]
  refine wpAnyH_take (i := 1) (v := .int .i64 sn) rfl (by kernel_rfl) (by kernel_rfl) (by kernel_rfl) (fun _ _ _ h => h) (Or.inl ⟨by first | rfl | go_simp, by intro w9 hSw; (try dsimp only at hSw); have c9 := hSw.cell 0; clear hSw; go_simp⟩) ‹_› ?_
  simp only [getElem_toArray, getElem_cons_zero, getElem_cons_succ, Act.put, setIfInBounds_toArray, set_cons_zero, set_cons_succ]
  refine wpAnyH_take (i := 2) (v := .pointer (some ⟨w.heap.size, 1, none⟩)) rfl (by kernel_rfl) (by kernel_rfl) (by kernel_rfl) (fun _ _ _ h => h) (.inl ⟨by first | rfl | go_simp, by intro u h; (try dsimp only at h); go_simp⟩) ‹_› ?_
  simp only [getElem_toArray, getElem_cons_zero, getElem_cons_succ, Act.put, setIfInBounds_toArray, set_cons_zero, set_cons_succ]
  refine wpAnyH_take (i := 3) (v := .int .i64 nesn) rfl (by kernel_rfl) (by kernel_rfl) (by kernel_rfl) (fun _ _ _ h => h) (Or.inl ⟨by first | rfl | go_simp, by intro w9 hSw; (try dsimp only at hSw); have c9 := hSw.cell 1; clear hSw; go_simp⟩) ‹_› ?_
  simp only [getElem_toArray, getElem_cons_zero, getElem_cons_succ, Act.put, setIfInBounds_toArray, set_cons_zero, set_cons_succ]
  refine wpAnyH_ready (rs := [4, 6]) (by kernel_rfl) (by simp) ?_
  refine AllReadyH.cons rfl (fun K hK => ?_) (AllReadyH.cons rfl (fun K hK => ?_) (AllReadyH.nil))
  ·
    go_simp
    refine (HB.out X0).mono ?_
    rintro e X1 ⟨rfl, b9⟩
    replace K1 := K1.below b9 K1.lt
    replace K2 := K2.below b9 K2.lt
    replace K3 := K3.below b9 K3.lt
    replace BX := thenB BX b9
    replace HQ := HQ.below b9
    clear b9
    refine hK.out _ _ K1 (fun hHeld => ?_)
    clear hK K
    try simp only [getElem_toArray, getElem_cons_zero, getElem_cons_succ, Act.put, setIfInBounds_toArray, set_cons_zero, set_cons_succ]
    refine wpAnyH_take (i := 5) (v := .agg #[.int .i64 sn, .int .i64 nesn, .int .i64 0, .int .i64 1, .slice none 0 0]) rfl (by kernel_rfl) (by kernel_rfl) (by kernel_rfl) (fun _ _ _ h => h) (.inl ⟨by first | rfl | go_simp, by intro u h; (try dsimp only at h); go_simp⟩) ‹_› ?_
    simp only [getElem_toArray, getElem_cons_zero, getElem_cons_succ, Act.put, setIfInBounds_toArray, set_cons_zero, set_cons_succ]
    refine wpAnyH_ready (rs := [6]) (by kernel_rfl) (by simp) ?_
    refine .cons rfl (fun K hK => ?_) .nil
    go_simp
    have b9 := (Below.refl X1.heap.size X1).alloc (Nat.le_refl _) (.cells #[.int .i64 0, .int .i64 0, .int .i64 0, .int .i64 0, .slice none 0 0] 26)
    have K6 : Blk (X1.alloc (.cells #[.int .i64 0, .int .i64 0, .int .i64 0, .int .i64 0, .slice none 0 0] 26)) X1.heap.size 26 #[.int .i64 0, .int .i64 0, .int .i64 0, .int .i64 0, .slice none 0 0] := Blk.fresh X1 26 #[.int .i64 0, .int .i64 0, .int .i64 0, .int .i64 0, .slice none 0 0]
    have hx6 : w.heap.size + 3 ≤ X1.heap.size := by have := K3.lt; omega
    replace K1 := K1.below b9 K1.lt
    replace K2 := K2.below b9 K2.lt
    replace K3 := K3.below b9 K3.lt
    replace BX := thenB BX b9
    replace HQ := HQ.below b9
    clear b9
    generalize X1.alloc (.cells #[.int .i64 0, .int .i64 0, .int .i64 0, .int .i64 0, .slice none 0 0] 26) = X2 at *
    refine hK.out _ _ K1 (fun hHeld => ?_)
    clear hK K
    try simp only [getElem_toArray, getElem_cons_zero, getElem_cons_succ, Act.put, setIfInBounds_toArray, set_cons_zero, set_cons_succ]
    refine wpAnyH_ready (rs := [7]) (by kernel_rfl) (by simp) ?_
    refine .cons rfl (fun K hK => ?_) .nil
    have H9 : (#[.int .i64 sn, .int .i64 nesn, .int .i64 0, .int .i64 1, .slice none 0 0] : Array Value).all (·.oneCell') = true := by rw [← Array.all_toList]; rfl
    refine Av.step_store_row rfl 26 (.tmp 4) (.tmp 20) rfl (X1.heap.size) #[.int .i64 sn, .int .i64 nesn, .int .i64 0, .int .i64 1, .slice none 0 0] rfl rfl 26 _ K6 (by kernel_rfl) rfl H9 ?_
    replace HQ := HQ.step (stp_row K6 #[.int .i64 sn, .int .i64 nesn, .int .i64 0, .int .i64 1, .slice none 0 0]) (by decide) (by decide) (by omega)
    replace K1 : Blk (X2.setRow (X1.heap.size) #[.int .i64 sn, .int .i64 nesn, .int .i64 0, .int .i64 1, .slice none 0 0]) (w.heap.size) 43 #[.int .i64 sn, .int .i64 nesn, .slice (some ⟨b0, off0, none⟩) n c, .bool true, .bool false, .int .i64 ack, .int .i64 tak] := Av.bother_row K1 (by omega)
    replace K2 : Blk (X2.setRow (X1.heap.size) #[.int .i64 sn, .int .i64 nesn, .int .i64 0, .int .i64 1, .slice none 0 0]) (w.heap.size + 1) 43 #[.int .i64 0, .int .i64 0, .slice none 0 0, .bool false, .bool false, .int .i64 0, .int .i64 0] := Av.bother_row K2 (by omega)
    replace K3 : Blk (X2.setRow (X1.heap.size) #[.int .i64 sn, .int .i64 nesn, .int .i64 0, .int .i64 1, .slice none 0 0]) (w.heap.size + 2) 26 #[.int .i64 0, .int .i64 0, .int .i64 0, .int .i64 0, .slice none 0 0] := Av.bother_row K3 (by omega)
    replace K6 : Blk (X2.setRow (X1.heap.size) #[.int .i64 sn, .int .i64 nesn, .int .i64 0, .int .i64 1, .slice none 0 0]) (X1.heap.size) 26 #[.int .i64 sn, .int .i64 nesn, .int .i64 0, .int .i64 1, .slice none 0 0] := Av.bset_row K6
    replace BX : Below w.heap.size w (X2.setRow (X1.heap.size) #[.int .i64 sn, .int .i64 nesn, .int .i64 0, .int .i64 1, .slice none 0 0]) := below_setRow BX (by omega) _
    clear H9
    generalize X2.setRow (X1.heap.size) #[.int .i64 sn, .int .i64 nesn, .int .i64 0, .int .i64 1, .slice none 0 0] = X3 at *
    refine hK.out _ _ K1 (fun hHeld => ?_)
    clear hK K
    try simp only [getElem_toArray, getElem_cons_zero, getElem_cons_succ, Act.put, setIfInBounds_toArray, set_cons_zero, set_cons_succ]
    refine wpAnyH_done (by kernel_rfl) ?_ _
    clear hHeld
    go_wp2_with fail
    go_meet
    exact ⟨X1.heap.size, rfl, hx6, K6, K1, K2, K3, HQ, BX⟩
  ·
    go_simp
    have b9 := (Below.refl X0.heap.size X0).alloc (Nat.le_refl _) (.cells #[.int .i64 0, .int .i64 0, .int .i64 0, .int .i64 0, .slice none 0 0] 26)
    have K6 : Blk (X0.alloc (.cells #[.int .i64 0, .int .i64 0, .int .i64 0, .int .i64 0, .slice none 0 0] 26)) X0.heap.size 26 #[.int .i64 0, .int .i64 0, .int .i64 0, .int .i64 0, .slice none 0 0] := Blk.fresh X0 26 #[.int .i64 0, .int .i64 0, .int .i64 0, .int .i64 0, .slice none 0 0]
    have hx6 : w.heap.size + 3 ≤ X0.heap.size := by have := K3.lt; omega
    replace K1 := K1.below b9 K1.lt
    replace K2 := K2.below b9 K2.lt
    replace K3 := K3.below b9 K3.lt
    replace BX := thenB BX b9
    replace HQ := HQ.below b9
    clear b9
    generalize X0.alloc (.cells #[.int .i64 0, .int .i64 0, .int .i64 0, .int .i64 0, .slice none 0 0] 26) = X4 at *
    refine hK.out _ _ K1 (fun hHeld => ?_)
    clear hK K
    try simp only [getElem_toArray, getElem_cons_zero, getElem_cons_succ, Act.put, setIfInBounds_toArray, set_cons_zero, set_cons_succ]
    refine wpAnyH_ready (rs := [4]) (by kernel_rfl) (by simp) ?_
    refine .cons rfl (fun K hK => ?_) .nil
    go_simp
    refine (HB.out X4).mono ?_
    rintro e X5 ⟨rfl, b9⟩
    replace K1 := K1.below b9 K1.lt
    replace K2 := K2.below b9 K2.lt
    replace K3 := K3.below b9 K3.lt
    replace K6 := K6.below b9 K6.lt
    replace BX := thenB BX b9
    replace HQ := HQ.below b9
    clear b9
    refine hK.out _ _ K1 (fun hHeld => ?_)
    clear hK K
    try simp only [getElem_toArray, getElem_cons_zero, getElem_cons_succ, Act.put, setIfInBounds_toArray, set_cons_zero, set_cons_succ]
    refine wpAnyH_take (i := 5) (v := .agg #[.int .i64 sn, .int .i64 nesn, .int .i64 0, .int .i64 1, .slice none 0 0]) rfl (by kernel_rfl) (by kernel_rfl) (by kernel_rfl) (fun _ _ _ h => h) (.inl ⟨by first | rfl | go_simp, by intro u h; (try dsimp only at h); go_simp⟩) ‹_› ?_
    simp only [getElem_toArray, getElem_cons_zero, getElem_cons_succ, Act.put, setIfInBounds_toArray, set_cons_zero, set_cons_succ]
    refine wpAnyH_ready (rs := [7]) (by kernel_rfl) (by simp) ?_
    refine .cons rfl (fun K hK => ?_) .nil
    have H9 : (#[.int .i64 sn, .int .i64 nesn, .int .i64 0, .int .i64 1, .slice none 0 0] : Array Value).all (·.oneCell') = true := by rw [← Array.all_toList]; rfl
    refine Av.step_store_row rfl 26 (.tmp 4) (.tmp 20) rfl (X0.heap.size) #[.int .i64 sn, .int .i64 nesn, .int .i64 0, .int .i64 1, .slice none 0 0] rfl rfl 26 _ K6 (by kernel_rfl) rfl H9 ?_
    replace HQ := HQ.step (stp_row K6 #[.int .i64 sn, .int .i64 nesn, .int .i64 0, .int .i64 1, .slice none 0 0]) (by decide) (by decide) (by omega)
    replace K1 : Blk (X5.setRow (X0.heap.size) #[.int .i64 sn, .int .i64 nesn, .int .i64 0, .int .i64 1, .slice none 0 0]) (w.heap.size) 43 #[.int .i64 sn, .int .i64 nesn, .slice (some ⟨b0, off0, none⟩) n c, .bool true, .bool false, .int .i64 ack, .int .i64 tak] := Av.bother_row K1 (by omega)
    replace K2 : Blk (X5.setRow (X0.heap.size) #[.int .i64 sn, .int .i64 nesn, .int .i64 0, .int .i64 1, .slice none 0 0]) (w.heap.size + 1) 43 #[.int .i64 0, .int .i64 0, .slice none 0 0, .bool false, .bool false, .int .i64 0, .int .i64 0] := Av.bother_row K2 (by omega)
    replace K3 : Blk (X5.setRow (X0.heap.size) #[.int .i64 sn, .int .i64 nesn, .int .i64 0, .int .i64 1, .slice none 0 0]) (w.heap.size + 2) 26 #[.int .i64 0, .int .i64 0, .int .i64 0, .int .i64 0, .slice none 0 0] := Av.bother_row K3 (by omega)
    replace K6 : Blk (X5.setRow (X0.heap.size) #[.int .i64 sn, .int .i64 nesn, .int .i64 0, .int .i64 1, .slice none 0 0]) (X0.heap.size) 26 #[.int .i64 sn, .int .i64 nesn, .int .i64 0, .int .i64 1, .slice none 0 0] := Av.bset_row K6
    replace BX : Below w.heap.size w (X5.setRow (X0.heap.size) #[.int .i64 sn, .int .i64 nesn, .int .i64 0, .int .i64 1, .slice none 0 0]) := below_setRow BX (by omega) _
    clear H9
    generalize X5.setRow (X0.heap.size) #[.int .i64 sn, .int .i64 nesn, .int .i64 0, .int .i64 1, .slice none 0 0] = X6 at *
    refine hK.out _ _ K1 (fun hHeld => ?_)
    clear hK K
    try simp only [getElem_toArray, getElem_cons_zero, getElem_cons_succ, Act.put, setIfInBounds_toArray, set_cons_zero, set_cons_succ]
    refine wpAnyH_done (by kernel_rfl) ?_ _
    clear hHeld
    go_wp2_with fail
    go_meet
    exact ⟨X0.heap.size, rfl, hx6, K6, K1, K2, K3, HQ, BX⟩
 case rest =>
  obtain ⟨g6, rfl, hx6, K6, K1, K2, K3, HQ, BX⟩ := hcut
  clear HB
  have p2 := K1.cell 2
  have p4 := K1.cell 4
  have HX := HQ.2.1 x (by simp)
  obtain ⟨b, off, hA, _, _, z0, z1⟩ := HQ.at_
  obtain ⟨rfl, rfl⟩ : b0 = b ∧ off0 = off := by injection hA with hA; injection hA with h1 h2 _; exact ⟨h1, h2⟩
  clear hA
  have y3 := K6.cell 3
  have y4 := K6.cell 4
  have f3 := Av.bfrz K6 3
  have f4 := Av.bfrz K6 4
  go_upto_region 8 with (fail)
  have sA := stp_cell (i := 3) K6 (.int .i64 x.k)
  have K7 := Av.bset K6 3 (.int .i64 x.k) rfl
  have sB := stp_cell (i := 4) K7 (.slice x.A x.v.length x.c)
  have K8 := Av.bset K7 4 (.slice x.A x.v.length x.c) rfl
  replace K1 := sB.blk_ne (sA.blk_ne K1 (by omega)) (by omega)
  replace K2 := sB.blk_ne (sA.blk_ne K2 (by omega)) (by omega)
  replace K3 := sB.blk_ne (sA.blk_ne K3 (by omega)) (by omega)
  replace HX := (HX.step sA (by decide) (by omega)).step sB (by decide) (by omega)
  replace BX := (BX.setCell (p := ⟨g6, 3, none⟩) (by show w.heap.size ≤ g6; omega) (.int .i64 x.k)).setCell (p := ⟨g6, 4, none⟩) (by show w.heap.size ≤ g6; omega) (.slice x.A x.v.length x.c)
  replace K6 := K8
  clear K7 K8 sA sB y3 y4 f3 f4 z0 z1 p2 p4 HQ
  generalize (wc.setCell ⟨g6, 3, none⟩ (.int .i64 x.k)).setCell ⟨g6, 4, none⟩ (.slice x.A x.v.length x.c) = X4 at *
  go_upto_region 11 with (fail)
  have K1' : Blk X4.drew (w.heap.size) 43 #[.int .i64 sn, .int .i64 nesn, .slice (some ⟨b0, off0, none⟩) n c, .bool true, .bool false, .int .i64 ack, .int .i64 tak] := Mem.Blk.drew K1
  have K2' : Blk X4.drew (w.heap.size + 1) 43 #[.int .i64 0, .int .i64 0, .slice none 0 0, .bool false, .bool false, .int .i64 0, .int .i64 0] := Mem.Blk.drew K2
  have K3' : Blk X4.drew (w.heap.size + 2) 26 #[.int .i64 0, .int .i64 0, .int .i64 0, .int .i64 0, .slice none 0 0] := Mem.Blk.drew K3
  have K6' : Blk X4.drew (g6) 26 #[.int .i64 sn, .int .i64 nesn, .int .i64 0, .int .i64 x.k, .slice x.A x.v.length x.c] := Mem.Blk.drew K6
  refine wp_region_held_drew (S := (fun w' => Blk w' (g6) 26 #[.int .i64 sn, .int .i64 nesn, .int .i64 0, .int .i64 x.k, .slice x.A x.v.length x.c] ∧ Blk w' (w.heap.size) 43 #[.int .i64 sn, .int .i64 nesn, .slice (some ⟨b0, off0, none⟩) n c, .bool true, .bool false, .int .i64 ack, .int .i64 tak])) (by kernel_rfl) ?_ (fun hHeld => ?_)
  ·
    exact ⟨K6', K1'⟩
  replace K1 := K1'
  clear K1'
  replace K2 := K2'
  clear K2'
  replace K3 := K3'
  clear K3'
  replace K6 := K6'
  clear K6'
  replace BX : Below w.heap.size w X4.drew := BX.drew
  replace HX := (show PP X4.drew o x from HX.below ((Below.refl X4.heap.size X4).drew))
  generalize X4.drew = Z0 at *
  refine wpAnyH_take (i := 0) (v := .agg #[.int .i64 sn, .int .i64 nesn, .slice (some ⟨b0, off0, none⟩) n c, .bool true, .bool false, .int .i64 ack, .int .i64 tak]) rfl (by kernel_rfl) (by kernel_rfl) (by kernel_rfl) (fun _ _ _ h => h) (Av.yields_part (by first | rfl | go_simp) _ _ rfl (w.heap.size) 0 rfl #[.int .i64 sn, .int .i64 nesn, .slice (some ⟨b0, off0, none⟩) n c, .bool true, .bool false, .int .i64 ack, .int .i64 tak] _ 43 #[.int .i64 sn, .int .i64 nesn, .slice (some ⟨b0, off0, none⟩) n c, .bool true, .bool false, .int .i64 ack, .int .i64 tak] (fun w9 hSw => hSw.2) rfl Try.underlying43 rfl (by kernel_rfl)) ‹_› ?_
  simp only [getElem_toArray, getElem_cons_zero, getElem_cons_succ, Act.put, setIfInBounds_toArray, set_cons_zero, set_cons_succ]
  refine wpAnyH_take (i := 1) (v := .agg #[.int .i64 sn, .int .i64 nesn, .int .i64 0, .int .i64 x.k, .slice x.A x.v.length x.c]) rfl (by kernel_rfl) (by kernel_rfl) (by kernel_rfl) (fun _ _ _ h => h) (Av.yields_part (by first | rfl | go_simp) _ _ rfl (g6) 0 rfl #[.int .i64 sn, .int .i64 nesn, .int .i64 0, .int .i64 x.k, .slice x.A x.v.length x.c] _ 26 #[.int .i64 sn, .int .i64 nesn, .int .i64 0, .int .i64 x.k, .slice x.A x.v.length x.c] (fun w9 hSw => hSw.1) rfl Try.underlying26 rfl (by kernel_rfl)) ‹_› ?_
  simp only [getElem_toArray, getElem_cons_zero, getElem_cons_succ, Act.put, setIfInBounds_toArray, set_cons_zero, set_cons_succ]
  refine wpAnyH_ready (rs := [2]) (by kernel_rfl) (by simp) ?_
  refine .cons rfl (fun K hK => ?_) .nil
  have H9 : (#[.int .i64 sn, .int .i64 nesn, .slice (some ⟨b0, off0, none⟩) n c, .bool true, .bool false, .int .i64 ack, .int .i64 tak] : Array Value).all (·.oneCell') = true := by rw [← Array.all_toList]; rfl
  refine Av.step_store_row rfl 43 (.tmp 2) (.tmp 41) rfl (w.heap.size + 1) #[.int .i64 sn, .int .i64 nesn, .slice (some ⟨b0, off0, none⟩) n c, .bool true, .bool false, .int .i64 ack, .int .i64 tak] rfl rfl 43 _ K2 (by kernel_rfl) rfl H9 ?_
  replace HX := HX.step (stp_row K2 #[.int .i64 sn, .int .i64 nesn, .slice (some ⟨b0, off0, none⟩) n c, .bool true, .bool false, .int .i64 ack, .int .i64 tak]) (by decide) (show o ≤ w.heap.size + 1 by omega)
  replace K1 : Blk (Z0.setRow (w.heap.size + 1) #[.int .i64 sn, .int .i64 nesn, .slice (some ⟨b0, off0, none⟩) n c, .bool true, .bool false, .int .i64 ack, .int .i64 tak]) (w.heap.size) 43 #[.int .i64 sn, .int .i64 nesn, .slice (some ⟨b0, off0, none⟩) n c, .bool true, .bool false, .int .i64 ack, .int .i64 tak] := Av.bother_row K1 (by omega)
  replace K2 : Blk (Z0.setRow (w.heap.size + 1) #[.int .i64 sn, .int .i64 nesn, .slice (some ⟨b0, off0, none⟩) n c, .bool true, .bool false, .int .i64 ack, .int .i64 tak]) (w.heap.size + 1) 43 #[.int .i64 sn, .int .i64 nesn, .slice (some ⟨b0, off0, none⟩) n c, .bool true, .bool false, .int .i64 ack, .int .i64 tak] := Av.bset_row K2
  replace K3 : Blk (Z0.setRow (w.heap.size + 1) #[.int .i64 sn, .int .i64 nesn, .slice (some ⟨b0, off0, none⟩) n c, .bool true, .bool false, .int .i64 ack, .int .i64 tak]) (w.heap.size + 2) 26 #[.int .i64 0, .int .i64 0, .int .i64 0, .int .i64 0, .slice none 0 0] := Av.bother_row K3 (by omega)
  replace K6 : Blk (Z0.setRow (w.heap.size + 1) #[.int .i64 sn, .int .i64 nesn, .slice (some ⟨b0, off0, none⟩) n c, .bool true, .bool false, .int .i64 ack, .int .i64 tak]) (g6) 26 #[.int .i64 sn, .int .i64 nesn, .int .i64 0, .int .i64 x.k, .slice x.A x.v.length x.c] := Av.bother_row K6 (by omega)
  replace BX : Below w.heap.size w (Z0.setRow (w.heap.size + 1) #[.int .i64 sn, .int .i64 nesn, .slice (some ⟨b0, off0, none⟩) n c, .bool true, .bool false, .int .i64 ack, .int .i64 tak]) := below_setRow BX (by omega) _
  clear H9
  generalize Z0.setRow (w.heap.size + 1) #[.int .i64 sn, .int .i64 nesn, .slice (some ⟨b0, off0, none⟩) n c, .bool true, .bool false, .int .i64 ack, .int .i64 tak] = Z1 at *
  refine hK.out _ _ ⟨K6, K1⟩ (fun hHeld => ?_)
  clear hK K
  try simp only [getElem_toArray, getElem_cons_zero, getElem_cons_succ, Act.put, setIfInBounds_toArray, set_cons_zero, set_cons_succ]
  refine wpAnyH_ready (rs := [3]) (by kernel_rfl) (by simp) ?_
  refine .cons rfl (fun K hK => ?_) .nil
  have H9 : (#[.int .i64 sn, .int .i64 nesn, .int .i64 0, .int .i64 x.k, .slice x.A x.v.length x.c] : Array Value).all (·.oneCell') = true := by rw [← Array.all_toList]; rfl
  refine Av.step_store_row rfl 26 (.tmp 3) (.tmp 42) rfl (w.heap.size + 2) #[.int .i64 sn, .int .i64 nesn, .int .i64 0, .int .i64 x.k, .slice x.A x.v.length x.c] rfl rfl 26 _ K3 (by kernel_rfl) rfl H9 ?_
  replace HX := HX.step (stp_row K3 #[.int .i64 sn, .int .i64 nesn, .int .i64 0, .int .i64 x.k, .slice x.A x.v.length x.c]) (by decide) (show o ≤ w.heap.size + 2 by omega)
  replace K1 : Blk (Z1.setRow (w.heap.size + 2) #[.int .i64 sn, .int .i64 nesn, .int .i64 0, .int .i64 x.k, .slice x.A x.v.length x.c]) (w.heap.size) 43 #[.int .i64 sn, .int .i64 nesn, .slice (some ⟨b0, off0, none⟩) n c, .bool true, .bool false, .int .i64 ack, .int .i64 tak] := Av.bother_row K1 (by omega)
  replace K2 : Blk (Z1.setRow (w.heap.size + 2) #[.int .i64 sn, .int .i64 nesn, .int .i64 0, .int .i64 x.k, .slice x.A x.v.length x.c]) (w.heap.size + 1) 43 #[.int .i64 sn, .int .i64 nesn, .slice (some ⟨b0, off0, none⟩) n c, .bool true, .bool false, .int .i64 ack, .int .i64 tak] := Av.bother_row K2 (by omega)
  replace K3 : Blk (Z1.setRow (w.heap.size + 2) #[.int .i64 sn, .int .i64 nesn, .int .i64 0, .int .i64 x.k, .slice x.A x.v.length x.c]) (w.heap.size + 2) 26 #[.int .i64 sn, .int .i64 nesn, .int .i64 0, .int .i64 x.k, .slice x.A x.v.length x.c] := Av.bset_row K3
  replace K6 : Blk (Z1.setRow (w.heap.size + 2) #[.int .i64 sn, .int .i64 nesn, .int .i64 0, .int .i64 x.k, .slice x.A x.v.length x.c]) (g6) 26 #[.int .i64 sn, .int .i64 nesn, .int .i64 0, .int .i64 x.k, .slice x.A x.v.length x.c] := Av.bother_row K6 (by omega)
  replace BX : Below w.heap.size w (Z1.setRow (w.heap.size + 2) #[.int .i64 sn, .int .i64 nesn, .int .i64 0, .int .i64 x.k, .slice x.A x.v.length x.c]) := below_setRow BX (by omega) _
  clear H9
  generalize Z1.setRow (w.heap.size + 2) #[.int .i64 sn, .int .i64 nesn, .int .i64 0, .int .i64 x.k, .slice x.A x.v.length x.c] = Z2 at *
  refine hK.out _ _ ⟨K6, K1⟩ (fun hHeld => ?_)
  clear hK K
  try simp only [getElem_toArray, getElem_cons_zero, getElem_cons_succ, Act.put, setIfInBounds_toArray, set_cons_zero, set_cons_succ]
  refine wpAnyH_done (by kernel_rfl) ?_ _
  go_wp2_with fail
  refine bodyPost_ret (v := .tuple #[.agg #[.int .i64 sn, .int .i64 nesn, .slice (some ⟨b0, off0, none⟩) n c, .bool true, .bool false, .int .i64 ack, .int .i64 tak], .agg #[.int .i64 sn, .int .i64 nesn, .int .i64 0, .int .i64 x.k, .slice x.A x.v.length x.c]]) ?_ rfl ⟨x, by rw [HO.out.1, (pdu_bits _).1, (pdu_bits _).2.1, hmd]; rfl, HO.out.2, HX, BX⟩
  clear hHeld K1 K6
  have HLa := run_loadVar_row (P := Try.prog) Z2 (w.heap.size + 1) 43 43 #[.int .i64 sn, .int .i64 nesn, .slice (some ⟨b0, off0, none⟩) n c, .bool true, .bool false, .int .i64 ack, .int .i64 tak] (0, 0) _ K2 Try.underlying43 rfl (by kernel_rfl)
  have HLb := run_loadVar_row (P := Try.prog) Z2 (w.heap.size + 2) 26 26 #[.int .i64 sn, .int .i64 nesn, .int .i64 0, .int .i64 x.k, .slice x.A x.v.length x.c] (0, 0) _ K3 Try.underlying26 rfl (by kernel_rfl)
  generalize (#[.int .i64 sn, .int .i64 nesn, .slice (some ⟨b0, off0, none⟩) n c, .bool true, .bool false, .int .i64 ack, .int .i64 tak] : Array Value) = CS at *
  generalize (#[.int .i64 sn, .int .i64 nesn, .int .i64 0, .int .i64 x.k, .slice x.A x.v.length x.c] : Array Value) = CP at *
  simp [results, show (Try.f31).results = #[.cell 2 43, .cell 3 26] from rfl, asAddr, HLa, HLb, Act.put]
set_option maxRecDepth 100000 in
set_option maxHeartbeats 4000000 in
theorem rsend_tf2 (sn nesn : Int) (ack tak : Nat) (x : Pm) (r : List Pm) (y : Pk) (q' : List Pk) (b0 off0 n c : Nat) (o : Nat) (w : World) (ho : o ≤ w.heap.size) (hn : n ≤ 1000000) (hq : QQ w 0 o (.slice (some ⟨b0, off0, none⟩) n c) (x :: r)) (hxy : x.p = y) (hmq : r.map Pm.p = q') (hnl : r.length + 1 = n) (h1 : 2 ≤ n) :
   Calls Try.prog 31 #[.agg #[.int .i64 sn, .int .i64 nesn, .slice (some ⟨b0, off0, none⟩) n c, .bool true, .bool false, .int .i64 ack, .int .i64 tak]] w fun e w' => RSent w w' e ⟨sn, nesn, (y :: q'), true, false, ack, tak⟩ (.slice (some ⟨b0, off0, none⟩) n c) o := by
 have BX : Below w.heap.size w (((w.alloc (.cells #[.int .i64 sn, .int .i64 nesn, .slice (some ⟨b0, off0, none⟩) n c, .bool true, .bool false, .int .i64 ack, .int .i64 tak] 43)).alloc (.cells #[.int .i64 0, .int .i64 0, .slice none 0 0, .bool false, .bool false, .int .i64 0, .int .i64 0] 43)).alloc (.cells #[.int .i64 0, .int .i64 0, .int .i64 0, .int .i64 0, .slice none 0 0] 26)) := (((Below.refl _ _).alloc (Nat.le_refl _) _).alloc (by simp) _).alloc (by simp; omega) _
 have K1 : Blk (((w.alloc (.cells #[.int .i64 sn, .int .i64 nesn, .slice (some ⟨b0, off0, none⟩) n c, .bool true, .bool false, .int .i64 ack, .int .i64 tak] 43)).alloc (.cells #[.int .i64 0, .int .i64 0, .slice none 0 0, .bool false, .bool false, .int .i64 0, .int .i64 0] 43)).alloc (.cells #[.int .i64 0, .int .i64 0, .int .i64 0, .int .i64 0, .slice none 0 0] 26)) w.heap.size 43 #[.int .i64 sn, .int .i64 nesn, .slice (some ⟨b0, off0, none⟩) n c, .bool true, .bool false, .int .i64 ack, .int .i64 tak] := ((Blk.fresh w 43 #[.int .i64 sn, .int .i64 nesn, .slice (some ⟨b0, off0, none⟩) n c, .bool true, .bool false, .int .i64 ack, .int .i64 tak]).alloc _).alloc _
 have K2 : Blk (((w.alloc (.cells #[.int .i64 sn, .int .i64 nesn, .slice (some ⟨b0, off0, none⟩) n c, .bool true, .bool false, .int .i64 ack, .int .i64 tak] 43)).alloc (.cells #[.int .i64 0, .int .i64 0, .slice none 0 0, .bool false, .bool false, .int .i64 0, .int .i64 0] 43)).alloc (.cells #[.int .i64 0, .int .i64 0, .int .i64 0, .int .i64 0, .slice none 0 0] 26)) (w.heap.size + 1) 43 #[.int .i64 0, .int .i64 0, .slice none 0 0, .bool false, .bool false, .int .i64 0, .int .i64 0] := (Av.Blk.next).alloc _
 have K3 : Blk (((w.alloc (.cells #[.int .i64 sn, .int .i64 nesn, .slice (some ⟨b0, off0, none⟩) n c, .bool true, .bool false, .int .i64 ack, .int .i64 tak] 43)).alloc (.cells #[.int .i64 0, .int .i64 0, .slice none 0 0, .bool false, .bool false, .int .i64 0, .int .i64 0] 43)).alloc (.cells #[.int .i64 0, .int .i64 0, .int .i64 0, .int .i64 0, .slice none 0 0] 26)) (w.heap.size + 2) 26 #[.int .i64 0, .int .i64 0, .int .i64 0, .int .i64 0, .slice none 0 0] := by
     have := Blk.fresh ((w.alloc (.cells #[.int .i64 sn, .int .i64 nesn, .slice (some ⟨b0, off0, none⟩) n c, .bool true, .bool false, .int .i64 ack, .int .i64 tak] 43)).alloc (.cells #[.int .i64 0, .int .i64 0, .slice none 0 0, .bool false, .bool false, .int .i64 0, .int .i64 0] 43)) 26 #[.int .i64 0, .int .i64 0, .int .i64 0, .int .i64 0, .slice none 0 0]
     simpa using this
 have HQ := hq.below BX
 have hrq : q' = [] ↔ n = 1 := by
     rw [← hmq, List.map_eq_nil_iff]
     constructor
     ·
      intro h; rw [h] at hnl; simpa using hnl.symm
     ·
      intro h; exact List.eq_nil_of_length_eq_zero (by omega)
 have HO : Hid (openR ⟨sn, nesn, (y :: q'), true, false, ack, tak⟩ = ⟨sn, nesn, (y :: q'), true, false, ack, tak⟩ ∧ Pm.p x = (pduR (openR ⟨sn, nesn, (y :: q'), true, false, ack, tak⟩)).pk) := Lib.hid ⟨rfl, by simp [openR, pduR, hxy]⟩
 have hmd : (pduR ⟨sn, nesn, (y :: q'), true, false, ack, tak⟩).md = 1 := by simp [pduR, hrq]; omega
 have gz : ((n : Int) == 0) = false := n_pos (by omega)
 have g1 : (0 : Int) < (n : Int) := by omega
 have eB : IntKind.i64.wrap ((n : Int) - 1) = (n : Int) - 1 := by rw [IntWalk.i64_in _ (by omega)]
 have g2 : (0 : Int) < (n : Int) - 1 := by omega
 clear hq hxy hmq hnl hrq h1
 go_enter Try.func31, Try.ntmps31
 go_upto_region 1 with (fail)
 generalize ((w.alloc (.cells #[.int .i64 sn, .int .i64 nesn, .slice (some ⟨b0, off0, none⟩) n c, .bool true, .bool false, .int .i64 ack, .int .i64 tak] 43)).alloc (.cells #[.int .i64 0, .int .i64 0, .slice none 0 0, .bool false, .bool false, .int .i64 0, .int .i64 0] 43)).alloc (.cells #[.int .i64 0, .int .i64 0, .int .i64 0, .int .i64 0, .slice none 0 0] 26) = W2 at *
 have p3 := K1.cell 3
 have p2 := K1.cell 2
 have hs3 := K3.lt
 go_upto_region 4 with (fail)
 clear p3 p2
 clear gz
 have HB := Lib.hid rblankpk_any
 go_cut [4] from 15 to 20 (fun s4 wx => ∃ g6, s4 = .pointer (some ⟨g6, 0, none⟩) ∧ w.heap.size + 3 ≤ g6 ∧ Blk wx g6 26 #[.int .i64 sn, .int .i64 nesn, .int .i64 0, .int .i64 1, .slice none 0 0] ∧ Blk wx (w.heap.size) 43 #[.int .i64 sn, .int .i64 nesn, .slice (some ⟨b0, off0, none⟩) n c, .bool true, .bool false, .int .i64 ack, .int .i64 tak] ∧ Blk wx (w.heap.size + 1) 43 #[.int .i64 0, .int .i64 0, .slice none 0 0, .bool false, .bool false, .int .i64 0, .int .i64 0] ∧ Blk wx (w.heap.size + 2) 26 #[.int .i64 0, .int .i64 0, .int .i64 0, .int .i64 0, .slice none 0 0] ∧ QQ wx 0 o (.slice (some ⟨b0, off0, none⟩) n c) (x :: r) ∧ Below w.heap.size w wx)
 case first =>
  have K1' : Blk W2.drew (w.heap.size) 43 #[.int .i64 sn, .int .i64 nesn, .slice (some ⟨b0, off0, none⟩) n c, .bool true, .bool false, .int .i64 ack, .int .i64 tak] := Mem.Blk.drew K1
  have K2' : Blk W2.drew (w.heap.size + 1) 43 #[.int .i64 0, .int .i64 0, .slice none 0 0, .bool false, .bool false, .int .i64 0, .int .i64 0] := Mem.Blk.drew K2
  have K3' : Blk W2.drew (w.heap.size + 2) 26 #[.int .i64 0, .int .i64 0, .int .i64 0, .int .i64 0, .slice none 0 0] := Mem.Blk.drew K3
  refine wp_region_held_drew (S := (fun w' => Blk w' (w.heap.size) 43 #[.int .i64 sn, .int .i64 nesn, .slice (some ⟨b0, off0, none⟩) n c, .bool true, .bool false, .int .i64 ack, .int .i64 tak])) (by kernel_rfl) ?_ (fun hHeld => ?_)
  ·
    exact K1'
  replace K1 := K1'
  clear K1'
  replace K2 := K2'
  clear K2'
  replace K3 := K3'
  clear K3'
  replace BX : Below w.heap.size w W2.drew := BX.drew
  replace HQ := (show QQ W2.drew 0 o (.slice (some ⟨b0, off0, none⟩) n c) (x :: r) from HQ.below ((Below.refl W2.heap.size W2).drew))
  generalize W2.drew = X0 at *
  refine wpAnyH_take (i := 0) (v := .pointer (some ⟨w.heap.size, 0, none⟩)) rfl (by kernel_rfl) (by kernel_rfl) (by kernel_rfl) (fun _ _ _ h => h) (.inl ⟨by first | rfl | go_simp, by intro u h; (try dsimp only at h); go_simp⟩) ‹_› ?_
  simp only [getElem_toArray, getElem_cons_zero, getElem_cons_succ, Act.put, setIfInBounds_toArray, set_cons_zero, set_cons_succ]
  refine wpAnyH_take (i := 1) (v := .int .i64 sn) rfl (by kernel_rfl) (by kernel_rfl) (by kernel_rfl) (fun _ _ _ h => h) (Or.inl ⟨by first | rfl | go_simp, by intro w9 hSw; (try dsimp only at hSw); have c9 := hSw.cell 0; clear hSw; go_simp⟩) ‹_› ?_
  simp only [getElem_toArray, getElem_cons_zero, getElem_cons_succ, Act.put, setIfInBounds_toArray, set_cons_zero, set_cons_succ]
  refine wpAnyH_take (i := 2) (v := .pointer (some ⟨w.heap.size, 1, none⟩)) rfl (by kernel_rfl) (by kernel_rfl) (by kernel_rfl) (fun _ _ _ h => h) (.inl ⟨by first | rfl | go_simp, by intro u h; (try dsimp only at h); go_simp⟩) ‹_› ?_
  simp only [getElem_toArray, getElem_cons_zero, getElem_cons_succ, Act.put, setIfInBounds_toArray, set_cons_zero, set_cons_succ]
  refine wpAnyH_take (i := 3) (v := .int .i64 nesn) rfl (by kernel_rfl) (by kernel_rfl) (by kernel_rfl) (fun _ _ _ h => h) (Or.inl ⟨by first | rfl | go_simp, by intro w9 hSw; (try dsimp only at hSw); have c9 := hSw.cell 1; clear hSw; go_simp⟩) ‹_› ?_
  simp only [getElem_toArray, getElem_cons_zero, getElem_cons_succ, Act.put, setIfInBounds_toArray, set_cons_zero, set_cons_succ]
  refine wpAnyH_ready (rs := [4, 6]) (by kernel_rfl) (by simp) ?_
  refine AllReadyH.cons rfl (fun K hK => ?_) (AllReadyH.cons rfl (fun K hK => ?_) (AllReadyH.nil))
  ·
    go_simp
    refine (HB.out X0).mono ?_
    rintro e X1 ⟨rfl, b9⟩
    replace K1 := K1.below b9 K1.lt
    replace K2 := K2.below b9 K2.lt
    replace K3 := K3.below b9 K3.lt
    replace BX := thenB BX b9
    replace HQ := HQ.below b9
    clear b9
    refine hK.out _ _ K1 (fun hHeld => ?_)
    clear hK K
    try simp only [getElem_toArray, getElem_cons_zero, getElem_cons_succ, Act.put, setIfInBounds_toArray, set_cons_zero, set_cons_succ]
    refine wpAnyH_take (i := 5) (v := .agg #[.int .i64 sn, .int .i64 nesn, .int .i64 0, .int .i64 1, .slice none 0 0]) rfl (by kernel_rfl) (by kernel_rfl) (by kernel_rfl) (fun _ _ _ h => h) (.inl ⟨by first | rfl | go_simp, by intro u h; (try dsimp only at h); go_simp⟩) ‹_› ?_
    simp only [getElem_toArray, getElem_cons_zero, getElem_cons_succ, Act.put, setIfInBounds_toArray, set_cons_zero, set_cons_succ]
    refine wpAnyH_ready (rs := [6]) (by kernel_rfl) (by simp) ?_
    refine .cons rfl (fun K hK => ?_) .nil
    go_simp
    have b9 := (Below.refl X1.heap.size X1).alloc (Nat.le_refl _) (.cells #[.int .i64 0, .int .i64 0, .int .i64 0, .int .i64 0, .slice none 0 0] 26)
    have K6 : Blk (X1.alloc (.cells #[.int .i64 0, .int .i64 0, .int .i64 0, .int .i64 0, .slice none 0 0] 26)) X1.heap.size 26 #[.int .i64 0, .int .i64 0, .int .i64 0, .int .i64 0, .slice none 0 0] := Blk.fresh X1 26 #[.int .i64 0, .int .i64 0, .int .i64 0, .int .i64 0, .slice none 0 0]
    have hx6 : w.heap.size + 3 ≤ X1.heap.size := by have := K3.lt; omega
    replace K1 := K1.below b9 K1.lt
    replace K2 := K2.below b9 K2.lt
    replace K3 := K3.below b9 K3.lt
    replace BX := thenB BX b9
    replace HQ := HQ.below b9
    clear b9
    generalize X1.alloc (.cells #[.int .i64 0, .int .i64 0, .int .i64 0, .int .i64 0, .slice none 0 0] 26) = X2 at *
    refine hK.out _ _ K1 (fun hHeld => ?_)
    clear hK K
    try simp only [getElem_toArray, getElem_cons_zero, getElem_cons_succ, Act.put, setIfInBounds_toArray, set_cons_zero, set_cons_succ]
    refine wpAnyH_ready (rs := [7]) (by kernel_rfl) (by simp) ?_
    refine .cons rfl (fun K hK => ?_) .nil
    have H9 : (#[.int .i64 sn, .int .i64 nesn, .int .i64 0, .int .i64 1, .slice none 0 0] : Array Value).all (·.oneCell') = true := by rw [← Array.all_toList]; rfl
    refine Av.step_store_row rfl 26 (.tmp 4) (.tmp 20) rfl (X1.heap.size) #[.int .i64 sn, .int .i64 nesn, .int .i64 0, .int .i64 1, .slice none 0 0] rfl rfl 26 _ K6 (by kernel_rfl) rfl H9 ?_
    replace HQ := HQ.step (stp_row K6 #[.int .i64 sn, .int .i64 nesn, .int .i64 0, .int .i64 1, .slice none 0 0]) (by decide) (by decide) (by omega)
    replace K1 : Blk (X2.setRow (X1.heap.size) #[.int .i64 sn, .int .i64 nesn, .int .i64 0, .int .i64 1, .slice none 0 0]) (w.heap.size) 43 #[.int .i64 sn, .int .i64 nesn, .slice (some ⟨b0, off0, none⟩) n c, .bool true, .bool false, .int .i64 ack, .int .i64 tak] := Av.bother_row K1 (by omega)
    replace K2 : Blk (X2.setRow (X1.heap.size) #[.int .i64 sn, .int .i64 nesn, .int .i64 0, .int .i64 1, .slice none 0 0]) (w.heap.size + 1) 43 #[.int .i64 0, .int .i64 0, .slice none 0 0, .bool false, .bool false, .int .i64 0, .int .i64 0] := Av.bother_row K2 (by omega)
    replace K3 : Blk (X2.setRow (X1.heap.size) #[.int .i64 sn, .int .i64 nesn, .int .i64 0, .int .i64 1, .slice none 0 0]) (w.heap.size + 2) 26 #[.int .i64 0, .int .i64 0, .int .i64 0, .int .i64 0, .slice none 0 0] := Av.bother_row K3 (by omega)
    replace K6 : Blk (X2.setRow (X1.heap.size) #[.int .i64 sn, .int .i64 nesn, .int .i64 0, .int .i64 1, .slice none 0 0]) (X1.heap.size) 26 #[.int .i64 sn, .int .i64 nesn, .int .i64 0, .int .i64 1, .slice none 0 0] := Av.bset_row K6
    replace BX : Below w.heap.size w (X2.setRow (X1.heap.size) #[.int .i64 sn, .int .i64 nesn, .int .i64 0, .int .i64 1, .slice none 0 0]) := below_setRow BX (by omega) _
    clear H9
    generalize X2.setRow (X1.heap.size) #[.int .i64 sn, .int .i64 nesn, .int .i64 0, .int .i64 1, .slice none 0 0] = X3 at *
    refine hK.out _ _ K1 (fun hHeld => ?_)
    clear hK K
    try simp only [getElem_toArray, getElem_cons_zero, getElem_cons_succ, Act.put, setIfInBounds_toArray, set_cons_zero, set_cons_succ]
    refine wpAnyH_done (by kernel_rfl) ?_ _
    clear hHeld
    go_wp2_with fail
    go_meet
    exact ⟨X1.heap.size, rfl, hx6, K6, K1, K2, K3, HQ, BX⟩
  ·
    go_simp
    have b9 := (Below.refl X0.heap.size X0).alloc (Nat.le_refl _) (.cells #[.int .i64 0, .int .i64 0, .int .i64 0, .int .i64 0, .slice none 0 0] 26)
    have K6 : Blk (X0.alloc (.cells #[.int .i64 0, .int .i64 0, .int .i64 0, .int .i64 0, .slice none 0 0] 26)) X0.heap.size 26 #[.int .i64 0, .int .i64 0, .int .i64 0, .int .i64 0, .slice none 0 0] := Blk.fresh X0 26 #[.int .i64 0, .int .i64 0, .int .i64 0, .int .i64 0, .slice none 0 0]
    have hx6 : w.heap.size + 3 ≤ X0.heap.size := by have := K3.lt; omega
    replace K1 := K1.below b9 K1.lt
    replace K2 := K2.below b9 K2.lt
    replace K3 := K3.below b9 K3.lt
    replace BX := thenB BX b9
    replace HQ := HQ.below b9
    clear b9
    generalize X0.alloc (.cells #[.int .i64 0, .int .i64 0, .int .i64 0, .int .i64 0, .slice none 0 0] 26) = X4 at *
    refine hK.out _ _ K1 (fun hHeld => ?_)
    clear hK K
    try simp only [getElem_toArray, getElem_cons_zero, getElem_cons_succ, Act.put, setIfInBounds_toArray, set_cons_zero, set_cons_succ]
    refine wpAnyH_ready (rs := [4]) (by kernel_rfl) (by simp) ?_
    refine .cons rfl (fun K hK => ?_) .nil
    go_simp
    refine (HB.out X4).mono ?_
    rintro e X5 ⟨rfl, b9⟩
    replace K1 := K1.below b9 K1.lt
    replace K2 := K2.below b9 K2.lt
    replace K3 := K3.below b9 K3.lt
    replace K6 := K6.below b9 K6.lt
    replace BX := thenB BX b9
    replace HQ := HQ.below b9
    clear b9
    refine hK.out _ _ K1 (fun hHeld => ?_)
    clear hK K
    try simp only [getElem_toArray, getElem_cons_zero, getElem_cons_succ, Act.put, setIfInBounds_toArray, set_cons_zero, set_cons_succ]
    refine wpAnyH_take (i := 5) (v := .agg #[.int .i64 sn, .int .i64 nesn, .int .i64 0, .int .i64 1, .slice none 0 0]) rfl (by kernel_rfl) (by kernel_rfl) (by kernel_rfl) (fun _ _ _ h => h) (.inl ⟨by first | rfl | go_simp, by intro u h; (try dsimp only at h); go_simp⟩) ‹_› ?_
    simp only [getElem_toArray, getElem_cons_zero, getElem_cons_succ, Act.put, setIfInBounds_toArray, set_cons_zero, set_cons_succ]
    refine wpAnyH_ready (rs := [7]) (by kernel_rfl) (by simp) ?_
    refine .cons rfl (fun K hK => ?_) .nil
    have H9 : (#[.int .i64 sn, .int .i64 nesn, .int .i64 0, .int .i64 1, .slice none 0 0] : Array Value).all (·.oneCell') = true := by rw [← Array.all_toList]; rfl
    refine Av.step_store_row rfl 26 (.tmp 4) (.tmp 20) rfl (X0.heap.size) #[.int .i64 sn, .int .i64 nesn, .int .i64 0, .int .i64 1, .slice none 0 0] rfl rfl 26 _ K6 (by kernel_rfl) rfl H9 ?_
    replace HQ := HQ.step (stp_row K6 #[.int .i64 sn, .int .i64 nesn, .int .i64 0, .int .i64 1, .slice none 0 0]) (by decide) (by decide) (by omega)
    replace K1 : Blk (X5.setRow (X0.heap.size) #[.int .i64 sn, .int .i64 nesn, .int .i64 0, .int .i64 1, .slice none 0 0]) (w.heap.size) 43 #[.int .i64 sn, .int .i64 nesn, .slice (some ⟨b0, off0, none⟩) n c, .bool true, .bool false, .int .i64 ack, .int .i64 tak] := Av.bother_row K1 (by omega)
    replace K2 : Blk (X5.setRow (X0.heap.size) #[.int .i64 sn, .int .i64 nesn, .int .i64 0, .int .i64 1, .slice none 0 0]) (w.heap.size + 1) 43 #[.int .i64 0, .int .i64 0, .slice none 0 0, .bool false, .bool false, .int .i64 0, .int .i64 0] := Av.bother_row K2 (by omega)
    replace K3 : Blk (X5.setRow (X0.heap.size) #[.int .i64 sn, .int .i64 nesn, .int .i64 0, .int .i64 1, .slice none 0 0]) (w.heap.size + 2) 26 #[.int .i64 0, .int .i64 0, .int .i64 0, .int .i64 0, .slice none 0 0] := Av.bother_row K3 (by omega)
    replace K6 : Blk (X5.setRow (X0.heap.size) #[.int .i64 sn, .int .i64 nesn, .int .i64 0, .int .i64 1, .slice none 0 0]) (X0.heap.size) 26 #[.int .i64 sn, .int .i64 nesn, .int .i64 0, .int .i64 1, .slice none 0 0] := Av.bset_row K6
    replace BX : Below w.heap.size w (X5.setRow (X0.heap.size) #[.int .i64 sn, .int .i64 nesn, .int .i64 0, .int .i64 1, .slice none 0 0]) := below_setRow BX (by omega) _
    clear H9
    generalize X5.setRow (X0.heap.size) #[.int .i64 sn, .int .i64 nesn, .int .i64 0, .int .i64 1, .slice none 0 0] = X6 at *
    refine hK.out _ _ K1 (fun hHeld => ?_)
    clear hK K
    try simp only [getElem_toArray, getElem_cons_zero, getElem_cons_succ, Act.put, setIfInBounds_toArray, set_cons_zero, set_cons_succ]
    refine wpAnyH_done (by kernel_rfl) ?_ _
    clear hHeld
    go_wp2_with fail
    go_meet
    exact ⟨X0.heap.size, rfl, hx6, K6, K1, K2, K3, HQ, BX⟩
 case rest =>
  obtain ⟨g6, rfl, hx6, K6, K1, K2, K3, HQ, BX⟩ := hcut
  clear HB
  have p2 := K1.cell 2
  have p4 := K1.cell 4
  have HX := HQ.2.1 x (by simp)
  obtain ⟨b, off, hA, _, _, z0, z1⟩ := HQ.at_
  obtain ⟨rfl, rfl⟩ : b0 = b ∧ off0 = off := by injection hA with hA; injection hA with h1 h2 _; exact ⟨h1, h2⟩
  clear hA
  have y3 := K6.cell 3
  have y4 := K6.cell 4
  have f3 := Av.bfrz K6 3
  have f4 := Av.bfrz K6 4
  go_upto_region 8 with (fail)
  have sA := stp_cell (i := 3) K6 (.int .i64 x.k)
  have K7 := Av.bset K6 3 (.int .i64 x.k) rfl
  have sB := stp_cell (i := 4) K7 (.slice x.A x.v.length x.c)
  have K8 := Av.bset K7 4 (.slice x.A x.v.length x.c) rfl
  replace K1 := sB.blk_ne (sA.blk_ne K1 (by omega)) (by omega)
  replace K2 := sB.blk_ne (sA.blk_ne K2 (by omega)) (by omega)
  replace K3 := sB.blk_ne (sA.blk_ne K3 (by omega)) (by omega)
  replace HX := (HX.step sA (by decide) (by omega)).step sB (by decide) (by omega)
  replace BX := (BX.setCell (p := ⟨g6, 3, none⟩) (by show w.heap.size ≤ g6; omega) (.int .i64 x.k)).setCell (p := ⟨g6, 4, none⟩) (by show w.heap.size ≤ g6; omega) (.slice x.A x.v.length x.c)
  replace K6 := K8
  clear K7 K8 sA sB y3 y4 f3 f4 z0 z1 p2 p4 HQ
  generalize (wc.setCell ⟨g6, 3, none⟩ (.int .i64 x.k)).setCell ⟨g6, 4, none⟩ (.slice x.A x.v.length x.c) = X4 at *
  go_upto_region 11 with (refine Av.wpList_store_cell rfl _ _ _ rfl g6 2 (.int .i64 1) rfl rfl 26 _ K6 (by show 2 < 5; decide) (by kernel_rfl) rfl ?_)
  have sA := stp_cell (i := 2) K6 (.int .i64 1)
  replace K6 := Av.bset K6 2 (.int .i64 1) rfl
  replace K1 := sA.blk_ne K1 (by omega)
  replace K2 := sA.blk_ne K2 (by omega)
  replace K3 := sA.blk_ne K3 (by omega)
  replace HX := HX.step sA (by decide) (by omega)
  replace BX := BX.setCell (p := ⟨g6, 2, none⟩) (by show w.heap.size ≤ g6; omega) (.int .i64 1)
  clear sA
  generalize X4.setCell ⟨g6, 2, none⟩ (.int .i64 1) = X5 at *
  have K1' : Blk X5.drew (w.heap.size) 43 #[.int .i64 sn, .int .i64 nesn, .slice (some ⟨b0, off0, none⟩) n c, .bool true, .bool false, .int .i64 ack, .int .i64 tak] := Mem.Blk.drew K1
  have K2' : Blk X5.drew (w.heap.size + 1) 43 #[.int .i64 0, .int .i64 0, .slice none 0 0, .bool false, .bool false, .int .i64 0, .int .i64 0] := Mem.Blk.drew K2
  have K3' : Blk X5.drew (w.heap.size + 2) 26 #[.int .i64 0, .int .i64 0, .int .i64 0, .int .i64 0, .slice none 0 0] := Mem.Blk.drew K3
  have K6' : Blk X5.drew (g6) 26 #[.int .i64 sn, .int .i64 nesn, .int .i64 1, .int .i64 x.k, .slice x.A x.v.length x.c] := Mem.Blk.drew K6
  refine wp_region_held_drew (S := (fun w' => Blk w' (g6) 26 #[.int .i64 sn, .int .i64 nesn, .int .i64 1, .int .i64 x.k, .slice x.A x.v.length x.c] ∧ Blk w' (w.heap.size) 43 #[.int .i64 sn, .int .i64 nesn, .slice (some ⟨b0, off0, none⟩) n c, .bool true, .bool false, .int .i64 ack, .int .i64 tak])) (by kernel_rfl) ?_ (fun hHeld => ?_)
  ·
    exact ⟨K6', K1'⟩
  replace K1 := K1'
  clear K1'
  replace K2 := K2'
  clear K2'
  replace K3 := K3'
  clear K3'
  replace K6 := K6'
  clear K6'
  replace BX : Below w.heap.size w X5.drew := BX.drew
  replace HX := (show PP X5.drew o x from HX.below ((Below.refl X5.heap.size X5).drew))
  generalize X5.drew = Z0 at *
  refine wpAnyH_take (i := 0) (v := .agg #[.int .i64 sn, .int .i64 nesn, .slice (some ⟨b0, off0, none⟩) n c, .bool true, .bool false, .int .i64 ack, .int .i64 tak]) rfl (by kernel_rfl) (by kernel_rfl) (by kernel_rfl) (fun _ _ _ h => h) (Av.yields_part (by first | rfl | go_simp) _ _ rfl (w.heap.size) 0 rfl #[.int .i64 sn, .int .i64 nesn, .slice (some ⟨b0, off0, none⟩) n c, .bool true, .bool false, .int .i64 ack, .int .i64 tak] _ 43 #[.int .i64 sn, .int .i64 nesn, .slice (some ⟨b0, off0, none⟩) n c, .bool true, .bool false, .int .i64 ack, .int .i64 tak] (fun w9 hSw => hSw.2) rfl Try.underlying43 rfl (by kernel_rfl)) ‹_› ?_
  simp only [getElem_toArray, getElem_cons_zero, getElem_cons_succ, Act.put, setIfInBounds_toArray, set_cons_zero, set_cons_succ]
  refine wpAnyH_take (i := 1) (v := .agg #[.int .i64 sn, .int .i64 nesn, .int .i64 1, .int .i64 x.k, .slice x.A x.v.length x.c]) rfl (by kernel_rfl) (by kernel_rfl) (by kernel_rfl) (fun _ _ _ h => h) (Av.yields_part (by first | rfl | go_simp) _ _ rfl (g6) 0 rfl #[.int .i64 sn, .int .i64 nesn, .int .i64 1, .int .i64 x.k, .slice x.A x.v.length x.c] _ 26 #[.int .i64 sn, .int .i64 nesn, .int .i64 1, .int .i64 x.k, .slice x.A x.v.length x.c] (fun w9 hSw => hSw.1) rfl Try.underlying26 rfl (by kernel_rfl)) ‹_› ?_
  simp only [getElem_toArray, getElem_cons_zero, getElem_cons_succ, Act.put, setIfInBounds_toArray, set_cons_zero, set_cons_succ]
  refine wpAnyH_ready (rs := [2]) (by kernel_rfl) (by simp) ?_
  refine .cons rfl (fun K hK => ?_) .nil
  have H9 : (#[.int .i64 sn, .int .i64 nesn, .slice (some ⟨b0, off0, none⟩) n c, .bool true, .bool false, .int .i64 ack, .int .i64 tak] : Array Value).all (·.oneCell') = true := by rw [← Array.all_toList]; rfl
  refine Av.step_store_row rfl 43 (.tmp 2) (.tmp 41) rfl (w.heap.size + 1) #[.int .i64 sn, .int .i64 nesn, .slice (some ⟨b0, off0, none⟩) n c, .bool true, .bool false, .int .i64 ack, .int .i64 tak] rfl rfl 43 _ K2 (by kernel_rfl) rfl H9 ?_
  replace HX := HX.step (stp_row K2 #[.int .i64 sn, .int .i64 nesn, .slice (some ⟨b0, off0, none⟩) n c, .bool true, .bool false, .int .i64 ack, .int .i64 tak]) (by decide) (show o ≤ w.heap.size + 1 by omega)
  replace K1 : Blk (Z0.setRow (w.heap.size + 1) #[.int .i64 sn, .int .i64 nesn, .slice (some ⟨b0, off0, none⟩) n c, .bool true, .bool false, .int .i64 ack, .int .i64 tak]) (w.heap.size) 43 #[.int .i64 sn, .int .i64 nesn, .slice (some ⟨b0, off0, none⟩) n c, .bool true, .bool false, .int .i64 ack, .int .i64 tak] := Av.bother_row K1 (by omega)
  replace K2 : Blk (Z0.setRow (w.heap.size + 1) #[.int .i64 sn, .int .i64 nesn, .slice (some ⟨b0, off0, none⟩) n c, .bool true, .bool false, .int .i64 ack, .int .i64 tak]) (w.heap.size + 1) 43 #[.int .i64 sn, .int .i64 nesn, .slice (some ⟨b0, off0, none⟩) n c, .bool true, .bool false, .int .i64 ack, .int .i64 tak] := Av.bset_row K2
  replace K3 : Blk (Z0.setRow (w.heap.size + 1) #[.int .i64 sn, .int .i64 nesn, .slice (some ⟨b0, off0, none⟩) n c, .bool true, .bool false, .int .i64 ack, .int .i64 tak]) (w.heap.size + 2) 26 #[.int .i64 0, .int .i64 0, .int .i64 0, .int .i64 0, .slice none 0 0] := Av.bother_row K3 (by omega)
  replace K6 : Blk (Z0.setRow (w.heap.size + 1) #[.int .i64 sn, .int .i64 nesn, .slice (some ⟨b0, off0, none⟩) n c, .bool true, .bool false, .int .i64 ack, .int .i64 tak]) (g6) 26 #[.int .i64 sn, .int .i64 nesn, .int .i64 1, .int .i64 x.k, .slice x.A x.v.length x.c] := Av.bother_row K6 (by omega)
  replace BX : Below w.heap.size w (Z0.setRow (w.heap.size + 1) #[.int .i64 sn, .int .i64 nesn, .slice (some ⟨b0, off0, none⟩) n c, .bool true, .bool false, .int .i64 ack, .int .i64 tak]) := below_setRow BX (by omega) _
  clear H9
  generalize Z0.setRow (w.heap.size + 1) #[.int .i64 sn, .int .i64 nesn, .slice (some ⟨b0, off0, none⟩) n c, .bool true, .bool false, .int .i64 ack, .int .i64 tak] = Z1 at *
  refine hK.out _ _ ⟨K6, K1⟩ (fun hHeld => ?_)
  clear hK K
  try simp only [getElem_toArray, getElem_cons_zero, getElem_cons_succ, Act.put, setIfInBounds_toArray, set_cons_zero, set_cons_succ]
  refine wpAnyH_ready (rs := [3]) (by kernel_rfl) (by simp) ?_
  refine .cons rfl (fun K hK => ?_) .nil
  have H9 : (#[.int .i64 sn, .int .i64 nesn, .int .i64 1, .int .i64 x.k, .slice x.A x.v.length x.c] : Array Value).all (·.oneCell') = true := by rw [← Array.all_toList]; rfl
  refine Av.step_store_row rfl 26 (.tmp 3) (.tmp 42) rfl (w.heap.size + 2) #[.int .i64 sn, .int .i64 nesn, .int .i64 1, .int .i64 x.k, .slice x.A x.v.length x.c] rfl rfl 26 _ K3 (by kernel_rfl) rfl H9 ?_
  replace HX := HX.step (stp_row K3 #[.int .i64 sn, .int .i64 nesn, .int .i64 1, .int .i64 x.k, .slice x.A x.v.length x.c]) (by decide) (show o ≤ w.heap.size + 2 by omega)
  replace K1 : Blk (Z1.setRow (w.heap.size + 2) #[.int .i64 sn, .int .i64 nesn, .int .i64 1, .int .i64 x.k, .slice x.A x.v.length x.c]) (w.heap.size) 43 #[.int .i64 sn, .int .i64 nesn, .slice (some ⟨b0, off0, none⟩) n c, .bool true, .bool false, .int .i64 ack, .int .i64 tak] := Av.bother_row K1 (by omega)
  replace K2 : Blk (Z1.setRow (w.heap.size + 2) #[.int .i64 sn, .int .i64 nesn, .int .i64 1, .int .i64 x.k, .slice x.A x.v.length x.c]) (w.heap.size + 1) 43 #[.int .i64 sn, .int .i64 nesn, .slice (some ⟨b0, off0, none⟩) n c, .bool true, .bool false, .int .i64 ack, .int .i64 tak] := Av.bother_row K2 (by omega)
  replace K3 : Blk (Z1.setRow (w.heap.size + 2) #[.int .i64 sn, .int .i64 nesn, .int .i64 1, .int .i64 x.k, .slice x.A x.v.length x.c]) (w.heap.size + 2) 26 #[.int .i64 sn, .int .i64 nesn, .int .i64 1, .int .i64 x.k, .slice x.A x.v.length x.c] := Av.bset_row K3
  replace K6 : Blk (Z1.setRow (w.heap.size + 2) #[.int .i64 sn, .int .i64 nesn, .int .i64 1, .int .i64 x.k, .slice x.A x.v.length x.c]) (g6) 26 #[.int .i64 sn, .int .i64 nesn, .int .i64 1, .int .i64 x.k, .slice x.A x.v.length x.c] := Av.bother_row K6 (by omega)
  replace BX : Below w.heap.size w (Z1.setRow (w.heap.size + 2) #[.int .i64 sn, .int .i64 nesn, .int .i64 1, .int .i64 x.k, .slice x.A x.v.length x.c]) := below_setRow BX (by omega) _
  clear H9
  generalize Z1.setRow (w.heap.size + 2) #[.int .i64 sn, .int .i64 nesn, .int .i64 1, .int .i64 x.k, .slice x.A x.v.length x.c] = Z2 at *
  refine hK.out _ _ ⟨K6, K1⟩ (fun hHeld => ?_)
  clear hK K
  try simp only [getElem_toArray, getElem_cons_zero, getElem_cons_succ, Act.put, setIfInBounds_toArray, set_cons_zero, set_cons_succ]
  refine wpAnyH_done (by kernel_rfl) ?_ _
  go_wp2_with fail
  refine bodyPost_ret (v := .tuple #[.agg #[.int .i64 sn, .int .i64 nesn, .slice (some ⟨b0, off0, none⟩) n c, .bool true, .bool false, .int .i64 ack, .int .i64 tak], .agg #[.int .i64 sn, .int .i64 nesn, .int .i64 1, .int .i64 x.k, .slice x.A x.v.length x.c]]) ?_ rfl ⟨x, by rw [HO.out.1, (pdu_bits _).1, (pdu_bits _).2.1, hmd]; rfl, HO.out.2, HX, BX⟩
  clear hHeld K1 K6
  have HLa := run_loadVar_row (P := Try.prog) Z2 (w.heap.size + 1) 43 43 #[.int .i64 sn, .int .i64 nesn, .slice (some ⟨b0, off0, none⟩) n c, .bool true, .bool false, .int .i64 ack, .int .i64 tak] (0, 0) _ K2 Try.underlying43 rfl (by kernel_rfl)
  have HLb := run_loadVar_row (P := Try.prog) Z2 (w.heap.size + 2) 26 26 #[.int .i64 sn, .int .i64 nesn, .int .i64 1, .int .i64 x.k, .slice x.A x.v.length x.c] (0, 0) _ K3 Try.underlying26 rfl (by kernel_rfl)
  generalize (#[.int .i64 sn, .int .i64 nesn, .slice (some ⟨b0, off0, none⟩) n c, .bool true, .bool false, .int .i64 ack, .int .i64 tak] : Array Value) = CS at *
  generalize (#[.int .i64 sn, .int .i64 nesn, .int .i64 1, .int .i64 x.k, .slice x.A x.v.length x.c] : Array Value) = CP at *
  simp [results, show (Try.f31).results = #[.cell 2 43, .cell 3 26] from rfl, asAddr, HLa, HLb, Act.put]
set_option maxRecDepth 100000 in
set_option maxHeartbeats 4000000 in
theorem rsend_fe0 (sn nesn : Int) (em : Bool) (ack tak : Nat) (A : Option Addr) (c : Nat) (o : Nat) (w : World) (ho : o ≤ w.heap.size)  :
   Calls Try.prog 31 #[.agg #[.int .i64 sn, .int .i64 nesn, .slice A 0 c, .bool false, .bool em, .int .i64 ack, .int .i64 tak]] w fun e w' => RSent w w' e ⟨sn, nesn, [], false, em, ack, tak⟩ (.slice A 0 c) o := by
 have BX : Below w.heap.size w (((w.alloc (.cells #[.int .i64 sn, .int .i64 nesn, .slice A 0 c, .bool false, .bool em, .int .i64 ack, .int .i64 tak] 43)).alloc (.cells #[.int .i64 0, .int .i64 0, .slice none 0 0, .bool false, .bool false, .int .i64 0, .int .i64 0] 43)).alloc (.cells #[.int .i64 0, .int .i64 0, .int .i64 0, .int .i64 0, .slice none 0 0] 26)) := (((Below.refl _ _).alloc (Nat.le_refl _) _).alloc (by simp) _).alloc (by simp; omega) _
 have K1 : Blk (((w.alloc (.cells #[.int .i64 sn, .int .i64 nesn, .slice A 0 c, .bool false, .bool em, .int .i64 ack, .int .i64 tak] 43)).alloc (.cells #[.int .i64 0, .int .i64 0, .slice none 0 0, .bool false, .bool false, .int .i64 0, .int .i64 0] 43)).alloc (.cells #[.int .i64 0, .int .i64 0, .int .i64 0, .int .i64 0, .slice none 0 0] 26)) w.heap.size 43 #[.int .i64 sn, .int .i64 nesn, .slice A 0 c, .bool false, .bool em, .int .i64 ack, .int .i64 tak] := ((Blk.fresh w 43 #[.int .i64 sn, .int .i64 nesn, .slice A 0 c, .bool false, .bool em, .int .i64 ack, .int .i64 tak]).alloc _).alloc _
 have K2 : Blk (((w.alloc (.cells #[.int .i64 sn, .int .i64 nesn, .slice A 0 c, .bool false, .bool em, .int .i64 ack, .int .i64 tak] 43)).alloc (.cells #[.int .i64 0, .int .i64 0, .slice none 0 0, .bool false, .bool false, .int .i64 0, .int .i64 0] 43)).alloc (.cells #[.int .i64 0, .int .i64 0, .int .i64 0, .int .i64 0, .slice none 0 0] 26)) (w.heap.size + 1) 43 #[.int .i64 0, .int .i64 0, .slice none 0 0, .bool false, .bool false, .int .i64 0, .int .i64 0] := (Av.Blk.next).alloc _
 have K3 : Blk (((w.alloc (.cells #[.int .i64 sn, .int .i64 nesn, .slice A 0 c, .bool false, .bool em, .int .i64 ack, .int .i64 tak] 43)).alloc (.cells #[.int .i64 0, .int .i64 0, .slice none 0 0, .bool false, .bool false, .int .i64 0, .int .i64 0] 43)).alloc (.cells #[.int .i64 0, .int .i64 0, .int .i64 0, .int .i64 0, .slice none 0 0] 26)) (w.heap.size + 2) 26 #[.int .i64 0, .int .i64 0, .int .i64 0, .int .i64 0, .slice none 0 0] := by
     have := Blk.fresh ((w.alloc (.cells #[.int .i64 sn, .int .i64 nesn, .slice A 0 c, .bool false, .bool em, .int .i64 ack, .int .i64 tak] 43)).alloc (.cells #[.int .i64 0, .int .i64 0, .slice none 0 0, .bool false, .bool false, .int .i64 0, .int .i64 0] 43)) 26 #[.int .i64 0, .int .i64 0, .int .i64 0, .int .i64 0, .slice none 0 0]
     simpa using this
 have HO : Hid (openR ⟨sn, nesn, [], false, em, ack, tak⟩ = ⟨sn, nesn, [], true, true, ack, tak⟩ ∧ Pm.p ⟨1, none, 0, []⟩ = (pduR (openR ⟨sn, nesn, [], false, em, ack, tak⟩)).pk) := Lib.hid ⟨by simp [openR], by simp [openR, pduR]; rfl⟩
 have hmd : (pduR ⟨sn, nesn, [], true, true, ack, tak⟩).md = 0 := by simp [pduR]
 have gz : (((0 : Nat) : Int) == 0) = true := rfl
 have g1 : ¬ (0 : Int) < 0 := by omega
 have g8 : ¬ ((0 : Int) < ((0 : Nat) : Int)) := by omega
 skip
 go_enter Try.func31, Try.ntmps31
 go_upto_region 1 with (fail)
 generalize ((w.alloc (.cells #[.int .i64 sn, .int .i64 nesn, .slice A 0 c, .bool false, .bool em, .int .i64 ack, .int .i64 tak] 43)).alloc (.cells #[.int .i64 0, .int .i64 0, .slice none 0 0, .bool false, .bool false, .int .i64 0, .int .i64 0] 43)).alloc (.cells #[.int .i64 0, .int .i64 0, .int .i64 0, .int .i64 0, .slice none 0 0] 26) = W2 at *
 have p3 := K1.cell 3
 have p2 := K1.cell 2
 have hs3 := K3.lt
 go_upto_region 4 with (first
   | (refine Av.wpList_store_cell rfl _ _ _ rfl w.heap.size 3 (.bool true) rfl rfl 43 _ K1 (by show 3 < 7; decide) (by kernel_rfl) rfl ?_; have sA := stp_cell (i := 3) K1 (.bool true); have K9 := Av.bset K1 3 (.bool true) rfl; have p2 := K9.cell 2)
   | (refine Av.wpList_store_cell rfl _ _ _ rfl w.heap.size 4 (.bool true) rfl rfl 43 _ K9 (by show 4 < 7; decide) (by kernel_rfl) rfl ?_))
 have sB := stp_cell (i := 4) K9 (.bool true)
 replace K1 := Av.bset K9 4 (.bool true) rfl
 replace K2 := sB.blk_ne (sA.blk_ne K2 (by omega)) (by omega)
 replace K3 := sB.blk_ne (sA.blk_ne K3 (by omega)) (by omega)
 replace BX := (BX.setCell (p := ⟨w.heap.size, 3, none⟩) (Nat.le_refl _) (.bool true)).setCell (p := ⟨w.heap.size, 4, none⟩) (Nat.le_refl _) (.bool true)
 clear sA sB K9 p3 p2
 generalize (W2.setCell ⟨w.heap.size, 3, none⟩ (.bool true)).setCell ⟨w.heap.size, 4, none⟩ (.bool true) = W3 at *
 clear gz
 try simp only [getElem_toArray, getElem_cons_zero, getElem_cons_succ, Act.put, setIfInBounds_toArray, set_cons_zero, set_cons_succ]
 have HB := Lib.hid rblankpk_any
 go_cut [4] from 15 to 20 (fun s4 wx => ∃ g6, s4 = .pointer (some ⟨g6, 0, none⟩) ∧ w.heap.size + 3 ≤ g6 ∧ Blk wx g6 26 #[.int .i64 sn, .int .i64 nesn, .int .i64 0, .int .i64 1, .slice none 0 0] ∧ Blk wx (w.heap.size) 43 #[.int .i64 sn, .int .i64 nesn, .slice A 0 c, .bool true, .bool true, .int .i64 ack, .int .i64 tak] ∧ Blk wx (w.heap.size + 1) 43 #[.int .i64 0, .int .i64 0, .slice none 0 0, .bool false, .bool false, .int .i64 0, .int .i64 0] ∧ Blk wx (w.heap.size + 2) 26 #[.int .i64 0, .int .i64 0, .int .i64 0, .int .i64 0, .slice none 0 0] ∧ Below w.heap.size w wx)
 case first =>
  have K1' : Blk W3.drew (w.heap.size) 43 #[.int .i64 sn, .int .i64 nesn, .slice A 0 c, .bool true, .bool true, .int .i64 ack, .int .i64 tak] := Mem.Blk.drew K1
  have K2' : Blk W3.drew (w.heap.size + 1) 43 #[.int .i64 0, .int .i64 0, .slice none 0 0, .bool false, .bool false, .int .i64 0, .int .i64 0] := Mem.Blk.drew K2
  have K3' : Blk W3.drew (w.heap.size + 2) 26 #[.int .i64 0, .int .i64 0, .int .i64 0, .int .i64 0, .slice none 0 0] := Mem.Blk.drew K3
  refine wp_region_held_drew (S := (fun w' => Blk w' (w.heap.size) 43 #[.int .i64 sn, .int .i64 nesn, .slice A 0 c, .bool true, .bool true, .int .i64 ack, .int .i64 tak])) (by kernel_rfl) ?_ (fun hHeld => ?_)
  ·
    exact K1'
  replace K1 := K1'
  clear K1'
  replace K2 := K2'
  clear K2'
  replace K3 := K3'
  clear K3'
  replace BX : Below w.heap.size w W3.drew := BX.drew
  generalize W3.drew = X0 at *
  refine wpAnyH_take (i := 0) (v := .pointer (some ⟨w.heap.size, 0, none⟩)) rfl (by kernel_rfl) (by kernel_rfl) (by kernel_rfl) (fun _ _ _ h => h) (.inl ⟨by first | rfl | go_simp, by intro u h; (try dsimp only at h); go_simp⟩) ‹_› ?_
  simp only [getElem_toArray, getElem_cons_zero, getElem_cons_succ, Act.put, setIfInBounds_toArray, set_cons_zero, set_cons_succ]
  refine wpAnyH_take (i := 1) (v := .int .i64 sn) rfl (by kernel_rfl) (by kernel_rfl) (by kernel_rfl) (fun _ _ _ h => h) (Or.inl ⟨by first | rfl | go_simp, by intro w9 hSw; (try dsimp only at hSw); have c9 := hSw.cell 0; clear hSw; go_simp⟩) ‹_› ?_
  simp only [getElem_toArray, getElem_cons_zero, getElem_cons_succ, Act.put, setIfInBounds_toArray, set_cons_zero, set_cons_succ]
  refine wpAnyH_take (i := 2) (v := .pointer (some ⟨w.heap.size, 1, none⟩)) rfl (by kernel_rfl) (by kernel_rfl) (by kernel_rfl) (fun _ _ _ h => h) (.inl ⟨by first | rfl | go_simp, by intro u h; (try dsimp only at h); go_simp⟩) ‹_› ?_
  simp only [getElem_toArray, getElem_cons_zero, getElem_cons_succ, Act.put, setIfInBounds_toArray, set_cons_zero, set_cons_succ]
  refine wpAnyH_take (i := 3) (v := .int .i64 nesn) rfl (by kernel_rfl) (by kernel_rfl) (by kernel_rfl) (fun _ _ _ h => h) (Or.inl ⟨by first | rfl | go_simp, by intro w9 hSw; (try dsimp only at hSw); have c9 := hSw.cell 1; clear hSw; go_simp⟩) ‹_› ?_
  simp only [getElem_toArray, getElem_cons_zero, getElem_cons_succ, Act.put, setIfInBounds_toArray, set_cons_zero, set_cons_succ]
  refine wpAnyH_ready (rs := [4, 6]) (by kernel_rfl) (by simp) ?_
  refine AllReadyH.cons rfl (fun K hK => ?_) (AllReadyH.cons rfl (fun K hK => ?_) (AllReadyH.nil))
  ·
    go_simp
    refine (HB.out X0).mono ?_
    rintro e X1 ⟨rfl, b9⟩
    replace K1 := K1.below b9 K1.lt
    replace K2 := K2.below b9 K2.lt
    replace K3 := K3.below b9 K3.lt
    replace BX := thenB BX b9
    clear b9
    refine hK.out _ _ K1 (fun hHeld => ?_)
    clear hK K
    try simp only [getElem_toArray, getElem_cons_zero, getElem_cons_succ, Act.put, setIfInBounds_toArray, set_cons_zero, set_cons_succ]
    refine wpAnyH_take (i := 5) (v := .agg #[.int .i64 sn, .int .i64 nesn, .int .i64 0, .int .i64 1, .slice none 0 0]) rfl (by kernel_rfl) (by kernel_rfl) (by kernel_rfl) (fun _ _ _ h => h) (.inl ⟨by first | rfl | go_simp, by intro u h; (try dsimp only at h); go_simp⟩) ‹_› ?_
    simp only [getElem_toArray, getElem_cons_zero, getElem_cons_succ, Act.put, setIfInBounds_toArray, set_cons_zero, set_cons_succ]
    refine wpAnyH_ready (rs := [6]) (by kernel_rfl) (by simp) ?_
    refine .cons rfl (fun K hK => ?_) .nil
    go_simp
    have b9 := (Below.refl X1.heap.size X1).alloc (Nat.le_refl _) (.cells #[.int .i64 0, .int .i64 0, .int .i64 0, .int .i64 0, .slice none 0 0] 26)
    have K6 : Blk (X1.alloc (.cells #[.int .i64 0, .int .i64 0, .int .i64 0, .int .i64 0, .slice none 0 0] 26)) X1.heap.size 26 #[.int .i64 0, .int .i64 0, .int .i64 0, .int .i64 0, .slice none 0 0] := Blk.fresh X1 26 #[.int .i64 0, .int .i64 0, .int .i64 0, .int .i64 0, .slice none 0 0]
    have hx6 : w.heap.size + 3 ≤ X1.heap.size := by have := K3.lt; omega
    replace K1 := K1.below b9 K1.lt
    replace K2 := K2.below b9 K2.lt
    replace K3 := K3.below b9 K3.lt
    replace BX := thenB BX b9
    clear b9
    generalize X1.alloc (.cells #[.int .i64 0, .int .i64 0, .int .i64 0, .int .i64 0, .slice none 0 0] 26) = X2 at *
    refine hK.out _ _ K1 (fun hHeld => ?_)
    clear hK K
    try simp only [getElem_toArray, getElem_cons_zero, getElem_cons_succ, Act.put, setIfInBounds_toArray, set_cons_zero, set_cons_succ]
    refine wpAnyH_ready (rs := [7]) (by kernel_rfl) (by simp) ?_
    refine .cons rfl (fun K hK => ?_) .nil
    have H9 : (#[.int .i64 sn, .int .i64 nesn, .int .i64 0, .int .i64 1, .slice none 0 0] : Array Value).all (·.oneCell') = true := by rw [← Array.all_toList]; rfl
    refine Av.step_store_row rfl 26 (.tmp 4) (.tmp 20) rfl (X1.heap.size) #[.int .i64 sn, .int .i64 nesn, .int .i64 0, .int .i64 1, .slice none 0 0] rfl rfl 26 _ K6 (by kernel_rfl) rfl H9 ?_
    replace K1 : Blk (X2.setRow (X1.heap.size) #[.int .i64 sn, .int .i64 nesn, .int .i64 0, .int .i64 1, .slice none 0 0]) (w.heap.size) 43 #[.int .i64 sn, .int .i64 nesn, .slice A 0 c, .bool true, .bool true, .int .i64 ack, .int .i64 tak] := Av.bother_row K1 (by omega)
    replace K2 : Blk (X2.setRow (X1.heap.size) #[.int .i64 sn, .int .i64 nesn, .int .i64 0, .int .i64 1, .slice none 0 0]) (w.heap.size + 1) 43 #[.int .i64 0, .int .i64 0, .slice none 0 0, .bool false, .bool false, .int .i64 0, .int .i64 0] := Av.bother_row K2 (by omega)
    replace K3 : Blk (X2.setRow (X1.heap.size) #[.int .i64 sn, .int .i64 nesn, .int .i64 0, .int .i64 1, .slice none 0 0]) (w.heap.size + 2) 26 #[.int .i64 0, .int .i64 0, .int .i64 0, .int .i64 0, .slice none 0 0] := Av.bother_row K3 (by omega)
    replace K6 : Blk (X2.setRow (X1.heap.size) #[.int .i64 sn, .int .i64 nesn, .int .i64 0, .int .i64 1, .slice none 0 0]) (X1.heap.size) 26 #[.int .i64 sn, .int .i64 nesn, .int .i64 0, .int .i64 1, .slice none 0 0] := Av.bset_row K6
    replace BX : Below w.heap.size w (X2.setRow (X1.heap.size) #[.int .i64 sn, .int .i64 nesn, .int .i64 0, .int .i64 1, .slice none 0 0]) := below_setRow BX (by omega) _
    clear H9
    generalize X2.setRow (X1.heap.size) #[.int .i64 sn, .int .i64 nesn, .int .i64 0, .int .i64 1, .slice none 0 0] = X3 at *
    refine hK.out _ _ K1 (fun hHeld => ?_)
    clear hK K
    try simp only [getElem_toArray, getElem_cons_zero, getElem_cons_succ, Act.put, setIfInBounds_toArray, set_cons_zero, set_cons_succ]
    refine wpAnyH_done (by kernel_rfl) ?_ _
    clear hHeld
    go_wp2_with fail
    go_meet
    exact ⟨X1.heap.size, rfl, hx6, K6, K1, K2, K3, BX⟩
  ·
    go_simp
    have b9 := (Below.refl X0.heap.size X0).alloc (Nat.le_refl _) (.cells #[.int .i64 0, .int .i64 0, .int .i64 0, .int .i64 0, .slice none 0 0] 26)
    have K6 : Blk (X0.alloc (.cells #[.int .i64 0, .int .i64 0, .int .i64 0, .int .i64 0, .slice none 0 0] 26)) X0.heap.size 26 #[.int .i64 0, .int .i64 0, .int .i64 0, .int .i64 0, .slice none 0 0] := Blk.fresh X0 26 #[.int .i64 0, .int .i64 0, .int .i64 0, .int .i64 0, .slice none 0 0]
    have hx6 : w.heap.size + 3 ≤ X0.heap.size := by have := K3.lt; omega
    replace K1 := K1.below b9 K1.lt
    replace K2 := K2.below b9 K2.lt
    replace K3 := K3.below b9 K3.lt
    replace BX := thenB BX b9
    clear b9
    generalize X0.alloc (.cells #[.int .i64 0, .int .i64 0, .int .i64 0, .int .i64 0, .slice none 0 0] 26) = X4 at *
    refine hK.out _ _ K1 (fun hHeld => ?_)
    clear hK K
    try simp only [getElem_toArray, getElem_cons_zero, getElem_cons_succ, Act.put, setIfInBounds_toArray, set_cons_zero, set_cons_succ]
    refine wpAnyH_ready (rs := [4]) (by kernel_rfl) (by simp) ?_
    refine .cons rfl (fun K hK => ?_) .nil
    go_simp
    refine (HB.out X4).mono ?_
    rintro e X5 ⟨rfl, b9⟩
    replace K1 := K1.below b9 K1.lt
    replace K2 := K2.below b9 K2.lt
    replace K3 := K3.below b9 K3.lt
    replace K6 := K6.below b9 K6.lt
    replace BX := thenB BX b9
    clear b9
    refine hK.out _ _ K1 (fun hHeld => ?_)
    clear hK K
    try simp only [getElem_toArray, getElem_cons_zero, getElem_cons_succ, Act.put, setIfInBounds_toArray, set_cons_zero, set_cons_succ]
    refine wpAnyH_take (i := 5) (v := .agg #[.int .i64 sn, .int .i64 nesn, .int .i64 0, .int .i64 1, .slice none 0 0]) rfl (by kernel_rfl) (by kernel_rfl) (by kernel_rfl) (fun _ _ _ h => h) (.inl ⟨by first | rfl | go_simp, by intro u h; (try dsimp only at h); go_simp⟩) ‹_› ?_
    simp only [getElem_toArray, getElem_cons_zero, getElem_cons_succ, Act.put, setIfInBounds_toArray, set_cons_zero, set_cons_succ]
    refine wpAnyH_ready (rs := [7]) (by kernel_rfl) (by simp) ?_
    refine .cons rfl (fun K hK => ?_) .nil
    have H9 : (#[.int .i64 sn, .int .i64 nesn, .int .i64 0, .int .i64 1, .slice none 0 0] : Array Value).all (·.oneCell') = true := by rw [← Array.all_toList]; rfl
    refine Av.step_store_row rfl 26 (.tmp 4) (.tmp 20) rfl (X0.heap.size) #[.int .i64 sn, .int .i64 nesn, .int .i64 0, .int .i64 1, .slice none 0 0] rfl rfl 26 _ K6 (by kernel_rfl) rfl H9 ?_
    replace K1 : Blk (X5.setRow (X0.heap.size) #[.int .i64 sn, .int .i64 nesn, .int .i64 0, .int .i64 1, .slice none 0 0]) (w.heap.size) 43 #[.int .i64 sn, .int .i64 nesn, .slice A 0 c, .bool true, .bool true, .int .i64 ack, .int .i64 tak] := Av.bother_row K1 (by omega)
    replace K2 : Blk (X5.setRow (X0.heap.size) #[.int .i64 sn, .int .i64 nesn, .int .i64 0, .int .i64 1, .slice none 0 0]) (w.heap.size + 1) 43 #[.int .i64 0, .int .i64 0, .slice none 0 0, .bool false, .bool false, .int .i64 0, .int .i64 0] := Av.bother_row K2 (by omega)
    replace K3 : Blk (X5.setRow (X0.heap.size) #[.int .i64 sn, .int .i64 nesn, .int .i64 0, .int .i64 1, .slice none 0 0]) (w.heap.size + 2) 26 #[.int .i64 0, .int .i64 0, .int .i64 0, .int .i64 0, .slice none 0 0] := Av.bother_row K3 (by omega)
    replace K6 : Blk (X5.setRow (X0.heap.size) #[.int .i64 sn, .int .i64 nesn, .int .i64 0, .int .i64 1, .slice none 0 0]) (X0.heap.size) 26 #[.int .i64 sn, .int .i64 nesn, .int .i64 0, .int .i64 1, .slice none 0 0] := Av.bset_row K6
    replace BX : Below w.heap.size w (X5.setRow (X0.heap.size) #[.int .i64 sn, .int .i64 nesn, .int .i64 0, .int .i64 1, .slice none 0 0]) := below_setRow BX (by omega) _
    clear H9
    generalize X5.setRow (X0.heap.size) #[.int .i64 sn, .int .i64 nesn, .int .i64 0, .int .i64 1, .slice none 0 0] = X6 at *
    refine hK.out _ _ K1 (fun hHeld => ?_)
    clear hK K
    try simp only [getElem_toArray, getElem_cons_zero, getElem_cons_succ, Act.put, setIfInBounds_toArray, set_cons_zero, set_cons_succ]
    refine wpAnyH_done (by kernel_rfl) ?_ _
    clear hHeld
    go_wp2_with fail
    go_meet
    exact ⟨X0.heap.size, rfl, hx6, K6, K1, K2, K3, BX⟩
 case rest =>
  obtain ⟨g6, rfl, hx6, K6, K1, K2, K3, BX⟩ := hcut
  clear HB
  have p2 := K1.cell 2
  have p4 := K1.cell 4
  have HX : PP wc o ⟨1, none, 0, []⟩ := ⟨Nat.le_refl _, Nat.zero_le _, fun z hz => absurd hz (by simp), .inl (.inl rfl)⟩
  go_upto_region 11 with (fail)
  clear p2 p4
  have K1' : Blk wc.drew (w.heap.size) 43 #[.int .i64 sn, .int .i64 nesn, .slice A 0 c, .bool true, .bool true, .int .i64 ack, .int .i64 tak] := Mem.Blk.drew K1
  have K2' : Blk wc.drew (w.heap.size + 1) 43 #[.int .i64 0, .int .i64 0, .slice none 0 0, .bool false, .bool false, .int .i64 0, .int .i64 0] := Mem.Blk.drew K2
  have K3' : Blk wc.drew (w.heap.size + 2) 26 #[.int .i64 0, .int .i64 0, .int .i64 0, .int .i64 0, .slice none 0 0] := Mem.Blk.drew K3
  have K6' : Blk wc.drew (g6) 26 #[.int .i64 sn, .int .i64 nesn, .int .i64 0, .int .i64 1, .slice none 0 0] := Mem.Blk.drew K6
  refine wp_region_held_drew (S := (fun w' => Blk w' (g6) 26 #[.int .i64 sn, .int .i64 nesn, .int .i64 0, .int .i64 1, .slice none 0 0] ∧ Blk w' (w.heap.size) 43 #[.int .i64 sn, .int .i64 nesn, .slice A 0 c, .bool true, .bool true, .int .i64 ack, .int .i64 tak])) (by kernel_rfl) ?_ (fun hHeld => ?_)
  ·
    exact ⟨K6', K1'⟩
  replace K1 := K1'
  clear K1'
  replace K2 := K2'
  clear K2'
  replace K3 := K3'
  clear K3'
  replace K6 := K6'
  clear K6'
  replace BX : Below w.heap.size w wc.drew := BX.drew
  replace HX := (show PP wc.drew o ⟨1, none, 0, []⟩ from HX.below ((Below.refl wc.heap.size wc).drew))
  generalize wc.drew = Z0 at *
  refine wpAnyH_take (i := 0) (v := .agg #[.int .i64 sn, .int .i64 nesn, .slice A 0 c, .bool true, .bool true, .int .i64 ack, .int .i64 tak]) rfl (by kernel_rfl) (by kernel_rfl) (by kernel_rfl) (fun _ _ _ h => h) (Av.yields_part (by first | rfl | go_simp) _ _ rfl (w.heap.size) 0 rfl #[.int .i64 sn, .int .i64 nesn, .slice A 0 c, .bool true, .bool true, .int .i64 ack, .int .i64 tak] _ 43 #[.int .i64 sn, .int .i64 nesn, .slice A 0 c, .bool true, .bool true, .int .i64 ack, .int .i64 tak] (fun w9 hSw => hSw.2) rfl Try.underlying43 rfl (by kernel_rfl)) ‹_› ?_
  simp only [getElem_toArray, getElem_cons_zero, getElem_cons_succ, Act.put, setIfInBounds_toArray, set_cons_zero, set_cons_succ]
  refine wpAnyH_take (i := 1) (v := .agg #[.int .i64 sn, .int .i64 nesn, .int .i64 0, .int .i64 1, .slice none 0 0]) rfl (by kernel_rfl) (by kernel_rfl) (by kernel_rfl) (fun _ _ _ h => h) (Av.yields_part (by first | rfl | go_simp) _ _ rfl (g6) 0 rfl #[.int .i64 sn, .int .i64 nesn, .int .i64 0, .int .i64 1, .slice none 0 0] _ 26 #[.int .i64 sn, .int .i64 nesn, .int .i64 0, .int .i64 1, .slice none 0 0] (fun w9 hSw => hSw.1) rfl Try.underlying26 rfl (by kernel_rfl)) ‹_› ?_
  simp only [getElem_toArray, getElem_cons_zero, getElem_cons_succ, Act.put, setIfInBounds_toArray, set_cons_zero, set_cons_succ]
  refine wpAnyH_ready (rs := [2]) (by kernel_rfl) (by simp) ?_
  refine .cons rfl (fun K hK => ?_) .nil
  have H9 : (#[.int .i64 sn, .int .i64 nesn, .slice A 0 c, .bool true, .bool true, .int .i64 ack, .int .i64 tak] : Array Value).all (·.oneCell') = true := by rw [← Array.all_toList]; rfl
  refine Av.step_store_row rfl 43 (.tmp 2) (.tmp 41) rfl (w.heap.size + 1) #[.int .i64 sn, .int .i64 nesn, .slice A 0 c, .bool true, .bool true, .int .i64 ack, .int .i64 tak] rfl rfl 43 _ K2 (by kernel_rfl) rfl H9 ?_
  replace HX := HX.step (stp_row K2 #[.int .i64 sn, .int .i64 nesn, .slice A 0 c, .bool true, .bool true, .int .i64 ack, .int .i64 tak]) (by decide) (show o ≤ w.heap.size + 1 by omega)
  replace K1 : Blk (Z0.setRow (w.heap.size + 1) #[.int .i64 sn, .int .i64 nesn, .slice A 0 c, .bool true, .bool true, .int .i64 ack, .int .i64 tak]) (w.heap.size) 43 #[.int .i64 sn, .int .i64 nesn, .slice A 0 c, .bool true, .bool true, .int .i64 ack, .int .i64 tak] := Av.bother_row K1 (by omega)
  replace K2 : Blk (Z0.setRow (w.heap.size + 1) #[.int .i64 sn, .int .i64 nesn, .slice A 0 c, .bool true, .bool true, .int .i64 ack, .int .i64 tak]) (w.heap.size + 1) 43 #[.int .i64 sn, .int .i64 nesn, .slice A 0 c, .bool true, .bool true, .int .i64 ack, .int .i64 tak] := Av.bset_row K2
  replace K3 : Blk (Z0.setRow (w.heap.size + 1) #[.int .i64 sn, .int .i64 nesn, .slice A 0 c, .bool true, .bool true, .int .i64 ack, .int .i64 tak]) (w.heap.size + 2) 26 #[.int .i64 0, .int .i64 0, .int .i64 0, .int .i64 0, .slice none 0 0] := Av.bother_row K3 (by omega)
  replace K6 : Blk (Z0.setRow (w.heap.size + 1) #[.int .i64 sn, .int .i64 nesn, .slice A 0 c, .bool true, .bool true, .int .i64 ack, .int .i64 tak]) (g6) 26 #[.int .i64 sn, .int .i64 nesn, .int .i64 0, .int .i64 1, .slice none 0 0] := Av.bother_row K6 (by omega)
  replace BX : Below w.heap.size w (Z0.setRow (w.heap.size + 1) #[.int .i64 sn, .int .i64 nesn, .slice A 0 c, .bool true, .bool true, .int .i64 ack, .int .i64 tak]) := below_setRow BX (by omega) _
  clear H9
  generalize Z0.setRow (w.heap.size + 1) #[.int .i64 sn, .int .i64 nesn, .slice A 0 c, .bool true, .bool true, .int .i64 ack, .int .i64 tak] = Z1 at *
  refine hK.out _ _ ⟨K6, K1⟩ (fun hHeld => ?_)
  clear hK K
  try simp only [getElem_toArray, getElem_cons_zero, getElem_cons_succ, Act.put, setIfInBounds_toArray, set_cons_zero, set_cons_succ]
  refine wpAnyH_ready (rs := [3]) (by kernel_rfl) (by simp) ?_
  refine .cons rfl (fun K hK => ?_) .nil
  have H9 : (#[.int .i64 sn, .int .i64 nesn, .int .i64 0, .int .i64 1, .slice none 0 0] : Array Value).all (·.oneCell') = true := by rw [← Array.all_toList]; rfl
  refine Av.step_store_row rfl 26 (.tmp 3) (.tmp 42) rfl (w.heap.size + 2) #[.int .i64 sn, .int .i64 nesn, .int .i64 0, .int .i64 1, .slice none 0 0] rfl rfl 26 _ K3 (by kernel_rfl) rfl H9 ?_
  replace HX := HX.step (stp_row K3 #[.int .i64 sn, .int .i64 nesn, .int .i64 0, .int .i64 1, .slice none 0 0]) (by decide) (show o ≤ w.heap.size + 2 by omega)
  replace K1 : Blk (Z1.setRow (w.heap.size + 2) #[.int .i64 sn, .int .i64 nesn, .int .i64 0, .int .i64 1, .slice none 0 0]) (w.heap.size) 43 #[.int .i64 sn, .int .i64 nesn, .slice A 0 c, .bool true, .bool true, .int .i64 ack, .int .i64 tak] := Av.bother_row K1 (by omega)
  replace K2 : Blk (Z1.setRow (w.heap.size + 2) #[.int .i64 sn, .int .i64 nesn, .int .i64 0, .int .i64 1, .slice none 0 0]) (w.heap.size + 1) 43 #[.int .i64 sn, .int .i64 nesn, .slice A 0 c, .bool true, .bool true, .int .i64 ack, .int .i64 tak] := Av.bother_row K2 (by omega)
  replace K3 : Blk (Z1.setRow (w.heap.size + 2) #[.int .i64 sn, .int .i64 nesn, .int .i64 0, .int .i64 1, .slice none 0 0]) (w.heap.size + 2) 26 #[.int .i64 sn, .int .i64 nesn, .int .i64 0, .int .i64 1, .slice none 0 0] := Av.bset_row K3
  replace K6 : Blk (Z1.setRow (w.heap.size + 2) #[.int .i64 sn, .int .i64 nesn, .int .i64 0, .int .i64 1, .slice none 0 0]) (g6) 26 #[.int .i64 sn, .int .i64 nesn, .int .i64 0, .int .i64 1, .slice none 0 0] := Av.bother_row K6 (by omega)
  replace BX : Below w.heap.size w (Z1.setRow (w.heap.size + 2) #[.int .i64 sn, .int .i64 nesn, .int .i64 0, .int .i64 1, .slice none 0 0]) := below_setRow BX (by omega) _
  clear H9
  generalize Z1.setRow (w.heap.size + 2) #[.int .i64 sn, .int .i64 nesn, .int .i64 0, .int .i64 1, .slice none 0 0] = Z2 at *
  refine hK.out _ _ ⟨K6, K1⟩ (fun hHeld => ?_)
  clear hK K
  try simp only [getElem_toArray, getElem_cons_zero, getElem_cons_succ, Act.put, setIfInBounds_toArray, set_cons_zero, set_cons_succ]
  refine wpAnyH_done (by kernel_rfl) ?_ _
  go_wp2_with fail
  refine bodyPost_ret (v := .tuple #[.agg #[.int .i64 sn, .int .i64 nesn, .slice A 0 c, .bool true, .bool true, .int .i64 ack, .int .i64 tak], .agg #[.int .i64 sn, .int .i64 nesn, .int .i64 0, .int .i64 1, .slice none 0 0]]) ?_ rfl ⟨⟨1, none, 0, []⟩, by rw [HO.out.1, (pdu_bits _).1, (pdu_bits _).2.1, hmd]; rfl, HO.out.2, HX, BX⟩
  clear hHeld K1 K6
  have HLa := run_loadVar_row (P := Try.prog) Z2 (w.heap.size + 1) 43 43 #[.int .i64 sn, .int .i64 nesn, .slice A 0 c, .bool true, .bool true, .int .i64 ack, .int .i64 tak] (0, 0) _ K2 Try.underlying43 rfl (by kernel_rfl)
  have HLb := run_loadVar_row (P := Try.prog) Z2 (w.heap.size + 2) 26 26 #[.int .i64 sn, .int .i64 nesn, .int .i64 0, .int .i64 1, .slice none 0 0] (0, 0) _ K3 Try.underlying26 rfl (by kernel_rfl)
  generalize (#[.int .i64 sn, .int .i64 nesn, .slice A 0 c, .bool true, .bool true, .int .i64 ack, .int .i64 tak] : Array Value) = CS at *
  generalize (#[.int .i64 sn, .int .i64 nesn, .int .i64 0, .int .i64 1, .slice none 0 0] : Array Value) = CP at *
  simp [results, show (Try.f31).results = #[.cell 2 43, .cell 3 26] from rfl, asAddr, HLa, HLb, Act.put]
set_option maxRecDepth 100000 in
set_option maxHeartbeats 4000000 in
theorem rsend_fe1 (sn nesn : Int) (em : Bool) (ack tak : Nat) (x : Pm) (r : List Pm) (y : Pk) (q' : List Pk) (b0 off0 n c : Nat) (o : Nat) (w : World) (ho : o ≤ w.heap.size) (hn : n ≤ 1000000) (hq : QQ w 0 o (.slice (some ⟨b0, off0, none⟩) n c) (x :: r)) (hxy : x.p = y) (hmq : r.map Pm.p = q') (hnl : r.length + 1 = n) (h1 : n = 1) :
   Calls Try.prog 31 #[.agg #[.int .i64 sn, .int .i64 nesn, .slice (some ⟨b0, off0, none⟩) n c, .bool false, .bool em, .int .i64 ack, .int .i64 tak]] w fun e w' => RSent w w' e ⟨sn, nesn, (y :: q'), false, em, ack, tak⟩ (.slice (some ⟨b0, off0, none⟩) n c) o := by
 have BX : Below w.heap.size w (((w.alloc (.cells #[.int .i64 sn, .int .i64 nesn, .slice (some ⟨b0, off0, none⟩) n c, .bool false, .bool em, .int .i64 ack, .int .i64 tak] 43)).alloc (.cells #[.int .i64 0, .int .i64 0, .slice none 0 0, .bool false, .bool false, .int .i64 0, .int .i64 0] 43)).alloc (.cells #[.int .i64 0, .int .i64 0, .int .i64 0, .int .i64 0, .slice none 0 0] 26)) := (((Below.refl _ _).alloc (Nat.le_refl _) _).alloc (by simp) _).alloc (by simp; omega) _
 have K1 : Blk (((w.alloc (.cells #[.int .i64 sn, .int .i64 nesn, .slice (some ⟨b0, off0, none⟩) n c, .bool false, .bool em, .int .i64 ack, .int .i64 tak] 43)).alloc (.cells #[.int .i64 0, .int .i64 0, .slice none 0 0, .bool false, .bool false, .int .i64 0, .int .i64 0] 43)).alloc (.cells #[.int .i64 0, .int .i64 0, .int .i64 0, .int .i64 0, .slice none 0 0] 26)) w.heap.size 43 #[.int .i64 sn, .int .i64 nesn, .slice (some ⟨b0, off0, none⟩) n c, .bool false, .bool em, .int .i64 ack, .int .i64 tak] := ((Blk.fresh w 43 #[.int .i64 sn, .int .i64 nesn, .slice (some ⟨b0, off0, none⟩) n c, .bool false, .bool em, .int .i64 ack, .int .i64 tak]).alloc _).alloc _
 have K2 : Blk (((w.alloc (.cells #[.int .i64 sn, .int .i64 nesn, .slice (some ⟨b0, off0, none⟩) n c, .bool false, .bool em, .int .i64 ack, .int .i64 tak] 43)).alloc (.cells #[.int .i64 0, .int .i64 0, .slice none 0 0, .bool false, .bool false, .int .i64 0, .int .i64 0] 43)).alloc (.cells #[.int .i64 0, .int .i64 0, .int .i64 0, .int .i64 0, .slice none 0 0] 26)) (w.heap.size + 1) 43 #[.int .i64 0, .int .i64 0, .slice none 0 0, .bool false, .bool false, .int .i64 0, .int .i64 0] := (Av.Blk.next).alloc _
 have K3 : Blk (((w.alloc (.cells #[.int .i64 sn, .int .i64 nesn, .slice (some ⟨b0, off0, none⟩) n c, .bool false, .bool em, .int .i64 ack, .int .i64 tak] 43)).alloc (.cells #[.int .i64 0, .int .i64 0, .slice none 0 0, .bool false, .bool false, .int .i64 0, .int .i64 0] 43)).alloc (.cells #[.int .i64 0, .int .i64 0, .int .i64 0, .int .i64 0, .slice none 0 0] 26)) (w.heap.size + 2) 26 #[.int .i64 0, .int .i64 0, .int .i64 0, .int .i64 0, .slice none 0 0] := by
     have := Blk.fresh ((w.alloc (.cells #[.int .i64 sn, .int .i64 nesn, .slice (some ⟨b0, off0, none⟩) n c, .bool false, .bool em, .int .i64 ack, .int .i64 tak] 43)).alloc (.cells #[.int .i64 0, .int .i64 0, .slice none 0 0, .bool false, .bool false, .int .i64 0, .int .i64 0] 43)) 26 #[.int .i64 0, .int .i64 0, .int .i64 0, .int .i64 0, .slice none 0 0]
     simpa using this
 have HQ := hq.below BX
 have hrq : q' = [] ↔ n = 1 := by
     rw [← hmq, List.map_eq_nil_iff]
     constructor
     ·
      intro h; rw [h] at hnl; simpa using hnl.symm
     ·
      intro h; exact List.eq_nil_of_length_eq_zero (by omega)
 have HO : Hid (openR ⟨sn, nesn, (y :: q'), false, em, ack, tak⟩ = ⟨sn, nesn, (y :: q'), true, false, ack, tak⟩ ∧ Pm.p x = (pduR (openR ⟨sn, nesn, (y :: q'), false, em, ack, tak⟩)).pk) := Lib.hid ⟨by simp [openR], by simp [openR, pduR, hxy]⟩
 have hmd : (pduR ⟨sn, nesn, (y :: q'), true, false, ack, tak⟩).md = 0 := by simp [pduR, hrq, h1]
 have gz : ((n : Int) == 0) = false := n_pos (by omega)
 have g1 : (0 : Int) < (n : Int) := by omega
 have eB : IntKind.i64.wrap ((n : Int) - 1) = (n : Int) - 1 := by rw [IntWalk.i64_in _ (by omega)]
 have g2 : ¬ (0 : Int) < (n : Int) - 1 := by omega
 clear hq hxy hmq hnl hrq h1
 go_enter Try.func31, Try.ntmps31
 go_upto_region 1 with (fail)
 generalize ((w.alloc (.cells #[.int .i64 sn, .int .i64 nesn, .slice (some ⟨b0, off0, none⟩) n c, .bool false, .bool em, .int .i64 ack, .int .i64 tak] 43)).alloc (.cells #[.int .i64 0, .int .i64 0, .slice none 0 0, .bool false, .bool false, .int .i64 0, .int .i64 0] 43)).alloc (.cells #[.int .i64 0, .int .i64 0, .int .i64 0, .int .i64 0, .slice none 0 0] 26) = W2 at *
 have p3 := K1.cell 3
 have p2 := K1.cell 2
 have hs3 := K3.lt
 go_upto_region 4 with (first
   | (refine Av.wpList_store_cell rfl _ _ _ rfl w.heap.size 3 (.bool true) rfl rfl 43 _ K1 (by show 3 < 7; decide) (by kernel_rfl) rfl ?_; have sA := stp_cell (i := 3) K1 (.bool true); have K9 := Av.bset K1 3 (.bool true) rfl; have p2 := K9.cell 2)
   | (refine Av.wpList_store_cell rfl _ _ _ rfl w.heap.size 4 (.bool false) rfl rfl 43 _ K9 (by show 4 < 7; decide) (by kernel_rfl) rfl ?_))
 have sB := stp_cell (i := 4) K9 (.bool false)
 replace K1 := Av.bset K9 4 (.bool false) rfl
 replace K2 := sB.blk_ne (sA.blk_ne K2 (by omega)) (by omega)
 replace K3 := sB.blk_ne (sA.blk_ne K3 (by omega)) (by omega)
 replace HQ := (HQ.step sA (by decide) (by decide) ho).step sB (by decide) (by decide) ho
 replace BX := (BX.setCell (p := ⟨w.heap.size, 3, none⟩) (Nat.le_refl _) (.bool true)).setCell (p := ⟨w.heap.size, 4, none⟩) (Nat.le_refl _) (.bool false)
 clear sA sB K9 p3 p2
 generalize (W2.setCell ⟨w.heap.size, 3, none⟩ (.bool true)).setCell ⟨w.heap.size, 4, none⟩ (.bool false) = W3 at *
 clear gz
 try simp only [getElem_toArray, getElem_cons_zero, getElem_cons_succ, Act.put, setIfInBounds_toArray, set_cons_zero, set_cons_succ]
 have HB := Lib.hid rblankpk_any
 go_cut [4] from 15 to 20 (fun s4 wx => ∃ g6, s4 = .pointer (some ⟨g6, 0, none⟩) ∧ w.heap.size + 3 ≤ g6 ∧ Blk wx g6 26 #[.int .i64 sn, .int .i64 nesn, .int .i64 0, .int .i64 1, .slice none 0 0] ∧ Blk wx (w.heap.size) 43 #[.int .i64 sn, .int .i64 nesn, .slice (some ⟨b0, off0, none⟩) n c, .bool true, .bool false, .int .i64 ack, .int .i64 tak] ∧ Blk wx (w.heap.size + 1) 43 #[.int .i64 0, .int .i64 0, .slice none 0 0, .bool false, .bool false, .int .i64 0, .int .i64 0] ∧ Blk wx (w.heap.size + 2) 26 #[.int .i64 0, .int .i64 0, .int .i64 0, .int .i64 0, .slice none 0 0] ∧ QQ wx 0 o (.slice (some ⟨b0, off0, none⟩) n c) (x :: r) ∧ Below w.heap.size w wx)
 case first =>
  have K1' : Blk W3.drew (w.heap.size) 43 #[.int .i64 sn, .int .i64 nesn, .slice (some ⟨b0, off0, none⟩) n c, .bool true, .bool false, .int .i64 ack, .int .i64 tak] := Mem.Blk.drew K1
  have K2' : Blk W3.drew (w.heap.size + 1) 43 #[.int .i64 0, .int .i64 0, .slice none 0 0, .bool false, .bool false, .int .i64 0, .int .i64 0] := Mem.Blk.drew K2
  have K3' : Blk W3.drew (w.heap.size + 2) 26 #[.int .i64 0, .int .i64 0, .int .i64 0, .int .i64 0, .slice none 0 0] := Mem.Blk.drew K3
  refine wp_region_held_drew (S := (fun w' => Blk w' (w.heap.size) 43 #[.int .i64 sn, .int .i64 nesn, .slice (some ⟨b0, off0, none⟩) n c, .bool true, .bool false, .int .i64 ack, .int .i64 tak])) (by kernel_rfl) ?_ (fun hHeld => ?_)
  ·
    exact K1'
  replace K1 := K1'
  clear K1'
  replace K2 := K2'
  clear K2'
  replace K3 := K3'
  clear K3'
  replace BX : Below w.heap.size w W3.drew := BX.drew
  replace HQ := (show QQ W3.drew 0 o (.slice (some ⟨b0, off0, none⟩) n c) (x :: r) from HQ.below ((Below.refl W3.heap.size W3).drew))
  generalize W3.drew = X0 at *
  refine wpAnyH_take (i := 0) (v := .pointer (some ⟨w.heap.size, 0, none⟩)) rfl (by kernel_rfl) (by kernel_rfl) (by kernel_rfl) (fun _ _ _ h => h) (.inl ⟨by first | rfl | go_simp, by intro u h; (try dsimp only at h); go_simp⟩) ‹_› ?_
  simp only [getElem_toArray, getElem_cons_zero, getElem_cons_succ, Act.put, setIfInBounds_toArray, set_cons_zero, set_cons_succ]
  refine wpAnyH_take (i := 1) (v := .int .i64 sn) rfl (by kernel_rfl) (by kernel_rfl) (by kernel_rfl) (fun _ _ _ h => h) (Or.inl ⟨by first | rfl | go_simp, by intro w9 hSw; (try dsimp only at hSw); have c9 := hSw.cell 0; clear hSw; go_simp⟩) ‹_› ?_
  simp only [getElem_toArray, getElem_cons_zero, getElem_cons_succ, Act.put, setIfInBounds_toArray, set_cons_zero, set_cons_succ]
  refine wpAnyH_take (i := 2) (v := .pointer (some ⟨w.heap.size, 1, none⟩)) rfl (by kernel_rfl) (by kernel_rfl) (by kernel_rfl) (fun _ _ _ h => h) (.inl ⟨by first | rfl | go_simp, by intro u h; (try dsimp only at h); go_simp⟩) ‹_› ?_
  simp only [getElem_toArray, getElem_cons_zero, getElem_cons_succ, Act.put, setIfInBounds_toArray, set_cons_zero, set_cons_succ]
  refine wpAnyH_take (i := 3) (v := .int .i64 nesn) rfl (by kernel_rfl) (by kernel_rfl) (by kernel_rfl) (fun _ _ _ h => h) (Or.inl ⟨by first | rfl | go_simp, by intro w9 hSw; (try dsimp only at hSw); have c9 := hSw.cell 1; clear hSw; go_simp⟩) ‹_› ?_
  simp only [getElem_toArray, getElem_cons_zero, getElem_cons_succ, Act.put, setIfInBounds_toArray, set_cons_zero, set_cons_succ]
  refine wpAnyH_ready (rs := [4, 6]) (by kernel_rfl) (by simp) ?_
  refine AllReadyH.cons rfl (fun K hK => ?_) (AllReadyH.cons rfl (fun K hK => ?_) (AllReadyH.nil))
  ·
    go_simp
    refine (HB.out X0).mono ?_
    rintro e X1 ⟨rfl, b9⟩
    replace K1 := K1.below b9 K1.lt
    replace K2 := K2.below b9 K2.lt
    replace K3 := K3.below b9 K3.lt
    replace BX := thenB BX b9
    replace HQ := HQ.below b9
    clear b9
    refine hK.out _ _ K1 (fun hHeld => ?_)
    clear hK K
    try simp only [getElem_toArray, getElem_cons_zero, getElem_cons_succ, Act.put, setIfInBounds_toArray, set_cons_zero, set_cons_succ]
    refine wpAnyH_take (i := 5) (v := .agg #[.int .i64 sn, .int .i64 nesn, .int .i64 0, .int .i64 1, .slice none 0 0]) rfl (by kernel_rfl) (by kernel_rfl) (by kernel_rfl) (fun _ _ _ h => h) (.inl ⟨by first | rfl | go_simp, by intro u h; (try dsimp only at h); go_simp⟩) ‹_› ?_
    simp only [getElem_toArray, getElem_cons_zero, getElem_cons_succ, Act.put, setIfInBounds_toArray, set_cons_zero, set_cons_succ]
    refine wpAnyH_ready (rs := [6]) (by kernel_rfl) (by simp) ?_
    refine .cons rfl (fun K hK => ?_) .nil
    go_simp
    have b9 := (Below.refl X1.heap.size X1).alloc (Nat.le_refl _) (.cells #[.int .i64 0, .int .i64 0, .int .i64 0, .int .i64 0, .slice none 0 0] 26)
    have K6 : Blk (X1.alloc (.cells #[.int .i64 0, .int .i64 0, .int .i64 0, .int .i64 0, .slice none 0 0] 26)) X1.heap.size 26 #[.int .i64 0, .int .i64 0, .int .i64 0, .int .i64 0, .slice none 0 0] := Blk.fresh X1 26 #[.int .i64 0, .int .i64 0, .int .i64 0, .int .i64 0, .slice none 0 0]
    have hx6 : w.heap.size + 3 ≤ X1.heap.size := by have := K3.lt; omega
    replace K1 := K1.below b9 K1.lt
    replace K2 := K2.below b9 K2.lt
    replace K3 := K3.below b9 K3.lt
    replace BX := thenB BX b9
    replace HQ := HQ.below b9
    clear b9
    generalize X1.alloc (.cells #[.int .i64 0, .int .i64 0, .int .i64 0, .int .i64 0, .slice none 0 0] 26) = X2 at *
    refine hK.out _ _ K1 (fun hHeld => ?_)
    clear hK K
    try simp only [getElem_toArray, getElem_cons_zero, getElem_cons_succ, Act.put, setIfInBounds_toArray, set_cons_zero, set_cons_succ]
    refine wpAnyH_ready (rs := [7]) (by kernel_rfl) (by simp) ?_
    refine .cons rfl (fun K hK => ?_) .nil
    have H9 : (#[.int .i64 sn, .int .i64 nesn, .int .i64 0, .int .i64 1, .slice none 0 0] : Array Value).all (·.oneCell') = true := by rw [← Array.all_toList]; rfl
    refine Av.step_store_row rfl 26 (.tmp 4) (.tmp 20) rfl (X1.heap.size) #[.int .i64 sn, .int .i64 nesn, .int .i64 0, .int .i64 1, .slice none 0 0] rfl rfl 26 _ K6 (by kernel_rfl) rfl H9 ?_
    replace HQ := HQ.step (stp_row K6 #[.int .i64 sn, .int .i64 nesn, .int .i64 0, .int .i64 1, .slice none 0 0]) (by decide) (by decide) (by omega)
    replace K1 : Blk (X2.setRow (X1.heap.size) #[.int .i64 sn, .int .i64 nesn, .int .i64 0, .int .i64 1, .slice none 0 0]) (w.heap.size) 43 #[.int .i64 sn, .int .i64 nesn, .slice (some ⟨b0, off0, none⟩) n c, .bool true, .bool false, .int .i64 ack, .int .i64 tak] := Av.bother_row K1 (by omega)
    replace K2 : Blk (X2.setRow (X1.heap.size) #[.int .i64 sn, .int .i64 nesn, .int .i64 0, .int .i64 1, .slice none 0 0]) (w.heap.size + 1) 43 #[.int .i64 0, .int .i64 0, .slice none 0 0, .bool false, .bool false, .int .i64 0, .int .i64 0] := Av.bother_row K2 (by omega)
    replace K3 : Blk (X2.setRow (X1.heap.size) #[.int .i64 sn, .int .i64 nesn, .int .i64 0, .int .i64 1, .slice none 0 0]) (w.heap.size + 2) 26 #[.int .i64 0, .int .i64 0, .int .i64 0, .int .i64 0, .slice none 0 0] := Av.bother_row K3 (by omega)
    replace K6 : Blk (X2.setRow (X1.heap.size) #[.int .i64 sn, .int .i64 nesn, .int .i64 0, .int .i64 1, .slice none 0 0]) (X1.heap.size) 26 #[.int .i64 sn, .int .i64 nesn, .int .i64 0, .int .i64 1, .slice none 0 0] := Av.bset_row K6
    replace BX : Below w.heap.size w (X2.setRow (X1.heap.size) #[.int .i64 sn, .int .i64 nesn, .int .i64 0, .int .i64 1, .slice none 0 0]) := below_setRow BX (by omega) _
    clear H9
    generalize X2.setRow (X1.heap.size) #[.int .i64 sn, .int .i64 nesn, .int .i64 0, .int .i64 1, .slice none 0 0] = X3 at *
    refine hK.out _ _ K1 (fun hHeld => ?_)
    clear hK K
    try simp only [getElem_toArray, getElem_cons_zero, getElem_cons_succ, Act.put, setIfInBounds_toArray, set_cons_zero, set_cons_succ]
    refine wpAnyH_done (by kernel_rfl) ?_ _
    clear hHeld
    go_wp2_with fail
    go_meet
    exact ⟨X1.heap.size, rfl, hx6, K6, K1, K2, K3, HQ, BX⟩
  ·
    go_simp
    have b9 := (Below.refl X0.heap.size X0).alloc (Nat.le_refl _) (.cells #[.int .i64 0, .int .i64 0, .int .i64 0, .int .i64 0, .slice none 0 0] 26)
    have K6 : Blk (X0.alloc (.cells #[.int .i64 0, .int .i64 0, .int .i64 0, .int .i64 0, .slice none 0 0] 26)) X0.heap.size 26 #[.int .i64 0, .int .i64 0, .int .i64 0, .int .i64 0, .slice none 0 0] := Blk.fresh X0 26 #[.int .i64 0, .int .i64 0, .int .i64 0, .int .i64 0, .slice none 0 0]
    have hx6 : w.heap.size + 3 ≤ X0.heap.size := by have := K3.lt; omega
    replace K1 := K1.below b9 K1.lt
    replace K2 := K2.below b9 K2.lt
    replace K3 := K3.below b9 K3.lt
    replace BX := thenB BX b9
    replace HQ := HQ.below b9
    clear b9
    generalize X0.alloc (.cells #[.int .i64 0, .int .i64 0, .int .i64 0, .int .i64 0, .slice none 0 0] 26) = X4 at *
    refine hK.out _ _ K1 (fun hHeld => ?_)
    clear hK K
    try simp only [getElem_toArray, getElem_cons_zero, getElem_cons_succ, Act.put, setIfInBounds_toArray, set_cons_zero, set_cons_succ]
    refine wpAnyH_ready (rs := [4]) (by kernel_rfl) (by simp) ?_
    refine .cons rfl (fun K hK => ?_) .nil
    go_simp
    refine (HB.out X4).mono ?_
    rintro e X5 ⟨rfl, b9⟩
    replace K1 := K1.below b9 K1.lt
    replace K2 := K2.below b9 K2.lt
    replace K3 := K3.below b9 K3.lt
    replace K6 := K6.below b9 K6.lt
    replace BX := thenB BX b9
    replace HQ := HQ.below b9
    clear b9
    refine hK.out _ _ K1 (fun hHeld => ?_)
    clear hK K
    try simp only [getElem_toArray, getElem_cons_zero, getElem_cons_succ, Act.put, setIfInBounds_toArray, set_cons_zero, set_cons_succ]
    refine wpAnyH_take (i := 5) (v := .agg #[.int .i64 sn, .int .i64 nesn, .int .i64 0, .int .i64 1, .slice none 0 0]) rfl (by kernel_rfl) (by kernel_rfl) (by kernel_rfl) (fun _ _ _ h => h) (.inl ⟨by first | rfl | go_simp, by intro u h; (try dsimp only at h); go_simp⟩) ‹_› ?_
    simp only [getElem_toArray, getElem_cons_zero, getElem_cons_succ, Act.put, setIfInBounds_toArray, set_cons_zero, set_cons_succ]
    refine wpAnyH_ready (rs := [7]) (by kernel_rfl) (by simp) ?_
    refine .cons rfl (fun K hK => ?_) .nil
    have H9 : (#[.int .i64 sn, .int .i64 nesn, .int .i64 0, .int .i64 1, .slice none 0 0] : Array Value).all (·.oneCell') = true := by rw [← Array.all_toList]; rfl
    refine Av.step_store_row rfl 26 (.tmp 4) (.tmp 20) rfl (X0.heap.size) #[.int .i64 sn, .int .i64 nesn, .int .i64 0, .int .i64 1, .slice none 0 0] rfl rfl 26 _ K6 (by kernel_rfl) rfl H9 ?_
    replace HQ := HQ.step (stp_row K6 #[.int .i64 sn, .int .i64 nesn, .int .i64 0, .int .i64 1, .slice none 0 0]) (by decide) (by decide) (by omega)
    replace K1 : Blk (X5.setRow (X0.heap.size) #[.int .i64 sn, .int .i64 nesn, .int .i64 0, .int .i64 1, .slice none 0 0]) (w.heap.size) 43 #[.int .i64 sn, .int .i64 nesn, .slice (some ⟨b0, off0, none⟩) n c, .bool true, .bool false, .int .i64 ack, .int .i64 tak] := Av.bother_row K1 (by omega)
    replace K2 : Blk (X5.setRow (X0.heap.size) #[.int .i64 sn, .int .i64 nesn, .int .i64 0, .int .i64 1, .slice none 0 0]) (w.heap.size + 1) 43 #[.int .i64 0, .int .i64 0, .slice none 0 0, .bool false, .bool false, .int .i64 0, .int .i64 0] := Av.bother_row K2 (by omega)
    replace K3 : Blk (X5.setRow (X0.heap.size) #[.int .i64 sn, .int .i64 nesn, .int .i64 0, .int .i64 1, .slice none 0 0]) (w.heap.size + 2) 26 #[.int .i64 0, .int .i64 0, .int .i64 0, .int .i64 0, .slice none 0 0] := Av.bother_row K3 (by omega)
    replace K6 : Blk (X5.setRow (X0.heap.size) #[.int .i64 sn, .int .i64 nesn, .int .i64 0, .int .i64 1, .slice none 0 0]) (X0.heap.size) 26 #[.int .i64 sn, .int .i64 nesn, .int .i64 0, .int .i64 1, .slice none 0 0] := Av.bset_row K6
    replace BX : Below w.heap.size w (X5.setRow (X0.heap.size) #[.int .i64 sn, .int .i64 nesn, .int .i64 0, .int .i64 1, .slice none 0 0]) := below_setRow BX (by omega) _
    clear H9
    generalize X5.setRow (X0.heap.size) #[.int .i64 sn, .int .i64 nesn, .int .i64 0, .int .i64 1, .slice none 0 0] = X6 at *
    refine hK.out _ _ K1 (fun hHeld => ?_)
    clear hK K
    try simp only [getElem_toArray, getElem_cons_zero, getElem_cons_succ, Act.put, setIfInBounds_toArray, set_cons_zero, set_cons_succ]
    refine wpAnyH_done (by kernel_rfl) ?_ _
    clear hHeld
    go_wp2_with fail
    go_meet
    exact ⟨X0.heap.size, rfl, hx6, K6, K1, K2, K3, HQ, BX⟩
 case rest =>
  obtain ⟨g6, rfl, hx6, K6, K1, K2, K3, HQ, BX⟩ := hcut
  clear HB
  have p2 := K1.cell 2
  have p4 := K1.cell 4
  have HX := HQ.2.1 x (by simp)
  obtain ⟨b, off, hA, _, _, z0, z1⟩ := HQ.at_
  obtain ⟨rfl, rfl⟩ : b0 = b ∧ off0 = off := by injection hA with hA; injection hA with h1 h2 _; exact ⟨h1, h2⟩
  clear hA
  have y3 := K6.cell 3
  have y4 := K6.cell 4
  have f3 := Av.bfrz K6 3
  have f4 := Av.bfrz K6 4
  go_upto_region 8 with (fail)
  have sA := stp_cell (i := 3) K6 (.int .i64 x.k)
  have K7 := Av.bset K6 3 (.int .i64 x.k) rfl
  have sB := stp_cell (i := 4) K7 (.slice x.A x.v.length x.c)
  have K8 := Av.bset K7 4 (.slice x.A x.v.length x.c) rfl
  replace K1 := sB.blk_ne (sA.blk_ne K1 (by omega)) (by omega)
  replace K2 := sB.blk_ne (sA.blk_ne K2 (by omega)) (by omega)
  replace K3 := sB.blk_ne (sA.blk_ne K3 (by omega)) (by omega)
  replace HX := (HX.step sA (by decide) (by omega)).step sB (by decide) (by omega)
  replace BX := (BX.setCell (p := ⟨g6, 3, none⟩) (by show w.heap.size ≤ g6; omega) (.int .i64 x.k)).setCell (p := ⟨g6, 4, none⟩) (by show w.heap.size ≤ g6; omega) (.slice x.A x.v.length x.c)
  replace K6 := K8
  clear K7 K8 sA sB y3 y4 f3 f4 z0 z1 p2 p4 HQ
  generalize (wc.setCell ⟨g6, 3, none⟩ (.int .i64 x.k)).setCell ⟨g6, 4, none⟩ (.slice x.A x.v.length x.c) = X4 at *
  go_upto_region 11 with (fail)
  have K1' : Blk X4.drew (w.heap.size) 43 #[.int .i64 sn, .int .i64 nesn, .slice (some ⟨b0, off0, none⟩) n c, .bool true, .bool false, .int .i64 ack, .int .i64 tak] := Mem.Blk.drew K1
  have K2' : Blk X4.drew (w.heap.size + 1) 43 #[.int .i64 0, .int .i64 0, .slice none 0 0, .bool false, .bool false, .int .i64 0, .int .i64 0] := Mem.Blk.drew K2
  have K3' : Blk X4.drew (w.heap.size + 2) 26 #[.int .i64 0, .int .i64 0, .int .i64 0, .int .i64 0, .slice none 0 0] := Mem.Blk.drew K3
  have K6' : Blk X4.drew (g6) 26 #[.int .i64 sn, .int .i64 nesn, .int .i64 0, .int .i64 x.k, .slice x.A x.v.length x.c] := Mem.Blk.drew K6
  refine wp_region_held_drew (S := (fun w' => Blk w' (g6) 26 #[.int .i64 sn, .int .i64 nesn, .int .i64 0, .int .i64 x.k, .slice x.A x.v.length x.c] ∧ Blk w' (w.heap.size) 43 #[.int .i64 sn, .int .i64 nesn, .slice (some ⟨b0, off0, none⟩) n c, .bool true, .bool false, .int .i64 ack, .int .i64 tak])) (by kernel_rfl) ?_ (fun hHeld => ?_)
  ·
    exact ⟨K6', K1'⟩
  replace K1 := K1'
  clear K1'
  replace K2 := K2'
  clear K2'
  replace K3 := K3'
  clear K3'
  replace K6 := K6'
  clear K6'
  replace BX : Below w.heap.size w X4.drew := BX.drew
  replace HX := (show PP X4.drew o x from HX.below ((Below.refl X4.heap.size X4).drew))
  generalize X4.drew = Z0 at *
  refine wpAnyH_take (i := 0) (v := .agg #[.int .i64 sn, .int .i64 nesn, .slice (some ⟨b0, off0, none⟩) n c, .bool true, .bool false, .int .i64 ack, .int .i64 tak]) rfl (by kernel_rfl) (by kernel_rfl) (by kernel_rfl) (fun _ _ _ h => h) (Av.yields_part (by first | rfl | go_simp) _ _ rfl (w.heap.size) 0 rfl #[.int .i64 sn, .int .i64 nesn, .slice (some ⟨b0, off0, none⟩) n c, .bool true, .bool false, .int .i64 ack, .int .i64 tak] _ 43 #[.int .i64 sn, .int .i64 nesn, .slice (some ⟨b0, off0, none⟩) n c, .bool true, .bool false, .int .i64 ack, .int .i64 tak] (fun w9 hSw => hSw.2) rfl Try.underlying43 rfl (by kernel_rfl)) ‹_› ?_
  simp only [getElem_toArray, getElem_cons_zero, getElem_cons_succ, Act.put, setIfInBounds_toArray, set_cons_zero, set_cons_succ]
  refine wpAnyH_take (i := 1) (v := .agg #[.int .i64 sn, .int .i64 nesn, .int .i64 0, .int .i64 x.k, .slice x.A x.v.length x.c]) rfl (by kernel_rfl) (by kernel_rfl) (by kernel_rfl) (fun _ _ _ h => h) (Av.yields_part (by first | rfl | go_simp) _ _ rfl (g6) 0 rfl #[.int .i64 sn, .int .i64 nesn, .int .i64 0, .int .i64 x.k, .slice x.A x.v.length x.c] _ 26 #[.int .i64 sn, .int .i64 nesn, .int .i64 0, .int .i64 x.k, .slice x.A x.v.length x.c] (fun w9 hSw => hSw.1) rfl Try.underlying26 rfl (by kernel_rfl)) ‹_› ?_
  simp only [getElem_toArray, getElem_cons_zero, getElem_cons_succ, Act.put, setIfInBounds_toArray, set_cons_zero, set_cons_succ]
  refine wpAnyH_ready (rs := [2]) (by kernel_rfl) (by simp) ?_
  refine .cons rfl (fun K hK => ?_) .nil
  have H9 : (#[.int .i64 sn, .int .i64 nesn, .slice (some ⟨b0, off0, none⟩) n c, .bool true, .bool false, .int .i64 ack, .int .i64 tak] : Array Value).all (·.oneCell') = true := by rw [← Array.all_toList]; rfl
  refine Av.step_store_row rfl 43 (.tmp 2) (.tmp 41) rfl (w.heap.size + 1) #[.int .i64 sn, .int .i64 nesn, .slice (some ⟨b0, off0, none⟩) n c, .bool true, .bool false, .int .i64 ack, .int .i64 tak] rfl rfl 43 _ K2 (by kernel_rfl) rfl H9 ?_
  replace HX := HX.step (stp_row K2 #[.int .i64 sn, .int .i64 nesn, .slice (some ⟨b0, off0, none⟩) n c, .bool true, .bool false, .int .i64 ack, .int .i64 tak]) (by decide) (show o ≤ w.heap.size + 1 by omega)
  replace K1 : Blk (Z0.setRow (w.heap.size + 1) #[.int .i64 sn, .int .i64 nesn, .slice (some ⟨b0, off0, none⟩) n c, .bool true, .bool false, .int .i64 ack, .int .i64 tak]) (w.heap.size) 43 #[.int .i64 sn, .int .i64 nesn, .slice (some ⟨b0, off0, none⟩) n c, .bool true, .bool false, .int .i64 ack, .int .i64 tak] := Av.bother_row K1 (by omega)
  replace K2 : Blk (Z0.setRow (w.heap.size + 1) #[.int .i64 sn, .int .i64 nesn, .slice (some ⟨b0, off0, none⟩) n c, .bool true, .bool false, .int .i64 ack, .int .i64 tak]) (w.heap.size + 1) 43 #[.int .i64 sn, .int .i64 nesn, .slice (some ⟨b0, off0, none⟩) n c, .bool true, .bool false, .int .i64 ack, .int .i64 tak] := Av.bset_row K2
  replace K3 : Blk (Z0.setRow (w.heap.size + 1) #[.int .i64 sn, .int .i64 nesn, .slice (some ⟨b0, off0, none⟩) n c, .bool true, .bool false, .int .i64 ack, .int .i64 tak]) (w.heap.size + 2) 26 #[.int .i64 0, .int .i64 0, .int .i64 0, .int .i64 0, .slice none 0 0] := Av.bother_row K3 (by omega)
  replace K6 : Blk (Z0.setRow (w.heap.size + 1) #[.int .i64 sn, .int .i64 nesn, .slice (some ⟨b0, off0, none⟩) n c, .bool true, .bool false, .int .i64 ack, .int .i64 tak]) (g6) 26 #[.int .i64 sn, .int .i64 nesn, .int .i64 0, .int .i64 x.k, .slice x.A x.v.length x.c] := Av.bother_row K6 (by omega)
  replace BX : Below w.heap.size w (Z0.setRow (w.heap.size + 1) #[.int .i64 sn, .int .i64 nesn, .slice (some ⟨b0, off0, none⟩) n c, .bool true, .bool false, .int .i64 ack, .int .i64 tak]) := below_setRow BX (by omega) _
  clear H9
  generalize Z0.setRow (w.heap.size + 1) #[.int .i64 sn, .int .i64 nesn, .slice (some ⟨b0, off0, none⟩) n c, .bool true, .bool false, .int .i64 ack, .int .i64 tak] = Z1 at *
  refine hK.out _ _ ⟨K6, K1⟩ (fun hHeld => ?_)
  clear hK K
  try simp only [getElem_toArray, getElem_cons_zero, getElem_cons_succ, Act.put, setIfInBounds_toArray, set_cons_zero, set_cons_succ]
  refine wpAnyH_ready (rs := [3]) (by kernel_rfl) (by simp) ?_
  refine .cons rfl (fun K hK => ?_) .nil
  have H9 : (#[.int .i64 sn, .int .i64 nesn, .int .i64 0, .int .i64 x.k, .slice x.A x.v.length x.c] : Array Value).all (·.oneCell') = true := by rw [← Array.all_toList]; rfl
  refine Av.step_store_row rfl 26 (.tmp 3) (.tmp 42) rfl (w.heap.size + 2) #[.int .i64 sn, .int .i64 nesn, .int .i64 0, .int .i64 x.k, .slice x.A x.v.length x.c] rfl rfl 26 _ K3 (by kernel_rfl) rfl H9 ?_
  replace HX := HX.step (stp_row K3 #[.int .i64 sn, .int .i64 nesn, .int .i64 0, .int .i64 x.k, .slice x.A x.v.length x.c]) (by decide) (show o ≤ w.heap.size + 2 by omega)
  replace K1 : Blk (Z1.setRow (w.heap.size + 2) #[.int .i64 sn, .int .i64 nesn, .int .i64 0, .int .i64 x.k, .slice x.A x.v.length x.c]) (w.heap.size) 43 #[.int .i64 sn, .int .i64 nesn, .slice (some ⟨b0, off0, none⟩) n c, .bool true, .bool false, .int .i64 ack, .int .i64 tak] := Av.bother_row K1 (by omega)
  replace K2 : Blk (Z1.setRow (w.heap.size + 2) #[.int .i64 sn, .int .i64 nesn, .int .i64 0, .int .i64 x.k, .slice x.A x.v.length x.c]) (w.heap.size + 1) 43 #[.int .i64 sn, .int .i64 nesn, .slice (some ⟨b0, off0, none⟩) n c, .bool true, .bool false, .int .i64 ack, .int .i64 tak] := Av.bother_row K2 (by omega)
  replace K3 : Blk (Z1.setRow (w.heap.size + 2) #[.int .i64 sn, .int .i64 nesn, .int .i64 0, .int .i64 x.k, .slice x.A x.v.length x.c]) (w.heap.size + 2) 26 #[.int .i64 sn, .int .i64 nesn, .int .i64 0, .int .i64 x.k, .slice x.A x.v.length x.c] := Av.bset_row K3
  replace K6 : Blk (Z1.setRow (w.heap.size + 2) #[.int .i64 sn, .int .i64 nesn, .int .i64 0, .int .i64 x.k, .slice x.A x.v.length x.c]) (g6) 26 #[.int .i64 sn, .int .i64 nesn, .int .i64 0, .int .i64 x.k, .slice x.A x.v.length x.c] := Av.bother_row K6 (by omega)
  replace BX : Below w.heap.size w (Z1.setRow (w.heap.size + 2) #[.int .i64 sn, .int .i64 nesn, .int .i64 0, .int .i64 x.k, .slice x.A x.v.length x.c]) := below_setRow BX (by omega) _
  clear H9
  generalize Z1.setRow (w.heap.size + 2) #[.int .i64 sn, .int .i64 nesn, .int .i64 0, .int .i64 x.k, .slice x.A x.v.length x.c] = Z2 at *
  refine hK.out _ _ ⟨K6, K1⟩ (fun hHeld => ?_)
  clear hK K
  try simp only [getElem_toArray, getElem_cons_zero, getElem_cons_succ, Act.put, setIfInBounds_toArray, set_cons_zero, set_cons_succ]
  refine wpAnyH_done (by kernel_rfl) ?_ _
  go_wp2_with fail
  refine bodyPost_ret (v := .tuple #[.agg #[.int .i64 sn, .int .i64 nesn, .slice (some ⟨b0, off0, none⟩) n c, .bool true, .bool false, .int .i64 ack, .int .i64 tak], .agg #[.int .i64 sn, .int .i64 nesn, .int .i64 0, .int .i64 x.k, .slice x.A x.v.length x.c]]) ?_ rfl ⟨x, by rw [HO.out.1, (pdu_bits _).1, (pdu_bits _).2.1, hmd]; rfl, HO.out.2, HX, BX⟩
  clear hHeld K1 K6
  have HLa := run_loadVar_row (P := Try.prog) Z2 (w.heap.size + 1) 43 43 #[.int .i64 sn, .int .i64 nesn, .slice (some ⟨b0, off0, none⟩) n c, .bool true, .bool false, .int .i64 ack, .int .i64 tak] (0, 0) _ K2 Try.underlying43 rfl (by kernel_rfl)
  have HLb := run_loadVar_row (P := Try.prog) Z2 (w.heap.size + 2) 26 26 #[.int .i64 sn, .int .i64 nesn, .int .i64 0, .int .i64 x.k, .slice x.A x.v.length x.c] (0, 0) _ K3 Try.underlying26 rfl (by kernel_rfl)
  generalize (#[.int .i64 sn, .int .i64 nesn, .slice (some ⟨b0, off0, none⟩) n c, .bool true, .bool false, .int .i64 ack, .int .i64 tak] : Array Value) = CS at *
  generalize (#[.int .i64 sn, .int .i64 nesn, .int .i64 0, .int .i64 x.k, .slice x.A x.v.length x.c] : Array Value) = CP at *
  simp [results, show (Try.f31).results = #[.cell 2 43, .cell 3 26] from rfl, asAddr, HLa, HLb, Act.put]
set_option maxRecDepth 100000 in
set_option maxHeartbeats 4000000 in
theorem rsend_fe2 (sn nesn : Int) (em : Bool) (ack tak : Nat) (x : Pm) (r : List Pm) (y : Pk) (q' : List Pk) (b0 off0 n c : Nat) (o : Nat) (w : World) (ho : o ≤ w.heap.size) (hn : n ≤ 1000000) (hq : QQ w 0 o (.slice (some ⟨b0, off0, none⟩) n c) (x :: r)) (hxy : x.p = y) (hmq : r.map Pm.p = q') (hnl : r.length + 1 = n) (h1 : 2 ≤ n) :
   Calls Try.prog 31 #[.agg #[.int .i64 sn, .int .i64 nesn, .slice (some ⟨b0, off0, none⟩) n c, .bool false, .bool em, .int .i64 ack, .int .i64 tak]] w fun e w' => RSent w w' e ⟨sn, nesn, (y :: q'), false, em, ack, tak⟩ (.slice (some ⟨b0, off0, none⟩) n c) o := by
 have BX : Below w.heap.size w (((w.alloc (.cells #[.int .i64 sn, .int .i64 nesn, .slice (some ⟨b0, off0, none⟩) n c, .bool false, .bool em, .int .i64 ack, .int .i64 tak] 43)).alloc (.cells #[.int .i64 0, .int .i64 0, .slice none 0 0, .bool false, .bool false, .int .i64 0, .int .i64 0] 43)).alloc (.cells #[.int .i64 0, .int .i64 0, .int .i64 0, .int .i64 0, .slice none 0 0] 26)) := (((Below.refl _ _).alloc (Nat.le_refl _) _).alloc (by simp) _).alloc (by simp; omega) _
 have K1 : Blk (((w.alloc (.cells #[.int .i64 sn, .int .i64 nesn, .slice (some ⟨b0, off0, none⟩) n c, .bool false, .bool em, .int .i64 ack, .int .i64 tak] 43)).alloc (.cells #[.int .i64 0, .int .i64 0, .slice none 0 0, .bool false, .bool false, .int .i64 0, .int .i64 0] 43)).alloc (.cells #[.int .i64 0, .int .i64 0, .int .i64 0, .int .i64 0, .slice none 0 0] 26)) w.heap.size 43 #[.int .i64 sn, .int .i64 nesn, .slice (some ⟨b0, off0, none⟩) n c, .bool false, .bool em, .int .i64 ack, .int .i64 tak] := ((Blk.fresh w 43 #[.int .i64 sn, .int .i64 nesn, .slice (some ⟨b0, off0, none⟩) n c, .bool false, .bool em, .int .i64 ack, .int .i64 tak]).alloc _).alloc _
 have K2 : Blk (((w.alloc (.cells #[.int .i64 sn, .int .i64 nesn, .slice (some ⟨b0, off0, none⟩) n c, .bool false, .bool em, .int .i64 ack, .int .i64 tak] 43)).alloc (.cells #[.int .i64 0, .int .i64 0, .slice none 0 0, .bool false, .bool false, .int .i64 0, .int .i64 0] 43)).alloc (.cells #[.int .i64 0, .int .i64 0, .int .i64 0, .int .i64 0, .slice none 0 0] 26)) (w.heap.size + 1) 43 #[.int .i64 0, .int .i64 0, .slice none 0 0, .bool false, .bool false, .int .i64 0, .int .i64 0] := (Av.Blk.next).alloc _
 have K3 : Blk (((w.alloc (.cells #[.int .i64 sn, .int .i64 nesn, .slice (some ⟨b0, off0, none⟩) n c, .bool false, .bool em, .int .i64 ack, .int .i64 tak] 43)).alloc (.cells #[.int .i64 0, .int .i64 0, .slice none 0 0, .bool false, .bool false, .int .i64 0, .int .i64 0] 43)).alloc (.cells #[.int .i64 0, .int .i64 0, .int .i64 0, .int .i64 0, .slice none 0 0] 26)) (w.heap.size + 2) 26 #[.int .i64 0, .int .i64 0, .int .i64 0, .int .i64 0, .slice none 0 0] := by
     have := Blk.fresh ((w.alloc (.cells #[.int .i64 sn, .int .i64 nesn, .slice (some ⟨b0, off0, none⟩) n c, .bool false, .bool em, .int .i64 ack, .int .i64 tak] 43)).alloc (.cells #[.int .i64 0, .int .i64 0, .slice none 0 0, .bool false, .bool false, .int .i64 0, .int .i64 0] 43)) 26 #[.int .i64 0, .int .i64 0, .int .i64 0, .int .i64 0, .slice none 0 0]
     simpa using this
 have HQ := hq.below BX
 have hrq : q' = [] ↔ n = 1 := by
     rw [← hmq, List.map_eq_nil_iff]
     constructor
     ·
      intro h; rw [h] at hnl; simpa using hnl.symm
     ·
      intro h; exact List.eq_nil_of_length_eq_zero (by omega)
 have HO : Hid (openR ⟨sn, nesn, (y :: q'), false, em, ack, tak⟩ = ⟨sn, nesn, (y :: q'), true, false, ack, tak⟩ ∧ Pm.p x = (pduR (openR ⟨sn, nesn, (y :: q'), false, em, ack, tak⟩)).pk) := Lib.hid ⟨by simp [openR], by simp [openR, pduR, hxy]⟩
 have hmd : (pduR ⟨sn, nesn, (y :: q'), true, false, ack, tak⟩).md = 1 := by simp [pduR, hrq]; omega
 have gz : ((n : Int) == 0) = false := n_pos (by omega)
 have g1 : (0 : Int) < (n : Int) := by omega
 have eB : IntKind.i64.wrap ((n : Int) - 1) = (n : Int) - 1 := by rw [IntWalk.i64_in _ (by omega)]
 have g2 : (0 : Int) < (n : Int) - 1 := by omega
 clear hq hxy hmq hnl hrq h1
 go_enter Try.func31, Try.ntmps31
 go_upto_region 1 with (fail)
 generalize ((w.alloc (.cells #[.int .i64 sn, .int .i64 nesn, .slice (some ⟨b0, off0, none⟩) n c, .bool false, .bool em, .int .i64 ack, .int .i64 tak] 43)).alloc (.cells #[.int .i64 0, .int .i64 0, .slice none 0 0, .bool false, .bool false, .int .i64 0, .int .i64 0] 43)).alloc (.cells #[.int .i64 0, .int .i64 0, .int .i64 0, .int .i64 0, .slice none 0 0] 26) = W2 at *
 have p3 := K1.cell 3
 have p2 := K1.cell 2
 have hs3 := K3.lt
 go_upto_region 4 with (first
   | (refine Av.wpList_store_cell rfl _ _ _ rfl w.heap.size 3 (.bool true) rfl rfl 43 _ K1 (by show 3 < 7; decide) (by kernel_rfl) rfl ?_; have sA := stp_cell (i := 3) K1 (.bool true); have K9 := Av.bset K1 3 (.bool true) rfl; have p2 := K9.cell 2)
   | (refine Av.wpList_store_cell rfl _ _ _ rfl w.heap.size 4 (.bool false) rfl rfl 43 _ K9 (by show 4 < 7; decide) (by kernel_rfl) rfl ?_))
 have sB := stp_cell (i := 4) K9 (.bool false)
 replace K1 := Av.bset K9 4 (.bool false) rfl
 replace K2 := sB.blk_ne (sA.blk_ne K2 (by omega)) (by omega)
 replace K3 := sB.blk_ne (sA.blk_ne K3 (by omega)) (by omega)
 replace HQ := (HQ.step sA (by decide) (by decide) ho).step sB (by decide) (by decide) ho
 replace BX := (BX.setCell (p := ⟨w.heap.size, 3, none⟩) (Nat.le_refl _) (.bool true)).setCell (p := ⟨w.heap.size, 4, none⟩) (Nat.le_refl _) (.bool false)
 clear sA sB K9 p3 p2
 generalize (W2.setCell ⟨w.heap.size, 3, none⟩ (.bool true)).setCell ⟨w.heap.size, 4, none⟩ (.bool false) = W3 at *
 clear gz
 try simp only [getElem_toArray, getElem_cons_zero, getElem_cons_succ, Act.put, setIfInBounds_toArray, set_cons_zero, set_cons_succ]
 have HB := Lib.hid rblankpk_any
 go_cut [4] from 15 to 20 (fun s4 wx => ∃ g6, s4 = .pointer (some ⟨g6, 0, none⟩) ∧ w.heap.size + 3 ≤ g6 ∧ Blk wx g6 26 #[.int .i64 sn, .int .i64 nesn, .int .i64 0, .int .i64 1, .slice none 0 0] ∧ Blk wx (w.heap.size) 43 #[.int .i64 sn, .int .i64 nesn, .slice (some ⟨b0, off0, none⟩) n c, .bool true, .bool false, .int .i64 ack, .int .i64 tak] ∧ Blk wx (w.heap.size + 1) 43 #[.int .i64 0, .int .i64 0, .slice none 0 0, .bool false, .bool false, .int .i64 0, .int .i64 0] ∧ Blk wx (w.heap.size + 2) 26 #[.int .i64 0, .int .i64 0, .int .i64 0, .int .i64 0, .slice none 0 0] ∧ QQ wx 0 o (.slice (some ⟨b0, off0, none⟩) n c) (x :: r) ∧ Below w.heap.size w wx)
 case first =>
  have K1' : Blk W3.drew (w.heap.size) 43 #[.int .i64 sn, .int .i64 nesn, .slice (some ⟨b0, off0, none⟩) n c, .bool true, .bool false, .int .i64 ack, .int .i64 tak] := Mem.Blk.drew K1
  have K2' : Blk W3.drew (w.heap.size + 1) 43 #[.int .i64 0, .int .i64 0, .slice none 0 0, .bool false, .bool false, .int .i64 0, .int .i64 0] := Mem.Blk.drew K2
  have K3' : Blk W3.drew (w.heap.size + 2) 26 #[.int .i64 0, .int .i64 0, .int .i64 0, .int .i64 0, .slice none 0 0] := Mem.Blk.drew K3
  refine wp_region_held_drew (S := (fun w' => Blk w' (w.heap.size) 43 #[.int .i64 sn, .int .i64 nesn, .slice (some ⟨b0, off0, none⟩) n c, .bool true, .bool false, .int .i64 ack, .int .i64 tak])) (by kernel_rfl) ?_ (fun hHeld => ?_)
  ·
    exact K1'
  replace K1 := K1'
  clear K1'
  replace K2 := K2'
  clear K2'
  replace K3 := K3'
  clear K3'
  replace BX : Below w.heap.size w W3.drew := BX.drew
  replace HQ := (show QQ W3.drew 0 o (.slice (some ⟨b0, off0, none⟩) n c) (x :: r) from HQ.below ((Below.refl W3.heap.size W3).drew))
  generalize W3.drew = X0 at *
  refine wpAnyH_take (i := 0) (v := .pointer (some ⟨w.heap.size, 0, none⟩)) rfl (by kernel_rfl) (by kernel_rfl) (by kernel_rfl) (fun _ _ _ h => h) (.inl ⟨by first | rfl | go_simp, by intro u h; (try dsimp only at h); go_simp⟩) ‹_› ?_
  simp only [getElem_toArray, getElem_cons_zero, getElem_cons_succ, Act.put, setIfInBounds_toArray, set_cons_zero, set_cons_succ]
  refine wpAnyH_take (i := 1) (v := .int .i64 sn) rfl (by kernel_rfl) (by kernel_rfl) (by kernel_rfl) (fun _ _ _ h => h) (Or.inl ⟨by first | rfl | go_simp, by intro w9 hSw; (try dsimp only at hSw); have c9 := hSw.cell 0; clear hSw; go_simp⟩) ‹_› ?_
  simp only [getElem_toArray, getElem_cons_zero, getElem_cons_succ, Act.put, setIfInBounds_toArray, set_cons_zero, set_cons_succ]
  refine wpAnyH_take (i := 2) (v := .pointer (some ⟨w.heap.size, 1, none⟩)) rfl (by kernel_rfl) (by kernel_rfl) (by kernel_rfl) (fun _ _ _ h => h) (.inl ⟨by first | rfl | go_simp, by intro u h; (try dsimp only at h); go_simp⟩) ‹_› ?_
  simp only [getElem_toArray, getElem_cons_zero, getElem_cons_succ, Act.put, setIfInBounds_toArray, set_cons_zero, set_cons_succ]
  refine wpAnyH_take (i := 3) (v := .int .i64 nesn) rfl (by kernel_rfl) (by kernel_rfl) (by kernel_rfl) (fun _ _ _ h => h) (Or.inl ⟨by first | rfl | go_simp, by intro w9 hSw; (try dsimp only at hSw); have c9 := hSw.cell 1; clear hSw; go_simp⟩) ‹_› ?_
  simp only [getElem_toArray, getElem_cons_zero, getElem_cons_succ, Act.put, setIfInBounds_toArray, set_cons_zero, set_cons_succ]
  refine wpAnyH_ready (rs := [4, 6]) (by kernel_rfl) (by simp) ?_
  refine AllReadyH.cons rfl (fun K hK => ?_) (AllReadyH.cons rfl (fun K hK => ?_) (AllReadyH.nil))
  ·
    go_simp
    refine (HB.out X0).mono ?_
    rintro e X1 ⟨rfl, b9⟩
    replace K1 := K1.below b9 K1.lt
    replace K2 := K2.below b9 K2.lt
    replace K3 := K3.below b9 K3.lt
    replace BX := thenB BX b9
    replace HQ := HQ.below b9
    clear b9
    refine hK.out _ _ K1 (fun hHeld => ?_)
    clear hK K
    try simp only [getElem_toArray, getElem_cons_zero, getElem_cons_succ, Act.put, setIfInBounds_toArray, set_cons_zero, set_cons_succ]
    refine wpAnyH_take (i := 5) (v := .agg #[.int .i64 sn, .int .i64 nesn, .int .i64 0, .int .i64 1, .slice none 0 0]) rfl (by kernel_rfl) (by kernel_rfl) (by kernel_rfl) (fun _ _ _ h => h) (.inl ⟨by first | rfl | go_simp, by intro u h; (try dsimp only at h); go_simp⟩) ‹_› ?_
    simp only [getElem_toArray, getElem_cons_zero, getElem_cons_succ, Act.put, setIfInBounds_toArray, set_cons_zero, set_cons_succ]
    refine wpAnyH_ready (rs := [6]) (by kernel_rfl) (by simp) ?_
    refine .cons rfl (fun K hK => ?_) .nil
    go_simp
    have b9 := (Below.refl X1.heap.size X1).alloc (Nat.le_refl _) (.cells #[.int .i64 0, .int .i64 0, .int .i64 0, .int .i64 0, .slice none 0 0] 26)
    have K6 : Blk (X1.alloc (.cells #[.int .i64 0, .int .i64 0, .int .i64 0, .int .i64 0, .slice none 0 0] 26)) X1.heap.size 26 #[.int .i64 0, .int .i64 0, .int .i64 0, .int .i64 0, .slice none 0 0] := Blk.fresh X1 26 #[.int .i64 0, .int .i64 0, .int .i64 0, .int .i64 0, .slice none 0 0]
    have hx6 : w.heap.size + 3 ≤ X1.heap.size := by have := K3.lt; omega
    replace K1 := K1.below b9 K1.lt
    replace K2 := K2.below b9 K2.lt
    replace K3 := K3.below b9 K3.lt
    replace BX := thenB BX b9
    replace HQ := HQ.below b9
    clear b9
    generalize X1.alloc (.cells #[.int .i64 0, .int .i64 0, .int .i64 0, .int .i64 0, .slice none 0 0] 26) = X2 at *
    refine hK.out _ _ K1 (fun hHeld => ?_)
    clear hK K
    try simp only [getElem_toArray, getElem_cons_zero, getElem_cons_succ, Act.put, setIfInBounds_toArray, set_cons_zero, set_cons_succ]
    refine wpAnyH_ready (rs := [7]) (by kernel_rfl) (by simp) ?_
    refine .cons rfl (fun K hK => ?_) .nil
    have H9 : (#[.int .i64 sn, .int .i64 nesn, .int .i64 0, .int .i64 1, .slice none 0 0] : Array Value).all (·.oneCell') = true := by rw [← Array.all_toList]; rfl
    refine Av.step_store_row rfl 26 (.tmp 4) (.tmp 20) rfl (X1.heap.size) #[.int .i64 sn, .int .i64 nesn, .int .i64 0, .int .i64 1, .slice none 0 0] rfl rfl 26 _ K6 (by kernel_rfl) rfl H9 ?_
    replace HQ := HQ.step (stp_row K6 #[.int .i64 sn, .int .i64 nesn, .int .i64 0, .int .i64 1, .slice none 0 0]) (by decide) (by decide) (by omega)
    replace K1 : Blk (X2.setRow (X1.heap.size) #[.int .i64 sn, .int .i64 nesn, .int .i64 0, .int .i64 1, .slice none 0 0]) (w.heap.size) 43 #[.int .i64 sn, .int .i64 nesn, .slice (some ⟨b0, off0, none⟩) n c, .bool true, .bool false, .int .i64 ack, .int .i64 tak] := Av.bother_row K1 (by omega)
    replace K2 : Blk (X2.setRow (X1.heap.size) #[.int .i64 sn, .int .i64 nesn, .int .i64 0, .int .i64 1, .slice none 0 0]) (w.heap.size + 1) 43 #[.int .i64 0, .int .i64 0, .slice none 0 0, .bool false, .bool false, .int .i64 0, .int .i64 0] := Av.bother_row K2 (by omega)
    replace K3 : Blk (X2.setRow (X1.heap.size) #[.int .i64 sn, .int .i64 nesn, .int .i64 0, .int .i64 1, .slice none 0 0]) (w.heap.size + 2) 26 #[.int .i64 0, .int .i64 0, .int .i64 0, .int .i64 0, .slice none 0 0] := Av.bother_row K3 (by omega)
    replace K6 : Blk (X2.setRow (X1.heap.size) #[.int .i64 sn, .int .i64 nesn, .int .i64 0, .int .i64 1, .slice none 0 0]) (X1.heap.size) 26 #[.int .i64 sn, .int .i64 nesn, .int .i64 0, .int .i64 1, .slice none 0 0] := Av.bset_row K6
    replace BX : Below w.heap.size w (X2.setRow (X1.heap.size) #[.int .i64 sn, .int .i64 nesn, .int .i64 0, .int .i64 1, .slice none 0 0]) := below_setRow BX (by omega) _
    clear H9
    generalize X2.setRow (X1.heap.size) #[.int .i64 sn, .int .i64 nesn, .int .i64 0, .int .i64 1, .slice none 0 0] = X3 at *
    refine hK.out _ _ K1 (fun hHeld => ?_)
    clear hK K
    try simp only [getElem_toArray, getElem_cons_zero, getElem_cons_succ, Act.put, setIfInBounds_toArray, set_cons_zero, set_cons_succ]
    refine wpAnyH_done (by kernel_rfl) ?_ _
    clear hHeld
    go_wp2_with fail
    go_meet
    exact ⟨X1.heap.size, rfl, hx6, K6, K1, K2, K3, HQ, BX⟩
  ·
    go_simp
    have b9 := (Below.refl X0.heap.size X0).alloc (Nat.le_refl _) (.cells #[.int .i64 0, .int .i64 0, .int .i64 0, .int .i64 0, .slice none 0 0] 26)
    have K6 : Blk (X0.alloc (.cells #[.int .i64 0, .int .i64 0, .int .i64 0, .int .i64 0, .slice none 0 0] 26)) X0.heap.size 26 #[.int .i64 0, .int .i64 0, .int .i64 0, .int .i64 0, .slice none 0 0] := Blk.fresh X0 26 #[.int .i64 0, .int .i64 0, .int .i64 0, .int .i64 0, .slice none 0 0]
    have hx6 : w.heap.size + 3 ≤ X0.heap.size := by have := K3.lt; omega
    replace K1 := K1.below b9 K1.lt
    replace K2 := K2.below b9 K2.lt
    replace K3 := K3.below b9 K3.lt
    replace BX := thenB BX b9
    replace HQ := HQ.below b9
    clear b9
    generalize X0.alloc (.cells #[.int .i64 0, .int .i64 0, .int .i64 0, .int .i64 0, .slice none 0 0] 26) = X4 at *
    refine hK.out _ _ K1 (fun hHeld => ?_)
    clear hK K
    try simp only [getElem_toArray, getElem_cons_zero, getElem_cons_succ, Act.put, setIfInBounds_toArray, set_cons_zero, set_cons_succ]
    refine wpAnyH_ready (rs := [4]) (by kernel_rfl) (by simp) ?_
    refine .cons rfl (fun K hK => ?_) .nil
    go_simp
    refine (HB.out X4).mono ?_
    rintro e X5 ⟨rfl, b9⟩
    replace K1 := K1.below b9 K1.lt
    replace K2 := K2.below b9 K2.lt
    replace K3 := K3.below b9 K3.lt
    replace K6 := K6.below b9 K6.lt
    replace BX := thenB BX b9
    replace HQ := HQ.below b9
    clear b9
    refine hK.out _ _ K1 (fun hHeld => ?_)
    clear hK K
    try simp only [getElem_toArray, getElem_cons_zero, getElem_cons_succ, Act.put, setIfInBounds_toArray, set_cons_zero, set_cons_succ]
    refine wpAnyH_take (i := 5) (v := .agg #[.int .i64 sn, .int .i64 nesn, .int .i64 0, .int .i64 1, .slice none 0 0]) rfl (by kernel_rfl) (by kernel_rfl) (by kernel_rfl) (fun _ _ _ h => h) (.inl ⟨by first | rfl | go_simp, by intro u h; (try dsimp only at h); go_simp⟩) ‹_› ?_
    simp only [getElem_toArray, getElem_cons_zero, getElem_cons_succ, Act.put, setIfInBounds_toArray, set_cons_zero, set_cons_succ]
    refine wpAnyH_ready (rs := [7]) (by kernel_rfl) (by simp) ?_
    refine .cons rfl (fun K hK => ?_) .nil
    have H9 : (#[.int .i64 sn, .int .i64 nesn, .int .i64 0, .int .i64 1, .slice none 0 0] : Array Value).all (·.oneCell') = true := by rw [← Array.all_toList]; rfl
    refine Av.step_store_row rfl 26 (.tmp 4) (.tmp 20) rfl (X0.heap.size) #[.int .i64 sn, .int .i64 nesn, .int .i64 0, .int .i64 1, .slice none 0 0] rfl rfl 26 _ K6 (by kernel_rfl) rfl H9 ?_
    replace HQ := HQ.step (stp_row K6 #[.int .i64 sn, .int .i64 nesn, .int .i64 0, .int .i64 1, .slice none 0 0]) (by decide) (by decide) (by omega)
    replace K1 : Blk (X5.setRow (X0.heap.size) #[.int .i64 sn, .int .i64 nesn, .int .i64 0, .int .i64 1, .slice none 0 0]) (w.heap.size) 43 #[.int .i64 sn, .int .i64 nesn, .slice (some ⟨b0, off0, none⟩) n c, .bool true, .bool false, .int .i64 ack, .int .i64 tak] := Av.bother_row K1 (by omega)
    replace K2 : Blk (X5.setRow (X0.heap.size) #[.int .i64 sn, .int .i64 nesn, .int .i64 0, .int .i64 1, .slice none 0 0]) (w.heap.size + 1) 43 #[.int .i64 0, .int .i64 0, .slice none 0 0, .bool false, .bool false, .int .i64 0, .int .i64 0] := Av.bother_row K2 (by omega)
    replace K3 : Blk (X5.setRow (X0.heap.size) #[.int .i64 sn, .int .i64 nesn, .int .i64 0, .int .i64 1, .slice none 0 0]) (w.heap.size + 2) 26 #[.int .i64 0, .int .i64 0, .int .i64 0, .int .i64 0, .slice none 0 0] := Av.bother_row K3 (by omega)
    replace K6 : Blk (X5.setRow (X0.heap.size) #[.int .i64 sn, .int .i64 nesn, .int .i64 0, .int .i64 1, .slice none 0 0]) (X0.heap.size) 26 #[.int .i64 sn, .int .i64 nesn, .int .i64 0, .int .i64 1, .slice none 0 0] := Av.bset_row K6
    replace BX : Below w.heap.size w (X5.setRow (X0.heap.size) #[.int .i64 sn, .int .i64 nesn, .int .i64 0, .int .i64 1, .slice none 0 0]) := below_setRow BX (by omega) _
    clear H9
    generalize X5.setRow (X0.heap.size) #[.int .i64 sn, .int .i64 nesn, .int .i64 0, .int .i64 1, .slice none 0 0] = X6 at *
    refine hK.out _ _ K1 (fun hHeld => ?_)
    clear hK K
    try simp only [getElem_toArray, getElem_cons_zero, getElem_cons_succ, Act.put, setIfInBounds_toArray, set_cons_zero, set_cons_succ]
    refine wpAnyH_done (by kernel_rfl) ?_ _
    clear hHeld
    go_wp2_with fail
    go_meet
    exact ⟨X0.heap.size, rfl, hx6, K6, K1, K2, K3, HQ, BX⟩
 case rest =>
  obtain ⟨g6, rfl, hx6, K6, K1, K2, K3, HQ, BX⟩ := hcut
  clear HB
  have p2 := K1.cell 2
  have p4 := K1.cell 4
  have HX := HQ.2.1 x (by simp)
  obtain ⟨b, off, hA, _, _, z0, z1⟩ := HQ.at_
  obtain ⟨rfl, rfl⟩ : b0 = b ∧ off0 = off := by injection hA with hA; injection hA with h1 h2 _; exact ⟨h1, h2⟩
  clear hA
  have y3 := K6.cell 3
  have y4 := K6.cell 4
  have f3 := Av.bfrz K6 3
  have f4 := Av.bfrz K6 4
  go_upto_region 8 with (fail)
  have sA := stp_cell (i := 3) K6 (.int .i64 x.k)
  have K7 := Av.bset K6 3 (.int .i64 x.k) rfl
  have sB := stp_cell (i := 4) K7 (.slice x.A x.v.length x.c)
  have K8 := Av.bset K7 4 (.slice x.A x.v.length x.c) rfl
  replace K1 := sB.blk_ne (sA.blk_ne K1 (by omega)) (by omega)
  replace K2 := sB.blk_ne (sA.blk_ne K2 (by omega)) (by omega)
  replace K3 := sB.blk_ne (sA.blk_ne K3 (by omega)) (by omega)
  replace HX := (HX.step sA (by decide) (by omega)).step sB (by decide) (by omega)
  replace BX := (BX.setCell (p := ⟨g6, 3, none⟩) (by show w.heap.size ≤ g6; omega) (.int .i64 x.k)).setCell (p := ⟨g6, 4, none⟩) (by show w.heap.size ≤ g6; omega) (.slice x.A x.v.length x.c)
  replace K6 := K8
  clear K7 K8 sA sB y3 y4 f3 f4 z0 z1 p2 p4 HQ
  generalize (wc.setCell ⟨g6, 3, none⟩ (.int .i64 x.k)).setCell ⟨g6, 4, none⟩ (.slice x.A x.v.length x.c) = X4 at *
  go_upto_region 11 with (refine Av.wpList_store_cell rfl _ _ _ rfl g6 2 (.int .i64 1) rfl rfl 26 _ K6 (by show 2 < 5; decide) (by kernel_rfl) rfl ?_)
  have sA := stp_cell (i := 2) K6 (.int .i64 1)
  replace K6 := Av.bset K6 2 (.int .i64 1) rfl
  replace K1 := sA.blk_ne K1 (by omega)
  replace K2 := sA.blk_ne K2 (by omega)
  replace K3 := sA.blk_ne K3 (by omega)
  replace HX := HX.step sA (by decide) (by omega)
  replace BX := BX.setCell (p := ⟨g6, 2, none⟩) (by show w.heap.size ≤ g6; omega) (.int .i64 1)
  clear sA
  generalize X4.setCell ⟨g6, 2, none⟩ (.int .i64 1) = X5 at *
  have K1' : Blk X5.drew (w.heap.size) 43 #[.int .i64 sn, .int .i64 nesn, .slice (some ⟨b0, off0, none⟩) n c, .bool true, .bool false, .int .i64 ack, .int .i64 tak] := Mem.Blk.drew K1
  have K2' : Blk X5.drew (w.heap.size + 1) 43 #[.int .i64 0, .int .i64 0, .slice none 0 0, .bool false, .bool false, .int .i64 0, .int .i64 0] := Mem.Blk.drew K2
  have K3' : Blk X5.drew (w.heap.size + 2) 26 #[.int .i64 0, .int .i64 0, .int .i64 0, .int .i64 0, .slice none 0 0] := Mem.Blk.drew K3
  have K6' : Blk X5.drew (g6) 26 #[.int .i64 sn, .int .i64 nesn, .int .i64 1, .int .i64 x.k, .slice x.A x.v.length x.c] := Mem.Blk.drew K6
  refine wp_region_held_drew (S := (fun w' => Blk w' (g6) 26 #[.int .i64 sn, .int .i64 nesn, .int .i64 1, .int .i64 x.k, .slice x.A x.v.length x.c] ∧ Blk w' (w.heap.size) 43 #[.int .i64 sn, .int .i64 nesn, .slice (some ⟨b0, off0, none⟩) n c, .bool true, .bool false, .int .i64 ack, .int .i64 tak])) (by kernel_rfl) ?_ (fun hHeld => ?_)
  ·
    exact ⟨K6', K1'⟩
  replace K1 := K1'
  clear K1'
  replace K2 := K2'
  clear K2'
  replace K3 := K3'
  clear K3'
  replace K6 := K6'
  clear K6'
  replace BX : Below w.heap.size w X5.drew := BX.drew
  replace HX := (show PP X5.drew o x from HX.below ((Below.refl X5.heap.size X5).drew))
  generalize X5.drew = Z0 at *
  refine wpAnyH_take (i := 0) (v := .agg #[.int .i64 sn, .int .i64 nesn, .slice (some ⟨b0, off0, none⟩) n c, .bool true, .bool false, .int .i64 ack, .int .i64 tak]) rfl (by kernel_rfl) (by kernel_rfl) (by kernel_rfl) (fun _ _ _ h => h) (Av.yields_part (by first | rfl | go_simp) _ _ rfl (w.heap.size) 0 rfl #[.int .i64 sn, .int .i64 nesn, .slice (some ⟨b0, off0, none⟩) n c, .bool true, .bool false, .int .i64 ack, .int .i64 tak] _ 43 #[.int .i64 sn, .int .i64 nesn, .slice (some ⟨b0, off0, none⟩) n c, .bool true, .bool false, .int .i64 ack, .int .i64 tak] (fun w9 hSw => hSw.2) rfl Try.underlying43 rfl (by kernel_rfl)) ‹_› ?_
  simp only [getElem_toArray, getElem_cons_zero, getElem_cons_succ, Act.put, setIfInBounds_toArray, set_cons_zero, set_cons_succ]
  refine wpAnyH_take (i := 1) (v := .agg #[.int .i64 sn, .int .i64 nesn, .int .i64 1, .int .i64 x.k, .slice x.A x.v.length x.c]) rfl (by kernel_rfl) (by kernel_rfl) (by kernel_rfl) (fun _ _ _ h => h) (Av.yields_part (by first | rfl | go_simp) _ _ rfl (g6) 0 rfl #[.int .i64 sn, .int .i64 nesn, .int .i64 1, .int .i64 x.k, .slice x.A x.v.length x.c] _ 26 #[.int .i64 sn, .int .i64 nesn, .int .i64 1, .int .i64 x.k, .slice x.A x.v.length x.c] (fun w9 hSw => hSw.1) rfl Try.underlying26 rfl (by kernel_rfl)) ‹_› ?_
  simp only [getElem_toArray, getElem_cons_zero, getElem_cons_succ, Act.put, setIfInBounds_toArray, set_cons_zero, set_cons_succ]
  refine wpAnyH_ready (rs := [2]) (by kernel_rfl) (by simp) ?_
  refine .cons rfl (fun K hK => ?_) .nil
  have H9 : (#[.int .i64 sn, .int .i64 nesn, .slice (some ⟨b0, off0, none⟩) n c, .bool true, .bool false, .int .i64 ack, .int .i64 tak] : Array Value).all (·.oneCell') = true := by rw [← Array.all_toList]; rfl
  refine Av.step_store_row rfl 43 (.tmp 2) (.tmp 41) rfl (w.heap.size + 1) #[.int .i64 sn, .int .i64 nesn, .slice (some ⟨b0, off0, none⟩) n c, .bool true, .bool false, .int .i64 ack, .int .i64 tak] rfl rfl 43 _ K2 (by kernel_rfl) rfl H9 ?_
  replace HX := HX.step (stp_row K2 #[.int .i64 sn, .int .i64 nesn, .slice (some ⟨b0, off0, none⟩) n c, .bool true, .bool false, .int .i64 ack, .int .i64 tak]) (by decide) (show o ≤ w.heap.size + 1 by omega)
  replace K1 : Blk (Z0.setRow (w.heap.size + 1) #[.int .i64 sn, .int .i64 nesn, .slice (some ⟨b0, off0, none⟩) n c, .bool true, .bool false, .int .i64 ack, .int .i64 tak]) (w.heap.size) 43 #[.int .i64 sn, .int .i64 nesn, .slice (some ⟨b0, off0, none⟩) n c, .bool true, .bool false, .int .i64 ack, .int .i64 tak] := Av.bother_row K1 (by omega)
  replace K2 : Blk (Z0.setRow (w.heap.size + 1) #[.int .i64 sn, .int .i64 nesn, .slice (some ⟨b0, off0, none⟩) n c, .bool true, .bool false, .int .i64 ack, .int .i64 tak]) (w.heap.size + 1) 43 #[.int .i64 sn, .int .i64 nesn, .slice (some ⟨b0, off0, none⟩) n c, .bool true, .bool false, .int .i64 ack, .int .i64 tak] := Av.bset_row K2
  replace K3 : Blk (Z0.setRow (w.heap.size + 1) #[.int .i64 sn, .int .i64 nesn, .slice (some ⟨b0, off0, none⟩) n c, .bool true, .bool false, .int .i64 ack, .int .i64 tak]) (w.heap.size + 2) 26 #[.int .i64 0, .int .i64 0, .int .i64 0, .int .i64 0, .slice none 0 0] := Av.bother_row K3 (by omega)
  replace K6 : Blk (Z0.setRow (w.heap.size + 1) #[.int .i64 sn, .int .i64 nesn, .slice (some ⟨b0, off0, none⟩) n c, .bool true, .bool false, .int .i64 ack, .int .i64 tak]) (g6) 26 #[.int .i64 sn, .int .i64 nesn, .int .i64 1, .int .i64 x.k, .slice x.A x.v.length x.c] := Av.bother_row K6 (by omega)
  replace BX : Below w.heap.size w (Z0.setRow (w.heap.size + 1) #[.int .i64 sn, .int .i64 nesn, .slice (some ⟨b0, off0, none⟩) n c, .bool true, .bool false, .int .i64 ack, .int .i64 tak]) := below_setRow BX (by omega) _
  clear H9
  generalize Z0.setRow (w.heap.size + 1) #[.int .i64 sn, .int .i64 nesn, .slice (some ⟨b0, off0, none⟩) n c, .bool true, .bool false, .int .i64 ack, .int .i64 tak] = Z1 at *
  refine hK.out _ _ ⟨K6, K1⟩ (fun hHeld => ?_)
  clear hK K
  try simp only [getElem_toArray, getElem_cons_zero, getElem_cons_succ, Act.put, setIfInBounds_toArray, set_cons_zero, set_cons_succ]
  refine wpAnyH_ready (rs := [3]) (by kernel_rfl) (by simp) ?_
  refine .cons rfl (fun K hK => ?_) .nil
  have H9 : (#[.int .i64 sn, .int .i64 nesn, .int .i64 1, .int .i64 x.k, .slice x.A x.v.length x.c] : Array Value).all (·.oneCell') = true := by rw [← Array.all_toList]; rfl
  refine Av.step_store_row rfl 26 (.tmp 3) (.tmp 42) rfl (w.heap.size + 2) #[.int .i64 sn, .int .i64 nesn, .int .i64 1, .int .i64 x.k, .slice x.A x.v.length x.c] rfl rfl 26 _ K3 (by kernel_rfl) rfl H9 ?_
  replace HX := HX.step (stp_row K3 #[.int .i64 sn, .int .i64 nesn, .int .i64 1, .int .i64 x.k, .slice x.A x.v.length x.c]) (by decide) (show o ≤ w.heap.size + 2 by omega)
  replace K1 : Blk (Z1.setRow (w.heap.size + 2) #[.int .i64 sn, .int .i64 nesn, .int .i64 1, .int .i64 x.k, .slice x.A x.v.length x.c]) (w.heap.size) 43 #[.int .i64 sn, .int .i64 nesn, .slice (some ⟨b0, off0, none⟩) n c, .bool true, .bool false, .int .i64 ack, .int .i64 tak] := Av.bother_row K1 (by omega)
  replace K2 : Blk (Z1.setRow (w.heap.size + 2) #[.int .i64 sn, .int .i64 nesn, .int .i64 1, .int .i64 x.k, .slice x.A x.v.length x.c]) (w.heap.size + 1) 43 #[.int .i64 sn, .int .i64 nesn, .slice (some ⟨b0, off0, none⟩) n c, .bool true, .bool false, .int .i64 ack, .int .i64 tak] := Av.bother_row K2 (by omega)
  replace K3 : Blk (Z1.setRow (w.heap.size + 2) #[.int .i64 sn, .int .i64 nesn, .int .i64 1, .int .i64 x.k, .slice x.A x.v.length x.c]) (w.heap.size + 2) 26 #[.int .i64 sn, .int .i64 nesn, .int .i64 1, .int .i64 x.k, .slice x.A x.v.length x.c] := Av.bset_row K3
  replace K6 : Blk (Z1.setRow (w.heap.size + 2) #[.int .i64 sn, .int .i64 nesn, .int .i64 1, .int .i64 x.k, .slice x.A x.v.length x.c]) (g6) 26 #[.int .i64 sn, .int .i64 nesn, .int .i64 1, .int .i64 x.k, .slice x.A x.v.length x.c] := Av.bother_row K6 (by omega)
  replace BX : Below w.heap.size w (Z1.setRow (w.heap.size + 2) #[.int .i64 sn, .int .i64 nesn, .int .i64 1, .int .i64 x.k, .slice x.A x.v.length x.c]) := below_setRow BX (by omega) _
  clear H9
  generalize Z1.setRow (w.heap.size + 2) #[.int .i64 sn, .int .i64 nesn, .int .i64 1, .int .i64 x.k, .slice x.A x.v.length x.c] = Z2 at *
  refine hK.out _ _ ⟨K6, K1⟩ (fun hHeld => ?_)
  clear hK K
  try simp only [getElem_toArray, getElem_cons_zero, getElem_cons_succ, Act.put, setIfInBounds_toArray, set_cons_zero, set_cons_succ]
  refine wpAnyH_done (by kernel_rfl) ?_ _
  go_wp2_with fail
  refine bodyPost_ret (v := .tuple #[.agg #[.int .i64 sn, .int .i64 nesn, .slice (some ⟨b0, off0, none⟩) n c, .bool true, .bool false, .int .i64 ack, .int .i64 tak], .agg #[.int .i64 sn, .int .i64 nesn, .int .i64 1, .int .i64 x.k, .slice x.A x.v.length x.c]]) ?_ rfl ⟨x, by rw [HO.out.1, (pdu_bits _).1, (pdu_bits _).2.1, hmd]; rfl, HO.out.2, HX, BX⟩
  clear hHeld K1 K6
  have HLa := run_loadVar_row (P := Try.prog) Z2 (w.heap.size + 1) 43 43 #[.int .i64 sn, .int .i64 nesn, .slice (some ⟨b0, off0, none⟩) n c, .bool true, .bool false, .int .i64 ack, .int .i64 tak] (0, 0) _ K2 Try.underlying43 rfl (by kernel_rfl)
  have HLb := run_loadVar_row (P := Try.prog) Z2 (w.heap.size + 2) 26 26 #[.int .i64 sn, .int .i64 nesn, .int .i64 1, .int .i64 x.k, .slice x.A x.v.length x.c] (0, 0) _ K3 Try.underlying26 rfl (by kernel_rfl)
  generalize (#[.int .i64 sn, .int .i64 nesn, .slice (some ⟨b0, off0, none⟩) n c, .bool true, .bool false, .int .i64 ack, .int .i64 tak] : Array Value) = CS at *
  generalize (#[.int .i64 sn, .int .i64 nesn, .int .i64 1, .int .i64 x.k, .slice x.A x.v.length x.c] : Array Value) = CP at *
  simp [results, show (Try.f31).results = #[.cell 2 43, .cell 3 26] from rfl, asAddr, HLa, HLb, Act.put]
theorem rsend_any (s : Sd) (V : Value) (l : List Pm) (o : Nat) (w : World) (hn : l.length ≤ 1000000) (hq : QQ w 0 o V l) (hl : l.map Pm.p = s.q) (ho : o ≤ w.heap.size) :
   Calls Try.prog 31 #[.agg (acel s V)] w fun e w' => RSent w w' e s V o := by
 obtain ⟨sn, nesn, q, op, em, ack, tak⟩ := s
 simp only at hl
 obtain ⟨⟨A, c, rfl, _⟩, _⟩ := id hq
 cases l with
 | nil =>
   obtain rfl : q = [] := by simpa using hl.symm
   cases op with
   | false => exact rsend_fe0 sn nesn em ack tak A c o w ho
   | true =>
     cases em with
     | true => exact rsend_tt0 sn nesn ack tak A c o w ho
     | false => exact rsend_tf0 sn nesn ack tak A c o w ho
 | cons x r =>
   obtain ⟨n, hln⟩ : ∃ n, (x :: r).length = n := ⟨_, rfl⟩
   have hln' : r.length + 1 = n := by simpa using hln
   rw [hln] at hn hq ⊢
   cases q with
   | nil => simp at hl
   | cons y q' =>
     obtain ⟨hxy, hmq⟩ : x.p = y ∧ r.map Pm.p = q' := by simpa using hl
     by_cases hc : op = true ∧ em = true
     ·
      obtain ⟨rfl, rfl⟩ := hc
      exact rsend_tt1 sn nesn ack tak A n c (y :: q') o w ho hn (by simp) (by omega)
     ·
      obtain ⟨b0, off0, rfl, _⟩ := hq.at_
      cases op with
      | false =>
       by_cases h1 : n = 1
       ·
        exact rsend_fe1 sn nesn em ack tak x r y q' b0 off0 n c o w ho hn hq hxy hmq hln' h1
       ·
        exact rsend_fe2 sn nesn em ack tak x r y q' b0 off0 n c o w ho hn hq hxy hmq hln' (by omega)
      | true =>
       cases em with
       | true => exact absurd ⟨rfl, rfl⟩ hc
       | false =>
        by_cases h1 : n = 1
        ·
         exact rsend_tf1 sn nesn ack tak x r y q' b0 off0 n c o w ho hn hq hxy hmq hln' h1
        ·
         exact rsend_tf2 sn nesn ack tak x r y q' b0 off0 n c o w ho hn hq hxy hmq hln' (by omega)
end Go.Proofs.Ytbnfjielnamepaa.Arq
