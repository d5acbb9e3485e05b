/- Acknowledgement: two sides, a packet is queued: contracts over the program. -/
import Derived.Test.YtbnfjielnamepaaArqPart
set_option linter.unusedVariables false
set_option linter.unusedSimpArgs false
namespace Go.Proofs.Ytbnfjielnamepaa.Arq
open Go.RowKit Mem Oct Rw Av Dp
open Base (thenB)

/-- A packet whose payload lies below m. -/
def Older (m : Nat) (w : World) (x : Pm) : Prop := x.v.length ≤ x.c ∧ x.v.length ≤ 140737488351232 ∧ Bytes x.v ∧ Ints .u8 w m x.A x.v ∧ m ≤ w.heap.size
theorem PP.of_old {m : Nat} {w w' : World} {x : Pm} (h : Older m w x) (b : Below m w w') : PP w' m x := by
  refine ⟨h.1, h.2.1, h.2.2.1, ?_⟩
  rcases h.2.2.2.1.below b with h0 | ⟨bk, off, e, hb, hc⟩
  · exact .inl (.inl (by simp [h0]))
  · exact .inr ⟨bk, off, e, hb, by have := b.size; have := h.2.2.2.2; omega, hc⟩
theorem grow_blk {w w' : World} {m b n : Nat} {t : TypeId} {cs : Array Value} {V : Value} {ys : List Value} (h : Blk w b t cs) (hr : w.ownsRow m 24 2 V n ys) (hne : t ≠ 24) (hg : w.grownBy w' V.ownBlock) : Blk w' b t cs :=
  h.grown hr (Ne.symm hne) hg
set_option maxRecDepth 100000 in
set_option maxHeartbeats 4000000 in
theorem moveq0_any (sn0 nesn0 : Int) (q0 : List Pk) (op0 em0 : Bool) (ack0 tak0 : Nat) (sn1 nesn1 : Int) (q1 : List Pk) (op1 em1 : Bool) (ack1 tak1 : Nat) (qa qb ga gb : List Pk) (lost : Bool) (x : Pm) (m : Nat) (w : World) (V0 V1 V2 V3 V4 V5 : Value) (l0 l1 l2 l3 l4 l5 : List Pm) (hmw : m ≤ w.heap.size)
    (HX : EnAt w m ⟨⟨sn0, nesn0, q0, op0, em0, ack0, tak0⟩, ⟨sn1, nesn1, q1, op1, em1, ack1, tak1⟩, qa, qb, ga, gb⟩ V0 V1 V2 V3 V4 V5 l0 l1 l2 l3 l4 l5) (hb0 : l0.length ≤ 100000 ∧ l1.length ≤ 100000) (hb2 : l2.length ≤ 100000 ∧ l3.length ≤ 100000) (hpp : Older m w x) :
    Calls Try.prog 39 #[.agg #[.int .i64 sn0, .int .i64 nesn0, V0, .bool op0, .bool em0, .int .i64 (ack0 : Int), .int .i64 (tak0 : Int), .int .i64 sn1, .int .i64 nesn1, V1, .bool op1, .bool em1, .int .i64 (ack1 : Int), .int .i64 (tak1 : Int), V2, V3, V4, V5], .agg #[.int .i64 0, .bool lost, .int .i64 x.k, .slice x.A x.v.length x.c]] w fun e w' => Moved w w' e m (moveR ⟨⟨sn0, nesn0, q0, op0, em0, ack0, tak0⟩, ⟨sn1, nesn1, q1, op1, em1, ack1, tak1⟩, qa, qb, ga, gb⟩ 0 lost x.p) := by
  obtain ⟨iE, hi, hz, hs, hb, hc0⟩ := info_parts2 info_pk rfl
  have oV0 : V0.oneCell' = true := qq_one HX.all.q0
  have oV1 : V1.oneCell' = true := qq_one HX.all.q1
  have oV2 : V2.oneCell' = true := rr_one HX.all.r2
  have oV3 : V3.oneCell' = true := rr_one HX.all.r3
  have oV4 : V4.oneCell' = true := rr_one HX.all.r4
  have oV5 : V5.oneCell' = true := rr_one HX.all.r5
  have BX : Below m w (((w.alloc (.cells #[.int .i64 sn0, .int .i64 nesn0, V0, .bool op0, .bool em0, .int .i64 (ack0 : Int), .int .i64 (tak0 : Int), .int .i64 sn1, .int .i64 nesn1, V1, .bool op1, .bool em1, .int .i64 (ack1 : Int), .int .i64 (tak1 : Int), V2, V3, V4, V5] 62)).alloc (.cells #[.int .i64 0, .bool lost, .int .i64 x.k, .slice x.A x.v.length x.c] 65)).alloc (.cells #[.int .i64 0, .int .i64 0, .slice none 0 0, .bool false, .bool false, .int .i64 0, .int .i64 0, .int .i64 0, .int .i64 0, .slice none 0 0, .bool false, .bool false, .int .i64 0, .int .i64 0, .slice none 0 0, .slice none 0 0, .slice none 0 0, .slice none 0 0] 62)) := (((Below.refl _ _).alloc hmw _).alloc (by simp; omega) _).alloc (by simp; omega) _
  have K2 : Blk (((w.alloc (.cells #[.int .i64 sn0, .int .i64 nesn0, V0, .bool op0, .bool em0, .int .i64 (ack0 : Int), .int .i64 (tak0 : Int), .int .i64 sn1, .int .i64 nesn1, V1, .bool op1, .bool em1, .int .i64 (ack1 : Int), .int .i64 (tak1 : Int), V2, V3, V4, V5] 62)).alloc (.cells #[.int .i64 0, .bool lost, .int .i64 x.k, .slice x.A x.v.length x.c] 65)).alloc (.cells #[.int .i64 0, .int .i64 0, .slice none 0 0, .bool false, .bool false, .int .i64 0, .int .i64 0, .int .i64 0, .int .i64 0, .slice none 0 0, .bool false, .bool false, .int .i64 0, .int .i64 0, .slice none 0 0, .slice none 0 0, .slice none 0 0, .slice none 0 0] 62)) (w.heap.size) 62 #[.int .i64 sn0, .int .i64 nesn0, V0, .bool op0, .bool em0, .int .i64 (ack0 : Int), .int .i64 (tak0 : Int), .int .i64 sn1, .int .i64 nesn1, V1, .bool op1, .bool em1, .int .i64 (ack1 : Int), .int .i64 (tak1 : Int), V2, V3, V4, V5] := ((Blk.fresh w 62 #[.int .i64 sn0, .int .i64 nesn0, V0, .bool op0, .bool em0, .int .i64 (ack0 : Int), .int .i64 (tak0 : Int), .int .i64 sn1, .int .i64 nesn1, V1, .bool op1, .bool em1, .int .i64 (ack1 : Int), .int .i64 (tak1 : Int), V2, V3, V4, V5]).alloc _).alloc _
  have K3 : Blk (((w.alloc (.cells #[.int .i64 sn0, .int .i64 nesn0, V0, .bool op0, .bool em0, .int .i64 (ack0 : Int), .int .i64 (tak0 : Int), .int .i64 sn1, .int .i64 nesn1, V1, .bool op1, .bool em1, .int .i64 (ack1 : Int), .int .i64 (tak1 : Int), V2, V3, V4, V5] 62)).alloc (.cells #[.int .i64 0, .bool lost, .int .i64 x.k, .slice x.A x.v.length x.c] 65)).alloc (.cells #[.int .i64 0, .int .i64 0, .slice none 0 0, .bool false, .bool false, .int .i64 0, .int .i64 0, .int .i64 0, .int .i64 0, .slice none 0 0, .bool false, .bool false, .int .i64 0, .int .i64 0, .slice none 0 0, .slice none 0 0, .slice none 0 0, .slice none 0 0] 62)) (w.heap.size + 1) 65 #[.int .i64 0, .bool lost, .int .i64 x.k, .slice x.A x.v.length x.c] := (Av.Blk.next).alloc _
  have K4 : Blk (((w.alloc (.cells #[.int .i64 sn0, .int .i64 nesn0, V0, .bool op0, .bool em0, .int .i64 (ack0 : Int), .int .i64 (tak0 : Int), .int .i64 sn1, .int .i64 nesn1, V1, .bool op1, .bool em1, .int .i64 (ack1 : Int), .int .i64 (tak1 : Int), V2, V3, V4, V5] 62)).alloc (.cells #[.int .i64 0, .bool lost, .int .i64 x.k, .slice x.A x.v.length x.c] 65)).alloc (.cells #[.int .i64 0, .int .i64 0, .slice none 0 0, .bool false, .bool false, .int .i64 0, .int .i64 0, .int .i64 0, .int .i64 0, .slice none 0 0, .bool false, .bool false, .int .i64 0, .int .i64 0, .slice none 0 0, .slice none 0 0, .slice none 0 0, .slice none 0 0] 62)) (w.heap.size + 2) 62 #[.int .i64 0, .int .i64 0, .slice none 0 0, .bool false, .bool false, .int .i64 0, .int .i64 0, .int .i64 0, .int .i64 0, .slice none 0 0, .bool false, .bool false, .int .i64 0, .int .i64 0, .slice none 0 0, .slice none 0 0, .slice none 0 0, .slice none 0 0] := by
    have := Blk.fresh ((w.alloc (.cells #[.int .i64 sn0, .int .i64 nesn0, V0, .bool op0, .bool em0, .int .i64 (ack0 : Int), .int .i64 (tak0 : Int), .int .i64 sn1, .int .i64 nesn1, V1, .bool op1, .bool em1, .int .i64 (ack1 : Int), .int .i64 (tak1 : Int), V2, V3, V4, V5] 62)).alloc (.cells #[.int .i64 0, .bool lost, .int .i64 x.k, .slice x.A x.v.length x.c] 65)) 62 #[.int .i64 0, .int .i64 0, .slice none 0 0, .bool false, .bool false, .int .i64 0, .int .i64 0, .int .i64 0, .int .i64 0, .slice none 0 0, .bool false, .bool false, .int .i64 0, .int .i64 0, .slice none 0 0, .slice none 0 0, .slice none 0 0, .slice none 0 0]
    simpa using this
  have HA : All (((w.alloc (.cells #[.int .i64 sn0, .int .i64 nesn0, V0, .bool op0, .bool em0, .int .i64 (ack0 : Int), .int .i64 (tak0 : Int), .int .i64 sn1, .int .i64 nesn1, V1, .bool op1, .bool em1, .int .i64 (ack1 : Int), .int .i64 (tak1 : Int), V2, V3, V4, V5] 62)).alloc (.cells #[.int .i64 0, .bool lost, .int .i64 x.k, .slice x.A x.v.length x.c] 65)).alloc (.cells #[.int .i64 0, .int .i64 0, .slice none 0 0, .bool false, .bool false, .int .i64 0, .int .i64 0, .int .i64 0, .int .i64 0, .slice none 0 0, .bool false, .bool false, .int .i64 0, .int .i64 0, .slice none 0 0, .slice none 0 0, .slice none 0 0, .slice none 0 0] 62)) m m V0 V1 V2 V3 V4 V5 l0 l1 l2 l3 l4 l5 := HX.all.below ((((Below.refl _ _).alloc (Nat.le_refl _) _).alloc (by simp) _).alloc (by simp; omega) _)
  have HL : Hid (∀ X, Below m w X → Calls Try.prog 27 #[.agg #[.int .i64 x.k, .slice x.A x.v.length x.c]] X fun e w' => ∃ A c, e = .returned (.agg #[.int .i64 x.k, .slice A x.v.length c]) ∧ PP w' 0 ⟨x.k, A, c, x.v⟩ ∧ Below X.heap.size X w') := Lib.hid fun X b => lcopy_any x X (PP.of_old hpp b).gp
  obtain ⟨⟨⟨sn', nesn', q', op', em', ack', tak'⟩, E⟩, hr⟩ : ∃ r, queueR ⟨sn0, nesn0, q0, op0, em0, ack0, tak0⟩ x.p = r := ⟨_, rfl⟩
  have HQ : Hid (∀ X A5 c5, All X m m V0 V1 V2 V3 V4 V5 l0 l1 l2 l3 l4 l5 → PP X 0 ⟨x.k, A5, c5, x.v⟩ → Calls Try.prog 28 #[.agg #[.int .i64 sn0, .int .i64 nesn0, V0, .bool op0, .bool em0, .int .i64 (ack0 : Int), .int .i64 (tak0 : Int)], .agg #[.int .i64 x.k, .slice A5 x.v.length c5]] X fun e X' => ∃ V' l', e = .returned (.tuple #[.agg #[.int .i64 sn', .int .i64 nesn', V', .bool op', .bool em', .int .i64 (ack' : Int), .int .i64 (tak' : Int)], .int .i64 E]) ∧ QQ X' X.heap.size 0 V' l' ∧ Hid (l'.map Pm.p = q') ∧ Below X.heap.size X X') := Lib.hid fun X A5 c5 ha hy => by
    have := queue_any ⟨sn0, nesn0, q0, op0, em0, ack0, tak0⟩ V0 l0 ⟨x.k, A5, c5, x.v⟩ X (by omega) ha.q0.qi HX.e0 hy.gp
    rw [show Pm.p ⟨x.k, A5, c5, x.v⟩ = x.p from rfl, hr] at this
    exact this.mono fun e w' ⟨V', l', he, h1, h2, h3⟩ => ⟨V', l', he, h1, Lib.hid h2, h3⟩
  have HOy : Hid (E = 0 → moveR ⟨⟨sn0, nesn0, q0, op0, em0, ack0, tak0⟩, ⟨sn1, nesn1, q1, op1, em1, ack1, tak1⟩, qa, qb, ga, gb⟩ 0 lost x.p = ⟨⟨sn', nesn', q', op', em', ack', tak'⟩, ⟨sn1, nesn1, q1, op1, em1, ack1, tak1⟩, qa ++ [x.p], qb, ga, gb⟩) := Lib.hid fun h => by
    subst h
    unfold moveR
    simp [hr]
  have HOn : Hid (E ≠ 0 → moveR ⟨⟨sn0, nesn0, q0, op0, em0, ack0, tak0⟩, ⟨sn1, nesn1, q1, op1, em1, ack1, tak1⟩, qa, qb, ga, gb⟩ 0 lost x.p = ⟨⟨sn', nesn', q', op', em', ack', tak'⟩, ⟨sn1, nesn1, q1, op1, em1, ack1, tak1⟩, qa, qb, ga, gb⟩) := Lib.hid fun h => by
    unfold moveR
    simp [hr, h]
  clear hr
  go_enter Try.func39, Try.ntmps39
  go_upto_region 1 with (fail)
  generalize ((w.alloc (.cells #[.int .i64 sn0, .int .i64 nesn0, V0, .bool op0, .bool em0, .int .i64 (ack0 : Int), .int .i64 (tak0 : Int), .int .i64 sn1, .int .i64 nesn1, V1, .bool op1, .bool em1, .int .i64 (ack1 : Int), .int .i64 (tak1 : Int), V2, V3, V4, V5] 62)).alloc (.cells #[.int .i64 0, .bool lost, .int .i64 x.k, .slice x.A x.v.length x.c] 65)).alloc (.cells #[.int .i64 0, .int .i64 0, .slice none 0 0, .bool false, .bool false, .int .i64 0, .int .i64 0, .int .i64 0, .int .i64 0, .slice none 0 0, .bool false, .bool false, .int .i64 0, .int .i64 0, .slice none 0 0, .slice none 0 0, .slice none 0 0, .slice none 0 0] 62) = W0 at *
  have q0 := K3.cell 0
  go_upto_region 2 with (fail)
  clear q0
  go_cut [5, 6] from 23 to 34 (fun s5 s6 wx => ∃ g5 V' l', s5 = .pointer (some ⟨g5, 0, none⟩) ∧ s6 = .int .i64 E ∧ w.heap.size + 3 ≤ g5 ∧ V'.oneCell' = true ∧ Hid (l'.map Pm.p = q') ∧ Blk wx (w.heap.size) 62 #[.int .i64 sn0, .int .i64 nesn0, V0, .bool op0, .bool em0, .int .i64 (ack0 : Int), .int .i64 (tak0 : Int), .int .i64 sn1, .int .i64 nesn1, V1, .bool op1, .bool em1, .int .i64 (ack1 : Int), .int .i64 (tak1 : Int), V2, V3, V4, V5] ∧ Blk wx (w.heap.size + 1) 65 #[.int .i64 0, .bool lost, .int .i64 x.k, .slice x.A x.v.length x.c] ∧ Blk wx (w.heap.size + 2) 62 #[.int .i64 0, .int .i64 0, .slice none 0 0, .bool false, .bool false, .int .i64 0, .int .i64 0, .int .i64 0, .int .i64 0, .slice none 0 0, .bool false, .bool false, .int .i64 0, .int .i64 0, .slice none 0 0, .slice none 0 0, .slice none 0 0, .slice none 0 0] ∧ Blk wx g5 43 #[.int .i64 sn', .int .i64 nesn', V', .bool op', .bool em', .int .i64 (ack' : Int), .int .i64 (tak' : Int)] ∧ All wx m m V' V1 V2 V3 V4 V5 l' l1 l2 l3 l4 l5 ∧ Below m w wx)
  case first =>
    have K2' : Blk W0.drew (w.heap.size) 62 #[.int .i64 sn0, .int .i64 nesn0, V0, .bool op0, .bool em0, .int .i64 (ack0 : Int), .int .i64 (tak0 : Int), .int .i64 sn1, .int .i64 nesn1, V1, .bool op1, .bool em1, .int .i64 (ack1 : Int), .int .i64 (tak1 : Int), V2, V3, V4, V5] := Mem.Blk.drew K2
    have K3' : Blk W0.drew (w.heap.size + 1) 65 #[.int .i64 0, .bool lost, .int .i64 x.k, .slice x.A x.v.length x.c] := Mem.Blk.drew K3
    have K4' : Blk W0.drew (w.heap.size + 2) 62 #[.int .i64 0, .int .i64 0, .slice none 0 0, .bool false, .bool false, .int .i64 0, .int .i64 0, .int .i64 0, .int .i64 0, .slice none 0 0, .bool false, .bool false, .int .i64 0, .int .i64 0, .slice none 0 0, .slice none 0 0, .slice none 0 0, .slice none 0 0] := Mem.Blk.drew K4
    refine wp_region_held_drew (S := (fun w' => Blk w' (w.heap.size + 1) 65 #[.int .i64 0, .bool lost, .int .i64 x.k, .slice x.A x.v.length x.c] ∧ Blk w' (w.heap.size) 62 #[.int .i64 sn0, .int .i64 nesn0, V0, .bool op0, .bool em0, .int .i64 (ack0 : Int), .int .i64 (tak0 : Int), .int .i64 sn1, .int .i64 nesn1, V1, .bool op1, .bool em1, .int .i64 (ack1 : Int), .int .i64 (tak1 : Int), V2, V3, V4, V5])) (by kernel_rfl) ?_ (fun hHeld => ?_)
    · exact ⟨K3', K2'⟩
    replace K2 := K2'
    clear K2'
    replace K3 := K3'
    clear K3'
    replace K4 := K4'
    clear K4'
    replace BX : Below m w W0.drew := BX.drew
    replace HA := (show All W0.drew m m V0 V1 V2 V3 V4 V5 l0 l1 l2 l3 l4 l5 from HA.below ((Below.refl W0.heap.size W0).drew))
    generalize W0.drew = X0 at *
    refine wpAnyH_take (i := 0) (v := .pointer (some ⟨w.heap.size + 1, 0, none⟩)) rfl (by kernel_rfl) (by kernel_rfl) (by kernel_rfl) (fun _ _ _ h => h) (Or.inl ⟨by first | rfl | go_simp, by intro w9 hSw; (try dsimp only at hSw); go_simp⟩) (by assumption) ?_
    simp only [List.getElem_toArray, List.getElem_cons_zero, List.getElem_cons_succ, Act.put, List.setIfInBounds_toArray, List.set_cons_zero, List.set_cons_succ]
    refine wpAnyH_take (i := 1) (v := .int .i64 0) rfl (by kernel_rfl) (by kernel_rfl) (by kernel_rfl) (fun _ _ _ h => h) (Or.inl ⟨by first | rfl | go_simp, by intro w9 hSw; (try dsimp only at hSw); have c9 := hSw.1.cell 0; clear hSw; go_simp⟩) (by assumption) ?_
    simp only [List.getElem_toArray, List.getElem_cons_zero, List.getElem_cons_succ, Act.put, List.setIfInBounds_toArray, List.set_cons_zero, List.set_cons_succ]
    refine wpAnyH_take (i := 2) (v := .pointer (some ⟨w.heap.size, 0, none⟩)) rfl (by kernel_rfl) (by kernel_rfl) (by kernel_rfl) (fun _ _ _ h => h) (Or.inl ⟨by first | rfl | go_simp, by intro w9 hSw; (try dsimp only at hSw); go_simp⟩) (by assumption) ?_
    simp only [List.getElem_toArray, List.getElem_cons_zero, List.getElem_cons_succ, Act.put, List.setIfInBounds_toArray, List.set_cons_zero, List.set_cons_succ]
    refine wpAnyH_take (i := 3) (v := .pointer (some ⟨w.heap.size, 0, none⟩)) rfl (by kernel_rfl) (by kernel_rfl) (by kernel_rfl) (fun _ _ _ h => h) (Or.inl ⟨by first | rfl | go_simp, by intro w9 hSw; (try dsimp only at hSw); go_simp⟩) (by assumption) ?_
    simp only [List.getElem_toArray, List.getElem_cons_zero, List.getElem_cons_succ, Act.put, List.setIfInBounds_toArray, List.set_cons_zero, List.set_cons_succ]
    refine wpAnyH_take (i := 4) (v := .agg #[.int .i64 sn0, .int .i64 nesn0, V0, .bool op0, .bool em0, .int .i64 (ack0 : Int), .int .i64 (tak0 : Int)]) rfl (by kernel_rfl) (by kernel_rfl) (by kernel_rfl) (fun _ _ _ h => h) (Av.yields_part (by first | rfl | go_simp) _ _ rfl (w.heap.size) 0 rfl #[.int .i64 sn0, .int .i64 nesn0, V0, .bool op0, .bool em0, .int .i64 (ack0 : Int), .int .i64 (tak0 : Int)] _ 62 #[.int .i64 sn0, .int .i64 nesn0, V0, .bool op0, .bool em0, .int .i64 (ack0 : Int), .int .i64 (tak0 : Int), .int .i64 sn1, .int .i64 nesn1, V1, .bool op1, .bool em1, .int .i64 (ack1 : Int), .int .i64 (tak1 : Int), V2, V3, V4, V5] (fun w9 hSw => hSw.2) rfl Try.underlying43 rfl (by kernel_rfl)) (by assumption) ?_
    simp only [List.getElem_toArray, List.getElem_cons_zero, List.getElem_cons_succ, Act.put, List.setIfInBounds_toArray, List.set_cons_zero, List.set_cons_succ]
    refine wpAnyH_take (i := 5) (v := .pointer (some ⟨w.heap.size + 1, 2, none⟩)) rfl (by kernel_rfl) (by kernel_rfl) (by kernel_rfl) (fun _ _ _ h => h) (Or.inl ⟨by first | rfl | go_simp, by intro w9 hSw; (try dsimp only at hSw); go_simp⟩) (by assumption) ?_
    simp only [List.getElem_toArray, List.getElem_cons_zero, List.getElem_cons_succ, Act.put, List.setIfInBounds_toArray, List.set_cons_zero, List.set_cons_succ]
    refine wpAnyH_take (i := 6) (v := .agg #[.int .i64 x.k, .slice x.A x.v.length x.c]) rfl (by kernel_rfl) (by kernel_rfl) (by kernel_rfl) (fun _ _ _ h => h) (Av.yields_part (by first | rfl | go_simp) _ _ rfl (w.heap.size + 1) 2 rfl #[.int .i64 x.k, .slice x.A x.v.length x.c] _ 65 #[.int .i64 0, .bool lost, .int .i64 x.k, .slice x.A x.v.length x.c] (fun w9 hSw => hSw.1) rfl Try.underlying24 rfl (by kernel_rfl)) (by assumption) ?_
    simp only [List.getElem_toArray, List.getElem_cons_zero, List.getElem_cons_succ, Act.put, List.setIfInBounds_toArray, List.set_cons_zero, List.set_cons_succ]
    refine wpAnyH_ready (rs := [7, 12]) (by kernel_rfl) (by simp) ?_
    refine AllReadyH.cons rfl (fun K hK => ?_) (AllReadyH.cons rfl (fun K hK => ?_) (AllReadyH.nil))
    · skip
      go_simp
      refine (HL.out X0 BX).mono ?_
      rintro e X1 ⟨A5, c5, rfl, HY, b9⟩
      replace K2 := K2.below b9 K2.lt
      replace K3 := K3.below b9 K3.lt
      replace K4 := K4.below b9 K4.lt
      replace BX := thenBm hmw BX b9
      replace HA := HA.below b9
      clear b9
      refine hK.out _ _ ⟨K3, K2⟩ (fun hHeld => ?_)
      clear hK K
      try simp only [List.getElem_toArray, List.getElem_cons_zero, List.getElem_cons_succ, Act.put, List.setIfInBounds_toArray, List.set_cons_zero, List.set_cons_succ]
      refine wpAnyH_ready (rs := [8, 12]) (by kernel_rfl) (by simp) ?_
      refine AllReadyH.cons rfl (fun K hK => ?_) (AllReadyH.cons rfl (fun K hK => ?_) (AllReadyH.nil))
      · skip
        go_simp
        refine (HQ.out X1 A5 c5 HA HY).mono ?_
        rintro e X2 ⟨V', l', rfl, hq', hl', b9⟩
        replace HA := HA.set0 (show m ≤ X1.heap.size by have := BX.size; omega) b9 hq'
        have oV' : V'.oneCell' = true := qq_one hq'
        clear hq' HY
        replace K2 := K2.below b9 K2.lt
        replace K3 := K3.below b9 K3.lt
        replace K4 := K4.below b9 K4.lt
        replace BX := thenBm hmw BX b9
        clear b9
        refine hK.out _ _ ⟨K3, K2⟩ (fun hHeld => ?_)
        clear hK K
        try simp only [List.getElem_toArray, List.getElem_cons_zero, List.getElem_cons_succ, Act.put, List.setIfInBounds_toArray, List.set_cons_zero, List.set_cons_succ]
        refine wpAnyH_take (i := 9) (v := .tuple #[.agg #[.int .i64 sn', .int .i64 nesn', V', .bool op', .bool em', .int .i64 (ack' : Int), .int .i64 (tak' : Int)], .int .i64 E]) rfl (by kernel_rfl) (by kernel_rfl) (by kernel_rfl) (fun _ _ _ h => h) (Or.inl ⟨by first | rfl | go_simp, by intro w9 hSw; (try dsimp only at hSw); go_simp⟩) (by assumption) ?_
        simp only [List.getElem_toArray, List.getElem_cons_zero, List.getElem_cons_succ, Act.put, List.setIfInBounds_toArray, List.set_cons_zero, List.set_cons_succ]
        refine wpAnyH_take (i := 10) (v := .agg #[.int .i64 sn', .int .i64 nesn', V', .bool op', .bool em', .int .i64 (ack' : Int), .int .i64 (tak' : Int)]) rfl (by kernel_rfl) (by kernel_rfl) (by kernel_rfl) (fun _ _ _ h => h) (Or.inl ⟨by first | rfl | go_simp, by intro w9 hSw; (try dsimp only at hSw); go_simp⟩) (by assumption) ?_
        simp only [List.getElem_toArray, List.getElem_cons_zero, List.getElem_cons_succ, Act.put, List.setIfInBounds_toArray, List.set_cons_zero, List.set_cons_succ]
        refine wpAnyH_take (i := 11) (v := .int .i64 E) rfl (by kernel_rfl) (by kernel_rfl) (by kernel_rfl) (fun _ _ _ h => h) (Or.inl ⟨by first | rfl | go_simp, by intro w9 hSw; (try dsimp only at hSw); go_simp⟩) (by assumption) ?_
        simp only [List.getElem_toArray, List.getElem_cons_zero, List.getElem_cons_succ, Act.put, List.setIfInBounds_toArray, List.set_cons_zero, List.set_cons_succ]
        refine wpAnyH_ready (rs := [12]) (by kernel_rfl) (by simp) ?_
        refine AllReadyH.cons rfl (fun K hK => ?_) (AllReadyH.nil)
        go_simp
        have b9 := (Below.refl X2.heap.size X2).alloc (Nat.le_refl _) (.cells #[.int .i64 0, .int .i64 0, .slice none 0 0, .bool false, .bool false, .int .i64 0, .int .i64 0] 43)
        have K5 := Blk.fresh X2 43 #[.int .i64 0, .int .i64 0, .slice none 0 0, .bool false, .bool false, .int .i64 0, .int .i64 0]
        have hg5 : w.heap.size + 3 ≤ X2.heap.size := K4.lt
        generalize X2.alloc (.cells #[.int .i64 0, .int .i64 0, .slice none 0 0, .bool false, .bool false, .int .i64 0, .int .i64 0] 43) = X3 at *
        replace K2 := K2.below b9 K2.lt
        replace K3 := K3.below b9 K3.lt
        replace K4 := K4.below b9 K4.lt
        replace BX := thenBm hmw BX b9
        replace HA := HA.below b9
        clear b9
        refine hK.out _ _ ⟨K3, K2⟩ (fun hHeld => ?_)
        clear hK K
        try simp only [List.getElem_toArray, List.getElem_cons_zero, List.getElem_cons_succ, Act.put, List.setIfInBounds_toArray, List.set_cons_zero, List.set_cons_succ]
        refine wpAnyH_ready (rs := [13]) (by kernel_rfl) (by simp) ?_
        refine AllReadyH.cons rfl (fun K hK => ?_) (AllReadyH.nil)
        have H9 : (#[.int .i64 sn', .int .i64 nesn', V', .bool op', .bool em', .int .i64 (ack' : Int), .int .i64 (tak' : Int)] : Array Value).all (·.oneCell') = true := by rw [← Array.all_toList]; simp only [List.all_cons, List.all_nil, oV', Bool.and_true, Bool.and_self]; rfl
        refine Av.step_store_row rfl 43 (.tmp 5) (.tmp 33) rfl (X2.heap.size) #[.int .i64 sn', .int .i64 nesn', V', .bool op', .bool em', .int .i64 (ack' : Int), .int .i64 (tak' : Int)] rfl rfl 43 _ K5 (by kernel_rfl) rfl H9 ?_
        replace HA := HA.step (stp_row K5 #[.int .i64 sn', .int .i64 nesn', V', .bool op', .bool em', .int .i64 (ack' : Int), .int .i64 (tak' : Int)]) (by decide) (by decide) (by omega)
        replace K2 : Blk (X3.setRow (X2.heap.size) #[.int .i64 sn', .int .i64 nesn', V', .bool op', .bool em', .int .i64 (ack' : Int), .int .i64 (tak' : Int)]) (w.heap.size) 62 #[.int .i64 sn0, .int .i64 nesn0, V0, .bool op0, .bool em0, .int .i64 (ack0 : Int), .int .i64 (tak0 : Int), .int .i64 sn1, .int .i64 nesn1, V1, .bool op1, .bool em1, .int .i64 (ack1 : Int), .int .i64 (tak1 : Int), V2, V3, V4, V5] := Av.bother_row K2 (by omega)
        replace K3 : Blk (X3.setRow (X2.heap.size) #[.int .i64 sn', .int .i64 nesn', V', .bool op', .bool em', .int .i64 (ack' : Int), .int .i64 (tak' : Int)]) (w.heap.size + 1) 65 #[.int .i64 0, .bool lost, .int .i64 x.k, .slice x.A x.v.length x.c] := Av.bother_row K3 (by omega)
        replace K4 : Blk (X3.setRow (X2.heap.size) #[.int .i64 sn', .int .i64 nesn', V', .bool op', .bool em', .int .i64 (ack' : Int), .int .i64 (tak' : Int)]) (w.heap.size + 2) 62 #[.int .i64 0, .int .i64 0, .slice none 0 0, .bool false, .bool false, .int .i64 0, .int .i64 0, .int .i64 0, .int .i64 0, .slice none 0 0, .bool false, .bool false, .int .i64 0, .int .i64 0, .slice none 0 0, .slice none 0 0, .slice none 0 0, .slice none 0 0] := Av.bother_row K4 (by omega)
        replace K5 : Blk (X3.setRow (X2.heap.size) #[.int .i64 sn', .int .i64 nesn', V', .bool op', .bool em', .int .i64 (ack' : Int), .int .i64 (tak' : Int)]) (X2.heap.size) 43 #[.int .i64 sn', .int .i64 nesn', V', .bool op', .bool em', .int .i64 (ack' : Int), .int .i64 (tak' : Int)] := Av.bset_row K5
        replace BX : Below m w (X3.setRow (X2.heap.size) #[.int .i64 sn', .int .i64 nesn', V', .bool op', .bool em', .int .i64 (ack' : Int), .int .i64 (tak' : Int)]) := below_setRow BX (by omega) _
        clear H9
        generalize X3.setRow (X2.heap.size) #[.int .i64 sn', .int .i64 nesn', V', .bool op', .bool em', .int .i64 (ack' : Int), .int .i64 (tak' : Int)] = X4 at *
        refine hK.out _ _ ⟨K3, K2⟩ (fun hHeld => ?_)
        clear hK K
        try simp only [List.getElem_toArray, List.getElem_cons_zero, List.getElem_cons_succ, Act.put, List.setIfInBounds_toArray, List.set_cons_zero, List.set_cons_succ]
        refine wpAnyH_take (i := 14) (v := .int .i64 E) rfl (by kernel_rfl) (by kernel_rfl) (by kernel_rfl) (fun _ _ _ h => h) (Or.inl ⟨by first | rfl | go_simp, by intro w9 hSw; (try dsimp only at hSw); go_simp⟩) (by assumption) ?_
        simp only [List.getElem_toArray, List.getElem_cons_zero, List.getElem_cons_succ, Act.put, List.setIfInBounds_toArray, List.set_cons_zero, List.set_cons_succ]
        refine wpAnyH_done (by kernel_rfl) ?_ _
        clear hHeld
        go_wp2_with fail
        go_meet
        exact ⟨X2.heap.size, V', l', rfl, rfl, hg5, oV', hl', K2, K3, K4, K5, HA, BX⟩
      · skip
        go_simp
        have b9 := (Below.refl X1.heap.size X1).alloc (Nat.le_refl _) (.cells #[.int .i64 0, .int .i64 0, .slice none 0 0, .bool false, .bool false, .int .i64 0, .int .i64 0] 43)
        have K5 := Blk.fresh X1 43 #[.int .i64 0, .int .i64 0, .slice none 0 0, .bool false, .bool false, .int .i64 0, .int .i64 0]
        have hg5 : w.heap.size + 3 ≤ X1.heap.size := K4.lt
        generalize X1.alloc (.cells #[.int .i64 0, .int .i64 0, .slice none 0 0, .bool false, .bool false, .int .i64 0, .int .i64 0] 43) = X5 at *
        replace K2 := K2.below b9 K2.lt
        replace K3 := K3.below b9 K3.lt
        replace K4 := K4.below b9 K4.lt
        replace BX := thenBm hmw BX b9
        replace HA := HA.below b9
        replace HY := HY.below b9
        clear b9
        refine hK.out _ _ ⟨K3, K2⟩ (fun hHeld => ?_)
        clear hK K
        try simp only [List.getElem_toArray, List.getElem_cons_zero, List.getElem_cons_succ, Act.put, List.setIfInBounds_toArray, List.set_cons_zero, List.set_cons_succ]
        refine wpAnyH_ready (rs := [8]) (by kernel_rfl) (by simp) ?_
        refine AllReadyH.cons rfl (fun K hK => ?_) (AllReadyH.nil)
        go_simp
        refine (HQ.out X5 A5 c5 HA HY).mono ?_
        rintro e X6 ⟨V', l', rfl, hq', hl', b9⟩
        replace HA := HA.set0 (show m ≤ X5.heap.size by have := BX.size; omega) b9 hq'
        have oV' : V'.oneCell' = true := qq_one hq'
        clear hq' HY
        replace K2 := K2.below b9 K2.lt
        replace K3 := K3.below b9 K3.lt
        replace K4 := K4.below b9 K4.lt
        replace K5 := K5.below b9 K5.lt
        replace BX := thenBm hmw BX b9
        clear b9
        refine hK.out _ _ ⟨K3, K2⟩ (fun hHeld => ?_)
        clear hK K
        try simp only [List.getElem_toArray, List.getElem_cons_zero, List.getElem_cons_succ, Act.put, List.setIfInBounds_toArray, List.set_cons_zero, List.set_cons_succ]
        refine wpAnyH_take (i := 9) (v := .tuple #[.agg #[.int .i64 sn', .int .i64 nesn', V', .bool op', .bool em', .int .i64 (ack' : Int), .int .i64 (tak' : Int)], .int .i64 E]) rfl (by kernel_rfl) (by kernel_rfl) (by kernel_rfl) (fun _ _ _ h => h) (Or.inl ⟨by first | rfl | go_simp, by intro w9 hSw; (try dsimp only at hSw); go_simp⟩) (by assumption) ?_
        simp only [List.getElem_toArray, List.getElem_cons_zero, List.getElem_cons_succ, Act.put, List.setIfInBounds_toArray, List.set_cons_zero, List.set_cons_succ]
        refine wpAnyH_take (i := 10) (v := .agg #[.int .i64 sn', .int .i64 nesn', V', .bool op', .bool em', .int .i64 (ack' : Int), .int .i64 (tak' : Int)]) rfl (by kernel_rfl) (by kernel_rfl) (by kernel_rfl) (fun _ _ _ h => h) (Or.inl ⟨by first | rfl | go_simp, by intro w9 hSw; (try dsimp only at hSw); go_simp⟩) (by assumption) ?_
        simp only [List.getElem_toArray, List.getElem_cons_zero, List.getElem_cons_succ, Act.put, List.setIfInBounds_toArray, List.set_cons_zero, List.set_cons_succ]
        refine wpAnyH_take (i := 11) (v := .int .i64 E) rfl (by kernel_rfl) (by kernel_rfl) (by kernel_rfl) (fun _ _ _ h => h) (Or.inl ⟨by first | rfl | go_simp, by intro w9 hSw; (try dsimp only at hSw); go_simp⟩) (by assumption) ?_
        simp only [List.getElem_toArray, List.getElem_cons_zero, List.getElem_cons_succ, Act.put, List.setIfInBounds_toArray, List.set_cons_zero, List.set_cons_succ]
        refine wpAnyH_ready (rs := [13]) (by kernel_rfl) (by simp) ?_
        refine AllReadyH.cons rfl (fun K hK => ?_) (AllReadyH.nil)
        have H9 : (#[.int .i64 sn', .int .i64 nesn', V', .bool op', .bool em', .int .i64 (ack' : Int), .int .i64 (tak' : Int)] : Array Value).all (·.oneCell') = true := by rw [← Array.all_toList]; simp only [List.all_cons, List.all_nil, oV', Bool.and_true, Bool.and_self]; rfl
        refine Av.step_store_row rfl 43 (.tmp 5) (.tmp 33) rfl (X1.heap.size) #[.int .i64 sn', .int .i64 nesn', V', .bool op', .bool em', .int .i64 (ack' : Int), .int .i64 (tak' : Int)] rfl rfl 43 _ K5 (by kernel_rfl) rfl H9 ?_
        replace HA := HA.step (stp_row K5 #[.int .i64 sn', .int .i64 nesn', V', .bool op', .bool em', .int .i64 (ack' : Int), .int .i64 (tak' : Int)]) (by decide) (by decide) (by omega)
        replace K2 : Blk (X6.setRow (X1.heap.size) #[.int .i64 sn', .int .i64 nesn', V', .bool op', .bool em', .int .i64 (ack' : Int), .int .i64 (tak' : Int)]) (w.heap.size) 62 #[.int .i64 sn0, .int .i64 nesn0, V0, .bool op0, .bool em0, .int .i64 (ack0 : Int), .int .i64 (tak0 : Int), .int .i64 sn1, .int .i64 nesn1, V1, .bool op1, .bool em1, .int .i64 (ack1 : Int), .int .i64 (tak1 : Int), V2, V3, V4, V5] := Av.bother_row K2 (by omega)
        replace K3 : Blk (X6.setRow (X1.heap.size) #[.int .i64 sn', .int .i64 nesn', V', .bool op', .bool em', .int .i64 (ack' : Int), .int .i64 (tak' : Int)]) (w.heap.size + 1) 65 #[.int .i64 0, .bool lost, .int .i64 x.k, .slice x.A x.v.length x.c] := Av.bother_row K3 (by omega)
        replace K4 : Blk (X6.setRow (X1.heap.size) #[.int .i64 sn', .int .i64 nesn', V', .bool op', .bool em', .int .i64 (ack' : Int), .int .i64 (tak' : Int)]) (w.heap.size + 2) 62 #[.int .i64 0, .int .i64 0, .slice none 0 0, .bool false, .bool false, .int .i64 0, .int .i64 0, .int .i64 0, .int .i64 0, .slice none 0 0, .bool false, .bool false, .int .i64 0, .int .i64 0, .slice none 0 0, .slice none 0 0, .slice none 0 0, .slice none 0 0] := Av.bother_row K4 (by omega)
        replace K5 : Blk (X6.setRow (X1.heap.size) #[.int .i64 sn', .int .i64 nesn', V', .bool op', .bool em', .int .i64 (ack' : Int), .int .i64 (tak' : Int)]) (X1.heap.size) 43 #[.int .i64 sn', .int .i64 nesn', V', .bool op', .bool em', .int .i64 (ack' : Int), .int .i64 (tak' : Int)] := Av.bset_row K5
        replace BX : Below m w (X6.setRow (X1.heap.size) #[.int .i64 sn', .int .i64 nesn', V', .bool op', .bool em', .int .i64 (ack' : Int), .int .i64 (tak' : Int)]) := below_setRow BX (by omega) _
        clear H9
        generalize X6.setRow (X1.heap.size) #[.int .i64 sn', .int .i64 nesn', V', .bool op', .bool em', .int .i64 (ack' : Int), .int .i64 (tak' : Int)] = X7 at *
        refine hK.out _ _ ⟨K3, K2⟩ (fun hHeld => ?_)
        clear hK K
        try simp only [List.getElem_toArray, List.getElem_cons_zero, List.getElem_cons_succ, Act.put, List.setIfInBounds_toArray, List.set_cons_zero, List.set_cons_succ]
        refine wpAnyH_take (i := 14) (v := .int .i64 E) rfl (by kernel_rfl) (by kernel_rfl) (by kernel_rfl) (fun _ _ _ h => h) (Or.inl ⟨by first | rfl | go_simp, by intro w9 hSw; (try dsimp only at hSw); go_simp⟩) (by assumption) ?_
        simp only [List.getElem_toArray, List.getElem_cons_zero, List.getElem_cons_succ, Act.put, List.setIfInBounds_toArray, List.set_cons_zero, List.set_cons_succ]
        refine wpAnyH_done (by kernel_rfl) ?_ _
        clear hHeld
        go_wp2_with fail
        go_meet
        exact ⟨X1.heap.size, V', l', rfl, rfl, hg5, oV', hl', K2, K3, K4, K5, HA, BX⟩
    · skip
      go_simp
      have b9 := (Below.refl X0.heap.size X0).alloc (Nat.le_refl _) (.cells #[.int .i64 0, .int .i64 0, .slice none 0 0, .bool false, .bool false, .int .i64 0, .int .i64 0] 43)
      have K5 := Blk.fresh X0 43 #[.int .i64 0, .int .i64 0, .slice none 0 0, .bool false, .bool false, .int .i64 0, .int .i64 0]
      have hg5 : w.heap.size + 3 ≤ X0.heap.size := K4.lt
      generalize X0.alloc (.cells #[.int .i64 0, .int .i64 0, .slice none 0 0, .bool false, .bool false, .int .i64 0, .int .i64 0] 43) = X8 at *
      replace K2 := K2.below b9 K2.lt
      replace K3 := K3.below b9 K3.lt
      replace K4 := K4.below b9 K4.lt
      replace BX := thenBm hmw BX b9
      replace HA := HA.below b9
      clear b9
      refine hK.out _ _ ⟨K3, K2⟩ (fun hHeld => ?_)
      clear hK K
      try simp only [List.getElem_toArray, List.getElem_cons_zero, List.getElem_cons_succ, Act.put, List.setIfInBounds_toArray, List.set_cons_zero, List.set_cons_succ]
      refine wpAnyH_ready (rs := [7]) (by kernel_rfl) (by simp) ?_
      refine AllReadyH.cons rfl (fun K hK => ?_) (AllReadyH.nil)
      go_simp
      refine (HL.out X8 BX).mono ?_
      rintro e X9 ⟨A5, c5, rfl, HY, b9⟩
      replace K2 := K2.below b9 K2.lt
      replace K3 := K3.below b9 K3.lt
      replace K4 := K4.below b9 K4.lt
      replace K5 := K5.below b9 K5.lt
      replace BX := thenBm hmw BX b9
      replace HA := HA.below b9
      clear b9
      refine hK.out _ _ ⟨K3, K2⟩ (fun hHeld => ?_)
      clear hK K
      try simp only [List.getElem_toArray, List.getElem_cons_zero, List.getElem_cons_succ, Act.put, List.setIfInBounds_toArray, List.set_cons_zero, List.set_cons_succ]
      refine wpAnyH_ready (rs := [8]) (by kernel_rfl) (by simp) ?_
      refine AllReadyH.cons rfl (fun K hK => ?_) (AllReadyH.nil)
      go_simp
      refine (HQ.out X9 A5 c5 HA HY).mono ?_
      rintro e X10 ⟨V', l', rfl, hq', hl', b9⟩
      replace HA := HA.set0 (show m ≤ X9.heap.size by have := BX.size; omega) b9 hq'
      have oV' : V'.oneCell' = true := qq_one hq'
      clear hq' HY
      replace K2 := K2.below b9 K2.lt
      replace K3 := K3.below b9 K3.lt
      replace K4 := K4.below b9 K4.lt
      replace K5 := K5.below b9 K5.lt
      replace BX := thenBm hmw BX b9
      clear b9
      refine hK.out _ _ ⟨K3, K2⟩ (fun hHeld => ?_)
      clear hK K
      try simp only [List.getElem_toArray, List.getElem_cons_zero, List.getElem_cons_succ, Act.put, List.setIfInBounds_toArray, List.set_cons_zero, List.set_cons_succ]
      refine wpAnyH_take (i := 9) (v := .tuple #[.agg #[.int .i64 sn', .int .i64 nesn', V', .bool op', .bool em', .int .i64 (ack' : Int), .int .i64 (tak' : Int)], .int .i64 E]) rfl (by kernel_rfl) (by kernel_rfl) (by kernel_rfl) (fun _ _ _ h => h) (Or.inl ⟨by first | rfl | go_simp, by intro w9 hSw; (try dsimp only at hSw); go_simp⟩) (by assumption) ?_
      simp only [List.getElem_toArray, List.getElem_cons_zero, List.getElem_cons_succ, Act.put, List.setIfInBounds_toArray, List.set_cons_zero, List.set_cons_succ]
      refine wpAnyH_take (i := 10) (v := .agg #[.int .i64 sn', .int .i64 nesn', V', .bool op', .bool em', .int .i64 (ack' : Int), .int .i64 (tak' : Int)]) rfl (by kernel_rfl) (by kernel_rfl) (by kernel_rfl) (fun _ _ _ h => h) (Or.inl ⟨by first | rfl | go_simp, by intro w9 hSw; (try dsimp only at hSw); go_simp⟩) (by assumption) ?_
      simp only [List.getElem_toArray, List.getElem_cons_zero, List.getElem_cons_succ, Act.put, List.setIfInBounds_toArray, List.set_cons_zero, List.set_cons_succ]
      refine wpAnyH_take (i := 11) (v := .int .i64 E) rfl (by kernel_rfl) (by kernel_rfl) (by kernel_rfl) (fun _ _ _ h => h) (Or.inl ⟨by first | rfl | go_simp, by intro w9 hSw; (try dsimp only at hSw); go_simp⟩) (by assumption) ?_
      simp only [List.getElem_toArray, List.getElem_cons_zero, List.getElem_cons_succ, Act.put, List.setIfInBounds_toArray, List.set_cons_zero, List.set_cons_succ]
      refine wpAnyH_ready (rs := [13]) (by kernel_rfl) (by simp) ?_
      refine AllReadyH.cons rfl (fun K hK => ?_) (AllReadyH.nil)
      have H9 : (#[.int .i64 sn', .int .i64 nesn', V', .bool op', .bool em', .int .i64 (ack' : Int), .int .i64 (tak' : Int)] : Array Value).all (·.oneCell') = true := by rw [← Array.all_toList]; simp only [List.all_cons, List.all_nil, oV', Bool.and_true, Bool.and_self]; rfl
      refine Av.step_store_row rfl 43 (.tmp 5) (.tmp 33) rfl (X0.heap.size) #[.int .i64 sn', .int .i64 nesn', V', .bool op', .bool em', .int .i64 (ack' : Int), .int .i64 (tak' : Int)] rfl rfl 43 _ K5 (by kernel_rfl) rfl H9 ?_
      replace HA := HA.step (stp_row K5 #[.int .i64 sn', .int .i64 nesn', V', .bool op', .bool em', .int .i64 (ack' : Int), .int .i64 (tak' : Int)]) (by decide) (by decide) (by omega)
      replace K2 : Blk (X10.setRow (X0.heap.size) #[.int .i64 sn', .int .i64 nesn', V', .bool op', .bool em', .int .i64 (ack' : Int), .int .i64 (tak' : Int)]) (w.heap.size) 62 #[.int .i64 sn0, .int .i64 nesn0, V0, .bool op0, .bool em0, .int .i64 (ack0 : Int), .int .i64 (tak0 : Int), .int .i64 sn1, .int .i64 nesn1, V1, .bool op1, .bool em1, .int .i64 (ack1 : Int), .int .i64 (tak1 : Int), V2, V3, V4, V5] := Av.bother_row K2 (by omega)
      replace K3 : Blk (X10.setRow (X0.heap.size) #[.int .i64 sn', .int .i64 nesn', V', .bool op', .bool em', .int .i64 (ack' : Int), .int .i64 (tak' : Int)]) (w.heap.size + 1) 65 #[.int .i64 0, .bool lost, .int .i64 x.k, .slice x.A x.v.length x.c] := Av.bother_row K3 (by omega)
      replace K4 : Blk (X10.setRow (X0.heap.size) #[.int .i64 sn', .int .i64 nesn', V', .bool op', .bool em', .int .i64 (ack' : Int), .int .i64 (tak' : Int)]) (w.heap.size + 2) 62 #[.int .i64 0, .int .i64 0, .slice none 0 0, .bool false, .bool false, .int .i64 0, .int .i64 0, .int .i64 0, .int .i64 0, .slice none 0 0, .bool false, .bool false, .int .i64 0, .int .i64 0, .slice none 0 0, .slice none 0 0, .slice none 0 0, .slice none 0 0] := Av.bother_row K4 (by omega)
      replace K5 : Blk (X10.setRow (X0.heap.size) #[.int .i64 sn', .int .i64 nesn', V', .bool op', .bool em', .int .i64 (ack' : Int), .int .i64 (tak' : Int)]) (X0.heap.size) 43 #[.int .i64 sn', .int .i64 nesn', V', .bool op', .bool em', .int .i64 (ack' : Int), .int .i64 (tak' : Int)] := Av.bset_row K5
      replace BX : Below m w (X10.setRow (X0.heap.size) #[.int .i64 sn', .int .i64 nesn', V', .bool op', .bool em', .int .i64 (ack' : Int), .int .i64 (tak' : Int)]) := below_setRow BX (by omega) _
      clear H9
      generalize X10.setRow (X0.heap.size) #[.int .i64 sn', .int .i64 nesn', V', .bool op', .bool em', .int .i64 (ack' : Int), .int .i64 (tak' : Int)] = X11 at *
      refine hK.out _ _ ⟨K3, K2⟩ (fun hHeld => ?_)
      clear hK K
      try simp only [List.getElem_toArray, List.getElem_cons_zero, List.getElem_cons_succ, Act.put, List.setIfInBounds_toArray, List.set_cons_zero, List.set_cons_succ]
      refine wpAnyH_take (i := 14) (v := .int .i64 E) rfl (by kernel_rfl) (by kernel_rfl) (by kernel_rfl) (fun _ _ _ h => h) (Or.inl ⟨by first | rfl | go_simp, by intro w9 hSw; (try dsimp only at hSw); go_simp⟩) (by assumption) ?_
      simp only [List.getElem_toArray, List.getElem_cons_zero, List.getElem_cons_succ, Act.put, List.setIfInBounds_toArray, List.set_cons_zero, List.set_cons_succ]
      refine wpAnyH_done (by kernel_rfl) ?_ _
      clear hHeld
      go_wp2_with fail
      go_meet
      exact ⟨X0.heap.size, V', l', rfl, rfl, hg5, oV', hl', K2, K3, K4, K5, HA, BX⟩
  case rest =>
    obtain ⟨g5, V', l', rfl, rfl, hg5, oV', hl', K2, K3, K4, K5, HA, BX⟩ := hcut
    have q0 := K3.cell 0
    have H1 : (#[.int .i64 sn', .int .i64 nesn', V', .bool op', .bool em', .int .i64 (ack' : Int), .int .i64 (tak' : Int)] : Array Value).all (·.oneCell') = true := by rw [← Array.all_toList]; simp only [List.all_cons, List.all_nil, oV', Bool.and_true, Bool.and_self]; rfl
    go_upto_region 4 with (first | (refine wpList_store_part rfl 43 _ _ rfl (w.heap.size) 0 #[.int .i64 sn', .int .i64 nesn', V', .bool op', .bool em', .int .i64 (ack' : Int), .int .i64 (tak' : Int)] rfl rfl 62 _ #[.int .i64 sn', .int .i64 nesn', V', .bool op', .bool em', .int .i64 (ack' : Int), .int .i64 (tak' : Int), .int .i64 sn1, .int .i64 nesn1, V1, .bool op1, .bool em1, .int .i64 (ack1 : Int), .int .i64 (tak1 : Int), V2, V3, V4, V5] K2 (by kernel_rfl) (by show 0 + 7 ≤ 18; decide) H1 rfl ?_) | (refine wpList_load_row rfl 43 (.tmp 5) rfl (g5) rfl 43 _ (0, 0) _ K5 Try.underlying43 rfl (by kernel_rfl) ?_))
    replace HA := HA.step (stp_row K2 #[.int .i64 sn', .int .i64 nesn', V', .bool op', .bool em', .int .i64 (ack' : Int), .int .i64 (tak' : Int), .int .i64 sn1, .int .i64 nesn1, V1, .bool op1, .bool em1, .int .i64 (ack1 : Int), .int .i64 (tak1 : Int), V2, V3, V4, V5]) (by decide) (by decide) (by omega)
    replace K3 := (stp_row K2 #[.int .i64 sn', .int .i64 nesn', V', .bool op', .bool em', .int .i64 (ack' : Int), .int .i64 (tak' : Int), .int .i64 sn1, .int .i64 nesn1, V1, .bool op1, .bool em1, .int .i64 (ack1 : Int), .int .i64 (tak1 : Int), V2, V3, V4, V5]).blk_ne K3 (by omega)
    replace K4 := (stp_row K2 #[.int .i64 sn', .int .i64 nesn', V', .bool op', .bool em', .int .i64 (ack' : Int), .int .i64 (tak' : Int), .int .i64 sn1, .int .i64 nesn1, V1, .bool op1, .bool em1, .int .i64 (ack1 : Int), .int .i64 (tak1 : Int), V2, V3, V4, V5]).blk_ne K4 (by omega)
    replace BX : Below m w (wc.setRow (w.heap.size) #[.int .i64 sn', .int .i64 nesn', V', .bool op', .bool em', .int .i64 (ack' : Int), .int .i64 (tak' : Int), .int .i64 sn1, .int .i64 nesn1, V1, .bool op1, .bool em1, .int .i64 (ack1 : Int), .int .i64 (tak1 : Int), V2, V3, V4, V5]) := below_setRow BX (by omega) _
    replace K2 := Av.bset_row (cs' := #[.int .i64 sn', .int .i64 nesn', V', .bool op', .bool em', .int .i64 (ack' : Int), .int .i64 (tak' : Int), .int .i64 sn1, .int .i64 nesn1, V1, .bool op1, .bool em1, .int .i64 (ack1 : Int), .int .i64 (tak1 : Int), V2, V3, V4, V5]) K2
    clear K5 q0 H1
    generalize wc.setRow (w.heap.size) #[.int .i64 sn', .int .i64 nesn', V', .bool op', .bool em', .int .i64 (ack' : Int), .int .i64 (tak' : Int), .int .i64 sn1, .int .i64 nesn1, V1, .bool op1, .bool em1, .int .i64 (ack1 : Int), .int .i64 (tak1 : Int), V2, V3, V4, V5] = Y1 at *
    have q0 := K3.cell 0
    by_cases hE : E = 0
    · have HO := Lib.hid (HOy.out hE)
      subst hE
      go_upto_region 5 with (fail)
      clear q0
      have K2' : Blk Y1.drew (w.heap.size) 62 #[.int .i64 sn', .int .i64 nesn', V', .bool op', .bool em', .int .i64 (ack' : Int), .int .i64 (tak' : Int), .int .i64 sn1, .int .i64 nesn1, V1, .bool op1, .bool em1, .int .i64 (ack1 : Int), .int .i64 (tak1 : Int), V2, V3, V4, V5] := Mem.Blk.drew K2
      have K3' : Blk Y1.drew (w.heap.size + 1) 65 #[.int .i64 0, .bool lost, .int .i64 x.k, .slice x.A x.v.length x.c] := Mem.Blk.drew K3
      have K4' : Blk Y1.drew (w.heap.size + 2) 62 #[.int .i64 0, .int .i64 0, .slice none 0 0, .bool false, .bool false, .int .i64 0, .int .i64 0, .int .i64 0, .int .i64 0, .slice none 0 0, .bool false, .bool false, .int .i64 0, .int .i64 0, .slice none 0 0, .slice none 0 0, .slice none 0 0, .slice none 0 0] := Mem.Blk.drew K4
      refine wp_region_held_drew (S := (fun w' => Blk w' (w.heap.size + 1) 65 #[.int .i64 0, .bool lost, .int .i64 x.k, .slice x.A x.v.length x.c])) (by kernel_rfl) ?_ (fun hHeld => ?_)
      · exact K3'
      replace K2 := K2'
      clear K2'
      replace K3 := K3'
      clear K3'
      replace K4 := K4'
      clear K4'
      replace BX : Below m w Y1.drew := BX.drew
      replace HA := (show All Y1.drew m m V' V1 V2 V3 V4 V5 l' l1 l2 l3 l4 l5 from HA.below ((Below.refl Y1.heap.size Y1).drew))
      generalize Y1.drew = U0 at *
      refine wpAnyH_take (i := 0) (v := .pointer (some ⟨w.heap.size + 1, 0, none⟩)) rfl (by kernel_rfl) (by kernel_rfl) (by kernel_rfl) (fun _ _ _ h => h) (Or.inl ⟨by first | rfl | go_simp, by intro w9 hSw; (try dsimp only at hSw); go_simp⟩) (by assumption) ?_
      simp only [List.getElem_toArray, List.getElem_cons_zero, List.getElem_cons_succ, Act.put, List.setIfInBounds_toArray, List.set_cons_zero, List.set_cons_succ]
      refine wpAnyH_take (i := 1) (v := .int .i64 0) rfl (by kernel_rfl) (by kernel_rfl) (by kernel_rfl) (fun _ _ _ h => h) (Or.inl ⟨by first | rfl | go_simp, by intro w9 hSw; (try dsimp only at hSw); have c9 := hSw.cell 0; clear hSw; go_simp⟩) (by assumption) ?_
      simp only [List.getElem_toArray, List.getElem_cons_zero, List.getElem_cons_succ, Act.put, List.setIfInBounds_toArray, List.set_cons_zero, List.set_cons_succ]
      refine wpAnyH_take (i := 2) (v := .pointer (some ⟨w.heap.size + 1, 0, none⟩)) rfl (by kernel_rfl) (by kernel_rfl) (by kernel_rfl) (fun _ _ _ h => h) (Or.inl ⟨by first | rfl | go_simp, by intro w9 hSw; (try dsimp only at hSw); go_simp⟩) (by assumption) ?_
      simp only [List.getElem_toArray, List.getElem_cons_zero, List.getElem_cons_succ, Act.put, List.setIfInBounds_toArray, List.set_cons_zero, List.set_cons_succ]
      refine wpAnyH_take (i := 3) (v := .int .i64 0) rfl (by kernel_rfl) (by kernel_rfl) (by kernel_rfl) (fun _ _ _ h => h) (Or.inl ⟨by first | rfl | go_simp, by intro w9 hSw; (try dsimp only at hSw); have c9 := hSw.cell 0; clear hSw; go_simp⟩) (by assumption) ?_
      simp only [List.getElem_toArray, List.getElem_cons_zero, List.getElem_cons_succ, Act.put, List.setIfInBounds_toArray, List.set_cons_zero, List.set_cons_succ]
      refine wpAnyH_take (i := 4) (v := .pointer (some ⟨w.heap.size, 14, none⟩)) rfl (by kernel_rfl) (by kernel_rfl) (by kernel_rfl) (fun _ _ _ h => h) (Or.inl ⟨by first | rfl | go_simp, by intro w9 hSw; (try dsimp only at hSw); go_simp⟩) (by assumption) ?_
      simp only [List.getElem_toArray, List.getElem_cons_zero, List.getElem_cons_succ, Act.put, List.setIfInBounds_toArray, List.set_cons_zero, List.set_cons_succ]
      refine wpAnyH_take (i := 5) (v := .pointer (some ⟨w.heap.size, 14, none⟩)) rfl (by kernel_rfl) (by kernel_rfl) (by kernel_rfl) (fun _ _ _ h => h) (Or.inl ⟨by first | rfl | go_simp, by intro w9 hSw; (try dsimp only at hSw); go_simp⟩) (by assumption) ?_
      simp only [List.getElem_toArray, List.getElem_cons_zero, List.getElem_cons_succ, Act.put, List.setIfInBounds_toArray, List.set_cons_zero, List.set_cons_succ]
      refine wpAnyH_take (i := 7) (v := .pointer (some ⟨w.heap.size + 1, 2, none⟩)) rfl (by kernel_rfl) (by kernel_rfl) (by kernel_rfl) (fun _ _ _ h => h) (Or.inl ⟨by first | rfl | go_simp, by intro w9 hSw; (try dsimp only at hSw); go_simp⟩) (by assumption) ?_
      simp only [List.getElem_toArray, List.getElem_cons_zero, List.getElem_cons_succ, Act.put, List.setIfInBounds_toArray, List.set_cons_zero, List.set_cons_succ]
      refine wpAnyH_take (i := 8) (v := .agg #[.int .i64 x.k, .slice x.A x.v.length x.c]) rfl (by kernel_rfl) (by kernel_rfl) (by kernel_rfl) (fun _ _ _ h => h) (Av.yields_part (by first | rfl | go_simp) _ _ rfl (w.heap.size + 1) 2 rfl #[.int .i64 x.k, .slice x.A x.v.length x.c] _ 65 #[.int .i64 0, .bool lost, .int .i64 x.k, .slice x.A x.v.length x.c] (fun w9 hSw => hSw) rfl Try.underlying24 rfl (by kernel_rfl)) (by assumption) ?_
      simp only [List.getElem_toArray, List.getElem_cons_zero, List.getElem_cons_succ, Act.put, List.setIfInBounds_toArray, List.set_cons_zero, List.set_cons_succ]
      refine wpAnyH_take (i := 11) (v := .pointer (some ⟨w.heap.size, 14, none⟩)) rfl (by kernel_rfl) (by kernel_rfl) (by kernel_rfl) (fun _ _ _ h => h) (Or.inl ⟨by first | rfl | go_simp, by intro w9 hSw; (try dsimp only at hSw); go_simp⟩) (by assumption) ?_
      simp only [List.getElem_toArray, List.getElem_cons_zero, List.getElem_cons_succ, Act.put, List.setIfInBounds_toArray, List.set_cons_zero, List.set_cons_succ]
      refine wpAnyH_ready (rs := [6, 9]) (by kernel_rfl) (by simp) ?_
      refine AllReadyH.cons rfl (fun K hK => ?_) (AllReadyH.cons rfl (fun K hK => ?_) (AllReadyH.nil))
      · skip
        have c90 := K2.cell 14
        go_simp
        clear c90
        refine hK.out _ _ K3 (fun hHeld => ?_)
        clear hK K
        try simp only [List.getElem_toArray, List.getElem_cons_zero, List.getElem_cons_succ, Act.put, List.setIfInBounds_toArray, List.set_cons_zero, List.set_cons_succ]
        refine wpAnyH_ready (rs := [9]) (by kernel_rfl) (by simp) ?_
        refine AllReadyH.cons rfl (fun K hK => ?_) (AllReadyH.nil)
        go_simp
        have b9 := (Below.refl U0.heap.size U0).alloc (Nat.le_refl _) (.cells #[.int .i64 x.k, .slice x.A x.v.length x.c] 24)
        have CA := CellsAt.lit U0 [.int .i64 x.k, .slice x.A x.v.length x.c] #[.int .i64 x.k, .slice x.A x.v.length x.c] 24 rfl
        generalize U0.alloc (.cells #[.int .i64 x.k, .slice x.A x.v.length x.c] 24) = U1 at *
        replace K2 := K2.below b9 K2.lt
        replace K3 := K3.below b9 K3.lt
        replace K4 := K4.below b9 K4.lt
        replace BX := thenBm hmw BX b9
        replace HA := HA.below b9
        clear b9
        refine hK.out _ _ K3 (fun hHeld => ?_)
        clear hK K
        try simp only [List.getElem_toArray, List.getElem_cons_zero, List.getElem_cons_succ, Act.put, List.setIfInBounds_toArray, List.set_cons_zero, List.set_cons_succ]
        refine wpAnyH_ready (rs := [10]) (by kernel_rfl) (by simp) ?_
        refine AllReadyH.cons rfl (fun K hK => ?_) (AllReadyH.nil)
        refine step_append_at rfl (.tmp 48) (.tmp 51) 41 rfl m 24 iE _ 2 32 Try.underlying41 hi hz hs hb hc0 (by decide) V2 l2.length (l2.flatMap encK) rfl HA.r2.1 (U0.heap.size) 1 1 [.int .i64 x.k, .slice x.A x.v.length x.c] rfl rfl (by intro u hu; simp at hu; rcases hu with rfl | rfl <;> rfl) CA (by unfold maxLen; omega) (by omega) (by have := BX.size; omega) ?_
        intro V9 U2 own4 gr4 at4
        have oV9 : V9.oneCell' = true := by obtain ⟨A9, c9, e9⟩ := own_form own4; rw [e9]; rfl
        have KT2 := grow_blk K2 HA.r2.1 (by decide) gr4
        have KT3 := grow_blk K3 HA.r2.1 (by decide) gr4
        have KT4 := grow_blk K4 HA.r2.1 (by decide) gr4
        have BXo := BX
        replace BX := BX.grown gr4 (by have := BX.size; omega) (fun k hk => (HA.r2.lt k hk).1)
        replace HA := HA.app2 (x := x) (PP.of_old hpp BXo) (Nat.le_refl _) gr4 at4 own4
        replace K2 := KT2
        replace K3 := KT3
        replace K4 := KT4
        clear CA own4 gr4 at4 KT2 KT3 KT4 BXo
        refine hK.out _ _ K3 (fun hHeld => ?_)
        clear hK K
        try simp only [List.getElem_toArray, List.getElem_cons_zero, List.getElem_cons_succ, Act.put, List.setIfInBounds_toArray, List.set_cons_zero, List.set_cons_succ]
        refine wpAnyH_take (i := 12) (v := .pointer (some ⟨w.heap.size, 14, none⟩)) rfl (by kernel_rfl) (by kernel_rfl) (by kernel_rfl) (fun _ _ _ h => h) (Or.inl ⟨by first | rfl | go_simp, by intro w9 hSw; (try dsimp only at hSw); go_simp⟩) (by assumption) ?_
        simp only [List.getElem_toArray, List.getElem_cons_zero, List.getElem_cons_succ, Act.put, List.setIfInBounds_toArray, List.set_cons_zero, List.set_cons_succ]
        refine wpAnyH_ready (rs := [13]) (by kernel_rfl) (by simp) ?_
        refine AllReadyH.cons rfl (fun K hK => ?_) (AllReadyH.nil)
        refine Av.step_store_cell rfl _ _ _ rfl (w.heap.size) 14 (V9) rfl rfl 62 _ K2 (by show 14 < 18; decide) (by kernel_rfl) oV9 ?_
        replace HA := ((HA).step (stp_cell (i := 14) K2 (V9)) (by decide) (by decide) (by omega))
        replace K2 : Blk (U2.setCell ⟨w.heap.size, 14, none⟩ (V9)) (w.heap.size) 62 #[.int .i64 sn', .int .i64 nesn', V', .bool op', .bool em', .int .i64 (ack' : Int), .int .i64 (tak' : Int), .int .i64 sn1, .int .i64 nesn1, V1, .bool op1, .bool em1, .int .i64 (ack1 : Int), .int .i64 (tak1 : Int), V9, V3, V4, V5] := (Av.bset K2 14 (V9) rfl)
        replace K3 : Blk (U2.setCell ⟨w.heap.size, 14, none⟩ (V9)) (w.heap.size + 1) 65 #[.int .i64 0, .bool lost, .int .i64 x.k, .slice x.A x.v.length x.c] := Av.bother (K3) (by omega) _
        replace K4 : Blk (U2.setCell ⟨w.heap.size, 14, none⟩ (V9)) (w.heap.size + 2) 62 #[.int .i64 0, .int .i64 0, .slice none 0 0, .bool false, .bool false, .int .i64 0, .int .i64 0, .int .i64 0, .int .i64 0, .slice none 0 0, .bool false, .bool false, .int .i64 0, .int .i64 0, .slice none 0 0, .slice none 0 0, .slice none 0 0, .slice none 0 0] := Av.bother (K4) (by omega) _
        replace BX : Below m w (U2.setCell ⟨w.heap.size, 14, none⟩ (V9)) := (BX.setCell (p := ⟨w.heap.size, 14, none⟩) (by simp only; omega) _)
        generalize (U2.setCell ⟨w.heap.size, 14, none⟩ (V9)) = U3 at *
        refine hK.out _ _ K3 (fun hHeld => ?_)
        clear hK K
        try simp only [List.getElem_toArray, List.getElem_cons_zero, List.getElem_cons_succ, Act.put, List.setIfInBounds_toArray, List.set_cons_zero, List.set_cons_succ]
        refine wpAnyH_done (by kernel_rfl) ?_ _
        clear hHeld
        have q0 := K3.cell 0
        go_upto_region 15 with (fail)
        clear q0
        have H1 : (#[.int .i64 sn', .int .i64 nesn', V', .bool op', .bool em', .int .i64 (ack' : Int), .int .i64 (tak' : Int), .int .i64 sn1, .int .i64 nesn1, V1, .bool op1, .bool em1, .int .i64 (ack1 : Int), .int .i64 (tak1 : Int), V9, V3, V4, V5] : Array Value).all (·.oneCell') = true := by rw [← Array.all_toList]; simp only [List.all_cons, List.all_nil, oV', oV1, oV9, oV3, oV4, oV5, Bool.and_true, Bool.and_self]; rfl
        go_wp2_with (first | (refine wpList_store_row rfl 62 (.tmp 4) _ rfl (w.heap.size + 2) #[.int .i64 sn', .int .i64 nesn', V', .bool op', .bool em', .int .i64 (ack' : Int), .int .i64 (tak' : Int), .int .i64 sn1, .int .i64 nesn1, V1, .bool op1, .bool em1, .int .i64 (ack1 : Int), .int .i64 (tak1 : Int), V9, V3, V4, V5] rfl rfl 62 _ K4 (by kernel_rfl) rfl H1 ?_) | (refine wpList_load_row rfl 62 (.tmp 2) rfl (w.heap.size) rfl 62 _ (0, 0) _ K2 Try.underlying62 rfl (by kernel_rfl) ?_))
        have HF := HA.step (stp_row K4 #[.int .i64 sn', .int .i64 nesn', V', .bool op', .bool em', .int .i64 (ack' : Int), .int .i64 (tak' : Int), .int .i64 sn1, .int .i64 nesn1, V1, .bool op1, .bool em1, .int .i64 (ack1 : Int), .int .i64 (tak1 : Int), V9, V3, V4, V5]) (by decide) (by decide) (by omega)
        have KR := setRow_heap U3 (w.heap.size + 2) _ #[.int .i64 sn', .int .i64 nesn', V', .bool op', .bool em', .int .i64 (ack' : Int), .int .i64 (tak' : Int), .int .i64 sn1, .int .i64 nesn1, V1, .bool op1, .bool em1, .int .i64 (ack1 : Int), .int .i64 (tak1 : Int), V9, V3, V4, V5] 62 (0, 0) K4
        have BE : Below m w (U3.setRow (w.heap.size + 2) #[.int .i64 sn', .int .i64 nesn', V', .bool op', .bool em', .int .i64 (ack' : Int), .int .i64 (tak' : Int), .int .i64 sn1, .int .i64 nesn1, V1, .bool op1, .bool em1, .int .i64 (ack1 : Int), .int .i64 (tak1 : Int), V9, V3, V4, V5]) := below_setRow BX (by omega) #[.int .i64 sn', .int .i64 nesn', V', .bool op', .bool em', .int .i64 (ack' : Int), .int .i64 (tak' : Int), .int .i64 sn1, .int .i64 nesn1, V1, .bool op1, .bool em1, .int .i64 (ack1 : Int), .int .i64 (tak1 : Int), V9, V3, V4, V5]
        generalize U3.setRow (w.heap.size + 2) #[.int .i64 sn', .int .i64 nesn', V', .bool op', .bool em', .int .i64 (ack' : Int), .int .i64 (tak' : Int), .int .i64 sn1, .int .i64 nesn1, V1, .bool op1, .bool em1, .int .i64 (ack1 : Int), .int .i64 (tak1 : Int), V9, V3, V4, V5] = Y at *
        refine bodyPost_ret (v := .agg #[.int .i64 sn', .int .i64 nesn', V', .bool op', .bool em', .int .i64 (ack' : Int), .int .i64 (tak' : Int), .int .i64 sn1, .int .i64 nesn1, V1, .bool op1, .bool em1, .int .i64 (ack1 : Int), .int .i64 (tak1 : Int), V9, V3, V4, V5]) ?_ rfl (by rw [HO.out]; exact ⟨V', V1, V9, V3, V4, V5, l', l1, (l2 ++ [x]), l3, l4, l5, rfl, ⟨HF, hl'.out, HX.e1, (by rw [List.map_append, HX.e2]; rfl), HX.e3, HX.e4, HX.e5⟩, BE⟩)
        clear K2
        have HL := run_loadVar_row (P := Try.prog) Y (w.heap.size + 2) 62 62 #[.int .i64 sn', .int .i64 nesn', V', .bool op', .bool em', .int .i64 (ack' : Int), .int .i64 (tak' : Int), .int .i64 sn1, .int .i64 nesn1, V1, .bool op1, .bool em1, .int .i64 (ack1 : Int), .int .i64 (tak1 : Int), V9, V3, V4, V5] (0, 0) _ KR Try.underlying62 rfl (by kernel_rfl)
        generalize (#[.int .i64 sn', .int .i64 nesn', V', .bool op', .bool em', .int .i64 (ack' : Int), .int .i64 (tak' : Int), .int .i64 sn1, .int .i64 nesn1, V1, .bool op1, .bool em1, .int .i64 (ack1 : Int), .int .i64 (tak1 : Int), V9, V3, V4, V5] : Array Value) = CS at *
        simp [results, show (Try.f39).results = #[.cell 4 62] from rfl, asAddr, HL, Act.put]
      · skip
        go_simp
        have b9 := (Below.refl U0.heap.size U0).alloc (Nat.le_refl _) (.cells #[.int .i64 x.k, .slice x.A x.v.length x.c] 24)
        have CA := CellsAt.lit U0 [.int .i64 x.k, .slice x.A x.v.length x.c] #[.int .i64 x.k, .slice x.A x.v.length x.c] 24 rfl
        generalize U0.alloc (.cells #[.int .i64 x.k, .slice x.A x.v.length x.c] 24) = U4 at *
        replace K2 := K2.below b9 K2.lt
        replace K3 := K3.below b9 K3.lt
        replace K4 := K4.below b9 K4.lt
        replace BX := thenBm hmw BX b9
        replace HA := HA.below b9
        clear b9
        refine hK.out _ _ K3 (fun hHeld => ?_)
        clear hK K
        try simp only [List.getElem_toArray, List.getElem_cons_zero, List.getElem_cons_succ, Act.put, List.setIfInBounds_toArray, List.set_cons_zero, List.set_cons_succ]
        refine wpAnyH_ready (rs := [6]) (by kernel_rfl) (by simp) ?_
        refine AllReadyH.cons rfl (fun K hK => ?_) (AllReadyH.nil)
        have c90 := K2.cell 14
        go_simp
        clear c90
        refine hK.out _ _ K3 (fun hHeld => ?_)
        clear hK K
        try simp only [List.getElem_toArray, List.getElem_cons_zero, List.getElem_cons_succ, Act.put, List.setIfInBounds_toArray, List.set_cons_zero, List.set_cons_succ]
        refine wpAnyH_ready (rs := [10]) (by kernel_rfl) (by simp) ?_
        refine AllReadyH.cons rfl (fun K hK => ?_) (AllReadyH.nil)
        refine step_append_at rfl (.tmp 48) (.tmp 51) 41 rfl m 24 iE _ 2 32 Try.underlying41 hi hz hs hb hc0 (by decide) V2 l2.length (l2.flatMap encK) rfl HA.r2.1 (U0.heap.size) 1 1 [.int .i64 x.k, .slice x.A x.v.length x.c] rfl rfl (by intro u hu; simp at hu; rcases hu with rfl | rfl <;> rfl) CA (by unfold maxLen; omega) (by omega) (by have := BX.size; omega) ?_
        intro V9 U5 own4 gr4 at4
        have oV9 : V9.oneCell' = true := by obtain ⟨A9, c9, e9⟩ := own_form own4; rw [e9]; rfl
        have KT2 := grow_blk K2 HA.r2.1 (by decide) gr4
        have KT3 := grow_blk K3 HA.r2.1 (by decide) gr4
        have KT4 := grow_blk K4 HA.r2.1 (by decide) gr4
        have BXo := BX
        replace BX := BX.grown gr4 (by have := BX.size; omega) (fun k hk => (HA.r2.lt k hk).1)
        replace HA := HA.app2 (x := x) (PP.of_old hpp BXo) (Nat.le_refl _) gr4 at4 own4
        replace K2 := KT2
        replace K3 := KT3
        replace K4 := KT4
        clear CA own4 gr4 at4 KT2 KT3 KT4 BXo
        refine hK.out _ _ K3 (fun hHeld => ?_)
        clear hK K
        try simp only [List.getElem_toArray, List.getElem_cons_zero, List.getElem_cons_succ, Act.put, List.setIfInBounds_toArray, List.set_cons_zero, List.set_cons_succ]
        refine wpAnyH_take (i := 12) (v := .pointer (some ⟨w.heap.size, 14, none⟩)) rfl (by kernel_rfl) (by kernel_rfl) (by kernel_rfl) (fun _ _ _ h => h) (Or.inl ⟨by first | rfl | go_simp, by intro w9 hSw; (try dsimp only at hSw); go_simp⟩) (by assumption) ?_
        simp only [List.getElem_toArray, List.getElem_cons_zero, List.getElem_cons_succ, Act.put, List.setIfInBounds_toArray, List.set_cons_zero, List.set_cons_succ]
        refine wpAnyH_ready (rs := [13]) (by kernel_rfl) (by simp) ?_
        refine AllReadyH.cons rfl (fun K hK => ?_) (AllReadyH.nil)
        refine Av.step_store_cell rfl _ _ _ rfl (w.heap.size) 14 (V9) rfl rfl 62 _ K2 (by show 14 < 18; decide) (by kernel_rfl) oV9 ?_
        replace HA := ((HA).step (stp_cell (i := 14) K2 (V9)) (by decide) (by decide) (by omega))
        replace K2 : Blk (U5.setCell ⟨w.heap.size, 14, none⟩ (V9)) (w.heap.size) 62 #[.int .i64 sn', .int .i64 nesn', V', .bool op', .bool em', .int .i64 (ack' : Int), .int .i64 (tak' : Int), .int .i64 sn1, .int .i64 nesn1, V1, .bool op1, .bool em1, .int .i64 (ack1 : Int), .int .i64 (tak1 : Int), V9, V3, V4, V5] := (Av.bset K2 14 (V9) rfl)
        replace K3 : Blk (U5.setCell ⟨w.heap.size, 14, none⟩ (V9)) (w.heap.size + 1) 65 #[.int .i64 0, .bool lost, .int .i64 x.k, .slice x.A x.v.length x.c] := Av.bother (K3) (by omega) _
        replace K4 : Blk (U5.setCell ⟨w.heap.size, 14, none⟩ (V9)) (w.heap.size + 2) 62 #[.int .i64 0, .int .i64 0, .slice none 0 0, .bool false, .bool false, .int .i64 0, .int .i64 0, .int .i64 0, .int .i64 0, .slice none 0 0, .bool false, .bool false, .int .i64 0, .int .i64 0, .slice none 0 0, .slice none 0 0, .slice none 0 0, .slice none 0 0] := Av.bother (K4) (by omega) _
        replace BX : Below m w (U5.setCell ⟨w.heap.size, 14, none⟩ (V9)) := (BX.setCell (p := ⟨w.heap.size, 14, none⟩) (by simp only; omega) _)
        generalize (U5.setCell ⟨w.heap.size, 14, none⟩ (V9)) = U6 at *
        refine hK.out _ _ K3 (fun hHeld => ?_)
        clear hK K
        try simp only [List.getElem_toArray, List.getElem_cons_zero, List.getElem_cons_succ, Act.put, List.setIfInBounds_toArray, List.set_cons_zero, List.set_cons_succ]
        refine wpAnyH_done (by kernel_rfl) ?_ _
        clear hHeld
        have q0 := K3.cell 0
        go_upto_region 15 with (fail)
        clear q0
        have H1 : (#[.int .i64 sn', .int .i64 nesn', V', .bool op', .bool em', .int .i64 (ack' : Int), .int .i64 (tak' : Int), .int .i64 sn1, .int .i64 nesn1, V1, .bool op1, .bool em1, .int .i64 (ack1 : Int), .int .i64 (tak1 : Int), V9, V3, V4, V5] : Array Value).all (·.oneCell') = true := by rw [← Array.all_toList]; simp only [List.all_cons, List.all_nil, oV', oV1, oV9, oV3, oV4, oV5, Bool.and_true, Bool.and_self]; rfl
        go_wp2_with (first | (refine wpList_store_row rfl 62 (.tmp 4) _ rfl (w.heap.size + 2) #[.int .i64 sn', .int .i64 nesn', V', .bool op', .bool em', .int .i64 (ack' : Int), .int .i64 (tak' : Int), .int .i64 sn1, .int .i64 nesn1, V1, .bool op1, .bool em1, .int .i64 (ack1 : Int), .int .i64 (tak1 : Int), V9, V3, V4, V5] rfl rfl 62 _ K4 (by kernel_rfl) rfl H1 ?_) | (refine wpList_load_row rfl 62 (.tmp 2) rfl (w.heap.size) rfl 62 _ (0, 0) _ K2 Try.underlying62 rfl (by kernel_rfl) ?_))
        have HF := HA.step (stp_row K4 #[.int .i64 sn', .int .i64 nesn', V', .bool op', .bool em', .int .i64 (ack' : Int), .int .i64 (tak' : Int), .int .i64 sn1, .int .i64 nesn1, V1, .bool op1, .bool em1, .int .i64 (ack1 : Int), .int .i64 (tak1 : Int), V9, V3, V4, V5]) (by decide) (by decide) (by omega)
        have KR := setRow_heap U6 (w.heap.size + 2) _ #[.int .i64 sn', .int .i64 nesn', V', .bool op', .bool em', .int .i64 (ack' : Int), .int .i64 (tak' : Int), .int .i64 sn1, .int .i64 nesn1, V1, .bool op1, .bool em1, .int .i64 (ack1 : Int), .int .i64 (tak1 : Int), V9, V3, V4, V5] 62 (0, 0) K4
        have BE : Below m w (U6.setRow (w.heap.size + 2) #[.int .i64 sn', .int .i64 nesn', V', .bool op', .bool em', .int .i64 (ack' : Int), .int .i64 (tak' : Int), .int .i64 sn1, .int .i64 nesn1, V1, .bool op1, .bool em1, .int .i64 (ack1 : Int), .int .i64 (tak1 : Int), V9, V3, V4, V5]) := below_setRow BX (by omega) #[.int .i64 sn', .int .i64 nesn', V', .bool op', .bool em', .int .i64 (ack' : Int), .int .i64 (tak' : Int), .int .i64 sn1, .int .i64 nesn1, V1, .bool op1, .bool em1, .int .i64 (ack1 : Int), .int .i64 (tak1 : Int), V9, V3, V4, V5]
        generalize U6.setRow (w.heap.size + 2) #[.int .i64 sn', .int .i64 nesn', V', .bool op', .bool em', .int .i64 (ack' : Int), .int .i64 (tak' : Int), .int .i64 sn1, .int .i64 nesn1, V1, .bool op1, .bool em1, .int .i64 (ack1 : Int), .int .i64 (tak1 : Int), V9, V3, V4, V5] = Y at *
        refine bodyPost_ret (v := .agg #[.int .i64 sn', .int .i64 nesn', V', .bool op', .bool em', .int .i64 (ack' : Int), .int .i64 (tak' : Int), .int .i64 sn1, .int .i64 nesn1, V1, .bool op1, .bool em1, .int .i64 (ack1 : Int), .int .i64 (tak1 : Int), V9, V3, V4, V5]) ?_ rfl (by rw [HO.out]; exact ⟨V', V1, V9, V3, V4, V5, l', l1, (l2 ++ [x]), l3, l4, l5, rfl, ⟨HF, hl'.out, HX.e1, (by rw [List.map_append, HX.e2]; rfl), HX.e3, HX.e4, HX.e5⟩, BE⟩)
        clear K2
        have HL := run_loadVar_row (P := Try.prog) Y (w.heap.size + 2) 62 62 #[.int .i64 sn', .int .i64 nesn', V', .bool op', .bool em', .int .i64 (ack' : Int), .int .i64 (tak' : Int), .int .i64 sn1, .int .i64 nesn1, V1, .bool op1, .bool em1, .int .i64 (ack1 : Int), .int .i64 (tak1 : Int), V9, V3, V4, V5] (0, 0) _ KR Try.underlying62 rfl (by kernel_rfl)
        generalize (#[.int .i64 sn', .int .i64 nesn', V', .bool op', .bool em', .int .i64 (ack' : Int), .int .i64 (tak' : Int), .int .i64 sn1, .int .i64 nesn1, V1, .bool op1, .bool em1, .int .i64 (ack1 : Int), .int .i64 (tak1 : Int), V9, V3, V4, V5] : Array Value) = CS at *
        simp [results, show (Try.f39).results = #[.cell 4 62] from rfl, asAddr, HL, Act.put]
    · have HO := Lib.hid (HOn.out hE)
      have gE : (E == 0) = false := by simpa using hE
      clear hE
      go_upto_region 15 with (fail)
      clear q0
      have H1 : (#[.int .i64 sn', .int .i64 nesn', V', .bool op', .bool em', .int .i64 (ack' : Int), .int .i64 (tak' : Int), .int .i64 sn1, .int .i64 nesn1, V1, .bool op1, .bool em1, .int .i64 (ack1 : Int), .int .i64 (tak1 : Int), V2, V3, V4, V5] : Array Value).all (·.oneCell') = true := by rw [← Array.all_toList]; simp only [List.all_cons, List.all_nil, oV', oV1, oV2, oV3, oV4, oV5, Bool.and_true, Bool.and_self]; rfl
      go_wp2_with (first | (refine wpList_store_row rfl 62 (.tmp 4) _ rfl (w.heap.size + 2) #[.int .i64 sn', .int .i64 nesn', V', .bool op', .bool em', .int .i64 (ack' : Int), .int .i64 (tak' : Int), .int .i64 sn1, .int .i64 nesn1, V1, .bool op1, .bool em1, .int .i64 (ack1 : Int), .int .i64 (tak1 : Int), V2, V3, V4, V5] rfl rfl 62 _ K4 (by kernel_rfl) rfl H1 ?_) | (refine wpList_load_row rfl 62 (.tmp 2) rfl (w.heap.size) rfl 62 _ (0, 0) _ K2 Try.underlying62 rfl (by kernel_rfl) ?_))
      have HF := HA.step (stp_row K4 #[.int .i64 sn', .int .i64 nesn', V', .bool op', .bool em', .int .i64 (ack' : Int), .int .i64 (tak' : Int), .int .i64 sn1, .int .i64 nesn1, V1, .bool op1, .bool em1, .int .i64 (ack1 : Int), .int .i64 (tak1 : Int), V2, V3, V4, V5]) (by decide) (by decide) (by omega)
      have KR := setRow_heap Y1 (w.heap.size + 2) _ #[.int .i64 sn', .int .i64 nesn', V', .bool op', .bool em', .int .i64 (ack' : Int), .int .i64 (tak' : Int), .int .i64 sn1, .int .i64 nesn1, V1, .bool op1, .bool em1, .int .i64 (ack1 : Int), .int .i64 (tak1 : Int), V2, V3, V4, V5] 62 (0, 0) K4
      have BE : Below m w (Y1.setRow (w.heap.size + 2) #[.int .i64 sn', .int .i64 nesn', V', .bool op', .bool em', .int .i64 (ack' : Int), .int .i64 (tak' : Int), .int .i64 sn1, .int .i64 nesn1, V1, .bool op1, .bool em1, .int .i64 (ack1 : Int), .int .i64 (tak1 : Int), V2, V3, V4, V5]) := below_setRow BX (by omega) #[.int .i64 sn', .int .i64 nesn', V', .bool op', .bool em', .int .i64 (ack' : Int), .int .i64 (tak' : Int), .int .i64 sn1, .int .i64 nesn1, V1, .bool op1, .bool em1, .int .i64 (ack1 : Int), .int .i64 (tak1 : Int), V2, V3, V4, V5]
      generalize Y1.setRow (w.heap.size + 2) #[.int .i64 sn', .int .i64 nesn', V', .bool op', .bool em', .int .i64 (ack' : Int), .int .i64 (tak' : Int), .int .i64 sn1, .int .i64 nesn1, V1, .bool op1, .bool em1, .int .i64 (ack1 : Int), .int .i64 (tak1 : Int), V2, V3, V4, V5] = Y at *
      refine bodyPost_ret (v := .agg #[.int .i64 sn', .int .i64 nesn', V', .bool op', .bool em', .int .i64 (ack' : Int), .int .i64 (tak' : Int), .int .i64 sn1, .int .i64 nesn1, V1, .bool op1, .bool em1, .int .i64 (ack1 : Int), .int .i64 (tak1 : Int), V2, V3, V4, V5]) ?_ rfl (by rw [HO.out]; exact ⟨V', V1, V2, V3, V4, V5, l', l1, l2, l3, l4, l5, rfl, ⟨HF, hl'.out, HX.e1, HX.e2, HX.e3, HX.e4, HX.e5⟩, BE⟩)
      clear K2
      have HL := run_loadVar_row (P := Try.prog) Y (w.heap.size + 2) 62 62 #[.int .i64 sn', .int .i64 nesn', V', .bool op', .bool em', .int .i64 (ack' : Int), .int .i64 (tak' : Int), .int .i64 sn1, .int .i64 nesn1, V1, .bool op1, .bool em1, .int .i64 (ack1 : Int), .int .i64 (tak1 : Int), V2, V3, V4, V5] (0, 0) _ KR Try.underlying62 rfl (by kernel_rfl)
      generalize (#[.int .i64 sn', .int .i64 nesn', V', .bool op', .bool em', .int .i64 (ack' : Int), .int .i64 (tak' : Int), .int .i64 sn1, .int .i64 nesn1, V1, .bool op1, .bool em1, .int .i64 (ack1 : Int), .int .i64 (tak1 : Int), V2, V3, V4, V5] : Array Value) = CS at *
      simp [results, show (Try.f39).results = #[.cell 4 62] from rfl, asAddr, HL, Act.put]
set_option maxRecDepth 100000 in
set_option maxHeartbeats 4000000 in
theorem moveq1_any (sn0 nesn0 : Int) (q0 : List Pk) (op0 em0 : Bool) (ack0 tak0 : Nat) (sn1 nesn1 : Int) (q1 : List Pk) (op1 em1 : Bool) (ack1 tak1 : Nat) (qa qb ga gb : List Pk) (lost : Bool) (x : Pm) (m : Nat) (w : World) (V0 V1 V2 V3 V4 V5 : Value) (l0 l1 l2 l3 l4 l5 : List Pm) (hmw : m ≤ w.heap.size)
    (HX : EnAt w m ⟨⟨sn0, nesn0, q0, op0, em0, ack0, tak0⟩, ⟨sn1, nesn1, q1, op1, em1, ack1, tak1⟩, qa, qb, ga, gb⟩ V0 V1 V2 V3 V4 V5 l0 l1 l2 l3 l4 l5) (hb0 : l0.length ≤ 100000 ∧ l1.length ≤ 100000) (hb2 : l2.length ≤ 100000 ∧ l3.length ≤ 100000) (hpp : Older m w x) :
    Calls Try.prog 39 #[.agg #[.int .i64 sn0, .int .i64 nesn0, V0, .bool op0, .bool em0, .int .i64 (ack0 : Int), .int .i64 (tak0 : Int), .int .i64 sn1, .int .i64 nesn1, V1, .bool op1, .bool em1, .int .i64 (ack1 : Int), .int .i64 (tak1 : Int), V2, V3, V4, V5], .agg #[.int .i64 1, .bool lost, .int .i64 x.k, .slice x.A x.v.length x.c]] w fun e w' => Moved w w' e m (moveR ⟨⟨sn0, nesn0, q0, op0, em0, ack0, tak0⟩, ⟨sn1, nesn1, q1, op1, em1, ack1, tak1⟩, qa, qb, ga, gb⟩ 1 lost x.p) := by
  obtain ⟨iE, hi, hz, hs, hb, hc0⟩ := info_parts2 info_pk rfl
  have oV0 : V0.oneCell' = true := qq_one HX.all.q0
  have oV1 : V1.oneCell' = true := qq_one HX.all.q1
  have oV2 : V2.oneCell' = true := rr_one HX.all.r2
  have oV3 : V3.oneCell' = true := rr_one HX.all.r3
  have oV4 : V4.oneCell' = true := rr_one HX.all.r4
  have oV5 : V5.oneCell' = true := rr_one HX.all.r5
  have BX : Below m w (((w.alloc (.cells #[.int .i64 sn0, .int .i64 nesn0, V0, .bool op0, .bool em0, .int .i64 (ack0 : Int), .int .i64 (tak0 : Int), .int .i64 sn1, .int .i64 nesn1, V1, .bool op1, .bool em1, .int .i64 (ack1 : Int), .int .i64 (tak1 : Int), V2, V3, V4, V5] 62)).alloc (.cells #[.int .i64 1, .bool lost, .int .i64 x.k, .slice x.A x.v.length x.c] 65)).alloc (.cells #[.int .i64 0, .int .i64 0, .slice none 0 0, .bool false, .bool false, .int .i64 0, .int .i64 0, .int .i64 0, .int .i64 0, .slice none 0 0, .bool false, .bool false, .int .i64 0, .int .i64 0, .slice none 0 0, .slice none 0 0, .slice none 0 0, .slice none 0 0] 62)) := (((Below.refl _ _).alloc hmw _).alloc (by simp; omega) _).alloc (by simp; omega) _
  have K2 : Blk (((w.alloc (.cells #[.int .i64 sn0, .int .i64 nesn0, V0, .bool op0, .bool em0, .int .i64 (ack0 : Int), .int .i64 (tak0 : Int), .int .i64 sn1, .int .i64 nesn1, V1, .bool op1, .bool em1, .int .i64 (ack1 : Int), .int .i64 (tak1 : Int), V2, V3, V4, V5] 62)).alloc (.cells #[.int .i64 1, .bool lost, .int .i64 x.k, .slice x.A x.v.length x.c] 65)).alloc (.cells #[.int .i64 0, .int .i64 0, .slice none 0 0, .bool false, .bool false, .int .i64 0, .int .i64 0, .int .i64 0, .int .i64 0, .slice none 0 0, .bool false, .bool false, .int .i64 0, .int .i64 0, .slice none 0 0, .slice none 0 0, .slice none 0 0, .slice none 0 0] 62)) (w.heap.size) 62 #[.int .i64 sn0, .int .i64 nesn0, V0, .bool op0, .bool em0, .int .i64 (ack0 : Int), .int .i64 (tak0 : Int), .int .i64 sn1, .int .i64 nesn1, V1, .bool op1, .bool em1, .int .i64 (ack1 : Int), .int .i64 (tak1 : Int), V2, V3, V4, V5] := ((Blk.fresh w 62 #[.int .i64 sn0, .int .i64 nesn0, V0, .bool op0, .bool em0, .int .i64 (ack0 : Int), .int .i64 (tak0 : Int), .int .i64 sn1, .int .i64 nesn1, V1, .bool op1, .bool em1, .int .i64 (ack1 : Int), .int .i64 (tak1 : Int), V2, V3, V4, V5]).alloc _).alloc _
  have K3 : Blk (((w.alloc (.cells #[.int .i64 sn0, .int .i64 nesn0, V0, .bool op0, .bool em0, .int .i64 (ack0 : Int), .int .i64 (tak0 : Int), .int .i64 sn1, .int .i64 nesn1, V1, .bool op1, .bool em1, .int .i64 (ack1 : Int), .int .i64 (tak1 : Int), V2, V3, V4, V5] 62)).alloc (.cells #[.int .i64 1, .bool lost, .int .i64 x.k, .slice x.A x.v.length x.c] 65)).alloc (.cells #[.int .i64 0, .int .i64 0, .slice none 0 0, .bool false, .bool false, .int .i64 0, .int .i64 0, .int .i64 0, .int .i64 0, .slice none 0 0, .bool false, .bool false, .int .i64 0, .int .i64 0, .slice none 0 0, .slice none 0 0, .slice none 0 0, .slice none 0 0] 62)) (w.heap.size + 1) 65 #[.int .i64 1, .bool lost, .int .i64 x.k, .slice x.A x.v.length x.c] := (Av.Blk.next).alloc _
  have K4 : Blk (((w.alloc (.cells #[.int .i64 sn0, .int .i64 nesn0, V0, .bool op0, .bool em0, .int .i64 (ack0 : Int), .int .i64 (tak0 : Int), .int .i64 sn1, .int .i64 nesn1, V1, .bool op1, .bool em1, .int .i64 (ack1 : Int), .int .i64 (tak1 : Int), V2, V3, V4, V5] 62)).alloc (.cells #[.int .i64 1, .bool lost, .int .i64 x.k, .slice x.A x.v.length x.c] 65)).alloc (.cells #[.int .i64 0, .int .i64 0, .slice none 0 0, .bool false, .bool false, .int .i64 0, .int .i64 0, .int .i64 0, .int .i64 0, .slice none 0 0, .bool false, .bool false, .int .i64 0, .int .i64 0, .slice none 0 0, .slice none 0 0, .slice none 0 0, .slice none 0 0] 62)) (w.heap.size + 2) 62 #[.int .i64 0, .int .i64 0, .slice none 0 0, .bool false, .bool false, .int .i64 0, .int .i64 0, .int .i64 0, .int .i64 0, .slice none 0 0, .bool false, .bool false, .int .i64 0, .int .i64 0, .slice none 0 0, .slice none 0 0, .slice none 0 0, .slice none 0 0] := by
    have := Blk.fresh ((w.alloc (.cells #[.int .i64 sn0, .int .i64 nesn0, V0, .bool op0, .bool em0, .int .i64 (ack0 : Int), .int .i64 (tak0 : Int), .int .i64 sn1, .int .i64 nesn1, V1, .bool op1, .bool em1, .int .i64 (ack1 : Int), .int .i64 (tak1 : Int), V2, V3, V4, V5] 62)).alloc (.cells #[.int .i64 1, .bool lost, .int .i64 x.k, .slice x.A x.v.length x.c] 65)) 62 #[.int .i64 0, .int .i64 0, .slice none 0 0, .bool false, .bool false, .int .i64 0, .int .i64 0, .int .i64 0, .int .i64 0, .slice none 0 0, .bool false, .bool false, .int .i64 0, .int .i64 0, .slice none 0 0, .slice none 0 0, .slice none 0 0, .slice none 0 0]
    simpa using this
  have HA : All (((w.alloc (.cells #[.int .i64 sn0, .int .i64 nesn0, V0, .bool op0, .bool em0, .int .i64 (ack0 : Int), .int .i64 (tak0 : Int), .int .i64 sn1, .int .i64 nesn1, V1, .bool op1, .bool em1, .int .i64 (ack1 : Int), .int .i64 (tak1 : Int), V2, V3, V4, V5] 62)).alloc (.cells #[.int .i64 1, .bool lost, .int .i64 x.k, .slice x.A x.v.length x.c] 65)).alloc (.cells #[.int .i64 0, .int .i64 0, .slice none 0 0, .bool false, .bool false, .int .i64 0, .int .i64 0, .int .i64 0, .int .i64 0, .slice none 0 0, .bool false, .bool false, .int .i64 0, .int .i64 0, .slice none 0 0, .slice none 0 0, .slice none 0 0, .slice none 0 0] 62)) m m V0 V1 V2 V3 V4 V5 l0 l1 l2 l3 l4 l5 := HX.all.below ((((Below.refl _ _).alloc (Nat.le_refl _) _).alloc (by simp) _).alloc (by simp; omega) _)
  have HL : Hid (∀ X, Below m w X → Calls Try.prog 27 #[.agg #[.int .i64 x.k, .slice x.A x.v.length x.c]] X fun e w' => ∃ A c, e = .returned (.agg #[.int .i64 x.k, .slice A x.v.length c]) ∧ PP w' 0 ⟨x.k, A, c, x.v⟩ ∧ Below X.heap.size X w') := Lib.hid fun X b => lcopy_any x X (PP.of_old hpp b).gp
  obtain ⟨⟨⟨sn', nesn', q', op', em', ack', tak'⟩, E⟩, hr⟩ : ∃ r, queueR ⟨sn1, nesn1, q1, op1, em1, ack1, tak1⟩ x.p = r := ⟨_, rfl⟩
  have HQ : Hid (∀ X A5 c5, All X m m V0 V1 V2 V3 V4 V5 l0 l1 l2 l3 l4 l5 → PP X 0 ⟨x.k, A5, c5, x.v⟩ → Calls Try.prog 28 #[.agg #[.int .i64 sn1, .int .i64 nesn1, V1, .bool op1, .bool em1, .int .i64 (ack1 : Int), .int .i64 (tak1 : Int)], .agg #[.int .i64 x.k, .slice A5 x.v.length c5]] X fun e X' => ∃ V' l', e = .returned (.tuple #[.agg #[.int .i64 sn', .int .i64 nesn', V', .bool op', .bool em', .int .i64 (ack' : Int), .int .i64 (tak' : Int)], .int .i64 E]) ∧ QQ X' X.heap.size 0 V' l' ∧ Hid (l'.map Pm.p = q') ∧ Below X.heap.size X X') := Lib.hid fun X A5 c5 ha hy => by
    have := queue_any ⟨sn1, nesn1, q1, op1, em1, ack1, tak1⟩ V1 l1 ⟨x.k, A5, c5, x.v⟩ X (by omega) ha.q1.qi HX.e1 hy.gp
    rw [show Pm.p ⟨x.k, A5, c5, x.v⟩ = x.p from rfl, hr] at this
    exact this.mono fun e w' ⟨V', l', he, h1, h2, h3⟩ => ⟨V', l', he, h1, Lib.hid h2, h3⟩
  have HOy : Hid (E = 0 → moveR ⟨⟨sn0, nesn0, q0, op0, em0, ack0, tak0⟩, ⟨sn1, nesn1, q1, op1, em1, ack1, tak1⟩, qa, qb, ga, gb⟩ 1 lost x.p = ⟨⟨sn0, nesn0, q0, op0, em0, ack0, tak0⟩, ⟨sn', nesn', q', op', em', ack', tak'⟩, qa, qb ++ [x.p], ga, gb⟩) := Lib.hid fun h => by
    subst h
    unfold moveR
    simp [hr]
  have HOn : Hid (E ≠ 0 → moveR ⟨⟨sn0, nesn0, q0, op0, em0, ack0, tak0⟩, ⟨sn1, nesn1, q1, op1, em1, ack1, tak1⟩, qa, qb, ga, gb⟩ 1 lost x.p = ⟨⟨sn0, nesn0, q0, op0, em0, ack0, tak0⟩, ⟨sn', nesn', q', op', em', ack', tak'⟩, qa, qb, ga, gb⟩) := Lib.hid fun h => by
    unfold moveR
    simp [hr, h]
  clear hr
  go_enter Try.func39, Try.ntmps39
  go_upto_region 1 with (fail)
  generalize ((w.alloc (.cells #[.int .i64 sn0, .int .i64 nesn0, V0, .bool op0, .bool em0, .int .i64 (ack0 : Int), .int .i64 (tak0 : Int), .int .i64 sn1, .int .i64 nesn1, V1, .bool op1, .bool em1, .int .i64 (ack1 : Int), .int .i64 (tak1 : Int), V2, V3, V4, V5] 62)).alloc (.cells #[.int .i64 1, .bool lost, .int .i64 x.k, .slice x.A x.v.length x.c] 65)).alloc (.cells #[.int .i64 0, .int .i64 0, .slice none 0 0, .bool false, .bool false, .int .i64 0, .int .i64 0, .int .i64 0, .int .i64 0, .slice none 0 0, .bool false, .bool false, .int .i64 0, .int .i64 0, .slice none 0 0, .slice none 0 0, .slice none 0 0, .slice none 0 0] 62) = W0 at *
  have q0 := K3.cell 0
  go_upto_region 2 with (fail)
  clear q0
  go_cut [5, 6] from 23 to 34 (fun s5 s6 wx => ∃ g5 V' l', s5 = .pointer (some ⟨g5, 0, none⟩) ∧ s6 = .int .i64 E ∧ w.heap.size + 3 ≤ g5 ∧ V'.oneCell' = true ∧ Hid (l'.map Pm.p = q') ∧ Blk wx (w.heap.size) 62 #[.int .i64 sn0, .int .i64 nesn0, V0, .bool op0, .bool em0, .int .i64 (ack0 : Int), .int .i64 (tak0 : Int), .int .i64 sn1, .int .i64 nesn1, V1, .bool op1, .bool em1, .int .i64 (ack1 : Int), .int .i64 (tak1 : Int), V2, V3, V4, V5] ∧ Blk wx (w.heap.size + 1) 65 #[.int .i64 1, .bool lost, .int .i64 x.k, .slice x.A x.v.length x.c] ∧ Blk wx (w.heap.size + 2) 62 #[.int .i64 0, .int .i64 0, .slice none 0 0, .bool false, .bool false, .int .i64 0, .int .i64 0, .int .i64 0, .int .i64 0, .slice none 0 0, .bool false, .bool false, .int .i64 0, .int .i64 0, .slice none 0 0, .slice none 0 0, .slice none 0 0, .slice none 0 0] ∧ Blk wx g5 43 #[.int .i64 sn', .int .i64 nesn', V', .bool op', .bool em', .int .i64 (ack' : Int), .int .i64 (tak' : Int)] ∧ All wx m m V0 V' V2 V3 V4 V5 l0 l' l2 l3 l4 l5 ∧ Below m w wx)
  case first =>
    have K2' : Blk W0.drew (w.heap.size) 62 #[.int .i64 sn0, .int .i64 nesn0, V0, .bool op0, .bool em0, .int .i64 (ack0 : Int), .int .i64 (tak0 : Int), .int .i64 sn1, .int .i64 nesn1, V1, .bool op1, .bool em1, .int .i64 (ack1 : Int), .int .i64 (tak1 : Int), V2, V3, V4, V5] := Mem.Blk.drew K2
    have K3' : Blk W0.drew (w.heap.size + 1) 65 #[.int .i64 1, .bool lost, .int .i64 x.k, .slice x.A x.v.length x.c] := Mem.Blk.drew K3
    have K4' : Blk W0.drew (w.heap.size + 2) 62 #[.int .i64 0, .int .i64 0, .slice none 0 0, .bool false, .bool false, .int .i64 0, .int .i64 0, .int .i64 0, .int .i64 0, .slice none 0 0, .bool false, .bool false, .int .i64 0, .int .i64 0, .slice none 0 0, .slice none 0 0, .slice none 0 0, .slice none 0 0] := Mem.Blk.drew K4
    refine wp_region_held_drew (S := (fun w' => Blk w' (w.heap.size + 1) 65 #[.int .i64 1, .bool lost, .int .i64 x.k, .slice x.A x.v.length x.c] ∧ Blk w' (w.heap.size) 62 #[.int .i64 sn0, .int .i64 nesn0, V0, .bool op0, .bool em0, .int .i64 (ack0 : Int), .int .i64 (tak0 : Int), .int .i64 sn1, .int .i64 nesn1, V1, .bool op1, .bool em1, .int .i64 (ack1 : Int), .int .i64 (tak1 : Int), V2, V3, V4, V5])) (by kernel_rfl) ?_ (fun hHeld => ?_)
    · exact ⟨K3', K2'⟩
    replace K2 := K2'
    clear K2'
    replace K3 := K3'
    clear K3'
    replace K4 := K4'
    clear K4'
    replace BX : Below m w W0.drew := BX.drew
    replace HA := (show All W0.drew m m V0 V1 V2 V3 V4 V5 l0 l1 l2 l3 l4 l5 from HA.below ((Below.refl W0.heap.size W0).drew))
    generalize W0.drew = X0 at *
    refine wpAnyH_take (i := 0) (v := .pointer (some ⟨w.heap.size + 1, 0, none⟩)) rfl (by kernel_rfl) (by kernel_rfl) (by kernel_rfl) (fun _ _ _ h => h) (Or.inl ⟨by first | rfl | go_simp, by intro w9 hSw; (try dsimp only at hSw); go_simp⟩) (by assumption) ?_
    simp only [List.getElem_toArray, List.getElem_cons_zero, List.getElem_cons_succ, Act.put, List.setIfInBounds_toArray, List.set_cons_zero, List.set_cons_succ]
    refine wpAnyH_take (i := 1) (v := .int .i64 1) rfl (by kernel_rfl) (by kernel_rfl) (by kernel_rfl) (fun _ _ _ h => h) (Or.inl ⟨by first | rfl | go_simp, by intro w9 hSw; (try dsimp only at hSw); have c9 := hSw.1.cell 0; clear hSw; go_simp⟩) (by assumption) ?_
    simp only [List.getElem_toArray, List.getElem_cons_zero, List.getElem_cons_succ, Act.put, List.setIfInBounds_toArray, List.set_cons_zero, List.set_cons_succ]
    refine wpAnyH_take (i := 2) (v := .pointer (some ⟨w.heap.size, 0, none⟩)) rfl (by kernel_rfl) (by kernel_rfl) (by kernel_rfl) (fun _ _ _ h => h) (Or.inl ⟨by first | rfl | go_simp, by intro w9 hSw; (try dsimp only at hSw); go_simp⟩) (by assumption) ?_
    simp only [List.getElem_toArray, List.getElem_cons_zero, List.getElem_cons_succ, Act.put, List.setIfInBounds_toArray, List.set_cons_zero, List.set_cons_succ]
    refine wpAnyH_take (i := 3) (v := .pointer (some ⟨w.heap.size, 7, none⟩)) rfl (by kernel_rfl) (by kernel_rfl) (by kernel_rfl) (fun _ _ _ h => h) (Or.inl ⟨by first | rfl | go_simp, by intro w9 hSw; (try dsimp only at hSw); go_simp⟩) (by assumption) ?_
    simp only [List.getElem_toArray, List.getElem_cons_zero, List.getElem_cons_succ, Act.put, List.setIfInBounds_toArray, List.set_cons_zero, List.set_cons_succ]
    refine wpAnyH_take (i := 4) (v := .agg #[.int .i64 sn1, .int .i64 nesn1, V1, .bool op1, .bool em1, .int .i64 (ack1 : Int), .int .i64 (tak1 : Int)]) rfl (by kernel_rfl) (by kernel_rfl) (by kernel_rfl) (fun _ _ _ h => h) (Av.yields_part (by first | rfl | go_simp) _ _ rfl (w.heap.size) 7 rfl #[.int .i64 sn1, .int .i64 nesn1, V1, .bool op1, .bool em1, .int .i64 (ack1 : Int), .int .i64 (tak1 : Int)] _ 62 #[.int .i64 sn0, .int .i64 nesn0, V0, .bool op0, .bool em0, .int .i64 (ack0 : Int), .int .i64 (tak0 : Int), .int .i64 sn1, .int .i64 nesn1, V1, .bool op1, .bool em1, .int .i64 (ack1 : Int), .int .i64 (tak1 : Int), V2, V3, V4, V5] (fun w9 hSw => hSw.2) rfl Try.underlying43 rfl (by kernel_rfl)) (by assumption) ?_
    simp only [List.getElem_toArray, List.getElem_cons_zero, List.getElem_cons_succ, Act.put, List.setIfInBounds_toArray, List.set_cons_zero, List.set_cons_succ]
    refine wpAnyH_take (i := 5) (v := .pointer (some ⟨w.heap.size + 1, 2, none⟩)) rfl (by kernel_rfl) (by kernel_rfl) (by kernel_rfl) (fun _ _ _ h => h) (Or.inl ⟨by first | rfl | go_simp, by intro w9 hSw; (try dsimp only at hSw); go_simp⟩) (by assumption) ?_
    simp only [List.getElem_toArray, List.getElem_cons_zero, List.getElem_cons_succ, Act.put, List.setIfInBounds_toArray, List.set_cons_zero, List.set_cons_succ]
    refine wpAnyH_take (i := 6) (v := .agg #[.int .i64 x.k, .slice x.A x.v.length x.c]) rfl (by kernel_rfl) (by kernel_rfl) (by kernel_rfl) (fun _ _ _ h => h) (Av.yields_part (by first | rfl | go_simp) _ _ rfl (w.heap.size + 1) 2 rfl #[.int .i64 x.k, .slice x.A x.v.length x.c] _ 65 #[.int .i64 1, .bool lost, .int .i64 x.k, .slice x.A x.v.length x.c] (fun w9 hSw => hSw.1) rfl Try.underlying24 rfl (by kernel_rfl)) (by assumption) ?_
    simp only [List.getElem_toArray, List.getElem_cons_zero, List.getElem_cons_succ, Act.put, List.setIfInBounds_toArray, List.set_cons_zero, List.set_cons_succ]
    refine wpAnyH_ready (rs := [7, 12]) (by kernel_rfl) (by simp) ?_
    refine AllReadyH.cons rfl (fun K hK => ?_) (AllReadyH.cons rfl (fun K hK => ?_) (AllReadyH.nil))
    · skip
      go_simp
      refine (HL.out X0 BX).mono ?_
      rintro e X1 ⟨A5, c5, rfl, HY, b9⟩
      replace K2 := K2.below b9 K2.lt
      replace K3 := K3.below b9 K3.lt
      replace K4 := K4.below b9 K4.lt
      replace BX := thenBm hmw BX b9
      replace HA := HA.below b9
      clear b9
      refine hK.out _ _ ⟨K3, K2⟩ (fun hHeld => ?_)
      clear hK K
      try simp only [List.getElem_toArray, List.getElem_cons_zero, List.getElem_cons_succ, Act.put, List.setIfInBounds_toArray, List.set_cons_zero, List.set_cons_succ]
      refine wpAnyH_ready (rs := [8, 12]) (by kernel_rfl) (by simp) ?_
      refine AllReadyH.cons rfl (fun K hK => ?_) (AllReadyH.cons rfl (fun K hK => ?_) (AllReadyH.nil))
      · skip
        go_simp
        refine (HQ.out X1 A5 c5 HA HY).mono ?_
        rintro e X2 ⟨V', l', rfl, hq', hl', b9⟩
        replace HA := HA.set1 (show m ≤ X1.heap.size by have := BX.size; omega) b9 hq'
        have oV' : V'.oneCell' = true := qq_one hq'
        clear hq' HY
        replace K2 := K2.below b9 K2.lt
        replace K3 := K3.below b9 K3.lt
        replace K4 := K4.below b9 K4.lt
        replace BX := thenBm hmw BX b9
        clear b9
        refine hK.out _ _ ⟨K3, K2⟩ (fun hHeld => ?_)
        clear hK K
        try simp only [List.getElem_toArray, List.getElem_cons_zero, List.getElem_cons_succ, Act.put, List.setIfInBounds_toArray, List.set_cons_zero, List.set_cons_succ]
        refine wpAnyH_take (i := 9) (v := .tuple #[.agg #[.int .i64 sn', .int .i64 nesn', V', .bool op', .bool em', .int .i64 (ack' : Int), .int .i64 (tak' : Int)], .int .i64 E]) rfl (by kernel_rfl) (by kernel_rfl) (by kernel_rfl) (fun _ _ _ h => h) (Or.inl ⟨by first | rfl | go_simp, by intro w9 hSw; (try dsimp only at hSw); go_simp⟩) (by assumption) ?_
        simp only [List.getElem_toArray, List.getElem_cons_zero, List.getElem_cons_succ, Act.put, List.setIfInBounds_toArray, List.set_cons_zero, List.set_cons_succ]
        refine wpAnyH_take (i := 10) (v := .agg #[.int .i64 sn', .int .i64 nesn', V', .bool op', .bool em', .int .i64 (ack' : Int), .int .i64 (tak' : Int)]) rfl (by kernel_rfl) (by kernel_rfl) (by kernel_rfl) (fun _ _ _ h => h) (Or.inl ⟨by first | rfl | go_simp, by intro w9 hSw; (try dsimp only at hSw); go_simp⟩) (by assumption) ?_
        simp only [List.getElem_toArray, List.getElem_cons_zero, List.getElem_cons_succ, Act.put, List.setIfInBounds_toArray, List.set_cons_zero, List.set_cons_succ]
        refine wpAnyH_take (i := 11) (v := .int .i64 E) rfl (by kernel_rfl) (by kernel_rfl) (by kernel_rfl) (fun _ _ _ h => h) (Or.inl ⟨by first | rfl | go_simp, by intro w9 hSw; (try dsimp only at hSw); go_simp⟩) (by assumption) ?_
        simp only [List.getElem_toArray, List.getElem_cons_zero, List.getElem_cons_succ, Act.put, List.setIfInBounds_toArray, List.set_cons_zero, List.set_cons_succ]
        refine wpAnyH_ready (rs := [12]) (by kernel_rfl) (by simp) ?_
        refine AllReadyH.cons rfl (fun K hK => ?_) (AllReadyH.nil)
        go_simp
        have b9 := (Below.refl X2.heap.size X2).alloc (Nat.le_refl _) (.cells #[.int .i64 0, .int .i64 0, .slice none 0 0, .bool false, .bool false, .int .i64 0, .int .i64 0] 43)
        have K5 := Blk.fresh X2 43 #[.int .i64 0, .int .i64 0, .slice none 0 0, .bool false, .bool false, .int .i64 0, .int .i64 0]
        have hg5 : w.heap.size + 3 ≤ X2.heap.size := K4.lt
        generalize X2.alloc (.cells #[.int .i64 0, .int .i64 0, .slice none 0 0, .bool false, .bool false, .int .i64 0, .int .i64 0] 43) = X3 at *
        replace K2 := K2.below b9 K2.lt
        replace K3 := K3.below b9 K3.lt
        replace K4 := K4.below b9 K4.lt
        replace BX := thenBm hmw BX b9
        replace HA := HA.below b9
        clear b9
        refine hK.out _ _ ⟨K3, K2⟩ (fun hHeld => ?_)
        clear hK K
        try simp only [List.getElem_toArray, List.getElem_cons_zero, List.getElem_cons_succ, Act.put, List.setIfInBounds_toArray, List.set_cons_zero, List.set_cons_succ]
        refine wpAnyH_ready (rs := [13]) (by kernel_rfl) (by simp) ?_
        refine AllReadyH.cons rfl (fun K hK => ?_) (AllReadyH.nil)
        have H9 : (#[.int .i64 sn', .int .i64 nesn', V', .bool op', .bool em', .int .i64 (ack' : Int), .int .i64 (tak' : Int)] : Array Value).all (·.oneCell') = true := by rw [← Array.all_toList]; simp only [List.all_cons, List.all_nil, oV', Bool.and_true, Bool.and_self]; rfl
        refine Av.step_store_row rfl 43 (.tmp 5) (.tmp 33) rfl (X2.heap.size) #[.int .i64 sn', .int .i64 nesn', V', .bool op', .bool em', .int .i64 (ack' : Int), .int .i64 (tak' : Int)] rfl rfl 43 _ K5 (by kernel_rfl) rfl H9 ?_
        replace HA := HA.step (stp_row K5 #[.int .i64 sn', .int .i64 nesn', V', .bool op', .bool em', .int .i64 (ack' : Int), .int .i64 (tak' : Int)]) (by decide) (by decide) (by omega)
        replace K2 : Blk (X3.setRow (X2.heap.size) #[.int .i64 sn', .int .i64 nesn', V', .bool op', .bool em', .int .i64 (ack' : Int), .int .i64 (tak' : Int)]) (w.heap.size) 62 #[.int .i64 sn0, .int .i64 nesn0, V0, .bool op0, .bool em0, .int .i64 (ack0 : Int), .int .i64 (tak0 : Int), .int .i64 sn1, .int .i64 nesn1, V1, .bool op1, .bool em1, .int .i64 (ack1 : Int), .int .i64 (tak1 : Int), V2, V3, V4, V5] := Av.bother_row K2 (by omega)
        replace K3 : Blk (X3.setRow (X2.heap.size) #[.int .i64 sn', .int .i64 nesn', V', .bool op', .bool em', .int .i64 (ack' : Int), .int .i64 (tak' : Int)]) (w.heap.size + 1) 65 #[.int .i64 1, .bool lost, .int .i64 x.k, .slice x.A x.v.length x.c] := Av.bother_row K3 (by omega)
        replace K4 : Blk (X3.setRow (X2.heap.size) #[.int .i64 sn', .int .i64 nesn', V', .bool op', .bool em', .int .i64 (ack' : Int), .int .i64 (tak' : Int)]) (w.heap.size + 2) 62 #[.int .i64 0, .int .i64 0, .slice none 0 0, .bool false, .bool false, .int .i64 0, .int .i64 0, .int .i64 0, .int .i64 0, .slice none 0 0, .bool false, .bool false, .int .i64 0, .int .i64 0, .slice none 0 0, .slice none 0 0, .slice none 0 0, .slice none 0 0] := Av.bother_row K4 (by omega)
        replace K5 : Blk (X3.setRow (X2.heap.size) #[.int .i64 sn', .int .i64 nesn', V', .bool op', .bool em', .int .i64 (ack' : Int), .int .i64 (tak' : Int)]) (X2.heap.size) 43 #[.int .i64 sn', .int .i64 nesn', V', .bool op', .bool em', .int .i64 (ack' : Int), .int .i64 (tak' : Int)] := Av.bset_row K5
        replace BX : Below m w (X3.setRow (X2.heap.size) #[.int .i64 sn', .int .i64 nesn', V', .bool op', .bool em', .int .i64 (ack' : Int), .int .i64 (tak' : Int)]) := below_setRow BX (by omega) _
        clear H9
        generalize X3.setRow (X2.heap.size) #[.int .i64 sn', .int .i64 nesn', V', .bool op', .bool em', .int .i64 (ack' : Int), .int .i64 (tak' : Int)] = X4 at *
        refine hK.out _ _ ⟨K3, K2⟩ (fun hHeld => ?_)
        clear hK K
        try simp only [List.getElem_toArray, List.getElem_cons_zero, List.getElem_cons_succ, Act.put, List.setIfInBounds_toArray, List.set_cons_zero, List.set_cons_succ]
        refine wpAnyH_take (i := 14) (v := .int .i64 E) rfl (by kernel_rfl) (by kernel_rfl) (by kernel_rfl) (fun _ _ _ h => h) (Or.inl ⟨by first | rfl | go_simp, by intro w9 hSw; (try dsimp only at hSw); go_simp⟩) (by assumption) ?_
        simp only [List.getElem_toArray, List.getElem_cons_zero, List.getElem_cons_succ, Act.put, List.setIfInBounds_toArray, List.set_cons_zero, List.set_cons_succ]
        refine wpAnyH_done (by kernel_rfl) ?_ _
        clear hHeld
        go_wp2_with fail
        go_meet
        exact ⟨X2.heap.size, V', l', rfl, rfl, hg5, oV', hl', K2, K3, K4, K5, HA, BX⟩
      · skip
        go_simp
        have b9 := (Below.refl X1.heap.size X1).alloc (Nat.le_refl _) (.cells #[.int .i64 0, .int .i64 0, .slice none 0 0, .bool false, .bool false, .int .i64 0, .int .i64 0] 43)
        have K5 := Blk.fresh X1 43 #[.int .i64 0, .int .i64 0, .slice none 0 0, .bool false, .bool false, .int .i64 0, .int .i64 0]
        have hg5 : w.heap.size + 3 ≤ X1.heap.size := K4.lt
        generalize X1.alloc (.cells #[.int .i64 0, .int .i64 0, .slice none 0 0, .bool false, .bool false, .int .i64 0, .int .i64 0] 43) = X5 at *
        replace K2 := K2.below b9 K2.lt
        replace K3 := K3.below b9 K3.lt
        replace K4 := K4.below b9 K4.lt
        replace BX := thenBm hmw BX b9
        replace HA := HA.below b9
        replace HY := HY.below b9
        clear b9
        refine hK.out _ _ ⟨K3, K2⟩ (fun hHeld => ?_)
        clear hK K
        try simp only [List.getElem_toArray, List.getElem_cons_zero, List.getElem_cons_succ, Act.put, List.setIfInBounds_toArray, List.set_cons_zero, List.set_cons_succ]
        refine wpAnyH_ready (rs := [8]) (by kernel_rfl) (by simp) ?_
        refine AllReadyH.cons rfl (fun K hK => ?_) (AllReadyH.nil)
        go_simp
        refine (HQ.out X5 A5 c5 HA HY).mono ?_
        rintro e X6 ⟨V', l', rfl, hq', hl', b9⟩
        replace HA := HA.set1 (show m ≤ X5.heap.size by have := BX.size; omega) b9 hq'
        have oV' : V'.oneCell' = true := qq_one hq'
        clear hq' HY
        replace K2 := K2.below b9 K2.lt
        replace K3 := K3.below b9 K3.lt
        replace K4 := K4.below b9 K4.lt
        replace K5 := K5.below b9 K5.lt
        replace BX := thenBm hmw BX b9
        clear b9
        refine hK.out _ _ ⟨K3, K2⟩ (fun hHeld => ?_)
        clear hK K
        try simp only [List.getElem_toArray, List.getElem_cons_zero, List.getElem_cons_succ, Act.put, List.setIfInBounds_toArray, List.set_cons_zero, List.set_cons_succ]
        refine wpAnyH_take (i := 9) (v := .tuple #[.agg #[.int .i64 sn', .int .i64 nesn', V', .bool op', .bool em', .int .i64 (ack' : Int), .int .i64 (tak' : Int)], .int .i64 E]) rfl (by kernel_rfl) (by kernel_rfl) (by kernel_rfl) (fun _ _ _ h => h) (Or.inl ⟨by first | rfl | go_simp, by intro w9 hSw; (try dsimp only at hSw); go_simp⟩) (by assumption) ?_
        simp only [List.getElem_toArray, List.getElem_cons_zero, List.getElem_cons_succ, Act.put, List.setIfInBounds_toArray, List.set_cons_zero, List.set_cons_succ]
        refine wpAnyH_take (i := 10) (v := .agg #[.int .i64 sn', .int .i64 nesn', V', .bool op', .bool em', .int .i64 (ack' : Int), .int .i64 (tak' : Int)]) rfl (by kernel_rfl) (by kernel_rfl) (by kernel_rfl) (fun _ _ _ h => h) (Or.inl ⟨by first | rfl | go_simp, by intro w9 hSw; (try dsimp only at hSw); go_simp⟩) (by assumption) ?_
        simp only [List.getElem_toArray, List.getElem_cons_zero, List.getElem_cons_succ, Act.put, List.setIfInBounds_toArray, List.set_cons_zero, List.set_cons_succ]
        refine wpAnyH_take (i := 11) (v := .int .i64 E) rfl (by kernel_rfl) (by kernel_rfl) (by kernel_rfl) (fun _ _ _ h => h) (Or.inl ⟨by first | rfl | go_simp, by intro w9 hSw; (try dsimp only at hSw); go_simp⟩) (by assumption) ?_
        simp only [List.getElem_toArray, List.getElem_cons_zero, List.getElem_cons_succ, Act.put, List.setIfInBounds_toArray, List.set_cons_zero, List.set_cons_succ]
        refine wpAnyH_ready (rs := [13]) (by kernel_rfl) (by simp) ?_
        refine AllReadyH.cons rfl (fun K hK => ?_) (AllReadyH.nil)
        have H9 : (#[.int .i64 sn', .int .i64 nesn', V', .bool op', .bool em', .int .i64 (ack' : Int), .int .i64 (tak' : Int)] : Array Value).all (·.oneCell') = true := by rw [← Array.all_toList]; simp only [List.all_cons, List.all_nil, oV', Bool.and_true, Bool.and_self]; rfl
        refine Av.step_store_row rfl 43 (.tmp 5) (.tmp 33) rfl (X1.heap.size) #[.int .i64 sn', .int .i64 nesn', V', .bool op', .bool em', .int .i64 (ack' : Int), .int .i64 (tak' : Int)] rfl rfl 43 _ K5 (by kernel_rfl) rfl H9 ?_
        replace HA := HA.step (stp_row K5 #[.int .i64 sn', .int .i64 nesn', V', .bool op', .bool em', .int .i64 (ack' : Int), .int .i64 (tak' : Int)]) (by decide) (by decide) (by omega)
        replace K2 : Blk (X6.setRow (X1.heap.size) #[.int .i64 sn', .int .i64 nesn', V', .bool op', .bool em', .int .i64 (ack' : Int), .int .i64 (tak' : Int)]) (w.heap.size) 62 #[.int .i64 sn0, .int .i64 nesn0, V0, .bool op0, .bool em0, .int .i64 (ack0 : Int), .int .i64 (tak0 : Int), .int .i64 sn1, .int .i64 nesn1, V1, .bool op1, .bool em1, .int .i64 (ack1 : Int), .int .i64 (tak1 : Int), V2, V3, V4, V5] := Av.bother_row K2 (by omega)
        replace K3 : Blk (X6.setRow (X1.heap.size) #[.int .i64 sn', .int .i64 nesn', V', .bool op', .bool em', .int .i64 (ack' : Int), .int .i64 (tak' : Int)]) (w.heap.size + 1) 65 #[.int .i64 1, .bool lost, .int .i64 x.k, .slice x.A x.v.length x.c] := Av.bother_row K3 (by omega)
        replace K4 : Blk (X6.setRow (X1.heap.size) #[.int .i64 sn', .int .i64 nesn', V', .bool op', .bool em', .int .i64 (ack' : Int), .int .i64 (tak' : Int)]) (w.heap.size + 2) 62 #[.int .i64 0, .int .i64 0, .slice none 0 0, .bool false, .bool false, .int .i64 0, .int .i64 0, .int .i64 0, .int .i64 0, .slice none 0 0, .bool false, .bool false, .int .i64 0, .int .i64 0, .slice none 0 0, .slice none 0 0, .slice none 0 0, .slice none 0 0] := Av.bother_row K4 (by omega)
        replace K5 : Blk (X6.setRow (X1.heap.size) #[.int .i64 sn', .int .i64 nesn', V', .bool op', .bool em', .int .i64 (ack' : Int), .int .i64 (tak' : Int)]) (X1.heap.size) 43 #[.int .i64 sn', .int .i64 nesn', V', .bool op', .bool em', .int .i64 (ack' : Int), .int .i64 (tak' : Int)] := Av.bset_row K5
        replace BX : Below m w (X6.setRow (X1.heap.size) #[.int .i64 sn', .int .i64 nesn', V', .bool op', .bool em', .int .i64 (ack' : Int), .int .i64 (tak' : Int)]) := below_setRow BX (by omega) _
        clear H9
        generalize X6.setRow (X1.heap.size) #[.int .i64 sn', .int .i64 nesn', V', .bool op', .bool em', .int .i64 (ack' : Int), .int .i64 (tak' : Int)] = X7 at *
        refine hK.out _ _ ⟨K3, K2⟩ (fun hHeld => ?_)
        clear hK K
        try simp only [List.getElem_toArray, List.getElem_cons_zero, List.getElem_cons_succ, Act.put, List.setIfInBounds_toArray, List.set_cons_zero, List.set_cons_succ]
        refine wpAnyH_take (i := 14) (v := .int .i64 E) rfl (by kernel_rfl) (by kernel_rfl) (by kernel_rfl) (fun _ _ _ h => h) (Or.inl ⟨by first | rfl | go_simp, by intro w9 hSw; (try dsimp only at hSw); go_simp⟩) (by assumption) ?_
        simp only [List.getElem_toArray, List.getElem_cons_zero, List.getElem_cons_succ, Act.put, List.setIfInBounds_toArray, List.set_cons_zero, List.set_cons_succ]
        refine wpAnyH_done (by kernel_rfl) ?_ _
        clear hHeld
        go_wp2_with fail
        go_meet
        exact ⟨X1.heap.size, V', l', rfl, rfl, hg5, oV', hl', K2, K3, K4, K5, HA, BX⟩
    · skip
      go_simp
      have b9 := (Below.refl X0.heap.size X0).alloc (Nat.le_refl _) (.cells #[.int .i64 0, .int .i64 0, .slice none 0 0, .bool false, .bool false, .int .i64 0, .int .i64 0] 43)
      have K5 := Blk.fresh X0 43 #[.int .i64 0, .int .i64 0, .slice none 0 0, .bool false, .bool false, .int .i64 0, .int .i64 0]
      have hg5 : w.heap.size + 3 ≤ X0.heap.size := K4.lt
      generalize X0.alloc (.cells #[.int .i64 0, .int .i64 0, .slice none 0 0, .bool false, .bool false, .int .i64 0, .int .i64 0] 43) = X8 at *
      replace K2 := K2.below b9 K2.lt
      replace K3 := K3.below b9 K3.lt
      replace K4 := K4.below b9 K4.lt
      replace BX := thenBm hmw BX b9
      replace HA := HA.below b9
      clear b9
      refine hK.out _ _ ⟨K3, K2⟩ (fun hHeld => ?_)
      clear hK K
      try simp only [List.getElem_toArray, List.getElem_cons_zero, List.getElem_cons_succ, Act.put, List.setIfInBounds_toArray, List.set_cons_zero, List.set_cons_succ]
      refine wpAnyH_ready (rs := [7]) (by kernel_rfl) (by simp) ?_
      refine AllReadyH.cons rfl (fun K hK => ?_) (AllReadyH.nil)
      go_simp
      refine (HL.out X8 BX).mono ?_
      rintro e X9 ⟨A5, c5, rfl, HY, b9⟩
      replace K2 := K2.below b9 K2.lt
      replace K3 := K3.below b9 K3.lt
      replace K4 := K4.below b9 K4.lt
      replace K5 := K5.below b9 K5.lt
      replace BX := thenBm hmw BX b9
      replace HA := HA.below b9
      clear b9
      refine hK.out _ _ ⟨K3, K2⟩ (fun hHeld => ?_)
      clear hK K
      try simp only [List.getElem_toArray, List.getElem_cons_zero, List.getElem_cons_succ, Act.put, List.setIfInBounds_toArray, List.set_cons_zero, List.set_cons_succ]
      refine wpAnyH_ready (rs := [8]) (by kernel_rfl) (by simp) ?_
      refine AllReadyH.cons rfl (fun K hK => ?_) (AllReadyH.nil)
      go_simp
      refine (HQ.out X9 A5 c5 HA HY).mono ?_
      rintro e X10 ⟨V', l', rfl, hq', hl', b9⟩
      replace HA := HA.set1 (show m ≤ X9.heap.size by have := BX.size; omega) b9 hq'
      have oV' : V'.oneCell' = true := qq_one hq'
      clear hq' HY
      replace K2 := K2.below b9 K2.lt
      replace K3 := K3.below b9 K3.lt
      replace K4 := K4.below b9 K4.lt
      replace K5 := K5.below b9 K5.lt
      replace BX := thenBm hmw BX b9
      clear b9
      refine hK.out _ _ ⟨K3, K2⟩ (fun hHeld => ?_)
      clear hK K
      try simp only [List.getElem_toArray, List.getElem_cons_zero, List.getElem_cons_succ, Act.put, List.setIfInBounds_toArray, List.set_cons_zero, List.set_cons_succ]
      refine wpAnyH_take (i := 9) (v := .tuple #[.agg #[.int .i64 sn', .int .i64 nesn', V', .bool op', .bool em', .int .i64 (ack' : Int), .int .i64 (tak' : Int)], .int .i64 E]) rfl (by kernel_rfl) (by kernel_rfl) (by kernel_rfl) (fun _ _ _ h => h) (Or.inl ⟨by first | rfl | go_simp, by intro w9 hSw; (try dsimp only at hSw); go_simp⟩) (by assumption) ?_
      simp only [List.getElem_toArray, List.getElem_cons_zero, List.getElem_cons_succ, Act.put, List.setIfInBounds_toArray, List.set_cons_zero, List.set_cons_succ]
      refine wpAnyH_take (i := 10) (v := .agg #[.int .i64 sn', .int .i64 nesn', V', .bool op', .bool em', .int .i64 (ack' : Int), .int .i64 (tak' : Int)]) rfl (by kernel_rfl) (by kernel_rfl) (by kernel_rfl) (fun _ _ _ h => h) (Or.inl ⟨by first | rfl | go_simp, by intro w9 hSw; (try dsimp only at hSw); go_simp⟩) (by assumption) ?_
      simp only [List.getElem_toArray, List.getElem_cons_zero, List.getElem_cons_succ, Act.put, List.setIfInBounds_toArray, List.set_cons_zero, List.set_cons_succ]
      refine wpAnyH_take (i := 11) (v := .int .i64 E) rfl (by kernel_rfl) (by kernel_rfl) (by kernel_rfl) (fun _ _ _ h => h) (Or.inl ⟨by first | rfl | go_simp, by intro w9 hSw; (try dsimp only at hSw); go_simp⟩) (by assumption) ?_
      simp only [List.getElem_toArray, List.getElem_cons_zero, List.getElem_cons_succ, Act.put, List.setIfInBounds_toArray, List.set_cons_zero, List.set_cons_succ]
      refine wpAnyH_ready (rs := [13]) (by kernel_rfl) (by simp) ?_
      refine AllReadyH.cons rfl (fun K hK => ?_) (AllReadyH.nil)
      have H9 : (#[.int .i64 sn', .int .i64 nesn', V', .bool op', .bool em', .int .i64 (ack' : Int), .int .i64 (tak' : Int)] : Array Value).all (·.oneCell') = true := by rw [← Array.all_toList]; simp only [List.all_cons, List.all_nil, oV', Bool.and_true, Bool.and_self]; rfl
      refine Av.step_store_row rfl 43 (.tmp 5) (.tmp 33) rfl (X0.heap.size) #[.int .i64 sn', .int .i64 nesn', V', .bool op', .bool em', .int .i64 (ack' : Int), .int .i64 (tak' : Int)] rfl rfl 43 _ K5 (by kernel_rfl) rfl H9 ?_
      replace HA := HA.step (stp_row K5 #[.int .i64 sn', .int .i64 nesn', V', .bool op', .bool em', .int .i64 (ack' : Int), .int .i64 (tak' : Int)]) (by decide) (by decide) (by omega)
      replace K2 : Blk (X10.setRow (X0.heap.size) #[.int .i64 sn', .int .i64 nesn', V', .bool op', .bool em', .int .i64 (ack' : Int), .int .i64 (tak' : Int)]) (w.heap.size) 62 #[.int .i64 sn0, .int .i64 nesn0, V0, .bool op0, .bool em0, .int .i64 (ack0 : Int), .int .i64 (tak0 : Int), .int .i64 sn1, .int .i64 nesn1, V1, .bool op1, .bool em1, .int .i64 (ack1 : Int), .int .i64 (tak1 : Int), V2, V3, V4, V5] := Av.bother_row K2 (by omega)
      replace K3 : Blk (X10.setRow (X0.heap.size) #[.int .i64 sn', .int .i64 nesn', V', .bool op', .bool em', .int .i64 (ack' : Int), .int .i64 (tak' : Int)]) (w.heap.size + 1) 65 #[.int .i64 1, .bool lost, .int .i64 x.k, .slice x.A x.v.length x.c] := Av.bother_row K3 (by omega)
      replace K4 : Blk (X10.setRow (X0.heap.size) #[.int .i64 sn', .int .i64 nesn', V', .bool op', .bool em', .int .i64 (ack' : Int), .int .i64 (tak' : Int)]) (w.heap.size + 2) 62 #[.int .i64 0, .int .i64 0, .slice none 0 0, .bool false, .bool false, .int .i64 0, .int .i64 0, .int .i64 0, .int .i64 0, .slice none 0 0, .bool false, .bool false, .int .i64 0, .int .i64 0, .slice none 0 0, .slice none 0 0, .slice none 0 0, .slice none 0 0] := Av.bother_row K4 (by omega)
      replace K5 : Blk (X10.setRow (X0.heap.size) #[.int .i64 sn', .int .i64 nesn', V', .bool op', .bool em', .int .i64 (ack' : Int), .int .i64 (tak' : Int)]) (X0.heap.size) 43 #[.int .i64 sn', .int .i64 nesn', V', .bool op', .bool em', .int .i64 (ack' : Int), .int .i64 (tak' : Int)] := Av.bset_row K5
      replace BX : Below m w (X10.setRow (X0.heap.size) #[.int .i64 sn', .int .i64 nesn', V', .bool op', .bool em', .int .i64 (ack' : Int), .int .i64 (tak' : Int)]) := below_setRow BX (by omega) _
      clear H9
      generalize X10.setRow (X0.heap.size) #[.int .i64 sn', .int .i64 nesn', V', .bool op', .bool em', .int .i64 (ack' : Int), .int .i64 (tak' : Int)] = X11 at *
      refine hK.out _ _ ⟨K3, K2⟩ (fun hHeld => ?_)
      clear hK K
      try simp only [List.getElem_toArray, List.getElem_cons_zero, List.getElem_cons_succ, Act.put, List.setIfInBounds_toArray, List.set_cons_zero, List.set_cons_succ]
      refine wpAnyH_take (i := 14) (v := .int .i64 E) rfl (by kernel_rfl) (by kernel_rfl) (by kernel_rfl) (fun _ _ _ h => h) (Or.inl ⟨by first | rfl | go_simp, by intro w9 hSw; (try dsimp only at hSw); go_simp⟩) (by assumption) ?_
      simp only [List.getElem_toArray, List.getElem_cons_zero, List.getElem_cons_succ, Act.put, List.setIfInBounds_toArray, List.set_cons_zero, List.set_cons_succ]
      refine wpAnyH_done (by kernel_rfl) ?_ _
      clear hHeld
      go_wp2_with fail
      go_meet
      exact ⟨X0.heap.size, V', l', rfl, rfl, hg5, oV', hl', K2, K3, K4, K5, HA, BX⟩
  case rest =>
    obtain ⟨g5, V', l', rfl, rfl, hg5, oV', hl', K2, K3, K4, K5, HA, BX⟩ := hcut
    have q0 := K3.cell 0
    have H1 : (#[.int .i64 sn', .int .i64 nesn', V', .bool op', .bool em', .int .i64 (ack' : Int), .int .i64 (tak' : Int)] : Array Value).all (·.oneCell') = true := by rw [← Array.all_toList]; simp only [List.all_cons, List.all_nil, oV', Bool.and_true, Bool.and_self]; rfl
    go_upto_region 4 with (first | (refine wpList_store_part rfl 43 _ _ rfl (w.heap.size) 7 #[.int .i64 sn', .int .i64 nesn', V', .bool op', .bool em', .int .i64 (ack' : Int), .int .i64 (tak' : Int)] rfl rfl 62 _ #[.int .i64 sn0, .int .i64 nesn0, V0, .bool op0, .bool em0, .int .i64 (ack0 : Int), .int .i64 (tak0 : Int), .int .i64 sn', .int .i64 nesn', V', .bool op', .bool em', .int .i64 (ack' : Int), .int .i64 (tak' : Int), V2, V3, V4, V5] K2 (by kernel_rfl) (by show 7 + 7 ≤ 18; decide) H1 rfl ?_) | (refine wpList_load_row rfl 43 (.tmp 5) rfl (g5) rfl 43 _ (0, 0) _ K5 Try.underlying43 rfl (by kernel_rfl) ?_))
    replace HA := HA.step (stp_row K2 #[.int .i64 sn0, .int .i64 nesn0, V0, .bool op0, .bool em0, .int .i64 (ack0 : Int), .int .i64 (tak0 : Int), .int .i64 sn', .int .i64 nesn', V', .bool op', .bool em', .int .i64 (ack' : Int), .int .i64 (tak' : Int), V2, V3, V4, V5]) (by decide) (by decide) (by omega)
    replace K3 := (stp_row K2 #[.int .i64 sn0, .int .i64 nesn0, V0, .bool op0, .bool em0, .int .i64 (ack0 : Int), .int .i64 (tak0 : Int), .int .i64 sn', .int .i64 nesn', V', .bool op', .bool em', .int .i64 (ack' : Int), .int .i64 (tak' : Int), V2, V3, V4, V5]).blk_ne K3 (by omega)
    replace K4 := (stp_row K2 #[.int .i64 sn0, .int .i64 nesn0, V0, .bool op0, .bool em0, .int .i64 (ack0 : Int), .int .i64 (tak0 : Int), .int .i64 sn', .int .i64 nesn', V', .bool op', .bool em', .int .i64 (ack' : Int), .int .i64 (tak' : Int), V2, V3, V4, V5]).blk_ne K4 (by omega)
    replace BX : Below m w (wc.setRow (w.heap.size) #[.int .i64 sn0, .int .i64 nesn0, V0, .bool op0, .bool em0, .int .i64 (ack0 : Int), .int .i64 (tak0 : Int), .int .i64 sn', .int .i64 nesn', V', .bool op', .bool em', .int .i64 (ack' : Int), .int .i64 (tak' : Int), V2, V3, V4, V5]) := below_setRow BX (by omega) _
    replace K2 := Av.bset_row (cs' := #[.int .i64 sn0, .int .i64 nesn0, V0, .bool op0, .bool em0, .int .i64 (ack0 : Int), .int .i64 (tak0 : Int), .int .i64 sn', .int .i64 nesn', V', .bool op', .bool em', .int .i64 (ack' : Int), .int .i64 (tak' : Int), V2, V3, V4, V5]) K2
    clear K5 q0 H1
    generalize wc.setRow (w.heap.size) #[.int .i64 sn0, .int .i64 nesn0, V0, .bool op0, .bool em0, .int .i64 (ack0 : Int), .int .i64 (tak0 : Int), .int .i64 sn', .int .i64 nesn', V', .bool op', .bool em', .int .i64 (ack' : Int), .int .i64 (tak' : Int), V2, V3, V4, V5] = Y1 at *
    have q0 := K3.cell 0
    by_cases hE : E = 0
    · have HO := Lib.hid (HOy.out hE)
      subst hE
      go_upto_region 5 with (fail)
      clear q0
      have K2' : Blk Y1.drew (w.heap.size) 62 #[.int .i64 sn0, .int .i64 nesn0, V0, .bool op0, .bool em0, .int .i64 (ack0 : Int), .int .i64 (tak0 : Int), .int .i64 sn', .int .i64 nesn', V', .bool op', .bool em', .int .i64 (ack' : Int), .int .i64 (tak' : Int), V2, V3, V4, V5] := Mem.Blk.drew K2
      have K3' : Blk Y1.drew (w.heap.size + 1) 65 #[.int .i64 1, .bool lost, .int .i64 x.k, .slice x.A x.v.length x.c] := Mem.Blk.drew K3
      have K4' : Blk Y1.drew (w.heap.size + 2) 62 #[.int .i64 0, .int .i64 0, .slice none 0 0, .bool false, .bool false, .int .i64 0, .int .i64 0, .int .i64 0, .int .i64 0, .slice none 0 0, .bool false, .bool false, .int .i64 0, .int .i64 0, .slice none 0 0, .slice none 0 0, .slice none 0 0, .slice none 0 0] := Mem.Blk.drew K4
      refine wp_region_held_drew (S := (fun w' => Blk w' (w.heap.size + 1) 65 #[.int .i64 1, .bool lost, .int .i64 x.k, .slice x.A x.v.length x.c])) (by kernel_rfl) ?_ (fun hHeld => ?_)
      · exact K3'
      replace K2 := K2'
      clear K2'
      replace K3 := K3'
      clear K3'
      replace K4 := K4'
      clear K4'
      replace BX : Below m w Y1.drew := BX.drew
      replace HA := (show All Y1.drew m m V0 V' V2 V3 V4 V5 l0 l' l2 l3 l4 l5 from HA.below ((Below.refl Y1.heap.size Y1).drew))
      generalize Y1.drew = U0 at *
      refine wpAnyH_take (i := 0) (v := .pointer (some ⟨w.heap.size + 1, 0, none⟩)) rfl (by kernel_rfl) (by kernel_rfl) (by kernel_rfl) (fun _ _ _ h => h) (Or.inl ⟨by first | rfl | go_simp, by intro w9 hSw; (try dsimp only at hSw); go_simp⟩) (by assumption) ?_
      simp only [List.getElem_toArray, List.getElem_cons_zero, List.getElem_cons_succ, Act.put, List.setIfInBounds_toArray, List.set_cons_zero, List.set_cons_succ]
      refine wpAnyH_take (i := 1) (v := .int .i64 1) rfl (by kernel_rfl) (by kernel_rfl) (by kernel_rfl) (fun _ _ _ h => h) (Or.inl ⟨by first | rfl | go_simp, by intro w9 hSw; (try dsimp only at hSw); have c9 := hSw.cell 0; clear hSw; go_simp⟩) (by assumption) ?_
      simp only [List.getElem_toArray, List.getElem_cons_zero, List.getElem_cons_succ, Act.put, List.setIfInBounds_toArray, List.set_cons_zero, List.set_cons_succ]
      refine wpAnyH_take (i := 2) (v := .pointer (some ⟨w.heap.size + 1, 0, none⟩)) rfl (by kernel_rfl) (by kernel_rfl) (by kernel_rfl) (fun _ _ _ h => h) (Or.inl ⟨by first | rfl | go_simp, by intro w9 hSw; (try dsimp only at hSw); go_simp⟩) (by assumption) ?_
      simp only [List.getElem_toArray, List.getElem_cons_zero, List.getElem_cons_succ, Act.put, List.setIfInBounds_toArray, List.set_cons_zero, List.set_cons_succ]
      refine wpAnyH_take (i := 3) (v := .int .i64 1) rfl (by kernel_rfl) (by kernel_rfl) (by kernel_rfl) (fun _ _ _ h => h) (Or.inl ⟨by first | rfl | go_simp, by intro w9 hSw; (try dsimp only at hSw); have c9 := hSw.cell 0; clear hSw; go_simp⟩) (by assumption) ?_
      simp only [List.getElem_toArray, List.getElem_cons_zero, List.getElem_cons_succ, Act.put, List.setIfInBounds_toArray, List.set_cons_zero, List.set_cons_succ]
      refine wpAnyH_take (i := 4) (v := .pointer (some ⟨w.heap.size, 14, none⟩)) rfl (by kernel_rfl) (by kernel_rfl) (by kernel_rfl) (fun _ _ _ h => h) (Or.inl ⟨by first | rfl | go_simp, by intro w9 hSw; (try dsimp only at hSw); go_simp⟩) (by assumption) ?_
      simp only [List.getElem_toArray, List.getElem_cons_zero, List.getElem_cons_succ, Act.put, List.setIfInBounds_toArray, List.set_cons_zero, List.set_cons_succ]
      refine wpAnyH_take (i := 5) (v := .pointer (some ⟨w.heap.size, 15, none⟩)) rfl (by kernel_rfl) (by kernel_rfl) (by kernel_rfl) (fun _ _ _ h => h) (Or.inl ⟨by first | rfl | go_simp, by intro w9 hSw; (try dsimp only at hSw); go_simp⟩) (by assumption) ?_
      simp only [List.getElem_toArray, List.getElem_cons_zero, List.getElem_cons_succ, Act.put, List.setIfInBounds_toArray, List.set_cons_zero, List.set_cons_succ]
      refine wpAnyH_take (i := 7) (v := .pointer (some ⟨w.heap.size + 1, 2, none⟩)) rfl (by kernel_rfl) (by kernel_rfl) (by kernel_rfl) (fun _ _ _ h => h) (Or.inl ⟨by first | rfl | go_simp, by intro w9 hSw; (try dsimp only at hSw); go_simp⟩) (by assumption) ?_
      simp only [List.getElem_toArray, List.getElem_cons_zero, List.getElem_cons_succ, Act.put, List.setIfInBounds_toArray, List.set_cons_zero, List.set_cons_succ]
      refine wpAnyH_take (i := 8) (v := .agg #[.int .i64 x.k, .slice x.A x.v.length x.c]) rfl (by kernel_rfl) (by kernel_rfl) (by kernel_rfl) (fun _ _ _ h => h) (Av.yields_part (by first | rfl | go_simp) _ _ rfl (w.heap.size + 1) 2 rfl #[.int .i64 x.k, .slice x.A x.v.length x.c] _ 65 #[.int .i64 1, .bool lost, .int .i64 x.k, .slice x.A x.v.length x.c] (fun w9 hSw => hSw) rfl Try.underlying24 rfl (by kernel_rfl)) (by assumption) ?_
      simp only [List.getElem_toArray, List.getElem_cons_zero, List.getElem_cons_succ, Act.put, List.setIfInBounds_toArray, List.set_cons_zero, List.set_cons_succ]
      refine wpAnyH_take (i := 11) (v := .pointer (some ⟨w.heap.size, 14, none⟩)) rfl (by kernel_rfl) (by kernel_rfl) (by kernel_rfl) (fun _ _ _ h => h) (Or.inl ⟨by first | rfl | go_simp, by intro w9 hSw; (try dsimp only at hSw); go_simp⟩) (by assumption) ?_
      simp only [List.getElem_toArray, List.getElem_cons_zero, List.getElem_cons_succ, Act.put, List.setIfInBounds_toArray, List.set_cons_zero, List.set_cons_succ]
      refine wpAnyH_ready (rs := [6, 9]) (by kernel_rfl) (by simp) ?_
      refine AllReadyH.cons rfl (fun K hK => ?_) (AllReadyH.cons rfl (fun K hK => ?_) (AllReadyH.nil))
      · skip
        have c90 := K2.cell 15
        go_simp
        clear c90
        refine hK.out _ _ K3 (fun hHeld => ?_)
        clear hK K
        try simp only [List.getElem_toArray, List.getElem_cons_zero, List.getElem_cons_succ, Act.put, List.setIfInBounds_toArray, List.set_cons_zero, List.set_cons_succ]
        refine wpAnyH_ready (rs := [9]) (by kernel_rfl) (by simp) ?_
        refine AllReadyH.cons rfl (fun K hK => ?_) (AllReadyH.nil)
        go_simp
        have b9 := (Below.refl U0.heap.size U0).alloc (Nat.le_refl _) (.cells #[.int .i64 x.k, .slice x.A x.v.length x.c] 24)
        have CA := CellsAt.lit U0 [.int .i64 x.k, .slice x.A x.v.length x.c] #[.int .i64 x.k, .slice x.A x.v.length x.c] 24 rfl
        generalize U0.alloc (.cells #[.int .i64 x.k, .slice x.A x.v.length x.c] 24) = U1 at *
        replace K2 := K2.below b9 K2.lt
        replace K3 := K3.below b9 K3.lt
        replace K4 := K4.below b9 K4.lt
        replace BX := thenBm hmw BX b9
        replace HA := HA.below b9
        clear b9
        refine hK.out _ _ K3 (fun hHeld => ?_)
        clear hK K
        try simp only [List.getElem_toArray, List.getElem_cons_zero, List.getElem_cons_succ, Act.put, List.setIfInBounds_toArray, List.set_cons_zero, List.set_cons_succ]
        refine wpAnyH_ready (rs := [10]) (by kernel_rfl) (by simp) ?_
        refine AllReadyH.cons rfl (fun K hK => ?_) (AllReadyH.nil)
        refine step_append_at rfl (.tmp 48) (.tmp 51) 41 rfl m 24 iE _ 2 32 Try.underlying41 hi hz hs hb hc0 (by decide) V3 l3.length (l3.flatMap encK) rfl HA.r3.1 (U0.heap.size) 1 1 [.int .i64 x.k, .slice x.A x.v.length x.c] rfl rfl (by intro u hu; simp at hu; rcases hu with rfl | rfl <;> rfl) CA (by unfold maxLen; omega) (by omega) (by have := BX.size; omega) ?_
        intro V9 U2 own4 gr4 at4
        have oV9 : V9.oneCell' = true := by obtain ⟨A9, c9, e9⟩ := own_form own4; rw [e9]; rfl
        have KT2 := grow_blk K2 HA.r3.1 (by decide) gr4
        have KT3 := grow_blk K3 HA.r3.1 (by decide) gr4
        have KT4 := grow_blk K4 HA.r3.1 (by decide) gr4
        have BXo := BX
        replace BX := BX.grown gr4 (by have := BX.size; omega) (fun k hk => (HA.r3.lt k hk).1)
        replace HA := HA.app3 (x := x) (PP.of_old hpp BXo) (Nat.le_refl _) gr4 at4 own4
        replace K2 := KT2
        replace K3 := KT3
        replace K4 := KT4
        clear CA own4 gr4 at4 KT2 KT3 KT4 BXo
        refine hK.out _ _ K3 (fun hHeld => ?_)
        clear hK K
        try simp only [List.getElem_toArray, List.getElem_cons_zero, List.getElem_cons_succ, Act.put, List.setIfInBounds_toArray, List.set_cons_zero, List.set_cons_succ]
        refine wpAnyH_take (i := 12) (v := .pointer (some ⟨w.heap.size, 15, none⟩)) rfl (by kernel_rfl) (by kernel_rfl) (by kernel_rfl) (fun _ _ _ h => h) (Or.inl ⟨by first | rfl | go_simp, by intro w9 hSw; (try dsimp only at hSw); go_simp⟩) (by assumption) ?_
        simp only [List.getElem_toArray, List.getElem_cons_zero, List.getElem_cons_succ, Act.put, List.setIfInBounds_toArray, List.set_cons_zero, List.set_cons_succ]
        refine wpAnyH_ready (rs := [13]) (by kernel_rfl) (by simp) ?_
        refine AllReadyH.cons rfl (fun K hK => ?_) (AllReadyH.nil)
        refine Av.step_store_cell rfl _ _ _ rfl (w.heap.size) 15 (V9) rfl rfl 62 _ K2 (by show 15 < 18; decide) (by kernel_rfl) oV9 ?_
        replace HA := ((HA).step (stp_cell (i := 15) K2 (V9)) (by decide) (by decide) (by omega))
        replace K2 : Blk (U2.setCell ⟨w.heap.size, 15, none⟩ (V9)) (w.heap.size) 62 #[.int .i64 sn0, .int .i64 nesn0, V0, .bool op0, .bool em0, .int .i64 (ack0 : Int), .int .i64 (tak0 : Int), .int .i64 sn', .int .i64 nesn', V', .bool op', .bool em', .int .i64 (ack' : Int), .int .i64 (tak' : Int), V2, V9, V4, V5] := (Av.bset K2 15 (V9) rfl)
        replace K3 : Blk (U2.setCell ⟨w.heap.size, 15, none⟩ (V9)) (w.heap.size + 1) 65 #[.int .i64 1, .bool lost, .int .i64 x.k, .slice x.A x.v.length x.c] := Av.bother (K3) (by omega) _
        replace K4 : Blk (U2.setCell ⟨w.heap.size, 15, none⟩ (V9)) (w.heap.size + 2) 62 #[.int .i64 0, .int .i64 0, .slice none 0 0, .bool false, .bool false, .int .i64 0, .int .i64 0, .int .i64 0, .int .i64 0, .slice none 0 0, .bool false, .bool false, .int .i64 0, .int .i64 0, .slice none 0 0, .slice none 0 0, .slice none 0 0, .slice none 0 0] := Av.bother (K4) (by omega) _
        replace BX : Below m w (U2.setCell ⟨w.heap.size, 15, none⟩ (V9)) := (BX.setCell (p := ⟨w.heap.size, 15, none⟩) (by simp only; omega) _)
        generalize (U2.setCell ⟨w.heap.size, 15, none⟩ (V9)) = U3 at *
        refine hK.out _ _ K3 (fun hHeld => ?_)
        clear hK K
        try simp only [List.getElem_toArray, List.getElem_cons_zero, List.getElem_cons_succ, Act.put, List.setIfInBounds_toArray, List.set_cons_zero, List.set_cons_succ]
        refine wpAnyH_done (by kernel_rfl) ?_ _
        clear hHeld
        have q0 := K3.cell 0
        go_upto_region 15 with (fail)
        clear q0
        have H1 : (#[.int .i64 sn0, .int .i64 nesn0, V0, .bool op0, .bool em0, .int .i64 (ack0 : Int), .int .i64 (tak0 : Int), .int .i64 sn', .int .i64 nesn', V', .bool op', .bool em', .int .i64 (ack' : Int), .int .i64 (tak' : Int), V2, V9, V4, V5] : Array Value).all (·.oneCell') = true := by rw [← Array.all_toList]; simp only [List.all_cons, List.all_nil, oV0, oV', oV2, oV9, oV4, oV5, Bool.and_true, Bool.and_self]; rfl
        go_wp2_with (first | (refine wpList_store_row rfl 62 (.tmp 4) _ rfl (w.heap.size + 2) #[.int .i64 sn0, .int .i64 nesn0, V0, .bool op0, .bool em0, .int .i64 (ack0 : Int), .int .i64 (tak0 : Int), .int .i64 sn', .int .i64 nesn', V', .bool op', .bool em', .int .i64 (ack' : Int), .int .i64 (tak' : Int), V2, V9, V4, V5] rfl rfl 62 _ K4 (by kernel_rfl) rfl H1 ?_) | (refine wpList_load_row rfl 62 (.tmp 2) rfl (w.heap.size) rfl 62 _ (0, 0) _ K2 Try.underlying62 rfl (by kernel_rfl) ?_))
        have HF := HA.step (stp_row K4 #[.int .i64 sn0, .int .i64 nesn0, V0, .bool op0, .bool em0, .int .i64 (ack0 : Int), .int .i64 (tak0 : Int), .int .i64 sn', .int .i64 nesn', V', .bool op', .bool em', .int .i64 (ack' : Int), .int .i64 (tak' : Int), V2, V9, V4, V5]) (by decide) (by decide) (by omega)
        have KR := setRow_heap U3 (w.heap.size + 2) _ #[.int .i64 sn0, .int .i64 nesn0, V0, .bool op0, .bool em0, .int .i64 (ack0 : Int), .int .i64 (tak0 : Int), .int .i64 sn', .int .i64 nesn', V', .bool op', .bool em', .int .i64 (ack' : Int), .int .i64 (tak' : Int), V2, V9, V4, V5] 62 (0, 0) K4
        have BE : Below m w (U3.setRow (w.heap.size + 2) #[.int .i64 sn0, .int .i64 nesn0, V0, .bool op0, .bool em0, .int .i64 (ack0 : Int), .int .i64 (tak0 : Int), .int .i64 sn', .int .i64 nesn', V', .bool op', .bool em', .int .i64 (ack' : Int), .int .i64 (tak' : Int), V2, V9, V4, V5]) := below_setRow BX (by omega) #[.int .i64 sn0, .int .i64 nesn0, V0, .bool op0, .bool em0, .int .i64 (ack0 : Int), .int .i64 (tak0 : Int), .int .i64 sn', .int .i64 nesn', V', .bool op', .bool em', .int .i64 (ack' : Int), .int .i64 (tak' : Int), V2, V9, V4, V5]
        generalize U3.setRow (w.heap.size + 2) #[.int .i64 sn0, .int .i64 nesn0, V0, .bool op0, .bool em0, .int .i64 (ack0 : Int), .int .i64 (tak0 : Int), .int .i64 sn', .int .i64 nesn', V', .bool op', .bool em', .int .i64 (ack' : Int), .int .i64 (tak' : Int), V2, V9, V4, V5] = Y at *
        refine bodyPost_ret (v := .agg #[.int .i64 sn0, .int .i64 nesn0, V0, .bool op0, .bool em0, .int .i64 (ack0 : Int), .int .i64 (tak0 : Int), .int .i64 sn', .int .i64 nesn', V', .bool op', .bool em', .int .i64 (ack' : Int), .int .i64 (tak' : Int), V2, V9, V4, V5]) ?_ rfl (by rw [HO.out]; exact ⟨V0, V', V2, V9, V4, V5, l0, l', l2, (l3 ++ [x]), l4, l5, rfl, ⟨HF, HX.e0, hl'.out, HX.e2, (by rw [List.map_append, HX.e3]; rfl), HX.e4, HX.e5⟩, BE⟩)
        clear K2
        have HL := run_loadVar_row (P := Try.prog) Y (w.heap.size + 2) 62 62 #[.int .i64 sn0, .int .i64 nesn0, V0, .bool op0, .bool em0, .int .i64 (ack0 : Int), .int .i64 (tak0 : Int), .int .i64 sn', .int .i64 nesn', V', .bool op', .bool em', .int .i64 (ack' : Int), .int .i64 (tak' : Int), V2, V9, V4, V5] (0, 0) _ KR Try.underlying62 rfl (by kernel_rfl)
        generalize (#[.int .i64 sn0, .int .i64 nesn0, V0, .bool op0, .bool em0, .int .i64 (ack0 : Int), .int .i64 (tak0 : Int), .int .i64 sn', .int .i64 nesn', V', .bool op', .bool em', .int .i64 (ack' : Int), .int .i64 (tak' : Int), V2, V9, V4, V5] : Array Value) = CS at *
        simp [results, show (Try.f39).results = #[.cell 4 62] from rfl, asAddr, HL, Act.put]
      · skip
        go_simp
        have b9 := (Below.refl U0.heap.size U0).alloc (Nat.le_refl _) (.cells #[.int .i64 x.k, .slice x.A x.v.length x.c] 24)
        have CA := CellsAt.lit U0 [.int .i64 x.k, .slice x.A x.v.length x.c] #[.int .i64 x.k, .slice x.A x.v.length x.c] 24 rfl
        generalize U0.alloc (.cells #[.int .i64 x.k, .slice x.A x.v.length x.c] 24) = U4 at *
        replace K2 := K2.below b9 K2.lt
        replace K3 := K3.below b9 K3.lt
        replace K4 := K4.below b9 K4.lt
        replace BX := thenBm hmw BX b9
        replace HA := HA.below b9
        clear b9
        refine hK.out _ _ K3 (fun hHeld => ?_)
        clear hK K
        try simp only [List.getElem_toArray, List.getElem_cons_zero, List.getElem_cons_succ, Act.put, List.setIfInBounds_toArray, List.set_cons_zero, List.set_cons_succ]
        refine wpAnyH_ready (rs := [6]) (by kernel_rfl) (by simp) ?_
        refine AllReadyH.cons rfl (fun K hK => ?_) (AllReadyH.nil)
        have c90 := K2.cell 15
        go_simp
        clear c90
        refine hK.out _ _ K3 (fun hHeld => ?_)
        clear hK K
        try simp only [List.getElem_toArray, List.getElem_cons_zero, List.getElem_cons_succ, Act.put, List.setIfInBounds_toArray, List.set_cons_zero, List.set_cons_succ]
        refine wpAnyH_ready (rs := [10]) (by kernel_rfl) (by simp) ?_
        refine AllReadyH.cons rfl (fun K hK => ?_) (AllReadyH.nil)
        refine step_append_at rfl (.tmp 48) (.tmp 51) 41 rfl m 24 iE _ 2 32 Try.underlying41 hi hz hs hb hc0 (by decide) V3 l3.length (l3.flatMap encK) rfl HA.r3.1 (U0.heap.size) 1 1 [.int .i64 x.k, .slice x.A x.v.length x.c] rfl rfl (by intro u hu; simp at hu; rcases hu with rfl | rfl <;> rfl) CA (by unfold maxLen; omega) (by omega) (by have := BX.size; omega) ?_
        intro V9 U5 own4 gr4 at4
        have oV9 : V9.oneCell' = true := by obtain ⟨A9, c9, e9⟩ := own_form own4; rw [e9]; rfl
        have KT2 := grow_blk K2 HA.r3.1 (by decide) gr4
        have KT3 := grow_blk K3 HA.r3.1 (by decide) gr4
        have KT4 := grow_blk K4 HA.r3.1 (by decide) gr4
        have BXo := BX
        replace BX := BX.grown gr4 (by have := BX.size; omega) (fun k hk => (HA.r3.lt k hk).1)
        replace HA := HA.app3 (x := x) (PP.of_old hpp BXo) (Nat.le_refl _) gr4 at4 own4
        replace K2 := KT2
        replace K3 := KT3
        replace K4 := KT4
        clear CA own4 gr4 at4 KT2 KT3 KT4 BXo
        refine hK.out _ _ K3 (fun hHeld => ?_)
        clear hK K
        try simp only [List.getElem_toArray, List.getElem_cons_zero, List.getElem_cons_succ, Act.put, List.setIfInBounds_toArray, List.set_cons_zero, List.set_cons_succ]
        refine wpAnyH_take (i := 12) (v := .pointer (some ⟨w.heap.size, 15, none⟩)) rfl (by kernel_rfl) (by kernel_rfl) (by kernel_rfl) (fun _ _ _ h => h) (Or.inl ⟨by first | rfl | go_simp, by intro w9 hSw; (try dsimp only at hSw); go_simp⟩) (by assumption) ?_
        simp only [List.getElem_toArray, List.getElem_cons_zero, List.getElem_cons_succ, Act.put, List.setIfInBounds_toArray, List.set_cons_zero, List.set_cons_succ]
        refine wpAnyH_ready (rs := [13]) (by kernel_rfl) (by simp) ?_
        refine AllReadyH.cons rfl (fun K hK => ?_) (AllReadyH.nil)
        refine Av.step_store_cell rfl _ _ _ rfl (w.heap.size) 15 (V9) rfl rfl 62 _ K2 (by show 15 < 18; decide) (by kernel_rfl) oV9 ?_
        replace HA := ((HA).step (stp_cell (i := 15) K2 (V9)) (by decide) (by decide) (by omega))
        replace K2 : Blk (U5.setCell ⟨w.heap.size, 15, none⟩ (V9)) (w.heap.size) 62 #[.int .i64 sn0, .int .i64 nesn0, V0, .bool op0, .bool em0, .int .i64 (ack0 : Int), .int .i64 (tak0 : Int), .int .i64 sn', .int .i64 nesn', V', .bool op', .bool em', .int .i64 (ack' : Int), .int .i64 (tak' : Int), V2, V9, V4, V5] := (Av.bset K2 15 (V9) rfl)
        replace K3 : Blk (U5.setCell ⟨w.heap.size, 15, none⟩ (V9)) (w.heap.size + 1) 65 #[.int .i64 1, .bool lost, .int .i64 x.k, .slice x.A x.v.length x.c] := Av.bother (K3) (by omega) _
        replace K4 : Blk (U5.setCell ⟨w.heap.size, 15, none⟩ (V9)) (w.heap.size + 2) 62 #[.int .i64 0, .int .i64 0, .slice none 0 0, .bool false, .bool false, .int .i64 0, .int .i64 0, .int .i64 0, .int .i64 0, .slice none 0 0, .bool false, .bool false, .int .i64 0, .int .i64 0, .slice none 0 0, .slice none 0 0, .slice none 0 0, .slice none 0 0] := Av.bother (K4) (by omega) _
        replace BX : Below m w (U5.setCell ⟨w.heap.size, 15, none⟩ (V9)) := (BX.setCell (p := ⟨w.heap.size, 15, none⟩) (by simp only; omega) _)
        generalize (U5.setCell ⟨w.heap.size, 15, none⟩ (V9)) = U6 at *
        refine hK.out _ _ K3 (fun hHeld => ?_)
        clear hK K
        try simp only [List.getElem_toArray, List.getElem_cons_zero, List.getElem_cons_succ, Act.put, List.setIfInBounds_toArray, List.set_cons_zero, List.set_cons_succ]
        refine wpAnyH_done (by kernel_rfl) ?_ _
        clear hHeld
        have q0 := K3.cell 0
        go_upto_region 15 with (fail)
        clear q0
        have H1 : (#[.int .i64 sn0, .int .i64 nesn0, V0, .bool op0, .bool em0, .int .i64 (ack0 : Int), .int .i64 (tak0 : Int), .int .i64 sn', .int .i64 nesn', V', .bool op', .bool em', .int .i64 (ack' : Int), .int .i64 (tak' : Int), V2, V9, V4, V5] : Array Value).all (·.oneCell') = true := by rw [← Array.all_toList]; simp only [List.all_cons, List.all_nil, oV0, oV', oV2, oV9, oV4, oV5, Bool.and_true, Bool.and_self]; rfl
        go_wp2_with (first | (refine wpList_store_row rfl 62 (.tmp 4) _ rfl (w.heap.size + 2) #[.int .i64 sn0, .int .i64 nesn0, V0, .bool op0, .bool em0, .int .i64 (ack0 : Int), .int .i64 (tak0 : Int), .int .i64 sn', .int .i64 nesn', V', .bool op', .bool em', .int .i64 (ack' : Int), .int .i64 (tak' : Int), V2, V9, V4, V5] rfl rfl 62 _ K4 (by kernel_rfl) rfl H1 ?_) | (refine wpList_load_row rfl 62 (.tmp 2) rfl (w.heap.size) rfl 62 _ (0, 0) _ K2 Try.underlying62 rfl (by kernel_rfl) ?_))
        have HF := HA.step (stp_row K4 #[.int .i64 sn0, .int .i64 nesn0, V0, .bool op0, .bool em0, .int .i64 (ack0 : Int), .int .i64 (tak0 : Int), .int .i64 sn', .int .i64 nesn', V', .bool op', .bool em', .int .i64 (ack' : Int), .int .i64 (tak' : Int), V2, V9, V4, V5]) (by decide) (by decide) (by omega)
        have KR := setRow_heap U6 (w.heap.size + 2) _ #[.int .i64 sn0, .int .i64 nesn0, V0, .bool op0, .bool em0, .int .i64 (ack0 : Int), .int .i64 (tak0 : Int), .int .i64 sn', .int .i64 nesn', V', .bool op', .bool em', .int .i64 (ack' : Int), .int .i64 (tak' : Int), V2, V9, V4, V5] 62 (0, 0) K4
        have BE : Below m w (U6.setRow (w.heap.size + 2) #[.int .i64 sn0, .int .i64 nesn0, V0, .bool op0, .bool em0, .int .i64 (ack0 : Int), .int .i64 (tak0 : Int), .int .i64 sn', .int .i64 nesn', V', .bool op', .bool em', .int .i64 (ack' : Int), .int .i64 (tak' : Int), V2, V9, V4, V5]) := below_setRow BX (by omega) #[.int .i64 sn0, .int .i64 nesn0, V0, .bool op0, .bool em0, .int .i64 (ack0 : Int), .int .i64 (tak0 : Int), .int .i64 sn', .int .i64 nesn', V', .bool op', .bool em', .int .i64 (ack' : Int), .int .i64 (tak' : Int), V2, V9, V4, V5]
        generalize U6.setRow (w.heap.size + 2) #[.int .i64 sn0, .int .i64 nesn0, V0, .bool op0, .bool em0, .int .i64 (ack0 : Int), .int .i64 (tak0 : Int), .int .i64 sn', .int .i64 nesn', V', .bool op', .bool em', .int .i64 (ack' : Int), .int .i64 (tak' : Int), V2, V9, V4, V5] = Y at *
        refine bodyPost_ret (v := .agg #[.int .i64 sn0, .int .i64 nesn0, V0, .bool op0, .bool em0, .int .i64 (ack0 : Int), .int .i64 (tak0 : Int), .int .i64 sn', .int .i64 nesn', V', .bool op', .bool em', .int .i64 (ack' : Int), .int .i64 (tak' : Int), V2, V9, V4, V5]) ?_ rfl (by rw [HO.out]; exact ⟨V0, V', V2, V9, V4, V5, l0, l', l2, (l3 ++ [x]), l4, l5, rfl, ⟨HF, HX.e0, hl'.out, HX.e2, (by rw [List.map_append, HX.e3]; rfl), HX.e4, HX.e5⟩, BE⟩)
        clear K2
        have HL := run_loadVar_row (P := Try.prog) Y (w.heap.size + 2) 62 62 #[.int .i64 sn0, .int .i64 nesn0, V0, .bool op0, .bool em0, .int .i64 (ack0 : Int), .int .i64 (tak0 : Int), .int .i64 sn', .int .i64 nesn', V', .bool op', .bool em', .int .i64 (ack' : Int), .int .i64 (tak' : Int), V2, V9, V4, V5] (0, 0) _ KR Try.underlying62 rfl (by kernel_rfl)
        generalize (#[.int .i64 sn0, .int .i64 nesn0, V0, .bool op0, .bool em0, .int .i64 (ack0 : Int), .int .i64 (tak0 : Int), .int .i64 sn', .int .i64 nesn', V', .bool op', .bool em', .int .i64 (ack' : Int), .int .i64 (tak' : Int), V2, V9, V4, V5] : Array Value) = CS at *
        simp [results, show (Try.f39).results = #[.cell 4 62] from rfl, asAddr, HL, Act.put]
    · have HO := Lib.hid (HOn.out hE)
      have gE : (E == 0) = false := by simpa using hE
      clear hE
      go_upto_region 15 with (fail)
      clear q0
      have H1 : (#[.int .i64 sn0, .int .i64 nesn0, V0, .bool op0, .bool em0, .int .i64 (ack0 : Int), .int .i64 (tak0 : Int), .int .i64 sn', .int .i64 nesn', V', .bool op', .bool em', .int .i64 (ack' : Int), .int .i64 (tak' : Int), V2, V3, V4, V5] : Array Value).all (·.oneCell') = true := by rw [← Array.all_toList]; simp only [List.all_cons, List.all_nil, oV0, oV', oV2, oV3, oV4, oV5, Bool.and_true, Bool.and_self]; rfl
      go_wp2_with (first | (refine wpList_store_row rfl 62 (.tmp 4) _ rfl (w.heap.size + 2) #[.int .i64 sn0, .int .i64 nesn0, V0, .bool op0, .bool em0, .int .i64 (ack0 : Int), .int .i64 (tak0 : Int), .int .i64 sn', .int .i64 nesn', V', .bool op', .bool em', .int .i64 (ack' : Int), .int .i64 (tak' : Int), V2, V3, V4, V5] rfl rfl 62 _ K4 (by kernel_rfl) rfl H1 ?_) | (refine wpList_load_row rfl 62 (.tmp 2) rfl (w.heap.size) rfl 62 _ (0, 0) _ K2 Try.underlying62 rfl (by kernel_rfl) ?_))
      have HF := HA.step (stp_row K4 #[.int .i64 sn0, .int .i64 nesn0, V0, .bool op0, .bool em0, .int .i64 (ack0 : Int), .int .i64 (tak0 : Int), .int .i64 sn', .int .i64 nesn', V', .bool op', .bool em', .int .i64 (ack' : Int), .int .i64 (tak' : Int), V2, V3, V4, V5]) (by decide) (by decide) (by omega)
      have KR := setRow_heap Y1 (w.heap.size + 2) _ #[.int .i64 sn0, .int .i64 nesn0, V0, .bool op0, .bool em0, .int .i64 (ack0 : Int), .int .i64 (tak0 : Int), .int .i64 sn', .int .i64 nesn', V', .bool op', .bool em', .int .i64 (ack' : Int), .int .i64 (tak' : Int), V2, V3, V4, V5] 62 (0, 0) K4
      have BE : Below m w (Y1.setRow (w.heap.size + 2) #[.int .i64 sn0, .int .i64 nesn0, V0, .bool op0, .bool em0, .int .i64 (ack0 : Int), .int .i64 (tak0 : Int), .int .i64 sn', .int .i64 nesn', V', .bool op', .bool em', .int .i64 (ack' : Int), .int .i64 (tak' : Int), V2, V3, V4, V5]) := below_setRow BX (by omega) #[.int .i64 sn0, .int .i64 nesn0, V0, .bool op0, .bool em0, .int .i64 (ack0 : Int), .int .i64 (tak0 : Int), .int .i64 sn', .int .i64 nesn', V', .bool op', .bool em', .int .i64 (ack' : Int), .int .i64 (tak' : Int), V2, V3, V4, V5]
      generalize Y1.setRow (w.heap.size + 2) #[.int .i64 sn0, .int .i64 nesn0, V0, .bool op0, .bool em0, .int .i64 (ack0 : Int), .int .i64 (tak0 : Int), .int .i64 sn', .int .i64 nesn', V', .bool op', .bool em', .int .i64 (ack' : Int), .int .i64 (tak' : Int), V2, V3, V4, V5] = Y at *
      refine bodyPost_ret (v := .agg #[.int .i64 sn0, .int .i64 nesn0, V0, .bool op0, .bool em0, .int .i64 (ack0 : Int), .int .i64 (tak0 : Int), .int .i64 sn', .int .i64 nesn', V', .bool op', .bool em', .int .i64 (ack' : Int), .int .i64 (tak' : Int), V2, V3, V4, V5]) ?_ rfl (by rw [HO.out]; exact ⟨V0, V', V2, V3, V4, V5, l0, l', l2, l3, l4, l5, rfl, ⟨HF, HX.e0, hl'.out, HX.e2, HX.e3, HX.e4, HX.e5⟩, BE⟩)
      clear K2
      have HL := run_loadVar_row (P := Try.prog) Y (w.heap.size + 2) 62 62 #[.int .i64 sn0, .int .i64 nesn0, V0, .bool op0, .bool em0, .int .i64 (ack0 : Int), .int .i64 (tak0 : Int), .int .i64 sn', .int .i64 nesn', V', .bool op', .bool em', .int .i64 (ack' : Int), .int .i64 (tak' : Int), V2, V3, V4, V5] (0, 0) _ KR Try.underlying62 rfl (by kernel_rfl)
      generalize (#[.int .i64 sn0, .int .i64 nesn0, V0, .bool op0, .bool em0, .int .i64 (ack0 : Int), .int .i64 (tak0 : Int), .int .i64 sn', .int .i64 nesn', V', .bool op', .bool em', .int .i64 (ack' : Int), .int .i64 (tak' : Int), V2, V3, V4, V5] : Array Value) = CS at *
      simp [results, show (Try.f39).results = #[.cell 4 62] from rfl, asAddr, HL, Act.put]
end Go.Proofs.Ytbnfjielnamepaa.Arq
