/- Acknowledgement: two sides, side 0 sends: contracts over the program. -/
import Derived.Test.YtbnfjielnamepaaArqMvQ
set_option linter.unusedVariables false
set_option linter.unusedSimpArgs false
namespace Go.Proofs.Ytbnfjielnamepaa.Arq
open Go.RowKit Mem Oct Rw Av Dp
open Base (thenB)

set_option maxRecDepth 100000 in
set_option maxHeartbeats 4000000 in
theorem moves0_any (sn0 nesn0 : Int) (q0 : List Pk) (op0 em0 : Bool) (ack0 tak0 : Nat) (sn1 nesn1 : Int) (q1 : List Pk) (op1 em1 : Bool) (ack1 tak1 : Nat) (qa qb ga gb : List Pk) (x : Pm) (m : Nat) (w : World) (V0 V1 V2 V3 V4 V5 : Value) (l0 l1 l2 l3 l4 l5 : List Pm) (hmw : m ≤ w.heap.size)
    (HX : EnAt w m ⟨⟨sn0, nesn0, q0, op0, em0, ack0, tak0⟩, ⟨sn1, nesn1, q1, op1, em1, ack1, tak1⟩, qa, qb, ga, gb⟩ V0 V1 V2 V3 V4 V5 l0 l1 l2 l3 l4 l5) (hb0 : l0.length ≤ 100000 ∧ l1.length ≤ 100000) (hb4 : l4.length ≤ 100000 ∧ l5.length ≤ 100000) (hbt : Bit ⟨sn1, nesn1, q1, op1, em1, ack1, tak1⟩) (hct : ack1 ≤ 1000 ∧ tak1 ≤ 1000) (hck : chk (pduR (openR ⟨sn0, nesn0, q0, op0, em0, ack0, tak0⟩)) = 0) :
    Calls Try.prog 39 #[.agg #[.int .i64 sn0, .int .i64 nesn0, V0, .bool op0, .bool em0, .int .i64 (ack0 : Int), .int .i64 (tak0 : Int), .int .i64 sn1, .int .i64 nesn1, V1, .bool op1, .bool em1, .int .i64 (ack1 : Int), .int .i64 (tak1 : Int), V2, V3, V4, V5], .agg #[.int .i64 2, .bool false, .int .i64 x.k, .slice x.A x.v.length x.c]] w fun e w' => Moved w w' e m (moveR ⟨⟨sn0, nesn0, q0, op0, em0, ack0, tak0⟩, ⟨sn1, nesn1, q1, op1, em1, ack1, tak1⟩, qa, qb, ga, gb⟩ 2 false x.p) := by
  obtain ⟨iE, hi, hz0, hs, hb, hc0⟩ := info_parts2 info_pk rfl
  have oV0 : V0.oneCell' = true := qq_one HX.all.q0
  have oV1 : V1.oneCell' = true := qq_one HX.all.q1
  have oV2 : V2.oneCell' = true := rr_one HX.all.r2
  have oV3 : V3.oneCell' = true := rr_one HX.all.r3
  have oV4 : V4.oneCell' = true := rr_one HX.all.r4
  have oV5 : V5.oneCell' = true := rr_one HX.all.r5
  have BX : Below m w (((w.alloc (.cells #[.int .i64 sn0, .int .i64 nesn0, V0, .bool op0, .bool em0, .int .i64 (ack0 : Int), .int .i64 (tak0 : Int), .int .i64 sn1, .int .i64 nesn1, V1, .bool op1, .bool em1, .int .i64 (ack1 : Int), .int .i64 (tak1 : Int), V2, V3, V4, V5] 62)).alloc (.cells #[.int .i64 2, .bool false, .int .i64 x.k, .slice x.A x.v.length x.c] 65)).alloc (.cells #[.int .i64 0, .int .i64 0, .slice none 0 0, .bool false, .bool false, .int .i64 0, .int .i64 0, .int .i64 0, .int .i64 0, .slice none 0 0, .bool false, .bool false, .int .i64 0, .int .i64 0, .slice none 0 0, .slice none 0 0, .slice none 0 0, .slice none 0 0] 62)) := (((Below.refl _ _).alloc hmw _).alloc (by simp; omega) _).alloc (by simp; omega) _
  have K2 : Blk (((w.alloc (.cells #[.int .i64 sn0, .int .i64 nesn0, V0, .bool op0, .bool em0, .int .i64 (ack0 : Int), .int .i64 (tak0 : Int), .int .i64 sn1, .int .i64 nesn1, V1, .bool op1, .bool em1, .int .i64 (ack1 : Int), .int .i64 (tak1 : Int), V2, V3, V4, V5] 62)).alloc (.cells #[.int .i64 2, .bool false, .int .i64 x.k, .slice x.A x.v.length x.c] 65)).alloc (.cells #[.int .i64 0, .int .i64 0, .slice none 0 0, .bool false, .bool false, .int .i64 0, .int .i64 0, .int .i64 0, .int .i64 0, .slice none 0 0, .bool false, .bool false, .int .i64 0, .int .i64 0, .slice none 0 0, .slice none 0 0, .slice none 0 0, .slice none 0 0] 62)) (w.heap.size) 62 #[.int .i64 sn0, .int .i64 nesn0, V0, .bool op0, .bool em0, .int .i64 (ack0 : Int), .int .i64 (tak0 : Int), .int .i64 sn1, .int .i64 nesn1, V1, .bool op1, .bool em1, .int .i64 (ack1 : Int), .int .i64 (tak1 : Int), V2, V3, V4, V5] := ((Blk.fresh w 62 #[.int .i64 sn0, .int .i64 nesn0, V0, .bool op0, .bool em0, .int .i64 (ack0 : Int), .int .i64 (tak0 : Int), .int .i64 sn1, .int .i64 nesn1, V1, .bool op1, .bool em1, .int .i64 (ack1 : Int), .int .i64 (tak1 : Int), V2, V3, V4, V5]).alloc _).alloc _
  have K3 : Blk (((w.alloc (.cells #[.int .i64 sn0, .int .i64 nesn0, V0, .bool op0, .bool em0, .int .i64 (ack0 : Int), .int .i64 (tak0 : Int), .int .i64 sn1, .int .i64 nesn1, V1, .bool op1, .bool em1, .int .i64 (ack1 : Int), .int .i64 (tak1 : Int), V2, V3, V4, V5] 62)).alloc (.cells #[.int .i64 2, .bool false, .int .i64 x.k, .slice x.A x.v.length x.c] 65)).alloc (.cells #[.int .i64 0, .int .i64 0, .slice none 0 0, .bool false, .bool false, .int .i64 0, .int .i64 0, .int .i64 0, .int .i64 0, .slice none 0 0, .bool false, .bool false, .int .i64 0, .int .i64 0, .slice none 0 0, .slice none 0 0, .slice none 0 0, .slice none 0 0] 62)) (w.heap.size + 1) 65 #[.int .i64 2, .bool false, .int .i64 x.k, .slice x.A x.v.length x.c] := (Av.Blk.next).alloc _
  have K4 : Blk (((w.alloc (.cells #[.int .i64 sn0, .int .i64 nesn0, V0, .bool op0, .bool em0, .int .i64 (ack0 : Int), .int .i64 (tak0 : Int), .int .i64 sn1, .int .i64 nesn1, V1, .bool op1, .bool em1, .int .i64 (ack1 : Int), .int .i64 (tak1 : Int), V2, V3, V4, V5] 62)).alloc (.cells #[.int .i64 2, .bool false, .int .i64 x.k, .slice x.A x.v.length x.c] 65)).alloc (.cells #[.int .i64 0, .int .i64 0, .slice none 0 0, .bool false, .bool false, .int .i64 0, .int .i64 0, .int .i64 0, .int .i64 0, .slice none 0 0, .bool false, .bool false, .int .i64 0, .int .i64 0, .slice none 0 0, .slice none 0 0, .slice none 0 0, .slice none 0 0] 62)) (w.heap.size + 2) 62 #[.int .i64 0, .int .i64 0, .slice none 0 0, .bool false, .bool false, .int .i64 0, .int .i64 0, .int .i64 0, .int .i64 0, .slice none 0 0, .bool false, .bool false, .int .i64 0, .int .i64 0, .slice none 0 0, .slice none 0 0, .slice none 0 0, .slice none 0 0] := by
    have := Blk.fresh ((w.alloc (.cells #[.int .i64 sn0, .int .i64 nesn0, V0, .bool op0, .bool em0, .int .i64 (ack0 : Int), .int .i64 (tak0 : Int), .int .i64 sn1, .int .i64 nesn1, V1, .bool op1, .bool em1, .int .i64 (ack1 : Int), .int .i64 (tak1 : Int), V2, V3, V4, V5] 62)).alloc (.cells #[.int .i64 2, .bool false, .int .i64 x.k, .slice x.A x.v.length x.c] 65)) 62 #[.int .i64 0, .int .i64 0, .slice none 0 0, .bool false, .bool false, .int .i64 0, .int .i64 0, .int .i64 0, .int .i64 0, .slice none 0 0, .bool false, .bool false, .int .i64 0, .int .i64 0, .slice none 0 0, .slice none 0 0, .slice none 0 0, .slice none 0 0]
    simpa using this
  have HA : All (((w.alloc (.cells #[.int .i64 sn0, .int .i64 nesn0, V0, .bool op0, .bool em0, .int .i64 (ack0 : Int), .int .i64 (tak0 : Int), .int .i64 sn1, .int .i64 nesn1, V1, .bool op1, .bool em1, .int .i64 (ack1 : Int), .int .i64 (tak1 : Int), V2, V3, V4, V5] 62)).alloc (.cells #[.int .i64 2, .bool false, .int .i64 x.k, .slice x.A x.v.length x.c] 65)).alloc (.cells #[.int .i64 0, .int .i64 0, .slice none 0 0, .bool false, .bool false, .int .i64 0, .int .i64 0, .int .i64 0, .int .i64 0, .slice none 0 0, .bool false, .bool false, .int .i64 0, .int .i64 0, .slice none 0 0, .slice none 0 0, .slice none 0 0, .slice none 0 0] 62)) m m V0 V1 V2 V3 V4 V5 l0 l1 l2 l3 l4 l5 := HX.all.below ((((Below.refl _ _).alloc (Nat.le_refl _) _).alloc (by simp) _).alloc (by simp; omega) _)
  have e00 : IntKind.i64.wrap 0 = 0 := by decide
  have e01 : IntKind.i64.wrap 1 = 1 := by decide
  have hpe := (pdu_bits (openR ⟨sn0, nesn0, q0, op0, em0, ack0, tak0⟩))
  have hon : ∃ b, openR ⟨sn0, nesn0, q0, op0, em0, ack0, tak0⟩ = b := ⟨_, rfl⟩
  obtain ⟨⟨psn, pnesn, pmd, pk⟩, hp⟩ : ∃ p, pduR (openR ⟨sn0, nesn0, q0, op0, em0, ack0, tak0⟩) = p := ⟨_, rfl⟩
  have hoq : (openR ⟨sn0, nesn0, q0, op0, em0, ack0, tak0⟩).q = q0 := by unfold openR; split <;> rfl
  obtain ⟨⟨sn', nesn', q', op', em', ack', tak'⟩, hr⟩ : ∃ b, openR ⟨sn0, nesn0, q0, op0, em0, ack0, tak0⟩ = b := ⟨_, rfl⟩
  have HS : Hid (∀ X, All X m m V0 V1 V2 V3 V4 V5 l0 l1 l2 l3 l4 l5 → Calls Try.prog 30 #[.agg #[.int .i64 sn0, .int .i64 nesn0, V0, .bool op0, .bool em0, .int .i64 (ack0 : Int), .int .i64 (tak0 : Int)]] X fun e X' => ∃ V' l' y, e = .returned (.tuple #[.agg #[.int .i64 sn', .int .i64 nesn', V', .bool op', .bool em', .int .i64 (ack' : Int), .int .i64 (tak' : Int)], .agg #[.int .i64 psn, .int .i64 pnesn, .int .i64 pmd, .int .i64 y.k, .slice y.A y.v.length y.c]]) ∧ QQ X' X.heap.size 0 V' l' ∧ Hid (l'.map Pm.p = q') ∧ Hid (y.p = pk) ∧ PP X' 0 y ∧ Below X.heap.size X X') := Lib.hid fun X ha => by
    have := send_any ⟨sn0, nesn0, q0, op0, em0, ack0, tak0⟩ V0 l0 X (by omega) ha.q0.qi HX.e0
    unfold Sent at this
    rw [hp, hr] at this
    refine this.mono fun e w' ⟨V', l', y, he, h1, h2, h3, h4, h5⟩ => ⟨V', l', y, he, h1, Lib.hid ?_, Lib.hid h3, h4, h5⟩
    rw [h2, ← hoq, hr]
  obtain ⟨⟨sn'', nesn'', q'', op'', em'', ack'', tak''⟩, hr2⟩ : ∃ b, takeS ⟨sn1, nesn1, q1, op1, em1, ack1, tak1⟩ ⟨psn, pnesn, pmd, pk⟩ = b := ⟨_, rfl⟩
  obtain ⟨F, hF⟩ : ∃ F, freshB ⟨sn1, nesn1, q1, op1, em1, ack1, tak1⟩ ⟨psn, pnesn, pmd, pk⟩ = F := ⟨_, rfl⟩
  obtain ⟨Ak, hAk⟩ : ∃ F, ackB ⟨sn1, nesn1, q1, op1, em1, ack1, tak1⟩ ⟨psn, pnesn, pmd, pk⟩ = F := ⟨_, rfl⟩
  obtain ⟨zk, hzk⟩ : ∃ z, (if F = true then pk else zeroK) = z := ⟨_, rfl⟩
  rw [hp] at hck
  have htk : takeR ⟨sn1, nesn1, q1, op1, em1, ack1, tak1⟩ ⟨psn, pnesn, pmd, pk⟩ = (⟨sn'', nesn'', q'', op'', em'', ack'', tak''⟩, zk, F, Ak) := by
    unfold takeR
    rw [if_neg (by simpa using hck), hr2, hF, hAk]
    simp only
    rw [hzk]
  have HT : Hid (∀ X (y : Pm) (U0 : Value) (k0 : List Pm), All X m m U0 V1 V2 V3 V4 V5 k0 l1 l2 l3 l4 l5 → GP X y → y.p = pk → Calls Try.prog 33 #[.agg #[.int .i64 sn1, .int .i64 nesn1, V1, .bool op1, .bool em1, .int .i64 (ack1 : Int), .int .i64 (tak1 : Int)], .agg #[.int .i64 psn, .int .i64 pnesn, .int .i64 pmd, .int .i64 y.k, .slice y.A y.v.length y.c]] X fun e X' => ∃ V'' l'' z, e = .returned (.tuple #[.agg #[.int .i64 sn'', .int .i64 nesn'', V'', .bool op'', .bool em'', .int .i64 (ack'' : Int), .int .i64 (tak'' : Int)], .agg #[.int .i64 z.k, .slice z.A z.v.length z.c], .bool F, .bool Ak]) ∧ QQ X' X.heap.size 0 V'' l'' ∧ Hid (l''.map Pm.p = q'') ∧ Hid (z.p = zk) ∧ PP X' 0 z ∧ Below X.heap.size X X') := Lib.hid fun X y U0 k0 ha hy hyp => by
    have := take_any ⟨sn1, nesn1, q1, op1, em1, ack1, tak1⟩ V1 l1 ⟨psn, pnesn, pmd, y⟩ X (by omega) hbt hct.1 hct.2 ha.q1.qi HX.e1 hy
    rw [show Dm.p ⟨psn, pnesn, pmd, y⟩ = ⟨psn, pnesn, pmd, y.p⟩ from rfl, hyp, htk] at this
    exact this.mono fun e w' ⟨V', l', z, he, h1, h2, h3, h4, h5⟩ => ⟨V', l', z, he, h1, Lib.hid h2, Lib.hid h3, h4, h5⟩
  have HOy : Hid (F = true → moveR ⟨⟨sn0, nesn0, q0, op0, em0, ack0, tak0⟩, ⟨sn1, nesn1, q1, op1, em1, ack1, tak1⟩, qa, qb, ga, gb⟩ 2 false x.p = ⟨⟨sn', nesn', q', op', em', ack', tak'⟩, ⟨sn'', nesn'', q'', op'', em'', ack'', tak''⟩, qa, qb, ga, gb ++ [zk]⟩) := Lib.hid fun h => by
    subst h
    rw [if_pos rfl] at hzk
    subst hzk
    unfold moveR
    have hp2 : pduR ⟨sn', nesn', q', op', em', ack', tak'⟩ = ⟨psn, pnesn, pmd, pk⟩ := by rw [← hr]; exact hp
    simp [hr, hp2, hr2, hF]
  have HOn : Hid (F = false → moveR ⟨⟨sn0, nesn0, q0, op0, em0, ack0, tak0⟩, ⟨sn1, nesn1, q1, op1, em1, ack1, tak1⟩, qa, qb, ga, gb⟩ 2 false x.p = ⟨⟨sn', nesn', q', op', em', ack', tak'⟩, ⟨sn'', nesn'', q'', op'', em'', ack'', tak''⟩, qa, qb, ga, gb⟩) := Lib.hid fun h => by
    subst h
    unfold moveR
    have hp2 : pduR ⟨sn', nesn', q', op', em', ack', tak'⟩ = ⟨psn, pnesn, pmd, pk⟩ := by rw [← hr]; exact hp
    simp [hr, hp2, hr2, hF]
  clear hpe hp hr hr2 hoq hon htk hzk hF hAk hck
  go_enter Try.func39, Try.ntmps39
  go_upto_region 1 with (fail)
  generalize ((w.alloc (.cells #[.int .i64 sn0, .int .i64 nesn0, V0, .bool op0, .bool em0, .int .i64 (ack0 : Int), .int .i64 (tak0 : Int), .int .i64 sn1, .int .i64 nesn1, V1, .bool op1, .bool em1, .int .i64 (ack1 : Int), .int .i64 (tak1 : Int), V2, V3, V4, V5] 62)).alloc (.cells #[.int .i64 2, .bool false, .int .i64 x.k, .slice x.A x.v.length x.c] 65)).alloc (.cells #[.int .i64 0, .int .i64 0, .slice none 0 0, .bool false, .bool false, .int .i64 0, .int .i64 0, .int .i64 0, .int .i64 0, .slice none 0 0, .bool false, .bool false, .int .i64 0, .int .i64 0, .slice none 0 0, .slice none 0 0, .slice none 0 0, .slice none 0 0] 62) = W0 at *
  have q0 := K3.cell 0
  go_upto_region 7 with (fail)
  clear q0
  have K2' : Blk W0.drew (w.heap.size) 62 #[.int .i64 sn0, .int .i64 nesn0, V0, .bool op0, .bool em0, .int .i64 (ack0 : Int), .int .i64 (tak0 : Int), .int .i64 sn1, .int .i64 nesn1, V1, .bool op1, .bool em1, .int .i64 (ack1 : Int), .int .i64 (tak1 : Int), V2, V3, V4, V5] := Mem.Blk.drew K2
  have K3' : Blk W0.drew (w.heap.size + 1) 65 #[.int .i64 2, .bool false, .int .i64 x.k, .slice x.A x.v.length x.c] := Mem.Blk.drew K3
  have K4' : Blk W0.drew (w.heap.size + 2) 62 #[.int .i64 0, .int .i64 0, .slice none 0 0, .bool false, .bool false, .int .i64 0, .int .i64 0, .int .i64 0, .int .i64 0, .slice none 0 0, .bool false, .bool false, .int .i64 0, .int .i64 0, .slice none 0 0, .slice none 0 0, .slice none 0 0, .slice none 0 0] := Mem.Blk.drew K4
  refine wp_region_held_drew (S := (fun w' => Blk w' (w.heap.size + 1) 65 #[.int .i64 2, .bool false, .int .i64 x.k, .slice x.A x.v.length x.c])) (by kernel_rfl) ?_ (fun hHeld => ?_)
  · exact K3'
  replace K2 := K2'
  clear K2'
  replace K3 := K3'
  clear K3'
  replace K4 := K4'
  clear K4'
  replace BX : Below m w W0.drew := BX.drew
  replace HA := (show All W0.drew m m V0 V1 V2 V3 V4 V5 l0 l1 l2 l3 l4 l5 from HA.below ((Below.refl W0.heap.size W0).drew))
  generalize W0.drew = T0 at *
  refine wpAnyH_take (i := 0) (v := .pointer (some ⟨w.heap.size + 1, 0, none⟩)) rfl (by kernel_rfl) (by kernel_rfl) (by kernel_rfl) (fun _ _ _ h => h) (Or.inl ⟨by first | rfl | go_simp, by intro w9 hSw; (try dsimp only at hSw); go_simp⟩) (by assumption) ?_
  simp only [List.getElem_toArray, List.getElem_cons_zero, List.getElem_cons_succ, Act.put, List.setIfInBounds_toArray, List.set_cons_zero, List.set_cons_succ]
  refine wpAnyH_take (i := 1) (v := .int .i64 2) rfl (by kernel_rfl) (by kernel_rfl) (by kernel_rfl) (fun _ _ _ h => h) (Or.inl ⟨by first | rfl | go_simp, by intro w9 hSw; (try dsimp only at hSw); have c9 := hSw.cell 0; clear hSw; go_simp⟩) (by assumption) ?_
  simp only [List.getElem_toArray, List.getElem_cons_zero, List.getElem_cons_succ, Act.put, List.setIfInBounds_toArray, List.set_cons_zero, List.set_cons_succ]
  refine wpAnyH_take (i := 2) (v := .int .i64 0) rfl (by kernel_rfl) (by kernel_rfl) (by kernel_rfl) (fun _ _ _ h => h) (Or.inl ⟨by first | rfl | go_simp, by intro w9 hSw; (try dsimp only at hSw); go_simp⟩) (by assumption) ?_
  simp only [List.getElem_toArray, List.getElem_cons_zero, List.getElem_cons_succ, Act.put, List.setIfInBounds_toArray, List.set_cons_zero, List.set_cons_succ]
  refine wpAnyH_take (i := 3) (v := .pointer (some ⟨w.heap.size + 1, 0, none⟩)) rfl (by kernel_rfl) (by kernel_rfl) (by kernel_rfl) (fun _ _ _ h => h) (Or.inl ⟨by first | rfl | go_simp, by intro w9 hSw; (try dsimp only at hSw); go_simp⟩) (by assumption) ?_
  simp only [List.getElem_toArray, List.getElem_cons_zero, List.getElem_cons_succ, Act.put, List.setIfInBounds_toArray, List.set_cons_zero, List.set_cons_succ]
  refine wpAnyH_take (i := 4) (v := .int .i64 2) rfl (by kernel_rfl) (by kernel_rfl) (by kernel_rfl) (fun _ _ _ h => h) (Or.inl ⟨by first | rfl | go_simp, by intro w9 hSw; (try dsimp only at hSw); have c9 := hSw.cell 0; clear hSw; go_simp⟩) (by assumption) ?_
  simp only [List.getElem_toArray, List.getElem_cons_zero, List.getElem_cons_succ, Act.put, List.setIfInBounds_toArray, List.set_cons_zero, List.set_cons_succ]
  refine wpAnyH_take (i := 5) (v := .int .i64 1) rfl (by kernel_rfl) (by kernel_rfl) (by kernel_rfl) (fun _ _ _ h => h) (Or.inl ⟨by first | rfl | go_simp, by intro w9 hSw; (try dsimp only at hSw); go_simp⟩) (by assumption) ?_
  simp only [List.getElem_toArray, List.getElem_cons_zero, List.getElem_cons_succ, Act.put, List.setIfInBounds_toArray, List.set_cons_zero, List.set_cons_succ]
  refine wpAnyH_take (i := 6) (v := .int .i64 0) rfl (by kernel_rfl) (by kernel_rfl) (by kernel_rfl) (fun _ _ _ h => h) (Or.inl ⟨by first | rfl | go_simp, by intro w9 hSw; (try dsimp only at hSw); go_simp⟩) (by assumption) ?_
  simp only [List.getElem_toArray, List.getElem_cons_zero, List.getElem_cons_succ, Act.put, List.setIfInBounds_toArray, List.set_cons_zero, List.set_cons_succ]
  refine wpAnyH_take (i := 7) (v := .int .i64 1) rfl (by kernel_rfl) (by kernel_rfl) (by kernel_rfl) (fun _ _ _ h => h) (Or.inl ⟨by first | rfl | go_simp, by intro w9 hSw; (try dsimp only at hSw); go_simp⟩) (by assumption) ?_
  simp only [List.getElem_toArray, List.getElem_cons_zero, List.getElem_cons_succ, Act.put, List.setIfInBounds_toArray, List.set_cons_zero, List.set_cons_succ]
  refine wpAnyH_done (by kernel_rfl) ?_ _
  clear hHeld
  have q0 := K2.cell 0
  have q1 := K2.cell 1
  have q2 := K2.cell 2
  have q3 := K2.cell 3
  have q4 := K2.cell 4
  have q5 := K2.cell 5
  have q6 := K2.cell 6
  go_upto_region 9 with (first | (go_at_call 30; refine (HS.out _ HA).mono ?_; rintro e W1 ⟨V', l', y, rfl, hq', hl', hy, HY, b9⟩; replace HA := HA.set0 (by have := BX.size; omega) b9 hq'; have oV' : V'.oneCell' = true := qq_one hq'; replace K2 := K2.below b9 K2.lt; replace K3 := K3.below b9 K3.lt; replace K4 := K4.below b9 K4.lt; replace BX := thenBm hmw BX b9; clear b9 hq' q0 q1 q2 q3 q4 q5 q6; have H1 : (#[.int .i64 sn', .int .i64 nesn', V', .bool op', .bool em', .int .i64 (ack' : Int), .int .i64 (tak' : Int)] : Array Value).all (·.oneCell') = true := (by rw [← Array.all_toList]; simp only [List.all_cons, List.all_nil, oV', Bool.and_true, Bool.and_self]; rfl); have H2 : (#[.int .i64 psn, .int .i64 pnesn, .int .i64 pmd, .int .i64 y.k, .slice y.A y.v.length y.c] : Array Value).all (·.oneCell') = true := (by rw [← Array.all_toList]; rfl)) | (refine wpList_store_row rfl 43 (.tmp 9) _ rfl W1.heap.size #[.int .i64 sn', .int .i64 nesn', V', .bool op', .bool em', .int .i64 (ack' : Int), .int .i64 (tak' : Int)] rfl rfl 43 _ ((Blk.fresh W1 43 #[.int .i64 0, .int .i64 0, .slice none 0 0, .bool false, .bool false, .int .i64 0, .int .i64 0]).alloc (.cells #[.int .i64 0, .int .i64 0, .int .i64 0, .int .i64 0, .slice none 0 0] 26)) (by kernel_rfl) rfl H1 ?_) | (refine wpList_store_row rfl 26 (.tmp 10) _ rfl (W1.heap.size + 1) #[.int .i64 psn, .int .i64 pnesn, .int .i64 pmd, .int .i64 y.k, .slice y.A y.v.length y.c] rfl rfl 26 _ (Av.bother_row (Av.Blk.next) (by omega)) (by kernel_rfl) rfl H2 ?_))
  have k5 : Blk ((W1.alloc (.cells #[.int .i64 0, .int .i64 0, .slice none 0 0, .bool false, .bool false, .int .i64 0, .int .i64 0] 43)).alloc (.cells #[.int .i64 0, .int .i64 0, .int .i64 0, .int .i64 0, .slice none 0 0] 26)) W1.heap.size 43 #[.int .i64 0, .int .i64 0, .slice none 0 0, .bool false, .bool false, .int .i64 0, .int .i64 0] := (Blk.fresh W1 43 #[.int .i64 0, .int .i64 0, .slice none 0 0, .bool false, .bool false, .int .i64 0, .int .i64 0]).alloc (.cells #[.int .i64 0, .int .i64 0, .int .i64 0, .int .i64 0, .slice none 0 0] 26)
  have k6 : Blk ((W1.alloc (.cells #[.int .i64 0, .int .i64 0, .slice none 0 0, .bool false, .bool false, .int .i64 0, .int .i64 0] 43)).alloc (.cells #[.int .i64 0, .int .i64 0, .int .i64 0, .int .i64 0, .slice none 0 0] 26)) (W1.heap.size + 1) 26 #[.int .i64 0, .int .i64 0, .int .i64 0, .int .i64 0, .slice none 0 0] := Av.Blk.next
  replace K2 := (K2.alloc (.cells #[.int .i64 0, .int .i64 0, .slice none 0 0, .bool false, .bool false, .int .i64 0, .int .i64 0] 43)).alloc (.cells #[.int .i64 0, .int .i64 0, .int .i64 0, .int .i64 0, .slice none 0 0] 26)
  replace K3 := (K3.alloc (.cells #[.int .i64 0, .int .i64 0, .slice none 0 0, .bool false, .bool false, .int .i64 0, .int .i64 0] 43)).alloc (.cells #[.int .i64 0, .int .i64 0, .int .i64 0, .int .i64 0, .slice none 0 0] 26)
  have hs4 := K4.lt
  replace K4 := (K4.alloc (.cells #[.int .i64 0, .int .i64 0, .slice none 0 0, .bool false, .bool false, .int .i64 0, .int .i64 0] 43)).alloc (.cells #[.int .i64 0, .int .i64 0, .int .i64 0, .int .i64 0, .slice none 0 0] 26)
  replace HA := (HA.below ((Below.refl W1.heap.size W1).alloc (Nat.le_refl _) (.cells #[.int .i64 0, .int .i64 0, .slice none 0 0, .bool false, .bool false, .int .i64 0, .int .i64 0] 43))).below ((Below.refl _ (W1.alloc (.cells #[.int .i64 0, .int .i64 0, .slice none 0 0, .bool false, .bool false, .int .i64 0, .int .i64 0] 43))).alloc (Nat.le_refl _) (.cells #[.int .i64 0, .int .i64 0, .int .i64 0, .int .i64 0, .slice none 0 0] 26))
  replace HY := (HY.below ((Below.refl W1.heap.size W1).alloc (Nat.le_refl _) (.cells #[.int .i64 0, .int .i64 0, .slice none 0 0, .bool false, .bool false, .int .i64 0, .int .i64 0] 43))).below ((Below.refl _ (W1.alloc (.cells #[.int .i64 0, .int .i64 0, .slice none 0 0, .bool false, .bool false, .int .i64 0, .int .i64 0] 43))).alloc (Nat.le_refl _) (.cells #[.int .i64 0, .int .i64 0, .int .i64 0, .int .i64 0, .slice none 0 0] 26))
  have hbs := BX.size
  replace BX := (BX.alloc (by omega) (.cells #[.int .i64 0, .int .i64 0, .slice none 0 0, .bool false, .bool false, .int .i64 0, .int .i64 0] 43)).alloc (by simp; omega) (.cells #[.int .i64 0, .int .i64 0, .int .i64 0, .int .i64 0, .slice none 0 0] 26)
  clear H1 H2
  have sA := stp_row k5 #[.int .i64 sn', .int .i64 nesn', V', .bool op', .bool em', .int .i64 (ack' : Int), .int .i64 (tak' : Int)]
  have k6b := sA.blk_ne k6 (by omega)
  have sB := stp_row k6b #[.int .i64 psn, .int .i64 pnesn, .int .i64 pmd, .int .i64 y.k, .slice y.A y.v.length y.c]
  have K5 := sB.blk_ne (Av.bset_row (cs' := #[.int .i64 sn', .int .i64 nesn', V', .bool op', .bool em', .int .i64 (ack' : Int), .int .i64 (tak' : Int)]) k5) (by omega)
  have K6 := Av.bset_row (cs' := #[.int .i64 psn, .int .i64 pnesn, .int .i64 pmd, .int .i64 y.k, .slice y.A y.v.length y.c]) k6b
  replace K2 := sB.blk_ne (sA.blk_ne K2 (by omega)) (by omega)
  replace K3 := sB.blk_ne (sA.blk_ne K3 (by omega)) (by omega)
  replace K4 := sB.blk_ne (sA.blk_ne K4 (by omega)) (by omega)
  replace HA := (HA.step sA (by decide) (by decide) (by omega)).step sB (by decide) (by decide) (by omega)
  replace HY := (HY.step sA (by decide) (Nat.zero_le _)).step sB (by decide) (Nat.zero_le _)
  replace BX : Below m w ((((W1.alloc (.cells #[.int .i64 0, .int .i64 0, .slice none 0 0, .bool false, .bool false, .int .i64 0, .int .i64 0] 43)).alloc (.cells #[.int .i64 0, .int .i64 0, .int .i64 0, .int .i64 0, .slice none 0 0] 26)).setRow W1.heap.size #[.int .i64 sn', .int .i64 nesn', V', .bool op', .bool em', .int .i64 (ack' : Int), .int .i64 (tak' : Int)]).setRow (W1.heap.size + 1) #[.int .i64 psn, .int .i64 pnesn, .int .i64 pmd, .int .i64 y.k, .slice y.A y.v.length y.c]) := below_setRow (below_setRow BX (by omega) _) (by omega) _
  clear sA sB k5 k6 k6b
  obtain ⟨g5, e5⟩ : ∃ g5, W1.heap.size = g5 := ⟨_, rfl⟩
  rw [e5] at K2 K3 K4 K5 K6 hs4 HA HY BX
  try simp only [e5]
  generalize ((W1.alloc (.cells #[.int .i64 0, .int .i64 0, .slice none 0 0, .bool false, .bool false, .int .i64 0, .int .i64 0] 43)).alloc (.cells #[.int .i64 0, .int .i64 0, .int .i64 0, .int .i64 0, .slice none 0 0] 26)) = W9 at *
  generalize (W9.setRow g5 #[.int .i64 sn', .int .i64 nesn', V', .bool op', .bool em', .int .i64 (ack' : Int), .int .i64 (tak' : Int)]).setRow (g5 + 1) #[.int .i64 psn, .int .i64 pnesn, .int .i64 pmd, .int .i64 y.k, .slice y.A y.v.length y.c] = W2 at *
  clear e5
  have H1 : (#[.int .i64 sn', .int .i64 nesn', V', .bool op', .bool em', .int .i64 (ack' : Int), .int .i64 (tak' : Int)] : Array Value).all (·.oneCell') = true := by rw [← Array.all_toList]; simp only [List.all_cons, List.all_nil, oV', Bool.and_true, Bool.and_self]; rfl
  go_upto_region 10 with (first | (refine wpList_store_part rfl 43 _ _ rfl (w.heap.size) 0 #[.int .i64 sn', .int .i64 nesn', V', .bool op', .bool em', .int .i64 (ack' : Int), .int .i64 (tak' : Int)] rfl rfl 62 _ #[.int .i64 sn', .int .i64 nesn', V', .bool op', .bool em', .int .i64 (ack' : Int), .int .i64 (tak' : Int), .int .i64 sn1, .int .i64 nesn1, V1, .bool op1, .bool em1, .int .i64 (ack1 : Int), .int .i64 (tak1 : Int), V2, V3, V4, V5] K2 (by kernel_rfl) (by show 0 + 7 ≤ 18; decide) H1 rfl ?_) | (refine wpList_load_row rfl 43 (.tmp 9) rfl g5 rfl 43 _ (0, 0) _ K5 Try.underlying43 rfl (by kernel_rfl) ?_))
  replace HA := HA.step (stp_row K2 #[.int .i64 sn', .int .i64 nesn', V', .bool op', .bool em', .int .i64 (ack' : Int), .int .i64 (tak' : Int), .int .i64 sn1, .int .i64 nesn1, V1, .bool op1, .bool em1, .int .i64 (ack1 : Int), .int .i64 (tak1 : Int), V2, V3, V4, V5]) (by decide) (by decide) (by omega)
  replace HY := HY.step (stp_row K2 #[.int .i64 sn', .int .i64 nesn', V', .bool op', .bool em', .int .i64 (ack' : Int), .int .i64 (tak' : Int), .int .i64 sn1, .int .i64 nesn1, V1, .bool op1, .bool em1, .int .i64 (ack1 : Int), .int .i64 (tak1 : Int), V2, V3, V4, V5]) (by decide) (Nat.zero_le _)
  replace K3 := (stp_row K2 #[.int .i64 sn', .int .i64 nesn', V', .bool op', .bool em', .int .i64 (ack' : Int), .int .i64 (tak' : Int), .int .i64 sn1, .int .i64 nesn1, V1, .bool op1, .bool em1, .int .i64 (ack1 : Int), .int .i64 (tak1 : Int), V2, V3, V4, V5]).blk_ne K3 (by omega)
  replace K4 := (stp_row K2 #[.int .i64 sn', .int .i64 nesn', V', .bool op', .bool em', .int .i64 (ack' : Int), .int .i64 (tak' : Int), .int .i64 sn1, .int .i64 nesn1, V1, .bool op1, .bool em1, .int .i64 (ack1 : Int), .int .i64 (tak1 : Int), V2, V3, V4, V5]).blk_ne K4 (by omega)
  replace K6 := (stp_row K2 #[.int .i64 sn', .int .i64 nesn', V', .bool op', .bool em', .int .i64 (ack' : Int), .int .i64 (tak' : Int), .int .i64 sn1, .int .i64 nesn1, V1, .bool op1, .bool em1, .int .i64 (ack1 : Int), .int .i64 (tak1 : Int), V2, V3, V4, V5]).blk_ne K6 (by omega)
  replace BX : Below m w (W2.setRow (w.heap.size) #[.int .i64 sn', .int .i64 nesn', V', .bool op', .bool em', .int .i64 (ack' : Int), .int .i64 (tak' : Int), .int .i64 sn1, .int .i64 nesn1, V1, .bool op1, .bool em1, .int .i64 (ack1 : Int), .int .i64 (tak1 : Int), V2, V3, V4, V5]) := below_setRow BX (by omega) _
  replace K2 := Av.bset_row (cs' := #[.int .i64 sn', .int .i64 nesn', V', .bool op', .bool em', .int .i64 (ack' : Int), .int .i64 (tak' : Int), .int .i64 sn1, .int .i64 nesn1, V1, .bool op1, .bool em1, .int .i64 (ack1 : Int), .int .i64 (tak1 : Int), V2, V3, V4, V5]) K2
  clear K5 H1
  generalize W2.setRow (w.heap.size) #[.int .i64 sn', .int .i64 nesn', V', .bool op', .bool em', .int .i64 (ack' : Int), .int .i64 (tak' : Int), .int .i64 sn1, .int .i64 nesn1, V1, .bool op1, .bool em1, .int .i64 (ack1 : Int), .int .i64 (tak1 : Int), V2, V3, V4, V5] = W3 at *
  have r1 := K3.cell 1
  go_upto_region 11 with (fail)
  clear r1
  go_cut [11, 12, 13] from 84 to 94 (fun s11 s12 s13 wx => ∃ g7 g8 V'' l'' z, s11 = .pointer (some ⟨g7, 0, none⟩) ∧ s12 = .pointer (some ⟨g8, 0, none⟩) ∧ s13 = .bool F ∧ w.heap.size + 3 ≤ g7 ∧ w.heap.size + 3 ≤ g8 ∧ V''.oneCell' = true ∧ Hid (l''.map Pm.p = q'') ∧ Hid (z.p = zk) ∧ Blk wx (w.heap.size) 62 #[.int .i64 sn', .int .i64 nesn', V', .bool op', .bool em', .int .i64 (ack' : Int), .int .i64 (tak' : Int), .int .i64 sn1, .int .i64 nesn1, V1, .bool op1, .bool em1, .int .i64 (ack1 : Int), .int .i64 (tak1 : Int), V2, V3, V4, V5] ∧ Blk wx (w.heap.size + 1) 65 #[.int .i64 2, .bool false, .int .i64 x.k, .slice x.A x.v.length x.c] ∧ Blk wx (w.heap.size + 2) 62 #[.int .i64 0, .int .i64 0, .slice none 0 0, .bool false, .bool false, .int .i64 0, .int .i64 0, .int .i64 0, .int .i64 0, .slice none 0 0, .bool false, .bool false, .int .i64 0, .int .i64 0, .slice none 0 0, .slice none 0 0, .slice none 0 0, .slice none 0 0] ∧ Blk wx g7 43 #[.int .i64 sn'', .int .i64 nesn'', V'', .bool op'', .bool em'', .int .i64 (ack'' : Int), .int .i64 (tak'' : Int)] ∧ Blk wx g8 24 #[.int .i64 z.k, .slice z.A z.v.length z.c] ∧ All wx m m V' V'' V2 V3 V4 V5 l' l'' l2 l3 l4 l5 ∧ PP wx 0 z ∧ Nin g8 V' V'' V2 V3 V4 V5 ∧ Below m w wx)
  case first =>
    have K2' : Blk W3.drew (w.heap.size) 62 #[.int .i64 sn', .int .i64 nesn', V', .bool op', .bool em', .int .i64 (ack' : Int), .int .i64 (tak' : Int), .int .i64 sn1, .int .i64 nesn1, V1, .bool op1, .bool em1, .int .i64 (ack1 : Int), .int .i64 (tak1 : Int), V2, V3, V4, V5] := Mem.Blk.drew K2
    have K3' : Blk W3.drew (w.heap.size + 1) 65 #[.int .i64 2, .bool false, .int .i64 x.k, .slice x.A x.v.length x.c] := Mem.Blk.drew K3
    have K4' : Blk W3.drew (w.heap.size + 2) 62 #[.int .i64 0, .int .i64 0, .slice none 0 0, .bool false, .bool false, .int .i64 0, .int .i64 0, .int .i64 0, .int .i64 0, .slice none 0 0, .bool false, .bool false, .int .i64 0, .int .i64 0, .slice none 0 0, .slice none 0 0, .slice none 0 0, .slice none 0 0] := Mem.Blk.drew K4
    have K6' : Blk W3.drew (g5 + 1) 26 #[.int .i64 psn, .int .i64 pnesn, .int .i64 pmd, .int .i64 y.k, .slice y.A y.v.length y.c] := Mem.Blk.drew K6
    refine wp_region_held_drew (S := (fun w' => Blk w' (g5 + 1) 26 #[.int .i64 psn, .int .i64 pnesn, .int .i64 pmd, .int .i64 y.k, .slice y.A y.v.length y.c] ∧ Blk w' (w.heap.size) 62 #[.int .i64 sn', .int .i64 nesn', V', .bool op', .bool em', .int .i64 (ack' : Int), .int .i64 (tak' : Int), .int .i64 sn1, .int .i64 nesn1, V1, .bool op1, .bool em1, .int .i64 (ack1 : Int), .int .i64 (tak1 : Int), V2, V3, V4, V5])) (by kernel_rfl) ?_ (fun hHeld => ?_)
    · exact ⟨K6', K2'⟩
    replace K2 := K2'
    clear K2'
    replace K3 := K3'
    clear K3'
    replace K4 := K4'
    clear K4'
    replace K6 := K6'
    clear K6'
    replace BX : Below m w W3.drew := BX.drew
    replace HA := (show All W3.drew m m V' V1 V2 V3 V4 V5 l' l1 l2 l3 l4 l5 from HA.below ((Below.refl W3.heap.size W3).drew))
    replace HY := (show PP W3.drew 0 y from HY.below ((Below.refl W3.heap.size W3).drew))
    generalize W3.drew = X0 at *
    refine wpAnyH_take (i := 0) (v := .int .i64 1) rfl (by kernel_rfl) (by kernel_rfl) (by kernel_rfl) (fun _ _ _ h => h) (Or.inl ⟨by first | rfl | go_simp, by intro w9 hSw; (try dsimp only at hSw); go_simp⟩) (by assumption) ?_
    simp only [List.getElem_toArray, List.getElem_cons_zero, List.getElem_cons_succ, Act.put, List.setIfInBounds_toArray, List.set_cons_zero, List.set_cons_succ]
    refine wpAnyH_take (i := 1) (v := .pointer (some ⟨w.heap.size, 0, none⟩)) rfl (by kernel_rfl) (by kernel_rfl) (by kernel_rfl) (fun _ _ _ h => h) (Or.inl ⟨by first | rfl | go_simp, by intro w9 hSw; (try dsimp only at hSw); go_simp⟩) (by assumption) ?_
    simp only [List.getElem_toArray, List.getElem_cons_zero, List.getElem_cons_succ, Act.put, List.setIfInBounds_toArray, List.set_cons_zero, List.set_cons_succ]
    refine wpAnyH_take (i := 2) (v := .pointer (some ⟨w.heap.size, 7, none⟩)) rfl (by kernel_rfl) (by kernel_rfl) (by kernel_rfl) (fun _ _ _ h => h) (Or.inl ⟨by first | rfl | go_simp, by intro w9 hSw; (try dsimp only at hSw); go_simp⟩) (by assumption) ?_
    simp only [List.getElem_toArray, List.getElem_cons_zero, List.getElem_cons_succ, Act.put, List.setIfInBounds_toArray, List.set_cons_zero, List.set_cons_succ]
    refine wpAnyH_take (i := 3) (v := .agg #[.int .i64 sn1, .int .i64 nesn1, V1, .bool op1, .bool em1, .int .i64 (ack1 : Int), .int .i64 (tak1 : Int)]) rfl (by kernel_rfl) (by kernel_rfl) (by kernel_rfl) (fun _ _ _ h => h) (Av.yields_part (by first | rfl | go_simp) _ _ rfl (w.heap.size) 7 rfl #[.int .i64 sn1, .int .i64 nesn1, V1, .bool op1, .bool em1, .int .i64 (ack1 : Int), .int .i64 (tak1 : Int)] _ 62 #[.int .i64 sn', .int .i64 nesn', V', .bool op', .bool em', .int .i64 (ack' : Int), .int .i64 (tak' : Int), .int .i64 sn1, .int .i64 nesn1, V1, .bool op1, .bool em1, .int .i64 (ack1 : Int), .int .i64 (tak1 : Int), V2, V3, V4, V5] (fun w9 hSw => hSw.2) rfl Try.underlying43 rfl (by kernel_rfl)) (by assumption) ?_
    simp only [List.getElem_toArray, List.getElem_cons_zero, List.getElem_cons_succ, Act.put, List.setIfInBounds_toArray, List.set_cons_zero, List.set_cons_succ]
    refine wpAnyH_take (i := 4) (v := .agg #[.int .i64 psn, .int .i64 pnesn, .int .i64 pmd, .int .i64 y.k, .slice y.A y.v.length y.c]) rfl (by kernel_rfl) (by kernel_rfl) (by kernel_rfl) (fun _ _ _ h => h) (Av.yields_part (by first | rfl | go_simp) _ _ rfl (g5 + 1) 0 rfl #[.int .i64 psn, .int .i64 pnesn, .int .i64 pmd, .int .i64 y.k, .slice y.A y.v.length y.c] _ 26 #[.int .i64 psn, .int .i64 pnesn, .int .i64 pmd, .int .i64 y.k, .slice y.A y.v.length y.c] (fun w9 hSw => hSw.1) rfl Try.underlying26 rfl (by kernel_rfl)) (by assumption) ?_
    simp only [List.getElem_toArray, List.getElem_cons_zero, List.getElem_cons_succ, Act.put, List.setIfInBounds_toArray, List.set_cons_zero, List.set_cons_succ]
    refine wpAnyH_ready (rs := [5, 11, 12]) (by kernel_rfl) (by simp) ?_
    refine AllReadyH.cons rfl (fun K hK => ?_) (AllReadyH.cons rfl (fun K hK => ?_) (AllReadyH.cons rfl (fun K hK => ?_) (AllReadyH.nil)))
    · skip
      go_simp
      refine (HT.out X0 y _ _ HA HY.gp hy.out).mono ?_
      rintro e X1 ⟨V'', l'', z, rfl, hq'', hl'', hz, HZ, b9⟩
      replace HA := HA.set1 (by have := BX.size; omega) b9 hq''
      have oV'' : V''.oneCell' = true := qq_one hq''
      clear hq''
      replace K2 := K2.below b9 K2.lt
      replace K3 := K3.below b9 K3.lt
      replace K4 := K4.below b9 K4.lt
      replace K6 := K6.below b9 K6.lt
      replace BX := thenBm hmw BX b9
      clear b9
      refine hK.out _ _ ⟨K6, K2⟩ (fun hHeld => ?_)
      clear hK K
      try simp only [List.getElem_toArray, List.getElem_cons_zero, List.getElem_cons_succ, Act.put, List.setIfInBounds_toArray, List.set_cons_zero, List.set_cons_succ]
      refine wpAnyH_take (i := 6) (v := .tuple #[.agg #[.int .i64 sn'', .int .i64 nesn'', V'', .bool op'', .bool em'', .int .i64 (ack'' : Int), .int .i64 (tak'' : Int)], .agg #[.int .i64 z.k, .slice z.A z.v.length z.c], .bool F, .bool Ak]) rfl (by kernel_rfl) (by kernel_rfl) (by kernel_rfl) (fun _ _ _ h => h) (Or.inl ⟨by first | rfl | go_simp, by intro w9 hSw; (try dsimp only at hSw); go_simp⟩) (by assumption) ?_
      simp only [List.getElem_toArray, List.getElem_cons_zero, List.getElem_cons_succ, Act.put, List.setIfInBounds_toArray, List.set_cons_zero, List.set_cons_succ]
      refine wpAnyH_take (i := 7) (v := .agg #[.int .i64 sn'', .int .i64 nesn'', V'', .bool op'', .bool em'', .int .i64 (ack'' : Int), .int .i64 (tak'' : Int)]) rfl (by kernel_rfl) (by kernel_rfl) (by kernel_rfl) (fun _ _ _ h => h) (Or.inl ⟨by first | rfl | go_simp, by intro w9 hSw; (try dsimp only at hSw); go_simp⟩) (by assumption) ?_
      simp only [List.getElem_toArray, List.getElem_cons_zero, List.getElem_cons_succ, Act.put, List.setIfInBounds_toArray, List.set_cons_zero, List.set_cons_succ]
      refine wpAnyH_take (i := 8) (v := .agg #[.int .i64 z.k, .slice z.A z.v.length z.c]) rfl (by kernel_rfl) (by kernel_rfl) (by kernel_rfl) (fun _ _ _ h => h) (Or.inl ⟨by first | rfl | go_simp, by intro w9 hSw; (try dsimp only at hSw); go_simp⟩) (by assumption) ?_
      simp only [List.getElem_toArray, List.getElem_cons_zero, List.getElem_cons_succ, Act.put, List.setIfInBounds_toArray, List.set_cons_zero, List.set_cons_succ]
      refine wpAnyH_take (i := 9) (v := .bool F) rfl (by kernel_rfl) (by kernel_rfl) (by kernel_rfl) (fun _ _ _ h => h) (Or.inl ⟨by first | rfl | go_simp, by intro w9 hSw; (try dsimp only at hSw); go_simp⟩) (by assumption) ?_
      simp only [List.getElem_toArray, List.getElem_cons_zero, List.getElem_cons_succ, Act.put, List.setIfInBounds_toArray, List.set_cons_zero, List.set_cons_succ]
      refine wpAnyH_take (i := 10) (v := .bool Ak) rfl (by kernel_rfl) (by kernel_rfl) (by kernel_rfl) (fun _ _ _ h => h) (Or.inl ⟨by first | rfl | go_simp, by intro w9 hSw; (try dsimp only at hSw); go_simp⟩) (by assumption) ?_
      simp only [List.getElem_toArray, List.getElem_cons_zero, List.getElem_cons_succ, Act.put, List.setIfInBounds_toArray, List.set_cons_zero, List.set_cons_succ]
      refine wpAnyH_ready (rs := [11, 12]) (by kernel_rfl) (by simp) ?_
      refine AllReadyH.cons rfl (fun K hK => ?_) (AllReadyH.cons rfl (fun K hK => ?_) (AllReadyH.nil))
      · skip
        go_simp
        have b9 := (Below.refl X1.heap.size X1).alloc (Nat.le_refl _) (.cells #[.int .i64 0, .int .i64 0, .slice none 0 0, .bool false, .bool false, .int .i64 0, .int .i64 0] 43)
        have K7 := Blk.fresh X1 43 #[.int .i64 0, .int .i64 0, .slice none 0 0, .bool false, .bool false, .int .i64 0, .int .i64 0]
        have hgK7 : g5 + 1 < X1.heap.size := K6.lt
        generalize X1.alloc (.cells #[.int .i64 0, .int .i64 0, .slice none 0 0, .bool false, .bool false, .int .i64 0, .int .i64 0] 43) = X2 at *
        replace K2 := K2.below b9 K2.lt
        replace K3 := K3.below b9 K3.lt
        replace K4 := K4.below b9 K4.lt
        replace K6 := K6.below b9 K6.lt
        replace BX := thenBm hmw BX b9
        replace HA := HA.below b9
        replace HZ := HZ.below b9
        clear b9
        refine hK.out _ _ ⟨K6, K2⟩ (fun hHeld => ?_)
        clear hK K
        try simp only [List.getElem_toArray, List.getElem_cons_zero, List.getElem_cons_succ, Act.put, List.setIfInBounds_toArray, List.set_cons_zero, List.set_cons_succ]
        refine wpAnyH_ready (rs := [12]) (by kernel_rfl) (by simp) ?_
        refine AllReadyH.cons rfl (fun K hK => ?_) (AllReadyH.nil)
        go_simp
        have b9 := (Below.refl X2.heap.size X2).alloc (Nat.le_refl _) (.cells #[.int .i64 0, .slice none 0 0] 24)
        have K8 := Blk.fresh X2 24 #[.int .i64 0, .slice none 0 0]
        have hgK8 : g5 + 1 < X2.heap.size := K6.lt
        have hK7a : X1.heap.size < X2.heap.size := K7.lt
        have N8 := HA.nin (Nat.le_refl _)
        generalize X2.alloc (.cells #[.int .i64 0, .slice none 0 0] 24) = X3 at *
        replace K2 := K2.below b9 K2.lt
        replace K3 := K3.below b9 K3.lt
        replace K4 := K4.below b9 K4.lt
        replace K6 := K6.below b9 K6.lt
        replace K7 := K7.below b9 K7.lt
        replace BX := thenBm hmw BX b9
        replace HA := HA.below b9
        replace HZ := HZ.below b9
        clear b9
        refine hK.out _ _ ⟨K6, K2⟩ (fun hHeld => ?_)
        clear hK K
        try simp only [List.getElem_toArray, List.getElem_cons_zero, List.getElem_cons_succ, Act.put, List.setIfInBounds_toArray, List.set_cons_zero, List.set_cons_succ]
        refine wpAnyH_ready (rs := [13]) (by kernel_rfl) (by simp) ?_
        refine AllReadyH.cons rfl (fun K hK => ?_) (AllReadyH.nil)
        have H9 : (#[.int .i64 sn'', .int .i64 nesn'', V'', .bool op'', .bool em'', .int .i64 (ack'' : Int), .int .i64 (tak'' : Int)] : Array Value).all (·.oneCell') = true := by rw [← Array.all_toList]; simp only [List.all_cons, List.all_nil, oV'', Bool.and_true, Bool.and_self]; rfl
        refine Av.step_store_row rfl 43 (.tmp 11) (.tmp 91) rfl (X1.heap.size) #[.int .i64 sn'', .int .i64 nesn'', V'', .bool op'', .bool em'', .int .i64 (ack'' : Int), .int .i64 (tak'' : Int)] rfl rfl 43 _ K7 (by kernel_rfl) rfl H9 ?_
        replace HA := HA.step (stp_row K7 #[.int .i64 sn'', .int .i64 nesn'', V'', .bool op'', .bool em'', .int .i64 (ack'' : Int), .int .i64 (tak'' : Int)]) (by decide) (by decide) (by omega)
        replace HZ := HZ.step (stp_row K7 #[.int .i64 sn'', .int .i64 nesn'', V'', .bool op'', .bool em'', .int .i64 (ack'' : Int), .int .i64 (tak'' : Int)]) (by decide) (Nat.zero_le _)
        replace K2 : Blk (X3.setRow (X1.heap.size) #[.int .i64 sn'', .int .i64 nesn'', V'', .bool op'', .bool em'', .int .i64 (ack'' : Int), .int .i64 (tak'' : Int)]) (w.heap.size) 62 #[.int .i64 sn', .int .i64 nesn', V', .bool op', .bool em', .int .i64 (ack' : Int), .int .i64 (tak' : Int), .int .i64 sn1, .int .i64 nesn1, V1, .bool op1, .bool em1, .int .i64 (ack1 : Int), .int .i64 (tak1 : Int), V2, V3, V4, V5] := Av.bother_row K2 (by omega)
        replace K3 : Blk (X3.setRow (X1.heap.size) #[.int .i64 sn'', .int .i64 nesn'', V'', .bool op'', .bool em'', .int .i64 (ack'' : Int), .int .i64 (tak'' : Int)]) (w.heap.size + 1) 65 #[.int .i64 2, .bool false, .int .i64 x.k, .slice x.A x.v.length x.c] := Av.bother_row K3 (by omega)
        replace K4 : Blk (X3.setRow (X1.heap.size) #[.int .i64 sn'', .int .i64 nesn'', V'', .bool op'', .bool em'', .int .i64 (ack'' : Int), .int .i64 (tak'' : Int)]) (w.heap.size + 2) 62 #[.int .i64 0, .int .i64 0, .slice none 0 0, .bool false, .bool false, .int .i64 0, .int .i64 0, .int .i64 0, .int .i64 0, .slice none 0 0, .bool false, .bool false, .int .i64 0, .int .i64 0, .slice none 0 0, .slice none 0 0, .slice none 0 0, .slice none 0 0] := Av.bother_row K4 (by omega)
        replace K6 : Blk (X3.setRow (X1.heap.size) #[.int .i64 sn'', .int .i64 nesn'', V'', .bool op'', .bool em'', .int .i64 (ack'' : Int), .int .i64 (tak'' : Int)]) (g5 + 1) 26 #[.int .i64 psn, .int .i64 pnesn, .int .i64 pmd, .int .i64 y.k, .slice y.A y.v.length y.c] := Av.bother_row K6 (by omega)
        replace K7 : Blk (X3.setRow (X1.heap.size) #[.int .i64 sn'', .int .i64 nesn'', V'', .bool op'', .bool em'', .int .i64 (ack'' : Int), .int .i64 (tak'' : Int)]) (X1.heap.size) 43 #[.int .i64 sn'', .int .i64 nesn'', V'', .bool op'', .bool em'', .int .i64 (ack'' : Int), .int .i64 (tak'' : Int)] := Av.bset_row K7
        replace K8 : Blk (X3.setRow (X1.heap.size) #[.int .i64 sn'', .int .i64 nesn'', V'', .bool op'', .bool em'', .int .i64 (ack'' : Int), .int .i64 (tak'' : Int)]) (X2.heap.size) 24 #[.int .i64 0, .slice none 0 0] := Av.bother_row K8 (by omega)
        replace BX : Below m w (X3.setRow (X1.heap.size) #[.int .i64 sn'', .int .i64 nesn'', V'', .bool op'', .bool em'', .int .i64 (ack'' : Int), .int .i64 (tak'' : Int)]) := below_setRow BX (by omega) _
        clear H9
        generalize X3.setRow (X1.heap.size) #[.int .i64 sn'', .int .i64 nesn'', V'', .bool op'', .bool em'', .int .i64 (ack'' : Int), .int .i64 (tak'' : Int)] = X4 at *
        refine hK.out _ _ ⟨K6, K2⟩ (fun hHeld => ?_)
        clear hK K
        try simp only [List.getElem_toArray, List.getElem_cons_zero, List.getElem_cons_succ, Act.put, List.setIfInBounds_toArray, List.set_cons_zero, List.set_cons_succ]
        refine wpAnyH_ready (rs := [14]) (by kernel_rfl) (by simp) ?_
        refine AllReadyH.cons rfl (fun K hK => ?_) (AllReadyH.nil)
        have H9 : (#[.int .i64 z.k, .slice z.A z.v.length z.c] : Array Value).all (·.oneCell') = true := by rw [← Array.all_toList]; rfl
        refine Av.step_store_row rfl 24 (.tmp 12) (.tmp 92) rfl (X2.heap.size) #[.int .i64 z.k, .slice z.A z.v.length z.c] rfl rfl 24 _ K8 (by kernel_rfl) rfl H9 ?_
        replace HA := HA.step_nin (stp_row K8 #[.int .i64 z.k, .slice z.A z.v.length z.c]) (by decide) N8 (by omega)
        replace HZ := HZ.step (stp_row K8 #[.int .i64 z.k, .slice z.A z.v.length z.c]) (by decide) (Nat.zero_le _)
        replace K2 : Blk (X4.setRow (X2.heap.size) #[.int .i64 z.k, .slice z.A z.v.length z.c]) (w.heap.size) 62 #[.int .i64 sn', .int .i64 nesn', V', .bool op', .bool em', .int .i64 (ack' : Int), .int .i64 (tak' : Int), .int .i64 sn1, .int .i64 nesn1, V1, .bool op1, .bool em1, .int .i64 (ack1 : Int), .int .i64 (tak1 : Int), V2, V3, V4, V5] := Av.bother_row K2 (by omega)
        replace K3 : Blk (X4.setRow (X2.heap.size) #[.int .i64 z.k, .slice z.A z.v.length z.c]) (w.heap.size + 1) 65 #[.int .i64 2, .bool false, .int .i64 x.k, .slice x.A x.v.length x.c] := Av.bother_row K3 (by omega)
        replace K4 : Blk (X4.setRow (X2.heap.size) #[.int .i64 z.k, .slice z.A z.v.length z.c]) (w.heap.size + 2) 62 #[.int .i64 0, .int .i64 0, .slice none 0 0, .bool false, .bool false, .int .i64 0, .int .i64 0, .int .i64 0, .int .i64 0, .slice none 0 0, .bool false, .bool false, .int .i64 0, .int .i64 0, .slice none 0 0, .slice none 0 0, .slice none 0 0, .slice none 0 0] := Av.bother_row K4 (by omega)
        replace K6 : Blk (X4.setRow (X2.heap.size) #[.int .i64 z.k, .slice z.A z.v.length z.c]) (g5 + 1) 26 #[.int .i64 psn, .int .i64 pnesn, .int .i64 pmd, .int .i64 y.k, .slice y.A y.v.length y.c] := Av.bother_row K6 (by omega)
        replace K7 : Blk (X4.setRow (X2.heap.size) #[.int .i64 z.k, .slice z.A z.v.length z.c]) (X1.heap.size) 43 #[.int .i64 sn'', .int .i64 nesn'', V'', .bool op'', .bool em'', .int .i64 (ack'' : Int), .int .i64 (tak'' : Int)] := Av.bother_row K7 (by omega)
        replace K8 : Blk (X4.setRow (X2.heap.size) #[.int .i64 z.k, .slice z.A z.v.length z.c]) (X2.heap.size) 24 #[.int .i64 z.k, .slice z.A z.v.length z.c] := Av.bset_row K8
        replace BX : Below m w (X4.setRow (X2.heap.size) #[.int .i64 z.k, .slice z.A z.v.length z.c]) := below_setRow BX (by omega) _
        clear H9
        generalize X4.setRow (X2.heap.size) #[.int .i64 z.k, .slice z.A z.v.length z.c] = X5 at *
        refine hK.out _ _ ⟨K6, K2⟩ (fun hHeld => ?_)
        clear hK K
        try simp only [List.getElem_toArray, List.getElem_cons_zero, List.getElem_cons_succ, Act.put, List.setIfInBounds_toArray, List.set_cons_zero, List.set_cons_succ]
        refine wpAnyH_take (i := 15) (v := .bool F) rfl (by kernel_rfl) (by kernel_rfl) (by kernel_rfl) (fun _ _ _ h => h) (Or.inl ⟨by first | rfl | go_simp, by intro w9 hSw; (try dsimp only at hSw); go_simp⟩) (by assumption) ?_
        simp only [List.getElem_toArray, List.getElem_cons_zero, List.getElem_cons_succ, Act.put, List.setIfInBounds_toArray, List.set_cons_zero, List.set_cons_succ]
        refine wpAnyH_take (i := 16) (v := .bool Ak) rfl (by kernel_rfl) (by kernel_rfl) (by kernel_rfl) (fun _ _ _ h => h) (Or.inl ⟨by first | rfl | go_simp, by intro w9 hSw; (try dsimp only at hSw); go_simp⟩) (by assumption) ?_
        simp only [List.getElem_toArray, List.getElem_cons_zero, List.getElem_cons_succ, Act.put, List.setIfInBounds_toArray, List.set_cons_zero, List.set_cons_succ]
        refine wpAnyH_done (by kernel_rfl) ?_ _
        clear hHeld
        go_wp2_with fail
        go_meet
        exact ⟨X1.heap.size, X2.heap.size, V'', l'', z, rfl, rfl, rfl, by omega, by omega, oV'', hl'', hz, K2, K3, K4, K7, K8, HA, HZ, N8, BX⟩
      · skip
        go_simp
        have b9 := (Below.refl X1.heap.size X1).alloc (Nat.le_refl _) (.cells #[.int .i64 0, .slice none 0 0] 24)
        have K8 := Blk.fresh X1 24 #[.int .i64 0, .slice none 0 0]
        have hgK8 : g5 + 1 < X1.heap.size := K6.lt
        have N8 := HA.nin (Nat.le_refl _)
        generalize X1.alloc (.cells #[.int .i64 0, .slice none 0 0] 24) = X6 at *
        replace K2 := K2.below b9 K2.lt
        replace K3 := K3.below b9 K3.lt
        replace K4 := K4.below b9 K4.lt
        replace K6 := K6.below b9 K6.lt
        replace BX := thenBm hmw BX b9
        replace HA := HA.below b9
        replace HZ := HZ.below b9
        clear b9
        refine hK.out _ _ ⟨K6, K2⟩ (fun hHeld => ?_)
        clear hK K
        try simp only [List.getElem_toArray, List.getElem_cons_zero, List.getElem_cons_succ, Act.put, List.setIfInBounds_toArray, List.set_cons_zero, List.set_cons_succ]
        refine wpAnyH_ready (rs := [11]) (by kernel_rfl) (by simp) ?_
        refine AllReadyH.cons rfl (fun K hK => ?_) (AllReadyH.nil)
        go_simp
        have b9 := (Below.refl X6.heap.size X6).alloc (Nat.le_refl _) (.cells #[.int .i64 0, .int .i64 0, .slice none 0 0, .bool false, .bool false, .int .i64 0, .int .i64 0] 43)
        have K7 := Blk.fresh X6 43 #[.int .i64 0, .int .i64 0, .slice none 0 0, .bool false, .bool false, .int .i64 0, .int .i64 0]
        have hgK7 : g5 + 1 < X6.heap.size := K6.lt
        have hK8a : X1.heap.size < X6.heap.size := K8.lt
        generalize X6.alloc (.cells #[.int .i64 0, .int .i64 0, .slice none 0 0, .bool false, .bool false, .int .i64 0, .int .i64 0] 43) = X7 at *
        replace K2 := K2.below b9 K2.lt
        replace K3 := K3.below b9 K3.lt
        replace K4 := K4.below b9 K4.lt
        replace K6 := K6.below b9 K6.lt
        replace K8 := K8.below b9 K8.lt
        replace BX := thenBm hmw BX b9
        replace HA := HA.below b9
        replace HZ := HZ.below b9
        clear b9
        refine hK.out _ _ ⟨K6, K2⟩ (fun hHeld => ?_)
        clear hK K
        try simp only [List.getElem_toArray, List.getElem_cons_zero, List.getElem_cons_succ, Act.put, List.setIfInBounds_toArray, List.set_cons_zero, List.set_cons_succ]
        refine wpAnyH_ready (rs := [13]) (by kernel_rfl) (by simp) ?_
        refine AllReadyH.cons rfl (fun K hK => ?_) (AllReadyH.nil)
        have H9 : (#[.int .i64 sn'', .int .i64 nesn'', V'', .bool op'', .bool em'', .int .i64 (ack'' : Int), .int .i64 (tak'' : Int)] : Array Value).all (·.oneCell') = true := by rw [← Array.all_toList]; simp only [List.all_cons, List.all_nil, oV'', Bool.and_true, Bool.and_self]; rfl
        refine Av.step_store_row rfl 43 (.tmp 11) (.tmp 91) rfl (X6.heap.size) #[.int .i64 sn'', .int .i64 nesn'', V'', .bool op'', .bool em'', .int .i64 (ack'' : Int), .int .i64 (tak'' : Int)] rfl rfl 43 _ K7 (by kernel_rfl) rfl H9 ?_
        replace HA := HA.step (stp_row K7 #[.int .i64 sn'', .int .i64 nesn'', V'', .bool op'', .bool em'', .int .i64 (ack'' : Int), .int .i64 (tak'' : Int)]) (by decide) (by decide) (by omega)
        replace HZ := HZ.step (stp_row K7 #[.int .i64 sn'', .int .i64 nesn'', V'', .bool op'', .bool em'', .int .i64 (ack'' : Int), .int .i64 (tak'' : Int)]) (by decide) (Nat.zero_le _)
        replace K2 : Blk (X7.setRow (X6.heap.size) #[.int .i64 sn'', .int .i64 nesn'', V'', .bool op'', .bool em'', .int .i64 (ack'' : Int), .int .i64 (tak'' : Int)]) (w.heap.size) 62 #[.int .i64 sn', .int .i64 nesn', V', .bool op', .bool em', .int .i64 (ack' : Int), .int .i64 (tak' : Int), .int .i64 sn1, .int .i64 nesn1, V1, .bool op1, .bool em1, .int .i64 (ack1 : Int), .int .i64 (tak1 : Int), V2, V3, V4, V5] := Av.bother_row K2 (by omega)
        replace K3 : Blk (X7.setRow (X6.heap.size) #[.int .i64 sn'', .int .i64 nesn'', V'', .bool op'', .bool em'', .int .i64 (ack'' : Int), .int .i64 (tak'' : Int)]) (w.heap.size + 1) 65 #[.int .i64 2, .bool false, .int .i64 x.k, .slice x.A x.v.length x.c] := Av.bother_row K3 (by omega)
        replace K4 : Blk (X7.setRow (X6.heap.size) #[.int .i64 sn'', .int .i64 nesn'', V'', .bool op'', .bool em'', .int .i64 (ack'' : Int), .int .i64 (tak'' : Int)]) (w.heap.size + 2) 62 #[.int .i64 0, .int .i64 0, .slice none 0 0, .bool false, .bool false, .int .i64 0, .int .i64 0, .int .i64 0, .int .i64 0, .slice none 0 0, .bool false, .bool false, .int .i64 0, .int .i64 0, .slice none 0 0, .slice none 0 0, .slice none 0 0, .slice none 0 0] := Av.bother_row K4 (by omega)
        replace K6 : Blk (X7.setRow (X6.heap.size) #[.int .i64 sn'', .int .i64 nesn'', V'', .bool op'', .bool em'', .int .i64 (ack'' : Int), .int .i64 (tak'' : Int)]) (g5 + 1) 26 #[.int .i64 psn, .int .i64 pnesn, .int .i64 pmd, .int .i64 y.k, .slice y.A y.v.length y.c] := Av.bother_row K6 (by omega)
        replace K8 : Blk (X7.setRow (X6.heap.size) #[.int .i64 sn'', .int .i64 nesn'', V'', .bool op'', .bool em'', .int .i64 (ack'' : Int), .int .i64 (tak'' : Int)]) (X1.heap.size) 24 #[.int .i64 0, .slice none 0 0] := Av.bother_row K8 (by omega)
        replace K7 : Blk (X7.setRow (X6.heap.size) #[.int .i64 sn'', .int .i64 nesn'', V'', .bool op'', .bool em'', .int .i64 (ack'' : Int), .int .i64 (tak'' : Int)]) (X6.heap.size) 43 #[.int .i64 sn'', .int .i64 nesn'', V'', .bool op'', .bool em'', .int .i64 (ack'' : Int), .int .i64 (tak'' : Int)] := Av.bset_row K7
        replace BX : Below m w (X7.setRow (X6.heap.size) #[.int .i64 sn'', .int .i64 nesn'', V'', .bool op'', .bool em'', .int .i64 (ack'' : Int), .int .i64 (tak'' : Int)]) := below_setRow BX (by omega) _
        clear H9
        generalize X7.setRow (X6.heap.size) #[.int .i64 sn'', .int .i64 nesn'', V'', .bool op'', .bool em'', .int .i64 (ack'' : Int), .int .i64 (tak'' : Int)] = X8 at *
        refine hK.out _ _ ⟨K6, K2⟩ (fun hHeld => ?_)
        clear hK K
        try simp only [List.getElem_toArray, List.getElem_cons_zero, List.getElem_cons_succ, Act.put, List.setIfInBounds_toArray, List.set_cons_zero, List.set_cons_succ]
        refine wpAnyH_ready (rs := [14]) (by kernel_rfl) (by simp) ?_
        refine AllReadyH.cons rfl (fun K hK => ?_) (AllReadyH.nil)
        have H9 : (#[.int .i64 z.k, .slice z.A z.v.length z.c] : Array Value).all (·.oneCell') = true := by rw [← Array.all_toList]; rfl
        refine Av.step_store_row rfl 24 (.tmp 12) (.tmp 92) rfl (X1.heap.size) #[.int .i64 z.k, .slice z.A z.v.length z.c] rfl rfl 24 _ K8 (by kernel_rfl) rfl H9 ?_
        replace HA := HA.step_nin (stp_row K8 #[.int .i64 z.k, .slice z.A z.v.length z.c]) (by decide) N8 (by omega)
        replace HZ := HZ.step (stp_row K8 #[.int .i64 z.k, .slice z.A z.v.length z.c]) (by decide) (Nat.zero_le _)
        replace K2 : Blk (X8.setRow (X1.heap.size) #[.int .i64 z.k, .slice z.A z.v.length z.c]) (w.heap.size) 62 #[.int .i64 sn', .int .i64 nesn', V', .bool op', .bool em', .int .i64 (ack' : Int), .int .i64 (tak' : Int), .int .i64 sn1, .int .i64 nesn1, V1, .bool op1, .bool em1, .int .i64 (ack1 : Int), .int .i64 (tak1 : Int), V2, V3, V4, V5] := Av.bother_row K2 (by omega)
        replace K3 : Blk (X8.setRow (X1.heap.size) #[.int .i64 z.k, .slice z.A z.v.length z.c]) (w.heap.size + 1) 65 #[.int .i64 2, .bool false, .int .i64 x.k, .slice x.A x.v.length x.c] := Av.bother_row K3 (by omega)
        replace K4 : Blk (X8.setRow (X1.heap.size) #[.int .i64 z.k, .slice z.A z.v.length z.c]) (w.heap.size + 2) 62 #[.int .i64 0, .int .i64 0, .slice none 0 0, .bool false, .bool false, .int .i64 0, .int .i64 0, .int .i64 0, .int .i64 0, .slice none 0 0, .bool false, .bool false, .int .i64 0, .int .i64 0, .slice none 0 0, .slice none 0 0, .slice none 0 0, .slice none 0 0] := Av.bother_row K4 (by omega)
        replace K6 : Blk (X8.setRow (X1.heap.size) #[.int .i64 z.k, .slice z.A z.v.length z.c]) (g5 + 1) 26 #[.int .i64 psn, .int .i64 pnesn, .int .i64 pmd, .int .i64 y.k, .slice y.A y.v.length y.c] := Av.bother_row K6 (by omega)
        replace K8 : Blk (X8.setRow (X1.heap.size) #[.int .i64 z.k, .slice z.A z.v.length z.c]) (X1.heap.size) 24 #[.int .i64 z.k, .slice z.A z.v.length z.c] := Av.bset_row K8
        replace K7 : Blk (X8.setRow (X1.heap.size) #[.int .i64 z.k, .slice z.A z.v.length z.c]) (X6.heap.size) 43 #[.int .i64 sn'', .int .i64 nesn'', V'', .bool op'', .bool em'', .int .i64 (ack'' : Int), .int .i64 (tak'' : Int)] := Av.bother_row K7 (by omega)
        replace BX : Below m w (X8.setRow (X1.heap.size) #[.int .i64 z.k, .slice z.A z.v.length z.c]) := below_setRow BX (by omega) _
        clear H9
        generalize X8.setRow (X1.heap.size) #[.int .i64 z.k, .slice z.A z.v.length z.c] = X9 at *
        refine hK.out _ _ ⟨K6, K2⟩ (fun hHeld => ?_)
        clear hK K
        try simp only [List.getElem_toArray, List.getElem_cons_zero, List.getElem_cons_succ, Act.put, List.setIfInBounds_toArray, List.set_cons_zero, List.set_cons_succ]
        refine wpAnyH_take (i := 15) (v := .bool F) rfl (by kernel_rfl) (by kernel_rfl) (by kernel_rfl) (fun _ _ _ h => h) (Or.inl ⟨by first | rfl | go_simp, by intro w9 hSw; (try dsimp only at hSw); go_simp⟩) (by assumption) ?_
        simp only [List.getElem_toArray, List.getElem_cons_zero, List.getElem_cons_succ, Act.put, List.setIfInBounds_toArray, List.set_cons_zero, List.set_cons_succ]
        refine wpAnyH_take (i := 16) (v := .bool Ak) rfl (by kernel_rfl) (by kernel_rfl) (by kernel_rfl) (fun _ _ _ h => h) (Or.inl ⟨by first | rfl | go_simp, by intro w9 hSw; (try dsimp only at hSw); go_simp⟩) (by assumption) ?_
        simp only [List.getElem_toArray, List.getElem_cons_zero, List.getElem_cons_succ, Act.put, List.setIfInBounds_toArray, List.set_cons_zero, List.set_cons_succ]
        refine wpAnyH_done (by kernel_rfl) ?_ _
        clear hHeld
        go_wp2_with fail
        go_meet
        exact ⟨X6.heap.size, X1.heap.size, V'', l'', z, rfl, rfl, rfl, by omega, by omega, oV'', hl'', hz, K2, K3, K4, K7, K8, HA, HZ, N8, BX⟩
    · skip
      go_simp
      have b9 := (Below.refl X0.heap.size X0).alloc (Nat.le_refl _) (.cells #[.int .i64 0, .int .i64 0, .slice none 0 0, .bool false, .bool false, .int .i64 0, .int .i64 0] 43)
      have K7 := Blk.fresh X0 43 #[.int .i64 0, .int .i64 0, .slice none 0 0, .bool false, .bool false, .int .i64 0, .int .i64 0]
      have hgK7 : g5 + 1 < X0.heap.size := K6.lt
      generalize X0.alloc (.cells #[.int .i64 0, .int .i64 0, .slice none 0 0, .bool false, .bool false, .int .i64 0, .int .i64 0] 43) = X10 at *
      replace K2 := K2.below b9 K2.lt
      replace K3 := K3.below b9 K3.lt
      replace K4 := K4.below b9 K4.lt
      replace K6 := K6.below b9 K6.lt
      replace BX := thenBm hmw BX b9
      replace HA := HA.below b9
      replace HY := HY.below b9
      clear b9
      refine hK.out _ _ ⟨K6, K2⟩ (fun hHeld => ?_)
      clear hK K
      try simp only [List.getElem_toArray, List.getElem_cons_zero, List.getElem_cons_succ, Act.put, List.setIfInBounds_toArray, List.set_cons_zero, List.set_cons_succ]
      refine wpAnyH_ready (rs := [5, 12]) (by kernel_rfl) (by simp) ?_
      refine AllReadyH.cons rfl (fun K hK => ?_) (AllReadyH.cons rfl (fun K hK => ?_) (AllReadyH.nil))
      · skip
        go_simp
        refine (HT.out X10 y _ _ HA HY.gp hy.out).mono ?_
        rintro e X11 ⟨V'', l'', z, rfl, hq'', hl'', hz, HZ, b9⟩
        replace HA := HA.set1 (by have := BX.size; omega) b9 hq''
        have oV'' : V''.oneCell' = true := qq_one hq''
        clear hq''
        replace K2 := K2.below b9 K2.lt
        replace K3 := K3.below b9 K3.lt
        replace K4 := K4.below b9 K4.lt
        replace K6 := K6.below b9 K6.lt
        replace K7 := K7.below b9 K7.lt
        replace BX := thenBm hmw BX b9
        clear b9
        refine hK.out _ _ ⟨K6, K2⟩ (fun hHeld => ?_)
        clear hK K
        try simp only [List.getElem_toArray, List.getElem_cons_zero, List.getElem_cons_succ, Act.put, List.setIfInBounds_toArray, List.set_cons_zero, List.set_cons_succ]
        refine wpAnyH_take (i := 6) (v := .tuple #[.agg #[.int .i64 sn'', .int .i64 nesn'', V'', .bool op'', .bool em'', .int .i64 (ack'' : Int), .int .i64 (tak'' : Int)], .agg #[.int .i64 z.k, .slice z.A z.v.length z.c], .bool F, .bool Ak]) rfl (by kernel_rfl) (by kernel_rfl) (by kernel_rfl) (fun _ _ _ h => h) (Or.inl ⟨by first | rfl | go_simp, by intro w9 hSw; (try dsimp only at hSw); go_simp⟩) (by assumption) ?_
        simp only [List.getElem_toArray, List.getElem_cons_zero, List.getElem_cons_succ, Act.put, List.setIfInBounds_toArray, List.set_cons_zero, List.set_cons_succ]
        refine wpAnyH_take (i := 7) (v := .agg #[.int .i64 sn'', .int .i64 nesn'', V'', .bool op'', .bool em'', .int .i64 (ack'' : Int), .int .i64 (tak'' : Int)]) rfl (by kernel_rfl) (by kernel_rfl) (by kernel_rfl) (fun _ _ _ h => h) (Or.inl ⟨by first | rfl | go_simp, by intro w9 hSw; (try dsimp only at hSw); go_simp⟩) (by assumption) ?_
        simp only [List.getElem_toArray, List.getElem_cons_zero, List.getElem_cons_succ, Act.put, List.setIfInBounds_toArray, List.set_cons_zero, List.set_cons_succ]
        refine wpAnyH_take (i := 8) (v := .agg #[.int .i64 z.k, .slice z.A z.v.length z.c]) rfl (by kernel_rfl) (by kernel_rfl) (by kernel_rfl) (fun _ _ _ h => h) (Or.inl ⟨by first | rfl | go_simp, by intro w9 hSw; (try dsimp only at hSw); go_simp⟩) (by assumption) ?_
        simp only [List.getElem_toArray, List.getElem_cons_zero, List.getElem_cons_succ, Act.put, List.setIfInBounds_toArray, List.set_cons_zero, List.set_cons_succ]
        refine wpAnyH_take (i := 9) (v := .bool F) rfl (by kernel_rfl) (by kernel_rfl) (by kernel_rfl) (fun _ _ _ h => h) (Or.inl ⟨by first | rfl | go_simp, by intro w9 hSw; (try dsimp only at hSw); go_simp⟩) (by assumption) ?_
        simp only [List.getElem_toArray, List.getElem_cons_zero, List.getElem_cons_succ, Act.put, List.setIfInBounds_toArray, List.set_cons_zero, List.set_cons_succ]
        refine wpAnyH_take (i := 10) (v := .bool Ak) rfl (by kernel_rfl) (by kernel_rfl) (by kernel_rfl) (fun _ _ _ h => h) (Or.inl ⟨by first | rfl | go_simp, by intro w9 hSw; (try dsimp only at hSw); go_simp⟩) (by assumption) ?_
        simp only [List.getElem_toArray, List.getElem_cons_zero, List.getElem_cons_succ, Act.put, List.setIfInBounds_toArray, List.set_cons_zero, List.set_cons_succ]
        refine wpAnyH_ready (rs := [12]) (by kernel_rfl) (by simp) ?_
        refine AllReadyH.cons rfl (fun K hK => ?_) (AllReadyH.nil)
        go_simp
        have b9 := (Below.refl X11.heap.size X11).alloc (Nat.le_refl _) (.cells #[.int .i64 0, .slice none 0 0] 24)
        have K8 := Blk.fresh X11 24 #[.int .i64 0, .slice none 0 0]
        have hgK8 : g5 + 1 < X11.heap.size := K6.lt
        have hK7a : X0.heap.size < X11.heap.size := K7.lt
        have N8 := HA.nin (Nat.le_refl _)
        generalize X11.alloc (.cells #[.int .i64 0, .slice none 0 0] 24) = X12 at *
        replace K2 := K2.below b9 K2.lt
        replace K3 := K3.below b9 K3.lt
        replace K4 := K4.below b9 K4.lt
        replace K6 := K6.below b9 K6.lt
        replace K7 := K7.below b9 K7.lt
        replace BX := thenBm hmw BX b9
        replace HA := HA.below b9
        replace HZ := HZ.below b9
        clear b9
        refine hK.out _ _ ⟨K6, K2⟩ (fun hHeld => ?_)
        clear hK K
        try simp only [List.getElem_toArray, List.getElem_cons_zero, List.getElem_cons_succ, Act.put, List.setIfInBounds_toArray, List.set_cons_zero, List.set_cons_succ]
        refine wpAnyH_ready (rs := [13]) (by kernel_rfl) (by simp) ?_
        refine AllReadyH.cons rfl (fun K hK => ?_) (AllReadyH.nil)
        have H9 : (#[.int .i64 sn'', .int .i64 nesn'', V'', .bool op'', .bool em'', .int .i64 (ack'' : Int), .int .i64 (tak'' : Int)] : Array Value).all (·.oneCell') = true := by rw [← Array.all_toList]; simp only [List.all_cons, List.all_nil, oV'', Bool.and_true, Bool.and_self]; rfl
        refine Av.step_store_row rfl 43 (.tmp 11) (.tmp 91) rfl (X0.heap.size) #[.int .i64 sn'', .int .i64 nesn'', V'', .bool op'', .bool em'', .int .i64 (ack'' : Int), .int .i64 (tak'' : Int)] rfl rfl 43 _ K7 (by kernel_rfl) rfl H9 ?_
        replace HA := HA.step (stp_row K7 #[.int .i64 sn'', .int .i64 nesn'', V'', .bool op'', .bool em'', .int .i64 (ack'' : Int), .int .i64 (tak'' : Int)]) (by decide) (by decide) (by omega)
        replace HZ := HZ.step (stp_row K7 #[.int .i64 sn'', .int .i64 nesn'', V'', .bool op'', .bool em'', .int .i64 (ack'' : Int), .int .i64 (tak'' : Int)]) (by decide) (Nat.zero_le _)
        replace K2 : Blk (X12.setRow (X0.heap.size) #[.int .i64 sn'', .int .i64 nesn'', V'', .bool op'', .bool em'', .int .i64 (ack'' : Int), .int .i64 (tak'' : Int)]) (w.heap.size) 62 #[.int .i64 sn', .int .i64 nesn', V', .bool op', .bool em', .int .i64 (ack' : Int), .int .i64 (tak' : Int), .int .i64 sn1, .int .i64 nesn1, V1, .bool op1, .bool em1, .int .i64 (ack1 : Int), .int .i64 (tak1 : Int), V2, V3, V4, V5] := Av.bother_row K2 (by omega)
        replace K3 : Blk (X12.setRow (X0.heap.size) #[.int .i64 sn'', .int .i64 nesn'', V'', .bool op'', .bool em'', .int .i64 (ack'' : Int), .int .i64 (tak'' : Int)]) (w.heap.size + 1) 65 #[.int .i64 2, .bool false, .int .i64 x.k, .slice x.A x.v.length x.c] := Av.bother_row K3 (by omega)
        replace K4 : Blk (X12.setRow (X0.heap.size) #[.int .i64 sn'', .int .i64 nesn'', V'', .bool op'', .bool em'', .int .i64 (ack'' : Int), .int .i64 (tak'' : Int)]) (w.heap.size + 2) 62 #[.int .i64 0, .int .i64 0, .slice none 0 0, .bool false, .bool false, .int .i64 0, .int .i64 0, .int .i64 0, .int .i64 0, .slice none 0 0, .bool false, .bool false, .int .i64 0, .int .i64 0, .slice none 0 0, .slice none 0 0, .slice none 0 0, .slice none 0 0] := Av.bother_row K4 (by omega)
        replace K6 : Blk (X12.setRow (X0.heap.size) #[.int .i64 sn'', .int .i64 nesn'', V'', .bool op'', .bool em'', .int .i64 (ack'' : Int), .int .i64 (tak'' : Int)]) (g5 + 1) 26 #[.int .i64 psn, .int .i64 pnesn, .int .i64 pmd, .int .i64 y.k, .slice y.A y.v.length y.c] := Av.bother_row K6 (by omega)
        replace K7 : Blk (X12.setRow (X0.heap.size) #[.int .i64 sn'', .int .i64 nesn'', V'', .bool op'', .bool em'', .int .i64 (ack'' : Int), .int .i64 (tak'' : Int)]) (X0.heap.size) 43 #[.int .i64 sn'', .int .i64 nesn'', V'', .bool op'', .bool em'', .int .i64 (ack'' : Int), .int .i64 (tak'' : Int)] := Av.bset_row K7
        replace K8 : Blk (X12.setRow (X0.heap.size) #[.int .i64 sn'', .int .i64 nesn'', V'', .bool op'', .bool em'', .int .i64 (ack'' : Int), .int .i64 (tak'' : Int)]) (X11.heap.size) 24 #[.int .i64 0, .slice none 0 0] := Av.bother_row K8 (by omega)
        replace BX : Below m w (X12.setRow (X0.heap.size) #[.int .i64 sn'', .int .i64 nesn'', V'', .bool op'', .bool em'', .int .i64 (ack'' : Int), .int .i64 (tak'' : Int)]) := below_setRow BX (by omega) _
        clear H9
        generalize X12.setRow (X0.heap.size) #[.int .i64 sn'', .int .i64 nesn'', V'', .bool op'', .bool em'', .int .i64 (ack'' : Int), .int .i64 (tak'' : Int)] = X13 at *
        refine hK.out _ _ ⟨K6, K2⟩ (fun hHeld => ?_)
        clear hK K
        try simp only [List.getElem_toArray, List.getElem_cons_zero, List.getElem_cons_succ, Act.put, List.setIfInBounds_toArray, List.set_cons_zero, List.set_cons_succ]
        refine wpAnyH_ready (rs := [14]) (by kernel_rfl) (by simp) ?_
        refine AllReadyH.cons rfl (fun K hK => ?_) (AllReadyH.nil)
        have H9 : (#[.int .i64 z.k, .slice z.A z.v.length z.c] : Array Value).all (·.oneCell') = true := by rw [← Array.all_toList]; rfl
        refine Av.step_store_row rfl 24 (.tmp 12) (.tmp 92) rfl (X11.heap.size) #[.int .i64 z.k, .slice z.A z.v.length z.c] rfl rfl 24 _ K8 (by kernel_rfl) rfl H9 ?_
        replace HA := HA.step_nin (stp_row K8 #[.int .i64 z.k, .slice z.A z.v.length z.c]) (by decide) N8 (by omega)
        replace HZ := HZ.step (stp_row K8 #[.int .i64 z.k, .slice z.A z.v.length z.c]) (by decide) (Nat.zero_le _)
        replace K2 : Blk (X13.setRow (X11.heap.size) #[.int .i64 z.k, .slice z.A z.v.length z.c]) (w.heap.size) 62 #[.int .i64 sn', .int .i64 nesn', V', .bool op', .bool em', .int .i64 (ack' : Int), .int .i64 (tak' : Int), .int .i64 sn1, .int .i64 nesn1, V1, .bool op1, .bool em1, .int .i64 (ack1 : Int), .int .i64 (tak1 : Int), V2, V3, V4, V5] := Av.bother_row K2 (by omega)
        replace K3 : Blk (X13.setRow (X11.heap.size) #[.int .i64 z.k, .slice z.A z.v.length z.c]) (w.heap.size + 1) 65 #[.int .i64 2, .bool false, .int .i64 x.k, .slice x.A x.v.length x.c] := Av.bother_row K3 (by omega)
        replace K4 : Blk (X13.setRow (X11.heap.size) #[.int .i64 z.k, .slice z.A z.v.length z.c]) (w.heap.size + 2) 62 #[.int .i64 0, .int .i64 0, .slice none 0 0, .bool false, .bool false, .int .i64 0, .int .i64 0, .int .i64 0, .int .i64 0, .slice none 0 0, .bool false, .bool false, .int .i64 0, .int .i64 0, .slice none 0 0, .slice none 0 0, .slice none 0 0, .slice none 0 0] := Av.bother_row K4 (by omega)
        replace K6 : Blk (X13.setRow (X11.heap.size) #[.int .i64 z.k, .slice z.A z.v.length z.c]) (g5 + 1) 26 #[.int .i64 psn, .int .i64 pnesn, .int .i64 pmd, .int .i64 y.k, .slice y.A y.v.length y.c] := Av.bother_row K6 (by omega)
        replace K7 : Blk (X13.setRow (X11.heap.size) #[.int .i64 z.k, .slice z.A z.v.length z.c]) (X0.heap.size) 43 #[.int .i64 sn'', .int .i64 nesn'', V'', .bool op'', .bool em'', .int .i64 (ack'' : Int), .int .i64 (tak'' : Int)] := Av.bother_row K7 (by omega)
        replace K8 : Blk (X13.setRow (X11.heap.size) #[.int .i64 z.k, .slice z.A z.v.length z.c]) (X11.heap.size) 24 #[.int .i64 z.k, .slice z.A z.v.length z.c] := Av.bset_row K8
        replace BX : Below m w (X13.setRow (X11.heap.size) #[.int .i64 z.k, .slice z.A z.v.length z.c]) := below_setRow BX (by omega) _
        clear H9
        generalize X13.setRow (X11.heap.size) #[.int .i64 z.k, .slice z.A z.v.length z.c] = X14 at *
        refine hK.out _ _ ⟨K6, K2⟩ (fun hHeld => ?_)
        clear hK K
        try simp only [List.getElem_toArray, List.getElem_cons_zero, List.getElem_cons_succ, Act.put, List.setIfInBounds_toArray, List.set_cons_zero, List.set_cons_succ]
        refine wpAnyH_take (i := 15) (v := .bool F) rfl (by kernel_rfl) (by kernel_rfl) (by kernel_rfl) (fun _ _ _ h => h) (Or.inl ⟨by first | rfl | go_simp, by intro w9 hSw; (try dsimp only at hSw); go_simp⟩) (by assumption) ?_
        simp only [List.getElem_toArray, List.getElem_cons_zero, List.getElem_cons_succ, Act.put, List.setIfInBounds_toArray, List.set_cons_zero, List.set_cons_succ]
        refine wpAnyH_take (i := 16) (v := .bool Ak) rfl (by kernel_rfl) (by kernel_rfl) (by kernel_rfl) (fun _ _ _ h => h) (Or.inl ⟨by first | rfl | go_simp, by intro w9 hSw; (try dsimp only at hSw); go_simp⟩) (by assumption) ?_
        simp only [List.getElem_toArray, List.getElem_cons_zero, List.getElem_cons_succ, Act.put, List.setIfInBounds_toArray, List.set_cons_zero, List.set_cons_succ]
        refine wpAnyH_done (by kernel_rfl) ?_ _
        clear hHeld
        go_wp2_with fail
        go_meet
        exact ⟨X0.heap.size, X11.heap.size, V'', l'', z, rfl, rfl, rfl, by omega, by omega, oV'', hl'', hz, K2, K3, K4, K7, K8, HA, HZ, N8, BX⟩
      · skip
        go_simp
        have b9 := (Below.refl X10.heap.size X10).alloc (Nat.le_refl _) (.cells #[.int .i64 0, .slice none 0 0] 24)
        have K8 := Blk.fresh X10 24 #[.int .i64 0, .slice none 0 0]
        have hgK8 : g5 + 1 < X10.heap.size := K6.lt
        have hK7a : X0.heap.size < X10.heap.size := K7.lt
        have N8 := HA.nin (Nat.le_refl _)
        generalize X10.alloc (.cells #[.int .i64 0, .slice none 0 0] 24) = X15 at *
        replace K2 := K2.below b9 K2.lt
        replace K3 := K3.below b9 K3.lt
        replace K4 := K4.below b9 K4.lt
        replace K6 := K6.below b9 K6.lt
        replace K7 := K7.below b9 K7.lt
        replace BX := thenBm hmw BX b9
        replace HA := HA.below b9
        replace HY := HY.below b9
        clear b9
        refine hK.out _ _ ⟨K6, K2⟩ (fun hHeld => ?_)
        clear hK K
        try simp only [List.getElem_toArray, List.getElem_cons_zero, List.getElem_cons_succ, Act.put, List.setIfInBounds_toArray, List.set_cons_zero, List.set_cons_succ]
        refine wpAnyH_ready (rs := [5]) (by kernel_rfl) (by simp) ?_
        refine AllReadyH.cons rfl (fun K hK => ?_) (AllReadyH.nil)
        go_simp
        refine (HT.out X15 y _ _ HA HY.gp hy.out).mono ?_
        rintro e X16 ⟨V'', l'', z, rfl, hq'', hl'', hz, HZ, b9⟩
        replace HA := HA.set1 (by have := BX.size; omega) b9 hq''
        replace N8 := N8.set1 (fun k hk => (hq''.2.2 k hk).1) K8.lt
        have oV'' : V''.oneCell' = true := qq_one hq''
        clear hq''
        replace K2 := K2.below b9 K2.lt
        replace K3 := K3.below b9 K3.lt
        replace K4 := K4.below b9 K4.lt
        replace K6 := K6.below b9 K6.lt
        replace K7 := K7.below b9 K7.lt
        replace K8 := K8.below b9 K8.lt
        replace BX := thenBm hmw BX b9
        clear b9
        refine hK.out _ _ ⟨K6, K2⟩ (fun hHeld => ?_)
        clear hK K
        try simp only [List.getElem_toArray, List.getElem_cons_zero, List.getElem_cons_succ, Act.put, List.setIfInBounds_toArray, List.set_cons_zero, List.set_cons_succ]
        refine wpAnyH_take (i := 6) (v := .tuple #[.agg #[.int .i64 sn'', .int .i64 nesn'', V'', .bool op'', .bool em'', .int .i64 (ack'' : Int), .int .i64 (tak'' : Int)], .agg #[.int .i64 z.k, .slice z.A z.v.length z.c], .bool F, .bool Ak]) rfl (by kernel_rfl) (by kernel_rfl) (by kernel_rfl) (fun _ _ _ h => h) (Or.inl ⟨by first | rfl | go_simp, by intro w9 hSw; (try dsimp only at hSw); go_simp⟩) (by assumption) ?_
        simp only [List.getElem_toArray, List.getElem_cons_zero, List.getElem_cons_succ, Act.put, List.setIfInBounds_toArray, List.set_cons_zero, List.set_cons_succ]
        refine wpAnyH_take (i := 7) (v := .agg #[.int .i64 sn'', .int .i64 nesn'', V'', .bool op'', .bool em'', .int .i64 (ack'' : Int), .int .i64 (tak'' : Int)]) rfl (by kernel_rfl) (by kernel_rfl) (by kernel_rfl) (fun _ _ _ h => h) (Or.inl ⟨by first | rfl | go_simp, by intro w9 hSw; (try dsimp only at hSw); go_simp⟩) (by assumption) ?_
        simp only [List.getElem_toArray, List.getElem_cons_zero, List.getElem_cons_succ, Act.put, List.setIfInBounds_toArray, List.set_cons_zero, List.set_cons_succ]
        refine wpAnyH_take (i := 8) (v := .agg #[.int .i64 z.k, .slice z.A z.v.length z.c]) rfl (by kernel_rfl) (by kernel_rfl) (by kernel_rfl) (fun _ _ _ h => h) (Or.inl ⟨by first | rfl | go_simp, by intro w9 hSw; (try dsimp only at hSw); go_simp⟩) (by assumption) ?_
        simp only [List.getElem_toArray, List.getElem_cons_zero, List.getElem_cons_succ, Act.put, List.setIfInBounds_toArray, List.set_cons_zero, List.set_cons_succ]
        refine wpAnyH_take (i := 9) (v := .bool F) rfl (by kernel_rfl) (by kernel_rfl) (by kernel_rfl) (fun _ _ _ h => h) (Or.inl ⟨by first | rfl | go_simp, by intro w9 hSw; (try dsimp only at hSw); go_simp⟩) (by assumption) ?_
        simp only [List.getElem_toArray, List.getElem_cons_zero, List.getElem_cons_succ, Act.put, List.setIfInBounds_toArray, List.set_cons_zero, List.set_cons_succ]
        refine wpAnyH_take (i := 10) (v := .bool Ak) rfl (by kernel_rfl) (by kernel_rfl) (by kernel_rfl) (fun _ _ _ h => h) (Or.inl ⟨by first | rfl | go_simp, by intro w9 hSw; (try dsimp only at hSw); go_simp⟩) (by assumption) ?_
        simp only [List.getElem_toArray, List.getElem_cons_zero, List.getElem_cons_succ, Act.put, List.setIfInBounds_toArray, List.set_cons_zero, List.set_cons_succ]
        refine wpAnyH_ready (rs := [13]) (by kernel_rfl) (by simp) ?_
        refine AllReadyH.cons rfl (fun K hK => ?_) (AllReadyH.nil)
        have H9 : (#[.int .i64 sn'', .int .i64 nesn'', V'', .bool op'', .bool em'', .int .i64 (ack'' : Int), .int .i64 (tak'' : Int)] : Array Value).all (·.oneCell') = true := by rw [← Array.all_toList]; simp only [List.all_cons, List.all_nil, oV'', Bool.and_true, Bool.and_self]; rfl
        refine Av.step_store_row rfl 43 (.tmp 11) (.tmp 91) rfl (X0.heap.size) #[.int .i64 sn'', .int .i64 nesn'', V'', .bool op'', .bool em'', .int .i64 (ack'' : Int), .int .i64 (tak'' : Int)] rfl rfl 43 _ K7 (by kernel_rfl) rfl H9 ?_
        replace HA := HA.step (stp_row K7 #[.int .i64 sn'', .int .i64 nesn'', V'', .bool op'', .bool em'', .int .i64 (ack'' : Int), .int .i64 (tak'' : Int)]) (by decide) (by decide) (by omega)
        replace HZ := HZ.step (stp_row K7 #[.int .i64 sn'', .int .i64 nesn'', V'', .bool op'', .bool em'', .int .i64 (ack'' : Int), .int .i64 (tak'' : Int)]) (by decide) (Nat.zero_le _)
        replace K2 : Blk (X16.setRow (X0.heap.size) #[.int .i64 sn'', .int .i64 nesn'', V'', .bool op'', .bool em'', .int .i64 (ack'' : Int), .int .i64 (tak'' : Int)]) (w.heap.size) 62 #[.int .i64 sn', .int .i64 nesn', V', .bool op', .bool em', .int .i64 (ack' : Int), .int .i64 (tak' : Int), .int .i64 sn1, .int .i64 nesn1, V1, .bool op1, .bool em1, .int .i64 (ack1 : Int), .int .i64 (tak1 : Int), V2, V3, V4, V5] := Av.bother_row K2 (by omega)
        replace K3 : Blk (X16.setRow (X0.heap.size) #[.int .i64 sn'', .int .i64 nesn'', V'', .bool op'', .bool em'', .int .i64 (ack'' : Int), .int .i64 (tak'' : Int)]) (w.heap.size + 1) 65 #[.int .i64 2, .bool false, .int .i64 x.k, .slice x.A x.v.length x.c] := Av.bother_row K3 (by omega)
        replace K4 : Blk (X16.setRow (X0.heap.size) #[.int .i64 sn'', .int .i64 nesn'', V'', .bool op'', .bool em'', .int .i64 (ack'' : Int), .int .i64 (tak'' : Int)]) (w.heap.size + 2) 62 #[.int .i64 0, .int .i64 0, .slice none 0 0, .bool false, .bool false, .int .i64 0, .int .i64 0, .int .i64 0, .int .i64 0, .slice none 0 0, .bool false, .bool false, .int .i64 0, .int .i64 0, .slice none 0 0, .slice none 0 0, .slice none 0 0, .slice none 0 0] := Av.bother_row K4 (by omega)
        replace K6 : Blk (X16.setRow (X0.heap.size) #[.int .i64 sn'', .int .i64 nesn'', V'', .bool op'', .bool em'', .int .i64 (ack'' : Int), .int .i64 (tak'' : Int)]) (g5 + 1) 26 #[.int .i64 psn, .int .i64 pnesn, .int .i64 pmd, .int .i64 y.k, .slice y.A y.v.length y.c] := Av.bother_row K6 (by omega)
        replace K7 : Blk (X16.setRow (X0.heap.size) #[.int .i64 sn'', .int .i64 nesn'', V'', .bool op'', .bool em'', .int .i64 (ack'' : Int), .int .i64 (tak'' : Int)]) (X0.heap.size) 43 #[.int .i64 sn'', .int .i64 nesn'', V'', .bool op'', .bool em'', .int .i64 (ack'' : Int), .int .i64 (tak'' : Int)] := Av.bset_row K7
        replace K8 : Blk (X16.setRow (X0.heap.size) #[.int .i64 sn'', .int .i64 nesn'', V'', .bool op'', .bool em'', .int .i64 (ack'' : Int), .int .i64 (tak'' : Int)]) (X10.heap.size) 24 #[.int .i64 0, .slice none 0 0] := Av.bother_row K8 (by omega)
        replace BX : Below m w (X16.setRow (X0.heap.size) #[.int .i64 sn'', .int .i64 nesn'', V'', .bool op'', .bool em'', .int .i64 (ack'' : Int), .int .i64 (tak'' : Int)]) := below_setRow BX (by omega) _
        clear H9
        generalize X16.setRow (X0.heap.size) #[.int .i64 sn'', .int .i64 nesn'', V'', .bool op'', .bool em'', .int .i64 (ack'' : Int), .int .i64 (tak'' : Int)] = X17 at *
        refine hK.out _ _ ⟨K6, K2⟩ (fun hHeld => ?_)
        clear hK K
        try simp only [List.getElem_toArray, List.getElem_cons_zero, List.getElem_cons_succ, Act.put, List.setIfInBounds_toArray, List.set_cons_zero, List.set_cons_succ]
        refine wpAnyH_ready (rs := [14]) (by kernel_rfl) (by simp) ?_
        refine AllReadyH.cons rfl (fun K hK => ?_) (AllReadyH.nil)
        have H9 : (#[.int .i64 z.k, .slice z.A z.v.length z.c] : Array Value).all (·.oneCell') = true := by rw [← Array.all_toList]; rfl
        refine Av.step_store_row rfl 24 (.tmp 12) (.tmp 92) rfl (X10.heap.size) #[.int .i64 z.k, .slice z.A z.v.length z.c] rfl rfl 24 _ K8 (by kernel_rfl) rfl H9 ?_
        replace HA := HA.step_nin (stp_row K8 #[.int .i64 z.k, .slice z.A z.v.length z.c]) (by decide) N8 (by omega)
        replace HZ := HZ.step (stp_row K8 #[.int .i64 z.k, .slice z.A z.v.length z.c]) (by decide) (Nat.zero_le _)
        replace K2 : Blk (X17.setRow (X10.heap.size) #[.int .i64 z.k, .slice z.A z.v.length z.c]) (w.heap.size) 62 #[.int .i64 sn', .int .i64 nesn', V', .bool op', .bool em', .int .i64 (ack' : Int), .int .i64 (tak' : Int), .int .i64 sn1, .int .i64 nesn1, V1, .bool op1, .bool em1, .int .i64 (ack1 : Int), .int .i64 (tak1 : Int), V2, V3, V4, V5] := Av.bother_row K2 (by omega)
        replace K3 : Blk (X17.setRow (X10.heap.size) #[.int .i64 z.k, .slice z.A z.v.length z.c]) (w.heap.size + 1) 65 #[.int .i64 2, .bool false, .int .i64 x.k, .slice x.A x.v.length x.c] := Av.bother_row K3 (by omega)
        replace K4 : Blk (X17.setRow (X10.heap.size) #[.int .i64 z.k, .slice z.A z.v.length z.c]) (w.heap.size + 2) 62 #[.int .i64 0, .int .i64 0, .slice none 0 0, .bool false, .bool false, .int .i64 0, .int .i64 0, .int .i64 0, .int .i64 0, .slice none 0 0, .bool false, .bool false, .int .i64 0, .int .i64 0, .slice none 0 0, .slice none 0 0, .slice none 0 0, .slice none 0 0] := Av.bother_row K4 (by omega)
        replace K6 : Blk (X17.setRow (X10.heap.size) #[.int .i64 z.k, .slice z.A z.v.length z.c]) (g5 + 1) 26 #[.int .i64 psn, .int .i64 pnesn, .int .i64 pmd, .int .i64 y.k, .slice y.A y.v.length y.c] := Av.bother_row K6 (by omega)
        replace K7 : Blk (X17.setRow (X10.heap.size) #[.int .i64 z.k, .slice z.A z.v.length z.c]) (X0.heap.size) 43 #[.int .i64 sn'', .int .i64 nesn'', V'', .bool op'', .bool em'', .int .i64 (ack'' : Int), .int .i64 (tak'' : Int)] := Av.bother_row K7 (by omega)
        replace K8 : Blk (X17.setRow (X10.heap.size) #[.int .i64 z.k, .slice z.A z.v.length z.c]) (X10.heap.size) 24 #[.int .i64 z.k, .slice z.A z.v.length z.c] := Av.bset_row K8
        replace BX : Below m w (X17.setRow (X10.heap.size) #[.int .i64 z.k, .slice z.A z.v.length z.c]) := below_setRow BX (by omega) _
        clear H9
        generalize X17.setRow (X10.heap.size) #[.int .i64 z.k, .slice z.A z.v.length z.c] = X18 at *
        refine hK.out _ _ ⟨K6, K2⟩ (fun hHeld => ?_)
        clear hK K
        try simp only [List.getElem_toArray, List.getElem_cons_zero, List.getElem_cons_succ, Act.put, List.setIfInBounds_toArray, List.set_cons_zero, List.set_cons_succ]
        refine wpAnyH_take (i := 15) (v := .bool F) rfl (by kernel_rfl) (by kernel_rfl) (by kernel_rfl) (fun _ _ _ h => h) (Or.inl ⟨by first | rfl | go_simp, by intro w9 hSw; (try dsimp only at hSw); go_simp⟩) (by assumption) ?_
        simp only [List.getElem_toArray, List.getElem_cons_zero, List.getElem_cons_succ, Act.put, List.setIfInBounds_toArray, List.set_cons_zero, List.set_cons_succ]
        refine wpAnyH_take (i := 16) (v := .bool Ak) rfl (by kernel_rfl) (by kernel_rfl) (by kernel_rfl) (fun _ _ _ h => h) (Or.inl ⟨by first | rfl | go_simp, by intro w9 hSw; (try dsimp only at hSw); go_simp⟩) (by assumption) ?_
        simp only [List.getElem_toArray, List.getElem_cons_zero, List.getElem_cons_succ, Act.put, List.setIfInBounds_toArray, List.set_cons_zero, List.set_cons_succ]
        refine wpAnyH_done (by kernel_rfl) ?_ _
        clear hHeld
        go_wp2_with fail
        go_meet
        exact ⟨X0.heap.size, X10.heap.size, V'', l'', z, rfl, rfl, rfl, by omega, by omega, oV'', hl'', hz, K2, K3, K4, K7, K8, HA, HZ, N8, BX⟩
    · skip
      go_simp
      have b9 := (Below.refl X0.heap.size X0).alloc (Nat.le_refl _) (.cells #[.int .i64 0, .slice none 0 0] 24)
      have K8 := Blk.fresh X0 24 #[.int .i64 0, .slice none 0 0]
      have hgK8 : g5 + 1 < X0.heap.size := K6.lt
      have N8 := HA.nin (Nat.le_refl _)
      generalize X0.alloc (.cells #[.int .i64 0, .slice none 0 0] 24) = X19 at *
      replace K2 := K2.below b9 K2.lt
      replace K3 := K3.below b9 K3.lt
      replace K4 := K4.below b9 K4.lt
      replace K6 := K6.below b9 K6.lt
      replace BX := thenBm hmw BX b9
      replace HA := HA.below b9
      replace HY := HY.below b9
      clear b9
      refine hK.out _ _ ⟨K6, K2⟩ (fun hHeld => ?_)
      clear hK K
      try simp only [List.getElem_toArray, List.getElem_cons_zero, List.getElem_cons_succ, Act.put, List.setIfInBounds_toArray, List.set_cons_zero, List.set_cons_succ]
      refine wpAnyH_ready (rs := [5, 11]) (by kernel_rfl) (by simp) ?_
      refine AllReadyH.cons rfl (fun K hK => ?_) (AllReadyH.cons rfl (fun K hK => ?_) (AllReadyH.nil))
      · skip
        go_simp
        refine (HT.out X19 y _ _ HA HY.gp hy.out).mono ?_
        rintro e X20 ⟨V'', l'', z, rfl, hq'', hl'', hz, HZ, b9⟩
        replace HA := HA.set1 (by have := BX.size; omega) b9 hq''
        replace N8 := N8.set1 (fun k hk => (hq''.2.2 k hk).1) K8.lt
        have oV'' : V''.oneCell' = true := qq_one hq''
        clear hq''
        replace K2 := K2.below b9 K2.lt
        replace K3 := K3.below b9 K3.lt
        replace K4 := K4.below b9 K4.lt
        replace K6 := K6.below b9 K6.lt
        replace K8 := K8.below b9 K8.lt
        replace BX := thenBm hmw BX b9
        clear b9
        refine hK.out _ _ ⟨K6, K2⟩ (fun hHeld => ?_)
        clear hK K
        try simp only [List.getElem_toArray, List.getElem_cons_zero, List.getElem_cons_succ, Act.put, List.setIfInBounds_toArray, List.set_cons_zero, List.set_cons_succ]
        refine wpAnyH_take (i := 6) (v := .tuple #[.agg #[.int .i64 sn'', .int .i64 nesn'', V'', .bool op'', .bool em'', .int .i64 (ack'' : Int), .int .i64 (tak'' : Int)], .agg #[.int .i64 z.k, .slice z.A z.v.length z.c], .bool F, .bool Ak]) rfl (by kernel_rfl) (by kernel_rfl) (by kernel_rfl) (fun _ _ _ h => h) (Or.inl ⟨by first | rfl | go_simp, by intro w9 hSw; (try dsimp only at hSw); go_simp⟩) (by assumption) ?_
        simp only [List.getElem_toArray, List.getElem_cons_zero, List.getElem_cons_succ, Act.put, List.setIfInBounds_toArray, List.set_cons_zero, List.set_cons_succ]
        refine wpAnyH_take (i := 7) (v := .agg #[.int .i64 sn'', .int .i64 nesn'', V'', .bool op'', .bool em'', .int .i64 (ack'' : Int), .int .i64 (tak'' : Int)]) rfl (by kernel_rfl) (by kernel_rfl) (by kernel_rfl) (fun _ _ _ h => h) (Or.inl ⟨by first | rfl | go_simp, by intro w9 hSw; (try dsimp only at hSw); go_simp⟩) (by assumption) ?_
        simp only [List.getElem_toArray, List.getElem_cons_zero, List.getElem_cons_succ, Act.put, List.setIfInBounds_toArray, List.set_cons_zero, List.set_cons_succ]
        refine wpAnyH_take (i := 8) (v := .agg #[.int .i64 z.k, .slice z.A z.v.length z.c]) rfl (by kernel_rfl) (by kernel_rfl) (by kernel_rfl) (fun _ _ _ h => h) (Or.inl ⟨by first | rfl | go_simp, by intro w9 hSw; (try dsimp only at hSw); go_simp⟩) (by assumption) ?_
        simp only [List.getElem_toArray, List.getElem_cons_zero, List.getElem_cons_succ, Act.put, List.setIfInBounds_toArray, List.set_cons_zero, List.set_cons_succ]
        refine wpAnyH_take (i := 9) (v := .bool F) rfl (by kernel_rfl) (by kernel_rfl) (by kernel_rfl) (fun _ _ _ h => h) (Or.inl ⟨by first | rfl | go_simp, by intro w9 hSw; (try dsimp only at hSw); go_simp⟩) (by assumption) ?_
        simp only [List.getElem_toArray, List.getElem_cons_zero, List.getElem_cons_succ, Act.put, List.setIfInBounds_toArray, List.set_cons_zero, List.set_cons_succ]
        refine wpAnyH_take (i := 10) (v := .bool Ak) rfl (by kernel_rfl) (by kernel_rfl) (by kernel_rfl) (fun _ _ _ h => h) (Or.inl ⟨by first | rfl | go_simp, by intro w9 hSw; (try dsimp only at hSw); go_simp⟩) (by assumption) ?_
        simp only [List.getElem_toArray, List.getElem_cons_zero, List.getElem_cons_succ, Act.put, List.setIfInBounds_toArray, List.set_cons_zero, List.set_cons_succ]
        refine wpAnyH_ready (rs := [11]) (by kernel_rfl) (by simp) ?_
        refine AllReadyH.cons rfl (fun K hK => ?_) (AllReadyH.nil)
        go_simp
        have b9 := (Below.refl X20.heap.size X20).alloc (Nat.le_refl _) (.cells #[.int .i64 0, .int .i64 0, .slice none 0 0, .bool false, .bool false, .int .i64 0, .int .i64 0] 43)
        have K7 := Blk.fresh X20 43 #[.int .i64 0, .int .i64 0, .slice none 0 0, .bool false, .bool false, .int .i64 0, .int .i64 0]
        have hgK7 : g5 + 1 < X20.heap.size := K6.lt
        have hK8a : X0.heap.size < X20.heap.size := K8.lt
        generalize X20.alloc (.cells #[.int .i64 0, .int .i64 0, .slice none 0 0, .bool false, .bool false, .int .i64 0, .int .i64 0] 43) = X21 at *
        replace K2 := K2.below b9 K2.lt
        replace K3 := K3.below b9 K3.lt
        replace K4 := K4.below b9 K4.lt
        replace K6 := K6.below b9 K6.lt
        replace K8 := K8.below b9 K8.lt
        replace BX := thenBm hmw BX b9
        replace HA := HA.below b9
        replace HZ := HZ.below b9
        clear b9
        refine hK.out _ _ ⟨K6, K2⟩ (fun hHeld => ?_)
        clear hK K
        try simp only [List.getElem_toArray, List.getElem_cons_zero, List.getElem_cons_succ, Act.put, List.setIfInBounds_toArray, List.set_cons_zero, List.set_cons_succ]
        refine wpAnyH_ready (rs := [13]) (by kernel_rfl) (by simp) ?_
        refine AllReadyH.cons rfl (fun K hK => ?_) (AllReadyH.nil)
        have H9 : (#[.int .i64 sn'', .int .i64 nesn'', V'', .bool op'', .bool em'', .int .i64 (ack'' : Int), .int .i64 (tak'' : Int)] : Array Value).all (·.oneCell') = true := by rw [← Array.all_toList]; simp only [List.all_cons, List.all_nil, oV'', Bool.and_true, Bool.and_self]; rfl
        refine Av.step_store_row rfl 43 (.tmp 11) (.tmp 91) rfl (X20.heap.size) #[.int .i64 sn'', .int .i64 nesn'', V'', .bool op'', .bool em'', .int .i64 (ack'' : Int), .int .i64 (tak'' : Int)] rfl rfl 43 _ K7 (by kernel_rfl) rfl H9 ?_
        replace HA := HA.step (stp_row K7 #[.int .i64 sn'', .int .i64 nesn'', V'', .bool op'', .bool em'', .int .i64 (ack'' : Int), .int .i64 (tak'' : Int)]) (by decide) (by decide) (by omega)
        replace HZ := HZ.step (stp_row K7 #[.int .i64 sn'', .int .i64 nesn'', V'', .bool op'', .bool em'', .int .i64 (ack'' : Int), .int .i64 (tak'' : Int)]) (by decide) (Nat.zero_le _)
        replace K2 : Blk (X21.setRow (X20.heap.size) #[.int .i64 sn'', .int .i64 nesn'', V'', .bool op'', .bool em'', .int .i64 (ack'' : Int), .int .i64 (tak'' : Int)]) (w.heap.size) 62 #[.int .i64 sn', .int .i64 nesn', V', .bool op', .bool em', .int .i64 (ack' : Int), .int .i64 (tak' : Int), .int .i64 sn1, .int .i64 nesn1, V1, .bool op1, .bool em1, .int .i64 (ack1 : Int), .int .i64 (tak1 : Int), V2, V3, V4, V5] := Av.bother_row K2 (by omega)
        replace K3 : Blk (X21.setRow (X20.heap.size) #[.int .i64 sn'', .int .i64 nesn'', V'', .bool op'', .bool em'', .int .i64 (ack'' : Int), .int .i64 (tak'' : Int)]) (w.heap.size + 1) 65 #[.int .i64 2, .bool false, .int .i64 x.k, .slice x.A x.v.length x.c] := Av.bother_row K3 (by omega)
        replace K4 : Blk (X21.setRow (X20.heap.size) #[.int .i64 sn'', .int .i64 nesn'', V'', .bool op'', .bool em'', .int .i64 (ack'' : Int), .int .i64 (tak'' : Int)]) (w.heap.size + 2) 62 #[.int .i64 0, .int .i64 0, .slice none 0 0, .bool false, .bool false, .int .i64 0, .int .i64 0, .int .i64 0, .int .i64 0, .slice none 0 0, .bool false, .bool false, .int .i64 0, .int .i64 0, .slice none 0 0, .slice none 0 0, .slice none 0 0, .slice none 0 0] := Av.bother_row K4 (by omega)
        replace K6 : Blk (X21.setRow (X20.heap.size) #[.int .i64 sn'', .int .i64 nesn'', V'', .bool op'', .bool em'', .int .i64 (ack'' : Int), .int .i64 (tak'' : Int)]) (g5 + 1) 26 #[.int .i64 psn, .int .i64 pnesn, .int .i64 pmd, .int .i64 y.k, .slice y.A y.v.length y.c] := Av.bother_row K6 (by omega)
        replace K8 : Blk (X21.setRow (X20.heap.size) #[.int .i64 sn'', .int .i64 nesn'', V'', .bool op'', .bool em'', .int .i64 (ack'' : Int), .int .i64 (tak'' : Int)]) (X0.heap.size) 24 #[.int .i64 0, .slice none 0 0] := Av.bother_row K8 (by omega)
        replace K7 : Blk (X21.setRow (X20.heap.size) #[.int .i64 sn'', .int .i64 nesn'', V'', .bool op'', .bool em'', .int .i64 (ack'' : Int), .int .i64 (tak'' : Int)]) (X20.heap.size) 43 #[.int .i64 sn'', .int .i64 nesn'', V'', .bool op'', .bool em'', .int .i64 (ack'' : Int), .int .i64 (tak'' : Int)] := Av.bset_row K7
        replace BX : Below m w (X21.setRow (X20.heap.size) #[.int .i64 sn'', .int .i64 nesn'', V'', .bool op'', .bool em'', .int .i64 (ack'' : Int), .int .i64 (tak'' : Int)]) := below_setRow BX (by omega) _
        clear H9
        generalize X21.setRow (X20.heap.size) #[.int .i64 sn'', .int .i64 nesn'', V'', .bool op'', .bool em'', .int .i64 (ack'' : Int), .int .i64 (tak'' : Int)] = X22 at *
        refine hK.out _ _ ⟨K6, K2⟩ (fun hHeld => ?_)
        clear hK K
        try simp only [List.getElem_toArray, List.getElem_cons_zero, List.getElem_cons_succ, Act.put, List.setIfInBounds_toArray, List.set_cons_zero, List.set_cons_succ]
        refine wpAnyH_ready (rs := [14]) (by kernel_rfl) (by simp) ?_
        refine AllReadyH.cons rfl (fun K hK => ?_) (AllReadyH.nil)
        have H9 : (#[.int .i64 z.k, .slice z.A z.v.length z.c] : Array Value).all (·.oneCell') = true := by rw [← Array.all_toList]; rfl
        refine Av.step_store_row rfl 24 (.tmp 12) (.tmp 92) rfl (X0.heap.size) #[.int .i64 z.k, .slice z.A z.v.length z.c] rfl rfl 24 _ K8 (by kernel_rfl) rfl H9 ?_
        replace HA := HA.step_nin (stp_row K8 #[.int .i64 z.k, .slice z.A z.v.length z.c]) (by decide) N8 (by omega)
        replace HZ := HZ.step (stp_row K8 #[.int .i64 z.k, .slice z.A z.v.length z.c]) (by decide) (Nat.zero_le _)
        replace K2 : Blk (X22.setRow (X0.heap.size) #[.int .i64 z.k, .slice z.A z.v.length z.c]) (w.heap.size) 62 #[.int .i64 sn', .int .i64 nesn', V', .bool op', .bool em', .int .i64 (ack' : Int), .int .i64 (tak' : Int), .int .i64 sn1, .int .i64 nesn1, V1, .bool op1, .bool em1, .int .i64 (ack1 : Int), .int .i64 (tak1 : Int), V2, V3, V4, V5] := Av.bother_row K2 (by omega)
        replace K3 : Blk (X22.setRow (X0.heap.size) #[.int .i64 z.k, .slice z.A z.v.length z.c]) (w.heap.size + 1) 65 #[.int .i64 2, .bool false, .int .i64 x.k, .slice x.A x.v.length x.c] := Av.bother_row K3 (by omega)
        replace K4 : Blk (X22.setRow (X0.heap.size) #[.int .i64 z.k, .slice z.A z.v.length z.c]) (w.heap.size + 2) 62 #[.int .i64 0, .int .i64 0, .slice none 0 0, .bool false, .bool false, .int .i64 0, .int .i64 0, .int .i64 0, .int .i64 0, .slice none 0 0, .bool false, .bool false, .int .i64 0, .int .i64 0, .slice none 0 0, .slice none 0 0, .slice none 0 0, .slice none 0 0] := Av.bother_row K4 (by omega)
        replace K6 : Blk (X22.setRow (X0.heap.size) #[.int .i64 z.k, .slice z.A z.v.length z.c]) (g5 + 1) 26 #[.int .i64 psn, .int .i64 pnesn, .int .i64 pmd, .int .i64 y.k, .slice y.A y.v.length y.c] := Av.bother_row K6 (by omega)
        replace K8 : Blk (X22.setRow (X0.heap.size) #[.int .i64 z.k, .slice z.A z.v.length z.c]) (X0.heap.size) 24 #[.int .i64 z.k, .slice z.A z.v.length z.c] := Av.bset_row K8
        replace K7 : Blk (X22.setRow (X0.heap.size) #[.int .i64 z.k, .slice z.A z.v.length z.c]) (X20.heap.size) 43 #[.int .i64 sn'', .int .i64 nesn'', V'', .bool op'', .bool em'', .int .i64 (ack'' : Int), .int .i64 (tak'' : Int)] := Av.bother_row K7 (by omega)
        replace BX : Below m w (X22.setRow (X0.heap.size) #[.int .i64 z.k, .slice z.A z.v.length z.c]) := below_setRow BX (by omega) _
        clear H9
        generalize X22.setRow (X0.heap.size) #[.int .i64 z.k, .slice z.A z.v.length z.c] = X23 at *
        refine hK.out _ _ ⟨K6, K2⟩ (fun hHeld => ?_)
        clear hK K
        try simp only [List.getElem_toArray, List.getElem_cons_zero, List.getElem_cons_succ, Act.put, List.setIfInBounds_toArray, List.set_cons_zero, List.set_cons_succ]
        refine wpAnyH_take (i := 15) (v := .bool F) rfl (by kernel_rfl) (by kernel_rfl) (by kernel_rfl) (fun _ _ _ h => h) (Or.inl ⟨by first | rfl | go_simp, by intro w9 hSw; (try dsimp only at hSw); go_simp⟩) (by assumption) ?_
        simp only [List.getElem_toArray, List.getElem_cons_zero, List.getElem_cons_succ, Act.put, List.setIfInBounds_toArray, List.set_cons_zero, List.set_cons_succ]
        refine wpAnyH_take (i := 16) (v := .bool Ak) rfl (by kernel_rfl) (by kernel_rfl) (by kernel_rfl) (fun _ _ _ h => h) (Or.inl ⟨by first | rfl | go_simp, by intro w9 hSw; (try dsimp only at hSw); go_simp⟩) (by assumption) ?_
        simp only [List.getElem_toArray, List.getElem_cons_zero, List.getElem_cons_succ, Act.put, List.setIfInBounds_toArray, List.set_cons_zero, List.set_cons_succ]
        refine wpAnyH_done (by kernel_rfl) ?_ _
        clear hHeld
        go_wp2_with fail
        go_meet
        exact ⟨X20.heap.size, X0.heap.size, V'', l'', z, rfl, rfl, rfl, by omega, by omega, oV'', hl'', hz, K2, K3, K4, K7, K8, HA, HZ, N8, BX⟩
      · skip
        go_simp
        have b9 := (Below.refl X19.heap.size X19).alloc (Nat.le_refl _) (.cells #[.int .i64 0, .int .i64 0, .slice none 0 0, .bool false, .bool false, .int .i64 0, .int .i64 0] 43)
        have K7 := Blk.fresh X19 43 #[.int .i64 0, .int .i64 0, .slice none 0 0, .bool false, .bool false, .int .i64 0, .int .i64 0]
        have hgK7 : g5 + 1 < X19.heap.size := K6.lt
        have hK8a : X0.heap.size < X19.heap.size := K8.lt
        generalize X19.alloc (.cells #[.int .i64 0, .int .i64 0, .slice none 0 0, .bool false, .bool false, .int .i64 0, .int .i64 0] 43) = X24 at *
        replace K2 := K2.below b9 K2.lt
        replace K3 := K3.below b9 K3.lt
        replace K4 := K4.below b9 K4.lt
        replace K6 := K6.below b9 K6.lt
        replace K8 := K8.below b9 K8.lt
        replace BX := thenBm hmw BX b9
        replace HA := HA.below b9
        replace HY := HY.below b9
        clear b9
        refine hK.out _ _ ⟨K6, K2⟩ (fun hHeld => ?_)
        clear hK K
        try simp only [List.getElem_toArray, List.getElem_cons_zero, List.getElem_cons_succ, Act.put, List.setIfInBounds_toArray, List.set_cons_zero, List.set_cons_succ]
        refine wpAnyH_ready (rs := [5]) (by kernel_rfl) (by simp) ?_
        refine AllReadyH.cons rfl (fun K hK => ?_) (AllReadyH.nil)
        go_simp
        refine (HT.out X24 y _ _ HA HY.gp hy.out).mono ?_
        rintro e X25 ⟨V'', l'', z, rfl, hq'', hl'', hz, HZ, b9⟩
        replace HA := HA.set1 (by have := BX.size; omega) b9 hq''
        replace N8 := N8.set1 (fun k hk => (hq''.2.2 k hk).1) K8.lt
        have oV'' : V''.oneCell' = true := qq_one hq''
        clear hq''
        replace K2 := K2.below b9 K2.lt
        replace K3 := K3.below b9 K3.lt
        replace K4 := K4.below b9 K4.lt
        replace K6 := K6.below b9 K6.lt
        replace K8 := K8.below b9 K8.lt
        replace K7 := K7.below b9 K7.lt
        replace BX := thenBm hmw BX b9
        clear b9
        refine hK.out _ _ ⟨K6, K2⟩ (fun hHeld => ?_)
        clear hK K
        try simp only [List.getElem_toArray, List.getElem_cons_zero, List.getElem_cons_succ, Act.put, List.setIfInBounds_toArray, List.set_cons_zero, List.set_cons_succ]
        refine wpAnyH_take (i := 6) (v := .tuple #[.agg #[.int .i64 sn'', .int .i64 nesn'', V'', .bool op'', .bool em'', .int .i64 (ack'' : Int), .int .i64 (tak'' : Int)], .agg #[.int .i64 z.k, .slice z.A z.v.length z.c], .bool F, .bool Ak]) rfl (by kernel_rfl) (by kernel_rfl) (by kernel_rfl) (fun _ _ _ h => h) (Or.inl ⟨by first | rfl | go_simp, by intro w9 hSw; (try dsimp only at hSw); go_simp⟩) (by assumption) ?_
        simp only [List.getElem_toArray, List.getElem_cons_zero, List.getElem_cons_succ, Act.put, List.setIfInBounds_toArray, List.set_cons_zero, List.set_cons_succ]
        refine wpAnyH_take (i := 7) (v := .agg #[.int .i64 sn'', .int .i64 nesn'', V'', .bool op'', .bool em'', .int .i64 (ack'' : Int), .int .i64 (tak'' : Int)]) rfl (by kernel_rfl) (by kernel_rfl) (by kernel_rfl) (fun _ _ _ h => h) (Or.inl ⟨by first | rfl | go_simp, by intro w9 hSw; (try dsimp only at hSw); go_simp⟩) (by assumption) ?_
        simp only [List.getElem_toArray, List.getElem_cons_zero, List.getElem_cons_succ, Act.put, List.setIfInBounds_toArray, List.set_cons_zero, List.set_cons_succ]
        refine wpAnyH_take (i := 8) (v := .agg #[.int .i64 z.k, .slice z.A z.v.length z.c]) rfl (by kernel_rfl) (by kernel_rfl) (by kernel_rfl) (fun _ _ _ h => h) (Or.inl ⟨by first | rfl | go_simp, by intro w9 hSw; (try dsimp only at hSw); go_simp⟩) (by assumption) ?_
        simp only [List.getElem_toArray, List.getElem_cons_zero, List.getElem_cons_succ, Act.put, List.setIfInBounds_toArray, List.set_cons_zero, List.set_cons_succ]
        refine wpAnyH_take (i := 9) (v := .bool F) rfl (by kernel_rfl) (by kernel_rfl) (by kernel_rfl) (fun _ _ _ h => h) (Or.inl ⟨by first | rfl | go_simp, by intro w9 hSw; (try dsimp only at hSw); go_simp⟩) (by assumption) ?_
        simp only [List.getElem_toArray, List.getElem_cons_zero, List.getElem_cons_succ, Act.put, List.setIfInBounds_toArray, List.set_cons_zero, List.set_cons_succ]
        refine wpAnyH_take (i := 10) (v := .bool Ak) rfl (by kernel_rfl) (by kernel_rfl) (by kernel_rfl) (fun _ _ _ h => h) (Or.inl ⟨by first | rfl | go_simp, by intro w9 hSw; (try dsimp only at hSw); go_simp⟩) (by assumption) ?_
        simp only [List.getElem_toArray, List.getElem_cons_zero, List.getElem_cons_succ, Act.put, List.setIfInBounds_toArray, List.set_cons_zero, List.set_cons_succ]
        refine wpAnyH_ready (rs := [13]) (by kernel_rfl) (by simp) ?_
        refine AllReadyH.cons rfl (fun K hK => ?_) (AllReadyH.nil)
        have H9 : (#[.int .i64 sn'', .int .i64 nesn'', V'', .bool op'', .bool em'', .int .i64 (ack'' : Int), .int .i64 (tak'' : Int)] : Array Value).all (·.oneCell') = true := by rw [← Array.all_toList]; simp only [List.all_cons, List.all_nil, oV'', Bool.and_true, Bool.and_self]; rfl
        refine Av.step_store_row rfl 43 (.tmp 11) (.tmp 91) rfl (X19.heap.size) #[.int .i64 sn'', .int .i64 nesn'', V'', .bool op'', .bool em'', .int .i64 (ack'' : Int), .int .i64 (tak'' : Int)] rfl rfl 43 _ K7 (by kernel_rfl) rfl H9 ?_
        replace HA := HA.step (stp_row K7 #[.int .i64 sn'', .int .i64 nesn'', V'', .bool op'', .bool em'', .int .i64 (ack'' : Int), .int .i64 (tak'' : Int)]) (by decide) (by decide) (by omega)
        replace HZ := HZ.step (stp_row K7 #[.int .i64 sn'', .int .i64 nesn'', V'', .bool op'', .bool em'', .int .i64 (ack'' : Int), .int .i64 (tak'' : Int)]) (by decide) (Nat.zero_le _)
        replace K2 : Blk (X25.setRow (X19.heap.size) #[.int .i64 sn'', .int .i64 nesn'', V'', .bool op'', .bool em'', .int .i64 (ack'' : Int), .int .i64 (tak'' : Int)]) (w.heap.size) 62 #[.int .i64 sn', .int .i64 nesn', V', .bool op', .bool em', .int .i64 (ack' : Int), .int .i64 (tak' : Int), .int .i64 sn1, .int .i64 nesn1, V1, .bool op1, .bool em1, .int .i64 (ack1 : Int), .int .i64 (tak1 : Int), V2, V3, V4, V5] := Av.bother_row K2 (by omega)
        replace K3 : Blk (X25.setRow (X19.heap.size) #[.int .i64 sn'', .int .i64 nesn'', V'', .bool op'', .bool em'', .int .i64 (ack'' : Int), .int .i64 (tak'' : Int)]) (w.heap.size + 1) 65 #[.int .i64 2, .bool false, .int .i64 x.k, .slice x.A x.v.length x.c] := Av.bother_row K3 (by omega)
        replace K4 : Blk (X25.setRow (X19.heap.size) #[.int .i64 sn'', .int .i64 nesn'', V'', .bool op'', .bool em'', .int .i64 (ack'' : Int), .int .i64 (tak'' : Int)]) (w.heap.size + 2) 62 #[.int .i64 0, .int .i64 0, .slice none 0 0, .bool false, .bool false, .int .i64 0, .int .i64 0, .int .i64 0, .int .i64 0, .slice none 0 0, .bool false, .bool false, .int .i64 0, .int .i64 0, .slice none 0 0, .slice none 0 0, .slice none 0 0, .slice none 0 0] := Av.bother_row K4 (by omega)
        replace K6 : Blk (X25.setRow (X19.heap.size) #[.int .i64 sn'', .int .i64 nesn'', V'', .bool op'', .bool em'', .int .i64 (ack'' : Int), .int .i64 (tak'' : Int)]) (g5 + 1) 26 #[.int .i64 psn, .int .i64 pnesn, .int .i64 pmd, .int .i64 y.k, .slice y.A y.v.length y.c] := Av.bother_row K6 (by omega)
        replace K8 : Blk (X25.setRow (X19.heap.size) #[.int .i64 sn'', .int .i64 nesn'', V'', .bool op'', .bool em'', .int .i64 (ack'' : Int), .int .i64 (tak'' : Int)]) (X0.heap.size) 24 #[.int .i64 0, .slice none 0 0] := Av.bother_row K8 (by omega)
        replace K7 : Blk (X25.setRow (X19.heap.size) #[.int .i64 sn'', .int .i64 nesn'', V'', .bool op'', .bool em'', .int .i64 (ack'' : Int), .int .i64 (tak'' : Int)]) (X19.heap.size) 43 #[.int .i64 sn'', .int .i64 nesn'', V'', .bool op'', .bool em'', .int .i64 (ack'' : Int), .int .i64 (tak'' : Int)] := Av.bset_row K7
        replace BX : Below m w (X25.setRow (X19.heap.size) #[.int .i64 sn'', .int .i64 nesn'', V'', .bool op'', .bool em'', .int .i64 (ack'' : Int), .int .i64 (tak'' : Int)]) := below_setRow BX (by omega) _
        clear H9
        generalize X25.setRow (X19.heap.size) #[.int .i64 sn'', .int .i64 nesn'', V'', .bool op'', .bool em'', .int .i64 (ack'' : Int), .int .i64 (tak'' : Int)] = X26 at *
        refine hK.out _ _ ⟨K6, K2⟩ (fun hHeld => ?_)
        clear hK K
        try simp only [List.getElem_toArray, List.getElem_cons_zero, List.getElem_cons_succ, Act.put, List.setIfInBounds_toArray, List.set_cons_zero, List.set_cons_succ]
        refine wpAnyH_ready (rs := [14]) (by kernel_rfl) (by simp) ?_
        refine AllReadyH.cons rfl (fun K hK => ?_) (AllReadyH.nil)
        have H9 : (#[.int .i64 z.k, .slice z.A z.v.length z.c] : Array Value).all (·.oneCell') = true := by rw [← Array.all_toList]; rfl
        refine Av.step_store_row rfl 24 (.tmp 12) (.tmp 92) rfl (X0.heap.size) #[.int .i64 z.k, .slice z.A z.v.length z.c] rfl rfl 24 _ K8 (by kernel_rfl) rfl H9 ?_
        replace HA := HA.step_nin (stp_row K8 #[.int .i64 z.k, .slice z.A z.v.length z.c]) (by decide) N8 (by omega)
        replace HZ := HZ.step (stp_row K8 #[.int .i64 z.k, .slice z.A z.v.length z.c]) (by decide) (Nat.zero_le _)
        replace K2 : Blk (X26.setRow (X0.heap.size) #[.int .i64 z.k, .slice z.A z.v.length z.c]) (w.heap.size) 62 #[.int .i64 sn', .int .i64 nesn', V', .bool op', .bool em', .int .i64 (ack' : Int), .int .i64 (tak' : Int), .int .i64 sn1, .int .i64 nesn1, V1, .bool op1, .bool em1, .int .i64 (ack1 : Int), .int .i64 (tak1 : Int), V2, V3, V4, V5] := Av.bother_row K2 (by omega)
        replace K3 : Blk (X26.setRow (X0.heap.size) #[.int .i64 z.k, .slice z.A z.v.length z.c]) (w.heap.size + 1) 65 #[.int .i64 2, .bool false, .int .i64 x.k, .slice x.A x.v.length x.c] := Av.bother_row K3 (by omega)
        replace K4 : Blk (X26.setRow (X0.heap.size) #[.int .i64 z.k, .slice z.A z.v.length z.c]) (w.heap.size + 2) 62 #[.int .i64 0, .int .i64 0, .slice none 0 0, .bool false, .bool false, .int .i64 0, .int .i64 0, .int .i64 0, .int .i64 0, .slice none 0 0, .bool false, .bool false, .int .i64 0, .int .i64 0, .slice none 0 0, .slice none 0 0, .slice none 0 0, .slice none 0 0] := Av.bother_row K4 (by omega)
        replace K6 : Blk (X26.setRow (X0.heap.size) #[.int .i64 z.k, .slice z.A z.v.length z.c]) (g5 + 1) 26 #[.int .i64 psn, .int .i64 pnesn, .int .i64 pmd, .int .i64 y.k, .slice y.A y.v.length y.c] := Av.bother_row K6 (by omega)
        replace K8 : Blk (X26.setRow (X0.heap.size) #[.int .i64 z.k, .slice z.A z.v.length z.c]) (X0.heap.size) 24 #[.int .i64 z.k, .slice z.A z.v.length z.c] := Av.bset_row K8
        replace K7 : Blk (X26.setRow (X0.heap.size) #[.int .i64 z.k, .slice z.A z.v.length z.c]) (X19.heap.size) 43 #[.int .i64 sn'', .int .i64 nesn'', V'', .bool op'', .bool em'', .int .i64 (ack'' : Int), .int .i64 (tak'' : Int)] := Av.bother_row K7 (by omega)
        replace BX : Below m w (X26.setRow (X0.heap.size) #[.int .i64 z.k, .slice z.A z.v.length z.c]) := below_setRow BX (by omega) _
        clear H9
        generalize X26.setRow (X0.heap.size) #[.int .i64 z.k, .slice z.A z.v.length z.c] = X27 at *
        refine hK.out _ _ ⟨K6, K2⟩ (fun hHeld => ?_)
        clear hK K
        try simp only [List.getElem_toArray, List.getElem_cons_zero, List.getElem_cons_succ, Act.put, List.setIfInBounds_toArray, List.set_cons_zero, List.set_cons_succ]
        refine wpAnyH_take (i := 15) (v := .bool F) rfl (by kernel_rfl) (by kernel_rfl) (by kernel_rfl) (fun _ _ _ h => h) (Or.inl ⟨by first | rfl | go_simp, by intro w9 hSw; (try dsimp only at hSw); go_simp⟩) (by assumption) ?_
        simp only [List.getElem_toArray, List.getElem_cons_zero, List.getElem_cons_succ, Act.put, List.setIfInBounds_toArray, List.set_cons_zero, List.set_cons_succ]
        refine wpAnyH_take (i := 16) (v := .bool Ak) rfl (by kernel_rfl) (by kernel_rfl) (by kernel_rfl) (fun _ _ _ h => h) (Or.inl ⟨by first | rfl | go_simp, by intro w9 hSw; (try dsimp only at hSw); go_simp⟩) (by assumption) ?_
        simp only [List.getElem_toArray, List.getElem_cons_zero, List.getElem_cons_succ, Act.put, List.setIfInBounds_toArray, List.set_cons_zero, List.set_cons_succ]
        refine wpAnyH_done (by kernel_rfl) ?_ _
        clear hHeld
        go_wp2_with fail
        go_meet
        exact ⟨X19.heap.size, X0.heap.size, V'', l'', z, rfl, rfl, rfl, by omega, by omega, oV'', hl'', hz, K2, K3, K4, K7, K8, HA, HZ, N8, BX⟩
  case rest =>
    obtain ⟨g7, g8, V'', l'', z, rfl, rfl, rfl, hg7, hg8, oV'', hl'', hz, K2, K3, K4, K7, K8, HA, HZ, N8, BX⟩ := hcut
    have H1 : (#[.int .i64 sn'', .int .i64 nesn'', V'', .bool op'', .bool em'', .int .i64 (ack'' : Int), .int .i64 (tak'' : Int)] : Array Value).all (·.oneCell') = true := by rw [← Array.all_toList]; simp only [List.all_cons, List.all_nil, oV'', Bool.and_true, Bool.and_self]; rfl
    go_upto_region 13 with (first | (refine wpList_store_part rfl 43 _ _ rfl (w.heap.size) 7 #[.int .i64 sn'', .int .i64 nesn'', V'', .bool op'', .bool em'', .int .i64 (ack'' : Int), .int .i64 (tak'' : Int)] rfl rfl 62 _ #[.int .i64 sn', .int .i64 nesn', V', .bool op', .bool em', .int .i64 (ack' : Int), .int .i64 (tak' : Int), .int .i64 sn'', .int .i64 nesn'', V'', .bool op'', .bool em'', .int .i64 (ack'' : Int), .int .i64 (tak'' : Int), V2, V3, V4, V5] K2 (by kernel_rfl) (by show 7 + 7 ≤ 18; decide) H1 rfl ?_) | (refine wpList_load_row rfl 43 (.tmp 11) rfl g7 rfl 43 _ (0, 0) _ K7 Try.underlying43 rfl (by kernel_rfl) ?_))
    replace HA := HA.step (stp_row K2 #[.int .i64 sn', .int .i64 nesn', V', .bool op', .bool em', .int .i64 (ack' : Int), .int .i64 (tak' : Int), .int .i64 sn'', .int .i64 nesn'', V'', .bool op'', .bool em'', .int .i64 (ack'' : Int), .int .i64 (tak'' : Int), V2, V3, V4, V5]) (by decide) (by decide) (by omega)
    replace HZ := HZ.step (stp_row K2 #[.int .i64 sn', .int .i64 nesn', V', .bool op', .bool em', .int .i64 (ack' : Int), .int .i64 (tak' : Int), .int .i64 sn'', .int .i64 nesn'', V'', .bool op'', .bool em'', .int .i64 (ack'' : Int), .int .i64 (tak'' : Int), V2, V3, V4, V5]) (by decide) (Nat.zero_le _)
    replace K3 := (stp_row K2 #[.int .i64 sn', .int .i64 nesn', V', .bool op', .bool em', .int .i64 (ack' : Int), .int .i64 (tak' : Int), .int .i64 sn'', .int .i64 nesn'', V'', .bool op'', .bool em'', .int .i64 (ack'' : Int), .int .i64 (tak'' : Int), V2, V3, V4, V5]).blk_ne K3 (by omega)
    replace K4 := (stp_row K2 #[.int .i64 sn', .int .i64 nesn', V', .bool op', .bool em', .int .i64 (ack' : Int), .int .i64 (tak' : Int), .int .i64 sn'', .int .i64 nesn'', V'', .bool op'', .bool em'', .int .i64 (ack'' : Int), .int .i64 (tak'' : Int), V2, V3, V4, V5]).blk_ne K4 (by omega)
    replace K8 := (stp_row K2 #[.int .i64 sn', .int .i64 nesn', V', .bool op', .bool em', .int .i64 (ack' : Int), .int .i64 (tak' : Int), .int .i64 sn'', .int .i64 nesn'', V'', .bool op'', .bool em'', .int .i64 (ack'' : Int), .int .i64 (tak'' : Int), V2, V3, V4, V5]).blk_ne K8 (by omega)
    replace BX : Below m w (wc.setRow (w.heap.size) #[.int .i64 sn', .int .i64 nesn', V', .bool op', .bool em', .int .i64 (ack' : Int), .int .i64 (tak' : Int), .int .i64 sn'', .int .i64 nesn'', V'', .bool op'', .bool em'', .int .i64 (ack'' : Int), .int .i64 (tak'' : Int), V2, V3, V4, V5]) := below_setRow BX (by omega) _
    replace K2 := Av.bset_row (cs' := #[.int .i64 sn', .int .i64 nesn', V', .bool op', .bool em', .int .i64 (ack' : Int), .int .i64 (tak' : Int), .int .i64 sn'', .int .i64 nesn'', V'', .bool op'', .bool em'', .int .i64 (ack'' : Int), .int .i64 (tak'' : Int), V2, V3, V4, V5]) K2
    clear K7 H1
    generalize wc.setRow (w.heap.size) #[.int .i64 sn', .int .i64 nesn', V', .bool op', .bool em', .int .i64 (ack' : Int), .int .i64 (tak' : Int), .int .i64 sn'', .int .i64 nesn'', V'', .bool op'', .bool em'', .int .i64 (ack'' : Int), .int .i64 (tak'' : Int), V2, V3, V4, V5] = W5 at *
    cases F with
    | true =>
      have HO := Lib.hid (HOy.out rfl)
      go_upto_region 14 with (fail)
      have K2' : Blk W5.drew (w.heap.size) 62 #[.int .i64 sn', .int .i64 nesn', V', .bool op', .bool em', .int .i64 (ack' : Int), .int .i64 (tak' : Int), .int .i64 sn'', .int .i64 nesn'', V'', .bool op'', .bool em'', .int .i64 (ack'' : Int), .int .i64 (tak'' : Int), V2, V3, V4, V5] := Mem.Blk.drew K2
      have K3' : Blk W5.drew (w.heap.size + 1) 65 #[.int .i64 2, .bool false, .int .i64 x.k, .slice x.A x.v.length x.c] := Mem.Blk.drew K3
      have K4' : Blk W5.drew (w.heap.size + 2) 62 #[.int .i64 0, .int .i64 0, .slice none 0 0, .bool false, .bool false, .int .i64 0, .int .i64 0, .int .i64 0, .int .i64 0, .slice none 0 0, .bool false, .bool false, .int .i64 0, .int .i64 0, .slice none 0 0, .slice none 0 0, .slice none 0 0, .slice none 0 0] := Mem.Blk.drew K4
      have K8' : Blk W5.drew (g8) 24 #[.int .i64 z.k, .slice z.A z.v.length z.c] := Mem.Blk.drew K8
      refine wp_region_held_drew (S := (fun w' => Blk w' (g8) 24 #[.int .i64 z.k, .slice z.A z.v.length z.c])) (by kernel_rfl) ?_ (fun hHeld => ?_)
      · exact K8'
      replace K2 := K2'
      clear K2'
      replace K3 := K3'
      clear K3'
      replace K4 := K4'
      clear K4'
      replace K8 := K8'
      clear K8'
      replace BX : Below m w W5.drew := BX.drew
      replace HA := (show All W5.drew m m V' V'' V2 V3 V4 V5 l' l'' l2 l3 l4 l5 from HA.below ((Below.refl W5.heap.size W5).drew))
      replace HZ := (show PP W5.drew 0 z from HZ.below ((Below.refl W5.heap.size W5).drew))
      generalize W5.drew = U0 at *
      refine wpAnyH_take (i := 0) (v := .int .i64 1) rfl (by kernel_rfl) (by kernel_rfl) (by kernel_rfl) (fun _ _ _ h => h) (Or.inl ⟨by first | rfl | go_simp, by intro w9 hSw; (try dsimp only at hSw); go_simp⟩) (by assumption) ?_
      simp only [List.getElem_toArray, List.getElem_cons_zero, List.getElem_cons_succ, Act.put, List.setIfInBounds_toArray, List.set_cons_zero, List.set_cons_succ]
      refine wpAnyH_take (i := 1) (v := .int .i64 1) rfl (by kernel_rfl) (by kernel_rfl) (by kernel_rfl) (fun _ _ _ h => h) (Or.inl ⟨by first | rfl | go_simp, by intro w9 hSw; (try dsimp only at hSw); go_simp⟩) (by assumption) ?_
      simp only [List.getElem_toArray, List.getElem_cons_zero, List.getElem_cons_succ, Act.put, List.setIfInBounds_toArray, List.set_cons_zero, List.set_cons_succ]
      refine wpAnyH_take (i := 2) (v := .pointer (some ⟨w.heap.size, 16, none⟩)) rfl (by kernel_rfl) (by kernel_rfl) (by kernel_rfl) (fun _ _ _ h => h) (Or.inl ⟨by first | rfl | go_simp, by intro w9 hSw; (try dsimp only at hSw); go_simp⟩) (by assumption) ?_
      simp only [List.getElem_toArray, List.getElem_cons_zero, List.getElem_cons_succ, Act.put, List.setIfInBounds_toArray, List.set_cons_zero, List.set_cons_succ]
      refine wpAnyH_take (i := 3) (v := .pointer (some ⟨w.heap.size, 17, none⟩)) rfl (by kernel_rfl) (by kernel_rfl) (by kernel_rfl) (fun _ _ _ h => h) (Or.inl ⟨by first | rfl | go_simp, by intro w9 hSw; (try dsimp only at hSw); go_simp⟩) (by assumption) ?_
      simp only [List.getElem_toArray, List.getElem_cons_zero, List.getElem_cons_succ, Act.put, List.setIfInBounds_toArray, List.set_cons_zero, List.set_cons_succ]
      refine wpAnyH_take (i := 5) (v := .agg #[.int .i64 z.k, .slice z.A z.v.length z.c]) rfl (by kernel_rfl) (by kernel_rfl) (by kernel_rfl) (fun _ _ _ h => h) (Av.yields_part (by first | rfl | go_simp) _ _ rfl (g8) 0 rfl #[.int .i64 z.k, .slice z.A z.v.length z.c] _ 24 #[.int .i64 z.k, .slice z.A z.v.length z.c] (fun w9 hSw => hSw) rfl Try.underlying24 rfl (by kernel_rfl)) (by assumption) ?_
      simp only [List.getElem_toArray, List.getElem_cons_zero, List.getElem_cons_succ, Act.put, List.setIfInBounds_toArray, List.set_cons_zero, List.set_cons_succ]
      refine wpAnyH_take (i := 8) (v := .pointer (some ⟨w.heap.size, 16, none⟩)) rfl (by kernel_rfl) (by kernel_rfl) (by kernel_rfl) (fun _ _ _ h => h) (Or.inl ⟨by first | rfl | go_simp, by intro w9 hSw; (try dsimp only at hSw); go_simp⟩) (by assumption) ?_
      simp only [List.getElem_toArray, List.getElem_cons_zero, List.getElem_cons_succ, Act.put, List.setIfInBounds_toArray, List.set_cons_zero, List.set_cons_succ]
      refine wpAnyH_ready (rs := [4, 6]) (by kernel_rfl) (by simp) ?_
      refine AllReadyH.cons rfl (fun K hK => ?_) (AllReadyH.cons rfl (fun K hK => ?_) (AllReadyH.nil))
      · skip
        have c90 := K2.cell 17
        go_simp
        clear c90
        refine hK.out _ _ K8 (fun hHeld => ?_)
        clear hK K
        try simp only [List.getElem_toArray, List.getElem_cons_zero, List.getElem_cons_succ, Act.put, List.setIfInBounds_toArray, List.set_cons_zero, List.set_cons_succ]
        refine wpAnyH_ready (rs := [6]) (by kernel_rfl) (by simp) ?_
        refine AllReadyH.cons rfl (fun K hK => ?_) (AllReadyH.nil)
        go_simp
        have b9 := (Below.refl U0.heap.size U0).alloc (Nat.le_refl _) (.cells #[.int .i64 z.k, .slice z.A z.v.length z.c] 24)
        have CA := CellsAt.lit U0 [.int .i64 z.k, .slice z.A z.v.length z.c] #[.int .i64 z.k, .slice z.A z.v.length z.c] 24 rfl
        generalize U0.alloc (.cells #[.int .i64 z.k, .slice z.A z.v.length z.c] 24) = U1 at *
        replace K2 := K2.below b9 K2.lt
        replace K3 := K3.below b9 K3.lt
        replace K4 := K4.below b9 K4.lt
        replace K8 := K8.below b9 K8.lt
        replace BX := thenBm hmw BX b9
        replace HA := HA.below b9
        replace HZ := HZ.below b9
        clear b9
        refine hK.out _ _ K8 (fun hHeld => ?_)
        clear hK K
        try simp only [List.getElem_toArray, List.getElem_cons_zero, List.getElem_cons_succ, Act.put, List.setIfInBounds_toArray, List.set_cons_zero, List.set_cons_succ]
        refine wpAnyH_ready (rs := [7]) (by kernel_rfl) (by simp) ?_
        refine AllReadyH.cons rfl (fun K hK => ?_) (AllReadyH.nil)
        refine step_append_at rfl (.tmp 104) (.tmp 106) 41 rfl m 24 iE _ 2 32 Try.underlying41 hi hz0 hs hb hc0 (by decide) V5 l5.length (l5.flatMap encK) rfl HA.r5.1 (U0.heap.size) 1 1 [.int .i64 z.k, .slice z.A z.v.length z.c] rfl rfl (by intro u hu; simp at hu; rcases hu with rfl | rfl <;> rfl) CA (by unfold maxLen; omega) (by omega) (by have := BX.size; omega) ?_
        intro V9 U2 own4 gr4 at4
        have oV9 : V9.oneCell' = true := by obtain ⟨A9, c9, e9⟩ := own_form own4; rw [e9]; rfl
        have KT2 := grow_blk K2 HA.r5.1 (by decide) gr4
        have KT3 := grow_blk K3 HA.r5.1 (by decide) gr4
        have KT4 := grow_blk K4 HA.r5.1 (by decide) gr4
        have KT8 := grow_blk_ne K8 N8.h5 gr4
        replace BX := BX.grown gr4 (by have := BX.size; omega) (fun k hk => (HA.r5.lt k hk).1)
        replace HA := HA.app5 (x := z) (HZ.more (Nat.zero_le _)) (Nat.le_refl _) gr4 at4 own4
        replace K2 := KT2
        replace K3 := KT3
        replace K4 := KT4
        replace K8 := KT8
        clear CA own4 gr4 at4 KT2 KT3 KT4 KT8 HZ
        refine hK.out _ _ K8 (fun hHeld => ?_)
        clear hK K
        try simp only [List.getElem_toArray, List.getElem_cons_zero, List.getElem_cons_succ, Act.put, List.setIfInBounds_toArray, List.set_cons_zero, List.set_cons_succ]
        refine wpAnyH_take (i := 9) (v := .pointer (some ⟨w.heap.size, 17, none⟩)) rfl (by kernel_rfl) (by kernel_rfl) (by kernel_rfl) (fun _ _ _ h => h) (Or.inl ⟨by first | rfl | go_simp, by intro w9 hSw; (try dsimp only at hSw); go_simp⟩) (by assumption) ?_
        simp only [List.getElem_toArray, List.getElem_cons_zero, List.getElem_cons_succ, Act.put, List.setIfInBounds_toArray, List.set_cons_zero, List.set_cons_succ]
        refine wpAnyH_ready (rs := [10]) (by kernel_rfl) (by simp) ?_
        refine AllReadyH.cons rfl (fun K hK => ?_) (AllReadyH.nil)
        refine Av.step_store_cell rfl _ _ _ rfl (w.heap.size) 17 (V9) rfl rfl 62 _ K2 (by show 17 < 18; decide) (by kernel_rfl) oV9 ?_
        replace HA := ((HA).step (stp_cell (i := 17) K2 (V9)) (by decide) (by decide) (by omega))
        replace K2 : Blk (U2.setCell ⟨w.heap.size, 17, none⟩ (V9)) (w.heap.size) 62 #[.int .i64 sn', .int .i64 nesn', V', .bool op', .bool em', .int .i64 (ack' : Int), .int .i64 (tak' : Int), .int .i64 sn'', .int .i64 nesn'', V'', .bool op'', .bool em'', .int .i64 (ack'' : Int), .int .i64 (tak'' : Int), V2, V3, V4, V9] := (Av.bset K2 17 (V9) rfl)
        replace K3 : Blk (U2.setCell ⟨w.heap.size, 17, none⟩ (V9)) (w.heap.size + 1) 65 #[.int .i64 2, .bool false, .int .i64 x.k, .slice x.A x.v.length x.c] := Av.bother (K3) (by omega) _
        replace K4 : Blk (U2.setCell ⟨w.heap.size, 17, none⟩ (V9)) (w.heap.size + 2) 62 #[.int .i64 0, .int .i64 0, .slice none 0 0, .bool false, .bool false, .int .i64 0, .int .i64 0, .int .i64 0, .int .i64 0, .slice none 0 0, .bool false, .bool false, .int .i64 0, .int .i64 0, .slice none 0 0, .slice none 0 0, .slice none 0 0, .slice none 0 0] := Av.bother (K4) (by omega) _
        replace K8 : Blk (U2.setCell ⟨w.heap.size, 17, none⟩ (V9)) (g8) 24 #[.int .i64 z.k, .slice z.A z.v.length z.c] := Av.bother (K8) (by omega) _
        replace BX : Below m w (U2.setCell ⟨w.heap.size, 17, none⟩ (V9)) := (BX.setCell (p := ⟨w.heap.size, 17, none⟩) (by simp only; omega) _)
        generalize (U2.setCell ⟨w.heap.size, 17, none⟩ (V9)) = U3 at *
        refine hK.out _ _ K8 (fun hHeld => ?_)
        clear hK K
        try simp only [List.getElem_toArray, List.getElem_cons_zero, List.getElem_cons_succ, Act.put, List.setIfInBounds_toArray, List.set_cons_zero, List.set_cons_succ]
        refine wpAnyH_done (by kernel_rfl) ?_ _
        clear hHeld
        go_upto_region 15 with (fail)
        have H1 : (#[.int .i64 sn', .int .i64 nesn', V', .bool op', .bool em', .int .i64 (ack' : Int), .int .i64 (tak' : Int), .int .i64 sn'', .int .i64 nesn'', V'', .bool op'', .bool em'', .int .i64 (ack'' : Int), .int .i64 (tak'' : Int), V2, V3, V4, V9] : Array Value).all (·.oneCell') = true := by rw [← Array.all_toList]; simp only [List.all_cons, List.all_nil, oV', oV'', oV2, oV3, oV4, oV9, Bool.and_true, Bool.and_self]; rfl
        go_wp2_with (first | (refine wpList_store_row rfl 62 (.tmp 4) _ rfl (w.heap.size + 2) #[.int .i64 sn', .int .i64 nesn', V', .bool op', .bool em', .int .i64 (ack' : Int), .int .i64 (tak' : Int), .int .i64 sn'', .int .i64 nesn'', V'', .bool op'', .bool em'', .int .i64 (ack'' : Int), .int .i64 (tak'' : Int), V2, V3, V4, V9] rfl rfl 62 _ K4 (by kernel_rfl) rfl H1 ?_) | (refine wpList_load_row rfl 62 (.tmp 2) rfl (w.heap.size) rfl 62 _ (0, 0) _ K2 Try.underlying62 rfl (by kernel_rfl) ?_))
        have HF := HA.step (stp_row K4 #[.int .i64 sn', .int .i64 nesn', V', .bool op', .bool em', .int .i64 (ack' : Int), .int .i64 (tak' : Int), .int .i64 sn'', .int .i64 nesn'', V'', .bool op'', .bool em'', .int .i64 (ack'' : Int), .int .i64 (tak'' : Int), V2, V3, V4, V9]) (by decide) (by decide) (by omega)
        have KR := setRow_heap U3 (w.heap.size + 2) _ #[.int .i64 sn', .int .i64 nesn', V', .bool op', .bool em', .int .i64 (ack' : Int), .int .i64 (tak' : Int), .int .i64 sn'', .int .i64 nesn'', V'', .bool op'', .bool em'', .int .i64 (ack'' : Int), .int .i64 (tak'' : Int), V2, V3, V4, V9] 62 (0, 0) K4
        have BE : Below m w (U3.setRow (w.heap.size + 2) #[.int .i64 sn', .int .i64 nesn', V', .bool op', .bool em', .int .i64 (ack' : Int), .int .i64 (tak' : Int), .int .i64 sn'', .int .i64 nesn'', V'', .bool op'', .bool em'', .int .i64 (ack'' : Int), .int .i64 (tak'' : Int), V2, V3, V4, V9]) := below_setRow BX (by omega) #[.int .i64 sn', .int .i64 nesn', V', .bool op', .bool em', .int .i64 (ack' : Int), .int .i64 (tak' : Int), .int .i64 sn'', .int .i64 nesn'', V'', .bool op'', .bool em'', .int .i64 (ack'' : Int), .int .i64 (tak'' : Int), V2, V3, V4, V9]
        generalize U3.setRow (w.heap.size + 2) #[.int .i64 sn', .int .i64 nesn', V', .bool op', .bool em', .int .i64 (ack' : Int), .int .i64 (tak' : Int), .int .i64 sn'', .int .i64 nesn'', V'', .bool op'', .bool em'', .int .i64 (ack'' : Int), .int .i64 (tak'' : Int), V2, V3, V4, V9] = Y at *
        refine bodyPost_ret (v := .agg #[.int .i64 sn', .int .i64 nesn', V', .bool op', .bool em', .int .i64 (ack' : Int), .int .i64 (tak' : Int), .int .i64 sn'', .int .i64 nesn'', V'', .bool op'', .bool em'', .int .i64 (ack'' : Int), .int .i64 (tak'' : Int), V2, V3, V4, V9]) ?_ rfl (by rw [HO.out]; exact ⟨V', V'', V2, V3, V4, V9, l', l'', l2, l3, l4, (l5 ++ [z]), rfl, ⟨HF, hl'.out, hl''.out, HX.e2, HX.e3, HX.e4, (by rw [List.map_append, HX.e5, ← hz.out]; rfl)⟩, BE⟩)
        clear K2
        have HL := run_loadVar_row (P := Try.prog) Y (w.heap.size + 2) 62 62 #[.int .i64 sn', .int .i64 nesn', V', .bool op', .bool em', .int .i64 (ack' : Int), .int .i64 (tak' : Int), .int .i64 sn'', .int .i64 nesn'', V'', .bool op'', .bool em'', .int .i64 (ack'' : Int), .int .i64 (tak'' : Int), V2, V3, V4, V9] (0, 0) _ KR Try.underlying62 rfl (by kernel_rfl)
        generalize (#[.int .i64 sn', .int .i64 nesn', V', .bool op', .bool em', .int .i64 (ack' : Int), .int .i64 (tak' : Int), .int .i64 sn'', .int .i64 nesn'', V'', .bool op'', .bool em'', .int .i64 (ack'' : Int), .int .i64 (tak'' : Int), V2, V3, V4, V9] : Array Value) = CS at *
        simp [results, show (Try.f39).results = #[.cell 4 62] from rfl, asAddr, HL, Act.put]
      · skip
        go_simp
        have b9 := (Below.refl U0.heap.size U0).alloc (Nat.le_refl _) (.cells #[.int .i64 z.k, .slice z.A z.v.length z.c] 24)
        have CA := CellsAt.lit U0 [.int .i64 z.k, .slice z.A z.v.length z.c] #[.int .i64 z.k, .slice z.A z.v.length z.c] 24 rfl
        generalize U0.alloc (.cells #[.int .i64 z.k, .slice z.A z.v.length z.c] 24) = U4 at *
        replace K2 := K2.below b9 K2.lt
        replace K3 := K3.below b9 K3.lt
        replace K4 := K4.below b9 K4.lt
        replace K8 := K8.below b9 K8.lt
        replace BX := thenBm hmw BX b9
        replace HA := HA.below b9
        replace HZ := HZ.below b9
        clear b9
        refine hK.out _ _ K8 (fun hHeld => ?_)
        clear hK K
        try simp only [List.getElem_toArray, List.getElem_cons_zero, List.getElem_cons_succ, Act.put, List.setIfInBounds_toArray, List.set_cons_zero, List.set_cons_succ]
        refine wpAnyH_ready (rs := [4]) (by kernel_rfl) (by simp) ?_
        refine AllReadyH.cons rfl (fun K hK => ?_) (AllReadyH.nil)
        have c90 := K2.cell 17
        go_simp
        clear c90
        refine hK.out _ _ K8 (fun hHeld => ?_)
        clear hK K
        try simp only [List.getElem_toArray, List.getElem_cons_zero, List.getElem_cons_succ, Act.put, List.setIfInBounds_toArray, List.set_cons_zero, List.set_cons_succ]
        refine wpAnyH_ready (rs := [7]) (by kernel_rfl) (by simp) ?_
        refine AllReadyH.cons rfl (fun K hK => ?_) (AllReadyH.nil)
        refine step_append_at rfl (.tmp 104) (.tmp 106) 41 rfl m 24 iE _ 2 32 Try.underlying41 hi hz0 hs hb hc0 (by decide) V5 l5.length (l5.flatMap encK) rfl HA.r5.1 (U0.heap.size) 1 1 [.int .i64 z.k, .slice z.A z.v.length z.c] rfl rfl (by intro u hu; simp at hu; rcases hu with rfl | rfl <;> rfl) CA (by unfold maxLen; omega) (by omega) (by have := BX.size; omega) ?_
        intro V9 U5 own4 gr4 at4
        have oV9 : V9.oneCell' = true := by obtain ⟨A9, c9, e9⟩ := own_form own4; rw [e9]; rfl
        have KT2 := grow_blk K2 HA.r5.1 (by decide) gr4
        have KT3 := grow_blk K3 HA.r5.1 (by decide) gr4
        have KT4 := grow_blk K4 HA.r5.1 (by decide) gr4
        have KT8 := grow_blk_ne K8 N8.h5 gr4
        replace BX := BX.grown gr4 (by have := BX.size; omega) (fun k hk => (HA.r5.lt k hk).1)
        replace HA := HA.app5 (x := z) (HZ.more (Nat.zero_le _)) (Nat.le_refl _) gr4 at4 own4
        replace K2 := KT2
        replace K3 := KT3
        replace K4 := KT4
        replace K8 := KT8
        clear CA own4 gr4 at4 KT2 KT3 KT4 KT8 HZ
        refine hK.out _ _ K8 (fun hHeld => ?_)
        clear hK K
        try simp only [List.getElem_toArray, List.getElem_cons_zero, List.getElem_cons_succ, Act.put, List.setIfInBounds_toArray, List.set_cons_zero, List.set_cons_succ]
        refine wpAnyH_take (i := 9) (v := .pointer (some ⟨w.heap.size, 17, none⟩)) rfl (by kernel_rfl) (by kernel_rfl) (by kernel_rfl) (fun _ _ _ h => h) (Or.inl ⟨by first | rfl | go_simp, by intro w9 hSw; (try dsimp only at hSw); go_simp⟩) (by assumption) ?_
        simp only [List.getElem_toArray, List.getElem_cons_zero, List.getElem_cons_succ, Act.put, List.setIfInBounds_toArray, List.set_cons_zero, List.set_cons_succ]
        refine wpAnyH_ready (rs := [10]) (by kernel_rfl) (by simp) ?_
        refine AllReadyH.cons rfl (fun K hK => ?_) (AllReadyH.nil)
        refine Av.step_store_cell rfl _ _ _ rfl (w.heap.size) 17 (V9) rfl rfl 62 _ K2 (by show 17 < 18; decide) (by kernel_rfl) oV9 ?_
        replace HA := ((HA).step (stp_cell (i := 17) K2 (V9)) (by decide) (by decide) (by omega))
        replace K2 : Blk (U5.setCell ⟨w.heap.size, 17, none⟩ (V9)) (w.heap.size) 62 #[.int .i64 sn', .int .i64 nesn', V', .bool op', .bool em', .int .i64 (ack' : Int), .int .i64 (tak' : Int), .int .i64 sn'', .int .i64 nesn'', V'', .bool op'', .bool em'', .int .i64 (ack'' : Int), .int .i64 (tak'' : Int), V2, V3, V4, V9] := (Av.bset K2 17 (V9) rfl)
        replace K3 : Blk (U5.setCell ⟨w.heap.size, 17, none⟩ (V9)) (w.heap.size + 1) 65 #[.int .i64 2, .bool false, .int .i64 x.k, .slice x.A x.v.length x.c] := Av.bother (K3) (by omega) _
        replace K4 : Blk (U5.setCell ⟨w.heap.size, 17, none⟩ (V9)) (w.heap.size + 2) 62 #[.int .i64 0, .int .i64 0, .slice none 0 0, .bool false, .bool false, .int .i64 0, .int .i64 0, .int .i64 0, .int .i64 0, .slice none 0 0, .bool false, .bool false, .int .i64 0, .int .i64 0, .slice none 0 0, .slice none 0 0, .slice none 0 0, .slice none 0 0] := Av.bother (K4) (by omega) _
        replace K8 : Blk (U5.setCell ⟨w.heap.size, 17, none⟩ (V9)) (g8) 24 #[.int .i64 z.k, .slice z.A z.v.length z.c] := Av.bother (K8) (by omega) _
        replace BX : Below m w (U5.setCell ⟨w.heap.size, 17, none⟩ (V9)) := (BX.setCell (p := ⟨w.heap.size, 17, none⟩) (by simp only; omega) _)
        generalize (U5.setCell ⟨w.heap.size, 17, none⟩ (V9)) = U6 at *
        refine hK.out _ _ K8 (fun hHeld => ?_)
        clear hK K
        try simp only [List.getElem_toArray, List.getElem_cons_zero, List.getElem_cons_succ, Act.put, List.setIfInBounds_toArray, List.set_cons_zero, List.set_cons_succ]
        refine wpAnyH_done (by kernel_rfl) ?_ _
        clear hHeld
        go_upto_region 15 with (fail)
        have H1 : (#[.int .i64 sn', .int .i64 nesn', V', .bool op', .bool em', .int .i64 (ack' : Int), .int .i64 (tak' : Int), .int .i64 sn'', .int .i64 nesn'', V'', .bool op'', .bool em'', .int .i64 (ack'' : Int), .int .i64 (tak'' : Int), V2, V3, V4, V9] : Array Value).all (·.oneCell') = true := by rw [← Array.all_toList]; simp only [List.all_cons, List.all_nil, oV', oV'', oV2, oV3, oV4, oV9, Bool.and_true, Bool.and_self]; rfl
        go_wp2_with (first | (refine wpList_store_row rfl 62 (.tmp 4) _ rfl (w.heap.size + 2) #[.int .i64 sn', .int .i64 nesn', V', .bool op', .bool em', .int .i64 (ack' : Int), .int .i64 (tak' : Int), .int .i64 sn'', .int .i64 nesn'', V'', .bool op'', .bool em'', .int .i64 (ack'' : Int), .int .i64 (tak'' : Int), V2, V3, V4, V9] rfl rfl 62 _ K4 (by kernel_rfl) rfl H1 ?_) | (refine wpList_load_row rfl 62 (.tmp 2) rfl (w.heap.size) rfl 62 _ (0, 0) _ K2 Try.underlying62 rfl (by kernel_rfl) ?_))
        have HF := HA.step (stp_row K4 #[.int .i64 sn', .int .i64 nesn', V', .bool op', .bool em', .int .i64 (ack' : Int), .int .i64 (tak' : Int), .int .i64 sn'', .int .i64 nesn'', V'', .bool op'', .bool em'', .int .i64 (ack'' : Int), .int .i64 (tak'' : Int), V2, V3, V4, V9]) (by decide) (by decide) (by omega)
        have KR := setRow_heap U6 (w.heap.size + 2) _ #[.int .i64 sn', .int .i64 nesn', V', .bool op', .bool em', .int .i64 (ack' : Int), .int .i64 (tak' : Int), .int .i64 sn'', .int .i64 nesn'', V'', .bool op'', .bool em'', .int .i64 (ack'' : Int), .int .i64 (tak'' : Int), V2, V3, V4, V9] 62 (0, 0) K4
        have BE : Below m w (U6.setRow (w.heap.size + 2) #[.int .i64 sn', .int .i64 nesn', V', .bool op', .bool em', .int .i64 (ack' : Int), .int .i64 (tak' : Int), .int .i64 sn'', .int .i64 nesn'', V'', .bool op'', .bool em'', .int .i64 (ack'' : Int), .int .i64 (tak'' : Int), V2, V3, V4, V9]) := below_setRow BX (by omega) #[.int .i64 sn', .int .i64 nesn', V', .bool op', .bool em', .int .i64 (ack' : Int), .int .i64 (tak' : Int), .int .i64 sn'', .int .i64 nesn'', V'', .bool op'', .bool em'', .int .i64 (ack'' : Int), .int .i64 (tak'' : Int), V2, V3, V4, V9]
        generalize U6.setRow (w.heap.size + 2) #[.int .i64 sn', .int .i64 nesn', V', .bool op', .bool em', .int .i64 (ack' : Int), .int .i64 (tak' : Int), .int .i64 sn'', .int .i64 nesn'', V'', .bool op'', .bool em'', .int .i64 (ack'' : Int), .int .i64 (tak'' : Int), V2, V3, V4, V9] = Y at *
        refine bodyPost_ret (v := .agg #[.int .i64 sn', .int .i64 nesn', V', .bool op', .bool em', .int .i64 (ack' : Int), .int .i64 (tak' : Int), .int .i64 sn'', .int .i64 nesn'', V'', .bool op'', .bool em'', .int .i64 (ack'' : Int), .int .i64 (tak'' : Int), V2, V3, V4, V9]) ?_ rfl (by rw [HO.out]; exact ⟨V', V'', V2, V3, V4, V9, l', l'', l2, l3, l4, (l5 ++ [z]), rfl, ⟨HF, hl'.out, hl''.out, HX.e2, HX.e3, HX.e4, (by rw [List.map_append, HX.e5, ← hz.out]; rfl)⟩, BE⟩)
        clear K2
        have HL := run_loadVar_row (P := Try.prog) Y (w.heap.size + 2) 62 62 #[.int .i64 sn', .int .i64 nesn', V', .bool op', .bool em', .int .i64 (ack' : Int), .int .i64 (tak' : Int), .int .i64 sn'', .int .i64 nesn'', V'', .bool op'', .bool em'', .int .i64 (ack'' : Int), .int .i64 (tak'' : Int), V2, V3, V4, V9] (0, 0) _ KR Try.underlying62 rfl (by kernel_rfl)
        generalize (#[.int .i64 sn', .int .i64 nesn', V', .bool op', .bool em', .int .i64 (ack' : Int), .int .i64 (tak' : Int), .int .i64 sn'', .int .i64 nesn'', V'', .bool op'', .bool em'', .int .i64 (ack'' : Int), .int .i64 (tak'' : Int), V2, V3, V4, V9] : Array Value) = CS at *
        simp [results, show (Try.f39).results = #[.cell 4 62] from rfl, asAddr, HL, Act.put]
    | false =>
      have HO := Lib.hid (HOn.out rfl)
      go_upto_region 15 with (fail)
      have H1 : (#[.int .i64 sn', .int .i64 nesn', V', .bool op', .bool em', .int .i64 (ack' : Int), .int .i64 (tak' : Int), .int .i64 sn'', .int .i64 nesn'', V'', .bool op'', .bool em'', .int .i64 (ack'' : Int), .int .i64 (tak'' : Int), V2, V3, V4, V5] : Array Value).all (·.oneCell') = true := by rw [← Array.all_toList]; simp only [List.all_cons, List.all_nil, oV', oV'', oV2, oV3, oV4, oV5, Bool.and_true, Bool.and_self]; rfl
      go_wp2_with (first | (refine wpList_store_row rfl 62 (.tmp 4) _ rfl (w.heap.size + 2) #[.int .i64 sn', .int .i64 nesn', V', .bool op', .bool em', .int .i64 (ack' : Int), .int .i64 (tak' : Int), .int .i64 sn'', .int .i64 nesn'', V'', .bool op'', .bool em'', .int .i64 (ack'' : Int), .int .i64 (tak'' : Int), V2, V3, V4, V5] rfl rfl 62 _ K4 (by kernel_rfl) rfl H1 ?_) | (refine wpList_load_row rfl 62 (.tmp 2) rfl (w.heap.size) rfl 62 _ (0, 0) _ K2 Try.underlying62 rfl (by kernel_rfl) ?_))
      have HF := HA.step (stp_row K4 #[.int .i64 sn', .int .i64 nesn', V', .bool op', .bool em', .int .i64 (ack' : Int), .int .i64 (tak' : Int), .int .i64 sn'', .int .i64 nesn'', V'', .bool op'', .bool em'', .int .i64 (ack'' : Int), .int .i64 (tak'' : Int), V2, V3, V4, V5]) (by decide) (by decide) (by omega)
      have KR := setRow_heap W5 (w.heap.size + 2) _ #[.int .i64 sn', .int .i64 nesn', V', .bool op', .bool em', .int .i64 (ack' : Int), .int .i64 (tak' : Int), .int .i64 sn'', .int .i64 nesn'', V'', .bool op'', .bool em'', .int .i64 (ack'' : Int), .int .i64 (tak'' : Int), V2, V3, V4, V5] 62 (0, 0) K4
      have BE : Below m w (W5.setRow (w.heap.size + 2) #[.int .i64 sn', .int .i64 nesn', V', .bool op', .bool em', .int .i64 (ack' : Int), .int .i64 (tak' : Int), .int .i64 sn'', .int .i64 nesn'', V'', .bool op'', .bool em'', .int .i64 (ack'' : Int), .int .i64 (tak'' : Int), V2, V3, V4, V5]) := below_setRow BX (by omega) #[.int .i64 sn', .int .i64 nesn', V', .bool op', .bool em', .int .i64 (ack' : Int), .int .i64 (tak' : Int), .int .i64 sn'', .int .i64 nesn'', V'', .bool op'', .bool em'', .int .i64 (ack'' : Int), .int .i64 (tak'' : Int), V2, V3, V4, V5]
      generalize W5.setRow (w.heap.size + 2) #[.int .i64 sn', .int .i64 nesn', V', .bool op', .bool em', .int .i64 (ack' : Int), .int .i64 (tak' : Int), .int .i64 sn'', .int .i64 nesn'', V'', .bool op'', .bool em'', .int .i64 (ack'' : Int), .int .i64 (tak'' : Int), V2, V3, V4, V5] = Y at *
      refine bodyPost_ret (v := .agg #[.int .i64 sn', .int .i64 nesn', V', .bool op', .bool em', .int .i64 (ack' : Int), .int .i64 (tak' : Int), .int .i64 sn'', .int .i64 nesn'', V'', .bool op'', .bool em'', .int .i64 (ack'' : Int), .int .i64 (tak'' : Int), V2, V3, V4, V5]) ?_ rfl (by rw [HO.out]; exact ⟨V', V'', V2, V3, V4, V5, l', l'', l2, l3, l4, l5, rfl, ⟨HF, hl'.out, hl''.out, HX.e2, HX.e3, HX.e4, HX.e5⟩, BE⟩)
      clear K2
      have HL := run_loadVar_row (P := Try.prog) Y (w.heap.size + 2) 62 62 #[.int .i64 sn', .int .i64 nesn', V', .bool op', .bool em', .int .i64 (ack' : Int), .int .i64 (tak' : Int), .int .i64 sn'', .int .i64 nesn'', V'', .bool op'', .bool em'', .int .i64 (ack'' : Int), .int .i64 (tak'' : Int), V2, V3, V4, V5] (0, 0) _ KR Try.underlying62 rfl (by kernel_rfl)
      generalize (#[.int .i64 sn', .int .i64 nesn', V', .bool op', .bool em', .int .i64 (ack' : Int), .int .i64 (tak' : Int), .int .i64 sn'', .int .i64 nesn'', V'', .bool op'', .bool em'', .int .i64 (ack'' : Int), .int .i64 (tak'' : Int), V2, V3, V4, V5] : Array Value) = CS at *
      simp [results, show (Try.f39).results = #[.cell 4 62] from rfl, asAddr, HL, Act.put]
end Go.Proofs.Ytbnfjielnamepaa.Arq
