/- Acknowledgement: the examples hold: contracts over the program. -/
import Derived.Test.YtbnfjielnamepaaArqEx0
set_option linter.unusedVariables false
set_option linter.unusedSimpArgs false
namespace Go.Proofs.Ytbnfjielnamepaa.Arq
open Go.RowKit Mem Oct Rw Av Dp
open Base (thenB)

open List (getElem_toArray getElem_cons_zero getElem_cons_succ setIfInBounds_toArray set_cons_zero set_cons_succ)
theorem o7 {V : Value} (h : V.oneCell' = true) (a b c d : Int) (p q : Bool) : (#[.int .i64 a, .int .i64 b, V, .bool p, .bool q, .int .i64 c, .int .i64 d] : Array Value).all (·.oneCell') = true := by
 rw [← Array.all_toList]
 simp only [List.all_cons, List.all_nil, h, Bool.and_true, Bool.and_self]
 rfl
theorem o2 (a : Int) (A : Option Addr) (n c : Nat) : (#[.int .i64 a, .slice A n c] : Array Value).all (·.oneCell') = true := by rw [← Array.all_toList]; rfl
theorem form2 {w : World} {m o : Nat} {V : Value} {l : List Pm} {p q : Pk} (h : QQ w m o V l) (hm : l.map Pm.p = [p, q]) : ∃ A c, V = .slice A 2 c := by
 obtain ⟨⟨A, c, rfl, _⟩, _⟩ := h
 have : l.length = 2 := by have := congrArg List.length hm; simpa using this
 exact ⟨A, c, by rw [this]⟩
set_option maxRecDepth 100000 in
set_option maxHeartbeats 40000000 in
theorem lives_any (w : World) : Calls Try.prog 24 #[] w fun e w' => e = .returned (.bool true) ∧ Below w.heap.size w w' := by
 have I1 : Ints .u8 ((w.alloc (.cells #[.int .u8 1] 5)).alloc (.cells #[.int .u8 2] 5)) ((w.alloc (.cells #[.int .u8 1] 5)).alloc (.cells #[.int .u8 2] 5)).heap.size (some ⟨w.heap.size, 0, none⟩) [1] := Base.kept (Base.lit1 .u8 w [1] #[.int .u8 1] 5 rfl) (.cells #[.int .u8 2] 5)
 have I2 : Ints .u8 ((w.alloc (.cells #[.int .u8 1] 5)).alloc (.cells #[.int .u8 2] 5)) ((w.alloc (.cells #[.int .u8 1] 5)).alloc (.cells #[.int .u8 2] 5)).heap.size (some ⟨w.heap.size + 1, 0, none⟩) [2] := by have := Base.lit1 .u8 (w.alloc (.cells #[.int .u8 1] 5)) [2] #[.int .u8 2] 5 rfl; simpa using this
 have hz2 : ((w.alloc (.cells #[.int .u8 1] 5)).alloc (.cells #[.int .u8 2] 5)).heap.size = w.heap.size + 2 := by simp
 have P1 : PP ((w.alloc (.cells #[.int .u8 1] 5)).alloc (.cells #[.int .u8 2] 5)) (w.heap.size + 2) ⟨2, (some ⟨w.heap.size, 0, none⟩), 1, [1]⟩ := hz2 ▸ GP.old (pp_lit ((w.alloc (.cells #[.int .u8 1] 5)).alloc (.cells #[.int .u8 2] 5)) 2 1 (by decide) I1)
 have P2 : PP ((w.alloc (.cells #[.int .u8 1] 5)).alloc (.cells #[.int .u8 2] 5)) (w.heap.size + 2) ⟨2, (some ⟨w.heap.size + 1, 0, none⟩), 1, [2]⟩ := hz2 ▸ GP.old (pp_lit ((w.alloc (.cells #[.int .u8 1] 5)).alloc (.cells #[.int .u8 2] 5)) 2 2 (by decide) I2)
 have K1 : Blk (((w.alloc (.cells #[.int .u8 1] 5)).alloc (.cells #[.int .u8 2] 5)).alloc (.cells #[.int .i64 0, .slice none 0 0] 24)) (w.heap.size + 2) 24 #[.int .i64 0, .slice none 0 0] := by have := Blk.fresh ((w.alloc (.cells #[.int .u8 1] 5)).alloc (.cells #[.int .u8 2] 5)) 24 #[.int .i64 0, .slice none 0 0]; simpa using this
 have K2 : Blk ((((w.alloc (.cells #[.int .u8 1] 5)).alloc (.cells #[.int .u8 2] 5)).alloc (.cells #[.int .i64 0, .slice none 0 0] 24)).alloc (.cells #[.int .i64 0, .slice none 0 0] 24)) (w.heap.size + 3) 24 #[.int .i64 0, .slice none 0 0] := by have := Blk.fresh (((w.alloc (.cells #[.int .u8 1] 5)).alloc (.cells #[.int .u8 2] 5)).alloc (.cells #[.int .i64 0, .slice none 0 0] 24)) 24 #[.int .i64 0, .slice none 0 0]; simpa using this
 replace K1 := K1.alloc (.cells #[.int .i64 0, .slice none 0 0] 24)
 have BX : Below w.heap.size w ((((w.alloc (.cells #[.int .u8 1] 5)).alloc (.cells #[.int .u8 2] 5)).alloc (.cells #[.int .i64 0, .slice none 0 0] 24)).alloc (.cells #[.int .i64 0, .slice none 0 0] 24)) := ((((Below.refl _ _).alloc (Nat.le_refl _) _).alloc (by simp) _).alloc (by simp; omega) _).alloc (by simp; omega) _
 replace P1 := P1.below ((((Below.refl _ _).alloc (Nat.le_refl _) (.cells #[.int .i64 0, .slice none 0 0] 24))).alloc (by simp) (.cells #[.int .i64 0, .slice none 0 0] 24))
 replace P2 := P2.below ((((Below.refl _ _).alloc (Nat.le_refl _) (.cells #[.int .i64 0, .slice none 0 0] 24))).alloc (by simp) (.cells #[.int .i64 0, .slice none 0 0] 24))
 clear I1 I2 hz2
 have H1 : (#[.int .i64 2, .slice (some ⟨w.heap.size, 0, none⟩) 1 1] : Array Value).all (·.oneCell') = true := (by rw [← Array.all_toList]; rfl)
 have H2 : (#[.int .i64 2, .slice (some ⟨w.heap.size + 1, 0, none⟩) 1 1] : Array Value).all (·.oneCell') = true := (by rw [← Array.all_toList]; rfl)
 go_enter Try.func24, Try.ntmps24
 go_upto_region 2 with (first | (refine wpList_store_row rfl 24 (.tmp 1) _ rfl (w.heap.size + 2) #[.int .i64 2, .slice (some ⟨w.heap.size, 0, none⟩) 1 1] rfl rfl 24 _ K1 (by kernel_rfl) rfl H1 ?_) | (refine wpList_store_row rfl 24 (.tmp 2) _ rfl (w.heap.size + 3) #[.int .i64 2, .slice (some ⟨w.heap.size + 1, 0, none⟩) 1 1] rfl rfl 24 _ (Av.bother_row K2 (by omega)) (by kernel_rfl) rfl H2 ?_))
 clear H1 H2
 have sR := stp_row K1 #[.int .i64 2, .slice (some ⟨w.heap.size, 0, none⟩) 1 1]
 replace P1 := P1.step sR (by decide) (by omega)
 replace P2 := P2.step sR (by decide) (by omega)
 replace K2 := sR.blk_ne K2 (by omega)
 replace BX := below_setRow (g := w.heap.size + 2) BX (by omega) #[.int .i64 2, .slice (some ⟨w.heap.size, 0, none⟩) 1 1]
 clear sR
 replace K1 := Av.bset_row (cs' := #[.int .i64 2, .slice (some ⟨w.heap.size, 0, none⟩) 1 1]) K1
 have sR := stp_row K2 #[.int .i64 2, .slice (some ⟨w.heap.size + 1, 0, none⟩) 1 1]
 replace P1 := P1.step sR (by decide) (by omega)
 replace P2 := P2.step sR (by decide) (by omega)
 replace K1 := sR.blk_ne K1 (by omega)
 replace BX := below_setRow (g := w.heap.size + 3) BX (by omega) #[.int .i64 2, .slice (some ⟨w.heap.size + 1, 0, none⟩) 1 1]
 clear sR
 replace K2 := Av.bset_row (cs' := #[.int .i64 2, .slice (some ⟨w.heap.size + 1, 0, none⟩) 1 1]) K2
 generalize (((((w.alloc (.cells #[.int .u8 1] 5)).alloc (.cells #[.int .u8 2] 5)).alloc (.cells #[.int .i64 0, .slice none 0 0] 24)).alloc (.cells #[.int .i64 0, .slice none 0 0] 24)).setRow (w.heap.size + 2) #[.int .i64 2, .slice (some ⟨w.heap.size, 0, none⟩) 1 1]).setRow (w.heap.size + 3) #[.int .i64 2, .slice (some ⟨w.heap.size + 1, 0, none⟩) 1 1] = W1 at *
 have BC := Below.refl W1.heap.size W1
 try simp only [Act.put]
 go_cut [3, 4] from 28 to 33 (fun s3 s4 wx => ∃ g3 V3 l3, s3 = .pointer (some ⟨g3, 0, none⟩) ∧ s4 = .int .i64 0 ∧ W1.heap.size ≤ g3 ∧ V3.oneCell' = true ∧ Hid (l3.map Pm.p = [(2, [1])]) ∧ Blk wx g3 43 #[.int .i64 0, .int .i64 0, V3, .bool false, .bool false, .int .i64 0, .int .i64 0] ∧ QQ wx 0 0 V3 l3 ∧ Below W1.heap.size W1 wx ∧ Below w.heap.size w wx)
 case first =>
  have K1' : Blk W1.drew (w.heap.size + 2) 24 #[.int .i64 2, .slice (some ⟨w.heap.size, 0, none⟩) 1 1] := Mem.Blk.drew K1
  refine wp_region_held_drew (S := (fun w' => Blk w' (w.heap.size + 2) 24 #[.int .i64 2, .slice (some ⟨w.heap.size, 0, none⟩) 1 1])) (by kernel_rfl) ?_ (fun hHeld => ?_)
  · exact K1'
  replace K1 := K1'
  clear K1'
  replace BX : Below w.heap.size w W1.drew := BX.drew
  replace BC := BC.drew
  generalize W1.drew = X0 at *
  refine wpAnyH_take (i := 1) (v := .agg #[.int .i64 2, .slice (some ⟨w.heap.size, 0, none⟩) 1 1]) rfl (by kernel_rfl) (by kernel_rfl) (by kernel_rfl) (fun _ _ _ h => h) (Av.yields_part (by first | rfl | go_simp) _ _ rfl (w.heap.size + 2) 0 rfl #[.int .i64 2, .slice (some ⟨w.heap.size, 0, none⟩) 1 1] _ 24 #[.int .i64 2, .slice (some ⟨w.heap.size, 0, none⟩) 1 1] (fun w9 hSw => hSw) rfl Try.underlying24 rfl (by kernel_rfl)) ‹_› ?_
  simp only [getElem_toArray, getElem_cons_zero, getElem_cons_succ, Act.put, setIfInBounds_toArray, set_cons_zero, set_cons_succ]
  refine wpAnyH_ready (rs := [0, 6]) (by kernel_rfl) (by simp) ?_
  refine AllReadyH.cons rfl (fun K hK => ?_) (AllReadyH.cons rfl (fun K hK => ?_) (AllReadyH.nil))
  ·
   go_simp
   refine (new_any X0).mono ?_
   rintro e X1 ⟨rfl, b9⟩
   replace K1 := K1.below b9 K1.lt
   replace BX := thenB BX b9
   replace BC := thenB BC b9
   clear b9
   refine hK.out _ _ K1 (fun hHeld => ?_)
   clear hK K
   try simp only [getElem_toArray, getElem_cons_zero, getElem_cons_succ, Act.put, setIfInBounds_toArray, set_cons_zero, set_cons_succ]
   refine wpAnyH_ready (rs := [2, 6]) (by kernel_rfl) (by simp) ?_
   refine AllReadyH.cons rfl (fun K hK => ?_) (AllReadyH.cons rfl (fun K hK => ?_) (AllReadyH.nil))
   ·
    go_simp
    refine (ex_q1 X1 (some ⟨w.heap.size, 0, none⟩) (P1.below BC).gp).mono ?_
    rintro e X2 ⟨V3, l3, rfl, HV3, hl3, oV3, b9⟩
    replace K1 := K1.below b9 K1.lt
    replace BX := thenB BX b9
    replace BC := thenB BC b9
    clear b9
    refine hK.out _ _ K1 (fun hHeld => ?_)
    clear hK K
    try simp only [getElem_toArray, getElem_cons_zero, getElem_cons_succ, Act.put, setIfInBounds_toArray, set_cons_zero, set_cons_succ]
    refine wpAnyH_take (i := 3) (v := .tuple #[.agg #[.int .i64 0, .int .i64 0, V3, .bool false, .bool false, .int .i64 0, .int .i64 0], .int .i64 0]) rfl (by kernel_rfl) (by kernel_rfl) (by kernel_rfl) (fun _ _ _ h => h) (.inl ⟨by first | rfl | go_simp, by intro u h; (try dsimp only at h); go_simp⟩) ‹_› ?_
    simp only [getElem_toArray, getElem_cons_zero, getElem_cons_succ, Act.put, setIfInBounds_toArray, set_cons_zero, set_cons_succ]
    refine wpAnyH_take (i := 4) (v := .agg #[.int .i64 0, .int .i64 0, V3, .bool false, .bool false, .int .i64 0, .int .i64 0]) rfl (by kernel_rfl) (by kernel_rfl) (by kernel_rfl) (fun _ _ _ h => h) (.inl ⟨by first | rfl | go_simp, by intro u h; (try dsimp only at h); go_simp⟩) ‹_› ?_
    simp only [getElem_toArray, getElem_cons_zero, getElem_cons_succ, Act.put, setIfInBounds_toArray, set_cons_zero, set_cons_succ]
    refine wpAnyH_take (i := 5) (v := .int .i64 0) rfl (by kernel_rfl) (by kernel_rfl) (by kernel_rfl) (fun _ _ _ h => h) (.inl ⟨by first | rfl | go_simp, by intro u h; (try dsimp only at h); go_simp⟩) ‹_› ?_
    simp only [getElem_toArray, getElem_cons_zero, getElem_cons_succ, Act.put, setIfInBounds_toArray, set_cons_zero, set_cons_succ]
    refine wpAnyH_ready (rs := [6]) (by kernel_rfl) (by simp) ?_
    refine .cons rfl (fun K hK => ?_) .nil
    go_simp
    have hxc := BC.size
    have b9 := (Below.refl X2.heap.size X2).alloc (Nat.le_refl _) (.cells #[.int .i64 0, .int .i64 0, .slice none 0 0, .bool false, .bool false, .int .i64 0, .int .i64 0] 43)
    have K3 := Blk.fresh X2 43 #[.int .i64 0, .int .i64 0, .slice none 0 0, .bool false, .bool false, .int .i64 0, .int .i64 0]
    have hxK3K1 := K1.lt
    have hbK3 : W1.heap.size ≤ X2.heap.size := hxc
    clear hxc
    generalize X2.alloc (.cells #[.int .i64 0, .int .i64 0, .slice none 0 0, .bool false, .bool false, .int .i64 0, .int .i64 0] 43) = X3 at *
    replace K1 := K1.below b9 K1.lt
    replace BX := thenB BX b9
    replace BC := thenB BC b9
    replace HV3 := HV3.below b9
    clear b9
    refine hK.out _ _ K1 (fun hHeld => ?_)
    clear hK K
    try simp only [getElem_toArray, getElem_cons_zero, getElem_cons_succ, Act.put, setIfInBounds_toArray, set_cons_zero, set_cons_succ]
    refine wpAnyH_ready (rs := [7]) (by kernel_rfl) (by simp) ?_
    refine .cons rfl (fun K hK => ?_) .nil
    have H9 := o7 oV3 0 0 0 0 false false
    refine Av.step_store_row rfl 43 (.tmp 3) (.tmp 32) rfl (X2.heap.size) #[.int .i64 0, .int .i64 0, V3, .bool false, .bool false, .int .i64 0, .int .i64 0] rfl rfl 43 _ K3 (by kernel_rfl) rfl H9 ?_
    replace BC := below_setRow (g := X2.heap.size) BC (by omega) #[.int .i64 0, .int .i64 0, V3, .bool false, .bool false, .int .i64 0, .int .i64 0]
    replace HV3 := HV3.step (stp_row K3 #[.int .i64 0, .int .i64 0, V3, .bool false, .bool false, .int .i64 0, .int .i64 0]) (by decide) (by decide) (Nat.zero_le _)
    replace K1 : Blk (X3.setRow (X2.heap.size) #[.int .i64 0, .int .i64 0, V3, .bool false, .bool false, .int .i64 0, .int .i64 0]) (w.heap.size + 2) 24 #[.int .i64 2, .slice (some ⟨w.heap.size, 0, none⟩) 1 1] := Av.bother_row K1 (by omega)
    replace K3 : Blk (X3.setRow (X2.heap.size) #[.int .i64 0, .int .i64 0, V3, .bool false, .bool false, .int .i64 0, .int .i64 0]) (X2.heap.size) 43 #[.int .i64 0, .int .i64 0, V3, .bool false, .bool false, .int .i64 0, .int .i64 0] := Av.bset_row K3
    replace BX : Below w.heap.size w (X3.setRow (X2.heap.size) #[.int .i64 0, .int .i64 0, V3, .bool false, .bool false, .int .i64 0, .int .i64 0]) := below_setRow BX (by omega) _
    clear H9
    generalize X3.setRow (X2.heap.size) #[.int .i64 0, .int .i64 0, V3, .bool false, .bool false, .int .i64 0, .int .i64 0] = X4 at *
    refine hK.out _ _ K1 (fun hHeld => ?_)
    clear hK K
    try simp only [getElem_toArray, getElem_cons_zero, getElem_cons_succ, Act.put, setIfInBounds_toArray, set_cons_zero, set_cons_succ]
    refine wpAnyH_take (i := 8) (v := .int .i64 0) rfl (by kernel_rfl) (by kernel_rfl) (by kernel_rfl) (fun _ _ _ h => h) (.inl ⟨by first | rfl | go_simp, by intro u h; (try dsimp only at h); go_simp⟩) ‹_› ?_
    simp only [getElem_toArray, getElem_cons_zero, getElem_cons_succ, Act.put, setIfInBounds_toArray, set_cons_zero, set_cons_succ]
    refine wpAnyH_done (by kernel_rfl) ?_ _
    clear hHeld
    go_wp2_with fail
    go_meet
    exact ⟨X2.heap.size, V3, l3, rfl, rfl, hbK3, oV3, hl3, K3, HV3, BC, BX⟩
   ·
    go_simp
    have hxc := BC.size
    have b9 := (Below.refl X1.heap.size X1).alloc (Nat.le_refl _) (.cells #[.int .i64 0, .int .i64 0, .slice none 0 0, .bool false, .bool false, .int .i64 0, .int .i64 0] 43)
    have K3 := Blk.fresh X1 43 #[.int .i64 0, .int .i64 0, .slice none 0 0, .bool false, .bool false, .int .i64 0, .int .i64 0]
    have hxK3K1 := K1.lt
    have hbK3 : W1.heap.size ≤ X1.heap.size := hxc
    clear hxc
    generalize X1.alloc (.cells #[.int .i64 0, .int .i64 0, .slice none 0 0, .bool false, .bool false, .int .i64 0, .int .i64 0] 43) = X5 at *
    replace K1 := K1.below b9 K1.lt
    replace BX := thenB BX b9
    replace BC := thenB BC b9
    clear b9
    refine hK.out _ _ K1 (fun hHeld => ?_)
    clear hK K
    try simp only [getElem_toArray, getElem_cons_zero, getElem_cons_succ, Act.put, setIfInBounds_toArray, set_cons_zero, set_cons_succ]
    refine wpAnyH_ready (rs := [2]) (by kernel_rfl) (by simp) ?_
    refine .cons rfl (fun K hK => ?_) .nil
    go_simp
    refine (ex_q1 X5 (some ⟨w.heap.size, 0, none⟩) (P1.below BC).gp).mono ?_
    rintro e X6 ⟨V3, l3, rfl, HV3, hl3, oV3, b9⟩
    replace K1 := K1.below b9 K1.lt
    replace K3 := K3.below b9 K3.lt
    replace BX := thenB BX b9
    replace BC := thenB BC b9
    clear b9
    refine hK.out _ _ K1 (fun hHeld => ?_)
    clear hK K
    try simp only [getElem_toArray, getElem_cons_zero, getElem_cons_succ, Act.put, setIfInBounds_toArray, set_cons_zero, set_cons_succ]
    refine wpAnyH_take (i := 3) (v := .tuple #[.agg #[.int .i64 0, .int .i64 0, V3, .bool false, .bool false, .int .i64 0, .int .i64 0], .int .i64 0]) rfl (by kernel_rfl) (by kernel_rfl) (by kernel_rfl) (fun _ _ _ h => h) (.inl ⟨by first | rfl | go_simp, by intro u h; (try dsimp only at h); go_simp⟩) ‹_› ?_
    simp only [getElem_toArray, getElem_cons_zero, getElem_cons_succ, Act.put, setIfInBounds_toArray, set_cons_zero, set_cons_succ]
    refine wpAnyH_take (i := 4) (v := .agg #[.int .i64 0, .int .i64 0, V3, .bool false, .bool false, .int .i64 0, .int .i64 0]) rfl (by kernel_rfl) (by kernel_rfl) (by kernel_rfl) (fun _ _ _ h => h) (.inl ⟨by first | rfl | go_simp, by intro u h; (try dsimp only at h); go_simp⟩) ‹_› ?_
    simp only [getElem_toArray, getElem_cons_zero, getElem_cons_succ, Act.put, setIfInBounds_toArray, set_cons_zero, set_cons_succ]
    refine wpAnyH_take (i := 5) (v := .int .i64 0) rfl (by kernel_rfl) (by kernel_rfl) (by kernel_rfl) (fun _ _ _ h => h) (.inl ⟨by first | rfl | go_simp, by intro u h; (try dsimp only at h); go_simp⟩) ‹_› ?_
    simp only [getElem_toArray, getElem_cons_zero, getElem_cons_succ, Act.put, setIfInBounds_toArray, set_cons_zero, set_cons_succ]
    refine wpAnyH_ready (rs := [7]) (by kernel_rfl) (by simp) ?_
    refine .cons rfl (fun K hK => ?_) .nil
    have H9 := o7 oV3 0 0 0 0 false false
    refine Av.step_store_row rfl 43 (.tmp 3) (.tmp 32) rfl (X1.heap.size) #[.int .i64 0, .int .i64 0, V3, .bool false, .bool false, .int .i64 0, .int .i64 0] rfl rfl 43 _ K3 (by kernel_rfl) rfl H9 ?_
    replace BC := below_setRow (g := X1.heap.size) BC (by omega) #[.int .i64 0, .int .i64 0, V3, .bool false, .bool false, .int .i64 0, .int .i64 0]
    replace HV3 := HV3.step (stp_row K3 #[.int .i64 0, .int .i64 0, V3, .bool false, .bool false, .int .i64 0, .int .i64 0]) (by decide) (by decide) (Nat.zero_le _)
    replace K1 : Blk (X6.setRow (X1.heap.size) #[.int .i64 0, .int .i64 0, V3, .bool false, .bool false, .int .i64 0, .int .i64 0]) (w.heap.size + 2) 24 #[.int .i64 2, .slice (some ⟨w.heap.size, 0, none⟩) 1 1] := Av.bother_row K1 (by omega)
    replace K3 : Blk (X6.setRow (X1.heap.size) #[.int .i64 0, .int .i64 0, V3, .bool false, .bool false, .int .i64 0, .int .i64 0]) (X1.heap.size) 43 #[.int .i64 0, .int .i64 0, V3, .bool false, .bool false, .int .i64 0, .int .i64 0] := Av.bset_row K3
    replace BX : Below w.heap.size w (X6.setRow (X1.heap.size) #[.int .i64 0, .int .i64 0, V3, .bool false, .bool false, .int .i64 0, .int .i64 0]) := below_setRow BX (by omega) _
    clear H9
    generalize X6.setRow (X1.heap.size) #[.int .i64 0, .int .i64 0, V3, .bool false, .bool false, .int .i64 0, .int .i64 0] = X7 at *
    refine hK.out _ _ K1 (fun hHeld => ?_)
    clear hK K
    try simp only [getElem_toArray, getElem_cons_zero, getElem_cons_succ, Act.put, setIfInBounds_toArray, set_cons_zero, set_cons_succ]
    refine wpAnyH_take (i := 8) (v := .int .i64 0) rfl (by kernel_rfl) (by kernel_rfl) (by kernel_rfl) (fun _ _ _ h => h) (.inl ⟨by first | rfl | go_simp, by intro u h; (try dsimp only at h); go_simp⟩) ‹_› ?_
    simp only [getElem_toArray, getElem_cons_zero, getElem_cons_succ, Act.put, setIfInBounds_toArray, set_cons_zero, set_cons_succ]
    refine wpAnyH_done (by kernel_rfl) ?_ _
    clear hHeld
    go_wp2_with fail
    go_meet
    exact ⟨X1.heap.size, V3, l3, rfl, rfl, hbK3, oV3, hl3, K3, HV3, BC, BX⟩
  ·
   go_simp
   have hxc := BC.size
   have b9 := (Below.refl X0.heap.size X0).alloc (Nat.le_refl _) (.cells #[.int .i64 0, .int .i64 0, .slice none 0 0, .bool false, .bool false, .int .i64 0, .int .i64 0] 43)
   have K3 := Blk.fresh X0 43 #[.int .i64 0, .int .i64 0, .slice none 0 0, .bool false, .bool false, .int .i64 0, .int .i64 0]
   have hxK3K1 := K1.lt
   have hbK3 : W1.heap.size ≤ X0.heap.size := hxc
   clear hxc
   generalize X0.alloc (.cells #[.int .i64 0, .int .i64 0, .slice none 0 0, .bool false, .bool false, .int .i64 0, .int .i64 0] 43) = X8 at *
   replace K1 := K1.below b9 K1.lt
   replace BX := thenB BX b9
   replace BC := thenB BC b9
   clear b9
   refine hK.out _ _ K1 (fun hHeld => ?_)
   clear hK K
   try simp only [getElem_toArray, getElem_cons_zero, getElem_cons_succ, Act.put, setIfInBounds_toArray, set_cons_zero, set_cons_succ]
   refine wpAnyH_ready (rs := [0]) (by kernel_rfl) (by simp) ?_
   refine .cons rfl (fun K hK => ?_) .nil
   go_simp
   refine (new_any X8).mono ?_
   rintro e X9 ⟨rfl, b9⟩
   replace K1 := K1.below b9 K1.lt
   replace K3 := K3.below b9 K3.lt
   replace BX := thenB BX b9
   replace BC := thenB BC b9
   clear b9
   refine hK.out _ _ K1 (fun hHeld => ?_)
   clear hK K
   try simp only [getElem_toArray, getElem_cons_zero, getElem_cons_succ, Act.put, setIfInBounds_toArray, set_cons_zero, set_cons_succ]
   refine wpAnyH_ready (rs := [2]) (by kernel_rfl) (by simp) ?_
   refine .cons rfl (fun K hK => ?_) .nil
   go_simp
   refine (ex_q1 X9 (some ⟨w.heap.size, 0, none⟩) (P1.below BC).gp).mono ?_
   rintro e X10 ⟨V3, l3, rfl, HV3, hl3, oV3, b9⟩
   replace K1 := K1.below b9 K1.lt
   replace K3 := K3.below b9 K3.lt
   replace BX := thenB BX b9
   replace BC := thenB BC b9
   clear b9
   refine hK.out _ _ K1 (fun hHeld => ?_)
   clear hK K
   try simp only [getElem_toArray, getElem_cons_zero, getElem_cons_succ, Act.put, setIfInBounds_toArray, set_cons_zero, set_cons_succ]
   refine wpAnyH_take (i := 3) (v := .tuple #[.agg #[.int .i64 0, .int .i64 0, V3, .bool false, .bool false, .int .i64 0, .int .i64 0], .int .i64 0]) rfl (by kernel_rfl) (by kernel_rfl) (by kernel_rfl) (fun _ _ _ h => h) (.inl ⟨by first | rfl | go_simp, by intro u h; (try dsimp only at h); go_simp⟩) ‹_› ?_
   simp only [getElem_toArray, getElem_cons_zero, getElem_cons_succ, Act.put, setIfInBounds_toArray, set_cons_zero, set_cons_succ]
   refine wpAnyH_take (i := 4) (v := .agg #[.int .i64 0, .int .i64 0, V3, .bool false, .bool false, .int .i64 0, .int .i64 0]) rfl (by kernel_rfl) (by kernel_rfl) (by kernel_rfl) (fun _ _ _ h => h) (.inl ⟨by first | rfl | go_simp, by intro u h; (try dsimp only at h); go_simp⟩) ‹_› ?_
   simp only [getElem_toArray, getElem_cons_zero, getElem_cons_succ, Act.put, setIfInBounds_toArray, set_cons_zero, set_cons_succ]
   refine wpAnyH_take (i := 5) (v := .int .i64 0) rfl (by kernel_rfl) (by kernel_rfl) (by kernel_rfl) (fun _ _ _ h => h) (.inl ⟨by first | rfl | go_simp, by intro u h; (try dsimp only at h); go_simp⟩) ‹_› ?_
   simp only [getElem_toArray, getElem_cons_zero, getElem_cons_succ, Act.put, setIfInBounds_toArray, set_cons_zero, set_cons_succ]
   refine wpAnyH_ready (rs := [7]) (by kernel_rfl) (by simp) ?_
   refine .cons rfl (fun K hK => ?_) .nil
   have H9 := o7 oV3 0 0 0 0 false false
   refine Av.step_store_row rfl 43 (.tmp 3) (.tmp 32) rfl (X0.heap.size) #[.int .i64 0, .int .i64 0, V3, .bool false, .bool false, .int .i64 0, .int .i64 0] rfl rfl 43 _ K3 (by kernel_rfl) rfl H9 ?_
   replace BC := below_setRow (g := X0.heap.size) BC (by omega) #[.int .i64 0, .int .i64 0, V3, .bool false, .bool false, .int .i64 0, .int .i64 0]
   replace HV3 := HV3.step (stp_row K3 #[.int .i64 0, .int .i64 0, V3, .bool false, .bool false, .int .i64 0, .int .i64 0]) (by decide) (by decide) (Nat.zero_le _)
   replace K1 : Blk (X10.setRow (X0.heap.size) #[.int .i64 0, .int .i64 0, V3, .bool false, .bool false, .int .i64 0, .int .i64 0]) (w.heap.size + 2) 24 #[.int .i64 2, .slice (some ⟨w.heap.size, 0, none⟩) 1 1] := Av.bother_row K1 (by omega)
   replace K3 : Blk (X10.setRow (X0.heap.size) #[.int .i64 0, .int .i64 0, V3, .bool false, .bool false, .int .i64 0, .int .i64 0]) (X0.heap.size) 43 #[.int .i64 0, .int .i64 0, V3, .bool false, .bool false, .int .i64 0, .int .i64 0] := Av.bset_row K3
   replace BX : Below w.heap.size w (X10.setRow (X0.heap.size) #[.int .i64 0, .int .i64 0, V3, .bool false, .bool false, .int .i64 0, .int .i64 0]) := below_setRow BX (by omega) _
   clear H9
   generalize X10.setRow (X0.heap.size) #[.int .i64 0, .int .i64 0, V3, .bool false, .bool false, .int .i64 0, .int .i64 0] = X11 at *
   refine hK.out _ _ K1 (fun hHeld => ?_)
   clear hK K
   try simp only [getElem_toArray, getElem_cons_zero, getElem_cons_succ, Act.put, setIfInBounds_toArray, set_cons_zero, set_cons_succ]
   refine wpAnyH_take (i := 8) (v := .int .i64 0) rfl (by kernel_rfl) (by kernel_rfl) (by kernel_rfl) (fun _ _ _ h => h) (.inl ⟨by first | rfl | go_simp, by intro u h; (try dsimp only at h); go_simp⟩) ‹_› ?_
   simp only [getElem_toArray, getElem_cons_zero, getElem_cons_succ, Act.put, setIfInBounds_toArray, set_cons_zero, set_cons_succ]
   refine wpAnyH_done (by kernel_rfl) ?_ _
   clear hHeld
   go_wp2_with fail
   go_meet
   exact ⟨X0.heap.size, V3, l3, rfl, rfl, hbK3, oV3, hl3, K3, HV3, BC, BX⟩
 clear BC BX
 obtain ⟨g3, V3, l3, rfl, rfl, hg3, oV3, hl3, K3, HV3, BC, BX⟩ := hcut
 have hk2 := K2.lt
 replace K1 := K1.below BC K1.lt
 replace K2 := K2.below BC K2.lt
 replace P1 := P1.below BC
 replace P2 := P2.below BC
 have hg3w : w.heap.size + 3 < g3 := by omega
 clear hg3 hk2 BC
 rename World => W2
 clear W1
 go_upto_region 4 with (first | (refine wpList_load_row rfl 43 (.tmp 3) rfl (g3) rfl 43 #[.int .i64 0, .int .i64 0, V3, .bool false, .bool false, .int .i64 0, .int .i64 0] (0, 0) _ K3 Try.underlying43 rfl (by kernel_rfl) ?_) | (refine wpList_load_row rfl 24 (.tmp 2) rfl (w.heap.size + 3) rfl 24 #[.int .i64 2, .slice (some ⟨w.heap.size + 1, 0, none⟩) 1 1] (0, 0) _ K2 Try.underlying24 rfl (by kernel_rfl) ?_) | (go_at_call 28; refine (ex_q2 _ V3 l3 (some ⟨w.heap.size + 1, 0, none⟩) HV3 hl3.out P2.gp).mono ?_; rintro e W3 ⟨V4, l4, rfl, HV4, hl4, oV4, b9⟩; replace K1 := K1.below b9 K1.lt; replace K2 := K2.below b9 K2.lt; replace K3 := K3.below b9 K3.lt; replace P1 := P1.below b9; replace P2 := P2.below b9; replace HV3 := HV3.below b9; replace BX := thenB BX b9; clear b9; clear HV3 hl3; have H1 : (#[.int .i64 0, .int .i64 0, V4, .bool false, .bool false, .int .i64 0, .int .i64 0] : Array Value).all (·.oneCell') = true := (by rw [← Array.all_toList]; simp only [List.all_cons, List.all_nil, oV4, Bool.and_true, Bool.and_self]; rfl)) | (refine wpList_store_row rfl 43 (.tmp 3) _ rfl (g3) #[.int .i64 0, .int .i64 0, V4, .bool false, .bool false, .int .i64 0, .int .i64 0] rfl rfl 43 _ K3 (by kernel_rfl) rfl H1 ?_))
 clear H1
 have sR := stp_row K3 #[.int .i64 0, .int .i64 0, V4, .bool false, .bool false, .int .i64 0, .int .i64 0]
 replace P1 := P1.step sR (by decide) (by omega)
 replace P2 := P2.step sR (by decide) (by omega)
 replace HV4 := HV4.step sR (by decide) (by decide) (by omega)
 replace K1 := sR.blk_ne K1 (by omega)
 replace K2 := sR.blk_ne K2 (by omega)
 replace BX := below_setRow (g := g3) BX (by omega) #[.int .i64 0, .int .i64 0, V4, .bool false, .bool false, .int .i64 0, .int .i64 0]
 clear sR
 replace K3 := Av.bset_row (cs' := #[.int .i64 0, .int .i64 0, V4, .bool false, .bool false, .int .i64 0, .int .i64 0]) K3
 generalize W3.setRow g3 #[.int .i64 0, .int .i64 0, V4, .bool false, .bool false, .int .i64 0, .int .i64 0] = W4 at *
 go_upto_region 5 with (first | (refine wpList_load_row rfl 43 (.tmp 3) rfl (g3) rfl 43 #[.int .i64 0, .int .i64 0, V4, .bool false, .bool false, .int .i64 0, .int .i64 0] (0, 0) _ K3 Try.underlying43 rfl (by kernel_rfl) ?_) | (go_at_call 30; refine (ex_s1 _ V4 l4 HV4 hl4.out).mono ?_; rintro e W3 ⟨V5, l5, A6, c6, rfl, HV5, hl5, oV5, P6, b9⟩; replace K1 := K1.below b9 K1.lt; replace K2 := K2.below b9 K2.lt; replace K3 := K3.below b9 K3.lt; replace P1 := P1.below b9; replace P2 := P2.below b9; replace HV4 := HV4.below b9; replace BX := thenB BX b9; clear b9; clear HV4 hl4; have h3 := K3.lt; have H1 : (#[.int .i64 0, .int .i64 0, V5, .bool true, .bool false, .int .i64 0, .int .i64 0] : Array Value).all (·.oneCell') = true := (by rw [← Array.all_toList]; simp only [List.all_cons, List.all_nil, oV5, Bool.and_true, Bool.and_self]; rfl); have H2 : (#[.int .i64 0, .int .i64 0, .int .i64 1, .int .i64 2, .slice A6 1 c6] : Array Value).all (·.oneCell') = true := (by rw [← Array.all_toList]; rfl)) | (refine wpList_store_row rfl 43 (.tmp 3) _ rfl (g3) #[.int .i64 0, .int .i64 0, V5, .bool true, .bool false, .int .i64 0, .int .i64 0] rfl rfl 43 _ (K3.alloc (.cells #[.int .i64 0, .int .i64 0, .int .i64 0, .int .i64 0, .slice none 0 0] 26)) (by kernel_rfl) rfl H1 ?_) | (refine wpList_store_row rfl 26 (.tmp 6) _ rfl (W3.heap.size) #[.int .i64 0, .int .i64 0, .int .i64 1, .int .i64 2, .slice A6 1 c6] rfl rfl 26 _ (Av.bother_row (Blk.fresh W3 26 #[.int .i64 0, .int .i64 0, .int .i64 0, .int .i64 0, .slice none 0 0]) (by omega)) (by kernel_rfl) rfl H2 ?_))
 clear H1 H2
 replace K1 := K1.alloc (.cells #[.int .i64 0, .int .i64 0, .int .i64 0, .int .i64 0, .slice none 0 0] 26)
 replace K2 := K2.alloc (.cells #[.int .i64 0, .int .i64 0, .int .i64 0, .int .i64 0, .slice none 0 0] 26)
 replace K3 := K3.alloc (.cells #[.int .i64 0, .int .i64 0, .int .i64 0, .int .i64 0, .slice none 0 0] 26)
 replace P1 := P1.below ((Below.refl _ _).alloc (Nat.le_refl _) (.cells #[.int .i64 0, .int .i64 0, .int .i64 0, .int .i64 0, .slice none 0 0] 26))
 replace P2 := P2.below ((Below.refl _ _).alloc (Nat.le_refl _) (.cells #[.int .i64 0, .int .i64 0, .int .i64 0, .int .i64 0, .slice none 0 0] 26))
 replace HV5 := HV5.below ((Below.refl _ _).alloc (Nat.le_refl _) (.cells #[.int .i64 0, .int .i64 0, .int .i64 0, .int .i64 0, .slice none 0 0] 26))
 replace P6 := P6.below ((Below.refl _ _).alloc (Nat.le_refl _) (.cells #[.int .i64 0, .int .i64 0, .int .i64 0, .int .i64 0, .slice none 0 0] 26))
 replace BX := BX.alloc BX.size (.cells #[.int .i64 0, .int .i64 0, .int .i64 0, .int .i64 0, .slice none 0 0] 26)
 have K6 := Blk.fresh W3 26 #[.int .i64 0, .int .i64 0, .int .i64 0, .int .i64 0, .slice none 0 0]
 obtain ⟨g6, e6⟩ : ∃ g6, W3.heap.size = g6 := ⟨_, rfl⟩
 have hg6 : g3 < g6 := by omega
 rw [e6] at K6 h3 ⊢
 clear e6 h3
 generalize W3.alloc (.cells #[.int .i64 0, .int .i64 0, .int .i64 0, .int .i64 0, .slice none 0 0] 26) = W5 at *
 have sR := stp_row K3 #[.int .i64 0, .int .i64 0, V5, .bool true, .bool false, .int .i64 0, .int .i64 0]
 replace P1 := P1.step sR (by decide) (by omega)
 replace P2 := P2.step sR (by decide) (by omega)
 replace HV5 := HV5.step sR (by decide) (by decide) (by omega)
 replace P6 := P6.step sR (by decide) (by omega)
 replace K1 := sR.blk_ne K1 (by omega)
 replace K2 := sR.blk_ne K2 (by omega)
 replace K6 := sR.blk_ne K6 (by omega)
 replace BX := below_setRow (g := g3) BX (by omega) #[.int .i64 0, .int .i64 0, V5, .bool true, .bool false, .int .i64 0, .int .i64 0]
 clear sR
 replace K3 := Av.bset_row (cs' := #[.int .i64 0, .int .i64 0, V5, .bool true, .bool false, .int .i64 0, .int .i64 0]) K3
 have sR := stp_row K6 #[.int .i64 0, .int .i64 0, .int .i64 1, .int .i64 2, .slice A6 1 c6]
 replace P1 := P1.step sR (by decide) (by omega)
 replace P2 := P2.step sR (by decide) (by omega)
 replace HV5 := HV5.step sR (by decide) (by decide) (by omega)
 replace P6 := P6.step sR (by decide) (by omega)
 replace K1 := sR.blk_ne K1 (by omega)
 replace K2 := sR.blk_ne K2 (by omega)
 replace K3 := sR.blk_ne K3 (by omega)
 replace BX := below_setRow (g := g6) BX (by omega) #[.int .i64 0, .int .i64 0, .int .i64 1, .int .i64 2, .slice A6 1 c6]
 clear sR
 replace K6 := Av.bset_row (cs' := #[.int .i64 0, .int .i64 0, .int .i64 1, .int .i64 2, .slice A6 1 c6]) K6
 generalize (W5.setRow g3 #[.int .i64 0, .int .i64 0, V5, .bool true, .bool false, .int .i64 0, .int .i64 0]).setRow g6 #[.int .i64 0, .int .i64 0, .int .i64 1, .int .i64 2, .slice A6 1 c6] = W6 at *
 go_upto_region 6 with (first | (refine wpList_load_row rfl 43 (.tmp 3) rfl (g3) rfl 43 #[.int .i64 0, .int .i64 0, V5, .bool true, .bool false, .int .i64 0, .int .i64 0] (0, 0) _ K3 Try.underlying43 rfl (by kernel_rfl) ?_) | (go_at_call 30; refine (ex_s2 _ V5 l5 HV5 hl5.out).mono ?_; rintro e W3 ⟨V7, l7, A8, c8, rfl, HV7, hl7, oV7, P8, b9⟩; replace K1 := K1.below b9 K1.lt; replace K2 := K2.below b9 K2.lt; replace K3 := K3.below b9 K3.lt; replace K6 := K6.below b9 K6.lt; replace P1 := P1.below b9; replace P2 := P2.below b9; replace HV5 := HV5.below b9; replace P6 := P6.below b9; replace BX := thenB BX b9; clear b9; clear HV7 hl7; have h6 := K6.lt; have H1 : (#[.int .i64 0, .int .i64 0, V7, .bool true, .bool false, .int .i64 0, .int .i64 0] : Array Value).all (·.oneCell') = true := (by rw [← Array.all_toList]; simp only [List.all_cons, List.all_nil, oV7, Bool.and_true, Bool.and_self]; rfl); have H2 : (#[.int .i64 0, .int .i64 0, .int .i64 1, .int .i64 2, .slice A8 1 c8] : Array Value).all (·.oneCell') = true := (by rw [← Array.all_toList]; rfl)) | (refine wpList_store_row rfl 43 (.tmp 7) _ rfl (W3.heap.size) #[.int .i64 0, .int .i64 0, V7, .bool true, .bool false, .int .i64 0, .int .i64 0] rfl rfl 43 _ ((Blk.fresh W3 43 #[.int .i64 0, .int .i64 0, .slice none 0 0, .bool false, .bool false, .int .i64 0, .int .i64 0]).alloc (.cells #[.int .i64 0, .int .i64 0, .int .i64 0, .int .i64 0, .slice none 0 0] 26)) (by kernel_rfl) rfl H1 ?_) | (refine wpList_store_row rfl 26 (.tmp 8) _ rfl (W3.heap.size + 1) #[.int .i64 0, .int .i64 0, .int .i64 1, .int .i64 2, .slice A8 1 c8] rfl rfl 26 _ (Av.bother_row Av.Blk.next (by omega)) (by kernel_rfl) rfl H2 ?_))
 clear H1 H2
 replace K1 := K1.alloc (.cells #[.int .i64 0, .int .i64 0, .slice none 0 0, .bool false, .bool false, .int .i64 0, .int .i64 0] 43)
 replace K2 := K2.alloc (.cells #[.int .i64 0, .int .i64 0, .slice none 0 0, .bool false, .bool false, .int .i64 0, .int .i64 0] 43)
 replace K3 := K3.alloc (.cells #[.int .i64 0, .int .i64 0, .slice none 0 0, .bool false, .bool false, .int .i64 0, .int .i64 0] 43)
 replace K6 := K6.alloc (.cells #[.int .i64 0, .int .i64 0, .slice none 0 0, .bool false, .bool false, .int .i64 0, .int .i64 0] 43)
 replace P1 := P1.below ((Below.refl _ _).alloc (Nat.le_refl _) (.cells #[.int .i64 0, .int .i64 0, .slice none 0 0, .bool false, .bool false, .int .i64 0, .int .i64 0] 43))
 replace P2 := P2.below ((Below.refl _ _).alloc (Nat.le_refl _) (.cells #[.int .i64 0, .int .i64 0, .slice none 0 0, .bool false, .bool false, .int .i64 0, .int .i64 0] 43))
 replace HV5 := HV5.below ((Below.refl _ _).alloc (Nat.le_refl _) (.cells #[.int .i64 0, .int .i64 0, .slice none 0 0, .bool false, .bool false, .int .i64 0, .int .i64 0] 43))
 replace P6 := P6.below ((Below.refl _ _).alloc (Nat.le_refl _) (.cells #[.int .i64 0, .int .i64 0, .slice none 0 0, .bool false, .bool false, .int .i64 0, .int .i64 0] 43))
 replace P8 := P8.below ((Below.refl _ _).alloc (Nat.le_refl _) (.cells #[.int .i64 0, .int .i64 0, .slice none 0 0, .bool false, .bool false, .int .i64 0, .int .i64 0] 43))
 replace BX := BX.alloc BX.size (.cells #[.int .i64 0, .int .i64 0, .slice none 0 0, .bool false, .bool false, .int .i64 0, .int .i64 0] 43)
 have K7 := Blk.fresh W3 43 #[.int .i64 0, .int .i64 0, .slice none 0 0, .bool false, .bool false, .int .i64 0, .int .i64 0]
 replace K1 := K1.alloc (.cells #[.int .i64 0, .int .i64 0, .int .i64 0, .int .i64 0, .slice none 0 0] 26)
 replace K2 := K2.alloc (.cells #[.int .i64 0, .int .i64 0, .int .i64 0, .int .i64 0, .slice none 0 0] 26)
 replace K3 := K3.alloc (.cells #[.int .i64 0, .int .i64 0, .int .i64 0, .int .i64 0, .slice none 0 0] 26)
 replace K6 := K6.alloc (.cells #[.int .i64 0, .int .i64 0, .int .i64 0, .int .i64 0, .slice none 0 0] 26)
 replace K7 := K7.alloc (.cells #[.int .i64 0, .int .i64 0, .int .i64 0, .int .i64 0, .slice none 0 0] 26)
 replace P1 := P1.below ((Below.refl _ _).alloc (Nat.le_refl _) (.cells #[.int .i64 0, .int .i64 0, .int .i64 0, .int .i64 0, .slice none 0 0] 26))
 replace P2 := P2.below ((Below.refl _ _).alloc (Nat.le_refl _) (.cells #[.int .i64 0, .int .i64 0, .int .i64 0, .int .i64 0, .slice none 0 0] 26))
 replace HV5 := HV5.below ((Below.refl _ _).alloc (Nat.le_refl _) (.cells #[.int .i64 0, .int .i64 0, .int .i64 0, .int .i64 0, .slice none 0 0] 26))
 replace P6 := P6.below ((Below.refl _ _).alloc (Nat.le_refl _) (.cells #[.int .i64 0, .int .i64 0, .int .i64 0, .int .i64 0, .slice none 0 0] 26))
 replace P8 := P8.below ((Below.refl _ _).alloc (Nat.le_refl _) (.cells #[.int .i64 0, .int .i64 0, .int .i64 0, .int .i64 0, .slice none 0 0] 26))
 replace BX := BX.alloc BX.size (.cells #[.int .i64 0, .int .i64 0, .int .i64 0, .int .i64 0, .slice none 0 0] 26)
 have K8 := (Av.Blk.next : Blk ((W3.alloc (.cells #[.int .i64 0, .int .i64 0, .slice none 0 0, .bool false, .bool false, .int .i64 0, .int .i64 0] 43)).alloc (.cells #[.int .i64 0, .int .i64 0, .int .i64 0, .int .i64 0, .slice none 0 0] 26)) (W3.heap.size + 1) 26 #[.int .i64 0, .int .i64 0, .int .i64 0, .int .i64 0, .slice none 0 0])
 obtain ⟨g7, e7⟩ : ∃ g7, W3.heap.size = g7 := ⟨_, rfl⟩
 have hg7 : g6 < g7 := by omega
 rw [e7] at K7 K8 h6 ⊢
 clear e7 h6
 generalize (W3.alloc (.cells #[.int .i64 0, .int .i64 0, .slice none 0 0, .bool false, .bool false, .int .i64 0, .int .i64 0] 43)).alloc (.cells #[.int .i64 0, .int .i64 0, .int .i64 0, .int .i64 0, .slice none 0 0] 26) = W7 at *
 have sR := stp_row K7 #[.int .i64 0, .int .i64 0, V7, .bool true, .bool false, .int .i64 0, .int .i64 0]
 replace P1 := P1.step sR (by decide) (by omega)
 replace P2 := P2.step sR (by decide) (by omega)
 replace HV5 := HV5.step sR (by decide) (by decide) (by omega)
 replace P6 := P6.step sR (by decide) (by omega)
 replace P8 := P8.step sR (by decide) (by omega)
 replace K1 := sR.blk_ne K1 (by omega)
 replace K2 := sR.blk_ne K2 (by omega)
 replace K3 := sR.blk_ne K3 (by omega)
 replace K6 := sR.blk_ne K6 (by omega)
 replace K8 := sR.blk_ne K8 (by omega)
 replace BX := below_setRow (g := g7) BX (by omega) #[.int .i64 0, .int .i64 0, V7, .bool true, .bool false, .int .i64 0, .int .i64 0]
 clear sR
 replace K7 := Av.bset_row (cs' := #[.int .i64 0, .int .i64 0, V7, .bool true, .bool false, .int .i64 0, .int .i64 0]) K7
 have sR := stp_row K8 #[.int .i64 0, .int .i64 0, .int .i64 1, .int .i64 2, .slice A8 1 c8]
 replace P1 := P1.step sR (by decide) (by omega)
 replace P2 := P2.step sR (by decide) (by omega)
 replace HV5 := HV5.step sR (by decide) (by decide) (by omega)
 replace P6 := P6.step sR (by decide) (by omega)
 replace P8 := P8.step sR (by decide) (by omega)
 replace K1 := sR.blk_ne K1 (by omega)
 replace K2 := sR.blk_ne K2 (by omega)
 replace K3 := sR.blk_ne K3 (by omega)
 replace K6 := sR.blk_ne K6 (by omega)
 replace K7 := sR.blk_ne K7 (by omega)
 replace BX := below_setRow (g := g7 + 1) BX (by omega) #[.int .i64 0, .int .i64 0, .int .i64 1, .int .i64 2, .slice A8 1 c8]
 clear sR
 replace K8 := Av.bset_row (cs' := #[.int .i64 0, .int .i64 0, .int .i64 1, .int .i64 2, .slice A8 1 c8]) K8
 generalize (W7.setRow g7 #[.int .i64 0, .int .i64 0, V7, .bool true, .bool false, .int .i64 0, .int .i64 0]).setRow (g7 + 1) #[.int .i64 0, .int .i64 0, .int .i64 1, .int .i64 2, .slice A8 1 c8] = W8 at *
 clear K7
 have BC := Below.refl W8.heap.size W8
 try simp only [Act.put]
 go_cut [9, 12] from 50 to 58 (fun s9 s12 wx => ∃ g9 V9 l9, s9 = .pointer (some ⟨g9, 0, none⟩) ∧ s12 = .bool true ∧ W8.heap.size ≤ g9 ∧ V9.oneCell' = true ∧ Hid (l9.map Pm.p = [(2, [2])]) ∧ Blk wx g9 43 #[.int .i64 1, .int .i64 1, V9, .bool false, .bool false, .int .i64 1, .int .i64 0] ∧ QQ wx 0 0 V9 l9 ∧ Below W8.heap.size W8 wx ∧ Below w.heap.size w wx)
 case first =>
  have K3' : Blk W8.drew (g3) 43 #[.int .i64 0, .int .i64 0, V5, .bool true, .bool false, .int .i64 0, .int .i64 0] := Mem.Blk.drew K3
  refine wp_region_held_drew (S := (fun w' => Blk w' (g3) 43 #[.int .i64 0, .int .i64 0, V5, .bool true, .bool false, .int .i64 0, .int .i64 0])) (by kernel_rfl) ?_ (fun hHeld => ?_)
  · exact K3'
  replace K3 := K3'
  clear K3'
  replace BX : Below w.heap.size w W8.drew := BX.drew
  replace BC := BC.drew
  generalize W8.drew = X0 at *
  refine wpAnyH_take (i := 0) (v := .agg #[.int .i64 0, .int .i64 0, V5, .bool true, .bool false, .int .i64 0, .int .i64 0]) rfl (by kernel_rfl) (by kernel_rfl) (by kernel_rfl) (fun _ _ _ h => h) (Av.yields_part (by first | rfl | go_simp) _ _ rfl (g3) 0 rfl #[.int .i64 0, .int .i64 0, V5, .bool true, .bool false, .int .i64 0, .int .i64 0] _ 43 #[.int .i64 0, .int .i64 0, V5, .bool true, .bool false, .int .i64 0, .int .i64 0] (fun w9 hSw => hSw) rfl Try.underlying43 rfl (by kernel_rfl)) ‹_› ?_
  simp only [getElem_toArray, getElem_cons_zero, getElem_cons_succ, Act.put, setIfInBounds_toArray, set_cons_zero, set_cons_succ]
  refine wpAnyH_ready (rs := [1, 9, 10]) (by kernel_rfl) (by simp) ?_
  refine AllReadyH.cons rfl (fun K hK => ?_) (AllReadyH.cons rfl (fun K hK => ?_) (AllReadyH.cons rfl (fun K hK => ?_) (AllReadyH.nil)))
  ·
   go_simp
   refine (rblankpk_any X0).mono ?_
   rintro e X1 ⟨rfl, b9⟩
   replace K3 := K3.below b9 K3.lt
   replace BX := thenB BX b9
   replace BC := thenB BC b9
   clear b9
   refine hK.out _ _ K3 (fun hHeld => ?_)
   clear hK K
   try simp only [getElem_toArray, getElem_cons_zero, getElem_cons_succ, Act.put, setIfInBounds_toArray, set_cons_zero, set_cons_succ]
   refine wpAnyH_take (i := 2) (v := .agg #[.int .i64 0, .int .i64 1, .int .i64 0, .int .i64 1, .slice none 0 0]) rfl (by kernel_rfl) (by kernel_rfl) (by kernel_rfl) (fun _ _ _ h => h) (.inl ⟨by first | rfl | go_simp, by intro u h; (try dsimp only at h); go_simp⟩) ‹_› ?_
   simp only [getElem_toArray, getElem_cons_zero, getElem_cons_succ, Act.put, setIfInBounds_toArray, set_cons_zero, set_cons_succ]
   refine wpAnyH_ready (rs := [3, 9, 10]) (by kernel_rfl) (by simp) ?_
   refine AllReadyH.cons rfl (fun K hK => ?_) (AllReadyH.cons rfl (fun K hK => ?_) (AllReadyH.cons rfl (fun K hK => ?_) (AllReadyH.nil)))
   ·
    go_simp
    refine (ex_t1 X1 V5 l5 (HV5.below BC) hl5.out).mono ?_
    rintro e X2 ⟨V9, l9, A10, c10, rfl, HV9, hl9, oV9, _, b9⟩
    replace K3 := K3.below b9 K3.lt
    replace BX := thenB BX b9
    replace BC := thenB BC b9
    clear b9
    refine hK.out _ _ K3 (fun hHeld => ?_)
    clear hK K
    try simp only [getElem_toArray, getElem_cons_zero, getElem_cons_succ, Act.put, setIfInBounds_toArray, set_cons_zero, set_cons_succ]
    refine wpAnyH_take (i := 4) (v := .tuple #[.agg #[.int .i64 1, .int .i64 1, V9, .bool false, .bool false, .int .i64 1, .int .i64 0], .agg #[.int .i64 0, .slice A10 0 c10], .bool false, .bool true]) rfl (by kernel_rfl) (by kernel_rfl) (by kernel_rfl) (fun _ _ _ h => h) (.inl ⟨by first | rfl | go_simp, by intro u h; (try dsimp only at h); go_simp⟩) ‹_› ?_
    simp only [getElem_toArray, getElem_cons_zero, getElem_cons_succ, Act.put, setIfInBounds_toArray, set_cons_zero, set_cons_succ]
    refine wpAnyH_take (i := 5) (v := .agg #[.int .i64 1, .int .i64 1, V9, .bool false, .bool false, .int .i64 1, .int .i64 0]) rfl (by kernel_rfl) (by kernel_rfl) (by kernel_rfl) (fun _ _ _ h => h) (.inl ⟨by first | rfl | go_simp, by intro u h; (try dsimp only at h); go_simp⟩) ‹_› ?_
    simp only [getElem_toArray, getElem_cons_zero, getElem_cons_succ, Act.put, setIfInBounds_toArray, set_cons_zero, set_cons_succ]
    refine wpAnyH_take (i := 6) (v := .agg #[.int .i64 0, .slice A10 0 c10]) rfl (by kernel_rfl) (by kernel_rfl) (by kernel_rfl) (fun _ _ _ h => h) (.inl ⟨by first | rfl | go_simp, by intro u h; (try dsimp only at h); go_simp⟩) ‹_› ?_
    simp only [getElem_toArray, getElem_cons_zero, getElem_cons_succ, Act.put, setIfInBounds_toArray, set_cons_zero, set_cons_succ]
    refine wpAnyH_take (i := 7) (v := .bool false) rfl (by kernel_rfl) (by kernel_rfl) (by kernel_rfl) (fun _ _ _ h => h) (.inl ⟨by first | rfl | go_simp, by intro u h; (try dsimp only at h); go_simp⟩) ‹_› ?_
    simp only [getElem_toArray, getElem_cons_zero, getElem_cons_succ, Act.put, setIfInBounds_toArray, set_cons_zero, set_cons_succ]
    refine wpAnyH_take (i := 8) (v := .bool true) rfl (by kernel_rfl) (by kernel_rfl) (by kernel_rfl) (fun _ _ _ h => h) (.inl ⟨by first | rfl | go_simp, by intro u h; (try dsimp only at h); go_simp⟩) ‹_› ?_
    simp only [getElem_toArray, getElem_cons_zero, getElem_cons_succ, Act.put, setIfInBounds_toArray, set_cons_zero, set_cons_succ]
    refine wpAnyH_ready (rs := [9, 10]) (by kernel_rfl) (by simp) ?_
    refine AllReadyH.cons rfl (fun K hK => ?_) (AllReadyH.cons rfl (fun K hK => ?_) (AllReadyH.nil))
    ·
     go_simp
     have hxc := BC.size
     have b9 := (Below.refl X2.heap.size X2).alloc (Nat.le_refl _) (.cells #[.int .i64 0, .int .i64 0, .slice none 0 0, .bool false, .bool false, .int .i64 0, .int .i64 0] 43)
     have K9 := Blk.fresh X2 43 #[.int .i64 0, .int .i64 0, .slice none 0 0, .bool false, .bool false, .int .i64 0, .int .i64 0]
     have hxK9K3 := K3.lt
     have hbK9 : W8.heap.size ≤ X2.heap.size := hxc
     clear hxc
     generalize X2.alloc (.cells #[.int .i64 0, .int .i64 0, .slice none 0 0, .bool false, .bool false, .int .i64 0, .int .i64 0] 43) = X3 at *
     replace K3 := K3.below b9 K3.lt
     replace BX := thenB BX b9
     replace BC := thenB BC b9
     replace HV9 := HV9.below b9
     clear b9
     refine hK.out _ _ K3 (fun hHeld => ?_)
     clear hK K
     try simp only [getElem_toArray, getElem_cons_zero, getElem_cons_succ, Act.put, setIfInBounds_toArray, set_cons_zero, set_cons_succ]
     refine wpAnyH_ready (rs := [10]) (by kernel_rfl) (by simp) ?_
     refine .cons rfl (fun K hK => ?_) .nil
     go_simp
     have NHV9 : V9.ownBlock ≠ some X3.heap.size := fun e9 => by have h9 := (HV9.2.2 _ e9).2; omega
     have hxc := BC.size
     have b9 := (Below.refl X3.heap.size X3).alloc (Nat.le_refl _) (.cells #[.int .i64 0, .slice none 0 0] 24)
     have K10 := Blk.fresh X3 24 #[.int .i64 0, .slice none 0 0]
     have hxK10K3 := K3.lt
     have hxK10K9 := K9.lt
     have hbK10 : W8.heap.size ≤ X3.heap.size := hxc
     clear hxc
     generalize X3.alloc (.cells #[.int .i64 0, .slice none 0 0] 24) = X4 at *
     replace K3 := K3.below b9 K3.lt
     replace K9 := K9.below b9 K9.lt
     replace BX := thenB BX b9
     replace BC := thenB BC b9
     replace HV9 := HV9.below b9
     clear b9
     refine hK.out _ _ K3 (fun hHeld => ?_)
     clear hK K
     try simp only [getElem_toArray, getElem_cons_zero, getElem_cons_succ, Act.put, setIfInBounds_toArray, set_cons_zero, set_cons_succ]
     refine wpAnyH_ready (rs := [11]) (by kernel_rfl) (by simp) ?_
     refine .cons rfl (fun K hK => ?_) .nil
     have H9 := o7 oV9 1 1 1 0 false false
     refine Av.step_store_row rfl 43 (.tmp 9) (.tmp 55) rfl (X2.heap.size) #[.int .i64 1, .int .i64 1, V9, .bool false, .bool false, .int .i64 1, .int .i64 0] rfl rfl 43 _ K9 (by kernel_rfl) rfl H9 ?_
     replace BC := below_setRow (g := X2.heap.size) BC (by omega) #[.int .i64 1, .int .i64 1, V9, .bool false, .bool false, .int .i64 1, .int .i64 0]
     replace HV9 := HV9.step (stp_row K9 #[.int .i64 1, .int .i64 1, V9, .bool false, .bool false, .int .i64 1, .int .i64 0]) (by decide) (by decide) (Nat.zero_le _)
     replace K3 : Blk (X4.setRow (X2.heap.size) #[.int .i64 1, .int .i64 1, V9, .bool false, .bool false, .int .i64 1, .int .i64 0]) (g3) 43 #[.int .i64 0, .int .i64 0, V5, .bool true, .bool false, .int .i64 0, .int .i64 0] := Av.bother_row K3 (by omega)
     replace K9 : Blk (X4.setRow (X2.heap.size) #[.int .i64 1, .int .i64 1, V9, .bool false, .bool false, .int .i64 1, .int .i64 0]) (X2.heap.size) 43 #[.int .i64 1, .int .i64 1, V9, .bool false, .bool false, .int .i64 1, .int .i64 0] := Av.bset_row K9
     replace K10 : Blk (X4.setRow (X2.heap.size) #[.int .i64 1, .int .i64 1, V9, .bool false, .bool false, .int .i64 1, .int .i64 0]) (X3.heap.size) 24 #[.int .i64 0, .slice none 0 0] := Av.bother_row K10 (by omega)
     replace BX : Below w.heap.size w (X4.setRow (X2.heap.size) #[.int .i64 1, .int .i64 1, V9, .bool false, .bool false, .int .i64 1, .int .i64 0]) := below_setRow BX (by omega) _
     clear H9
     generalize X4.setRow (X2.heap.size) #[.int .i64 1, .int .i64 1, V9, .bool false, .bool false, .int .i64 1, .int .i64 0] = X5 at *
     refine hK.out _ _ K3 (fun hHeld => ?_)
     clear hK K
     try simp only [getElem_toArray, getElem_cons_zero, getElem_cons_succ, Act.put, setIfInBounds_toArray, set_cons_zero, set_cons_succ]
     refine wpAnyH_ready (rs := [12]) (by kernel_rfl) (by simp) ?_
     refine .cons rfl (fun K hK => ?_) .nil
     have H9 := o2 0 A10 0 c10
     refine Av.step_store_row rfl 24 (.tmp 10) (.tmp 56) rfl (X3.heap.size) #[.int .i64 0, .slice A10 0 c10] rfl rfl 24 _ K10 (by kernel_rfl) rfl H9 ?_
     replace BC := below_setRow (g := X3.heap.size) BC (by omega) #[.int .i64 0, .slice A10 0 c10]
     replace HV9 := HV9.step_ne (stp_row K10 #[.int .i64 0, .slice A10 0 c10]) (by decide) NHV9 (Nat.zero_le _)
     replace K3 : Blk (X5.setRow (X3.heap.size) #[.int .i64 0, .slice A10 0 c10]) (g3) 43 #[.int .i64 0, .int .i64 0, V5, .bool true, .bool false, .int .i64 0, .int .i64 0] := Av.bother_row K3 (by omega)
     replace K9 : Blk (X5.setRow (X3.heap.size) #[.int .i64 0, .slice A10 0 c10]) (X2.heap.size) 43 #[.int .i64 1, .int .i64 1, V9, .bool false, .bool false, .int .i64 1, .int .i64 0] := Av.bother_row K9 (by omega)
     replace K10 : Blk (X5.setRow (X3.heap.size) #[.int .i64 0, .slice A10 0 c10]) (X3.heap.size) 24 #[.int .i64 0, .slice A10 0 c10] := Av.bset_row K10
     replace BX : Below w.heap.size w (X5.setRow (X3.heap.size) #[.int .i64 0, .slice A10 0 c10]) := below_setRow BX (by omega) _
     clear H9
     generalize X5.setRow (X3.heap.size) #[.int .i64 0, .slice A10 0 c10] = X6 at *
     refine hK.out _ _ K3 (fun hHeld => ?_)
     clear hK K
     try simp only [getElem_toArray, getElem_cons_zero, getElem_cons_succ, Act.put, setIfInBounds_toArray, set_cons_zero, set_cons_succ]
     refine wpAnyH_take (i := 13) (v := .bool false) rfl (by kernel_rfl) (by kernel_rfl) (by kernel_rfl) (fun _ _ _ h => h) (.inl ⟨by first | rfl | go_simp, by intro u h; (try dsimp only at h); go_simp⟩) ‹_› ?_
     simp only [getElem_toArray, getElem_cons_zero, getElem_cons_succ, Act.put, setIfInBounds_toArray, set_cons_zero, set_cons_succ]
     refine wpAnyH_take (i := 14) (v := .bool true) rfl (by kernel_rfl) (by kernel_rfl) (by kernel_rfl) (fun _ _ _ h => h) (.inl ⟨by first | rfl | go_simp, by intro u h; (try dsimp only at h); go_simp⟩) ‹_› ?_
     simp only [getElem_toArray, getElem_cons_zero, getElem_cons_succ, Act.put, setIfInBounds_toArray, set_cons_zero, set_cons_succ]
     refine wpAnyH_done (by kernel_rfl) ?_ _
     clear hHeld
     go_wp2_with fail
     go_meet
     exact ⟨X2.heap.size, V9, l9, rfl, rfl, hbK9, oV9, hl9, K9, HV9.less (Nat.zero_le _) (Nat.le_refl _), BC, BX⟩
    ·
     go_simp
     have NHV9 : V9.ownBlock ≠ some X2.heap.size := fun e9 => by have h9 := (HV9.2.2 _ e9).2; omega
     have hxc := BC.size
     have b9 := (Below.refl X2.heap.size X2).alloc (Nat.le_refl _) (.cells #[.int .i64 0, .slice none 0 0] 24)
     have K10 := Blk.fresh X2 24 #[.int .i64 0, .slice none 0 0]
     have hxK10K3 := K3.lt
     have hbK10 : W8.heap.size ≤ X2.heap.size := hxc
     clear hxc
     generalize X2.alloc (.cells #[.int .i64 0, .slice none 0 0] 24) = X7 at *
     replace K3 := K3.below b9 K3.lt
     replace BX := thenB BX b9
     replace BC := thenB BC b9
     replace HV9 := HV9.below b9
     clear b9
     refine hK.out _ _ K3 (fun hHeld => ?_)
     clear hK K
     try simp only [getElem_toArray, getElem_cons_zero, getElem_cons_succ, Act.put, setIfInBounds_toArray, set_cons_zero, set_cons_succ]
     refine wpAnyH_ready (rs := [9]) (by kernel_rfl) (by simp) ?_
     refine .cons rfl (fun K hK => ?_) .nil
     go_simp
     have hxc := BC.size
     have b9 := (Below.refl X7.heap.size X7).alloc (Nat.le_refl _) (.cells #[.int .i64 0, .int .i64 0, .slice none 0 0, .bool false, .bool false, .int .i64 0, .int .i64 0] 43)
     have K9 := Blk.fresh X7 43 #[.int .i64 0, .int .i64 0, .slice none 0 0, .bool false, .bool false, .int .i64 0, .int .i64 0]
     have hxK9K3 := K3.lt
     have hxK9K10 := K10.lt
     have hbK9 : W8.heap.size ≤ X7.heap.size := hxc
     clear hxc
     generalize X7.alloc (.cells #[.int .i64 0, .int .i64 0, .slice none 0 0, .bool false, .bool false, .int .i64 0, .int .i64 0] 43) = X8 at *
     replace K3 := K3.below b9 K3.lt
     replace K10 := K10.below b9 K10.lt
     replace BX := thenB BX b9
     replace BC := thenB BC b9
     replace HV9 := HV9.below b9
     clear b9
     refine hK.out _ _ K3 (fun hHeld => ?_)
     clear hK K
     try simp only [getElem_toArray, getElem_cons_zero, getElem_cons_succ, Act.put, setIfInBounds_toArray, set_cons_zero, set_cons_succ]
     refine wpAnyH_ready (rs := [11]) (by kernel_rfl) (by simp) ?_
     refine .cons rfl (fun K hK => ?_) .nil
     have H9 := o7 oV9 1 1 1 0 false false
     refine Av.step_store_row rfl 43 (.tmp 9) (.tmp 55) rfl (X7.heap.size) #[.int .i64 1, .int .i64 1, V9, .bool false, .bool false, .int .i64 1, .int .i64 0] rfl rfl 43 _ K9 (by kernel_rfl) rfl H9 ?_
     replace BC := below_setRow (g := X7.heap.size) BC (by omega) #[.int .i64 1, .int .i64 1, V9, .bool false, .bool false, .int .i64 1, .int .i64 0]
     replace HV9 := HV9.step (stp_row K9 #[.int .i64 1, .int .i64 1, V9, .bool false, .bool false, .int .i64 1, .int .i64 0]) (by decide) (by decide) (Nat.zero_le _)
     replace K3 : Blk (X8.setRow (X7.heap.size) #[.int .i64 1, .int .i64 1, V9, .bool false, .bool false, .int .i64 1, .int .i64 0]) (g3) 43 #[.int .i64 0, .int .i64 0, V5, .bool true, .bool false, .int .i64 0, .int .i64 0] := Av.bother_row K3 (by omega)
     replace K10 : Blk (X8.setRow (X7.heap.size) #[.int .i64 1, .int .i64 1, V9, .bool false, .bool false, .int .i64 1, .int .i64 0]) (X2.heap.size) 24 #[.int .i64 0, .slice none 0 0] := Av.bother_row K10 (by omega)
     replace K9 : Blk (X8.setRow (X7.heap.size) #[.int .i64 1, .int .i64 1, V9, .bool false, .bool false, .int .i64 1, .int .i64 0]) (X7.heap.size) 43 #[.int .i64 1, .int .i64 1, V9, .bool false, .bool false, .int .i64 1, .int .i64 0] := Av.bset_row K9
     replace BX : Below w.heap.size w (X8.setRow (X7.heap.size) #[.int .i64 1, .int .i64 1, V9, .bool false, .bool false, .int .i64 1, .int .i64 0]) := below_setRow BX (by omega) _
     clear H9
     generalize X8.setRow (X7.heap.size) #[.int .i64 1, .int .i64 1, V9, .bool false, .bool false, .int .i64 1, .int .i64 0] = X9 at *
     refine hK.out _ _ K3 (fun hHeld => ?_)
     clear hK K
     try simp only [getElem_toArray, getElem_cons_zero, getElem_cons_succ, Act.put, setIfInBounds_toArray, set_cons_zero, set_cons_succ]
     refine wpAnyH_ready (rs := [12]) (by kernel_rfl) (by simp) ?_
     refine .cons rfl (fun K hK => ?_) .nil
     have H9 := o2 0 A10 0 c10
     refine Av.step_store_row rfl 24 (.tmp 10) (.tmp 56) rfl (X2.heap.size) #[.int .i64 0, .slice A10 0 c10] rfl rfl 24 _ K10 (by kernel_rfl) rfl H9 ?_
     replace BC := below_setRow (g := X2.heap.size) BC (by omega) #[.int .i64 0, .slice A10 0 c10]
     replace HV9 := HV9.step_ne (stp_row K10 #[.int .i64 0, .slice A10 0 c10]) (by decide) NHV9 (Nat.zero_le _)
     replace K3 : Blk (X9.setRow (X2.heap.size) #[.int .i64 0, .slice A10 0 c10]) (g3) 43 #[.int .i64 0, .int .i64 0, V5, .bool true, .bool false, .int .i64 0, .int .i64 0] := Av.bother_row K3 (by omega)
     replace K10 : Blk (X9.setRow (X2.heap.size) #[.int .i64 0, .slice A10 0 c10]) (X2.heap.size) 24 #[.int .i64 0, .slice A10 0 c10] := Av.bset_row K10
     replace K9 : Blk (X9.setRow (X2.heap.size) #[.int .i64 0, .slice A10 0 c10]) (X7.heap.size) 43 #[.int .i64 1, .int .i64 1, V9, .bool false, .bool false, .int .i64 1, .int .i64 0] := Av.bother_row K9 (by omega)
     replace BX : Below w.heap.size w (X9.setRow (X2.heap.size) #[.int .i64 0, .slice A10 0 c10]) := below_setRow BX (by omega) _
     clear H9
     generalize X9.setRow (X2.heap.size) #[.int .i64 0, .slice A10 0 c10] = X10 at *
     refine hK.out _ _ K3 (fun hHeld => ?_)
     clear hK K
     try simp only [getElem_toArray, getElem_cons_zero, getElem_cons_succ, Act.put, setIfInBounds_toArray, set_cons_zero, set_cons_succ]
     refine wpAnyH_take (i := 13) (v := .bool false) rfl (by kernel_rfl) (by kernel_rfl) (by kernel_rfl) (fun _ _ _ h => h) (.inl ⟨by first | rfl | go_simp, by intro u h; (try dsimp only at h); go_simp⟩) ‹_› ?_
     simp only [getElem_toArray, getElem_cons_zero, getElem_cons_succ, Act.put, setIfInBounds_toArray, set_cons_zero, set_cons_succ]
     refine wpAnyH_take (i := 14) (v := .bool true) rfl (by kernel_rfl) (by kernel_rfl) (by kernel_rfl) (fun _ _ _ h => h) (.inl ⟨by first | rfl | go_simp, by intro u h; (try dsimp only at h); go_simp⟩) ‹_› ?_
     simp only [getElem_toArray, getElem_cons_zero, getElem_cons_succ, Act.put, setIfInBounds_toArray, set_cons_zero, set_cons_succ]
     refine wpAnyH_done (by kernel_rfl) ?_ _
     clear hHeld
     go_wp2_with fail
     go_meet
     exact ⟨X7.heap.size, V9, l9, rfl, rfl, hbK9, oV9, hl9, K9, HV9.less (Nat.zero_le _) (Nat.le_refl _), BC, BX⟩
   ·
    go_simp
    have hxc := BC.size
    have b9 := (Below.refl X1.heap.size X1).alloc (Nat.le_refl _) (.cells #[.int .i64 0, .int .i64 0, .slice none 0 0, .bool false, .bool false, .int .i64 0, .int .i64 0] 43)
    have K9 := Blk.fresh X1 43 #[.int .i64 0, .int .i64 0, .slice none 0 0, .bool false, .bool false, .int .i64 0, .int .i64 0]
    have hxK9K3 := K3.lt
    have hbK9 : W8.heap.size ≤ X1.heap.size := hxc
    clear hxc
    generalize X1.alloc (.cells #[.int .i64 0, .int .i64 0, .slice none 0 0, .bool false, .bool false, .int .i64 0, .int .i64 0] 43) = X11 at *
    replace K3 := K3.below b9 K3.lt
    replace BX := thenB BX b9
    replace BC := thenB BC b9
    clear b9
    refine hK.out _ _ K3 (fun hHeld => ?_)
    clear hK K
    try simp only [getElem_toArray, getElem_cons_zero, getElem_cons_succ, Act.put, setIfInBounds_toArray, set_cons_zero, set_cons_succ]
    refine wpAnyH_ready (rs := [3, 10]) (by kernel_rfl) (by simp) ?_
    refine AllReadyH.cons rfl (fun K hK => ?_) (AllReadyH.cons rfl (fun K hK => ?_) (AllReadyH.nil))
    ·
     go_simp
     refine (ex_t1 X11 V5 l5 (HV5.below BC) hl5.out).mono ?_
     rintro e X12 ⟨V9, l9, A10, c10, rfl, HV9, hl9, oV9, _, b9⟩
     replace K3 := K3.below b9 K3.lt
     replace K9 := K9.below b9 K9.lt
     replace BX := thenB BX b9
     replace BC := thenB BC b9
     clear b9
     refine hK.out _ _ K3 (fun hHeld => ?_)
     clear hK K
     try simp only [getElem_toArray, getElem_cons_zero, getElem_cons_succ, Act.put, setIfInBounds_toArray, set_cons_zero, set_cons_succ]
     refine wpAnyH_take (i := 4) (v := .tuple #[.agg #[.int .i64 1, .int .i64 1, V9, .bool false, .bool false, .int .i64 1, .int .i64 0], .agg #[.int .i64 0, .slice A10 0 c10], .bool false, .bool true]) rfl (by kernel_rfl) (by kernel_rfl) (by kernel_rfl) (fun _ _ _ h => h) (.inl ⟨by first | rfl | go_simp, by intro u h; (try dsimp only at h); go_simp⟩) ‹_› ?_
     simp only [getElem_toArray, getElem_cons_zero, getElem_cons_succ, Act.put, setIfInBounds_toArray, set_cons_zero, set_cons_succ]
     refine wpAnyH_take (i := 5) (v := .agg #[.int .i64 1, .int .i64 1, V9, .bool false, .bool false, .int .i64 1, .int .i64 0]) rfl (by kernel_rfl) (by kernel_rfl) (by kernel_rfl) (fun _ _ _ h => h) (.inl ⟨by first | rfl | go_simp, by intro u h; (try dsimp only at h); go_simp⟩) ‹_› ?_
     simp only [getElem_toArray, getElem_cons_zero, getElem_cons_succ, Act.put, setIfInBounds_toArray, set_cons_zero, set_cons_succ]
     refine wpAnyH_take (i := 6) (v := .agg #[.int .i64 0, .slice A10 0 c10]) rfl (by kernel_rfl) (by kernel_rfl) (by kernel_rfl) (fun _ _ _ h => h) (.inl ⟨by first | rfl | go_simp, by intro u h; (try dsimp only at h); go_simp⟩) ‹_› ?_
     simp only [getElem_toArray, getElem_cons_zero, getElem_cons_succ, Act.put, setIfInBounds_toArray, set_cons_zero, set_cons_succ]
     refine wpAnyH_take (i := 7) (v := .bool false) rfl (by kernel_rfl) (by kernel_rfl) (by kernel_rfl) (fun _ _ _ h => h) (.inl ⟨by first | rfl | go_simp, by intro u h; (try dsimp only at h); go_simp⟩) ‹_› ?_
     simp only [getElem_toArray, getElem_cons_zero, getElem_cons_succ, Act.put, setIfInBounds_toArray, set_cons_zero, set_cons_succ]
     refine wpAnyH_take (i := 8) (v := .bool true) rfl (by kernel_rfl) (by kernel_rfl) (by kernel_rfl) (fun _ _ _ h => h) (.inl ⟨by first | rfl | go_simp, by intro u h; (try dsimp only at h); go_simp⟩) ‹_› ?_
     simp only [getElem_toArray, getElem_cons_zero, getElem_cons_succ, Act.put, setIfInBounds_toArray, set_cons_zero, set_cons_succ]
     refine wpAnyH_ready (rs := [10]) (by kernel_rfl) (by simp) ?_
     refine .cons rfl (fun K hK => ?_) .nil
     go_simp
     have NHV9 : V9.ownBlock ≠ some X12.heap.size := fun e9 => by have h9 := (HV9.2.2 _ e9).2; omega
     have hxc := BC.size
     have b9 := (Below.refl X12.heap.size X12).alloc (Nat.le_refl _) (.cells #[.int .i64 0, .slice none 0 0] 24)
     have K10 := Blk.fresh X12 24 #[.int .i64 0, .slice none 0 0]
     have hxK10K3 := K3.lt
     have hxK10K9 := K9.lt
     have hbK10 : W8.heap.size ≤ X12.heap.size := hxc
     clear hxc
     generalize X12.alloc (.cells #[.int .i64 0, .slice none 0 0] 24) = X13 at *
     replace K3 := K3.below b9 K3.lt
     replace K9 := K9.below b9 K9.lt
     replace BX := thenB BX b9
     replace BC := thenB BC b9
     replace HV9 := HV9.below b9
     clear b9
     refine hK.out _ _ K3 (fun hHeld => ?_)
     clear hK K
     try simp only [getElem_toArray, getElem_cons_zero, getElem_cons_succ, Act.put, setIfInBounds_toArray, set_cons_zero, set_cons_succ]
     refine wpAnyH_ready (rs := [11]) (by kernel_rfl) (by simp) ?_
     refine .cons rfl (fun K hK => ?_) .nil
     have H9 := o7 oV9 1 1 1 0 false false
     refine Av.step_store_row rfl 43 (.tmp 9) (.tmp 55) rfl (X1.heap.size) #[.int .i64 1, .int .i64 1, V9, .bool false, .bool false, .int .i64 1, .int .i64 0] rfl rfl 43 _ K9 (by kernel_rfl) rfl H9 ?_
     replace BC := below_setRow (g := X1.heap.size) BC (by omega) #[.int .i64 1, .int .i64 1, V9, .bool false, .bool false, .int .i64 1, .int .i64 0]
     replace HV9 := HV9.step (stp_row K9 #[.int .i64 1, .int .i64 1, V9, .bool false, .bool false, .int .i64 1, .int .i64 0]) (by decide) (by decide) (Nat.zero_le _)
     replace K3 : Blk (X13.setRow (X1.heap.size) #[.int .i64 1, .int .i64 1, V9, .bool false, .bool false, .int .i64 1, .int .i64 0]) (g3) 43 #[.int .i64 0, .int .i64 0, V5, .bool true, .bool false, .int .i64 0, .int .i64 0] := Av.bother_row K3 (by omega)
     replace K9 : Blk (X13.setRow (X1.heap.size) #[.int .i64 1, .int .i64 1, V9, .bool false, .bool false, .int .i64 1, .int .i64 0]) (X1.heap.size) 43 #[.int .i64 1, .int .i64 1, V9, .bool false, .bool false, .int .i64 1, .int .i64 0] := Av.bset_row K9
     replace K10 : Blk (X13.setRow (X1.heap.size) #[.int .i64 1, .int .i64 1, V9, .bool false, .bool false, .int .i64 1, .int .i64 0]) (X12.heap.size) 24 #[.int .i64 0, .slice none 0 0] := Av.bother_row K10 (by omega)
     replace BX : Below w.heap.size w (X13.setRow (X1.heap.size) #[.int .i64 1, .int .i64 1, V9, .bool false, .bool false, .int .i64 1, .int .i64 0]) := below_setRow BX (by omega) _
     clear H9
     generalize X13.setRow (X1.heap.size) #[.int .i64 1, .int .i64 1, V9, .bool false, .bool false, .int .i64 1, .int .i64 0] = X14 at *
     refine hK.out _ _ K3 (fun hHeld => ?_)
     clear hK K
     try simp only [getElem_toArray, getElem_cons_zero, getElem_cons_succ, Act.put, setIfInBounds_toArray, set_cons_zero, set_cons_succ]
     refine wpAnyH_ready (rs := [12]) (by kernel_rfl) (by simp) ?_
     refine .cons rfl (fun K hK => ?_) .nil
     have H9 := o2 0 A10 0 c10
     refine Av.step_store_row rfl 24 (.tmp 10) (.tmp 56) rfl (X12.heap.size) #[.int .i64 0, .slice A10 0 c10] rfl rfl 24 _ K10 (by kernel_rfl) rfl H9 ?_
     replace BC := below_setRow (g := X12.heap.size) BC (by omega) #[.int .i64 0, .slice A10 0 c10]
     replace HV9 := HV9.step_ne (stp_row K10 #[.int .i64 0, .slice A10 0 c10]) (by decide) NHV9 (Nat.zero_le _)
     replace K3 : Blk (X14.setRow (X12.heap.size) #[.int .i64 0, .slice A10 0 c10]) (g3) 43 #[.int .i64 0, .int .i64 0, V5, .bool true, .bool false, .int .i64 0, .int .i64 0] := Av.bother_row K3 (by omega)
     replace K9 : Blk (X14.setRow (X12.heap.size) #[.int .i64 0, .slice A10 0 c10]) (X1.heap.size) 43 #[.int .i64 1, .int .i64 1, V9, .bool false, .bool false, .int .i64 1, .int .i64 0] := Av.bother_row K9 (by omega)
     replace K10 : Blk (X14.setRow (X12.heap.size) #[.int .i64 0, .slice A10 0 c10]) (X12.heap.size) 24 #[.int .i64 0, .slice A10 0 c10] := Av.bset_row K10
     replace BX : Below w.heap.size w (X14.setRow (X12.heap.size) #[.int .i64 0, .slice A10 0 c10]) := below_setRow BX (by omega) _
     clear H9
     generalize X14.setRow (X12.heap.size) #[.int .i64 0, .slice A10 0 c10] = X15 at *
     refine hK.out _ _ K3 (fun hHeld => ?_)
     clear hK K
     try simp only [getElem_toArray, getElem_cons_zero, getElem_cons_succ, Act.put, setIfInBounds_toArray, set_cons_zero, set_cons_succ]
     refine wpAnyH_take (i := 13) (v := .bool false) rfl (by kernel_rfl) (by kernel_rfl) (by kernel_rfl) (fun _ _ _ h => h) (.inl ⟨by first | rfl | go_simp, by intro u h; (try dsimp only at h); go_simp⟩) ‹_› ?_
     simp only [getElem_toArray, getElem_cons_zero, getElem_cons_succ, Act.put, setIfInBounds_toArray, set_cons_zero, set_cons_succ]
     refine wpAnyH_take (i := 14) (v := .bool true) rfl (by kernel_rfl) (by kernel_rfl) (by kernel_rfl) (fun _ _ _ h => h) (.inl ⟨by first | rfl | go_simp, by intro u h; (try dsimp only at h); go_simp⟩) ‹_› ?_
     simp only [getElem_toArray, getElem_cons_zero, getElem_cons_succ, Act.put, setIfInBounds_toArray, set_cons_zero, set_cons_succ]
     refine wpAnyH_done (by kernel_rfl) ?_ _
     clear hHeld
     go_wp2_with fail
     go_meet
     exact ⟨X1.heap.size, V9, l9, rfl, rfl, hbK9, oV9, hl9, K9, HV9.less (Nat.zero_le _) (Nat.le_refl _), BC, BX⟩
    ·
     go_simp
     have hxc := BC.size
     have b9 := (Below.refl X11.heap.size X11).alloc (Nat.le_refl _) (.cells #[.int .i64 0, .slice none 0 0] 24)
     have K10 := Blk.fresh X11 24 #[.int .i64 0, .slice none 0 0]
     have hxK10K3 := K3.lt
     have hxK10K9 := K9.lt
     have hbK10 : W8.heap.size ≤ X11.heap.size := hxc
     clear hxc
     generalize X11.alloc (.cells #[.int .i64 0, .slice none 0 0] 24) = X16 at *
     replace K3 := K3.below b9 K3.lt
     replace K9 := K9.below b9 K9.lt
     replace BX := thenB BX b9
     replace BC := thenB BC b9
     clear b9
     refine hK.out _ _ K3 (fun hHeld => ?_)
     clear hK K
     try simp only [getElem_toArray, getElem_cons_zero, getElem_cons_succ, Act.put, setIfInBounds_toArray, set_cons_zero, set_cons_succ]
     refine wpAnyH_ready (rs := [3]) (by kernel_rfl) (by simp) ?_
     refine .cons rfl (fun K hK => ?_) .nil
     go_simp
     have hNHV9 := K10.lt
     refine (ex_t1 X16 V5 l5 (HV5.below BC) hl5.out).mono ?_
     rintro e X17 ⟨V9, l9, A10, c10, rfl, HV9, hl9, oV9, _, b9⟩
     have NHV9 : V9.ownBlock ≠ some (X11.heap.size) := fun e9 => by have h9 := (HV9.2.2 _ e9).1; omega
     clear hNHV9
     replace K3 := K3.below b9 K3.lt
     replace K9 := K9.below b9 K9.lt
     replace K10 := K10.below b9 K10.lt
     replace BX := thenB BX b9
     replace BC := thenB BC b9
     clear b9
     refine hK.out _ _ K3 (fun hHeld => ?_)
     clear hK K
     try simp only [getElem_toArray, getElem_cons_zero, getElem_cons_succ, Act.put, setIfInBounds_toArray, set_cons_zero, set_cons_succ]
     refine wpAnyH_take (i := 4) (v := .tuple #[.agg #[.int .i64 1, .int .i64 1, V9, .bool false, .bool false, .int .i64 1, .int .i64 0], .agg #[.int .i64 0, .slice A10 0 c10], .bool false, .bool true]) rfl (by kernel_rfl) (by kernel_rfl) (by kernel_rfl) (fun _ _ _ h => h) (.inl ⟨by first | rfl | go_simp, by intro u h; (try dsimp only at h); go_simp⟩) ‹_› ?_
     simp only [getElem_toArray, getElem_cons_zero, getElem_cons_succ, Act.put, setIfInBounds_toArray, set_cons_zero, set_cons_succ]
     refine wpAnyH_take (i := 5) (v := .agg #[.int .i64 1, .int .i64 1, V9, .bool false, .bool false, .int .i64 1, .int .i64 0]) rfl (by kernel_rfl) (by kernel_rfl) (by kernel_rfl) (fun _ _ _ h => h) (.inl ⟨by first | rfl | go_simp, by intro u h; (try dsimp only at h); go_simp⟩) ‹_› ?_
     simp only [getElem_toArray, getElem_cons_zero, getElem_cons_succ, Act.put, setIfInBounds_toArray, set_cons_zero, set_cons_succ]
     refine wpAnyH_take (i := 6) (v := .agg #[.int .i64 0, .slice A10 0 c10]) rfl (by kernel_rfl) (by kernel_rfl) (by kernel_rfl) (fun _ _ _ h => h) (.inl ⟨by first | rfl | go_simp, by intro u h; (try dsimp only at h); go_simp⟩) ‹_› ?_
     simp only [getElem_toArray, getElem_cons_zero, getElem_cons_succ, Act.put, setIfInBounds_toArray, set_cons_zero, set_cons_succ]
     refine wpAnyH_take (i := 7) (v := .bool false) rfl (by kernel_rfl) (by kernel_rfl) (by kernel_rfl) (fun _ _ _ h => h) (.inl ⟨by first | rfl | go_simp, by intro u h; (try dsimp only at h); go_simp⟩) ‹_› ?_
     simp only [getElem_toArray, getElem_cons_zero, getElem_cons_succ, Act.put, setIfInBounds_toArray, set_cons_zero, set_cons_succ]
     refine wpAnyH_take (i := 8) (v := .bool true) rfl (by kernel_rfl) (by kernel_rfl) (by kernel_rfl) (fun _ _ _ h => h) (.inl ⟨by first | rfl | go_simp, by intro u h; (try dsimp only at h); go_simp⟩) ‹_› ?_
     simp only [getElem_toArray, getElem_cons_zero, getElem_cons_succ, Act.put, setIfInBounds_toArray, set_cons_zero, set_cons_succ]
     refine wpAnyH_ready (rs := [11]) (by kernel_rfl) (by simp) ?_
     refine .cons rfl (fun K hK => ?_) .nil
     have H9 := o7 oV9 1 1 1 0 false false
     refine Av.step_store_row rfl 43 (.tmp 9) (.tmp 55) rfl (X1.heap.size) #[.int .i64 1, .int .i64 1, V9, .bool false, .bool false, .int .i64 1, .int .i64 0] rfl rfl 43 _ K9 (by kernel_rfl) rfl H9 ?_
     replace BC := below_setRow (g := X1.heap.size) BC (by omega) #[.int .i64 1, .int .i64 1, V9, .bool false, .bool false, .int .i64 1, .int .i64 0]
     replace HV9 := HV9.step (stp_row K9 #[.int .i64 1, .int .i64 1, V9, .bool false, .bool false, .int .i64 1, .int .i64 0]) (by decide) (by decide) (Nat.zero_le _)
     replace K3 : Blk (X17.setRow (X1.heap.size) #[.int .i64 1, .int .i64 1, V9, .bool false, .bool false, .int .i64 1, .int .i64 0]) (g3) 43 #[.int .i64 0, .int .i64 0, V5, .bool true, .bool false, .int .i64 0, .int .i64 0] := Av.bother_row K3 (by omega)
     replace K9 : Blk (X17.setRow (X1.heap.size) #[.int .i64 1, .int .i64 1, V9, .bool false, .bool false, .int .i64 1, .int .i64 0]) (X1.heap.size) 43 #[.int .i64 1, .int .i64 1, V9, .bool false, .bool false, .int .i64 1, .int .i64 0] := Av.bset_row K9
     replace K10 : Blk (X17.setRow (X1.heap.size) #[.int .i64 1, .int .i64 1, V9, .bool false, .bool false, .int .i64 1, .int .i64 0]) (X11.heap.size) 24 #[.int .i64 0, .slice none 0 0] := Av.bother_row K10 (by omega)
     replace BX : Below w.heap.size w (X17.setRow (X1.heap.size) #[.int .i64 1, .int .i64 1, V9, .bool false, .bool false, .int .i64 1, .int .i64 0]) := below_setRow BX (by omega) _
     clear H9
     generalize X17.setRow (X1.heap.size) #[.int .i64 1, .int .i64 1, V9, .bool false, .bool false, .int .i64 1, .int .i64 0] = X18 at *
     refine hK.out _ _ K3 (fun hHeld => ?_)
     clear hK K
     try simp only [getElem_toArray, getElem_cons_zero, getElem_cons_succ, Act.put, setIfInBounds_toArray, set_cons_zero, set_cons_succ]
     refine wpAnyH_ready (rs := [12]) (by kernel_rfl) (by simp) ?_
     refine .cons rfl (fun K hK => ?_) .nil
     have H9 := o2 0 A10 0 c10
     refine Av.step_store_row rfl 24 (.tmp 10) (.tmp 56) rfl (X11.heap.size) #[.int .i64 0, .slice A10 0 c10] rfl rfl 24 _ K10 (by kernel_rfl) rfl H9 ?_
     replace BC := below_setRow (g := X11.heap.size) BC (by omega) #[.int .i64 0, .slice A10 0 c10]
     replace HV9 := HV9.step_ne (stp_row K10 #[.int .i64 0, .slice A10 0 c10]) (by decide) NHV9 (Nat.zero_le _)
     replace K3 : Blk (X18.setRow (X11.heap.size) #[.int .i64 0, .slice A10 0 c10]) (g3) 43 #[.int .i64 0, .int .i64 0, V5, .bool true, .bool false, .int .i64 0, .int .i64 0] := Av.bother_row K3 (by omega)
     replace K9 : Blk (X18.setRow (X11.heap.size) #[.int .i64 0, .slice A10 0 c10]) (X1.heap.size) 43 #[.int .i64 1, .int .i64 1, V9, .bool false, .bool false, .int .i64 1, .int .i64 0] := Av.bother_row K9 (by omega)
     replace K10 : Blk (X18.setRow (X11.heap.size) #[.int .i64 0, .slice A10 0 c10]) (X11.heap.size) 24 #[.int .i64 0, .slice A10 0 c10] := Av.bset_row K10
     replace BX : Below w.heap.size w (X18.setRow (X11.heap.size) #[.int .i64 0, .slice A10 0 c10]) := below_setRow BX (by omega) _
     clear H9
     generalize X18.setRow (X11.heap.size) #[.int .i64 0, .slice A10 0 c10] = X19 at *
     refine hK.out _ _ K3 (fun hHeld => ?_)
     clear hK K
     try simp only [getElem_toArray, getElem_cons_zero, getElem_cons_succ, Act.put, setIfInBounds_toArray, set_cons_zero, set_cons_succ]
     refine wpAnyH_take (i := 13) (v := .bool false) rfl (by kernel_rfl) (by kernel_rfl) (by kernel_rfl) (fun _ _ _ h => h) (.inl ⟨by first | rfl | go_simp, by intro u h; (try dsimp only at h); go_simp⟩) ‹_› ?_
     simp only [getElem_toArray, getElem_cons_zero, getElem_cons_succ, Act.put, setIfInBounds_toArray, set_cons_zero, set_cons_succ]
     refine wpAnyH_take (i := 14) (v := .bool true) rfl (by kernel_rfl) (by kernel_rfl) (by kernel_rfl) (fun _ _ _ h => h) (.inl ⟨by first | rfl | go_simp, by intro u h; (try dsimp only at h); go_simp⟩) ‹_› ?_
     simp only [getElem_toArray, getElem_cons_zero, getElem_cons_succ, Act.put, setIfInBounds_toArray, set_cons_zero, set_cons_succ]
     refine wpAnyH_done (by kernel_rfl) ?_ _
     clear hHeld
     go_wp2_with fail
     go_meet
     exact ⟨X1.heap.size, V9, l9, rfl, rfl, hbK9, oV9, hl9, K9, HV9.less (Nat.zero_le _) (Nat.le_refl _), BC, BX⟩
   ·
    go_simp
    have hxc := BC.size
    have b9 := (Below.refl X1.heap.size X1).alloc (Nat.le_refl _) (.cells #[.int .i64 0, .slice none 0 0] 24)
    have K10 := Blk.fresh X1 24 #[.int .i64 0, .slice none 0 0]
    have hxK10K3 := K3.lt
    have hbK10 : W8.heap.size ≤ X1.heap.size := hxc
    clear hxc
    generalize X1.alloc (.cells #[.int .i64 0, .slice none 0 0] 24) = X20 at *
    replace K3 := K3.below b9 K3.lt
    replace BX := thenB BX b9
    replace BC := thenB BC b9
    clear b9
    refine hK.out _ _ K3 (fun hHeld => ?_)
    clear hK K
    try simp only [getElem_toArray, getElem_cons_zero, getElem_cons_succ, Act.put, setIfInBounds_toArray, set_cons_zero, set_cons_succ]
    refine wpAnyH_ready (rs := [3, 9]) (by kernel_rfl) (by simp) ?_
    refine AllReadyH.cons rfl (fun K hK => ?_) (AllReadyH.cons rfl (fun K hK => ?_) (AllReadyH.nil))
    ·
     go_simp
     have hNHV9 := K10.lt
     refine (ex_t1 X20 V5 l5 (HV5.below BC) hl5.out).mono ?_
     rintro e X21 ⟨V9, l9, A10, c10, rfl, HV9, hl9, oV9, _, b9⟩
     have NHV9 : V9.ownBlock ≠ some (X1.heap.size) := fun e9 => by have h9 := (HV9.2.2 _ e9).1; omega
     clear hNHV9
     replace K3 := K3.below b9 K3.lt
     replace K10 := K10.below b9 K10.lt
     replace BX := thenB BX b9
     replace BC := thenB BC b9
     clear b9
     refine hK.out _ _ K3 (fun hHeld => ?_)
     clear hK K
     try simp only [getElem_toArray, getElem_cons_zero, getElem_cons_succ, Act.put, setIfInBounds_toArray, set_cons_zero, set_cons_succ]
     refine wpAnyH_take (i := 4) (v := .tuple #[.agg #[.int .i64 1, .int .i64 1, V9, .bool false, .bool false, .int .i64 1, .int .i64 0], .agg #[.int .i64 0, .slice A10 0 c10], .bool false, .bool true]) rfl (by kernel_rfl) (by kernel_rfl) (by kernel_rfl) (fun _ _ _ h => h) (.inl ⟨by first | rfl | go_simp, by intro u h; (try dsimp only at h); go_simp⟩) ‹_› ?_
     simp only [getElem_toArray, getElem_cons_zero, getElem_cons_succ, Act.put, setIfInBounds_toArray, set_cons_zero, set_cons_succ]
     refine wpAnyH_take (i := 5) (v := .agg #[.int .i64 1, .int .i64 1, V9, .bool false, .bool false, .int .i64 1, .int .i64 0]) rfl (by kernel_rfl) (by kernel_rfl) (by kernel_rfl) (fun _ _ _ h => h) (.inl ⟨by first | rfl | go_simp, by intro u h; (try dsimp only at h); go_simp⟩) ‹_› ?_
     simp only [getElem_toArray, getElem_cons_zero, getElem_cons_succ, Act.put, setIfInBounds_toArray, set_cons_zero, set_cons_succ]
     refine wpAnyH_take (i := 6) (v := .agg #[.int .i64 0, .slice A10 0 c10]) rfl (by kernel_rfl) (by kernel_rfl) (by kernel_rfl) (fun _ _ _ h => h) (.inl ⟨by first | rfl | go_simp, by intro u h; (try dsimp only at h); go_simp⟩) ‹_› ?_
     simp only [getElem_toArray, getElem_cons_zero, getElem_cons_succ, Act.put, setIfInBounds_toArray, set_cons_zero, set_cons_succ]
     refine wpAnyH_take (i := 7) (v := .bool false) rfl (by kernel_rfl) (by kernel_rfl) (by kernel_rfl) (fun _ _ _ h => h) (.inl ⟨by first | rfl | go_simp, by intro u h; (try dsimp only at h); go_simp⟩) ‹_› ?_
     simp only [getElem_toArray, getElem_cons_zero, getElem_cons_succ, Act.put, setIfInBounds_toArray, set_cons_zero, set_cons_succ]
     refine wpAnyH_take (i := 8) (v := .bool true) rfl (by kernel_rfl) (by kernel_rfl) (by kernel_rfl) (fun _ _ _ h => h) (.inl ⟨by first | rfl | go_simp, by intro u h; (try dsimp only at h); go_simp⟩) ‹_› ?_
     simp only [getElem_toArray, getElem_cons_zero, getElem_cons_succ, Act.put, setIfInBounds_toArray, set_cons_zero, set_cons_succ]
     refine wpAnyH_ready (rs := [9]) (by kernel_rfl) (by simp) ?_
     refine .cons rfl (fun K hK => ?_) .nil
     go_simp
     have hxc := BC.size
     have b9 := (Below.refl X21.heap.size X21).alloc (Nat.le_refl _) (.cells #[.int .i64 0, .int .i64 0, .slice none 0 0, .bool false, .bool false, .int .i64 0, .int .i64 0] 43)
     have K9 := Blk.fresh X21 43 #[.int .i64 0, .int .i64 0, .slice none 0 0, .bool false, .bool false, .int .i64 0, .int .i64 0]
     have hxK9K3 := K3.lt
     have hxK9K10 := K10.lt
     have hbK9 : W8.heap.size ≤ X21.heap.size := hxc
     clear hxc
     generalize X21.alloc (.cells #[.int .i64 0, .int .i64 0, .slice none 0 0, .bool false, .bool false, .int .i64 0, .int .i64 0] 43) = X22 at *
     replace K3 := K3.below b9 K3.lt
     replace K10 := K10.below b9 K10.lt
     replace BX := thenB BX b9
     replace BC := thenB BC b9
     replace HV9 := HV9.below b9
     clear b9
     refine hK.out _ _ K3 (fun hHeld => ?_)
     clear hK K
     try simp only [getElem_toArray, getElem_cons_zero, getElem_cons_succ, Act.put, setIfInBounds_toArray, set_cons_zero, set_cons_succ]
     refine wpAnyH_ready (rs := [11]) (by kernel_rfl) (by simp) ?_
     refine .cons rfl (fun K hK => ?_) .nil
     have H9 := o7 oV9 1 1 1 0 false false
     refine Av.step_store_row rfl 43 (.tmp 9) (.tmp 55) rfl (X21.heap.size) #[.int .i64 1, .int .i64 1, V9, .bool false, .bool false, .int .i64 1, .int .i64 0] rfl rfl 43 _ K9 (by kernel_rfl) rfl H9 ?_
     replace BC := below_setRow (g := X21.heap.size) BC (by omega) #[.int .i64 1, .int .i64 1, V9, .bool false, .bool false, .int .i64 1, .int .i64 0]
     replace HV9 := HV9.step (stp_row K9 #[.int .i64 1, .int .i64 1, V9, .bool false, .bool false, .int .i64 1, .int .i64 0]) (by decide) (by decide) (Nat.zero_le _)
     replace K3 : Blk (X22.setRow (X21.heap.size) #[.int .i64 1, .int .i64 1, V9, .bool false, .bool false, .int .i64 1, .int .i64 0]) (g3) 43 #[.int .i64 0, .int .i64 0, V5, .bool true, .bool false, .int .i64 0, .int .i64 0] := Av.bother_row K3 (by omega)
     replace K10 : Blk (X22.setRow (X21.heap.size) #[.int .i64 1, .int .i64 1, V9, .bool false, .bool false, .int .i64 1, .int .i64 0]) (X1.heap.size) 24 #[.int .i64 0, .slice none 0 0] := Av.bother_row K10 (by omega)
     replace K9 : Blk (X22.setRow (X21.heap.size) #[.int .i64 1, .int .i64 1, V9, .bool false, .bool false, .int .i64 1, .int .i64 0]) (X21.heap.size) 43 #[.int .i64 1, .int .i64 1, V9, .bool false, .bool false, .int .i64 1, .int .i64 0] := Av.bset_row K9
     replace BX : Below w.heap.size w (X22.setRow (X21.heap.size) #[.int .i64 1, .int .i64 1, V9, .bool false, .bool false, .int .i64 1, .int .i64 0]) := below_setRow BX (by omega) _
     clear H9
     generalize X22.setRow (X21.heap.size) #[.int .i64 1, .int .i64 1, V9, .bool false, .bool false, .int .i64 1, .int .i64 0] = X23 at *
     refine hK.out _ _ K3 (fun hHeld => ?_)
     clear hK K
     try simp only [getElem_toArray, getElem_cons_zero, getElem_cons_succ, Act.put, setIfInBounds_toArray, set_cons_zero, set_cons_succ]
     refine wpAnyH_ready (rs := [12]) (by kernel_rfl) (by simp) ?_
     refine .cons rfl (fun K hK => ?_) .nil
     have H9 := o2 0 A10 0 c10
     refine Av.step_store_row rfl 24 (.tmp 10) (.tmp 56) rfl (X1.heap.size) #[.int .i64 0, .slice A10 0 c10] rfl rfl 24 _ K10 (by kernel_rfl) rfl H9 ?_
     replace BC := below_setRow (g := X1.heap.size) BC (by omega) #[.int .i64 0, .slice A10 0 c10]
     replace HV9 := HV9.step_ne (stp_row K10 #[.int .i64 0, .slice A10 0 c10]) (by decide) NHV9 (Nat.zero_le _)
     replace K3 : Blk (X23.setRow (X1.heap.size) #[.int .i64 0, .slice A10 0 c10]) (g3) 43 #[.int .i64 0, .int .i64 0, V5, .bool true, .bool false, .int .i64 0, .int .i64 0] := Av.bother_row K3 (by omega)
     replace K10 : Blk (X23.setRow (X1.heap.size) #[.int .i64 0, .slice A10 0 c10]) (X1.heap.size) 24 #[.int .i64 0, .slice A10 0 c10] := Av.bset_row K10
     replace K9 : Blk (X23.setRow (X1.heap.size) #[.int .i64 0, .slice A10 0 c10]) (X21.heap.size) 43 #[.int .i64 1, .int .i64 1, V9, .bool false, .bool false, .int .i64 1, .int .i64 0] := Av.bother_row K9 (by omega)
     replace BX : Below w.heap.size w (X23.setRow (X1.heap.size) #[.int .i64 0, .slice A10 0 c10]) := below_setRow BX (by omega) _
     clear H9
     generalize X23.setRow (X1.heap.size) #[.int .i64 0, .slice A10 0 c10] = X24 at *
     refine hK.out _ _ K3 (fun hHeld => ?_)
     clear hK K
     try simp only [getElem_toArray, getElem_cons_zero, getElem_cons_succ, Act.put, setIfInBounds_toArray, set_cons_zero, set_cons_succ]
     refine wpAnyH_take (i := 13) (v := .bool false) rfl (by kernel_rfl) (by kernel_rfl) (by kernel_rfl) (fun _ _ _ h => h) (.inl ⟨by first | rfl | go_simp, by intro u h; (try dsimp only at h); go_simp⟩) ‹_› ?_
     simp only [getElem_toArray, getElem_cons_zero, getElem_cons_succ, Act.put, setIfInBounds_toArray, set_cons_zero, set_cons_succ]
     refine wpAnyH_take (i := 14) (v := .bool true) rfl (by kernel_rfl) (by kernel_rfl) (by kernel_rfl) (fun _ _ _ h => h) (.inl ⟨by first | rfl | go_simp, by intro u h; (try dsimp only at h); go_simp⟩) ‹_› ?_
     simp only [getElem_toArray, getElem_cons_zero, getElem_cons_succ, Act.put, setIfInBounds_toArray, set_cons_zero, set_cons_succ]
     refine wpAnyH_done (by kernel_rfl) ?_ _
     clear hHeld
     go_wp2_with fail
     go_meet
     exact ⟨X21.heap.size, V9, l9, rfl, rfl, hbK9, oV9, hl9, K9, HV9.less (Nat.zero_le _) (Nat.le_refl _), BC, BX⟩
    ·
     go_simp
     have hxc := BC.size
     have b9 := (Below.refl X20.heap.size X20).alloc (Nat.le_refl _) (.cells #[.int .i64 0, .int .i64 0, .slice none 0 0, .bool false, .bool false, .int .i64 0, .int .i64 0] 43)
     have K9 := Blk.fresh X20 43 #[.int .i64 0, .int .i64 0, .slice none 0 0, .bool false, .bool false, .int .i64 0, .int .i64 0]
     have hxK9K3 := K3.lt
     have hxK9K10 := K10.lt
     have hbK9 : W8.heap.size ≤ X20.heap.size := hxc
     clear hxc
     generalize X20.alloc (.cells #[.int .i64 0, .int .i64 0, .slice none 0 0, .bool false, .bool false, .int .i64 0, .int .i64 0] 43) = X25 at *
     replace K3 := K3.below b9 K3.lt
     replace K10 := K10.below b9 K10.lt
     replace BX := thenB BX b9
     replace BC := thenB BC b9
     clear b9
     refine hK.out _ _ K3 (fun hHeld => ?_)
     clear hK K
     try simp only [getElem_toArray, getElem_cons_zero, getElem_cons_succ, Act.put, setIfInBounds_toArray, set_cons_zero, set_cons_succ]
     refine wpAnyH_ready (rs := [3]) (by kernel_rfl) (by simp) ?_
     refine .cons rfl (fun K hK => ?_) .nil
     go_simp
     have hNHV9 := K10.lt
     refine (ex_t1 X25 V5 l5 (HV5.below BC) hl5.out).mono ?_
     rintro e X26 ⟨V9, l9, A10, c10, rfl, HV9, hl9, oV9, _, b9⟩
     have NHV9 : V9.ownBlock ≠ some (X1.heap.size) := fun e9 => by have h9 := (HV9.2.2 _ e9).1; omega
     clear hNHV9
     replace K3 := K3.below b9 K3.lt
     replace K10 := K10.below b9 K10.lt
     replace K9 := K9.below b9 K9.lt
     replace BX := thenB BX b9
     replace BC := thenB BC b9
     clear b9
     refine hK.out _ _ K3 (fun hHeld => ?_)
     clear hK K
     try simp only [getElem_toArray, getElem_cons_zero, getElem_cons_succ, Act.put, setIfInBounds_toArray, set_cons_zero, set_cons_succ]
     refine wpAnyH_take (i := 4) (v := .tuple #[.agg #[.int .i64 1, .int .i64 1, V9, .bool false, .bool false, .int .i64 1, .int .i64 0], .agg #[.int .i64 0, .slice A10 0 c10], .bool false, .bool true]) rfl (by kernel_rfl) (by kernel_rfl) (by kernel_rfl) (fun _ _ _ h => h) (.inl ⟨by first | rfl | go_simp, by intro u h; (try dsimp only at h); go_simp⟩) ‹_› ?_
     simp only [getElem_toArray, getElem_cons_zero, getElem_cons_succ, Act.put, setIfInBounds_toArray, set_cons_zero, set_cons_succ]
     refine wpAnyH_take (i := 5) (v := .agg #[.int .i64 1, .int .i64 1, V9, .bool false, .bool false, .int .i64 1, .int .i64 0]) rfl (by kernel_rfl) (by kernel_rfl) (by kernel_rfl) (fun _ _ _ h => h) (.inl ⟨by first | rfl | go_simp, by intro u h; (try dsimp only at h); go_simp⟩) ‹_› ?_
     simp only [getElem_toArray, getElem_cons_zero, getElem_cons_succ, Act.put, setIfInBounds_toArray, set_cons_zero, set_cons_succ]
     refine wpAnyH_take (i := 6) (v := .agg #[.int .i64 0, .slice A10 0 c10]) rfl (by kernel_rfl) (by kernel_rfl) (by kernel_rfl) (fun _ _ _ h => h) (.inl ⟨by first | rfl | go_simp, by intro u h; (try dsimp only at h); go_simp⟩) ‹_› ?_
     simp only [getElem_toArray, getElem_cons_zero, getElem_cons_succ, Act.put, setIfInBounds_toArray, set_cons_zero, set_cons_succ]
     refine wpAnyH_take (i := 7) (v := .bool false) rfl (by kernel_rfl) (by kernel_rfl) (by kernel_rfl) (fun _ _ _ h => h) (.inl ⟨by first | rfl | go_simp, by intro u h; (try dsimp only at h); go_simp⟩) ‹_› ?_
     simp only [getElem_toArray, getElem_cons_zero, getElem_cons_succ, Act.put, setIfInBounds_toArray, set_cons_zero, set_cons_succ]
     refine wpAnyH_take (i := 8) (v := .bool true) rfl (by kernel_rfl) (by kernel_rfl) (by kernel_rfl) (fun _ _ _ h => h) (.inl ⟨by first | rfl | go_simp, by intro u h; (try dsimp only at h); go_simp⟩) ‹_› ?_
     simp only [getElem_toArray, getElem_cons_zero, getElem_cons_succ, Act.put, setIfInBounds_toArray, set_cons_zero, set_cons_succ]
     refine wpAnyH_ready (rs := [11]) (by kernel_rfl) (by simp) ?_
     refine .cons rfl (fun K hK => ?_) .nil
     have H9 := o7 oV9 1 1 1 0 false false
     refine Av.step_store_row rfl 43 (.tmp 9) (.tmp 55) rfl (X20.heap.size) #[.int .i64 1, .int .i64 1, V9, .bool false, .bool false, .int .i64 1, .int .i64 0] rfl rfl 43 _ K9 (by kernel_rfl) rfl H9 ?_
     replace BC := below_setRow (g := X20.heap.size) BC (by omega) #[.int .i64 1, .int .i64 1, V9, .bool false, .bool false, .int .i64 1, .int .i64 0]
     replace HV9 := HV9.step (stp_row K9 #[.int .i64 1, .int .i64 1, V9, .bool false, .bool false, .int .i64 1, .int .i64 0]) (by decide) (by decide) (Nat.zero_le _)
     replace K3 : Blk (X26.setRow (X20.heap.size) #[.int .i64 1, .int .i64 1, V9, .bool false, .bool false, .int .i64 1, .int .i64 0]) (g3) 43 #[.int .i64 0, .int .i64 0, V5, .bool true, .bool false, .int .i64 0, .int .i64 0] := Av.bother_row K3 (by omega)
     replace K10 : Blk (X26.setRow (X20.heap.size) #[.int .i64 1, .int .i64 1, V9, .bool false, .bool false, .int .i64 1, .int .i64 0]) (X1.heap.size) 24 #[.int .i64 0, .slice none 0 0] := Av.bother_row K10 (by omega)
     replace K9 : Blk (X26.setRow (X20.heap.size) #[.int .i64 1, .int .i64 1, V9, .bool false, .bool false, .int .i64 1, .int .i64 0]) (X20.heap.size) 43 #[.int .i64 1, .int .i64 1, V9, .bool false, .bool false, .int .i64 1, .int .i64 0] := Av.bset_row K9
     replace BX : Below w.heap.size w (X26.setRow (X20.heap.size) #[.int .i64 1, .int .i64 1, V9, .bool false, .bool false, .int .i64 1, .int .i64 0]) := below_setRow BX (by omega) _
     clear H9
     generalize X26.setRow (X20.heap.size) #[.int .i64 1, .int .i64 1, V9, .bool false, .bool false, .int .i64 1, .int .i64 0] = X27 at *
     refine hK.out _ _ K3 (fun hHeld => ?_)
     clear hK K
     try simp only [getElem_toArray, getElem_cons_zero, getElem_cons_succ, Act.put, setIfInBounds_toArray, set_cons_zero, set_cons_succ]
     refine wpAnyH_ready (rs := [12]) (by kernel_rfl) (by simp) ?_
     refine .cons rfl (fun K hK => ?_) .nil
     have H9 := o2 0 A10 0 c10
     refine Av.step_store_row rfl 24 (.tmp 10) (.tmp 56) rfl (X1.heap.size) #[.int .i64 0, .slice A10 0 c10] rfl rfl 24 _ K10 (by kernel_rfl) rfl H9 ?_
     replace BC := below_setRow (g := X1.heap.size) BC (by omega) #[.int .i64 0, .slice A10 0 c10]
     replace HV9 := HV9.step_ne (stp_row K10 #[.int .i64 0, .slice A10 0 c10]) (by decide) NHV9 (Nat.zero_le _)
     replace K3 : Blk (X27.setRow (X1.heap.size) #[.int .i64 0, .slice A10 0 c10]) (g3) 43 #[.int .i64 0, .int .i64 0, V5, .bool true, .bool false, .int .i64 0, .int .i64 0] := Av.bother_row K3 (by omega)
     replace K10 : Blk (X27.setRow (X1.heap.size) #[.int .i64 0, .slice A10 0 c10]) (X1.heap.size) 24 #[.int .i64 0, .slice A10 0 c10] := Av.bset_row K10
     replace K9 : Blk (X27.setRow (X1.heap.size) #[.int .i64 0, .slice A10 0 c10]) (X20.heap.size) 43 #[.int .i64 1, .int .i64 1, V9, .bool false, .bool false, .int .i64 1, .int .i64 0] := Av.bother_row K9 (by omega)
     replace BX : Below w.heap.size w (X27.setRow (X1.heap.size) #[.int .i64 0, .slice A10 0 c10]) := below_setRow BX (by omega) _
     clear H9
     generalize X27.setRow (X1.heap.size) #[.int .i64 0, .slice A10 0 c10] = X28 at *
     refine hK.out _ _ K3 (fun hHeld => ?_)
     clear hK K
     try simp only [getElem_toArray, getElem_cons_zero, getElem_cons_succ, Act.put, setIfInBounds_toArray, set_cons_zero, set_cons_succ]
     refine wpAnyH_take (i := 13) (v := .bool false) rfl (by kernel_rfl) (by kernel_rfl) (by kernel_rfl) (fun _ _ _ h => h) (.inl ⟨by first | rfl | go_simp, by intro u h; (try dsimp only at h); go_simp⟩) ‹_› ?_
     simp only [getElem_toArray, getElem_cons_zero, getElem_cons_succ, Act.put, setIfInBounds_toArray, set_cons_zero, set_cons_succ]
     refine wpAnyH_take (i := 14) (v := .bool true) rfl (by kernel_rfl) (by kernel_rfl) (by kernel_rfl) (fun _ _ _ h => h) (.inl ⟨by first | rfl | go_simp, by intro u h; (try dsimp only at h); go_simp⟩) ‹_› ?_
     simp only [getElem_toArray, getElem_cons_zero, getElem_cons_succ, Act.put, setIfInBounds_toArray, set_cons_zero, set_cons_succ]
     refine wpAnyH_done (by kernel_rfl) ?_ _
     clear hHeld
     go_wp2_with fail
     go_meet
     exact ⟨X20.heap.size, V9, l9, rfl, rfl, hbK9, oV9, hl9, K9, HV9.less (Nat.zero_le _) (Nat.le_refl _), BC, BX⟩
  ·
   go_simp
   have hxc := BC.size
   have b9 := (Below.refl X0.heap.size X0).alloc (Nat.le_refl _) (.cells #[.int .i64 0, .int .i64 0, .slice none 0 0, .bool false, .bool false, .int .i64 0, .int .i64 0] 43)
   have K9 := Blk.fresh X0 43 #[.int .i64 0, .int .i64 0, .slice none 0 0, .bool false, .bool false, .int .i64 0, .int .i64 0]
   have hxK9K3 := K3.lt
   have hbK9 : W8.heap.size ≤ X0.heap.size := hxc
   clear hxc
   generalize X0.alloc (.cells #[.int .i64 0, .int .i64 0, .slice none 0 0, .bool false, .bool false, .int .i64 0, .int .i64 0] 43) = X29 at *
   replace K3 := K3.below b9 K3.lt
   replace BX := thenB BX b9
   replace BC := thenB BC b9
   clear b9
   refine hK.out _ _ K3 (fun hHeld => ?_)
   clear hK K
   try simp only [getElem_toArray, getElem_cons_zero, getElem_cons_succ, Act.put, setIfInBounds_toArray, set_cons_zero, set_cons_succ]
   refine wpAnyH_ready (rs := [1, 10]) (by kernel_rfl) (by simp) ?_
   refine AllReadyH.cons rfl (fun K hK => ?_) (AllReadyH.cons rfl (fun K hK => ?_) (AllReadyH.nil))
   ·
    go_simp
    refine (rblankpk_any X29).mono ?_
    rintro e X30 ⟨rfl, b9⟩
    replace K3 := K3.below b9 K3.lt
    replace K9 := K9.below b9 K9.lt
    replace BX := thenB BX b9
    replace BC := thenB BC b9
    clear b9
    refine hK.out _ _ K3 (fun hHeld => ?_)
    clear hK K
    try simp only [getElem_toArray, getElem_cons_zero, getElem_cons_succ, Act.put, setIfInBounds_toArray, set_cons_zero, set_cons_succ]
    refine wpAnyH_take (i := 2) (v := .agg #[.int .i64 0, .int .i64 1, .int .i64 0, .int .i64 1, .slice none 0 0]) rfl (by kernel_rfl) (by kernel_rfl) (by kernel_rfl) (fun _ _ _ h => h) (.inl ⟨by first | rfl | go_simp, by intro u h; (try dsimp only at h); go_simp⟩) ‹_› ?_
    simp only [getElem_toArray, getElem_cons_zero, getElem_cons_succ, Act.put, setIfInBounds_toArray, set_cons_zero, set_cons_succ]
    refine wpAnyH_ready (rs := [3, 10]) (by kernel_rfl) (by simp) ?_
    refine AllReadyH.cons rfl (fun K hK => ?_) (AllReadyH.cons rfl (fun K hK => ?_) (AllReadyH.nil))
    ·
     go_simp
     refine (ex_t1 X30 V5 l5 (HV5.below BC) hl5.out).mono ?_
     rintro e X31 ⟨V9, l9, A10, c10, rfl, HV9, hl9, oV9, _, b9⟩
     replace K3 := K3.below b9 K3.lt
     replace K9 := K9.below b9 K9.lt
     replace BX := thenB BX b9
     replace BC := thenB BC b9
     clear b9
     refine hK.out _ _ K3 (fun hHeld => ?_)
     clear hK K
     try simp only [getElem_toArray, getElem_cons_zero, getElem_cons_succ, Act.put, setIfInBounds_toArray, set_cons_zero, set_cons_succ]
     refine wpAnyH_take (i := 4) (v := .tuple #[.agg #[.int .i64 1, .int .i64 1, V9, .bool false, .bool false, .int .i64 1, .int .i64 0], .agg #[.int .i64 0, .slice A10 0 c10], .bool false, .bool true]) rfl (by kernel_rfl) (by kernel_rfl) (by kernel_rfl) (fun _ _ _ h => h) (.inl ⟨by first | rfl | go_simp, by intro u h; (try dsimp only at h); go_simp⟩) ‹_› ?_
     simp only [getElem_toArray, getElem_cons_zero, getElem_cons_succ, Act.put, setIfInBounds_toArray, set_cons_zero, set_cons_succ]
     refine wpAnyH_take (i := 5) (v := .agg #[.int .i64 1, .int .i64 1, V9, .bool false, .bool false, .int .i64 1, .int .i64 0]) rfl (by kernel_rfl) (by kernel_rfl) (by kernel_rfl) (fun _ _ _ h => h) (.inl ⟨by first | rfl | go_simp, by intro u h; (try dsimp only at h); go_simp⟩) ‹_› ?_
     simp only [getElem_toArray, getElem_cons_zero, getElem_cons_succ, Act.put, setIfInBounds_toArray, set_cons_zero, set_cons_succ]
     refine wpAnyH_take (i := 6) (v := .agg #[.int .i64 0, .slice A10 0 c10]) rfl (by kernel_rfl) (by kernel_rfl) (by kernel_rfl) (fun _ _ _ h => h) (.inl ⟨by first | rfl | go_simp, by intro u h; (try dsimp only at h); go_simp⟩) ‹_› ?_
     simp only [getElem_toArray, getElem_cons_zero, getElem_cons_succ, Act.put, setIfInBounds_toArray, set_cons_zero, set_cons_succ]
     refine wpAnyH_take (i := 7) (v := .bool false) rfl (by kernel_rfl) (by kernel_rfl) (by kernel_rfl) (fun _ _ _ h => h) (.inl ⟨by first | rfl | go_simp, by intro u h; (try dsimp only at h); go_simp⟩) ‹_› ?_
     simp only [getElem_toArray, getElem_cons_zero, getElem_cons_succ, Act.put, setIfInBounds_toArray, set_cons_zero, set_cons_succ]
     refine wpAnyH_take (i := 8) (v := .bool true) rfl (by kernel_rfl) (by kernel_rfl) (by kernel_rfl) (fun _ _ _ h => h) (.inl ⟨by first | rfl | go_simp, by intro u h; (try dsimp only at h); go_simp⟩) ‹_› ?_
     simp only [getElem_toArray, getElem_cons_zero, getElem_cons_succ, Act.put, setIfInBounds_toArray, set_cons_zero, set_cons_succ]
     refine wpAnyH_ready (rs := [10]) (by kernel_rfl) (by simp) ?_
     refine .cons rfl (fun K hK => ?_) .nil
     go_simp
     have NHV9 : V9.ownBlock ≠ some X31.heap.size := fun e9 => by have h9 := (HV9.2.2 _ e9).2; omega
     have hxc := BC.size
     have b9 := (Below.refl X31.heap.size X31).alloc (Nat.le_refl _) (.cells #[.int .i64 0, .slice none 0 0] 24)
     have K10 := Blk.fresh X31 24 #[.int .i64 0, .slice none 0 0]
     have hxK10K3 := K3.lt
     have hxK10K9 := K9.lt
     have hbK10 : W8.heap.size ≤ X31.heap.size := hxc
     clear hxc
     generalize X31.alloc (.cells #[.int .i64 0, .slice none 0 0] 24) = X32 at *
     replace K3 := K3.below b9 K3.lt
     replace K9 := K9.below b9 K9.lt
     replace BX := thenB BX b9
     replace BC := thenB BC b9
     replace HV9 := HV9.below b9
     clear b9
     refine hK.out _ _ K3 (fun hHeld => ?_)
     clear hK K
     try simp only [getElem_toArray, getElem_cons_zero, getElem_cons_succ, Act.put, setIfInBounds_toArray, set_cons_zero, set_cons_succ]
     refine wpAnyH_ready (rs := [11]) (by kernel_rfl) (by simp) ?_
     refine .cons rfl (fun K hK => ?_) .nil
     have H9 := o7 oV9 1 1 1 0 false false
     refine Av.step_store_row rfl 43 (.tmp 9) (.tmp 55) rfl (X0.heap.size) #[.int .i64 1, .int .i64 1, V9, .bool false, .bool false, .int .i64 1, .int .i64 0] rfl rfl 43 _ K9 (by kernel_rfl) rfl H9 ?_
     replace BC := below_setRow (g := X0.heap.size) BC (by omega) #[.int .i64 1, .int .i64 1, V9, .bool false, .bool false, .int .i64 1, .int .i64 0]
     replace HV9 := HV9.step (stp_row K9 #[.int .i64 1, .int .i64 1, V9, .bool false, .bool false, .int .i64 1, .int .i64 0]) (by decide) (by decide) (Nat.zero_le _)
     replace K3 : Blk (X32.setRow (X0.heap.size) #[.int .i64 1, .int .i64 1, V9, .bool false, .bool false, .int .i64 1, .int .i64 0]) (g3) 43 #[.int .i64 0, .int .i64 0, V5, .bool true, .bool false, .int .i64 0, .int .i64 0] := Av.bother_row K3 (by omega)
     replace K9 : Blk (X32.setRow (X0.heap.size) #[.int .i64 1, .int .i64 1, V9, .bool false, .bool false, .int .i64 1, .int .i64 0]) (X0.heap.size) 43 #[.int .i64 1, .int .i64 1, V9, .bool false, .bool false, .int .i64 1, .int .i64 0] := Av.bset_row K9
     replace K10 : Blk (X32.setRow (X0.heap.size) #[.int .i64 1, .int .i64 1, V9, .bool false, .bool false, .int .i64 1, .int .i64 0]) (X31.heap.size) 24 #[.int .i64 0, .slice none 0 0] := Av.bother_row K10 (by omega)
     replace BX : Below w.heap.size w (X32.setRow (X0.heap.size) #[.int .i64 1, .int .i64 1, V9, .bool false, .bool false, .int .i64 1, .int .i64 0]) := below_setRow BX (by omega) _
     clear H9
     generalize X32.setRow (X0.heap.size) #[.int .i64 1, .int .i64 1, V9, .bool false, .bool false, .int .i64 1, .int .i64 0] = X33 at *
     refine hK.out _ _ K3 (fun hHeld => ?_)
     clear hK K
     try simp only [getElem_toArray, getElem_cons_zero, getElem_cons_succ, Act.put, setIfInBounds_toArray, set_cons_zero, set_cons_succ]
     refine wpAnyH_ready (rs := [12]) (by kernel_rfl) (by simp) ?_
     refine .cons rfl (fun K hK => ?_) .nil
     have H9 := o2 0 A10 0 c10
     refine Av.step_store_row rfl 24 (.tmp 10) (.tmp 56) rfl (X31.heap.size) #[.int .i64 0, .slice A10 0 c10] rfl rfl 24 _ K10 (by kernel_rfl) rfl H9 ?_
     replace BC := below_setRow (g := X31.heap.size) BC (by omega) #[.int .i64 0, .slice A10 0 c10]
     replace HV9 := HV9.step_ne (stp_row K10 #[.int .i64 0, .slice A10 0 c10]) (by decide) NHV9 (Nat.zero_le _)
     replace K3 : Blk (X33.setRow (X31.heap.size) #[.int .i64 0, .slice A10 0 c10]) (g3) 43 #[.int .i64 0, .int .i64 0, V5, .bool true, .bool false, .int .i64 0, .int .i64 0] := Av.bother_row K3 (by omega)
     replace K9 : Blk (X33.setRow (X31.heap.size) #[.int .i64 0, .slice A10 0 c10]) (X0.heap.size) 43 #[.int .i64 1, .int .i64 1, V9, .bool false, .bool false, .int .i64 1, .int .i64 0] := Av.bother_row K9 (by omega)
     replace K10 : Blk (X33.setRow (X31.heap.size) #[.int .i64 0, .slice A10 0 c10]) (X31.heap.size) 24 #[.int .i64 0, .slice A10 0 c10] := Av.bset_row K10
     replace BX : Below w.heap.size w (X33.setRow (X31.heap.size) #[.int .i64 0, .slice A10 0 c10]) := below_setRow BX (by omega) _
     clear H9
     generalize X33.setRow (X31.heap.size) #[.int .i64 0, .slice A10 0 c10] = X34 at *
     refine hK.out _ _ K3 (fun hHeld => ?_)
     clear hK K
     try simp only [getElem_toArray, getElem_cons_zero, getElem_cons_succ, Act.put, setIfInBounds_toArray, set_cons_zero, set_cons_succ]
     refine wpAnyH_take (i := 13) (v := .bool false) rfl (by kernel_rfl) (by kernel_rfl) (by kernel_rfl) (fun _ _ _ h => h) (.inl ⟨by first | rfl | go_simp, by intro u h; (try dsimp only at h); go_simp⟩) ‹_› ?_
     simp only [getElem_toArray, getElem_cons_zero, getElem_cons_succ, Act.put, setIfInBounds_toArray, set_cons_zero, set_cons_succ]
     refine wpAnyH_take (i := 14) (v := .bool true) rfl (by kernel_rfl) (by kernel_rfl) (by kernel_rfl) (fun _ _ _ h => h) (.inl ⟨by first | rfl | go_simp, by intro u h; (try dsimp only at h); go_simp⟩) ‹_› ?_
     simp only [getElem_toArray, getElem_cons_zero, getElem_cons_succ, Act.put, setIfInBounds_toArray, set_cons_zero, set_cons_succ]
     refine wpAnyH_done (by kernel_rfl) ?_ _
     clear hHeld
     go_wp2_with fail
     go_meet
     exact ⟨X0.heap.size, V9, l9, rfl, rfl, hbK9, oV9, hl9, K9, HV9.less (Nat.zero_le _) (Nat.le_refl _), BC, BX⟩
    ·
     go_simp
     have hxc := BC.size
     have b9 := (Below.refl X30.heap.size X30).alloc (Nat.le_refl _) (.cells #[.int .i64 0, .slice none 0 0] 24)
     have K10 := Blk.fresh X30 24 #[.int .i64 0, .slice none 0 0]
     have hxK10K3 := K3.lt
     have hxK10K9 := K9.lt
     have hbK10 : W8.heap.size ≤ X30.heap.size := hxc
     clear hxc
     generalize X30.alloc (.cells #[.int .i64 0, .slice none 0 0] 24) = X35 at *
     replace K3 := K3.below b9 K3.lt
     replace K9 := K9.below b9 K9.lt
     replace BX := thenB BX b9
     replace BC := thenB BC b9
     clear b9
     refine hK.out _ _ K3 (fun hHeld => ?_)
     clear hK K
     try simp only [getElem_toArray, getElem_cons_zero, getElem_cons_succ, Act.put, setIfInBounds_toArray, set_cons_zero, set_cons_succ]
     refine wpAnyH_ready (rs := [3]) (by kernel_rfl) (by simp) ?_
     refine .cons rfl (fun K hK => ?_) .nil
     go_simp
     have hNHV9 := K10.lt
     refine (ex_t1 X35 V5 l5 (HV5.below BC) hl5.out).mono ?_
     rintro e X36 ⟨V9, l9, A10, c10, rfl, HV9, hl9, oV9, _, b9⟩
     have NHV9 : V9.ownBlock ≠ some (X30.heap.size) := fun e9 => by have h9 := (HV9.2.2 _ e9).1; omega
     clear hNHV9
     replace K3 := K3.below b9 K3.lt
     replace K9 := K9.below b9 K9.lt
     replace K10 := K10.below b9 K10.lt
     replace BX := thenB BX b9
     replace BC := thenB BC b9
     clear b9
     refine hK.out _ _ K3 (fun hHeld => ?_)
     clear hK K
     try simp only [getElem_toArray, getElem_cons_zero, getElem_cons_succ, Act.put, setIfInBounds_toArray, set_cons_zero, set_cons_succ]
     refine wpAnyH_take (i := 4) (v := .tuple #[.agg #[.int .i64 1, .int .i64 1, V9, .bool false, .bool false, .int .i64 1, .int .i64 0], .agg #[.int .i64 0, .slice A10 0 c10], .bool false, .bool true]) rfl (by kernel_rfl) (by kernel_rfl) (by kernel_rfl) (fun _ _ _ h => h) (.inl ⟨by first | rfl | go_simp, by intro u h; (try dsimp only at h); go_simp⟩) ‹_› ?_
     simp only [getElem_toArray, getElem_cons_zero, getElem_cons_succ, Act.put, setIfInBounds_toArray, set_cons_zero, set_cons_succ]
     refine wpAnyH_take (i := 5) (v := .agg #[.int .i64 1, .int .i64 1, V9, .bool false, .bool false, .int .i64 1, .int .i64 0]) rfl (by kernel_rfl) (by kernel_rfl) (by kernel_rfl) (fun _ _ _ h => h) (.inl ⟨by first | rfl | go_simp, by intro u h; (try dsimp only at h); go_simp⟩) ‹_› ?_
     simp only [getElem_toArray, getElem_cons_zero, getElem_cons_succ, Act.put, setIfInBounds_toArray, set_cons_zero, set_cons_succ]
     refine wpAnyH_take (i := 6) (v := .agg #[.int .i64 0, .slice A10 0 c10]) rfl (by kernel_rfl) (by kernel_rfl) (by kernel_rfl) (fun _ _ _ h => h) (.inl ⟨by first | rfl | go_simp, by intro u h; (try dsimp only at h); go_simp⟩) ‹_› ?_
     simp only [getElem_toArray, getElem_cons_zero, getElem_cons_succ, Act.put, setIfInBounds_toArray, set_cons_zero, set_cons_succ]
     refine wpAnyH_take (i := 7) (v := .bool false) rfl (by kernel_rfl) (by kernel_rfl) (by kernel_rfl) (fun _ _ _ h => h) (.inl ⟨by first | rfl | go_simp, by intro u h; (try dsimp only at h); go_simp⟩) ‹_› ?_
     simp only [getElem_toArray, getElem_cons_zero, getElem_cons_succ, Act.put, setIfInBounds_toArray, set_cons_zero, set_cons_succ]
     refine wpAnyH_take (i := 8) (v := .bool true) rfl (by kernel_rfl) (by kernel_rfl) (by kernel_rfl) (fun _ _ _ h => h) (.inl ⟨by first | rfl | go_simp, by intro u h; (try dsimp only at h); go_simp⟩) ‹_› ?_
     simp only [getElem_toArray, getElem_cons_zero, getElem_cons_succ, Act.put, setIfInBounds_toArray, set_cons_zero, set_cons_succ]
     refine wpAnyH_ready (rs := [11]) (by kernel_rfl) (by simp) ?_
     refine .cons rfl (fun K hK => ?_) .nil
     have H9 := o7 oV9 1 1 1 0 false false
     refine Av.step_store_row rfl 43 (.tmp 9) (.tmp 55) rfl (X0.heap.size) #[.int .i64 1, .int .i64 1, V9, .bool false, .bool false, .int .i64 1, .int .i64 0] rfl rfl 43 _ K9 (by kernel_rfl) rfl H9 ?_
     replace BC := below_setRow (g := X0.heap.size) BC (by omega) #[.int .i64 1, .int .i64 1, V9, .bool false, .bool false, .int .i64 1, .int .i64 0]
     replace HV9 := HV9.step (stp_row K9 #[.int .i64 1, .int .i64 1, V9, .bool false, .bool false, .int .i64 1, .int .i64 0]) (by decide) (by decide) (Nat.zero_le _)
     replace K3 : Blk (X36.setRow (X0.heap.size) #[.int .i64 1, .int .i64 1, V9, .bool false, .bool false, .int .i64 1, .int .i64 0]) (g3) 43 #[.int .i64 0, .int .i64 0, V5, .bool true, .bool false, .int .i64 0, .int .i64 0] := Av.bother_row K3 (by omega)
     replace K9 : Blk (X36.setRow (X0.heap.size) #[.int .i64 1, .int .i64 1, V9, .bool false, .bool false, .int .i64 1, .int .i64 0]) (X0.heap.size) 43 #[.int .i64 1, .int .i64 1, V9, .bool false, .bool false, .int .i64 1, .int .i64 0] := Av.bset_row K9
     replace K10 : Blk (X36.setRow (X0.heap.size) #[.int .i64 1, .int .i64 1, V9, .bool false, .bool false, .int .i64 1, .int .i64 0]) (X30.heap.size) 24 #[.int .i64 0, .slice none 0 0] := Av.bother_row K10 (by omega)
     replace BX : Below w.heap.size w (X36.setRow (X0.heap.size) #[.int .i64 1, .int .i64 1, V9, .bool false, .bool false, .int .i64 1, .int .i64 0]) := below_setRow BX (by omega) _
     clear H9
     generalize X36.setRow (X0.heap.size) #[.int .i64 1, .int .i64 1, V9, .bool false, .bool false, .int .i64 1, .int .i64 0] = X37 at *
     refine hK.out _ _ K3 (fun hHeld => ?_)
     clear hK K
     try simp only [getElem_toArray, getElem_cons_zero, getElem_cons_succ, Act.put, setIfInBounds_toArray, set_cons_zero, set_cons_succ]
     refine wpAnyH_ready (rs := [12]) (by kernel_rfl) (by simp) ?_
     refine .cons rfl (fun K hK => ?_) .nil
     have H9 := o2 0 A10 0 c10
     refine Av.step_store_row rfl 24 (.tmp 10) (.tmp 56) rfl (X30.heap.size) #[.int .i64 0, .slice A10 0 c10] rfl rfl 24 _ K10 (by kernel_rfl) rfl H9 ?_
     replace BC := below_setRow (g := X30.heap.size) BC (by omega) #[.int .i64 0, .slice A10 0 c10]
     replace HV9 := HV9.step_ne (stp_row K10 #[.int .i64 0, .slice A10 0 c10]) (by decide) NHV9 (Nat.zero_le _)
     replace K3 : Blk (X37.setRow (X30.heap.size) #[.int .i64 0, .slice A10 0 c10]) (g3) 43 #[.int .i64 0, .int .i64 0, V5, .bool true, .bool false, .int .i64 0, .int .i64 0] := Av.bother_row K3 (by omega)
     replace K9 : Blk (X37.setRow (X30.heap.size) #[.int .i64 0, .slice A10 0 c10]) (X0.heap.size) 43 #[.int .i64 1, .int .i64 1, V9, .bool false, .bool false, .int .i64 1, .int .i64 0] := Av.bother_row K9 (by omega)
     replace K10 : Blk (X37.setRow (X30.heap.size) #[.int .i64 0, .slice A10 0 c10]) (X30.heap.size) 24 #[.int .i64 0, .slice A10 0 c10] := Av.bset_row K10
     replace BX : Below w.heap.size w (X37.setRow (X30.heap.size) #[.int .i64 0, .slice A10 0 c10]) := below_setRow BX (by omega) _
     clear H9
     generalize X37.setRow (X30.heap.size) #[.int .i64 0, .slice A10 0 c10] = X38 at *
     refine hK.out _ _ K3 (fun hHeld => ?_)
     clear hK K
     try simp only [getElem_toArray, getElem_cons_zero, getElem_cons_succ, Act.put, setIfInBounds_toArray, set_cons_zero, set_cons_succ]
     refine wpAnyH_take (i := 13) (v := .bool false) rfl (by kernel_rfl) (by kernel_rfl) (by kernel_rfl) (fun _ _ _ h => h) (.inl ⟨by first | rfl | go_simp, by intro u h; (try dsimp only at h); go_simp⟩) ‹_› ?_
     simp only [getElem_toArray, getElem_cons_zero, getElem_cons_succ, Act.put, setIfInBounds_toArray, set_cons_zero, set_cons_succ]
     refine wpAnyH_take (i := 14) (v := .bool true) rfl (by kernel_rfl) (by kernel_rfl) (by kernel_rfl) (fun _ _ _ h => h) (.inl ⟨by first | rfl | go_simp, by intro u h; (try dsimp only at h); go_simp⟩) ‹_› ?_
     simp only [getElem_toArray, getElem_cons_zero, getElem_cons_succ, Act.put, setIfInBounds_toArray, set_cons_zero, set_cons_succ]
     refine wpAnyH_done (by kernel_rfl) ?_ _
     clear hHeld
     go_wp2_with fail
     go_meet
     exact ⟨X0.heap.size, V9, l9, rfl, rfl, hbK9, oV9, hl9, K9, HV9.less (Nat.zero_le _) (Nat.le_refl _), BC, BX⟩
   ·
    go_simp
    have hxc := BC.size
    have b9 := (Below.refl X29.heap.size X29).alloc (Nat.le_refl _) (.cells #[.int .i64 0, .slice none 0 0] 24)
    have K10 := Blk.fresh X29 24 #[.int .i64 0, .slice none 0 0]
    have hxK10K3 := K3.lt
    have hxK10K9 := K9.lt
    have hbK10 : W8.heap.size ≤ X29.heap.size := hxc
    clear hxc
    generalize X29.alloc (.cells #[.int .i64 0, .slice none 0 0] 24) = X39 at *
    replace K3 := K3.below b9 K3.lt
    replace K9 := K9.below b9 K9.lt
    replace BX := thenB BX b9
    replace BC := thenB BC b9
    clear b9
    refine hK.out _ _ K3 (fun hHeld => ?_)
    clear hK K
    try simp only [getElem_toArray, getElem_cons_zero, getElem_cons_succ, Act.put, setIfInBounds_toArray, set_cons_zero, set_cons_succ]
    refine wpAnyH_ready (rs := [1]) (by kernel_rfl) (by simp) ?_
    refine .cons rfl (fun K hK => ?_) .nil
    go_simp
    refine (rblankpk_any X39).mono ?_
    rintro e X40 ⟨rfl, b9⟩
    replace K3 := K3.below b9 K3.lt
    replace K9 := K9.below b9 K9.lt
    replace K10 := K10.below b9 K10.lt
    replace BX := thenB BX b9
    replace BC := thenB BC b9
    clear b9
    refine hK.out _ _ K3 (fun hHeld => ?_)
    clear hK K
    try simp only [getElem_toArray, getElem_cons_zero, getElem_cons_succ, Act.put, setIfInBounds_toArray, set_cons_zero, set_cons_succ]
    refine wpAnyH_take (i := 2) (v := .agg #[.int .i64 0, .int .i64 1, .int .i64 0, .int .i64 1, .slice none 0 0]) rfl (by kernel_rfl) (by kernel_rfl) (by kernel_rfl) (fun _ _ _ h => h) (.inl ⟨by first | rfl | go_simp, by intro u h; (try dsimp only at h); go_simp⟩) ‹_› ?_
    simp only [getElem_toArray, getElem_cons_zero, getElem_cons_succ, Act.put, setIfInBounds_toArray, set_cons_zero, set_cons_succ]
    refine wpAnyH_ready (rs := [3]) (by kernel_rfl) (by simp) ?_
    refine .cons rfl (fun K hK => ?_) .nil
    go_simp
    have hNHV9 := K10.lt
    refine (ex_t1 X40 V5 l5 (HV5.below BC) hl5.out).mono ?_
    rintro e X41 ⟨V9, l9, A10, c10, rfl, HV9, hl9, oV9, _, b9⟩
    have NHV9 : V9.ownBlock ≠ some (X29.heap.size) := fun e9 => by have h9 := (HV9.2.2 _ e9).1; omega
    clear hNHV9
    replace K3 := K3.below b9 K3.lt
    replace K9 := K9.below b9 K9.lt
    replace K10 := K10.below b9 K10.lt
    replace BX := thenB BX b9
    replace BC := thenB BC b9
    clear b9
    refine hK.out _ _ K3 (fun hHeld => ?_)
    clear hK K
    try simp only [getElem_toArray, getElem_cons_zero, getElem_cons_succ, Act.put, setIfInBounds_toArray, set_cons_zero, set_cons_succ]
    refine wpAnyH_take (i := 4) (v := .tuple #[.agg #[.int .i64 1, .int .i64 1, V9, .bool false, .bool false, .int .i64 1, .int .i64 0], .agg #[.int .i64 0, .slice A10 0 c10], .bool false, .bool true]) rfl (by kernel_rfl) (by kernel_rfl) (by kernel_rfl) (fun _ _ _ h => h) (.inl ⟨by first | rfl | go_simp, by intro u h; (try dsimp only at h); go_simp⟩) ‹_› ?_
    simp only [getElem_toArray, getElem_cons_zero, getElem_cons_succ, Act.put, setIfInBounds_toArray, set_cons_zero, set_cons_succ]
    refine wpAnyH_take (i := 5) (v := .agg #[.int .i64 1, .int .i64 1, V9, .bool false, .bool false, .int .i64 1, .int .i64 0]) rfl (by kernel_rfl) (by kernel_rfl) (by kernel_rfl) (fun _ _ _ h => h) (.inl ⟨by first | rfl | go_simp, by intro u h; (try dsimp only at h); go_simp⟩) ‹_› ?_
    simp only [getElem_toArray, getElem_cons_zero, getElem_cons_succ, Act.put, setIfInBounds_toArray, set_cons_zero, set_cons_succ]
    refine wpAnyH_take (i := 6) (v := .agg #[.int .i64 0, .slice A10 0 c10]) rfl (by kernel_rfl) (by kernel_rfl) (by kernel_rfl) (fun _ _ _ h => h) (.inl ⟨by first | rfl | go_simp, by intro u h; (try dsimp only at h); go_simp⟩) ‹_› ?_
    simp only [getElem_toArray, getElem_cons_zero, getElem_cons_succ, Act.put, setIfInBounds_toArray, set_cons_zero, set_cons_succ]
    refine wpAnyH_take (i := 7) (v := .bool false) rfl (by kernel_rfl) (by kernel_rfl) (by kernel_rfl) (fun _ _ _ h => h) (.inl ⟨by first | rfl | go_simp, by intro u h; (try dsimp only at h); go_simp⟩) ‹_› ?_
    simp only [getElem_toArray, getElem_cons_zero, getElem_cons_succ, Act.put, setIfInBounds_toArray, set_cons_zero, set_cons_succ]
    refine wpAnyH_take (i := 8) (v := .bool true) rfl (by kernel_rfl) (by kernel_rfl) (by kernel_rfl) (fun _ _ _ h => h) (.inl ⟨by first | rfl | go_simp, by intro u h; (try dsimp only at h); go_simp⟩) ‹_› ?_
    simp only [getElem_toArray, getElem_cons_zero, getElem_cons_succ, Act.put, setIfInBounds_toArray, set_cons_zero, set_cons_succ]
    refine wpAnyH_ready (rs := [11]) (by kernel_rfl) (by simp) ?_
    refine .cons rfl (fun K hK => ?_) .nil
    have H9 := o7 oV9 1 1 1 0 false false
    refine Av.step_store_row rfl 43 (.tmp 9) (.tmp 55) rfl (X0.heap.size) #[.int .i64 1, .int .i64 1, V9, .bool false, .bool false, .int .i64 1, .int .i64 0] rfl rfl 43 _ K9 (by kernel_rfl) rfl H9 ?_
    replace BC := below_setRow (g := X0.heap.size) BC (by omega) #[.int .i64 1, .int .i64 1, V9, .bool false, .bool false, .int .i64 1, .int .i64 0]
    replace HV9 := HV9.step (stp_row K9 #[.int .i64 1, .int .i64 1, V9, .bool false, .bool false, .int .i64 1, .int .i64 0]) (by decide) (by decide) (Nat.zero_le _)
    replace K3 : Blk (X41.setRow (X0.heap.size) #[.int .i64 1, .int .i64 1, V9, .bool false, .bool false, .int .i64 1, .int .i64 0]) (g3) 43 #[.int .i64 0, .int .i64 0, V5, .bool true, .bool false, .int .i64 0, .int .i64 0] := Av.bother_row K3 (by omega)
    replace K9 : Blk (X41.setRow (X0.heap.size) #[.int .i64 1, .int .i64 1, V9, .bool false, .bool false, .int .i64 1, .int .i64 0]) (X0.heap.size) 43 #[.int .i64 1, .int .i64 1, V9, .bool false, .bool false, .int .i64 1, .int .i64 0] := Av.bset_row K9
    replace K10 : Blk (X41.setRow (X0.heap.size) #[.int .i64 1, .int .i64 1, V9, .bool false, .bool false, .int .i64 1, .int .i64 0]) (X29.heap.size) 24 #[.int .i64 0, .slice none 0 0] := Av.bother_row K10 (by omega)
    replace BX : Below w.heap.size w (X41.setRow (X0.heap.size) #[.int .i64 1, .int .i64 1, V9, .bool false, .bool false, .int .i64 1, .int .i64 0]) := below_setRow BX (by omega) _
    clear H9
    generalize X41.setRow (X0.heap.size) #[.int .i64 1, .int .i64 1, V9, .bool false, .bool false, .int .i64 1, .int .i64 0] = X42 at *
    refine hK.out _ _ K3 (fun hHeld => ?_)
    clear hK K
    try simp only [getElem_toArray, getElem_cons_zero, getElem_cons_succ, Act.put, setIfInBounds_toArray, set_cons_zero, set_cons_succ]
    refine wpAnyH_ready (rs := [12]) (by kernel_rfl) (by simp) ?_
    refine .cons rfl (fun K hK => ?_) .nil
    have H9 := o2 0 A10 0 c10
    refine Av.step_store_row rfl 24 (.tmp 10) (.tmp 56) rfl (X29.heap.size) #[.int .i64 0, .slice A10 0 c10] rfl rfl 24 _ K10 (by kernel_rfl) rfl H9 ?_
    replace BC := below_setRow (g := X29.heap.size) BC (by omega) #[.int .i64 0, .slice A10 0 c10]
    replace HV9 := HV9.step_ne (stp_row K10 #[.int .i64 0, .slice A10 0 c10]) (by decide) NHV9 (Nat.zero_le _)
    replace K3 : Blk (X42.setRow (X29.heap.size) #[.int .i64 0, .slice A10 0 c10]) (g3) 43 #[.int .i64 0, .int .i64 0, V5, .bool true, .bool false, .int .i64 0, .int .i64 0] := Av.bother_row K3 (by omega)
    replace K9 : Blk (X42.setRow (X29.heap.size) #[.int .i64 0, .slice A10 0 c10]) (X0.heap.size) 43 #[.int .i64 1, .int .i64 1, V9, .bool false, .bool false, .int .i64 1, .int .i64 0] := Av.bother_row K9 (by omega)
    replace K10 : Blk (X42.setRow (X29.heap.size) #[.int .i64 0, .slice A10 0 c10]) (X29.heap.size) 24 #[.int .i64 0, .slice A10 0 c10] := Av.bset_row K10
    replace BX : Below w.heap.size w (X42.setRow (X29.heap.size) #[.int .i64 0, .slice A10 0 c10]) := below_setRow BX (by omega) _
    clear H9
    generalize X42.setRow (X29.heap.size) #[.int .i64 0, .slice A10 0 c10] = X43 at *
    refine hK.out _ _ K3 (fun hHeld => ?_)
    clear hK K
    try simp only [getElem_toArray, getElem_cons_zero, getElem_cons_succ, Act.put, setIfInBounds_toArray, set_cons_zero, set_cons_succ]
    refine wpAnyH_take (i := 13) (v := .bool false) rfl (by kernel_rfl) (by kernel_rfl) (by kernel_rfl) (fun _ _ _ h => h) (.inl ⟨by first | rfl | go_simp, by intro u h; (try dsimp only at h); go_simp⟩) ‹_› ?_
    simp only [getElem_toArray, getElem_cons_zero, getElem_cons_succ, Act.put, setIfInBounds_toArray, set_cons_zero, set_cons_succ]
    refine wpAnyH_take (i := 14) (v := .bool true) rfl (by kernel_rfl) (by kernel_rfl) (by kernel_rfl) (fun _ _ _ h => h) (.inl ⟨by first | rfl | go_simp, by intro u h; (try dsimp only at h); go_simp⟩) ‹_› ?_
    simp only [getElem_toArray, getElem_cons_zero, getElem_cons_succ, Act.put, setIfInBounds_toArray, set_cons_zero, set_cons_succ]
    refine wpAnyH_done (by kernel_rfl) ?_ _
    clear hHeld
    go_wp2_with fail
    go_meet
    exact ⟨X0.heap.size, V9, l9, rfl, rfl, hbK9, oV9, hl9, K9, HV9.less (Nat.zero_le _) (Nat.le_refl _), BC, BX⟩
  ·
   go_simp
   have hxc := BC.size
   have b9 := (Below.refl X0.heap.size X0).alloc (Nat.le_refl _) (.cells #[.int .i64 0, .slice none 0 0] 24)
   have K10 := Blk.fresh X0 24 #[.int .i64 0, .slice none 0 0]
   have hxK10K3 := K3.lt
   have hbK10 : W8.heap.size ≤ X0.heap.size := hxc
   clear hxc
   generalize X0.alloc (.cells #[.int .i64 0, .slice none 0 0] 24) = X44 at *
   replace K3 := K3.below b9 K3.lt
   replace BX := thenB BX b9
   replace BC := thenB BC b9
   clear b9
   refine hK.out _ _ K3 (fun hHeld => ?_)
   clear hK K
   try simp only [getElem_toArray, getElem_cons_zero, getElem_cons_succ, Act.put, setIfInBounds_toArray, set_cons_zero, set_cons_succ]
   refine wpAnyH_ready (rs := [1, 9]) (by kernel_rfl) (by simp) ?_
   refine AllReadyH.cons rfl (fun K hK => ?_) (AllReadyH.cons rfl (fun K hK => ?_) (AllReadyH.nil))
   ·
    go_simp
    refine (rblankpk_any X44).mono ?_
    rintro e X45 ⟨rfl, b9⟩
    replace K3 := K3.below b9 K3.lt
    replace K10 := K10.below b9 K10.lt
    replace BX := thenB BX b9
    replace BC := thenB BC b9
    clear b9
    refine hK.out _ _ K3 (fun hHeld => ?_)
    clear hK K
    try simp only [getElem_toArray, getElem_cons_zero, getElem_cons_succ, Act.put, setIfInBounds_toArray, set_cons_zero, set_cons_succ]
    refine wpAnyH_take (i := 2) (v := .agg #[.int .i64 0, .int .i64 1, .int .i64 0, .int .i64 1, .slice none 0 0]) rfl (by kernel_rfl) (by kernel_rfl) (by kernel_rfl) (fun _ _ _ h => h) (.inl ⟨by first | rfl | go_simp, by intro u h; (try dsimp only at h); go_simp⟩) ‹_› ?_
    simp only [getElem_toArray, getElem_cons_zero, getElem_cons_succ, Act.put, setIfInBounds_toArray, set_cons_zero, set_cons_succ]
    refine wpAnyH_ready (rs := [3, 9]) (by kernel_rfl) (by simp) ?_
    refine AllReadyH.cons rfl (fun K hK => ?_) (AllReadyH.cons rfl (fun K hK => ?_) (AllReadyH.nil))
    ·
     go_simp
     have hNHV9 := K10.lt
     refine (ex_t1 X45 V5 l5 (HV5.below BC) hl5.out).mono ?_
     rintro e X46 ⟨V9, l9, A10, c10, rfl, HV9, hl9, oV9, _, b9⟩
     have NHV9 : V9.ownBlock ≠ some (X0.heap.size) := fun e9 => by have h9 := (HV9.2.2 _ e9).1; omega
     clear hNHV9
     replace K3 := K3.below b9 K3.lt
     replace K10 := K10.below b9 K10.lt
     replace BX := thenB BX b9
     replace BC := thenB BC b9
     clear b9
     refine hK.out _ _ K3 (fun hHeld => ?_)
     clear hK K
     try simp only [getElem_toArray, getElem_cons_zero, getElem_cons_succ, Act.put, setIfInBounds_toArray, set_cons_zero, set_cons_succ]
     refine wpAnyH_take (i := 4) (v := .tuple #[.agg #[.int .i64 1, .int .i64 1, V9, .bool false, .bool false, .int .i64 1, .int .i64 0], .agg #[.int .i64 0, .slice A10 0 c10], .bool false, .bool true]) rfl (by kernel_rfl) (by kernel_rfl) (by kernel_rfl) (fun _ _ _ h => h) (.inl ⟨by first | rfl | go_simp, by intro u h; (try dsimp only at h); go_simp⟩) ‹_› ?_
     simp only [getElem_toArray, getElem_cons_zero, getElem_cons_succ, Act.put, setIfInBounds_toArray, set_cons_zero, set_cons_succ]
     refine wpAnyH_take (i := 5) (v := .agg #[.int .i64 1, .int .i64 1, V9, .bool false, .bool false, .int .i64 1, .int .i64 0]) rfl (by kernel_rfl) (by kernel_rfl) (by kernel_rfl) (fun _ _ _ h => h) (.inl ⟨by first | rfl | go_simp, by intro u h; (try dsimp only at h); go_simp⟩) ‹_› ?_
     simp only [getElem_toArray, getElem_cons_zero, getElem_cons_succ, Act.put, setIfInBounds_toArray, set_cons_zero, set_cons_succ]
     refine wpAnyH_take (i := 6) (v := .agg #[.int .i64 0, .slice A10 0 c10]) rfl (by kernel_rfl) (by kernel_rfl) (by kernel_rfl) (fun _ _ _ h => h) (.inl ⟨by first | rfl | go_simp, by intro u h; (try dsimp only at h); go_simp⟩) ‹_› ?_
     simp only [getElem_toArray, getElem_cons_zero, getElem_cons_succ, Act.put, setIfInBounds_toArray, set_cons_zero, set_cons_succ]
     refine wpAnyH_take (i := 7) (v := .bool false) rfl (by kernel_rfl) (by kernel_rfl) (by kernel_rfl) (fun _ _ _ h => h) (.inl ⟨by first | rfl | go_simp, by intro u h; (try dsimp only at h); go_simp⟩) ‹_› ?_
     simp only [getElem_toArray, getElem_cons_zero, getElem_cons_succ, Act.put, setIfInBounds_toArray, set_cons_zero, set_cons_succ]
     refine wpAnyH_take (i := 8) (v := .bool true) rfl (by kernel_rfl) (by kernel_rfl) (by kernel_rfl) (fun _ _ _ h => h) (.inl ⟨by first | rfl | go_simp, by intro u h; (try dsimp only at h); go_simp⟩) ‹_› ?_
     simp only [getElem_toArray, getElem_cons_zero, getElem_cons_succ, Act.put, setIfInBounds_toArray, set_cons_zero, set_cons_succ]
     refine wpAnyH_ready (rs := [9]) (by kernel_rfl) (by simp) ?_
     refine .cons rfl (fun K hK => ?_) .nil
     go_simp
     have hxc := BC.size
     have b9 := (Below.refl X46.heap.size X46).alloc (Nat.le_refl _) (.cells #[.int .i64 0, .int .i64 0, .slice none 0 0, .bool false, .bool false, .int .i64 0, .int .i64 0] 43)
     have K9 := Blk.fresh X46 43 #[.int .i64 0, .int .i64 0, .slice none 0 0, .bool false, .bool false, .int .i64 0, .int .i64 0]
     have hxK9K3 := K3.lt
     have hxK9K10 := K10.lt
     have hbK9 : W8.heap.size ≤ X46.heap.size := hxc
     clear hxc
     generalize X46.alloc (.cells #[.int .i64 0, .int .i64 0, .slice none 0 0, .bool false, .bool false, .int .i64 0, .int .i64 0] 43) = X47 at *
     replace K3 := K3.below b9 K3.lt
     replace K10 := K10.below b9 K10.lt
     replace BX := thenB BX b9
     replace BC := thenB BC b9
     replace HV9 := HV9.below b9
     clear b9
     refine hK.out _ _ K3 (fun hHeld => ?_)
     clear hK K
     try simp only [getElem_toArray, getElem_cons_zero, getElem_cons_succ, Act.put, setIfInBounds_toArray, set_cons_zero, set_cons_succ]
     refine wpAnyH_ready (rs := [11]) (by kernel_rfl) (by simp) ?_
     refine .cons rfl (fun K hK => ?_) .nil
     have H9 := o7 oV9 1 1 1 0 false false
     refine Av.step_store_row rfl 43 (.tmp 9) (.tmp 55) rfl (X46.heap.size) #[.int .i64 1, .int .i64 1, V9, .bool false, .bool false, .int .i64 1, .int .i64 0] rfl rfl 43 _ K9 (by kernel_rfl) rfl H9 ?_
     replace BC := below_setRow (g := X46.heap.size) BC (by omega) #[.int .i64 1, .int .i64 1, V9, .bool false, .bool false, .int .i64 1, .int .i64 0]
     replace HV9 := HV9.step (stp_row K9 #[.int .i64 1, .int .i64 1, V9, .bool false, .bool false, .int .i64 1, .int .i64 0]) (by decide) (by decide) (Nat.zero_le _)
     replace K3 : Blk (X47.setRow (X46.heap.size) #[.int .i64 1, .int .i64 1, V9, .bool false, .bool false, .int .i64 1, .int .i64 0]) (g3) 43 #[.int .i64 0, .int .i64 0, V5, .bool true, .bool false, .int .i64 0, .int .i64 0] := Av.bother_row K3 (by omega)
     replace K10 : Blk (X47.setRow (X46.heap.size) #[.int .i64 1, .int .i64 1, V9, .bool false, .bool false, .int .i64 1, .int .i64 0]) (X0.heap.size) 24 #[.int .i64 0, .slice none 0 0] := Av.bother_row K10 (by omega)
     replace K9 : Blk (X47.setRow (X46.heap.size) #[.int .i64 1, .int .i64 1, V9, .bool false, .bool false, .int .i64 1, .int .i64 0]) (X46.heap.size) 43 #[.int .i64 1, .int .i64 1, V9, .bool false, .bool false, .int .i64 1, .int .i64 0] := Av.bset_row K9
     replace BX : Below w.heap.size w (X47.setRow (X46.heap.size) #[.int .i64 1, .int .i64 1, V9, .bool false, .bool false, .int .i64 1, .int .i64 0]) := below_setRow BX (by omega) _
     clear H9
     generalize X47.setRow (X46.heap.size) #[.int .i64 1, .int .i64 1, V9, .bool false, .bool false, .int .i64 1, .int .i64 0] = X48 at *
     refine hK.out _ _ K3 (fun hHeld => ?_)
     clear hK K
     try simp only [getElem_toArray, getElem_cons_zero, getElem_cons_succ, Act.put, setIfInBounds_toArray, set_cons_zero, set_cons_succ]
     refine wpAnyH_ready (rs := [12]) (by kernel_rfl) (by simp) ?_
     refine .cons rfl (fun K hK => ?_) .nil
     have H9 := o2 0 A10 0 c10
     refine Av.step_store_row rfl 24 (.tmp 10) (.tmp 56) rfl (X0.heap.size) #[.int .i64 0, .slice A10 0 c10] rfl rfl 24 _ K10 (by kernel_rfl) rfl H9 ?_
     replace BC := below_setRow (g := X0.heap.size) BC (by omega) #[.int .i64 0, .slice A10 0 c10]
     replace HV9 := HV9.step_ne (stp_row K10 #[.int .i64 0, .slice A10 0 c10]) (by decide) NHV9 (Nat.zero_le _)
     replace K3 : Blk (X48.setRow (X0.heap.size) #[.int .i64 0, .slice A10 0 c10]) (g3) 43 #[.int .i64 0, .int .i64 0, V5, .bool true, .bool false, .int .i64 0, .int .i64 0] := Av.bother_row K3 (by omega)
     replace K10 : Blk (X48.setRow (X0.heap.size) #[.int .i64 0, .slice A10 0 c10]) (X0.heap.size) 24 #[.int .i64 0, .slice A10 0 c10] := Av.bset_row K10
     replace K9 : Blk (X48.setRow (X0.heap.size) #[.int .i64 0, .slice A10 0 c10]) (X46.heap.size) 43 #[.int .i64 1, .int .i64 1, V9, .bool false, .bool false, .int .i64 1, .int .i64 0] := Av.bother_row K9 (by omega)
     replace BX : Below w.heap.size w (X48.setRow (X0.heap.size) #[.int .i64 0, .slice A10 0 c10]) := below_setRow BX (by omega) _
     clear H9
     generalize X48.setRow (X0.heap.size) #[.int .i64 0, .slice A10 0 c10] = X49 at *
     refine hK.out _ _ K3 (fun hHeld => ?_)
     clear hK K
     try simp only [getElem_toArray, getElem_cons_zero, getElem_cons_succ, Act.put, setIfInBounds_toArray, set_cons_zero, set_cons_succ]
     refine wpAnyH_take (i := 13) (v := .bool false) rfl (by kernel_rfl) (by kernel_rfl) (by kernel_rfl) (fun _ _ _ h => h) (.inl ⟨by first | rfl | go_simp, by intro u h; (try dsimp only at h); go_simp⟩) ‹_› ?_
     simp only [getElem_toArray, getElem_cons_zero, getElem_cons_succ, Act.put, setIfInBounds_toArray, set_cons_zero, set_cons_succ]
     refine wpAnyH_take (i := 14) (v := .bool true) rfl (by kernel_rfl) (by kernel_rfl) (by kernel_rfl) (fun _ _ _ h => h) (.inl ⟨by first | rfl | go_simp, by intro u h; (try dsimp only at h); go_simp⟩) ‹_› ?_
     simp only [getElem_toArray, getElem_cons_zero, getElem_cons_succ, Act.put, setIfInBounds_toArray, set_cons_zero, set_cons_succ]
     refine wpAnyH_done (by kernel_rfl) ?_ _
     clear hHeld
     go_wp2_with fail
     go_meet
     exact ⟨X46.heap.size, V9, l9, rfl, rfl, hbK9, oV9, hl9, K9, HV9.less (Nat.zero_le _) (Nat.le_refl _), BC, BX⟩
    ·
     go_simp
     have hxc := BC.size
     have b9 := (Below.refl X45.heap.size X45).alloc (Nat.le_refl _) (.cells #[.int .i64 0, .int .i64 0, .slice none 0 0, .bool false, .bool false, .int .i64 0, .int .i64 0] 43)
     have K9 := Blk.fresh X45 43 #[.int .i64 0, .int .i64 0, .slice none 0 0, .bool false, .bool false, .int .i64 0, .int .i64 0]
     have hxK9K3 := K3.lt
     have hxK9K10 := K10.lt
     have hbK9 : W8.heap.size ≤ X45.heap.size := hxc
     clear hxc
     generalize X45.alloc (.cells #[.int .i64 0, .int .i64 0, .slice none 0 0, .bool false, .bool false, .int .i64 0, .int .i64 0] 43) = X50 at *
     replace K3 := K3.below b9 K3.lt
     replace K10 := K10.below b9 K10.lt
     replace BX := thenB BX b9
     replace BC := thenB BC b9
     clear b9
     refine hK.out _ _ K3 (fun hHeld => ?_)
     clear hK K
     try simp only [getElem_toArray, getElem_cons_zero, getElem_cons_succ, Act.put, setIfInBounds_toArray, set_cons_zero, set_cons_succ]
     refine wpAnyH_ready (rs := [3]) (by kernel_rfl) (by simp) ?_
     refine .cons rfl (fun K hK => ?_) .nil
     go_simp
     have hNHV9 := K10.lt
     refine (ex_t1 X50 V5 l5 (HV5.below BC) hl5.out).mono ?_
     rintro e X51 ⟨V9, l9, A10, c10, rfl, HV9, hl9, oV9, _, b9⟩
     have NHV9 : V9.ownBlock ≠ some (X0.heap.size) := fun e9 => by have h9 := (HV9.2.2 _ e9).1; omega
     clear hNHV9
     replace K3 := K3.below b9 K3.lt
     replace K10 := K10.below b9 K10.lt
     replace K9 := K9.below b9 K9.lt
     replace BX := thenB BX b9
     replace BC := thenB BC b9
     clear b9
     refine hK.out _ _ K3 (fun hHeld => ?_)
     clear hK K
     try simp only [getElem_toArray, getElem_cons_zero, getElem_cons_succ, Act.put, setIfInBounds_toArray, set_cons_zero, set_cons_succ]
     refine wpAnyH_take (i := 4) (v := .tuple #[.agg #[.int .i64 1, .int .i64 1, V9, .bool false, .bool false, .int .i64 1, .int .i64 0], .agg #[.int .i64 0, .slice A10 0 c10], .bool false, .bool true]) rfl (by kernel_rfl) (by kernel_rfl) (by kernel_rfl) (fun _ _ _ h => h) (.inl ⟨by first | rfl | go_simp, by intro u h; (try dsimp only at h); go_simp⟩) ‹_› ?_
     simp only [getElem_toArray, getElem_cons_zero, getElem_cons_succ, Act.put, setIfInBounds_toArray, set_cons_zero, set_cons_succ]
     refine wpAnyH_take (i := 5) (v := .agg #[.int .i64 1, .int .i64 1, V9, .bool false, .bool false, .int .i64 1, .int .i64 0]) rfl (by kernel_rfl) (by kernel_rfl) (by kernel_rfl) (fun _ _ _ h => h) (.inl ⟨by first | rfl | go_simp, by intro u h; (try dsimp only at h); go_simp⟩) ‹_› ?_
     simp only [getElem_toArray, getElem_cons_zero, getElem_cons_succ, Act.put, setIfInBounds_toArray, set_cons_zero, set_cons_succ]
     refine wpAnyH_take (i := 6) (v := .agg #[.int .i64 0, .slice A10 0 c10]) rfl (by kernel_rfl) (by kernel_rfl) (by kernel_rfl) (fun _ _ _ h => h) (.inl ⟨by first | rfl | go_simp, by intro u h; (try dsimp only at h); go_simp⟩) ‹_› ?_
     simp only [getElem_toArray, getElem_cons_zero, getElem_cons_succ, Act.put, setIfInBounds_toArray, set_cons_zero, set_cons_succ]
     refine wpAnyH_take (i := 7) (v := .bool false) rfl (by kernel_rfl) (by kernel_rfl) (by kernel_rfl) (fun _ _ _ h => h) (.inl ⟨by first | rfl | go_simp, by intro u h; (try dsimp only at h); go_simp⟩) ‹_› ?_
     simp only [getElem_toArray, getElem_cons_zero, getElem_cons_succ, Act.put, setIfInBounds_toArray, set_cons_zero, set_cons_succ]
     refine wpAnyH_take (i := 8) (v := .bool true) rfl (by kernel_rfl) (by kernel_rfl) (by kernel_rfl) (fun _ _ _ h => h) (.inl ⟨by first | rfl | go_simp, by intro u h; (try dsimp only at h); go_simp⟩) ‹_› ?_
     simp only [getElem_toArray, getElem_cons_zero, getElem_cons_succ, Act.put, setIfInBounds_toArray, set_cons_zero, set_cons_succ]
     refine wpAnyH_ready (rs := [11]) (by kernel_rfl) (by simp) ?_
     refine .cons rfl (fun K hK => ?_) .nil
     have H9 := o7 oV9 1 1 1 0 false false
     refine Av.step_store_row rfl 43 (.tmp 9) (.tmp 55) rfl (X45.heap.size) #[.int .i64 1, .int .i64 1, V9, .bool false, .bool false, .int .i64 1, .int .i64 0] rfl rfl 43 _ K9 (by kernel_rfl) rfl H9 ?_
     replace BC := below_setRow (g := X45.heap.size) BC (by omega) #[.int .i64 1, .int .i64 1, V9, .bool false, .bool false, .int .i64 1, .int .i64 0]
     replace HV9 := HV9.step (stp_row K9 #[.int .i64 1, .int .i64 1, V9, .bool false, .bool false, .int .i64 1, .int .i64 0]) (by decide) (by decide) (Nat.zero_le _)
     replace K3 : Blk (X51.setRow (X45.heap.size) #[.int .i64 1, .int .i64 1, V9, .bool false, .bool false, .int .i64 1, .int .i64 0]) (g3) 43 #[.int .i64 0, .int .i64 0, V5, .bool true, .bool false, .int .i64 0, .int .i64 0] := Av.bother_row K3 (by omega)
     replace K10 : Blk (X51.setRow (X45.heap.size) #[.int .i64 1, .int .i64 1, V9, .bool false, .bool false, .int .i64 1, .int .i64 0]) (X0.heap.size) 24 #[.int .i64 0, .slice none 0 0] := Av.bother_row K10 (by omega)
     replace K9 : Blk (X51.setRow (X45.heap.size) #[.int .i64 1, .int .i64 1, V9, .bool false, .bool false, .int .i64 1, .int .i64 0]) (X45.heap.size) 43 #[.int .i64 1, .int .i64 1, V9, .bool false, .bool false, .int .i64 1, .int .i64 0] := Av.bset_row K9
     replace BX : Below w.heap.size w (X51.setRow (X45.heap.size) #[.int .i64 1, .int .i64 1, V9, .bool false, .bool false, .int .i64 1, .int .i64 0]) := below_setRow BX (by omega) _
     clear H9
     generalize X51.setRow (X45.heap.size) #[.int .i64 1, .int .i64 1, V9, .bool false, .bool false, .int .i64 1, .int .i64 0] = X52 at *
     refine hK.out _ _ K3 (fun hHeld => ?_)
     clear hK K
     try simp only [getElem_toArray, getElem_cons_zero, getElem_cons_succ, Act.put, setIfInBounds_toArray, set_cons_zero, set_cons_succ]
     refine wpAnyH_ready (rs := [12]) (by kernel_rfl) (by simp) ?_
     refine .cons rfl (fun K hK => ?_) .nil
     have H9 := o2 0 A10 0 c10
     refine Av.step_store_row rfl 24 (.tmp 10) (.tmp 56) rfl (X0.heap.size) #[.int .i64 0, .slice A10 0 c10] rfl rfl 24 _ K10 (by kernel_rfl) rfl H9 ?_
     replace BC := below_setRow (g := X0.heap.size) BC (by omega) #[.int .i64 0, .slice A10 0 c10]
     replace HV9 := HV9.step_ne (stp_row K10 #[.int .i64 0, .slice A10 0 c10]) (by decide) NHV9 (Nat.zero_le _)
     replace K3 : Blk (X52.setRow (X0.heap.size) #[.int .i64 0, .slice A10 0 c10]) (g3) 43 #[.int .i64 0, .int .i64 0, V5, .bool true, .bool false, .int .i64 0, .int .i64 0] := Av.bother_row K3 (by omega)
     replace K10 : Blk (X52.setRow (X0.heap.size) #[.int .i64 0, .slice A10 0 c10]) (X0.heap.size) 24 #[.int .i64 0, .slice A10 0 c10] := Av.bset_row K10
     replace K9 : Blk (X52.setRow (X0.heap.size) #[.int .i64 0, .slice A10 0 c10]) (X45.heap.size) 43 #[.int .i64 1, .int .i64 1, V9, .bool false, .bool false, .int .i64 1, .int .i64 0] := Av.bother_row K9 (by omega)
     replace BX : Below w.heap.size w (X52.setRow (X0.heap.size) #[.int .i64 0, .slice A10 0 c10]) := below_setRow BX (by omega) _
     clear H9
     generalize X52.setRow (X0.heap.size) #[.int .i64 0, .slice A10 0 c10] = X53 at *
     refine hK.out _ _ K3 (fun hHeld => ?_)
     clear hK K
     try simp only [getElem_toArray, getElem_cons_zero, getElem_cons_succ, Act.put, setIfInBounds_toArray, set_cons_zero, set_cons_succ]
     refine wpAnyH_take (i := 13) (v := .bool false) rfl (by kernel_rfl) (by kernel_rfl) (by kernel_rfl) (fun _ _ _ h => h) (.inl ⟨by first | rfl | go_simp, by intro u h; (try dsimp only at h); go_simp⟩) ‹_› ?_
     simp only [getElem_toArray, getElem_cons_zero, getElem_cons_succ, Act.put, setIfInBounds_toArray, set_cons_zero, set_cons_succ]
     refine wpAnyH_take (i := 14) (v := .bool true) rfl (by kernel_rfl) (by kernel_rfl) (by kernel_rfl) (fun _ _ _ h => h) (.inl ⟨by first | rfl | go_simp, by intro u h; (try dsimp only at h); go_simp⟩) ‹_› ?_
     simp only [getElem_toArray, getElem_cons_zero, getElem_cons_succ, Act.put, setIfInBounds_toArray, set_cons_zero, set_cons_succ]
     refine wpAnyH_done (by kernel_rfl) ?_ _
     clear hHeld
     go_wp2_with fail
     go_meet
     exact ⟨X45.heap.size, V9, l9, rfl, rfl, hbK9, oV9, hl9, K9, HV9.less (Nat.zero_le _) (Nat.le_refl _), BC, BX⟩
   ·
    go_simp
    have hxc := BC.size
    have b9 := (Below.refl X44.heap.size X44).alloc (Nat.le_refl _) (.cells #[.int .i64 0, .int .i64 0, .slice none 0 0, .bool false, .bool false, .int .i64 0, .int .i64 0] 43)
    have K9 := Blk.fresh X44 43 #[.int .i64 0, .int .i64 0, .slice none 0 0, .bool false, .bool false, .int .i64 0, .int .i64 0]
    have hxK9K3 := K3.lt
    have hxK9K10 := K10.lt
    have hbK9 : W8.heap.size ≤ X44.heap.size := hxc
    clear hxc
    generalize X44.alloc (.cells #[.int .i64 0, .int .i64 0, .slice none 0 0, .bool false, .bool false, .int .i64 0, .int .i64 0] 43) = X54 at *
    replace K3 := K3.below b9 K3.lt
    replace K10 := K10.below b9 K10.lt
    replace BX := thenB BX b9
    replace BC := thenB BC b9
    clear b9
    refine hK.out _ _ K3 (fun hHeld => ?_)
    clear hK K
    try simp only [getElem_toArray, getElem_cons_zero, getElem_cons_succ, Act.put, setIfInBounds_toArray, set_cons_zero, set_cons_succ]
    refine wpAnyH_ready (rs := [1]) (by kernel_rfl) (by simp) ?_
    refine .cons rfl (fun K hK => ?_) .nil
    go_simp
    refine (rblankpk_any X54).mono ?_
    rintro e X55 ⟨rfl, b9⟩
    replace K3 := K3.below b9 K3.lt
    replace K10 := K10.below b9 K10.lt
    replace K9 := K9.below b9 K9.lt
    replace BX := thenB BX b9
    replace BC := thenB BC b9
    clear b9
    refine hK.out _ _ K3 (fun hHeld => ?_)
    clear hK K
    try simp only [getElem_toArray, getElem_cons_zero, getElem_cons_succ, Act.put, setIfInBounds_toArray, set_cons_zero, set_cons_succ]
    refine wpAnyH_take (i := 2) (v := .agg #[.int .i64 0, .int .i64 1, .int .i64 0, .int .i64 1, .slice none 0 0]) rfl (by kernel_rfl) (by kernel_rfl) (by kernel_rfl) (fun _ _ _ h => h) (.inl ⟨by first | rfl | go_simp, by intro u h; (try dsimp only at h); go_simp⟩) ‹_› ?_
    simp only [getElem_toArray, getElem_cons_zero, getElem_cons_succ, Act.put, setIfInBounds_toArray, set_cons_zero, set_cons_succ]
    refine wpAnyH_ready (rs := [3]) (by kernel_rfl) (by simp) ?_
    refine .cons rfl (fun K hK => ?_) .nil
    go_simp
    have hNHV9 := K10.lt
    refine (ex_t1 X55 V5 l5 (HV5.below BC) hl5.out).mono ?_
    rintro e X56 ⟨V9, l9, A10, c10, rfl, HV9, hl9, oV9, _, b9⟩
    have NHV9 : V9.ownBlock ≠ some (X0.heap.size) := fun e9 => by have h9 := (HV9.2.2 _ e9).1; omega
    clear hNHV9
    replace K3 := K3.below b9 K3.lt
    replace K10 := K10.below b9 K10.lt
    replace K9 := K9.below b9 K9.lt
    replace BX := thenB BX b9
    replace BC := thenB BC b9
    clear b9
    refine hK.out _ _ K3 (fun hHeld => ?_)
    clear hK K
    try simp only [getElem_toArray, getElem_cons_zero, getElem_cons_succ, Act.put, setIfInBounds_toArray, set_cons_zero, set_cons_succ]
    refine wpAnyH_take (i := 4) (v := .tuple #[.agg #[.int .i64 1, .int .i64 1, V9, .bool false, .bool false, .int .i64 1, .int .i64 0], .agg #[.int .i64 0, .slice A10 0 c10], .bool false, .bool true]) rfl (by kernel_rfl) (by kernel_rfl) (by kernel_rfl) (fun _ _ _ h => h) (.inl ⟨by first | rfl | go_simp, by intro u h; (try dsimp only at h); go_simp⟩) ‹_› ?_
    simp only [getElem_toArray, getElem_cons_zero, getElem_cons_succ, Act.put, setIfInBounds_toArray, set_cons_zero, set_cons_succ]
    refine wpAnyH_take (i := 5) (v := .agg #[.int .i64 1, .int .i64 1, V9, .bool false, .bool false, .int .i64 1, .int .i64 0]) rfl (by kernel_rfl) (by kernel_rfl) (by kernel_rfl) (fun _ _ _ h => h) (.inl ⟨by first | rfl | go_simp, by intro u h; (try dsimp only at h); go_simp⟩) ‹_› ?_
    simp only [getElem_toArray, getElem_cons_zero, getElem_cons_succ, Act.put, setIfInBounds_toArray, set_cons_zero, set_cons_succ]
    refine wpAnyH_take (i := 6) (v := .agg #[.int .i64 0, .slice A10 0 c10]) rfl (by kernel_rfl) (by kernel_rfl) (by kernel_rfl) (fun _ _ _ h => h) (.inl ⟨by first | rfl | go_simp, by intro u h; (try dsimp only at h); go_simp⟩) ‹_› ?_
    simp only [getElem_toArray, getElem_cons_zero, getElem_cons_succ, Act.put, setIfInBounds_toArray, set_cons_zero, set_cons_succ]
    refine wpAnyH_take (i := 7) (v := .bool false) rfl (by kernel_rfl) (by kernel_rfl) (by kernel_rfl) (fun _ _ _ h => h) (.inl ⟨by first | rfl | go_simp, by intro u h; (try dsimp only at h); go_simp⟩) ‹_› ?_
    simp only [getElem_toArray, getElem_cons_zero, getElem_cons_succ, Act.put, setIfInBounds_toArray, set_cons_zero, set_cons_succ]
    refine wpAnyH_take (i := 8) (v := .bool true) rfl (by kernel_rfl) (by kernel_rfl) (by kernel_rfl) (fun _ _ _ h => h) (.inl ⟨by first | rfl | go_simp, by intro u h; (try dsimp only at h); go_simp⟩) ‹_› ?_
    simp only [getElem_toArray, getElem_cons_zero, getElem_cons_succ, Act.put, setIfInBounds_toArray, set_cons_zero, set_cons_succ]
    refine wpAnyH_ready (rs := [11]) (by kernel_rfl) (by simp) ?_
    refine .cons rfl (fun K hK => ?_) .nil
    have H9 := o7 oV9 1 1 1 0 false false
    refine Av.step_store_row rfl 43 (.tmp 9) (.tmp 55) rfl (X44.heap.size) #[.int .i64 1, .int .i64 1, V9, .bool false, .bool false, .int .i64 1, .int .i64 0] rfl rfl 43 _ K9 (by kernel_rfl) rfl H9 ?_
    replace BC := below_setRow (g := X44.heap.size) BC (by omega) #[.int .i64 1, .int .i64 1, V9, .bool false, .bool false, .int .i64 1, .int .i64 0]
    replace HV9 := HV9.step (stp_row K9 #[.int .i64 1, .int .i64 1, V9, .bool false, .bool false, .int .i64 1, .int .i64 0]) (by decide) (by decide) (Nat.zero_le _)
    replace K3 : Blk (X56.setRow (X44.heap.size) #[.int .i64 1, .int .i64 1, V9, .bool false, .bool false, .int .i64 1, .int .i64 0]) (g3) 43 #[.int .i64 0, .int .i64 0, V5, .bool true, .bool false, .int .i64 0, .int .i64 0] := Av.bother_row K3 (by omega)
    replace K10 : Blk (X56.setRow (X44.heap.size) #[.int .i64 1, .int .i64 1, V9, .bool false, .bool false, .int .i64 1, .int .i64 0]) (X0.heap.size) 24 #[.int .i64 0, .slice none 0 0] := Av.bother_row K10 (by omega)
    replace K9 : Blk (X56.setRow (X44.heap.size) #[.int .i64 1, .int .i64 1, V9, .bool false, .bool false, .int .i64 1, .int .i64 0]) (X44.heap.size) 43 #[.int .i64 1, .int .i64 1, V9, .bool false, .bool false, .int .i64 1, .int .i64 0] := Av.bset_row K9
    replace BX : Below w.heap.size w (X56.setRow (X44.heap.size) #[.int .i64 1, .int .i64 1, V9, .bool false, .bool false, .int .i64 1, .int .i64 0]) := below_setRow BX (by omega) _
    clear H9
    generalize X56.setRow (X44.heap.size) #[.int .i64 1, .int .i64 1, V9, .bool false, .bool false, .int .i64 1, .int .i64 0] = X57 at *
    refine hK.out _ _ K3 (fun hHeld => ?_)
    clear hK K
    try simp only [getElem_toArray, getElem_cons_zero, getElem_cons_succ, Act.put, setIfInBounds_toArray, set_cons_zero, set_cons_succ]
    refine wpAnyH_ready (rs := [12]) (by kernel_rfl) (by simp) ?_
    refine .cons rfl (fun K hK => ?_) .nil
    have H9 := o2 0 A10 0 c10
    refine Av.step_store_row rfl 24 (.tmp 10) (.tmp 56) rfl (X0.heap.size) #[.int .i64 0, .slice A10 0 c10] rfl rfl 24 _ K10 (by kernel_rfl) rfl H9 ?_
    replace BC := below_setRow (g := X0.heap.size) BC (by omega) #[.int .i64 0, .slice A10 0 c10]
    replace HV9 := HV9.step_ne (stp_row K10 #[.int .i64 0, .slice A10 0 c10]) (by decide) NHV9 (Nat.zero_le _)
    replace K3 : Blk (X57.setRow (X0.heap.size) #[.int .i64 0, .slice A10 0 c10]) (g3) 43 #[.int .i64 0, .int .i64 0, V5, .bool true, .bool false, .int .i64 0, .int .i64 0] := Av.bother_row K3 (by omega)
    replace K10 : Blk (X57.setRow (X0.heap.size) #[.int .i64 0, .slice A10 0 c10]) (X0.heap.size) 24 #[.int .i64 0, .slice A10 0 c10] := Av.bset_row K10
    replace K9 : Blk (X57.setRow (X0.heap.size) #[.int .i64 0, .slice A10 0 c10]) (X44.heap.size) 43 #[.int .i64 1, .int .i64 1, V9, .bool false, .bool false, .int .i64 1, .int .i64 0] := Av.bother_row K9 (by omega)
    replace BX : Below w.heap.size w (X57.setRow (X0.heap.size) #[.int .i64 0, .slice A10 0 c10]) := below_setRow BX (by omega) _
    clear H9
    generalize X57.setRow (X0.heap.size) #[.int .i64 0, .slice A10 0 c10] = X58 at *
    refine hK.out _ _ K3 (fun hHeld => ?_)
    clear hK K
    try simp only [getElem_toArray, getElem_cons_zero, getElem_cons_succ, Act.put, setIfInBounds_toArray, set_cons_zero, set_cons_succ]
    refine wpAnyH_take (i := 13) (v := .bool false) rfl (by kernel_rfl) (by kernel_rfl) (by kernel_rfl) (fun _ _ _ h => h) (.inl ⟨by first | rfl | go_simp, by intro u h; (try dsimp only at h); go_simp⟩) ‹_› ?_
    simp only [getElem_toArray, getElem_cons_zero, getElem_cons_succ, Act.put, setIfInBounds_toArray, set_cons_zero, set_cons_succ]
    refine wpAnyH_take (i := 14) (v := .bool true) rfl (by kernel_rfl) (by kernel_rfl) (by kernel_rfl) (fun _ _ _ h => h) (.inl ⟨by first | rfl | go_simp, by intro u h; (try dsimp only at h); go_simp⟩) ‹_› ?_
    simp only [getElem_toArray, getElem_cons_zero, getElem_cons_succ, Act.put, setIfInBounds_toArray, set_cons_zero, set_cons_succ]
    refine wpAnyH_done (by kernel_rfl) ?_ _
    clear hHeld
    go_wp2_with fail
    go_meet
    exact ⟨X44.heap.size, V9, l9, rfl, rfl, hbK9, oV9, hl9, K9, HV9.less (Nat.zero_le _) (Nat.le_refl _), BC, BX⟩
 clear BC BX
 obtain ⟨g9, V9, l9, rfl, rfl, hg9, oV9, hl9, K9, HV9, BC, BX⟩ := hcut
 have hk8 := K8.lt
 replace K1 := K1.below BC K1.lt
 replace K2 := K2.below BC K2.lt
 replace K3 := K3.below BC K3.lt
 replace K6 := K6.below BC K6.lt
 replace K8 := K8.below BC K8.lt
 replace P1 := P1.below BC
 replace P2 := P2.below BC
 replace HV5 := HV5.below BC
 replace P6 := P6.below BC
 replace P8 := P8.below BC
 have hg9w : g7 + 1 < g9 := by omega
 clear hg9 hk8 BC
 rename World => W9
 clear W8
 go_upto_region 8 with (first | (refine wpList_load_row rfl 43 (.tmp 9) rfl (g9) rfl 43 #[.int .i64 1, .int .i64 1, V9, .bool false, .bool false, .int .i64 1, .int .i64 0] (0, 0) _ K9 Try.underlying43 rfl (by kernel_rfl) ?_) | (go_at_call 30; refine (ex_s3 _ V9 l9 HV9 hl9.out).mono ?_; rintro e W3 ⟨V11, l11, A13, c13, rfl, HV11, hl11, oV11, P13, b9⟩; replace K1 := K1.below b9 K1.lt; replace K2 := K2.below b9 K2.lt; replace K3 := K3.below b9 K3.lt; replace K6 := K6.below b9 K6.lt; replace K8 := K8.below b9 K8.lt; replace K9 := K9.below b9 K9.lt; replace P1 := P1.below b9; replace P2 := P2.below b9; replace HV5 := HV5.below b9; replace P6 := P6.below b9; replace P8 := P8.below b9; replace HV9 := HV9.below b9; replace BX := thenB BX b9; clear b9; clear HV9 hl9 HV11 hl11; have h9 := K9.lt; have H1 : (#[.int .i64 1, .int .i64 1, V11, .bool true, .bool false, .int .i64 1, .int .i64 0] : Array Value).all (·.oneCell') = true := (by rw [← Array.all_toList]; simp only [List.all_cons, List.all_nil, oV11, Bool.and_true, Bool.and_self]; rfl); have H2 : (#[.int .i64 1, .int .i64 1, .int .i64 0, .int .i64 2, .slice A13 1 c13] : Array Value).all (·.oneCell') = true := (by rw [← Array.all_toList]; rfl)) | (refine wpList_store_row rfl 43 (.tmp 9) _ rfl (g9) #[.int .i64 1, .int .i64 1, V11, .bool true, .bool false, .int .i64 1, .int .i64 0] rfl rfl 43 _ (K9.alloc (.cells #[.int .i64 0, .int .i64 0, .int .i64 0, .int .i64 0, .slice none 0 0] 26)) (by kernel_rfl) rfl H1 ?_) | (refine wpList_store_row rfl 26 (.tmp 13) _ rfl (W3.heap.size) #[.int .i64 1, .int .i64 1, .int .i64 0, .int .i64 2, .slice A13 1 c13] rfl rfl 26 _ (Av.bother_row (Blk.fresh W3 26 #[.int .i64 0, .int .i64 0, .int .i64 0, .int .i64 0, .slice none 0 0]) (by omega)) (by kernel_rfl) rfl H2 ?_))
 clear H1 H2
 replace K1 := K1.alloc (.cells #[.int .i64 0, .int .i64 0, .int .i64 0, .int .i64 0, .slice none 0 0] 26)
 replace K2 := K2.alloc (.cells #[.int .i64 0, .int .i64 0, .int .i64 0, .int .i64 0, .slice none 0 0] 26)
 replace K3 := K3.alloc (.cells #[.int .i64 0, .int .i64 0, .int .i64 0, .int .i64 0, .slice none 0 0] 26)
 replace K6 := K6.alloc (.cells #[.int .i64 0, .int .i64 0, .int .i64 0, .int .i64 0, .slice none 0 0] 26)
 replace K8 := K8.alloc (.cells #[.int .i64 0, .int .i64 0, .int .i64 0, .int .i64 0, .slice none 0 0] 26)
 replace K9 := K9.alloc (.cells #[.int .i64 0, .int .i64 0, .int .i64 0, .int .i64 0, .slice none 0 0] 26)
 replace P1 := P1.below ((Below.refl _ _).alloc (Nat.le_refl _) (.cells #[.int .i64 0, .int .i64 0, .int .i64 0, .int .i64 0, .slice none 0 0] 26))
 replace P2 := P2.below ((Below.refl _ _).alloc (Nat.le_refl _) (.cells #[.int .i64 0, .int .i64 0, .int .i64 0, .int .i64 0, .slice none 0 0] 26))
 replace HV5 := HV5.below ((Below.refl _ _).alloc (Nat.le_refl _) (.cells #[.int .i64 0, .int .i64 0, .int .i64 0, .int .i64 0, .slice none 0 0] 26))
 replace P6 := P6.below ((Below.refl _ _).alloc (Nat.le_refl _) (.cells #[.int .i64 0, .int .i64 0, .int .i64 0, .int .i64 0, .slice none 0 0] 26))
 replace P8 := P8.below ((Below.refl _ _).alloc (Nat.le_refl _) (.cells #[.int .i64 0, .int .i64 0, .int .i64 0, .int .i64 0, .slice none 0 0] 26))
 replace P13 := P13.below ((Below.refl _ _).alloc (Nat.le_refl _) (.cells #[.int .i64 0, .int .i64 0, .int .i64 0, .int .i64 0, .slice none 0 0] 26))
 replace BX := BX.alloc BX.size (.cells #[.int .i64 0, .int .i64 0, .int .i64 0, .int .i64 0, .slice none 0 0] 26)
 have K13 := Blk.fresh W3 26 #[.int .i64 0, .int .i64 0, .int .i64 0, .int .i64 0, .slice none 0 0]
 obtain ⟨g13, e13⟩ : ∃ g13, W3.heap.size = g13 := ⟨_, rfl⟩
 have hg13 : g9 < g13 := by omega
 rw [e13] at K13 h9 ⊢
 clear e13 h9
 generalize W3.alloc (.cells #[.int .i64 0, .int .i64 0, .int .i64 0, .int .i64 0, .slice none 0 0] 26) = W10 at *
 have sR := stp_row K9 #[.int .i64 1, .int .i64 1, V11, .bool true, .bool false, .int .i64 1, .int .i64 0]
 replace P1 := P1.step sR (by decide) (by omega)
 replace P2 := P2.step sR (by decide) (by omega)
 replace HV5 := HV5.step sR (by decide) (by decide) (by omega)
 replace P6 := P6.step sR (by decide) (by omega)
 replace P8 := P8.step sR (by decide) (by omega)
 replace P13 := P13.step sR (by decide) (by omega)
 replace K1 := sR.blk_ne K1 (by omega)
 replace K2 := sR.blk_ne K2 (by omega)
 replace K3 := sR.blk_ne K3 (by omega)
 replace K6 := sR.blk_ne K6 (by omega)
 replace K8 := sR.blk_ne K8 (by omega)
 replace K13 := sR.blk_ne K13 (by omega)
 replace BX := below_setRow (g := g9) BX (by omega) #[.int .i64 1, .int .i64 1, V11, .bool true, .bool false, .int .i64 1, .int .i64 0]
 clear sR
 replace K9 := Av.bset_row (cs' := #[.int .i64 1, .int .i64 1, V11, .bool true, .bool false, .int .i64 1, .int .i64 0]) K9
 have sR := stp_row K13 #[.int .i64 1, .int .i64 1, .int .i64 0, .int .i64 2, .slice A13 1 c13]
 replace P1 := P1.step sR (by decide) (by omega)
 replace P2 := P2.step sR (by decide) (by omega)
 replace HV5 := HV5.step sR (by decide) (by decide) (by omega)
 replace P6 := P6.step sR (by decide) (by omega)
 replace P8 := P8.step sR (by decide) (by omega)
 replace P13 := P13.step sR (by decide) (by omega)
 replace K1 := sR.blk_ne K1 (by omega)
 replace K2 := sR.blk_ne K2 (by omega)
 replace K3 := sR.blk_ne K3 (by omega)
 replace K6 := sR.blk_ne K6 (by omega)
 replace K8 := sR.blk_ne K8 (by omega)
 replace K9 := sR.blk_ne K9 (by omega)
 replace BX := below_setRow (g := g13) BX (by omega) #[.int .i64 1, .int .i64 1, .int .i64 0, .int .i64 2, .slice A13 1 c13]
 clear sR
 replace K13 := Av.bset_row (cs' := #[.int .i64 1, .int .i64 1, .int .i64 0, .int .i64 2, .slice A13 1 c13]) K13
 generalize (W10.setRow g9 #[.int .i64 1, .int .i64 1, V11, .bool true, .bool false, .int .i64 1, .int .i64 0]).setRow g13 #[.int .i64 1, .int .i64 1, .int .i64 0, .int .i64 2, .slice A13 1 c13] = W11 at *
 have BC := Below.refl W11.heap.size W11
 try simp only [Act.put]
 go_cut [14, 15, 16] from 64 to 71 (fun s14 s15 s16 wx => ∃ g14 g15 V14 l14 A15 c15, s14 = .pointer (some ⟨g14, 0, none⟩) ∧ s15 = .pointer (some ⟨g15, 0, none⟩) ∧ s16 = .bool true ∧ V14.oneCell' = true ∧ Hid (l14.map Pm.p = []) ∧ Blk wx g14 43 #[.int .i64 0, .int .i64 1, V14, .bool false, .bool false, .int .i64 0, .int .i64 1] ∧ Blk wx g15 24 #[.int .i64 2, .slice A15 1 c15] ∧ QQ wx 0 0 V14 l14 ∧ PP wx 0 ⟨2, A15, c15, [1]⟩ ∧ Below W11.heap.size W11 wx ∧ Below w.heap.size w wx)
 case first =>
  have K6' : Blk W11.drew (g6) 26 #[.int .i64 0, .int .i64 0, .int .i64 1, .int .i64 2, .slice A6 1 c6] := Mem.Blk.drew K6
  refine wp_region_held_drew (S := (fun w' => Blk w' (g6) 26 #[.int .i64 0, .int .i64 0, .int .i64 1, .int .i64 2, .slice A6 1 c6])) (by kernel_rfl) ?_ (fun hHeld => ?_)
  · exact K6'
  replace K6 := K6'
  clear K6'
  replace BX : Below w.heap.size w W11.drew := BX.drew
  replace BC := BC.drew
  generalize W11.drew = X0 at *
  refine wpAnyH_take (i := 1) (v := .agg #[.int .i64 0, .int .i64 0, .int .i64 1, .int .i64 2, .slice A6 1 c6]) rfl (by kernel_rfl) (by kernel_rfl) (by kernel_rfl) (fun _ _ _ h => h) (Av.yields_part (by first | rfl | go_simp) _ _ rfl (g6) 0 rfl #[.int .i64 0, .int .i64 0, .int .i64 1, .int .i64 2, .slice A6 1 c6] _ 26 #[.int .i64 0, .int .i64 0, .int .i64 1, .int .i64 2, .slice A6 1 c6] (fun w9 hSw => hSw) rfl Try.underlying26 rfl (by kernel_rfl)) ‹_› ?_
  simp only [getElem_toArray, getElem_cons_zero, getElem_cons_succ, Act.put, setIfInBounds_toArray, set_cons_zero, set_cons_succ]
  refine wpAnyH_ready (rs := [0, 8, 9]) (by kernel_rfl) (by simp) ?_
  refine AllReadyH.cons rfl (fun K hK => ?_) (AllReadyH.cons rfl (fun K hK => ?_) (AllReadyH.cons rfl (fun K hK => ?_) (AllReadyH.nil)))
  ·
   go_simp
   refine (new_any X0).mono ?_
   rintro e X1 ⟨rfl, b9⟩
   replace K6 := K6.below b9 K6.lt
   replace BX := thenB BX b9
   replace BC := thenB BC b9
   clear b9
   refine hK.out _ _ K6 (fun hHeld => ?_)
   clear hK K
   try simp only [getElem_toArray, getElem_cons_zero, getElem_cons_succ, Act.put, setIfInBounds_toArray, set_cons_zero, set_cons_succ]
   refine wpAnyH_ready (rs := [2, 8, 9]) (by kernel_rfl) (by simp) ?_
   refine AllReadyH.cons rfl (fun K hK => ?_) (AllReadyH.cons rfl (fun K hK => ?_) (AllReadyH.cons rfl (fun K hK => ?_) (AllReadyH.nil)))
   ·
    go_simp
    refine (ex_t2 X1 A6 c6 (P6.below BC).gp).mono ?_
    rintro e X2 ⟨V14, l14, A15, c15, rfl, HV14, hl14, oV14, P15, b9⟩
    replace K6 := K6.below b9 K6.lt
    replace BX := thenB BX b9
    replace BC := thenB BC b9
    clear b9
    refine hK.out _ _ K6 (fun hHeld => ?_)
    clear hK K
    try simp only [getElem_toArray, getElem_cons_zero, getElem_cons_succ, Act.put, setIfInBounds_toArray, set_cons_zero, set_cons_succ]
    refine wpAnyH_take (i := 3) (v := .tuple #[.agg #[.int .i64 0, .int .i64 1, V14, .bool false, .bool false, .int .i64 0, .int .i64 1], .agg #[.int .i64 2, .slice A15 1 c15], .bool true, .bool false]) rfl (by kernel_rfl) (by kernel_rfl) (by kernel_rfl) (fun _ _ _ h => h) (.inl ⟨by first | rfl | go_simp, by intro u h; (try dsimp only at h); go_simp⟩) ‹_› ?_
    simp only [getElem_toArray, getElem_cons_zero, getElem_cons_succ, Act.put, setIfInBounds_toArray, set_cons_zero, set_cons_succ]
    refine wpAnyH_take (i := 4) (v := .agg #[.int .i64 0, .int .i64 1, V14, .bool false, .bool false, .int .i64 0, .int .i64 1]) rfl (by kernel_rfl) (by kernel_rfl) (by kernel_rfl) (fun _ _ _ h => h) (.inl ⟨by first | rfl | go_simp, by intro u h; (try dsimp only at h); go_simp⟩) ‹_› ?_
    simp only [getElem_toArray, getElem_cons_zero, getElem_cons_succ, Act.put, setIfInBounds_toArray, set_cons_zero, set_cons_succ]
    refine wpAnyH_take (i := 5) (v := .agg #[.int .i64 2, .slice A15 1 c15]) rfl (by kernel_rfl) (by kernel_rfl) (by kernel_rfl) (fun _ _ _ h => h) (.inl ⟨by first | rfl | go_simp, by intro u h; (try dsimp only at h); go_simp⟩) ‹_› ?_
    simp only [getElem_toArray, getElem_cons_zero, getElem_cons_succ, Act.put, setIfInBounds_toArray, set_cons_zero, set_cons_succ]
    refine wpAnyH_take (i := 6) (v := .bool true) rfl (by kernel_rfl) (by kernel_rfl) (by kernel_rfl) (fun _ _ _ h => h) (.inl ⟨by first | rfl | go_simp, by intro u h; (try dsimp only at h); go_simp⟩) ‹_› ?_
    simp only [getElem_toArray, getElem_cons_zero, getElem_cons_succ, Act.put, setIfInBounds_toArray, set_cons_zero, set_cons_succ]
    refine wpAnyH_take (i := 7) (v := .bool false) rfl (by kernel_rfl) (by kernel_rfl) (by kernel_rfl) (fun _ _ _ h => h) (.inl ⟨by first | rfl | go_simp, by intro u h; (try dsimp only at h); go_simp⟩) ‹_› ?_
    simp only [getElem_toArray, getElem_cons_zero, getElem_cons_succ, Act.put, setIfInBounds_toArray, set_cons_zero, set_cons_succ]
    refine wpAnyH_ready (rs := [8, 9]) (by kernel_rfl) (by simp) ?_
    refine AllReadyH.cons rfl (fun K hK => ?_) (AllReadyH.cons rfl (fun K hK => ?_) (AllReadyH.nil))
    ·
     go_simp
     have hxc := BC.size
     have b9 := (Below.refl X2.heap.size X2).alloc (Nat.le_refl _) (.cells #[.int .i64 0, .int .i64 0, .slice none 0 0, .bool false, .bool false, .int .i64 0, .int .i64 0] 43)
     have K14 := Blk.fresh X2 43 #[.int .i64 0, .int .i64 0, .slice none 0 0, .bool false, .bool false, .int .i64 0, .int .i64 0]
     have hxK14K6 := K6.lt
     have hbK14 : W11.heap.size ≤ X2.heap.size := hxc
     clear hxc
     generalize X2.alloc (.cells #[.int .i64 0, .int .i64 0, .slice none 0 0, .bool false, .bool false, .int .i64 0, .int .i64 0] 43) = X3 at *
     replace K6 := K6.below b9 K6.lt
     replace BX := thenB BX b9
     replace BC := thenB BC b9
     replace HV14 := HV14.below b9
     replace P15 := P15.below b9
     clear b9
     refine hK.out _ _ K6 (fun hHeld => ?_)
     clear hK K
     try simp only [getElem_toArray, getElem_cons_zero, getElem_cons_succ, Act.put, setIfInBounds_toArray, set_cons_zero, set_cons_succ]
     refine wpAnyH_ready (rs := [9]) (by kernel_rfl) (by simp) ?_
     refine .cons rfl (fun K hK => ?_) .nil
     go_simp
     have NHV14 : V14.ownBlock ≠ some X3.heap.size := fun e9 => by have h9 := (HV14.2.2 _ e9).2; omega
     have hxc := BC.size
     have b9 := (Below.refl X3.heap.size X3).alloc (Nat.le_refl _) (.cells #[.int .i64 0, .slice none 0 0] 24)
     have K15 := Blk.fresh X3 24 #[.int .i64 0, .slice none 0 0]
     have hxK15K6 := K6.lt
     have hxK15K14 := K14.lt
     have hbK15 : W11.heap.size ≤ X3.heap.size := hxc
     clear hxc
     generalize X3.alloc (.cells #[.int .i64 0, .slice none 0 0] 24) = X4 at *
     replace K6 := K6.below b9 K6.lt
     replace K14 := K14.below b9 K14.lt
     replace BX := thenB BX b9
     replace BC := thenB BC b9
     replace HV14 := HV14.below b9
     replace P15 := P15.below b9
     clear b9
     refine hK.out _ _ K6 (fun hHeld => ?_)
     clear hK K
     try simp only [getElem_toArray, getElem_cons_zero, getElem_cons_succ, Act.put, setIfInBounds_toArray, set_cons_zero, set_cons_succ]
     refine wpAnyH_ready (rs := [10]) (by kernel_rfl) (by simp) ?_
     refine .cons rfl (fun K hK => ?_) .nil
     have H9 := o7 oV14 0 1 0 1 false false
     refine Av.step_store_row rfl 43 (.tmp 14) (.tmp 68) rfl (X2.heap.size) #[.int .i64 0, .int .i64 1, V14, .bool false, .bool false, .int .i64 0, .int .i64 1] rfl rfl 43 _ K14 (by kernel_rfl) rfl H9 ?_
     replace BC := below_setRow (g := X2.heap.size) BC (by omega) #[.int .i64 0, .int .i64 1, V14, .bool false, .bool false, .int .i64 0, .int .i64 1]
     replace HV14 := HV14.step (stp_row K14 #[.int .i64 0, .int .i64 1, V14, .bool false, .bool false, .int .i64 0, .int .i64 1]) (by decide) (by decide) (Nat.zero_le _)
     replace P15 := P15.step (stp_row K14 #[.int .i64 0, .int .i64 1, V14, .bool false, .bool false, .int .i64 0, .int .i64 1]) (by decide) (Nat.zero_le _)
     replace K6 : Blk (X4.setRow (X2.heap.size) #[.int .i64 0, .int .i64 1, V14, .bool false, .bool false, .int .i64 0, .int .i64 1]) (g6) 26 #[.int .i64 0, .int .i64 0, .int .i64 1, .int .i64 2, .slice A6 1 c6] := Av.bother_row K6 (by omega)
     replace K14 : Blk (X4.setRow (X2.heap.size) #[.int .i64 0, .int .i64 1, V14, .bool false, .bool false, .int .i64 0, .int .i64 1]) (X2.heap.size) 43 #[.int .i64 0, .int .i64 1, V14, .bool false, .bool false, .int .i64 0, .int .i64 1] := Av.bset_row K14
     replace K15 : Blk (X4.setRow (X2.heap.size) #[.int .i64 0, .int .i64 1, V14, .bool false, .bool false, .int .i64 0, .int .i64 1]) (X3.heap.size) 24 #[.int .i64 0, .slice none 0 0] := Av.bother_row K15 (by omega)
     replace BX : Below w.heap.size w (X4.setRow (X2.heap.size) #[.int .i64 0, .int .i64 1, V14, .bool false, .bool false, .int .i64 0, .int .i64 1]) := below_setRow BX (by omega) _
     clear H9
     generalize X4.setRow (X2.heap.size) #[.int .i64 0, .int .i64 1, V14, .bool false, .bool false, .int .i64 0, .int .i64 1] = X5 at *
     refine hK.out _ _ K6 (fun hHeld => ?_)
     clear hK K
     try simp only [getElem_toArray, getElem_cons_zero, getElem_cons_succ, Act.put, setIfInBounds_toArray, set_cons_zero, set_cons_succ]
     refine wpAnyH_ready (rs := [11]) (by kernel_rfl) (by simp) ?_
     refine .cons rfl (fun K hK => ?_) .nil
     have H9 := o2 2 A15 1 c15
     refine Av.step_store_row rfl 24 (.tmp 15) (.tmp 69) rfl (X3.heap.size) #[.int .i64 2, .slice A15 1 c15] rfl rfl 24 _ K15 (by kernel_rfl) rfl H9 ?_
     replace BC := below_setRow (g := X3.heap.size) BC (by omega) #[.int .i64 2, .slice A15 1 c15]
     replace HV14 := HV14.step_ne (stp_row K15 #[.int .i64 2, .slice A15 1 c15]) (by decide) NHV14 (Nat.zero_le _)
     replace P15 := P15.step (stp_row K15 #[.int .i64 2, .slice A15 1 c15]) (by decide) (Nat.zero_le _)
     replace K6 : Blk (X5.setRow (X3.heap.size) #[.int .i64 2, .slice A15 1 c15]) (g6) 26 #[.int .i64 0, .int .i64 0, .int .i64 1, .int .i64 2, .slice A6 1 c6] := Av.bother_row K6 (by omega)
     replace K14 : Blk (X5.setRow (X3.heap.size) #[.int .i64 2, .slice A15 1 c15]) (X2.heap.size) 43 #[.int .i64 0, .int .i64 1, V14, .bool false, .bool false, .int .i64 0, .int .i64 1] := Av.bother_row K14 (by omega)
     replace K15 : Blk (X5.setRow (X3.heap.size) #[.int .i64 2, .slice A15 1 c15]) (X3.heap.size) 24 #[.int .i64 2, .slice A15 1 c15] := Av.bset_row K15
     replace BX : Below w.heap.size w (X5.setRow (X3.heap.size) #[.int .i64 2, .slice A15 1 c15]) := below_setRow BX (by omega) _
     clear H9
     generalize X5.setRow (X3.heap.size) #[.int .i64 2, .slice A15 1 c15] = X6 at *
     refine hK.out _ _ K6 (fun hHeld => ?_)
     clear hK K
     try simp only [getElem_toArray, getElem_cons_zero, getElem_cons_succ, Act.put, setIfInBounds_toArray, set_cons_zero, set_cons_succ]
     refine wpAnyH_take (i := 12) (v := .bool true) rfl (by kernel_rfl) (by kernel_rfl) (by kernel_rfl) (fun _ _ _ h => h) (.inl ⟨by first | rfl | go_simp, by intro u h; (try dsimp only at h); go_simp⟩) ‹_› ?_
     simp only [getElem_toArray, getElem_cons_zero, getElem_cons_succ, Act.put, setIfInBounds_toArray, set_cons_zero, set_cons_succ]
     refine wpAnyH_take (i := 13) (v := .bool false) rfl (by kernel_rfl) (by kernel_rfl) (by kernel_rfl) (fun _ _ _ h => h) (.inl ⟨by first | rfl | go_simp, by intro u h; (try dsimp only at h); go_simp⟩) ‹_› ?_
     simp only [getElem_toArray, getElem_cons_zero, getElem_cons_succ, Act.put, setIfInBounds_toArray, set_cons_zero, set_cons_succ]
     refine wpAnyH_done (by kernel_rfl) ?_ _
     clear hHeld
     go_wp2_with fail
     go_meet
     exact ⟨X2.heap.size, X3.heap.size, V14, l14, A15, c15, rfl, rfl, rfl, oV14, hl14, K14, K15, HV14.less (Nat.zero_le _) (Nat.le_refl _), P15, BC, BX⟩
    ·
     go_simp
     have NHV14 : V14.ownBlock ≠ some X2.heap.size := fun e9 => by have h9 := (HV14.2.2 _ e9).2; omega
     have hxc := BC.size
     have b9 := (Below.refl X2.heap.size X2).alloc (Nat.le_refl _) (.cells #[.int .i64 0, .slice none 0 0] 24)
     have K15 := Blk.fresh X2 24 #[.int .i64 0, .slice none 0 0]
     have hxK15K6 := K6.lt
     have hbK15 : W11.heap.size ≤ X2.heap.size := hxc
     clear hxc
     generalize X2.alloc (.cells #[.int .i64 0, .slice none 0 0] 24) = X7 at *
     replace K6 := K6.below b9 K6.lt
     replace BX := thenB BX b9
     replace BC := thenB BC b9
     replace HV14 := HV14.below b9
     replace P15 := P15.below b9
     clear b9
     refine hK.out _ _ K6 (fun hHeld => ?_)
     clear hK K
     try simp only [getElem_toArray, getElem_cons_zero, getElem_cons_succ, Act.put, setIfInBounds_toArray, set_cons_zero, set_cons_succ]
     refine wpAnyH_ready (rs := [8]) (by kernel_rfl) (by simp) ?_
     refine .cons rfl (fun K hK => ?_) .nil
     go_simp
     have hxc := BC.size
     have b9 := (Below.refl X7.heap.size X7).alloc (Nat.le_refl _) (.cells #[.int .i64 0, .int .i64 0, .slice none 0 0, .bool false, .bool false, .int .i64 0, .int .i64 0] 43)
     have K14 := Blk.fresh X7 43 #[.int .i64 0, .int .i64 0, .slice none 0 0, .bool false, .bool false, .int .i64 0, .int .i64 0]
     have hxK14K6 := K6.lt
     have hxK14K15 := K15.lt
     have hbK14 : W11.heap.size ≤ X7.heap.size := hxc
     clear hxc
     generalize X7.alloc (.cells #[.int .i64 0, .int .i64 0, .slice none 0 0, .bool false, .bool false, .int .i64 0, .int .i64 0] 43) = X8 at *
     replace K6 := K6.below b9 K6.lt
     replace K15 := K15.below b9 K15.lt
     replace BX := thenB BX b9
     replace BC := thenB BC b9
     replace HV14 := HV14.below b9
     replace P15 := P15.below b9
     clear b9
     refine hK.out _ _ K6 (fun hHeld => ?_)
     clear hK K
     try simp only [getElem_toArray, getElem_cons_zero, getElem_cons_succ, Act.put, setIfInBounds_toArray, set_cons_zero, set_cons_succ]
     refine wpAnyH_ready (rs := [10]) (by kernel_rfl) (by simp) ?_
     refine .cons rfl (fun K hK => ?_) .nil
     have H9 := o7 oV14 0 1 0 1 false false
     refine Av.step_store_row rfl 43 (.tmp 14) (.tmp 68) rfl (X7.heap.size) #[.int .i64 0, .int .i64 1, V14, .bool false, .bool false, .int .i64 0, .int .i64 1] rfl rfl 43 _ K14 (by kernel_rfl) rfl H9 ?_
     replace BC := below_setRow (g := X7.heap.size) BC (by omega) #[.int .i64 0, .int .i64 1, V14, .bool false, .bool false, .int .i64 0, .int .i64 1]
     replace HV14 := HV14.step (stp_row K14 #[.int .i64 0, .int .i64 1, V14, .bool false, .bool false, .int .i64 0, .int .i64 1]) (by decide) (by decide) (Nat.zero_le _)
     replace P15 := P15.step (stp_row K14 #[.int .i64 0, .int .i64 1, V14, .bool false, .bool false, .int .i64 0, .int .i64 1]) (by decide) (Nat.zero_le _)
     replace K6 : Blk (X8.setRow (X7.heap.size) #[.int .i64 0, .int .i64 1, V14, .bool false, .bool false, .int .i64 0, .int .i64 1]) (g6) 26 #[.int .i64 0, .int .i64 0, .int .i64 1, .int .i64 2, .slice A6 1 c6] := Av.bother_row K6 (by omega)
     replace K15 : Blk (X8.setRow (X7.heap.size) #[.int .i64 0, .int .i64 1, V14, .bool false, .bool false, .int .i64 0, .int .i64 1]) (X2.heap.size) 24 #[.int .i64 0, .slice none 0 0] := Av.bother_row K15 (by omega)
     replace K14 : Blk (X8.setRow (X7.heap.size) #[.int .i64 0, .int .i64 1, V14, .bool false, .bool false, .int .i64 0, .int .i64 1]) (X7.heap.size) 43 #[.int .i64 0, .int .i64 1, V14, .bool false, .bool false, .int .i64 0, .int .i64 1] := Av.bset_row K14
     replace BX : Below w.heap.size w (X8.setRow (X7.heap.size) #[.int .i64 0, .int .i64 1, V14, .bool false, .bool false, .int .i64 0, .int .i64 1]) := below_setRow BX (by omega) _
     clear H9
     generalize X8.setRow (X7.heap.size) #[.int .i64 0, .int .i64 1, V14, .bool false, .bool false, .int .i64 0, .int .i64 1] = X9 at *
     refine hK.out _ _ K6 (fun hHeld => ?_)
     clear hK K
     try simp only [getElem_toArray, getElem_cons_zero, getElem_cons_succ, Act.put, setIfInBounds_toArray, set_cons_zero, set_cons_succ]
     refine wpAnyH_ready (rs := [11]) (by kernel_rfl) (by simp) ?_
     refine .cons rfl (fun K hK => ?_) .nil
     have H9 := o2 2 A15 1 c15
     refine Av.step_store_row rfl 24 (.tmp 15) (.tmp 69) rfl (X2.heap.size) #[.int .i64 2, .slice A15 1 c15] rfl rfl 24 _ K15 (by kernel_rfl) rfl H9 ?_
     replace BC := below_setRow (g := X2.heap.size) BC (by omega) #[.int .i64 2, .slice A15 1 c15]
     replace HV14 := HV14.step_ne (stp_row K15 #[.int .i64 2, .slice A15 1 c15]) (by decide) NHV14 (Nat.zero_le _)
     replace P15 := P15.step (stp_row K15 #[.int .i64 2, .slice A15 1 c15]) (by decide) (Nat.zero_le _)
     replace K6 : Blk (X9.setRow (X2.heap.size) #[.int .i64 2, .slice A15 1 c15]) (g6) 26 #[.int .i64 0, .int .i64 0, .int .i64 1, .int .i64 2, .slice A6 1 c6] := Av.bother_row K6 (by omega)
     replace K15 : Blk (X9.setRow (X2.heap.size) #[.int .i64 2, .slice A15 1 c15]) (X2.heap.size) 24 #[.int .i64 2, .slice A15 1 c15] := Av.bset_row K15
     replace K14 : Blk (X9.setRow (X2.heap.size) #[.int .i64 2, .slice A15 1 c15]) (X7.heap.size) 43 #[.int .i64 0, .int .i64 1, V14, .bool false, .bool false, .int .i64 0, .int .i64 1] := Av.bother_row K14 (by omega)
     replace BX : Below w.heap.size w (X9.setRow (X2.heap.size) #[.int .i64 2, .slice A15 1 c15]) := below_setRow BX (by omega) _
     clear H9
     generalize X9.setRow (X2.heap.size) #[.int .i64 2, .slice A15 1 c15] = X10 at *
     refine hK.out _ _ K6 (fun hHeld => ?_)
     clear hK K
     try simp only [getElem_toArray, getElem_cons_zero, getElem_cons_succ, Act.put, setIfInBounds_toArray, set_cons_zero, set_cons_succ]
     refine wpAnyH_take (i := 12) (v := .bool true) rfl (by kernel_rfl) (by kernel_rfl) (by kernel_rfl) (fun _ _ _ h => h) (.inl ⟨by first | rfl | go_simp, by intro u h; (try dsimp only at h); go_simp⟩) ‹_› ?_
     simp only [getElem_toArray, getElem_cons_zero, getElem_cons_succ, Act.put, setIfInBounds_toArray, set_cons_zero, set_cons_succ]
     refine wpAnyH_take (i := 13) (v := .bool false) rfl (by kernel_rfl) (by kernel_rfl) (by kernel_rfl) (fun _ _ _ h => h) (.inl ⟨by first | rfl | go_simp, by intro u h; (try dsimp only at h); go_simp⟩) ‹_› ?_
     simp only [getElem_toArray, getElem_cons_zero, getElem_cons_succ, Act.put, setIfInBounds_toArray, set_cons_zero, set_cons_succ]
     refine wpAnyH_done (by kernel_rfl) ?_ _
     clear hHeld
     go_wp2_with fail
     go_meet
     exact ⟨X7.heap.size, X2.heap.size, V14, l14, A15, c15, rfl, rfl, rfl, oV14, hl14, K14, K15, HV14.less (Nat.zero_le _) (Nat.le_refl _), P15, BC, BX⟩
   ·
    go_simp
    have hxc := BC.size
    have b9 := (Below.refl X1.heap.size X1).alloc (Nat.le_refl _) (.cells #[.int .i64 0, .int .i64 0, .slice none 0 0, .bool false, .bool false, .int .i64 0, .int .i64 0] 43)
    have K14 := Blk.fresh X1 43 #[.int .i64 0, .int .i64 0, .slice none 0 0, .bool false, .bool false, .int .i64 0, .int .i64 0]
    have hxK14K6 := K6.lt
    have hbK14 : W11.heap.size ≤ X1.heap.size := hxc
    clear hxc
    generalize X1.alloc (.cells #[.int .i64 0, .int .i64 0, .slice none 0 0, .bool false, .bool false, .int .i64 0, .int .i64 0] 43) = X11 at *
    replace K6 := K6.below b9 K6.lt
    replace BX := thenB BX b9
    replace BC := thenB BC b9
    clear b9
    refine hK.out _ _ K6 (fun hHeld => ?_)
    clear hK K
    try simp only [getElem_toArray, getElem_cons_zero, getElem_cons_succ, Act.put, setIfInBounds_toArray, set_cons_zero, set_cons_succ]
    refine wpAnyH_ready (rs := [2, 9]) (by kernel_rfl) (by simp) ?_
    refine AllReadyH.cons rfl (fun K hK => ?_) (AllReadyH.cons rfl (fun K hK => ?_) (AllReadyH.nil))
    ·
     go_simp
     refine (ex_t2 X11 A6 c6 (P6.below BC).gp).mono ?_
     rintro e X12 ⟨V14, l14, A15, c15, rfl, HV14, hl14, oV14, P15, b9⟩
     replace K6 := K6.below b9 K6.lt
     replace K14 := K14.below b9 K14.lt
     replace BX := thenB BX b9
     replace BC := thenB BC b9
     clear b9
     refine hK.out _ _ K6 (fun hHeld => ?_)
     clear hK K
     try simp only [getElem_toArray, getElem_cons_zero, getElem_cons_succ, Act.put, setIfInBounds_toArray, set_cons_zero, set_cons_succ]
     refine wpAnyH_take (i := 3) (v := .tuple #[.agg #[.int .i64 0, .int .i64 1, V14, .bool false, .bool false, .int .i64 0, .int .i64 1], .agg #[.int .i64 2, .slice A15 1 c15], .bool true, .bool false]) rfl (by kernel_rfl) (by kernel_rfl) (by kernel_rfl) (fun _ _ _ h => h) (.inl ⟨by first | rfl | go_simp, by intro u h; (try dsimp only at h); go_simp⟩) ‹_› ?_
     simp only [getElem_toArray, getElem_cons_zero, getElem_cons_succ, Act.put, setIfInBounds_toArray, set_cons_zero, set_cons_succ]
     refine wpAnyH_take (i := 4) (v := .agg #[.int .i64 0, .int .i64 1, V14, .bool false, .bool false, .int .i64 0, .int .i64 1]) rfl (by kernel_rfl) (by kernel_rfl) (by kernel_rfl) (fun _ _ _ h => h) (.inl ⟨by first | rfl | go_simp, by intro u h; (try dsimp only at h); go_simp⟩) ‹_› ?_
     simp only [getElem_toArray, getElem_cons_zero, getElem_cons_succ, Act.put, setIfInBounds_toArray, set_cons_zero, set_cons_succ]
     refine wpAnyH_take (i := 5) (v := .agg #[.int .i64 2, .slice A15 1 c15]) rfl (by kernel_rfl) (by kernel_rfl) (by kernel_rfl) (fun _ _ _ h => h) (.inl ⟨by first | rfl | go_simp, by intro u h; (try dsimp only at h); go_simp⟩) ‹_› ?_
     simp only [getElem_toArray, getElem_cons_zero, getElem_cons_succ, Act.put, setIfInBounds_toArray, set_cons_zero, set_cons_succ]
     refine wpAnyH_take (i := 6) (v := .bool true) rfl (by kernel_rfl) (by kernel_rfl) (by kernel_rfl) (fun _ _ _ h => h) (.inl ⟨by first | rfl | go_simp, by intro u h; (try dsimp only at h); go_simp⟩) ‹_› ?_
     simp only [getElem_toArray, getElem_cons_zero, getElem_cons_succ, Act.put, setIfInBounds_toArray, set_cons_zero, set_cons_succ]
     refine wpAnyH_take (i := 7) (v := .bool false) rfl (by kernel_rfl) (by kernel_rfl) (by kernel_rfl) (fun _ _ _ h => h) (.inl ⟨by first | rfl | go_simp, by intro u h; (try dsimp only at h); go_simp⟩) ‹_› ?_
     simp only [getElem_toArray, getElem_cons_zero, getElem_cons_succ, Act.put, setIfInBounds_toArray, set_cons_zero, set_cons_succ]
     refine wpAnyH_ready (rs := [9]) (by kernel_rfl) (by simp) ?_
     refine .cons rfl (fun K hK => ?_) .nil
     go_simp
     have NHV14 : V14.ownBlock ≠ some X12.heap.size := fun e9 => by have h9 := (HV14.2.2 _ e9).2; omega
     have hxc := BC.size
     have b9 := (Below.refl X12.heap.size X12).alloc (Nat.le_refl _) (.cells #[.int .i64 0, .slice none 0 0] 24)
     have K15 := Blk.fresh X12 24 #[.int .i64 0, .slice none 0 0]
     have hxK15K6 := K6.lt
     have hxK15K14 := K14.lt
     have hbK15 : W11.heap.size ≤ X12.heap.size := hxc
     clear hxc
     generalize X12.alloc (.cells #[.int .i64 0, .slice none 0 0] 24) = X13 at *
     replace K6 := K6.below b9 K6.lt
     replace K14 := K14.below b9 K14.lt
     replace BX := thenB BX b9
     replace BC := thenB BC b9
     replace HV14 := HV14.below b9
     replace P15 := P15.below b9
     clear b9
     refine hK.out _ _ K6 (fun hHeld => ?_)
     clear hK K
     try simp only [getElem_toArray, getElem_cons_zero, getElem_cons_succ, Act.put, setIfInBounds_toArray, set_cons_zero, set_cons_succ]
     refine wpAnyH_ready (rs := [10]) (by kernel_rfl) (by simp) ?_
     refine .cons rfl (fun K hK => ?_) .nil
     have H9 := o7 oV14 0 1 0 1 false false
     refine Av.step_store_row rfl 43 (.tmp 14) (.tmp 68) rfl (X1.heap.size) #[.int .i64 0, .int .i64 1, V14, .bool false, .bool false, .int .i64 0, .int .i64 1] rfl rfl 43 _ K14 (by kernel_rfl) rfl H9 ?_
     replace BC := below_setRow (g := X1.heap.size) BC (by omega) #[.int .i64 0, .int .i64 1, V14, .bool false, .bool false, .int .i64 0, .int .i64 1]
     replace HV14 := HV14.step (stp_row K14 #[.int .i64 0, .int .i64 1, V14, .bool false, .bool false, .int .i64 0, .int .i64 1]) (by decide) (by decide) (Nat.zero_le _)
     replace P15 := P15.step (stp_row K14 #[.int .i64 0, .int .i64 1, V14, .bool false, .bool false, .int .i64 0, .int .i64 1]) (by decide) (Nat.zero_le _)
     replace K6 : Blk (X13.setRow (X1.heap.size) #[.int .i64 0, .int .i64 1, V14, .bool false, .bool false, .int .i64 0, .int .i64 1]) (g6) 26 #[.int .i64 0, .int .i64 0, .int .i64 1, .int .i64 2, .slice A6 1 c6] := Av.bother_row K6 (by omega)
     replace K14 : Blk (X13.setRow (X1.heap.size) #[.int .i64 0, .int .i64 1, V14, .bool false, .bool false, .int .i64 0, .int .i64 1]) (X1.heap.size) 43 #[.int .i64 0, .int .i64 1, V14, .bool false, .bool false, .int .i64 0, .int .i64 1] := Av.bset_row K14
     replace K15 : Blk (X13.setRow (X1.heap.size) #[.int .i64 0, .int .i64 1, V14, .bool false, .bool false, .int .i64 0, .int .i64 1]) (X12.heap.size) 24 #[.int .i64 0, .slice none 0 0] := Av.bother_row K15 (by omega)
     replace BX : Below w.heap.size w (X13.setRow (X1.heap.size) #[.int .i64 0, .int .i64 1, V14, .bool false, .bool false, .int .i64 0, .int .i64 1]) := below_setRow BX (by omega) _
     clear H9
     generalize X13.setRow (X1.heap.size) #[.int .i64 0, .int .i64 1, V14, .bool false, .bool false, .int .i64 0, .int .i64 1] = X14 at *
     refine hK.out _ _ K6 (fun hHeld => ?_)
     clear hK K
     try simp only [getElem_toArray, getElem_cons_zero, getElem_cons_succ, Act.put, setIfInBounds_toArray, set_cons_zero, set_cons_succ]
     refine wpAnyH_ready (rs := [11]) (by kernel_rfl) (by simp) ?_
     refine .cons rfl (fun K hK => ?_) .nil
     have H9 := o2 2 A15 1 c15
     refine Av.step_store_row rfl 24 (.tmp 15) (.tmp 69) rfl (X12.heap.size) #[.int .i64 2, .slice A15 1 c15] rfl rfl 24 _ K15 (by kernel_rfl) rfl H9 ?_
     replace BC := below_setRow (g := X12.heap.size) BC (by omega) #[.int .i64 2, .slice A15 1 c15]
     replace HV14 := HV14.step_ne (stp_row K15 #[.int .i64 2, .slice A15 1 c15]) (by decide) NHV14 (Nat.zero_le _)
     replace P15 := P15.step (stp_row K15 #[.int .i64 2, .slice A15 1 c15]) (by decide) (Nat.zero_le _)
     replace K6 : Blk (X14.setRow (X12.heap.size) #[.int .i64 2, .slice A15 1 c15]) (g6) 26 #[.int .i64 0, .int .i64 0, .int .i64 1, .int .i64 2, .slice A6 1 c6] := Av.bother_row K6 (by omega)
     replace K14 : Blk (X14.setRow (X12.heap.size) #[.int .i64 2, .slice A15 1 c15]) (X1.heap.size) 43 #[.int .i64 0, .int .i64 1, V14, .bool false, .bool false, .int .i64 0, .int .i64 1] := Av.bother_row K14 (by omega)
     replace K15 : Blk (X14.setRow (X12.heap.size) #[.int .i64 2, .slice A15 1 c15]) (X12.heap.size) 24 #[.int .i64 2, .slice A15 1 c15] := Av.bset_row K15
     replace BX : Below w.heap.size w (X14.setRow (X12.heap.size) #[.int .i64 2, .slice A15 1 c15]) := below_setRow BX (by omega) _
     clear H9
     generalize X14.setRow (X12.heap.size) #[.int .i64 2, .slice A15 1 c15] = X15 at *
     refine hK.out _ _ K6 (fun hHeld => ?_)
     clear hK K
     try simp only [getElem_toArray, getElem_cons_zero, getElem_cons_succ, Act.put, setIfInBounds_toArray, set_cons_zero, set_cons_succ]
     refine wpAnyH_take (i := 12) (v := .bool true) rfl (by kernel_rfl) (by kernel_rfl) (by kernel_rfl) (fun _ _ _ h => h) (.inl ⟨by first | rfl | go_simp, by intro u h; (try dsimp only at h); go_simp⟩) ‹_› ?_
     simp only [getElem_toArray, getElem_cons_zero, getElem_cons_succ, Act.put, setIfInBounds_toArray, set_cons_zero, set_cons_succ]
     refine wpAnyH_take (i := 13) (v := .bool false) rfl (by kernel_rfl) (by kernel_rfl) (by kernel_rfl) (fun _ _ _ h => h) (.inl ⟨by first | rfl | go_simp, by intro u h; (try dsimp only at h); go_simp⟩) ‹_› ?_
     simp only [getElem_toArray, getElem_cons_zero, getElem_cons_succ, Act.put, setIfInBounds_toArray, set_cons_zero, set_cons_succ]
     refine wpAnyH_done (by kernel_rfl) ?_ _
     clear hHeld
     go_wp2_with fail
     go_meet
     exact ⟨X1.heap.size, X12.heap.size, V14, l14, A15, c15, rfl, rfl, rfl, oV14, hl14, K14, K15, HV14.less (Nat.zero_le _) (Nat.le_refl _), P15, BC, BX⟩
    ·
     go_simp
     have hxc := BC.size
     have b9 := (Below.refl X11.heap.size X11).alloc (Nat.le_refl _) (.cells #[.int .i64 0, .slice none 0 0] 24)
     have K15 := Blk.fresh X11 24 #[.int .i64 0, .slice none 0 0]
     have hxK15K6 := K6.lt
     have hxK15K14 := K14.lt
     have hbK15 : W11.heap.size ≤ X11.heap.size := hxc
     clear hxc
     generalize X11.alloc (.cells #[.int .i64 0, .slice none 0 0] 24) = X16 at *
     replace K6 := K6.below b9 K6.lt
     replace K14 := K14.below b9 K14.lt
     replace BX := thenB BX b9
     replace BC := thenB BC b9
     clear b9
     refine hK.out _ _ K6 (fun hHeld => ?_)
     clear hK K
     try simp only [getElem_toArray, getElem_cons_zero, getElem_cons_succ, Act.put, setIfInBounds_toArray, set_cons_zero, set_cons_succ]
     refine wpAnyH_ready (rs := [2]) (by kernel_rfl) (by simp) ?_
     refine .cons rfl (fun K hK => ?_) .nil
     go_simp
     have hNHV14 := K15.lt
     refine (ex_t2 X16 A6 c6 (P6.below BC).gp).mono ?_
     rintro e X17 ⟨V14, l14, A15, c15, rfl, HV14, hl14, oV14, P15, b9⟩
     have NHV14 : V14.ownBlock ≠ some (X11.heap.size) := fun e9 => by have h9 := (HV14.2.2 _ e9).1; omega
     clear hNHV14
     replace K6 := K6.below b9 K6.lt
     replace K14 := K14.below b9 K14.lt
     replace K15 := K15.below b9 K15.lt
     replace BX := thenB BX b9
     replace BC := thenB BC b9
     clear b9
     refine hK.out _ _ K6 (fun hHeld => ?_)
     clear hK K
     try simp only [getElem_toArray, getElem_cons_zero, getElem_cons_succ, Act.put, setIfInBounds_toArray, set_cons_zero, set_cons_succ]
     refine wpAnyH_take (i := 3) (v := .tuple #[.agg #[.int .i64 0, .int .i64 1, V14, .bool false, .bool false, .int .i64 0, .int .i64 1], .agg #[.int .i64 2, .slice A15 1 c15], .bool true, .bool false]) rfl (by kernel_rfl) (by kernel_rfl) (by kernel_rfl) (fun _ _ _ h => h) (.inl ⟨by first | rfl | go_simp, by intro u h; (try dsimp only at h); go_simp⟩) ‹_› ?_
     simp only [getElem_toArray, getElem_cons_zero, getElem_cons_succ, Act.put, setIfInBounds_toArray, set_cons_zero, set_cons_succ]
     refine wpAnyH_take (i := 4) (v := .agg #[.int .i64 0, .int .i64 1, V14, .bool false, .bool false, .int .i64 0, .int .i64 1]) rfl (by kernel_rfl) (by kernel_rfl) (by kernel_rfl) (fun _ _ _ h => h) (.inl ⟨by first | rfl | go_simp, by intro u h; (try dsimp only at h); go_simp⟩) ‹_› ?_
     simp only [getElem_toArray, getElem_cons_zero, getElem_cons_succ, Act.put, setIfInBounds_toArray, set_cons_zero, set_cons_succ]
     refine wpAnyH_take (i := 5) (v := .agg #[.int .i64 2, .slice A15 1 c15]) rfl (by kernel_rfl) (by kernel_rfl) (by kernel_rfl) (fun _ _ _ h => h) (.inl ⟨by first | rfl | go_simp, by intro u h; (try dsimp only at h); go_simp⟩) ‹_› ?_
     simp only [getElem_toArray, getElem_cons_zero, getElem_cons_succ, Act.put, setIfInBounds_toArray, set_cons_zero, set_cons_succ]
     refine wpAnyH_take (i := 6) (v := .bool true) rfl (by kernel_rfl) (by kernel_rfl) (by kernel_rfl) (fun _ _ _ h => h) (.inl ⟨by first | rfl | go_simp, by intro u h; (try dsimp only at h); go_simp⟩) ‹_› ?_
     simp only [getElem_toArray, getElem_cons_zero, getElem_cons_succ, Act.put, setIfInBounds_toArray, set_cons_zero, set_cons_succ]
     refine wpAnyH_take (i := 7) (v := .bool false) rfl (by kernel_rfl) (by kernel_rfl) (by kernel_rfl) (fun _ _ _ h => h) (.inl ⟨by first | rfl | go_simp, by intro u h; (try dsimp only at h); go_simp⟩) ‹_› ?_
     simp only [getElem_toArray, getElem_cons_zero, getElem_cons_succ, Act.put, setIfInBounds_toArray, set_cons_zero, set_cons_succ]
     refine wpAnyH_ready (rs := [10]) (by kernel_rfl) (by simp) ?_
     refine .cons rfl (fun K hK => ?_) .nil
     have H9 := o7 oV14 0 1 0 1 false false
     refine Av.step_store_row rfl 43 (.tmp 14) (.tmp 68) rfl (X1.heap.size) #[.int .i64 0, .int .i64 1, V14, .bool false, .bool false, .int .i64 0, .int .i64 1] rfl rfl 43 _ K14 (by kernel_rfl) rfl H9 ?_
     replace BC := below_setRow (g := X1.heap.size) BC (by omega) #[.int .i64 0, .int .i64 1, V14, .bool false, .bool false, .int .i64 0, .int .i64 1]
     replace HV14 := HV14.step (stp_row K14 #[.int .i64 0, .int .i64 1, V14, .bool false, .bool false, .int .i64 0, .int .i64 1]) (by decide) (by decide) (Nat.zero_le _)
     replace P15 := P15.step (stp_row K14 #[.int .i64 0, .int .i64 1, V14, .bool false, .bool false, .int .i64 0, .int .i64 1]) (by decide) (Nat.zero_le _)
     replace K6 : Blk (X17.setRow (X1.heap.size) #[.int .i64 0, .int .i64 1, V14, .bool false, .bool false, .int .i64 0, .int .i64 1]) (g6) 26 #[.int .i64 0, .int .i64 0, .int .i64 1, .int .i64 2, .slice A6 1 c6] := Av.bother_row K6 (by omega)
     replace K14 : Blk (X17.setRow (X1.heap.size) #[.int .i64 0, .int .i64 1, V14, .bool false, .bool false, .int .i64 0, .int .i64 1]) (X1.heap.size) 43 #[.int .i64 0, .int .i64 1, V14, .bool false, .bool false, .int .i64 0, .int .i64 1] := Av.bset_row K14
     replace K15 : Blk (X17.setRow (X1.heap.size) #[.int .i64 0, .int .i64 1, V14, .bool false, .bool false, .int .i64 0, .int .i64 1]) (X11.heap.size) 24 #[.int .i64 0, .slice none 0 0] := Av.bother_row K15 (by omega)
     replace BX : Below w.heap.size w (X17.setRow (X1.heap.size) #[.int .i64 0, .int .i64 1, V14, .bool false, .bool false, .int .i64 0, .int .i64 1]) := below_setRow BX (by omega) _
     clear H9
     generalize X17.setRow (X1.heap.size) #[.int .i64 0, .int .i64 1, V14, .bool false, .bool false, .int .i64 0, .int .i64 1] = X18 at *
     refine hK.out _ _ K6 (fun hHeld => ?_)
     clear hK K
     try simp only [getElem_toArray, getElem_cons_zero, getElem_cons_succ, Act.put, setIfInBounds_toArray, set_cons_zero, set_cons_succ]
     refine wpAnyH_ready (rs := [11]) (by kernel_rfl) (by simp) ?_
     refine .cons rfl (fun K hK => ?_) .nil
     have H9 := o2 2 A15 1 c15
     refine Av.step_store_row rfl 24 (.tmp 15) (.tmp 69) rfl (X11.heap.size) #[.int .i64 2, .slice A15 1 c15] rfl rfl 24 _ K15 (by kernel_rfl) rfl H9 ?_
     replace BC := below_setRow (g := X11.heap.size) BC (by omega) #[.int .i64 2, .slice A15 1 c15]
     replace HV14 := HV14.step_ne (stp_row K15 #[.int .i64 2, .slice A15 1 c15]) (by decide) NHV14 (Nat.zero_le _)
     replace P15 := P15.step (stp_row K15 #[.int .i64 2, .slice A15 1 c15]) (by decide) (Nat.zero_le _)
     replace K6 : Blk (X18.setRow (X11.heap.size) #[.int .i64 2, .slice A15 1 c15]) (g6) 26 #[.int .i64 0, .int .i64 0, .int .i64 1, .int .i64 2, .slice A6 1 c6] := Av.bother_row K6 (by omega)
     replace K14 : Blk (X18.setRow (X11.heap.size) #[.int .i64 2, .slice A15 1 c15]) (X1.heap.size) 43 #[.int .i64 0, .int .i64 1, V14, .bool false, .bool false, .int .i64 0, .int .i64 1] := Av.bother_row K14 (by omega)
     replace K15 : Blk (X18.setRow (X11.heap.size) #[.int .i64 2, .slice A15 1 c15]) (X11.heap.size) 24 #[.int .i64 2, .slice A15 1 c15] := Av.bset_row K15
     replace BX : Below w.heap.size w (X18.setRow (X11.heap.size) #[.int .i64 2, .slice A15 1 c15]) := below_setRow BX (by omega) _
     clear H9
     generalize X18.setRow (X11.heap.size) #[.int .i64 2, .slice A15 1 c15] = X19 at *
     refine hK.out _ _ K6 (fun hHeld => ?_)
     clear hK K
     try simp only [getElem_toArray, getElem_cons_zero, getElem_cons_succ, Act.put, setIfInBounds_toArray, set_cons_zero, set_cons_succ]
     refine wpAnyH_take (i := 12) (v := .bool true) rfl (by kernel_rfl) (by kernel_rfl) (by kernel_rfl) (fun _ _ _ h => h) (.inl ⟨by first | rfl | go_simp, by intro u h; (try dsimp only at h); go_simp⟩) ‹_› ?_
     simp only [getElem_toArray, getElem_cons_zero, getElem_cons_succ, Act.put, setIfInBounds_toArray, set_cons_zero, set_cons_succ]
     refine wpAnyH_take (i := 13) (v := .bool false) rfl (by kernel_rfl) (by kernel_rfl) (by kernel_rfl) (fun _ _ _ h => h) (.inl ⟨by first | rfl | go_simp, by intro u h; (try dsimp only at h); go_simp⟩) ‹_› ?_
     simp only [getElem_toArray, getElem_cons_zero, getElem_cons_succ, Act.put, setIfInBounds_toArray, set_cons_zero, set_cons_succ]
     refine wpAnyH_done (by kernel_rfl) ?_ _
     clear hHeld
     go_wp2_with fail
     go_meet
     exact ⟨X1.heap.size, X11.heap.size, V14, l14, A15, c15, rfl, rfl, rfl, oV14, hl14, K14, K15, HV14.less (Nat.zero_le _) (Nat.le_refl _), P15, BC, BX⟩
   ·
    go_simp
    have hxc := BC.size
    have b9 := (Below.refl X1.heap.size X1).alloc (Nat.le_refl _) (.cells #[.int .i64 0, .slice none 0 0] 24)
    have K15 := Blk.fresh X1 24 #[.int .i64 0, .slice none 0 0]
    have hxK15K6 := K6.lt
    have hbK15 : W11.heap.size ≤ X1.heap.size := hxc
    clear hxc
    generalize X1.alloc (.cells #[.int .i64 0, .slice none 0 0] 24) = X20 at *
    replace K6 := K6.below b9 K6.lt
    replace BX := thenB BX b9
    replace BC := thenB BC b9
    clear b9
    refine hK.out _ _ K6 (fun hHeld => ?_)
    clear hK K
    try simp only [getElem_toArray, getElem_cons_zero, getElem_cons_succ, Act.put, setIfInBounds_toArray, set_cons_zero, set_cons_succ]
    refine wpAnyH_ready (rs := [2, 8]) (by kernel_rfl) (by simp) ?_
    refine AllReadyH.cons rfl (fun K hK => ?_) (AllReadyH.cons rfl (fun K hK => ?_) (AllReadyH.nil))
    ·
     go_simp
     have hNHV14 := K15.lt
     refine (ex_t2 X20 A6 c6 (P6.below BC).gp).mono ?_
     rintro e X21 ⟨V14, l14, A15, c15, rfl, HV14, hl14, oV14, P15, b9⟩
     have NHV14 : V14.ownBlock ≠ some (X1.heap.size) := fun e9 => by have h9 := (HV14.2.2 _ e9).1; omega
     clear hNHV14
     replace K6 := K6.below b9 K6.lt
     replace K15 := K15.below b9 K15.lt
     replace BX := thenB BX b9
     replace BC := thenB BC b9
     clear b9
     refine hK.out _ _ K6 (fun hHeld => ?_)
     clear hK K
     try simp only [getElem_toArray, getElem_cons_zero, getElem_cons_succ, Act.put, setIfInBounds_toArray, set_cons_zero, set_cons_succ]
     refine wpAnyH_take (i := 3) (v := .tuple #[.agg #[.int .i64 0, .int .i64 1, V14, .bool false, .bool false, .int .i64 0, .int .i64 1], .agg #[.int .i64 2, .slice A15 1 c15], .bool true, .bool false]) rfl (by kernel_rfl) (by kernel_rfl) (by kernel_rfl) (fun _ _ _ h => h) (.inl ⟨by first | rfl | go_simp, by intro u h; (try dsimp only at h); go_simp⟩) ‹_› ?_
     simp only [getElem_toArray, getElem_cons_zero, getElem_cons_succ, Act.put, setIfInBounds_toArray, set_cons_zero, set_cons_succ]
     refine wpAnyH_take (i := 4) (v := .agg #[.int .i64 0, .int .i64 1, V14, .bool false, .bool false, .int .i64 0, .int .i64 1]) rfl (by kernel_rfl) (by kernel_rfl) (by kernel_rfl) (fun _ _ _ h => h) (.inl ⟨by first | rfl | go_simp, by intro u h; (try dsimp only at h); go_simp⟩) ‹_› ?_
     simp only [getElem_toArray, getElem_cons_zero, getElem_cons_succ, Act.put, setIfInBounds_toArray, set_cons_zero, set_cons_succ]
     refine wpAnyH_take (i := 5) (v := .agg #[.int .i64 2, .slice A15 1 c15]) rfl (by kernel_rfl) (by kernel_rfl) (by kernel_rfl) (fun _ _ _ h => h) (.inl ⟨by first | rfl | go_simp, by intro u h; (try dsimp only at h); go_simp⟩) ‹_› ?_
     simp only [getElem_toArray, getElem_cons_zero, getElem_cons_succ, Act.put, setIfInBounds_toArray, set_cons_zero, set_cons_succ]
     refine wpAnyH_take (i := 6) (v := .bool true) rfl (by kernel_rfl) (by kernel_rfl) (by kernel_rfl) (fun _ _ _ h => h) (.inl ⟨by first | rfl | go_simp, by intro u h; (try dsimp only at h); go_simp⟩) ‹_› ?_
     simp only [getElem_toArray, getElem_cons_zero, getElem_cons_succ, Act.put, setIfInBounds_toArray, set_cons_zero, set_cons_succ]
     refine wpAnyH_take (i := 7) (v := .bool false) rfl (by kernel_rfl) (by kernel_rfl) (by kernel_rfl) (fun _ _ _ h => h) (.inl ⟨by first | rfl | go_simp, by intro u h; (try dsimp only at h); go_simp⟩) ‹_› ?_
     simp only [getElem_toArray, getElem_cons_zero, getElem_cons_succ, Act.put, setIfInBounds_toArray, set_cons_zero, set_cons_succ]
     refine wpAnyH_ready (rs := [8]) (by kernel_rfl) (by simp) ?_
     refine .cons rfl (fun K hK => ?_) .nil
     go_simp
     have hxc := BC.size
     have b9 := (Below.refl X21.heap.size X21).alloc (Nat.le_refl _) (.cells #[.int .i64 0, .int .i64 0, .slice none 0 0, .bool false, .bool false, .int .i64 0, .int .i64 0] 43)
     have K14 := Blk.fresh X21 43 #[.int .i64 0, .int .i64 0, .slice none 0 0, .bool false, .bool false, .int .i64 0, .int .i64 0]
     have hxK14K6 := K6.lt
     have hxK14K15 := K15.lt
     have hbK14 : W11.heap.size ≤ X21.heap.size := hxc
     clear hxc
     generalize X21.alloc (.cells #[.int .i64 0, .int .i64 0, .slice none 0 0, .bool false, .bool false, .int .i64 0, .int .i64 0] 43) = X22 at *
     replace K6 := K6.below b9 K6.lt
     replace K15 := K15.below b9 K15.lt
     replace BX := thenB BX b9
     replace BC := thenB BC b9
     replace HV14 := HV14.below b9
     replace P15 := P15.below b9
     clear b9
     refine hK.out _ _ K6 (fun hHeld => ?_)
     clear hK K
     try simp only [getElem_toArray, getElem_cons_zero, getElem_cons_succ, Act.put, setIfInBounds_toArray, set_cons_zero, set_cons_succ]
     refine wpAnyH_ready (rs := [10]) (by kernel_rfl) (by simp) ?_
     refine .cons rfl (fun K hK => ?_) .nil
     have H9 := o7 oV14 0 1 0 1 false false
     refine Av.step_store_row rfl 43 (.tmp 14) (.tmp 68) rfl (X21.heap.size) #[.int .i64 0, .int .i64 1, V14, .bool false, .bool false, .int .i64 0, .int .i64 1] rfl rfl 43 _ K14 (by kernel_rfl) rfl H9 ?_
     replace BC := below_setRow (g := X21.heap.size) BC (by omega) #[.int .i64 0, .int .i64 1, V14, .bool false, .bool false, .int .i64 0, .int .i64 1]
     replace HV14 := HV14.step (stp_row K14 #[.int .i64 0, .int .i64 1, V14, .bool false, .bool false, .int .i64 0, .int .i64 1]) (by decide) (by decide) (Nat.zero_le _)
     replace P15 := P15.step (stp_row K14 #[.int .i64 0, .int .i64 1, V14, .bool false, .bool false, .int .i64 0, .int .i64 1]) (by decide) (Nat.zero_le _)
     replace K6 : Blk (X22.setRow (X21.heap.size) #[.int .i64 0, .int .i64 1, V14, .bool false, .bool false, .int .i64 0, .int .i64 1]) (g6) 26 #[.int .i64 0, .int .i64 0, .int .i64 1, .int .i64 2, .slice A6 1 c6] := Av.bother_row K6 (by omega)
     replace K15 : Blk (X22.setRow (X21.heap.size) #[.int .i64 0, .int .i64 1, V14, .bool false, .bool false, .int .i64 0, .int .i64 1]) (X1.heap.size) 24 #[.int .i64 0, .slice none 0 0] := Av.bother_row K15 (by omega)
     replace K14 : Blk (X22.setRow (X21.heap.size) #[.int .i64 0, .int .i64 1, V14, .bool false, .bool false, .int .i64 0, .int .i64 1]) (X21.heap.size) 43 #[.int .i64 0, .int .i64 1, V14, .bool false, .bool false, .int .i64 0, .int .i64 1] := Av.bset_row K14
     replace BX : Below w.heap.size w (X22.setRow (X21.heap.size) #[.int .i64 0, .int .i64 1, V14, .bool false, .bool false, .int .i64 0, .int .i64 1]) := below_setRow BX (by omega) _
     clear H9
     generalize X22.setRow (X21.heap.size) #[.int .i64 0, .int .i64 1, V14, .bool false, .bool false, .int .i64 0, .int .i64 1] = X23 at *
     refine hK.out _ _ K6 (fun hHeld => ?_)
     clear hK K
     try simp only [getElem_toArray, getElem_cons_zero, getElem_cons_succ, Act.put, setIfInBounds_toArray, set_cons_zero, set_cons_succ]
     refine wpAnyH_ready (rs := [11]) (by kernel_rfl) (by simp) ?_
     refine .cons rfl (fun K hK => ?_) .nil
     have H9 := o2 2 A15 1 c15
     refine Av.step_store_row rfl 24 (.tmp 15) (.tmp 69) rfl (X1.heap.size) #[.int .i64 2, .slice A15 1 c15] rfl rfl 24 _ K15 (by kernel_rfl) rfl H9 ?_
     replace BC := below_setRow (g := X1.heap.size) BC (by omega) #[.int .i64 2, .slice A15 1 c15]
     replace HV14 := HV14.step_ne (stp_row K15 #[.int .i64 2, .slice A15 1 c15]) (by decide) NHV14 (Nat.zero_le _)
     replace P15 := P15.step (stp_row K15 #[.int .i64 2, .slice A15 1 c15]) (by decide) (Nat.zero_le _)
     replace K6 : Blk (X23.setRow (X1.heap.size) #[.int .i64 2, .slice A15 1 c15]) (g6) 26 #[.int .i64 0, .int .i64 0, .int .i64 1, .int .i64 2, .slice A6 1 c6] := Av.bother_row K6 (by omega)
     replace K15 : Blk (X23.setRow (X1.heap.size) #[.int .i64 2, .slice A15 1 c15]) (X1.heap.size) 24 #[.int .i64 2, .slice A15 1 c15] := Av.bset_row K15
     replace K14 : Blk (X23.setRow (X1.heap.size) #[.int .i64 2, .slice A15 1 c15]) (X21.heap.size) 43 #[.int .i64 0, .int .i64 1, V14, .bool false, .bool false, .int .i64 0, .int .i64 1] := Av.bother_row K14 (by omega)
     replace BX : Below w.heap.size w (X23.setRow (X1.heap.size) #[.int .i64 2, .slice A15 1 c15]) := below_setRow BX (by omega) _
     clear H9
     generalize X23.setRow (X1.heap.size) #[.int .i64 2, .slice A15 1 c15] = X24 at *
     refine hK.out _ _ K6 (fun hHeld => ?_)
     clear hK K
     try simp only [getElem_toArray, getElem_cons_zero, getElem_cons_succ, Act.put, setIfInBounds_toArray, set_cons_zero, set_cons_succ]
     refine wpAnyH_take (i := 12) (v := .bool true) rfl (by kernel_rfl) (by kernel_rfl) (by kernel_rfl) (fun _ _ _ h => h) (.inl ⟨by first | rfl | go_simp, by intro u h; (try dsimp only at h); go_simp⟩) ‹_› ?_
     simp only [getElem_toArray, getElem_cons_zero, getElem_cons_succ, Act.put, setIfInBounds_toArray, set_cons_zero, set_cons_succ]
     refine wpAnyH_take (i := 13) (v := .bool false) rfl (by kernel_rfl) (by kernel_rfl) (by kernel_rfl) (fun _ _ _ h => h) (.inl ⟨by first | rfl | go_simp, by intro u h; (try dsimp only at h); go_simp⟩) ‹_› ?_
     simp only [getElem_toArray, getElem_cons_zero, getElem_cons_succ, Act.put, setIfInBounds_toArray, set_cons_zero, set_cons_succ]
     refine wpAnyH_done (by kernel_rfl) ?_ _
     clear hHeld
     go_wp2_with fail
     go_meet
     exact ⟨X21.heap.size, X1.heap.size, V14, l14, A15, c15, rfl, rfl, rfl, oV14, hl14, K14, K15, HV14.less (Nat.zero_le _) (Nat.le_refl _), P15, BC, BX⟩
    ·
     go_simp
     have hxc := BC.size
     have b9 := (Below.refl X20.heap.size X20).alloc (Nat.le_refl _) (.cells #[.int .i64 0, .int .i64 0, .slice none 0 0, .bool false, .bool false, .int .i64 0, .int .i64 0] 43)
     have K14 := Blk.fresh X20 43 #[.int .i64 0, .int .i64 0, .slice none 0 0, .bool false, .bool false, .int .i64 0, .int .i64 0]
     have hxK14K6 := K6.lt
     have hxK14K15 := K15.lt
     have hbK14 : W11.heap.size ≤ X20.heap.size := hxc
     clear hxc
     generalize X20.alloc (.cells #[.int .i64 0, .int .i64 0, .slice none 0 0, .bool false, .bool false, .int .i64 0, .int .i64 0] 43) = X25 at *
     replace K6 := K6.below b9 K6.lt
     replace K15 := K15.below b9 K15.lt
     replace BX := thenB BX b9
     replace BC := thenB BC b9
     clear b9
     refine hK.out _ _ K6 (fun hHeld => ?_)
     clear hK K
     try simp only [getElem_toArray, getElem_cons_zero, getElem_cons_succ, Act.put, setIfInBounds_toArray, set_cons_zero, set_cons_succ]
     refine wpAnyH_ready (rs := [2]) (by kernel_rfl) (by simp) ?_
     refine .cons rfl (fun K hK => ?_) .nil
     go_simp
     have hNHV14 := K15.lt
     refine (ex_t2 X25 A6 c6 (P6.below BC).gp).mono ?_
     rintro e X26 ⟨V14, l14, A15, c15, rfl, HV14, hl14, oV14, P15, b9⟩
     have NHV14 : V14.ownBlock ≠ some (X1.heap.size) := fun e9 => by have h9 := (HV14.2.2 _ e9).1; omega
     clear hNHV14
     replace K6 := K6.below b9 K6.lt
     replace K15 := K15.below b9 K15.lt
     replace K14 := K14.below b9 K14.lt
     replace BX := thenB BX b9
     replace BC := thenB BC b9
     clear b9
     refine hK.out _ _ K6 (fun hHeld => ?_)
     clear hK K
     try simp only [getElem_toArray, getElem_cons_zero, getElem_cons_succ, Act.put, setIfInBounds_toArray, set_cons_zero, set_cons_succ]
     refine wpAnyH_take (i := 3) (v := .tuple #[.agg #[.int .i64 0, .int .i64 1, V14, .bool false, .bool false, .int .i64 0, .int .i64 1], .agg #[.int .i64 2, .slice A15 1 c15], .bool true, .bool false]) rfl (by kernel_rfl) (by kernel_rfl) (by kernel_rfl) (fun _ _ _ h => h) (.inl ⟨by first | rfl | go_simp, by intro u h; (try dsimp only at h); go_simp⟩) ‹_› ?_
     simp only [getElem_toArray, getElem_cons_zero, getElem_cons_succ, Act.put, setIfInBounds_toArray, set_cons_zero, set_cons_succ]
     refine wpAnyH_take (i := 4) (v := .agg #[.int .i64 0, .int .i64 1, V14, .bool false, .bool false, .int .i64 0, .int .i64 1]) rfl (by kernel_rfl) (by kernel_rfl) (by kernel_rfl) (fun _ _ _ h => h) (.inl ⟨by first | rfl | go_simp, by intro u h; (try dsimp only at h); go_simp⟩) ‹_› ?_
     simp only [getElem_toArray, getElem_cons_zero, getElem_cons_succ, Act.put, setIfInBounds_toArray, set_cons_zero, set_cons_succ]
     refine wpAnyH_take (i := 5) (v := .agg #[.int .i64 2, .slice A15 1 c15]) rfl (by kernel_rfl) (by kernel_rfl) (by kernel_rfl) (fun _ _ _ h => h) (.inl ⟨by first | rfl | go_simp, by intro u h; (try dsimp only at h); go_simp⟩) ‹_› ?_
     simp only [getElem_toArray, getElem_cons_zero, getElem_cons_succ, Act.put, setIfInBounds_toArray, set_cons_zero, set_cons_succ]
     refine wpAnyH_take (i := 6) (v := .bool true) rfl (by kernel_rfl) (by kernel_rfl) (by kernel_rfl) (fun _ _ _ h => h) (.inl ⟨by first | rfl | go_simp, by intro u h; (try dsimp only at h); go_simp⟩) ‹_› ?_
     simp only [getElem_toArray, getElem_cons_zero, getElem_cons_succ, Act.put, setIfInBounds_toArray, set_cons_zero, set_cons_succ]
     refine wpAnyH_take (i := 7) (v := .bool false) rfl (by kernel_rfl) (by kernel_rfl) (by kernel_rfl) (fun _ _ _ h => h) (.inl ⟨by first | rfl | go_simp, by intro u h; (try dsimp only at h); go_simp⟩) ‹_› ?_
     simp only [getElem_toArray, getElem_cons_zero, getElem_cons_succ, Act.put, setIfInBounds_toArray, set_cons_zero, set_cons_succ]
     refine wpAnyH_ready (rs := [10]) (by kernel_rfl) (by simp) ?_
     refine .cons rfl (fun K hK => ?_) .nil
     have H9 := o7 oV14 0 1 0 1 false false
     refine Av.step_store_row rfl 43 (.tmp 14) (.tmp 68) rfl (X20.heap.size) #[.int .i64 0, .int .i64 1, V14, .bool false, .bool false, .int .i64 0, .int .i64 1] rfl rfl 43 _ K14 (by kernel_rfl) rfl H9 ?_
     replace BC := below_setRow (g := X20.heap.size) BC (by omega) #[.int .i64 0, .int .i64 1, V14, .bool false, .bool false, .int .i64 0, .int .i64 1]
     replace HV14 := HV14.step (stp_row K14 #[.int .i64 0, .int .i64 1, V14, .bool false, .bool false, .int .i64 0, .int .i64 1]) (by decide) (by decide) (Nat.zero_le _)
     replace P15 := P15.step (stp_row K14 #[.int .i64 0, .int .i64 1, V14, .bool false, .bool false, .int .i64 0, .int .i64 1]) (by decide) (Nat.zero_le _)
     replace K6 : Blk (X26.setRow (X20.heap.size) #[.int .i64 0, .int .i64 1, V14, .bool false, .bool false, .int .i64 0, .int .i64 1]) (g6) 26 #[.int .i64 0, .int .i64 0, .int .i64 1, .int .i64 2, .slice A6 1 c6] := Av.bother_row K6 (by omega)
     replace K15 : Blk (X26.setRow (X20.heap.size) #[.int .i64 0, .int .i64 1, V14, .bool false, .bool false, .int .i64 0, .int .i64 1]) (X1.heap.size) 24 #[.int .i64 0, .slice none 0 0] := Av.bother_row K15 (by omega)
     replace K14 : Blk (X26.setRow (X20.heap.size) #[.int .i64 0, .int .i64 1, V14, .bool false, .bool false, .int .i64 0, .int .i64 1]) (X20.heap.size) 43 #[.int .i64 0, .int .i64 1, V14, .bool false, .bool false, .int .i64 0, .int .i64 1] := Av.bset_row K14
     replace BX : Below w.heap.size w (X26.setRow (X20.heap.size) #[.int .i64 0, .int .i64 1, V14, .bool false, .bool false, .int .i64 0, .int .i64 1]) := below_setRow BX (by omega) _
     clear H9
     generalize X26.setRow (X20.heap.size) #[.int .i64 0, .int .i64 1, V14, .bool false, .bool false, .int .i64 0, .int .i64 1] = X27 at *
     refine hK.out _ _ K6 (fun hHeld => ?_)
     clear hK K
     try simp only [getElem_toArray, getElem_cons_zero, getElem_cons_succ, Act.put, setIfInBounds_toArray, set_cons_zero, set_cons_succ]
     refine wpAnyH_ready (rs := [11]) (by kernel_rfl) (by simp) ?_
     refine .cons rfl (fun K hK => ?_) .nil
     have H9 := o2 2 A15 1 c15
     refine Av.step_store_row rfl 24 (.tmp 15) (.tmp 69) rfl (X1.heap.size) #[.int .i64 2, .slice A15 1 c15] rfl rfl 24 _ K15 (by kernel_rfl) rfl H9 ?_
     replace BC := below_setRow (g := X1.heap.size) BC (by omega) #[.int .i64 2, .slice A15 1 c15]
     replace HV14 := HV14.step_ne (stp_row K15 #[.int .i64 2, .slice A15 1 c15]) (by decide) NHV14 (Nat.zero_le _)
     replace P15 := P15.step (stp_row K15 #[.int .i64 2, .slice A15 1 c15]) (by decide) (Nat.zero_le _)
     replace K6 : Blk (X27.setRow (X1.heap.size) #[.int .i64 2, .slice A15 1 c15]) (g6) 26 #[.int .i64 0, .int .i64 0, .int .i64 1, .int .i64 2, .slice A6 1 c6] := Av.bother_row K6 (by omega)
     replace K15 : Blk (X27.setRow (X1.heap.size) #[.int .i64 2, .slice A15 1 c15]) (X1.heap.size) 24 #[.int .i64 2, .slice A15 1 c15] := Av.bset_row K15
     replace K14 : Blk (X27.setRow (X1.heap.size) #[.int .i64 2, .slice A15 1 c15]) (X20.heap.size) 43 #[.int .i64 0, .int .i64 1, V14, .bool false, .bool false, .int .i64 0, .int .i64 1] := Av.bother_row K14 (by omega)
     replace BX : Below w.heap.size w (X27.setRow (X1.heap.size) #[.int .i64 2, .slice A15 1 c15]) := below_setRow BX (by omega) _
     clear H9
     generalize X27.setRow (X1.heap.size) #[.int .i64 2, .slice A15 1 c15] = X28 at *
     refine hK.out _ _ K6 (fun hHeld => ?_)
     clear hK K
     try simp only [getElem_toArray, getElem_cons_zero, getElem_cons_succ, Act.put, setIfInBounds_toArray, set_cons_zero, set_cons_succ]
     refine wpAnyH_take (i := 12) (v := .bool true) rfl (by kernel_rfl) (by kernel_rfl) (by kernel_rfl) (fun _ _ _ h => h) (.inl ⟨by first | rfl | go_simp, by intro u h; (try dsimp only at h); go_simp⟩) ‹_› ?_
     simp only [getElem_toArray, getElem_cons_zero, getElem_cons_succ, Act.put, setIfInBounds_toArray, set_cons_zero, set_cons_succ]
     refine wpAnyH_take (i := 13) (v := .bool false) rfl (by kernel_rfl) (by kernel_rfl) (by kernel_rfl) (fun _ _ _ h => h) (.inl ⟨by first | rfl | go_simp, by intro u h; (try dsimp only at h); go_simp⟩) ‹_› ?_
     simp only [getElem_toArray, getElem_cons_zero, getElem_cons_succ, Act.put, setIfInBounds_toArray, set_cons_zero, set_cons_succ]
     refine wpAnyH_done (by kernel_rfl) ?_ _
     clear hHeld
     go_wp2_with fail
     go_meet
     exact ⟨X20.heap.size, X1.heap.size, V14, l14, A15, c15, rfl, rfl, rfl, oV14, hl14, K14, K15, HV14.less (Nat.zero_le _) (Nat.le_refl _), P15, BC, BX⟩
  ·
   go_simp
   have hxc := BC.size
   have b9 := (Below.refl X0.heap.size X0).alloc (Nat.le_refl _) (.cells #[.int .i64 0, .int .i64 0, .slice none 0 0, .bool false, .bool false, .int .i64 0, .int .i64 0] 43)
   have K14 := Blk.fresh X0 43 #[.int .i64 0, .int .i64 0, .slice none 0 0, .bool false, .bool false, .int .i64 0, .int .i64 0]
   have hxK14K6 := K6.lt
   have hbK14 : W11.heap.size ≤ X0.heap.size := hxc
   clear hxc
   generalize X0.alloc (.cells #[.int .i64 0, .int .i64 0, .slice none 0 0, .bool false, .bool false, .int .i64 0, .int .i64 0] 43) = X29 at *
   replace K6 := K6.below b9 K6.lt
   replace BX := thenB BX b9
   replace BC := thenB BC b9
   clear b9
   refine hK.out _ _ K6 (fun hHeld => ?_)
   clear hK K
   try simp only [getElem_toArray, getElem_cons_zero, getElem_cons_succ, Act.put, setIfInBounds_toArray, set_cons_zero, set_cons_succ]
   refine wpAnyH_ready (rs := [0, 9]) (by kernel_rfl) (by simp) ?_
   refine AllReadyH.cons rfl (fun K hK => ?_) (AllReadyH.cons rfl (fun K hK => ?_) (AllReadyH.nil))
   ·
    go_simp
    refine (new_any X29).mono ?_
    rintro e X30 ⟨rfl, b9⟩
    replace K6 := K6.below b9 K6.lt
    replace K14 := K14.below b9 K14.lt
    replace BX := thenB BX b9
    replace BC := thenB BC b9
    clear b9
    refine hK.out _ _ K6 (fun hHeld => ?_)
    clear hK K
    try simp only [getElem_toArray, getElem_cons_zero, getElem_cons_succ, Act.put, setIfInBounds_toArray, set_cons_zero, set_cons_succ]
    refine wpAnyH_ready (rs := [2, 9]) (by kernel_rfl) (by simp) ?_
    refine AllReadyH.cons rfl (fun K hK => ?_) (AllReadyH.cons rfl (fun K hK => ?_) (AllReadyH.nil))
    ·
     go_simp
     refine (ex_t2 X30 A6 c6 (P6.below BC).gp).mono ?_
     rintro e X31 ⟨V14, l14, A15, c15, rfl, HV14, hl14, oV14, P15, b9⟩
     replace K6 := K6.below b9 K6.lt
     replace K14 := K14.below b9 K14.lt
     replace BX := thenB BX b9
     replace BC := thenB BC b9
     clear b9
     refine hK.out _ _ K6 (fun hHeld => ?_)
     clear hK K
     try simp only [getElem_toArray, getElem_cons_zero, getElem_cons_succ, Act.put, setIfInBounds_toArray, set_cons_zero, set_cons_succ]
     refine wpAnyH_take (i := 3) (v := .tuple #[.agg #[.int .i64 0, .int .i64 1, V14, .bool false, .bool false, .int .i64 0, .int .i64 1], .agg #[.int .i64 2, .slice A15 1 c15], .bool true, .bool false]) rfl (by kernel_rfl) (by kernel_rfl) (by kernel_rfl) (fun _ _ _ h => h) (.inl ⟨by first | rfl | go_simp, by intro u h; (try dsimp only at h); go_simp⟩) ‹_› ?_
     simp only [getElem_toArray, getElem_cons_zero, getElem_cons_succ, Act.put, setIfInBounds_toArray, set_cons_zero, set_cons_succ]
     refine wpAnyH_take (i := 4) (v := .agg #[.int .i64 0, .int .i64 1, V14, .bool false, .bool false, .int .i64 0, .int .i64 1]) rfl (by kernel_rfl) (by kernel_rfl) (by kernel_rfl) (fun _ _ _ h => h) (.inl ⟨by first | rfl | go_simp, by intro u h; (try dsimp only at h); go_simp⟩) ‹_› ?_
     simp only [getElem_toArray, getElem_cons_zero, getElem_cons_succ, Act.put, setIfInBounds_toArray, set_cons_zero, set_cons_succ]
     refine wpAnyH_take (i := 5) (v := .agg #[.int .i64 2, .slice A15 1 c15]) rfl (by kernel_rfl) (by kernel_rfl) (by kernel_rfl) (fun _ _ _ h => h) (.inl ⟨by first | rfl | go_simp, by intro u h; (try dsimp only at h); go_simp⟩) ‹_› ?_
     simp only [getElem_toArray, getElem_cons_zero, getElem_cons_succ, Act.put, setIfInBounds_toArray, set_cons_zero, set_cons_succ]
     refine wpAnyH_take (i := 6) (v := .bool true) rfl (by kernel_rfl) (by kernel_rfl) (by kernel_rfl) (fun _ _ _ h => h) (.inl ⟨by first | rfl | go_simp, by intro u h; (try dsimp only at h); go_simp⟩) ‹_› ?_
     simp only [getElem_toArray, getElem_cons_zero, getElem_cons_succ, Act.put, setIfInBounds_toArray, set_cons_zero, set_cons_succ]
     refine wpAnyH_take (i := 7) (v := .bool false) rfl (by kernel_rfl) (by kernel_rfl) (by kernel_rfl) (fun _ _ _ h => h) (.inl ⟨by first | rfl | go_simp, by intro u h; (try dsimp only at h); go_simp⟩) ‹_› ?_
     simp only [getElem_toArray, getElem_cons_zero, getElem_cons_succ, Act.put, setIfInBounds_toArray, set_cons_zero, set_cons_succ]
     refine wpAnyH_ready (rs := [9]) (by kernel_rfl) (by simp) ?_
     refine .cons rfl (fun K hK => ?_) .nil
     go_simp
     have NHV14 : V14.ownBlock ≠ some X31.heap.size := fun e9 => by have h9 := (HV14.2.2 _ e9).2; omega
     have hxc := BC.size
     have b9 := (Below.refl X31.heap.size X31).alloc (Nat.le_refl _) (.cells #[.int .i64 0, .slice none 0 0] 24)
     have K15 := Blk.fresh X31 24 #[.int .i64 0, .slice none 0 0]
     have hxK15K6 := K6.lt
     have hxK15K14 := K14.lt
     have hbK15 : W11.heap.size ≤ X31.heap.size := hxc
     clear hxc
     generalize X31.alloc (.cells #[.int .i64 0, .slice none 0 0] 24) = X32 at *
     replace K6 := K6.below b9 K6.lt
     replace K14 := K14.below b9 K14.lt
     replace BX := thenB BX b9
     replace BC := thenB BC b9
     replace HV14 := HV14.below b9
     replace P15 := P15.below b9
     clear b9
     refine hK.out _ _ K6 (fun hHeld => ?_)
     clear hK K
     try simp only [getElem_toArray, getElem_cons_zero, getElem_cons_succ, Act.put, setIfInBounds_toArray, set_cons_zero, set_cons_succ]
     refine wpAnyH_ready (rs := [10]) (by kernel_rfl) (by simp) ?_
     refine .cons rfl (fun K hK => ?_) .nil
     have H9 := o7 oV14 0 1 0 1 false false
     refine Av.step_store_row rfl 43 (.tmp 14) (.tmp 68) rfl (X0.heap.size) #[.int .i64 0, .int .i64 1, V14, .bool false, .bool false, .int .i64 0, .int .i64 1] rfl rfl 43 _ K14 (by kernel_rfl) rfl H9 ?_
     replace BC := below_setRow (g := X0.heap.size) BC (by omega) #[.int .i64 0, .int .i64 1, V14, .bool false, .bool false, .int .i64 0, .int .i64 1]
     replace HV14 := HV14.step (stp_row K14 #[.int .i64 0, .int .i64 1, V14, .bool false, .bool false, .int .i64 0, .int .i64 1]) (by decide) (by decide) (Nat.zero_le _)
     replace P15 := P15.step (stp_row K14 #[.int .i64 0, .int .i64 1, V14, .bool false, .bool false, .int .i64 0, .int .i64 1]) (by decide) (Nat.zero_le _)
     replace K6 : Blk (X32.setRow (X0.heap.size) #[.int .i64 0, .int .i64 1, V14, .bool false, .bool false, .int .i64 0, .int .i64 1]) (g6) 26 #[.int .i64 0, .int .i64 0, .int .i64 1, .int .i64 2, .slice A6 1 c6] := Av.bother_row K6 (by omega)
     replace K14 : Blk (X32.setRow (X0.heap.size) #[.int .i64 0, .int .i64 1, V14, .bool false, .bool false, .int .i64 0, .int .i64 1]) (X0.heap.size) 43 #[.int .i64 0, .int .i64 1, V14, .bool false, .bool false, .int .i64 0, .int .i64 1] := Av.bset_row K14
     replace K15 : Blk (X32.setRow (X0.heap.size) #[.int .i64 0, .int .i64 1, V14, .bool false, .bool false, .int .i64 0, .int .i64 1]) (X31.heap.size) 24 #[.int .i64 0, .slice none 0 0] := Av.bother_row K15 (by omega)
     replace BX : Below w.heap.size w (X32.setRow (X0.heap.size) #[.int .i64 0, .int .i64 1, V14, .bool false, .bool false, .int .i64 0, .int .i64 1]) := below_setRow BX (by omega) _
     clear H9
     generalize X32.setRow (X0.heap.size) #[.int .i64 0, .int .i64 1, V14, .bool false, .bool false, .int .i64 0, .int .i64 1] = X33 at *
     refine hK.out _ _ K6 (fun hHeld => ?_)
     clear hK K
     try simp only [getElem_toArray, getElem_cons_zero, getElem_cons_succ, Act.put, setIfInBounds_toArray, set_cons_zero, set_cons_succ]
     refine wpAnyH_ready (rs := [11]) (by kernel_rfl) (by simp) ?_
     refine .cons rfl (fun K hK => ?_) .nil
     have H9 := o2 2 A15 1 c15
     refine Av.step_store_row rfl 24 (.tmp 15) (.tmp 69) rfl (X31.heap.size) #[.int .i64 2, .slice A15 1 c15] rfl rfl 24 _ K15 (by kernel_rfl) rfl H9 ?_
     replace BC := below_setRow (g := X31.heap.size) BC (by omega) #[.int .i64 2, .slice A15 1 c15]
     replace HV14 := HV14.step_ne (stp_row K15 #[.int .i64 2, .slice A15 1 c15]) (by decide) NHV14 (Nat.zero_le _)
     replace P15 := P15.step (stp_row K15 #[.int .i64 2, .slice A15 1 c15]) (by decide) (Nat.zero_le _)
     replace K6 : Blk (X33.setRow (X31.heap.size) #[.int .i64 2, .slice A15 1 c15]) (g6) 26 #[.int .i64 0, .int .i64 0, .int .i64 1, .int .i64 2, .slice A6 1 c6] := Av.bother_row K6 (by omega)
     replace K14 : Blk (X33.setRow (X31.heap.size) #[.int .i64 2, .slice A15 1 c15]) (X0.heap.size) 43 #[.int .i64 0, .int .i64 1, V14, .bool false, .bool false, .int .i64 0, .int .i64 1] := Av.bother_row K14 (by omega)
     replace K15 : Blk (X33.setRow (X31.heap.size) #[.int .i64 2, .slice A15 1 c15]) (X31.heap.size) 24 #[.int .i64 2, .slice A15 1 c15] := Av.bset_row K15
     replace BX : Below w.heap.size w (X33.setRow (X31.heap.size) #[.int .i64 2, .slice A15 1 c15]) := below_setRow BX (by omega) _
     clear H9
     generalize X33.setRow (X31.heap.size) #[.int .i64 2, .slice A15 1 c15] = X34 at *
     refine hK.out _ _ K6 (fun hHeld => ?_)
     clear hK K
     try simp only [getElem_toArray, getElem_cons_zero, getElem_cons_succ, Act.put, setIfInBounds_toArray, set_cons_zero, set_cons_succ]
     refine wpAnyH_take (i := 12) (v := .bool true) rfl (by kernel_rfl) (by kernel_rfl) (by kernel_rfl) (fun _ _ _ h => h) (.inl ⟨by first | rfl | go_simp, by intro u h; (try dsimp only at h); go_simp⟩) ‹_› ?_
     simp only [getElem_toArray, getElem_cons_zero, getElem_cons_succ, Act.put, setIfInBounds_toArray, set_cons_zero, set_cons_succ]
     refine wpAnyH_take (i := 13) (v := .bool false) rfl (by kernel_rfl) (by kernel_rfl) (by kernel_rfl) (fun _ _ _ h => h) (.inl ⟨by first | rfl | go_simp, by intro u h; (try dsimp only at h); go_simp⟩) ‹_› ?_
     simp only [getElem_toArray, getElem_cons_zero, getElem_cons_succ, Act.put, setIfInBounds_toArray, set_cons_zero, set_cons_succ]
     refine wpAnyH_done (by kernel_rfl) ?_ _
     clear hHeld
     go_wp2_with fail
     go_meet
     exact ⟨X0.heap.size, X31.heap.size, V14, l14, A15, c15, rfl, rfl, rfl, oV14, hl14, K14, K15, HV14.less (Nat.zero_le _) (Nat.le_refl _), P15, BC, BX⟩
    ·
     go_simp
     have hxc := BC.size
     have b9 := (Below.refl X30.heap.size X30).alloc (Nat.le_refl _) (.cells #[.int .i64 0, .slice none 0 0] 24)
     have K15 := Blk.fresh X30 24 #[.int .i64 0, .slice none 0 0]
     have hxK15K6 := K6.lt
     have hxK15K14 := K14.lt
     have hbK15 : W11.heap.size ≤ X30.heap.size := hxc
     clear hxc
     generalize X30.alloc (.cells #[.int .i64 0, .slice none 0 0] 24) = X35 at *
     replace K6 := K6.below b9 K6.lt
     replace K14 := K14.below b9 K14.lt
     replace BX := thenB BX b9
     replace BC := thenB BC b9
     clear b9
     refine hK.out _ _ K6 (fun hHeld => ?_)
     clear hK K
     try simp only [getElem_toArray, getElem_cons_zero, getElem_cons_succ, Act.put, setIfInBounds_toArray, set_cons_zero, set_cons_succ]
     refine wpAnyH_ready (rs := [2]) (by kernel_rfl) (by simp) ?_
     refine .cons rfl (fun K hK => ?_) .nil
     go_simp
     have hNHV14 := K15.lt
     refine (ex_t2 X35 A6 c6 (P6.below BC).gp).mono ?_
     rintro e X36 ⟨V14, l14, A15, c15, rfl, HV14, hl14, oV14, P15, b9⟩
     have NHV14 : V14.ownBlock ≠ some (X30.heap.size) := fun e9 => by have h9 := (HV14.2.2 _ e9).1; omega
     clear hNHV14
     replace K6 := K6.below b9 K6.lt
     replace K14 := K14.below b9 K14.lt
     replace K15 := K15.below b9 K15.lt
     replace BX := thenB BX b9
     replace BC := thenB BC b9
     clear b9
     refine hK.out _ _ K6 (fun hHeld => ?_)
     clear hK K
     try simp only [getElem_toArray, getElem_cons_zero, getElem_cons_succ, Act.put, setIfInBounds_toArray, set_cons_zero, set_cons_succ]
     refine wpAnyH_take (i := 3) (v := .tuple #[.agg #[.int .i64 0, .int .i64 1, V14, .bool false, .bool false, .int .i64 0, .int .i64 1], .agg #[.int .i64 2, .slice A15 1 c15], .bool true, .bool false]) rfl (by kernel_rfl) (by kernel_rfl) (by kernel_rfl) (fun _ _ _ h => h) (.inl ⟨by first | rfl | go_simp, by intro u h; (try dsimp only at h); go_simp⟩) ‹_› ?_
     simp only [getElem_toArray, getElem_cons_zero, getElem_cons_succ, Act.put, setIfInBounds_toArray, set_cons_zero, set_cons_succ]
     refine wpAnyH_take (i := 4) (v := .agg #[.int .i64 0, .int .i64 1, V14, .bool false, .bool false, .int .i64 0, .int .i64 1]) rfl (by kernel_rfl) (by kernel_rfl) (by kernel_rfl) (fun _ _ _ h => h) (.inl ⟨by first | rfl | go_simp, by intro u h; (try dsimp only at h); go_simp⟩) ‹_› ?_
     simp only [getElem_toArray, getElem_cons_zero, getElem_cons_succ, Act.put, setIfInBounds_toArray, set_cons_zero, set_cons_succ]
     refine wpAnyH_take (i := 5) (v := .agg #[.int .i64 2, .slice A15 1 c15]) rfl (by kernel_rfl) (by kernel_rfl) (by kernel_rfl) (fun _ _ _ h => h) (.inl ⟨by first | rfl | go_simp, by intro u h; (try dsimp only at h); go_simp⟩) ‹_› ?_
     simp only [getElem_toArray, getElem_cons_zero, getElem_cons_succ, Act.put, setIfInBounds_toArray, set_cons_zero, set_cons_succ]
     refine wpAnyH_take (i := 6) (v := .bool true) rfl (by kernel_rfl) (by kernel_rfl) (by kernel_rfl) (fun _ _ _ h => h) (.inl ⟨by first | rfl | go_simp, by intro u h; (try dsimp only at h); go_simp⟩) ‹_› ?_
     simp only [getElem_toArray, getElem_cons_zero, getElem_cons_succ, Act.put, setIfInBounds_toArray, set_cons_zero, set_cons_succ]
     refine wpAnyH_take (i := 7) (v := .bool false) rfl (by kernel_rfl) (by kernel_rfl) (by kernel_rfl) (fun _ _ _ h => h) (.inl ⟨by first | rfl | go_simp, by intro u h; (try dsimp only at h); go_simp⟩) ‹_› ?_
     simp only [getElem_toArray, getElem_cons_zero, getElem_cons_succ, Act.put, setIfInBounds_toArray, set_cons_zero, set_cons_succ]
     refine wpAnyH_ready (rs := [10]) (by kernel_rfl) (by simp) ?_
     refine .cons rfl (fun K hK => ?_) .nil
     have H9 := o7 oV14 0 1 0 1 false false
     refine Av.step_store_row rfl 43 (.tmp 14) (.tmp 68) rfl (X0.heap.size) #[.int .i64 0, .int .i64 1, V14, .bool false, .bool false, .int .i64 0, .int .i64 1] rfl rfl 43 _ K14 (by kernel_rfl) rfl H9 ?_
     replace BC := below_setRow (g := X0.heap.size) BC (by omega) #[.int .i64 0, .int .i64 1, V14, .bool false, .bool false, .int .i64 0, .int .i64 1]
     replace HV14 := HV14.step (stp_row K14 #[.int .i64 0, .int .i64 1, V14, .bool false, .bool false, .int .i64 0, .int .i64 1]) (by decide) (by decide) (Nat.zero_le _)
     replace P15 := P15.step (stp_row K14 #[.int .i64 0, .int .i64 1, V14, .bool false, .bool false, .int .i64 0, .int .i64 1]) (by decide) (Nat.zero_le _)
     replace K6 : Blk (X36.setRow (X0.heap.size) #[.int .i64 0, .int .i64 1, V14, .bool false, .bool false, .int .i64 0, .int .i64 1]) (g6) 26 #[.int .i64 0, .int .i64 0, .int .i64 1, .int .i64 2, .slice A6 1 c6] := Av.bother_row K6 (by omega)
     replace K14 : Blk (X36.setRow (X0.heap.size) #[.int .i64 0, .int .i64 1, V14, .bool false, .bool false, .int .i64 0, .int .i64 1]) (X0.heap.size) 43 #[.int .i64 0, .int .i64 1, V14, .bool false, .bool false, .int .i64 0, .int .i64 1] := Av.bset_row K14
     replace K15 : Blk (X36.setRow (X0.heap.size) #[.int .i64 0, .int .i64 1, V14, .bool false, .bool false, .int .i64 0, .int .i64 1]) (X30.heap.size) 24 #[.int .i64 0, .slice none 0 0] := Av.bother_row K15 (by omega)
     replace BX : Below w.heap.size w (X36.setRow (X0.heap.size) #[.int .i64 0, .int .i64 1, V14, .bool false, .bool false, .int .i64 0, .int .i64 1]) := below_setRow BX (by omega) _
     clear H9
     generalize X36.setRow (X0.heap.size) #[.int .i64 0, .int .i64 1, V14, .bool false, .bool false, .int .i64 0, .int .i64 1] = X37 at *
     refine hK.out _ _ K6 (fun hHeld => ?_)
     clear hK K
     try simp only [getElem_toArray, getElem_cons_zero, getElem_cons_succ, Act.put, setIfInBounds_toArray, set_cons_zero, set_cons_succ]
     refine wpAnyH_ready (rs := [11]) (by kernel_rfl) (by simp) ?_
     refine .cons rfl (fun K hK => ?_) .nil
     have H9 := o2 2 A15 1 c15
     refine Av.step_store_row rfl 24 (.tmp 15) (.tmp 69) rfl (X30.heap.size) #[.int .i64 2, .slice A15 1 c15] rfl rfl 24 _ K15 (by kernel_rfl) rfl H9 ?_
     replace BC := below_setRow (g := X30.heap.size) BC (by omega) #[.int .i64 2, .slice A15 1 c15]
     replace HV14 := HV14.step_ne (stp_row K15 #[.int .i64 2, .slice A15 1 c15]) (by decide) NHV14 (Nat.zero_le _)
     replace P15 := P15.step (stp_row K15 #[.int .i64 2, .slice A15 1 c15]) (by decide) (Nat.zero_le _)
     replace K6 : Blk (X37.setRow (X30.heap.size) #[.int .i64 2, .slice A15 1 c15]) (g6) 26 #[.int .i64 0, .int .i64 0, .int .i64 1, .int .i64 2, .slice A6 1 c6] := Av.bother_row K6 (by omega)
     replace K14 : Blk (X37.setRow (X30.heap.size) #[.int .i64 2, .slice A15 1 c15]) (X0.heap.size) 43 #[.int .i64 0, .int .i64 1, V14, .bool false, .bool false, .int .i64 0, .int .i64 1] := Av.bother_row K14 (by omega)
     replace K15 : Blk (X37.setRow (X30.heap.size) #[.int .i64 2, .slice A15 1 c15]) (X30.heap.size) 24 #[.int .i64 2, .slice A15 1 c15] := Av.bset_row K15
     replace BX : Below w.heap.size w (X37.setRow (X30.heap.size) #[.int .i64 2, .slice A15 1 c15]) := below_setRow BX (by omega) _
     clear H9
     generalize X37.setRow (X30.heap.size) #[.int .i64 2, .slice A15 1 c15] = X38 at *
     refine hK.out _ _ K6 (fun hHeld => ?_)
     clear hK K
     try simp only [getElem_toArray, getElem_cons_zero, getElem_cons_succ, Act.put, setIfInBounds_toArray, set_cons_zero, set_cons_succ]
     refine wpAnyH_take (i := 12) (v := .bool true) rfl (by kernel_rfl) (by kernel_rfl) (by kernel_rfl) (fun _ _ _ h => h) (.inl ⟨by first | rfl | go_simp, by intro u h; (try dsimp only at h); go_simp⟩) ‹_› ?_
     simp only [getElem_toArray, getElem_cons_zero, getElem_cons_succ, Act.put, setIfInBounds_toArray, set_cons_zero, set_cons_succ]
     refine wpAnyH_take (i := 13) (v := .bool false) rfl (by kernel_rfl) (by kernel_rfl) (by kernel_rfl) (fun _ _ _ h => h) (.inl ⟨by first | rfl | go_simp, by intro u h; (try dsimp only at h); go_simp⟩) ‹_› ?_
     simp only [getElem_toArray, getElem_cons_zero, getElem_cons_succ, Act.put, setIfInBounds_toArray, set_cons_zero, set_cons_succ]
     refine wpAnyH_done (by kernel_rfl) ?_ _
     clear hHeld
     go_wp2_with fail
     go_meet
     exact ⟨X0.heap.size, X30.heap.size, V14, l14, A15, c15, rfl, rfl, rfl, oV14, hl14, K14, K15, HV14.less (Nat.zero_le _) (Nat.le_refl _), P15, BC, BX⟩
   ·
    go_simp
    have hxc := BC.size
    have b9 := (Below.refl X29.heap.size X29).alloc (Nat.le_refl _) (.cells #[.int .i64 0, .slice none 0 0] 24)
    have K15 := Blk.fresh X29 24 #[.int .i64 0, .slice none 0 0]
    have hxK15K6 := K6.lt
    have hxK15K14 := K14.lt
    have hbK15 : W11.heap.size ≤ X29.heap.size := hxc
    clear hxc
    generalize X29.alloc (.cells #[.int .i64 0, .slice none 0 0] 24) = X39 at *
    replace K6 := K6.below b9 K6.lt
    replace K14 := K14.below b9 K14.lt
    replace BX := thenB BX b9
    replace BC := thenB BC b9
    clear b9
    refine hK.out _ _ K6 (fun hHeld => ?_)
    clear hK K
    try simp only [getElem_toArray, getElem_cons_zero, getElem_cons_succ, Act.put, setIfInBounds_toArray, set_cons_zero, set_cons_succ]
    refine wpAnyH_ready (rs := [0]) (by kernel_rfl) (by simp) ?_
    refine .cons rfl (fun K hK => ?_) .nil
    go_simp
    refine (new_any X39).mono ?_
    rintro e X40 ⟨rfl, b9⟩
    replace K6 := K6.below b9 K6.lt
    replace K14 := K14.below b9 K14.lt
    replace K15 := K15.below b9 K15.lt
    replace BX := thenB BX b9
    replace BC := thenB BC b9
    clear b9
    refine hK.out _ _ K6 (fun hHeld => ?_)
    clear hK K
    try simp only [getElem_toArray, getElem_cons_zero, getElem_cons_succ, Act.put, setIfInBounds_toArray, set_cons_zero, set_cons_succ]
    refine wpAnyH_ready (rs := [2]) (by kernel_rfl) (by simp) ?_
    refine .cons rfl (fun K hK => ?_) .nil
    go_simp
    have hNHV14 := K15.lt
    refine (ex_t2 X40 A6 c6 (P6.below BC).gp).mono ?_
    rintro e X41 ⟨V14, l14, A15, c15, rfl, HV14, hl14, oV14, P15, b9⟩
    have NHV14 : V14.ownBlock ≠ some (X29.heap.size) := fun e9 => by have h9 := (HV14.2.2 _ e9).1; omega
    clear hNHV14
    replace K6 := K6.below b9 K6.lt
    replace K14 := K14.below b9 K14.lt
    replace K15 := K15.below b9 K15.lt
    replace BX := thenB BX b9
    replace BC := thenB BC b9
    clear b9
    refine hK.out _ _ K6 (fun hHeld => ?_)
    clear hK K
    try simp only [getElem_toArray, getElem_cons_zero, getElem_cons_succ, Act.put, setIfInBounds_toArray, set_cons_zero, set_cons_succ]
    refine wpAnyH_take (i := 3) (v := .tuple #[.agg #[.int .i64 0, .int .i64 1, V14, .bool false, .bool false, .int .i64 0, .int .i64 1], .agg #[.int .i64 2, .slice A15 1 c15], .bool true, .bool false]) rfl (by kernel_rfl) (by kernel_rfl) (by kernel_rfl) (fun _ _ _ h => h) (.inl ⟨by first | rfl | go_simp, by intro u h; (try dsimp only at h); go_simp⟩) ‹_› ?_
    simp only [getElem_toArray, getElem_cons_zero, getElem_cons_succ, Act.put, setIfInBounds_toArray, set_cons_zero, set_cons_succ]
    refine wpAnyH_take (i := 4) (v := .agg #[.int .i64 0, .int .i64 1, V14, .bool false, .bool false, .int .i64 0, .int .i64 1]) rfl (by kernel_rfl) (by kernel_rfl) (by kernel_rfl) (fun _ _ _ h => h) (.inl ⟨by first | rfl | go_simp, by intro u h; (try dsimp only at h); go_simp⟩) ‹_› ?_
    simp only [getElem_toArray, getElem_cons_zero, getElem_cons_succ, Act.put, setIfInBounds_toArray, set_cons_zero, set_cons_succ]
    refine wpAnyH_take (i := 5) (v := .agg #[.int .i64 2, .slice A15 1 c15]) rfl (by kernel_rfl) (by kernel_rfl) (by kernel_rfl) (fun _ _ _ h => h) (.inl ⟨by first | rfl | go_simp, by intro u h; (try dsimp only at h); go_simp⟩) ‹_› ?_
    simp only [getElem_toArray, getElem_cons_zero, getElem_cons_succ, Act.put, setIfInBounds_toArray, set_cons_zero, set_cons_succ]
    refine wpAnyH_take (i := 6) (v := .bool true) rfl (by kernel_rfl) (by kernel_rfl) (by kernel_rfl) (fun _ _ _ h => h) (.inl ⟨by first | rfl | go_simp, by intro u h; (try dsimp only at h); go_simp⟩) ‹_› ?_
    simp only [getElem_toArray, getElem_cons_zero, getElem_cons_succ, Act.put, setIfInBounds_toArray, set_cons_zero, set_cons_succ]
    refine wpAnyH_take (i := 7) (v := .bool false) rfl (by kernel_rfl) (by kernel_rfl) (by kernel_rfl) (fun _ _ _ h => h) (.inl ⟨by first | rfl | go_simp, by intro u h; (try dsimp only at h); go_simp⟩) ‹_› ?_
    simp only [getElem_toArray, getElem_cons_zero, getElem_cons_succ, Act.put, setIfInBounds_toArray, set_cons_zero, set_cons_succ]
    refine wpAnyH_ready (rs := [10]) (by kernel_rfl) (by simp) ?_
    refine .cons rfl (fun K hK => ?_) .nil
    have H9 := o7 oV14 0 1 0 1 false false
    refine Av.step_store_row rfl 43 (.tmp 14) (.tmp 68) rfl (X0.heap.size) #[.int .i64 0, .int .i64 1, V14, .bool false, .bool false, .int .i64 0, .int .i64 1] rfl rfl 43 _ K14 (by kernel_rfl) rfl H9 ?_
    replace BC := below_setRow (g := X0.heap.size) BC (by omega) #[.int .i64 0, .int .i64 1, V14, .bool false, .bool false, .int .i64 0, .int .i64 1]
    replace HV14 := HV14.step (stp_row K14 #[.int .i64 0, .int .i64 1, V14, .bool false, .bool false, .int .i64 0, .int .i64 1]) (by decide) (by decide) (Nat.zero_le _)
    replace P15 := P15.step (stp_row K14 #[.int .i64 0, .int .i64 1, V14, .bool false, .bool false, .int .i64 0, .int .i64 1]) (by decide) (Nat.zero_le _)
    replace K6 : Blk (X41.setRow (X0.heap.size) #[.int .i64 0, .int .i64 1, V14, .bool false, .bool false, .int .i64 0, .int .i64 1]) (g6) 26 #[.int .i64 0, .int .i64 0, .int .i64 1, .int .i64 2, .slice A6 1 c6] := Av.bother_row K6 (by omega)
    replace K14 : Blk (X41.setRow (X0.heap.size) #[.int .i64 0, .int .i64 1, V14, .bool false, .bool false, .int .i64 0, .int .i64 1]) (X0.heap.size) 43 #[.int .i64 0, .int .i64 1, V14, .bool false, .bool false, .int .i64 0, .int .i64 1] := Av.bset_row K14
    replace K15 : Blk (X41.setRow (X0.heap.size) #[.int .i64 0, .int .i64 1, V14, .bool false, .bool false, .int .i64 0, .int .i64 1]) (X29.heap.size) 24 #[.int .i64 0, .slice none 0 0] := Av.bother_row K15 (by omega)
    replace BX : Below w.heap.size w (X41.setRow (X0.heap.size) #[.int .i64 0, .int .i64 1, V14, .bool false, .bool false, .int .i64 0, .int .i64 1]) := below_setRow BX (by omega) _
    clear H9
    generalize X41.setRow (X0.heap.size) #[.int .i64 0, .int .i64 1, V14, .bool false, .bool false, .int .i64 0, .int .i64 1] = X42 at *
    refine hK.out _ _ K6 (fun hHeld => ?_)
    clear hK K
    try simp only [getElem_toArray, getElem_cons_zero, getElem_cons_succ, Act.put, setIfInBounds_toArray, set_cons_zero, set_cons_succ]
    refine wpAnyH_ready (rs := [11]) (by kernel_rfl) (by simp) ?_
    refine .cons rfl (fun K hK => ?_) .nil
    have H9 := o2 2 A15 1 c15
    refine Av.step_store_row rfl 24 (.tmp 15) (.tmp 69) rfl (X29.heap.size) #[.int .i64 2, .slice A15 1 c15] rfl rfl 24 _ K15 (by kernel_rfl) rfl H9 ?_
    replace BC := below_setRow (g := X29.heap.size) BC (by omega) #[.int .i64 2, .slice A15 1 c15]
    replace HV14 := HV14.step_ne (stp_row K15 #[.int .i64 2, .slice A15 1 c15]) (by decide) NHV14 (Nat.zero_le _)
    replace P15 := P15.step (stp_row K15 #[.int .i64 2, .slice A15 1 c15]) (by decide) (Nat.zero_le _)
    replace K6 : Blk (X42.setRow (X29.heap.size) #[.int .i64 2, .slice A15 1 c15]) (g6) 26 #[.int .i64 0, .int .i64 0, .int .i64 1, .int .i64 2, .slice A6 1 c6] := Av.bother_row K6 (by omega)
    replace K14 : Blk (X42.setRow (X29.heap.size) #[.int .i64 2, .slice A15 1 c15]) (X0.heap.size) 43 #[.int .i64 0, .int .i64 1, V14, .bool false, .bool false, .int .i64 0, .int .i64 1] := Av.bother_row K14 (by omega)
    replace K15 : Blk (X42.setRow (X29.heap.size) #[.int .i64 2, .slice A15 1 c15]) (X29.heap.size) 24 #[.int .i64 2, .slice A15 1 c15] := Av.bset_row K15
    replace BX : Below w.heap.size w (X42.setRow (X29.heap.size) #[.int .i64 2, .slice A15 1 c15]) := below_setRow BX (by omega) _
    clear H9
    generalize X42.setRow (X29.heap.size) #[.int .i64 2, .slice A15 1 c15] = X43 at *
    refine hK.out _ _ K6 (fun hHeld => ?_)
    clear hK K
    try simp only [getElem_toArray, getElem_cons_zero, getElem_cons_succ, Act.put, setIfInBounds_toArray, set_cons_zero, set_cons_succ]
    refine wpAnyH_take (i := 12) (v := .bool true) rfl (by kernel_rfl) (by kernel_rfl) (by kernel_rfl) (fun _ _ _ h => h) (.inl ⟨by first | rfl | go_simp, by intro u h; (try dsimp only at h); go_simp⟩) ‹_› ?_
    simp only [getElem_toArray, getElem_cons_zero, getElem_cons_succ, Act.put, setIfInBounds_toArray, set_cons_zero, set_cons_succ]
    refine wpAnyH_take (i := 13) (v := .bool false) rfl (by kernel_rfl) (by kernel_rfl) (by kernel_rfl) (fun _ _ _ h => h) (.inl ⟨by first | rfl | go_simp, by intro u h; (try dsimp only at h); go_simp⟩) ‹_› ?_
    simp only [getElem_toArray, getElem_cons_zero, getElem_cons_succ, Act.put, setIfInBounds_toArray, set_cons_zero, set_cons_succ]
    refine wpAnyH_done (by kernel_rfl) ?_ _
    clear hHeld
    go_wp2_with fail
    go_meet
    exact ⟨X0.heap.size, X29.heap.size, V14, l14, A15, c15, rfl, rfl, rfl, oV14, hl14, K14, K15, HV14.less (Nat.zero_le _) (Nat.le_refl _), P15, BC, BX⟩
  ·
   go_simp
   have hxc := BC.size
   have b9 := (Below.refl X0.heap.size X0).alloc (Nat.le_refl _) (.cells #[.int .i64 0, .slice none 0 0] 24)
   have K15 := Blk.fresh X0 24 #[.int .i64 0, .slice none 0 0]
   have hxK15K6 := K6.lt
   have hbK15 : W11.heap.size ≤ X0.heap.size := hxc
   clear hxc
   generalize X0.alloc (.cells #[.int .i64 0, .slice none 0 0] 24) = X44 at *
   replace K6 := K6.below b9 K6.lt
   replace BX := thenB BX b9
   replace BC := thenB BC b9
   clear b9
   refine hK.out _ _ K6 (fun hHeld => ?_)
   clear hK K
   try simp only [getElem_toArray, getElem_cons_zero, getElem_cons_succ, Act.put, setIfInBounds_toArray, set_cons_zero, set_cons_succ]
   refine wpAnyH_ready (rs := [0, 8]) (by kernel_rfl) (by simp) ?_
   refine AllReadyH.cons rfl (fun K hK => ?_) (AllReadyH.cons rfl (fun K hK => ?_) (AllReadyH.nil))
   ·
    go_simp
    refine (new_any X44).mono ?_
    rintro e X45 ⟨rfl, b9⟩
    replace K6 := K6.below b9 K6.lt
    replace K15 := K15.below b9 K15.lt
    replace BX := thenB BX b9
    replace BC := thenB BC b9
    clear b9
    refine hK.out _ _ K6 (fun hHeld => ?_)
    clear hK K
    try simp only [getElem_toArray, getElem_cons_zero, getElem_cons_succ, Act.put, setIfInBounds_toArray, set_cons_zero, set_cons_succ]
    refine wpAnyH_ready (rs := [2, 8]) (by kernel_rfl) (by simp) ?_
    refine AllReadyH.cons rfl (fun K hK => ?_) (AllReadyH.cons rfl (fun K hK => ?_) (AllReadyH.nil))
    ·
     go_simp
     have hNHV14 := K15.lt
     refine (ex_t2 X45 A6 c6 (P6.below BC).gp).mono ?_
     rintro e X46 ⟨V14, l14, A15, c15, rfl, HV14, hl14, oV14, P15, b9⟩
     have NHV14 : V14.ownBlock ≠ some (X0.heap.size) := fun e9 => by have h9 := (HV14.2.2 _ e9).1; omega
     clear hNHV14
     replace K6 := K6.below b9 K6.lt
     replace K15 := K15.below b9 K15.lt
     replace BX := thenB BX b9
     replace BC := thenB BC b9
     clear b9
     refine hK.out _ _ K6 (fun hHeld => ?_)
     clear hK K
     try simp only [getElem_toArray, getElem_cons_zero, getElem_cons_succ, Act.put, setIfInBounds_toArray, set_cons_zero, set_cons_succ]
     refine wpAnyH_take (i := 3) (v := .tuple #[.agg #[.int .i64 0, .int .i64 1, V14, .bool false, .bool false, .int .i64 0, .int .i64 1], .agg #[.int .i64 2, .slice A15 1 c15], .bool true, .bool false]) rfl (by kernel_rfl) (by kernel_rfl) (by kernel_rfl) (fun _ _ _ h => h) (.inl ⟨by first | rfl | go_simp, by intro u h; (try dsimp only at h); go_simp⟩) ‹_› ?_
     simp only [getElem_toArray, getElem_cons_zero, getElem_cons_succ, Act.put, setIfInBounds_toArray, set_cons_zero, set_cons_succ]
     refine wpAnyH_take (i := 4) (v := .agg #[.int .i64 0, .int .i64 1, V14, .bool false, .bool false, .int .i64 0, .int .i64 1]) rfl (by kernel_rfl) (by kernel_rfl) (by kernel_rfl) (fun _ _ _ h => h) (.inl ⟨by first | rfl | go_simp, by intro u h; (try dsimp only at h); go_simp⟩) ‹_› ?_
     simp only [getElem_toArray, getElem_cons_zero, getElem_cons_succ, Act.put, setIfInBounds_toArray, set_cons_zero, set_cons_succ]
     refine wpAnyH_take (i := 5) (v := .agg #[.int .i64 2, .slice A15 1 c15]) rfl (by kernel_rfl) (by kernel_rfl) (by kernel_rfl) (fun _ _ _ h => h) (.inl ⟨by first | rfl | go_simp, by intro u h; (try dsimp only at h); go_simp⟩) ‹_› ?_
     simp only [getElem_toArray, getElem_cons_zero, getElem_cons_succ, Act.put, setIfInBounds_toArray, set_cons_zero, set_cons_succ]
     refine wpAnyH_take (i := 6) (v := .bool true) rfl (by kernel_rfl) (by kernel_rfl) (by kernel_rfl) (fun _ _ _ h => h) (.inl ⟨by first | rfl | go_simp, by intro u h; (try dsimp only at h); go_simp⟩) ‹_› ?_
     simp only [getElem_toArray, getElem_cons_zero, getElem_cons_succ, Act.put, setIfInBounds_toArray, set_cons_zero, set_cons_succ]
     refine wpAnyH_take (i := 7) (v := .bool false) rfl (by kernel_rfl) (by kernel_rfl) (by kernel_rfl) (fun _ _ _ h => h) (.inl ⟨by first | rfl | go_simp, by intro u h; (try dsimp only at h); go_simp⟩) ‹_› ?_
     simp only [getElem_toArray, getElem_cons_zero, getElem_cons_succ, Act.put, setIfInBounds_toArray, set_cons_zero, set_cons_succ]
     refine wpAnyH_ready (rs := [8]) (by kernel_rfl) (by simp) ?_
     refine .cons rfl (fun K hK => ?_) .nil
     go_simp
     have hxc := BC.size
     have b9 := (Below.refl X46.heap.size X46).alloc (Nat.le_refl _) (.cells #[.int .i64 0, .int .i64 0, .slice none 0 0, .bool false, .bool false, .int .i64 0, .int .i64 0] 43)
     have K14 := Blk.fresh X46 43 #[.int .i64 0, .int .i64 0, .slice none 0 0, .bool false, .bool false, .int .i64 0, .int .i64 0]
     have hxK14K6 := K6.lt
     have hxK14K15 := K15.lt
     have hbK14 : W11.heap.size ≤ X46.heap.size := hxc
     clear hxc
     generalize X46.alloc (.cells #[.int .i64 0, .int .i64 0, .slice none 0 0, .bool false, .bool false, .int .i64 0, .int .i64 0] 43) = X47 at *
     replace K6 := K6.below b9 K6.lt
     replace K15 := K15.below b9 K15.lt
     replace BX := thenB BX b9
     replace BC := thenB BC b9
     replace HV14 := HV14.below b9
     replace P15 := P15.below b9
     clear b9
     refine hK.out _ _ K6 (fun hHeld => ?_)
     clear hK K
     try simp only [getElem_toArray, getElem_cons_zero, getElem_cons_succ, Act.put, setIfInBounds_toArray, set_cons_zero, set_cons_succ]
     refine wpAnyH_ready (rs := [10]) (by kernel_rfl) (by simp) ?_
     refine .cons rfl (fun K hK => ?_) .nil
     have H9 := o7 oV14 0 1 0 1 false false
     refine Av.step_store_row rfl 43 (.tmp 14) (.tmp 68) rfl (X46.heap.size) #[.int .i64 0, .int .i64 1, V14, .bool false, .bool false, .int .i64 0, .int .i64 1] rfl rfl 43 _ K14 (by kernel_rfl) rfl H9 ?_
     replace BC := below_setRow (g := X46.heap.size) BC (by omega) #[.int .i64 0, .int .i64 1, V14, .bool false, .bool false, .int .i64 0, .int .i64 1]
     replace HV14 := HV14.step (stp_row K14 #[.int .i64 0, .int .i64 1, V14, .bool false, .bool false, .int .i64 0, .int .i64 1]) (by decide) (by decide) (Nat.zero_le _)
     replace P15 := P15.step (stp_row K14 #[.int .i64 0, .int .i64 1, V14, .bool false, .bool false, .int .i64 0, .int .i64 1]) (by decide) (Nat.zero_le _)
     replace K6 : Blk (X47.setRow (X46.heap.size) #[.int .i64 0, .int .i64 1, V14, .bool false, .bool false, .int .i64 0, .int .i64 1]) (g6) 26 #[.int .i64 0, .int .i64 0, .int .i64 1, .int .i64 2, .slice A6 1 c6] := Av.bother_row K6 (by omega)
     replace K15 : Blk (X47.setRow (X46.heap.size) #[.int .i64 0, .int .i64 1, V14, .bool false, .bool false, .int .i64 0, .int .i64 1]) (X0.heap.size) 24 #[.int .i64 0, .slice none 0 0] := Av.bother_row K15 (by omega)
     replace K14 : Blk (X47.setRow (X46.heap.size) #[.int .i64 0, .int .i64 1, V14, .bool false, .bool false, .int .i64 0, .int .i64 1]) (X46.heap.size) 43 #[.int .i64 0, .int .i64 1, V14, .bool false, .bool false, .int .i64 0, .int .i64 1] := Av.bset_row K14
     replace BX : Below w.heap.size w (X47.setRow (X46.heap.size) #[.int .i64 0, .int .i64 1, V14, .bool false, .bool false, .int .i64 0, .int .i64 1]) := below_setRow BX (by omega) _
     clear H9
     generalize X47.setRow (X46.heap.size) #[.int .i64 0, .int .i64 1, V14, .bool false, .bool false, .int .i64 0, .int .i64 1] = X48 at *
     refine hK.out _ _ K6 (fun hHeld => ?_)
     clear hK K
     try simp only [getElem_toArray, getElem_cons_zero, getElem_cons_succ, Act.put, setIfInBounds_toArray, set_cons_zero, set_cons_succ]
     refine wpAnyH_ready (rs := [11]) (by kernel_rfl) (by simp) ?_
     refine .cons rfl (fun K hK => ?_) .nil
     have H9 := o2 2 A15 1 c15
     refine Av.step_store_row rfl 24 (.tmp 15) (.tmp 69) rfl (X0.heap.size) #[.int .i64 2, .slice A15 1 c15] rfl rfl 24 _ K15 (by kernel_rfl) rfl H9 ?_
     replace BC := below_setRow (g := X0.heap.size) BC (by omega) #[.int .i64 2, .slice A15 1 c15]
     replace HV14 := HV14.step_ne (stp_row K15 #[.int .i64 2, .slice A15 1 c15]) (by decide) NHV14 (Nat.zero_le _)
     replace P15 := P15.step (stp_row K15 #[.int .i64 2, .slice A15 1 c15]) (by decide) (Nat.zero_le _)
     replace K6 : Blk (X48.setRow (X0.heap.size) #[.int .i64 2, .slice A15 1 c15]) (g6) 26 #[.int .i64 0, .int .i64 0, .int .i64 1, .int .i64 2, .slice A6 1 c6] := Av.bother_row K6 (by omega)
     replace K15 : Blk (X48.setRow (X0.heap.size) #[.int .i64 2, .slice A15 1 c15]) (X0.heap.size) 24 #[.int .i64 2, .slice A15 1 c15] := Av.bset_row K15
     replace K14 : Blk (X48.setRow (X0.heap.size) #[.int .i64 2, .slice A15 1 c15]) (X46.heap.size) 43 #[.int .i64 0, .int .i64 1, V14, .bool false, .bool false, .int .i64 0, .int .i64 1] := Av.bother_row K14 (by omega)
     replace BX : Below w.heap.size w (X48.setRow (X0.heap.size) #[.int .i64 2, .slice A15 1 c15]) := below_setRow BX (by omega) _
     clear H9
     generalize X48.setRow (X0.heap.size) #[.int .i64 2, .slice A15 1 c15] = X49 at *
     refine hK.out _ _ K6 (fun hHeld => ?_)
     clear hK K
     try simp only [getElem_toArray, getElem_cons_zero, getElem_cons_succ, Act.put, setIfInBounds_toArray, set_cons_zero, set_cons_succ]
     refine wpAnyH_take (i := 12) (v := .bool true) rfl (by kernel_rfl) (by kernel_rfl) (by kernel_rfl) (fun _ _ _ h => h) (.inl ⟨by first | rfl | go_simp, by intro u h; (try dsimp only at h); go_simp⟩) ‹_› ?_
     simp only [getElem_toArray, getElem_cons_zero, getElem_cons_succ, Act.put, setIfInBounds_toArray, set_cons_zero, set_cons_succ]
     refine wpAnyH_take (i := 13) (v := .bool false) rfl (by kernel_rfl) (by kernel_rfl) (by kernel_rfl) (fun _ _ _ h => h) (.inl ⟨by first | rfl | go_simp, by intro u h; (try dsimp only at h); go_simp⟩) ‹_› ?_
     simp only [getElem_toArray, getElem_cons_zero, getElem_cons_succ, Act.put, setIfInBounds_toArray, set_cons_zero, set_cons_succ]
     refine wpAnyH_done (by kernel_rfl) ?_ _
     clear hHeld
     go_wp2_with fail
     go_meet
     exact ⟨X46.heap.size, X0.heap.size, V14, l14, A15, c15, rfl, rfl, rfl, oV14, hl14, K14, K15, HV14.less (Nat.zero_le _) (Nat.le_refl _), P15, BC, BX⟩
    ·
     go_simp
     have hxc := BC.size
     have b9 := (Below.refl X45.heap.size X45).alloc (Nat.le_refl _) (.cells #[.int .i64 0, .int .i64 0, .slice none 0 0, .bool false, .bool false, .int .i64 0, .int .i64 0] 43)
     have K14 := Blk.fresh X45 43 #[.int .i64 0, .int .i64 0, .slice none 0 0, .bool false, .bool false, .int .i64 0, .int .i64 0]
     have hxK14K6 := K6.lt
     have hxK14K15 := K15.lt
     have hbK14 : W11.heap.size ≤ X45.heap.size := hxc
     clear hxc
     generalize X45.alloc (.cells #[.int .i64 0, .int .i64 0, .slice none 0 0, .bool false, .bool false, .int .i64 0, .int .i64 0] 43) = X50 at *
     replace K6 := K6.below b9 K6.lt
     replace K15 := K15.below b9 K15.lt
     replace BX := thenB BX b9
     replace BC := thenB BC b9
     clear b9
     refine hK.out _ _ K6 (fun hHeld => ?_)
     clear hK K
     try simp only [getElem_toArray, getElem_cons_zero, getElem_cons_succ, Act.put, setIfInBounds_toArray, set_cons_zero, set_cons_succ]
     refine wpAnyH_ready (rs := [2]) (by kernel_rfl) (by simp) ?_
     refine .cons rfl (fun K hK => ?_) .nil
     go_simp
     have hNHV14 := K15.lt
     refine (ex_t2 X50 A6 c6 (P6.below BC).gp).mono ?_
     rintro e X51 ⟨V14, l14, A15, c15, rfl, HV14, hl14, oV14, P15, b9⟩
     have NHV14 : V14.ownBlock ≠ some (X0.heap.size) := fun e9 => by have h9 := (HV14.2.2 _ e9).1; omega
     clear hNHV14
     replace K6 := K6.below b9 K6.lt
     replace K15 := K15.below b9 K15.lt
     replace K14 := K14.below b9 K14.lt
     replace BX := thenB BX b9
     replace BC := thenB BC b9
     clear b9
     refine hK.out _ _ K6 (fun hHeld => ?_)
     clear hK K
     try simp only [getElem_toArray, getElem_cons_zero, getElem_cons_succ, Act.put, setIfInBounds_toArray, set_cons_zero, set_cons_succ]
     refine wpAnyH_take (i := 3) (v := .tuple #[.agg #[.int .i64 0, .int .i64 1, V14, .bool false, .bool false, .int .i64 0, .int .i64 1], .agg #[.int .i64 2, .slice A15 1 c15], .bool true, .bool false]) rfl (by kernel_rfl) (by kernel_rfl) (by kernel_rfl) (fun _ _ _ h => h) (.inl ⟨by first | rfl | go_simp, by intro u h; (try dsimp only at h); go_simp⟩) ‹_› ?_
     simp only [getElem_toArray, getElem_cons_zero, getElem_cons_succ, Act.put, setIfInBounds_toArray, set_cons_zero, set_cons_succ]
     refine wpAnyH_take (i := 4) (v := .agg #[.int .i64 0, .int .i64 1, V14, .bool false, .bool false, .int .i64 0, .int .i64 1]) rfl (by kernel_rfl) (by kernel_rfl) (by kernel_rfl) (fun _ _ _ h => h) (.inl ⟨by first | rfl | go_simp, by intro u h; (try dsimp only at h); go_simp⟩) ‹_› ?_
     simp only [getElem_toArray, getElem_cons_zero, getElem_cons_succ, Act.put, setIfInBounds_toArray, set_cons_zero, set_cons_succ]
     refine wpAnyH_take (i := 5) (v := .agg #[.int .i64 2, .slice A15 1 c15]) rfl (by kernel_rfl) (by kernel_rfl) (by kernel_rfl) (fun _ _ _ h => h) (.inl ⟨by first | rfl | go_simp, by intro u h; (try dsimp only at h); go_simp⟩) ‹_› ?_
     simp only [getElem_toArray, getElem_cons_zero, getElem_cons_succ, Act.put, setIfInBounds_toArray, set_cons_zero, set_cons_succ]
     refine wpAnyH_take (i := 6) (v := .bool true) rfl (by kernel_rfl) (by kernel_rfl) (by kernel_rfl) (fun _ _ _ h => h) (.inl ⟨by first | rfl | go_simp, by intro u h; (try dsimp only at h); go_simp⟩) ‹_› ?_
     simp only [getElem_toArray, getElem_cons_zero, getElem_cons_succ, Act.put, setIfInBounds_toArray, set_cons_zero, set_cons_succ]
     refine wpAnyH_take (i := 7) (v := .bool false) rfl (by kernel_rfl) (by kernel_rfl) (by kernel_rfl) (fun _ _ _ h => h) (.inl ⟨by first | rfl | go_simp, by intro u h; (try dsimp only at h); go_simp⟩) ‹_› ?_
     simp only [getElem_toArray, getElem_cons_zero, getElem_cons_succ, Act.put, setIfInBounds_toArray, set_cons_zero, set_cons_succ]
     refine wpAnyH_ready (rs := [10]) (by kernel_rfl) (by simp) ?_
     refine .cons rfl (fun K hK => ?_) .nil
     have H9 := o7 oV14 0 1 0 1 false false
     refine Av.step_store_row rfl 43 (.tmp 14) (.tmp 68) rfl (X45.heap.size) #[.int .i64 0, .int .i64 1, V14, .bool false, .bool false, .int .i64 0, .int .i64 1] rfl rfl 43 _ K14 (by kernel_rfl) rfl H9 ?_
     replace BC := below_setRow (g := X45.heap.size) BC (by omega) #[.int .i64 0, .int .i64 1, V14, .bool false, .bool false, .int .i64 0, .int .i64 1]
     replace HV14 := HV14.step (stp_row K14 #[.int .i64 0, .int .i64 1, V14, .bool false, .bool false, .int .i64 0, .int .i64 1]) (by decide) (by decide) (Nat.zero_le _)
     replace P15 := P15.step (stp_row K14 #[.int .i64 0, .int .i64 1, V14, .bool false, .bool false, .int .i64 0, .int .i64 1]) (by decide) (Nat.zero_le _)
     replace K6 : Blk (X51.setRow (X45.heap.size) #[.int .i64 0, .int .i64 1, V14, .bool false, .bool false, .int .i64 0, .int .i64 1]) (g6) 26 #[.int .i64 0, .int .i64 0, .int .i64 1, .int .i64 2, .slice A6 1 c6] := Av.bother_row K6 (by omega)
     replace K15 : Blk (X51.setRow (X45.heap.size) #[.int .i64 0, .int .i64 1, V14, .bool false, .bool false, .int .i64 0, .int .i64 1]) (X0.heap.size) 24 #[.int .i64 0, .slice none 0 0] := Av.bother_row K15 (by omega)
     replace K14 : Blk (X51.setRow (X45.heap.size) #[.int .i64 0, .int .i64 1, V14, .bool false, .bool false, .int .i64 0, .int .i64 1]) (X45.heap.size) 43 #[.int .i64 0, .int .i64 1, V14, .bool false, .bool false, .int .i64 0, .int .i64 1] := Av.bset_row K14
     replace BX : Below w.heap.size w (X51.setRow (X45.heap.size) #[.int .i64 0, .int .i64 1, V14, .bool false, .bool false, .int .i64 0, .int .i64 1]) := below_setRow BX (by omega) _
     clear H9
     generalize X51.setRow (X45.heap.size) #[.int .i64 0, .int .i64 1, V14, .bool false, .bool false, .int .i64 0, .int .i64 1] = X52 at *
     refine hK.out _ _ K6 (fun hHeld => ?_)
     clear hK K
     try simp only [getElem_toArray, getElem_cons_zero, getElem_cons_succ, Act.put, setIfInBounds_toArray, set_cons_zero, set_cons_succ]
     refine wpAnyH_ready (rs := [11]) (by kernel_rfl) (by simp) ?_
     refine .cons rfl (fun K hK => ?_) .nil
     have H9 := o2 2 A15 1 c15
     refine Av.step_store_row rfl 24 (.tmp 15) (.tmp 69) rfl (X0.heap.size) #[.int .i64 2, .slice A15 1 c15] rfl rfl 24 _ K15 (by kernel_rfl) rfl H9 ?_
     replace BC := below_setRow (g := X0.heap.size) BC (by omega) #[.int .i64 2, .slice A15 1 c15]
     replace HV14 := HV14.step_ne (stp_row K15 #[.int .i64 2, .slice A15 1 c15]) (by decide) NHV14 (Nat.zero_le _)
     replace P15 := P15.step (stp_row K15 #[.int .i64 2, .slice A15 1 c15]) (by decide) (Nat.zero_le _)
     replace K6 : Blk (X52.setRow (X0.heap.size) #[.int .i64 2, .slice A15 1 c15]) (g6) 26 #[.int .i64 0, .int .i64 0, .int .i64 1, .int .i64 2, .slice A6 1 c6] := Av.bother_row K6 (by omega)
     replace K15 : Blk (X52.setRow (X0.heap.size) #[.int .i64 2, .slice A15 1 c15]) (X0.heap.size) 24 #[.int .i64 2, .slice A15 1 c15] := Av.bset_row K15
     replace K14 : Blk (X52.setRow (X0.heap.size) #[.int .i64 2, .slice A15 1 c15]) (X45.heap.size) 43 #[.int .i64 0, .int .i64 1, V14, .bool false, .bool false, .int .i64 0, .int .i64 1] := Av.bother_row K14 (by omega)
     replace BX : Below w.heap.size w (X52.setRow (X0.heap.size) #[.int .i64 2, .slice A15 1 c15]) := below_setRow BX (by omega) _
     clear H9
     generalize X52.setRow (X0.heap.size) #[.int .i64 2, .slice A15 1 c15] = X53 at *
     refine hK.out _ _ K6 (fun hHeld => ?_)
     clear hK K
     try simp only [getElem_toArray, getElem_cons_zero, getElem_cons_succ, Act.put, setIfInBounds_toArray, set_cons_zero, set_cons_succ]
     refine wpAnyH_take (i := 12) (v := .bool true) rfl (by kernel_rfl) (by kernel_rfl) (by kernel_rfl) (fun _ _ _ h => h) (.inl ⟨by first | rfl | go_simp, by intro u h; (try dsimp only at h); go_simp⟩) ‹_› ?_
     simp only [getElem_toArray, getElem_cons_zero, getElem_cons_succ, Act.put, setIfInBounds_toArray, set_cons_zero, set_cons_succ]
     refine wpAnyH_take (i := 13) (v := .bool false) rfl (by kernel_rfl) (by kernel_rfl) (by kernel_rfl) (fun _ _ _ h => h) (.inl ⟨by first | rfl | go_simp, by intro u h; (try dsimp only at h); go_simp⟩) ‹_› ?_
     simp only [getElem_toArray, getElem_cons_zero, getElem_cons_succ, Act.put, setIfInBounds_toArray, set_cons_zero, set_cons_succ]
     refine wpAnyH_done (by kernel_rfl) ?_ _
     clear hHeld
     go_wp2_with fail
     go_meet
     exact ⟨X45.heap.size, X0.heap.size, V14, l14, A15, c15, rfl, rfl, rfl, oV14, hl14, K14, K15, HV14.less (Nat.zero_le _) (Nat.le_refl _), P15, BC, BX⟩
   ·
    go_simp
    have hxc := BC.size
    have b9 := (Below.refl X44.heap.size X44).alloc (Nat.le_refl _) (.cells #[.int .i64 0, .int .i64 0, .slice none 0 0, .bool false, .bool false, .int .i64 0, .int .i64 0] 43)
    have K14 := Blk.fresh X44 43 #[.int .i64 0, .int .i64 0, .slice none 0 0, .bool false, .bool false, .int .i64 0, .int .i64 0]
    have hxK14K6 := K6.lt
    have hxK14K15 := K15.lt
    have hbK14 : W11.heap.size ≤ X44.heap.size := hxc
    clear hxc
    generalize X44.alloc (.cells #[.int .i64 0, .int .i64 0, .slice none 0 0, .bool false, .bool false, .int .i64 0, .int .i64 0] 43) = X54 at *
    replace K6 := K6.below b9 K6.lt
    replace K15 := K15.below b9 K15.lt
    replace BX := thenB BX b9
    replace BC := thenB BC b9
    clear b9
    refine hK.out _ _ K6 (fun hHeld => ?_)
    clear hK K
    try simp only [getElem_toArray, getElem_cons_zero, getElem_cons_succ, Act.put, setIfInBounds_toArray, set_cons_zero, set_cons_succ]
    refine wpAnyH_ready (rs := [0]) (by kernel_rfl) (by simp) ?_
    refine .cons rfl (fun K hK => ?_) .nil
    go_simp
    refine (new_any X54).mono ?_
    rintro e X55 ⟨rfl, b9⟩
    replace K6 := K6.below b9 K6.lt
    replace K15 := K15.below b9 K15.lt
    replace K14 := K14.below b9 K14.lt
    replace BX := thenB BX b9
    replace BC := thenB BC b9
    clear b9
    refine hK.out _ _ K6 (fun hHeld => ?_)
    clear hK K
    try simp only [getElem_toArray, getElem_cons_zero, getElem_cons_succ, Act.put, setIfInBounds_toArray, set_cons_zero, set_cons_succ]
    refine wpAnyH_ready (rs := [2]) (by kernel_rfl) (by simp) ?_
    refine .cons rfl (fun K hK => ?_) .nil
    go_simp
    have hNHV14 := K15.lt
    refine (ex_t2 X55 A6 c6 (P6.below BC).gp).mono ?_
    rintro e X56 ⟨V14, l14, A15, c15, rfl, HV14, hl14, oV14, P15, b9⟩
    have NHV14 : V14.ownBlock ≠ some (X0.heap.size) := fun e9 => by have h9 := (HV14.2.2 _ e9).1; omega
    clear hNHV14
    replace K6 := K6.below b9 K6.lt
    replace K15 := K15.below b9 K15.lt
    replace K14 := K14.below b9 K14.lt
    replace BX := thenB BX b9
    replace BC := thenB BC b9
    clear b9
    refine hK.out _ _ K6 (fun hHeld => ?_)
    clear hK K
    try simp only [getElem_toArray, getElem_cons_zero, getElem_cons_succ, Act.put, setIfInBounds_toArray, set_cons_zero, set_cons_succ]
    refine wpAnyH_take (i := 3) (v := .tuple #[.agg #[.int .i64 0, .int .i64 1, V14, .bool false, .bool false, .int .i64 0, .int .i64 1], .agg #[.int .i64 2, .slice A15 1 c15], .bool true, .bool false]) rfl (by kernel_rfl) (by kernel_rfl) (by kernel_rfl) (fun _ _ _ h => h) (.inl ⟨by first | rfl | go_simp, by intro u h; (try dsimp only at h); go_simp⟩) ‹_› ?_
    simp only [getElem_toArray, getElem_cons_zero, getElem_cons_succ, Act.put, setIfInBounds_toArray, set_cons_zero, set_cons_succ]
    refine wpAnyH_take (i := 4) (v := .agg #[.int .i64 0, .int .i64 1, V14, .bool false, .bool false, .int .i64 0, .int .i64 1]) rfl (by kernel_rfl) (by kernel_rfl) (by kernel_rfl) (fun _ _ _ h => h) (.inl ⟨by first | rfl | go_simp, by intro u h; (try dsimp only at h); go_simp⟩) ‹_› ?_
    simp only [getElem_toArray, getElem_cons_zero, getElem_cons_succ, Act.put, setIfInBounds_toArray, set_cons_zero, set_cons_succ]
    refine wpAnyH_take (i := 5) (v := .agg #[.int .i64 2, .slice A15 1 c15]) rfl (by kernel_rfl) (by kernel_rfl) (by kernel_rfl) (fun _ _ _ h => h) (.inl ⟨by first | rfl | go_simp, by intro u h; (try dsimp only at h); go_simp⟩) ‹_› ?_
    simp only [getElem_toArray, getElem_cons_zero, getElem_cons_succ, Act.put, setIfInBounds_toArray, set_cons_zero, set_cons_succ]
    refine wpAnyH_take (i := 6) (v := .bool true) rfl (by kernel_rfl) (by kernel_rfl) (by kernel_rfl) (fun _ _ _ h => h) (.inl ⟨by first | rfl | go_simp, by intro u h; (try dsimp only at h); go_simp⟩) ‹_› ?_
    simp only [getElem_toArray, getElem_cons_zero, getElem_cons_succ, Act.put, setIfInBounds_toArray, set_cons_zero, set_cons_succ]
    refine wpAnyH_take (i := 7) (v := .bool false) rfl (by kernel_rfl) (by kernel_rfl) (by kernel_rfl) (fun _ _ _ h => h) (.inl ⟨by first | rfl | go_simp, by intro u h; (try dsimp only at h); go_simp⟩) ‹_› ?_
    simp only [getElem_toArray, getElem_cons_zero, getElem_cons_succ, Act.put, setIfInBounds_toArray, set_cons_zero, set_cons_succ]
    refine wpAnyH_ready (rs := [10]) (by kernel_rfl) (by simp) ?_
    refine .cons rfl (fun K hK => ?_) .nil
    have H9 := o7 oV14 0 1 0 1 false false
    refine Av.step_store_row rfl 43 (.tmp 14) (.tmp 68) rfl (X44.heap.size) #[.int .i64 0, .int .i64 1, V14, .bool false, .bool false, .int .i64 0, .int .i64 1] rfl rfl 43 _ K14 (by kernel_rfl) rfl H9 ?_
    replace BC := below_setRow (g := X44.heap.size) BC (by omega) #[.int .i64 0, .int .i64 1, V14, .bool false, .bool false, .int .i64 0, .int .i64 1]
    replace HV14 := HV14.step (stp_row K14 #[.int .i64 0, .int .i64 1, V14, .bool false, .bool false, .int .i64 0, .int .i64 1]) (by decide) (by decide) (Nat.zero_le _)
    replace P15 := P15.step (stp_row K14 #[.int .i64 0, .int .i64 1, V14, .bool false, .bool false, .int .i64 0, .int .i64 1]) (by decide) (Nat.zero_le _)
    replace K6 : Blk (X56.setRow (X44.heap.size) #[.int .i64 0, .int .i64 1, V14, .bool false, .bool false, .int .i64 0, .int .i64 1]) (g6) 26 #[.int .i64 0, .int .i64 0, .int .i64 1, .int .i64 2, .slice A6 1 c6] := Av.bother_row K6 (by omega)
    replace K15 : Blk (X56.setRow (X44.heap.size) #[.int .i64 0, .int .i64 1, V14, .bool false, .bool false, .int .i64 0, .int .i64 1]) (X0.heap.size) 24 #[.int .i64 0, .slice none 0 0] := Av.bother_row K15 (by omega)
    replace K14 : Blk (X56.setRow (X44.heap.size) #[.int .i64 0, .int .i64 1, V14, .bool false, .bool false, .int .i64 0, .int .i64 1]) (X44.heap.size) 43 #[.int .i64 0, .int .i64 1, V14, .bool false, .bool false, .int .i64 0, .int .i64 1] := Av.bset_row K14
    replace BX : Below w.heap.size w (X56.setRow (X44.heap.size) #[.int .i64 0, .int .i64 1, V14, .bool false, .bool false, .int .i64 0, .int .i64 1]) := below_setRow BX (by omega) _
    clear H9
    generalize X56.setRow (X44.heap.size) #[.int .i64 0, .int .i64 1, V14, .bool false, .bool false, .int .i64 0, .int .i64 1] = X57 at *
    refine hK.out _ _ K6 (fun hHeld => ?_)
    clear hK K
    try simp only [getElem_toArray, getElem_cons_zero, getElem_cons_succ, Act.put, setIfInBounds_toArray, set_cons_zero, set_cons_succ]
    refine wpAnyH_ready (rs := [11]) (by kernel_rfl) (by simp) ?_
    refine .cons rfl (fun K hK => ?_) .nil
    have H9 := o2 2 A15 1 c15
    refine Av.step_store_row rfl 24 (.tmp 15) (.tmp 69) rfl (X0.heap.size) #[.int .i64 2, .slice A15 1 c15] rfl rfl 24 _ K15 (by kernel_rfl) rfl H9 ?_
    replace BC := below_setRow (g := X0.heap.size) BC (by omega) #[.int .i64 2, .slice A15 1 c15]
    replace HV14 := HV14.step_ne (stp_row K15 #[.int .i64 2, .slice A15 1 c15]) (by decide) NHV14 (Nat.zero_le _)
    replace P15 := P15.step (stp_row K15 #[.int .i64 2, .slice A15 1 c15]) (by decide) (Nat.zero_le _)
    replace K6 : Blk (X57.setRow (X0.heap.size) #[.int .i64 2, .slice A15 1 c15]) (g6) 26 #[.int .i64 0, .int .i64 0, .int .i64 1, .int .i64 2, .slice A6 1 c6] := Av.bother_row K6 (by omega)
    replace K15 : Blk (X57.setRow (X0.heap.size) #[.int .i64 2, .slice A15 1 c15]) (X0.heap.size) 24 #[.int .i64 2, .slice A15 1 c15] := Av.bset_row K15
    replace K14 : Blk (X57.setRow (X0.heap.size) #[.int .i64 2, .slice A15 1 c15]) (X44.heap.size) 43 #[.int .i64 0, .int .i64 1, V14, .bool false, .bool false, .int .i64 0, .int .i64 1] := Av.bother_row K14 (by omega)
    replace BX : Below w.heap.size w (X57.setRow (X0.heap.size) #[.int .i64 2, .slice A15 1 c15]) := below_setRow BX (by omega) _
    clear H9
    generalize X57.setRow (X0.heap.size) #[.int .i64 2, .slice A15 1 c15] = X58 at *
    refine hK.out _ _ K6 (fun hHeld => ?_)
    clear hK K
    try simp only [getElem_toArray, getElem_cons_zero, getElem_cons_succ, Act.put, setIfInBounds_toArray, set_cons_zero, set_cons_succ]
    refine wpAnyH_take (i := 12) (v := .bool true) rfl (by kernel_rfl) (by kernel_rfl) (by kernel_rfl) (fun _ _ _ h => h) (.inl ⟨by first | rfl | go_simp, by intro u h; (try dsimp only at h); go_simp⟩) ‹_› ?_
    simp only [getElem_toArray, getElem_cons_zero, getElem_cons_succ, Act.put, setIfInBounds_toArray, set_cons_zero, set_cons_succ]
    refine wpAnyH_take (i := 13) (v := .bool false) rfl (by kernel_rfl) (by kernel_rfl) (by kernel_rfl) (fun _ _ _ h => h) (.inl ⟨by first | rfl | go_simp, by intro u h; (try dsimp only at h); go_simp⟩) ‹_› ?_
    simp only [getElem_toArray, getElem_cons_zero, getElem_cons_succ, Act.put, setIfInBounds_toArray, set_cons_zero, set_cons_succ]
    refine wpAnyH_done (by kernel_rfl) ?_ _
    clear hHeld
    go_wp2_with fail
    go_meet
    exact ⟨X44.heap.size, X0.heap.size, V14, l14, A15, c15, rfl, rfl, rfl, oV14, hl14, K14, K15, HV14.less (Nat.zero_le _) (Nat.le_refl _), P15, BC, BX⟩
 clear BC BX
 obtain ⟨g14, g15, V14, l14, A15, c15, rfl, rfl, rfl, oV14, hl14, K14, K15, HV14, P15, BC, BX⟩ := hcut
 replace K1 := K1.below BC K1.lt
 replace K2 := K2.below BC K2.lt
 replace K3 := K3.below BC K3.lt
 replace K6 := K6.below BC K6.lt
 replace K8 := K8.below BC K8.lt
 replace K9 := K9.below BC K9.lt
 replace K13 := K13.below BC K13.lt
 replace P1 := P1.below BC
 replace P2 := P2.below BC
 replace HV5 := HV5.below BC
 replace P6 := P6.below BC
 replace P8 := P8.below BC
 replace P13 := P13.below BC
 clear BC
 rename World => W12
 clear W11
 go_upto_region 10 with (first | (refine wpList_load_row rfl 43 (.tmp 14) rfl (g14) rfl 43 #[.int .i64 0, .int .i64 1, V14, .bool false, .bool false, .int .i64 0, .int .i64 1] (0, 0) _ K14 Try.underlying43 rfl (by kernel_rfl) ?_) | (refine wpList_load_row rfl 26 (.tmp 6) rfl (g6) rfl 26 #[.int .i64 0, .int .i64 0, .int .i64 1, .int .i64 2, .slice A6 1 c6] (0, 0) _ K6 Try.underlying26 rfl (by kernel_rfl) ?_) | (go_at_call 33; refine (ex_t3 _ V14 l14 A6 c6 HV14 hl14.out P6.gp).mono ?_; rintro e W3 ⟨V18, l18, A19, c19, rfl, HV18, hl18, oV18, _, b9⟩; replace K1 := K1.below b9 K1.lt; replace K2 := K2.below b9 K2.lt; replace K3 := K3.below b9 K3.lt; replace K6 := K6.below b9 K6.lt; replace K8 := K8.below b9 K8.lt; replace K9 := K9.below b9 K9.lt; replace K13 := K13.below b9 K13.lt; replace K14 := K14.below b9 K14.lt; replace K15 := K15.below b9 K15.lt; replace P1 := P1.below b9; replace P2 := P2.below b9; replace HV5 := HV5.below b9; replace P6 := P6.below b9; replace P8 := P8.below b9; replace P13 := P13.below b9; replace HV14 := HV14.below b9; replace P15 := P15.below b9; replace BX := thenB BX b9; clear b9; clear HV18 hl18 HV14 hl14; have h14 := K14.lt; have h15 := K15.lt; have h13 := K13.lt; have h3 := K3.lt; have H1 : (#[.int .i64 0, .int .i64 1, V18, .bool false, .bool false, .int .i64 0, .int .i64 1] : Array Value).all (·.oneCell') = true := (by rw [← Array.all_toList]; simp only [List.all_cons, List.all_nil, oV18, Bool.and_true, Bool.and_self]; rfl); have H2 : (#[.int .i64 0, .slice A19 0 c19] : Array Value).all (·.oneCell') = true := (by rw [← Array.all_toList]; rfl)) | (refine wpList_store_row rfl 43 (.tmp 18) _ rfl (W3.heap.size) #[.int .i64 0, .int .i64 1, V18, .bool false, .bool false, .int .i64 0, .int .i64 1] rfl rfl 43 _ ((Blk.fresh W3 43 #[.int .i64 0, .int .i64 0, .slice none 0 0, .bool false, .bool false, .int .i64 0, .int .i64 0]).alloc (.cells #[.int .i64 0, .slice none 0 0] 24)) (by kernel_rfl) rfl H1 ?_) | (refine wpList_store_row rfl 24 (.tmp 19) _ rfl (W3.heap.size + 1) #[.int .i64 0, .slice A19 0 c19] rfl rfl 24 _ (Av.bother_row Av.Blk.next (by omega)) (by kernel_rfl) rfl H2 ?_))
 clear H1 H2
 have NHV5 : ∀ g9, V5.ownBlock = some g9 → g9 < W3.heap.size := fun g9 e9 => (HV5.2.2 g9 e9).2
 replace K1 := K1.alloc (.cells #[.int .i64 0, .int .i64 0, .slice none 0 0, .bool false, .bool false, .int .i64 0, .int .i64 0] 43)
 replace K2 := K2.alloc (.cells #[.int .i64 0, .int .i64 0, .slice none 0 0, .bool false, .bool false, .int .i64 0, .int .i64 0] 43)
 replace K3 := K3.alloc (.cells #[.int .i64 0, .int .i64 0, .slice none 0 0, .bool false, .bool false, .int .i64 0, .int .i64 0] 43)
 replace K6 := K6.alloc (.cells #[.int .i64 0, .int .i64 0, .slice none 0 0, .bool false, .bool false, .int .i64 0, .int .i64 0] 43)
 replace K8 := K8.alloc (.cells #[.int .i64 0, .int .i64 0, .slice none 0 0, .bool false, .bool false, .int .i64 0, .int .i64 0] 43)
 replace K9 := K9.alloc (.cells #[.int .i64 0, .int .i64 0, .slice none 0 0, .bool false, .bool false, .int .i64 0, .int .i64 0] 43)
 replace K13 := K13.alloc (.cells #[.int .i64 0, .int .i64 0, .slice none 0 0, .bool false, .bool false, .int .i64 0, .int .i64 0] 43)
 replace K14 := K14.alloc (.cells #[.int .i64 0, .int .i64 0, .slice none 0 0, .bool false, .bool false, .int .i64 0, .int .i64 0] 43)
 replace K15 := K15.alloc (.cells #[.int .i64 0, .int .i64 0, .slice none 0 0, .bool false, .bool false, .int .i64 0, .int .i64 0] 43)
 replace P1 := P1.below ((Below.refl _ _).alloc (Nat.le_refl _) (.cells #[.int .i64 0, .int .i64 0, .slice none 0 0, .bool false, .bool false, .int .i64 0, .int .i64 0] 43))
 replace P2 := P2.below ((Below.refl _ _).alloc (Nat.le_refl _) (.cells #[.int .i64 0, .int .i64 0, .slice none 0 0, .bool false, .bool false, .int .i64 0, .int .i64 0] 43))
 replace HV5 := HV5.below ((Below.refl _ _).alloc (Nat.le_refl _) (.cells #[.int .i64 0, .int .i64 0, .slice none 0 0, .bool false, .bool false, .int .i64 0, .int .i64 0] 43))
 replace P6 := P6.below ((Below.refl _ _).alloc (Nat.le_refl _) (.cells #[.int .i64 0, .int .i64 0, .slice none 0 0, .bool false, .bool false, .int .i64 0, .int .i64 0] 43))
 replace P8 := P8.below ((Below.refl _ _).alloc (Nat.le_refl _) (.cells #[.int .i64 0, .int .i64 0, .slice none 0 0, .bool false, .bool false, .int .i64 0, .int .i64 0] 43))
 replace P13 := P13.below ((Below.refl _ _).alloc (Nat.le_refl _) (.cells #[.int .i64 0, .int .i64 0, .slice none 0 0, .bool false, .bool false, .int .i64 0, .int .i64 0] 43))
 replace P15 := P15.below ((Below.refl _ _).alloc (Nat.le_refl _) (.cells #[.int .i64 0, .int .i64 0, .slice none 0 0, .bool false, .bool false, .int .i64 0, .int .i64 0] 43))
 replace BX := BX.alloc BX.size (.cells #[.int .i64 0, .int .i64 0, .slice none 0 0, .bool false, .bool false, .int .i64 0, .int .i64 0] 43)
 have K18 := Blk.fresh W3 43 #[.int .i64 0, .int .i64 0, .slice none 0 0, .bool false, .bool false, .int .i64 0, .int .i64 0]
 replace K1 := K1.alloc (.cells #[.int .i64 0, .slice none 0 0] 24)
 replace K2 := K2.alloc (.cells #[.int .i64 0, .slice none 0 0] 24)
 replace K3 := K3.alloc (.cells #[.int .i64 0, .slice none 0 0] 24)
 replace K6 := K6.alloc (.cells #[.int .i64 0, .slice none 0 0] 24)
 replace K8 := K8.alloc (.cells #[.int .i64 0, .slice none 0 0] 24)
 replace K9 := K9.alloc (.cells #[.int .i64 0, .slice none 0 0] 24)
 replace K13 := K13.alloc (.cells #[.int .i64 0, .slice none 0 0] 24)
 replace K14 := K14.alloc (.cells #[.int .i64 0, .slice none 0 0] 24)
 replace K15 := K15.alloc (.cells #[.int .i64 0, .slice none 0 0] 24)
 replace K18 := K18.alloc (.cells #[.int .i64 0, .slice none 0 0] 24)
 replace P1 := P1.below ((Below.refl _ _).alloc (Nat.le_refl _) (.cells #[.int .i64 0, .slice none 0 0] 24))
 replace P2 := P2.below ((Below.refl _ _).alloc (Nat.le_refl _) (.cells #[.int .i64 0, .slice none 0 0] 24))
 replace HV5 := HV5.below ((Below.refl _ _).alloc (Nat.le_refl _) (.cells #[.int .i64 0, .slice none 0 0] 24))
 replace P6 := P6.below ((Below.refl _ _).alloc (Nat.le_refl _) (.cells #[.int .i64 0, .slice none 0 0] 24))
 replace P8 := P8.below ((Below.refl _ _).alloc (Nat.le_refl _) (.cells #[.int .i64 0, .slice none 0 0] 24))
 replace P13 := P13.below ((Below.refl _ _).alloc (Nat.le_refl _) (.cells #[.int .i64 0, .slice none 0 0] 24))
 replace P15 := P15.below ((Below.refl _ _).alloc (Nat.le_refl _) (.cells #[.int .i64 0, .slice none 0 0] 24))
 replace BX := BX.alloc BX.size (.cells #[.int .i64 0, .slice none 0 0] 24)
 have K19 := (Av.Blk.next : Blk ((W3.alloc (.cells #[.int .i64 0, .int .i64 0, .slice none 0 0, .bool false, .bool false, .int .i64 0, .int .i64 0] 43)).alloc (.cells #[.int .i64 0, .slice none 0 0] 24)) (W3.heap.size + 1) 24 #[.int .i64 0, .slice none 0 0])
 obtain ⟨g18, e18⟩ : ∃ g18, W3.heap.size = g18 := ⟨_, rfl⟩
 have hg18 : g13 < g18 ∧ g14 < g18 ∧ g15 < g18 := by omega
 rw [e18] at K18 K19 h14 h15 h13 h3 NHV5 ⊢
 clear e18 h14 h15 h13 h3
 generalize (W3.alloc (.cells #[.int .i64 0, .int .i64 0, .slice none 0 0, .bool false, .bool false, .int .i64 0, .int .i64 0] 43)).alloc (.cells #[.int .i64 0, .slice none 0 0] 24) = W13 at *
 have sR := stp_row K18 #[.int .i64 0, .int .i64 1, V18, .bool false, .bool false, .int .i64 0, .int .i64 1]
 replace P1 := P1.step sR (by decide) (by omega)
 replace P2 := P2.step sR (by decide) (by omega)
 replace HV5 := HV5.step sR (by decide) (by decide) (by omega)
 replace P6 := P6.step sR (by decide) (by omega)
 replace P8 := P8.step sR (by decide) (by omega)
 replace P13 := P13.step sR (by decide) (by omega)
 replace P15 := P15.step sR (by decide) (by omega)
 replace K1 := sR.blk_ne K1 (by omega)
 replace K2 := sR.blk_ne K2 (by omega)
 replace K3 := sR.blk_ne K3 (by omega)
 replace K6 := sR.blk_ne K6 (by omega)
 replace K8 := sR.blk_ne K8 (by omega)
 replace K9 := sR.blk_ne K9 (by omega)
 replace K13 := sR.blk_ne K13 (by omega)
 replace K14 := sR.blk_ne K14 (by omega)
 replace K15 := sR.blk_ne K15 (by omega)
 replace K19 := sR.blk_ne K19 (by omega)
 replace BX := below_setRow (g := g18) BX (by omega) #[.int .i64 0, .int .i64 1, V18, .bool false, .bool false, .int .i64 0, .int .i64 1]
 clear sR
 replace K18 := Av.bset_row (cs' := #[.int .i64 0, .int .i64 1, V18, .bool false, .bool false, .int .i64 0, .int .i64 1]) K18
 have sR := stp_row K19 #[.int .i64 0, .slice A19 0 c19]
 replace P1 := P1.step sR (by decide) (by omega)
 replace P2 := P2.step sR (by decide) (by omega)
 replace HV5 := HV5.step_ne sR (by decide) (fun e9 => by have h9 := NHV5 _ e9; omega) (by omega)
 replace P6 := P6.step sR (by decide) (by omega)
 replace P8 := P8.step sR (by decide) (by omega)
 replace P13 := P13.step sR (by decide) (by omega)
 replace P15 := P15.step sR (by decide) (by omega)
 replace K1 := sR.blk_ne K1 (by omega)
 replace K2 := sR.blk_ne K2 (by omega)
 replace K3 := sR.blk_ne K3 (by omega)
 replace K6 := sR.blk_ne K6 (by omega)
 replace K8 := sR.blk_ne K8 (by omega)
 replace K9 := sR.blk_ne K9 (by omega)
 replace K13 := sR.blk_ne K13 (by omega)
 replace K14 := sR.blk_ne K14 (by omega)
 replace K15 := sR.blk_ne K15 (by omega)
 replace K18 := sR.blk_ne K18 (by omega)
 replace BX := below_setRow (g := g18 + 1) BX (by omega) #[.int .i64 0, .slice A19 0 c19]
 clear sR
 replace K19 := Av.bset_row (cs' := #[.int .i64 0, .slice A19 0 c19]) K19
 generalize (W13.setRow g18 #[.int .i64 0, .int .i64 1, V18, .bool false, .bool false, .int .i64 0, .int .i64 1]).setRow (g18 + 1) #[.int .i64 0, .slice A19 0 c19] = W14 at *
 clear K18 K19
 have BC := Below.refl W14.heap.size W14
 try simp only [Act.put]
 go_cut [23] from 80 to 85 (fun s23 wx => s23 = .int .i64 1 ∧ Below W14.heap.size W14 wx ∧ Below w.heap.size w wx)
 case first =>
  have K3' : Blk W14.drew (g3) 43 #[.int .i64 0, .int .i64 0, V5, .bool true, .bool false, .int .i64 0, .int .i64 0] := Mem.Blk.drew K3
  refine wp_region_held_drew (S := (fun w' => Blk w' (g3) 43 #[.int .i64 0, .int .i64 0, V5, .bool true, .bool false, .int .i64 0, .int .i64 0])) (by kernel_rfl) ?_ (fun hHeld => ?_)
  · exact K3'
  replace K3 := K3'
  clear K3'
  replace BX : Below w.heap.size w W14.drew := BX.drew
  replace BC := BC.drew
  generalize W14.drew = X0 at *
  refine wpAnyH_take (i := 0) (v := .agg #[.int .i64 0, .int .i64 0, V5, .bool true, .bool false, .int .i64 0, .int .i64 0]) rfl (by kernel_rfl) (by kernel_rfl) (by kernel_rfl) (fun _ _ _ h => h) (Av.yields_part (by first | rfl | go_simp) _ _ rfl (g3) 0 rfl #[.int .i64 0, .int .i64 0, V5, .bool true, .bool false, .int .i64 0, .int .i64 0] _ 43 #[.int .i64 0, .int .i64 0, V5, .bool true, .bool false, .int .i64 0, .int .i64 0] (fun w9 hSw => hSw) rfl Try.underlying43 rfl (by kernel_rfl)) ‹_› ?_
  simp only [getElem_toArray, getElem_cons_zero, getElem_cons_succ, Act.put, setIfInBounds_toArray, set_cons_zero, set_cons_succ]
  refine wpAnyH_ready (rs := [1, 6]) (by kernel_rfl) (by simp) ?_
  refine AllReadyH.cons rfl (fun K hK => ?_) (AllReadyH.cons rfl (fun K hK => ?_) (AllReadyH.nil))
  ·
   go_simp
   refine (rblankpk_any X0).mono ?_
   rintro e X1 ⟨rfl, b9⟩
   replace K3 := K3.below b9 K3.lt
   replace BX := thenB BX b9
   replace BC := thenB BC b9
   clear b9
   refine hK.out _ _ K3 (fun hHeld => ?_)
   clear hK K
   try simp only [getElem_toArray, getElem_cons_zero, getElem_cons_succ, Act.put, setIfInBounds_toArray, set_cons_zero, set_cons_succ]
   refine wpAnyH_ready (rs := [2, 6]) (by kernel_rfl) (by simp) ?_
   refine AllReadyH.cons rfl (fun K hK => ?_) (AllReadyH.cons rfl (fun K hK => ?_) (AllReadyH.nil))
   ·
    go_simp
    refine (ex_q3 X1 V5 l5 (HV5.below BC) hl5.out).mono ?_
    rintro e X2 ⟨V22, l22, rfl, _, _, oV22, b9⟩
    replace K3 := K3.below b9 K3.lt
    replace BX := thenB BX b9
    replace BC := thenB BC b9
    clear b9
    refine hK.out _ _ K3 (fun hHeld => ?_)
    clear hK K
    try simp only [getElem_toArray, getElem_cons_zero, getElem_cons_succ, Act.put, setIfInBounds_toArray, set_cons_zero, set_cons_succ]
    refine wpAnyH_take (i := 3) (v := .tuple #[.agg #[.int .i64 0, .int .i64 0, V22, .bool true, .bool false, .int .i64 0, .int .i64 0], .int .i64 1]) rfl (by kernel_rfl) (by kernel_rfl) (by kernel_rfl) (fun _ _ _ h => h) (.inl ⟨by first | rfl | go_simp, by intro u h; (try dsimp only at h); go_simp⟩) ‹_› ?_
    simp only [getElem_toArray, getElem_cons_zero, getElem_cons_succ, Act.put, setIfInBounds_toArray, set_cons_zero, set_cons_succ]
    refine wpAnyH_take (i := 4) (v := .agg #[.int .i64 0, .int .i64 0, V22, .bool true, .bool false, .int .i64 0, .int .i64 0]) rfl (by kernel_rfl) (by kernel_rfl) (by kernel_rfl) (fun _ _ _ h => h) (.inl ⟨by first | rfl | go_simp, by intro u h; (try dsimp only at h); go_simp⟩) ‹_› ?_
    simp only [getElem_toArray, getElem_cons_zero, getElem_cons_succ, Act.put, setIfInBounds_toArray, set_cons_zero, set_cons_succ]
    refine wpAnyH_take (i := 5) (v := .int .i64 1) rfl (by kernel_rfl) (by kernel_rfl) (by kernel_rfl) (fun _ _ _ h => h) (.inl ⟨by first | rfl | go_simp, by intro u h; (try dsimp only at h); go_simp⟩) ‹_› ?_
    simp only [getElem_toArray, getElem_cons_zero, getElem_cons_succ, Act.put, setIfInBounds_toArray, set_cons_zero, set_cons_succ]
    refine wpAnyH_ready (rs := [6]) (by kernel_rfl) (by simp) ?_
    refine .cons rfl (fun K hK => ?_) .nil
    go_simp
    have hxc := BC.size
    have b9 := (Below.refl X2.heap.size X2).alloc (Nat.le_refl _) (.cells #[.int .i64 0, .int .i64 0, .slice none 0 0, .bool false, .bool false, .int .i64 0, .int .i64 0] 43)
    have K22 := Blk.fresh X2 43 #[.int .i64 0, .int .i64 0, .slice none 0 0, .bool false, .bool false, .int .i64 0, .int .i64 0]
    have hxK22K3 := K3.lt
    have hbK22 : W14.heap.size ≤ X2.heap.size := hxc
    clear hxc
    generalize X2.alloc (.cells #[.int .i64 0, .int .i64 0, .slice none 0 0, .bool false, .bool false, .int .i64 0, .int .i64 0] 43) = X3 at *
    replace K3 := K3.below b9 K3.lt
    replace BX := thenB BX b9
    replace BC := thenB BC b9
    clear b9
    refine hK.out _ _ K3 (fun hHeld => ?_)
    clear hK K
    try simp only [getElem_toArray, getElem_cons_zero, getElem_cons_succ, Act.put, setIfInBounds_toArray, set_cons_zero, set_cons_succ]
    refine wpAnyH_ready (rs := [7]) (by kernel_rfl) (by simp) ?_
    refine .cons rfl (fun K hK => ?_) .nil
    have H9 := o7 oV22 0 0 0 0 true false
    refine Av.step_store_row rfl 43 (.tmp 22) (.tmp 84) rfl (X2.heap.size) #[.int .i64 0, .int .i64 0, V22, .bool true, .bool false, .int .i64 0, .int .i64 0] rfl rfl 43 _ K22 (by kernel_rfl) rfl H9 ?_
    replace BC := below_setRow (g := X2.heap.size) BC (by omega) #[.int .i64 0, .int .i64 0, V22, .bool true, .bool false, .int .i64 0, .int .i64 0]
    replace K3 : Blk (X3.setRow (X2.heap.size) #[.int .i64 0, .int .i64 0, V22, .bool true, .bool false, .int .i64 0, .int .i64 0]) (g3) 43 #[.int .i64 0, .int .i64 0, V5, .bool true, .bool false, .int .i64 0, .int .i64 0] := Av.bother_row K3 (by omega)
    replace K22 : Blk (X3.setRow (X2.heap.size) #[.int .i64 0, .int .i64 0, V22, .bool true, .bool false, .int .i64 0, .int .i64 0]) (X2.heap.size) 43 #[.int .i64 0, .int .i64 0, V22, .bool true, .bool false, .int .i64 0, .int .i64 0] := Av.bset_row K22
    replace BX : Below w.heap.size w (X3.setRow (X2.heap.size) #[.int .i64 0, .int .i64 0, V22, .bool true, .bool false, .int .i64 0, .int .i64 0]) := below_setRow BX (by omega) _
    clear H9
    generalize X3.setRow (X2.heap.size) #[.int .i64 0, .int .i64 0, V22, .bool true, .bool false, .int .i64 0, .int .i64 0] = X4 at *
    refine hK.out _ _ K3 (fun hHeld => ?_)
    clear hK K
    try simp only [getElem_toArray, getElem_cons_zero, getElem_cons_succ, Act.put, setIfInBounds_toArray, set_cons_zero, set_cons_succ]
    refine wpAnyH_take (i := 8) (v := .int .i64 1) rfl (by kernel_rfl) (by kernel_rfl) (by kernel_rfl) (fun _ _ _ h => h) (.inl ⟨by first | rfl | go_simp, by intro u h; (try dsimp only at h); go_simp⟩) ‹_› ?_
    simp only [getElem_toArray, getElem_cons_zero, getElem_cons_succ, Act.put, setIfInBounds_toArray, set_cons_zero, set_cons_succ]
    refine wpAnyH_done (by kernel_rfl) ?_ _
    clear hHeld
    go_wp2_with fail
    go_meet
    exact ⟨rfl, BC, BX⟩
   ·
    go_simp
    have hxc := BC.size
    have b9 := (Below.refl X1.heap.size X1).alloc (Nat.le_refl _) (.cells #[.int .i64 0, .int .i64 0, .slice none 0 0, .bool false, .bool false, .int .i64 0, .int .i64 0] 43)
    have K22 := Blk.fresh X1 43 #[.int .i64 0, .int .i64 0, .slice none 0 0, .bool false, .bool false, .int .i64 0, .int .i64 0]
    have hxK22K3 := K3.lt
    have hbK22 : W14.heap.size ≤ X1.heap.size := hxc
    clear hxc
    generalize X1.alloc (.cells #[.int .i64 0, .int .i64 0, .slice none 0 0, .bool false, .bool false, .int .i64 0, .int .i64 0] 43) = X5 at *
    replace K3 := K3.below b9 K3.lt
    replace BX := thenB BX b9
    replace BC := thenB BC b9
    clear b9
    refine hK.out _ _ K3 (fun hHeld => ?_)
    clear hK K
    try simp only [getElem_toArray, getElem_cons_zero, getElem_cons_succ, Act.put, setIfInBounds_toArray, set_cons_zero, set_cons_succ]
    refine wpAnyH_ready (rs := [2]) (by kernel_rfl) (by simp) ?_
    refine .cons rfl (fun K hK => ?_) .nil
    go_simp
    refine (ex_q3 X5 V5 l5 (HV5.below BC) hl5.out).mono ?_
    rintro e X6 ⟨V22, l22, rfl, _, _, oV22, b9⟩
    replace K3 := K3.below b9 K3.lt
    replace K22 := K22.below b9 K22.lt
    replace BX := thenB BX b9
    replace BC := thenB BC b9
    clear b9
    refine hK.out _ _ K3 (fun hHeld => ?_)
    clear hK K
    try simp only [getElem_toArray, getElem_cons_zero, getElem_cons_succ, Act.put, setIfInBounds_toArray, set_cons_zero, set_cons_succ]
    refine wpAnyH_take (i := 3) (v := .tuple #[.agg #[.int .i64 0, .int .i64 0, V22, .bool true, .bool false, .int .i64 0, .int .i64 0], .int .i64 1]) rfl (by kernel_rfl) (by kernel_rfl) (by kernel_rfl) (fun _ _ _ h => h) (.inl ⟨by first | rfl | go_simp, by intro u h; (try dsimp only at h); go_simp⟩) ‹_› ?_
    simp only [getElem_toArray, getElem_cons_zero, getElem_cons_succ, Act.put, setIfInBounds_toArray, set_cons_zero, set_cons_succ]
    refine wpAnyH_take (i := 4) (v := .agg #[.int .i64 0, .int .i64 0, V22, .bool true, .bool false, .int .i64 0, .int .i64 0]) rfl (by kernel_rfl) (by kernel_rfl) (by kernel_rfl) (fun _ _ _ h => h) (.inl ⟨by first | rfl | go_simp, by intro u h; (try dsimp only at h); go_simp⟩) ‹_› ?_
    simp only [getElem_toArray, getElem_cons_zero, getElem_cons_succ, Act.put, setIfInBounds_toArray, set_cons_zero, set_cons_succ]
    refine wpAnyH_take (i := 5) (v := .int .i64 1) rfl (by kernel_rfl) (by kernel_rfl) (by kernel_rfl) (fun _ _ _ h => h) (.inl ⟨by first | rfl | go_simp, by intro u h; (try dsimp only at h); go_simp⟩) ‹_› ?_
    simp only [getElem_toArray, getElem_cons_zero, getElem_cons_succ, Act.put, setIfInBounds_toArray, set_cons_zero, set_cons_succ]
    refine wpAnyH_ready (rs := [7]) (by kernel_rfl) (by simp) ?_
    refine .cons rfl (fun K hK => ?_) .nil
    have H9 := o7 oV22 0 0 0 0 true false
    refine Av.step_store_row rfl 43 (.tmp 22) (.tmp 84) rfl (X1.heap.size) #[.int .i64 0, .int .i64 0, V22, .bool true, .bool false, .int .i64 0, .int .i64 0] rfl rfl 43 _ K22 (by kernel_rfl) rfl H9 ?_
    replace BC := below_setRow (g := X1.heap.size) BC (by omega) #[.int .i64 0, .int .i64 0, V22, .bool true, .bool false, .int .i64 0, .int .i64 0]
    replace K3 : Blk (X6.setRow (X1.heap.size) #[.int .i64 0, .int .i64 0, V22, .bool true, .bool false, .int .i64 0, .int .i64 0]) (g3) 43 #[.int .i64 0, .int .i64 0, V5, .bool true, .bool false, .int .i64 0, .int .i64 0] := Av.bother_row K3 (by omega)
    replace K22 : Blk (X6.setRow (X1.heap.size) #[.int .i64 0, .int .i64 0, V22, .bool true, .bool false, .int .i64 0, .int .i64 0]) (X1.heap.size) 43 #[.int .i64 0, .int .i64 0, V22, .bool true, .bool false, .int .i64 0, .int .i64 0] := Av.bset_row K22
    replace BX : Below w.heap.size w (X6.setRow (X1.heap.size) #[.int .i64 0, .int .i64 0, V22, .bool true, .bool false, .int .i64 0, .int .i64 0]) := below_setRow BX (by omega) _
    clear H9
    generalize X6.setRow (X1.heap.size) #[.int .i64 0, .int .i64 0, V22, .bool true, .bool false, .int .i64 0, .int .i64 0] = X7 at *
    refine hK.out _ _ K3 (fun hHeld => ?_)
    clear hK K
    try simp only [getElem_toArray, getElem_cons_zero, getElem_cons_succ, Act.put, setIfInBounds_toArray, set_cons_zero, set_cons_succ]
    refine wpAnyH_take (i := 8) (v := .int .i64 1) rfl (by kernel_rfl) (by kernel_rfl) (by kernel_rfl) (fun _ _ _ h => h) (.inl ⟨by first | rfl | go_simp, by intro u h; (try dsimp only at h); go_simp⟩) ‹_› ?_
    simp only [getElem_toArray, getElem_cons_zero, getElem_cons_succ, Act.put, setIfInBounds_toArray, set_cons_zero, set_cons_succ]
    refine wpAnyH_done (by kernel_rfl) ?_ _
    clear hHeld
    go_wp2_with fail
    go_meet
    exact ⟨rfl, BC, BX⟩
  ·
   go_simp
   have hxc := BC.size
   have b9 := (Below.refl X0.heap.size X0).alloc (Nat.le_refl _) (.cells #[.int .i64 0, .int .i64 0, .slice none 0 0, .bool false, .bool false, .int .i64 0, .int .i64 0] 43)
   have K22 := Blk.fresh X0 43 #[.int .i64 0, .int .i64 0, .slice none 0 0, .bool false, .bool false, .int .i64 0, .int .i64 0]
   have hxK22K3 := K3.lt
   have hbK22 : W14.heap.size ≤ X0.heap.size := hxc
   clear hxc
   generalize X0.alloc (.cells #[.int .i64 0, .int .i64 0, .slice none 0 0, .bool false, .bool false, .int .i64 0, .int .i64 0] 43) = X8 at *
   replace K3 := K3.below b9 K3.lt
   replace BX := thenB BX b9
   replace BC := thenB BC b9
   clear b9
   refine hK.out _ _ K3 (fun hHeld => ?_)
   clear hK K
   try simp only [getElem_toArray, getElem_cons_zero, getElem_cons_succ, Act.put, setIfInBounds_toArray, set_cons_zero, set_cons_succ]
   refine wpAnyH_ready (rs := [1]) (by kernel_rfl) (by simp) ?_
   refine .cons rfl (fun K hK => ?_) .nil
   go_simp
   refine (rblankpk_any X8).mono ?_
   rintro e X9 ⟨rfl, b9⟩
   replace K3 := K3.below b9 K3.lt
   replace K22 := K22.below b9 K22.lt
   replace BX := thenB BX b9
   replace BC := thenB BC b9
   clear b9
   refine hK.out _ _ K3 (fun hHeld => ?_)
   clear hK K
   try simp only [getElem_toArray, getElem_cons_zero, getElem_cons_succ, Act.put, setIfInBounds_toArray, set_cons_zero, set_cons_succ]
   refine wpAnyH_ready (rs := [2]) (by kernel_rfl) (by simp) ?_
   refine .cons rfl (fun K hK => ?_) .nil
   go_simp
   refine (ex_q3 X9 V5 l5 (HV5.below BC) hl5.out).mono ?_
   rintro e X10 ⟨V22, l22, rfl, _, _, oV22, b9⟩
   replace K3 := K3.below b9 K3.lt
   replace K22 := K22.below b9 K22.lt
   replace BX := thenB BX b9
   replace BC := thenB BC b9
   clear b9
   refine hK.out _ _ K3 (fun hHeld => ?_)
   clear hK K
   try simp only [getElem_toArray, getElem_cons_zero, getElem_cons_succ, Act.put, setIfInBounds_toArray, set_cons_zero, set_cons_succ]
   refine wpAnyH_take (i := 3) (v := .tuple #[.agg #[.int .i64 0, .int .i64 0, V22, .bool true, .bool false, .int .i64 0, .int .i64 0], .int .i64 1]) rfl (by kernel_rfl) (by kernel_rfl) (by kernel_rfl) (fun _ _ _ h => h) (.inl ⟨by first | rfl | go_simp, by intro u h; (try dsimp only at h); go_simp⟩) ‹_› ?_
   simp only [getElem_toArray, getElem_cons_zero, getElem_cons_succ, Act.put, setIfInBounds_toArray, set_cons_zero, set_cons_succ]
   refine wpAnyH_take (i := 4) (v := .agg #[.int .i64 0, .int .i64 0, V22, .bool true, .bool false, .int .i64 0, .int .i64 0]) rfl (by kernel_rfl) (by kernel_rfl) (by kernel_rfl) (fun _ _ _ h => h) (.inl ⟨by first | rfl | go_simp, by intro u h; (try dsimp only at h); go_simp⟩) ‹_› ?_
   simp only [getElem_toArray, getElem_cons_zero, getElem_cons_succ, Act.put, setIfInBounds_toArray, set_cons_zero, set_cons_succ]
   refine wpAnyH_take (i := 5) (v := .int .i64 1) rfl (by kernel_rfl) (by kernel_rfl) (by kernel_rfl) (fun _ _ _ h => h) (.inl ⟨by first | rfl | go_simp, by intro u h; (try dsimp only at h); go_simp⟩) ‹_› ?_
   simp only [getElem_toArray, getElem_cons_zero, getElem_cons_succ, Act.put, setIfInBounds_toArray, set_cons_zero, set_cons_succ]
   refine wpAnyH_ready (rs := [7]) (by kernel_rfl) (by simp) ?_
   refine .cons rfl (fun K hK => ?_) .nil
   have H9 := o7 oV22 0 0 0 0 true false
   refine Av.step_store_row rfl 43 (.tmp 22) (.tmp 84) rfl (X0.heap.size) #[.int .i64 0, .int .i64 0, V22, .bool true, .bool false, .int .i64 0, .int .i64 0] rfl rfl 43 _ K22 (by kernel_rfl) rfl H9 ?_
   replace BC := below_setRow (g := X0.heap.size) BC (by omega) #[.int .i64 0, .int .i64 0, V22, .bool true, .bool false, .int .i64 0, .int .i64 0]
   replace K3 : Blk (X10.setRow (X0.heap.size) #[.int .i64 0, .int .i64 0, V22, .bool true, .bool false, .int .i64 0, .int .i64 0]) (g3) 43 #[.int .i64 0, .int .i64 0, V5, .bool true, .bool false, .int .i64 0, .int .i64 0] := Av.bother_row K3 (by omega)
   replace K22 : Blk (X10.setRow (X0.heap.size) #[.int .i64 0, .int .i64 0, V22, .bool true, .bool false, .int .i64 0, .int .i64 0]) (X0.heap.size) 43 #[.int .i64 0, .int .i64 0, V22, .bool true, .bool false, .int .i64 0, .int .i64 0] := Av.bset_row K22
   replace BX : Below w.heap.size w (X10.setRow (X0.heap.size) #[.int .i64 0, .int .i64 0, V22, .bool true, .bool false, .int .i64 0, .int .i64 0]) := below_setRow BX (by omega) _
   clear H9
   generalize X10.setRow (X0.heap.size) #[.int .i64 0, .int .i64 0, V22, .bool true, .bool false, .int .i64 0, .int .i64 0] = X11 at *
   refine hK.out _ _ K3 (fun hHeld => ?_)
   clear hK K
   try simp only [getElem_toArray, getElem_cons_zero, getElem_cons_succ, Act.put, setIfInBounds_toArray, set_cons_zero, set_cons_succ]
   refine wpAnyH_take (i := 8) (v := .int .i64 1) rfl (by kernel_rfl) (by kernel_rfl) (by kernel_rfl) (fun _ _ _ h => h) (.inl ⟨by first | rfl | go_simp, by intro u h; (try dsimp only at h); go_simp⟩) ‹_› ?_
   simp only [getElem_toArray, getElem_cons_zero, getElem_cons_succ, Act.put, setIfInBounds_toArray, set_cons_zero, set_cons_succ]
   refine wpAnyH_done (by kernel_rfl) ?_ _
   clear hHeld
   go_wp2_with fail
   go_meet
   exact ⟨rfl, BC, BX⟩
 clear BC BX
 obtain ⟨rfl, BC, BX⟩ := hcut
 replace K1 := K1.below BC K1.lt
 replace K2 := K2.below BC K2.lt
 replace K3 := K3.below BC K3.lt
 replace K6 := K6.below BC K6.lt
 replace K8 := K8.below BC K8.lt
 replace K9 := K9.below BC K9.lt
 replace K13 := K13.below BC K13.lt
 replace K14 := K14.below BC K14.lt
 replace K15 := K15.below BC K15.lt
 replace P1 := P1.below BC
 replace P2 := P2.below BC
 replace HV5 := HV5.below BC
 replace P6 := P6.below BC
 replace P8 := P8.below BC
 replace P13 := P13.below BC
 replace P15 := P15.below BC
 clear BC
 rename World => W15
 clear W14
 obtain ⟨A3, c3, rfl⟩ := form2 HV5 hl5.out
 clear HV5 hl5 oV5
 have cK6_0 := K6.cell 0
 have cK6_1 := K6.cell 1
 have cK6_2 := K6.cell 2
 have cK6_3 := K6.cell 3
 have cK6_4 := K6.cell 4
 have cK1_0 := K1.cell 0
 have cK1_1 := K1.cell 1
 have cK8_0 := K8.cell 0
 have cK8_1 := K8.cell 1
 have cK8_2 := K8.cell 2
 have cK8_3 := K8.cell 3
 have cK8_4 := K8.cell 4
 have cK9_5 := K9.cell 5
 have cK13_0 := K13.cell 0
 have cK13_1 := K13.cell 1
 have cK13_2 := K13.cell 2
 have cK13_3 := K13.cell 3
 have cK13_4 := K13.cell 4
 have cK2_0 := K2.cell 0
 have cK2_1 := K2.cell 1
 have cK15_0 := K15.cell 0
 have cK15_1 := K15.cell 1
 have cK14_6 := K14.cell 6
 have cK3_0 := K3.cell 0
 have cK3_1 := K3.cell 1
 have cK3_2 := K3.cell 2
 have cK3_3 := K3.cell 3
 have cK3_4 := K3.cell 4
 have cK3_5 := K3.cell 5
 have cK3_6 := K3.cell 6
 go_wp2_with (first | (go_at_call_of 32 A8; refine (samepd24_yes 0 0 1 2 A8 A6 1 c8 c6 [1] _ rfl (Base.bytes_lit _ (by decide)) P8.gp.2.2.2 P6.gp.2.2.2).mono ?_; rintro e X9 ⟨rfl, b9⟩; replace K1 := K1.below b9 K1.lt; replace K2 := K2.below b9 K2.lt; replace K3 := K3.below b9 K3.lt; replace K6 := K6.below b9 K6.lt; replace K8 := K8.below b9 K8.lt; replace K9 := K9.below b9 K9.lt; replace K13 := K13.below b9 K13.lt; replace K14 := K14.below b9 K14.lt; replace K15 := K15.below b9 K15.lt; replace P1 := P1.below b9; replace P2 := P2.below b9; replace P6 := P6.below b9; replace P8 := P8.below b9; replace P13 := P13.below b9; replace P15 := P15.below b9; replace cK6_0 := K6.cell 0; replace cK6_1 := K6.cell 1; replace cK6_2 := K6.cell 2; replace cK6_3 := K6.cell 3; replace cK6_4 := K6.cell 4; replace cK1_0 := K1.cell 0; replace cK1_1 := K1.cell 1; replace cK8_0 := K8.cell 0; replace cK8_1 := K8.cell 1; replace cK8_2 := K8.cell 2; replace cK8_3 := K8.cell 3; replace cK8_4 := K8.cell 4; replace cK9_5 := K9.cell 5; replace cK13_0 := K13.cell 0; replace cK13_1 := K13.cell 1; replace cK13_2 := K13.cell 2; replace cK13_3 := K13.cell 3; replace cK13_4 := K13.cell 4; replace cK2_0 := K2.cell 0; replace cK2_1 := K2.cell 1; replace cK15_0 := K15.cell 0; replace cK15_1 := K15.cell 1; replace cK14_6 := K14.cell 6; replace cK3_0 := K3.cell 0; replace cK3_1 := K3.cell 1; replace cK3_2 := K3.cell 2; replace cK3_3 := K3.cell 3; replace cK3_4 := K3.cell 4; replace cK3_5 := K3.cell 5; replace cK3_6 := K3.cell 6; replace BX := thenB BX b9; clear b9) | (go_at_call_of 32 A13; refine (samepd24_yes 1 1 0 2 A13 (some ⟨w.heap.size + 1, 0, none⟩) 1 c13 1 [2] _ rfl (Base.bytes_lit _ (by decide)) P13.gp.2.2.2 P2.gp.2.2.2).mono ?_; rintro e X9 ⟨rfl, b9⟩; replace K1 := K1.below b9 K1.lt; replace K2 := K2.below b9 K2.lt; replace K3 := K3.below b9 K3.lt; replace K6 := K6.below b9 K6.lt; replace K8 := K8.below b9 K8.lt; replace K9 := K9.below b9 K9.lt; replace K13 := K13.below b9 K13.lt; replace K14 := K14.below b9 K14.lt; replace K15 := K15.below b9 K15.lt; replace P1 := P1.below b9; replace P2 := P2.below b9; replace P6 := P6.below b9; replace P8 := P8.below b9; replace P13 := P13.below b9; replace P15 := P15.below b9; replace cK6_0 := K6.cell 0; replace cK6_1 := K6.cell 1; replace cK6_2 := K6.cell 2; replace cK6_3 := K6.cell 3; replace cK6_4 := K6.cell 4; replace cK1_0 := K1.cell 0; replace cK1_1 := K1.cell 1; replace cK8_0 := K8.cell 0; replace cK8_1 := K8.cell 1; replace cK8_2 := K8.cell 2; replace cK8_3 := K8.cell 3; replace cK8_4 := K8.cell 4; replace cK9_5 := K9.cell 5; replace cK13_0 := K13.cell 0; replace cK13_1 := K13.cell 1; replace cK13_2 := K13.cell 2; replace cK13_3 := K13.cell 3; replace cK13_4 := K13.cell 4; replace cK2_0 := K2.cell 0; replace cK2_1 := K2.cell 1; replace cK15_0 := K15.cell 0; replace cK15_1 := K15.cell 1; replace cK14_6 := K14.cell 6; replace cK3_0 := K3.cell 0; replace cK3_1 := K3.cell 1; replace cK3_2 := K3.cell 2; replace cK3_3 := K3.cell 3; replace cK3_4 := K3.cell 4; replace cK3_5 := K3.cell 5; replace cK3_6 := K3.cell 6; replace BX := thenB BX b9; clear b9) | (go_at_call_of 32 A6; refine (samepd24_yes 0 0 1 2 A6 (some ⟨w.heap.size, 0, none⟩) 1 c6 1 [1] _ rfl (Base.bytes_lit _ (by decide)) P6.gp.2.2.2 P1.gp.2.2.2).mono ?_; rintro e X9 ⟨rfl, b9⟩; replace K1 := K1.below b9 K1.lt; replace K2 := K2.below b9 K2.lt; replace K3 := K3.below b9 K3.lt; replace K6 := K6.below b9 K6.lt; replace K8 := K8.below b9 K8.lt; replace K9 := K9.below b9 K9.lt; replace K13 := K13.below b9 K13.lt; replace K14 := K14.below b9 K14.lt; replace K15 := K15.below b9 K15.lt; replace P1 := P1.below b9; replace P2 := P2.below b9; replace P6 := P6.below b9; replace P8 := P8.below b9; replace P13 := P13.below b9; replace P15 := P15.below b9; replace cK6_0 := K6.cell 0; replace cK6_1 := K6.cell 1; replace cK6_2 := K6.cell 2; replace cK6_3 := K6.cell 3; replace cK6_4 := K6.cell 4; replace cK1_0 := K1.cell 0; replace cK1_1 := K1.cell 1; replace cK8_0 := K8.cell 0; replace cK8_1 := K8.cell 1; replace cK8_2 := K8.cell 2; replace cK8_3 := K8.cell 3; replace cK8_4 := K8.cell 4; replace cK9_5 := K9.cell 5; replace cK13_0 := K13.cell 0; replace cK13_1 := K13.cell 1; replace cK13_2 := K13.cell 2; replace cK13_3 := K13.cell 3; replace cK13_4 := K13.cell 4; replace cK2_0 := K2.cell 0; replace cK2_1 := K2.cell 1; replace cK15_0 := K15.cell 0; replace cK15_1 := K15.cell 1; replace cK14_6 := K14.cell 6; replace cK3_0 := K3.cell 0; replace cK3_1 := K3.cell 1; replace cK3_2 := K3.cell 2; replace cK3_3 := K3.cell 3; replace cK3_4 := K3.cell 4; replace cK3_5 := K3.cell 5; replace cK3_6 := K3.cell 6; replace BX := thenB BX b9; clear b9) | (go_at_call 35; refine (samepk24_yes 2 A15 (some ⟨w.heap.size, 0, none⟩) 1 c15 1 [1] _ rfl (Base.bytes_lit _ (by decide)) P15.gp.2.2.2 P1.gp.2.2.2).mono ?_; rintro e X9 ⟨rfl, b9⟩; replace K1 := K1.below b9 K1.lt; replace K2 := K2.below b9 K2.lt; replace K3 := K3.below b9 K3.lt; replace K6 := K6.below b9 K6.lt; replace K8 := K8.below b9 K8.lt; replace K9 := K9.below b9 K9.lt; replace K13 := K13.below b9 K13.lt; replace K14 := K14.below b9 K14.lt; replace K15 := K15.below b9 K15.lt; replace P1 := P1.below b9; replace P2 := P2.below b9; replace P6 := P6.below b9; replace P8 := P8.below b9; replace P13 := P13.below b9; replace P15 := P15.below b9; replace cK6_0 := K6.cell 0; replace cK6_1 := K6.cell 1; replace cK6_2 := K6.cell 2; replace cK6_3 := K6.cell 3; replace cK6_4 := K6.cell 4; replace cK1_0 := K1.cell 0; replace cK1_1 := K1.cell 1; replace cK8_0 := K8.cell 0; replace cK8_1 := K8.cell 1; replace cK8_2 := K8.cell 2; replace cK8_3 := K8.cell 3; replace cK8_4 := K8.cell 4; replace cK9_5 := K9.cell 5; replace cK13_0 := K13.cell 0; replace cK13_1 := K13.cell 1; replace cK13_2 := K13.cell 2; replace cK13_3 := K13.cell 3; replace cK13_4 := K13.cell 4; replace cK2_0 := K2.cell 0; replace cK2_1 := K2.cell 1; replace cK15_0 := K15.cell 0; replace cK15_1 := K15.cell 1; replace cK14_6 := K14.cell 6; replace cK3_0 := K3.cell 0; replace cK3_1 := K3.cell 1; replace cK3_2 := K3.cell 2; replace cK3_3 := K3.cell 3; replace cK3_4 := K3.cell 4; replace cK3_5 := K3.cell 5; replace cK3_6 := K3.cell 6; replace BX := thenB BX b9; clear b9) | (go_at_call 25; refine (new_any _).mono ?_; rintro e X9 ⟨rfl, b9⟩; replace K1 := K1.below b9 K1.lt; replace K2 := K2.below b9 K2.lt; replace K3 := K3.below b9 K3.lt; replace K6 := K6.below b9 K6.lt; replace K8 := K8.below b9 K8.lt; replace K9 := K9.below b9 K9.lt; replace K13 := K13.below b9 K13.lt; replace K14 := K14.below b9 K14.lt; replace K15 := K15.below b9 K15.lt; replace P1 := P1.below b9; replace P2 := P2.below b9; replace P6 := P6.below b9; replace P8 := P8.below b9; replace P13 := P13.below b9; replace P15 := P15.below b9; replace cK6_0 := K6.cell 0; replace cK6_1 := K6.cell 1; replace cK6_2 := K6.cell 2; replace cK6_3 := K6.cell 3; replace cK6_4 := K6.cell 4; replace cK1_0 := K1.cell 0; replace cK1_1 := K1.cell 1; replace cK8_0 := K8.cell 0; replace cK8_1 := K8.cell 1; replace cK8_2 := K8.cell 2; replace cK8_3 := K8.cell 3; replace cK8_4 := K8.cell 4; replace cK9_5 := K9.cell 5; replace cK13_0 := K13.cell 0; replace cK13_1 := K13.cell 1; replace cK13_2 := K13.cell 2; replace cK13_3 := K13.cell 3; replace cK13_4 := K13.cell 4; replace cK2_0 := K2.cell 0; replace cK2_1 := K2.cell 1; replace cK15_0 := K15.cell 0; replace cK15_1 := K15.cell 1; replace cK14_6 := K14.cell 6; replace cK3_0 := K3.cell 0; replace cK3_1 := K3.cell 1; replace cK3_2 := K3.cell 2; replace cK3_3 := K3.cell 3; replace cK3_4 := K3.cell 4; replace cK3_5 := K3.cell 5; replace cK3_6 := K3.cell 6; replace BX := thenB BX b9; clear b9) | (go_at_call_of 37 A3; refine (idle_any 0 0 A3 2 c3 true false 0 0 _).mono ?_; rintro e X9 ⟨rfl, b9⟩; replace K1 := K1.below b9 K1.lt; replace K2 := K2.below b9 K2.lt; replace K3 := K3.below b9 K3.lt; replace K6 := K6.below b9 K6.lt; replace K8 := K8.below b9 K8.lt; replace K9 := K9.below b9 K9.lt; replace K13 := K13.below b9 K13.lt; replace K14 := K14.below b9 K14.lt; replace K15 := K15.below b9 K15.lt; replace P1 := P1.below b9; replace P2 := P2.below b9; replace P6 := P6.below b9; replace P8 := P8.below b9; replace P13 := P13.below b9; replace P15 := P15.below b9; replace cK6_0 := K6.cell 0; replace cK6_1 := K6.cell 1; replace cK6_2 := K6.cell 2; replace cK6_3 := K6.cell 3; replace cK6_4 := K6.cell 4; replace cK1_0 := K1.cell 0; replace cK1_1 := K1.cell 1; replace cK8_0 := K8.cell 0; replace cK8_1 := K8.cell 1; replace cK8_2 := K8.cell 2; replace cK8_3 := K8.cell 3; replace cK8_4 := K8.cell 4; replace cK9_5 := K9.cell 5; replace cK13_0 := K13.cell 0; replace cK13_1 := K13.cell 1; replace cK13_2 := K13.cell 2; replace cK13_3 := K13.cell 3; replace cK13_4 := K13.cell 4; replace cK2_0 := K2.cell 0; replace cK2_1 := K2.cell 1; replace cK15_0 := K15.cell 0; replace cK15_1 := K15.cell 1; replace cK14_6 := K14.cell 6; replace cK3_0 := K3.cell 0; replace cK3_1 := K3.cell 1; replace cK3_2 := K3.cell 2; replace cK3_3 := K3.cell 3; replace cK3_4 := K3.cell 4; replace cK3_5 := K3.cell 5; replace cK3_6 := K3.cell 6; replace BX := thenB BX b9; clear b9) | (go_at_call 37; refine (idle_any 0 0 none 0 0 false false 0 0 _).mono ?_; rintro e X9 ⟨rfl, b9⟩; replace K1 := K1.below b9 K1.lt; replace K2 := K2.below b9 K2.lt; replace K3 := K3.below b9 K3.lt; replace K6 := K6.below b9 K6.lt; replace K8 := K8.below b9 K8.lt; replace K9 := K9.below b9 K9.lt; replace K13 := K13.below b9 K13.lt; replace K14 := K14.below b9 K14.lt; replace K15 := K15.below b9 K15.lt; replace P1 := P1.below b9; replace P2 := P2.below b9; replace P6 := P6.below b9; replace P8 := P8.below b9; replace P13 := P13.below b9; replace P15 := P15.below b9; replace cK6_0 := K6.cell 0; replace cK6_1 := K6.cell 1; replace cK6_2 := K6.cell 2; replace cK6_3 := K6.cell 3; replace cK6_4 := K6.cell 4; replace cK1_0 := K1.cell 0; replace cK1_1 := K1.cell 1; replace cK8_0 := K8.cell 0; replace cK8_1 := K8.cell 1; replace cK8_2 := K8.cell 2; replace cK8_3 := K8.cell 3; replace cK8_4 := K8.cell 4; replace cK9_5 := K9.cell 5; replace cK13_0 := K13.cell 0; replace cK13_1 := K13.cell 1; replace cK13_2 := K13.cell 2; replace cK13_3 := K13.cell 3; replace cK13_4 := K13.cell 4; replace cK2_0 := K2.cell 0; replace cK2_1 := K2.cell 1; replace cK15_0 := K15.cell 0; replace cK15_1 := K15.cell 1; replace cK14_6 := K14.cell 6; replace cK3_0 := K3.cell 0; replace cK3_1 := K3.cell 1; replace cK3_2 := K3.cell 2; replace cK3_3 := K3.cell 3; replace cK3_4 := K3.cell 4; replace cK3_5 := K3.cell 5; replace cK3_6 := K3.cell 6; replace BX := thenB BX b9; clear b9))
 go_ret
 exact ⟨rfl, BX⟩
end Go.Proofs.Ytbnfjielnamepaa.Arq
