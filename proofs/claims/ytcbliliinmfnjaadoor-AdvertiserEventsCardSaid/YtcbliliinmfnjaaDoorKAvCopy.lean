/- Advertisers: a copy with lists of its own: contracts over the program. -/
import Derived.Test.YtcbliliinmfnjaaDoorKM15
set_option linter.unusedVariables false
set_option linter.unusedSimpArgs false
namespace Go.Proofs.YtcbliliinmfnjaaDoor.Av
open Go.RowKit Mem Oct Rw Ap Ace Prv
open Base (thenB)

/-- An advertiser whose lists are new memory. -/
def AdvR (w w' : World) (e : Ending) (a : Ad) : Prop := ∃ VD VS VA VI, e = .returned (.agg (vcel a VD VS VA VI)) ∧ Has w' w.heap.size a.p VD VS VA VI ∧ Below w.heap.size w w'
set_option maxRecDepth 100000 in
set_option maxHeartbeats 4000000 in
theorem copied_any (a : Ad) (VD VS VA VI : Value) (m : Nat) (w : World) (hW : PW a.p) (hH : Has w m a.p VD VS VA VI) :
    Calls Tryd.prog 41 #[.agg (vcel a VD VS VA VI)] w fun e w' => AdvR w w' e a := by
  have BX : Below w.heap.size w ((w.alloc (.cells #[.int .i64 a.p.k, .int .i64 a.p.it, .int .i64 a.p.ok, .int .u64 a.p.ob, .int .i64 a.p.tk, .int .u64 a.p.tb, VD, VS, .int .i64 a.p.po, VA, VI, .int .u64 a.p.sd, .bool a.on, .int .i64 a.ev, .int .i64 a.nx] 33)).alloc (.cells #[.int .i64 0, .int .i64 0, .int .i64 0, .int .u64 0, .int .i64 0, .int .u64 0, .slice none 0 0, .slice none 0 0, .int .i64 0, .slice none 0 0, .slice none 0 0, .int .u64 0, .bool false, .int .i64 0, .int .i64 0] 33)) := ((Below.refl _ _).alloc (Nat.le_refl _) _).alloc (by simp) _
  have K1 : Blk ((w.alloc (.cells #[.int .i64 a.p.k, .int .i64 a.p.it, .int .i64 a.p.ok, .int .u64 a.p.ob, .int .i64 a.p.tk, .int .u64 a.p.tb, VD, VS, .int .i64 a.p.po, VA, VI, .int .u64 a.p.sd, .bool a.on, .int .i64 a.ev, .int .i64 a.nx] 33)).alloc (.cells #[.int .i64 0, .int .i64 0, .int .i64 0, .int .u64 0, .int .i64 0, .int .u64 0, .slice none 0 0, .slice none 0 0, .int .i64 0, .slice none 0 0, .slice none 0 0, .int .u64 0, .bool false, .int .i64 0, .int .i64 0] 33)) (w.heap.size) 33 #[.int .i64 a.p.k, .int .i64 a.p.it, .int .i64 a.p.ok, .int .u64 a.p.ob, .int .i64 a.p.tk, .int .u64 a.p.tb, VD, VS, .int .i64 a.p.po, VA, VI, .int .u64 a.p.sd, .bool a.on, .int .i64 a.ev, .int .i64 a.nx] := (Blk.fresh w 33 #[.int .i64 a.p.k, .int .i64 a.p.it, .int .i64 a.p.ok, .int .u64 a.p.ob, .int .i64 a.p.tk, .int .u64 a.p.tb, VD, VS, .int .i64 a.p.po, VA, VI, .int .u64 a.p.sd, .bool a.on, .int .i64 a.ev, .int .i64 a.nx]).alloc _
  have K2 : Blk ((w.alloc (.cells #[.int .i64 a.p.k, .int .i64 a.p.it, .int .i64 a.p.ok, .int .u64 a.p.ob, .int .i64 a.p.tk, .int .u64 a.p.tb, VD, VS, .int .i64 a.p.po, VA, VI, .int .u64 a.p.sd, .bool a.on, .int .i64 a.ev, .int .i64 a.nx] 33)).alloc (.cells #[.int .i64 0, .int .i64 0, .int .i64 0, .int .u64 0, .int .i64 0, .int .u64 0, .slice none 0 0, .slice none 0 0, .int .i64 0, .slice none 0 0, .slice none 0 0, .int .u64 0, .bool false, .int .i64 0, .int .i64 0] 33)) (w.heap.size + 1) 33 #[.int .i64 0, .int .i64 0, .int .i64 0, .int .u64 0, .int .i64 0, .int .u64 0, .slice none 0 0, .slice none 0 0, .int .i64 0, .slice none 0 0, .slice none 0 0, .int .u64 0, .bool false, .int .i64 0, .int .i64 0] := Av.Blk.next
  have HC1 : Hid (∀ X, Below w.heap.size w X → Calls Tryd.prog 74 #[VD] X fun e w' => ∃ V', e = .returned V' ∧ Row w' X.heap.size V' a.p.ds.length (a.p.ds.map (Value.int .u8)) ∧ Below X.heap.size X w') := Lib.hid fun X b => clone_b VD _ m a.p.ds X rfl hW.nds (hH.d.below b)
  have HC2 : Hid (∀ X, Below w.heap.size w X → Calls Tryd.prog 74 #[VS] X fun e w' => ∃ V', e = .returned V' ∧ Row w' X.heap.size V' a.p.sc.length (a.p.sc.map (Value.int .u8)) ∧ Below X.heap.size X w') := Lib.hid fun X b => clone_b VS _ m a.p.sc X rfl hW.nsc (hH.s.below b)
  have HC3 : Hid (∀ X, Below w.heap.size w X → Calls Tryd.prog 75 #[VA] X fun e w' => ∃ V', e = .returned V' ∧ Row w' X.heap.size V' a.p.ac.length (a.p.ac.flatMap encA) ∧ Below X.heap.size X w') := Lib.hid fun X b => clone_a VA _ m a.p.ac X rfl hW.nac (hH.a.below b)
  have HC4 : Hid (∀ X, Below w.heap.size w X → Calls Tryd.prog 76 #[VI] X fun e w' => ∃ V', e = .returned V' ∧ Row w' X.heap.size V' a.p.ids.length (a.p.ids.flatMap encI) ∧ Below X.heap.size X w') := Lib.hid fun X b => clone_i VI _ m a.p.ids X rfl hW.nids (hH.i.below b)
  clear hW hH
  go_enter Tryd.func41, Tryd.ntmps41
  go_upto_region 2 with (fail)
  generalize (w.alloc (.cells #[.int .i64 a.p.k, .int .i64 a.p.it, .int .i64 a.p.ok, .int .u64 a.p.ob, .int .i64 a.p.tk, .int .u64 a.p.tb, VD, VS, .int .i64 a.p.po, VA, VI, .int .u64 a.p.sd, .bool a.on, .int .i64 a.ev, .int .i64 a.nx] 33)).alloc (.cells #[.int .i64 0, .int .i64 0, .int .i64 0, .int .u64 0, .int .i64 0, .int .u64 0, .slice none 0 0, .slice none 0 0, .int .i64 0, .slice none 0 0, .slice none 0 0, .int .u64 0, .bool false, .int .i64 0, .int .i64 0] 33) = W0 at *
  go_cut [] from 5 to 20 (fun wx => ∃ V1 V2, Blk wx (w.heap.size) 33 #[.int .i64 a.p.k, .int .i64 a.p.it, .int .i64 a.p.ok, .int .u64 a.p.ob, .int .i64 a.p.tk, .int .u64 a.p.tb, V1, V2, .int .i64 a.p.po, VA, VI, .int .u64 a.p.sd, .bool a.on, .int .i64 a.ev, .int .i64 a.nx] ∧ Blk wx (w.heap.size + 1) 33 #[.int .i64 0, .int .i64 0, .int .i64 0, .int .u64 0, .int .i64 0, .int .u64 0, .slice none 0 0, .slice none 0 0, .int .i64 0, .slice none 0 0, .slice none 0 0, .int .u64 0, .bool false, .int .i64 0, .int .i64 0] ∧ Row wx (w.heap.size + 2) V1 a.p.ds.length (a.p.ds.map (Value.int .u8)) ∧ Row wx (w.heap.size + 2) V2 a.p.sc.length (a.p.sc.map (Value.int .u8)) ∧ Below w.heap.size w wx)
  case first =>
    go_wp2_with fail
    refine wp_region_held_drew (S := (fun _ => True)) (by kernel_rfl) ?_ (fun hHeld => ?_)
    · exact trivial
    replace K1 : Blk W0.drew (w.heap.size) 33 #[.int .i64 a.p.k, .int .i64 a.p.it, .int .i64 a.p.ok, .int .u64 a.p.ob, .int .i64 a.p.tk, .int .u64 a.p.tb, VD, VS, .int .i64 a.p.po, VA, VI, .int .u64 a.p.sd, .bool a.on, .int .i64 a.ev, .int .i64 a.nx] := K1
    replace K2 : Blk W0.drew (w.heap.size + 1) 33 #[.int .i64 0, .int .i64 0, .int .i64 0, .int .u64 0, .int .i64 0, .int .u64 0, .slice none 0 0, .slice none 0 0, .int .i64 0, .slice none 0 0, .slice none 0 0, .int .u64 0, .bool false, .int .i64 0, .int .i64 0] := K2
    replace BX : Below w.heap.size w W0.drew := BX.drew
    generalize W0.drew = X0 at *
    refine wpAnyH_take (i := 0) (v := .pointer (some ⟨w.heap.size, 0, none⟩)) rfl (by kernel_rfl) (by kernel_rfl) (by kernel_rfl) (fun _ _ _ h => h) (Or.inl ⟨by first | rfl | go_simp, by intro w9 hSw; (try dsimp only at hSw); go_simp⟩) (by assumption) ?_
    simp only [List.getElem_toArray, List.getElem_cons_zero, List.getElem_cons_succ, Act.put, List.setIfInBounds_toArray, List.set_cons_zero, List.set_cons_succ]
    refine wpAnyH_take (i := 1) (v := .pointer (some ⟨w.heap.size, 0, none⟩)) rfl (by kernel_rfl) (by kernel_rfl) (by kernel_rfl) (fun _ _ _ h => h) (Or.inl ⟨by first | rfl | go_simp, by intro w9 hSw; (try dsimp only at hSw); go_simp⟩) (by assumption) ?_
    simp only [List.getElem_toArray, List.getElem_cons_zero, List.getElem_cons_succ, Act.put, List.setIfInBounds_toArray, List.set_cons_zero, List.set_cons_succ]
    refine wpAnyH_take (i := 2) (v := .pointer (some ⟨w.heap.size, 0, none⟩)) rfl (by kernel_rfl) (by kernel_rfl) (by kernel_rfl) (fun _ _ _ h => h) (Or.inl ⟨by first | rfl | go_simp, by intro w9 hSw; (try dsimp only at hSw); go_simp⟩) (by assumption) ?_
    simp only [List.getElem_toArray, List.getElem_cons_zero, List.getElem_cons_succ, Act.put, List.setIfInBounds_toArray, List.set_cons_zero, List.set_cons_succ]
    refine wpAnyH_take (i := 3) (v := .pointer (some ⟨w.heap.size, 0, none⟩)) rfl (by kernel_rfl) (by kernel_rfl) (by kernel_rfl) (fun _ _ _ h => h) (Or.inl ⟨by first | rfl | go_simp, by intro w9 hSw; (try dsimp only at hSw); go_simp⟩) (by assumption) ?_
    simp only [List.getElem_toArray, List.getElem_cons_zero, List.getElem_cons_succ, Act.put, List.setIfInBounds_toArray, List.set_cons_zero, List.set_cons_succ]
    refine wpAnyH_take (i := 4) (v := .pointer (some ⟨w.heap.size, 6, none⟩)) rfl (by kernel_rfl) (by kernel_rfl) (by kernel_rfl) (fun _ _ _ h => h) (Or.inl ⟨by first | rfl | go_simp, by intro w9 hSw; (try dsimp only at hSw); go_simp⟩) (by assumption) ?_
    simp only [List.getElem_toArray, List.getElem_cons_zero, List.getElem_cons_succ, Act.put, List.setIfInBounds_toArray, List.set_cons_zero, List.set_cons_succ]
    refine wpAnyH_take (i := 7) (v := .pointer (some ⟨w.heap.size, 0, none⟩)) rfl (by kernel_rfl) (by kernel_rfl) (by kernel_rfl) (fun _ _ _ h => h) (Or.inl ⟨by first | rfl | go_simp, by intro w9 hSw; (try dsimp only at hSw); go_simp⟩) (by assumption) ?_
    simp only [List.getElem_toArray, List.getElem_cons_zero, List.getElem_cons_succ, Act.put, List.setIfInBounds_toArray, List.set_cons_zero, List.set_cons_succ]
    refine wpAnyH_take (i := 8) (v := .pointer (some ⟨w.heap.size, 0, none⟩)) rfl (by kernel_rfl) (by kernel_rfl) (by kernel_rfl) (fun _ _ _ h => h) (Or.inl ⟨by first | rfl | go_simp, by intro w9 hSw; (try dsimp only at hSw); go_simp⟩) (by assumption) ?_
    simp only [List.getElem_toArray, List.getElem_cons_zero, List.getElem_cons_succ, Act.put, List.setIfInBounds_toArray, List.set_cons_zero, List.set_cons_succ]
    refine wpAnyH_take (i := 9) (v := .pointer (some ⟨w.heap.size, 7, none⟩)) rfl (by kernel_rfl) (by kernel_rfl) (by kernel_rfl) (fun _ _ _ h => h) (Or.inl ⟨by first | rfl | go_simp, by intro w9 hSw; (try dsimp only at hSw); go_simp⟩) (by assumption) ?_
    simp only [List.getElem_toArray, List.getElem_cons_zero, List.getElem_cons_succ, Act.put, List.setIfInBounds_toArray, List.set_cons_zero, List.set_cons_succ]
    refine wpAnyH_ready (rs := [5, 10]) (by kernel_rfl) (by simp) ?_
    refine AllReadyH.cons rfl (fun K hK => ?_) (AllReadyH.cons rfl (fun K hK => ?_) (AllReadyH.nil))
    · skip
      have c90 := K1.cell 6
      go_simp
      clear c90
      refine hK.out _ _ trivial (fun hHeld => ?_)
      clear hK K
      try simp only [List.getElem_toArray, List.getElem_cons_zero, List.getElem_cons_succ, Act.put, List.setIfInBounds_toArray, List.set_cons_zero, List.set_cons_succ]
      refine wpAnyH_ready (rs := [6, 10]) (by kernel_rfl) (by simp) ?_
      refine AllReadyH.cons rfl (fun K hK => ?_) (AllReadyH.cons rfl (fun K hK => ?_) (AllReadyH.nil))
      · skip
        go_simp
        refine (HC1.out X0 BX).mono ?_
        rintro e X1 ⟨V1, rfl, RV1, b9⟩
        have RV1 := Row.less RV1 (show w.heap.size + 2 ≤ X0.heap.size from K2.lt)
        have oV1 := RV1.one
        replace K1 := K1.below b9 K1.lt
        replace K2 := K2.below b9 K2.lt
        replace BX := Base.thenB BX b9
        clear b9
        refine hK.out _ _ trivial (fun hHeld => ?_)
        clear hK K
        try simp only [List.getElem_toArray, List.getElem_cons_zero, List.getElem_cons_succ, Act.put, List.setIfInBounds_toArray, List.set_cons_zero, List.set_cons_succ]
        refine wpAnyH_ready (rs := [10]) (by kernel_rfl) (by simp) ?_
        refine AllReadyH.cons rfl (fun K hK => ?_) (AllReadyH.nil)
        have c90 := K1.cell 7
        go_simp
        clear c90
        refine hK.out _ _ trivial (fun hHeld => ?_)
        clear hK K
        try simp only [List.getElem_toArray, List.getElem_cons_zero, List.getElem_cons_succ, Act.put, List.setIfInBounds_toArray, List.set_cons_zero, List.set_cons_succ]
        refine wpAnyH_ready (rs := [11]) (by kernel_rfl) (by simp) ?_
        refine AllReadyH.cons rfl (fun K hK => ?_) (AllReadyH.nil)
        go_simp
        refine (HC2.out X1 BX).mono ?_
        rintro e X2 ⟨V2, rfl, RV2, b9⟩
        have RV2 := Row.less RV2 (show w.heap.size + 2 ≤ X1.heap.size from K2.lt)
        have oV2 := RV2.one
        replace K1 := K1.below b9 K1.lt
        replace K2 := K2.below b9 K2.lt
        replace BX := Base.thenB BX b9
        replace RV1 := Row.below RV1 b9
        clear b9
        refine hK.out _ _ trivial (fun hHeld => ?_)
        clear hK K
        try simp only [List.getElem_toArray, List.getElem_cons_zero, List.getElem_cons_succ, Act.put, List.setIfInBounds_toArray, List.set_cons_zero, List.set_cons_succ]
        refine wpAnyH_take (i := 12) (v := .pointer (some ⟨w.heap.size, 0, none⟩)) rfl (by kernel_rfl) (by kernel_rfl) (by kernel_rfl) (fun _ _ _ h => h) (Or.inl ⟨by first | rfl | go_simp, by intro w9 hSw; (try dsimp only at hSw); go_simp⟩) (by assumption) ?_
        simp only [List.getElem_toArray, List.getElem_cons_zero, List.getElem_cons_succ, Act.put, List.setIfInBounds_toArray, List.set_cons_zero, List.set_cons_succ]
        refine wpAnyH_take (i := 13) (v := .pointer (some ⟨w.heap.size, 6, none⟩)) rfl (by kernel_rfl) (by kernel_rfl) (by kernel_rfl) (fun _ _ _ h => h) (Or.inl ⟨by first | rfl | go_simp, by intro w9 hSw; (try dsimp only at hSw); go_simp⟩) (by assumption) ?_
        simp only [List.getElem_toArray, List.getElem_cons_zero, List.getElem_cons_succ, Act.put, List.setIfInBounds_toArray, List.set_cons_zero, List.set_cons_succ]
        refine wpAnyH_ready (rs := [14]) (by kernel_rfl) (by simp) ?_
        refine AllReadyH.cons rfl (fun K hK => ?_) (AllReadyH.nil)
        refine Av.step_store_cell rfl _ _ _ rfl (w.heap.size) 6 (V1) rfl rfl 33 _ K1 (by show 6 < 15; decide) (by kernel_rfl) oV1 ?_
        replace K1 : Blk (X2.setCell ⟨w.heap.size, 6, none⟩ (V1)) (w.heap.size) 33 #[.int .i64 a.p.k, .int .i64 a.p.it, .int .i64 a.p.ok, .int .u64 a.p.ob, .int .i64 a.p.tk, .int .u64 a.p.tb, V1, VS, .int .i64 a.p.po, VA, VI, .int .u64 a.p.sd, .bool a.on, .int .i64 a.ev, .int .i64 a.nx] := (Av.bset K1 6 (V1) rfl)
        replace K2 : Blk (X2.setCell ⟨w.heap.size, 6, none⟩ (V1)) (w.heap.size + 1) 33 #[.int .i64 0, .int .i64 0, .int .i64 0, .int .u64 0, .int .i64 0, .int .u64 0, .slice none 0 0, .slice none 0 0, .int .i64 0, .slice none 0 0, .slice none 0 0, .int .u64 0, .bool false, .int .i64 0, .int .i64 0] := Av.bother (K2) (by omega) _
        replace BX : Below w.heap.size w (X2.setCell ⟨w.heap.size, 6, none⟩ (V1)) := (BX.setCell (p := ⟨w.heap.size, 6, none⟩) (by simp only; omega) _)
        replace RV1 := (Row.far (i := 6) (x := V1) RV1 (show w.heap.size < w.heap.size + 2 by omega))
        replace RV2 := (Row.far (i := 6) (x := V1) RV2 (show w.heap.size < w.heap.size + 2 by omega))
        generalize (X2.setCell ⟨w.heap.size, 6, none⟩ (V1)) = X3 at *
        refine hK.out _ _ trivial (fun hHeld => ?_)
        clear hK K
        try simp only [List.getElem_toArray, List.getElem_cons_zero, List.getElem_cons_succ, Act.put, List.setIfInBounds_toArray, List.set_cons_zero, List.set_cons_succ]
        refine wpAnyH_take (i := 15) (v := .pointer (some ⟨w.heap.size, 0, none⟩)) rfl (by kernel_rfl) (by kernel_rfl) (by kernel_rfl) (fun _ _ _ h => h) (Or.inl ⟨by first | rfl | go_simp, by intro w9 hSw; (try dsimp only at hSw); go_simp⟩) (by assumption) ?_
        simp only [List.getElem_toArray, List.getElem_cons_zero, List.getElem_cons_succ, Act.put, List.setIfInBounds_toArray, List.set_cons_zero, List.set_cons_succ]
        refine wpAnyH_take (i := 16) (v := .pointer (some ⟨w.heap.size, 7, none⟩)) rfl (by kernel_rfl) (by kernel_rfl) (by kernel_rfl) (fun _ _ _ h => h) (Or.inl ⟨by first | rfl | go_simp, by intro w9 hSw; (try dsimp only at hSw); go_simp⟩) (by assumption) ?_
        simp only [List.getElem_toArray, List.getElem_cons_zero, List.getElem_cons_succ, Act.put, List.setIfInBounds_toArray, List.set_cons_zero, List.set_cons_succ]
        refine wpAnyH_ready (rs := [17]) (by kernel_rfl) (by simp) ?_
        refine AllReadyH.cons rfl (fun K hK => ?_) (AllReadyH.nil)
        refine Av.step_store_cell rfl _ _ _ rfl (w.heap.size) 7 (V2) rfl rfl 33 _ K1 (by show 7 < 15; decide) (by kernel_rfl) oV2 ?_
        replace K1 : Blk (X3.setCell ⟨w.heap.size, 7, none⟩ (V2)) (w.heap.size) 33 #[.int .i64 a.p.k, .int .i64 a.p.it, .int .i64 a.p.ok, .int .u64 a.p.ob, .int .i64 a.p.tk, .int .u64 a.p.tb, V1, V2, .int .i64 a.p.po, VA, VI, .int .u64 a.p.sd, .bool a.on, .int .i64 a.ev, .int .i64 a.nx] := (Av.bset K1 7 (V2) rfl)
        replace K2 : Blk (X3.setCell ⟨w.heap.size, 7, none⟩ (V2)) (w.heap.size + 1) 33 #[.int .i64 0, .int .i64 0, .int .i64 0, .int .u64 0, .int .i64 0, .int .u64 0, .slice none 0 0, .slice none 0 0, .int .i64 0, .slice none 0 0, .slice none 0 0, .int .u64 0, .bool false, .int .i64 0, .int .i64 0] := Av.bother (K2) (by omega) _
        replace BX : Below w.heap.size w (X3.setCell ⟨w.heap.size, 7, none⟩ (V2)) := (BX.setCell (p := ⟨w.heap.size, 7, none⟩) (by simp only; omega) _)
        replace RV1 := (Row.far (i := 7) (x := V2) RV1 (show w.heap.size < w.heap.size + 2 by omega))
        replace RV2 := (Row.far (i := 7) (x := V2) RV2 (show w.heap.size < w.heap.size + 2 by omega))
        generalize (X3.setCell ⟨w.heap.size, 7, none⟩ (V2)) = X4 at *
        refine hK.out _ _ trivial (fun hHeld => ?_)
        clear hK K
        try simp only [List.getElem_toArray, List.getElem_cons_zero, List.getElem_cons_succ, Act.put, List.setIfInBounds_toArray, List.set_cons_zero, List.set_cons_succ]
        refine wpAnyH_done (by kernel_rfl) ?_ _
        go_wp2_with fail
        go_meet
        exact ⟨V1, V2, K1, K2, RV1, RV2, BX⟩
      · skip
        have c90 := K1.cell 7
        go_simp
        clear c90
        refine hK.out _ _ trivial (fun hHeld => ?_)
        clear hK K
        try simp only [List.getElem_toArray, List.getElem_cons_zero, List.getElem_cons_succ, Act.put, List.setIfInBounds_toArray, List.set_cons_zero, List.set_cons_succ]
        refine wpAnyH_ready (rs := [6]) (by kernel_rfl) (by simp) ?_
        refine AllReadyH.cons rfl (fun K hK => ?_) (AllReadyH.nil)
        go_simp
        refine (HC1.out X0 BX).mono ?_
        rintro e X5 ⟨V1, rfl, RV1, b9⟩
        have RV1 := Row.less RV1 (show w.heap.size + 2 ≤ X0.heap.size from K2.lt)
        have oV1 := RV1.one
        replace K1 := K1.below b9 K1.lt
        replace K2 := K2.below b9 K2.lt
        replace BX := Base.thenB BX b9
        clear b9
        refine hK.out _ _ trivial (fun hHeld => ?_)
        clear hK K
        try simp only [List.getElem_toArray, List.getElem_cons_zero, List.getElem_cons_succ, Act.put, List.setIfInBounds_toArray, List.set_cons_zero, List.set_cons_succ]
        refine wpAnyH_ready (rs := [11]) (by kernel_rfl) (by simp) ?_
        refine AllReadyH.cons rfl (fun K hK => ?_) (AllReadyH.nil)
        go_simp
        refine (HC2.out X5 BX).mono ?_
        rintro e X6 ⟨V2, rfl, RV2, b9⟩
        have RV2 := Row.less RV2 (show w.heap.size + 2 ≤ X5.heap.size from K2.lt)
        have oV2 := RV2.one
        replace K1 := K1.below b9 K1.lt
        replace K2 := K2.below b9 K2.lt
        replace BX := Base.thenB BX b9
        replace RV1 := Row.below RV1 b9
        clear b9
        refine hK.out _ _ trivial (fun hHeld => ?_)
        clear hK K
        try simp only [List.getElem_toArray, List.getElem_cons_zero, List.getElem_cons_succ, Act.put, List.setIfInBounds_toArray, List.set_cons_zero, List.set_cons_succ]
        refine wpAnyH_take (i := 12) (v := .pointer (some ⟨w.heap.size, 0, none⟩)) rfl (by kernel_rfl) (by kernel_rfl) (by kernel_rfl) (fun _ _ _ h => h) (Or.inl ⟨by first | rfl | go_simp, by intro w9 hSw; (try dsimp only at hSw); go_simp⟩) (by assumption) ?_
        simp only [List.getElem_toArray, List.getElem_cons_zero, List.getElem_cons_succ, Act.put, List.setIfInBounds_toArray, List.set_cons_zero, List.set_cons_succ]
        refine wpAnyH_take (i := 13) (v := .pointer (some ⟨w.heap.size, 6, none⟩)) rfl (by kernel_rfl) (by kernel_rfl) (by kernel_rfl) (fun _ _ _ h => h) (Or.inl ⟨by first | rfl | go_simp, by intro w9 hSw; (try dsimp only at hSw); go_simp⟩) (by assumption) ?_
        simp only [List.getElem_toArray, List.getElem_cons_zero, List.getElem_cons_succ, Act.put, List.setIfInBounds_toArray, List.set_cons_zero, List.set_cons_succ]
        refine wpAnyH_ready (rs := [14]) (by kernel_rfl) (by simp) ?_
        refine AllReadyH.cons rfl (fun K hK => ?_) (AllReadyH.nil)
        refine Av.step_store_cell rfl _ _ _ rfl (w.heap.size) 6 (V1) rfl rfl 33 _ K1 (by show 6 < 15; decide) (by kernel_rfl) oV1 ?_
        replace K1 : Blk (X6.setCell ⟨w.heap.size, 6, none⟩ (V1)) (w.heap.size) 33 #[.int .i64 a.p.k, .int .i64 a.p.it, .int .i64 a.p.ok, .int .u64 a.p.ob, .int .i64 a.p.tk, .int .u64 a.p.tb, V1, VS, .int .i64 a.p.po, VA, VI, .int .u64 a.p.sd, .bool a.on, .int .i64 a.ev, .int .i64 a.nx] := (Av.bset K1 6 (V1) rfl)
        replace K2 : Blk (X6.setCell ⟨w.heap.size, 6, none⟩ (V1)) (w.heap.size + 1) 33 #[.int .i64 0, .int .i64 0, .int .i64 0, .int .u64 0, .int .i64 0, .int .u64 0, .slice none 0 0, .slice none 0 0, .int .i64 0, .slice none 0 0, .slice none 0 0, .int .u64 0, .bool false, .int .i64 0, .int .i64 0] := Av.bother (K2) (by omega) _
        replace BX : Below w.heap.size w (X6.setCell ⟨w.heap.size, 6, none⟩ (V1)) := (BX.setCell (p := ⟨w.heap.size, 6, none⟩) (by simp only; omega) _)
        replace RV1 := (Row.far (i := 6) (x := V1) RV1 (show w.heap.size < w.heap.size + 2 by omega))
        replace RV2 := (Row.far (i := 6) (x := V1) RV2 (show w.heap.size < w.heap.size + 2 by omega))
        generalize (X6.setCell ⟨w.heap.size, 6, none⟩ (V1)) = X7 at *
        refine hK.out _ _ trivial (fun hHeld => ?_)
        clear hK K
        try simp only [List.getElem_toArray, List.getElem_cons_zero, List.getElem_cons_succ, Act.put, List.setIfInBounds_toArray, List.set_cons_zero, List.set_cons_succ]
        refine wpAnyH_take (i := 15) (v := .pointer (some ⟨w.heap.size, 0, none⟩)) rfl (by kernel_rfl) (by kernel_rfl) (by kernel_rfl) (fun _ _ _ h => h) (Or.inl ⟨by first | rfl | go_simp, by intro w9 hSw; (try dsimp only at hSw); go_simp⟩) (by assumption) ?_
        simp only [List.getElem_toArray, List.getElem_cons_zero, List.getElem_cons_succ, Act.put, List.setIfInBounds_toArray, List.set_cons_zero, List.set_cons_succ]
        refine wpAnyH_take (i := 16) (v := .pointer (some ⟨w.heap.size, 7, none⟩)) rfl (by kernel_rfl) (by kernel_rfl) (by kernel_rfl) (fun _ _ _ h => h) (Or.inl ⟨by first | rfl | go_simp, by intro w9 hSw; (try dsimp only at hSw); go_simp⟩) (by assumption) ?_
        simp only [List.getElem_toArray, List.getElem_cons_zero, List.getElem_cons_succ, Act.put, List.setIfInBounds_toArray, List.set_cons_zero, List.set_cons_succ]
        refine wpAnyH_ready (rs := [17]) (by kernel_rfl) (by simp) ?_
        refine AllReadyH.cons rfl (fun K hK => ?_) (AllReadyH.nil)
        refine Av.step_store_cell rfl _ _ _ rfl (w.heap.size) 7 (V2) rfl rfl 33 _ K1 (by show 7 < 15; decide) (by kernel_rfl) oV2 ?_
        replace K1 : Blk (X7.setCell ⟨w.heap.size, 7, none⟩ (V2)) (w.heap.size) 33 #[.int .i64 a.p.k, .int .i64 a.p.it, .int .i64 a.p.ok, .int .u64 a.p.ob, .int .i64 a.p.tk, .int .u64 a.p.tb, V1, V2, .int .i64 a.p.po, VA, VI, .int .u64 a.p.sd, .bool a.on, .int .i64 a.ev, .int .i64 a.nx] := (Av.bset K1 7 (V2) rfl)
        replace K2 : Blk (X7.setCell ⟨w.heap.size, 7, none⟩ (V2)) (w.heap.size + 1) 33 #[.int .i64 0, .int .i64 0, .int .i64 0, .int .u64 0, .int .i64 0, .int .u64 0, .slice none 0 0, .slice none 0 0, .int .i64 0, .slice none 0 0, .slice none 0 0, .int .u64 0, .bool false, .int .i64 0, .int .i64 0] := Av.bother (K2) (by omega) _
        replace BX : Below w.heap.size w (X7.setCell ⟨w.heap.size, 7, none⟩ (V2)) := (BX.setCell (p := ⟨w.heap.size, 7, none⟩) (by simp only; omega) _)
        replace RV1 := (Row.far (i := 7) (x := V2) RV1 (show w.heap.size < w.heap.size + 2 by omega))
        replace RV2 := (Row.far (i := 7) (x := V2) RV2 (show w.heap.size < w.heap.size + 2 by omega))
        generalize (X7.setCell ⟨w.heap.size, 7, none⟩ (V2)) = X8 at *
        refine hK.out _ _ trivial (fun hHeld => ?_)
        clear hK K
        try simp only [List.getElem_toArray, List.getElem_cons_zero, List.getElem_cons_succ, Act.put, List.setIfInBounds_toArray, List.set_cons_zero, List.set_cons_succ]
        refine wpAnyH_done (by kernel_rfl) ?_ _
        go_wp2_with fail
        go_meet
        exact ⟨V1, V2, K1, K2, RV1, RV2, BX⟩
    · skip
      have c90 := K1.cell 7
      go_simp
      clear c90
      refine hK.out _ _ trivial (fun hHeld => ?_)
      clear hK K
      try simp only [List.getElem_toArray, List.getElem_cons_zero, List.getElem_cons_succ, Act.put, List.setIfInBounds_toArray, List.set_cons_zero, List.set_cons_succ]
      refine wpAnyH_ready (rs := [5]) (by kernel_rfl) (by simp) ?_
      refine AllReadyH.cons rfl (fun K hK => ?_) (AllReadyH.nil)
      have c90 := K1.cell 6
      go_simp
      clear c90
      refine hK.out _ _ trivial (fun hHeld => ?_)
      clear hK K
      try simp only [List.getElem_toArray, List.getElem_cons_zero, List.getElem_cons_succ, Act.put, List.setIfInBounds_toArray, List.set_cons_zero, List.set_cons_succ]
      refine wpAnyH_ready (rs := [6]) (by kernel_rfl) (by simp) ?_
      refine AllReadyH.cons rfl (fun K hK => ?_) (AllReadyH.nil)
      go_simp
      refine (HC1.out X0 BX).mono ?_
      rintro e X9 ⟨V1, rfl, RV1, b9⟩
      have RV1 := Row.less RV1 (show w.heap.size + 2 ≤ X0.heap.size from K2.lt)
      have oV1 := RV1.one
      replace K1 := K1.below b9 K1.lt
      replace K2 := K2.below b9 K2.lt
      replace BX := Base.thenB BX b9
      clear b9
      refine hK.out _ _ trivial (fun hHeld => ?_)
      clear hK K
      try simp only [List.getElem_toArray, List.getElem_cons_zero, List.getElem_cons_succ, Act.put, List.setIfInBounds_toArray, List.set_cons_zero, List.set_cons_succ]
      refine wpAnyH_ready (rs := [11]) (by kernel_rfl) (by simp) ?_
      refine AllReadyH.cons rfl (fun K hK => ?_) (AllReadyH.nil)
      go_simp
      refine (HC2.out X9 BX).mono ?_
      rintro e X10 ⟨V2, rfl, RV2, b9⟩
      have RV2 := Row.less RV2 (show w.heap.size + 2 ≤ X9.heap.size from K2.lt)
      have oV2 := RV2.one
      replace K1 := K1.below b9 K1.lt
      replace K2 := K2.below b9 K2.lt
      replace BX := Base.thenB BX b9
      replace RV1 := Row.below RV1 b9
      clear b9
      refine hK.out _ _ trivial (fun hHeld => ?_)
      clear hK K
      try simp only [List.getElem_toArray, List.getElem_cons_zero, List.getElem_cons_succ, Act.put, List.setIfInBounds_toArray, List.set_cons_zero, List.set_cons_succ]
      refine wpAnyH_take (i := 12) (v := .pointer (some ⟨w.heap.size, 0, none⟩)) rfl (by kernel_rfl) (by kernel_rfl) (by kernel_rfl) (fun _ _ _ h => h) (Or.inl ⟨by first | rfl | go_simp, by intro w9 hSw; (try dsimp only at hSw); go_simp⟩) (by assumption) ?_
      simp only [List.getElem_toArray, List.getElem_cons_zero, List.getElem_cons_succ, Act.put, List.setIfInBounds_toArray, List.set_cons_zero, List.set_cons_succ]
      refine wpAnyH_take (i := 13) (v := .pointer (some ⟨w.heap.size, 6, none⟩)) rfl (by kernel_rfl) (by kernel_rfl) (by kernel_rfl) (fun _ _ _ h => h) (Or.inl ⟨by first | rfl | go_simp, by intro w9 hSw; (try dsimp only at hSw); go_simp⟩) (by assumption) ?_
      simp only [List.getElem_toArray, List.getElem_cons_zero, List.getElem_cons_succ, Act.put, List.setIfInBounds_toArray, List.set_cons_zero, List.set_cons_succ]
      refine wpAnyH_ready (rs := [14]) (by kernel_rfl) (by simp) ?_
      refine AllReadyH.cons rfl (fun K hK => ?_) (AllReadyH.nil)
      refine Av.step_store_cell rfl _ _ _ rfl (w.heap.size) 6 (V1) rfl rfl 33 _ K1 (by show 6 < 15; decide) (by kernel_rfl) oV1 ?_
      replace K1 : Blk (X10.setCell ⟨w.heap.size, 6, none⟩ (V1)) (w.heap.size) 33 #[.int .i64 a.p.k, .int .i64 a.p.it, .int .i64 a.p.ok, .int .u64 a.p.ob, .int .i64 a.p.tk, .int .u64 a.p.tb, V1, VS, .int .i64 a.p.po, VA, VI, .int .u64 a.p.sd, .bool a.on, .int .i64 a.ev, .int .i64 a.nx] := (Av.bset K1 6 (V1) rfl)
      replace K2 : Blk (X10.setCell ⟨w.heap.size, 6, none⟩ (V1)) (w.heap.size + 1) 33 #[.int .i64 0, .int .i64 0, .int .i64 0, .int .u64 0, .int .i64 0, .int .u64 0, .slice none 0 0, .slice none 0 0, .int .i64 0, .slice none 0 0, .slice none 0 0, .int .u64 0, .bool false, .int .i64 0, .int .i64 0] := Av.bother (K2) (by omega) _
      replace BX : Below w.heap.size w (X10.setCell ⟨w.heap.size, 6, none⟩ (V1)) := (BX.setCell (p := ⟨w.heap.size, 6, none⟩) (by simp only; omega) _)
      replace RV1 := (Row.far (i := 6) (x := V1) RV1 (show w.heap.size < w.heap.size + 2 by omega))
      replace RV2 := (Row.far (i := 6) (x := V1) RV2 (show w.heap.size < w.heap.size + 2 by omega))
      generalize (X10.setCell ⟨w.heap.size, 6, none⟩ (V1)) = X11 at *
      refine hK.out _ _ trivial (fun hHeld => ?_)
      clear hK K
      try simp only [List.getElem_toArray, List.getElem_cons_zero, List.getElem_cons_succ, Act.put, List.setIfInBounds_toArray, List.set_cons_zero, List.set_cons_succ]
      refine wpAnyH_take (i := 15) (v := .pointer (some ⟨w.heap.size, 0, none⟩)) rfl (by kernel_rfl) (by kernel_rfl) (by kernel_rfl) (fun _ _ _ h => h) (Or.inl ⟨by first | rfl | go_simp, by intro w9 hSw; (try dsimp only at hSw); go_simp⟩) (by assumption) ?_
      simp only [List.getElem_toArray, List.getElem_cons_zero, List.getElem_cons_succ, Act.put, List.setIfInBounds_toArray, List.set_cons_zero, List.set_cons_succ]
      refine wpAnyH_take (i := 16) (v := .pointer (some ⟨w.heap.size, 7, none⟩)) rfl (by kernel_rfl) (by kernel_rfl) (by kernel_rfl) (fun _ _ _ h => h) (Or.inl ⟨by first | rfl | go_simp, by intro w9 hSw; (try dsimp only at hSw); go_simp⟩) (by assumption) ?_
      simp only [List.getElem_toArray, List.getElem_cons_zero, List.getElem_cons_succ, Act.put, List.setIfInBounds_toArray, List.set_cons_zero, List.set_cons_succ]
      refine wpAnyH_ready (rs := [17]) (by kernel_rfl) (by simp) ?_
      refine AllReadyH.cons rfl (fun K hK => ?_) (AllReadyH.nil)
      refine Av.step_store_cell rfl _ _ _ rfl (w.heap.size) 7 (V2) rfl rfl 33 _ K1 (by show 7 < 15; decide) (by kernel_rfl) oV2 ?_
      replace K1 : Blk (X11.setCell ⟨w.heap.size, 7, none⟩ (V2)) (w.heap.size) 33 #[.int .i64 a.p.k, .int .i64 a.p.it, .int .i64 a.p.ok, .int .u64 a.p.ob, .int .i64 a.p.tk, .int .u64 a.p.tb, V1, V2, .int .i64 a.p.po, VA, VI, .int .u64 a.p.sd, .bool a.on, .int .i64 a.ev, .int .i64 a.nx] := (Av.bset K1 7 (V2) rfl)
      replace K2 : Blk (X11.setCell ⟨w.heap.size, 7, none⟩ (V2)) (w.heap.size + 1) 33 #[.int .i64 0, .int .i64 0, .int .i64 0, .int .u64 0, .int .i64 0, .int .u64 0, .slice none 0 0, .slice none 0 0, .int .i64 0, .slice none 0 0, .slice none 0 0, .int .u64 0, .bool false, .int .i64 0, .int .i64 0] := Av.bother (K2) (by omega) _
      replace BX : Below w.heap.size w (X11.setCell ⟨w.heap.size, 7, none⟩ (V2)) := (BX.setCell (p := ⟨w.heap.size, 7, none⟩) (by simp only; omega) _)
      replace RV1 := (Row.far (i := 7) (x := V2) RV1 (show w.heap.size < w.heap.size + 2 by omega))
      replace RV2 := (Row.far (i := 7) (x := V2) RV2 (show w.heap.size < w.heap.size + 2 by omega))
      generalize (X11.setCell ⟨w.heap.size, 7, none⟩ (V2)) = X12 at *
      refine hK.out _ _ trivial (fun hHeld => ?_)
      clear hK K
      try simp only [List.getElem_toArray, List.getElem_cons_zero, List.getElem_cons_succ, Act.put, List.setIfInBounds_toArray, List.set_cons_zero, List.set_cons_succ]
      refine wpAnyH_done (by kernel_rfl) ?_ _
      go_wp2_with fail
      go_meet
      exact ⟨V1, V2, K1, K2, RV1, RV2, BX⟩
  case rest =>
    obtain ⟨V1, V2, K1, K2, RV1, RV2, BX⟩ := hcut
    go_upto_region 3 with (fail)
    generalize wc = W1 at *
    go_cut [] from 21 to 36 (fun wx => ∃ V3 V4, Blk wx (w.heap.size) 33 #[.int .i64 a.p.k, .int .i64 a.p.it, .int .i64 a.p.ok, .int .u64 a.p.ob, .int .i64 a.p.tk, .int .u64 a.p.tb, V1, V2, .int .i64 a.p.po, V3, V4, .int .u64 a.p.sd, .bool a.on, .int .i64 a.ev, .int .i64 a.nx] ∧ Blk wx (w.heap.size + 1) 33 #[.int .i64 0, .int .i64 0, .int .i64 0, .int .u64 0, .int .i64 0, .int .u64 0, .slice none 0 0, .slice none 0 0, .int .i64 0, .slice none 0 0, .slice none 0 0, .int .u64 0, .bool false, .int .i64 0, .int .i64 0] ∧ Row wx (w.heap.size + 2) V1 a.p.ds.length (a.p.ds.map (Value.int .u8)) ∧ Row wx (w.heap.size + 2) V2 a.p.sc.length (a.p.sc.map (Value.int .u8)) ∧ Row wx (w.heap.size + 2) V3 a.p.ac.length (a.p.ac.flatMap encA) ∧ Row wx (w.heap.size + 2) V4 a.p.ids.length (a.p.ids.flatMap encI) ∧ Below w.heap.size w wx)
    case first =>
      go_wp2_with fail
      refine wp_region_held_drew (S := (fun _ => True)) (by kernel_rfl) ?_ (fun hHeld => ?_)
      · exact trivial
      replace K1 : Blk W1.drew (w.heap.size) 33 #[.int .i64 a.p.k, .int .i64 a.p.it, .int .i64 a.p.ok, .int .u64 a.p.ob, .int .i64 a.p.tk, .int .u64 a.p.tb, V1, V2, .int .i64 a.p.po, VA, VI, .int .u64 a.p.sd, .bool a.on, .int .i64 a.ev, .int .i64 a.nx] := K1
      replace K2 : Blk W1.drew (w.heap.size + 1) 33 #[.int .i64 0, .int .i64 0, .int .i64 0, .int .u64 0, .int .i64 0, .int .u64 0, .slice none 0 0, .slice none 0 0, .int .i64 0, .slice none 0 0, .slice none 0 0, .int .u64 0, .bool false, .int .i64 0, .int .i64 0] := K2
      replace BX : Below w.heap.size w W1.drew := BX.drew
      replace RV1 := (show Row W1.drew _ _ _ _ from RV1)
      replace RV2 := (show Row W1.drew _ _ _ _ from RV2)
      generalize W1.drew = X0 at *
      refine wpAnyH_take (i := 0) (v := .pointer (some ⟨w.heap.size, 0, none⟩)) rfl (by kernel_rfl) (by kernel_rfl) (by kernel_rfl) (fun _ _ _ h => h) (Or.inl ⟨by first | rfl | go_simp, by intro w9 hSw; (try dsimp only at hSw); go_simp⟩) (by assumption) ?_
      simp only [List.getElem_toArray, List.getElem_cons_zero, List.getElem_cons_succ, Act.put, List.setIfInBounds_toArray, List.set_cons_zero, List.set_cons_succ]
      refine wpAnyH_take (i := 1) (v := .pointer (some ⟨w.heap.size, 0, none⟩)) rfl (by kernel_rfl) (by kernel_rfl) (by kernel_rfl) (fun _ _ _ h => h) (Or.inl ⟨by first | rfl | go_simp, by intro w9 hSw; (try dsimp only at hSw); go_simp⟩) (by assumption) ?_
      simp only [List.getElem_toArray, List.getElem_cons_zero, List.getElem_cons_succ, Act.put, List.setIfInBounds_toArray, List.set_cons_zero, List.set_cons_succ]
      refine wpAnyH_take (i := 2) (v := .pointer (some ⟨w.heap.size, 0, none⟩)) rfl (by kernel_rfl) (by kernel_rfl) (by kernel_rfl) (fun _ _ _ h => h) (Or.inl ⟨by first | rfl | go_simp, by intro w9 hSw; (try dsimp only at hSw); go_simp⟩) (by assumption) ?_
      simp only [List.getElem_toArray, List.getElem_cons_zero, List.getElem_cons_succ, Act.put, List.setIfInBounds_toArray, List.set_cons_zero, List.set_cons_succ]
      refine wpAnyH_take (i := 3) (v := .pointer (some ⟨w.heap.size, 0, none⟩)) rfl (by kernel_rfl) (by kernel_rfl) (by kernel_rfl) (fun _ _ _ h => h) (Or.inl ⟨by first | rfl | go_simp, by intro w9 hSw; (try dsimp only at hSw); go_simp⟩) (by assumption) ?_
      simp only [List.getElem_toArray, List.getElem_cons_zero, List.getElem_cons_succ, Act.put, List.setIfInBounds_toArray, List.set_cons_zero, List.set_cons_succ]
      refine wpAnyH_take (i := 4) (v := .pointer (some ⟨w.heap.size, 9, none⟩)) rfl (by kernel_rfl) (by kernel_rfl) (by kernel_rfl) (fun _ _ _ h => h) (Or.inl ⟨by first | rfl | go_simp, by intro w9 hSw; (try dsimp only at hSw); go_simp⟩) (by assumption) ?_
      simp only [List.getElem_toArray, List.getElem_cons_zero, List.getElem_cons_succ, Act.put, List.setIfInBounds_toArray, List.set_cons_zero, List.set_cons_succ]
      refine wpAnyH_take (i := 7) (v := .pointer (some ⟨w.heap.size, 0, none⟩)) rfl (by kernel_rfl) (by kernel_rfl) (by kernel_rfl) (fun _ _ _ h => h) (Or.inl ⟨by first | rfl | go_simp, by intro w9 hSw; (try dsimp only at hSw); go_simp⟩) (by assumption) ?_
      simp only [List.getElem_toArray, List.getElem_cons_zero, List.getElem_cons_succ, Act.put, List.setIfInBounds_toArray, List.set_cons_zero, List.set_cons_succ]
      refine wpAnyH_take (i := 8) (v := .pointer (some ⟨w.heap.size, 0, none⟩)) rfl (by kernel_rfl) (by kernel_rfl) (by kernel_rfl) (fun _ _ _ h => h) (Or.inl ⟨by first | rfl | go_simp, by intro w9 hSw; (try dsimp only at hSw); go_simp⟩) (by assumption) ?_
      simp only [List.getElem_toArray, List.getElem_cons_zero, List.getElem_cons_succ, Act.put, List.setIfInBounds_toArray, List.set_cons_zero, List.set_cons_succ]
      refine wpAnyH_take (i := 9) (v := .pointer (some ⟨w.heap.size, 10, none⟩)) rfl (by kernel_rfl) (by kernel_rfl) (by kernel_rfl) (fun _ _ _ h => h) (Or.inl ⟨by first | rfl | go_simp, by intro w9 hSw; (try dsimp only at hSw); go_simp⟩) (by assumption) ?_
      simp only [List.getElem_toArray, List.getElem_cons_zero, List.getElem_cons_succ, Act.put, List.setIfInBounds_toArray, List.set_cons_zero, List.set_cons_succ]
      refine wpAnyH_ready (rs := [5, 10]) (by kernel_rfl) (by simp) ?_
      refine AllReadyH.cons rfl (fun K hK => ?_) (AllReadyH.cons rfl (fun K hK => ?_) (AllReadyH.nil))
      · skip
        have c90 := K1.cell 9
        go_simp
        clear c90
        refine hK.out _ _ trivial (fun hHeld => ?_)
        clear hK K
        try simp only [List.getElem_toArray, List.getElem_cons_zero, List.getElem_cons_succ, Act.put, List.setIfInBounds_toArray, List.set_cons_zero, List.set_cons_succ]
        refine wpAnyH_ready (rs := [6, 10]) (by kernel_rfl) (by simp) ?_
        refine AllReadyH.cons rfl (fun K hK => ?_) (AllReadyH.cons rfl (fun K hK => ?_) (AllReadyH.nil))
        · skip
          go_simp
          refine (HC3.out X0 BX).mono ?_
          rintro e X1 ⟨V3, rfl, RV3, b9⟩
          have RV3 := Row.less RV3 (show w.heap.size + 2 ≤ X0.heap.size from K2.lt)
          have oV3 := RV3.one
          replace K1 := K1.below b9 K1.lt
          replace K2 := K2.below b9 K2.lt
          replace BX := Base.thenB BX b9
          replace RV1 := Row.below RV1 b9
          replace RV2 := Row.below RV2 b9
          clear b9
          refine hK.out _ _ trivial (fun hHeld => ?_)
          clear hK K
          try simp only [List.getElem_toArray, List.getElem_cons_zero, List.getElem_cons_succ, Act.put, List.setIfInBounds_toArray, List.set_cons_zero, List.set_cons_succ]
          refine wpAnyH_ready (rs := [10]) (by kernel_rfl) (by simp) ?_
          refine AllReadyH.cons rfl (fun K hK => ?_) (AllReadyH.nil)
          have c90 := K1.cell 10
          go_simp
          clear c90
          refine hK.out _ _ trivial (fun hHeld => ?_)
          clear hK K
          try simp only [List.getElem_toArray, List.getElem_cons_zero, List.getElem_cons_succ, Act.put, List.setIfInBounds_toArray, List.set_cons_zero, List.set_cons_succ]
          refine wpAnyH_ready (rs := [11]) (by kernel_rfl) (by simp) ?_
          refine AllReadyH.cons rfl (fun K hK => ?_) (AllReadyH.nil)
          go_simp
          refine (HC4.out X1 BX).mono ?_
          rintro e X2 ⟨V4, rfl, RV4, b9⟩
          have RV4 := Row.less RV4 (show w.heap.size + 2 ≤ X1.heap.size from K2.lt)
          have oV4 := RV4.one
          replace K1 := K1.below b9 K1.lt
          replace K2 := K2.below b9 K2.lt
          replace BX := Base.thenB BX b9
          replace RV1 := Row.below RV1 b9
          replace RV2 := Row.below RV2 b9
          replace RV3 := Row.below RV3 b9
          clear b9
          refine hK.out _ _ trivial (fun hHeld => ?_)
          clear hK K
          try simp only [List.getElem_toArray, List.getElem_cons_zero, List.getElem_cons_succ, Act.put, List.setIfInBounds_toArray, List.set_cons_zero, List.set_cons_succ]
          refine wpAnyH_take (i := 12) (v := .pointer (some ⟨w.heap.size, 0, none⟩)) rfl (by kernel_rfl) (by kernel_rfl) (by kernel_rfl) (fun _ _ _ h => h) (Or.inl ⟨by first | rfl | go_simp, by intro w9 hSw; (try dsimp only at hSw); go_simp⟩) (by assumption) ?_
          simp only [List.getElem_toArray, List.getElem_cons_zero, List.getElem_cons_succ, Act.put, List.setIfInBounds_toArray, List.set_cons_zero, List.set_cons_succ]
          refine wpAnyH_take (i := 13) (v := .pointer (some ⟨w.heap.size, 9, none⟩)) rfl (by kernel_rfl) (by kernel_rfl) (by kernel_rfl) (fun _ _ _ h => h) (Or.inl ⟨by first | rfl | go_simp, by intro w9 hSw; (try dsimp only at hSw); go_simp⟩) (by assumption) ?_
          simp only [List.getElem_toArray, List.getElem_cons_zero, List.getElem_cons_succ, Act.put, List.setIfInBounds_toArray, List.set_cons_zero, List.set_cons_succ]
          refine wpAnyH_ready (rs := [14]) (by kernel_rfl) (by simp) ?_
          refine AllReadyH.cons rfl (fun K hK => ?_) (AllReadyH.nil)
          refine Av.step_store_cell rfl _ _ _ rfl (w.heap.size) 9 (V3) rfl rfl 33 _ K1 (by show 9 < 15; decide) (by kernel_rfl) oV3 ?_
          replace K1 : Blk (X2.setCell ⟨w.heap.size, 9, none⟩ (V3)) (w.heap.size) 33 #[.int .i64 a.p.k, .int .i64 a.p.it, .int .i64 a.p.ok, .int .u64 a.p.ob, .int .i64 a.p.tk, .int .u64 a.p.tb, V1, V2, .int .i64 a.p.po, V3, VI, .int .u64 a.p.sd, .bool a.on, .int .i64 a.ev, .int .i64 a.nx] := (Av.bset K1 9 (V3) rfl)
          replace K2 : Blk (X2.setCell ⟨w.heap.size, 9, none⟩ (V3)) (w.heap.size + 1) 33 #[.int .i64 0, .int .i64 0, .int .i64 0, .int .u64 0, .int .i64 0, .int .u64 0, .slice none 0 0, .slice none 0 0, .int .i64 0, .slice none 0 0, .slice none 0 0, .int .u64 0, .bool false, .int .i64 0, .int .i64 0] := Av.bother (K2) (by omega) _
          replace BX : Below w.heap.size w (X2.setCell ⟨w.heap.size, 9, none⟩ (V3)) := (BX.setCell (p := ⟨w.heap.size, 9, none⟩) (by simp only; omega) _)
          replace RV1 := (Row.far (i := 9) (x := V3) RV1 (show w.heap.size < w.heap.size + 2 by omega))
          replace RV2 := (Row.far (i := 9) (x := V3) RV2 (show w.heap.size < w.heap.size + 2 by omega))
          replace RV3 := (Row.far (i := 9) (x := V3) RV3 (show w.heap.size < w.heap.size + 2 by omega))
          replace RV4 := (Row.far (i := 9) (x := V3) RV4 (show w.heap.size < w.heap.size + 2 by omega))
          generalize (X2.setCell ⟨w.heap.size, 9, none⟩ (V3)) = X3 at *
          refine hK.out _ _ trivial (fun hHeld => ?_)
          clear hK K
          try simp only [List.getElem_toArray, List.getElem_cons_zero, List.getElem_cons_succ, Act.put, List.setIfInBounds_toArray, List.set_cons_zero, List.set_cons_succ]
          refine wpAnyH_take (i := 15) (v := .pointer (some ⟨w.heap.size, 0, none⟩)) rfl (by kernel_rfl) (by kernel_rfl) (by kernel_rfl) (fun _ _ _ h => h) (Or.inl ⟨by first | rfl | go_simp, by intro w9 hSw; (try dsimp only at hSw); go_simp⟩) (by assumption) ?_
          simp only [List.getElem_toArray, List.getElem_cons_zero, List.getElem_cons_succ, Act.put, List.setIfInBounds_toArray, List.set_cons_zero, List.set_cons_succ]
          refine wpAnyH_take (i := 16) (v := .pointer (some ⟨w.heap.size, 10, none⟩)) rfl (by kernel_rfl) (by kernel_rfl) (by kernel_rfl) (fun _ _ _ h => h) (Or.inl ⟨by first | rfl | go_simp, by intro w9 hSw; (try dsimp only at hSw); go_simp⟩) (by assumption) ?_
          simp only [List.getElem_toArray, List.getElem_cons_zero, List.getElem_cons_succ, Act.put, List.setIfInBounds_toArray, List.set_cons_zero, List.set_cons_succ]
          refine wpAnyH_ready (rs := [17]) (by kernel_rfl) (by simp) ?_
          refine AllReadyH.cons rfl (fun K hK => ?_) (AllReadyH.nil)
          refine Av.step_store_cell rfl _ _ _ rfl (w.heap.size) 10 (V4) rfl rfl 33 _ K1 (by show 10 < 15; decide) (by kernel_rfl) oV4 ?_
          replace K1 : Blk (X3.setCell ⟨w.heap.size, 10, none⟩ (V4)) (w.heap.size) 33 #[.int .i64 a.p.k, .int .i64 a.p.it, .int .i64 a.p.ok, .int .u64 a.p.ob, .int .i64 a.p.tk, .int .u64 a.p.tb, V1, V2, .int .i64 a.p.po, V3, V4, .int .u64 a.p.sd, .bool a.on, .int .i64 a.ev, .int .i64 a.nx] := (Av.bset K1 10 (V4) rfl)
          replace K2 : Blk (X3.setCell ⟨w.heap.size, 10, none⟩ (V4)) (w.heap.size + 1) 33 #[.int .i64 0, .int .i64 0, .int .i64 0, .int .u64 0, .int .i64 0, .int .u64 0, .slice none 0 0, .slice none 0 0, .int .i64 0, .slice none 0 0, .slice none 0 0, .int .u64 0, .bool false, .int .i64 0, .int .i64 0] := Av.bother (K2) (by omega) _
          replace BX : Below w.heap.size w (X3.setCell ⟨w.heap.size, 10, none⟩ (V4)) := (BX.setCell (p := ⟨w.heap.size, 10, none⟩) (by simp only; omega) _)
          replace RV1 := (Row.far (i := 10) (x := V4) RV1 (show w.heap.size < w.heap.size + 2 by omega))
          replace RV2 := (Row.far (i := 10) (x := V4) RV2 (show w.heap.size < w.heap.size + 2 by omega))
          replace RV3 := (Row.far (i := 10) (x := V4) RV3 (show w.heap.size < w.heap.size + 2 by omega))
          replace RV4 := (Row.far (i := 10) (x := V4) RV4 (show w.heap.size < w.heap.size + 2 by omega))
          generalize (X3.setCell ⟨w.heap.size, 10, none⟩ (V4)) = X4 at *
          refine hK.out _ _ trivial (fun hHeld => ?_)
          clear hK K
          try simp only [List.getElem_toArray, List.getElem_cons_zero, List.getElem_cons_succ, Act.put, List.setIfInBounds_toArray, List.set_cons_zero, List.set_cons_succ]
          refine wpAnyH_done (by kernel_rfl) ?_ _
          go_wp2_with fail
          go_meet
          exact ⟨V3, V4, K1, K2, RV1, RV2, RV3, RV4, BX⟩
        · skip
          have c90 := K1.cell 10
          go_simp
          clear c90
          refine hK.out _ _ trivial (fun hHeld => ?_)
          clear hK K
          try simp only [List.getElem_toArray, List.getElem_cons_zero, List.getElem_cons_succ, Act.put, List.setIfInBounds_toArray, List.set_cons_zero, List.set_cons_succ]
          refine wpAnyH_ready (rs := [6]) (by kernel_rfl) (by simp) ?_
          refine AllReadyH.cons rfl (fun K hK => ?_) (AllReadyH.nil)
          go_simp
          refine (HC3.out X0 BX).mono ?_
          rintro e X5 ⟨V3, rfl, RV3, b9⟩
          have RV3 := Row.less RV3 (show w.heap.size + 2 ≤ X0.heap.size from K2.lt)
          have oV3 := RV3.one
          replace K1 := K1.below b9 K1.lt
          replace K2 := K2.below b9 K2.lt
          replace BX := Base.thenB BX b9
          replace RV1 := Row.below RV1 b9
          replace RV2 := Row.below RV2 b9
          clear b9
          refine hK.out _ _ trivial (fun hHeld => ?_)
          clear hK K
          try simp only [List.getElem_toArray, List.getElem_cons_zero, List.getElem_cons_succ, Act.put, List.setIfInBounds_toArray, List.set_cons_zero, List.set_cons_succ]
          refine wpAnyH_ready (rs := [11]) (by kernel_rfl) (by simp) ?_
          refine AllReadyH.cons rfl (fun K hK => ?_) (AllReadyH.nil)
          go_simp
          refine (HC4.out X5 BX).mono ?_
          rintro e X6 ⟨V4, rfl, RV4, b9⟩
          have RV4 := Row.less RV4 (show w.heap.size + 2 ≤ X5.heap.size from K2.lt)
          have oV4 := RV4.one
          replace K1 := K1.below b9 K1.lt
          replace K2 := K2.below b9 K2.lt
          replace BX := Base.thenB BX b9
          replace RV1 := Row.below RV1 b9
          replace RV2 := Row.below RV2 b9
          replace RV3 := Row.below RV3 b9
          clear b9
          refine hK.out _ _ trivial (fun hHeld => ?_)
          clear hK K
          try simp only [List.getElem_toArray, List.getElem_cons_zero, List.getElem_cons_succ, Act.put, List.setIfInBounds_toArray, List.set_cons_zero, List.set_cons_succ]
          refine wpAnyH_take (i := 12) (v := .pointer (some ⟨w.heap.size, 0, none⟩)) rfl (by kernel_rfl) (by kernel_rfl) (by kernel_rfl) (fun _ _ _ h => h) (Or.inl ⟨by first | rfl | go_simp, by intro w9 hSw; (try dsimp only at hSw); go_simp⟩) (by assumption) ?_
          simp only [List.getElem_toArray, List.getElem_cons_zero, List.getElem_cons_succ, Act.put, List.setIfInBounds_toArray, List.set_cons_zero, List.set_cons_succ]
          refine wpAnyH_take (i := 13) (v := .pointer (some ⟨w.heap.size, 9, none⟩)) rfl (by kernel_rfl) (by kernel_rfl) (by kernel_rfl) (fun _ _ _ h => h) (Or.inl ⟨by first | rfl | go_simp, by intro w9 hSw; (try dsimp only at hSw); go_simp⟩) (by assumption) ?_
          simp only [List.getElem_toArray, List.getElem_cons_zero, List.getElem_cons_succ, Act.put, List.setIfInBounds_toArray, List.set_cons_zero, List.set_cons_succ]
          refine wpAnyH_ready (rs := [14]) (by kernel_rfl) (by simp) ?_
          refine AllReadyH.cons rfl (fun K hK => ?_) (AllReadyH.nil)
          refine Av.step_store_cell rfl _ _ _ rfl (w.heap.size) 9 (V3) rfl rfl 33 _ K1 (by show 9 < 15; decide) (by kernel_rfl) oV3 ?_
          replace K1 : Blk (X6.setCell ⟨w.heap.size, 9, none⟩ (V3)) (w.heap.size) 33 #[.int .i64 a.p.k, .int .i64 a.p.it, .int .i64 a.p.ok, .int .u64 a.p.ob, .int .i64 a.p.tk, .int .u64 a.p.tb, V1, V2, .int .i64 a.p.po, V3, VI, .int .u64 a.p.sd, .bool a.on, .int .i64 a.ev, .int .i64 a.nx] := (Av.bset K1 9 (V3) rfl)
          replace K2 : Blk (X6.setCell ⟨w.heap.size, 9, none⟩ (V3)) (w.heap.size + 1) 33 #[.int .i64 0, .int .i64 0, .int .i64 0, .int .u64 0, .int .i64 0, .int .u64 0, .slice none 0 0, .slice none 0 0, .int .i64 0, .slice none 0 0, .slice none 0 0, .int .u64 0, .bool false, .int .i64 0, .int .i64 0] := Av.bother (K2) (by omega) _
          replace BX : Below w.heap.size w (X6.setCell ⟨w.heap.size, 9, none⟩ (V3)) := (BX.setCell (p := ⟨w.heap.size, 9, none⟩) (by simp only; omega) _)
          replace RV1 := (Row.far (i := 9) (x := V3) RV1 (show w.heap.size < w.heap.size + 2 by omega))
          replace RV2 := (Row.far (i := 9) (x := V3) RV2 (show w.heap.size < w.heap.size + 2 by omega))
          replace RV3 := (Row.far (i := 9) (x := V3) RV3 (show w.heap.size < w.heap.size + 2 by omega))
          replace RV4 := (Row.far (i := 9) (x := V3) RV4 (show w.heap.size < w.heap.size + 2 by omega))
          generalize (X6.setCell ⟨w.heap.size, 9, none⟩ (V3)) = X7 at *
          refine hK.out _ _ trivial (fun hHeld => ?_)
          clear hK K
          try simp only [List.getElem_toArray, List.getElem_cons_zero, List.getElem_cons_succ, Act.put, List.setIfInBounds_toArray, List.set_cons_zero, List.set_cons_succ]
          refine wpAnyH_take (i := 15) (v := .pointer (some ⟨w.heap.size, 0, none⟩)) rfl (by kernel_rfl) (by kernel_rfl) (by kernel_rfl) (fun _ _ _ h => h) (Or.inl ⟨by first | rfl | go_simp, by intro w9 hSw; (try dsimp only at hSw); go_simp⟩) (by assumption) ?_
          simp only [List.getElem_toArray, List.getElem_cons_zero, List.getElem_cons_succ, Act.put, List.setIfInBounds_toArray, List.set_cons_zero, List.set_cons_succ]
          refine wpAnyH_take (i := 16) (v := .pointer (some ⟨w.heap.size, 10, none⟩)) rfl (by kernel_rfl) (by kernel_rfl) (by kernel_rfl) (fun _ _ _ h => h) (Or.inl ⟨by first | rfl | go_simp, by intro w9 hSw; (try dsimp only at hSw); go_simp⟩) (by assumption) ?_
          simp only [List.getElem_toArray, List.getElem_cons_zero, List.getElem_cons_succ, Act.put, List.setIfInBounds_toArray, List.set_cons_zero, List.set_cons_succ]
          refine wpAnyH_ready (rs := [17]) (by kernel_rfl) (by simp) ?_
          refine AllReadyH.cons rfl (fun K hK => ?_) (AllReadyH.nil)
          refine Av.step_store_cell rfl _ _ _ rfl (w.heap.size) 10 (V4) rfl rfl 33 _ K1 (by show 10 < 15; decide) (by kernel_rfl) oV4 ?_
          replace K1 : Blk (X7.setCell ⟨w.heap.size, 10, none⟩ (V4)) (w.heap.size) 33 #[.int .i64 a.p.k, .int .i64 a.p.it, .int .i64 a.p.ok, .int .u64 a.p.ob, .int .i64 a.p.tk, .int .u64 a.p.tb, V1, V2, .int .i64 a.p.po, V3, V4, .int .u64 a.p.sd, .bool a.on, .int .i64 a.ev, .int .i64 a.nx] := (Av.bset K1 10 (V4) rfl)
          replace K2 : Blk (X7.setCell ⟨w.heap.size, 10, none⟩ (V4)) (w.heap.size + 1) 33 #[.int .i64 0, .int .i64 0, .int .i64 0, .int .u64 0, .int .i64 0, .int .u64 0, .slice none 0 0, .slice none 0 0, .int .i64 0, .slice none 0 0, .slice none 0 0, .int .u64 0, .bool false, .int .i64 0, .int .i64 0] := Av.bother (K2) (by omega) _
          replace BX : Below w.heap.size w (X7.setCell ⟨w.heap.size, 10, none⟩ (V4)) := (BX.setCell (p := ⟨w.heap.size, 10, none⟩) (by simp only; omega) _)
          replace RV1 := (Row.far (i := 10) (x := V4) RV1 (show w.heap.size < w.heap.size + 2 by omega))
          replace RV2 := (Row.far (i := 10) (x := V4) RV2 (show w.heap.size < w.heap.size + 2 by omega))
          replace RV3 := (Row.far (i := 10) (x := V4) RV3 (show w.heap.size < w.heap.size + 2 by omega))
          replace RV4 := (Row.far (i := 10) (x := V4) RV4 (show w.heap.size < w.heap.size + 2 by omega))
          generalize (X7.setCell ⟨w.heap.size, 10, none⟩ (V4)) = X8 at *
          refine hK.out _ _ trivial (fun hHeld => ?_)
          clear hK K
          try simp only [List.getElem_toArray, List.getElem_cons_zero, List.getElem_cons_succ, Act.put, List.setIfInBounds_toArray, List.set_cons_zero, List.set_cons_succ]
          refine wpAnyH_done (by kernel_rfl) ?_ _
          go_wp2_with fail
          go_meet
          exact ⟨V3, V4, K1, K2, RV1, RV2, RV3, RV4, BX⟩
      · skip
        have c90 := K1.cell 10
        go_simp
        clear c90
        refine hK.out _ _ trivial (fun hHeld => ?_)
        clear hK K
        try simp only [List.getElem_toArray, List.getElem_cons_zero, List.getElem_cons_succ, Act.put, List.setIfInBounds_toArray, List.set_cons_zero, List.set_cons_succ]
        refine wpAnyH_ready (rs := [5]) (by kernel_rfl) (by simp) ?_
        refine AllReadyH.cons rfl (fun K hK => ?_) (AllReadyH.nil)
        have c90 := K1.cell 9
        go_simp
        clear c90
        refine hK.out _ _ trivial (fun hHeld => ?_)
        clear hK K
        try simp only [List.getElem_toArray, List.getElem_cons_zero, List.getElem_cons_succ, Act.put, List.setIfInBounds_toArray, List.set_cons_zero, List.set_cons_succ]
        refine wpAnyH_ready (rs := [6]) (by kernel_rfl) (by simp) ?_
        refine AllReadyH.cons rfl (fun K hK => ?_) (AllReadyH.nil)
        go_simp
        refine (HC3.out X0 BX).mono ?_
        rintro e X9 ⟨V3, rfl, RV3, b9⟩
        have RV3 := Row.less RV3 (show w.heap.size + 2 ≤ X0.heap.size from K2.lt)
        have oV3 := RV3.one
        replace K1 := K1.below b9 K1.lt
        replace K2 := K2.below b9 K2.lt
        replace BX := Base.thenB BX b9
        replace RV1 := Row.below RV1 b9
        replace RV2 := Row.below RV2 b9
        clear b9
        refine hK.out _ _ trivial (fun hHeld => ?_)
        clear hK K
        try simp only [List.getElem_toArray, List.getElem_cons_zero, List.getElem_cons_succ, Act.put, List.setIfInBounds_toArray, List.set_cons_zero, List.set_cons_succ]
        refine wpAnyH_ready (rs := [11]) (by kernel_rfl) (by simp) ?_
        refine AllReadyH.cons rfl (fun K hK => ?_) (AllReadyH.nil)
        go_simp
        refine (HC4.out X9 BX).mono ?_
        rintro e X10 ⟨V4, rfl, RV4, b9⟩
        have RV4 := Row.less RV4 (show w.heap.size + 2 ≤ X9.heap.size from K2.lt)
        have oV4 := RV4.one
        replace K1 := K1.below b9 K1.lt
        replace K2 := K2.below b9 K2.lt
        replace BX := Base.thenB BX b9
        replace RV1 := Row.below RV1 b9
        replace RV2 := Row.below RV2 b9
        replace RV3 := Row.below RV3 b9
        clear b9
        refine hK.out _ _ trivial (fun hHeld => ?_)
        clear hK K
        try simp only [List.getElem_toArray, List.getElem_cons_zero, List.getElem_cons_succ, Act.put, List.setIfInBounds_toArray, List.set_cons_zero, List.set_cons_succ]
        refine wpAnyH_take (i := 12) (v := .pointer (some ⟨w.heap.size, 0, none⟩)) rfl (by kernel_rfl) (by kernel_rfl) (by kernel_rfl) (fun _ _ _ h => h) (Or.inl ⟨by first | rfl | go_simp, by intro w9 hSw; (try dsimp only at hSw); go_simp⟩) (by assumption) ?_
        simp only [List.getElem_toArray, List.getElem_cons_zero, List.getElem_cons_succ, Act.put, List.setIfInBounds_toArray, List.set_cons_zero, List.set_cons_succ]
        refine wpAnyH_take (i := 13) (v := .pointer (some ⟨w.heap.size, 9, none⟩)) rfl (by kernel_rfl) (by kernel_rfl) (by kernel_rfl) (fun _ _ _ h => h) (Or.inl ⟨by first | rfl | go_simp, by intro w9 hSw; (try dsimp only at hSw); go_simp⟩) (by assumption) ?_
        simp only [List.getElem_toArray, List.getElem_cons_zero, List.getElem_cons_succ, Act.put, List.setIfInBounds_toArray, List.set_cons_zero, List.set_cons_succ]
        refine wpAnyH_ready (rs := [14]) (by kernel_rfl) (by simp) ?_
        refine AllReadyH.cons rfl (fun K hK => ?_) (AllReadyH.nil)
        refine Av.step_store_cell rfl _ _ _ rfl (w.heap.size) 9 (V3) rfl rfl 33 _ K1 (by show 9 < 15; decide) (by kernel_rfl) oV3 ?_
        replace K1 : Blk (X10.setCell ⟨w.heap.size, 9, none⟩ (V3)) (w.heap.size) 33 #[.int .i64 a.p.k, .int .i64 a.p.it, .int .i64 a.p.ok, .int .u64 a.p.ob, .int .i64 a.p.tk, .int .u64 a.p.tb, V1, V2, .int .i64 a.p.po, V3, VI, .int .u64 a.p.sd, .bool a.on, .int .i64 a.ev, .int .i64 a.nx] := (Av.bset K1 9 (V3) rfl)
        replace K2 : Blk (X10.setCell ⟨w.heap.size, 9, none⟩ (V3)) (w.heap.size + 1) 33 #[.int .i64 0, .int .i64 0, .int .i64 0, .int .u64 0, .int .i64 0, .int .u64 0, .slice none 0 0, .slice none 0 0, .int .i64 0, .slice none 0 0, .slice none 0 0, .int .u64 0, .bool false, .int .i64 0, .int .i64 0] := Av.bother (K2) (by omega) _
        replace BX : Below w.heap.size w (X10.setCell ⟨w.heap.size, 9, none⟩ (V3)) := (BX.setCell (p := ⟨w.heap.size, 9, none⟩) (by simp only; omega) _)
        replace RV1 := (Row.far (i := 9) (x := V3) RV1 (show w.heap.size < w.heap.size + 2 by omega))
        replace RV2 := (Row.far (i := 9) (x := V3) RV2 (show w.heap.size < w.heap.size + 2 by omega))
        replace RV3 := (Row.far (i := 9) (x := V3) RV3 (show w.heap.size < w.heap.size + 2 by omega))
        replace RV4 := (Row.far (i := 9) (x := V3) RV4 (show w.heap.size < w.heap.size + 2 by omega))
        generalize (X10.setCell ⟨w.heap.size, 9, none⟩ (V3)) = X11 at *
        refine hK.out _ _ trivial (fun hHeld => ?_)
        clear hK K
        try simp only [List.getElem_toArray, List.getElem_cons_zero, List.getElem_cons_succ, Act.put, List.setIfInBounds_toArray, List.set_cons_zero, List.set_cons_succ]
        refine wpAnyH_take (i := 15) (v := .pointer (some ⟨w.heap.size, 0, none⟩)) rfl (by kernel_rfl) (by kernel_rfl) (by kernel_rfl) (fun _ _ _ h => h) (Or.inl ⟨by first | rfl | go_simp, by intro w9 hSw; (try dsimp only at hSw); go_simp⟩) (by assumption) ?_
        simp only [List.getElem_toArray, List.getElem_cons_zero, List.getElem_cons_succ, Act.put, List.setIfInBounds_toArray, List.set_cons_zero, List.set_cons_succ]
        refine wpAnyH_take (i := 16) (v := .pointer (some ⟨w.heap.size, 10, none⟩)) rfl (by kernel_rfl) (by kernel_rfl) (by kernel_rfl) (fun _ _ _ h => h) (Or.inl ⟨by first | rfl | go_simp, by intro w9 hSw; (try dsimp only at hSw); go_simp⟩) (by assumption) ?_
        simp only [List.getElem_toArray, List.getElem_cons_zero, List.getElem_cons_succ, Act.put, List.setIfInBounds_toArray, List.set_cons_zero, List.set_cons_succ]
        refine wpAnyH_ready (rs := [17]) (by kernel_rfl) (by simp) ?_
        refine AllReadyH.cons rfl (fun K hK => ?_) (AllReadyH.nil)
        refine Av.step_store_cell rfl _ _ _ rfl (w.heap.size) 10 (V4) rfl rfl 33 _ K1 (by show 10 < 15; decide) (by kernel_rfl) oV4 ?_
        replace K1 : Blk (X11.setCell ⟨w.heap.size, 10, none⟩ (V4)) (w.heap.size) 33 #[.int .i64 a.p.k, .int .i64 a.p.it, .int .i64 a.p.ok, .int .u64 a.p.ob, .int .i64 a.p.tk, .int .u64 a.p.tb, V1, V2, .int .i64 a.p.po, V3, V4, .int .u64 a.p.sd, .bool a.on, .int .i64 a.ev, .int .i64 a.nx] := (Av.bset K1 10 (V4) rfl)
        replace K2 : Blk (X11.setCell ⟨w.heap.size, 10, none⟩ (V4)) (w.heap.size + 1) 33 #[.int .i64 0, .int .i64 0, .int .i64 0, .int .u64 0, .int .i64 0, .int .u64 0, .slice none 0 0, .slice none 0 0, .int .i64 0, .slice none 0 0, .slice none 0 0, .int .u64 0, .bool false, .int .i64 0, .int .i64 0] := Av.bother (K2) (by omega) _
        replace BX : Below w.heap.size w (X11.setCell ⟨w.heap.size, 10, none⟩ (V4)) := (BX.setCell (p := ⟨w.heap.size, 10, none⟩) (by simp only; omega) _)
        replace RV1 := (Row.far (i := 10) (x := V4) RV1 (show w.heap.size < w.heap.size + 2 by omega))
        replace RV2 := (Row.far (i := 10) (x := V4) RV2 (show w.heap.size < w.heap.size + 2 by omega))
        replace RV3 := (Row.far (i := 10) (x := V4) RV3 (show w.heap.size < w.heap.size + 2 by omega))
        replace RV4 := (Row.far (i := 10) (x := V4) RV4 (show w.heap.size < w.heap.size + 2 by omega))
        generalize (X11.setCell ⟨w.heap.size, 10, none⟩ (V4)) = X12 at *
        refine hK.out _ _ trivial (fun hHeld => ?_)
        clear hK K
        try simp only [List.getElem_toArray, List.getElem_cons_zero, List.getElem_cons_succ, Act.put, List.setIfInBounds_toArray, List.set_cons_zero, List.set_cons_succ]
        refine wpAnyH_done (by kernel_rfl) ?_ _
        go_wp2_with fail
        go_meet
        exact ⟨V3, V4, K1, K2, RV1, RV2, RV3, RV4, BX⟩
    case rest =>
      clear RV1 RV2 K1 K2 BX
      obtain ⟨V3, V4, K1, K2, RV1, RV2, RV3, RV4, BX⟩ := hcut
      have HS : Has wc (w.heap.size + 2) a.p V1 V2 V3 V4 := ⟨RV1, RV2, RV3, RV4⟩
      clear RV1 RV2 RV3 RV4
      have H1 := HS.one a
      generalize wc = W2 at *
      go_wp2_with (first
        | (refine wpList_store_row rfl 33 (.tmp 2) _ rfl (w.heap.size + 1) #[.int .i64 a.p.k, .int .i64 a.p.it, .int .i64 a.p.ok, .int .u64 a.p.ob, .int .i64 a.p.tk, .int .u64 a.p.tb, V1, V2, .int .i64 a.p.po, V3, V4, .int .u64 a.p.sd, .bool a.on, .int .i64 a.ev, .int .i64 a.nx] rfl rfl 33 _ K2 (by kernel_rfl) rfl H1 ?_)
        | (refine wpList_load_row rfl 33 (.tmp 1) rfl w.heap.size rfl 33 _ (0, 0) _ K1 Tryd.underlying33 rfl (by kernel_rfl) ?_))
      have KR : Blk (W2.setRow (w.heap.size + 1) #[.int .i64 a.p.k, .int .i64 a.p.it, .int .i64 a.p.ok, .int .u64 a.p.ob, .int .i64 a.p.tk, .int .u64 a.p.tb, V1, V2, .int .i64 a.p.po, V3, V4, .int .u64 a.p.sd, .bool a.on, .int .i64 a.ev, .int .i64 a.nx]) (w.heap.size + 1) 33 #[.int .i64 a.p.k, .int .i64 a.p.it, .int .i64 a.p.ok, .int .u64 a.p.ob, .int .i64 a.p.tk, .int .u64 a.p.tb, V1, V2, .int .i64 a.p.po, V3, V4, .int .u64 a.p.sd, .bool a.on, .int .i64 a.ev, .int .i64 a.nx] := bset_row K2
      have BE := below_setRow BX (Nat.le_succ _) #[.int .i64 a.p.k, .int .i64 a.p.it, .int .i64 a.p.ok, .int .u64 a.p.ob, .int .i64 a.p.tk, .int .u64 a.p.tb, V1, V2, .int .i64 a.p.po, V3, V4, .int .u64 a.p.sd, .bool a.on, .int .i64 a.ev, .int .i64 a.nx]
      have HE := HS.farR (g := w.heap.size + 1) (cs := #[.int .i64 a.p.k, .int .i64 a.p.it, .int .i64 a.p.ok, .int .u64 a.p.ob, .int .i64 a.p.tk, .int .u64 a.p.tb, V1, V2, .int .i64 a.p.po, V3, V4, .int .u64 a.p.sd, .bool a.on, .int .i64 a.ev, .int .i64 a.nx]) (by omega)
      generalize W2.setRow (w.heap.size + 1) #[.int .i64 a.p.k, .int .i64 a.p.it, .int .i64 a.p.ok, .int .u64 a.p.ob, .int .i64 a.p.tk, .int .u64 a.p.tb, V1, V2, .int .i64 a.p.po, V3, V4, .int .u64 a.p.sd, .bool a.on, .int .i64 a.ev, .int .i64 a.nx] = Y at *
      refine bodyPost_ret (v := .agg #[.int .i64 a.p.k, .int .i64 a.p.it, .int .i64 a.p.ok, .int .u64 a.p.ob, .int .i64 a.p.tk, .int .u64 a.p.tb, V1, V2, .int .i64 a.p.po, V3, V4, .int .u64 a.p.sd, .bool a.on, .int .i64 a.ev, .int .i64 a.nx]) ?_ rfl ⟨V1, V2, V3, V4, rfl, HE.less (by omega), BE⟩
      have HL := run_loadVar_row (P := Tryd.prog) Y (w.heap.size + 1) 33 33 #[.int .i64 a.p.k, .int .i64 a.p.it, .int .i64 a.p.ok, .int .u64 a.p.ob, .int .i64 a.p.tk, .int .u64 a.p.tb, V1, V2, .int .i64 a.p.po, V3, V4, .int .u64 a.p.sd, .bool a.on, .int .i64 a.ev, .int .i64 a.nx] (0, 0) _ KR Tryd.underlying33 rfl (by kernel_rfl)
      generalize (#[.int .i64 a.p.k, .int .i64 a.p.it, .int .i64 a.p.ok, .int .u64 a.p.ob, .int .i64 a.p.tk, .int .u64 a.p.tb, V1, V2, .int .i64 a.p.po, V3, V4, .int .u64 a.p.sd, .bool a.on, .int .i64 a.ev, .int .i64 a.nx] : Array Value) = CS at *
      simp [results, show (Tryd.f41).results = #[.cell 2 33] from rfl, asAddr, HL, Act.put]
end Go.Proofs.YtcbliliinmfnjaaDoor.Av
