/- A medium in memory of its own. -/
import Derived.Test.YtocmcjbhmjbmhaaAirOwn0
import Derived.Test.YtocmcjbhmjbmhaaAirCheck
set_option linter.unusedVariables false
set_option linter.unusedSimpArgs false
namespace Go.Proofs.Ytocmcjbhmjbmhaa.Air
open Go.RowKit Mem Rw Base

theorem info_pair : (Try.prog.info? 70).map (fun i => (i.zero, i.size, i.bytes)) = some (some (.agg #[.int .i64 0, .int .i64 0]), 2, 16) := by kernel_rfl
theorem info_loss : (Try.prog.info? 61).map (fun i => (i.zero, i.size, i.bytes)) = some (some (.agg #[.int .i64 0, .int .i64 0]), 2, 16) := by kernel_rfl
theorem info_jam : (Try.prog.info? 66).map (fun i => (i.zero, i.size, i.bytes)) = some (some (.agg #[.int .i64 0, .int .i64 0, .int .i64 0]), 3, 24) := by kernel_rfl
theorem four_belowB {w w' : World} {B g : Nat} {d : Int} {x y z : Value} (f : Four w g d x y z) (b : Below B w w') (hg : g < B) : Four w' g d x y z :=
  ⟨(b.cell (p := ⟨g, 0, none⟩) hg).trans f.1, (b.cell (p := ⟨g, 1, none⟩) hg).trans f.2.1, (b.cell (p := ⟨g, 2, none⟩) hg).trans f.2.2.1, (b.cell (p := ⟨g, 3, none⟩) hg).trans f.2.2.2⟩
theorem set_four {X : World} {g : Nat} {t : TypeId} {z0 z1 z2 z3 : Value} (v0 v1 v2 v3 : Value) (hb : Blk X g t #[z0, z1, z2, z3]) :
    ((((X.setCell ⟨g, 0, none⟩ v0).setCell ⟨g, 1, none⟩ v1).setCell ⟨g, 2, none⟩ v2).setCell ⟨g, 3, none⟩ v3).cell? ⟨g, 0, none⟩ = some v0 ∧ ((((X.setCell ⟨g, 0, none⟩ v0).setCell ⟨g, 1, none⟩ v1).setCell ⟨g, 2, none⟩ v2).setCell ⟨g, 3, none⟩ v3).cell? ⟨g, 1, none⟩ = some v1 ∧ ((((X.setCell ⟨g, 0, none⟩ v0).setCell ⟨g, 1, none⟩ v1).setCell ⟨g, 2, none⟩ v2).setCell ⟨g, 3, none⟩ v3).cell? ⟨g, 2, none⟩ = some v2 ∧ ((((X.setCell ⟨g, 0, none⟩ v0).setCell ⟨g, 1, none⟩ v1).setCell ⟨g, 2, none⟩ v2).setCell ⟨g, 3, none⟩ v3).cell? ⟨g, 3, none⟩ = some v3 := by
  have ne : ∀ a b : Nat, a ≠ b → (⟨g, a, none⟩ : Addr) ≠ ⟨g, b, none⟩ := fun a b h e => by injection e with _ e2; exact h e2
  have c0 : X.cell? ⟨g, 0, none⟩ = some z0 := hb.cell 0
  have c1 : X.cell? ⟨g, 1, none⟩ = some z1 := hb.cell 1
  have c2 : X.cell? ⟨g, 2, none⟩ = some z2 := hb.cell 2
  have c3 : X.cell? ⟨g, 3, none⟩ = some z3 := hb.cell 3
  refine ⟨?_, ?_, ?_, ?_⟩
  · rw [World.cell?_setCell_other (h := ne 3 0 (by decide)), World.cell?_setCell_other (h := ne 2 0 (by decide)), World.cell?_setCell_other (h := ne 1 0 (by decide)), World.cell?_setCell_same' _ _ _ (by rw [c0]; rfl)]
  · rw [World.cell?_setCell_other (h := ne 3 1 (by decide)), World.cell?_setCell_other (h := ne 2 1 (by decide)), World.cell?_setCell_same' _ _ _ (by rw [World.cell?_setCell_other (h := ne 0 1 (by decide)), c1]; rfl)]
  · rw [World.cell?_setCell_other (h := ne 3 2 (by decide)), World.cell?_setCell_same' _ _ _ (by rw [World.cell?_setCell_other (h := ne 1 2 (by decide)), World.cell?_setCell_other (h := ne 0 2 (by decide)), c2]; rfl)]
  · rw [World.cell?_setCell_same' _ _ _ (by rw [World.cell?_setCell_other (h := ne 2 3 (by decide)), World.cell?_setCell_other (h := ne 1 3 (by decide)), World.cell?_setCell_other (h := ne 0 3 (by decide)), c3]; rfl)]
set_option maxHeartbeats 8000000 in
theorem own_any (D : Int) (A J S : Option Addr) (n c nj cj ns cs : Nat) (links : List (Int × Int)) (jams : List Jm) (loss : List (Int × Int)) (w : World) (h1 : links.length = n) (h2 : jams.length = nj) (h3 : loss.length = ns)
    (m1 : ListAt encP w w.heap.size A links) (m2 : ListAt encJ w w.heap.size J jams) (m3 : ListAt encP w w.heap.size S loss) (m4 : n ≤ 8796093022208) (m5 : nj ≤ 5864062014805) (m6 : ns ≤ 8796093022208) :
    Calls Try.prog 18 #[.agg #[.int .i64 D, .slice A n c, .slice J nj cj, .slice S ns cs]] w fun e w' => ∃ A1 c1 A2 c2 A3 c3, e = .returned (.agg #[.int .i64 D, .slice A1 n c1, .slice A2 nj c2, .slice A3 ns c3]) ∧ n ≤ c1 ∧ nj ≤ c2 ∧ ns ≤ c3 ∧
      ListAt encP w' w'.heap.size A1 links ∧ ListAt encJ w' w'.heap.size A2 jams ∧ ListAt encP w' w'.heap.size A3 loss ∧ Below w.heap.size w w' := by
  obtain ⟨iP, hi1, hz1, hs1, hb1, hc1⟩ := info_parts2 info_pair rfl
  obtain ⟨iJ, hi2, hz2, hs2, hb2, hc2⟩ := info_parts2 info_jam rfl
  obtain ⟨iL, hi3, hz3, hs3, hb3, hc3⟩ := info_parts2 info_loss rfl
  have HL1 : Hid ((links.flatMap encP).length = n * 2) := Lib.hid (by rw [flat_len sizP, h1])
  have HL2 : Hid ((jams.flatMap encJ).length = nj * 3) := Lib.hid (by rw [flat_len sizJ, h2])
  have HL3 : Hid ((loss.flatMap encP).length = ns * 2) := Lib.hid (by rw [flat_len sizP, h3])
  have B0 := two_below w (.cells #[.int .i64 D, .slice A n c, .slice J nj cj, .slice S ns cs] 34) (.cells #[.int .i64 0, .slice none 0 0, .slice none 0 0, .slice none 0 0] 34)
  have F0 := (four_of (Blk.fresh w 34 #[.int .i64 D, .slice A n c, .slice J nj cj, .slice S ns cs])).below ((Below.refl _ (w.alloc (.cells #[.int .i64 D, .slice A n c, .slice J nj cj, .slice S ns cs] 34))).alloc (Nat.le_refl _) (.cells #[.int .i64 0, .slice none 0 0, .slice none 0 0, .slice none 0 0] 34))
  have R0 := Blk.fresh (w.alloc (.cells #[.int .i64 D, .slice A n c, .slice J nj cj, .slice S ns cs] 34)) 34 #[.int .i64 0, .slice none 0 0, .slice none 0 0, .slice none 0 0]
  rw [show (w.alloc (.cells #[.int .i64 D, .slice A n c, .slice J nj cj, .slice S ns cs] 34)).heap.size = w.heap.size + 1 by simp] at R0
  have hW : ((w.alloc (.cells #[.int .i64 D, .slice A n c, .slice J nj cj, .slice S ns cs] 34)).alloc (.cells #[.int .i64 0, .slice none 0 0, .slice none 0 0, .slice none 0 0] 34)).heap.size = w.heap.size + 2 := by simp
  go_enter Try.func18, Try.ntmps18
  go_wp2_with fail
  generalize ((w.alloc (.cells #[.int .i64 D, .slice A n c, .slice J nj cj, .slice S ns cs] 34)).alloc (.cells #[.int .i64 0, .slice none 0 0, .slice none 0 0, .slice none 0 0] 34)) = W at *
  have HQ1 : Hid (∀ X, Below (w.heap.size + 1) W X → CellsAt X w.heap.size A (links.flatMap encP)) := Lib.hid fun X hb => (CellsAt.below m1 B0).below (hb.mono (by omega))
  have HQ2 : Hid (∀ X, Below (w.heap.size + 1) W X → CellsAt X w.heap.size J (jams.flatMap encJ)) := Lib.hid fun X hb => (CellsAt.below m2 B0).below (hb.mono (by omega))
  have HQ3 : Hid (∀ X, Below (w.heap.size + 1) W X → CellsAt X w.heap.size S (loss.flatMap encP)) := Lib.hid fun X hb => (CellsAt.below m3 B0).below (hb.mono (by omega))
  have HS : Hid (∀ X, Below (w.heap.size + 1) W X → Below (w.heap.size + 1) W X ∧ Four X w.heap.size D (.slice A n c) (.slice J nj cj) (.slice S ns cs)) := Lib.hid fun X hb => ⟨hb, four_belowB F0 hb (by omega)⟩
  have HA : Hid (∀ X o, (Below (w.heap.size + 1) W X ∧ Four X w.heap.size D (.slice A n c) (.slice J nj cj) (.slice S ns cs)) → Below (w.heap.size + 1) W (X.alloc o) ∧ Four (X.alloc o) w.heap.size D (.slice A n c) (.slice J nj cj) (.slice S ns cs)) := Lib.hid fun X o h => HS.out _ (h.1.alloc (by have := h.1.size; omega) o)
  have HB : Hid (∀ X Y, (Below (w.heap.size + 1) W X ∧ Four X w.heap.size D (.slice A n c) (.slice J nj cj) (.slice S ns cs)) → Below X.heap.size X Y → Below (w.heap.size + 1) W Y ∧ Four Y w.heap.size D (.slice A n c) (.slice J nj cj) (.slice S ns cs)) := Lib.hid fun X Y h b => HS.out _ (h.1.trans (b.mono (by have := h.1.size; omega)))
  have HT : Hid (∀ X, Below (w.heap.size + 1) W X → ∀ v0 v1 v2 v3, Below (w.heap.size + 1) W ((((X.setCell ⟨w.heap.size + 1, 0, none⟩ v0).setCell ⟨w.heap.size + 1, 1, none⟩ v1).setCell ⟨w.heap.size + 1, 2, none⟩ v2).setCell ⟨w.heap.size + 1, 3, none⟩ v3)) := Lib.hid fun X hb v0 v1 v2 v3 =>
    (((hb.setCell (p := ⟨w.heap.size + 1, 0, none⟩) (Nat.le_refl _) _).setCell (p := ⟨w.heap.size + 1, 1, none⟩) (Nat.le_refl _) _).setCell (p := ⟨w.heap.size + 1, 2, none⟩) (Nat.le_refl _) _).setCell (p := ⟨w.heap.size + 1, 3, none⟩) (Nat.le_refl _) _
  have HR : Hid (∀ X, Blk X (w.heap.size + 1) 34 #[.int .i64 0, .slice none 0 0, .slice none 0 0, .slice none 0 0] → _) := Lib.hid fun X (hb : Blk X (w.heap.size + 1) 34 #[.int .i64 0, .slice none 0 0, .slice none 0 0, .slice none 0 0]) => (⟨hb.cell 0, hb.cell 1, hb.cell 2, hb.cell 3, frozen_of_row X _ 0 _ _ hb, frozen_of_row X _ 1 _ _ hb, frozen_of_row X _ 2 _ _ hb, frozen_of_row X _ 3 _ _ hb⟩ : X.cell? ⟨w.heap.size + 1, 0, none⟩ = some (.int .i64 0) ∧ X.cell? ⟨w.heap.size + 1, 1, none⟩ = some (.slice none 0 0) ∧ X.cell? ⟨w.heap.size + 1, 2, none⟩ = some (.slice none 0 0) ∧ X.cell? ⟨w.heap.size + 1, 3, none⟩ = some (.slice none 0 0) ∧ X.frozen? ⟨w.heap.size + 1, 0, none⟩ = false ∧ X.frozen? ⟨w.heap.size + 1, 1, none⟩ = false ∧ X.frozen? ⟨w.heap.size + 1, 2, none⟩ = false ∧ X.frozen? ⟨w.heap.size + 1, 3, none⟩ = false)
  have HB0 := Lib.hid B0
  clear m1 m2 m3 B0 h1 h2 h3
  have HZ : Hid (∀ X, Below (w.heap.size + 1) W X → w.heap.size + 2 ≤ X.heap.size) := Lib.hid fun X h => by have := h.size; omega
  have HY : Hid (∀ X, Below (w.heap.size + 1) W X → Below w.heap.size w X) := Lib.hid fun X h => HB0.out.trans (h.mono (by omega))
  have HE : Hid (∀ (X : World) (v0 v1 v2 v3 : Value), Blk X (w.heap.size + 1) 34 #[.int .i64 0, .slice none 0 0, .slice none 0 0, .slice none 0 0] → _) := Lib.hid fun X v0 v1 v2 v3 (hb : Blk X (w.heap.size + 1) 34 #[.int .i64 0, .slice none 0 0, .slice none 0 0, .slice none 0 0]) => set_four (t := 34) v0 v1 v2 v3 hb
  have HV : Hid (∀ (X : World) (v0 v1 v2 v3 : Value) A xs, NewAt X (w.heap.size + 2) A xs → _) := Lib.hid fun X v0 v1 v2 v3 A xs (h : NewAt X (w.heap.size + 2) A xs) => (((h.set (b := w.heap.size + 1) (o := 0) (by omega) v0).set (b := w.heap.size + 1) (o := 1) (by omega) v1).set (b := w.heap.size + 1) (o := 2) (by omega) v2).set (b := w.heap.size + 1) (o := 3) (by omega) v3
  clear HB0
  refine wp_region_held_drew (S := (fun w' => Below (w.heap.size + 1) W w' ∧ Four w' w.heap.size D (.slice A n c) (.slice J nj cj) (.slice S ns cs))) (by kernel_rfl) ?_ (fun hHeld => ?_)
  · exact ⟨(Below.refl _ W).drew, F0⟩
  refine wpAnyH_take (i := 0) (v := .pointer (some ⟨w.heap.size, 0, none⟩)) rfl (by kernel_rfl) (by kernel_rfl) (by kernel_rfl) (fun _ _ _ h => h) (Or.inl ⟨by first | rfl | go_simp, by intro w9 hSw; (try dsimp only at hSw); go_simp⟩) (by assumption) ?_
  simp only [List.getElem_toArray, List.getElem_cons_zero, List.getElem_cons_succ, Act.put, List.setIfInBounds_toArray, List.set_cons_zero, List.set_cons_succ]
  refine wpAnyH_take (i := 1) (v := .int .i64 D) rfl (by kernel_rfl) (by kernel_rfl) (by kernel_rfl) (fun _ _ _ h => h) (Or.inl ⟨by first | rfl | go_simp, by intro w9 hSw; (try dsimp only at hSw); go_simp⟩) (by assumption) ?_
  simp only [List.getElem_toArray, List.getElem_cons_zero, List.getElem_cons_succ, Act.put, List.setIfInBounds_toArray, List.set_cons_zero, List.set_cons_succ]
  refine wpAnyH_take (i := 3) (v := .pointer (some ⟨w.heap.size, 1, none⟩)) rfl (by kernel_rfl) (by kernel_rfl) (by kernel_rfl) (fun _ _ _ h => h) (Or.inl ⟨by first | rfl | go_simp, by intro w9 hSw; (try dsimp only at hSw); go_simp⟩) (by assumption) ?_
  simp only [List.getElem_toArray, List.getElem_cons_zero, List.getElem_cons_succ, Act.put, List.setIfInBounds_toArray, List.set_cons_zero, List.set_cons_succ]
  refine wpAnyH_take (i := 4) (v := .slice A n c) rfl (by kernel_rfl) (by kernel_rfl) (by kernel_rfl) (fun _ _ _ h => h) (Or.inl ⟨by first | rfl | go_simp, by intro w9 hSw; (try dsimp only at hSw); go_simp⟩) (by assumption) ?_
  simp only [List.getElem_toArray, List.getElem_cons_zero, List.getElem_cons_succ, Act.put, List.setIfInBounds_toArray, List.set_cons_zero, List.set_cons_succ]
  refine wpAnyH_take (i := 7) (v := .pointer (some ⟨w.heap.size, 2, none⟩)) rfl (by kernel_rfl) (by kernel_rfl) (by kernel_rfl) (fun _ _ _ h => h) (Or.inl ⟨by first | rfl | go_simp, by intro w9 hSw; (try dsimp only at hSw); go_simp⟩) (by assumption) ?_
  simp only [List.getElem_toArray, List.getElem_cons_zero, List.getElem_cons_succ, Act.put, List.setIfInBounds_toArray, List.set_cons_zero, List.set_cons_succ]
  refine wpAnyH_take (i := 8) (v := .slice J nj cj) rfl (by kernel_rfl) (by kernel_rfl) (by kernel_rfl) (fun _ _ _ h => h) (Or.inl ⟨by first | rfl | go_simp, by intro w9 hSw; (try dsimp only at hSw); go_simp⟩) (by assumption) ?_
  simp only [List.getElem_toArray, List.getElem_cons_zero, List.getElem_cons_succ, Act.put, List.setIfInBounds_toArray, List.set_cons_zero, List.set_cons_succ]
  refine wpAnyH_take (i := 11) (v := .pointer (some ⟨w.heap.size, 3, none⟩)) rfl (by kernel_rfl) (by kernel_rfl) (by kernel_rfl) (fun _ _ _ h => h) (Or.inl ⟨by first | rfl | go_simp, by intro w9 hSw; (try dsimp only at hSw); go_simp⟩) (by assumption) ?_
  simp only [List.getElem_toArray, List.getElem_cons_zero, List.getElem_cons_succ, Act.put, List.setIfInBounds_toArray, List.set_cons_zero, List.set_cons_succ]
  refine wpAnyH_take (i := 12) (v := .slice S ns cs) rfl (by kernel_rfl) (by kernel_rfl) (by kernel_rfl) (fun _ _ _ h => h) (Or.inl ⟨by first | rfl | go_simp, by intro w9 hSw; (try dsimp only at hSw); go_simp⟩) (by assumption) ?_
  simp only [List.getElem_toArray, List.getElem_cons_zero, List.getElem_cons_succ, Act.put, List.setIfInBounds_toArray, List.set_cons_zero, List.set_cons_succ]
  have R : Blk W.drew (w.heap.size + 1) 34 #[.int .i64 0, .slice none 0 0, .slice none 0 0, .slice none 0 0] := R0
  refine wpAnyH_ready (rs := [2, 6, 10]) (by kernel_rfl) (by simp) ?_
  refine AllReadyH.cons rfl (fun K hK => ?_) (AllReadyH.cons rfl (fun K hK => ?_) (AllReadyH.cons rfl (fun K hK => ?_) (AllReadyH.nil)))
  · skip
    go_simp
    refine hK.out _ _ (HA.out _ _ hHeld) (fun hHeld => ?_)
    clear hK K
    have R := R.alloc (.cells #[] 70)
    try simp only [List.getElem_toArray, List.getElem_cons_zero, List.getElem_cons_succ, Act.put, List.setIfInBounds_toArray, List.set_cons_zero, List.set_cons_succ]
    refine wpAnyH_ready (rs := [5, 6, 10]) (by kernel_rfl) (by simp) ?_
    refine AllReadyH.cons rfl (fun K hK => ?_) (AllReadyH.cons rfl (fun K hK => ?_) (AllReadyH.cons rfl (fun K hK => ?_) (AllReadyH.nil)))
    · skip
      refine step_append_empty rfl (.tmp 5) (.tmp 7) 30 rfl 70 iP _ 2 16 Try.underlying30 hi1 hz1 hs1 hb1 hc1 (by decide) _ rfl _ A n c (links.flatMap encP) rfl HL1.out (flat_one sizP links) (HQ1.out _ hHeld.1) (by unfold maxLen; omega) (by omega) ?_
      intro A1 c1 w1 l1 q1 b1
      have q1 := q1.lower (HZ.out _ hHeld.1)
      refine hK.out _ _ (HB.out _ _ hHeld b1) (fun hHeld => ?_)
      clear hK K
      have R := R.below b1 R.lt
      try simp only [List.getElem_toArray, List.getElem_cons_zero, List.getElem_cons_succ, Act.put, List.setIfInBounds_toArray, List.set_cons_zero, List.set_cons_succ]
      refine wpAnyH_ready (rs := [6, 10]) (by kernel_rfl) (by simp) ?_
      refine AllReadyH.cons rfl (fun K hK => ?_) (AllReadyH.cons rfl (fun K hK => ?_) (AllReadyH.nil))
      · skip
        go_simp
        refine hK.out _ _ (HA.out _ _ hHeld) (fun hHeld => ?_)
        clear hK K
        have R := R.alloc (.cells #[] 66)
        have q1 := q1.alloc (.cells #[] 66)
        try simp only [List.getElem_toArray, List.getElem_cons_zero, List.getElem_cons_succ, Act.put, List.setIfInBounds_toArray, List.set_cons_zero, List.set_cons_succ]
        refine wpAnyH_ready (rs := [9, 10]) (by kernel_rfl) (by simp) ?_
        refine AllReadyH.cons rfl (fun K hK => ?_) (AllReadyH.cons rfl (fun K hK => ?_) (AllReadyH.nil))
        · skip
          refine step_append_empty rfl (.tmp 9) (.tmp 11) 31 rfl 66 iJ _ 3 24 Try.underlying31 hi2 hz2 hs2 hb2 hc2 (by decide) _ rfl _ J nj cj (jams.flatMap encJ) rfl HL2.out (flat_one sizJ jams) (HQ2.out _ hHeld.1) (by unfold maxLen; omega) (by omega) ?_
          intro A2 c2 w2 l2 q2 b2
          have q2 := q2.lower (HZ.out _ hHeld.1)
          refine hK.out _ _ (HB.out _ _ hHeld b2) (fun hHeld => ?_)
          clear hK K
          have R := R.below b2 R.lt
          have q1 := q1.later b2
          try simp only [List.getElem_toArray, List.getElem_cons_zero, List.getElem_cons_succ, Act.put, List.setIfInBounds_toArray, List.set_cons_zero, List.set_cons_succ]
          refine wpAnyH_ready (rs := [10]) (by kernel_rfl) (by simp) ?_
          refine AllReadyH.cons rfl (fun K hK => ?_) (AllReadyH.nil)
          go_simp
          refine hK.out _ _ (HA.out _ _ hHeld) (fun hHeld => ?_)
          clear hK K
          have R := R.alloc (.cells #[] 61)
          have q1 := q1.alloc (.cells #[] 61)
          have q2 := q2.alloc (.cells #[] 61)
          try simp only [List.getElem_toArray, List.getElem_cons_zero, List.getElem_cons_succ, Act.put, List.setIfInBounds_toArray, List.set_cons_zero, List.set_cons_succ]
          refine wpAnyH_ready (rs := [13]) (by kernel_rfl) (by simp) ?_
          refine AllReadyH.cons rfl (fun K hK => ?_) (AllReadyH.nil)
          refine step_append_empty rfl (.tmp 13) (.tmp 15) 32 rfl 61 iL _ 2 16 Try.underlying32 hi3 hz3 hs3 hb3 hc3 (by decide) _ rfl _ S ns cs (loss.flatMap encP) rfl HL3.out (flat_one sizP loss) (HQ3.out _ hHeld.1) (by unfold maxLen; omega) (by omega) ?_
          intro A3 c3 w3 l3 q3 b3
          have q3 := q3.lower (HZ.out _ hHeld.1)
          refine hK.out _ _ (HB.out _ _ hHeld b3) (fun hHeld => ?_)
          clear hK K
          have R := R.below b3 R.lt
          have q1 := q1.later b3
          have q2 := q2.later b3
          try simp only [List.getElem_toArray, List.getElem_cons_zero, List.getElem_cons_succ, Act.put, List.setIfInBounds_toArray, List.set_cons_zero, List.set_cons_succ]
          refine wpAnyH_take (i := 14) (v := .agg #[.int .i64 D, .slice A1 n c1, .slice A2 nj c2, .slice A3 ns c3]) rfl (by kernel_rfl) (by kernel_rfl) (by kernel_rfl) (fun _ _ _ h => h) (Or.inl ⟨by first | rfl | go_simp, by intro w9 hSw; (try dsimp only at hSw); go_simp⟩) (by assumption) ?_
          simp only [List.getElem_toArray, List.getElem_cons_zero, List.getElem_cons_succ, Act.put, List.setIfInBounds_toArray, List.set_cons_zero, List.set_cons_succ]
          obtain ⟨z0, z1, z2, z3, y0, y1, y2, y3⟩ := HR.out _ R
          refine wpAnyH_ready (rs := [15]) (by kernel_rfl) (by simp) ?_
          refine AllReadyH.cons rfl (fun K hK => ?_) AllReadyH.nil
          go_simp
          refine hK.out _ _ (HS.out _ (HT.out _ hHeld.1 _ _ _ _)) (fun hHeld => ?_)
          clear hK K
          try simp only [List.getElem_toArray, List.getElem_cons_zero, List.getElem_cons_succ, Act.put, List.setIfInBounds_toArray, List.set_cons_zero, List.set_cons_succ]
          refine wpAnyH_done (by kernel_rfl) ?_ _
          obtain ⟨e0, e1, e2, e3⟩ := HE.out _ (.int .i64 D) (.slice A1 n c1) (.slice A2 nj c2) (.slice A3 ns c3) R
          have q1 := HV.out _ (.int .i64 D) (.slice A1 n c1) (.slice A2 nj c2) (.slice A3 ns c3) _ _ q1
          have q2 := HV.out _ (.int .i64 D) (.slice A1 n c1) (.slice A2 nj c2) (.slice A3 ns c3) _ _ q2
          have q3 := HV.out _ (.int .i64 D) (.slice A1 n c1) (.slice A2 nj c2) (.slice A3 ns c3) _ _ q3
          go_wp2_with fail
          refine bodyPost_ret (v := .agg #[.int .i64 D, .slice A1 n c1, .slice A2 nj c2, .slice A3 ns c3]) ?_ rfl ⟨A1, c1, A2, c2, A3, c3, rfl, l1, l2, l3, q1.at_, q2.at_, q3.at_, HY.out _ hHeld.1⟩
          simp [results, Try.f18, go_sem, e0, e1, e2, e3]
        · skip
          go_simp
          refine hK.out _ _ (HA.out _ _ hHeld) (fun hHeld => ?_)
          clear hK K
          have R := R.alloc (.cells #[] 61)
          have q1 := q1.alloc (.cells #[] 61)
          try simp only [List.getElem_toArray, List.getElem_cons_zero, List.getElem_cons_succ, Act.put, List.setIfInBounds_toArray, List.set_cons_zero, List.set_cons_succ]
          refine wpAnyH_ready (rs := [9]) (by kernel_rfl) (by simp) ?_
          refine AllReadyH.cons rfl (fun K hK => ?_) (AllReadyH.nil)
          refine step_append_empty rfl (.tmp 9) (.tmp 11) 31 rfl 66 iJ _ 3 24 Try.underlying31 hi2 hz2 hs2 hb2 hc2 (by decide) _ rfl _ J nj cj (jams.flatMap encJ) rfl HL2.out (flat_one sizJ jams) (HQ2.out _ hHeld.1) (by unfold maxLen; omega) (by omega) ?_
          intro A2 c2 w2 l2 q2 b2
          have q2 := q2.lower (HZ.out _ hHeld.1)
          refine hK.out _ _ (HB.out _ _ hHeld b2) (fun hHeld => ?_)
          clear hK K
          have R := R.below b2 R.lt
          have q1 := q1.later b2
          try simp only [List.getElem_toArray, List.getElem_cons_zero, List.getElem_cons_succ, Act.put, List.setIfInBounds_toArray, List.set_cons_zero, List.set_cons_succ]
          refine wpAnyH_ready (rs := [13]) (by kernel_rfl) (by simp) ?_
          refine AllReadyH.cons rfl (fun K hK => ?_) (AllReadyH.nil)
          refine step_append_empty rfl (.tmp 13) (.tmp 15) 32 rfl 61 iL _ 2 16 Try.underlying32 hi3 hz3 hs3 hb3 hc3 (by decide) _ rfl _ S ns cs (loss.flatMap encP) rfl HL3.out (flat_one sizP loss) (HQ3.out _ hHeld.1) (by unfold maxLen; omega) (by omega) ?_
          intro A3 c3 w3 l3 q3 b3
          have q3 := q3.lower (HZ.out _ hHeld.1)
          refine hK.out _ _ (HB.out _ _ hHeld b3) (fun hHeld => ?_)
          clear hK K
          have R := R.below b3 R.lt
          have q1 := q1.later b3
          have q2 := q2.later b3
          try simp only [List.getElem_toArray, List.getElem_cons_zero, List.getElem_cons_succ, Act.put, List.setIfInBounds_toArray, List.set_cons_zero, List.set_cons_succ]
          refine wpAnyH_take (i := 14) (v := .agg #[.int .i64 D, .slice A1 n c1, .slice A2 nj c2, .slice A3 ns c3]) rfl (by kernel_rfl) (by kernel_rfl) (by kernel_rfl) (fun _ _ _ h => h) (Or.inl ⟨by first | rfl | go_simp, by intro w9 hSw; (try dsimp only at hSw); go_simp⟩) (by assumption) ?_
          simp only [List.getElem_toArray, List.getElem_cons_zero, List.getElem_cons_succ, Act.put, List.setIfInBounds_toArray, List.set_cons_zero, List.set_cons_succ]
          obtain ⟨z0, z1, z2, z3, y0, y1, y2, y3⟩ := HR.out _ R
          refine wpAnyH_ready (rs := [15]) (by kernel_rfl) (by simp) ?_
          refine AllReadyH.cons rfl (fun K hK => ?_) AllReadyH.nil
          go_simp
          refine hK.out _ _ (HS.out _ (HT.out _ hHeld.1 _ _ _ _)) (fun hHeld => ?_)
          clear hK K
          try simp only [List.getElem_toArray, List.getElem_cons_zero, List.getElem_cons_succ, Act.put, List.setIfInBounds_toArray, List.set_cons_zero, List.set_cons_succ]
          refine wpAnyH_done (by kernel_rfl) ?_ _
          obtain ⟨e0, e1, e2, e3⟩ := HE.out _ (.int .i64 D) (.slice A1 n c1) (.slice A2 nj c2) (.slice A3 ns c3) R
          have q1 := HV.out _ (.int .i64 D) (.slice A1 n c1) (.slice A2 nj c2) (.slice A3 ns c3) _ _ q1
          have q2 := HV.out _ (.int .i64 D) (.slice A1 n c1) (.slice A2 nj c2) (.slice A3 ns c3) _ _ q2
          have q3 := HV.out _ (.int .i64 D) (.slice A1 n c1) (.slice A2 nj c2) (.slice A3 ns c3) _ _ q3
          go_wp2_with fail
          refine bodyPost_ret (v := .agg #[.int .i64 D, .slice A1 n c1, .slice A2 nj c2, .slice A3 ns c3]) ?_ rfl ⟨A1, c1, A2, c2, A3, c3, rfl, l1, l2, l3, q1.at_, q2.at_, q3.at_, HY.out _ hHeld.1⟩
          simp [results, Try.f18, go_sem, e0, e1, e2, e3]
      · skip
        go_simp
        refine hK.out _ _ (HA.out _ _ hHeld) (fun hHeld => ?_)
        clear hK K
        have R := R.alloc (.cells #[] 61)
        have q1 := q1.alloc (.cells #[] 61)
        try simp only [List.getElem_toArray, List.getElem_cons_zero, List.getElem_cons_succ, Act.put, List.setIfInBounds_toArray, List.set_cons_zero, List.set_cons_succ]
        refine wpAnyH_ready (rs := [6]) (by kernel_rfl) (by simp) ?_
        refine AllReadyH.cons rfl (fun K hK => ?_) (AllReadyH.nil)
        go_simp
        refine hK.out _ _ (HA.out _ _ hHeld) (fun hHeld => ?_)
        clear hK K
        have R := R.alloc (.cells #[] 66)
        have q1 := q1.alloc (.cells #[] 66)
        try simp only [List.getElem_toArray, List.getElem_cons_zero, List.getElem_cons_succ, Act.put, List.setIfInBounds_toArray, List.set_cons_zero, List.set_cons_succ]
        refine wpAnyH_ready (rs := [9]) (by kernel_rfl) (by simp) ?_
        refine AllReadyH.cons rfl (fun K hK => ?_) (AllReadyH.nil)
        refine step_append_empty rfl (.tmp 9) (.tmp 11) 31 rfl 66 iJ _ 3 24 Try.underlying31 hi2 hz2 hs2 hb2 hc2 (by decide) _ rfl _ J nj cj (jams.flatMap encJ) rfl HL2.out (flat_one sizJ jams) (HQ2.out _ hHeld.1) (by unfold maxLen; omega) (by omega) ?_
        intro A2 c2 w2 l2 q2 b2
        have q2 := q2.lower (HZ.out _ hHeld.1)
        refine hK.out _ _ (HB.out _ _ hHeld b2) (fun hHeld => ?_)
        clear hK K
        have R := R.below b2 R.lt
        have q1 := q1.later b2
        try simp only [List.getElem_toArray, List.getElem_cons_zero, List.getElem_cons_succ, Act.put, List.setIfInBounds_toArray, List.set_cons_zero, List.set_cons_succ]
        refine wpAnyH_ready (rs := [13]) (by kernel_rfl) (by simp) ?_
        refine AllReadyH.cons rfl (fun K hK => ?_) (AllReadyH.nil)
        refine step_append_empty rfl (.tmp 13) (.tmp 15) 32 rfl 61 iL _ 2 16 Try.underlying32 hi3 hz3 hs3 hb3 hc3 (by decide) _ rfl _ S ns cs (loss.flatMap encP) rfl HL3.out (flat_one sizP loss) (HQ3.out _ hHeld.1) (by unfold maxLen; omega) (by omega) ?_
        intro A3 c3 w3 l3 q3 b3
        have q3 := q3.lower (HZ.out _ hHeld.1)
        refine hK.out _ _ (HB.out _ _ hHeld b3) (fun hHeld => ?_)
        clear hK K
        have R := R.below b3 R.lt
        have q1 := q1.later b3
        have q2 := q2.later b3
        try simp only [List.getElem_toArray, List.getElem_cons_zero, List.getElem_cons_succ, Act.put, List.setIfInBounds_toArray, List.set_cons_zero, List.set_cons_succ]
        refine wpAnyH_take (i := 14) (v := .agg #[.int .i64 D, .slice A1 n c1, .slice A2 nj c2, .slice A3 ns c3]) rfl (by kernel_rfl) (by kernel_rfl) (by kernel_rfl) (fun _ _ _ h => h) (Or.inl ⟨by first | rfl | go_simp, by intro w9 hSw; (try dsimp only at hSw); go_simp⟩) (by assumption) ?_
        simp only [List.getElem_toArray, List.getElem_cons_zero, List.getElem_cons_succ, Act.put, List.setIfInBounds_toArray, List.set_cons_zero, List.set_cons_succ]
        obtain ⟨z0, z1, z2, z3, y0, y1, y2, y3⟩ := HR.out _ R
        refine wpAnyH_ready (rs := [15]) (by kernel_rfl) (by simp) ?_
        refine AllReadyH.cons rfl (fun K hK => ?_) AllReadyH.nil
        go_simp
        refine hK.out _ _ (HS.out _ (HT.out _ hHeld.1 _ _ _ _)) (fun hHeld => ?_)
        clear hK K
        try simp only [List.getElem_toArray, List.getElem_cons_zero, List.getElem_cons_succ, Act.put, List.setIfInBounds_toArray, List.set_cons_zero, List.set_cons_succ]
        refine wpAnyH_done (by kernel_rfl) ?_ _
        obtain ⟨e0, e1, e2, e3⟩ := HE.out _ (.int .i64 D) (.slice A1 n c1) (.slice A2 nj c2) (.slice A3 ns c3) R
        have q1 := HV.out _ (.int .i64 D) (.slice A1 n c1) (.slice A2 nj c2) (.slice A3 ns c3) _ _ q1
        have q2 := HV.out _ (.int .i64 D) (.slice A1 n c1) (.slice A2 nj c2) (.slice A3 ns c3) _ _ q2
        have q3 := HV.out _ (.int .i64 D) (.slice A1 n c1) (.slice A2 nj c2) (.slice A3 ns c3) _ _ q3
        go_wp2_with fail
        refine bodyPost_ret (v := .agg #[.int .i64 D, .slice A1 n c1, .slice A2 nj c2, .slice A3 ns c3]) ?_ rfl ⟨A1, c1, A2, c2, A3, c3, rfl, l1, l2, l3, q1.at_, q2.at_, q3.at_, HY.out _ hHeld.1⟩
        simp [results, Try.f18, go_sem, e0, e1, e2, e3]
    · skip
      go_simp
      refine hK.out _ _ (HA.out _ _ hHeld) (fun hHeld => ?_)
      clear hK K
      have R := R.alloc (.cells #[] 66)
      try simp only [List.getElem_toArray, List.getElem_cons_zero, List.getElem_cons_succ, Act.put, List.setIfInBounds_toArray, List.set_cons_zero, List.set_cons_succ]
      refine wpAnyH_ready (rs := [5, 10]) (by kernel_rfl) (by simp) ?_
      refine AllReadyH.cons rfl (fun K hK => ?_) (AllReadyH.cons rfl (fun K hK => ?_) (AllReadyH.nil))
      · skip
        refine step_append_empty rfl (.tmp 5) (.tmp 7) 30 rfl 70 iP _ 2 16 Try.underlying30 hi1 hz1 hs1 hb1 hc1 (by decide) _ rfl _ A n c (links.flatMap encP) rfl HL1.out (flat_one sizP links) (HQ1.out _ hHeld.1) (by unfold maxLen; omega) (by omega) ?_
        intro A1 c1 w1 l1 q1 b1
        have q1 := q1.lower (HZ.out _ hHeld.1)
        refine hK.out _ _ (HB.out _ _ hHeld b1) (fun hHeld => ?_)
        clear hK K
        have R := R.below b1 R.lt
        try simp only [List.getElem_toArray, List.getElem_cons_zero, List.getElem_cons_succ, Act.put, List.setIfInBounds_toArray, List.set_cons_zero, List.set_cons_succ]
        refine wpAnyH_ready (rs := [9, 10]) (by kernel_rfl) (by simp) ?_
        refine AllReadyH.cons rfl (fun K hK => ?_) (AllReadyH.cons rfl (fun K hK => ?_) (AllReadyH.nil))
        · skip
          refine step_append_empty rfl (.tmp 9) (.tmp 11) 31 rfl 66 iJ _ 3 24 Try.underlying31 hi2 hz2 hs2 hb2 hc2 (by decide) _ rfl _ J nj cj (jams.flatMap encJ) rfl HL2.out (flat_one sizJ jams) (HQ2.out _ hHeld.1) (by unfold maxLen; omega) (by omega) ?_
          intro A2 c2 w2 l2 q2 b2
          have q2 := q2.lower (HZ.out _ hHeld.1)
          refine hK.out _ _ (HB.out _ _ hHeld b2) (fun hHeld => ?_)
          clear hK K
          have R := R.below b2 R.lt
          have q1 := q1.later b2
          try simp only [List.getElem_toArray, List.getElem_cons_zero, List.getElem_cons_succ, Act.put, List.setIfInBounds_toArray, List.set_cons_zero, List.set_cons_succ]
          refine wpAnyH_ready (rs := [10]) (by kernel_rfl) (by simp) ?_
          refine AllReadyH.cons rfl (fun K hK => ?_) (AllReadyH.nil)
          go_simp
          refine hK.out _ _ (HA.out _ _ hHeld) (fun hHeld => ?_)
          clear hK K
          have R := R.alloc (.cells #[] 61)
          have q1 := q1.alloc (.cells #[] 61)
          have q2 := q2.alloc (.cells #[] 61)
          try simp only [List.getElem_toArray, List.getElem_cons_zero, List.getElem_cons_succ, Act.put, List.setIfInBounds_toArray, List.set_cons_zero, List.set_cons_succ]
          refine wpAnyH_ready (rs := [13]) (by kernel_rfl) (by simp) ?_
          refine AllReadyH.cons rfl (fun K hK => ?_) (AllReadyH.nil)
          refine step_append_empty rfl (.tmp 13) (.tmp 15) 32 rfl 61 iL _ 2 16 Try.underlying32 hi3 hz3 hs3 hb3 hc3 (by decide) _ rfl _ S ns cs (loss.flatMap encP) rfl HL3.out (flat_one sizP loss) (HQ3.out _ hHeld.1) (by unfold maxLen; omega) (by omega) ?_
          intro A3 c3 w3 l3 q3 b3
          have q3 := q3.lower (HZ.out _ hHeld.1)
          refine hK.out _ _ (HB.out _ _ hHeld b3) (fun hHeld => ?_)
          clear hK K
          have R := R.below b3 R.lt
          have q1 := q1.later b3
          have q2 := q2.later b3
          try simp only [List.getElem_toArray, List.getElem_cons_zero, List.getElem_cons_succ, Act.put, List.setIfInBounds_toArray, List.set_cons_zero, List.set_cons_succ]
          refine wpAnyH_take (i := 14) (v := .agg #[.int .i64 D, .slice A1 n c1, .slice A2 nj c2, .slice A3 ns c3]) rfl (by kernel_rfl) (by kernel_rfl) (by kernel_rfl) (fun _ _ _ h => h) (Or.inl ⟨by first | rfl | go_simp, by intro w9 hSw; (try dsimp only at hSw); go_simp⟩) (by assumption) ?_
          simp only [List.getElem_toArray, List.getElem_cons_zero, List.getElem_cons_succ, Act.put, List.setIfInBounds_toArray, List.set_cons_zero, List.set_cons_succ]
          obtain ⟨z0, z1, z2, z3, y0, y1, y2, y3⟩ := HR.out _ R
          refine wpAnyH_ready (rs := [15]) (by kernel_rfl) (by simp) ?_
          refine AllReadyH.cons rfl (fun K hK => ?_) AllReadyH.nil
          go_simp
          refine hK.out _ _ (HS.out _ (HT.out _ hHeld.1 _ _ _ _)) (fun hHeld => ?_)
          clear hK K
          try simp only [List.getElem_toArray, List.getElem_cons_zero, List.getElem_cons_succ, Act.put, List.setIfInBounds_toArray, List.set_cons_zero, List.set_cons_succ]
          refine wpAnyH_done (by kernel_rfl) ?_ _
          obtain ⟨e0, e1, e2, e3⟩ := HE.out _ (.int .i64 D) (.slice A1 n c1) (.slice A2 nj c2) (.slice A3 ns c3) R
          have q1 := HV.out _ (.int .i64 D) (.slice A1 n c1) (.slice A2 nj c2) (.slice A3 ns c3) _ _ q1
          have q2 := HV.out _ (.int .i64 D) (.slice A1 n c1) (.slice A2 nj c2) (.slice A3 ns c3) _ _ q2
          have q3 := HV.out _ (.int .i64 D) (.slice A1 n c1) (.slice A2 nj c2) (.slice A3 ns c3) _ _ q3
          go_wp2_with fail
          refine bodyPost_ret (v := .agg #[.int .i64 D, .slice A1 n c1, .slice A2 nj c2, .slice A3 ns c3]) ?_ rfl ⟨A1, c1, A2, c2, A3, c3, rfl, l1, l2, l3, q1.at_, q2.at_, q3.at_, HY.out _ hHeld.1⟩
          simp [results, Try.f18, go_sem, e0, e1, e2, e3]
        · skip
          go_simp
          refine hK.out _ _ (HA.out _ _ hHeld) (fun hHeld => ?_)
          clear hK K
          have R := R.alloc (.cells #[] 61)
          have q1 := q1.alloc (.cells #[] 61)
          try simp only [List.getElem_toArray, List.getElem_cons_zero, List.getElem_cons_succ, Act.put, List.setIfInBounds_toArray, List.set_cons_zero, List.set_cons_succ]
          refine wpAnyH_ready (rs := [9]) (by kernel_rfl) (by simp) ?_
          refine AllReadyH.cons rfl (fun K hK => ?_) (AllReadyH.nil)
          refine step_append_empty rfl (.tmp 9) (.tmp 11) 31 rfl 66 iJ _ 3 24 Try.underlying31 hi2 hz2 hs2 hb2 hc2 (by decide) _ rfl _ J nj cj (jams.flatMap encJ) rfl HL2.out (flat_one sizJ jams) (HQ2.out _ hHeld.1) (by unfold maxLen; omega) (by omega) ?_
          intro A2 c2 w2 l2 q2 b2
          have q2 := q2.lower (HZ.out _ hHeld.1)
          refine hK.out _ _ (HB.out _ _ hHeld b2) (fun hHeld => ?_)
          clear hK K
          have R := R.below b2 R.lt
          have q1 := q1.later b2
          try simp only [List.getElem_toArray, List.getElem_cons_zero, List.getElem_cons_succ, Act.put, List.setIfInBounds_toArray, List.set_cons_zero, List.set_cons_succ]
          refine wpAnyH_ready (rs := [13]) (by kernel_rfl) (by simp) ?_
          refine AllReadyH.cons rfl (fun K hK => ?_) (AllReadyH.nil)
          refine step_append_empty rfl (.tmp 13) (.tmp 15) 32 rfl 61 iL _ 2 16 Try.underlying32 hi3 hz3 hs3 hb3 hc3 (by decide) _ rfl _ S ns cs (loss.flatMap encP) rfl HL3.out (flat_one sizP loss) (HQ3.out _ hHeld.1) (by unfold maxLen; omega) (by omega) ?_
          intro A3 c3 w3 l3 q3 b3
          have q3 := q3.lower (HZ.out _ hHeld.1)
          refine hK.out _ _ (HB.out _ _ hHeld b3) (fun hHeld => ?_)
          clear hK K
          have R := R.below b3 R.lt
          have q1 := q1.later b3
          have q2 := q2.later b3
          try simp only [List.getElem_toArray, List.getElem_cons_zero, List.getElem_cons_succ, Act.put, List.setIfInBounds_toArray, List.set_cons_zero, List.set_cons_succ]
          refine wpAnyH_take (i := 14) (v := .agg #[.int .i64 D, .slice A1 n c1, .slice A2 nj c2, .slice A3 ns c3]) rfl (by kernel_rfl) (by kernel_rfl) (by kernel_rfl) (fun _ _ _ h => h) (Or.inl ⟨by first | rfl | go_simp, by intro w9 hSw; (try dsimp only at hSw); go_simp⟩) (by assumption) ?_
          simp only [List.getElem_toArray, List.getElem_cons_zero, List.getElem_cons_succ, Act.put, List.setIfInBounds_toArray, List.set_cons_zero, List.set_cons_succ]
          obtain ⟨z0, z1, z2, z3, y0, y1, y2, y3⟩ := HR.out _ R
          refine wpAnyH_ready (rs := [15]) (by kernel_rfl) (by simp) ?_
          refine AllReadyH.cons rfl (fun K hK => ?_) AllReadyH.nil
          go_simp
          refine hK.out _ _ (HS.out _ (HT.out _ hHeld.1 _ _ _ _)) (fun hHeld => ?_)
          clear hK K
          try simp only [List.getElem_toArray, List.getElem_cons_zero, List.getElem_cons_succ, Act.put, List.setIfInBounds_toArray, List.set_cons_zero, List.set_cons_succ]
          refine wpAnyH_done (by kernel_rfl) ?_ _
          obtain ⟨e0, e1, e2, e3⟩ := HE.out _ (.int .i64 D) (.slice A1 n c1) (.slice A2 nj c2) (.slice A3 ns c3) R
          have q1 := HV.out _ (.int .i64 D) (.slice A1 n c1) (.slice A2 nj c2) (.slice A3 ns c3) _ _ q1
          have q2 := HV.out _ (.int .i64 D) (.slice A1 n c1) (.slice A2 nj c2) (.slice A3 ns c3) _ _ q2
          have q3 := HV.out _ (.int .i64 D) (.slice A1 n c1) (.slice A2 nj c2) (.slice A3 ns c3) _ _ q3
          go_wp2_with fail
          refine bodyPost_ret (v := .agg #[.int .i64 D, .slice A1 n c1, .slice A2 nj c2, .slice A3 ns c3]) ?_ rfl ⟨A1, c1, A2, c2, A3, c3, rfl, l1, l2, l3, q1.at_, q2.at_, q3.at_, HY.out _ hHeld.1⟩
          simp [results, Try.f18, go_sem, e0, e1, e2, e3]
      · skip
        go_simp
        refine hK.out _ _ (HA.out _ _ hHeld) (fun hHeld => ?_)
        clear hK K
        have R := R.alloc (.cells #[] 61)
        try simp only [List.getElem_toArray, List.getElem_cons_zero, List.getElem_cons_succ, Act.put, List.setIfInBounds_toArray, List.set_cons_zero, List.set_cons_succ]
        refine wpAnyH_ready (rs := [5]) (by kernel_rfl) (by simp) ?_
        refine AllReadyH.cons rfl (fun K hK => ?_) (AllReadyH.nil)
        refine step_append_empty rfl (.tmp 5) (.tmp 7) 30 rfl 70 iP _ 2 16 Try.underlying30 hi1 hz1 hs1 hb1 hc1 (by decide) _ rfl _ A n c (links.flatMap encP) rfl HL1.out (flat_one sizP links) (HQ1.out _ hHeld.1) (by unfold maxLen; omega) (by omega) ?_
        intro A1 c1 w1 l1 q1 b1
        have q1 := q1.lower (HZ.out _ hHeld.1)
        refine hK.out _ _ (HB.out _ _ hHeld b1) (fun hHeld => ?_)
        clear hK K
        have R := R.below b1 R.lt
        try simp only [List.getElem_toArray, List.getElem_cons_zero, List.getElem_cons_succ, Act.put, List.setIfInBounds_toArray, List.set_cons_zero, List.set_cons_succ]
        refine wpAnyH_ready (rs := [9]) (by kernel_rfl) (by simp) ?_
        refine AllReadyH.cons rfl (fun K hK => ?_) (AllReadyH.nil)
        refine step_append_empty rfl (.tmp 9) (.tmp 11) 31 rfl 66 iJ _ 3 24 Try.underlying31 hi2 hz2 hs2 hb2 hc2 (by decide) _ rfl _ J nj cj (jams.flatMap encJ) rfl HL2.out (flat_one sizJ jams) (HQ2.out _ hHeld.1) (by unfold maxLen; omega) (by omega) ?_
        intro A2 c2 w2 l2 q2 b2
        have q2 := q2.lower (HZ.out _ hHeld.1)
        refine hK.out _ _ (HB.out _ _ hHeld b2) (fun hHeld => ?_)
        clear hK K
        have R := R.below b2 R.lt
        have q1 := q1.later b2
        try simp only [List.getElem_toArray, List.getElem_cons_zero, List.getElem_cons_succ, Act.put, List.setIfInBounds_toArray, List.set_cons_zero, List.set_cons_succ]
        refine wpAnyH_ready (rs := [13]) (by kernel_rfl) (by simp) ?_
        refine AllReadyH.cons rfl (fun K hK => ?_) (AllReadyH.nil)
        refine step_append_empty rfl (.tmp 13) (.tmp 15) 32 rfl 61 iL _ 2 16 Try.underlying32 hi3 hz3 hs3 hb3 hc3 (by decide) _ rfl _ S ns cs (loss.flatMap encP) rfl HL3.out (flat_one sizP loss) (HQ3.out _ hHeld.1) (by unfold maxLen; omega) (by omega) ?_
        intro A3 c3 w3 l3 q3 b3
        have q3 := q3.lower (HZ.out _ hHeld.1)
        refine hK.out _ _ (HB.out _ _ hHeld b3) (fun hHeld => ?_)
        clear hK K
        have R := R.below b3 R.lt
        have q1 := q1.later b3
        have q2 := q2.later b3
        try simp only [List.getElem_toArray, List.getElem_cons_zero, List.getElem_cons_succ, Act.put, List.setIfInBounds_toArray, List.set_cons_zero, List.set_cons_succ]
        refine wpAnyH_take (i := 14) (v := .agg #[.int .i64 D, .slice A1 n c1, .slice A2 nj c2, .slice A3 ns c3]) rfl (by kernel_rfl) (by kernel_rfl) (by kernel_rfl) (fun _ _ _ h => h) (Or.inl ⟨by first | rfl | go_simp, by intro w9 hSw; (try dsimp only at hSw); go_simp⟩) (by assumption) ?_
        simp only [List.getElem_toArray, List.getElem_cons_zero, List.getElem_cons_succ, Act.put, List.setIfInBounds_toArray, List.set_cons_zero, List.set_cons_succ]
        obtain ⟨z0, z1, z2, z3, y0, y1, y2, y3⟩ := HR.out _ R
        refine wpAnyH_ready (rs := [15]) (by kernel_rfl) (by simp) ?_
        refine AllReadyH.cons rfl (fun K hK => ?_) AllReadyH.nil
        go_simp
        refine hK.out _ _ (HS.out _ (HT.out _ hHeld.1 _ _ _ _)) (fun hHeld => ?_)
        clear hK K
        try simp only [List.getElem_toArray, List.getElem_cons_zero, List.getElem_cons_succ, Act.put, List.setIfInBounds_toArray, List.set_cons_zero, List.set_cons_succ]
        refine wpAnyH_done (by kernel_rfl) ?_ _
        obtain ⟨e0, e1, e2, e3⟩ := HE.out _ (.int .i64 D) (.slice A1 n c1) (.slice A2 nj c2) (.slice A3 ns c3) R
        have q1 := HV.out _ (.int .i64 D) (.slice A1 n c1) (.slice A2 nj c2) (.slice A3 ns c3) _ _ q1
        have q2 := HV.out _ (.int .i64 D) (.slice A1 n c1) (.slice A2 nj c2) (.slice A3 ns c3) _ _ q2
        have q3 := HV.out _ (.int .i64 D) (.slice A1 n c1) (.slice A2 nj c2) (.slice A3 ns c3) _ _ q3
        go_wp2_with fail
        refine bodyPost_ret (v := .agg #[.int .i64 D, .slice A1 n c1, .slice A2 nj c2, .slice A3 ns c3]) ?_ rfl ⟨A1, c1, A2, c2, A3, c3, rfl, l1, l2, l3, q1.at_, q2.at_, q3.at_, HY.out _ hHeld.1⟩
        simp [results, Try.f18, go_sem, e0, e1, e2, e3]
    · skip
      go_simp
      refine hK.out _ _ (HA.out _ _ hHeld) (fun hHeld => ?_)
      clear hK K
      have R := R.alloc (.cells #[] 61)
      try simp only [List.getElem_toArray, List.getElem_cons_zero, List.getElem_cons_succ, Act.put, List.setIfInBounds_toArray, List.set_cons_zero, List.set_cons_succ]
      refine wpAnyH_ready (rs := [5, 6]) (by kernel_rfl) (by simp) ?_
      refine AllReadyH.cons rfl (fun K hK => ?_) (AllReadyH.cons rfl (fun K hK => ?_) (AllReadyH.nil))
      · skip
        refine step_append_empty rfl (.tmp 5) (.tmp 7) 30 rfl 70 iP _ 2 16 Try.underlying30 hi1 hz1 hs1 hb1 hc1 (by decide) _ rfl _ A n c (links.flatMap encP) rfl HL1.out (flat_one sizP links) (HQ1.out _ hHeld.1) (by unfold maxLen; omega) (by omega) ?_
        intro A1 c1 w1 l1 q1 b1
        have q1 := q1.lower (HZ.out _ hHeld.1)
        refine hK.out _ _ (HB.out _ _ hHeld b1) (fun hHeld => ?_)
        clear hK K
        have R := R.below b1 R.lt
        try simp only [List.getElem_toArray, List.getElem_cons_zero, List.getElem_cons_succ, Act.put, List.setIfInBounds_toArray, List.set_cons_zero, List.set_cons_succ]
        refine wpAnyH_ready (rs := [6]) (by kernel_rfl) (by simp) ?_
        refine AllReadyH.cons rfl (fun K hK => ?_) (AllReadyH.nil)
        go_simp
        refine hK.out _ _ (HA.out _ _ hHeld) (fun hHeld => ?_)
        clear hK K
        have R := R.alloc (.cells #[] 66)
        have q1 := q1.alloc (.cells #[] 66)
        try simp only [List.getElem_toArray, List.getElem_cons_zero, List.getElem_cons_succ, Act.put, List.setIfInBounds_toArray, List.set_cons_zero, List.set_cons_succ]
        refine wpAnyH_ready (rs := [9]) (by kernel_rfl) (by simp) ?_
        refine AllReadyH.cons rfl (fun K hK => ?_) (AllReadyH.nil)
        refine step_append_empty rfl (.tmp 9) (.tmp 11) 31 rfl 66 iJ _ 3 24 Try.underlying31 hi2 hz2 hs2 hb2 hc2 (by decide) _ rfl _ J nj cj (jams.flatMap encJ) rfl HL2.out (flat_one sizJ jams) (HQ2.out _ hHeld.1) (by unfold maxLen; omega) (by omega) ?_
        intro A2 c2 w2 l2 q2 b2
        have q2 := q2.lower (HZ.out _ hHeld.1)
        refine hK.out _ _ (HB.out _ _ hHeld b2) (fun hHeld => ?_)
        clear hK K
        have R := R.below b2 R.lt
        have q1 := q1.later b2
        try simp only [List.getElem_toArray, List.getElem_cons_zero, List.getElem_cons_succ, Act.put, List.setIfInBounds_toArray, List.set_cons_zero, List.set_cons_succ]
        refine wpAnyH_ready (rs := [13]) (by kernel_rfl) (by simp) ?_
        refine AllReadyH.cons rfl (fun K hK => ?_) (AllReadyH.nil)
        refine step_append_empty rfl (.tmp 13) (.tmp 15) 32 rfl 61 iL _ 2 16 Try.underlying32 hi3 hz3 hs3 hb3 hc3 (by decide) _ rfl _ S ns cs (loss.flatMap encP) rfl HL3.out (flat_one sizP loss) (HQ3.out _ hHeld.1) (by unfold maxLen; omega) (by omega) ?_
        intro A3 c3 w3 l3 q3 b3
        have q3 := q3.lower (HZ.out _ hHeld.1)
        refine hK.out _ _ (HB.out _ _ hHeld b3) (fun hHeld => ?_)
        clear hK K
        have R := R.below b3 R.lt
        have q1 := q1.later b3
        have q2 := q2.later b3
        try simp only [List.getElem_toArray, List.getElem_cons_zero, List.getElem_cons_succ, Act.put, List.setIfInBounds_toArray, List.set_cons_zero, List.set_cons_succ]
        refine wpAnyH_take (i := 14) (v := .agg #[.int .i64 D, .slice A1 n c1, .slice A2 nj c2, .slice A3 ns c3]) rfl (by kernel_rfl) (by kernel_rfl) (by kernel_rfl) (fun _ _ _ h => h) (Or.inl ⟨by first | rfl | go_simp, by intro w9 hSw; (try dsimp only at hSw); go_simp⟩) (by assumption) ?_
        simp only [List.getElem_toArray, List.getElem_cons_zero, List.getElem_cons_succ, Act.put, List.setIfInBounds_toArray, List.set_cons_zero, List.set_cons_succ]
        obtain ⟨z0, z1, z2, z3, y0, y1, y2, y3⟩ := HR.out _ R
        refine wpAnyH_ready (rs := [15]) (by kernel_rfl) (by simp) ?_
        refine AllReadyH.cons rfl (fun K hK => ?_) AllReadyH.nil
        go_simp
        refine hK.out _ _ (HS.out _ (HT.out _ hHeld.1 _ _ _ _)) (fun hHeld => ?_)
        clear hK K
        try simp only [List.getElem_toArray, List.getElem_cons_zero, List.getElem_cons_succ, Act.put, List.setIfInBounds_toArray, List.set_cons_zero, List.set_cons_succ]
        refine wpAnyH_done (by kernel_rfl) ?_ _
        obtain ⟨e0, e1, e2, e3⟩ := HE.out _ (.int .i64 D) (.slice A1 n c1) (.slice A2 nj c2) (.slice A3 ns c3) R
        have q1 := HV.out _ (.int .i64 D) (.slice A1 n c1) (.slice A2 nj c2) (.slice A3 ns c3) _ _ q1
        have q2 := HV.out _ (.int .i64 D) (.slice A1 n c1) (.slice A2 nj c2) (.slice A3 ns c3) _ _ q2
        have q3 := HV.out _ (.int .i64 D) (.slice A1 n c1) (.slice A2 nj c2) (.slice A3 ns c3) _ _ q3
        go_wp2_with fail
        refine bodyPost_ret (v := .agg #[.int .i64 D, .slice A1 n c1, .slice A2 nj c2, .slice A3 ns c3]) ?_ rfl ⟨A1, c1, A2, c2, A3, c3, rfl, l1, l2, l3, q1.at_, q2.at_, q3.at_, HY.out _ hHeld.1⟩
        simp [results, Try.f18, go_sem, e0, e1, e2, e3]
      · skip
        go_simp
        refine hK.out _ _ (HA.out _ _ hHeld) (fun hHeld => ?_)
        clear hK K
        have R := R.alloc (.cells #[] 66)
        try simp only [List.getElem_toArray, List.getElem_cons_zero, List.getElem_cons_succ, Act.put, List.setIfInBounds_toArray, List.set_cons_zero, List.set_cons_succ]
        refine wpAnyH_ready (rs := [5]) (by kernel_rfl) (by simp) ?_
        refine AllReadyH.cons rfl (fun K hK => ?_) (AllReadyH.nil)
        refine step_append_empty rfl (.tmp 5) (.tmp 7) 30 rfl 70 iP _ 2 16 Try.underlying30 hi1 hz1 hs1 hb1 hc1 (by decide) _ rfl _ A n c (links.flatMap encP) rfl HL1.out (flat_one sizP links) (HQ1.out _ hHeld.1) (by unfold maxLen; omega) (by omega) ?_
        intro A1 c1 w1 l1 q1 b1
        have q1 := q1.lower (HZ.out _ hHeld.1)
        refine hK.out _ _ (HB.out _ _ hHeld b1) (fun hHeld => ?_)
        clear hK K
        have R := R.below b1 R.lt
        try simp only [List.getElem_toArray, List.getElem_cons_zero, List.getElem_cons_succ, Act.put, List.setIfInBounds_toArray, List.set_cons_zero, List.set_cons_succ]
        refine wpAnyH_ready (rs := [9]) (by kernel_rfl) (by simp) ?_
        refine AllReadyH.cons rfl (fun K hK => ?_) (AllReadyH.nil)
        refine step_append_empty rfl (.tmp 9) (.tmp 11) 31 rfl 66 iJ _ 3 24 Try.underlying31 hi2 hz2 hs2 hb2 hc2 (by decide) _ rfl _ J nj cj (jams.flatMap encJ) rfl HL2.out (flat_one sizJ jams) (HQ2.out _ hHeld.1) (by unfold maxLen; omega) (by omega) ?_
        intro A2 c2 w2 l2 q2 b2
        have q2 := q2.lower (HZ.out _ hHeld.1)
        refine hK.out _ _ (HB.out _ _ hHeld b2) (fun hHeld => ?_)
        clear hK K
        have R := R.below b2 R.lt
        have q1 := q1.later b2
        try simp only [List.getElem_toArray, List.getElem_cons_zero, List.getElem_cons_succ, Act.put, List.setIfInBounds_toArray, List.set_cons_zero, List.set_cons_succ]
        refine wpAnyH_ready (rs := [13]) (by kernel_rfl) (by simp) ?_
        refine AllReadyH.cons rfl (fun K hK => ?_) (AllReadyH.nil)
        refine step_append_empty rfl (.tmp 13) (.tmp 15) 32 rfl 61 iL _ 2 16 Try.underlying32 hi3 hz3 hs3 hb3 hc3 (by decide) _ rfl _ S ns cs (loss.flatMap encP) rfl HL3.out (flat_one sizP loss) (HQ3.out _ hHeld.1) (by unfold maxLen; omega) (by omega) ?_
        intro A3 c3 w3 l3 q3 b3
        have q3 := q3.lower (HZ.out _ hHeld.1)
        refine hK.out _ _ (HB.out _ _ hHeld b3) (fun hHeld => ?_)
        clear hK K
        have R := R.below b3 R.lt
        have q1 := q1.later b3
        have q2 := q2.later b3
        try simp only [List.getElem_toArray, List.getElem_cons_zero, List.getElem_cons_succ, Act.put, List.setIfInBounds_toArray, List.set_cons_zero, List.set_cons_succ]
        refine wpAnyH_take (i := 14) (v := .agg #[.int .i64 D, .slice A1 n c1, .slice A2 nj c2, .slice A3 ns c3]) rfl (by kernel_rfl) (by kernel_rfl) (by kernel_rfl) (fun _ _ _ h => h) (Or.inl ⟨by first | rfl | go_simp, by intro w9 hSw; (try dsimp only at hSw); go_simp⟩) (by assumption) ?_
        simp only [List.getElem_toArray, List.getElem_cons_zero, List.getElem_cons_succ, Act.put, List.setIfInBounds_toArray, List.set_cons_zero, List.set_cons_succ]
        obtain ⟨z0, z1, z2, z3, y0, y1, y2, y3⟩ := HR.out _ R
        refine wpAnyH_ready (rs := [15]) (by kernel_rfl) (by simp) ?_
        refine AllReadyH.cons rfl (fun K hK => ?_) AllReadyH.nil
        go_simp
        refine hK.out _ _ (HS.out _ (HT.out _ hHeld.1 _ _ _ _)) (fun hHeld => ?_)
        clear hK K
        try simp only [List.getElem_toArray, List.getElem_cons_zero, List.getElem_cons_succ, Act.put, List.setIfInBounds_toArray, List.set_cons_zero, List.set_cons_succ]
        refine wpAnyH_done (by kernel_rfl) ?_ _
        obtain ⟨e0, e1, e2, e3⟩ := HE.out _ (.int .i64 D) (.slice A1 n c1) (.slice A2 nj c2) (.slice A3 ns c3) R
        have q1 := HV.out _ (.int .i64 D) (.slice A1 n c1) (.slice A2 nj c2) (.slice A3 ns c3) _ _ q1
        have q2 := HV.out _ (.int .i64 D) (.slice A1 n c1) (.slice A2 nj c2) (.slice A3 ns c3) _ _ q2
        have q3 := HV.out _ (.int .i64 D) (.slice A1 n c1) (.slice A2 nj c2) (.slice A3 ns c3) _ _ q3
        go_wp2_with fail
        refine bodyPost_ret (v := .agg #[.int .i64 D, .slice A1 n c1, .slice A2 nj c2, .slice A3 ns c3]) ?_ rfl ⟨A1, c1, A2, c2, A3, c3, rfl, l1, l2, l3, q1.at_, q2.at_, q3.at_, HY.out _ hHeld.1⟩
        simp [results, Try.f18, go_sem, e0, e1, e2, e3]
  · skip
    go_simp
    refine hK.out _ _ (HA.out _ _ hHeld) (fun hHeld => ?_)
    clear hK K
    have R := R.alloc (.cells #[] 66)
    try simp only [List.getElem_toArray, List.getElem_cons_zero, List.getElem_cons_succ, Act.put, List.setIfInBounds_toArray, List.set_cons_zero, List.set_cons_succ]
    refine wpAnyH_ready (rs := [2, 10]) (by kernel_rfl) (by simp) ?_
    refine AllReadyH.cons rfl (fun K hK => ?_) (AllReadyH.cons rfl (fun K hK => ?_) (AllReadyH.nil))
    · skip
      go_simp
      refine hK.out _ _ (HA.out _ _ hHeld) (fun hHeld => ?_)
      clear hK K
      have R := R.alloc (.cells #[] 70)
      try simp only [List.getElem_toArray, List.getElem_cons_zero, List.getElem_cons_succ, Act.put, List.setIfInBounds_toArray, List.set_cons_zero, List.set_cons_succ]
      refine wpAnyH_ready (rs := [5, 10]) (by kernel_rfl) (by simp) ?_
      refine AllReadyH.cons rfl (fun K hK => ?_) (AllReadyH.cons rfl (fun K hK => ?_) (AllReadyH.nil))
      · skip
        refine step_append_empty rfl (.tmp 5) (.tmp 7) 30 rfl 70 iP _ 2 16 Try.underlying30 hi1 hz1 hs1 hb1 hc1 (by decide) _ rfl _ A n c (links.flatMap encP) rfl HL1.out (flat_one sizP links) (HQ1.out _ hHeld.1) (by unfold maxLen; omega) (by omega) ?_
        intro A1 c1 w1 l1 q1 b1
        have q1 := q1.lower (HZ.out _ hHeld.1)
        refine hK.out _ _ (HB.out _ _ hHeld b1) (fun hHeld => ?_)
        clear hK K
        have R := R.below b1 R.lt
        try simp only [List.getElem_toArray, List.getElem_cons_zero, List.getElem_cons_succ, Act.put, List.setIfInBounds_toArray, List.set_cons_zero, List.set_cons_succ]
        refine wpAnyH_ready (rs := [9, 10]) (by kernel_rfl) (by simp) ?_
        refine AllReadyH.cons rfl (fun K hK => ?_) (AllReadyH.cons rfl (fun K hK => ?_) (AllReadyH.nil))
        · skip
          refine step_append_empty rfl (.tmp 9) (.tmp 11) 31 rfl 66 iJ _ 3 24 Try.underlying31 hi2 hz2 hs2 hb2 hc2 (by decide) _ rfl _ J nj cj (jams.flatMap encJ) rfl HL2.out (flat_one sizJ jams) (HQ2.out _ hHeld.1) (by unfold maxLen; omega) (by omega) ?_
          intro A2 c2 w2 l2 q2 b2
          have q2 := q2.lower (HZ.out _ hHeld.1)
          refine hK.out _ _ (HB.out _ _ hHeld b2) (fun hHeld => ?_)
          clear hK K
          have R := R.below b2 R.lt
          have q1 := q1.later b2
          try simp only [List.getElem_toArray, List.getElem_cons_zero, List.getElem_cons_succ, Act.put, List.setIfInBounds_toArray, List.set_cons_zero, List.set_cons_succ]
          refine wpAnyH_ready (rs := [10]) (by kernel_rfl) (by simp) ?_
          refine AllReadyH.cons rfl (fun K hK => ?_) (AllReadyH.nil)
          go_simp
          refine hK.out _ _ (HA.out _ _ hHeld) (fun hHeld => ?_)
          clear hK K
          have R := R.alloc (.cells #[] 61)
          have q1 := q1.alloc (.cells #[] 61)
          have q2 := q2.alloc (.cells #[] 61)
          try simp only [List.getElem_toArray, List.getElem_cons_zero, List.getElem_cons_succ, Act.put, List.setIfInBounds_toArray, List.set_cons_zero, List.set_cons_succ]
          refine wpAnyH_ready (rs := [13]) (by kernel_rfl) (by simp) ?_
          refine AllReadyH.cons rfl (fun K hK => ?_) (AllReadyH.nil)
          refine step_append_empty rfl (.tmp 13) (.tmp 15) 32 rfl 61 iL _ 2 16 Try.underlying32 hi3 hz3 hs3 hb3 hc3 (by decide) _ rfl _ S ns cs (loss.flatMap encP) rfl HL3.out (flat_one sizP loss) (HQ3.out _ hHeld.1) (by unfold maxLen; omega) (by omega) ?_
          intro A3 c3 w3 l3 q3 b3
          have q3 := q3.lower (HZ.out _ hHeld.1)
          refine hK.out _ _ (HB.out _ _ hHeld b3) (fun hHeld => ?_)
          clear hK K
          have R := R.below b3 R.lt
          have q1 := q1.later b3
          have q2 := q2.later b3
          try simp only [List.getElem_toArray, List.getElem_cons_zero, List.getElem_cons_succ, Act.put, List.setIfInBounds_toArray, List.set_cons_zero, List.set_cons_succ]
          refine wpAnyH_take (i := 14) (v := .agg #[.int .i64 D, .slice A1 n c1, .slice A2 nj c2, .slice A3 ns c3]) rfl (by kernel_rfl) (by kernel_rfl) (by kernel_rfl) (fun _ _ _ h => h) (Or.inl ⟨by first | rfl | go_simp, by intro w9 hSw; (try dsimp only at hSw); go_simp⟩) (by assumption) ?_
          simp only [List.getElem_toArray, List.getElem_cons_zero, List.getElem_cons_succ, Act.put, List.setIfInBounds_toArray, List.set_cons_zero, List.set_cons_succ]
          obtain ⟨z0, z1, z2, z3, y0, y1, y2, y3⟩ := HR.out _ R
          refine wpAnyH_ready (rs := [15]) (by kernel_rfl) (by simp) ?_
          refine AllReadyH.cons rfl (fun K hK => ?_) AllReadyH.nil
          go_simp
          refine hK.out _ _ (HS.out _ (HT.out _ hHeld.1 _ _ _ _)) (fun hHeld => ?_)
          clear hK K
          try simp only [List.getElem_toArray, List.getElem_cons_zero, List.getElem_cons_succ, Act.put, List.setIfInBounds_toArray, List.set_cons_zero, List.set_cons_succ]
          refine wpAnyH_done (by kernel_rfl) ?_ _
          obtain ⟨e0, e1, e2, e3⟩ := HE.out _ (.int .i64 D) (.slice A1 n c1) (.slice A2 nj c2) (.slice A3 ns c3) R
          have q1 := HV.out _ (.int .i64 D) (.slice A1 n c1) (.slice A2 nj c2) (.slice A3 ns c3) _ _ q1
          have q2 := HV.out _ (.int .i64 D) (.slice A1 n c1) (.slice A2 nj c2) (.slice A3 ns c3) _ _ q2
          have q3 := HV.out _ (.int .i64 D) (.slice A1 n c1) (.slice A2 nj c2) (.slice A3 ns c3) _ _ q3
          go_wp2_with fail
          refine bodyPost_ret (v := .agg #[.int .i64 D, .slice A1 n c1, .slice A2 nj c2, .slice A3 ns c3]) ?_ rfl ⟨A1, c1, A2, c2, A3, c3, rfl, l1, l2, l3, q1.at_, q2.at_, q3.at_, HY.out _ hHeld.1⟩
          simp [results, Try.f18, go_sem, e0, e1, e2, e3]
        · skip
          go_simp
          refine hK.out _ _ (HA.out _ _ hHeld) (fun hHeld => ?_)
          clear hK K
          have R := R.alloc (.cells #[] 61)
          have q1 := q1.alloc (.cells #[] 61)
          try simp only [List.getElem_toArray, List.getElem_cons_zero, List.getElem_cons_succ, Act.put, List.setIfInBounds_toArray, List.set_cons_zero, List.set_cons_succ]
          refine wpAnyH_ready (rs := [9]) (by kernel_rfl) (by simp) ?_
          refine AllReadyH.cons rfl (fun K hK => ?_) (AllReadyH.nil)
          refine step_append_empty rfl (.tmp 9) (.tmp 11) 31 rfl 66 iJ _ 3 24 Try.underlying31 hi2 hz2 hs2 hb2 hc2 (by decide) _ rfl _ J nj cj (jams.flatMap encJ) rfl HL2.out (flat_one sizJ jams) (HQ2.out _ hHeld.1) (by unfold maxLen; omega) (by omega) ?_
          intro A2 c2 w2 l2 q2 b2
          have q2 := q2.lower (HZ.out _ hHeld.1)
          refine hK.out _ _ (HB.out _ _ hHeld b2) (fun hHeld => ?_)
          clear hK K
          have R := R.below b2 R.lt
          have q1 := q1.later b2
          try simp only [List.getElem_toArray, List.getElem_cons_zero, List.getElem_cons_succ, Act.put, List.setIfInBounds_toArray, List.set_cons_zero, List.set_cons_succ]
          refine wpAnyH_ready (rs := [13]) (by kernel_rfl) (by simp) ?_
          refine AllReadyH.cons rfl (fun K hK => ?_) (AllReadyH.nil)
          refine step_append_empty rfl (.tmp 13) (.tmp 15) 32 rfl 61 iL _ 2 16 Try.underlying32 hi3 hz3 hs3 hb3 hc3 (by decide) _ rfl _ S ns cs (loss.flatMap encP) rfl HL3.out (flat_one sizP loss) (HQ3.out _ hHeld.1) (by unfold maxLen; omega) (by omega) ?_
          intro A3 c3 w3 l3 q3 b3
          have q3 := q3.lower (HZ.out _ hHeld.1)
          refine hK.out _ _ (HB.out _ _ hHeld b3) (fun hHeld => ?_)
          clear hK K
          have R := R.below b3 R.lt
          have q1 := q1.later b3
          have q2 := q2.later b3
          try simp only [List.getElem_toArray, List.getElem_cons_zero, List.getElem_cons_succ, Act.put, List.setIfInBounds_toArray, List.set_cons_zero, List.set_cons_succ]
          refine wpAnyH_take (i := 14) (v := .agg #[.int .i64 D, .slice A1 n c1, .slice A2 nj c2, .slice A3 ns c3]) rfl (by kernel_rfl) (by kernel_rfl) (by kernel_rfl) (fun _ _ _ h => h) (Or.inl ⟨by first | rfl | go_simp, by intro w9 hSw; (try dsimp only at hSw); go_simp⟩) (by assumption) ?_
          simp only [List.getElem_toArray, List.getElem_cons_zero, List.getElem_cons_succ, Act.put, List.setIfInBounds_toArray, List.set_cons_zero, List.set_cons_succ]
          obtain ⟨z0, z1, z2, z3, y0, y1, y2, y3⟩ := HR.out _ R
          refine wpAnyH_ready (rs := [15]) (by kernel_rfl) (by simp) ?_
          refine AllReadyH.cons rfl (fun K hK => ?_) AllReadyH.nil
          go_simp
          refine hK.out _ _ (HS.out _ (HT.out _ hHeld.1 _ _ _ _)) (fun hHeld => ?_)
          clear hK K
          try simp only [List.getElem_toArray, List.getElem_cons_zero, List.getElem_cons_succ, Act.put, List.setIfInBounds_toArray, List.set_cons_zero, List.set_cons_succ]
          refine wpAnyH_done (by kernel_rfl) ?_ _
          obtain ⟨e0, e1, e2, e3⟩ := HE.out _ (.int .i64 D) (.slice A1 n c1) (.slice A2 nj c2) (.slice A3 ns c3) R
          have q1 := HV.out _ (.int .i64 D) (.slice A1 n c1) (.slice A2 nj c2) (.slice A3 ns c3) _ _ q1
          have q2 := HV.out _ (.int .i64 D) (.slice A1 n c1) (.slice A2 nj c2) (.slice A3 ns c3) _ _ q2
          have q3 := HV.out _ (.int .i64 D) (.slice A1 n c1) (.slice A2 nj c2) (.slice A3 ns c3) _ _ q3
          go_wp2_with fail
          refine bodyPost_ret (v := .agg #[.int .i64 D, .slice A1 n c1, .slice A2 nj c2, .slice A3 ns c3]) ?_ rfl ⟨A1, c1, A2, c2, A3, c3, rfl, l1, l2, l3, q1.at_, q2.at_, q3.at_, HY.out _ hHeld.1⟩
          simp [results, Try.f18, go_sem, e0, e1, e2, e3]
      · skip
        go_simp
        refine hK.out _ _ (HA.out _ _ hHeld) (fun hHeld => ?_)
        clear hK K
        have R := R.alloc (.cells #[] 61)
        try simp only [List.getElem_toArray, List.getElem_cons_zero, List.getElem_cons_succ, Act.put, List.setIfInBounds_toArray, List.set_cons_zero, List.set_cons_succ]
        refine wpAnyH_ready (rs := [5]) (by kernel_rfl) (by simp) ?_
        refine AllReadyH.cons rfl (fun K hK => ?_) (AllReadyH.nil)
        refine step_append_empty rfl (.tmp 5) (.tmp 7) 30 rfl 70 iP _ 2 16 Try.underlying30 hi1 hz1 hs1 hb1 hc1 (by decide) _ rfl _ A n c (links.flatMap encP) rfl HL1.out (flat_one sizP links) (HQ1.out _ hHeld.1) (by unfold maxLen; omega) (by omega) ?_
        intro A1 c1 w1 l1 q1 b1
        have q1 := q1.lower (HZ.out _ hHeld.1)
        refine hK.out _ _ (HB.out _ _ hHeld b1) (fun hHeld => ?_)
        clear hK K
        have R := R.below b1 R.lt
        try simp only [List.getElem_toArray, List.getElem_cons_zero, List.getElem_cons_succ, Act.put, List.setIfInBounds_toArray, List.set_cons_zero, List.set_cons_succ]
        refine wpAnyH_ready (rs := [9]) (by kernel_rfl) (by simp) ?_
        refine AllReadyH.cons rfl (fun K hK => ?_) (AllReadyH.nil)
        refine step_append_empty rfl (.tmp 9) (.tmp 11) 31 rfl 66 iJ _ 3 24 Try.underlying31 hi2 hz2 hs2 hb2 hc2 (by decide) _ rfl _ J nj cj (jams.flatMap encJ) rfl HL2.out (flat_one sizJ jams) (HQ2.out _ hHeld.1) (by unfold maxLen; omega) (by omega) ?_
        intro A2 c2 w2 l2 q2 b2
        have q2 := q2.lower (HZ.out _ hHeld.1)
        refine hK.out _ _ (HB.out _ _ hHeld b2) (fun hHeld => ?_)
        clear hK K
        have R := R.below b2 R.lt
        have q1 := q1.later b2
        try simp only [List.getElem_toArray, List.getElem_cons_zero, List.getElem_cons_succ, Act.put, List.setIfInBounds_toArray, List.set_cons_zero, List.set_cons_succ]
        refine wpAnyH_ready (rs := [13]) (by kernel_rfl) (by simp) ?_
        refine AllReadyH.cons rfl (fun K hK => ?_) (AllReadyH.nil)
        refine step_append_empty rfl (.tmp 13) (.tmp 15) 32 rfl 61 iL _ 2 16 Try.underlying32 hi3 hz3 hs3 hb3 hc3 (by decide) _ rfl _ S ns cs (loss.flatMap encP) rfl HL3.out (flat_one sizP loss) (HQ3.out _ hHeld.1) (by unfold maxLen; omega) (by omega) ?_
        intro A3 c3 w3 l3 q3 b3
        have q3 := q3.lower (HZ.out _ hHeld.1)
        refine hK.out _ _ (HB.out _ _ hHeld b3) (fun hHeld => ?_)
        clear hK K
        have R := R.below b3 R.lt
        have q1 := q1.later b3
        have q2 := q2.later b3
        try simp only [List.getElem_toArray, List.getElem_cons_zero, List.getElem_cons_succ, Act.put, List.setIfInBounds_toArray, List.set_cons_zero, List.set_cons_succ]
        refine wpAnyH_take (i := 14) (v := .agg #[.int .i64 D, .slice A1 n c1, .slice A2 nj c2, .slice A3 ns c3]) rfl (by kernel_rfl) (by kernel_rfl) (by kernel_rfl) (fun _ _ _ h => h) (Or.inl ⟨by first | rfl | go_simp, by intro w9 hSw; (try dsimp only at hSw); go_simp⟩) (by assumption) ?_
        simp only [List.getElem_toArray, List.getElem_cons_zero, List.getElem_cons_succ, Act.put, List.setIfInBounds_toArray, List.set_cons_zero, List.set_cons_succ]
        obtain ⟨z0, z1, z2, z3, y0, y1, y2, y3⟩ := HR.out _ R
        refine wpAnyH_ready (rs := [15]) (by kernel_rfl) (by simp) ?_
        refine AllReadyH.cons rfl (fun K hK => ?_) AllReadyH.nil
        go_simp
        refine hK.out _ _ (HS.out _ (HT.out _ hHeld.1 _ _ _ _)) (fun hHeld => ?_)
        clear hK K
        try simp only [List.getElem_toArray, List.getElem_cons_zero, List.getElem_cons_succ, Act.put, List.setIfInBounds_toArray, List.set_cons_zero, List.set_cons_succ]
        refine wpAnyH_done (by kernel_rfl) ?_ _
        obtain ⟨e0, e1, e2, e3⟩ := HE.out _ (.int .i64 D) (.slice A1 n c1) (.slice A2 nj c2) (.slice A3 ns c3) R
        have q1 := HV.out _ (.int .i64 D) (.slice A1 n c1) (.slice A2 nj c2) (.slice A3 ns c3) _ _ q1
        have q2 := HV.out _ (.int .i64 D) (.slice A1 n c1) (.slice A2 nj c2) (.slice A3 ns c3) _ _ q2
        have q3 := HV.out _ (.int .i64 D) (.slice A1 n c1) (.slice A2 nj c2) (.slice A3 ns c3) _ _ q3
        go_wp2_with fail
        refine bodyPost_ret (v := .agg #[.int .i64 D, .slice A1 n c1, .slice A2 nj c2, .slice A3 ns c3]) ?_ rfl ⟨A1, c1, A2, c2, A3, c3, rfl, l1, l2, l3, q1.at_, q2.at_, q3.at_, HY.out _ hHeld.1⟩
        simp [results, Try.f18, go_sem, e0, e1, e2, e3]
    · skip
      go_simp
      refine hK.out _ _ (HA.out _ _ hHeld) (fun hHeld => ?_)
      clear hK K
      have R := R.alloc (.cells #[] 61)
      try simp only [List.getElem_toArray, List.getElem_cons_zero, List.getElem_cons_succ, Act.put, List.setIfInBounds_toArray, List.set_cons_zero, List.set_cons_succ]
      refine wpAnyH_ready (rs := [2]) (by kernel_rfl) (by simp) ?_
      refine AllReadyH.cons rfl (fun K hK => ?_) (AllReadyH.nil)
      go_simp
      refine hK.out _ _ (HA.out _ _ hHeld) (fun hHeld => ?_)
      clear hK K
      have R := R.alloc (.cells #[] 70)
      try simp only [List.getElem_toArray, List.getElem_cons_zero, List.getElem_cons_succ, Act.put, List.setIfInBounds_toArray, List.set_cons_zero, List.set_cons_succ]
      refine wpAnyH_ready (rs := [5]) (by kernel_rfl) (by simp) ?_
      refine AllReadyH.cons rfl (fun K hK => ?_) (AllReadyH.nil)
      refine step_append_empty rfl (.tmp 5) (.tmp 7) 30 rfl 70 iP _ 2 16 Try.underlying30 hi1 hz1 hs1 hb1 hc1 (by decide) _ rfl _ A n c (links.flatMap encP) rfl HL1.out (flat_one sizP links) (HQ1.out _ hHeld.1) (by unfold maxLen; omega) (by omega) ?_
      intro A1 c1 w1 l1 q1 b1
      have q1 := q1.lower (HZ.out _ hHeld.1)
      refine hK.out _ _ (HB.out _ _ hHeld b1) (fun hHeld => ?_)
      clear hK K
      have R := R.below b1 R.lt
      try simp only [List.getElem_toArray, List.getElem_cons_zero, List.getElem_cons_succ, Act.put, List.setIfInBounds_toArray, List.set_cons_zero, List.set_cons_succ]
      refine wpAnyH_ready (rs := [9]) (by kernel_rfl) (by simp) ?_
      refine AllReadyH.cons rfl (fun K hK => ?_) (AllReadyH.nil)
      refine step_append_empty rfl (.tmp 9) (.tmp 11) 31 rfl 66 iJ _ 3 24 Try.underlying31 hi2 hz2 hs2 hb2 hc2 (by decide) _ rfl _ J nj cj (jams.flatMap encJ) rfl HL2.out (flat_one sizJ jams) (HQ2.out _ hHeld.1) (by unfold maxLen; omega) (by omega) ?_
      intro A2 c2 w2 l2 q2 b2
      have q2 := q2.lower (HZ.out _ hHeld.1)
      refine hK.out _ _ (HB.out _ _ hHeld b2) (fun hHeld => ?_)
      clear hK K
      have R := R.below b2 R.lt
      have q1 := q1.later b2
      try simp only [List.getElem_toArray, List.getElem_cons_zero, List.getElem_cons_succ, Act.put, List.setIfInBounds_toArray, List.set_cons_zero, List.set_cons_succ]
      refine wpAnyH_ready (rs := [13]) (by kernel_rfl) (by simp) ?_
      refine AllReadyH.cons rfl (fun K hK => ?_) (AllReadyH.nil)
      refine step_append_empty rfl (.tmp 13) (.tmp 15) 32 rfl 61 iL _ 2 16 Try.underlying32 hi3 hz3 hs3 hb3 hc3 (by decide) _ rfl _ S ns cs (loss.flatMap encP) rfl HL3.out (flat_one sizP loss) (HQ3.out _ hHeld.1) (by unfold maxLen; omega) (by omega) ?_
      intro A3 c3 w3 l3 q3 b3
      have q3 := q3.lower (HZ.out _ hHeld.1)
      refine hK.out _ _ (HB.out _ _ hHeld b3) (fun hHeld => ?_)
      clear hK K
      have R := R.below b3 R.lt
      have q1 := q1.later b3
      have q2 := q2.later b3
      try simp only [List.getElem_toArray, List.getElem_cons_zero, List.getElem_cons_succ, Act.put, List.setIfInBounds_toArray, List.set_cons_zero, List.set_cons_succ]
      refine wpAnyH_take (i := 14) (v := .agg #[.int .i64 D, .slice A1 n c1, .slice A2 nj c2, .slice A3 ns c3]) rfl (by kernel_rfl) (by kernel_rfl) (by kernel_rfl) (fun _ _ _ h => h) (Or.inl ⟨by first | rfl | go_simp, by intro w9 hSw; (try dsimp only at hSw); go_simp⟩) (by assumption) ?_
      simp only [List.getElem_toArray, List.getElem_cons_zero, List.getElem_cons_succ, Act.put, List.setIfInBounds_toArray, List.set_cons_zero, List.set_cons_succ]
      obtain ⟨z0, z1, z2, z3, y0, y1, y2, y3⟩ := HR.out _ R
      refine wpAnyH_ready (rs := [15]) (by kernel_rfl) (by simp) ?_
      refine AllReadyH.cons rfl (fun K hK => ?_) AllReadyH.nil
      go_simp
      refine hK.out _ _ (HS.out _ (HT.out _ hHeld.1 _ _ _ _)) (fun hHeld => ?_)
      clear hK K
      try simp only [List.getElem_toArray, List.getElem_cons_zero, List.getElem_cons_succ, Act.put, List.setIfInBounds_toArray, List.set_cons_zero, List.set_cons_succ]
      refine wpAnyH_done (by kernel_rfl) ?_ _
      obtain ⟨e0, e1, e2, e3⟩ := HE.out _ (.int .i64 D) (.slice A1 n c1) (.slice A2 nj c2) (.slice A3 ns c3) R
      have q1 := HV.out _ (.int .i64 D) (.slice A1 n c1) (.slice A2 nj c2) (.slice A3 ns c3) _ _ q1
      have q2 := HV.out _ (.int .i64 D) (.slice A1 n c1) (.slice A2 nj c2) (.slice A3 ns c3) _ _ q2
      have q3 := HV.out _ (.int .i64 D) (.slice A1 n c1) (.slice A2 nj c2) (.slice A3 ns c3) _ _ q3
      go_wp2_with fail
      refine bodyPost_ret (v := .agg #[.int .i64 D, .slice A1 n c1, .slice A2 nj c2, .slice A3 ns c3]) ?_ rfl ⟨A1, c1, A2, c2, A3, c3, rfl, l1, l2, l3, q1.at_, q2.at_, q3.at_, HY.out _ hHeld.1⟩
      simp [results, Try.f18, go_sem, e0, e1, e2, e3]
  · skip
    go_simp
    refine hK.out _ _ (HA.out _ _ hHeld) (fun hHeld => ?_)
    clear hK K
    have R := R.alloc (.cells #[] 61)
    try simp only [List.getElem_toArray, List.getElem_cons_zero, List.getElem_cons_succ, Act.put, List.setIfInBounds_toArray, List.set_cons_zero, List.set_cons_succ]
    refine wpAnyH_ready (rs := [2, 6]) (by kernel_rfl) (by simp) ?_
    refine AllReadyH.cons rfl (fun K hK => ?_) (AllReadyH.cons rfl (fun K hK => ?_) (AllReadyH.nil))
    · skip
      go_simp
      refine hK.out _ _ (HA.out _ _ hHeld) (fun hHeld => ?_)
      clear hK K
      have R := R.alloc (.cells #[] 70)
      try simp only [List.getElem_toArray, List.getElem_cons_zero, List.getElem_cons_succ, Act.put, List.setIfInBounds_toArray, List.set_cons_zero, List.set_cons_succ]
      refine wpAnyH_ready (rs := [5, 6]) (by kernel_rfl) (by simp) ?_
      refine AllReadyH.cons rfl (fun K hK => ?_) (AllReadyH.cons rfl (fun K hK => ?_) (AllReadyH.nil))
      · skip
        refine step_append_empty rfl (.tmp 5) (.tmp 7) 30 rfl 70 iP _ 2 16 Try.underlying30 hi1 hz1 hs1 hb1 hc1 (by decide) _ rfl _ A n c (links.flatMap encP) rfl HL1.out (flat_one sizP links) (HQ1.out _ hHeld.1) (by unfold maxLen; omega) (by omega) ?_
        intro A1 c1 w1 l1 q1 b1
        have q1 := q1.lower (HZ.out _ hHeld.1)
        refine hK.out _ _ (HB.out _ _ hHeld b1) (fun hHeld => ?_)
        clear hK K
        have R := R.below b1 R.lt
        try simp only [List.getElem_toArray, List.getElem_cons_zero, List.getElem_cons_succ, Act.put, List.setIfInBounds_toArray, List.set_cons_zero, List.set_cons_succ]
        refine wpAnyH_ready (rs := [6]) (by kernel_rfl) (by simp) ?_
        refine AllReadyH.cons rfl (fun K hK => ?_) (AllReadyH.nil)
        go_simp
        refine hK.out _ _ (HA.out _ _ hHeld) (fun hHeld => ?_)
        clear hK K
        have R := R.alloc (.cells #[] 66)
        have q1 := q1.alloc (.cells #[] 66)
        try simp only [List.getElem_toArray, List.getElem_cons_zero, List.getElem_cons_succ, Act.put, List.setIfInBounds_toArray, List.set_cons_zero, List.set_cons_succ]
        refine wpAnyH_ready (rs := [9]) (by kernel_rfl) (by simp) ?_
        refine AllReadyH.cons rfl (fun K hK => ?_) (AllReadyH.nil)
        refine step_append_empty rfl (.tmp 9) (.tmp 11) 31 rfl 66 iJ _ 3 24 Try.underlying31 hi2 hz2 hs2 hb2 hc2 (by decide) _ rfl _ J nj cj (jams.flatMap encJ) rfl HL2.out (flat_one sizJ jams) (HQ2.out _ hHeld.1) (by unfold maxLen; omega) (by omega) ?_
        intro A2 c2 w2 l2 q2 b2
        have q2 := q2.lower (HZ.out _ hHeld.1)
        refine hK.out _ _ (HB.out _ _ hHeld b2) (fun hHeld => ?_)
        clear hK K
        have R := R.below b2 R.lt
        have q1 := q1.later b2
        try simp only [List.getElem_toArray, List.getElem_cons_zero, List.getElem_cons_succ, Act.put, List.setIfInBounds_toArray, List.set_cons_zero, List.set_cons_succ]
        refine wpAnyH_ready (rs := [13]) (by kernel_rfl) (by simp) ?_
        refine AllReadyH.cons rfl (fun K hK => ?_) (AllReadyH.nil)
        refine step_append_empty rfl (.tmp 13) (.tmp 15) 32 rfl 61 iL _ 2 16 Try.underlying32 hi3 hz3 hs3 hb3 hc3 (by decide) _ rfl _ S ns cs (loss.flatMap encP) rfl HL3.out (flat_one sizP loss) (HQ3.out _ hHeld.1) (by unfold maxLen; omega) (by omega) ?_
        intro A3 c3 w3 l3 q3 b3
        have q3 := q3.lower (HZ.out _ hHeld.1)
        refine hK.out _ _ (HB.out _ _ hHeld b3) (fun hHeld => ?_)
        clear hK K
        have R := R.below b3 R.lt
        have q1 := q1.later b3
        have q2 := q2.later b3
        try simp only [List.getElem_toArray, List.getElem_cons_zero, List.getElem_cons_succ, Act.put, List.setIfInBounds_toArray, List.set_cons_zero, List.set_cons_succ]
        refine wpAnyH_take (i := 14) (v := .agg #[.int .i64 D, .slice A1 n c1, .slice A2 nj c2, .slice A3 ns c3]) rfl (by kernel_rfl) (by kernel_rfl) (by kernel_rfl) (fun _ _ _ h => h) (Or.inl ⟨by first | rfl | go_simp, by intro w9 hSw; (try dsimp only at hSw); go_simp⟩) (by assumption) ?_
        simp only [List.getElem_toArray, List.getElem_cons_zero, List.getElem_cons_succ, Act.put, List.setIfInBounds_toArray, List.set_cons_zero, List.set_cons_succ]
        obtain ⟨z0, z1, z2, z3, y0, y1, y2, y3⟩ := HR.out _ R
        refine wpAnyH_ready (rs := [15]) (by kernel_rfl) (by simp) ?_
        refine AllReadyH.cons rfl (fun K hK => ?_) AllReadyH.nil
        go_simp
        refine hK.out _ _ (HS.out _ (HT.out _ hHeld.1 _ _ _ _)) (fun hHeld => ?_)
        clear hK K
        try simp only [List.getElem_toArray, List.getElem_cons_zero, List.getElem_cons_succ, Act.put, List.setIfInBounds_toArray, List.set_cons_zero, List.set_cons_succ]
        refine wpAnyH_done (by kernel_rfl) ?_ _
        obtain ⟨e0, e1, e2, e3⟩ := HE.out _ (.int .i64 D) (.slice A1 n c1) (.slice A2 nj c2) (.slice A3 ns c3) R
        have q1 := HV.out _ (.int .i64 D) (.slice A1 n c1) (.slice A2 nj c2) (.slice A3 ns c3) _ _ q1
        have q2 := HV.out _ (.int .i64 D) (.slice A1 n c1) (.slice A2 nj c2) (.slice A3 ns c3) _ _ q2
        have q3 := HV.out _ (.int .i64 D) (.slice A1 n c1) (.slice A2 nj c2) (.slice A3 ns c3) _ _ q3
        go_wp2_with fail
        refine bodyPost_ret (v := .agg #[.int .i64 D, .slice A1 n c1, .slice A2 nj c2, .slice A3 ns c3]) ?_ rfl ⟨A1, c1, A2, c2, A3, c3, rfl, l1, l2, l3, q1.at_, q2.at_, q3.at_, HY.out _ hHeld.1⟩
        simp [results, Try.f18, go_sem, e0, e1, e2, e3]
      · skip
        go_simp
        refine hK.out _ _ (HA.out _ _ hHeld) (fun hHeld => ?_)
        clear hK K
        have R := R.alloc (.cells #[] 66)
        try simp only [List.getElem_toArray, List.getElem_cons_zero, List.getElem_cons_succ, Act.put, List.setIfInBounds_toArray, List.set_cons_zero, List.set_cons_succ]
        refine wpAnyH_ready (rs := [5]) (by kernel_rfl) (by simp) ?_
        refine AllReadyH.cons rfl (fun K hK => ?_) (AllReadyH.nil)
        refine step_append_empty rfl (.tmp 5) (.tmp 7) 30 rfl 70 iP _ 2 16 Try.underlying30 hi1 hz1 hs1 hb1 hc1 (by decide) _ rfl _ A n c (links.flatMap encP) rfl HL1.out (flat_one sizP links) (HQ1.out _ hHeld.1) (by unfold maxLen; omega) (by omega) ?_
        intro A1 c1 w1 l1 q1 b1
        have q1 := q1.lower (HZ.out _ hHeld.1)
        refine hK.out _ _ (HB.out _ _ hHeld b1) (fun hHeld => ?_)
        clear hK K
        have R := R.below b1 R.lt
        try simp only [List.getElem_toArray, List.getElem_cons_zero, List.getElem_cons_succ, Act.put, List.setIfInBounds_toArray, List.set_cons_zero, List.set_cons_succ]
        refine wpAnyH_ready (rs := [9]) (by kernel_rfl) (by simp) ?_
        refine AllReadyH.cons rfl (fun K hK => ?_) (AllReadyH.nil)
        refine step_append_empty rfl (.tmp 9) (.tmp 11) 31 rfl 66 iJ _ 3 24 Try.underlying31 hi2 hz2 hs2 hb2 hc2 (by decide) _ rfl _ J nj cj (jams.flatMap encJ) rfl HL2.out (flat_one sizJ jams) (HQ2.out _ hHeld.1) (by unfold maxLen; omega) (by omega) ?_
        intro A2 c2 w2 l2 q2 b2
        have q2 := q2.lower (HZ.out _ hHeld.1)
        refine hK.out _ _ (HB.out _ _ hHeld b2) (fun hHeld => ?_)
        clear hK K
        have R := R.below b2 R.lt
        have q1 := q1.later b2
        try simp only [List.getElem_toArray, List.getElem_cons_zero, List.getElem_cons_succ, Act.put, List.setIfInBounds_toArray, List.set_cons_zero, List.set_cons_succ]
        refine wpAnyH_ready (rs := [13]) (by kernel_rfl) (by simp) ?_
        refine AllReadyH.cons rfl (fun K hK => ?_) (AllReadyH.nil)
        refine step_append_empty rfl (.tmp 13) (.tmp 15) 32 rfl 61 iL _ 2 16 Try.underlying32 hi3 hz3 hs3 hb3 hc3 (by decide) _ rfl _ S ns cs (loss.flatMap encP) rfl HL3.out (flat_one sizP loss) (HQ3.out _ hHeld.1) (by unfold maxLen; omega) (by omega) ?_
        intro A3 c3 w3 l3 q3 b3
        have q3 := q3.lower (HZ.out _ hHeld.1)
        refine hK.out _ _ (HB.out _ _ hHeld b3) (fun hHeld => ?_)
        clear hK K
        have R := R.below b3 R.lt
        have q1 := q1.later b3
        have q2 := q2.later b3
        try simp only [List.getElem_toArray, List.getElem_cons_zero, List.getElem_cons_succ, Act.put, List.setIfInBounds_toArray, List.set_cons_zero, List.set_cons_succ]
        refine wpAnyH_take (i := 14) (v := .agg #[.int .i64 D, .slice A1 n c1, .slice A2 nj c2, .slice A3 ns c3]) rfl (by kernel_rfl) (by kernel_rfl) (by kernel_rfl) (fun _ _ _ h => h) (Or.inl ⟨by first | rfl | go_simp, by intro w9 hSw; (try dsimp only at hSw); go_simp⟩) (by assumption) ?_
        simp only [List.getElem_toArray, List.getElem_cons_zero, List.getElem_cons_succ, Act.put, List.setIfInBounds_toArray, List.set_cons_zero, List.set_cons_succ]
        obtain ⟨z0, z1, z2, z3, y0, y1, y2, y3⟩ := HR.out _ R
        refine wpAnyH_ready (rs := [15]) (by kernel_rfl) (by simp) ?_
        refine AllReadyH.cons rfl (fun K hK => ?_) AllReadyH.nil
        go_simp
        refine hK.out _ _ (HS.out _ (HT.out _ hHeld.1 _ _ _ _)) (fun hHeld => ?_)
        clear hK K
        try simp only [List.getElem_toArray, List.getElem_cons_zero, List.getElem_cons_succ, Act.put, List.setIfInBounds_toArray, List.set_cons_zero, List.set_cons_succ]
        refine wpAnyH_done (by kernel_rfl) ?_ _
        obtain ⟨e0, e1, e2, e3⟩ := HE.out _ (.int .i64 D) (.slice A1 n c1) (.slice A2 nj c2) (.slice A3 ns c3) R
        have q1 := HV.out _ (.int .i64 D) (.slice A1 n c1) (.slice A2 nj c2) (.slice A3 ns c3) _ _ q1
        have q2 := HV.out _ (.int .i64 D) (.slice A1 n c1) (.slice A2 nj c2) (.slice A3 ns c3) _ _ q2
        have q3 := HV.out _ (.int .i64 D) (.slice A1 n c1) (.slice A2 nj c2) (.slice A3 ns c3) _ _ q3
        go_wp2_with fail
        refine bodyPost_ret (v := .agg #[.int .i64 D, .slice A1 n c1, .slice A2 nj c2, .slice A3 ns c3]) ?_ rfl ⟨A1, c1, A2, c2, A3, c3, rfl, l1, l2, l3, q1.at_, q2.at_, q3.at_, HY.out _ hHeld.1⟩
        simp [results, Try.f18, go_sem, e0, e1, e2, e3]
    · skip
      go_simp
      refine hK.out _ _ (HA.out _ _ hHeld) (fun hHeld => ?_)
      clear hK K
      have R := R.alloc (.cells #[] 66)
      try simp only [List.getElem_toArray, List.getElem_cons_zero, List.getElem_cons_succ, Act.put, List.setIfInBounds_toArray, List.set_cons_zero, List.set_cons_succ]
      refine wpAnyH_ready (rs := [2]) (by kernel_rfl) (by simp) ?_
      refine AllReadyH.cons rfl (fun K hK => ?_) (AllReadyH.nil)
      go_simp
      refine hK.out _ _ (HA.out _ _ hHeld) (fun hHeld => ?_)
      clear hK K
      have R := R.alloc (.cells #[] 70)
      try simp only [List.getElem_toArray, List.getElem_cons_zero, List.getElem_cons_succ, Act.put, List.setIfInBounds_toArray, List.set_cons_zero, List.set_cons_succ]
      refine wpAnyH_ready (rs := [5]) (by kernel_rfl) (by simp) ?_
      refine AllReadyH.cons rfl (fun K hK => ?_) (AllReadyH.nil)
      refine step_append_empty rfl (.tmp 5) (.tmp 7) 30 rfl 70 iP _ 2 16 Try.underlying30 hi1 hz1 hs1 hb1 hc1 (by decide) _ rfl _ A n c (links.flatMap encP) rfl HL1.out (flat_one sizP links) (HQ1.out _ hHeld.1) (by unfold maxLen; omega) (by omega) ?_
      intro A1 c1 w1 l1 q1 b1
      have q1 := q1.lower (HZ.out _ hHeld.1)
      refine hK.out _ _ (HB.out _ _ hHeld b1) (fun hHeld => ?_)
      clear hK K
      have R := R.below b1 R.lt
      try simp only [List.getElem_toArray, List.getElem_cons_zero, List.getElem_cons_succ, Act.put, List.setIfInBounds_toArray, List.set_cons_zero, List.set_cons_succ]
      refine wpAnyH_ready (rs := [9]) (by kernel_rfl) (by simp) ?_
      refine AllReadyH.cons rfl (fun K hK => ?_) (AllReadyH.nil)
      refine step_append_empty rfl (.tmp 9) (.tmp 11) 31 rfl 66 iJ _ 3 24 Try.underlying31 hi2 hz2 hs2 hb2 hc2 (by decide) _ rfl _ J nj cj (jams.flatMap encJ) rfl HL2.out (flat_one sizJ jams) (HQ2.out _ hHeld.1) (by unfold maxLen; omega) (by omega) ?_
      intro A2 c2 w2 l2 q2 b2
      have q2 := q2.lower (HZ.out _ hHeld.1)
      refine hK.out _ _ (HB.out _ _ hHeld b2) (fun hHeld => ?_)
      clear hK K
      have R := R.below b2 R.lt
      have q1 := q1.later b2
      try simp only [List.getElem_toArray, List.getElem_cons_zero, List.getElem_cons_succ, Act.put, List.setIfInBounds_toArray, List.set_cons_zero, List.set_cons_succ]
      refine wpAnyH_ready (rs := [13]) (by kernel_rfl) (by simp) ?_
      refine AllReadyH.cons rfl (fun K hK => ?_) (AllReadyH.nil)
      refine step_append_empty rfl (.tmp 13) (.tmp 15) 32 rfl 61 iL _ 2 16 Try.underlying32 hi3 hz3 hs3 hb3 hc3 (by decide) _ rfl _ S ns cs (loss.flatMap encP) rfl HL3.out (flat_one sizP loss) (HQ3.out _ hHeld.1) (by unfold maxLen; omega) (by omega) ?_
      intro A3 c3 w3 l3 q3 b3
      have q3 := q3.lower (HZ.out _ hHeld.1)
      refine hK.out _ _ (HB.out _ _ hHeld b3) (fun hHeld => ?_)
      clear hK K
      have R := R.below b3 R.lt
      have q1 := q1.later b3
      have q2 := q2.later b3
      try simp only [List.getElem_toArray, List.getElem_cons_zero, List.getElem_cons_succ, Act.put, List.setIfInBounds_toArray, List.set_cons_zero, List.set_cons_succ]
      refine wpAnyH_take (i := 14) (v := .agg #[.int .i64 D, .slice A1 n c1, .slice A2 nj c2, .slice A3 ns c3]) rfl (by kernel_rfl) (by kernel_rfl) (by kernel_rfl) (fun _ _ _ h => h) (Or.inl ⟨by first | rfl | go_simp, by intro w9 hSw; (try dsimp only at hSw); go_simp⟩) (by assumption) ?_
      simp only [List.getElem_toArray, List.getElem_cons_zero, List.getElem_cons_succ, Act.put, List.setIfInBounds_toArray, List.set_cons_zero, List.set_cons_succ]
      obtain ⟨z0, z1, z2, z3, y0, y1, y2, y3⟩ := HR.out _ R
      refine wpAnyH_ready (rs := [15]) (by kernel_rfl) (by simp) ?_
      refine AllReadyH.cons rfl (fun K hK => ?_) AllReadyH.nil
      go_simp
      refine hK.out _ _ (HS.out _ (HT.out _ hHeld.1 _ _ _ _)) (fun hHeld => ?_)
      clear hK K
      try simp only [List.getElem_toArray, List.getElem_cons_zero, List.getElem_cons_succ, Act.put, List.setIfInBounds_toArray, List.set_cons_zero, List.set_cons_succ]
      refine wpAnyH_done (by kernel_rfl) ?_ _
      obtain ⟨e0, e1, e2, e3⟩ := HE.out _ (.int .i64 D) (.slice A1 n c1) (.slice A2 nj c2) (.slice A3 ns c3) R
      have q1 := HV.out _ (.int .i64 D) (.slice A1 n c1) (.slice A2 nj c2) (.slice A3 ns c3) _ _ q1
      have q2 := HV.out _ (.int .i64 D) (.slice A1 n c1) (.slice A2 nj c2) (.slice A3 ns c3) _ _ q2
      have q3 := HV.out _ (.int .i64 D) (.slice A1 n c1) (.slice A2 nj c2) (.slice A3 ns c3) _ _ q3
      go_wp2_with fail
      refine bodyPost_ret (v := .agg #[.int .i64 D, .slice A1 n c1, .slice A2 nj c2, .slice A3 ns c3]) ?_ rfl ⟨A1, c1, A2, c2, A3, c3, rfl, l1, l2, l3, q1.at_, q2.at_, q3.at_, HY.out _ hHeld.1⟩
      simp [results, Try.f18, go_sem, e0, e1, e2, e3]
end Go.Proofs.Ytocmcjbhmjbmhaa.Air
