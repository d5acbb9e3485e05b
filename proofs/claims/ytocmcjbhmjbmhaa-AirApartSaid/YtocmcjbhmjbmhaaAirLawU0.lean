/- The statement on a transmission that is alone: media and transmissions that it says nothing about. -/
import Derived.Test.YtocmcjbhmjbmhaaAirValid
import Derived.Test.YtocmcjbhmjbmhaaAirSame
set_option linter.unusedVariables false
set_option linter.unusedSimpArgs false
namespace Go.Proofs.Ytocmcjbhmjbmhaa.Air
open Go.RowKit Mem Rw Base Rd

theorem air_cells {X : World} {g : Nat} {t : TypeId} {z0 z1 z2 z3 : Value} (hb : Blk X g t #[z0, z1, z2, z3]) : X.cell? ⟨g, 0, none⟩ = some z0 ∧ X.cell? ⟨g, 1, none⟩ = some z1 ∧ X.cell? ⟨g, 2, none⟩ = some z2 ∧ X.cell? ⟨g, 3, none⟩ = some z3 ∧ X.frozen? ⟨g, 2, none⟩ = false ∧ X.frozen? ⟨g, 3, none⟩ = false :=
  ⟨hb.cell 0, hb.cell 1, hb.cell 2, hb.cell 3, frozen_of_row X _ 2 _ _ hb, frozen_of_row X _ 3 _ _ hb⟩
theorem set_two {X : World} {g : Nat} {t : TypeId} {d : Int} {z1 z2 z3 : Value} (v2 v3 : Value) (hb : Blk X g t #[.int .i64 d, z1, z2, z3]) : Four ((X.setCell ⟨g, 2, none⟩ v2).setCell ⟨g, 3, none⟩ v3) g d z1 v2 v3 := by
  have ne : ∀ a b : Nat, a ≠ b → (⟨g, a, none⟩ : Addr) ≠ ⟨g, b, none⟩ := fun a b h e => by injection e with _ e2; exact h e2
  have oth : ∀ (Y : World) (a b : Nat) (v : Value), a ≠ b → (Y.setCell ⟨g, a, none⟩ v).cell? ⟨g, b, none⟩ = Y.cell? ⟨g, b, none⟩ := fun Y a b v h => World.cell?_setCell_other Y _ _ v (ne a b h)
  have c0 : X.cell? ⟨g, 0, none⟩ = some (.int .i64 d) := hb.cell 0
  have c1 : X.cell? ⟨g, 1, none⟩ = some z1 := hb.cell 1
  have c2 : X.cell? ⟨g, 2, none⟩ = some z2 := hb.cell 2
  have c3 : X.cell? ⟨g, 3, none⟩ = some z3 := hb.cell 3
  refine ⟨?_, ?_, ?_, ?_⟩
  · rw [oth _ 3 0 _ (by decide), oth _ 2 0 _ (by decide), c0]
  · rw [oth _ 3 1 _ (by decide), oth _ 2 1 _ (by decide), c1]
  · rw [oth _ 3 2 _ (by decide), World.cell?_setCell_same' _ _ _ (by rw [c2]; rfl)]
  · rw [World.cell?_setCell_same' _ _ _ (by rw [oth _ 2 3 _ (by decide), c3]; rfl)]
theorem cell_set2 {X : World} {g a o : Nat} {v : Value} (v2 v3 : Value) (h : X.cell? ⟨a, o, none⟩ = some v) (ha : a ≠ g) : ((X.setCell ⟨g, 2, none⟩ v2).setCell ⟨g, 3, none⟩ v3).cell? ⟨a, o, none⟩ = some v := by
  have ne : ∀ q : Nat, (⟨g, q, none⟩ : Addr) ≠ ⟨a, o, none⟩ := fun q e => by injection e with e1 _; exact ha e1.symm
  rw [World.cell?_setCell_other _ _ _ _ (ne 3), World.cell?_setCell_other _ _ _ _ (ne 2), h]
theorem five_set2 {X : World} {g a : Nat} {i f h s : Int} {v : Value} (v2 v3 : Value) (x : Five X a i f h s v) (ha : a ≠ g) : Five ((X.setCell ⟨g, 2, none⟩ v2).setCell ⟨g, 3, none⟩ v3) a i f h s v :=
  ⟨cell_set2 v2 v3 x.1 ha, cell_set2 v2 v3 x.2.1 ha, cell_set2 v2 v3 x.2.2.1 ha, cell_set2 v2 v3 x.2.2.2.1 ha, cell_set2 v2 v3 x.2.2.2.2 ha⟩
theorem four_set2 {X : World} {g a : Nat} {d : Int} {x y z : Value} (v2 v3 : Value) (u : Four X a d x y z) (ha : a ≠ g) : Four ((X.setCell ⟨g, 2, none⟩ v2).setCell ⟨g, 3, none⟩ v3) a d x y z :=
  ⟨cell_set2 v2 v3 u.1 ha, cell_set2 v2 v3 u.2.1 ha, cell_set2 v2 v3 u.2.2.1 ha, cell_set2 v2 v3 u.2.2.2 ha⟩
theorem ints_cells {k : IntKind} {w : World} {B : Nat} {A : Option Addr} {zs : List Int} (h : CellsAt w B A (zs.map (Value.int k))) : Ints k w B A zs := by
  rcases h with h | ⟨b, off, e, hlt, hc⟩
  · left; simpa using h
  · right
    refine ⟨b, off, e, hlt, fun j hj => ?_⟩
    rw [hc j (.int k (zs.getD j 0)) (by simp [hj])]
theorem new_ints {w : World} {B : Nat} {A : Option Addr} {zs : List Int} (h : NewAt w B A (zs.map (Value.int .u8))) : Ints .u8 w w.heap.size A zs := ints_cells h.at_
theorem new_set6 {X : World} {g B : Nat} {A : Option Addr} {xs : List Value} (v0 v1 v2 v3 v4 v5 : Value) (h : NewAt X B A xs) (hg : g < B) : NewAt ((((((X.setCell ⟨g, 0, none⟩ v0).setCell ⟨g, 1, none⟩ v1).setCell ⟨g, 2, none⟩ v2).setCell ⟨g, 3, none⟩ v3).setCell ⟨g, 4, none⟩ v4).setCell ⟨g, 5, none⟩ v5) B A xs :=
  (((((h.set (b := g) (o := 0) hg v0).set (b := g) (o := 1) hg v1).set (b := g) (o := 2) hg v2).set (b := g) (o := 3) hg v3).set (b := g) (o := 4) hg v4).set (b := g) (o := 5) hg v5
theorem ints_set6 {X : World} {g B : Nat} {A : Option Addr} {zs : List Int} (v0 v1 v2 v3 v4 v5 : Value) (h : Ints .u8 X B A zs) (hg : B ≤ g) (hB : B ≤ X.heap.size := by omega) : Ints .u8 ((((((X.setCell ⟨g, 0, none⟩ v0).setCell ⟨g, 1, none⟩ v1).setCell ⟨g, 2, none⟩ v2).setCell ⟨g, 3, none⟩ v3).setCell ⟨g, 4, none⟩ v4).setCell ⟨g, 5, none⟩ v5) ((((((X.setCell ⟨g, 0, none⟩ v0).setCell ⟨g, 1, none⟩ v1).setCell ⟨g, 2, none⟩ v2).setCell ⟨g, 3, none⟩ v3).setCell ⟨g, 4, none⟩ v4).setCell ⟨g, 5, none⟩ v5).heap.size A zs :=
  (h.below (((((((Below.refl B X).setCell (p := ⟨g, 0, none⟩) hg v0).setCell (p := ⟨g, 1, none⟩) hg v1).setCell (p := ⟨g, 2, none⟩) hg v2).setCell (p := ⟨g, 3, none⟩) hg v3).setCell (p := ⟨g, 4, none⟩) hg v4).setCell (p := ⟨g, 5, none⟩) hg v5)).more (by simpa using hB)
/-- A transmission that is alone, in a medium without jams and losses, is received well. -/
theorem dis_one (D : Int) (links : List (Int × Int)) (t : Tr) (d : Int) (h : inR links t.frm d = true) : disT ⟨D, links, [], []⟩ [t] t 0 d = 1 := by
  unfold disT
  rw [if_pos h]
  simp [anyI, colB]
set_option maxRecDepth 100000 in
set_option maxHeartbeats 16000000 in
theorem undisturbed_rare (m : Med) (q : Pl) (x : Tx) (l : Ln) (w : World) (ga : GoodA w (m, q)) (gt : GoodT w x) (gl : GoodL l) (hr : 64 < m.links.length ∨ chk ⟨m.dev, m.links, [], []⟩ [x.tr] ≠ 0) :
    Calls Try.prog 7 #[mv m q, tv x, .agg #[.int .i64 l.dev, .int .i64 l.ch, .int .i64 l.st, .int .i64 l.en]] w fun e w' => e = .returned (.bool true) ∧ Below w.heap.size w w' := by
  have hM1 : MedAt w w.heap.size q m := ga.2.1
  have hown0 : Own w w.heap.size x := gt.2.1
  obtain ⟨D, links, jams, loss⟩ := m
  obtain ⟨A, ac, J, jc, S, sc⟩ := q
  obtain ⟨i, f, h, s, TA, tc, bs⟩ := x
  obtain ⟨d, lh, ls, le⟩ := l
  have hM0 : MedAt w w.heap.size ⟨A, ac, none, 0, none, 0⟩ ⟨D, links, [], []⟩ := ⟨hM1.a, .inl rfl, .inl rfl, hM1.ab, by simp, by simp⟩
  clear ga gt gl hM1
  simp only at hr
  simp only [mv, tv]
  have HL := Lib.hid lives_any
  have hnl : links.length = links.length := rfl
  generalize hnn : links.length = n at hnl hr ⊢
  generalize jams.length = nj at *
  generalize loss.length = ns at *
  have HOwn : Hid (∀ w' : World, MedAt w' w'.heap.size ⟨A, ac, none, 0, none, 0⟩ ⟨D, links, [], []⟩ → Calls Try.prog 18 #[.agg #[.int .i64 D, .slice A n ac, .slice none 0 0, .slice none 0 0]] w' fun e w2 => ∃ p' : Pl, e = .returned (mv ⟨D, links, [], []⟩ p') ∧ MedAt w2 w2.heap.size p' ⟨D, links, [], []⟩ ∧ Below w'.heap.size w' w2) := Lib.hid fun w' h => by
    subst hnn
    exact own_m ⟨D, links, [], []⟩ ⟨A, ac, none, 0, none, 0⟩ w' h (by simp)
  have HCp : Hid (∀ (w' : World) (L : Option Addr) (kc : Nat), TxsAt w' w'.heap.size L [(⟨i, f, h, s, TA, tc, bs⟩ : Tx)] → Calls Try.prog 19 #[.slice L 1 kc] w' fun e w2 => ∃ A' c', ∃ l' : List Tx, e = .returned (.slice A' 1 c') ∧ l'.length = 1 ∧ l'.map Tx.tr = [Tx.tr (⟨i, f, h, s, TA, tc, bs⟩ : Tx)] ∧ TxsAt w2 w2.heap.size A' l' ∧ Below w'.heap.size w' w2) := Lib.hid fun w' L kc hh => copy_m L kc [(⟨i, f, h, s, TA, tc, bs⟩ : Tx)] w' (by simp) hh
  have HCk : Hid (∀ (w' : World) (p : Pl) (A' : Option Addr) (c' : Nat) (l' : List Tx), l'.length = 1 → l'.map Tx.tr = [Tx.tr (⟨i, f, h, s, TA, tc, bs⟩ : Tx)] → MedAt w' w'.heap.size p ⟨D, links, [], []⟩ → TxsAt w' w'.heap.size A' l' → Calls Try.prog 17 #[mv ⟨D, links, [], []⟩ p, .slice A' 1 c'] w' fun e w2 => e = .returned (.int .i64 (chk ⟨D, links, [], []⟩ [Tx.tr (⟨i, f, h, s, TA, tc, bs⟩ : Tx)])) ∧ Below w'.heap.size w' w2) := Lib.hid fun w' p A' c' l' h1 h2 h3 h4 => check_m _ p A' c' 1 l' _ w' h1 h2 (by decide) h3 h4
  have B0 : Below w.heap.size w (((w.alloc (.cells #[.int .i64 D, .slice A n ac, .slice J nj jc, .slice S ns sc] 34)).alloc (.cells #[.int .i64 i, .int .i64 f, .int .i64 h, .int .i64 s, .slice TA bs.length tc] 24)).alloc (.cells #[.int .i64 d, .int .i64 lh, .int .i64 ls, .int .i64 le] 50)) := (((Below.refl _ w).alloc (Nat.le_refl _) _).alloc (by simp) _).alloc (by simp; omega) _
  have KB : Blk (((w.alloc (.cells #[.int .i64 D, .slice A n ac, .slice J nj jc, .slice S ns sc] 34)).alloc (.cells #[.int .i64 i, .int .i64 f, .int .i64 h, .int .i64 s, .slice TA bs.length tc] 24)).alloc (.cells #[.int .i64 d, .int .i64 lh, .int .i64 ls, .int .i64 le] 50)) w.heap.size 34 #[.int .i64 D, .slice A n ac, .slice J nj jc, .slice S ns sc] := ((Blk.fresh w 34 #[.int .i64 D, .slice A n ac, .slice J nj jc, .slice S ns sc]).alloc _).alloc _
  have KT : Five (((w.alloc (.cells #[.int .i64 D, .slice A n ac, .slice J nj jc, .slice S ns sc] 34)).alloc (.cells #[.int .i64 i, .int .i64 f, .int .i64 h, .int .i64 s, .slice TA bs.length tc] 24)).alloc (.cells #[.int .i64 d, .int .i64 lh, .int .i64 ls, .int .i64 le] 50)) (w.heap.size + 1) i f h s (.slice TA bs.length tc) := by
    have := five_of ((Blk.fresh (w.alloc (.cells #[.int .i64 D, .slice A n ac, .slice J nj jc, .slice S ns sc] 34)) 24 #[.int .i64 i, .int .i64 f, .int .i64 h, .int .i64 s, .slice TA bs.length tc]).alloc (.cells #[.int .i64 d, .int .i64 lh, .int .i64 ls, .int .i64 le] 50))
    simpa using this
  have KL : Four (((w.alloc (.cells #[.int .i64 D, .slice A n ac, .slice J nj jc, .slice S ns sc] 34)).alloc (.cells #[.int .i64 i, .int .i64 f, .int .i64 h, .int .i64 s, .slice TA bs.length tc] 24)).alloc (.cells #[.int .i64 d, .int .i64 lh, .int .i64 ls, .int .i64 le] 50)) (w.heap.size + 1 + 1) d (.int .i64 lh) (.int .i64 ls) (.int .i64 le) := by
    have := four_of (Blk.fresh ((w.alloc (.cells #[.int .i64 D, .slice A n ac, .slice J nj jc, .slice S ns sc] 34)).alloc (.cells #[.int .i64 i, .int .i64 f, .int .i64 h, .int .i64 s, .slice TA bs.length tc] 24)) 50 #[.int .i64 d, .int .i64 lh, .int .i64 ls, .int .i64 le])
    simpa using this
  by_cases c0 : 64 < n
  · clear HCk hr
    have g0 : (64 : Int) < (n : Int) := by omega
    go_enter Try.func7, Try.ntmps7
    go_wp2_with fail
    generalize (((w.alloc (.cells #[.int .i64 D, .slice A n ac, .slice J nj jc, .slice S ns sc] 34)).alloc (.cells #[.int .i64 i, .int .i64 f, .int .i64 h, .int .i64 s, .slice TA bs.length tc] 24)).alloc (.cells #[.int .i64 d, .int .i64 lh, .int .i64 ls, .int .i64 le] 50)) = W at *
    go_at_call 10; refine (HL.out _).mono ?_; rintro e w1 ⟨rfl, b1⟩
    obtain ⟨r0, r1, r2, r3, zf2, zf3⟩ := air_cells (KB.below b1 KB.lt)
    have SF := Lib.hid (set_two (.slice none 0 0) (.slice none 0 0) (KB.below b1 KB.lt))
    have HT := KT.below b1
    have HLn := KL.below b1
    have bz : Below w.heap.size w ((w1.setCell ⟨w.heap.size, 2, none⟩ (.slice none 0 0)).setCell ⟨w.heap.size, 3, none⟩ (.slice none 0 0)) := ((thenB B0 b1).setCell (p := ⟨w.heap.size, 2, none⟩) (Nat.le_refl _) _).setCell (p := ⟨w.heap.size, 3, none⟩) (Nat.le_refl _) _
    have HT2 := five_set2 (.slice none 0 0) (.slice none 0 0) (g := w.heap.size) HT (by omega)
    have HL2 := four_set2 (.slice none 0 0) (.slice none 0 0) (g := w.heap.size) HLn (by omega)
    clear HL HT HLn
    go_upto_region 4 with fail
    clear r0 r1 r2 r3 zf2 zf3
    have F0 := SF.out
    clear SF
    generalize ((w1.setCell ⟨w.heap.size, 2, none⟩ (.slice none 0 0)).setCell ⟨w.heap.size, 3, none⟩ (.slice none 0 0)) = Z at *
    have HB := bz
    have KK : Hid (∀ X, Below Z.heap.size Z X → Four X w.heap.size D (.slice A n ac) (.slice none 0 0) (.slice none 0 0) ∧ Five X (w.heap.size + 1) i f h s (.slice TA bs.length tc) ∧ Four X (w.heap.size + 1 + 1) d (.int .i64 lh) (.int .i64 ls) (.int .i64 le)) := Lib.hid fun X bb => ⟨F0.below bb, HT2.below bb, HL2.below bb⟩
    have hM : MedAt Z Z.heap.size ⟨A, ac, none, 0, none, 0⟩ ⟨D, links, [], []⟩ := hM0.later bz
    have hown : Hid (∀ X, Below Z.heap.size Z X → Own X X.heap.size (⟨i, f, h, s, TA, tc, bs⟩ : Tx)) := Lib.hid fun X bb => (((hown0.below bz).more bz.size).below bb).more bb.size
    clear b1 F0 HT2 HL2 bz KB KT KL B0
    go_wp2_with fail
    refine wp_region_held_drew (S := (fun w' => Four w' w.heap.size D (.slice A n ac) (.slice none 0 0) (.slice none 0 0) ∧ Five w' (w.heap.size + 1) i f h s (.slice TA bs.length tc) ∧ Four w' (w.heap.size + 1 + 1) d (.int .i64 lh) (.int .i64 ls) (.int .i64 le))) (by kernel_rfl) ?_ (fun hHeld => ?_)
    · exact KK.out _ (Below.refl _ _).drew
    have BW : Below Z.heap.size Z Z.drew := (Below.refl _ _).drew
    generalize Z.drew = X0 at *
    refine wpAnyH_take (i := 0) (v := .pointer (some ⟨w.heap.size, 1, none⟩)) rfl (by kernel_rfl) (by kernel_rfl) (by kernel_rfl) (fun _ _ _ h => h) (Or.inl ⟨by first | rfl | go_simp, by intro w9 hSw; (try dsimp only at hSw); go_simp⟩) (by assumption) ?_
    simp only [List.getElem_toArray, List.getElem_cons_zero, List.getElem_cons_succ, Act.put, List.setIfInBounds_toArray, List.set_cons_zero, List.set_cons_succ]
    refine wpAnyH_take (i := 1) (v := .slice A n ac) rfl (by kernel_rfl) (by kernel_rfl) (by kernel_rfl) (fun _ _ _ h => h) (Or.inl ⟨by first | rfl | go_simp, by intro w9 hSw; (try dsimp only at hSw); go_simp⟩) (by assumption) ?_
    simp only [List.getElem_toArray, List.getElem_cons_zero, List.getElem_cons_succ, Act.put, List.setIfInBounds_toArray, List.set_cons_zero, List.set_cons_succ]
    refine wpAnyH_take (i := 2) (v := .int .i64 (n : Int)) rfl (by kernel_rfl) (by kernel_rfl) (by kernel_rfl) (fun _ _ _ h => h) (Or.inl ⟨by first | rfl | go_simp, by intro w9 hSw; (try dsimp only at hSw); go_simp⟩) (by assumption) ?_
    simp only [List.getElem_toArray, List.getElem_cons_zero, List.getElem_cons_succ, Act.put, List.setIfInBounds_toArray, List.set_cons_zero, List.set_cons_succ]
    refine wpAnyH_take (i := 3) (v := .bool true) rfl (by kernel_rfl) (by kernel_rfl) (by kernel_rfl) (fun _ _ _ h => h) (Or.inl ⟨by first | rfl | go_simp, by intro w9 hSw; (try dsimp only at hSw); go_simp⟩) (by assumption) ?_
    simp only [List.getElem_toArray, List.getElem_cons_zero, List.getElem_cons_succ, Act.put, List.setIfInBounds_toArray, List.set_cons_zero, List.set_cons_succ]
    refine wpAnyH_take (i := 4) (v := .bool true) rfl (by kernel_rfl) (by kernel_rfl) (by kernel_rfl) (fun _ _ _ h => h) (Or.inl ⟨by first | rfl | go_simp, by intro w9 hSw; (try dsimp only at hSw); go_simp⟩) (by assumption) ?_
    simp only [List.getElem_toArray, List.getElem_cons_zero, List.getElem_cons_succ, Act.put, List.setIfInBounds_toArray, List.set_cons_zero, List.set_cons_succ]
    refine wpAnyH_take (i := 5) (v := undef) rfl (by kernel_rfl) (by kernel_rfl) (by kernel_rfl) (fun _ _ _ h => h) (Or.inr ⟨by first | rfl | go_simp, rfl⟩) (by assumption) ?_
    simp only [List.getElem_toArray, List.getElem_cons_zero, List.getElem_cons_succ, Act.put, List.setIfInBounds_toArray, List.set_cons_zero, List.set_cons_succ]
    refine wpAnyH_take (i := 6) (v := undef) rfl (by kernel_rfl) (by kernel_rfl) (by kernel_rfl) (fun _ _ _ h => h) (Or.inr ⟨by first | rfl | go_simp, rfl⟩) (by assumption) ?_
    simp only [List.getElem_toArray, List.getElem_cons_zero, List.getElem_cons_succ, Act.put, List.setIfInBounds_toArray, List.set_cons_zero, List.set_cons_succ]
    refine wpAnyH_take (i := 7) (v := undef) rfl (by kernel_rfl) (by kernel_rfl) (by kernel_rfl) (fun _ _ _ h => h) (Or.inr ⟨by first | rfl | go_simp, rfl⟩) (by assumption) ?_
    simp only [List.getElem_toArray, List.getElem_cons_zero, List.getElem_cons_succ, Act.put, List.setIfInBounds_toArray, List.set_cons_zero, List.set_cons_succ]
    refine wpAnyH_take (i := 8) (v := undef) rfl (by kernel_rfl) (by kernel_rfl) (by kernel_rfl) (fun _ _ _ h => h) (Or.inr ⟨by first | rfl | go_simp, rfl⟩) (by assumption) ?_
    simp only [List.getElem_toArray, List.getElem_cons_zero, List.getElem_cons_succ, Act.put, List.setIfInBounds_toArray, List.set_cons_zero, List.set_cons_succ]
    refine wpAnyH_take (i := 9) (v := undef) rfl (by kernel_rfl) (by kernel_rfl) (by kernel_rfl) (fun _ _ _ h => h) (Or.inr ⟨by first | rfl | go_simp, rfl⟩) (by assumption) ?_
    simp only [List.getElem_toArray, List.getElem_cons_zero, List.getElem_cons_succ, Act.put, List.setIfInBounds_toArray, List.set_cons_zero, List.set_cons_succ]
    refine wpAnyH_take (i := 10) (v := undef) rfl (by kernel_rfl) (by kernel_rfl) (by kernel_rfl) (fun _ _ _ h => h) (Or.inr ⟨by first | rfl | go_simp, rfl⟩) (by assumption) ?_
    simp only [List.getElem_toArray, List.getElem_cons_zero, List.getElem_cons_succ, Act.put, List.setIfInBounds_toArray, List.set_cons_zero, List.set_cons_succ]
    refine wpAnyH_take (i := 11) (v := undef) rfl (by kernel_rfl) (by kernel_rfl) (by kernel_rfl) (fun _ _ _ h => h) (Or.inr ⟨by first | rfl | go_simp, rfl⟩) (by assumption) ?_
    simp only [List.getElem_toArray, List.getElem_cons_zero, List.getElem_cons_succ, Act.put, List.setIfInBounds_toArray, List.set_cons_zero, List.set_cons_succ]
    refine wpAnyH_take (i := 12) (v := .bool true) rfl (by kernel_rfl) (by kernel_rfl) (by kernel_rfl) (fun _ _ _ h => h) (Or.inl ⟨by first | rfl | go_simp, by intro w9 hSw; (try dsimp only at hSw); go_simp⟩) (by assumption) ?_
    simp only [List.getElem_toArray, List.getElem_cons_zero, List.getElem_cons_succ, Act.put, List.setIfInBounds_toArray, List.set_cons_zero, List.set_cons_succ]
    refine wpAnyH_done (by kernel_rfl) ?_ _
    go_wp2_with fail
    go_ret
    exact ⟨rfl, thenB HB BW⟩
  · have hz : chk ⟨D, links, [], []⟩ [Tx.tr (⟨i, f, h, s, TA, tc, bs⟩ : Tx)] ≠ 0 := hr.resolve_left c0
    have g0 : ¬ (64 : Int) < (n : Int) := by omega
    have hz' : (chk ⟨D, links, [], []⟩ [Tx.tr (⟨i, f, h, s, TA, tc, bs⟩ : Tx)] == 0) = false := by simpa using hz
    generalize chk ⟨D, links, [], []⟩ [Tx.tr (⟨i, f, h, s, TA, tc, bs⟩ : Tx)] = z at *
    go_enter Try.func7, Try.ntmps7
    go_wp2_with fail
    generalize (((w.alloc (.cells #[.int .i64 D, .slice A n ac, .slice J nj jc, .slice S ns sc] 34)).alloc (.cells #[.int .i64 i, .int .i64 f, .int .i64 h, .int .i64 s, .slice TA bs.length tc] 24)).alloc (.cells #[.int .i64 d, .int .i64 lh, .int .i64 ls, .int .i64 le] 50)) = W at *
    go_at_call 10; refine (HL.out _).mono ?_; rintro e w1 ⟨rfl, b1⟩
    obtain ⟨r0, r1, r2, r3, zf2, zf3⟩ := air_cells (KB.below b1 KB.lt)
    have SF := Lib.hid (set_two (.slice none 0 0) (.slice none 0 0) (KB.below b1 KB.lt))
    have HT := KT.below b1
    have HLn := KL.below b1
    have bz : Below w.heap.size w ((w1.setCell ⟨w.heap.size, 2, none⟩ (.slice none 0 0)).setCell ⟨w.heap.size, 3, none⟩ (.slice none 0 0)) := ((thenB B0 b1).setCell (p := ⟨w.heap.size, 2, none⟩) (Nat.le_refl _) _).setCell (p := ⟨w.heap.size, 3, none⟩) (Nat.le_refl _) _
    have HT2 := five_set2 (.slice none 0 0) (.slice none 0 0) (g := w.heap.size) HT (by omega)
    have HL2 := four_set2 (.slice none 0 0) (.slice none 0 0) (g := w.heap.size) HLn (by omega)
    clear HL HT HLn
    go_upto_region 4 with fail
    clear r0 r1 r2 r3 zf2 zf3
    have F0 := SF.out
    clear SF
    generalize ((w1.setCell ⟨w.heap.size, 2, none⟩ (.slice none 0 0)).setCell ⟨w.heap.size, 3, none⟩ (.slice none 0 0)) = Z at *
    have HB := bz
    have KK : Hid (∀ X, Below Z.heap.size Z X → Four X w.heap.size D (.slice A n ac) (.slice none 0 0) (.slice none 0 0) ∧ Five X (w.heap.size + 1) i f h s (.slice TA bs.length tc) ∧ Four X (w.heap.size + 1 + 1) d (.int .i64 lh) (.int .i64 ls) (.int .i64 le)) := Lib.hid fun X bb => ⟨F0.below bb, HT2.below bb, HL2.below bb⟩
    have hM : MedAt Z Z.heap.size ⟨A, ac, none, 0, none, 0⟩ ⟨D, links, [], []⟩ := hM0.later bz
    have hown : Hid (∀ X, Below Z.heap.size Z X → Own X X.heap.size (⟨i, f, h, s, TA, tc, bs⟩ : Tx)) := Lib.hid fun X bb => (((hown0.below bz).more bz.size).below bb).more bb.size
    clear b1 F0 HT2 HL2 bz KB KT KL B0
    go_wp2_with fail
    refine wp_region_held_drew (S := (fun w' => Four w' w.heap.size D (.slice A n ac) (.slice none 0 0) (.slice none 0 0) ∧ Five w' (w.heap.size + 1) i f h s (.slice TA bs.length tc) ∧ Four w' (w.heap.size + 1 + 1) d (.int .i64 lh) (.int .i64 ls) (.int .i64 le))) (by kernel_rfl) ?_ (fun hHeld => ?_)
    · exact KK.out _ (Below.refl _ _).drew
    have BW : Below Z.heap.size Z Z.drew := (Below.refl _ _).drew
    generalize Z.drew = X0 at *
    refine wpAnyH_take (i := 0) (v := .pointer (some ⟨w.heap.size, 1, none⟩)) rfl (by kernel_rfl) (by kernel_rfl) (by kernel_rfl) (fun _ _ _ h => h) (Or.inl ⟨by first | rfl | go_simp, by intro w9 hSw; (try dsimp only at hSw); go_simp⟩) (by assumption) ?_
    simp only [List.getElem_toArray, List.getElem_cons_zero, List.getElem_cons_succ, Act.put, List.setIfInBounds_toArray, List.set_cons_zero, List.set_cons_succ]
    refine wpAnyH_take (i := 1) (v := .slice A n ac) rfl (by kernel_rfl) (by kernel_rfl) (by kernel_rfl) (fun _ _ _ h => h) (Or.inl ⟨by first | rfl | go_simp, by intro w9 hSw; (try dsimp only at hSw); go_simp⟩) (by assumption) ?_
    simp only [List.getElem_toArray, List.getElem_cons_zero, List.getElem_cons_succ, Act.put, List.setIfInBounds_toArray, List.set_cons_zero, List.set_cons_succ]
    refine wpAnyH_take (i := 2) (v := .int .i64 (n : Int)) rfl (by kernel_rfl) (by kernel_rfl) (by kernel_rfl) (fun _ _ _ h => h) (Or.inl ⟨by first | rfl | go_simp, by intro w9 hSw; (try dsimp only at hSw); go_simp⟩) (by assumption) ?_
    simp only [List.getElem_toArray, List.getElem_cons_zero, List.getElem_cons_succ, Act.put, List.setIfInBounds_toArray, List.set_cons_zero, List.set_cons_succ]
    refine wpAnyH_take (i := 3) (v := .bool false) rfl (by kernel_rfl) (by kernel_rfl) (by kernel_rfl) (fun _ _ _ h => h) (Or.inl ⟨by first | rfl | go_simp, by intro w9 hSw; (try dsimp only at hSw); go_simp⟩) (by assumption) ?_
    simp only [List.getElem_toArray, List.getElem_cons_zero, List.getElem_cons_succ, Act.put, List.setIfInBounds_toArray, List.set_cons_zero, List.set_cons_succ]
    refine wpAnyH_take (i := 4) (v := .bool false) rfl (by kernel_rfl) (by kernel_rfl) (by kernel_rfl) (fun _ _ _ h => h) (Or.inl ⟨by first | rfl | go_simp, by intro w9 hSw; (try dsimp only at hSw); go_simp⟩) (by assumption) ?_
    simp only [List.getElem_toArray, List.getElem_cons_zero, List.getElem_cons_succ, Act.put, List.setIfInBounds_toArray, List.set_cons_zero, List.set_cons_succ]
    refine wpAnyH_take (i := 5) (v := .agg #[.int .i64 D, .slice A n ac, .slice none 0 0, .slice none 0 0]) rfl (by kernel_rfl) (by kernel_rfl) (by kernel_rfl) (fun _ _ _ h => h) (Or.inl ⟨by first | rfl | go_simp, by intro w9 hSw; (try dsimp only at hSw); go_simp⟩) (by assumption) ?_
    simp only [List.getElem_toArray, List.getElem_cons_zero, List.getElem_cons_succ, Act.put, List.setIfInBounds_toArray, List.set_cons_zero, List.set_cons_succ]
    refine wpAnyH_take (i := 7) (v := .agg #[.int .i64 i, .int .i64 f, .int .i64 h, .int .i64 s, .slice TA bs.length tc]) rfl (by kernel_rfl) (by kernel_rfl) (by kernel_rfl) (fun _ _ _ h => h) (Or.inl ⟨by first | rfl | go_simp, by intro w9 hSw; (try dsimp only at hSw); go_simp⟩) (by assumption) ?_
    simp only [List.getElem_toArray, List.getElem_cons_zero, List.getElem_cons_succ, Act.put, List.setIfInBounds_toArray, List.set_cons_zero, List.set_cons_succ]
    refine wpAnyH_ready (rs := [6, 8]) (by kernel_rfl) (by simp) ?_
    refine AllReadyH.cons rfl (fun K hK => ?_) (AllReadyH.cons rfl (fun K hK => ?_) (AllReadyH.nil))
    · skip
      go_simp
      refine (HOwn.out _ (hM.later BW)).mono ?_
      rintro e X1 ⟨p1, rfl, MO, b1⟩
      have BW := thenB BW b1
      refine hK.out _ _ (KK.out _ BW) (fun hHeld => ?_)
      clear hK K
      try simp only [List.getElem_toArray, List.getElem_cons_zero, List.getElem_cons_succ, Act.put, List.setIfInBounds_toArray, List.set_cons_zero, List.set_cons_succ]
      refine wpAnyH_ready (rs := [8]) (by kernel_rfl) (by simp) ?_
      refine AllReadyH.cons rfl (fun K hK => ?_) (AllReadyH.nil)
      go_simp
      have b1 := (Below.refl _ X1).alloc (Nat.le_refl _) (.cells #[.int .i64 i, .int .i64 f, .int .i64 h, .int .i64 s, .slice TA bs.length tc] 24)
      have LT := lit_txs (⟨i, f, h, s, TA, tc, bs⟩ : Tx) X1 (hown.out _ BW) (e := 24)
      generalize X1.alloc (.cells #[.int .i64 i, .int .i64 f, .int .i64 h, .int .i64 s, .slice TA bs.length tc] 24) = X2 at *
      have BW := thenB BW b1
      have MO := MO.later b1
      refine hK.out _ _ (KK.out _ BW) (fun hHeld => ?_)
      clear hK K
      try simp only [List.getElem_toArray, List.getElem_cons_zero, List.getElem_cons_succ, Act.put, List.setIfInBounds_toArray, List.set_cons_zero, List.set_cons_succ]
      refine wpAnyH_ready (rs := [9]) (by kernel_rfl) (by simp) ?_
      refine AllReadyH.cons rfl (fun K hK => ?_) (AllReadyH.nil)
      go_simp
      refine (HCp.out _ _ _ LT).mono ?_
      rintro e X3 ⟨A3, c3, l3, rfl, q1, q2, T3, b1⟩
      have BW := thenB BW b1
      have MO := MO.later b1
      have LT := LT.later b1
      refine hK.out _ _ (KK.out _ BW) (fun hHeld => ?_)
      clear hK K
      try simp only [List.getElem_toArray, List.getElem_cons_zero, List.getElem_cons_succ, Act.put, List.setIfInBounds_toArray, List.set_cons_zero, List.set_cons_succ]
      refine wpAnyH_ready (rs := [10]) (by kernel_rfl) (by simp) ?_
      refine AllReadyH.cons rfl (fun K hK => ?_) (AllReadyH.nil)
      go_simp
      refine (HCk.out _ _ _ _ _ q1 q2 MO T3).mono ?_
      rintro e X4 ⟨rfl, b1⟩
      have BW := thenB BW b1
      have MO := MO.later b1
      have LT := LT.later b1
      have T3 := T3.later b1
      refine hK.out _ _ (KK.out _ BW) (fun hHeld => ?_)
      clear hK K
      try simp only [List.getElem_toArray, List.getElem_cons_zero, List.getElem_cons_succ, Act.put, List.setIfInBounds_toArray, List.set_cons_zero, List.set_cons_succ]
      refine wpAnyH_take (i := 11) (v := .bool true) rfl (by kernel_rfl) (by kernel_rfl) (by kernel_rfl) (fun _ _ _ h => h) (Or.inl ⟨by first | rfl | go_simp, by intro w9 hSw; (try dsimp only at hSw); go_simp⟩) (by assumption) ?_
      simp only [List.getElem_toArray, List.getElem_cons_zero, List.getElem_cons_succ, Act.put, List.setIfInBounds_toArray, List.set_cons_zero, List.set_cons_succ]
      refine wpAnyH_take (i := 12) (v := .bool true) rfl (by kernel_rfl) (by kernel_rfl) (by kernel_rfl) (fun _ _ _ h => h) (Or.inl ⟨by first | rfl | go_simp, by intro w9 hSw; (try dsimp only at hSw); go_simp⟩) (by assumption) ?_
      simp only [List.getElem_toArray, List.getElem_cons_zero, List.getElem_cons_succ, Act.put, List.setIfInBounds_toArray, List.set_cons_zero, List.set_cons_succ]
      refine wpAnyH_done (by kernel_rfl) ?_ _
      go_wp2_with fail
      go_ret
      exact ⟨rfl, thenB HB BW⟩
    · skip
      go_simp
      have b1 := (Below.refl _ X0).alloc (Nat.le_refl _) (.cells #[.int .i64 i, .int .i64 f, .int .i64 h, .int .i64 s, .slice TA bs.length tc] 24)
      have LT := lit_txs (⟨i, f, h, s, TA, tc, bs⟩ : Tx) X0 (hown.out _ BW) (e := 24)
      generalize X0.alloc (.cells #[.int .i64 i, .int .i64 f, .int .i64 h, .int .i64 s, .slice TA bs.length tc] 24) = X5 at *
      have BW := thenB BW b1
      refine hK.out _ _ (KK.out _ BW) (fun hHeld => ?_)
      clear hK K
      try simp only [List.getElem_toArray, List.getElem_cons_zero, List.getElem_cons_succ, Act.put, List.setIfInBounds_toArray, List.set_cons_zero, List.set_cons_succ]
      refine wpAnyH_ready (rs := [6]) (by kernel_rfl) (by simp) ?_
      refine AllReadyH.cons rfl (fun K hK => ?_) (AllReadyH.nil)
      go_simp
      refine (HOwn.out _ (hM.later BW)).mono ?_
      rintro e X6 ⟨p1, rfl, MO, b1⟩
      have BW := thenB BW b1
      have LT := LT.later b1
      refine hK.out _ _ (KK.out _ BW) (fun hHeld => ?_)
      clear hK K
      try simp only [List.getElem_toArray, List.getElem_cons_zero, List.getElem_cons_succ, Act.put, List.setIfInBounds_toArray, List.set_cons_zero, List.set_cons_succ]
      refine wpAnyH_ready (rs := [9]) (by kernel_rfl) (by simp) ?_
      refine AllReadyH.cons rfl (fun K hK => ?_) (AllReadyH.nil)
      go_simp
      refine (HCp.out _ _ _ LT).mono ?_
      rintro e X7 ⟨A3, c3, l3, rfl, q1, q2, T3, b1⟩
      have BW := thenB BW b1
      have LT := LT.later b1
      have MO := MO.later b1
      refine hK.out _ _ (KK.out _ BW) (fun hHeld => ?_)
      clear hK K
      try simp only [List.getElem_toArray, List.getElem_cons_zero, List.getElem_cons_succ, Act.put, List.setIfInBounds_toArray, List.set_cons_zero, List.set_cons_succ]
      refine wpAnyH_ready (rs := [10]) (by kernel_rfl) (by simp) ?_
      refine AllReadyH.cons rfl (fun K hK => ?_) (AllReadyH.nil)
      go_simp
      refine (HCk.out _ _ _ _ _ q1 q2 MO T3).mono ?_
      rintro e X8 ⟨rfl, b1⟩
      have BW := thenB BW b1
      have LT := LT.later b1
      have MO := MO.later b1
      have T3 := T3.later b1
      refine hK.out _ _ (KK.out _ BW) (fun hHeld => ?_)
      clear hK K
      try simp only [List.getElem_toArray, List.getElem_cons_zero, List.getElem_cons_succ, Act.put, List.setIfInBounds_toArray, List.set_cons_zero, List.set_cons_succ]
      refine wpAnyH_take (i := 11) (v := .bool true) rfl (by kernel_rfl) (by kernel_rfl) (by kernel_rfl) (fun _ _ _ h => h) (Or.inl ⟨by first | rfl | go_simp, by intro w9 hSw; (try dsimp only at hSw); go_simp⟩) (by assumption) ?_
      simp only [List.getElem_toArray, List.getElem_cons_zero, List.getElem_cons_succ, Act.put, List.setIfInBounds_toArray, List.set_cons_zero, List.set_cons_succ]
      refine wpAnyH_take (i := 12) (v := .bool true) rfl (by kernel_rfl) (by kernel_rfl) (by kernel_rfl) (fun _ _ _ h => h) (Or.inl ⟨by first | rfl | go_simp, by intro w9 hSw; (try dsimp only at hSw); go_simp⟩) (by assumption) ?_
      simp only [List.getElem_toArray, List.getElem_cons_zero, List.getElem_cons_succ, Act.put, List.setIfInBounds_toArray, List.set_cons_zero, List.set_cons_succ]
      refine wpAnyH_done (by kernel_rfl) ?_ _
      go_wp2_with fail
      go_ret
      exact ⟨rfl, thenB HB BW⟩
end Go.Proofs.Ytocmcjbhmjbmhaa.Air
