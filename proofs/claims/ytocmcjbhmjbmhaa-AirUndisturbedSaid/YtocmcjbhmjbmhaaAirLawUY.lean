/- The statement on a transmission that is alone, where it is heard. -/
import Derived.Test.YtocmcjbhmjbmhaaAirLawU0
set_option linter.unusedVariables false
set_option linter.unusedSimpArgs false
namespace Go.Proofs.Ytocmcjbhmjbmhaa.Air
open Go.RowKit Mem Rw Base Rd

set_option maxRecDepth 100000 in
set_option maxHeartbeats 16000000 in
theorem undisturbed_yes (m : Med) (q : Pl) (x : Tx) (l : Ln) (w : World) (ga : GoodA w (m, q)) (gt : GoodT w x) (gl : GoodL l) (hr : ¬ (64 < m.links.length ∨ chk ⟨m.dev, m.links, [], []⟩ [x.tr] ≠ 0)) (hpb : reachB m.links l x.tr = true) :
    Calls Try.prog 7 #[mv m q, tv x, .agg #[.int .i64 l.dev, .int .i64 l.ch, .int .i64 l.st, .int .i64 l.en]] w fun e w' => e = .returned (.bool true) ∧ Below w.heap.size w w' := by
  have hM1 : MedAt w w.heap.size q m := ga.2.1
  have hown0 : Own w w.heap.size x := gt.2.1
  obtain ⟨D, links, jams, loss⟩ := m
  obtain ⟨A, ac, J, jc, S, sc⟩ := q
  obtain ⟨i, f, h, s, TA, tc, bs⟩ := x
  obtain ⟨d, lh, ls, le⟩ := l
  have hM0 : MedAt w w.heap.size ⟨A, ac, none, 0, none, 0⟩ ⟨D, links, [], []⟩ := ⟨hM1.a, .inl rfl, .inl rfl, hM1.ab, by simp, by simp⟩
  clear ga gt gl hM1
  simp only at hr hpb
  simp only [mv, tv]
  have HL := Lib.hid lives_any
  have hnl : links.length = links.length := rfl
  generalize hnn : links.length = n at hnl hr ⊢
  generalize jams.length = nj at *
  generalize loss.length = ns at *
  have HOwn : Hid (∀ w' : World, MedAt w' w'.heap.size ⟨A, ac, none, 0, none, 0⟩ ⟨D, links, [], []⟩ → Calls Try.prog 18 #[.agg #[.int .i64 D, .slice A n ac, .slice none 0 0, .slice none 0 0]] w' fun e w2 => ∃ p' : Pl, e = .returned (mv ⟨D, links, [], []⟩ p') ∧ MedAt w2 w2.heap.size p' ⟨D, links, [], []⟩ ∧ Below w'.heap.size w' w2) := Lib.hid fun w' h => by
    subst hnn
    exact own_m ⟨D, links, [], []⟩ ⟨A, ac, none, 0, none, 0⟩ w' h (by simp)
  have HCp : Hid (∀ (w' : World) (L : Option Addr) (kc : Nat), TxsAt w' w'.heap.size L [(⟨i, f, h, s, TA, tc, bs⟩ : Tx)] → Calls Try.prog 19 #[.slice L 1 kc] w' fun e w2 => ∃ A' c', ∃ l' : List Tx, e = .returned (.slice A' 1 c') ∧ l'.length = 1 ∧ l'.map Tx.tr = [Tx.tr (⟨i, f, h, s, TA, tc, bs⟩ : Tx)] ∧ TxsAt w2 w2.heap.size A' l' ∧ Below w'.heap.size w' w2) := Lib.hid fun w' L kc hh => copy_m L kc [(⟨i, f, h, s, TA, tc, bs⟩ : Tx)] w' (by simp) hh
  have HCk : Hid (∀ (w' : World) (p : Pl) (A' : Option Addr) (c' : Nat) (l' : List Tx), l'.length = 1 → l'.map Tx.tr = [Tx.tr (⟨i, f, h, s, TA, tc, bs⟩ : Tx)] → MedAt w' w'.heap.size p ⟨D, links, [], []⟩ → TxsAt w' w'.heap.size A' l' → Calls Try.prog 17 #[mv ⟨D, links, [], []⟩ p, .slice A' 1 c'] w' fun e w2 => e = .returned (.int .i64 (chk ⟨D, links, [], []⟩ [Tx.tr (⟨i, f, h, s, TA, tc, bs⟩ : Tx)])) ∧ Below w'.heap.size w' w2) := Lib.hid fun w' p A' c' l' h1 h2 h3 h4 => check_m _ p A' c' 1 l' _ w' h1 h2 (by decide) h3 h4
  have B0 : Below w.heap.size w (((w.alloc (.cells #[.int .i64 D, .slice A n ac, .slice J nj jc, .slice S ns sc] 34)).alloc (.cells #[.int .i64 i, .int .i64 f, .int .i64 h, .int .i64 s, .slice TA bs.length tc] 24)).alloc (.cells #[.int .i64 d, .int .i64 lh, .int .i64 ls, .int .i64 le] 50)) := (((Below.refl _ w).alloc (Nat.le_refl _) _).alloc (by simp) _).alloc (by simp; omega) _
  have KB : Blk (((w.alloc (.cells #[.int .i64 D, .slice A n ac, .slice J nj jc, .slice S ns sc] 34)).alloc (.cells #[.int .i64 i, .int .i64 f, .int .i64 h, .int .i64 s, .slice TA bs.length tc] 24)).alloc (.cells #[.int .i64 d, .int .i64 lh, .int .i64 ls, .int .i64 le] 50)) w.heap.size 34 #[.int .i64 D, .slice A n ac, .slice J nj jc, .slice S ns sc] := ((Blk.fresh w 34 #[.int .i64 D, .slice A n ac, .slice J nj jc, .slice S ns sc]).alloc _).alloc _
  have KT : Five (((w.alloc (.cells #[.int .i64 D, .slice A n ac, .slice J nj jc, .slice S ns sc] 34)).alloc (.cells #[.int .i64 i, .int .i64 f, .int .i64 h, .int .i64 s, .slice TA bs.length tc] 24)).alloc (.cells #[.int .i64 d, .int .i64 lh, .int .i64 ls, .int .i64 le] 50)) (w.heap.size + 1) i f h s (.slice TA bs.length tc) := by
    have := five_of ((Blk.fresh (w.alloc (.cells #[.int .i64 D, .slice A n ac, .slice J nj jc, .slice S ns sc] 34)) 24 #[.int .i64 i, .int .i64 f, .int .i64 h, .int .i64 s, .slice TA bs.length tc]).alloc (.cells #[.int .i64 d, .int .i64 lh, .int .i64 ls, .int .i64 le] 50))
    simpa using this
  have KL : Four (((w.alloc (.cells #[.int .i64 D, .slice A n ac, .slice J nj jc, .slice S ns sc] 34)).alloc (.cells #[.int .i64 i, .int .i64 f, .int .i64 h, .int .i64 s, .slice TA bs.length tc] 24)).alloc (.cells #[.int .i64 d, .int .i64 lh, .int .i64 ls, .int .i64 le] 50)) (w.heap.size + 1 + 1) d (.int .i64 lh) (.int .i64 ls) (.int .i64 le) := by
    have := four_of (Blk.fresh ((w.alloc (.cells #[.int .i64 D, .slice A n ac, .slice J nj jc, .slice S ns sc] 34)).alloc (.cells #[.int .i64 i, .int .i64 f, .int .i64 h, .int .i64 s, .slice TA bs.length tc] 24)) 50 #[.int .i64 d, .int .i64 lh, .int .i64 ls, .int .i64 le])
    simpa using this
  have c0 : ¬ 64 < n := fun h => hr (.inl h)
  have hz : chk ⟨D, links, [], []⟩ [Tx.tr (⟨i, f, h, s, TA, tc, bs⟩ : Tx)] = 0 := Decidable.byContradiction fun h => hr (.inr h)
  clear hr
  have g0 : ¬ (64 : Int) < (n : Int) := by omega
  have near := chk_near hz
  have hn2 := near (Tx.tr (⟨i, f, h, s, TA, tc, bs⟩ : Tx)) (by simp)
  have HEn : Hid (∀ w' : World, Calls Try.prog 13 #[.agg #[.int .i64 i, .int .i64 f, .int .i64 h, .int .i64 s, .slice TA bs.length tc]] w' fun e w2 => e = .returned (.int .i64 (endT (Tx.tr (⟨i, f, h, s, TA, tc, bs⟩ : Tx)))) ∧ Below w'.heap.size w' w2) := Lib.hid fun w' => end_any i f h s TA bs.length tc w' hown0.2.1 hn2
  obtain ⟨en, hen⟩ : ∃ en, Hid (endT (Tx.tr (⟨i, f, h, s, TA, tc, bs⟩ : Tx)) = en) := ⟨_, Lib.hid rfl⟩
  rw [hen.out] at HEn
  have HIn : Hid (∀ (w' : World) (p : Pl), MedAt w' w'.heap.size p ⟨D, links, [], []⟩ → Calls Try.prog 21 #[mv ⟨D, links, [], []⟩ p, .int .i64 f, .int .i64 d] w' fun e w2 => e = .returned (.bool (inR links f d)) ∧ Below w'.heap.size w' w2) := Lib.hid fun w' p hh => inrange_m _ p f d w' hh
  rw [hz] at HCk
  go_enter Try.func7, Try.ntmps7
  go_wp2_with fail
  generalize (((w.alloc (.cells #[.int .i64 D, .slice A n ac, .slice J nj jc, .slice S ns sc] 34)).alloc (.cells #[.int .i64 i, .int .i64 f, .int .i64 h, .int .i64 s, .slice TA bs.length tc] 24)).alloc (.cells #[.int .i64 d, .int .i64 lh, .int .i64 ls, .int .i64 le] 50)) = W at *
  go_at_call 10; refine (HL.out _).mono ?_; rintro e w1 ⟨rfl, b1⟩
  obtain ⟨r0, r1, r2, r3, zf2, zf3⟩ := air_cells (KB.below b1 KB.lt)
  have SF := Lib.hid (set_two (.slice none 0 0) (.slice none 0 0) (KB.below b1 KB.lt))
  have HT := KT.below b1
  have HLn := KL.below b1
  have bz : Below w.heap.size w ((w1.setCell ⟨w.heap.size, 2, none⟩ (.slice none 0 0)).setCell ⟨w.heap.size, 3, none⟩ (.slice none 0 0)) := ((thenB B0 b1).setCell (p := ⟨w.heap.size, 2, none⟩) (Nat.le_refl _) _).setCell (p := ⟨w.heap.size, 3, none⟩) (Nat.le_refl _) _
  have HT2 := five_set2 (.slice none 0 0) (.slice none 0 0) (g := w.heap.size) HT (by omega)
  have HL2 := four_set2 (.slice none 0 0) (.slice none 0 0) (g := w.heap.size) HLn (by omega)
  clear HL HT HLn
  go_upto_region 4 with fail
  clear r0 r1 r2 r3 zf2 zf3
  have F0 := SF.out
  clear SF
  generalize ((w1.setCell ⟨w.heap.size, 2, none⟩ (.slice none 0 0)).setCell ⟨w.heap.size, 3, none⟩ (.slice none 0 0)) = Z at *
  have HB := bz
  have KK : Hid (∀ X, Below Z.heap.size Z X → Four X w.heap.size D (.slice A n ac) (.slice none 0 0) (.slice none 0 0) ∧ Five X (w.heap.size + 1) i f h s (.slice TA bs.length tc) ∧ Four X (w.heap.size + 1 + 1) d (.int .i64 lh) (.int .i64 ls) (.int .i64 le)) := Lib.hid fun X bb => ⟨F0.below bb, HT2.below bb, HL2.below bb⟩
  have hM : MedAt Z Z.heap.size ⟨A, ac, none, 0, none, 0⟩ ⟨D, links, [], []⟩ := hM0.later bz
  have hown : Hid (∀ X, Below Z.heap.size Z X → Own X X.heap.size (⟨i, f, h, s, TA, tc, bs⟩ : Tx)) := Lib.hid fun X bb => (((hown0.below bz).more bz.size).below bb).more bb.size
  clear b1 F0 HT2 HL2 bz KB KT KL B0
  have HSm : Hid (∀ w', Below Z.heap.size Z w' → Calls Try.prog 28 #[.agg #[.int .i64 0, .int .i64 0, .int .i64 0, .int .i64 0, .int .i64 0, .slice none 0 0], .agg #[.int .i64 0, .int .i64 0, .int .i64 0, .int .i64 0, .int .i64 0, .slice none 0 0]] w' fun e w2 => e = .returned (.bool true) ∧ Below w'.heap.size w' w2) := Lib.hid fun w' _ => same_yes 0 0 0 0 0 none none 0 0 [] w' (.inl rfl) (.inl rfl)
  go_cut [25] from 13 to 25 (fun s25 wx => s25 = .bool false ∧ Below Z.heap.size Z wx)
  case first =>
    clear HEn HIn HSm near
    go_wp2_with fail
    refine wp_region_held_drew (S := (fun w' => Four w' w.heap.size D (.slice A n ac) (.slice none 0 0) (.slice none 0 0) ∧ Five w' (w.heap.size + 1) i f h s (.slice TA bs.length tc) ∧ Four w' (w.heap.size + 1 + 1) d (.int .i64 lh) (.int .i64 ls) (.int .i64 le))) (by kernel_rfl) ?_ (fun hHeld => ?_)
    · exact KK.out _ (Below.refl _ _).drew
    have BW : Below Z.heap.size Z Z.drew := (Below.refl _ _).drew
    generalize Z.drew = X0 at *
    refine wpAnyH_take (i := 0) (v := .pointer (some ⟨w.heap.size, 1, none⟩)) rfl (by kernel_rfl) (by kernel_rfl) (by kernel_rfl) (fun _ _ _ h => h) (Or.inl ⟨by first | rfl | go_simp, by intro w9 hSw; (try dsimp only at hSw); go_simp⟩) (by assumption) ?_
    simp only [List.getElem_toArray, List.getElem_cons_zero, List.getElem_cons_succ, Act.put, List.setIfInBounds_toArray, List.set_cons_zero, List.set_cons_succ]
    refine wpAnyH_take (i := 1) (v := .slice A n ac) rfl (by kernel_rfl) (by kernel_rfl) (by kernel_rfl) (fun _ _ _ h => h) (Or.inl ⟨by first | rfl | go_simp, by intro w9 hSw; (try dsimp only at hSw); go_simp⟩) (by assumption) ?_
    simp only [List.getElem_toArray, List.getElem_cons_zero, List.getElem_cons_succ, Act.put, List.setIfInBounds_toArray, List.set_cons_zero, List.set_cons_succ]
    refine wpAnyH_take (i := 2) (v := .int .i64 (n : Int)) rfl (by kernel_rfl) (by kernel_rfl) (by kernel_rfl) (fun _ _ _ h => h) (Or.inl ⟨by first | rfl | go_simp, by intro w9 hSw; (try dsimp only at hSw); go_simp⟩) (by assumption) ?_
    simp only [List.getElem_toArray, List.getElem_cons_zero, List.getElem_cons_succ, Act.put, List.setIfInBounds_toArray, List.set_cons_zero, List.set_cons_succ]
    refine wpAnyH_take (i := 3) (v := .bool false) rfl (by kernel_rfl) (by kernel_rfl) (by kernel_rfl) (fun _ _ _ h => h) (Or.inl ⟨by first | rfl | go_simp, by intro w9 hSw; (try dsimp only at hSw); go_simp⟩) (by assumption) ?_
    simp only [List.getElem_toArray, List.getElem_cons_zero, List.getElem_cons_succ, Act.put, List.setIfInBounds_toArray, List.set_cons_zero, List.set_cons_succ]
    refine wpAnyH_take (i := 4) (v := .bool false) rfl (by kernel_rfl) (by kernel_rfl) (by kernel_rfl) (fun _ _ _ h => h) (Or.inl ⟨by first | rfl | go_simp, by intro w9 hSw; (try dsimp only at hSw); go_simp⟩) (by assumption) ?_
    simp only [List.getElem_toArray, List.getElem_cons_zero, List.getElem_cons_succ, Act.put, List.setIfInBounds_toArray, List.set_cons_zero, List.set_cons_succ]
    refine wpAnyH_take (i := 5) (v := .agg #[.int .i64 D, .slice A n ac, .slice none 0 0, .slice none 0 0]) rfl (by kernel_rfl) (by kernel_rfl) (by kernel_rfl) (fun _ _ _ h => h) (Or.inl ⟨by first | rfl | go_simp, by intro w9 hSw; (try dsimp only at hSw); go_simp⟩) (by assumption) ?_
    simp only [List.getElem_toArray, List.getElem_cons_zero, List.getElem_cons_succ, Act.put, List.setIfInBounds_toArray, List.set_cons_zero, List.set_cons_succ]
    refine wpAnyH_take (i := 7) (v := .agg #[.int .i64 i, .int .i64 f, .int .i64 h, .int .i64 s, .slice TA bs.length tc]) rfl (by kernel_rfl) (by kernel_rfl) (by kernel_rfl) (fun _ _ _ h => h) (Or.inl ⟨by first | rfl | go_simp, by intro w9 hSw; (try dsimp only at hSw); go_simp⟩) (by assumption) ?_
    simp only [List.getElem_toArray, List.getElem_cons_zero, List.getElem_cons_succ, Act.put, List.setIfInBounds_toArray, List.set_cons_zero, List.set_cons_succ]
    refine wpAnyH_ready (rs := [6, 8]) (by kernel_rfl) (by simp) ?_
    refine AllReadyH.cons rfl (fun K hK => ?_) (AllReadyH.cons rfl (fun K hK => ?_) (AllReadyH.nil))
    · skip
      go_simp
      refine (HOwn.out _ (hM.later BW)).mono ?_
      rintro e X1 ⟨p1, rfl, MO, b1⟩
      have BW := thenB BW b1
      refine hK.out _ _ (KK.out _ BW) (fun hHeld => ?_)
      clear hK K
      try simp only [List.getElem_toArray, List.getElem_cons_zero, List.getElem_cons_succ, Act.put, List.setIfInBounds_toArray, List.set_cons_zero, List.set_cons_succ]
      refine wpAnyH_ready (rs := [8]) (by kernel_rfl) (by simp) ?_
      refine AllReadyH.cons rfl (fun K hK => ?_) (AllReadyH.nil)
      go_simp
      have b1 := (Below.refl _ X1).alloc (Nat.le_refl _) (.cells #[.int .i64 i, .int .i64 f, .int .i64 h, .int .i64 s, .slice TA bs.length tc] 24)
      have LT := lit_txs (⟨i, f, h, s, TA, tc, bs⟩ : Tx) X1 (hown.out _ BW) (e := 24)
      generalize X1.alloc (.cells #[.int .i64 i, .int .i64 f, .int .i64 h, .int .i64 s, .slice TA bs.length tc] 24) = X2 at *
      have BW := thenB BW b1
      have MO := MO.later b1
      refine hK.out _ _ (KK.out _ BW) (fun hHeld => ?_)
      clear hK K
      try simp only [List.getElem_toArray, List.getElem_cons_zero, List.getElem_cons_succ, Act.put, List.setIfInBounds_toArray, List.set_cons_zero, List.set_cons_succ]
      refine wpAnyH_ready (rs := [9]) (by kernel_rfl) (by simp) ?_
      refine AllReadyH.cons rfl (fun K hK => ?_) (AllReadyH.nil)
      go_simp
      refine (HCp.out _ _ _ LT).mono ?_
      rintro e X3 ⟨A3, c3, l3, rfl, q1, q2, T3, b1⟩
      have BW := thenB BW b1
      have MO := MO.later b1
      have LT := LT.later b1
      refine hK.out _ _ (KK.out _ BW) (fun hHeld => ?_)
      clear hK K
      try simp only [List.getElem_toArray, List.getElem_cons_zero, List.getElem_cons_succ, Act.put, List.setIfInBounds_toArray, List.set_cons_zero, List.set_cons_succ]
      refine wpAnyH_ready (rs := [10]) (by kernel_rfl) (by simp) ?_
      refine AllReadyH.cons rfl (fun K hK => ?_) (AllReadyH.nil)
      go_simp
      refine (HCk.out _ _ _ _ _ q1 q2 MO T3).mono ?_
      rintro e X4 ⟨rfl, b1⟩
      have BW := thenB BW b1
      have MO := MO.later b1
      have LT := LT.later b1
      have T3 := T3.later b1
      refine hK.out _ _ (KK.out _ BW) (fun hHeld => ?_)
      clear hK K
      try simp only [List.getElem_toArray, List.getElem_cons_zero, List.getElem_cons_succ, Act.put, List.setIfInBounds_toArray, List.set_cons_zero, List.set_cons_succ]
      refine wpAnyH_take (i := 11) (v := .bool false) rfl (by kernel_rfl) (by kernel_rfl) (by kernel_rfl) (fun _ _ _ h => h) (Or.inl ⟨by first | rfl | go_simp, by intro w9 hSw; (try dsimp only at hSw); go_simp⟩) (by assumption) ?_
      simp only [List.getElem_toArray, List.getElem_cons_zero, List.getElem_cons_succ, Act.put, List.setIfInBounds_toArray, List.set_cons_zero, List.set_cons_succ]
      refine wpAnyH_take (i := 12) (v := .bool false) rfl (by kernel_rfl) (by kernel_rfl) (by kernel_rfl) (fun _ _ _ h => h) (Or.inl ⟨by first | rfl | go_simp, by intro w9 hSw; (try dsimp only at hSw); go_simp⟩) (by assumption) ?_
      simp only [List.getElem_toArray, List.getElem_cons_zero, List.getElem_cons_succ, Act.put, List.setIfInBounds_toArray, List.set_cons_zero, List.set_cons_succ]
      refine wpAnyH_done (by kernel_rfl) ?_ _
      go_wp2_with fail
      go_meet
      exact ⟨rfl, BW⟩
    · skip
      go_simp
      have b1 := (Below.refl _ X0).alloc (Nat.le_refl _) (.cells #[.int .i64 i, .int .i64 f, .int .i64 h, .int .i64 s, .slice TA bs.length tc] 24)
      have LT := lit_txs (⟨i, f, h, s, TA, tc, bs⟩ : Tx) X0 (hown.out _ BW) (e := 24)
      generalize X0.alloc (.cells #[.int .i64 i, .int .i64 f, .int .i64 h, .int .i64 s, .slice TA bs.length tc] 24) = X5 at *
      have BW := thenB BW b1
      refine hK.out _ _ (KK.out _ BW) (fun hHeld => ?_)
      clear hK K
      try simp only [List.getElem_toArray, List.getElem_cons_zero, List.getElem_cons_succ, Act.put, List.setIfInBounds_toArray, List.set_cons_zero, List.set_cons_succ]
      refine wpAnyH_ready (rs := [6]) (by kernel_rfl) (by simp) ?_
      refine AllReadyH.cons rfl (fun K hK => ?_) (AllReadyH.nil)
      go_simp
      refine (HOwn.out _ (hM.later BW)).mono ?_
      rintro e X6 ⟨p1, rfl, MO, b1⟩
      have BW := thenB BW b1
      have LT := LT.later b1
      refine hK.out _ _ (KK.out _ BW) (fun hHeld => ?_)
      clear hK K
      try simp only [List.getElem_toArray, List.getElem_cons_zero, List.getElem_cons_succ, Act.put, List.setIfInBounds_toArray, List.set_cons_zero, List.set_cons_succ]
      refine wpAnyH_ready (rs := [9]) (by kernel_rfl) (by simp) ?_
      refine AllReadyH.cons rfl (fun K hK => ?_) (AllReadyH.nil)
      go_simp
      refine (HCp.out _ _ _ LT).mono ?_
      rintro e X7 ⟨A3, c3, l3, rfl, q1, q2, T3, b1⟩
      have BW := thenB BW b1
      have LT := LT.later b1
      have MO := MO.later b1
      refine hK.out _ _ (KK.out _ BW) (fun hHeld => ?_)
      clear hK K
      try simp only [List.getElem_toArray, List.getElem_cons_zero, List.getElem_cons_succ, Act.put, List.setIfInBounds_toArray, List.set_cons_zero, List.set_cons_succ]
      refine wpAnyH_ready (rs := [10]) (by kernel_rfl) (by simp) ?_
      refine AllReadyH.cons rfl (fun K hK => ?_) (AllReadyH.nil)
      go_simp
      refine (HCk.out _ _ _ _ _ q1 q2 MO T3).mono ?_
      rintro e X8 ⟨rfl, b1⟩
      have BW := thenB BW b1
      have LT := LT.later b1
      have MO := MO.later b1
      have T3 := T3.later b1
      refine hK.out _ _ (KK.out _ BW) (fun hHeld => ?_)
      clear hK K
      try simp only [List.getElem_toArray, List.getElem_cons_zero, List.getElem_cons_succ, Act.put, List.setIfInBounds_toArray, List.set_cons_zero, List.set_cons_succ]
      refine wpAnyH_take (i := 11) (v := .bool false) rfl (by kernel_rfl) (by kernel_rfl) (by kernel_rfl) (fun _ _ _ h => h) (Or.inl ⟨by first | rfl | go_simp, by intro w9 hSw; (try dsimp only at hSw); go_simp⟩) (by assumption) ?_
      simp only [List.getElem_toArray, List.getElem_cons_zero, List.getElem_cons_succ, Act.put, List.setIfInBounds_toArray, List.set_cons_zero, List.set_cons_succ]
      refine wpAnyH_take (i := 12) (v := .bool false) rfl (by kernel_rfl) (by kernel_rfl) (by kernel_rfl) (fun _ _ _ h => h) (Or.inl ⟨by first | rfl | go_simp, by intro w9 hSw; (try dsimp only at hSw); go_simp⟩) (by assumption) ?_
      simp only [List.getElem_toArray, List.getElem_cons_zero, List.getElem_cons_succ, Act.put, List.setIfInBounds_toArray, List.set_cons_zero, List.set_cons_succ]
      refine wpAnyH_done (by kernel_rfl) ?_ _
      go_wp2_with fail
      go_meet
      exact ⟨rfl, BW⟩
  case rest =>
    obtain ⟨rfl, BZ⟩ := hcut
    clear HCk g0
    have hpe : reachB links ⟨d, lh, ls, le⟩ (Tx.tr (⟨i, f, h, s, TA, tc, bs⟩ : Tx)) = ((h == lh && decide (ls ≤ s) && decide (s < le)) && inR links f d) := rfl
    have hpc : ((h == lh && decide (ls ≤ s) && decide (s < le)) && inR links f d) = true := hpe.symm.trans hpb
    simp only [Bool.and_eq_true] at hpc
    obtain ⟨⟨⟨he1, he2⟩, he3⟩, hri⟩ := hpc
    have hdt : disT ⟨D, links, [], []⟩ [Tx.tr (⟨i, f, h, s, TA, tc, bs⟩ : Tx)] (Tx.tr (⟨i, f, h, s, TA, tc, bs⟩ : Tx)) 0 d = 1 := dis_one D links (Tx.tr (⟨i, f, h, s, TA, tc, bs⟩ : Tx)) d hri
    have HHr : Hid (∀ (w' : World) (p : Pl) (A' : Option Addr) (c' : Nat) (l' : List Tx), l'.length = 1 → l'.map Tx.tr = [Tx.tr (⟨i, f, h, s, TA, tc, bs⟩ : Tx)] → MedAt w' w'.heap.size p ⟨D, links, [], []⟩ → TxsAt w' w'.heap.size A' l' → Calls Try.prog 26 #[mv ⟨D, links, [], []⟩ p, .slice A' 1 c', .agg #[.int .i64 d, .int .i64 lh, .int .i64 ls, .int .i64 le]] w' fun e w2 => ∃ RA rc, e = .returned (.tuple #[.agg #[.int .i64 i, .int .i64 d, .int .i64 1, .int .i64 s, .int .i64 en, .slice RA bs.length rc], .bool true]) ∧ NewAt w2 w'.heap.size RA (bs.map (Value.int .u8)) ∧ Below w'.heap.size w' w2) := Lib.hid fun w' p A' c' l' h1 h2 h3 h4 => by
      refine (hear_m ⟨D, links, [], []⟩ p A' c' 1 l' _ ⟨d, lh, ls, le⟩ w' h1 h2 (by decide) near h3 h4).mono ?_
      rintro e w2 ⟨hh, bb⟩
      unfold HearsTo at hh
      rw [show hearR ⟨D, links, [], []⟩ [Tx.tr (⟨i, f, h, s, TA, tc, bs⟩ : Tx)] ⟨d, lh, ls, le⟩ = some (0, Tx.tr (⟨i, f, h, s, TA, tc, bs⟩ : Tx)) by simp [hearR, bst, upd, hpb]] at hh
      obtain ⟨RA, rc, bs', rfl, hbs, _, hN⟩ := hh
      simp only at hbs
      rw [show disT ⟨D, links, [], []⟩ [Tx.tr (⟨i, f, h, s, TA, tc, bs⟩ : Tx)] (Tx.tr (⟨i, f, h, s, TA, tc, bs⟩ : Tx)) 0 d = 1 from hdt] at hbs
      have hbs2 : bs' = bs := by rw [hbs]; rfl
      subst hbs2
      refine ⟨RA, rc, ?_, hN, bb⟩
      show Ending.returned (.tuple #[.agg #[.int .i64 i, .int .i64 d, .int .i64 (disT ⟨D, links, [], []⟩ [Tx.tr ⟨i, f, h, s, TA, tc, bs'⟩] (Tx.tr ⟨i, f, h, s, TA, tc, bs'⟩) 0 d), .int .i64 s, .int .i64 (endT (Tx.tr ⟨i, f, h, s, TA, tc, bs'⟩)), .slice RA bs'.length rc], .bool true]) = _
      rw [hdt, hen.out]
    clear near hdt
    go_upto_region 6 with fail
    generalize wc = Z4 at *
    go_cut [7, 8] from 26 to 35 (fun s7 s8 wx => ∃ G RA rc, s7 = .pointer (some ⟨G, 0, none⟩) ∧ s8 = .bool true ∧ wx.cell? ⟨G, 0, none⟩ = some (.int .i64 i) ∧ wx.cell? ⟨G, 1, none⟩ = some (.int .i64 d) ∧ wx.cell? ⟨G, 2, none⟩ = some (.int .i64 1) ∧ wx.cell? ⟨G, 3, none⟩ = some (.int .i64 s) ∧ wx.cell? ⟨G, 4, none⟩ = some (.int .i64 en) ∧ wx.cell? ⟨G, 5, none⟩ = some (.slice RA bs.length rc) ∧ Ints .u8 wx wx.heap.size RA bs ∧ Below Z.heap.size Z wx)
    case first =>
      clear HSm HEn HIn
      go_wp2_with fail
      refine wp_region_held_drew (S := (fun w' => Four w' w.heap.size D (.slice A n ac) (.slice none 0 0) (.slice none 0 0) ∧ Five w' (w.heap.size + 1) i f h s (.slice TA bs.length tc) ∧ Four w' (w.heap.size + 1 + 1) d (.int .i64 lh) (.int .i64 ls) (.int .i64 le))) (by kernel_rfl) ?_ (fun hHeld => ?_)
      · exact KK.out _ BZ.drew
      have BW : Below Z.heap.size Z Z4.drew := BZ.drew
      generalize Z4.drew = X0 at *
      refine wpAnyH_take (i := 0) (v := .agg #[.int .i64 D, .slice A n ac, .slice none 0 0, .slice none 0 0]) rfl (by kernel_rfl) (by kernel_rfl) (by kernel_rfl) (fun _ _ _ h => h) (Or.inl ⟨by first | rfl | go_simp, by intro w9 hSw; (try dsimp only at hSw); go_simp⟩) (by assumption) ?_
      simp only [List.getElem_toArray, List.getElem_cons_zero, List.getElem_cons_succ, Act.put, List.setIfInBounds_toArray, List.set_cons_zero, List.set_cons_succ]
      refine wpAnyH_take (i := 2) (v := .agg #[.int .i64 i, .int .i64 f, .int .i64 h, .int .i64 s, .slice TA bs.length tc]) rfl (by kernel_rfl) (by kernel_rfl) (by kernel_rfl) (fun _ _ _ h => h) (Or.inl ⟨by first | rfl | go_simp, by intro w9 hSw; (try dsimp only at hSw); go_simp⟩) (by assumption) ?_
      simp only [List.getElem_toArray, List.getElem_cons_zero, List.getElem_cons_succ, Act.put, List.setIfInBounds_toArray, List.set_cons_zero, List.set_cons_succ]
      refine wpAnyH_take (i := 5) (v := .agg #[.int .i64 d, .int .i64 lh, .int .i64 ls, .int .i64 le]) rfl (by kernel_rfl) (by kernel_rfl) (by kernel_rfl) (fun _ _ _ h => h) (Or.inl ⟨by first | rfl | go_simp, by intro w9 hSw; (try dsimp only at hSw); go_simp⟩) (by assumption) ?_
      simp only [List.getElem_toArray, List.getElem_cons_zero, List.getElem_cons_succ, Act.put, List.setIfInBounds_toArray, List.set_cons_zero, List.set_cons_succ]
      refine wpAnyH_ready (rs := [1, 3, 10]) (by kernel_rfl) (by simp) ?_
      refine AllReadyH.cons rfl (fun K hK => ?_) (AllReadyH.cons rfl (fun K hK => ?_) (AllReadyH.cons rfl (fun K hK => ?_) (AllReadyH.nil)))
      · skip
        go_simp
        refine (HOwn.out _ (hM.later BW)).mono ?_
        rintro e X1 ⟨p1, rfl, MO, b1⟩
        have BW := thenB BW b1
        refine hK.out _ _ (KK.out _ BW) (fun hHeld => ?_)
        clear hK K
        try simp only [List.getElem_toArray, List.getElem_cons_zero, List.getElem_cons_succ, Act.put, List.setIfInBounds_toArray, List.set_cons_zero, List.set_cons_succ]
        refine wpAnyH_ready (rs := [3, 10]) (by kernel_rfl) (by simp) ?_
        refine AllReadyH.cons rfl (fun K hK => ?_) (AllReadyH.cons rfl (fun K hK => ?_) (AllReadyH.nil))
        · skip
          go_simp
          have b1 := (Below.refl _ X1).alloc (Nat.le_refl _) (.cells #[.int .i64 i, .int .i64 f, .int .i64 h, .int .i64 s, .slice TA bs.length tc] 24)
          have LT := lit_txs (⟨i, f, h, s, TA, tc, bs⟩ : Tx) X1 (hown.out _ BW) (e := 24)
          generalize X1.alloc (.cells #[.int .i64 i, .int .i64 f, .int .i64 h, .int .i64 s, .slice TA bs.length tc] 24) = X2 at *
          have BW := thenB BW b1
          have MO := MO.later b1
          refine hK.out _ _ (KK.out _ BW) (fun hHeld => ?_)
          clear hK K
          try simp only [List.getElem_toArray, List.getElem_cons_zero, List.getElem_cons_succ, Act.put, List.setIfInBounds_toArray, List.set_cons_zero, List.set_cons_succ]
          refine wpAnyH_ready (rs := [4, 10]) (by kernel_rfl) (by simp) ?_
          refine AllReadyH.cons rfl (fun K hK => ?_) (AllReadyH.cons rfl (fun K hK => ?_) (AllReadyH.nil))
          · skip
            go_simp
            refine (HCp.out _ _ _ LT).mono ?_
            rintro e X3 ⟨A3, c3, l3, rfl, q1, q2, T3, b1⟩
            have BW := thenB BW b1
            have MO := MO.later b1
            have LT := LT.later b1
            refine hK.out _ _ (KK.out _ BW) (fun hHeld => ?_)
            clear hK K
            try simp only [List.getElem_toArray, List.getElem_cons_zero, List.getElem_cons_succ, Act.put, List.setIfInBounds_toArray, List.set_cons_zero, List.set_cons_succ]
            refine wpAnyH_ready (rs := [6, 10]) (by kernel_rfl) (by simp) ?_
            refine AllReadyH.cons rfl (fun K hK => ?_) (AllReadyH.cons rfl (fun K hK => ?_) (AllReadyH.nil))
            · skip
              go_simp
              refine (HHr.out _ _ _ _ _ q1 q2 MO T3).mono ?_
              rintro e X4 ⟨RA, rc, rfl, iN, b1⟩
              have iR := new_ints iN
              have BW := thenB BW b1
              have MO := MO.later b1
              have LT := LT.later b1
              have T3 := T3.later b1
              refine hK.out _ _ (KK.out _ BW) (fun hHeld => ?_)
              clear hK K
              try simp only [List.getElem_toArray, List.getElem_cons_zero, List.getElem_cons_succ, Act.put, List.setIfInBounds_toArray, List.set_cons_zero, List.set_cons_succ]
              refine wpAnyH_take (i := 7) (v := .tuple #[.agg #[.int .i64 i, .int .i64 d, .int .i64 1, .int .i64 s, .int .i64 en, .slice RA bs.length rc], .bool true]) rfl (by kernel_rfl) (by kernel_rfl) (by kernel_rfl) (fun _ _ _ h => h) (Or.inl ⟨by first | rfl | go_simp, by intro w9 hSw; (try dsimp only at hSw); go_simp⟩) (by assumption) ?_
              simp only [List.getElem_toArray, List.getElem_cons_zero, List.getElem_cons_succ, Act.put, List.setIfInBounds_toArray, List.set_cons_zero, List.set_cons_succ]
              refine wpAnyH_take (i := 8) (v := .agg #[.int .i64 i, .int .i64 d, .int .i64 1, .int .i64 s, .int .i64 en, .slice RA bs.length rc]) rfl (by kernel_rfl) (by kernel_rfl) (by kernel_rfl) (fun _ _ _ h => h) (Or.inl ⟨by first | rfl | go_simp, by intro w9 hSw; (try dsimp only at hSw); go_simp⟩) (by assumption) ?_
              simp only [List.getElem_toArray, List.getElem_cons_zero, List.getElem_cons_succ, Act.put, List.setIfInBounds_toArray, List.set_cons_zero, List.set_cons_succ]
              refine wpAnyH_take (i := 9) (v := .bool true) rfl (by kernel_rfl) (by kernel_rfl) (by kernel_rfl) (fun _ _ _ h => h) (Or.inl ⟨by first | rfl | go_simp, by intro w9 hSw; (try dsimp only at hSw); go_simp⟩) (by assumption) ?_
              simp only [List.getElem_toArray, List.getElem_cons_zero, List.getElem_cons_succ, Act.put, List.setIfInBounds_toArray, List.set_cons_zero, List.set_cons_succ]
              refine wpAnyH_ready (rs := [10]) (by kernel_rfl) (by simp) ?_
              refine AllReadyH.cons rfl (fun K hK => ?_) (AllReadyH.nil)
              go_simp
              have b1 := (Below.refl _ X4).alloc (Nat.le_refl _) (.cells #[.int .i64 0, .int .i64 0, .int .i64 0, .int .i64 0, .int .i64 0, .slice none 0 0] 46)
              have RB := Blk.fresh X4 46 #[.int .i64 0, .int .i64 0, .int .i64 0, .int .i64 0, .int .i64 0, .slice none 0 0]
              have hG := BW.size
              have iG := iR.below b1
              generalize X4.alloc (.cells #[.int .i64 0, .int .i64 0, .int .i64 0, .int .i64 0, .int .i64 0, .slice none 0 0] 46) = X5 at *
              have BW := thenB BW b1
              have MO := MO.later b1
              have LT := LT.later b1
              have T3 := T3.later b1
              refine hK.out _ _ (KK.out _ BW) (fun hHeld => ?_)
              clear hK K
              try simp only [List.getElem_toArray, List.getElem_cons_zero, List.getElem_cons_succ, Act.put, List.setIfInBounds_toArray, List.set_cons_zero, List.set_cons_succ]
              refine wpAnyH_ready (rs := [11]) (by kernel_rfl) (by simp) ?_
              refine AllReadyH.cons rfl (fun K hK => ?_) (AllReadyH.nil)
              obtain ⟨r0, r1, r2, r3, r4, r5, z0, z1, z2, z3, z4, z5⟩ := blk_six RB
              obtain ⟨⟨e0, e1, e2, e3, e4, e5⟩, _, bY⟩ := leaf_six (.int .i64 i) (.int .i64 d) (.int .i64 1) (.int .i64 s) (.int .i64 en) (.slice RA bs.length rc) RB BW hG
              skip
              have E6 := Lib.hid (And.intro e0 (And.intro e1 (And.intro e2 (And.intro e3 (And.intro e4 (And.intro e5 bY))))))
              have jR := Lib.hid (ints_set6 (.int .i64 i) (.int .i64 d) (.int .i64 1) (.int .i64 s) (.int .i64 en) (.slice RA bs.length rc) iG (g := X4.heap.size) (Nat.le_refl _) (Nat.le_of_lt RB.lt))
              clear e0 e1 e2 e3 e4 e5 bY
              go_simp
              generalize ((((((X5.setCell ⟨X4.heap.size, 0, none⟩ (.int .i64 i)).setCell ⟨X4.heap.size, 1, none⟩ (.int .i64 d)).setCell ⟨X4.heap.size, 2, none⟩ (.int .i64 1)).setCell ⟨X4.heap.size, 3, none⟩ (.int .i64 s)).setCell ⟨X4.heap.size, 4, none⟩ (.int .i64 en)).setCell ⟨X4.heap.size, 5, none⟩ (.slice RA bs.length rc)) = X6 at *
              have BW := E6.out.2.2.2.2.2.2
              refine hK.out _ _ (KK.out _ BW) (fun hHeld => ?_)
              clear hK K
              try simp only [List.getElem_toArray, List.getElem_cons_zero, List.getElem_cons_succ, Act.put, List.setIfInBounds_toArray, List.set_cons_zero, List.set_cons_succ]
              refine wpAnyH_take (i := 12) (v := .bool true) rfl (by kernel_rfl) (by kernel_rfl) (by kernel_rfl) (fun _ _ _ h => h) (Or.inl ⟨by first | rfl | go_simp, by intro w9 hSw; (try dsimp only at hSw); go_simp⟩) (by assumption) ?_
              simp only [List.getElem_toArray, List.getElem_cons_zero, List.getElem_cons_succ, Act.put, List.setIfInBounds_toArray, List.set_cons_zero, List.set_cons_succ]
              refine wpAnyH_done (by kernel_rfl) ?_ _
              go_wp2_with fail
              go_meet
              exact ⟨_, RA, rc, rfl, rfl, E6.out.1, E6.out.2.1, E6.out.2.2.1, E6.out.2.2.2.1, E6.out.2.2.2.2.1, E6.out.2.2.2.2.2.1, by first | exact jR.out | exact new_ints jR.out, BW⟩
            · skip
              go_simp
              have b1 := (Below.refl _ X3).alloc (Nat.le_refl _) (.cells #[.int .i64 0, .int .i64 0, .int .i64 0, .int .i64 0, .int .i64 0, .slice none 0 0] 46)
              have RB := Blk.fresh X3 46 #[.int .i64 0, .int .i64 0, .int .i64 0, .int .i64 0, .int .i64 0, .slice none 0 0]
              have hG := BW.size
              generalize X3.alloc (.cells #[.int .i64 0, .int .i64 0, .int .i64 0, .int .i64 0, .int .i64 0, .slice none 0 0] 46) = X7 at *
              have BW := thenB BW b1
              have MO := MO.later b1
              have LT := LT.later b1
              have T3 := T3.later b1
              refine hK.out _ _ (KK.out _ BW) (fun hHeld => ?_)
              clear hK K
              try simp only [List.getElem_toArray, List.getElem_cons_zero, List.getElem_cons_succ, Act.put, List.setIfInBounds_toArray, List.set_cons_zero, List.set_cons_succ]
              refine wpAnyH_ready (rs := [6]) (by kernel_rfl) (by simp) ?_
              refine AllReadyH.cons rfl (fun K hK => ?_) (AllReadyH.nil)
              go_simp
              have hRG := RB.lt
              refine (HHr.out _ _ _ _ _ q1 q2 MO T3).mono ?_
              rintro e X8 ⟨RA, rc, rfl, iN, b1⟩
              have BW := thenB BW b1
              have MO := MO.later b1
              have LT := LT.later b1
              have T3 := T3.later b1
              have RB := RB.below b1 RB.lt
              refine hK.out _ _ (KK.out _ BW) (fun hHeld => ?_)
              clear hK K
              try simp only [List.getElem_toArray, List.getElem_cons_zero, List.getElem_cons_succ, Act.put, List.setIfInBounds_toArray, List.set_cons_zero, List.set_cons_succ]
              refine wpAnyH_take (i := 7) (v := .tuple #[.agg #[.int .i64 i, .int .i64 d, .int .i64 1, .int .i64 s, .int .i64 en, .slice RA bs.length rc], .bool true]) rfl (by kernel_rfl) (by kernel_rfl) (by kernel_rfl) (fun _ _ _ h => h) (Or.inl ⟨by first | rfl | go_simp, by intro w9 hSw; (try dsimp only at hSw); go_simp⟩) (by assumption) ?_
              simp only [List.getElem_toArray, List.getElem_cons_zero, List.getElem_cons_succ, Act.put, List.setIfInBounds_toArray, List.set_cons_zero, List.set_cons_succ]
              refine wpAnyH_take (i := 8) (v := .agg #[.int .i64 i, .int .i64 d, .int .i64 1, .int .i64 s, .int .i64 en, .slice RA bs.length rc]) rfl (by kernel_rfl) (by kernel_rfl) (by kernel_rfl) (fun _ _ _ h => h) (Or.inl ⟨by first | rfl | go_simp, by intro w9 hSw; (try dsimp only at hSw); go_simp⟩) (by assumption) ?_
              simp only [List.getElem_toArray, List.getElem_cons_zero, List.getElem_cons_succ, Act.put, List.setIfInBounds_toArray, List.set_cons_zero, List.set_cons_succ]
              refine wpAnyH_take (i := 9) (v := .bool true) rfl (by kernel_rfl) (by kernel_rfl) (by kernel_rfl) (fun _ _ _ h => h) (Or.inl ⟨by first | rfl | go_simp, by intro w9 hSw; (try dsimp only at hSw); go_simp⟩) (by assumption) ?_
              simp only [List.getElem_toArray, List.getElem_cons_zero, List.getElem_cons_succ, Act.put, List.setIfInBounds_toArray, List.set_cons_zero, List.set_cons_succ]
              refine wpAnyH_ready (rs := [11]) (by kernel_rfl) (by simp) ?_
              refine AllReadyH.cons rfl (fun K hK => ?_) (AllReadyH.nil)
              obtain ⟨r0, r1, r2, r3, r4, r5, z0, z1, z2, z3, z4, z5⟩ := blk_six RB
              obtain ⟨⟨e0, e1, e2, e3, e4, e5⟩, _, bY⟩ := leaf_six (.int .i64 i) (.int .i64 d) (.int .i64 1) (.int .i64 s) (.int .i64 en) (.slice RA bs.length rc) RB BW hG
              skip
              have E6 := Lib.hid (And.intro e0 (And.intro e1 (And.intro e2 (And.intro e3 (And.intro e4 (And.intro e5 bY))))))
              have jR := Lib.hid (new_set6 (.int .i64 i) (.int .i64 d) (.int .i64 1) (.int .i64 s) (.int .i64 en) (.slice RA bs.length rc) iN (g := X3.heap.size) hRG)
              clear e0 e1 e2 e3 e4 e5 bY
              go_simp
              generalize ((((((X8.setCell ⟨X3.heap.size, 0, none⟩ (.int .i64 i)).setCell ⟨X3.heap.size, 1, none⟩ (.int .i64 d)).setCell ⟨X3.heap.size, 2, none⟩ (.int .i64 1)).setCell ⟨X3.heap.size, 3, none⟩ (.int .i64 s)).setCell ⟨X3.heap.size, 4, none⟩ (.int .i64 en)).setCell ⟨X3.heap.size, 5, none⟩ (.slice RA bs.length rc)) = X9 at *
              have BW := E6.out.2.2.2.2.2.2
              refine hK.out _ _ (KK.out _ BW) (fun hHeld => ?_)
              clear hK K
              try simp only [List.getElem_toArray, List.getElem_cons_zero, List.getElem_cons_succ, Act.put, List.setIfInBounds_toArray, List.set_cons_zero, List.set_cons_succ]
              refine wpAnyH_take (i := 12) (v := .bool true) rfl (by kernel_rfl) (by kernel_rfl) (by kernel_rfl) (fun _ _ _ h => h) (Or.inl ⟨by first | rfl | go_simp, by intro w9 hSw; (try dsimp only at hSw); go_simp⟩) (by assumption) ?_
              simp only [List.getElem_toArray, List.getElem_cons_zero, List.getElem_cons_succ, Act.put, List.setIfInBounds_toArray, List.set_cons_zero, List.set_cons_succ]
              refine wpAnyH_done (by kernel_rfl) ?_ _
              go_wp2_with fail
              go_meet
              exact ⟨_, RA, rc, rfl, rfl, E6.out.1, E6.out.2.1, E6.out.2.2.1, E6.out.2.2.2.1, E6.out.2.2.2.2.1, E6.out.2.2.2.2.2.1, by first | exact jR.out | exact new_ints jR.out, BW⟩
          · skip
            go_simp
            have b1 := (Below.refl _ X2).alloc (Nat.le_refl _) (.cells #[.int .i64 0, .int .i64 0, .int .i64 0, .int .i64 0, .int .i64 0, .slice none 0 0] 46)
            have RB := Blk.fresh X2 46 #[.int .i64 0, .int .i64 0, .int .i64 0, .int .i64 0, .int .i64 0, .slice none 0 0]
            have hG := BW.size
            generalize X2.alloc (.cells #[.int .i64 0, .int .i64 0, .int .i64 0, .int .i64 0, .int .i64 0, .slice none 0 0] 46) = X10 at *
            have BW := thenB BW b1
            have MO := MO.later b1
            have LT := LT.later b1
            refine hK.out _ _ (KK.out _ BW) (fun hHeld => ?_)
            clear hK K
            try simp only [List.getElem_toArray, List.getElem_cons_zero, List.getElem_cons_succ, Act.put, List.setIfInBounds_toArray, List.set_cons_zero, List.set_cons_succ]
            refine wpAnyH_ready (rs := [4]) (by kernel_rfl) (by simp) ?_
            refine AllReadyH.cons rfl (fun K hK => ?_) (AllReadyH.nil)
            go_simp
            refine (HCp.out _ _ _ LT).mono ?_
            rintro e X11 ⟨A3, c3, l3, rfl, q1, q2, T3, b1⟩
            have BW := thenB BW b1
            have MO := MO.later b1
            have LT := LT.later b1
            have RB := RB.below b1 RB.lt
            refine hK.out _ _ (KK.out _ BW) (fun hHeld => ?_)
            clear hK K
            try simp only [List.getElem_toArray, List.getElem_cons_zero, List.getElem_cons_succ, Act.put, List.setIfInBounds_toArray, List.set_cons_zero, List.set_cons_succ]
            refine wpAnyH_ready (rs := [6]) (by kernel_rfl) (by simp) ?_
            refine AllReadyH.cons rfl (fun K hK => ?_) (AllReadyH.nil)
            go_simp
            have hRG := RB.lt
            refine (HHr.out _ _ _ _ _ q1 q2 MO T3).mono ?_
            rintro e X12 ⟨RA, rc, rfl, iN, b1⟩
            have BW := thenB BW b1
            have MO := MO.later b1
            have LT := LT.later b1
            have RB := RB.below b1 RB.lt
            have T3 := T3.later b1
            refine hK.out _ _ (KK.out _ BW) (fun hHeld => ?_)
            clear hK K
            try simp only [List.getElem_toArray, List.getElem_cons_zero, List.getElem_cons_succ, Act.put, List.setIfInBounds_toArray, List.set_cons_zero, List.set_cons_succ]
            refine wpAnyH_take (i := 7) (v := .tuple #[.agg #[.int .i64 i, .int .i64 d, .int .i64 1, .int .i64 s, .int .i64 en, .slice RA bs.length rc], .bool true]) rfl (by kernel_rfl) (by kernel_rfl) (by kernel_rfl) (fun _ _ _ h => h) (Or.inl ⟨by first | rfl | go_simp, by intro w9 hSw; (try dsimp only at hSw); go_simp⟩) (by assumption) ?_
            simp only [List.getElem_toArray, List.getElem_cons_zero, List.getElem_cons_succ, Act.put, List.setIfInBounds_toArray, List.set_cons_zero, List.set_cons_succ]
            refine wpAnyH_take (i := 8) (v := .agg #[.int .i64 i, .int .i64 d, .int .i64 1, .int .i64 s, .int .i64 en, .slice RA bs.length rc]) rfl (by kernel_rfl) (by kernel_rfl) (by kernel_rfl) (fun _ _ _ h => h) (Or.inl ⟨by first | rfl | go_simp, by intro w9 hSw; (try dsimp only at hSw); go_simp⟩) (by assumption) ?_
            simp only [List.getElem_toArray, List.getElem_cons_zero, List.getElem_cons_succ, Act.put, List.setIfInBounds_toArray, List.set_cons_zero, List.set_cons_succ]
            refine wpAnyH_take (i := 9) (v := .bool true) rfl (by kernel_rfl) (by kernel_rfl) (by kernel_rfl) (fun _ _ _ h => h) (Or.inl ⟨by first | rfl | go_simp, by intro w9 hSw; (try dsimp only at hSw); go_simp⟩) (by assumption) ?_
            simp only [List.getElem_toArray, List.getElem_cons_zero, List.getElem_cons_succ, Act.put, List.setIfInBounds_toArray, List.set_cons_zero, List.set_cons_succ]
            refine wpAnyH_ready (rs := [11]) (by kernel_rfl) (by simp) ?_
            refine AllReadyH.cons rfl (fun K hK => ?_) (AllReadyH.nil)
            obtain ⟨r0, r1, r2, r3, r4, r5, z0, z1, z2, z3, z4, z5⟩ := blk_six RB
            obtain ⟨⟨e0, e1, e2, e3, e4, e5⟩, _, bY⟩ := leaf_six (.int .i64 i) (.int .i64 d) (.int .i64 1) (.int .i64 s) (.int .i64 en) (.slice RA bs.length rc) RB BW hG
            skip
            have E6 := Lib.hid (And.intro e0 (And.intro e1 (And.intro e2 (And.intro e3 (And.intro e4 (And.intro e5 bY))))))
            have jR := Lib.hid (new_set6 (.int .i64 i) (.int .i64 d) (.int .i64 1) (.int .i64 s) (.int .i64 en) (.slice RA bs.length rc) iN (g := X2.heap.size) hRG)
            clear e0 e1 e2 e3 e4 e5 bY
            go_simp
            generalize ((((((X12.setCell ⟨X2.heap.size, 0, none⟩ (.int .i64 i)).setCell ⟨X2.heap.size, 1, none⟩ (.int .i64 d)).setCell ⟨X2.heap.size, 2, none⟩ (.int .i64 1)).setCell ⟨X2.heap.size, 3, none⟩ (.int .i64 s)).setCell ⟨X2.heap.size, 4, none⟩ (.int .i64 en)).setCell ⟨X2.heap.size, 5, none⟩ (.slice RA bs.length rc)) = X13 at *
            have BW := E6.out.2.2.2.2.2.2
            refine hK.out _ _ (KK.out _ BW) (fun hHeld => ?_)
            clear hK K
            try simp only [List.getElem_toArray, List.getElem_cons_zero, List.getElem_cons_succ, Act.put, List.setIfInBounds_toArray, List.set_cons_zero, List.set_cons_succ]
            refine wpAnyH_take (i := 12) (v := .bool true) rfl (by kernel_rfl) (by kernel_rfl) (by kernel_rfl) (fun _ _ _ h => h) (Or.inl ⟨by first | rfl | go_simp, by intro w9 hSw; (try dsimp only at hSw); go_simp⟩) (by assumption) ?_
            simp only [List.getElem_toArray, List.getElem_cons_zero, List.getElem_cons_succ, Act.put, List.setIfInBounds_toArray, List.set_cons_zero, List.set_cons_succ]
            refine wpAnyH_done (by kernel_rfl) ?_ _
            go_wp2_with fail
            go_meet
            exact ⟨_, RA, rc, rfl, rfl, E6.out.1, E6.out.2.1, E6.out.2.2.1, E6.out.2.2.2.1, E6.out.2.2.2.2.1, E6.out.2.2.2.2.2.1, by first | exact jR.out | exact new_ints jR.out, BW⟩
        · skip
          go_simp
          have b1 := (Below.refl _ X1).alloc (Nat.le_refl _) (.cells #[.int .i64 0, .int .i64 0, .int .i64 0, .int .i64 0, .int .i64 0, .slice none 0 0] 46)
          have RB := Blk.fresh X1 46 #[.int .i64 0, .int .i64 0, .int .i64 0, .int .i64 0, .int .i64 0, .slice none 0 0]
          have hG := BW.size
          generalize X1.alloc (.cells #[.int .i64 0, .int .i64 0, .int .i64 0, .int .i64 0, .int .i64 0, .slice none 0 0] 46) = X14 at *
          have BW := thenB BW b1
          have MO := MO.later b1
          refine hK.out _ _ (KK.out _ BW) (fun hHeld => ?_)
          clear hK K
          try simp only [List.getElem_toArray, List.getElem_cons_zero, List.getElem_cons_succ, Act.put, List.setIfInBounds_toArray, List.set_cons_zero, List.set_cons_succ]
          refine wpAnyH_ready (rs := [3]) (by kernel_rfl) (by simp) ?_
          refine AllReadyH.cons rfl (fun K hK => ?_) (AllReadyH.nil)
          go_simp
          have b1 := (Below.refl _ X14).alloc (Nat.le_refl _) (.cells #[.int .i64 i, .int .i64 f, .int .i64 h, .int .i64 s, .slice TA bs.length tc] 24)
          have LT := lit_txs (⟨i, f, h, s, TA, tc, bs⟩ : Tx) X14 (hown.out _ BW) (e := 24)
          generalize X14.alloc (.cells #[.int .i64 i, .int .i64 f, .int .i64 h, .int .i64 s, .slice TA bs.length tc] 24) = X15 at *
          have BW := thenB BW b1
          have MO := MO.later b1
          have RB := RB.below b1 RB.lt
          refine hK.out _ _ (KK.out _ BW) (fun hHeld => ?_)
          clear hK K
          try simp only [List.getElem_toArray, List.getElem_cons_zero, List.getElem_cons_succ, Act.put, List.setIfInBounds_toArray, List.set_cons_zero, List.set_cons_succ]
          refine wpAnyH_ready (rs := [4]) (by kernel_rfl) (by simp) ?_
          refine AllReadyH.cons rfl (fun K hK => ?_) (AllReadyH.nil)
          go_simp
          refine (HCp.out _ _ _ LT).mono ?_
          rintro e X16 ⟨A3, c3, l3, rfl, q1, q2, T3, b1⟩
          have BW := thenB BW b1
          have MO := MO.later b1
          have RB := RB.below b1 RB.lt
          have LT := LT.later b1
          refine hK.out _ _ (KK.out _ BW) (fun hHeld => ?_)
          clear hK K
          try simp only [List.getElem_toArray, List.getElem_cons_zero, List.getElem_cons_succ, Act.put, List.setIfInBounds_toArray, List.set_cons_zero, List.set_cons_succ]
          refine wpAnyH_ready (rs := [6]) (by kernel_rfl) (by simp) ?_
          refine AllReadyH.cons rfl (fun K hK => ?_) (AllReadyH.nil)
          go_simp
          have hRG := RB.lt
          refine (HHr.out _ _ _ _ _ q1 q2 MO T3).mono ?_
          rintro e X17 ⟨RA, rc, rfl, iN, b1⟩
          have BW := thenB BW b1
          have MO := MO.later b1
          have RB := RB.below b1 RB.lt
          have LT := LT.later b1
          have T3 := T3.later b1
          refine hK.out _ _ (KK.out _ BW) (fun hHeld => ?_)
          clear hK K
          try simp only [List.getElem_toArray, List.getElem_cons_zero, List.getElem_cons_succ, Act.put, List.setIfInBounds_toArray, List.set_cons_zero, List.set_cons_succ]
          refine wpAnyH_take (i := 7) (v := .tuple #[.agg #[.int .i64 i, .int .i64 d, .int .i64 1, .int .i64 s, .int .i64 en, .slice RA bs.length rc], .bool true]) rfl (by kernel_rfl) (by kernel_rfl) (by kernel_rfl) (fun _ _ _ h => h) (Or.inl ⟨by first | rfl | go_simp, by intro w9 hSw; (try dsimp only at hSw); go_simp⟩) (by assumption) ?_
          simp only [List.getElem_toArray, List.getElem_cons_zero, List.getElem_cons_succ, Act.put, List.setIfInBounds_toArray, List.set_cons_zero, List.set_cons_succ]
          refine wpAnyH_take (i := 8) (v := .agg #[.int .i64 i, .int .i64 d, .int .i64 1, .int .i64 s, .int .i64 en, .slice RA bs.length rc]) rfl (by kernel_rfl) (by kernel_rfl) (by kernel_rfl) (fun _ _ _ h => h) (Or.inl ⟨by first | rfl | go_simp, by intro w9 hSw; (try dsimp only at hSw); go_simp⟩) (by assumption) ?_
          simp only [List.getElem_toArray, List.getElem_cons_zero, List.getElem_cons_succ, Act.put, List.setIfInBounds_toArray, List.set_cons_zero, List.set_cons_succ]
          refine wpAnyH_take (i := 9) (v := .bool true) rfl (by kernel_rfl) (by kernel_rfl) (by kernel_rfl) (fun _ _ _ h => h) (Or.inl ⟨by first | rfl | go_simp, by intro w9 hSw; (try dsimp only at hSw); go_simp⟩) (by assumption) ?_
          simp only [List.getElem_toArray, List.getElem_cons_zero, List.getElem_cons_succ, Act.put, List.setIfInBounds_toArray, List.set_cons_zero, List.set_cons_succ]
          refine wpAnyH_ready (rs := [11]) (by kernel_rfl) (by simp) ?_
          refine AllReadyH.cons rfl (fun K hK => ?_) (AllReadyH.nil)
          obtain ⟨r0, r1, r2, r3, r4, r5, z0, z1, z2, z3, z4, z5⟩ := blk_six RB
          obtain ⟨⟨e0, e1, e2, e3, e4, e5⟩, _, bY⟩ := leaf_six (.int .i64 i) (.int .i64 d) (.int .i64 1) (.int .i64 s) (.int .i64 en) (.slice RA bs.length rc) RB BW hG
          skip
          have E6 := Lib.hid (And.intro e0 (And.intro e1 (And.intro e2 (And.intro e3 (And.intro e4 (And.intro e5 bY))))))
          have jR := Lib.hid (new_set6 (.int .i64 i) (.int .i64 d) (.int .i64 1) (.int .i64 s) (.int .i64 en) (.slice RA bs.length rc) iN (g := X1.heap.size) hRG)
          clear e0 e1 e2 e3 e4 e5 bY
          go_simp
          generalize ((((((X17.setCell ⟨X1.heap.size, 0, none⟩ (.int .i64 i)).setCell ⟨X1.heap.size, 1, none⟩ (.int .i64 d)).setCell ⟨X1.heap.size, 2, none⟩ (.int .i64 1)).setCell ⟨X1.heap.size, 3, none⟩ (.int .i64 s)).setCell ⟨X1.heap.size, 4, none⟩ (.int .i64 en)).setCell ⟨X1.heap.size, 5, none⟩ (.slice RA bs.length rc)) = X18 at *
          have BW := E6.out.2.2.2.2.2.2
          refine hK.out _ _ (KK.out _ BW) (fun hHeld => ?_)
          clear hK K
          try simp only [List.getElem_toArray, List.getElem_cons_zero, List.getElem_cons_succ, Act.put, List.setIfInBounds_toArray, List.set_cons_zero, List.set_cons_succ]
          refine wpAnyH_take (i := 12) (v := .bool true) rfl (by kernel_rfl) (by kernel_rfl) (by kernel_rfl) (fun _ _ _ h => h) (Or.inl ⟨by first | rfl | go_simp, by intro w9 hSw; (try dsimp only at hSw); go_simp⟩) (by assumption) ?_
          simp only [List.getElem_toArray, List.getElem_cons_zero, List.getElem_cons_succ, Act.put, List.setIfInBounds_toArray, List.set_cons_zero, List.set_cons_succ]
          refine wpAnyH_done (by kernel_rfl) ?_ _
          go_wp2_with fail
          go_meet
          exact ⟨_, RA, rc, rfl, rfl, E6.out.1, E6.out.2.1, E6.out.2.2.1, E6.out.2.2.2.1, E6.out.2.2.2.2.1, E6.out.2.2.2.2.2.1, by first | exact jR.out | exact new_ints jR.out, BW⟩
      · skip
        go_simp
        have b1 := (Below.refl _ X0).alloc (Nat.le_refl _) (.cells #[.int .i64 i, .int .i64 f, .int .i64 h, .int .i64 s, .slice TA bs.length tc] 24)
        have LT := lit_txs (⟨i, f, h, s, TA, tc, bs⟩ : Tx) X0 (hown.out _ BW) (e := 24)
        generalize X0.alloc (.cells #[.int .i64 i, .int .i64 f, .int .i64 h, .int .i64 s, .slice TA bs.length tc] 24) = X19 at *
        have BW := thenB BW b1
        refine hK.out _ _ (KK.out _ BW) (fun hHeld => ?_)
        clear hK K
        try simp only [List.getElem_toArray, List.getElem_cons_zero, List.getElem_cons_succ, Act.put, List.setIfInBounds_toArray, List.set_cons_zero, List.set_cons_succ]
        refine wpAnyH_ready (rs := [1, 10]) (by kernel_rfl) (by simp) ?_
        refine AllReadyH.cons rfl (fun K hK => ?_) (AllReadyH.cons rfl (fun K hK => ?_) (AllReadyH.nil))
        · skip
          go_simp
          refine (HOwn.out _ (hM.later BW)).mono ?_
          rintro e X20 ⟨p1, rfl, MO, b1⟩
          have BW := thenB BW b1
          have LT := LT.later b1
          refine hK.out _ _ (KK.out _ BW) (fun hHeld => ?_)
          clear hK K
          try simp only [List.getElem_toArray, List.getElem_cons_zero, List.getElem_cons_succ, Act.put, List.setIfInBounds_toArray, List.set_cons_zero, List.set_cons_succ]
          refine wpAnyH_ready (rs := [4, 10]) (by kernel_rfl) (by simp) ?_
          refine AllReadyH.cons rfl (fun K hK => ?_) (AllReadyH.cons rfl (fun K hK => ?_) (AllReadyH.nil))
          · skip
            go_simp
            refine (HCp.out _ _ _ LT).mono ?_
            rintro e X21 ⟨A3, c3, l3, rfl, q1, q2, T3, b1⟩
            have BW := thenB BW b1
            have LT := LT.later b1
            have MO := MO.later b1
            refine hK.out _ _ (KK.out _ BW) (fun hHeld => ?_)
            clear hK K
            try simp only [List.getElem_toArray, List.getElem_cons_zero, List.getElem_cons_succ, Act.put, List.setIfInBounds_toArray, List.set_cons_zero, List.set_cons_succ]
            refine wpAnyH_ready (rs := [6, 10]) (by kernel_rfl) (by simp) ?_
            refine AllReadyH.cons rfl (fun K hK => ?_) (AllReadyH.cons rfl (fun K hK => ?_) (AllReadyH.nil))
            · skip
              go_simp
              refine (HHr.out _ _ _ _ _ q1 q2 MO T3).mono ?_
              rintro e X22 ⟨RA, rc, rfl, iN, b1⟩
              have iR := new_ints iN
              have BW := thenB BW b1
              have LT := LT.later b1
              have MO := MO.later b1
              have T3 := T3.later b1
              refine hK.out _ _ (KK.out _ BW) (fun hHeld => ?_)
              clear hK K
              try simp only [List.getElem_toArray, List.getElem_cons_zero, List.getElem_cons_succ, Act.put, List.setIfInBounds_toArray, List.set_cons_zero, List.set_cons_succ]
              refine wpAnyH_take (i := 7) (v := .tuple #[.agg #[.int .i64 i, .int .i64 d, .int .i64 1, .int .i64 s, .int .i64 en, .slice RA bs.length rc], .bool true]) rfl (by kernel_rfl) (by kernel_rfl) (by kernel_rfl) (fun _ _ _ h => h) (Or.inl ⟨by first | rfl | go_simp, by intro w9 hSw; (try dsimp only at hSw); go_simp⟩) (by assumption) ?_
              simp only [List.getElem_toArray, List.getElem_cons_zero, List.getElem_cons_succ, Act.put, List.setIfInBounds_toArray, List.set_cons_zero, List.set_cons_succ]
              refine wpAnyH_take (i := 8) (v := .agg #[.int .i64 i, .int .i64 d, .int .i64 1, .int .i64 s, .int .i64 en, .slice RA bs.length rc]) rfl (by kernel_rfl) (by kernel_rfl) (by kernel_rfl) (fun _ _ _ h => h) (Or.inl ⟨by first | rfl | go_simp, by intro w9 hSw; (try dsimp only at hSw); go_simp⟩) (by assumption) ?_
              simp only [List.getElem_toArray, List.getElem_cons_zero, List.getElem_cons_succ, Act.put, List.setIfInBounds_toArray, List.set_cons_zero, List.set_cons_succ]
              refine wpAnyH_take (i := 9) (v := .bool true) rfl (by kernel_rfl) (by kernel_rfl) (by kernel_rfl) (fun _ _ _ h => h) (Or.inl ⟨by first | rfl | go_simp, by intro w9 hSw; (try dsimp only at hSw); go_simp⟩) (by assumption) ?_
              simp only [List.getElem_toArray, List.getElem_cons_zero, List.getElem_cons_succ, Act.put, List.setIfInBounds_toArray, List.set_cons_zero, List.set_cons_succ]
              refine wpAnyH_ready (rs := [10]) (by kernel_rfl) (by simp) ?_
              refine AllReadyH.cons rfl (fun K hK => ?_) (AllReadyH.nil)
              go_simp
              have b1 := (Below.refl _ X22).alloc (Nat.le_refl _) (.cells #[.int .i64 0, .int .i64 0, .int .i64 0, .int .i64 0, .int .i64 0, .slice none 0 0] 46)
              have RB := Blk.fresh X22 46 #[.int .i64 0, .int .i64 0, .int .i64 0, .int .i64 0, .int .i64 0, .slice none 0 0]
              have hG := BW.size
              have iG := iR.below b1
              generalize X22.alloc (.cells #[.int .i64 0, .int .i64 0, .int .i64 0, .int .i64 0, .int .i64 0, .slice none 0 0] 46) = X23 at *
              have BW := thenB BW b1
              have LT := LT.later b1
              have MO := MO.later b1
              have T3 := T3.later b1
              refine hK.out _ _ (KK.out _ BW) (fun hHeld => ?_)
              clear hK K
              try simp only [List.getElem_toArray, List.getElem_cons_zero, List.getElem_cons_succ, Act.put, List.setIfInBounds_toArray, List.set_cons_zero, List.set_cons_succ]
              refine wpAnyH_ready (rs := [11]) (by kernel_rfl) (by simp) ?_
              refine AllReadyH.cons rfl (fun K hK => ?_) (AllReadyH.nil)
              obtain ⟨r0, r1, r2, r3, r4, r5, z0, z1, z2, z3, z4, z5⟩ := blk_six RB
              obtain ⟨⟨e0, e1, e2, e3, e4, e5⟩, _, bY⟩ := leaf_six (.int .i64 i) (.int .i64 d) (.int .i64 1) (.int .i64 s) (.int .i64 en) (.slice RA bs.length rc) RB BW hG
              skip
              have E6 := Lib.hid (And.intro e0 (And.intro e1 (And.intro e2 (And.intro e3 (And.intro e4 (And.intro e5 bY))))))
              have jR := Lib.hid (ints_set6 (.int .i64 i) (.int .i64 d) (.int .i64 1) (.int .i64 s) (.int .i64 en) (.slice RA bs.length rc) iG (g := X22.heap.size) (Nat.le_refl _) (Nat.le_of_lt RB.lt))
              clear e0 e1 e2 e3 e4 e5 bY
              go_simp
              generalize ((((((X23.setCell ⟨X22.heap.size, 0, none⟩ (.int .i64 i)).setCell ⟨X22.heap.size, 1, none⟩ (.int .i64 d)).setCell ⟨X22.heap.size, 2, none⟩ (.int .i64 1)).setCell ⟨X22.heap.size, 3, none⟩ (.int .i64 s)).setCell ⟨X22.heap.size, 4, none⟩ (.int .i64 en)).setCell ⟨X22.heap.size, 5, none⟩ (.slice RA bs.length rc)) = X24 at *
              have BW := E6.out.2.2.2.2.2.2
              refine hK.out _ _ (KK.out _ BW) (fun hHeld => ?_)
              clear hK K
              try simp only [List.getElem_toArray, List.getElem_cons_zero, List.getElem_cons_succ, Act.put, List.setIfInBounds_toArray, List.set_cons_zero, List.set_cons_succ]
              refine wpAnyH_take (i := 12) (v := .bool true) rfl (by kernel_rfl) (by kernel_rfl) (by kernel_rfl) (fun _ _ _ h => h) (Or.inl ⟨by first | rfl | go_simp, by intro w9 hSw; (try dsimp only at hSw); go_simp⟩) (by assumption) ?_
              simp only [List.getElem_toArray, List.getElem_cons_zero, List.getElem_cons_succ, Act.put, List.setIfInBounds_toArray, List.set_cons_zero, List.set_cons_succ]
              refine wpAnyH_done (by kernel_rfl) ?_ _
              go_wp2_with fail
              go_meet
              exact ⟨_, RA, rc, rfl, rfl, E6.out.1, E6.out.2.1, E6.out.2.2.1, E6.out.2.2.2.1, E6.out.2.2.2.2.1, E6.out.2.2.2.2.2.1, by first | exact jR.out | exact new_ints jR.out, BW⟩
            · skip
              go_simp
              have b1 := (Below.refl _ X21).alloc (Nat.le_refl _) (.cells #[.int .i64 0, .int .i64 0, .int .i64 0, .int .i64 0, .int .i64 0, .slice none 0 0] 46)
              have RB := Blk.fresh X21 46 #[.int .i64 0, .int .i64 0, .int .i64 0, .int .i64 0, .int .i64 0, .slice none 0 0]
              have hG := BW.size
              generalize X21.alloc (.cells #[.int .i64 0, .int .i64 0, .int .i64 0, .int .i64 0, .int .i64 0, .slice none 0 0] 46) = X25 at *
              have BW := thenB BW b1
              have LT := LT.later b1
              have MO := MO.later b1
              have T3 := T3.later b1
              refine hK.out _ _ (KK.out _ BW) (fun hHeld => ?_)
              clear hK K
              try simp only [List.getElem_toArray, List.getElem_cons_zero, List.getElem_cons_succ, Act.put, List.setIfInBounds_toArray, List.set_cons_zero, List.set_cons_succ]
              refine wpAnyH_ready (rs := [6]) (by kernel_rfl) (by simp) ?_
              refine AllReadyH.cons rfl (fun K hK => ?_) (AllReadyH.nil)
              go_simp
              have hRG := RB.lt
              refine (HHr.out _ _ _ _ _ q1 q2 MO T3).mono ?_
              rintro e X26 ⟨RA, rc, rfl, iN, b1⟩
              have BW := thenB BW b1
              have LT := LT.later b1
              have MO := MO.later b1
              have T3 := T3.later b1
              have RB := RB.below b1 RB.lt
              refine hK.out _ _ (KK.out _ BW) (fun hHeld => ?_)
              clear hK K
              try simp only [List.getElem_toArray, List.getElem_cons_zero, List.getElem_cons_succ, Act.put, List.setIfInBounds_toArray, List.set_cons_zero, List.set_cons_succ]
              refine wpAnyH_take (i := 7) (v := .tuple #[.agg #[.int .i64 i, .int .i64 d, .int .i64 1, .int .i64 s, .int .i64 en, .slice RA bs.length rc], .bool true]) rfl (by kernel_rfl) (by kernel_rfl) (by kernel_rfl) (fun _ _ _ h => h) (Or.inl ⟨by first | rfl | go_simp, by intro w9 hSw; (try dsimp only at hSw); go_simp⟩) (by assumption) ?_
              simp only [List.getElem_toArray, List.getElem_cons_zero, List.getElem_cons_succ, Act.put, List.setIfInBounds_toArray, List.set_cons_zero, List.set_cons_succ]
              refine wpAnyH_take (i := 8) (v := .agg #[.int .i64 i, .int .i64 d, .int .i64 1, .int .i64 s, .int .i64 en, .slice RA bs.length rc]) rfl (by kernel_rfl) (by kernel_rfl) (by kernel_rfl) (fun _ _ _ h => h) (Or.inl ⟨by first | rfl | go_simp, by intro w9 hSw; (try dsimp only at hSw); go_simp⟩) (by assumption) ?_
              simp only [List.getElem_toArray, List.getElem_cons_zero, List.getElem_cons_succ, Act.put, List.setIfInBounds_toArray, List.set_cons_zero, List.set_cons_succ]
              refine wpAnyH_take (i := 9) (v := .bool true) rfl (by kernel_rfl) (by kernel_rfl) (by kernel_rfl) (fun _ _ _ h => h) (Or.inl ⟨by first | rfl | go_simp, by intro w9 hSw; (try dsimp only at hSw); go_simp⟩) (by assumption) ?_
              simp only [List.getElem_toArray, List.getElem_cons_zero, List.getElem_cons_succ, Act.put, List.setIfInBounds_toArray, List.set_cons_zero, List.set_cons_succ]
              refine wpAnyH_ready (rs := [11]) (by kernel_rfl) (by simp) ?_
              refine AllReadyH.cons rfl (fun K hK => ?_) (AllReadyH.nil)
              obtain ⟨r0, r1, r2, r3, r4, r5, z0, z1, z2, z3, z4, z5⟩ := blk_six RB
              obtain ⟨⟨e0, e1, e2, e3, e4, e5⟩, _, bY⟩ := leaf_six (.int .i64 i) (.int .i64 d) (.int .i64 1) (.int .i64 s) (.int .i64 en) (.slice RA bs.length rc) RB BW hG
              skip
              have E6 := Lib.hid (And.intro e0 (And.intro e1 (And.intro e2 (And.intro e3 (And.intro e4 (And.intro e5 bY))))))
              have jR := Lib.hid (new_set6 (.int .i64 i) (.int .i64 d) (.int .i64 1) (.int .i64 s) (.int .i64 en) (.slice RA bs.length rc) iN (g := X21.heap.size) hRG)
              clear e0 e1 e2 e3 e4 e5 bY
              go_simp
              generalize ((((((X26.setCell ⟨X21.heap.size, 0, none⟩ (.int .i64 i)).setCell ⟨X21.heap.size, 1, none⟩ (.int .i64 d)).setCell ⟨X21.heap.size, 2, none⟩ (.int .i64 1)).setCell ⟨X21.heap.size, 3, none⟩ (.int .i64 s)).setCell ⟨X21.heap.size, 4, none⟩ (.int .i64 en)).setCell ⟨X21.heap.size, 5, none⟩ (.slice RA bs.length rc)) = X27 at *
              have BW := E6.out.2.2.2.2.2.2
              refine hK.out _ _ (KK.out _ BW) (fun hHeld => ?_)
              clear hK K
              try simp only [List.getElem_toArray, List.getElem_cons_zero, List.getElem_cons_succ, Act.put, List.setIfInBounds_toArray, List.set_cons_zero, List.set_cons_succ]
              refine wpAnyH_take (i := 12) (v := .bool true) rfl (by kernel_rfl) (by kernel_rfl) (by kernel_rfl) (fun _ _ _ h => h) (Or.inl ⟨by first | rfl | go_simp, by intro w9 hSw; (try dsimp only at hSw); go_simp⟩) (by assumption) ?_
              simp only [List.getElem_toArray, List.getElem_cons_zero, List.getElem_cons_succ, Act.put, List.setIfInBounds_toArray, List.set_cons_zero, List.set_cons_succ]
              refine wpAnyH_done (by kernel_rfl) ?_ _
              go_wp2_with fail
              go_meet
              exact ⟨_, RA, rc, rfl, rfl, E6.out.1, E6.out.2.1, E6.out.2.2.1, E6.out.2.2.2.1, E6.out.2.2.2.2.1, E6.out.2.2.2.2.2.1, by first | exact jR.out | exact new_ints jR.out, BW⟩
          · skip
            go_simp
            have b1 := (Below.refl _ X20).alloc (Nat.le_refl _) (.cells #[.int .i64 0, .int .i64 0, .int .i64 0, .int .i64 0, .int .i64 0, .slice none 0 0] 46)
            have RB := Blk.fresh X20 46 #[.int .i64 0, .int .i64 0, .int .i64 0, .int .i64 0, .int .i64 0, .slice none 0 0]
            have hG := BW.size
            generalize X20.alloc (.cells #[.int .i64 0, .int .i64 0, .int .i64 0, .int .i64 0, .int .i64 0, .slice none 0 0] 46) = X28 at *
            have BW := thenB BW b1
            have LT := LT.later b1
            have MO := MO.later b1
            refine hK.out _ _ (KK.out _ BW) (fun hHeld => ?_)
            clear hK K
            try simp only [List.getElem_toArray, List.getElem_cons_zero, List.getElem_cons_succ, Act.put, List.setIfInBounds_toArray, List.set_cons_zero, List.set_cons_succ]
            refine wpAnyH_ready (rs := [4]) (by kernel_rfl) (by simp) ?_
            refine AllReadyH.cons rfl (fun K hK => ?_) (AllReadyH.nil)
            go_simp
            refine (HCp.out _ _ _ LT).mono ?_
            rintro e X29 ⟨A3, c3, l3, rfl, q1, q2, T3, b1⟩
            have BW := thenB BW b1
            have LT := LT.later b1
            have MO := MO.later b1
            have RB := RB.below b1 RB.lt
            refine hK.out _ _ (KK.out _ BW) (fun hHeld => ?_)
            clear hK K
            try simp only [List.getElem_toArray, List.getElem_cons_zero, List.getElem_cons_succ, Act.put, List.setIfInBounds_toArray, List.set_cons_zero, List.set_cons_succ]
            refine wpAnyH_ready (rs := [6]) (by kernel_rfl) (by simp) ?_
            refine AllReadyH.cons rfl (fun K hK => ?_) (AllReadyH.nil)
            go_simp
            have hRG := RB.lt
            refine (HHr.out _ _ _ _ _ q1 q2 MO T3).mono ?_
            rintro e X30 ⟨RA, rc, rfl, iN, b1⟩
            have BW := thenB BW b1
            have LT := LT.later b1
            have MO := MO.later b1
            have RB := RB.below b1 RB.lt
            have T3 := T3.later b1
            refine hK.out _ _ (KK.out _ BW) (fun hHeld => ?_)
            clear hK K
            try simp only [List.getElem_toArray, List.getElem_cons_zero, List.getElem_cons_succ, Act.put, List.setIfInBounds_toArray, List.set_cons_zero, List.set_cons_succ]
            refine wpAnyH_take (i := 7) (v := .tuple #[.agg #[.int .i64 i, .int .i64 d, .int .i64 1, .int .i64 s, .int .i64 en, .slice RA bs.length rc], .bool true]) rfl (by kernel_rfl) (by kernel_rfl) (by kernel_rfl) (fun _ _ _ h => h) (Or.inl ⟨by first | rfl | go_simp, by intro w9 hSw; (try dsimp only at hSw); go_simp⟩) (by assumption) ?_
            simp only [List.getElem_toArray, List.getElem_cons_zero, List.getElem_cons_succ, Act.put, List.setIfInBounds_toArray, List.set_cons_zero, List.set_cons_succ]
            refine wpAnyH_take (i := 8) (v := .agg #[.int .i64 i, .int .i64 d, .int .i64 1, .int .i64 s, .int .i64 en, .slice RA bs.length rc]) rfl (by kernel_rfl) (by kernel_rfl) (by kernel_rfl) (fun _ _ _ h => h) (Or.inl ⟨by first | rfl | go_simp, by intro w9 hSw; (try dsimp only at hSw); go_simp⟩) (by assumption) ?_
            simp only [List.getElem_toArray, List.getElem_cons_zero, List.getElem_cons_succ, Act.put, List.setIfInBounds_toArray, List.set_cons_zero, List.set_cons_succ]
            refine wpAnyH_take (i := 9) (v := .bool true) rfl (by kernel_rfl) (by kernel_rfl) (by kernel_rfl) (fun _ _ _ h => h) (Or.inl ⟨by first | rfl | go_simp, by intro w9 hSw; (try dsimp only at hSw); go_simp⟩) (by assumption) ?_
            simp only [List.getElem_toArray, List.getElem_cons_zero, List.getElem_cons_succ, Act.put, List.setIfInBounds_toArray, List.set_cons_zero, List.set_cons_succ]
            refine wpAnyH_ready (rs := [11]) (by kernel_rfl) (by simp) ?_
            refine AllReadyH.cons rfl (fun K hK => ?_) (AllReadyH.nil)
            obtain ⟨r0, r1, r2, r3, r4, r5, z0, z1, z2, z3, z4, z5⟩ := blk_six RB
            obtain ⟨⟨e0, e1, e2, e3, e4, e5⟩, _, bY⟩ := leaf_six (.int .i64 i) (.int .i64 d) (.int .i64 1) (.int .i64 s) (.int .i64 en) (.slice RA bs.length rc) RB BW hG
            skip
            have E6 := Lib.hid (And.intro e0 (And.intro e1 (And.intro e2 (And.intro e3 (And.intro e4 (And.intro e5 bY))))))
            have jR := Lib.hid (new_set6 (.int .i64 i) (.int .i64 d) (.int .i64 1) (.int .i64 s) (.int .i64 en) (.slice RA bs.length rc) iN (g := X20.heap.size) hRG)
            clear e0 e1 e2 e3 e4 e5 bY
            go_simp
            generalize ((((((X30.setCell ⟨X20.heap.size, 0, none⟩ (.int .i64 i)).setCell ⟨X20.heap.size, 1, none⟩ (.int .i64 d)).setCell ⟨X20.heap.size, 2, none⟩ (.int .i64 1)).setCell ⟨X20.heap.size, 3, none⟩ (.int .i64 s)).setCell ⟨X20.heap.size, 4, none⟩ (.int .i64 en)).setCell ⟨X20.heap.size, 5, none⟩ (.slice RA bs.length rc)) = X31 at *
            have BW := E6.out.2.2.2.2.2.2
            refine hK.out _ _ (KK.out _ BW) (fun hHeld => ?_)
            clear hK K
            try simp only [List.getElem_toArray, List.getElem_cons_zero, List.getElem_cons_succ, Act.put, List.setIfInBounds_toArray, List.set_cons_zero, List.set_cons_succ]
            refine wpAnyH_take (i := 12) (v := .bool true) rfl (by kernel_rfl) (by kernel_rfl) (by kernel_rfl) (fun _ _ _ h => h) (Or.inl ⟨by first | rfl | go_simp, by intro w9 hSw; (try dsimp only at hSw); go_simp⟩) (by assumption) ?_
            simp only [List.getElem_toArray, List.getElem_cons_zero, List.getElem_cons_succ, Act.put, List.setIfInBounds_toArray, List.set_cons_zero, List.set_cons_succ]
            refine wpAnyH_done (by kernel_rfl) ?_ _
            go_wp2_with fail
            go_meet
            exact ⟨_, RA, rc, rfl, rfl, E6.out.1, E6.out.2.1, E6.out.2.2.1, E6.out.2.2.2.1, E6.out.2.2.2.2.1, E6.out.2.2.2.2.2.1, by first | exact jR.out | exact new_ints jR.out, BW⟩
        · skip
          go_simp
          have b1 := (Below.refl _ X19).alloc (Nat.le_refl _) (.cells #[.int .i64 0, .int .i64 0, .int .i64 0, .int .i64 0, .int .i64 0, .slice none 0 0] 46)
          have RB := Blk.fresh X19 46 #[.int .i64 0, .int .i64 0, .int .i64 0, .int .i64 0, .int .i64 0, .slice none 0 0]
          have hG := BW.size
          generalize X19.alloc (.cells #[.int .i64 0, .int .i64 0, .int .i64 0, .int .i64 0, .int .i64 0, .slice none 0 0] 46) = X32 at *
          have BW := thenB BW b1
          have LT := LT.later b1
          refine hK.out _ _ (KK.out _ BW) (fun hHeld => ?_)
          clear hK K
          try simp only [List.getElem_toArray, List.getElem_cons_zero, List.getElem_cons_succ, Act.put, List.setIfInBounds_toArray, List.set_cons_zero, List.set_cons_succ]
          refine wpAnyH_ready (rs := [1]) (by kernel_rfl) (by simp) ?_
          refine AllReadyH.cons rfl (fun K hK => ?_) (AllReadyH.nil)
          go_simp
          refine (HOwn.out _ (hM.later BW)).mono ?_
          rintro e X33 ⟨p1, rfl, MO, b1⟩
          have BW := thenB BW b1
          have LT := LT.later b1
          have RB := RB.below b1 RB.lt
          refine hK.out _ _ (KK.out _ BW) (fun hHeld => ?_)
          clear hK K
          try simp only [List.getElem_toArray, List.getElem_cons_zero, List.getElem_cons_succ, Act.put, List.setIfInBounds_toArray, List.set_cons_zero, List.set_cons_succ]
          refine wpAnyH_ready (rs := [4]) (by kernel_rfl) (by simp) ?_
          refine AllReadyH.cons rfl (fun K hK => ?_) (AllReadyH.nil)
          go_simp
          refine (HCp.out _ _ _ LT).mono ?_
          rintro e X34 ⟨A3, c3, l3, rfl, q1, q2, T3, b1⟩
          have BW := thenB BW b1
          have LT := LT.later b1
          have RB := RB.below b1 RB.lt
          have MO := MO.later b1
          refine hK.out _ _ (KK.out _ BW) (fun hHeld => ?_)
          clear hK K
          try simp only [List.getElem_toArray, List.getElem_cons_zero, List.getElem_cons_succ, Act.put, List.setIfInBounds_toArray, List.set_cons_zero, List.set_cons_succ]
          refine wpAnyH_ready (rs := [6]) (by kernel_rfl) (by simp) ?_
          refine AllReadyH.cons rfl (fun K hK => ?_) (AllReadyH.nil)
          go_simp
          have hRG := RB.lt
          refine (HHr.out _ _ _ _ _ q1 q2 MO T3).mono ?_
          rintro e X35 ⟨RA, rc, rfl, iN, b1⟩
          have BW := thenB BW b1
          have LT := LT.later b1
          have RB := RB.below b1 RB.lt
          have MO := MO.later b1
          have T3 := T3.later b1
          refine hK.out _ _ (KK.out _ BW) (fun hHeld => ?_)
          clear hK K
          try simp only [List.getElem_toArray, List.getElem_cons_zero, List.getElem_cons_succ, Act.put, List.setIfInBounds_toArray, List.set_cons_zero, List.set_cons_succ]
          refine wpAnyH_take (i := 7) (v := .tuple #[.agg #[.int .i64 i, .int .i64 d, .int .i64 1, .int .i64 s, .int .i64 en, .slice RA bs.length rc], .bool true]) rfl (by kernel_rfl) (by kernel_rfl) (by kernel_rfl) (fun _ _ _ h => h) (Or.inl ⟨by first | rfl | go_simp, by intro w9 hSw; (try dsimp only at hSw); go_simp⟩) (by assumption) ?_
          simp only [List.getElem_toArray, List.getElem_cons_zero, List.getElem_cons_succ, Act.put, List.setIfInBounds_toArray, List.set_cons_zero, List.set_cons_succ]
          refine wpAnyH_take (i := 8) (v := .agg #[.int .i64 i, .int .i64 d, .int .i64 1, .int .i64 s, .int .i64 en, .slice RA bs.length rc]) rfl (by kernel_rfl) (by kernel_rfl) (by kernel_rfl) (fun _ _ _ h => h) (Or.inl ⟨by first | rfl | go_simp, by intro w9 hSw; (try dsimp only at hSw); go_simp⟩) (by assumption) ?_
          simp only [List.getElem_toArray, List.getElem_cons_zero, List.getElem_cons_succ, Act.put, List.setIfInBounds_toArray, List.set_cons_zero, List.set_cons_succ]
          refine wpAnyH_take (i := 9) (v := .bool true) rfl (by kernel_rfl) (by kernel_rfl) (by kernel_rfl) (fun _ _ _ h => h) (Or.inl ⟨by first | rfl | go_simp, by intro w9 hSw; (try dsimp only at hSw); go_simp⟩) (by assumption) ?_
          simp only [List.getElem_toArray, List.getElem_cons_zero, List.getElem_cons_succ, Act.put, List.setIfInBounds_toArray, List.set_cons_zero, List.set_cons_succ]
          refine wpAnyH_ready (rs := [11]) (by kernel_rfl) (by simp) ?_
          refine AllReadyH.cons rfl (fun K hK => ?_) (AllReadyH.nil)
          obtain ⟨r0, r1, r2, r3, r4, r5, z0, z1, z2, z3, z4, z5⟩ := blk_six RB
          obtain ⟨⟨e0, e1, e2, e3, e4, e5⟩, _, bY⟩ := leaf_six (.int .i64 i) (.int .i64 d) (.int .i64 1) (.int .i64 s) (.int .i64 en) (.slice RA bs.length rc) RB BW hG
          skip
          have E6 := Lib.hid (And.intro e0 (And.intro e1 (And.intro e2 (And.intro e3 (And.intro e4 (And.intro e5 bY))))))
          have jR := Lib.hid (new_set6 (.int .i64 i) (.int .i64 d) (.int .i64 1) (.int .i64 s) (.int .i64 en) (.slice RA bs.length rc) iN (g := X19.heap.size) hRG)
          clear e0 e1 e2 e3 e4 e5 bY
          go_simp
          generalize ((((((X35.setCell ⟨X19.heap.size, 0, none⟩ (.int .i64 i)).setCell ⟨X19.heap.size, 1, none⟩ (.int .i64 d)).setCell ⟨X19.heap.size, 2, none⟩ (.int .i64 1)).setCell ⟨X19.heap.size, 3, none⟩ (.int .i64 s)).setCell ⟨X19.heap.size, 4, none⟩ (.int .i64 en)).setCell ⟨X19.heap.size, 5, none⟩ (.slice RA bs.length rc)) = X36 at *
          have BW := E6.out.2.2.2.2.2.2
          refine hK.out _ _ (KK.out _ BW) (fun hHeld => ?_)
          clear hK K
          try simp only [List.getElem_toArray, List.getElem_cons_zero, List.getElem_cons_succ, Act.put, List.setIfInBounds_toArray, List.set_cons_zero, List.set_cons_succ]
          refine wpAnyH_take (i := 12) (v := .bool true) rfl (by kernel_rfl) (by kernel_rfl) (by kernel_rfl) (fun _ _ _ h => h) (Or.inl ⟨by first | rfl | go_simp, by intro w9 hSw; (try dsimp only at hSw); go_simp⟩) (by assumption) ?_
          simp only [List.getElem_toArray, List.getElem_cons_zero, List.getElem_cons_succ, Act.put, List.setIfInBounds_toArray, List.set_cons_zero, List.set_cons_succ]
          refine wpAnyH_done (by kernel_rfl) ?_ _
          go_wp2_with fail
          go_meet
          exact ⟨_, RA, rc, rfl, rfl, E6.out.1, E6.out.2.1, E6.out.2.2.1, E6.out.2.2.2.1, E6.out.2.2.2.2.1, E6.out.2.2.2.2.2.1, by first | exact jR.out | exact new_ints jR.out, BW⟩
      · skip
        go_simp
        have b1 := (Below.refl _ X0).alloc (Nat.le_refl _) (.cells #[.int .i64 0, .int .i64 0, .int .i64 0, .int .i64 0, .int .i64 0, .slice none 0 0] 46)
        have RB := Blk.fresh X0 46 #[.int .i64 0, .int .i64 0, .int .i64 0, .int .i64 0, .int .i64 0, .slice none 0 0]
        have hG := BW.size
        generalize X0.alloc (.cells #[.int .i64 0, .int .i64 0, .int .i64 0, .int .i64 0, .int .i64 0, .slice none 0 0] 46) = X37 at *
        have BW := thenB BW b1
        refine hK.out _ _ (KK.out _ BW) (fun hHeld => ?_)
        clear hK K
        try simp only [List.getElem_toArray, List.getElem_cons_zero, List.getElem_cons_succ, Act.put, List.setIfInBounds_toArray, List.set_cons_zero, List.set_cons_succ]
        refine wpAnyH_ready (rs := [1, 3]) (by kernel_rfl) (by simp) ?_
        refine AllReadyH.cons rfl (fun K hK => ?_) (AllReadyH.cons rfl (fun K hK => ?_) (AllReadyH.nil))
        · skip
          go_simp
          refine (HOwn.out _ (hM.later BW)).mono ?_
          rintro e X38 ⟨p1, rfl, MO, b1⟩
          have BW := thenB BW b1
          have RB := RB.below b1 RB.lt
          refine hK.out _ _ (KK.out _ BW) (fun hHeld => ?_)
          clear hK K
          try simp only [List.getElem_toArray, List.getElem_cons_zero, List.getElem_cons_succ, Act.put, List.setIfInBounds_toArray, List.set_cons_zero, List.set_cons_succ]
          refine wpAnyH_ready (rs := [3]) (by kernel_rfl) (by simp) ?_
          refine AllReadyH.cons rfl (fun K hK => ?_) (AllReadyH.nil)
          go_simp
          have b1 := (Below.refl _ X38).alloc (Nat.le_refl _) (.cells #[.int .i64 i, .int .i64 f, .int .i64 h, .int .i64 s, .slice TA bs.length tc] 24)
          have LT := lit_txs (⟨i, f, h, s, TA, tc, bs⟩ : Tx) X38 (hown.out _ BW) (e := 24)
          generalize X38.alloc (.cells #[.int .i64 i, .int .i64 f, .int .i64 h, .int .i64 s, .slice TA bs.length tc] 24) = X39 at *
          have BW := thenB BW b1
          have RB := RB.below b1 RB.lt
          have MO := MO.later b1
          refine hK.out _ _ (KK.out _ BW) (fun hHeld => ?_)
          clear hK K
          try simp only [List.getElem_toArray, List.getElem_cons_zero, List.getElem_cons_succ, Act.put, List.setIfInBounds_toArray, List.set_cons_zero, List.set_cons_succ]
          refine wpAnyH_ready (rs := [4]) (by kernel_rfl) (by simp) ?_
          refine AllReadyH.cons rfl (fun K hK => ?_) (AllReadyH.nil)
          go_simp
          refine (HCp.out _ _ _ LT).mono ?_
          rintro e X40 ⟨A3, c3, l3, rfl, q1, q2, T3, b1⟩
          have BW := thenB BW b1
          have RB := RB.below b1 RB.lt
          have MO := MO.later b1
          have LT := LT.later b1
          refine hK.out _ _ (KK.out _ BW) (fun hHeld => ?_)
          clear hK K
          try simp only [List.getElem_toArray, List.getElem_cons_zero, List.getElem_cons_succ, Act.put, List.setIfInBounds_toArray, List.set_cons_zero, List.set_cons_succ]
          refine wpAnyH_ready (rs := [6]) (by kernel_rfl) (by simp) ?_
          refine AllReadyH.cons rfl (fun K hK => ?_) (AllReadyH.nil)
          go_simp
          have hRG := RB.lt
          refine (HHr.out _ _ _ _ _ q1 q2 MO T3).mono ?_
          rintro e X41 ⟨RA, rc, rfl, iN, b1⟩
          have BW := thenB BW b1
          have RB := RB.below b1 RB.lt
          have MO := MO.later b1
          have LT := LT.later b1
          have T3 := T3.later b1
          refine hK.out _ _ (KK.out _ BW) (fun hHeld => ?_)
          clear hK K
          try simp only [List.getElem_toArray, List.getElem_cons_zero, List.getElem_cons_succ, Act.put, List.setIfInBounds_toArray, List.set_cons_zero, List.set_cons_succ]
          refine wpAnyH_take (i := 7) (v := .tuple #[.agg #[.int .i64 i, .int .i64 d, .int .i64 1, .int .i64 s, .int .i64 en, .slice RA bs.length rc], .bool true]) rfl (by kernel_rfl) (by kernel_rfl) (by kernel_rfl) (fun _ _ _ h => h) (Or.inl ⟨by first | rfl | go_simp, by intro w9 hSw; (try dsimp only at hSw); go_simp⟩) (by assumption) ?_
          simp only [List.getElem_toArray, List.getElem_cons_zero, List.getElem_cons_succ, Act.put, List.setIfInBounds_toArray, List.set_cons_zero, List.set_cons_succ]
          refine wpAnyH_take (i := 8) (v := .agg #[.int .i64 i, .int .i64 d, .int .i64 1, .int .i64 s, .int .i64 en, .slice RA bs.length rc]) rfl (by kernel_rfl) (by kernel_rfl) (by kernel_rfl) (fun _ _ _ h => h) (Or.inl ⟨by first | rfl | go_simp, by intro w9 hSw; (try dsimp only at hSw); go_simp⟩) (by assumption) ?_
          simp only [List.getElem_toArray, List.getElem_cons_zero, List.getElem_cons_succ, Act.put, List.setIfInBounds_toArray, List.set_cons_zero, List.set_cons_succ]
          refine wpAnyH_take (i := 9) (v := .bool true) rfl (by kernel_rfl) (by kernel_rfl) (by kernel_rfl) (fun _ _ _ h => h) (Or.inl ⟨by first | rfl | go_simp, by intro w9 hSw; (try dsimp only at hSw); go_simp⟩) (by assumption) ?_
          simp only [List.getElem_toArray, List.getElem_cons_zero, List.getElem_cons_succ, Act.put, List.setIfInBounds_toArray, List.set_cons_zero, List.set_cons_succ]
          refine wpAnyH_ready (rs := [11]) (by kernel_rfl) (by simp) ?_
          refine AllReadyH.cons rfl (fun K hK => ?_) (AllReadyH.nil)
          obtain ⟨r0, r1, r2, r3, r4, r5, z0, z1, z2, z3, z4, z5⟩ := blk_six RB
          obtain ⟨⟨e0, e1, e2, e3, e4, e5⟩, _, bY⟩ := leaf_six (.int .i64 i) (.int .i64 d) (.int .i64 1) (.int .i64 s) (.int .i64 en) (.slice RA bs.length rc) RB BW hG
          skip
          have E6 := Lib.hid (And.intro e0 (And.intro e1 (And.intro e2 (And.intro e3 (And.intro e4 (And.intro e5 bY))))))
          have jR := Lib.hid (new_set6 (.int .i64 i) (.int .i64 d) (.int .i64 1) (.int .i64 s) (.int .i64 en) (.slice RA bs.length rc) iN (g := X0.heap.size) hRG)
          clear e0 e1 e2 e3 e4 e5 bY
          go_simp
          generalize ((((((X41.setCell ⟨X0.heap.size, 0, none⟩ (.int .i64 i)).setCell ⟨X0.heap.size, 1, none⟩ (.int .i64 d)).setCell ⟨X0.heap.size, 2, none⟩ (.int .i64 1)).setCell ⟨X0.heap.size, 3, none⟩ (.int .i64 s)).setCell ⟨X0.heap.size, 4, none⟩ (.int .i64 en)).setCell ⟨X0.heap.size, 5, none⟩ (.slice RA bs.length rc)) = X42 at *
          have BW := E6.out.2.2.2.2.2.2
          refine hK.out _ _ (KK.out _ BW) (fun hHeld => ?_)
          clear hK K
          try simp only [List.getElem_toArray, List.getElem_cons_zero, List.getElem_cons_succ, Act.put, List.setIfInBounds_toArray, List.set_cons_zero, List.set_cons_succ]
          refine wpAnyH_take (i := 12) (v := .bool true) rfl (by kernel_rfl) (by kernel_rfl) (by kernel_rfl) (fun _ _ _ h => h) (Or.inl ⟨by first | rfl | go_simp, by intro w9 hSw; (try dsimp only at hSw); go_simp⟩) (by assumption) ?_
          simp only [List.getElem_toArray, List.getElem_cons_zero, List.getElem_cons_succ, Act.put, List.setIfInBounds_toArray, List.set_cons_zero, List.set_cons_succ]
          refine wpAnyH_done (by kernel_rfl) ?_ _
          go_wp2_with fail
          go_meet
          exact ⟨_, RA, rc, rfl, rfl, E6.out.1, E6.out.2.1, E6.out.2.2.1, E6.out.2.2.2.1, E6.out.2.2.2.2.1, E6.out.2.2.2.2.2.1, by first | exact jR.out | exact new_ints jR.out, BW⟩
        · skip
          go_simp
          have b1 := (Below.refl _ X37).alloc (Nat.le_refl _) (.cells #[.int .i64 i, .int .i64 f, .int .i64 h, .int .i64 s, .slice TA bs.length tc] 24)
          have LT := lit_txs (⟨i, f, h, s, TA, tc, bs⟩ : Tx) X37 (hown.out _ BW) (e := 24)
          generalize X37.alloc (.cells #[.int .i64 i, .int .i64 f, .int .i64 h, .int .i64 s, .slice TA bs.length tc] 24) = X43 at *
          have BW := thenB BW b1
          have RB := RB.below b1 RB.lt
          refine hK.out _ _ (KK.out _ BW) (fun hHeld => ?_)
          clear hK K
          try simp only [List.getElem_toArray, List.getElem_cons_zero, List.getElem_cons_succ, Act.put, List.setIfInBounds_toArray, List.set_cons_zero, List.set_cons_succ]
          refine wpAnyH_ready (rs := [1]) (by kernel_rfl) (by simp) ?_
          refine AllReadyH.cons rfl (fun K hK => ?_) (AllReadyH.nil)
          go_simp
          refine (HOwn.out _ (hM.later BW)).mono ?_
          rintro e X44 ⟨p1, rfl, MO, b1⟩
          have BW := thenB BW b1
          have RB := RB.below b1 RB.lt
          have LT := LT.later b1
          refine hK.out _ _ (KK.out _ BW) (fun hHeld => ?_)
          clear hK K
          try simp only [List.getElem_toArray, List.getElem_cons_zero, List.getElem_cons_succ, Act.put, List.setIfInBounds_toArray, List.set_cons_zero, List.set_cons_succ]
          refine wpAnyH_ready (rs := [4]) (by kernel_rfl) (by simp) ?_
          refine AllReadyH.cons rfl (fun K hK => ?_) (AllReadyH.nil)
          go_simp
          refine (HCp.out _ _ _ LT).mono ?_
          rintro e X45 ⟨A3, c3, l3, rfl, q1, q2, T3, b1⟩
          have BW := thenB BW b1
          have RB := RB.below b1 RB.lt
          have LT := LT.later b1
          have MO := MO.later b1
          refine hK.out _ _ (KK.out _ BW) (fun hHeld => ?_)
          clear hK K
          try simp only [List.getElem_toArray, List.getElem_cons_zero, List.getElem_cons_succ, Act.put, List.setIfInBounds_toArray, List.set_cons_zero, List.set_cons_succ]
          refine wpAnyH_ready (rs := [6]) (by kernel_rfl) (by simp) ?_
          refine AllReadyH.cons rfl (fun K hK => ?_) (AllReadyH.nil)
          go_simp
          have hRG := RB.lt
          refine (HHr.out _ _ _ _ _ q1 q2 MO T3).mono ?_
          rintro e X46 ⟨RA, rc, rfl, iN, b1⟩
          have BW := thenB BW b1
          have RB := RB.below b1 RB.lt
          have LT := LT.later b1
          have MO := MO.later b1
          have T3 := T3.later b1
          refine hK.out _ _ (KK.out _ BW) (fun hHeld => ?_)
          clear hK K
          try simp only [List.getElem_toArray, List.getElem_cons_zero, List.getElem_cons_succ, Act.put, List.setIfInBounds_toArray, List.set_cons_zero, List.set_cons_succ]
          refine wpAnyH_take (i := 7) (v := .tuple #[.agg #[.int .i64 i, .int .i64 d, .int .i64 1, .int .i64 s, .int .i64 en, .slice RA bs.length rc], .bool true]) rfl (by kernel_rfl) (by kernel_rfl) (by kernel_rfl) (fun _ _ _ h => h) (Or.inl ⟨by first | rfl | go_simp, by intro w9 hSw; (try dsimp only at hSw); go_simp⟩) (by assumption) ?_
          simp only [List.getElem_toArray, List.getElem_cons_zero, List.getElem_cons_succ, Act.put, List.setIfInBounds_toArray, List.set_cons_zero, List.set_cons_succ]
          refine wpAnyH_take (i := 8) (v := .agg #[.int .i64 i, .int .i64 d, .int .i64 1, .int .i64 s, .int .i64 en, .slice RA bs.length rc]) rfl (by kernel_rfl) (by kernel_rfl) (by kernel_rfl) (fun _ _ _ h => h) (Or.inl ⟨by first | rfl | go_simp, by intro w9 hSw; (try dsimp only at hSw); go_simp⟩) (by assumption) ?_
          simp only [List.getElem_toArray, List.getElem_cons_zero, List.getElem_cons_succ, Act.put, List.setIfInBounds_toArray, List.set_cons_zero, List.set_cons_succ]
          refine wpAnyH_take (i := 9) (v := .bool true) rfl (by kernel_rfl) (by kernel_rfl) (by kernel_rfl) (fun _ _ _ h => h) (Or.inl ⟨by first | rfl | go_simp, by intro w9 hSw; (try dsimp only at hSw); go_simp⟩) (by assumption) ?_
          simp only [List.getElem_toArray, List.getElem_cons_zero, List.getElem_cons_succ, Act.put, List.setIfInBounds_toArray, List.set_cons_zero, List.set_cons_succ]
          refine wpAnyH_ready (rs := [11]) (by kernel_rfl) (by simp) ?_
          refine AllReadyH.cons rfl (fun K hK => ?_) (AllReadyH.nil)
          obtain ⟨r0, r1, r2, r3, r4, r5, z0, z1, z2, z3, z4, z5⟩ := blk_six RB
          obtain ⟨⟨e0, e1, e2, e3, e4, e5⟩, _, bY⟩ := leaf_six (.int .i64 i) (.int .i64 d) (.int .i64 1) (.int .i64 s) (.int .i64 en) (.slice RA bs.length rc) RB BW hG
          skip
          have E6 := Lib.hid (And.intro e0 (And.intro e1 (And.intro e2 (And.intro e3 (And.intro e4 (And.intro e5 bY))))))
          have jR := Lib.hid (new_set6 (.int .i64 i) (.int .i64 d) (.int .i64 1) (.int .i64 s) (.int .i64 en) (.slice RA bs.length rc) iN (g := X0.heap.size) hRG)
          clear e0 e1 e2 e3 e4 e5 bY
          go_simp
          generalize ((((((X46.setCell ⟨X0.heap.size, 0, none⟩ (.int .i64 i)).setCell ⟨X0.heap.size, 1, none⟩ (.int .i64 d)).setCell ⟨X0.heap.size, 2, none⟩ (.int .i64 1)).setCell ⟨X0.heap.size, 3, none⟩ (.int .i64 s)).setCell ⟨X0.heap.size, 4, none⟩ (.int .i64 en)).setCell ⟨X0.heap.size, 5, none⟩ (.slice RA bs.length rc)) = X47 at *
          have BW := E6.out.2.2.2.2.2.2
          refine hK.out _ _ (KK.out _ BW) (fun hHeld => ?_)
          clear hK K
          try simp only [List.getElem_toArray, List.getElem_cons_zero, List.getElem_cons_succ, Act.put, List.setIfInBounds_toArray, List.set_cons_zero, List.set_cons_succ]
          refine wpAnyH_take (i := 12) (v := .bool true) rfl (by kernel_rfl) (by kernel_rfl) (by kernel_rfl) (fun _ _ _ h => h) (Or.inl ⟨by first | rfl | go_simp, by intro w9 hSw; (try dsimp only at hSw); go_simp⟩) (by assumption) ?_
          simp only [List.getElem_toArray, List.getElem_cons_zero, List.getElem_cons_succ, Act.put, List.setIfInBounds_toArray, List.set_cons_zero, List.set_cons_succ]
          refine wpAnyH_done (by kernel_rfl) ?_ _
          go_wp2_with fail
          go_meet
          exact ⟨_, RA, rc, rfl, rfl, E6.out.1, E6.out.2.1, E6.out.2.2.1, E6.out.2.2.2.1, E6.out.2.2.2.2.1, E6.out.2.2.2.2.2.1, by first | exact jR.out | exact new_ints jR.out, BW⟩
    case rest =>
      obtain ⟨G, RA, rc, rfl, rfl, k0, k1, k2, k3, k4, k5, iR, BZ6⟩ := hcut
      clear HHr HCp BZ
      have BZ := BZ6
      clear BZ6
      go_upto_region 7 with fail
      generalize wc = Z6 at *
      go_cut [65] from 36 to 65 (fun s65 wx => s65 = .bool false ∧ Below Z6.heap.size Z6 wx)
      case first =>
        clear HSm HEn
        rw [hri] at HIn
        go_wp2_with fail
        refine wp_region_held_drew (S := (fun w' => Four w' w.heap.size D (.slice A n ac) (.slice none 0 0) (.slice none 0 0) ∧ Five w' (w.heap.size + 1) i f h s (.slice TA bs.length tc) ∧ Four w' (w.heap.size + 1 + 1) d (.int .i64 lh) (.int .i64 ls) (.int .i64 le))) (by kernel_rfl) ?_ (fun hHeld => ?_)
        · exact KK.out _ BZ.drew
        have BW : Below Z.heap.size Z Z6.drew := BZ.drew
        have BX : Below Z6.heap.size Z6 Z6.drew := (Below.refl _ _).drew
        generalize Z6.drew = X0 at *
        refine wpAnyH_take (i := 0) (v := .bool true) rfl (by kernel_rfl) (by kernel_rfl) (by kernel_rfl) (fun _ _ _ h => h) (Or.inl ⟨by first | rfl | go_simp, by intro w9 hSw; (try dsimp only at hSw); go_simp⟩) (by assumption) ?_
        simp only [List.getElem_toArray, List.getElem_cons_zero, List.getElem_cons_succ, Act.put, List.setIfInBounds_toArray, List.set_cons_zero, List.set_cons_succ]
        refine wpAnyH_take (i := 1) (v := .agg #[.int .i64 D, .slice A n ac, .slice none 0 0, .slice none 0 0]) rfl (by kernel_rfl) (by kernel_rfl) (by kernel_rfl) (fun _ _ _ h => h) (Or.inl ⟨by first | rfl | go_simp, by intro w9 hSw; (try dsimp only at hSw); go_simp⟩) (by assumption) ?_
        simp only [List.getElem_toArray, List.getElem_cons_zero, List.getElem_cons_succ, Act.put, List.setIfInBounds_toArray, List.set_cons_zero, List.set_cons_succ]
        refine wpAnyH_take (i := 3) (v := .pointer (some ⟨w.heap.size + 1, 1, none⟩)) rfl (by kernel_rfl) (by kernel_rfl) (by kernel_rfl) (fun _ _ _ h => h) (Or.inl ⟨by first | rfl | go_simp, by intro w9 hSw; (try dsimp only at hSw); go_simp⟩) (by assumption) ?_
        simp only [List.getElem_toArray, List.getElem_cons_zero, List.getElem_cons_succ, Act.put, List.setIfInBounds_toArray, List.set_cons_zero, List.set_cons_succ]
        refine wpAnyH_take (i := 4) (v := .int .i64 f) rfl (by kernel_rfl) (by kernel_rfl) (by kernel_rfl) (fun _ _ _ h => h) (Or.inl ⟨by first | rfl | go_simp, by intro w9 hSw; (try dsimp only at hSw); go_simp⟩) (by assumption) ?_
        simp only [List.getElem_toArray, List.getElem_cons_zero, List.getElem_cons_succ, Act.put, List.setIfInBounds_toArray, List.set_cons_zero, List.set_cons_succ]
        refine wpAnyH_take (i := 5) (v := .pointer (some ⟨w.heap.size + 1 + 1, 0, none⟩)) rfl (by kernel_rfl) (by kernel_rfl) (by kernel_rfl) (fun _ _ _ h => h) (Or.inl ⟨by first | rfl | go_simp, by intro w9 hSw; (try dsimp only at hSw); go_simp⟩) (by assumption) ?_
        simp only [List.getElem_toArray, List.getElem_cons_zero, List.getElem_cons_succ, Act.put, List.setIfInBounds_toArray, List.set_cons_zero, List.set_cons_succ]
        refine wpAnyH_take (i := 6) (v := .int .i64 d) rfl (by kernel_rfl) (by kernel_rfl) (by kernel_rfl) (fun _ _ _ h => h) (Or.inl ⟨by first | rfl | go_simp, by intro w9 hSw; (try dsimp only at hSw); go_simp⟩) (by assumption) ?_
        simp only [List.getElem_toArray, List.getElem_cons_zero, List.getElem_cons_succ, Act.put, List.setIfInBounds_toArray, List.set_cons_zero, List.set_cons_succ]
        refine wpAnyH_ready (rs := [2]) (by kernel_rfl) (by simp) ?_
        refine AllReadyH.cons rfl (fun K hK => ?_) (AllReadyH.nil)
        go_simp
        refine (HOwn.out _ (hM.later BW)).mono ?_
        rintro e X1 ⟨p1, rfl, MO, b1⟩
        have BW := thenB BW b1
        have BX := thenB BX b1
        refine hK.out _ _ (KK.out _ BW) (fun hHeld => ?_)
        clear hK K
        try simp only [List.getElem_toArray, List.getElem_cons_zero, List.getElem_cons_succ, Act.put, List.setIfInBounds_toArray, List.set_cons_zero, List.set_cons_succ]
        refine wpAnyH_ready (rs := [7]) (by kernel_rfl) (by simp) ?_
        refine AllReadyH.cons rfl (fun K hK => ?_) (AllReadyH.nil)
        go_simp
        refine (HIn.out _ _ MO).mono ?_
        rintro e X2 ⟨rfl, b1⟩
        have BW := thenB BW b1
        have BX := thenB BX b1
        have MO := MO.later b1
        refine hK.out _ _ (KK.out _ BW) (fun hHeld => ?_)
        clear hK K
        try simp only [List.getElem_toArray, List.getElem_cons_zero, List.getElem_cons_succ, Act.put, List.setIfInBounds_toArray, List.set_cons_zero, List.set_cons_succ]
        refine wpAnyH_take (i := 8) (v := .bool true) rfl (by kernel_rfl) (by kernel_rfl) (by kernel_rfl) (fun _ _ _ h => h) (Or.inl ⟨by first | rfl | go_simp, by intro w9 hSw; (try dsimp only at hSw); go_simp⟩) (by assumption) ?_
        simp only [List.getElem_toArray, List.getElem_cons_zero, List.getElem_cons_succ, Act.put, List.setIfInBounds_toArray, List.set_cons_zero, List.set_cons_succ]
        refine wpAnyH_take (i := 9) (v := .pointer (some ⟨w.heap.size + 1, 2, none⟩)) rfl (by kernel_rfl) (by kernel_rfl) (by kernel_rfl) (fun _ _ _ h => h) (Or.inl ⟨by first | rfl | go_simp, by intro w9 hSw; (try dsimp only at hSw); go_simp⟩) (by assumption) ?_
        simp only [List.getElem_toArray, List.getElem_cons_zero, List.getElem_cons_succ, Act.put, List.setIfInBounds_toArray, List.set_cons_zero, List.set_cons_succ]
        refine wpAnyH_take (i := 10) (v := .int .i64 h) rfl (by kernel_rfl) (by kernel_rfl) (by kernel_rfl) (fun _ _ _ h => h) (Or.inl ⟨by first | rfl | go_simp, by intro w9 hSw; (try dsimp only at hSw); go_simp⟩) (by assumption) ?_
        simp only [List.getElem_toArray, List.getElem_cons_zero, List.getElem_cons_succ, Act.put, List.setIfInBounds_toArray, List.set_cons_zero, List.set_cons_succ]
        refine wpAnyH_take (i := 11) (v := .pointer (some ⟨w.heap.size + 1 + 1, 1, none⟩)) rfl (by kernel_rfl) (by kernel_rfl) (by kernel_rfl) (fun _ _ _ h => h) (Or.inl ⟨by first | rfl | go_simp, by intro w9 hSw; (try dsimp only at hSw); go_simp⟩) (by assumption) ?_
        simp only [List.getElem_toArray, List.getElem_cons_zero, List.getElem_cons_succ, Act.put, List.setIfInBounds_toArray, List.set_cons_zero, List.set_cons_succ]
        refine wpAnyH_take (i := 12) (v := .int .i64 lh) rfl (by kernel_rfl) (by kernel_rfl) (by kernel_rfl) (fun _ _ _ h => h) (Or.inl ⟨by first | rfl | go_simp, by intro w9 hSw; (try dsimp only at hSw); go_simp⟩) (by assumption) ?_
        simp only [List.getElem_toArray, List.getElem_cons_zero, List.getElem_cons_succ, Act.put, List.setIfInBounds_toArray, List.set_cons_zero, List.set_cons_succ]
        refine wpAnyH_take (i := 13) (v := .bool true) rfl (by kernel_rfl) (by kernel_rfl) (by kernel_rfl) (fun _ _ _ h => h) (Or.inl ⟨by first | rfl | go_simp, by intro w9 hSw; (try dsimp only at hSw); go_simp⟩) (by assumption) ?_
        simp only [List.getElem_toArray, List.getElem_cons_zero, List.getElem_cons_succ, Act.put, List.setIfInBounds_toArray, List.set_cons_zero, List.set_cons_succ]
        refine wpAnyH_take (i := 14) (v := .bool true) rfl (by kernel_rfl) (by kernel_rfl) (by kernel_rfl) (fun _ _ _ h => h) (Or.inl ⟨by first | rfl | go_simp, by intro w9 hSw; (try dsimp only at hSw); go_simp⟩) (by assumption) ?_
        simp only [List.getElem_toArray, List.getElem_cons_zero, List.getElem_cons_succ, Act.put, List.setIfInBounds_toArray, List.set_cons_zero, List.set_cons_succ]
        refine wpAnyH_take (i := 15) (v := .bool true) rfl (by kernel_rfl) (by kernel_rfl) (by kernel_rfl) (fun _ _ _ h => h) (Or.inl ⟨by first | rfl | go_simp, by intro w9 hSw; (try dsimp only at hSw); go_simp⟩) (by assumption) ?_
        simp only [List.getElem_toArray, List.getElem_cons_zero, List.getElem_cons_succ, Act.put, List.setIfInBounds_toArray, List.set_cons_zero, List.set_cons_succ]
        refine wpAnyH_take (i := 16) (v := .pointer (some ⟨w.heap.size + 1 + 1, 2, none⟩)) rfl (by kernel_rfl) (by kernel_rfl) (by kernel_rfl) (fun _ _ _ h => h) (Or.inl ⟨by first | rfl | go_simp, by intro w9 hSw; (try dsimp only at hSw); go_simp⟩) (by assumption) ?_
        simp only [List.getElem_toArray, List.getElem_cons_zero, List.getElem_cons_succ, Act.put, List.setIfInBounds_toArray, List.set_cons_zero, List.set_cons_succ]
        refine wpAnyH_take (i := 17) (v := .int .i64 ls) rfl (by kernel_rfl) (by kernel_rfl) (by kernel_rfl) (fun _ _ _ h => h) (Or.inl ⟨by first | rfl | go_simp, by intro w9 hSw; (try dsimp only at hSw); go_simp⟩) (by assumption) ?_
        simp only [List.getElem_toArray, List.getElem_cons_zero, List.getElem_cons_succ, Act.put, List.setIfInBounds_toArray, List.set_cons_zero, List.set_cons_succ]
        refine wpAnyH_take (i := 18) (v := .pointer (some ⟨w.heap.size + 1, 3, none⟩)) rfl (by kernel_rfl) (by kernel_rfl) (by kernel_rfl) (fun _ _ _ h => h) (Or.inl ⟨by first | rfl | go_simp, by intro w9 hSw; (try dsimp only at hSw); go_simp⟩) (by assumption) ?_
        simp only [List.getElem_toArray, List.getElem_cons_zero, List.getElem_cons_succ, Act.put, List.setIfInBounds_toArray, List.set_cons_zero, List.set_cons_succ]
        refine wpAnyH_take (i := 19) (v := .int .i64 s) rfl (by kernel_rfl) (by kernel_rfl) (by kernel_rfl) (fun _ _ _ h => h) (Or.inl ⟨by first | rfl | go_simp, by intro w9 hSw; (try dsimp only at hSw); go_simp⟩) (by assumption) ?_
        simp only [List.getElem_toArray, List.getElem_cons_zero, List.getElem_cons_succ, Act.put, List.setIfInBounds_toArray, List.set_cons_zero, List.set_cons_succ]
        refine wpAnyH_take (i := 20) (v := .bool true) rfl (by kernel_rfl) (by kernel_rfl) (by kernel_rfl) (fun _ _ _ h => h) (Or.inl ⟨by first | rfl | go_simp, by intro w9 hSw; (try dsimp only at hSw); go_simp⟩) (by assumption) ?_
        simp only [List.getElem_toArray, List.getElem_cons_zero, List.getElem_cons_succ, Act.put, List.setIfInBounds_toArray, List.set_cons_zero, List.set_cons_succ]
        refine wpAnyH_take (i := 21) (v := .bool true) rfl (by kernel_rfl) (by kernel_rfl) (by kernel_rfl) (fun _ _ _ h => h) (Or.inl ⟨by first | rfl | go_simp, by intro w9 hSw; (try dsimp only at hSw); go_simp⟩) (by assumption) ?_
        simp only [List.getElem_toArray, List.getElem_cons_zero, List.getElem_cons_succ, Act.put, List.setIfInBounds_toArray, List.set_cons_zero, List.set_cons_succ]
        refine wpAnyH_take (i := 22) (v := .bool true) rfl (by kernel_rfl) (by kernel_rfl) (by kernel_rfl) (fun _ _ _ h => h) (Or.inl ⟨by first | rfl | go_simp, by intro w9 hSw; (try dsimp only at hSw); go_simp⟩) (by assumption) ?_
        simp only [List.getElem_toArray, List.getElem_cons_zero, List.getElem_cons_succ, Act.put, List.setIfInBounds_toArray, List.set_cons_zero, List.set_cons_succ]
        refine wpAnyH_take (i := 23) (v := .pointer (some ⟨w.heap.size + 1, 3, none⟩)) rfl (by kernel_rfl) (by kernel_rfl) (by kernel_rfl) (fun _ _ _ h => h) (Or.inl ⟨by first | rfl | go_simp, by intro w9 hSw; (try dsimp only at hSw); go_simp⟩) (by assumption) ?_
        simp only [List.getElem_toArray, List.getElem_cons_zero, List.getElem_cons_succ, Act.put, List.setIfInBounds_toArray, List.set_cons_zero, List.set_cons_succ]
        refine wpAnyH_take (i := 24) (v := .int .i64 s) rfl (by kernel_rfl) (by kernel_rfl) (by kernel_rfl) (fun _ _ _ h => h) (Or.inl ⟨by first | rfl | go_simp, by intro w9 hSw; (try dsimp only at hSw); go_simp⟩) (by assumption) ?_
        simp only [List.getElem_toArray, List.getElem_cons_zero, List.getElem_cons_succ, Act.put, List.setIfInBounds_toArray, List.set_cons_zero, List.set_cons_succ]
        refine wpAnyH_take (i := 25) (v := .pointer (some ⟨w.heap.size + 1 + 1, 3, none⟩)) rfl (by kernel_rfl) (by kernel_rfl) (by kernel_rfl) (fun _ _ _ h => h) (Or.inl ⟨by first | rfl | go_simp, by intro w9 hSw; (try dsimp only at hSw); go_simp⟩) (by assumption) ?_
        simp only [List.getElem_toArray, List.getElem_cons_zero, List.getElem_cons_succ, Act.put, List.setIfInBounds_toArray, List.set_cons_zero, List.set_cons_succ]
        refine wpAnyH_take (i := 26) (v := .int .i64 le) rfl (by kernel_rfl) (by kernel_rfl) (by kernel_rfl) (fun _ _ _ h => h) (Or.inl ⟨by first | rfl | go_simp, by intro w9 hSw; (try dsimp only at hSw); go_simp⟩) (by assumption) ?_
        simp only [List.getElem_toArray, List.getElem_cons_zero, List.getElem_cons_succ, Act.put, List.setIfInBounds_toArray, List.set_cons_zero, List.set_cons_succ]
        refine wpAnyH_take (i := 27) (v := .bool true) rfl (by kernel_rfl) (by kernel_rfl) (by kernel_rfl) (fun _ _ _ h => h) (Or.inl ⟨by first | rfl | go_simp, by intro w9 hSw; (try dsimp only at hSw); go_simp⟩) (by assumption) ?_
        simp only [List.getElem_toArray, List.getElem_cons_zero, List.getElem_cons_succ, Act.put, List.setIfInBounds_toArray, List.set_cons_zero, List.set_cons_succ]
        refine wpAnyH_take (i := 28) (v := .bool true) rfl (by kernel_rfl) (by kernel_rfl) (by kernel_rfl) (fun _ _ _ h => h) (Or.inl ⟨by first | rfl | go_simp, by intro w9 hSw; (try dsimp only at hSw); go_simp⟩) (by assumption) ?_
        simp only [List.getElem_toArray, List.getElem_cons_zero, List.getElem_cons_succ, Act.put, List.setIfInBounds_toArray, List.set_cons_zero, List.set_cons_succ]
        refine wpAnyH_take (i := 29) (v := .bool false) rfl (by kernel_rfl) (by kernel_rfl) (by kernel_rfl) (fun _ _ _ h => h) (Or.inl ⟨by first | rfl | go_simp, by intro w9 hSw; (try dsimp only at hSw); go_simp⟩) (by assumption) ?_
        simp only [List.getElem_toArray, List.getElem_cons_zero, List.getElem_cons_succ, Act.put, List.setIfInBounds_toArray, List.set_cons_zero, List.set_cons_succ]
        refine wpAnyH_done (by kernel_rfl) ?_ _
        go_wp2_with fail
        go_meet
        exact ⟨rfl, BX⟩
      case rest =>
        obtain ⟨rfl, bZ⟩ := hcut
        have k0 := One_below k0 bZ
        have k1 := One_below k1 bZ
        have k2 := One_below k2 bZ
        have k3 := One_below k3 bZ
        have k4 := One_below k4 bZ
        have k5 := One_below k5 bZ
        have BZ := thenB BZ bZ
        have iR := later iR bZ
        clear HIn HOwn bZ
        go_upto_region 9 with fail
        generalize wc = Z7 at *
        have HS9 : Hid (∀ X, Below Z7.heap.size Z7 X → (Four X w.heap.size D (.slice A n ac) (.slice none 0 0) (.slice none 0 0) ∧ Five X (w.heap.size + 1) i f h s (.slice TA bs.length tc) ∧ Four X (w.heap.size + 1 + 1) d (.int .i64 lh) (.int .i64 ls) (.int .i64 le)) ∧ Six X G i d 1 s en (.slice RA bs.length rc) ∧ ((convert 22 9 (.slice RA bs.length rc)).run Try.prog X = .ok (.string (strOfNums bs)) X) ∧ ((convert 22 9 (.slice TA bs.length tc)).run Try.prog X = .ok (.string (strOfNums bs)) X)) := Lib.hid fun X bb => ⟨KK.out _ (thenB BZ bb), ⟨One_below k0 bb, One_below k1 bb, One_below k2 bb, One_below k3 bb, One_below k4 bb, One_below k5 bb⟩, run_string_ints (P := Try.prog) 22 5 Try.underlying22 Try.underlying5 Try.underlying9 X.heap.size RA bs.length rc bs rfl (later iR bb), run_string_ints (P := Try.prog) 22 5 Try.underlying22 Try.underlying5 Try.underlying9 X.heap.size TA bs.length tc bs rfl (hown.out _ (thenB BZ bb)).2.2⟩
        clear k0 k1 k2 k3 k4 k5 hM hown iR
        go_wp2_with fail
        refine wp_region_held_drew (S := (fun w' => (Four w' w.heap.size D (.slice A n ac) (.slice none 0 0) (.slice none 0 0) ∧ Five w' (w.heap.size + 1) i f h s (.slice TA bs.length tc) ∧ Four w' (w.heap.size + 1 + 1) d (.int .i64 lh) (.int .i64 ls) (.int .i64 le)) ∧ Six w' G i d 1 s en (.slice RA bs.length rc) ∧ ((convert 22 9 (.slice RA bs.length rc)).run Try.prog w' = .ok (.string (strOfNums bs)) w') ∧ ((convert 22 9 (.slice TA bs.length tc)).run Try.prog w' = .ok (.string (strOfNums bs)) w'))) (by kernel_rfl) ?_ (fun hHeld => ?_)
        · exact HS9.out _ (Below.refl _ _).drew
        have BW : Below Z.heap.size Z Z7.drew := BZ.drew
        have BV : Below Z7.heap.size Z7 Z7.drew := (Below.refl _ _).drew
        generalize Z7.drew = X0 at *
        refine wpAnyH_take (i := 0) (v := .bool true) rfl (by kernel_rfl) (by kernel_rfl) (by kernel_rfl) (fun _ _ _ h => h) (Or.inl ⟨by first | rfl | go_simp, by intro w9 hSw; (try dsimp only at hSw); go_simp⟩) (by assumption) ?_
        simp only [List.getElem_toArray, List.getElem_cons_zero, List.getElem_cons_succ, Act.put, List.setIfInBounds_toArray, List.set_cons_zero, List.set_cons_succ]
        refine wpAnyH_take (i := 1) (v := .bool false) rfl (by kernel_rfl) (by kernel_rfl) (by kernel_rfl) (fun _ _ _ h => h) (Or.inl ⟨by first | rfl | go_simp, by intro w9 hSw; (try dsimp only at hSw); go_simp⟩) (by assumption) ?_
        simp only [List.getElem_toArray, List.getElem_cons_zero, List.getElem_cons_succ, Act.put, List.setIfInBounds_toArray, List.set_cons_zero, List.set_cons_succ]
        refine wpAnyH_take (i := 2) (v := .bool false) rfl (by kernel_rfl) (by kernel_rfl) (by kernel_rfl) (fun _ _ _ h => h) (Or.inl ⟨by first | rfl | go_simp, by intro w9 hSw; (try dsimp only at hSw); go_simp⟩) (by assumption) ?_
        simp only [List.getElem_toArray, List.getElem_cons_zero, List.getElem_cons_succ, Act.put, List.setIfInBounds_toArray, List.set_cons_zero, List.set_cons_succ]
        refine wpAnyH_take (i := 3) (v := undef) rfl (by kernel_rfl) (by kernel_rfl) (by kernel_rfl) (fun _ _ _ h => h) (Or.inr ⟨by first | rfl | go_simp, rfl⟩) (by assumption) ?_
        simp only [List.getElem_toArray, List.getElem_cons_zero, List.getElem_cons_succ, Act.put, List.setIfInBounds_toArray, List.set_cons_zero, List.set_cons_succ]
        refine wpAnyH_take (i := 4) (v := undef) rfl (by kernel_rfl) (by kernel_rfl) (by kernel_rfl) (fun _ _ _ h => h) (Or.inr ⟨by first | rfl | go_simp, rfl⟩) (by assumption) ?_
        simp only [List.getElem_toArray, List.getElem_cons_zero, List.getElem_cons_succ, Act.put, List.setIfInBounds_toArray, List.set_cons_zero, List.set_cons_succ]
        refine wpAnyH_take (i := 5) (v := undef) rfl (by kernel_rfl) (by kernel_rfl) (by kernel_rfl) (fun _ _ _ h => h) (Or.inr ⟨by first | rfl | go_simp, rfl⟩) (by assumption) ?_
        simp only [List.getElem_toArray, List.getElem_cons_zero, List.getElem_cons_succ, Act.put, List.setIfInBounds_toArray, List.set_cons_zero, List.set_cons_succ]
        refine wpAnyH_take (i := 6) (v := .bool false) rfl (by kernel_rfl) (by kernel_rfl) (by kernel_rfl) (fun _ _ _ h => h) (Or.inl ⟨by first | rfl | go_simp, by intro w9 hSw; (try dsimp only at hSw); go_simp⟩) (by assumption) ?_
        simp only [List.getElem_toArray, List.getElem_cons_zero, List.getElem_cons_succ, Act.put, List.setIfInBounds_toArray, List.set_cons_zero, List.set_cons_succ]
        refine wpAnyH_take (i := 7) (v := .bool false) rfl (by kernel_rfl) (by kernel_rfl) (by kernel_rfl) (fun _ _ _ h => h) (Or.inl ⟨by first | rfl | go_simp, by intro w9 hSw; (try dsimp only at hSw); go_simp⟩) (by assumption) ?_
        simp only [List.getElem_toArray, List.getElem_cons_zero, List.getElem_cons_succ, Act.put, List.setIfInBounds_toArray, List.set_cons_zero, List.set_cons_succ]
        refine wpAnyH_take (i := 8) (v := .bool true) rfl (by kernel_rfl) (by kernel_rfl) (by kernel_rfl) (fun _ _ _ h => h) (Or.inl ⟨by first | rfl | go_simp, by intro w9 hSw; (try dsimp only at hSw); go_simp⟩) (by assumption) ?_
        simp only [List.getElem_toArray, List.getElem_cons_zero, List.getElem_cons_succ, Act.put, List.setIfInBounds_toArray, List.set_cons_zero, List.set_cons_succ]
        refine wpAnyH_take (i := 9) (v := .bool true) rfl (by kernel_rfl) (by kernel_rfl) (by kernel_rfl) (fun _ _ _ h => h) (Or.inl ⟨by first | rfl | go_simp, by intro w9 hSw; (try dsimp only at hSw); go_simp⟩) (by assumption) ?_
        simp only [List.getElem_toArray, List.getElem_cons_zero, List.getElem_cons_succ, Act.put, List.setIfInBounds_toArray, List.set_cons_zero, List.set_cons_succ]
        refine wpAnyH_take (i := 10) (v := .pointer (some ⟨G, 0, none⟩)) rfl (by kernel_rfl) (by kernel_rfl) (by kernel_rfl) (fun _ _ _ h => h) (Or.inl ⟨by first | rfl | go_simp, by intro w9 hSw; (try dsimp only at hSw); go_simp⟩) (by assumption) ?_
        simp only [List.getElem_toArray, List.getElem_cons_zero, List.getElem_cons_succ, Act.put, List.setIfInBounds_toArray, List.set_cons_zero, List.set_cons_succ]
        refine wpAnyH_take (i := 11) (v := .int .i64 i) rfl (by kernel_rfl) (by kernel_rfl) (by kernel_rfl) (fun _ _ _ h => h) (Or.inl ⟨by first | rfl | go_simp, by intro w9 hSw; (try dsimp only at hSw); go_simp⟩) (by assumption) ?_
        simp only [List.getElem_toArray, List.getElem_cons_zero, List.getElem_cons_succ, Act.put, List.setIfInBounds_toArray, List.set_cons_zero, List.set_cons_succ]
        refine wpAnyH_take (i := 12) (v := .pointer (some ⟨w.heap.size + 1, 0, none⟩)) rfl (by kernel_rfl) (by kernel_rfl) (by kernel_rfl) (fun _ _ _ h => h) (Or.inl ⟨by first | rfl | go_simp, by intro w9 hSw; (try dsimp only at hSw); go_simp⟩) (by assumption) ?_
        simp only [List.getElem_toArray, List.getElem_cons_zero, List.getElem_cons_succ, Act.put, List.setIfInBounds_toArray, List.set_cons_zero, List.set_cons_succ]
        refine wpAnyH_take (i := 13) (v := .int .i64 i) rfl (by kernel_rfl) (by kernel_rfl) (by kernel_rfl) (fun _ _ _ h => h) (Or.inl ⟨by first | rfl | go_simp, by intro w9 hSw; (try dsimp only at hSw); go_simp⟩) (by assumption) ?_
        simp only [List.getElem_toArray, List.getElem_cons_zero, List.getElem_cons_succ, Act.put, List.setIfInBounds_toArray, List.set_cons_zero, List.set_cons_succ]
        refine wpAnyH_take (i := 14) (v := .bool true) rfl (by kernel_rfl) (by kernel_rfl) (by kernel_rfl) (fun _ _ _ h => h) (Or.inl ⟨by first | rfl | go_simp, by intro w9 hSw; (try dsimp only at hSw); go_simp⟩) (by assumption) ?_
        simp only [List.getElem_toArray, List.getElem_cons_zero, List.getElem_cons_succ, Act.put, List.setIfInBounds_toArray, List.set_cons_zero, List.set_cons_succ]
        refine wpAnyH_take (i := 15) (v := .bool true) rfl (by kernel_rfl) (by kernel_rfl) (by kernel_rfl) (fun _ _ _ h => h) (Or.inl ⟨by first | rfl | go_simp, by intro w9 hSw; (try dsimp only at hSw); go_simp⟩) (by assumption) ?_
        simp only [List.getElem_toArray, List.getElem_cons_zero, List.getElem_cons_succ, Act.put, List.setIfInBounds_toArray, List.set_cons_zero, List.set_cons_succ]
        refine wpAnyH_take (i := 16) (v := .bool true) rfl (by kernel_rfl) (by kernel_rfl) (by kernel_rfl) (fun _ _ _ h => h) (Or.inl ⟨by first | rfl | go_simp, by intro w9 hSw; (try dsimp only at hSw); go_simp⟩) (by assumption) ?_
        simp only [List.getElem_toArray, List.getElem_cons_zero, List.getElem_cons_succ, Act.put, List.setIfInBounds_toArray, List.set_cons_zero, List.set_cons_succ]
        refine wpAnyH_take (i := 17) (v := .pointer (some ⟨G, 1, none⟩)) rfl (by kernel_rfl) (by kernel_rfl) (by kernel_rfl) (fun _ _ _ h => h) (Or.inl ⟨by first | rfl | go_simp, by intro w9 hSw; (try dsimp only at hSw); go_simp⟩) (by assumption) ?_
        simp only [List.getElem_toArray, List.getElem_cons_zero, List.getElem_cons_succ, Act.put, List.setIfInBounds_toArray, List.set_cons_zero, List.set_cons_succ]
        refine wpAnyH_take (i := 18) (v := .int .i64 d) rfl (by kernel_rfl) (by kernel_rfl) (by kernel_rfl) (fun _ _ _ h => h) (Or.inl ⟨by first | rfl | go_simp, by intro w9 hSw; (try dsimp only at hSw); go_simp⟩) (by assumption) ?_
        simp only [List.getElem_toArray, List.getElem_cons_zero, List.getElem_cons_succ, Act.put, List.setIfInBounds_toArray, List.set_cons_zero, List.set_cons_succ]
        refine wpAnyH_take (i := 19) (v := .pointer (some ⟨w.heap.size + 1 + 1, 0, none⟩)) rfl (by kernel_rfl) (by kernel_rfl) (by kernel_rfl) (fun _ _ _ h => h) (Or.inl ⟨by first | rfl | go_simp, by intro w9 hSw; (try dsimp only at hSw); go_simp⟩) (by assumption) ?_
        simp only [List.getElem_toArray, List.getElem_cons_zero, List.getElem_cons_succ, Act.put, List.setIfInBounds_toArray, List.set_cons_zero, List.set_cons_succ]
        refine wpAnyH_take (i := 20) (v := .int .i64 d) rfl (by kernel_rfl) (by kernel_rfl) (by kernel_rfl) (fun _ _ _ h => h) (Or.inl ⟨by first | rfl | go_simp, by intro w9 hSw; (try dsimp only at hSw); go_simp⟩) (by assumption) ?_
        simp only [List.getElem_toArray, List.getElem_cons_zero, List.getElem_cons_succ, Act.put, List.setIfInBounds_toArray, List.set_cons_zero, List.set_cons_succ]
        refine wpAnyH_take (i := 21) (v := .bool true) rfl (by kernel_rfl) (by kernel_rfl) (by kernel_rfl) (fun _ _ _ h => h) (Or.inl ⟨by first | rfl | go_simp, by intro w9 hSw; (try dsimp only at hSw); go_simp⟩) (by assumption) ?_
        simp only [List.getElem_toArray, List.getElem_cons_zero, List.getElem_cons_succ, Act.put, List.setIfInBounds_toArray, List.set_cons_zero, List.set_cons_succ]
        refine wpAnyH_take (i := 22) (v := .bool true) rfl (by kernel_rfl) (by kernel_rfl) (by kernel_rfl) (fun _ _ _ h => h) (Or.inl ⟨by first | rfl | go_simp, by intro w9 hSw; (try dsimp only at hSw); go_simp⟩) (by assumption) ?_
        simp only [List.getElem_toArray, List.getElem_cons_zero, List.getElem_cons_succ, Act.put, List.setIfInBounds_toArray, List.set_cons_zero, List.set_cons_succ]
        refine wpAnyH_take (i := 23) (v := .bool true) rfl (by kernel_rfl) (by kernel_rfl) (by kernel_rfl) (fun _ _ _ h => h) (Or.inl ⟨by first | rfl | go_simp, by intro w9 hSw; (try dsimp only at hSw); go_simp⟩) (by assumption) ?_
        simp only [List.getElem_toArray, List.getElem_cons_zero, List.getElem_cons_succ, Act.put, List.setIfInBounds_toArray, List.set_cons_zero, List.set_cons_succ]
        refine wpAnyH_take (i := 24) (v := .pointer (some ⟨G, 2, none⟩)) rfl (by kernel_rfl) (by kernel_rfl) (by kernel_rfl) (fun _ _ _ h => h) (Or.inl ⟨by first | rfl | go_simp, by intro w9 hSw; (try dsimp only at hSw); go_simp⟩) (by assumption) ?_
        simp only [List.getElem_toArray, List.getElem_cons_zero, List.getElem_cons_succ, Act.put, List.setIfInBounds_toArray, List.set_cons_zero, List.set_cons_succ]
        refine wpAnyH_take (i := 25) (v := .int .i64 1) rfl (by kernel_rfl) (by kernel_rfl) (by kernel_rfl) (fun _ _ _ h => h) (Or.inl ⟨by first | rfl | go_simp, by intro w9 hSw; (try dsimp only at hSw); go_simp⟩) (by assumption) ?_
        simp only [List.getElem_toArray, List.getElem_cons_zero, List.getElem_cons_succ, Act.put, List.setIfInBounds_toArray, List.set_cons_zero, List.set_cons_succ]
        refine wpAnyH_take (i := 26) (v := .bool true) rfl (by kernel_rfl) (by kernel_rfl) (by kernel_rfl) (fun _ _ _ h => h) (Or.inl ⟨by first | rfl | go_simp, by intro w9 hSw; (try dsimp only at hSw); go_simp⟩) (by assumption) ?_
        simp only [List.getElem_toArray, List.getElem_cons_zero, List.getElem_cons_succ, Act.put, List.setIfInBounds_toArray, List.set_cons_zero, List.set_cons_succ]
        refine wpAnyH_take (i := 27) (v := .bool true) rfl (by kernel_rfl) (by kernel_rfl) (by kernel_rfl) (fun _ _ _ h => h) (Or.inl ⟨by first | rfl | go_simp, by intro w9 hSw; (try dsimp only at hSw); go_simp⟩) (by assumption) ?_
        simp only [List.getElem_toArray, List.getElem_cons_zero, List.getElem_cons_succ, Act.put, List.setIfInBounds_toArray, List.set_cons_zero, List.set_cons_succ]
        refine wpAnyH_take (i := 28) (v := .bool true) rfl (by kernel_rfl) (by kernel_rfl) (by kernel_rfl) (fun _ _ _ h => h) (Or.inl ⟨by first | rfl | go_simp, by intro w9 hSw; (try dsimp only at hSw); go_simp⟩) (by assumption) ?_
        simp only [List.getElem_toArray, List.getElem_cons_zero, List.getElem_cons_succ, Act.put, List.setIfInBounds_toArray, List.set_cons_zero, List.set_cons_succ]
        refine wpAnyH_take (i := 29) (v := .pointer (some ⟨G, 3, none⟩)) rfl (by kernel_rfl) (by kernel_rfl) (by kernel_rfl) (fun _ _ _ h => h) (Or.inl ⟨by first | rfl | go_simp, by intro w9 hSw; (try dsimp only at hSw); go_simp⟩) (by assumption) ?_
        simp only [List.getElem_toArray, List.getElem_cons_zero, List.getElem_cons_succ, Act.put, List.setIfInBounds_toArray, List.set_cons_zero, List.set_cons_succ]
        refine wpAnyH_take (i := 30) (v := .int .i64 s) rfl (by kernel_rfl) (by kernel_rfl) (by kernel_rfl) (fun _ _ _ h => h) (Or.inl ⟨by first | rfl | go_simp, by intro w9 hSw; (try dsimp only at hSw); go_simp⟩) (by assumption) ?_
        simp only [List.getElem_toArray, List.getElem_cons_zero, List.getElem_cons_succ, Act.put, List.setIfInBounds_toArray, List.set_cons_zero, List.set_cons_succ]
        refine wpAnyH_take (i := 31) (v := .pointer (some ⟨w.heap.size + 1, 3, none⟩)) rfl (by kernel_rfl) (by kernel_rfl) (by kernel_rfl) (fun _ _ _ h => h) (Or.inl ⟨by first | rfl | go_simp, by intro w9 hSw; (try dsimp only at hSw); go_simp⟩) (by assumption) ?_
        simp only [List.getElem_toArray, List.getElem_cons_zero, List.getElem_cons_succ, Act.put, List.setIfInBounds_toArray, List.set_cons_zero, List.set_cons_succ]
        refine wpAnyH_take (i := 32) (v := .int .i64 s) rfl (by kernel_rfl) (by kernel_rfl) (by kernel_rfl) (fun _ _ _ h => h) (Or.inl ⟨by first | rfl | go_simp, by intro w9 hSw; (try dsimp only at hSw); go_simp⟩) (by assumption) ?_
        simp only [List.getElem_toArray, List.getElem_cons_zero, List.getElem_cons_succ, Act.put, List.setIfInBounds_toArray, List.set_cons_zero, List.set_cons_succ]
        refine wpAnyH_take (i := 33) (v := .bool true) rfl (by kernel_rfl) (by kernel_rfl) (by kernel_rfl) (fun _ _ _ h => h) (Or.inl ⟨by first | rfl | go_simp, by intro w9 hSw; (try dsimp only at hSw); go_simp⟩) (by assumption) ?_
        simp only [List.getElem_toArray, List.getElem_cons_zero, List.getElem_cons_succ, Act.put, List.setIfInBounds_toArray, List.set_cons_zero, List.set_cons_succ]
        refine wpAnyH_take (i := 34) (v := .bool true) rfl (by kernel_rfl) (by kernel_rfl) (by kernel_rfl) (fun _ _ _ h => h) (Or.inl ⟨by first | rfl | go_simp, by intro w9 hSw; (try dsimp only at hSw); go_simp⟩) (by assumption) ?_
        simp only [List.getElem_toArray, List.getElem_cons_zero, List.getElem_cons_succ, Act.put, List.setIfInBounds_toArray, List.set_cons_zero, List.set_cons_succ]
        refine wpAnyH_take (i := 35) (v := .bool true) rfl (by kernel_rfl) (by kernel_rfl) (by kernel_rfl) (fun _ _ _ h => h) (Or.inl ⟨by first | rfl | go_simp, by intro w9 hSw; (try dsimp only at hSw); go_simp⟩) (by assumption) ?_
        simp only [List.getElem_toArray, List.getElem_cons_zero, List.getElem_cons_succ, Act.put, List.setIfInBounds_toArray, List.set_cons_zero, List.set_cons_succ]
        refine wpAnyH_take (i := 36) (v := .pointer (some ⟨G, 4, none⟩)) rfl (by kernel_rfl) (by kernel_rfl) (by kernel_rfl) (fun _ _ _ h => h) (Or.inl ⟨by first | rfl | go_simp, by intro w9 hSw; (try dsimp only at hSw); go_simp⟩) (by assumption) ?_
        simp only [List.getElem_toArray, List.getElem_cons_zero, List.getElem_cons_succ, Act.put, List.setIfInBounds_toArray, List.set_cons_zero, List.set_cons_succ]
        refine wpAnyH_take (i := 37) (v := .int .i64 en) rfl (by kernel_rfl) (by kernel_rfl) (by kernel_rfl) (fun _ _ _ h => h) (Or.inl ⟨by first | rfl | go_simp, by intro w9 hSw; (try dsimp only at hSw); go_simp⟩) (by assumption) ?_
        simp only [List.getElem_toArray, List.getElem_cons_zero, List.getElem_cons_succ, Act.put, List.setIfInBounds_toArray, List.set_cons_zero, List.set_cons_succ]
        refine wpAnyH_take (i := 38) (v := .agg #[.int .i64 i, .int .i64 f, .int .i64 h, .int .i64 s, .slice TA bs.length tc]) rfl (by kernel_rfl) (by kernel_rfl) (by kernel_rfl) (fun _ _ _ h => h) (Or.inl ⟨by first | rfl | go_simp, by intro w9 hSw; (try dsimp only at hSw); go_simp⟩) (by assumption) ?_
        simp only [List.getElem_toArray, List.getElem_cons_zero, List.getElem_cons_succ, Act.put, List.setIfInBounds_toArray, List.set_cons_zero, List.set_cons_succ]
        refine wpAnyH_ready (rs := [39]) (by kernel_rfl) (by simp) ?_
        refine AllReadyH.cons rfl (fun K hK => ?_) (AllReadyH.nil)
        go_simp
        refine (HEn.out _).mono ?_
        rintro e X1 ⟨rfl, b1⟩
        have BW := thenB BW b1
        have BV := thenB BV b1
        refine hK.out _ _ (HS9.out _ BV) (fun hHeld => ?_)
        clear hK K
        try simp only [List.getElem_toArray, List.getElem_cons_zero, List.getElem_cons_succ, Act.put, List.setIfInBounds_toArray, List.set_cons_zero, List.set_cons_succ]
        refine wpAnyH_take (i := 40) (v := .bool true) rfl (by kernel_rfl) (by kernel_rfl) (by kernel_rfl) (fun _ _ _ h => h) (Or.inl ⟨by first | rfl | go_simp, by intro w9 hSw; (try dsimp only at hSw); go_simp⟩) (by assumption) ?_
        simp only [List.getElem_toArray, List.getElem_cons_zero, List.getElem_cons_succ, Act.put, List.setIfInBounds_toArray, List.set_cons_zero, List.set_cons_succ]
        refine wpAnyH_take (i := 41) (v := .bool true) rfl (by kernel_rfl) (by kernel_rfl) (by kernel_rfl) (fun _ _ _ h => h) (Or.inl ⟨by first | rfl | go_simp, by intro w9 hSw; (try dsimp only at hSw); go_simp⟩) (by assumption) ?_
        simp only [List.getElem_toArray, List.getElem_cons_zero, List.getElem_cons_succ, Act.put, List.setIfInBounds_toArray, List.set_cons_zero, List.set_cons_succ]
        refine wpAnyH_take (i := 42) (v := .bool true) rfl (by kernel_rfl) (by kernel_rfl) (by kernel_rfl) (fun _ _ _ h => h) (Or.inl ⟨by first | rfl | go_simp, by intro w9 hSw; (try dsimp only at hSw); go_simp⟩) (by assumption) ?_
        simp only [List.getElem_toArray, List.getElem_cons_zero, List.getElem_cons_succ, Act.put, List.setIfInBounds_toArray, List.set_cons_zero, List.set_cons_succ]
        refine wpAnyH_take (i := 43) (v := .pointer (some ⟨G, 5, none⟩)) rfl (by kernel_rfl) (by kernel_rfl) (by kernel_rfl) (fun _ _ _ h => h) (Or.inl ⟨by first | rfl | go_simp, by intro w9 hSw; (try dsimp only at hSw); go_simp⟩) (by assumption) ?_
        simp only [List.getElem_toArray, List.getElem_cons_zero, List.getElem_cons_succ, Act.put, List.setIfInBounds_toArray, List.set_cons_zero, List.set_cons_succ]
        refine wpAnyH_take (i := 44) (v := .slice RA bs.length rc) rfl (by kernel_rfl) (by kernel_rfl) (by kernel_rfl) (fun _ _ _ h => h) (Or.inl ⟨by first | rfl | go_simp, by intro w9 hSw; (try dsimp only at hSw); go_simp⟩) (by assumption) ?_
        simp only [List.getElem_toArray, List.getElem_cons_zero, List.getElem_cons_succ, Act.put, List.setIfInBounds_toArray, List.set_cons_zero, List.set_cons_succ]
        refine wpAnyH_take (i := 45) (v := .string (strOfNums bs)) rfl (by kernel_rfl) (by kernel_rfl) (by kernel_rfl) (fun _ _ _ h => h) (Or.inl ⟨by first | rfl | go_simp, by intro w9 hSw; (try dsimp only at hSw); go_simp⟩) (by assumption) ?_
        simp only [List.getElem_toArray, List.getElem_cons_zero, List.getElem_cons_succ, Act.put, List.setIfInBounds_toArray, List.set_cons_zero, List.set_cons_succ]
        refine wpAnyH_take (i := 46) (v := .pointer (some ⟨w.heap.size + 1, 4, none⟩)) rfl (by kernel_rfl) (by kernel_rfl) (by kernel_rfl) (fun _ _ _ h => h) (Or.inl ⟨by first | rfl | go_simp, by intro w9 hSw; (try dsimp only at hSw); go_simp⟩) (by assumption) ?_
        simp only [List.getElem_toArray, List.getElem_cons_zero, List.getElem_cons_succ, Act.put, List.setIfInBounds_toArray, List.set_cons_zero, List.set_cons_succ]
        refine wpAnyH_take (i := 47) (v := .slice TA bs.length tc) rfl (by kernel_rfl) (by kernel_rfl) (by kernel_rfl) (fun _ _ _ h => h) (Or.inl ⟨by first | rfl | go_simp, by intro w9 hSw; (try dsimp only at hSw); go_simp⟩) (by assumption) ?_
        simp only [List.getElem_toArray, List.getElem_cons_zero, List.getElem_cons_succ, Act.put, List.setIfInBounds_toArray, List.set_cons_zero, List.set_cons_succ]
        refine wpAnyH_take (i := 48) (v := .string (strOfNums bs)) rfl (by kernel_rfl) (by kernel_rfl) (by kernel_rfl) (fun _ _ _ h => h) (Or.inl ⟨by first | rfl | go_simp, by intro w9 hSw; (try dsimp only at hSw); go_simp⟩) (by assumption) ?_
        simp only [List.getElem_toArray, List.getElem_cons_zero, List.getElem_cons_succ, Act.put, List.setIfInBounds_toArray, List.set_cons_zero, List.set_cons_succ]
        refine wpAnyH_take (i := 49) (v := .bool true) rfl (by kernel_rfl) (by kernel_rfl) (by kernel_rfl) (fun _ _ _ h => h) (Or.inl ⟨by first | rfl | go_simp, by intro w9 hSw; (try dsimp only at hSw); go_simp⟩) (by assumption) ?_
        simp only [List.getElem_toArray, List.getElem_cons_zero, List.getElem_cons_succ, Act.put, List.setIfInBounds_toArray, List.set_cons_zero, List.set_cons_succ]
        refine wpAnyH_take (i := 50) (v := .bool true) rfl (by kernel_rfl) (by kernel_rfl) (by kernel_rfl) (fun _ _ _ h => h) (Or.inl ⟨by first | rfl | go_simp, by intro w9 hSw; (try dsimp only at hSw); go_simp⟩) (by assumption) ?_
        simp only [List.getElem_toArray, List.getElem_cons_zero, List.getElem_cons_succ, Act.put, List.setIfInBounds_toArray, List.set_cons_zero, List.set_cons_succ]
        refine wpAnyH_take (i := 51) (v := .bool true) rfl (by kernel_rfl) (by kernel_rfl) (by kernel_rfl) (fun _ _ _ h => h) (Or.inl ⟨by first | rfl | go_simp, by intro w9 hSw; (try dsimp only at hSw); go_simp⟩) (by assumption) ?_
        simp only [List.getElem_toArray, List.getElem_cons_zero, List.getElem_cons_succ, Act.put, List.setIfInBounds_toArray, List.set_cons_zero, List.set_cons_succ]
        refine wpAnyH_take (i := 52) (v := .bool true) rfl (by kernel_rfl) (by kernel_rfl) (by kernel_rfl) (fun _ _ _ h => h) (Or.inl ⟨by first | rfl | go_simp, by intro w9 hSw; (try dsimp only at hSw); go_simp⟩) (by assumption) ?_
        simp only [List.getElem_toArray, List.getElem_cons_zero, List.getElem_cons_succ, Act.put, List.setIfInBounds_toArray, List.set_cons_zero, List.set_cons_succ]
        refine wpAnyH_done (by kernel_rfl) ?_ _
        go_wp2_with fail
        go_ret
        exact ⟨rfl, thenB HB BW⟩
end Go.Proofs.Ytocmcjbhmjbmhaa.Air
