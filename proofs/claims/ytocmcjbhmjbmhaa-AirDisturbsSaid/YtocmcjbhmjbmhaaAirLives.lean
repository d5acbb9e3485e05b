/- What the statements ask for first: results that the document gives. -/
import Derived.Test.YtocmcjbhmjbmhaaAirHear2
import Derived.Test.YtocmcjbhmjbmhaaAirCheck
import Derived.Deep.CutRange
set_option linter.unusedVariables false
set_option linter.unusedSimpArgs false
namespace Go.Proofs.Ytocmcjbhmjbmhaa.Air
open Go.RowKit Mem Rw Base

theorem pair_any (w : World) :
    Calls Try.prog 32 #[] w fun e w' => ∃ A c, e = .returned (mv ⟨2, [(0, 1)], [], []⟩ ⟨A, c, none, 0, none, 0⟩) ∧ MedAt w' w'.heap.size ⟨A, c, none, 0, none, 0⟩ ⟨2, [(0, 1)], [], []⟩ ∧ Below w.heap.size w w' := by
  have M0 : ∀ X : World, MedAt (X.alloc (.cells #[.int .i64 0, .int .i64 1] 70)) (X.alloc (.cells #[.int .i64 0, .int .i64 1] 70)).heap.size ⟨some ⟨X.heap.size, 0, none⟩, 1, none, 0, none, 0⟩ ⟨2, [(0, 1)], [], []⟩ := fun X =>
    ⟨CellsAt.lit X _ _ _ rfl, .inl rfl, .inl rfl, by simp, by simp, by simp⟩
  have B0 : Below w.heap.size w ((w.alloc (.cells #[.int .i64 2, .slice (some ⟨w.heap.size + 1, 0, none⟩) 1 1, .slice none 0 0, .slice none 0 0] 34)).alloc (.cells #[.int .i64 0, .int .i64 1] 70)) := ((Below.refl _ w).alloc (Nat.le_refl _) _).alloc (by simp) _
  go_enter Try.func32, Try.ntmps32
  go_wp2_with fail
  refine bodyPost_ret (v := .agg #[.int .i64 2, .slice (some ⟨w.heap.size + 1, 0, none⟩) 1 1, .slice none 0 0, .slice none 0 0]) (by simp [results, Try.f32, go_sem]) rfl ?_
  exact ⟨some ⟨w.heap.size + 1, 0, none⟩, 1, rfl, by simpa using M0 (w.alloc (.cells #[.int .i64 2, .slice (some ⟨w.heap.size + 1, 0, none⟩) 1 1, .slice none 0 0, .slice none 0 0] 34)), B0⟩
/-- A check of no transmissions. -/
theorem check_none (m : Med) (p : Pl) (w : World) (hm : MedAt w w.heap.size p m) {r : Int} (hr : chk m [] = r) :
    Calls Try.prog 17 #[mv m p, .slice none 0 0] w fun e w' => e = .returned (.int .i64 r) ∧ Below w.heap.size w w' := by
  subst hr
  exact check_any m p none 0 [] w (by simp) hm ⟨.inl rfl, by simp⟩
/-- A literal of one transmission. -/
theorem lit_txs (x : Tx) (X : World) (h : Own X X.heap.size x) {e : TypeId} :
    TxsAt (X.alloc (.cells #[.int .i64 x.id, .int .i64 x.frm, .int .i64 x.ch, .int .i64 x.st, .slice x.A x.bs.length x.c] e)) (X.alloc (.cells #[.int .i64 x.id, .int .i64 x.frm, .int .i64 x.ch, .int .i64 x.st, .slice x.A x.bs.length x.c] e)).heap.size (some ⟨X.heap.size, 0, none⟩) [x] :=
  ⟨CellsAt.lit X _ _ _ rfl, fun y hy => by
    obtain rfl : y = x := by simpa using hy
    exact (h.below ((Below.refl _ X).alloc (Nat.le_refl _) _)).more (by simp)⟩
theorem hear_yes (A : Option Addr) (c : Nat) (gb : Nat) (L : Option Addr) (w : World) (hM : MedAt w w.heap.size ⟨A, c, none, 0, none, 0⟩ ⟨2, [(0, 1)], [], []⟩) (hr : TxsAt w w.heap.size L [⟨4, 0, 5, 100, some ⟨gb, 0, none⟩, 10, [1, 2, 3, 4, 5, 6, 7, 8, 9, 10]⟩]) :
    Calls Try.prog 26 #[.agg #[.int .i64 2, .slice A 1 c, .slice none 0 0, .slice none 0 0], .slice L 1 1, .agg #[.int .i64 1, .int .i64 5, .int .i64 100, .int .i64 101]] w fun e w' =>
      ∃ RA rc, e = .returned (.tuple #[.agg #[.int .i64 4, .int .i64 1, .int .i64 1, .int .i64 100, .int .i64 260, .slice RA 10 rc], .bool true]) ∧ Below w.heap.size w w' := by
  refine (hear_any ⟨2, [(0, 1)], [], []⟩ ⟨A, c, none, 0, none, 0⟩ L 1 _ ⟨1, 5, 100, 101⟩ w (by simp) hM hr (by intro y hy; obtain rfl := List.mem_singleton.mp hy; exact ⟨by show (-1099511627776 : Int) ≤ 100; decide, by show (100 : Int) ≤ 1099511627776; decide⟩)).mono ?_
  rintro e w' ⟨h, b⟩
  rw [show hearR ⟨2, [(0, 1)], [], []⟩ ([⟨4, 0, 5, 100, some ⟨gb, 0, none⟩, 10, [1, 2, 3, 4, 5, 6, 7, 8, 9, 10]⟩].map Tx.tr) ⟨1, 5, 100, 101⟩ = some (0, ⟨4, 0, 5, 100, [1, 2, 3, 4, 5, 6, 7, 8, 9, 10]⟩) from rfl] at h
  obtain ⟨RA, rc, bs, rfl, rfl, _⟩ := h
  exact ⟨RA, rc, rfl, b⟩
theorem hear_no (A : Option Addr) (c : Nat) (gb : Nat) (L : Option Addr) (w : World) (hM : MedAt w w.heap.size ⟨A, c, none, 0, none, 0⟩ ⟨2, [(0, 1)], [], []⟩) (hr : TxsAt w w.heap.size L [⟨4, 0, 5, 100, some ⟨gb, 0, none⟩, 10, [1, 2, 3, 4, 5, 6, 7, 8, 9, 10]⟩]) :
    Calls Try.prog 26 #[.agg #[.int .i64 2, .slice A 1 c, .slice none 0 0, .slice none 0 0], .slice L 1 1, .agg #[.int .i64 1, .int .i64 5, .int .i64 0, .int .i64 100]] w fun e w' =>
      e = .returned (.tuple #[.agg #[.int .i64 0, .int .i64 0, .int .i64 0, .int .i64 0, .int .i64 0, .slice none 0 0], .bool false]) ∧ Below w.heap.size w w' := by
  refine (hear_any ⟨2, [(0, 1)], [], []⟩ ⟨A, c, none, 0, none, 0⟩ L 1 _ ⟨1, 5, 0, 100⟩ w (by simp) hM hr (by intro y hy; obtain rfl := List.mem_singleton.mp hy; exact ⟨by show (-1099511627776 : Int) ≤ 100; decide, by show (100 : Int) ≤ 1099511627776; decide⟩)).mono ?_
  rintro e w' ⟨h, b⟩
  rw [show hearR ⟨2, [(0, 1)], [], []⟩ ([⟨4, 0, 5, 100, some ⟨gb, 0, none⟩, 10, [1, 2, 3, 4, 5, 6, 7, 8, 9, 10]⟩].map Tx.tr) ⟨1, 5, 0, 100⟩ = none from rfl] at h
  exact ⟨h, b⟩
set_option maxHeartbeats 8000000 in
theorem lives_any (w : World) : Calls Try.prog 10 #[] w fun e w' => e = .returned (.bool true) ∧ Below w.heap.size w w' := by
  have HP : Hid (∀ w' : World, Calls Try.prog 32 #[] w' fun e w2 => ∃ A c, e = .returned (mv ⟨2, [(0, 1)], [], []⟩ ⟨A, c, none, 0, none, 0⟩) ∧ MedAt w2 w2.heap.size ⟨A, c, none, 0, none, 0⟩ ⟨2, [(0, 1)], [], []⟩ ∧ Below w'.heap.size w' w2) := Lib.hid pair_any
  have HAt : Hid (∀ w' : World, Calls Try.prog 11 #[.int .i64 10] w' fun e w2 => e = .returned (.int .i64 160) ∧ w' = w2) := Lib.hid (fun w' => airtime_int 10 w' (by decide))
  have HEn : Hid (∀ w' : World, Calls Try.prog 13 #[.agg #[.int .i64 4, .int .i64 0, .int .i64 5, .int .i64 100, .slice (some ⟨w.heap.size, 0, none⟩) 10 10]] w' fun e w2 => e = .returned (.int .i64 260) ∧ Below w'.heap.size w' w2) := Lib.hid (fun w' => end_any 4 0 5 100 (some ⟨w.heap.size, 0, none⟩) 10 10 w' (by decide) (by decide))
  have HIn := Lib.hid (fun (A : Option Addr) (c : Nat) (w' : World) (hM : MedAt w' w'.heap.size ⟨A, c, none, 0, none, 0⟩ ⟨2, [(0, 1)], [], []⟩) => inrange_any 2 1 0 A none none 1 c 0 0 0 0 [(0, 1)] w' rfl (by decide) hM.a)
  have HC1 : Hid (∀ (A : Option Addr) (c : Nat) (w' : World) (hM : MedAt w' w'.heap.size ⟨A, c, none, 0, none, 0⟩ ⟨2, [(0, 1)], [], []⟩), Calls Try.prog 17 #[.agg #[.int .i64 2, .slice A 1 c, .slice none 0 0, .slice none 0 0], .slice none 0 0] w' fun e w2 => e = .returned (.int .i64 0) ∧ Below w'.heap.size w' w2) := Lib.hid fun A c w' hM => check_none ⟨2, [(0, 1)], [], []⟩ ⟨A, c, none, 0, none, 0⟩ w' hM rfl
  have HC2 : Hid (∀ (w' : World), Calls Try.prog 17 #[.agg #[.int .i64 9, .slice none 0 0, .slice none 0 0, .slice none 0 0], .slice none 0 0] w' fun e w2 => e = .returned (.int .i64 5) ∧ Below w'.heap.size w' w2) := Lib.hid fun w' => check_none ⟨9, [], [], []⟩ ⟨none, 0, none, 0, none, 0⟩ w' ⟨.inl rfl, .inl rfl, .inl rfl, by simp, by simp, by simp⟩ rfl
  rw [show inR [(0, 1)] 1 0 = true from rfl] at HIn
  have HB0 : Below w.heap.size w ((w.alloc (.cells #[.int .u8 1, .int .u8 2, .int .u8 3, .int .u8 4, .int .u8 5, .int .u8 6, .int .u8 7, .int .u8 8, .int .u8 9, .int .u8 10] 5)).alloc (.cells #[.int .i64 4, .int .i64 0, .int .i64 5, .int .i64 100, .slice (some ⟨w.heap.size, 0, none⟩) 10 10] 24)) := ((Below.refl _ w).alloc (Nat.le_refl _) _).alloc (by simp) _
  have I0 : Ints .u8 ((w.alloc (.cells #[.int .u8 1, .int .u8 2, .int .u8 3, .int .u8 4, .int .u8 5, .int .u8 6, .int .u8 7, .int .u8 8, .int .u8 9, .int .u8 10] 5)).alloc (.cells #[.int .i64 4, .int .i64 0, .int .i64 5, .int .i64 100, .slice (some ⟨w.heap.size, 0, none⟩) 10 10] 24)) ((w.alloc (.cells #[.int .u8 1, .int .u8 2, .int .u8 3, .int .u8 4, .int .u8 5, .int .u8 6, .int .u8 7, .int .u8 8, .int .u8 9, .int .u8 10] 5)).alloc (.cells #[.int .i64 4, .int .i64 0, .int .i64 5, .int .i64 100, .slice (some ⟨w.heap.size, 0, none⟩) 10 10] 24)).heap.size (some ⟨w.heap.size, 0, none⟩) [1, 2, 3, 4, 5, 6, 7, 8, 9, 10] := lit2 .u8 w [1, 2, 3, 4, 5, 6, 7, 8, 9, 10] _ _ rfl _
  have T0 : Five ((w.alloc (.cells #[.int .u8 1, .int .u8 2, .int .u8 3, .int .u8 4, .int .u8 5, .int .u8 6, .int .u8 7, .int .u8 8, .int .u8 9, .int .u8 10] 5)).alloc (.cells #[.int .i64 4, .int .i64 0, .int .i64 5, .int .i64 100, .slice (some ⟨w.heap.size, 0, none⟩) 10 10] 24)) (w.heap.size + 1) 4 0 5 100 (.slice (some ⟨w.heap.size, 0, none⟩) 10 10) := by
    have := five_of (Blk.fresh (w.alloc (.cells #[.int .u8 1, .int .u8 2, .int .u8 3, .int .u8 4, .int .u8 5, .int .u8 6, .int .u8 7, .int .u8 8, .int .u8 9, .int .u8 10] 5)) 24 #[.int .i64 4, .int .i64 0, .int .i64 5, .int .i64 100, .slice (some ⟨w.heap.size, 0, none⟩) 10 10])
    simpa using this
  go_enter Try.func10, Try.ntmps10
  go_upto_region 2 with fail
  generalize ((w.alloc (.cells #[.int .u8 1, .int .u8 2, .int .u8 3, .int .u8 4, .int .u8 5, .int .u8 6, .int .u8 7, .int .u8 8, .int .u8 9, .int .u8 10] 5)).alloc (.cells #[.int .i64 4, .int .i64 0, .int .i64 5, .int .i64 100, .slice (some ⟨w.heap.size, 0, none⟩) 10 10] 24)) = W at *
  go_cut [2, 3] from 8 to 15 (fun s2 s3 wx => ∃ G RA rc, s2 = .pointer (some ⟨G, 0, none⟩) ∧ s3 = .bool true ∧ wx.cell? ⟨G, 0, none⟩ = some (.int .i64 4) ∧ wx.cell? ⟨G, 1, none⟩ = some (.int .i64 1) ∧ wx.cell? ⟨G, 2, none⟩ = some (.int .i64 1) ∧ wx.cell? ⟨G, 3, none⟩ = some (.int .i64 100) ∧ wx.cell? ⟨G, 4, none⟩ = some (.int .i64 260) ∧ wx.cell? ⟨G, 5, none⟩ = some (.slice RA 10 rc) ∧ Below W.heap.size W wx)
  case first =>
    have HH : Hid (∀ (w' : World) (A : Option Addr) (c : Nat) (L : Option Addr) (_ : Unit) (hM : MedAt w' w'.heap.size ⟨A, c, none, 0, none, 0⟩ ⟨2, [(0, 1)], [], []⟩) (hr : TxsAt w' w'.heap.size L [(⟨4, 0, 5, 100, some ⟨w.heap.size, 0, none⟩, 10, [1, 2, 3, 4, 5, 6, 7, 8, 9, 10]⟩ : Tx)]), Calls Try.prog 26 #[.agg #[.int .i64 2, .slice A 1 c, .slice none 0 0, .slice none 0 0], .slice L 1 1, .agg #[.int .i64 1, .int .i64 5, .int .i64 100, .int .i64 101]] w' fun e w2 => ∃ RA rc, e = .returned (.tuple #[.agg #[.int .i64 4, .int .i64 1, .int .i64 1, .int .i64 100, .int .i64 260, .slice RA 10 rc], .bool true]) ∧ Below w'.heap.size w' w2) := Lib.hid fun w' A c L _ hM hr => hear_yes A c w.heap.size L w' hM hr
    clear HAt HEn HIn HC1 HC2 HB0
    go_wp2_with fail
    refine wp_region_held_drew (S := fun w' => Five w' (w.heap.size + 1) 4 0 5 100 (.slice (some ⟨w.heap.size, 0, none⟩) 10 10)) (by kernel_rfl) ?_ (fun hHeld => ?_)
    · exact T0
    have T1 : Five W.drew (w.heap.size + 1) 4 0 5 100 (.slice (some ⟨w.heap.size, 0, none⟩) 10 10) := T0
    have I1 : Ints .u8 W.drew W.drew.heap.size (some ⟨w.heap.size, 0, none⟩) [1, 2, 3, 4, 5, 6, 7, 8, 9, 10] := I0
    have BX : Below W.heap.size W W.drew := (Below.refl _ W).drew
    generalize W.drew = X0 at *
    refine wpAnyH_take (i := 1) (v := .agg #[.int .i64 4, .int .i64 0, .int .i64 5, .int .i64 100, .slice (some ⟨w.heap.size, 0, none⟩) 10 10]) rfl (by kernel_rfl) (by kernel_rfl) (by kernel_rfl) (fun _ _ _ h => h) (Or.inl ⟨by first | rfl | go_simp, by intro w9 hSw; (try dsimp only at hSw); go_simp⟩) (by assumption) ?_
    simp only [List.getElem_toArray, List.getElem_cons_zero, List.getElem_cons_succ, Act.put, List.setIfInBounds_toArray, List.set_cons_zero, List.set_cons_succ]
    refine wpAnyH_take (i := 3) (v := .agg #[.int .i64 1, .int .i64 5, .int .i64 100, .int .i64 101]) rfl (by kernel_rfl) (by kernel_rfl) (by kernel_rfl) (fun _ _ _ h => h) (Or.inl ⟨by first | rfl | go_simp, by intro w9 hSw; (try dsimp only at hSw); go_simp⟩) (by assumption) ?_
    simp only [List.getElem_toArray, List.getElem_cons_zero, List.getElem_cons_succ, Act.put, List.setIfInBounds_toArray, List.set_cons_zero, List.set_cons_succ]
    refine wpAnyH_ready (rs := [0, 2, 8]) (by kernel_rfl) (by simp) ?_
    refine AllReadyH.cons rfl (fun K hK => ?_) (AllReadyH.cons rfl (fun K hK => ?_) (AllReadyH.cons rfl (fun K hK => ?_) (AllReadyH.nil)))
    · skip
      go_simp
      refine (HP.out _).mono ?_
      rintro e X1 ⟨A, c, rfl, M1, b1⟩
      have T1 := T1.below b1
      have I1 := later I1 b1
      have BX := BX.trans (b1.mono BX.size)
      refine hK.out _ _ T1 (fun hHeld => ?_)
      clear hK K
      try simp only [List.getElem_toArray, List.getElem_cons_zero, List.getElem_cons_succ, Act.put, List.setIfInBounds_toArray, List.set_cons_zero, List.set_cons_succ]
      refine wpAnyH_ready (rs := [2, 8]) (by kernel_rfl) (by simp) ?_
      refine AllReadyH.cons rfl (fun K hK => ?_) (AllReadyH.cons rfl (fun K hK => ?_) (AllReadyH.nil))
      · skip
        go_simp
        have b1 := (Below.refl _ X1).alloc (Nat.le_refl _) (.cells #[.int .i64 4, .int .i64 0, .int .i64 5, .int .i64 100, .slice (some ⟨w.heap.size, 0, none⟩) 10 10] 24)
        have K1 := lit_txs (⟨4, 0, 5, 100, some ⟨w.heap.size, 0, none⟩, 10, [1, 2, 3, 4, 5, 6, 7, 8, 9, 10]⟩ : Tx) X1 ⟨by simp, by simp, I1⟩ (e := 24)
        refine hK.out _ _ (T1.below b1) (fun hHeld => ?_)
        clear hK K
        generalize X1.alloc (.cells #[.int .i64 4, .int .i64 0, .int .i64 5, .int .i64 100, .slice (some ⟨w.heap.size, 0, none⟩) 10 10] 24) = X2 at *
        have T1 := T1.below b1
        have I1 := later I1 b1
        have BX := BX.trans (b1.mono BX.size)
        have M1 := M1.later b1
        try simp only [List.getElem_toArray, List.getElem_cons_zero, List.getElem_cons_succ, Act.put, List.setIfInBounds_toArray, List.set_cons_zero, List.set_cons_succ]
        refine wpAnyH_ready (rs := [4, 8]) (by kernel_rfl) (by simp) ?_
        refine AllReadyH.cons rfl (fun K hK => ?_) (AllReadyH.cons rfl (fun K hK => ?_) (AllReadyH.nil))
        · skip
          go_simp
          refine (HH.out _ A c _ () M1 K1).mono ?_
          rintro e X3 ⟨RA, rc, rfl, b1⟩
          have T1 := T1.below b1
          have I1 := later I1 b1
          have BX := BX.trans (b1.mono BX.size)
          have M1 := M1.later b1
          have K1 := K1.later b1
          refine hK.out _ _ T1 (fun hHeld => ?_)
          clear hK K
          try simp only [List.getElem_toArray, List.getElem_cons_zero, List.getElem_cons_succ, Act.put, List.setIfInBounds_toArray, List.set_cons_zero, List.set_cons_succ]
          refine wpAnyH_take (i := 5) (v := .tuple #[.agg #[.int .i64 4, .int .i64 1, .int .i64 1, .int .i64 100, .int .i64 260, .slice RA 10 rc], .bool true]) rfl (by kernel_rfl) (by kernel_rfl) (by kernel_rfl) (fun _ _ _ h => h) (Or.inl ⟨by first | rfl | go_simp, by intro w9 hSw; (try dsimp only at hSw); go_simp⟩) (by assumption) ?_
          simp only [List.getElem_toArray, List.getElem_cons_zero, List.getElem_cons_succ, Act.put, List.setIfInBounds_toArray, List.set_cons_zero, List.set_cons_succ]
          refine wpAnyH_take (i := 6) (v := .agg #[.int .i64 4, .int .i64 1, .int .i64 1, .int .i64 100, .int .i64 260, .slice RA 10 rc]) rfl (by kernel_rfl) (by kernel_rfl) (by kernel_rfl) (fun _ _ _ h => h) (Or.inl ⟨by first | rfl | go_simp, by intro w9 hSw; (try dsimp only at hSw); go_simp⟩) (by assumption) ?_
          simp only [List.getElem_toArray, List.getElem_cons_zero, List.getElem_cons_succ, Act.put, List.setIfInBounds_toArray, List.set_cons_zero, List.set_cons_succ]
          refine wpAnyH_take (i := 7) (v := .bool true) rfl (by kernel_rfl) (by kernel_rfl) (by kernel_rfl) (fun _ _ _ h => h) (Or.inl ⟨by first | rfl | go_simp, by intro w9 hSw; (try dsimp only at hSw); go_simp⟩) (by assumption) ?_
          simp only [List.getElem_toArray, List.getElem_cons_zero, List.getElem_cons_succ, Act.put, List.setIfInBounds_toArray, List.set_cons_zero, List.set_cons_succ]
          refine wpAnyH_ready (rs := [8]) (by kernel_rfl) (by simp) ?_
          refine AllReadyH.cons rfl (fun K hK => ?_) (AllReadyH.nil)
          go_simp
          have b1 := (Below.refl _ X3).alloc (Nat.le_refl _) (.cells #[.int .i64 0, .int .i64 0, .int .i64 0, .int .i64 0, .int .i64 0, .slice none 0 0] 46)
          have RB := Blk.fresh X3 46 #[.int .i64 0, .int .i64 0, .int .i64 0, .int .i64 0, .int .i64 0, .slice none 0 0]
          have hG := BX.size
          refine hK.out _ _ (T1.below b1) (fun hHeld => ?_)
          clear hK K
          generalize X3.alloc (.cells #[.int .i64 0, .int .i64 0, .int .i64 0, .int .i64 0, .int .i64 0, .slice none 0 0] 46) = X4 at *
          have T1 := T1.below b1
          have I1 := later I1 b1
          have BX := BX.trans (b1.mono BX.size)
          have M1 := M1.later b1
          have K1 := K1.later b1
          try simp only [List.getElem_toArray, List.getElem_cons_zero, List.getElem_cons_succ, Act.put, List.setIfInBounds_toArray, List.set_cons_zero, List.set_cons_succ]
          obtain ⟨r0, r1, r2, r3, r4, r5, z0, z1, z2, z3, z4, z5⟩ := blk_six RB
          obtain ⟨⟨e0, e1, e2, e3, e4, e5⟩, _, bY⟩ := leaf_six (.int .i64 4) (.int .i64 1) (.int .i64 1) (.int .i64 100) (.int .i64 260) (.slice RA 10 rc) RB BX hG
          have E6 := Lib.hid (And.intro e0 (And.intro e1 (And.intro e2 (And.intro e3 (And.intro e4 (And.intro e5 bY))))))
          clear e0 e1 e2 e3 e4 e5 bY
          refine wpAnyH_ready (rs := [9]) (by kernel_rfl) (by simp) ?_
          refine AllReadyH.cons rfl (fun K hK => ?_) AllReadyH.nil
          go_simp
          refine hK.out _ _ (Five.below T0 E6.out.2.2.2.2.2.2) (fun hHeld => ?_)
          clear hK K
          try simp only [List.getElem_toArray, List.getElem_cons_zero, List.getElem_cons_succ, Act.put, List.setIfInBounds_toArray, List.set_cons_zero, List.set_cons_succ]
          refine wpAnyH_take (i := 10) (v := .bool true) rfl (by kernel_rfl) (by kernel_rfl) (by kernel_rfl) (fun _ _ _ h => h) (Or.inl ⟨by first | rfl | go_simp, by intro w9 hSw; (try dsimp only at hSw); go_simp⟩) (by assumption) ?_
          simp only [List.getElem_toArray, List.getElem_cons_zero, List.getElem_cons_succ, Act.put, List.setIfInBounds_toArray, List.set_cons_zero, List.set_cons_succ]
          refine wpAnyH_done (by kernel_rfl) ?_ _
          go_wp2_with fail
          go_meet
          exact ⟨_, RA, rc, rfl, rfl, E6.out⟩
        · skip
          go_simp
          have b1 := (Below.refl _ X2).alloc (Nat.le_refl _) (.cells #[.int .i64 0, .int .i64 0, .int .i64 0, .int .i64 0, .int .i64 0, .slice none 0 0] 46)
          have RB := Blk.fresh X2 46 #[.int .i64 0, .int .i64 0, .int .i64 0, .int .i64 0, .int .i64 0, .slice none 0 0]
          have hG := BX.size
          refine hK.out _ _ (T1.below b1) (fun hHeld => ?_)
          clear hK K
          generalize X2.alloc (.cells #[.int .i64 0, .int .i64 0, .int .i64 0, .int .i64 0, .int .i64 0, .slice none 0 0] 46) = X5 at *
          have T1 := T1.below b1
          have I1 := later I1 b1
          have BX := BX.trans (b1.mono BX.size)
          have M1 := M1.later b1
          have K1 := K1.later b1
          try simp only [List.getElem_toArray, List.getElem_cons_zero, List.getElem_cons_succ, Act.put, List.setIfInBounds_toArray, List.set_cons_zero, List.set_cons_succ]
          refine wpAnyH_ready (rs := [4]) (by kernel_rfl) (by simp) ?_
          refine AllReadyH.cons rfl (fun K hK => ?_) (AllReadyH.nil)
          go_simp
          refine (HH.out _ A c _ () M1 K1).mono ?_
          rintro e X6 ⟨RA, rc, rfl, b1⟩
          have T1 := T1.below b1
          have I1 := later I1 b1
          have BX := BX.trans (b1.mono BX.size)
          have M1 := M1.later b1
          have K1 := K1.later b1
          have RB := RB.below b1 RB.lt
          refine hK.out _ _ T1 (fun hHeld => ?_)
          clear hK K
          try simp only [List.getElem_toArray, List.getElem_cons_zero, List.getElem_cons_succ, Act.put, List.setIfInBounds_toArray, List.set_cons_zero, List.set_cons_succ]
          refine wpAnyH_take (i := 5) (v := .tuple #[.agg #[.int .i64 4, .int .i64 1, .int .i64 1, .int .i64 100, .int .i64 260, .slice RA 10 rc], .bool true]) rfl (by kernel_rfl) (by kernel_rfl) (by kernel_rfl) (fun _ _ _ h => h) (Or.inl ⟨by first | rfl | go_simp, by intro w9 hSw; (try dsimp only at hSw); go_simp⟩) (by assumption) ?_
          simp only [List.getElem_toArray, List.getElem_cons_zero, List.getElem_cons_succ, Act.put, List.setIfInBounds_toArray, List.set_cons_zero, List.set_cons_succ]
          refine wpAnyH_take (i := 6) (v := .agg #[.int .i64 4, .int .i64 1, .int .i64 1, .int .i64 100, .int .i64 260, .slice RA 10 rc]) rfl (by kernel_rfl) (by kernel_rfl) (by kernel_rfl) (fun _ _ _ h => h) (Or.inl ⟨by first | rfl | go_simp, by intro w9 hSw; (try dsimp only at hSw); go_simp⟩) (by assumption) ?_
          simp only [List.getElem_toArray, List.getElem_cons_zero, List.getElem_cons_succ, Act.put, List.setIfInBounds_toArray, List.set_cons_zero, List.set_cons_succ]
          refine wpAnyH_take (i := 7) (v := .bool true) rfl (by kernel_rfl) (by kernel_rfl) (by kernel_rfl) (fun _ _ _ h => h) (Or.inl ⟨by first | rfl | go_simp, by intro w9 hSw; (try dsimp only at hSw); go_simp⟩) (by assumption) ?_
          simp only [List.getElem_toArray, List.getElem_cons_zero, List.getElem_cons_succ, Act.put, List.setIfInBounds_toArray, List.set_cons_zero, List.set_cons_succ]
          obtain ⟨r0, r1, r2, r3, r4, r5, z0, z1, z2, z3, z4, z5⟩ := blk_six RB
          obtain ⟨⟨e0, e1, e2, e3, e4, e5⟩, _, bY⟩ := leaf_six (.int .i64 4) (.int .i64 1) (.int .i64 1) (.int .i64 100) (.int .i64 260) (.slice RA 10 rc) RB BX hG
          have E6 := Lib.hid (And.intro e0 (And.intro e1 (And.intro e2 (And.intro e3 (And.intro e4 (And.intro e5 bY))))))
          clear e0 e1 e2 e3 e4 e5 bY
          refine wpAnyH_ready (rs := [9]) (by kernel_rfl) (by simp) ?_
          refine AllReadyH.cons rfl (fun K hK => ?_) AllReadyH.nil
          go_simp
          refine hK.out _ _ (Five.below T0 E6.out.2.2.2.2.2.2) (fun hHeld => ?_)
          clear hK K
          try simp only [List.getElem_toArray, List.getElem_cons_zero, List.getElem_cons_succ, Act.put, List.setIfInBounds_toArray, List.set_cons_zero, List.set_cons_succ]
          refine wpAnyH_take (i := 10) (v := .bool true) rfl (by kernel_rfl) (by kernel_rfl) (by kernel_rfl) (fun _ _ _ h => h) (Or.inl ⟨by first | rfl | go_simp, by intro w9 hSw; (try dsimp only at hSw); go_simp⟩) (by assumption) ?_
          simp only [List.getElem_toArray, List.getElem_cons_zero, List.getElem_cons_succ, Act.put, List.setIfInBounds_toArray, List.set_cons_zero, List.set_cons_succ]
          refine wpAnyH_done (by kernel_rfl) ?_ _
          go_wp2_with fail
          go_meet
          exact ⟨_, RA, rc, rfl, rfl, E6.out⟩
      · skip
        go_simp
        have b1 := (Below.refl _ X1).alloc (Nat.le_refl _) (.cells #[.int .i64 0, .int .i64 0, .int .i64 0, .int .i64 0, .int .i64 0, .slice none 0 0] 46)
        have RB := Blk.fresh X1 46 #[.int .i64 0, .int .i64 0, .int .i64 0, .int .i64 0, .int .i64 0, .slice none 0 0]
        have hG := BX.size
        refine hK.out _ _ (T1.below b1) (fun hHeld => ?_)
        clear hK K
        generalize X1.alloc (.cells #[.int .i64 0, .int .i64 0, .int .i64 0, .int .i64 0, .int .i64 0, .slice none 0 0] 46) = X7 at *
        have T1 := T1.below b1
        have I1 := later I1 b1
        have BX := BX.trans (b1.mono BX.size)
        have M1 := M1.later b1
        try simp only [List.getElem_toArray, List.getElem_cons_zero, List.getElem_cons_succ, Act.put, List.setIfInBounds_toArray, List.set_cons_zero, List.set_cons_succ]
        refine wpAnyH_ready (rs := [2]) (by kernel_rfl) (by simp) ?_
        refine AllReadyH.cons rfl (fun K hK => ?_) (AllReadyH.nil)
        go_simp
        have b1 := (Below.refl _ X7).alloc (Nat.le_refl _) (.cells #[.int .i64 4, .int .i64 0, .int .i64 5, .int .i64 100, .slice (some ⟨w.heap.size, 0, none⟩) 10 10] 24)
        have K1 := lit_txs (⟨4, 0, 5, 100, some ⟨w.heap.size, 0, none⟩, 10, [1, 2, 3, 4, 5, 6, 7, 8, 9, 10]⟩ : Tx) X7 ⟨by simp, by simp, I1⟩ (e := 24)
        refine hK.out _ _ (T1.below b1) (fun hHeld => ?_)
        clear hK K
        generalize X7.alloc (.cells #[.int .i64 4, .int .i64 0, .int .i64 5, .int .i64 100, .slice (some ⟨w.heap.size, 0, none⟩) 10 10] 24) = X8 at *
        have T1 := T1.below b1
        have I1 := later I1 b1
        have BX := BX.trans (b1.mono BX.size)
        have M1 := M1.later b1
        have RB := RB.below b1 RB.lt
        try simp only [List.getElem_toArray, List.getElem_cons_zero, List.getElem_cons_succ, Act.put, List.setIfInBounds_toArray, List.set_cons_zero, List.set_cons_succ]
        refine wpAnyH_ready (rs := [4]) (by kernel_rfl) (by simp) ?_
        refine AllReadyH.cons rfl (fun K hK => ?_) (AllReadyH.nil)
        go_simp
        refine (HH.out _ A c _ () M1 K1).mono ?_
        rintro e X9 ⟨RA, rc, rfl, b1⟩
        have T1 := T1.below b1
        have I1 := later I1 b1
        have BX := BX.trans (b1.mono BX.size)
        have M1 := M1.later b1
        have K1 := K1.later b1
        have RB := RB.below b1 RB.lt
        refine hK.out _ _ T1 (fun hHeld => ?_)
        clear hK K
        try simp only [List.getElem_toArray, List.getElem_cons_zero, List.getElem_cons_succ, Act.put, List.setIfInBounds_toArray, List.set_cons_zero, List.set_cons_succ]
        refine wpAnyH_take (i := 5) (v := .tuple #[.agg #[.int .i64 4, .int .i64 1, .int .i64 1, .int .i64 100, .int .i64 260, .slice RA 10 rc], .bool true]) rfl (by kernel_rfl) (by kernel_rfl) (by kernel_rfl) (fun _ _ _ h => h) (Or.inl ⟨by first | rfl | go_simp, by intro w9 hSw; (try dsimp only at hSw); go_simp⟩) (by assumption) ?_
        simp only [List.getElem_toArray, List.getElem_cons_zero, List.getElem_cons_succ, Act.put, List.setIfInBounds_toArray, List.set_cons_zero, List.set_cons_succ]
        refine wpAnyH_take (i := 6) (v := .agg #[.int .i64 4, .int .i64 1, .int .i64 1, .int .i64 100, .int .i64 260, .slice RA 10 rc]) rfl (by kernel_rfl) (by kernel_rfl) (by kernel_rfl) (fun _ _ _ h => h) (Or.inl ⟨by first | rfl | go_simp, by intro w9 hSw; (try dsimp only at hSw); go_simp⟩) (by assumption) ?_
        simp only [List.getElem_toArray, List.getElem_cons_zero, List.getElem_cons_succ, Act.put, List.setIfInBounds_toArray, List.set_cons_zero, List.set_cons_succ]
        refine wpAnyH_take (i := 7) (v := .bool true) rfl (by kernel_rfl) (by kernel_rfl) (by kernel_rfl) (fun _ _ _ h => h) (Or.inl ⟨by first | rfl | go_simp, by intro w9 hSw; (try dsimp only at hSw); go_simp⟩) (by assumption) ?_
        simp only [List.getElem_toArray, List.getElem_cons_zero, List.getElem_cons_succ, Act.put, List.setIfInBounds_toArray, List.set_cons_zero, List.set_cons_succ]
        obtain ⟨r0, r1, r2, r3, r4, r5, z0, z1, z2, z3, z4, z5⟩ := blk_six RB
        obtain ⟨⟨e0, e1, e2, e3, e4, e5⟩, _, bY⟩ := leaf_six (.int .i64 4) (.int .i64 1) (.int .i64 1) (.int .i64 100) (.int .i64 260) (.slice RA 10 rc) RB BX hG
        have E6 := Lib.hid (And.intro e0 (And.intro e1 (And.intro e2 (And.intro e3 (And.intro e4 (And.intro e5 bY))))))
        clear e0 e1 e2 e3 e4 e5 bY
        refine wpAnyH_ready (rs := [9]) (by kernel_rfl) (by simp) ?_
        refine AllReadyH.cons rfl (fun K hK => ?_) AllReadyH.nil
        go_simp
        refine hK.out _ _ (Five.below T0 E6.out.2.2.2.2.2.2) (fun hHeld => ?_)
        clear hK K
        try simp only [List.getElem_toArray, List.getElem_cons_zero, List.getElem_cons_succ, Act.put, List.setIfInBounds_toArray, List.set_cons_zero, List.set_cons_succ]
        refine wpAnyH_take (i := 10) (v := .bool true) rfl (by kernel_rfl) (by kernel_rfl) (by kernel_rfl) (fun _ _ _ h => h) (Or.inl ⟨by first | rfl | go_simp, by intro w9 hSw; (try dsimp only at hSw); go_simp⟩) (by assumption) ?_
        simp only [List.getElem_toArray, List.getElem_cons_zero, List.getElem_cons_succ, Act.put, List.setIfInBounds_toArray, List.set_cons_zero, List.set_cons_succ]
        refine wpAnyH_done (by kernel_rfl) ?_ _
        go_wp2_with fail
        go_meet
        exact ⟨_, RA, rc, rfl, rfl, E6.out⟩
    · skip
      go_simp
      have b1 := (Below.refl _ X0).alloc (Nat.le_refl _) (.cells #[.int .i64 4, .int .i64 0, .int .i64 5, .int .i64 100, .slice (some ⟨w.heap.size, 0, none⟩) 10 10] 24)
      have K1 := lit_txs (⟨4, 0, 5, 100, some ⟨w.heap.size, 0, none⟩, 10, [1, 2, 3, 4, 5, 6, 7, 8, 9, 10]⟩ : Tx) X0 ⟨by simp, by simp, I1⟩ (e := 24)
      refine hK.out _ _ (T1.below b1) (fun hHeld => ?_)
      clear hK K
      generalize X0.alloc (.cells #[.int .i64 4, .int .i64 0, .int .i64 5, .int .i64 100, .slice (some ⟨w.heap.size, 0, none⟩) 10 10] 24) = X10 at *
      have T1 := T1.below b1
      have I1 := later I1 b1
      have BX := BX.trans (b1.mono BX.size)
      try simp only [List.getElem_toArray, List.getElem_cons_zero, List.getElem_cons_succ, Act.put, List.setIfInBounds_toArray, List.set_cons_zero, List.set_cons_succ]
      refine wpAnyH_ready (rs := [0, 8]) (by kernel_rfl) (by simp) ?_
      refine AllReadyH.cons rfl (fun K hK => ?_) (AllReadyH.cons rfl (fun K hK => ?_) (AllReadyH.nil))
      · skip
        go_simp
        refine (HP.out _).mono ?_
        rintro e X11 ⟨A, c, rfl, M1, b1⟩
        have T1 := T1.below b1
        have I1 := later I1 b1
        have BX := BX.trans (b1.mono BX.size)
        have K1 := K1.later b1
        refine hK.out _ _ T1 (fun hHeld => ?_)
        clear hK K
        try simp only [List.getElem_toArray, List.getElem_cons_zero, List.getElem_cons_succ, Act.put, List.setIfInBounds_toArray, List.set_cons_zero, List.set_cons_succ]
        refine wpAnyH_ready (rs := [4, 8]) (by kernel_rfl) (by simp) ?_
        refine AllReadyH.cons rfl (fun K hK => ?_) (AllReadyH.cons rfl (fun K hK => ?_) (AllReadyH.nil))
        · skip
          go_simp
          refine (HH.out _ A c _ () M1 K1).mono ?_
          rintro e X12 ⟨RA, rc, rfl, b1⟩
          have T1 := T1.below b1
          have I1 := later I1 b1
          have BX := BX.trans (b1.mono BX.size)
          have M1 := M1.later b1
          have K1 := K1.later b1
          refine hK.out _ _ T1 (fun hHeld => ?_)
          clear hK K
          try simp only [List.getElem_toArray, List.getElem_cons_zero, List.getElem_cons_succ, Act.put, List.setIfInBounds_toArray, List.set_cons_zero, List.set_cons_succ]
          refine wpAnyH_take (i := 5) (v := .tuple #[.agg #[.int .i64 4, .int .i64 1, .int .i64 1, .int .i64 100, .int .i64 260, .slice RA 10 rc], .bool true]) rfl (by kernel_rfl) (by kernel_rfl) (by kernel_rfl) (fun _ _ _ h => h) (Or.inl ⟨by first | rfl | go_simp, by intro w9 hSw; (try dsimp only at hSw); go_simp⟩) (by assumption) ?_
          simp only [List.getElem_toArray, List.getElem_cons_zero, List.getElem_cons_succ, Act.put, List.setIfInBounds_toArray, List.set_cons_zero, List.set_cons_succ]
          refine wpAnyH_take (i := 6) (v := .agg #[.int .i64 4, .int .i64 1, .int .i64 1, .int .i64 100, .int .i64 260, .slice RA 10 rc]) rfl (by kernel_rfl) (by kernel_rfl) (by kernel_rfl) (fun _ _ _ h => h) (Or.inl ⟨by first | rfl | go_simp, by intro w9 hSw; (try dsimp only at hSw); go_simp⟩) (by assumption) ?_
          simp only [List.getElem_toArray, List.getElem_cons_zero, List.getElem_cons_succ, Act.put, List.setIfInBounds_toArray, List.set_cons_zero, List.set_cons_succ]
          refine wpAnyH_take (i := 7) (v := .bool true) rfl (by kernel_rfl) (by kernel_rfl) (by kernel_rfl) (fun _ _ _ h => h) (Or.inl ⟨by first | rfl | go_simp, by intro w9 hSw; (try dsimp only at hSw); go_simp⟩) (by assumption) ?_
          simp only [List.getElem_toArray, List.getElem_cons_zero, List.getElem_cons_succ, Act.put, List.setIfInBounds_toArray, List.set_cons_zero, List.set_cons_succ]
          refine wpAnyH_ready (rs := [8]) (by kernel_rfl) (by simp) ?_
          refine AllReadyH.cons rfl (fun K hK => ?_) (AllReadyH.nil)
          go_simp
          have b1 := (Below.refl _ X12).alloc (Nat.le_refl _) (.cells #[.int .i64 0, .int .i64 0, .int .i64 0, .int .i64 0, .int .i64 0, .slice none 0 0] 46)
          have RB := Blk.fresh X12 46 #[.int .i64 0, .int .i64 0, .int .i64 0, .int .i64 0, .int .i64 0, .slice none 0 0]
          have hG := BX.size
          refine hK.out _ _ (T1.below b1) (fun hHeld => ?_)
          clear hK K
          generalize X12.alloc (.cells #[.int .i64 0, .int .i64 0, .int .i64 0, .int .i64 0, .int .i64 0, .slice none 0 0] 46) = X13 at *
          have T1 := T1.below b1
          have I1 := later I1 b1
          have BX := BX.trans (b1.mono BX.size)
          have M1 := M1.later b1
          have K1 := K1.later b1
          try simp only [List.getElem_toArray, List.getElem_cons_zero, List.getElem_cons_succ, Act.put, List.setIfInBounds_toArray, List.set_cons_zero, List.set_cons_succ]
          obtain ⟨r0, r1, r2, r3, r4, r5, z0, z1, z2, z3, z4, z5⟩ := blk_six RB
          obtain ⟨⟨e0, e1, e2, e3, e4, e5⟩, _, bY⟩ := leaf_six (.int .i64 4) (.int .i64 1) (.int .i64 1) (.int .i64 100) (.int .i64 260) (.slice RA 10 rc) RB BX hG
          have E6 := Lib.hid (And.intro e0 (And.intro e1 (And.intro e2 (And.intro e3 (And.intro e4 (And.intro e5 bY))))))
          clear e0 e1 e2 e3 e4 e5 bY
          refine wpAnyH_ready (rs := [9]) (by kernel_rfl) (by simp) ?_
          refine AllReadyH.cons rfl (fun K hK => ?_) AllReadyH.nil
          go_simp
          refine hK.out _ _ (Five.below T0 E6.out.2.2.2.2.2.2) (fun hHeld => ?_)
          clear hK K
          try simp only [List.getElem_toArray, List.getElem_cons_zero, List.getElem_cons_succ, Act.put, List.setIfInBounds_toArray, List.set_cons_zero, List.set_cons_succ]
          refine wpAnyH_take (i := 10) (v := .bool true) rfl (by kernel_rfl) (by kernel_rfl) (by kernel_rfl) (fun _ _ _ h => h) (Or.inl ⟨by first | rfl | go_simp, by intro w9 hSw; (try dsimp only at hSw); go_simp⟩) (by assumption) ?_
          simp only [List.getElem_toArray, List.getElem_cons_zero, List.getElem_cons_succ, Act.put, List.setIfInBounds_toArray, List.set_cons_zero, List.set_cons_succ]
          refine wpAnyH_done (by kernel_rfl) ?_ _
          go_wp2_with fail
          go_meet
          exact ⟨_, RA, rc, rfl, rfl, E6.out⟩
        · skip
          go_simp
          have b1 := (Below.refl _ X11).alloc (Nat.le_refl _) (.cells #[.int .i64 0, .int .i64 0, .int .i64 0, .int .i64 0, .int .i64 0, .slice none 0 0] 46)
          have RB := Blk.fresh X11 46 #[.int .i64 0, .int .i64 0, .int .i64 0, .int .i64 0, .int .i64 0, .slice none 0 0]
          have hG := BX.size
          refine hK.out _ _ (T1.below b1) (fun hHeld => ?_)
          clear hK K
          generalize X11.alloc (.cells #[.int .i64 0, .int .i64 0, .int .i64 0, .int .i64 0, .int .i64 0, .slice none 0 0] 46) = X14 at *
          have T1 := T1.below b1
          have I1 := later I1 b1
          have BX := BX.trans (b1.mono BX.size)
          have M1 := M1.later b1
          have K1 := K1.later b1
          try simp only [List.getElem_toArray, List.getElem_cons_zero, List.getElem_cons_succ, Act.put, List.setIfInBounds_toArray, List.set_cons_zero, List.set_cons_succ]
          refine wpAnyH_ready (rs := [4]) (by kernel_rfl) (by simp) ?_
          refine AllReadyH.cons rfl (fun K hK => ?_) (AllReadyH.nil)
          go_simp
          refine (HH.out _ A c _ () M1 K1).mono ?_
          rintro e X15 ⟨RA, rc, rfl, b1⟩
          have T1 := T1.below b1
          have I1 := later I1 b1
          have BX := BX.trans (b1.mono BX.size)
          have M1 := M1.later b1
          have K1 := K1.later b1
          have RB := RB.below b1 RB.lt
          refine hK.out _ _ T1 (fun hHeld => ?_)
          clear hK K
          try simp only [List.getElem_toArray, List.getElem_cons_zero, List.getElem_cons_succ, Act.put, List.setIfInBounds_toArray, List.set_cons_zero, List.set_cons_succ]
          refine wpAnyH_take (i := 5) (v := .tuple #[.agg #[.int .i64 4, .int .i64 1, .int .i64 1, .int .i64 100, .int .i64 260, .slice RA 10 rc], .bool true]) rfl (by kernel_rfl) (by kernel_rfl) (by kernel_rfl) (fun _ _ _ h => h) (Or.inl ⟨by first | rfl | go_simp, by intro w9 hSw; (try dsimp only at hSw); go_simp⟩) (by assumption) ?_
          simp only [List.getElem_toArray, List.getElem_cons_zero, List.getElem_cons_succ, Act.put, List.setIfInBounds_toArray, List.set_cons_zero, List.set_cons_succ]
          refine wpAnyH_take (i := 6) (v := .agg #[.int .i64 4, .int .i64 1, .int .i64 1, .int .i64 100, .int .i64 260, .slice RA 10 rc]) rfl (by kernel_rfl) (by kernel_rfl) (by kernel_rfl) (fun _ _ _ h => h) (Or.inl ⟨by first | rfl | go_simp, by intro w9 hSw; (try dsimp only at hSw); go_simp⟩) (by assumption) ?_
          simp only [List.getElem_toArray, List.getElem_cons_zero, List.getElem_cons_succ, Act.put, List.setIfInBounds_toArray, List.set_cons_zero, List.set_cons_succ]
          refine wpAnyH_take (i := 7) (v := .bool true) rfl (by kernel_rfl) (by kernel_rfl) (by kernel_rfl) (fun _ _ _ h => h) (Or.inl ⟨by first | rfl | go_simp, by intro w9 hSw; (try dsimp only at hSw); go_simp⟩) (by assumption) ?_
          simp only [List.getElem_toArray, List.getElem_cons_zero, List.getElem_cons_succ, Act.put, List.setIfInBounds_toArray, List.set_cons_zero, List.set_cons_succ]
          obtain ⟨r0, r1, r2, r3, r4, r5, z0, z1, z2, z3, z4, z5⟩ := blk_six RB
          obtain ⟨⟨e0, e1, e2, e3, e4, e5⟩, _, bY⟩ := leaf_six (.int .i64 4) (.int .i64 1) (.int .i64 1) (.int .i64 100) (.int .i64 260) (.slice RA 10 rc) RB BX hG
          have E6 := Lib.hid (And.intro e0 (And.intro e1 (And.intro e2 (And.intro e3 (And.intro e4 (And.intro e5 bY))))))
          clear e0 e1 e2 e3 e4 e5 bY
          refine wpAnyH_ready (rs := [9]) (by kernel_rfl) (by simp) ?_
          refine AllReadyH.cons rfl (fun K hK => ?_) AllReadyH.nil
          go_simp
          refine hK.out _ _ (Five.below T0 E6.out.2.2.2.2.2.2) (fun hHeld => ?_)
          clear hK K
          try simp only [List.getElem_toArray, List.getElem_cons_zero, List.getElem_cons_succ, Act.put, List.setIfInBounds_toArray, List.set_cons_zero, List.set_cons_succ]
          refine wpAnyH_take (i := 10) (v := .bool true) rfl (by kernel_rfl) (by kernel_rfl) (by kernel_rfl) (fun _ _ _ h => h) (Or.inl ⟨by first | rfl | go_simp, by intro w9 hSw; (try dsimp only at hSw); go_simp⟩) (by assumption) ?_
          simp only [List.getElem_toArray, List.getElem_cons_zero, List.getElem_cons_succ, Act.put, List.setIfInBounds_toArray, List.set_cons_zero, List.set_cons_succ]
          refine wpAnyH_done (by kernel_rfl) ?_ _
          go_wp2_with fail
          go_meet
          exact ⟨_, RA, rc, rfl, rfl, E6.out⟩
      · skip
        go_simp
        have b1 := (Below.refl _ X10).alloc (Nat.le_refl _) (.cells #[.int .i64 0, .int .i64 0, .int .i64 0, .int .i64 0, .int .i64 0, .slice none 0 0] 46)
        have RB := Blk.fresh X10 46 #[.int .i64 0, .int .i64 0, .int .i64 0, .int .i64 0, .int .i64 0, .slice none 0 0]
        have hG := BX.size
        refine hK.out _ _ (T1.below b1) (fun hHeld => ?_)
        clear hK K
        generalize X10.alloc (.cells #[.int .i64 0, .int .i64 0, .int .i64 0, .int .i64 0, .int .i64 0, .slice none 0 0] 46) = X16 at *
        have T1 := T1.below b1
        have I1 := later I1 b1
        have BX := BX.trans (b1.mono BX.size)
        have K1 := K1.later b1
        try simp only [List.getElem_toArray, List.getElem_cons_zero, List.getElem_cons_succ, Act.put, List.setIfInBounds_toArray, List.set_cons_zero, List.set_cons_succ]
        refine wpAnyH_ready (rs := [0]) (by kernel_rfl) (by simp) ?_
        refine AllReadyH.cons rfl (fun K hK => ?_) (AllReadyH.nil)
        go_simp
        refine (HP.out _).mono ?_
        rintro e X17 ⟨A, c, rfl, M1, b1⟩
        have T1 := T1.below b1
        have I1 := later I1 b1
        have BX := BX.trans (b1.mono BX.size)
        have K1 := K1.later b1
        have RB := RB.below b1 RB.lt
        refine hK.out _ _ T1 (fun hHeld => ?_)
        clear hK K
        try simp only [List.getElem_toArray, List.getElem_cons_zero, List.getElem_cons_succ, Act.put, List.setIfInBounds_toArray, List.set_cons_zero, List.set_cons_succ]
        refine wpAnyH_ready (rs := [4]) (by kernel_rfl) (by simp) ?_
        refine AllReadyH.cons rfl (fun K hK => ?_) (AllReadyH.nil)
        go_simp
        refine (HH.out _ A c _ () M1 K1).mono ?_
        rintro e X18 ⟨RA, rc, rfl, b1⟩
        have T1 := T1.below b1
        have I1 := later I1 b1
        have BX := BX.trans (b1.mono BX.size)
        have M1 := M1.later b1
        have K1 := K1.later b1
        have RB := RB.below b1 RB.lt
        refine hK.out _ _ T1 (fun hHeld => ?_)
        clear hK K
        try simp only [List.getElem_toArray, List.getElem_cons_zero, List.getElem_cons_succ, Act.put, List.setIfInBounds_toArray, List.set_cons_zero, List.set_cons_succ]
        refine wpAnyH_take (i := 5) (v := .tuple #[.agg #[.int .i64 4, .int .i64 1, .int .i64 1, .int .i64 100, .int .i64 260, .slice RA 10 rc], .bool true]) rfl (by kernel_rfl) (by kernel_rfl) (by kernel_rfl) (fun _ _ _ h => h) (Or.inl ⟨by first | rfl | go_simp, by intro w9 hSw; (try dsimp only at hSw); go_simp⟩) (by assumption) ?_
        simp only [List.getElem_toArray, List.getElem_cons_zero, List.getElem_cons_succ, Act.put, List.setIfInBounds_toArray, List.set_cons_zero, List.set_cons_succ]
        refine wpAnyH_take (i := 6) (v := .agg #[.int .i64 4, .int .i64 1, .int .i64 1, .int .i64 100, .int .i64 260, .slice RA 10 rc]) rfl (by kernel_rfl) (by kernel_rfl) (by kernel_rfl) (fun _ _ _ h => h) (Or.inl ⟨by first | rfl | go_simp, by intro w9 hSw; (try dsimp only at hSw); go_simp⟩) (by assumption) ?_
        simp only [List.getElem_toArray, List.getElem_cons_zero, List.getElem_cons_succ, Act.put, List.setIfInBounds_toArray, List.set_cons_zero, List.set_cons_succ]
        refine wpAnyH_take (i := 7) (v := .bool true) rfl (by kernel_rfl) (by kernel_rfl) (by kernel_rfl) (fun _ _ _ h => h) (Or.inl ⟨by first | rfl | go_simp, by intro w9 hSw; (try dsimp only at hSw); go_simp⟩) (by assumption) ?_
        simp only [List.getElem_toArray, List.getElem_cons_zero, List.getElem_cons_succ, Act.put, List.setIfInBounds_toArray, List.set_cons_zero, List.set_cons_succ]
        obtain ⟨r0, r1, r2, r3, r4, r5, z0, z1, z2, z3, z4, z5⟩ := blk_six RB
        obtain ⟨⟨e0, e1, e2, e3, e4, e5⟩, _, bY⟩ := leaf_six (.int .i64 4) (.int .i64 1) (.int .i64 1) (.int .i64 100) (.int .i64 260) (.slice RA 10 rc) RB BX hG
        have E6 := Lib.hid (And.intro e0 (And.intro e1 (And.intro e2 (And.intro e3 (And.intro e4 (And.intro e5 bY))))))
        clear e0 e1 e2 e3 e4 e5 bY
        refine wpAnyH_ready (rs := [9]) (by kernel_rfl) (by simp) ?_
        refine AllReadyH.cons rfl (fun K hK => ?_) AllReadyH.nil
        go_simp
        refine hK.out _ _ (Five.below T0 E6.out.2.2.2.2.2.2) (fun hHeld => ?_)
        clear hK K
        try simp only [List.getElem_toArray, List.getElem_cons_zero, List.getElem_cons_succ, Act.put, List.setIfInBounds_toArray, List.set_cons_zero, List.set_cons_succ]
        refine wpAnyH_take (i := 10) (v := .bool true) rfl (by kernel_rfl) (by kernel_rfl) (by kernel_rfl) (fun _ _ _ h => h) (Or.inl ⟨by first | rfl | go_simp, by intro w9 hSw; (try dsimp only at hSw); go_simp⟩) (by assumption) ?_
        simp only [List.getElem_toArray, List.getElem_cons_zero, List.getElem_cons_succ, Act.put, List.setIfInBounds_toArray, List.set_cons_zero, List.set_cons_succ]
        refine wpAnyH_done (by kernel_rfl) ?_ _
        go_wp2_with fail
        go_meet
        exact ⟨_, RA, rc, rfl, rfl, E6.out⟩
    · skip
      go_simp
      have b1 := (Below.refl _ X0).alloc (Nat.le_refl _) (.cells #[.int .i64 0, .int .i64 0, .int .i64 0, .int .i64 0, .int .i64 0, .slice none 0 0] 46)
      have RB := Blk.fresh X0 46 #[.int .i64 0, .int .i64 0, .int .i64 0, .int .i64 0, .int .i64 0, .slice none 0 0]
      have hG := BX.size
      refine hK.out _ _ (T1.below b1) (fun hHeld => ?_)
      clear hK K
      generalize X0.alloc (.cells #[.int .i64 0, .int .i64 0, .int .i64 0, .int .i64 0, .int .i64 0, .slice none 0 0] 46) = X19 at *
      have T1 := T1.below b1
      have I1 := later I1 b1
      have BX := BX.trans (b1.mono BX.size)
      try simp only [List.getElem_toArray, List.getElem_cons_zero, List.getElem_cons_succ, Act.put, List.setIfInBounds_toArray, List.set_cons_zero, List.set_cons_succ]
      refine wpAnyH_ready (rs := [0, 2]) (by kernel_rfl) (by simp) ?_
      refine AllReadyH.cons rfl (fun K hK => ?_) (AllReadyH.cons rfl (fun K hK => ?_) (AllReadyH.nil))
      · skip
        go_simp
        refine (HP.out _).mono ?_
        rintro e X20 ⟨A, c, rfl, M1, b1⟩
        have T1 := T1.below b1
        have I1 := later I1 b1
        have BX := BX.trans (b1.mono BX.size)
        have RB := RB.below b1 RB.lt
        refine hK.out _ _ T1 (fun hHeld => ?_)
        clear hK K
        try simp only [List.getElem_toArray, List.getElem_cons_zero, List.getElem_cons_succ, Act.put, List.setIfInBounds_toArray, List.set_cons_zero, List.set_cons_succ]
        refine wpAnyH_ready (rs := [2]) (by kernel_rfl) (by simp) ?_
        refine AllReadyH.cons rfl (fun K hK => ?_) (AllReadyH.nil)
        go_simp
        have b1 := (Below.refl _ X20).alloc (Nat.le_refl _) (.cells #[.int .i64 4, .int .i64 0, .int .i64 5, .int .i64 100, .slice (some ⟨w.heap.size, 0, none⟩) 10 10] 24)
        have K1 := lit_txs (⟨4, 0, 5, 100, some ⟨w.heap.size, 0, none⟩, 10, [1, 2, 3, 4, 5, 6, 7, 8, 9, 10]⟩ : Tx) X20 ⟨by simp, by simp, I1⟩ (e := 24)
        refine hK.out _ _ (T1.below b1) (fun hHeld => ?_)
        clear hK K
        generalize X20.alloc (.cells #[.int .i64 4, .int .i64 0, .int .i64 5, .int .i64 100, .slice (some ⟨w.heap.size, 0, none⟩) 10 10] 24) = X21 at *
        have T1 := T1.below b1
        have I1 := later I1 b1
        have BX := BX.trans (b1.mono BX.size)
        have M1 := M1.later b1
        have RB := RB.below b1 RB.lt
        try simp only [List.getElem_toArray, List.getElem_cons_zero, List.getElem_cons_succ, Act.put, List.setIfInBounds_toArray, List.set_cons_zero, List.set_cons_succ]
        refine wpAnyH_ready (rs := [4]) (by kernel_rfl) (by simp) ?_
        refine AllReadyH.cons rfl (fun K hK => ?_) (AllReadyH.nil)
        go_simp
        refine (HH.out _ A c _ () M1 K1).mono ?_
        rintro e X22 ⟨RA, rc, rfl, b1⟩
        have T1 := T1.below b1
        have I1 := later I1 b1
        have BX := BX.trans (b1.mono BX.size)
        have M1 := M1.later b1
        have K1 := K1.later b1
        have RB := RB.below b1 RB.lt
        refine hK.out _ _ T1 (fun hHeld => ?_)
        clear hK K
        try simp only [List.getElem_toArray, List.getElem_cons_zero, List.getElem_cons_succ, Act.put, List.setIfInBounds_toArray, List.set_cons_zero, List.set_cons_succ]
        refine wpAnyH_take (i := 5) (v := .tuple #[.agg #[.int .i64 4, .int .i64 1, .int .i64 1, .int .i64 100, .int .i64 260, .slice RA 10 rc], .bool true]) rfl (by kernel_rfl) (by kernel_rfl) (by kernel_rfl) (fun _ _ _ h => h) (Or.inl ⟨by first | rfl | go_simp, by intro w9 hSw; (try dsimp only at hSw); go_simp⟩) (by assumption) ?_
        simp only [List.getElem_toArray, List.getElem_cons_zero, List.getElem_cons_succ, Act.put, List.setIfInBounds_toArray, List.set_cons_zero, List.set_cons_succ]
        refine wpAnyH_take (i := 6) (v := .agg #[.int .i64 4, .int .i64 1, .int .i64 1, .int .i64 100, .int .i64 260, .slice RA 10 rc]) rfl (by kernel_rfl) (by kernel_rfl) (by kernel_rfl) (fun _ _ _ h => h) (Or.inl ⟨by first | rfl | go_simp, by intro w9 hSw; (try dsimp only at hSw); go_simp⟩) (by assumption) ?_
        simp only [List.getElem_toArray, List.getElem_cons_zero, List.getElem_cons_succ, Act.put, List.setIfInBounds_toArray, List.set_cons_zero, List.set_cons_succ]
        refine wpAnyH_take (i := 7) (v := .bool true) rfl (by kernel_rfl) (by kernel_rfl) (by kernel_rfl) (fun _ _ _ h => h) (Or.inl ⟨by first | rfl | go_simp, by intro w9 hSw; (try dsimp only at hSw); go_simp⟩) (by assumption) ?_
        simp only [List.getElem_toArray, List.getElem_cons_zero, List.getElem_cons_succ, Act.put, List.setIfInBounds_toArray, List.set_cons_zero, List.set_cons_succ]
        obtain ⟨r0, r1, r2, r3, r4, r5, z0, z1, z2, z3, z4, z5⟩ := blk_six RB
        obtain ⟨⟨e0, e1, e2, e3, e4, e5⟩, _, bY⟩ := leaf_six (.int .i64 4) (.int .i64 1) (.int .i64 1) (.int .i64 100) (.int .i64 260) (.slice RA 10 rc) RB BX hG
        have E6 := Lib.hid (And.intro e0 (And.intro e1 (And.intro e2 (And.intro e3 (And.intro e4 (And.intro e5 bY))))))
        clear e0 e1 e2 e3 e4 e5 bY
        refine wpAnyH_ready (rs := [9]) (by kernel_rfl) (by simp) ?_
        refine AllReadyH.cons rfl (fun K hK => ?_) AllReadyH.nil
        go_simp
        refine hK.out _ _ (Five.below T0 E6.out.2.2.2.2.2.2) (fun hHeld => ?_)
        clear hK K
        try simp only [List.getElem_toArray, List.getElem_cons_zero, List.getElem_cons_succ, Act.put, List.setIfInBounds_toArray, List.set_cons_zero, List.set_cons_succ]
        refine wpAnyH_take (i := 10) (v := .bool true) rfl (by kernel_rfl) (by kernel_rfl) (by kernel_rfl) (fun _ _ _ h => h) (Or.inl ⟨by first | rfl | go_simp, by intro w9 hSw; (try dsimp only at hSw); go_simp⟩) (by assumption) ?_
        simp only [List.getElem_toArray, List.getElem_cons_zero, List.getElem_cons_succ, Act.put, List.setIfInBounds_toArray, List.set_cons_zero, List.set_cons_succ]
        refine wpAnyH_done (by kernel_rfl) ?_ _
        go_wp2_with fail
        go_meet
        exact ⟨_, RA, rc, rfl, rfl, E6.out⟩
      · skip
        go_simp
        have b1 := (Below.refl _ X19).alloc (Nat.le_refl _) (.cells #[.int .i64 4, .int .i64 0, .int .i64 5, .int .i64 100, .slice (some ⟨w.heap.size, 0, none⟩) 10 10] 24)
        have K1 := lit_txs (⟨4, 0, 5, 100, some ⟨w.heap.size, 0, none⟩, 10, [1, 2, 3, 4, 5, 6, 7, 8, 9, 10]⟩ : Tx) X19 ⟨by simp, by simp, I1⟩ (e := 24)
        refine hK.out _ _ (T1.below b1) (fun hHeld => ?_)
        clear hK K
        generalize X19.alloc (.cells #[.int .i64 4, .int .i64 0, .int .i64 5, .int .i64 100, .slice (some ⟨w.heap.size, 0, none⟩) 10 10] 24) = X23 at *
        have T1 := T1.below b1
        have I1 := later I1 b1
        have BX := BX.trans (b1.mono BX.size)
        have RB := RB.below b1 RB.lt
        try simp only [List.getElem_toArray, List.getElem_cons_zero, List.getElem_cons_succ, Act.put, List.setIfInBounds_toArray, List.set_cons_zero, List.set_cons_succ]
        refine wpAnyH_ready (rs := [0]) (by kernel_rfl) (by simp) ?_
        refine AllReadyH.cons rfl (fun K hK => ?_) (AllReadyH.nil)
        go_simp
        refine (HP.out _).mono ?_
        rintro e X24 ⟨A, c, rfl, M1, b1⟩
        have T1 := T1.below b1
        have I1 := later I1 b1
        have BX := BX.trans (b1.mono BX.size)
        have K1 := K1.later b1
        have RB := RB.below b1 RB.lt
        refine hK.out _ _ T1 (fun hHeld => ?_)
        clear hK K
        try simp only [List.getElem_toArray, List.getElem_cons_zero, List.getElem_cons_succ, Act.put, List.setIfInBounds_toArray, List.set_cons_zero, List.set_cons_succ]
        refine wpAnyH_ready (rs := [4]) (by kernel_rfl) (by simp) ?_
        refine AllReadyH.cons rfl (fun K hK => ?_) (AllReadyH.nil)
        go_simp
        refine (HH.out _ A c _ () M1 K1).mono ?_
        rintro e X25 ⟨RA, rc, rfl, b1⟩
        have T1 := T1.below b1
        have I1 := later I1 b1
        have BX := BX.trans (b1.mono BX.size)
        have M1 := M1.later b1
        have K1 := K1.later b1
        have RB := RB.below b1 RB.lt
        refine hK.out _ _ T1 (fun hHeld => ?_)
        clear hK K
        try simp only [List.getElem_toArray, List.getElem_cons_zero, List.getElem_cons_succ, Act.put, List.setIfInBounds_toArray, List.set_cons_zero, List.set_cons_succ]
        refine wpAnyH_take (i := 5) (v := .tuple #[.agg #[.int .i64 4, .int .i64 1, .int .i64 1, .int .i64 100, .int .i64 260, .slice RA 10 rc], .bool true]) rfl (by kernel_rfl) (by kernel_rfl) (by kernel_rfl) (fun _ _ _ h => h) (Or.inl ⟨by first | rfl | go_simp, by intro w9 hSw; (try dsimp only at hSw); go_simp⟩) (by assumption) ?_
        simp only [List.getElem_toArray, List.getElem_cons_zero, List.getElem_cons_succ, Act.put, List.setIfInBounds_toArray, List.set_cons_zero, List.set_cons_succ]
        refine wpAnyH_take (i := 6) (v := .agg #[.int .i64 4, .int .i64 1, .int .i64 1, .int .i64 100, .int .i64 260, .slice RA 10 rc]) rfl (by kernel_rfl) (by kernel_rfl) (by kernel_rfl) (fun _ _ _ h => h) (Or.inl ⟨by first | rfl | go_simp, by intro w9 hSw; (try dsimp only at hSw); go_simp⟩) (by assumption) ?_
        simp only [List.getElem_toArray, List.getElem_cons_zero, List.getElem_cons_succ, Act.put, List.setIfInBounds_toArray, List.set_cons_zero, List.set_cons_succ]
        refine wpAnyH_take (i := 7) (v := .bool true) rfl (by kernel_rfl) (by kernel_rfl) (by kernel_rfl) (fun _ _ _ h => h) (Or.inl ⟨by first | rfl | go_simp, by intro w9 hSw; (try dsimp only at hSw); go_simp⟩) (by assumption) ?_
        simp only [List.getElem_toArray, List.getElem_cons_zero, List.getElem_cons_succ, Act.put, List.setIfInBounds_toArray, List.set_cons_zero, List.set_cons_succ]
        obtain ⟨r0, r1, r2, r3, r4, r5, z0, z1, z2, z3, z4, z5⟩ := blk_six RB
        obtain ⟨⟨e0, e1, e2, e3, e4, e5⟩, _, bY⟩ := leaf_six (.int .i64 4) (.int .i64 1) (.int .i64 1) (.int .i64 100) (.int .i64 260) (.slice RA 10 rc) RB BX hG
        have E6 := Lib.hid (And.intro e0 (And.intro e1 (And.intro e2 (And.intro e3 (And.intro e4 (And.intro e5 bY))))))
        clear e0 e1 e2 e3 e4 e5 bY
        refine wpAnyH_ready (rs := [9]) (by kernel_rfl) (by simp) ?_
        refine AllReadyH.cons rfl (fun K hK => ?_) AllReadyH.nil
        go_simp
        refine hK.out _ _ (Five.below T0 E6.out.2.2.2.2.2.2) (fun hHeld => ?_)
        clear hK K
        try simp only [List.getElem_toArray, List.getElem_cons_zero, List.getElem_cons_succ, Act.put, List.setIfInBounds_toArray, List.set_cons_zero, List.set_cons_succ]
        refine wpAnyH_take (i := 10) (v := .bool true) rfl (by kernel_rfl) (by kernel_rfl) (by kernel_rfl) (fun _ _ _ h => h) (Or.inl ⟨by first | rfl | go_simp, by intro w9 hSw; (try dsimp only at hSw); go_simp⟩) (by assumption) ?_
        simp only [List.getElem_toArray, List.getElem_cons_zero, List.getElem_cons_succ, Act.put, List.setIfInBounds_toArray, List.set_cons_zero, List.set_cons_succ]
        refine wpAnyH_done (by kernel_rfl) ?_ _
        go_wp2_with fail
        go_meet
        exact ⟨_, RA, rc, rfl, rfl, E6.out⟩
  case rest =>
    obtain ⟨G, RA, rc, rfl, rfl, e0, e1, e2, e3, e4, e5, bW⟩ := hcut
    have T2 := T0.below bW
    have I2 := later I0 bW
    have HB1 := thenB HB0 bW
    clear T0 I0 HB0
    go_upto_region 3 with fail
    generalize wc = V at *
    go_cut [4, 5] from 16 to 23 (fun s4 s5 wx => s5 = .bool false ∧ Below V.heap.size V wx)
    case first =>
      have HH : Hid (∀ (w' : World) (A : Option Addr) (c : Nat) (L : Option Addr) (_ : Unit) (hM : MedAt w' w'.heap.size ⟨A, c, none, 0, none, 0⟩ ⟨2, [(0, 1)], [], []⟩) (hr : TxsAt w' w'.heap.size L [(⟨4, 0, 5, 100, some ⟨w.heap.size, 0, none⟩, 10, [1, 2, 3, 4, 5, 6, 7, 8, 9, 10]⟩ : Tx)]), Calls Try.prog 26 #[.agg #[.int .i64 2, .slice A 1 c, .slice none 0 0, .slice none 0 0], .slice L 1 1, .agg #[.int .i64 1, .int .i64 5, .int .i64 0, .int .i64 100]] w' fun e w2 => e = .returned (.tuple #[.agg #[.int .i64 0, .int .i64 0, .int .i64 0, .int .i64 0, .int .i64 0, .slice none 0 0], .bool false]) ∧ Below w'.heap.size w' w2) := Lib.hid fun w' A c L _ hM hr => hear_no A c w.heap.size L w' hM hr
      clear HAt HEn HIn HC1 HC2 HB1 e0 e1 e2 e3 e4 e5
      go_wp2_with fail
      refine wp_region_held_drew (S := fun w' => Five w' (w.heap.size + 1) 4 0 5 100 (.slice (some ⟨w.heap.size, 0, none⟩) 10 10)) (by kernel_rfl) ?_ (fun hHeld => ?_)
      · exact T2
      have T1 : Five V.drew (w.heap.size + 1) 4 0 5 100 (.slice (some ⟨w.heap.size, 0, none⟩) 10 10) := T2
      have I1 : Ints .u8 V.drew V.drew.heap.size (some ⟨w.heap.size, 0, none⟩) [1, 2, 3, 4, 5, 6, 7, 8, 9, 10] := I2
      have BX : Below V.heap.size V V.drew := (Below.refl _ V).drew
      generalize V.drew = X0 at *
      refine wpAnyH_take (i := 1) (v := .agg #[.int .i64 4, .int .i64 0, .int .i64 5, .int .i64 100, .slice (some ⟨w.heap.size, 0, none⟩) 10 10]) rfl (by kernel_rfl) (by kernel_rfl) (by kernel_rfl) (fun _ _ _ h => h) (Or.inl ⟨by first | rfl | go_simp, by intro w9 hSw; (try dsimp only at hSw); go_simp⟩) (by assumption) ?_
      simp only [List.getElem_toArray, List.getElem_cons_zero, List.getElem_cons_succ, Act.put, List.setIfInBounds_toArray, List.set_cons_zero, List.set_cons_succ]
      refine wpAnyH_take (i := 3) (v := .agg #[.int .i64 1, .int .i64 5, .int .i64 0, .int .i64 100]) rfl (by kernel_rfl) (by kernel_rfl) (by kernel_rfl) (fun _ _ _ h => h) (Or.inl ⟨by first | rfl | go_simp, by intro w9 hSw; (try dsimp only at hSw); go_simp⟩) (by assumption) ?_
      simp only [List.getElem_toArray, List.getElem_cons_zero, List.getElem_cons_succ, Act.put, List.setIfInBounds_toArray, List.set_cons_zero, List.set_cons_succ]
      refine wpAnyH_ready (rs := [0, 2, 8]) (by kernel_rfl) (by simp) ?_
      refine AllReadyH.cons rfl (fun K hK => ?_) (AllReadyH.cons rfl (fun K hK => ?_) (AllReadyH.cons rfl (fun K hK => ?_) (AllReadyH.nil)))
      · skip
        go_simp
        refine (HP.out _).mono ?_
        rintro e X1 ⟨A, c, rfl, M1, b1⟩
        have T1 := T1.below b1
        have I1 := later I1 b1
        have BX := BX.trans (b1.mono BX.size)
        refine hK.out _ _ T1 (fun hHeld => ?_)
        clear hK K
        try simp only [List.getElem_toArray, List.getElem_cons_zero, List.getElem_cons_succ, Act.put, List.setIfInBounds_toArray, List.set_cons_zero, List.set_cons_succ]
        refine wpAnyH_ready (rs := [2, 8]) (by kernel_rfl) (by simp) ?_
        refine AllReadyH.cons rfl (fun K hK => ?_) (AllReadyH.cons rfl (fun K hK => ?_) (AllReadyH.nil))
        · skip
          go_simp
          have b1 := (Below.refl _ X1).alloc (Nat.le_refl _) (.cells #[.int .i64 4, .int .i64 0, .int .i64 5, .int .i64 100, .slice (some ⟨w.heap.size, 0, none⟩) 10 10] 24)
          have K1 := lit_txs (⟨4, 0, 5, 100, some ⟨w.heap.size, 0, none⟩, 10, [1, 2, 3, 4, 5, 6, 7, 8, 9, 10]⟩ : Tx) X1 ⟨by simp, by simp, I1⟩ (e := 24)
          refine hK.out _ _ (T1.below b1) (fun hHeld => ?_)
          clear hK K
          generalize X1.alloc (.cells #[.int .i64 4, .int .i64 0, .int .i64 5, .int .i64 100, .slice (some ⟨w.heap.size, 0, none⟩) 10 10] 24) = X2 at *
          have T1 := T1.below b1
          have I1 := later I1 b1
          have BX := BX.trans (b1.mono BX.size)
          have M1 := M1.later b1
          try simp only [List.getElem_toArray, List.getElem_cons_zero, List.getElem_cons_succ, Act.put, List.setIfInBounds_toArray, List.set_cons_zero, List.set_cons_succ]
          refine wpAnyH_ready (rs := [4, 8]) (by kernel_rfl) (by simp) ?_
          refine AllReadyH.cons rfl (fun K hK => ?_) (AllReadyH.cons rfl (fun K hK => ?_) (AllReadyH.nil))
          · skip
            go_simp
            refine (HH.out _ A c _ () M1 K1).mono ?_
            rintro e X3 ⟨rfl, b1⟩
            have T1 := T1.below b1
            have I1 := later I1 b1
            have BX := BX.trans (b1.mono BX.size)
            have M1 := M1.later b1
            have K1 := K1.later b1
            refine hK.out _ _ T1 (fun hHeld => ?_)
            clear hK K
            try simp only [List.getElem_toArray, List.getElem_cons_zero, List.getElem_cons_succ, Act.put, List.setIfInBounds_toArray, List.set_cons_zero, List.set_cons_succ]
            refine wpAnyH_take (i := 5) (v := .tuple #[.agg #[.int .i64 0, .int .i64 0, .int .i64 0, .int .i64 0, .int .i64 0, .slice none 0 0], .bool false]) rfl (by kernel_rfl) (by kernel_rfl) (by kernel_rfl) (fun _ _ _ h => h) (Or.inl ⟨by first | rfl | go_simp, by intro w9 hSw; (try dsimp only at hSw); go_simp⟩) (by assumption) ?_
            simp only [List.getElem_toArray, List.getElem_cons_zero, List.getElem_cons_succ, Act.put, List.setIfInBounds_toArray, List.set_cons_zero, List.set_cons_succ]
            refine wpAnyH_take (i := 6) (v := .agg #[.int .i64 0, .int .i64 0, .int .i64 0, .int .i64 0, .int .i64 0, .slice none 0 0]) rfl (by kernel_rfl) (by kernel_rfl) (by kernel_rfl) (fun _ _ _ h => h) (Or.inl ⟨by first | rfl | go_simp, by intro w9 hSw; (try dsimp only at hSw); go_simp⟩) (by assumption) ?_
            simp only [List.getElem_toArray, List.getElem_cons_zero, List.getElem_cons_succ, Act.put, List.setIfInBounds_toArray, List.set_cons_zero, List.set_cons_succ]
            refine wpAnyH_take (i := 7) (v := .bool false) rfl (by kernel_rfl) (by kernel_rfl) (by kernel_rfl) (fun _ _ _ h => h) (Or.inl ⟨by first | rfl | go_simp, by intro w9 hSw; (try dsimp only at hSw); go_simp⟩) (by assumption) ?_
            simp only [List.getElem_toArray, List.getElem_cons_zero, List.getElem_cons_succ, Act.put, List.setIfInBounds_toArray, List.set_cons_zero, List.set_cons_succ]
            refine wpAnyH_ready (rs := [8]) (by kernel_rfl) (by simp) ?_
            refine AllReadyH.cons rfl (fun K hK => ?_) (AllReadyH.nil)
            go_simp
            have b1 := (Below.refl _ X3).alloc (Nat.le_refl _) (.cells #[.int .i64 0, .int .i64 0, .int .i64 0, .int .i64 0, .int .i64 0, .slice none 0 0] 46)
            have RB := Blk.fresh X3 46 #[.int .i64 0, .int .i64 0, .int .i64 0, .int .i64 0, .int .i64 0, .slice none 0 0]
            have hG := BX.size
            refine hK.out _ _ (T1.below b1) (fun hHeld => ?_)
            clear hK K
            generalize X3.alloc (.cells #[.int .i64 0, .int .i64 0, .int .i64 0, .int .i64 0, .int .i64 0, .slice none 0 0] 46) = X4 at *
            have T1 := T1.below b1
            have I1 := later I1 b1
            have BX := BX.trans (b1.mono BX.size)
            have M1 := M1.later b1
            have K1 := K1.later b1
            try simp only [List.getElem_toArray, List.getElem_cons_zero, List.getElem_cons_succ, Act.put, List.setIfInBounds_toArray, List.set_cons_zero, List.set_cons_succ]
            obtain ⟨r0, r1, r2, r3, r4, r5, z0, z1, z2, z3, z4, z5⟩ := blk_six RB
            obtain ⟨⟨e0, e1, e2, e3, e4, e5⟩, _, bY⟩ := leaf_six (.int .i64 0) (.int .i64 0) (.int .i64 0) (.int .i64 0) (.int .i64 0) (.slice none 0 0) RB BX hG
            have E6 := Lib.hid (And.intro e0 (And.intro e1 (And.intro e2 (And.intro e3 (And.intro e4 (And.intro e5 bY))))))
            clear e0 e1 e2 e3 e4 e5 bY
            refine wpAnyH_ready (rs := [9]) (by kernel_rfl) (by simp) ?_
            refine AllReadyH.cons rfl (fun K hK => ?_) AllReadyH.nil
            go_simp
            refine hK.out _ _ (Five.below T2 E6.out.2.2.2.2.2.2) (fun hHeld => ?_)
            clear hK K
            try simp only [List.getElem_toArray, List.getElem_cons_zero, List.getElem_cons_succ, Act.put, List.setIfInBounds_toArray, List.set_cons_zero, List.set_cons_succ]
            refine wpAnyH_take (i := 10) (v := .bool false) rfl (by kernel_rfl) (by kernel_rfl) (by kernel_rfl) (fun _ _ _ h => h) (Or.inl ⟨by first | rfl | go_simp, by intro w9 hSw; (try dsimp only at hSw); go_simp⟩) (by assumption) ?_
            simp only [List.getElem_toArray, List.getElem_cons_zero, List.getElem_cons_succ, Act.put, List.setIfInBounds_toArray, List.set_cons_zero, List.set_cons_succ]
            refine wpAnyH_done (by kernel_rfl) ?_ _
            go_wp2_with fail
            go_meet
            exact ⟨rfl, E6.out.2.2.2.2.2.2⟩
          · skip
            go_simp
            have b1 := (Below.refl _ X2).alloc (Nat.le_refl _) (.cells #[.int .i64 0, .int .i64 0, .int .i64 0, .int .i64 0, .int .i64 0, .slice none 0 0] 46)
            have RB := Blk.fresh X2 46 #[.int .i64 0, .int .i64 0, .int .i64 0, .int .i64 0, .int .i64 0, .slice none 0 0]
            have hG := BX.size
            refine hK.out _ _ (T1.below b1) (fun hHeld => ?_)
            clear hK K
            generalize X2.alloc (.cells #[.int .i64 0, .int .i64 0, .int .i64 0, .int .i64 0, .int .i64 0, .slice none 0 0] 46) = X5 at *
            have T1 := T1.below b1
            have I1 := later I1 b1
            have BX := BX.trans (b1.mono BX.size)
            have M1 := M1.later b1
            have K1 := K1.later b1
            try simp only [List.getElem_toArray, List.getElem_cons_zero, List.getElem_cons_succ, Act.put, List.setIfInBounds_toArray, List.set_cons_zero, List.set_cons_succ]
            refine wpAnyH_ready (rs := [4]) (by kernel_rfl) (by simp) ?_
            refine AllReadyH.cons rfl (fun K hK => ?_) (AllReadyH.nil)
            go_simp
            refine (HH.out _ A c _ () M1 K1).mono ?_
            rintro e X6 ⟨rfl, b1⟩
            have T1 := T1.below b1
            have I1 := later I1 b1
            have BX := BX.trans (b1.mono BX.size)
            have M1 := M1.later b1
            have K1 := K1.later b1
            have RB := RB.below b1 RB.lt
            refine hK.out _ _ T1 (fun hHeld => ?_)
            clear hK K
            try simp only [List.getElem_toArray, List.getElem_cons_zero, List.getElem_cons_succ, Act.put, List.setIfInBounds_toArray, List.set_cons_zero, List.set_cons_succ]
            refine wpAnyH_take (i := 5) (v := .tuple #[.agg #[.int .i64 0, .int .i64 0, .int .i64 0, .int .i64 0, .int .i64 0, .slice none 0 0], .bool false]) rfl (by kernel_rfl) (by kernel_rfl) (by kernel_rfl) (fun _ _ _ h => h) (Or.inl ⟨by first | rfl | go_simp, by intro w9 hSw; (try dsimp only at hSw); go_simp⟩) (by assumption) ?_
            simp only [List.getElem_toArray, List.getElem_cons_zero, List.getElem_cons_succ, Act.put, List.setIfInBounds_toArray, List.set_cons_zero, List.set_cons_succ]
            refine wpAnyH_take (i := 6) (v := .agg #[.int .i64 0, .int .i64 0, .int .i64 0, .int .i64 0, .int .i64 0, .slice none 0 0]) rfl (by kernel_rfl) (by kernel_rfl) (by kernel_rfl) (fun _ _ _ h => h) (Or.inl ⟨by first | rfl | go_simp, by intro w9 hSw; (try dsimp only at hSw); go_simp⟩) (by assumption) ?_
            simp only [List.getElem_toArray, List.getElem_cons_zero, List.getElem_cons_succ, Act.put, List.setIfInBounds_toArray, List.set_cons_zero, List.set_cons_succ]
            refine wpAnyH_take (i := 7) (v := .bool false) rfl (by kernel_rfl) (by kernel_rfl) (by kernel_rfl) (fun _ _ _ h => h) (Or.inl ⟨by first | rfl | go_simp, by intro w9 hSw; (try dsimp only at hSw); go_simp⟩) (by assumption) ?_
            simp only [List.getElem_toArray, List.getElem_cons_zero, List.getElem_cons_succ, Act.put, List.setIfInBounds_toArray, List.set_cons_zero, List.set_cons_succ]
            obtain ⟨r0, r1, r2, r3, r4, r5, z0, z1, z2, z3, z4, z5⟩ := blk_six RB
            obtain ⟨⟨e0, e1, e2, e3, e4, e5⟩, _, bY⟩ := leaf_six (.int .i64 0) (.int .i64 0) (.int .i64 0) (.int .i64 0) (.int .i64 0) (.slice none 0 0) RB BX hG
            have E6 := Lib.hid (And.intro e0 (And.intro e1 (And.intro e2 (And.intro e3 (And.intro e4 (And.intro e5 bY))))))
            clear e0 e1 e2 e3 e4 e5 bY
            refine wpAnyH_ready (rs := [9]) (by kernel_rfl) (by simp) ?_
            refine AllReadyH.cons rfl (fun K hK => ?_) AllReadyH.nil
            go_simp
            refine hK.out _ _ (Five.below T2 E6.out.2.2.2.2.2.2) (fun hHeld => ?_)
            clear hK K
            try simp only [List.getElem_toArray, List.getElem_cons_zero, List.getElem_cons_succ, Act.put, List.setIfInBounds_toArray, List.set_cons_zero, List.set_cons_succ]
            refine wpAnyH_take (i := 10) (v := .bool false) rfl (by kernel_rfl) (by kernel_rfl) (by kernel_rfl) (fun _ _ _ h => h) (Or.inl ⟨by first | rfl | go_simp, by intro w9 hSw; (try dsimp only at hSw); go_simp⟩) (by assumption) ?_
            simp only [List.getElem_toArray, List.getElem_cons_zero, List.getElem_cons_succ, Act.put, List.setIfInBounds_toArray, List.set_cons_zero, List.set_cons_succ]
            refine wpAnyH_done (by kernel_rfl) ?_ _
            go_wp2_with fail
            go_meet
            exact ⟨rfl, E6.out.2.2.2.2.2.2⟩
        · skip
          go_simp
          have b1 := (Below.refl _ X1).alloc (Nat.le_refl _) (.cells #[.int .i64 0, .int .i64 0, .int .i64 0, .int .i64 0, .int .i64 0, .slice none 0 0] 46)
          have RB := Blk.fresh X1 46 #[.int .i64 0, .int .i64 0, .int .i64 0, .int .i64 0, .int .i64 0, .slice none 0 0]
          have hG := BX.size
          refine hK.out _ _ (T1.below b1) (fun hHeld => ?_)
          clear hK K
          generalize X1.alloc (.cells #[.int .i64 0, .int .i64 0, .int .i64 0, .int .i64 0, .int .i64 0, .slice none 0 0] 46) = X7 at *
          have T1 := T1.below b1
          have I1 := later I1 b1
          have BX := BX.trans (b1.mono BX.size)
          have M1 := M1.later b1
          try simp only [List.getElem_toArray, List.getElem_cons_zero, List.getElem_cons_succ, Act.put, List.setIfInBounds_toArray, List.set_cons_zero, List.set_cons_succ]
          refine wpAnyH_ready (rs := [2]) (by kernel_rfl) (by simp) ?_
          refine AllReadyH.cons rfl (fun K hK => ?_) (AllReadyH.nil)
          go_simp
          have b1 := (Below.refl _ X7).alloc (Nat.le_refl _) (.cells #[.int .i64 4, .int .i64 0, .int .i64 5, .int .i64 100, .slice (some ⟨w.heap.size, 0, none⟩) 10 10] 24)
          have K1 := lit_txs (⟨4, 0, 5, 100, some ⟨w.heap.size, 0, none⟩, 10, [1, 2, 3, 4, 5, 6, 7, 8, 9, 10]⟩ : Tx) X7 ⟨by simp, by simp, I1⟩ (e := 24)
          refine hK.out _ _ (T1.below b1) (fun hHeld => ?_)
          clear hK K
          generalize X7.alloc (.cells #[.int .i64 4, .int .i64 0, .int .i64 5, .int .i64 100, .slice (some ⟨w.heap.size, 0, none⟩) 10 10] 24) = X8 at *
          have T1 := T1.below b1
          have I1 := later I1 b1
          have BX := BX.trans (b1.mono BX.size)
          have M1 := M1.later b1
          have RB := RB.below b1 RB.lt
          try simp only [List.getElem_toArray, List.getElem_cons_zero, List.getElem_cons_succ, Act.put, List.setIfInBounds_toArray, List.set_cons_zero, List.set_cons_succ]
          refine wpAnyH_ready (rs := [4]) (by kernel_rfl) (by simp) ?_
          refine AllReadyH.cons rfl (fun K hK => ?_) (AllReadyH.nil)
          go_simp
          refine (HH.out _ A c _ () M1 K1).mono ?_
          rintro e X9 ⟨rfl, b1⟩
          have T1 := T1.below b1
          have I1 := later I1 b1
          have BX := BX.trans (b1.mono BX.size)
          have M1 := M1.later b1
          have K1 := K1.later b1
          have RB := RB.below b1 RB.lt
          refine hK.out _ _ T1 (fun hHeld => ?_)
          clear hK K
          try simp only [List.getElem_toArray, List.getElem_cons_zero, List.getElem_cons_succ, Act.put, List.setIfInBounds_toArray, List.set_cons_zero, List.set_cons_succ]
          refine wpAnyH_take (i := 5) (v := .tuple #[.agg #[.int .i64 0, .int .i64 0, .int .i64 0, .int .i64 0, .int .i64 0, .slice none 0 0], .bool false]) rfl (by kernel_rfl) (by kernel_rfl) (by kernel_rfl) (fun _ _ _ h => h) (Or.inl ⟨by first | rfl | go_simp, by intro w9 hSw; (try dsimp only at hSw); go_simp⟩) (by assumption) ?_
          simp only [List.getElem_toArray, List.getElem_cons_zero, List.getElem_cons_succ, Act.put, List.setIfInBounds_toArray, List.set_cons_zero, List.set_cons_succ]
          refine wpAnyH_take (i := 6) (v := .agg #[.int .i64 0, .int .i64 0, .int .i64 0, .int .i64 0, .int .i64 0, .slice none 0 0]) rfl (by kernel_rfl) (by kernel_rfl) (by kernel_rfl) (fun _ _ _ h => h) (Or.inl ⟨by first | rfl | go_simp, by intro w9 hSw; (try dsimp only at hSw); go_simp⟩) (by assumption) ?_
          simp only [List.getElem_toArray, List.getElem_cons_zero, List.getElem_cons_succ, Act.put, List.setIfInBounds_toArray, List.set_cons_zero, List.set_cons_succ]
          refine wpAnyH_take (i := 7) (v := .bool false) rfl (by kernel_rfl) (by kernel_rfl) (by kernel_rfl) (fun _ _ _ h => h) (Or.inl ⟨by first | rfl | go_simp, by intro w9 hSw; (try dsimp only at hSw); go_simp⟩) (by assumption) ?_
          simp only [List.getElem_toArray, List.getElem_cons_zero, List.getElem_cons_succ, Act.put, List.setIfInBounds_toArray, List.set_cons_zero, List.set_cons_succ]
          obtain ⟨r0, r1, r2, r3, r4, r5, z0, z1, z2, z3, z4, z5⟩ := blk_six RB
          obtain ⟨⟨e0, e1, e2, e3, e4, e5⟩, _, bY⟩ := leaf_six (.int .i64 0) (.int .i64 0) (.int .i64 0) (.int .i64 0) (.int .i64 0) (.slice none 0 0) RB BX hG
          have E6 := Lib.hid (And.intro e0 (And.intro e1 (And.intro e2 (And.intro e3 (And.intro e4 (And.intro e5 bY))))))
          clear e0 e1 e2 e3 e4 e5 bY
          refine wpAnyH_ready (rs := [9]) (by kernel_rfl) (by simp) ?_
          refine AllReadyH.cons rfl (fun K hK => ?_) AllReadyH.nil
          go_simp
          refine hK.out _ _ (Five.below T2 E6.out.2.2.2.2.2.2) (fun hHeld => ?_)
          clear hK K
          try simp only [List.getElem_toArray, List.getElem_cons_zero, List.getElem_cons_succ, Act.put, List.setIfInBounds_toArray, List.set_cons_zero, List.set_cons_succ]
          refine wpAnyH_take (i := 10) (v := .bool false) rfl (by kernel_rfl) (by kernel_rfl) (by kernel_rfl) (fun _ _ _ h => h) (Or.inl ⟨by first | rfl | go_simp, by intro w9 hSw; (try dsimp only at hSw); go_simp⟩) (by assumption) ?_
          simp only [List.getElem_toArray, List.getElem_cons_zero, List.getElem_cons_succ, Act.put, List.setIfInBounds_toArray, List.set_cons_zero, List.set_cons_succ]
          refine wpAnyH_done (by kernel_rfl) ?_ _
          go_wp2_with fail
          go_meet
          exact ⟨rfl, E6.out.2.2.2.2.2.2⟩
      · skip
        go_simp
        have b1 := (Below.refl _ X0).alloc (Nat.le_refl _) (.cells #[.int .i64 4, .int .i64 0, .int .i64 5, .int .i64 100, .slice (some ⟨w.heap.size, 0, none⟩) 10 10] 24)
        have K1 := lit_txs (⟨4, 0, 5, 100, some ⟨w.heap.size, 0, none⟩, 10, [1, 2, 3, 4, 5, 6, 7, 8, 9, 10]⟩ : Tx) X0 ⟨by simp, by simp, I1⟩ (e := 24)
        refine hK.out _ _ (T1.below b1) (fun hHeld => ?_)
        clear hK K
        generalize X0.alloc (.cells #[.int .i64 4, .int .i64 0, .int .i64 5, .int .i64 100, .slice (some ⟨w.heap.size, 0, none⟩) 10 10] 24) = X10 at *
        have T1 := T1.below b1
        have I1 := later I1 b1
        have BX := BX.trans (b1.mono BX.size)
        try simp only [List.getElem_toArray, List.getElem_cons_zero, List.getElem_cons_succ, Act.put, List.setIfInBounds_toArray, List.set_cons_zero, List.set_cons_succ]
        refine wpAnyH_ready (rs := [0, 8]) (by kernel_rfl) (by simp) ?_
        refine AllReadyH.cons rfl (fun K hK => ?_) (AllReadyH.cons rfl (fun K hK => ?_) (AllReadyH.nil))
        · skip
          go_simp
          refine (HP.out _).mono ?_
          rintro e X11 ⟨A, c, rfl, M1, b1⟩
          have T1 := T1.below b1
          have I1 := later I1 b1
          have BX := BX.trans (b1.mono BX.size)
          have K1 := K1.later b1
          refine hK.out _ _ T1 (fun hHeld => ?_)
          clear hK K
          try simp only [List.getElem_toArray, List.getElem_cons_zero, List.getElem_cons_succ, Act.put, List.setIfInBounds_toArray, List.set_cons_zero, List.set_cons_succ]
          refine wpAnyH_ready (rs := [4, 8]) (by kernel_rfl) (by simp) ?_
          refine AllReadyH.cons rfl (fun K hK => ?_) (AllReadyH.cons rfl (fun K hK => ?_) (AllReadyH.nil))
          · skip
            go_simp
            refine (HH.out _ A c _ () M1 K1).mono ?_
            rintro e X12 ⟨rfl, b1⟩
            have T1 := T1.below b1
            have I1 := later I1 b1
            have BX := BX.trans (b1.mono BX.size)
            have M1 := M1.later b1
            have K1 := K1.later b1
            refine hK.out _ _ T1 (fun hHeld => ?_)
            clear hK K
            try simp only [List.getElem_toArray, List.getElem_cons_zero, List.getElem_cons_succ, Act.put, List.setIfInBounds_toArray, List.set_cons_zero, List.set_cons_succ]
            refine wpAnyH_take (i := 5) (v := .tuple #[.agg #[.int .i64 0, .int .i64 0, .int .i64 0, .int .i64 0, .int .i64 0, .slice none 0 0], .bool false]) rfl (by kernel_rfl) (by kernel_rfl) (by kernel_rfl) (fun _ _ _ h => h) (Or.inl ⟨by first | rfl | go_simp, by intro w9 hSw; (try dsimp only at hSw); go_simp⟩) (by assumption) ?_
            simp only [List.getElem_toArray, List.getElem_cons_zero, List.getElem_cons_succ, Act.put, List.setIfInBounds_toArray, List.set_cons_zero, List.set_cons_succ]
            refine wpAnyH_take (i := 6) (v := .agg #[.int .i64 0, .int .i64 0, .int .i64 0, .int .i64 0, .int .i64 0, .slice none 0 0]) rfl (by kernel_rfl) (by kernel_rfl) (by kernel_rfl) (fun _ _ _ h => h) (Or.inl ⟨by first | rfl | go_simp, by intro w9 hSw; (try dsimp only at hSw); go_simp⟩) (by assumption) ?_
            simp only [List.getElem_toArray, List.getElem_cons_zero, List.getElem_cons_succ, Act.put, List.setIfInBounds_toArray, List.set_cons_zero, List.set_cons_succ]
            refine wpAnyH_take (i := 7) (v := .bool false) rfl (by kernel_rfl) (by kernel_rfl) (by kernel_rfl) (fun _ _ _ h => h) (Or.inl ⟨by first | rfl | go_simp, by intro w9 hSw; (try dsimp only at hSw); go_simp⟩) (by assumption) ?_
            simp only [List.getElem_toArray, List.getElem_cons_zero, List.getElem_cons_succ, Act.put, List.setIfInBounds_toArray, List.set_cons_zero, List.set_cons_succ]
            refine wpAnyH_ready (rs := [8]) (by kernel_rfl) (by simp) ?_
            refine AllReadyH.cons rfl (fun K hK => ?_) (AllReadyH.nil)
            go_simp
            have b1 := (Below.refl _ X12).alloc (Nat.le_refl _) (.cells #[.int .i64 0, .int .i64 0, .int .i64 0, .int .i64 0, .int .i64 0, .slice none 0 0] 46)
            have RB := Blk.fresh X12 46 #[.int .i64 0, .int .i64 0, .int .i64 0, .int .i64 0, .int .i64 0, .slice none 0 0]
            have hG := BX.size
            refine hK.out _ _ (T1.below b1) (fun hHeld => ?_)
            clear hK K
            generalize X12.alloc (.cells #[.int .i64 0, .int .i64 0, .int .i64 0, .int .i64 0, .int .i64 0, .slice none 0 0] 46) = X13 at *
            have T1 := T1.below b1
            have I1 := later I1 b1
            have BX := BX.trans (b1.mono BX.size)
            have M1 := M1.later b1
            have K1 := K1.later b1
            try simp only [List.getElem_toArray, List.getElem_cons_zero, List.getElem_cons_succ, Act.put, List.setIfInBounds_toArray, List.set_cons_zero, List.set_cons_succ]
            obtain ⟨r0, r1, r2, r3, r4, r5, z0, z1, z2, z3, z4, z5⟩ := blk_six RB
            obtain ⟨⟨e0, e1, e2, e3, e4, e5⟩, _, bY⟩ := leaf_six (.int .i64 0) (.int .i64 0) (.int .i64 0) (.int .i64 0) (.int .i64 0) (.slice none 0 0) RB BX hG
            have E6 := Lib.hid (And.intro e0 (And.intro e1 (And.intro e2 (And.intro e3 (And.intro e4 (And.intro e5 bY))))))
            clear e0 e1 e2 e3 e4 e5 bY
            refine wpAnyH_ready (rs := [9]) (by kernel_rfl) (by simp) ?_
            refine AllReadyH.cons rfl (fun K hK => ?_) AllReadyH.nil
            go_simp
            refine hK.out _ _ (Five.below T2 E6.out.2.2.2.2.2.2) (fun hHeld => ?_)
            clear hK K
            try simp only [List.getElem_toArray, List.getElem_cons_zero, List.getElem_cons_succ, Act.put, List.setIfInBounds_toArray, List.set_cons_zero, List.set_cons_succ]
            refine wpAnyH_take (i := 10) (v := .bool false) rfl (by kernel_rfl) (by kernel_rfl) (by kernel_rfl) (fun _ _ _ h => h) (Or.inl ⟨by first | rfl | go_simp, by intro w9 hSw; (try dsimp only at hSw); go_simp⟩) (by assumption) ?_
            simp only [List.getElem_toArray, List.getElem_cons_zero, List.getElem_cons_succ, Act.put, List.setIfInBounds_toArray, List.set_cons_zero, List.set_cons_succ]
            refine wpAnyH_done (by kernel_rfl) ?_ _
            go_wp2_with fail
            go_meet
            exact ⟨rfl, E6.out.2.2.2.2.2.2⟩
          · skip
            go_simp
            have b1 := (Below.refl _ X11).alloc (Nat.le_refl _) (.cells #[.int .i64 0, .int .i64 0, .int .i64 0, .int .i64 0, .int .i64 0, .slice none 0 0] 46)
            have RB := Blk.fresh X11 46 #[.int .i64 0, .int .i64 0, .int .i64 0, .int .i64 0, .int .i64 0, .slice none 0 0]
            have hG := BX.size
            refine hK.out _ _ (T1.below b1) (fun hHeld => ?_)
            clear hK K
            generalize X11.alloc (.cells #[.int .i64 0, .int .i64 0, .int .i64 0, .int .i64 0, .int .i64 0, .slice none 0 0] 46) = X14 at *
            have T1 := T1.below b1
            have I1 := later I1 b1
            have BX := BX.trans (b1.mono BX.size)
            have M1 := M1.later b1
            have K1 := K1.later b1
            try simp only [List.getElem_toArray, List.getElem_cons_zero, List.getElem_cons_succ, Act.put, List.setIfInBounds_toArray, List.set_cons_zero, List.set_cons_succ]
            refine wpAnyH_ready (rs := [4]) (by kernel_rfl) (by simp) ?_
            refine AllReadyH.cons rfl (fun K hK => ?_) (AllReadyH.nil)
            go_simp
            refine (HH.out _ A c _ () M1 K1).mono ?_
            rintro e X15 ⟨rfl, b1⟩
            have T1 := T1.below b1
            have I1 := later I1 b1
            have BX := BX.trans (b1.mono BX.size)
            have M1 := M1.later b1
            have K1 := K1.later b1
            have RB := RB.below b1 RB.lt
            refine hK.out _ _ T1 (fun hHeld => ?_)
            clear hK K
            try simp only [List.getElem_toArray, List.getElem_cons_zero, List.getElem_cons_succ, Act.put, List.setIfInBounds_toArray, List.set_cons_zero, List.set_cons_succ]
            refine wpAnyH_take (i := 5) (v := .tuple #[.agg #[.int .i64 0, .int .i64 0, .int .i64 0, .int .i64 0, .int .i64 0, .slice none 0 0], .bool false]) rfl (by kernel_rfl) (by kernel_rfl) (by kernel_rfl) (fun _ _ _ h => h) (Or.inl ⟨by first | rfl | go_simp, by intro w9 hSw; (try dsimp only at hSw); go_simp⟩) (by assumption) ?_
            simp only [List.getElem_toArray, List.getElem_cons_zero, List.getElem_cons_succ, Act.put, List.setIfInBounds_toArray, List.set_cons_zero, List.set_cons_succ]
            refine wpAnyH_take (i := 6) (v := .agg #[.int .i64 0, .int .i64 0, .int .i64 0, .int .i64 0, .int .i64 0, .slice none 0 0]) rfl (by kernel_rfl) (by kernel_rfl) (by kernel_rfl) (fun _ _ _ h => h) (Or.inl ⟨by first | rfl | go_simp, by intro w9 hSw; (try dsimp only at hSw); go_simp⟩) (by assumption) ?_
            simp only [List.getElem_toArray, List.getElem_cons_zero, List.getElem_cons_succ, Act.put, List.setIfInBounds_toArray, List.set_cons_zero, List.set_cons_succ]
            refine wpAnyH_take (i := 7) (v := .bool false) rfl (by kernel_rfl) (by kernel_rfl) (by kernel_rfl) (fun _ _ _ h => h) (Or.inl ⟨by first | rfl | go_simp, by intro w9 hSw; (try dsimp only at hSw); go_simp⟩) (by assumption) ?_
            simp only [List.getElem_toArray, List.getElem_cons_zero, List.getElem_cons_succ, Act.put, List.setIfInBounds_toArray, List.set_cons_zero, List.set_cons_succ]
            obtain ⟨r0, r1, r2, r3, r4, r5, z0, z1, z2, z3, z4, z5⟩ := blk_six RB
            obtain ⟨⟨e0, e1, e2, e3, e4, e5⟩, _, bY⟩ := leaf_six (.int .i64 0) (.int .i64 0) (.int .i64 0) (.int .i64 0) (.int .i64 0) (.slice none 0 0) RB BX hG
            have E6 := Lib.hid (And.intro e0 (And.intro e1 (And.intro e2 (And.intro e3 (And.intro e4 (And.intro e5 bY))))))
            clear e0 e1 e2 e3 e4 e5 bY
            refine wpAnyH_ready (rs := [9]) (by kernel_rfl) (by simp) ?_
            refine AllReadyH.cons rfl (fun K hK => ?_) AllReadyH.nil
            go_simp
            refine hK.out _ _ (Five.below T2 E6.out.2.2.2.2.2.2) (fun hHeld => ?_)
            clear hK K
            try simp only [List.getElem_toArray, List.getElem_cons_zero, List.getElem_cons_succ, Act.put, List.setIfInBounds_toArray, List.set_cons_zero, List.set_cons_succ]
            refine wpAnyH_take (i := 10) (v := .bool false) rfl (by kernel_rfl) (by kernel_rfl) (by kernel_rfl) (fun _ _ _ h => h) (Or.inl ⟨by first | rfl | go_simp, by intro w9 hSw; (try dsimp only at hSw); go_simp⟩) (by assumption) ?_
            simp only [List.getElem_toArray, List.getElem_cons_zero, List.getElem_cons_succ, Act.put, List.setIfInBounds_toArray, List.set_cons_zero, List.set_cons_succ]
            refine wpAnyH_done (by kernel_rfl) ?_ _
            go_wp2_with fail
            go_meet
            exact ⟨rfl, E6.out.2.2.2.2.2.2⟩
        · skip
          go_simp
          have b1 := (Below.refl _ X10).alloc (Nat.le_refl _) (.cells #[.int .i64 0, .int .i64 0, .int .i64 0, .int .i64 0, .int .i64 0, .slice none 0 0] 46)
          have RB := Blk.fresh X10 46 #[.int .i64 0, .int .i64 0, .int .i64 0, .int .i64 0, .int .i64 0, .slice none 0 0]
          have hG := BX.size
          refine hK.out _ _ (T1.below b1) (fun hHeld => ?_)
          clear hK K
          generalize X10.alloc (.cells #[.int .i64 0, .int .i64 0, .int .i64 0, .int .i64 0, .int .i64 0, .slice none 0 0] 46) = X16 at *
          have T1 := T1.below b1
          have I1 := later I1 b1
          have BX := BX.trans (b1.mono BX.size)
          have K1 := K1.later b1
          try simp only [List.getElem_toArray, List.getElem_cons_zero, List.getElem_cons_succ, Act.put, List.setIfInBounds_toArray, List.set_cons_zero, List.set_cons_succ]
          refine wpAnyH_ready (rs := [0]) (by kernel_rfl) (by simp) ?_
          refine AllReadyH.cons rfl (fun K hK => ?_) (AllReadyH.nil)
          go_simp
          refine (HP.out _).mono ?_
          rintro e X17 ⟨A, c, rfl, M1, b1⟩
          have T1 := T1.below b1
          have I1 := later I1 b1
          have BX := BX.trans (b1.mono BX.size)
          have K1 := K1.later b1
          have RB := RB.below b1 RB.lt
          refine hK.out _ _ T1 (fun hHeld => ?_)
          clear hK K
          try simp only [List.getElem_toArray, List.getElem_cons_zero, List.getElem_cons_succ, Act.put, List.setIfInBounds_toArray, List.set_cons_zero, List.set_cons_succ]
          refine wpAnyH_ready (rs := [4]) (by kernel_rfl) (by simp) ?_
          refine AllReadyH.cons rfl (fun K hK => ?_) (AllReadyH.nil)
          go_simp
          refine (HH.out _ A c _ () M1 K1).mono ?_
          rintro e X18 ⟨rfl, b1⟩
          have T1 := T1.below b1
          have I1 := later I1 b1
          have BX := BX.trans (b1.mono BX.size)
          have M1 := M1.later b1
          have K1 := K1.later b1
          have RB := RB.below b1 RB.lt
          refine hK.out _ _ T1 (fun hHeld => ?_)
          clear hK K
          try simp only [List.getElem_toArray, List.getElem_cons_zero, List.getElem_cons_succ, Act.put, List.setIfInBounds_toArray, List.set_cons_zero, List.set_cons_succ]
          refine wpAnyH_take (i := 5) (v := .tuple #[.agg #[.int .i64 0, .int .i64 0, .int .i64 0, .int .i64 0, .int .i64 0, .slice none 0 0], .bool false]) rfl (by kernel_rfl) (by kernel_rfl) (by kernel_rfl) (fun _ _ _ h => h) (Or.inl ⟨by first | rfl | go_simp, by intro w9 hSw; (try dsimp only at hSw); go_simp⟩) (by assumption) ?_
          simp only [List.getElem_toArray, List.getElem_cons_zero, List.getElem_cons_succ, Act.put, List.setIfInBounds_toArray, List.set_cons_zero, List.set_cons_succ]
          refine wpAnyH_take (i := 6) (v := .agg #[.int .i64 0, .int .i64 0, .int .i64 0, .int .i64 0, .int .i64 0, .slice none 0 0]) rfl (by kernel_rfl) (by kernel_rfl) (by kernel_rfl) (fun _ _ _ h => h) (Or.inl ⟨by first | rfl | go_simp, by intro w9 hSw; (try dsimp only at hSw); go_simp⟩) (by assumption) ?_
          simp only [List.getElem_toArray, List.getElem_cons_zero, List.getElem_cons_succ, Act.put, List.setIfInBounds_toArray, List.set_cons_zero, List.set_cons_succ]
          refine wpAnyH_take (i := 7) (v := .bool false) rfl (by kernel_rfl) (by kernel_rfl) (by kernel_rfl) (fun _ _ _ h => h) (Or.inl ⟨by first | rfl | go_simp, by intro w9 hSw; (try dsimp only at hSw); go_simp⟩) (by assumption) ?_
          simp only [List.getElem_toArray, List.getElem_cons_zero, List.getElem_cons_succ, Act.put, List.setIfInBounds_toArray, List.set_cons_zero, List.set_cons_succ]
          obtain ⟨r0, r1, r2, r3, r4, r5, z0, z1, z2, z3, z4, z5⟩ := blk_six RB
          obtain ⟨⟨e0, e1, e2, e3, e4, e5⟩, _, bY⟩ := leaf_six (.int .i64 0) (.int .i64 0) (.int .i64 0) (.int .i64 0) (.int .i64 0) (.slice none 0 0) RB BX hG
          have E6 := Lib.hid (And.intro e0 (And.intro e1 (And.intro e2 (And.intro e3 (And.intro e4 (And.intro e5 bY))))))
          clear e0 e1 e2 e3 e4 e5 bY
          refine wpAnyH_ready (rs := [9]) (by kernel_rfl) (by simp) ?_
          refine AllReadyH.cons rfl (fun K hK => ?_) AllReadyH.nil
          go_simp
          refine hK.out _ _ (Five.below T2 E6.out.2.2.2.2.2.2) (fun hHeld => ?_)
          clear hK K
          try simp only [List.getElem_toArray, List.getElem_cons_zero, List.getElem_cons_succ, Act.put, List.setIfInBounds_toArray, List.set_cons_zero, List.set_cons_succ]
          refine wpAnyH_take (i := 10) (v := .bool false) rfl (by kernel_rfl) (by kernel_rfl) (by kernel_rfl) (fun _ _ _ h => h) (Or.inl ⟨by first | rfl | go_simp, by intro w9 hSw; (try dsimp only at hSw); go_simp⟩) (by assumption) ?_
          simp only [List.getElem_toArray, List.getElem_cons_zero, List.getElem_cons_succ, Act.put, List.setIfInBounds_toArray, List.set_cons_zero, List.set_cons_succ]
          refine wpAnyH_done (by kernel_rfl) ?_ _
          go_wp2_with fail
          go_meet
          exact ⟨rfl, E6.out.2.2.2.2.2.2⟩
      · skip
        go_simp
        have b1 := (Below.refl _ X0).alloc (Nat.le_refl _) (.cells #[.int .i64 0, .int .i64 0, .int .i64 0, .int .i64 0, .int .i64 0, .slice none 0 0] 46)
        have RB := Blk.fresh X0 46 #[.int .i64 0, .int .i64 0, .int .i64 0, .int .i64 0, .int .i64 0, .slice none 0 0]
        have hG := BX.size
        refine hK.out _ _ (T1.below b1) (fun hHeld => ?_)
        clear hK K
        generalize X0.alloc (.cells #[.int .i64 0, .int .i64 0, .int .i64 0, .int .i64 0, .int .i64 0, .slice none 0 0] 46) = X19 at *
        have T1 := T1.below b1
        have I1 := later I1 b1
        have BX := BX.trans (b1.mono BX.size)
        try simp only [List.getElem_toArray, List.getElem_cons_zero, List.getElem_cons_succ, Act.put, List.setIfInBounds_toArray, List.set_cons_zero, List.set_cons_succ]
        refine wpAnyH_ready (rs := [0, 2]) (by kernel_rfl) (by simp) ?_
        refine AllReadyH.cons rfl (fun K hK => ?_) (AllReadyH.cons rfl (fun K hK => ?_) (AllReadyH.nil))
        · skip
          go_simp
          refine (HP.out _).mono ?_
          rintro e X20 ⟨A, c, rfl, M1, b1⟩
          have T1 := T1.below b1
          have I1 := later I1 b1
          have BX := BX.trans (b1.mono BX.size)
          have RB := RB.below b1 RB.lt
          refine hK.out _ _ T1 (fun hHeld => ?_)
          clear hK K
          try simp only [List.getElem_toArray, List.getElem_cons_zero, List.getElem_cons_succ, Act.put, List.setIfInBounds_toArray, List.set_cons_zero, List.set_cons_succ]
          refine wpAnyH_ready (rs := [2]) (by kernel_rfl) (by simp) ?_
          refine AllReadyH.cons rfl (fun K hK => ?_) (AllReadyH.nil)
          go_simp
          have b1 := (Below.refl _ X20).alloc (Nat.le_refl _) (.cells #[.int .i64 4, .int .i64 0, .int .i64 5, .int .i64 100, .slice (some ⟨w.heap.size, 0, none⟩) 10 10] 24)
          have K1 := lit_txs (⟨4, 0, 5, 100, some ⟨w.heap.size, 0, none⟩, 10, [1, 2, 3, 4, 5, 6, 7, 8, 9, 10]⟩ : Tx) X20 ⟨by simp, by simp, I1⟩ (e := 24)
          refine hK.out _ _ (T1.below b1) (fun hHeld => ?_)
          clear hK K
          generalize X20.alloc (.cells #[.int .i64 4, .int .i64 0, .int .i64 5, .int .i64 100, .slice (some ⟨w.heap.size, 0, none⟩) 10 10] 24) = X21 at *
          have T1 := T1.below b1
          have I1 := later I1 b1
          have BX := BX.trans (b1.mono BX.size)
          have M1 := M1.later b1
          have RB := RB.below b1 RB.lt
          try simp only [List.getElem_toArray, List.getElem_cons_zero, List.getElem_cons_succ, Act.put, List.setIfInBounds_toArray, List.set_cons_zero, List.set_cons_succ]
          refine wpAnyH_ready (rs := [4]) (by kernel_rfl) (by simp) ?_
          refine AllReadyH.cons rfl (fun K hK => ?_) (AllReadyH.nil)
          go_simp
          refine (HH.out _ A c _ () M1 K1).mono ?_
          rintro e X22 ⟨rfl, b1⟩
          have T1 := T1.below b1
          have I1 := later I1 b1
          have BX := BX.trans (b1.mono BX.size)
          have M1 := M1.later b1
          have K1 := K1.later b1
          have RB := RB.below b1 RB.lt
          refine hK.out _ _ T1 (fun hHeld => ?_)
          clear hK K
          try simp only [List.getElem_toArray, List.getElem_cons_zero, List.getElem_cons_succ, Act.put, List.setIfInBounds_toArray, List.set_cons_zero, List.set_cons_succ]
          refine wpAnyH_take (i := 5) (v := .tuple #[.agg #[.int .i64 0, .int .i64 0, .int .i64 0, .int .i64 0, .int .i64 0, .slice none 0 0], .bool false]) rfl (by kernel_rfl) (by kernel_rfl) (by kernel_rfl) (fun _ _ _ h => h) (Or.inl ⟨by first | rfl | go_simp, by intro w9 hSw; (try dsimp only at hSw); go_simp⟩) (by assumption) ?_
          simp only [List.getElem_toArray, List.getElem_cons_zero, List.getElem_cons_succ, Act.put, List.setIfInBounds_toArray, List.set_cons_zero, List.set_cons_succ]
          refine wpAnyH_take (i := 6) (v := .agg #[.int .i64 0, .int .i64 0, .int .i64 0, .int .i64 0, .int .i64 0, .slice none 0 0]) rfl (by kernel_rfl) (by kernel_rfl) (by kernel_rfl) (fun _ _ _ h => h) (Or.inl ⟨by first | rfl | go_simp, by intro w9 hSw; (try dsimp only at hSw); go_simp⟩) (by assumption) ?_
          simp only [List.getElem_toArray, List.getElem_cons_zero, List.getElem_cons_succ, Act.put, List.setIfInBounds_toArray, List.set_cons_zero, List.set_cons_succ]
          refine wpAnyH_take (i := 7) (v := .bool false) rfl (by kernel_rfl) (by kernel_rfl) (by kernel_rfl) (fun _ _ _ h => h) (Or.inl ⟨by first | rfl | go_simp, by intro w9 hSw; (try dsimp only at hSw); go_simp⟩) (by assumption) ?_
          simp only [List.getElem_toArray, List.getElem_cons_zero, List.getElem_cons_succ, Act.put, List.setIfInBounds_toArray, List.set_cons_zero, List.set_cons_succ]
          obtain ⟨r0, r1, r2, r3, r4, r5, z0, z1, z2, z3, z4, z5⟩ := blk_six RB
          obtain ⟨⟨e0, e1, e2, e3, e4, e5⟩, _, bY⟩ := leaf_six (.int .i64 0) (.int .i64 0) (.int .i64 0) (.int .i64 0) (.int .i64 0) (.slice none 0 0) RB BX hG
          have E6 := Lib.hid (And.intro e0 (And.intro e1 (And.intro e2 (And.intro e3 (And.intro e4 (And.intro e5 bY))))))
          clear e0 e1 e2 e3 e4 e5 bY
          refine wpAnyH_ready (rs := [9]) (by kernel_rfl) (by simp) ?_
          refine AllReadyH.cons rfl (fun K hK => ?_) AllReadyH.nil
          go_simp
          refine hK.out _ _ (Five.below T2 E6.out.2.2.2.2.2.2) (fun hHeld => ?_)
          clear hK K
          try simp only [List.getElem_toArray, List.getElem_cons_zero, List.getElem_cons_succ, Act.put, List.setIfInBounds_toArray, List.set_cons_zero, List.set_cons_succ]
          refine wpAnyH_take (i := 10) (v := .bool false) rfl (by kernel_rfl) (by kernel_rfl) (by kernel_rfl) (fun _ _ _ h => h) (Or.inl ⟨by first | rfl | go_simp, by intro w9 hSw; (try dsimp only at hSw); go_simp⟩) (by assumption) ?_
          simp only [List.getElem_toArray, List.getElem_cons_zero, List.getElem_cons_succ, Act.put, List.setIfInBounds_toArray, List.set_cons_zero, List.set_cons_succ]
          refine wpAnyH_done (by kernel_rfl) ?_ _
          go_wp2_with fail
          go_meet
          exact ⟨rfl, E6.out.2.2.2.2.2.2⟩
        · skip
          go_simp
          have b1 := (Below.refl _ X19).alloc (Nat.le_refl _) (.cells #[.int .i64 4, .int .i64 0, .int .i64 5, .int .i64 100, .slice (some ⟨w.heap.size, 0, none⟩) 10 10] 24)
          have K1 := lit_txs (⟨4, 0, 5, 100, some ⟨w.heap.size, 0, none⟩, 10, [1, 2, 3, 4, 5, 6, 7, 8, 9, 10]⟩ : Tx) X19 ⟨by simp, by simp, I1⟩ (e := 24)
          refine hK.out _ _ (T1.below b1) (fun hHeld => ?_)
          clear hK K
          generalize X19.alloc (.cells #[.int .i64 4, .int .i64 0, .int .i64 5, .int .i64 100, .slice (some ⟨w.heap.size, 0, none⟩) 10 10] 24) = X23 at *
          have T1 := T1.below b1
          have I1 := later I1 b1
          have BX := BX.trans (b1.mono BX.size)
          have RB := RB.below b1 RB.lt
          try simp only [List.getElem_toArray, List.getElem_cons_zero, List.getElem_cons_succ, Act.put, List.setIfInBounds_toArray, List.set_cons_zero, List.set_cons_succ]
          refine wpAnyH_ready (rs := [0]) (by kernel_rfl) (by simp) ?_
          refine AllReadyH.cons rfl (fun K hK => ?_) (AllReadyH.nil)
          go_simp
          refine (HP.out _).mono ?_
          rintro e X24 ⟨A, c, rfl, M1, b1⟩
          have T1 := T1.below b1
          have I1 := later I1 b1
          have BX := BX.trans (b1.mono BX.size)
          have K1 := K1.later b1
          have RB := RB.below b1 RB.lt
          refine hK.out _ _ T1 (fun hHeld => ?_)
          clear hK K
          try simp only [List.getElem_toArray, List.getElem_cons_zero, List.getElem_cons_succ, Act.put, List.setIfInBounds_toArray, List.set_cons_zero, List.set_cons_succ]
          refine wpAnyH_ready (rs := [4]) (by kernel_rfl) (by simp) ?_
          refine AllReadyH.cons rfl (fun K hK => ?_) (AllReadyH.nil)
          go_simp
          refine (HH.out _ A c _ () M1 K1).mono ?_
          rintro e X25 ⟨rfl, b1⟩
          have T1 := T1.below b1
          have I1 := later I1 b1
          have BX := BX.trans (b1.mono BX.size)
          have M1 := M1.later b1
          have K1 := K1.later b1
          have RB := RB.below b1 RB.lt
          refine hK.out _ _ T1 (fun hHeld => ?_)
          clear hK K
          try simp only [List.getElem_toArray, List.getElem_cons_zero, List.getElem_cons_succ, Act.put, List.setIfInBounds_toArray, List.set_cons_zero, List.set_cons_succ]
          refine wpAnyH_take (i := 5) (v := .tuple #[.agg #[.int .i64 0, .int .i64 0, .int .i64 0, .int .i64 0, .int .i64 0, .slice none 0 0], .bool false]) rfl (by kernel_rfl) (by kernel_rfl) (by kernel_rfl) (fun _ _ _ h => h) (Or.inl ⟨by first | rfl | go_simp, by intro w9 hSw; (try dsimp only at hSw); go_simp⟩) (by assumption) ?_
          simp only [List.getElem_toArray, List.getElem_cons_zero, List.getElem_cons_succ, Act.put, List.setIfInBounds_toArray, List.set_cons_zero, List.set_cons_succ]
          refine wpAnyH_take (i := 6) (v := .agg #[.int .i64 0, .int .i64 0, .int .i64 0, .int .i64 0, .int .i64 0, .slice none 0 0]) rfl (by kernel_rfl) (by kernel_rfl) (by kernel_rfl) (fun _ _ _ h => h) (Or.inl ⟨by first | rfl | go_simp, by intro w9 hSw; (try dsimp only at hSw); go_simp⟩) (by assumption) ?_
          simp only [List.getElem_toArray, List.getElem_cons_zero, List.getElem_cons_succ, Act.put, List.setIfInBounds_toArray, List.set_cons_zero, List.set_cons_succ]
          refine wpAnyH_take (i := 7) (v := .bool false) rfl (by kernel_rfl) (by kernel_rfl) (by kernel_rfl) (fun _ _ _ h => h) (Or.inl ⟨by first | rfl | go_simp, by intro w9 hSw; (try dsimp only at hSw); go_simp⟩) (by assumption) ?_
          simp only [List.getElem_toArray, List.getElem_cons_zero, List.getElem_cons_succ, Act.put, List.setIfInBounds_toArray, List.set_cons_zero, List.set_cons_succ]
          obtain ⟨r0, r1, r2, r3, r4, r5, z0, z1, z2, z3, z4, z5⟩ := blk_six RB
          obtain ⟨⟨e0, e1, e2, e3, e4, e5⟩, _, bY⟩ := leaf_six (.int .i64 0) (.int .i64 0) (.int .i64 0) (.int .i64 0) (.int .i64 0) (.slice none 0 0) RB BX hG
          have E6 := Lib.hid (And.intro e0 (And.intro e1 (And.intro e2 (And.intro e3 (And.intro e4 (And.intro e5 bY))))))
          clear e0 e1 e2 e3 e4 e5 bY
          refine wpAnyH_ready (rs := [9]) (by kernel_rfl) (by simp) ?_
          refine AllReadyH.cons rfl (fun K hK => ?_) AllReadyH.nil
          go_simp
          refine hK.out _ _ (Five.below T2 E6.out.2.2.2.2.2.2) (fun hHeld => ?_)
          clear hK K
          try simp only [List.getElem_toArray, List.getElem_cons_zero, List.getElem_cons_succ, Act.put, List.setIfInBounds_toArray, List.set_cons_zero, List.set_cons_succ]
          refine wpAnyH_take (i := 10) (v := .bool false) rfl (by kernel_rfl) (by kernel_rfl) (by kernel_rfl) (fun _ _ _ h => h) (Or.inl ⟨by first | rfl | go_simp, by intro w9 hSw; (try dsimp only at hSw); go_simp⟩) (by assumption) ?_
          simp only [List.getElem_toArray, List.getElem_cons_zero, List.getElem_cons_succ, Act.put, List.setIfInBounds_toArray, List.set_cons_zero, List.set_cons_succ]
          refine wpAnyH_done (by kernel_rfl) ?_ _
          go_wp2_with fail
          go_meet
          exact ⟨rfl, E6.out.2.2.2.2.2.2⟩
    case rest =>
      obtain ⟨rfl, bV⟩ := hcut
      have T3 := T2.below bV
      have y0 := One_below e0 bV
      have y2 := One_below e2 bV
      have y4 := One_below e4 bV
      have y5 := One_below e5 bV
      have HB2 := thenB HB1 bV
      clear e0 e1 e2 e3 e4 e5 T2 I2 HB1 bW
      generalize wc = Y at *
      go_wp2_with fail
      go_at_call 11; refine (HAt.out _).mono ?_; rintro e w1 ⟨rfl, rfl⟩
      go_wp2_with fail
      go_at_call 13; refine (HEn.out _).mono ?_; rintro e w1 ⟨rfl, b1⟩; have y0 := One_below y0 b1; have y2 := One_below y2 b1; have y4 := One_below y4 b1; have y5 := One_below y5 b1; have HB2 := thenB HB2 b1
      go_wp2_with fail
      go_at_call 32; refine (HP.out _).mono ?_; rintro e w2 ⟨A, c, rfl, M1, b2⟩; have HB2 := thenB HB2 b2
      go_wp2_with fail
      go_at_call 21; refine (HIn.out A c _ M1).mono ?_; rintro e w3 ⟨rfl, b3⟩; have HB2 := thenB HB2 b3
      go_wp2_with fail
      go_at_call 32; refine (HP.out _).mono ?_; rintro e w4 ⟨A2, c2, rfl, M2, b4⟩; have HB2 := thenB HB2 b4
      go_wp2_with fail
      go_at_call 17; refine (HC1.out A2 c2 _ M2).mono ?_; rintro e w5 ⟨rfl, b5⟩; have HB2 := thenB HB2 b5
      go_wp2_with fail
      go_at_call 17; refine (HC2.out _).mono ?_; rintro e w6 ⟨rfl, b6⟩; have HB2 := thenB HB2 b6
      go_wp2_with fail
      go_ret
      exact ⟨rfl, HB2⟩
end Go.Proofs.Ytocmcjbhmjbmhaa.Air
