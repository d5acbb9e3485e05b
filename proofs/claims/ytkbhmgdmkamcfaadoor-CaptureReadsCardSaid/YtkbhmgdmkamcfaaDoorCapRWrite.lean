/- The file of records: the document's answer. -/
import Derived.Test.YtkbhmgdmkamcfaaDoorCapRef
import Derived.Deep.RegionHeld3
set_option linter.unusedVariables false
set_option linter.unusedSimpArgs false
namespace Go.Proofs.YtkbhmgdmkamcfaaDoor.Cap
open Go.RowKit Mem Rw Air Base Oct

theorem chk_bad_right {p : Option Int} {r : Tr} (h : rightB r = false) : chkC p r = 5 := by unfold chkC; rw [h]; rfl
theorem chk_long {p : Option Int} {r : Tr} (h : rightB r = true) (hl : 260 < r.bs.length) : chkC p r = 4 := by unfold chkC; rw [if_pos h, if_pos hl]
theorem chk_rest {p : Option Int} {r : Tr} (h : rightB r = true) (hl : ¬ 260 < r.bs.length) : chkC p r = if lateB p r = true then 13 else 0 := by unfold chkC; rw [if_pos h, if_neg hl]
set_option maxRecDepth 100000 in
set_option maxHeartbeats 8000000 in
theorem rwrite_any (A : Option Addr) (n c : Nat) (xs : List Tx) (w : World) (hx : xs.length = n) (hn : n ≤ 1000) (hc : n ≤ c) (ta : TxsAt w w.heap.size A xs) (hb : ∀ x ∈ xs, Bytes x.bs) :
    Calls Tryd.prog 19 #[.slice A n c] w fun e w' => ∃ A' c' m, e = .returned (.tuple #[.slice A' m c', .int .i64 (writeR none (xs.map Tx.tr) sigL).2]) ∧ (writeR none (xs.map Tx.tr) sigL).1.length = m ∧ m ≤ c' ∧ Ints .u8 w' w'.heap.size A' (writeR none (xs.map Tx.tr) sigL).1 ∧ Below w.heap.size w w' := by
  have HN : Hid (∀ j, j < n → ∃ x, xs[j]? = some x ∧ (xs.map Tx.tr)[j]? = some x.tr ∧ x.bs.length ≤ 140737488351232 ∧ Bytes x.bs ∧ ∀ w', Below w.heap.size w w' → Ints .u8 w' w'.heap.size x.A x.bs) := Lib.hid fun j hj => by
    obtain ⟨x, h1, h2⟩ := has hx hj
    exact ⟨x, h1, by rw [List.getElem?_map, h1]; rfl, (ta.2 x h2).2.1, hb x h2, fun w' bb => later (ta.2 x h2).2.2 bb⟩
  have HO : Hid (∀ w', Below w.heap.size w w' → 0 < n → _) := Lib.hid fun w' bb h0 => tx_cells (ta.below bb) (by omega)
  have HE : Hid (∀ j, n ≤ j → (xs.map Tx.tr).length ≤ j) := Lib.hid fun j h => by rw [List.length_map]; omega
  generalize hL : xs.map Tx.tr = LL at *
  generalize hR : writeR none LL sigL = R at *
  have hr0 : Hid (writeR (lastT LL 0) (LL.drop 0) sigL = R) := Lib.hid (by rw [List.drop_zero]; exact hR)
  have HW : Hid (∀ (j : Nat) (r : Tr) (acc : List Int), LL[j]? = some r → writeR (lastT LL j) (LL.drop j) acc = R → (chkC (lastT LL j) r = 0 → writeR (lastT LL (j + 1)) (LL.drop (j + 1)) (acc ++ recL r) = R) ∧ (chkC (lastT LL j) r ≠ 0 → R = ([], chkC (lastT LL j) r))) := Lib.hid fun j r acc h he => write_at h he
  have HZ : Hid (∀ (j : Nat) (acc : List Int), n ≤ j → writeR (lastT LL j) (LL.drop j) acc = R → R = (acc, 0)) := Lib.hid fun j acc hj he => write_end (HE.out j hj) he
  have B0 : Below w.heap.size w (w.alloc (.cells #[.int .u8 65, .int .u8 73, .int .u8 82, .int .u8 49] 5 (4, 5))) := (Below.refl _ w).alloc (Nat.le_refl _) _
  have hcv : (convert 32 32 (.slice (some ⟨w.heap.size, 0, none⟩) 4 4)).run Tryd.prog (w.alloc (.cells #[.int .u8 65, .int .u8 73, .int .u8 82, .int .u8 49] 5)) = .ok (.slice (some ⟨w.heap.size, 0, none⟩) 4 4) (w.alloc (.cells #[.int .u8 65, .int .u8 73, .int .u8 82, .int .u8 49] 5 (4, 5))) := Lib.run_convert_bytes_const w 32 5 #[.int .u8 65, .int .u8 73, .int .u8 82, .int .u8 49] 4 4 Tryd.underlying32 Tryd.underlying5
  have O0 : RowF (w.alloc (.cells #[.int .u8 65, .int .u8 73, .int .u8 82, .int .u8 49] 5 (4, 5))) w.heap.size (some ⟨w.heap.size, 0, none⟩) 4 4 sigL := .inr ⟨rfl, rfl, w.heap.size, rfl, Nat.le_refl _, by simp, fun j u hu => by
    rw [cell_of_row _ w.heap.size j _ _ _ (heap_alloc_new w _)]
    simpa [sigL] using hu⟩
  have HLT : Hid (∀ j, j < n → 0 < j → ∃ y, xs[j - 1]? = some y ∧ lastT LL j = some y.id) := Lib.hid fun j hj h0 => by
    obtain ⟨y, h1, h2⟩ := has hx (show j - 1 < n by omega)
    refine ⟨y, h1, ?_⟩
    unfold lastT
    rw [if_neg (by omega), ← hL, List.getElem?_map, h1]; rfl
  clear hL hR HE ta hb
  go_enter Tryd.func19, Tryd.ntmps19
  go_wp2_with fail
  clear hcv
  generalize w.alloc (.cells #[.int .u8 65, .int .u8 73, .int .u8 82, .int .u8 49] 5 (4, 5)) = W at *
  go_loopw [4, 5] (fun s4 s5 wr => ∃ (j m : Nat) (acc : List Int), ∃ A' c', j ≤ n ∧ s5 = .int .i64 j ∧ s4 = .slice A' m c' ∧ Hid (acc.length = m) ∧ m ≤ 4 + 276 * j ∧ RowF wr w.heap.size A' m c' acc ∧ Hid (writeR (lastT LL j) (LL.drop j) acc = R) ∧ Below w.heap.size w wr) (fun _ s5 _ => n - (intOf s5).toNat)
  case atStart => exact ⟨0, 4, sigL, _, _, by omega, rfl, rfl, Lib.hid rfl, by omega, O0, hr0, B0⟩
  case round =>
    obtain ⟨j, m, acc, A', c', hj, rfl, rfl, hm, hm2, hown, hno, hbel⟩ := hrel
    clear hr0 B0 O0
    by_cases c1 : j < n
    · obtain ⟨x, hxj, hxt, xl, xb, hxi⟩ := HN.out j c1
      have hw1 := HW.out j x.tr acc hxt hno.out
      have hlt := HLT.out j c1
      obtain ⟨b, off, rfl, hbl, hcc⟩ := HO.out _ hbel (by omega)
      obtain ⟨h0, h1, h2, h3, h4⟩ := hcc j x hxj
      have g1 : (0 : Int) ≤ (j : Int) ∧ (j : Int) < (n : Int) := by omega
      have hprev : Hid (0 < j → ∃ p, lastT LL j = some p ∧ wr.cell? ⟨b, off + (j - 1) * 5, none⟩ = some (.int .i64 p)) := Lib.hid fun hj0 => by
        obtain ⟨y, hy, hl⟩ := hlt hj0
        exact ⟨y.id, hl, (hcc (j - 1) y hy).1⟩
      have hzero : Hid (j = 0 → lastT LL j = none) := Lib.hid fun h => by unfold lastT; rw [if_pos h]
      clear hlt hcc hxj hxt HN HO HW HZ HLT
      obtain ⟨p0, p1, p2, p3, pA, pc, pb⟩ := x
      simp only at h0 h1 h2 h3 h4 xl xb hxi
      have HRt := Lib.hid (fun w' => rright_any p0 p1 p2 p3 pA pb.length pc pb w')
      have hw2 : (chkC (lastT LL j) ⟨p0, p1, p2, p3, pb⟩ = 0 → writeR (lastT LL (j + 1)) (LL.drop (j + 1)) (acc ++ recL ⟨p0, p1, p2, p3, pb⟩) = R) ∧ (chkC (lastT LL j) ⟨p0, p1, p2, p3, pb⟩ ≠ 0 → R = ([], chkC (lastT LL j) ⟨p0, p1, p2, p3, pb⟩)) := hw1
      clear hw1
      cases hr : rightB ⟨p0, p1, p2, p3, pb⟩ with
      | false =>
        rw [hr] at HRt
        have ec := chk_bad_right (p := lastT LL j) hr
        rw [ec] at hw2
        have hnx := Lib.hid (hw2.2 (by decide))
        clear hw2 ec hr hxi
        go_wp2_with (go_at_call 36; refine (HRt.out _).mono ?_; rintro e w3 ⟨rfl, b3⟩; have BR := thenB hbel b3; have OR := Lib.hid (hown.below b3); have K0 := One_below h0 b3; have K1 := One_below h1 b3; have K2 := One_below h2 b3; have K3 := One_below h3 b3; have K4 := One_below h4 b3)
        go_ret2
        rw [hnx.out]
        exact ⟨none, 0, 0, rfl, rfl, Nat.le_refl _, .inl rfl, BR⟩
      | true =>
        rw [hr] at HRt
        by_cases hl : 260 < pb.length
        · have hl' : (260 : Int) < (pb.length : Int) := by omega
          have ec := chk_long (p := lastT LL j) hr hl
          rw [ec] at hw2
          have hnx := Lib.hid (hw2.2 (by decide))
          clear hw2 ec hr hxi
          go_wp2_with (go_at_call 36; refine (HRt.out _).mono ?_; rintro e w3 ⟨rfl, b3⟩; have BR := thenB hbel b3; have OR := Lib.hid (hown.below b3); have K0 := One_below h0 b3; have K1 := One_below h1 b3; have K2 := One_below h2 b3; have K3 := One_below h3 b3; have K4 := One_below h4 b3)
          go_ret2
          rw [hnx.out]
          exact ⟨none, 0, 0, rfl, rfl, Nat.le_refl _, .inl rfl, BR⟩
        · have hl' : ¬ (260 : Int) < (pb.length : Int) := by omega
          have ec := chk_rest (p := lastT LL j) hr hl
          have HEn : Hid (∀ w', Below w.heap.size w w' → Calls Tryd.prog 37 #[.agg #[.int .i64 p0, .int .i64 p1, .int .i64 p2, .int .i64 p3, .slice pA pb.length pc]] w' fun e w2 => Base.Makes w' w2 e (recL ⟨p0, p1, p2, p3, pb⟩)) := Lib.hid fun w' bb => rbytes_any p0 p1 p2 p3 pA pb.length pc pb w' rfl hr (by omega) xb (hxi w' bb)
          have hrl : (recL ⟨p0, p1, p2, p3, pb⟩).length = 16 + pb.length := rec_len _
          clear hr hxi
          by_cases hj0 : j = 0
          · rw [hzero.out hj0] at ec
            rw [hzero.out hj0] at hw2
            rw [ec] at hw2
            have hnx := Lib.hid (hw2.1 rfl)
            have gz : ¬ (0 : Int) < (j : Int) ∧ ¬ 0 < j := by omega
            clear hw2 ec hprev hzero hj0
            go_wp2_with (go_at_call 36; refine (HRt.out _).mono ?_; rintro e w3 ⟨rfl, b3⟩; have BR := thenB hbel b3; have OR := Lib.hid (hown.below b3); have K0 := One_below h0 b3; have K1 := One_below h1 b3; have K2 := One_below h2 b3; have K3 := One_below h3 b3; have K4 := One_below h4 b3)
            have HOw := OR
            generalize hrc : recL ⟨p0, p1, p2, p3, pb⟩ = rc at *
            have HRL := Lib.hid (And.intro hrl hl)
            clear hrl hrc OR
            refine wp_region_held_drew (S := (fun w' => w'.cell? ⟨b, off + j * 5, none⟩ = some (.int .i64 p0) ∧ w'.cell? ⟨b, off + j * 5 + 1, none⟩ = some (.int .i64 p1) ∧ w'.cell? ⟨b, off + j * 5 + 2, none⟩ = some (.int .i64 p2) ∧ w'.cell? ⟨b, off + j * 5 + 3, none⟩ = some (.int .i64 p3) ∧ w'.cell? ⟨b, off + j * 5 + 4, none⟩ = some (.slice pA pb.length pc))) (by kernel_rfl) ?_ (fun hHeld => ?_)
            · exact ⟨K0, K1, K2, K3, K4⟩
            have BX : Below w.heap.size w w3.drew := BR.drew
            have OX := HOw.out.below ((Below.refl _ w3).drew)
            generalize w3.drew = X0 at *
            refine wpAnyH_take (i := 0) (v := .int .i64 (j : Int)) rfl (by kernel_rfl) (by kernel_rfl) (by kernel_rfl) (fun _ _ _ h => h) (Or.inl ⟨by first | rfl | go_simp, by intro w9 hSw; (try dsimp only at hSw); go_simp⟩) (by assumption) ?_
            simp only [List.getElem_toArray, List.getElem_cons_zero, List.getElem_cons_succ, Act.put, List.setIfInBounds_toArray, List.set_cons_zero, List.set_cons_succ]
            refine wpAnyH_take (i := 1) (v := .bool false) rfl (by kernel_rfl) (by kernel_rfl) (by kernel_rfl) (fun _ _ _ h => h) (Or.inl ⟨by first | rfl | go_simp, by intro w9 hSw; (try dsimp only at hSw); go_simp⟩) (by assumption) ?_
            simp only [List.getElem_toArray, List.getElem_cons_zero, List.getElem_cons_succ, Act.put, List.setIfInBounds_toArray, List.set_cons_zero, List.set_cons_succ]
            refine wpAnyH_take (i := 2) (v := .bool false) rfl (by kernel_rfl) (by kernel_rfl) (by kernel_rfl) (fun _ _ _ h => h) (Or.inl ⟨by first | rfl | go_simp, by intro w9 hSw; (try dsimp only at hSw); go_simp⟩) (by assumption) ?_
            simp only [List.getElem_toArray, List.getElem_cons_zero, List.getElem_cons_succ, Act.put, List.setIfInBounds_toArray, List.set_cons_zero, List.set_cons_succ]
            refine wpAnyH_take (i := 3) (v := undef) rfl (by kernel_rfl) (by kernel_rfl) (by kernel_rfl) (fun _ _ _ h => h) (Or.inr ⟨by first | rfl | go_simp, rfl⟩) (by assumption) ?_
            simp only [List.getElem_toArray, List.getElem_cons_zero, List.getElem_cons_succ, Act.put, List.setIfInBounds_toArray, List.set_cons_zero, List.set_cons_succ]
            refine wpAnyH_take (i := 4) (v := undef) rfl (by kernel_rfl) (by kernel_rfl) (by kernel_rfl) (fun _ _ _ h => h) (Or.inr ⟨by first | rfl | go_simp, rfl⟩) (by assumption) ?_
            simp only [List.getElem_toArray, List.getElem_cons_zero, List.getElem_cons_succ, Act.put, List.setIfInBounds_toArray, List.set_cons_zero, List.set_cons_succ]
            refine wpAnyH_take (i := 5) (v := undef) rfl (by kernel_rfl) (by kernel_rfl) (by kernel_rfl) (fun _ _ _ h => h) (Or.inr ⟨by first | rfl | go_simp, rfl⟩) (by assumption) ?_
            simp only [List.getElem_toArray, List.getElem_cons_zero, List.getElem_cons_succ, Act.put, List.setIfInBounds_toArray, List.set_cons_zero, List.set_cons_succ]
            refine wpAnyH_take (i := 6) (v := undef) rfl (by kernel_rfl) (by kernel_rfl) (by kernel_rfl) (fun _ _ _ h => h) (Or.inr ⟨by first | rfl | go_simp, rfl⟩) (by assumption) ?_
            simp only [List.getElem_toArray, List.getElem_cons_zero, List.getElem_cons_succ, Act.put, List.setIfInBounds_toArray, List.set_cons_zero, List.set_cons_succ]
            refine wpAnyH_take (i := 7) (v := undef) rfl (by kernel_rfl) (by kernel_rfl) (by kernel_rfl) (fun _ _ _ h => h) (Or.inr ⟨by first | rfl | go_simp, rfl⟩) (by assumption) ?_
            simp only [List.getElem_toArray, List.getElem_cons_zero, List.getElem_cons_succ, Act.put, List.setIfInBounds_toArray, List.set_cons_zero, List.set_cons_succ]
            refine wpAnyH_take (i := 8) (v := undef) rfl (by kernel_rfl) (by kernel_rfl) (by kernel_rfl) (fun _ _ _ h => h) (Or.inr ⟨by first | rfl | go_simp, rfl⟩) (by assumption) ?_
            simp only [List.getElem_toArray, List.getElem_cons_zero, List.getElem_cons_succ, Act.put, List.setIfInBounds_toArray, List.set_cons_zero, List.set_cons_succ]
            refine wpAnyH_take (i := 9) (v := undef) rfl (by kernel_rfl) (by kernel_rfl) (by kernel_rfl) (fun _ _ _ h => h) (Or.inr ⟨by first | rfl | go_simp, rfl⟩) (by assumption) ?_
            simp only [List.getElem_toArray, List.getElem_cons_zero, List.getElem_cons_succ, Act.put, List.setIfInBounds_toArray, List.set_cons_zero, List.set_cons_succ]
            refine wpAnyH_take (i := 10) (v := undef) rfl (by kernel_rfl) (by kernel_rfl) (by kernel_rfl) (fun _ _ _ h => h) (Or.inr ⟨by first | rfl | go_simp, rfl⟩) (by assumption) ?_
            simp only [List.getElem_toArray, List.getElem_cons_zero, List.getElem_cons_succ, Act.put, List.setIfInBounds_toArray, List.set_cons_zero, List.set_cons_succ]
            refine wpAnyH_take (i := 11) (v := undef) rfl (by kernel_rfl) (by kernel_rfl) (by kernel_rfl) (fun _ _ _ h => h) (Or.inr ⟨by first | rfl | go_simp, rfl⟩) (by assumption) ?_
            simp only [List.getElem_toArray, List.getElem_cons_zero, List.getElem_cons_succ, Act.put, List.setIfInBounds_toArray, List.set_cons_zero, List.set_cons_succ]
            refine wpAnyH_take (i := 12) (v := undef) rfl (by kernel_rfl) (by kernel_rfl) (by kernel_rfl) (fun _ _ _ h => h) (Or.inr ⟨by first | rfl | go_simp, rfl⟩) (by assumption) ?_
            simp only [List.getElem_toArray, List.getElem_cons_zero, List.getElem_cons_succ, Act.put, List.setIfInBounds_toArray, List.set_cons_zero, List.set_cons_succ]
            refine wpAnyH_take (i := 13) (v := undef) rfl (by kernel_rfl) (by kernel_rfl) (by kernel_rfl) (fun _ _ _ h => h) (Or.inr ⟨by first | rfl | go_simp, rfl⟩) (by assumption) ?_
            simp only [List.getElem_toArray, List.getElem_cons_zero, List.getElem_cons_succ, Act.put, List.setIfInBounds_toArray, List.set_cons_zero, List.set_cons_succ]
            refine wpAnyH_take (i := 14) (v := undef) rfl (by kernel_rfl) (by kernel_rfl) (by kernel_rfl) (fun _ _ _ h => h) (Or.inr ⟨by first | rfl | go_simp, rfl⟩) (by assumption) ?_
            simp only [List.getElem_toArray, List.getElem_cons_zero, List.getElem_cons_succ, Act.put, List.setIfInBounds_toArray, List.set_cons_zero, List.set_cons_succ]
            refine wpAnyH_take (i := 15) (v := .bool false) rfl (by kernel_rfl) (by kernel_rfl) (by kernel_rfl) (fun _ _ _ h => h) (Or.inl ⟨by first | rfl | go_simp, by intro w9 hSw; (try dsimp only at hSw); go_simp⟩) (by assumption) ?_
            simp only [List.getElem_toArray, List.getElem_cons_zero, List.getElem_cons_succ, Act.put, List.setIfInBounds_toArray, List.set_cons_zero, List.set_cons_succ]
            refine wpAnyH_done (by kernel_rfl) ?_ _
            have BV := BX
            skip

            clear BV
            go_wp2_with (first
              | (go_at_call 37; refine (HEn.out _ BX).mono ?_; rintro e w4 ⟨A4, c4, rfl, o4, b4⟩)
              | (at_builtin; refine wp_append_rowF rfl (.tmp 43) (.tmp 48) rfl w.heap.size A' A4 m c' rc.length c4 _ acc rc rfl (OX.below b4) rfl rfl (by have := HRL.out; omega) (cells_ints (Ints.own o4)) (by have := HRL.out; omega) ((thenB BX b4).size) ?_; intro A5 c5 w5 o5 b5))
            go_round
            case measure => simp [intOf]; omega
            case rel => exact ⟨j + 1, m + rc.length, acc ++ rc, A5, c5, by omega, by go_num, rfl, Lib.hid (by rw [List.length_append, hm.out]), by have := HRL.out; omega, Or.inl o5, hnx, (thenB BX b4).trans b5⟩
          · obtain ⟨p, hp1, hp2⟩ := hprev.out (by omega)
            obtain ⟨i, hi⟩ : ∃ i, j = i + 1 := ⟨j - 1, by omega⟩
            have hji : j - 1 = i := by omega
            rw [hji] at hp2
            rw [hp1] at ec hw2
            have gz : (0 : Int) < (j : Int) := by omega
            have g2 : (0 : Int) ≤ (j : Int) - 1 ∧ (j : Int) - 1 < (n : Int) := by omega
            have g3 : IntKind.i64.wrap ((j : Int) - 1) = (j : Int) - 1 := by rw [IntKind.wrap_i64]; omega
            have g4 : ((j : Int) - 1).toNat = i := by omega
            have g5 : (1 : Int) ≤ (j : Int) ∧ 1 ≤ j ∧ 0 < j ∧ (j : Int) < (n : Int) + 1 ∧ j ≤ n ∧ (j : Int) - 1 < (n : Int) := by omega
            clear hi hji hprev hzero hj0
            by_cases hlate : p0 < p
            · have el : lateB (some p) ⟨p0, p1, p2, p3, pb⟩ = true := decide_eq_true hlate
              rw [if_pos el] at ec
              rw [ec] at hw2
              have hnx := Lib.hid (hw2.2 (by decide))
              clear hw2 ec el HEn hrl
              go_wp2_with (go_at_call 36; refine (HRt.out _).mono ?_; rintro e w3 ⟨rfl, b3⟩; have BR := thenB hbel b3; have OR := Lib.hid (hown.below b3); have K0 := One_below h0 b3; have K1 := One_below h1 b3; have K2 := One_below h2 b3; have K3 := One_below h3 b3; have K4 := One_below h4 b3)
              have HOw := OR
              have P0 := One_below hp2 b3
              refine wp_region_held_drew (S := (fun w' => w'.cell? ⟨b, off + j * 5, none⟩ = some (.int .i64 p0) ∧ w'.cell? ⟨b, off + j * 5 + 1, none⟩ = some (.int .i64 p1) ∧ w'.cell? ⟨b, off + j * 5 + 2, none⟩ = some (.int .i64 p2) ∧ w'.cell? ⟨b, off + j * 5 + 3, none⟩ = some (.int .i64 p3) ∧ w'.cell? ⟨b, off + j * 5 + 4, none⟩ = some (.slice pA pb.length pc) ∧ w'.cell? ⟨b, off + i * 5, none⟩ = some (.int .i64 p))) (by kernel_rfl) ?_ (fun hHeld => ?_)
              · exact ⟨K0, K1, K2, K3, K4, P0⟩
              have BX : Below w.heap.size w w3.drew := BR.drew
              have OX := HOw.out.below ((Below.refl _ w3).drew)
              generalize w3.drew = X0 at *
              refine wpAnyH_take (i := 0) (v := .int .i64 (j : Int)) rfl (by kernel_rfl) (by kernel_rfl) (by kernel_rfl) (fun _ _ _ h => h) (Or.inl ⟨by first | rfl | go_simp, by intro w9 hSw; (try dsimp only at hSw); go_simp⟩) (by assumption) ?_
              simp only [List.getElem_toArray, List.getElem_cons_zero, List.getElem_cons_succ, Act.put, List.setIfInBounds_toArray, List.set_cons_zero, List.set_cons_succ]
              refine wpAnyH_take (i := 1) (v := .bool true) rfl (by kernel_rfl) (by kernel_rfl) (by kernel_rfl) (fun _ _ _ h => h) (Or.inl ⟨by first | rfl | go_simp, by intro w9 hSw; (try dsimp only at hSw); go_simp⟩) (by assumption) ?_
              simp only [List.getElem_toArray, List.getElem_cons_zero, List.getElem_cons_succ, Act.put, List.setIfInBounds_toArray, List.set_cons_zero, List.set_cons_succ]
              refine wpAnyH_take (i := 2) (v := .bool true) rfl (by kernel_rfl) (by kernel_rfl) (by kernel_rfl) (fun _ _ _ h => h) (Or.inl ⟨by first | rfl | go_simp, by intro w9 hSw; (try dsimp only at hSw); go_simp⟩) (by assumption) ?_
              simp only [List.getElem_toArray, List.getElem_cons_zero, List.getElem_cons_succ, Act.put, List.setIfInBounds_toArray, List.set_cons_zero, List.set_cons_succ]
              refine wpAnyH_take (i := 3) (v := .slice (some ⟨b, off, none⟩) n c) rfl (by kernel_rfl) (by kernel_rfl) (by kernel_rfl) (fun _ _ _ h => h) (Or.inl ⟨by first | rfl | go_simp, by intro w9 hSw; (try dsimp only at hSw); go_simp⟩) (by assumption) ?_
              simp only [List.getElem_toArray, List.getElem_cons_zero, List.getElem_cons_succ, Act.put, List.setIfInBounds_toArray, List.set_cons_zero, List.set_cons_succ]
              refine wpAnyH_take (i := 4) (v := .int .i64 (j : Int)) rfl (by kernel_rfl) (by kernel_rfl) (by kernel_rfl) (fun _ _ _ h => h) (Or.inl ⟨by first | rfl | go_simp, by intro w9 hSw; (try dsimp only at hSw); go_simp⟩) (by assumption) ?_
              simp only [List.getElem_toArray, List.getElem_cons_zero, List.getElem_cons_succ, Act.put, List.setIfInBounds_toArray, List.set_cons_zero, List.set_cons_succ]
              refine wpAnyH_take (i := 5) (v := .pointer (some ⟨b, off + j * 5, none⟩)) rfl (by kernel_rfl) (by kernel_rfl) (by kernel_rfl) (fun _ _ _ h => h) (Or.inl ⟨by first | rfl | go_simp, by intro w9 hSw; (try dsimp only at hSw); go_simp⟩) (by assumption) ?_
              simp only [List.getElem_toArray, List.getElem_cons_zero, List.getElem_cons_succ, Act.put, List.setIfInBounds_toArray, List.set_cons_zero, List.set_cons_succ]
              refine wpAnyH_take (i := 6) (v := .pointer (some ⟨b, off + j * 5, none⟩)) rfl (by kernel_rfl) (by kernel_rfl) (by kernel_rfl) (fun _ _ _ h => h) (Or.inl ⟨by first | rfl | go_simp, by intro w9 hSw; (try dsimp only at hSw); go_simp⟩) (by assumption) ?_
              simp only [List.getElem_toArray, List.getElem_cons_zero, List.getElem_cons_succ, Act.put, List.setIfInBounds_toArray, List.set_cons_zero, List.set_cons_succ]
              refine wpAnyH_take (i := 7) (v := .int .i64 p0) rfl (by kernel_rfl) (by kernel_rfl) (by kernel_rfl) (fun _ _ _ h => h) (Or.inl ⟨by first | rfl | go_simp, by intro w9 hSw; (try dsimp only at hSw); go_simp⟩) (by assumption) ?_
              simp only [List.getElem_toArray, List.getElem_cons_zero, List.getElem_cons_succ, Act.put, List.setIfInBounds_toArray, List.set_cons_zero, List.set_cons_succ]
              refine wpAnyH_take (i := 8) (v := .slice (some ⟨b, off, none⟩) n c) rfl (by kernel_rfl) (by kernel_rfl) (by kernel_rfl) (fun _ _ _ h => h) (Or.inl ⟨by first | rfl | go_simp, by intro w9 hSw; (try dsimp only at hSw); go_simp⟩) (by assumption) ?_
              simp only [List.getElem_toArray, List.getElem_cons_zero, List.getElem_cons_succ, Act.put, List.setIfInBounds_toArray, List.set_cons_zero, List.set_cons_succ]
              refine wpAnyH_take (i := 9) (v := .int .i64 (j : Int)) rfl (by kernel_rfl) (by kernel_rfl) (by kernel_rfl) (fun _ _ _ h => h) (Or.inl ⟨by first | rfl | go_simp, by intro w9 hSw; (try dsimp only at hSw); go_simp⟩) (by assumption) ?_
              simp only [List.getElem_toArray, List.getElem_cons_zero, List.getElem_cons_succ, Act.put, List.setIfInBounds_toArray, List.set_cons_zero, List.set_cons_succ]
              refine wpAnyH_take (i := 10) (v := .int .i64 ((j : Int) - 1)) rfl (by kernel_rfl) (by kernel_rfl) (by kernel_rfl) (fun _ _ _ h => h) (Or.inl ⟨by first | rfl | go_simp, by intro w9 hSw; (try dsimp only at hSw); go_simp⟩) (by assumption) ?_
              simp only [List.getElem_toArray, List.getElem_cons_zero, List.getElem_cons_succ, Act.put, List.setIfInBounds_toArray, List.set_cons_zero, List.set_cons_succ]
              refine wpAnyH_take (i := 11) (v := .pointer (some ⟨b, off + i * 5, none⟩)) rfl (by kernel_rfl) (by kernel_rfl) (by kernel_rfl) (fun _ _ _ h => h) (Or.inl ⟨by first | rfl | go_simp, by intro w9 hSw; (try dsimp only at hSw); go_simp⟩) (by assumption) ?_
              simp only [List.getElem_toArray, List.getElem_cons_zero, List.getElem_cons_succ, Act.put, List.setIfInBounds_toArray, List.set_cons_zero, List.set_cons_succ]
              refine wpAnyH_take (i := 12) (v := .pointer (some ⟨b, off + i * 5, none⟩)) rfl (by kernel_rfl) (by kernel_rfl) (by kernel_rfl) (fun _ _ _ h => h) (Or.inl ⟨by first | rfl | go_simp, by intro w9 hSw; (try dsimp only at hSw); go_simp⟩) (by assumption) ?_
              simp only [List.getElem_toArray, List.getElem_cons_zero, List.getElem_cons_succ, Act.put, List.setIfInBounds_toArray, List.set_cons_zero, List.set_cons_succ]
              refine wpAnyH_take (i := 13) (v := .int .i64 p) rfl (by kernel_rfl) (by kernel_rfl) (by kernel_rfl) (fun _ _ _ h => h) (Or.inl ⟨by first | rfl | go_simp, by intro w9 hSw; (try dsimp only at hSw); go_simp⟩) (by assumption) ?_
              simp only [List.getElem_toArray, List.getElem_cons_zero, List.getElem_cons_succ, Act.put, List.setIfInBounds_toArray, List.set_cons_zero, List.set_cons_succ]
              refine wpAnyH_take (i := 14) (v := .bool true) rfl (by kernel_rfl) (by kernel_rfl) (by kernel_rfl) (fun _ _ _ h => h) (Or.inl ⟨by first | rfl | go_simp, by intro w9 hSw; (try dsimp only at hSw); go_simp⟩) (by assumption) ?_
              simp only [List.getElem_toArray, List.getElem_cons_zero, List.getElem_cons_succ, Act.put, List.setIfInBounds_toArray, List.set_cons_zero, List.set_cons_succ]
              refine wpAnyH_take (i := 15) (v := .bool true) rfl (by kernel_rfl) (by kernel_rfl) (by kernel_rfl) (fun _ _ _ h => h) (Or.inl ⟨by first | rfl | go_simp, by intro w9 hSw; (try dsimp only at hSw); go_simp⟩) (by assumption) ?_
              simp only [List.getElem_toArray, List.getElem_cons_zero, List.getElem_cons_succ, Act.put, List.setIfInBounds_toArray, List.set_cons_zero, List.set_cons_succ]
              refine wpAnyH_done (by kernel_rfl) ?_ _
              have BV := BX
              skip

              clear BV
              go_wp2_with fail
              go_ret2
              rw [hnx.out]
              exact ⟨none, 0, 0, rfl, rfl, Nat.le_refl _, .inl rfl, BX⟩
            · have el : ¬ lateB (some p) ⟨p0, p1, p2, p3, pb⟩ = true := by simpa [lateB] using hlate
              rw [if_neg el] at ec
              rw [ec] at hw2
              have hnx := Lib.hid (hw2.1 rfl)
              clear hw2 ec el
              go_wp2_with (go_at_call 36; refine (HRt.out _).mono ?_; rintro e w3 ⟨rfl, b3⟩; have BR := thenB hbel b3; have OR := Lib.hid (hown.below b3); have K0 := One_below h0 b3; have K1 := One_below h1 b3; have K2 := One_below h2 b3; have K3 := One_below h3 b3; have K4 := One_below h4 b3)
              have HOw := OR
              have P0 := One_below hp2 b3
              generalize hrc : recL ⟨p0, p1, p2, p3, pb⟩ = rc at *
              have HRL := Lib.hid (And.intro hrl hl)
              clear hrl hrc OR
              refine wp_region_held_drew (S := (fun w' => w'.cell? ⟨b, off + j * 5, none⟩ = some (.int .i64 p0) ∧ w'.cell? ⟨b, off + j * 5 + 1, none⟩ = some (.int .i64 p1) ∧ w'.cell? ⟨b, off + j * 5 + 2, none⟩ = some (.int .i64 p2) ∧ w'.cell? ⟨b, off + j * 5 + 3, none⟩ = some (.int .i64 p3) ∧ w'.cell? ⟨b, off + j * 5 + 4, none⟩ = some (.slice pA pb.length pc) ∧ w'.cell? ⟨b, off + i * 5, none⟩ = some (.int .i64 p))) (by kernel_rfl) ?_ (fun hHeld => ?_)
              · exact ⟨K0, K1, K2, K3, K4, P0⟩
              have BX : Below w.heap.size w w3.drew := BR.drew
              have OX := HOw.out.below ((Below.refl _ w3).drew)
              generalize w3.drew = X0 at *
              refine wpAnyH_take (i := 0) (v := .int .i64 (j : Int)) rfl (by kernel_rfl) (by kernel_rfl) (by kernel_rfl) (fun _ _ _ h => h) (Or.inl ⟨by first | rfl | go_simp, by intro w9 hSw; (try dsimp only at hSw); go_simp⟩) (by assumption) ?_
              simp only [List.getElem_toArray, List.getElem_cons_zero, List.getElem_cons_succ, Act.put, List.setIfInBounds_toArray, List.set_cons_zero, List.set_cons_succ]
              refine wpAnyH_take (i := 1) (v := .bool true) rfl (by kernel_rfl) (by kernel_rfl) (by kernel_rfl) (fun _ _ _ h => h) (Or.inl ⟨by first | rfl | go_simp, by intro w9 hSw; (try dsimp only at hSw); go_simp⟩) (by assumption) ?_
              simp only [List.getElem_toArray, List.getElem_cons_zero, List.getElem_cons_succ, Act.put, List.setIfInBounds_toArray, List.set_cons_zero, List.set_cons_succ]
              refine wpAnyH_take (i := 2) (v := .bool true) rfl (by kernel_rfl) (by kernel_rfl) (by kernel_rfl) (fun _ _ _ h => h) (Or.inl ⟨by first | rfl | go_simp, by intro w9 hSw; (try dsimp only at hSw); go_simp⟩) (by assumption) ?_
              simp only [List.getElem_toArray, List.getElem_cons_zero, List.getElem_cons_succ, Act.put, List.setIfInBounds_toArray, List.set_cons_zero, List.set_cons_succ]
              refine wpAnyH_take (i := 3) (v := .slice (some ⟨b, off, none⟩) n c) rfl (by kernel_rfl) (by kernel_rfl) (by kernel_rfl) (fun _ _ _ h => h) (Or.inl ⟨by first | rfl | go_simp, by intro w9 hSw; (try dsimp only at hSw); go_simp⟩) (by assumption) ?_
              simp only [List.getElem_toArray, List.getElem_cons_zero, List.getElem_cons_succ, Act.put, List.setIfInBounds_toArray, List.set_cons_zero, List.set_cons_succ]
              refine wpAnyH_take (i := 4) (v := .int .i64 (j : Int)) rfl (by kernel_rfl) (by kernel_rfl) (by kernel_rfl) (fun _ _ _ h => h) (Or.inl ⟨by first | rfl | go_simp, by intro w9 hSw; (try dsimp only at hSw); go_simp⟩) (by assumption) ?_
              simp only [List.getElem_toArray, List.getElem_cons_zero, List.getElem_cons_succ, Act.put, List.setIfInBounds_toArray, List.set_cons_zero, List.set_cons_succ]
              refine wpAnyH_take (i := 5) (v := .pointer (some ⟨b, off + j * 5, none⟩)) rfl (by kernel_rfl) (by kernel_rfl) (by kernel_rfl) (fun _ _ _ h => h) (Or.inl ⟨by first | rfl | go_simp, by intro w9 hSw; (try dsimp only at hSw); go_simp⟩) (by assumption) ?_
              simp only [List.getElem_toArray, List.getElem_cons_zero, List.getElem_cons_succ, Act.put, List.setIfInBounds_toArray, List.set_cons_zero, List.set_cons_succ]
              refine wpAnyH_take (i := 6) (v := .pointer (some ⟨b, off + j * 5, none⟩)) rfl (by kernel_rfl) (by kernel_rfl) (by kernel_rfl) (fun _ _ _ h => h) (Or.inl ⟨by first | rfl | go_simp, by intro w9 hSw; (try dsimp only at hSw); go_simp⟩) (by assumption) ?_
              simp only [List.getElem_toArray, List.getElem_cons_zero, List.getElem_cons_succ, Act.put, List.setIfInBounds_toArray, List.set_cons_zero, List.set_cons_succ]
              refine wpAnyH_take (i := 7) (v := .int .i64 p0) rfl (by kernel_rfl) (by kernel_rfl) (by kernel_rfl) (fun _ _ _ h => h) (Or.inl ⟨by first | rfl | go_simp, by intro w9 hSw; (try dsimp only at hSw); go_simp⟩) (by assumption) ?_
              simp only [List.getElem_toArray, List.getElem_cons_zero, List.getElem_cons_succ, Act.put, List.setIfInBounds_toArray, List.set_cons_zero, List.set_cons_succ]
              refine wpAnyH_take (i := 8) (v := .slice (some ⟨b, off, none⟩) n c) rfl (by kernel_rfl) (by kernel_rfl) (by kernel_rfl) (fun _ _ _ h => h) (Or.inl ⟨by first | rfl | go_simp, by intro w9 hSw; (try dsimp only at hSw); go_simp⟩) (by assumption) ?_
              simp only [List.getElem_toArray, List.getElem_cons_zero, List.getElem_cons_succ, Act.put, List.setIfInBounds_toArray, List.set_cons_zero, List.set_cons_succ]
              refine wpAnyH_take (i := 9) (v := .int .i64 (j : Int)) rfl (by kernel_rfl) (by kernel_rfl) (by kernel_rfl) (fun _ _ _ h => h) (Or.inl ⟨by first | rfl | go_simp, by intro w9 hSw; (try dsimp only at hSw); go_simp⟩) (by assumption) ?_
              simp only [List.getElem_toArray, List.getElem_cons_zero, List.getElem_cons_succ, Act.put, List.setIfInBounds_toArray, List.set_cons_zero, List.set_cons_succ]
              refine wpAnyH_take (i := 10) (v := .int .i64 ((j : Int) - 1)) rfl (by kernel_rfl) (by kernel_rfl) (by kernel_rfl) (fun _ _ _ h => h) (Or.inl ⟨by first | rfl | go_simp, by intro w9 hSw; (try dsimp only at hSw); go_simp⟩) (by assumption) ?_
              simp only [List.getElem_toArray, List.getElem_cons_zero, List.getElem_cons_succ, Act.put, List.setIfInBounds_toArray, List.set_cons_zero, List.set_cons_succ]
              refine wpAnyH_take (i := 11) (v := .pointer (some ⟨b, off + i * 5, none⟩)) rfl (by kernel_rfl) (by kernel_rfl) (by kernel_rfl) (fun _ _ _ h => h) (Or.inl ⟨by first | rfl | go_simp, by intro w9 hSw; (try dsimp only at hSw); go_simp⟩) (by assumption) ?_
              simp only [List.getElem_toArray, List.getElem_cons_zero, List.getElem_cons_succ, Act.put, List.setIfInBounds_toArray, List.set_cons_zero, List.set_cons_succ]
              refine wpAnyH_take (i := 12) (v := .pointer (some ⟨b, off + i * 5, none⟩)) rfl (by kernel_rfl) (by kernel_rfl) (by kernel_rfl) (fun _ _ _ h => h) (Or.inl ⟨by first | rfl | go_simp, by intro w9 hSw; (try dsimp only at hSw); go_simp⟩) (by assumption) ?_
              simp only [List.getElem_toArray, List.getElem_cons_zero, List.getElem_cons_succ, Act.put, List.setIfInBounds_toArray, List.set_cons_zero, List.set_cons_succ]
              refine wpAnyH_take (i := 13) (v := .int .i64 p) rfl (by kernel_rfl) (by kernel_rfl) (by kernel_rfl) (fun _ _ _ h => h) (Or.inl ⟨by first | rfl | go_simp, by intro w9 hSw; (try dsimp only at hSw); go_simp⟩) (by assumption) ?_
              simp only [List.getElem_toArray, List.getElem_cons_zero, List.getElem_cons_succ, Act.put, List.setIfInBounds_toArray, List.set_cons_zero, List.set_cons_succ]
              refine wpAnyH_take (i := 14) (v := .bool false) rfl (by kernel_rfl) (by kernel_rfl) (by kernel_rfl) (fun _ _ _ h => h) (Or.inl ⟨by first | rfl | go_simp, by intro w9 hSw; (try dsimp only at hSw); go_simp⟩) (by assumption) ?_
              simp only [List.getElem_toArray, List.getElem_cons_zero, List.getElem_cons_succ, Act.put, List.setIfInBounds_toArray, List.set_cons_zero, List.set_cons_succ]
              refine wpAnyH_take (i := 15) (v := .bool false) rfl (by kernel_rfl) (by kernel_rfl) (by kernel_rfl) (fun _ _ _ h => h) (Or.inl ⟨by first | rfl | go_simp, by intro w9 hSw; (try dsimp only at hSw); go_simp⟩) (by assumption) ?_
              simp only [List.getElem_toArray, List.getElem_cons_zero, List.getElem_cons_succ, Act.put, List.setIfInBounds_toArray, List.set_cons_zero, List.set_cons_succ]
              refine wpAnyH_done (by kernel_rfl) ?_ _
              have BV := BX
              skip

              clear BV
              go_wp2_with (first
                | (go_at_call 37; refine (HEn.out _ BX).mono ?_; rintro e w4 ⟨A4, c4, rfl, o4, b4⟩)
                | (at_builtin; refine wp_append_rowF rfl (.tmp 43) (.tmp 48) rfl w.heap.size A' A4 m c' rc.length c4 _ acc rc rfl (OX.below b4) rfl rfl (by have := HRL.out; omega) (cells_ints (Ints.own o4)) (by have := HRL.out; omega) ((thenB BX b4).size) ?_; intro A5 c5 w5 o5 b5))
              go_round
              case measure => simp [intOf]; omega
              case rel => exact ⟨j + 1, m + rc.length, acc ++ rc, A5, c5, by omega, by go_num, rfl, Lib.hid (by rw [List.length_append, hm.out]), by have := HRL.out; omega, Or.inl o5, hnx, (thenB BX b4).trans b5⟩
    · have e := Lib.hid (HZ.out j acc (by omega) hno.out)
      clear HN HO HW HZ HLT
      have : ¬ ((j : Int) < (n : Int)) := by omega
      go_wp2_with fail
      go_ret2
      rw [e.out]
      exact ⟨A', c', m, rfl, hm.out, hown.ints.1, hown.ints.2, hbel⟩
end Go.Proofs.YtkbhmgdmkamcfaaDoor.Cap
