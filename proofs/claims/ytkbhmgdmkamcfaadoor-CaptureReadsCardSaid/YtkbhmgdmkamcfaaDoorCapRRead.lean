/- The document's reading of a file. -/
import Derived.Test.YtkbhmgdmkamcfaaDoorCapFstA
set_option linter.unusedVariables false
set_option linter.unusedSimpArgs false
set_option maxRecDepth 100000
namespace Go.Proofs.YtkbhmgdmkamcfaaDoor.Cap
open Go.RowKit Mem Rw Air Base Oct

theorem slice_from (b off n c i : Nat) (h : i ≤ n) (hi : i < c) (w : World) : (Instr.slice 32 (.slice (some ⟨b, off, none⟩) n c) (some (.int .i64 (i : Int))) none none).run Tryd.prog w = .ok (.slice (some ⟨b, off + i, none⟩) (n - i) (c - i)) w := by
  have hs : ∀ w' : World, (sizeOf (Tryd.prog.elem 32)).run Tryd.prog w' = .ok 1 w' := fun w' => by kernel_rfl
  rw [run_slice_l w 32 (some ⟨b, off, none⟩) n c (by kernel_rfl) .i64 (i : Int) (by omega) (by omega), hs]
  have e2 : (i : Int).toNat = i := by omega
  simp only [Result.andThen, sliced, e2]
  rw [if_neg (by omega)]
  simp [plain_add]
theorem rd_done {w W : World} {zs : List Int} {RA : Option Addr} {rn rc base : Nat} {l : List Tx} {k code : Int} (hk : Kept W base RA rn rc l) (hb : Below w.heap.size w W) (hr : readA zs = (l.map Tx.tr, k, code)) :
    RdPost w zs (.returned (.tuple #[.slice RA rn rc, .int .i64 k, .int .i64 code])) W :=
  ⟨RA, rc, l, by rw [hr, hk.1], by rw [hr], by rw [hk.1]; exact hk.txs.1, hk.txs.2, hb⟩
theorem rread_short (A : Option Addr) (n c : Nat) (zs : List Int) (w : World) (hz : zs.length = n) (hnc : n ≤ c) (hn : n ≤ 60000) (bz : Bytes zs) (hi : Ints .u8 w w.heap.size A zs) (h4 : n < 4) : Calls Tryd.prog 21 #[.slice A n c] w fun e w' => RdPost w zs e w' := by
  have HE := Lib.hid (show readA zs = ([], 0, 3) by unfold readA; rw [if_pos (by omega)])
  have g1 : (n : Int) < 4 ∧ n < 4 := by omega
  clear hz bz hi
  go_enter Tryd.func21, Tryd.ntmps21
  go_wp2_with fail
  go_ret3
  exact ⟨none, 0, [], by rw [HE.out]; rfl, by rw [HE.out]; rfl, Nat.le_refl _, ⟨.inl rfl, by simp⟩, Below.refl _ _⟩
theorem rread_bad (A : Option Addr) (n c : Nat) (zs : List Int) (w : World) (hz : zs.length = n) (hnc : n ≤ c) (hn : n ≤ 60000) (bz : Bytes zs) (hi : Ints .u8 w w.heap.size A zs) (h4 : ¬ n < 4) (hs : zs.take 4 ≠ sigL) : Calls Tryd.prog 21 #[.slice A n c] w fun e w' => RdPost w zs e w' := by
  have HE := Lib.hid (show readA zs = ([], 0, 2) by unfold readA; rw [if_neg (by omega), if_pos hs])
  have g1 : ¬ (n : Int) < 4 ∧ ¬ n < 4 := by omega
  obtain ⟨b, off, rfl⟩ : ∃ b off, A = some ⟨b, off, none⟩ := by
    rcases hi with hi | ⟨b, off, e, _, _⟩
    · subst hi; simp at hz; omega
    · exact ⟨b, off, e⟩
  have s4 : ∀ w' : World, (Instr.slice 32 (.slice (some ⟨b, off, none⟩) n c) none (some (.int .i64 4)) none).run Tryd.prog w' = .ok (.slice (some ⟨b, off, none⟩) 4 c) w' := fun w' => slice_to _ n c 4 (by omega) w' b off rfl
  have k1 := run_string_ints (P := Tryd.prog) 32 5 Tryd.underlying32 Tryd.underlying5 Tryd.underlying9 w.heap.size (some ⟨b, off, none⟩) 4 c (zs.take 4) (by rw [List.length_take]; omega) (ints_take hi 4)
  have hb : Bytes sigL := by intro z hz; simp [sigL] at hz; omega
  have k2 : (strOfNums sigL) = ⟨#[65, 73, 82, 49]⟩ := by decide
  have k3 : ((strOfNums (zs.take 4)).toList == (⟨#[65, 73, 82, 49]⟩ : ByteArray).toList) = false := by
    rw [← k2, str_eq (bytes_take bz 4) hb]; simp [hs]
  have k4 : (strOfNums (zs.take 4)).toList ≠ [65, 73, 82, 49] := fun e => by
    have e2 : (⟨#[65, 73, 82, 49]⟩ : ByteArray).toList = [65, 73, 82, 49] := by rw [ByteArray.toList_eq]
    rw [e, e2] at k3; cases k3
  have k5 : ((strOfNums (zs.take 4)).toList == [65, 73, 82, 49]) = false := beq_eq_false_iff_ne.2 k4
  generalize strOfNums (zs.take 4) = s at *
  clear hz bz hi hs
  go_enter Tryd.func21, Tryd.ntmps21
  go_wp2_with fail
  go_ret3
  exact ⟨none, 0, [], by rw [HE.out]; rfl, by rw [HE.out]; rfl, Nat.le_refl _, ⟨.inl rfl, by simp⟩, Below.refl _ _⟩
set_option maxHeartbeats 8000000 in
theorem rread_good (A : Option Addr) (n c : Nat) (zs : List Int) (w : World) (hz : zs.length = n) (hnc : n ≤ c) (hn : n ≤ 60000) (bz : Bytes zs) (hi : Ints .u8 w w.heap.size A zs) (h4 : ¬ n < 4) (hs : zs.take 4 = sigL) : Calls Tryd.prog 21 #[.slice A n c] w fun e w' => RdPost w zs e w' := by
  obtain ⟨iT, hiT, hzT, hsT, hbT, hc0⟩ := info_parts2 info_tx rfl
  have g1 : ¬ (n : Int) < 4 ∧ ¬ n < 4 := by omega
  obtain ⟨b, off, rfl⟩ : ∃ b off, A = some ⟨b, off, none⟩ := by
    rcases hi with hi | ⟨b, off, e, _, _⟩
    · subst hi; simp at hz; omega
    · exact ⟨b, off, e⟩
  have s4 : ∀ w' : World, (Instr.slice 32 (.slice (some ⟨b, off, none⟩) n c) none (some (.int .i64 4)) none).run Tryd.prog w' = .ok (.slice (some ⟨b, off, none⟩) 4 c) w' := fun w' => slice_to _ n c 4 (by omega) w' b off rfl
  have k1 := run_string_ints (P := Tryd.prog) 32 5 Tryd.underlying32 Tryd.underlying5 Tryd.underlying9 w.heap.size (some ⟨b, off, none⟩) 4 c (zs.take 4) (by rw [List.length_take]; omega) (ints_take hi 4)
  rw [hs, show strOfNums sigL = ⟨#[65, 73, 82, 49]⟩ by decide] at k1
  have HM := Lib.hid (MidF.start (zs := zs) (by omega) hs)
  have HI : Hid (∀ w' K, Below w.heap.size w w' → Ints .u8 w' w'.heap.size (some ⟨b, off + K, none⟩) (zs.drop K)) := Lib.hid fun w' K bb => ints_drop (later hi bb) K
  have HZ := Lib.hid hz
  have HBz := Lib.hid bz
  clear hi hs hz bz
  go_enter Tryd.func21, Tryd.ntmps21
  go_wp2_with fail
  clear k1
  go_loopw [5, 6] (fun s5 s6 wr => ∃ (K rn rc : Nat) (OA : Option Addr) (l : List Tx) (f : Nat), 4 ≤ K ∧ K ≤ n ∧ s6 = .int .i64 (K : Int) ∧ s5 = .slice OA rn rc ∧ Kept wr w.heap.size OA rn rc l ∧ MidF zs (l.map Tx.tr) (K : Int) f ((l.getLast?).map Tx.id) (zs.drop K) ∧ 16 * rn ≤ K ∧ Below w.heap.size w wr) (fun _ s6 _ => n - (intOf s6).toNat)
  case atStart => exact ⟨4, 0, 0, _, [], _, by omega, by omega, rfl, rfl, ⟨rfl, World.ownsRow_made _ _ 0 (Nat.le_refl _) (by unfold maxLen; omega) rfl, by simp⟩, HM.out, by omega, (Below.refl _ _).alloc (Nat.le_refl _) _⟩
  case round =>
    obtain ⟨K, rn, rc, OA, l, f, hK4, hKn, rfl, rfl, hkp, hmid, hrn, hbel⟩ := hrel
    by_cases c1 : K < n
    · have c1' : (K : Int) < (n : Int) := by omega
      have sK := slice_from b off n c K (by omega) (by omega)
      have hlen : (zs.drop K).length = n - K := by rw [List.length_drop, HZ.out]
      have hy0 : (zs.drop K).length ≠ 0 := by omega
      have HF := Lib.hid (first_any (some ⟨b, off + K, none⟩) (n - K) (c - K) (zs.drop K) wr hlen (by omega) (by omega) (bytes_drop HBz.out K) (HI.out wr K hbel))
      have HKp := Lib.hid hkp
      have HMd := Lib.hid hmid
      clear hkp hmid hlen
      go_wp2_with fail
      refine HF.out.mono ?_
      rintro e w2 (⟨hne, rfl, b2⟩ | ⟨h0, bA, bc, rfl, hO, hbl, h260, b2⟩)
      · have hEb := HMd.out.bad hy0 (by rw [recE_same hne]; exact hne)
        rw [recE_same hne] at hEb
        have HEb := Lib.hid hEb
        have hnb : (recE none (zs.drop K) != 0) = true := by rw [bne_iff_ne]; exact hne
        generalize recE none (zs.drop K) = code at *
        clear hEb hne
        go_wp2_with fail
        go_ret3
        exact rd_done ((HKp.out.below b2).below ((Below.refl _ w2).alloc (Nat.le_refl _) _)) (thenB (thenB hbel b2) ((Below.refl _ w2).alloc (Nat.le_refl _) _)) HEb.out
      · have hEl := recE_late (pv := (l.getLast?).map Tx.id) h0
        have HGd : Hid (lateB ((l.getLast?).map Tx.id) (decR (bodZ (zs.drop K)).1) = false → ∃ f', MidF zs (l.map Tx.tr ++ [decR (bodZ (zs.drop K)).1]) ((K : Int) + (16 + (recN (zs.drop K) : Int))) f' (some (decR (bodZ (zs.drop K)).1).id) ((zs.drop K).drop (16 + recN (zs.drop K)))) := Lib.hid fun hl => HMd.out.next hy0 (by rw [hEl, hl]; rfl)
        have HLt : Hid (lateB ((l.getLast?).map Tx.id) (decR (bodZ (zs.drop K)).1) = true → readA zs = (l.map Tx.tr, (K : Int), 13)) := Lib.hid fun hl => by
          have e13 : recE ((l.getLast?).map Tx.id) (zs.drop K) = 13 := by rw [hEl, hl]; rfl
          have := HMd.out.bad hy0 (by rw [e13]; decide)
          rwa [e13] at this
        have hN : 16 + recN (zs.drop K) ≤ n - K := by
          have := (recE_zero h0).2.2.1
          rw [List.length_drop, HZ.out] at this; exact this
        have HDr : Hid ((zs.drop K).drop (16 + recN (zs.drop K)) = zs.drop (K + (recN (zs.drop K) + 16))) := Lib.hid (by rw [List.drop_drop]; congr 1; omega)
        have hlc := last_cell HKp.out
        clear hEl h0 HF hy0 HMd
        generalize recN (zs.drop K) = m at *
        generalize (zs.drop K).drop (16 + m) = ys at *
        generalize decR (bodZ (zs.drop K)).1 = r at *
        obtain ⟨p0, p1, p2, p3, bs⟩ := r
        simp only at hO hbl HGd HLt ⊢
        obtain ⟨N, hNm⟩ : ∃ N, m + 16 = N := ⟨_, rfl⟩
        rw [hNm]
        obtain ⟨KN, hKN⟩ : ∃ KN, K + N = KN := ⟨_, rfl⟩
        have wKN : IntKind.i64.wrap ((K : Int) + (N : Int)) = (KN : Int) := by rw [IntKind.wrap_i64]; omega
        have B3 : Below w.heap.size w (w2.alloc (.cells #[.int .i64 p0, .int .i64 p1, .int .i64 p2, .int .i64 p3, .slice bA m bc] 52)) := thenB (thenB hbel b2) ((Below.refl _ w2).alloc (Nat.le_refl _) _)
        have KP3 : Kept (w2.alloc (.cells #[.int .i64 p0, .int .i64 p1, .int .i64 p2, .int .i64 p3, .slice bA m bc] 52)) w.heap.size OA rn rc l := (HKp.out.below b2).below ((Below.refl _ w2).alloc (Nat.le_refl _) _)
        have NW : (w2.alloc (.cells #[.int .i64 p0, .int .i64 p1, .int .i64 p2, .int .i64 p3, .slice bA m bc] 52)).ownsRow w.heap.size 5 1 (.slice bA m bc) m (bs.map (Value.int .u8)) := (own_base hO (by have := hbel.size; omega)).alloc (.cells #[.int .i64 p0, .int .i64 p1, .int .i64 p2, .int .i64 p3, .slice bA m bc] 52)
        have TB := Blk.fresh w2 52 #[.int .i64 p0, .int .i64 p1, .int .i64 p2, .int .i64 p3, .slice bA m bc]
        obtain ⟨q0, q1, q2, q3, q4, _⟩ := blk_five TB
        have HTB := Lib.hid TB
        have HCL := Lib.hid (CellsAt.lit w2 [.int .i64 p0, .int .i64 p1, .int .i64 p2, .int .i64 p3, .slice bA m bc] #[.int .i64 p0, .int .i64 p1, .int .i64 p2, .int .i64 p3, .slice bA m bc] 52 rfl)
        have hne0 : ((0 : Int) != 0) = false := rfl
        have b2k := Lib.hid b2
        clear hO TB b2
        have HDrr : Hid (ys = zs.drop KN) := Lib.hid (by rw [← hKN, ← hNm]; exact HDr.out)
        cases hpv : (l.getLast?).map Tx.id with
        | none =>
          rw [hpv] at hlc HGd HLt
          have hr0 : rn = 0 := hlc
          subst hr0
          clear hlc
          go_wp2_with fail
          refine wp_region_held_drew (S := (fun _ => True)) (by kernel_rfl) ?_ (fun hHeld => ?_)
          · trivial
          have BX : Below (w2.alloc (.cells #[.int .i64 p0, .int .i64 p1, .int .i64 p2, .int .i64 p3, .slice bA m bc] 52)).heap.size (w2.alloc (.cells #[.int .i64 p0, .int .i64 p1, .int .i64 p2, .int .i64 p3, .slice bA m bc] 52)) (w2.alloc (.cells #[.int .i64 p0, .int .i64 p1, .int .i64 p2, .int .i64 p3, .slice bA m bc] 52)).drew := (Below.refl _ _).drew
          generalize (w2.alloc (.cells #[.int .i64 p0, .int .i64 p1, .int .i64 p2, .int .i64 p3, .slice bA m bc] 52)).drew = X0 at *
          refine wpAnyH_take (i := 0) (v := .slice OA 0 rc) rfl (by kernel_rfl) (by kernel_rfl) (by kernel_rfl) (fun _ _ _ h => h) (Or.inl ⟨by first | rfl | go_simp, by intro w9 hSw; (try dsimp only at hSw); go_simp⟩) (by assumption) ?_
          simp only [List.getElem_toArray, List.getElem_cons_zero, List.getElem_cons_succ, Act.put, List.setIfInBounds_toArray, List.set_cons_zero, List.set_cons_succ]
          refine wpAnyH_take (i := 1) (v := .int .i64 0) rfl (by kernel_rfl) (by kernel_rfl) (by kernel_rfl) (fun _ _ _ h => h) (Or.inl ⟨by first | rfl | go_simp, by intro w9 hSw; (try dsimp only at hSw); go_simp⟩) (by assumption) ?_
          simp only [List.getElem_toArray, List.getElem_cons_zero, List.getElem_cons_succ, Act.put, List.setIfInBounds_toArray, List.set_cons_zero, List.set_cons_succ]
          refine wpAnyH_take (i := 2) (v := .bool false) rfl (by kernel_rfl) (by kernel_rfl) (by kernel_rfl) (fun _ _ _ h => h) (Or.inl ⟨by first | rfl | go_simp, by intro w9 hSw; (try dsimp only at hSw); go_simp⟩) (by assumption) ?_
          simp only [List.getElem_toArray, List.getElem_cons_zero, List.getElem_cons_succ, Act.put, List.setIfInBounds_toArray, List.set_cons_zero, List.set_cons_succ]
          refine wpAnyH_take (i := 3) (v := .bool false) rfl (by kernel_rfl) (by kernel_rfl) (by kernel_rfl) (fun _ _ _ h => h) (Or.inl ⟨by first | rfl | go_simp, by intro w9 hSw; (try dsimp only at hSw); go_simp⟩) (by assumption) ?_
          simp only [List.getElem_toArray, List.getElem_cons_zero, List.getElem_cons_succ, Act.put, List.setIfInBounds_toArray, List.set_cons_zero, List.set_cons_succ]
          refine wpAnyH_take (i := 4) (v := undef) rfl (by kernel_rfl) (by kernel_rfl) (by kernel_rfl) (fun _ _ _ h => h) (Or.inr ⟨by first | rfl | go_simp, rfl⟩) (by assumption) ?_
          simp only [List.getElem_toArray, List.getElem_cons_zero, List.getElem_cons_succ, Act.put, List.setIfInBounds_toArray, List.set_cons_zero, List.set_cons_succ]
          refine wpAnyH_take (i := 5) (v := undef) rfl (by kernel_rfl) (by kernel_rfl) (by kernel_rfl) (fun _ _ _ h => h) (Or.inr ⟨by first | rfl | go_simp, rfl⟩) (by assumption) ?_
          simp only [List.getElem_toArray, List.getElem_cons_zero, List.getElem_cons_succ, Act.put, List.setIfInBounds_toArray, List.set_cons_zero, List.set_cons_succ]
          refine wpAnyH_take (i := 6) (v := undef) rfl (by kernel_rfl) (by kernel_rfl) (by kernel_rfl) (fun _ _ _ h => h) (Or.inr ⟨by first | rfl | go_simp, rfl⟩) (by assumption) ?_
          simp only [List.getElem_toArray, List.getElem_cons_zero, List.getElem_cons_succ, Act.put, List.setIfInBounds_toArray, List.set_cons_zero, List.set_cons_succ]
          refine wpAnyH_take (i := 7) (v := undef) rfl (by kernel_rfl) (by kernel_rfl) (by kernel_rfl) (fun _ _ _ h => h) (Or.inr ⟨by first | rfl | go_simp, rfl⟩) (by assumption) ?_
          simp only [List.getElem_toArray, List.getElem_cons_zero, List.getElem_cons_succ, Act.put, List.setIfInBounds_toArray, List.set_cons_zero, List.set_cons_succ]
          refine wpAnyH_take (i := 8) (v := undef) rfl (by kernel_rfl) (by kernel_rfl) (by kernel_rfl) (fun _ _ _ h => h) (Or.inr ⟨by first | rfl | go_simp, rfl⟩) (by assumption) ?_
          simp only [List.getElem_toArray, List.getElem_cons_zero, List.getElem_cons_succ, Act.put, List.setIfInBounds_toArray, List.set_cons_zero, List.set_cons_succ]
          refine wpAnyH_take (i := 9) (v := undef) rfl (by kernel_rfl) (by kernel_rfl) (by kernel_rfl) (fun _ _ _ h => h) (Or.inr ⟨by first | rfl | go_simp, rfl⟩) (by assumption) ?_
          simp only [List.getElem_toArray, List.getElem_cons_zero, List.getElem_cons_succ, Act.put, List.setIfInBounds_toArray, List.set_cons_zero, List.set_cons_succ]
          refine wpAnyH_take (i := 10) (v := undef) rfl (by kernel_rfl) (by kernel_rfl) (by kernel_rfl) (fun _ _ _ h => h) (Or.inr ⟨by first | rfl | go_simp, rfl⟩) (by assumption) ?_
          simp only [List.getElem_toArray, List.getElem_cons_zero, List.getElem_cons_succ, Act.put, List.setIfInBounds_toArray, List.set_cons_zero, List.set_cons_succ]
          refine wpAnyH_take (i := 11) (v := undef) rfl (by kernel_rfl) (by kernel_rfl) (by kernel_rfl) (fun _ _ _ h => h) (Or.inr ⟨by first | rfl | go_simp, rfl⟩) (by assumption) ?_
          simp only [List.getElem_toArray, List.getElem_cons_zero, List.getElem_cons_succ, Act.put, List.setIfInBounds_toArray, List.set_cons_zero, List.set_cons_succ]
          refine wpAnyH_take (i := 12) (v := undef) rfl (by kernel_rfl) (by kernel_rfl) (by kernel_rfl) (fun _ _ _ h => h) (Or.inr ⟨by first | rfl | go_simp, rfl⟩) (by assumption) ?_
          simp only [List.getElem_toArray, List.getElem_cons_zero, List.getElem_cons_succ, Act.put, List.setIfInBounds_toArray, List.set_cons_zero, List.set_cons_succ]
          refine wpAnyH_take (i := 13) (v := undef) rfl (by kernel_rfl) (by kernel_rfl) (by kernel_rfl) (fun _ _ _ h => h) (Or.inr ⟨by first | rfl | go_simp, rfl⟩) (by assumption) ?_
          simp only [List.getElem_toArray, List.getElem_cons_zero, List.getElem_cons_succ, Act.put, List.setIfInBounds_toArray, List.set_cons_zero, List.set_cons_succ]
          refine wpAnyH_take (i := 14) (v := .bool false) rfl (by kernel_rfl) (by kernel_rfl) (by kernel_rfl) (fun _ _ _ h => h) (Or.inl ⟨by first | rfl | go_simp, by intro w9 hSw; (try dsimp only at hSw); go_simp⟩) (by assumption) ?_
          simp only [List.getElem_toArray, List.getElem_cons_zero, List.getElem_cons_succ, Act.put, List.setIfInBounds_toArray, List.set_cons_zero, List.set_cons_succ]
          refine wpAnyH_done (by kernel_rfl) ?_ _
          have B4 := thenB (thenB B3 BX) ((Below.refl _ X0).alloc (Nat.le_refl _) (.cells #[.int .i64 p0, .int .i64 p1, .int .i64 p2, .int .i64 p3, .slice bA m bc] 52))
          have KP4 : Kept (X0.alloc (.cells #[.int .i64 p0, .int .i64 p1, .int .i64 p2, .int .i64 p3, .slice bA m bc] 52)) w.heap.size OA 0 rc l := (KP3.below BX).below ((Below.refl _ X0).alloc (Nat.le_refl _) (.cells #[.int .i64 p0, .int .i64 p1, .int .i64 p2, .int .i64 p3, .slice bA m bc] 52))
          have NW4 := (own_below NW BX).alloc (.cells #[.int .i64 p0, .int .i64 p1, .int .i64 p2, .int .i64 p3, .slice bA m bc] 52)
          have CL4 := CellsAt.lit X0 [.int .i64 p0, .int .i64 p1, .int .i64 p2, .int .i64 p3, .slice bA m bc] #[.int .i64 p0, .int .i64 p1, .int .i64 p2, .int .i64 p3, .slice bA m bc] 52 rfl
          have TBX := HTB.out.below BX HTB.out.lt
          obtain ⟨q0, q1, q2, q3, q4, _⟩ := blk_five TBX
          obtain ⟨kl, ko, km⟩ := KP4
          clear TBX
          go_wp2_with (at_builtin; refine wpList_append_rows rfl (.tmp 52) (.tmp 54) 35 rfl w.heap.size 52 iT _ 5 56 Tryd.underlying35 hiT hzT hsT hbT hc0 (by decide) (.slice OA 0 rc) 0 (l.flatMap encT) rfl ko _ (some ⟨X0.heap.size, 0, none⟩) 1 1 [.int .i64 p0, .int .i64 p1, .int .i64 p2, .int .i64 p3, .slice bA m bc] rfl rfl (by intro u hu; simp at hu; rcases hu with rfl | rfl | rfl | rfl | rfl <;> rfl) CL4 (by unfold maxLen; omega) (by omega) B4.size ?_; intro v5 w5 O5 b5 g5; obtain ⟨A5, c5, rfl⟩ := own_form O5; have K5 := Lib.hid (kept_app kl ko km NW4 O5 g5 ⟨hbl, h260⟩); have B5 := B4.trans b5; clear O5 g5 b5 kl ko km NW4 CL4)
          obtain ⟨f', hm'⟩ := HGd.out rfl
          go_roundw
          case rel => exact ⟨KN, 0 + 1, c5, A5, l ++ [⟨p0, p1, p2, p3, bA, bc, bs⟩], f', by omega, by omega, rfl, rfl, K5.out, by rw [List.map_append, List.map_singleton, List.getLast?_append, ← HDrr.out, show (KN : Int) = (K : Int) + (16 + (m : Int)) by omega]; exact hm', by omega, B5⟩
          case measure => simp [intOf]; omega
        | some p =>
          rw [hpv] at hlc HGd HLt
          obtain ⟨hpos, lb, lo, rfl, hlb, hcl0⟩ := hlc
          obtain ⟨r1, hr1⟩ : ∃ r1, rn - 1 = r1 := ⟨_, rfl⟩
          rw [hr1] at hcl0
          have hcl : (w2.alloc (.cells #[.int .i64 p0, .int .i64 p1, .int .i64 p2, .int .i64 p3, .slice bA m bc] 52)).cell? ⟨lb, lo + r1 * 5, none⟩ = some (.int .i64 p) := (((b2k.out).trans ((Below.refl _ w2).alloc b2k.out.size _)).cell (p := ⟨lb, lo + r1 * 5, none⟩) hlb).trans hcl0
          have g0 : (0 : Int) < (rn : Int) ∧ 0 < rn ∧ (0 : Int) ≤ (r1 : Int) ∧ (r1 : Int) < (rn : Int) ∧ ¬ (rn : Int) ≤ (r1 : Int) := by omega
          have wr1 : IntKind.i64.wrap ((rn : Int) - 1) = (r1 : Int) := by rw [IntKind.wrap_i64]; omega
          clear hcl0
          by_cases hlate : p0 < p
          · have hdl : decide (p0 < p) = true := by simpa using hlate
            go_wp2_with fail
            refine wp_region_held_drew (S := (fun w' => w'.cell? ⟨w2.heap.size, 0, none⟩ = some (.int .i64 p0) ∧ w'.cell? ⟨lb, lo + r1 * 5, none⟩ = some (.int .i64 p))) (by kernel_rfl) ?_ (fun hHeld => ?_)
            · exact ⟨q0, hcl⟩
            have BX : Below (w2.alloc (.cells #[.int .i64 p0, .int .i64 p1, .int .i64 p2, .int .i64 p3, .slice bA m bc] 52)).heap.size (w2.alloc (.cells #[.int .i64 p0, .int .i64 p1, .int .i64 p2, .int .i64 p3, .slice bA m bc] 52)) (w2.alloc (.cells #[.int .i64 p0, .int .i64 p1, .int .i64 p2, .int .i64 p3, .slice bA m bc] 52)).drew := (Below.refl _ _).drew
            generalize (w2.alloc (.cells #[.int .i64 p0, .int .i64 p1, .int .i64 p2, .int .i64 p3, .slice bA m bc] 52)).drew = X0 at *
            refine wpAnyH_take (i := 0) (v := .slice (some ⟨lb, lo, none⟩) rn rc) rfl (by kernel_rfl) (by kernel_rfl) (by kernel_rfl) (fun _ _ _ h => h) (Or.inl ⟨by first | rfl | go_simp, by intro w9 hSw; (try dsimp only at hSw); go_simp⟩) (by assumption) ?_
            simp only [List.getElem_toArray, List.getElem_cons_zero, List.getElem_cons_succ, Act.put, List.setIfInBounds_toArray, List.set_cons_zero, List.set_cons_succ]
            refine wpAnyH_take (i := 1) (v := .int .i64 (rn : Int)) rfl (by kernel_rfl) (by kernel_rfl) (by kernel_rfl) (fun _ _ _ h => h) (Or.inl ⟨by first | rfl | go_simp, by intro w9 hSw; (try dsimp only at hSw); go_simp⟩) (by assumption) ?_
            simp only [List.getElem_toArray, List.getElem_cons_zero, List.getElem_cons_succ, Act.put, List.setIfInBounds_toArray, List.set_cons_zero, List.set_cons_succ]
            refine wpAnyH_take (i := 2) (v := .bool true) rfl (by kernel_rfl) (by kernel_rfl) (by kernel_rfl) (fun _ _ _ h => h) (Or.inl ⟨by first | rfl | go_simp, by intro w9 hSw; (try dsimp only at hSw); go_simp⟩) (by assumption) ?_
            simp only [List.getElem_toArray, List.getElem_cons_zero, List.getElem_cons_succ, Act.put, List.setIfInBounds_toArray, List.set_cons_zero, List.set_cons_succ]
            refine wpAnyH_take (i := 3) (v := .bool true) rfl (by kernel_rfl) (by kernel_rfl) (by kernel_rfl) (fun _ _ _ h => h) (Or.inl ⟨by first | rfl | go_simp, by intro w9 hSw; (try dsimp only at hSw); go_simp⟩) (by assumption) ?_
            simp only [List.getElem_toArray, List.getElem_cons_zero, List.getElem_cons_succ, Act.put, List.setIfInBounds_toArray, List.set_cons_zero, List.set_cons_succ]
            refine wpAnyH_take (i := 4) (v := .pointer (some ⟨w2.heap.size, 0, none⟩)) rfl (by kernel_rfl) (by kernel_rfl) (by kernel_rfl) (fun _ _ _ h => h) (Or.inl ⟨by first | rfl | go_simp, by intro w9 hSw; (try dsimp only at hSw); go_simp⟩) (by assumption) ?_
            simp only [List.getElem_toArray, List.getElem_cons_zero, List.getElem_cons_succ, Act.put, List.setIfInBounds_toArray, List.set_cons_zero, List.set_cons_succ]
            refine wpAnyH_take (i := 5) (v := .int .i64 p0) rfl (by kernel_rfl) (by kernel_rfl) (by kernel_rfl) (fun _ _ _ h => h) (Or.inl ⟨by first | rfl | go_simp, by intro w9 hSw; (try dsimp only at hSw); go_simp⟩) (by assumption) ?_
            simp only [List.getElem_toArray, List.getElem_cons_zero, List.getElem_cons_succ, Act.put, List.setIfInBounds_toArray, List.set_cons_zero, List.set_cons_succ]
            refine wpAnyH_take (i := 6) (v := .slice (some ⟨lb, lo, none⟩) rn rc) rfl (by kernel_rfl) (by kernel_rfl) (by kernel_rfl) (fun _ _ _ h => h) (Or.inl ⟨by first | rfl | go_simp, by intro w9 hSw; (try dsimp only at hSw); go_simp⟩) (by assumption) ?_
            simp only [List.getElem_toArray, List.getElem_cons_zero, List.getElem_cons_succ, Act.put, List.setIfInBounds_toArray, List.set_cons_zero, List.set_cons_succ]
            refine wpAnyH_take (i := 7) (v := .slice (some ⟨lb, lo, none⟩) rn rc) rfl (by kernel_rfl) (by kernel_rfl) (by kernel_rfl) (fun _ _ _ h => h) (Or.inl ⟨by first | rfl | go_simp, by intro w9 hSw; (try dsimp only at hSw); go_simp⟩) (by assumption) ?_
            simp only [List.getElem_toArray, List.getElem_cons_zero, List.getElem_cons_succ, Act.put, List.setIfInBounds_toArray, List.set_cons_zero, List.set_cons_succ]
            refine wpAnyH_take (i := 8) (v := .int .i64 (rn : Int)) rfl (by kernel_rfl) (by kernel_rfl) (by kernel_rfl) (fun _ _ _ h => h) (Or.inl ⟨by first | rfl | go_simp, by intro w9 hSw; (try dsimp only at hSw); go_simp⟩) (by assumption) ?_
            simp only [List.getElem_toArray, List.getElem_cons_zero, List.getElem_cons_succ, Act.put, List.setIfInBounds_toArray, List.set_cons_zero, List.set_cons_succ]
            refine wpAnyH_take (i := 9) (v := .int .i64 (r1 : Int)) rfl (by kernel_rfl) (by kernel_rfl) (by kernel_rfl) (fun _ _ _ h => h) (Or.inl ⟨by first | rfl | go_simp, by intro w9 hSw; (try dsimp only at hSw); go_simp⟩) (by assumption) ?_
            simp only [List.getElem_toArray, List.getElem_cons_zero, List.getElem_cons_succ, Act.put, List.setIfInBounds_toArray, List.set_cons_zero, List.set_cons_succ]
            refine wpAnyH_take (i := 10) (v := .pointer (some ⟨lb, lo + r1 * 5, none⟩)) rfl (by kernel_rfl) (by kernel_rfl) (by kernel_rfl) (fun _ _ _ h => h) (Or.inl ⟨by first | rfl | go_simp, by intro w9 hSw; (try dsimp only at hSw); go_simp⟩) (by assumption) ?_
            simp only [List.getElem_toArray, List.getElem_cons_zero, List.getElem_cons_succ, Act.put, List.setIfInBounds_toArray, List.set_cons_zero, List.set_cons_succ]
            refine wpAnyH_take (i := 11) (v := .pointer (some ⟨lb, lo + r1 * 5, none⟩)) rfl (by kernel_rfl) (by kernel_rfl) (by kernel_rfl) (fun _ _ _ h => h) (Or.inl ⟨by first | rfl | go_simp, by intro w9 hSw; (try dsimp only at hSw); go_simp⟩) (by assumption) ?_
            simp only [List.getElem_toArray, List.getElem_cons_zero, List.getElem_cons_succ, Act.put, List.setIfInBounds_toArray, List.set_cons_zero, List.set_cons_succ]
            refine wpAnyH_take (i := 12) (v := .int .i64 p) rfl (by kernel_rfl) (by kernel_rfl) (by kernel_rfl) (fun _ _ _ h => h) (Or.inl ⟨by first | rfl | go_simp, by intro w9 hSw; (try dsimp only at hSw); go_simp⟩) (by assumption) ?_
            simp only [List.getElem_toArray, List.getElem_cons_zero, List.getElem_cons_succ, Act.put, List.setIfInBounds_toArray, List.set_cons_zero, List.set_cons_succ]
            refine wpAnyH_take (i := 13) (v := .bool true) rfl (by kernel_rfl) (by kernel_rfl) (by kernel_rfl) (fun _ _ _ h => h) (Or.inl ⟨by first | rfl | go_simp, by intro w9 hSw; (try dsimp only at hSw); go_simp⟩) (by assumption) ?_
            simp only [List.getElem_toArray, List.getElem_cons_zero, List.getElem_cons_succ, Act.put, List.setIfInBounds_toArray, List.set_cons_zero, List.set_cons_succ]
            refine wpAnyH_take (i := 14) (v := .bool true) rfl (by kernel_rfl) (by kernel_rfl) (by kernel_rfl) (fun _ _ _ h => h) (Or.inl ⟨by first | rfl | go_simp, by intro w9 hSw; (try dsimp only at hSw); go_simp⟩) (by assumption) ?_
            simp only [List.getElem_toArray, List.getElem_cons_zero, List.getElem_cons_succ, Act.put, List.setIfInBounds_toArray, List.set_cons_zero, List.set_cons_succ]
            refine wpAnyH_done (by kernel_rfl) ?_ _
            go_wp2_with fail
            go_ret3
            exact rd_done (KP3.below BX) (thenB B3 BX) (HLt.out (by simpa [lateB] using hlate))
          · have hdl : decide (p0 < p) = false := by simpa using hlate
            go_wp2_with fail
            refine wp_region_held_drew (S := (fun w' => w'.cell? ⟨w2.heap.size, 0, none⟩ = some (.int .i64 p0) ∧ w'.cell? ⟨lb, lo + r1 * 5, none⟩ = some (.int .i64 p))) (by kernel_rfl) ?_ (fun hHeld => ?_)
            · exact ⟨q0, hcl⟩
            have BX : Below (w2.alloc (.cells #[.int .i64 p0, .int .i64 p1, .int .i64 p2, .int .i64 p3, .slice bA m bc] 52)).heap.size (w2.alloc (.cells #[.int .i64 p0, .int .i64 p1, .int .i64 p2, .int .i64 p3, .slice bA m bc] 52)) (w2.alloc (.cells #[.int .i64 p0, .int .i64 p1, .int .i64 p2, .int .i64 p3, .slice bA m bc] 52)).drew := (Below.refl _ _).drew
            generalize (w2.alloc (.cells #[.int .i64 p0, .int .i64 p1, .int .i64 p2, .int .i64 p3, .slice bA m bc] 52)).drew = X0 at *
            refine wpAnyH_take (i := 0) (v := .slice (some ⟨lb, lo, none⟩) rn rc) rfl (by kernel_rfl) (by kernel_rfl) (by kernel_rfl) (fun _ _ _ h => h) (Or.inl ⟨by first | rfl | go_simp, by intro w9 hSw; (try dsimp only at hSw); go_simp⟩) (by assumption) ?_
            simp only [List.getElem_toArray, List.getElem_cons_zero, List.getElem_cons_succ, Act.put, List.setIfInBounds_toArray, List.set_cons_zero, List.set_cons_succ]
            refine wpAnyH_take (i := 1) (v := .int .i64 (rn : Int)) rfl (by kernel_rfl) (by kernel_rfl) (by kernel_rfl) (fun _ _ _ h => h) (Or.inl ⟨by first | rfl | go_simp, by intro w9 hSw; (try dsimp only at hSw); go_simp⟩) (by assumption) ?_
            simp only [List.getElem_toArray, List.getElem_cons_zero, List.getElem_cons_succ, Act.put, List.setIfInBounds_toArray, List.set_cons_zero, List.set_cons_succ]
            refine wpAnyH_take (i := 2) (v := .bool true) rfl (by kernel_rfl) (by kernel_rfl) (by kernel_rfl) (fun _ _ _ h => h) (Or.inl ⟨by first | rfl | go_simp, by intro w9 hSw; (try dsimp only at hSw); go_simp⟩) (by assumption) ?_
            simp only [List.getElem_toArray, List.getElem_cons_zero, List.getElem_cons_succ, Act.put, List.setIfInBounds_toArray, List.set_cons_zero, List.set_cons_succ]
            refine wpAnyH_take (i := 3) (v := .bool true) rfl (by kernel_rfl) (by kernel_rfl) (by kernel_rfl) (fun _ _ _ h => h) (Or.inl ⟨by first | rfl | go_simp, by intro w9 hSw; (try dsimp only at hSw); go_simp⟩) (by assumption) ?_
            simp only [List.getElem_toArray, List.getElem_cons_zero, List.getElem_cons_succ, Act.put, List.setIfInBounds_toArray, List.set_cons_zero, List.set_cons_succ]
            refine wpAnyH_take (i := 4) (v := .pointer (some ⟨w2.heap.size, 0, none⟩)) rfl (by kernel_rfl) (by kernel_rfl) (by kernel_rfl) (fun _ _ _ h => h) (Or.inl ⟨by first | rfl | go_simp, by intro w9 hSw; (try dsimp only at hSw); go_simp⟩) (by assumption) ?_
            simp only [List.getElem_toArray, List.getElem_cons_zero, List.getElem_cons_succ, Act.put, List.setIfInBounds_toArray, List.set_cons_zero, List.set_cons_succ]
            refine wpAnyH_take (i := 5) (v := .int .i64 p0) rfl (by kernel_rfl) (by kernel_rfl) (by kernel_rfl) (fun _ _ _ h => h) (Or.inl ⟨by first | rfl | go_simp, by intro w9 hSw; (try dsimp only at hSw); go_simp⟩) (by assumption) ?_
            simp only [List.getElem_toArray, List.getElem_cons_zero, List.getElem_cons_succ, Act.put, List.setIfInBounds_toArray, List.set_cons_zero, List.set_cons_succ]
            refine wpAnyH_take (i := 6) (v := .slice (some ⟨lb, lo, none⟩) rn rc) rfl (by kernel_rfl) (by kernel_rfl) (by kernel_rfl) (fun _ _ _ h => h) (Or.inl ⟨by first | rfl | go_simp, by intro w9 hSw; (try dsimp only at hSw); go_simp⟩) (by assumption) ?_
            simp only [List.getElem_toArray, List.getElem_cons_zero, List.getElem_cons_succ, Act.put, List.setIfInBounds_toArray, List.set_cons_zero, List.set_cons_succ]
            refine wpAnyH_take (i := 7) (v := .slice (some ⟨lb, lo, none⟩) rn rc) rfl (by kernel_rfl) (by kernel_rfl) (by kernel_rfl) (fun _ _ _ h => h) (Or.inl ⟨by first | rfl | go_simp, by intro w9 hSw; (try dsimp only at hSw); go_simp⟩) (by assumption) ?_
            simp only [List.getElem_toArray, List.getElem_cons_zero, List.getElem_cons_succ, Act.put, List.setIfInBounds_toArray, List.set_cons_zero, List.set_cons_succ]
            refine wpAnyH_take (i := 8) (v := .int .i64 (rn : Int)) rfl (by kernel_rfl) (by kernel_rfl) (by kernel_rfl) (fun _ _ _ h => h) (Or.inl ⟨by first | rfl | go_simp, by intro w9 hSw; (try dsimp only at hSw); go_simp⟩) (by assumption) ?_
            simp only [List.getElem_toArray, List.getElem_cons_zero, List.getElem_cons_succ, Act.put, List.setIfInBounds_toArray, List.set_cons_zero, List.set_cons_succ]
            refine wpAnyH_take (i := 9) (v := .int .i64 (r1 : Int)) rfl (by kernel_rfl) (by kernel_rfl) (by kernel_rfl) (fun _ _ _ h => h) (Or.inl ⟨by first | rfl | go_simp, by intro w9 hSw; (try dsimp only at hSw); go_simp⟩) (by assumption) ?_
            simp only [List.getElem_toArray, List.getElem_cons_zero, List.getElem_cons_succ, Act.put, List.setIfInBounds_toArray, List.set_cons_zero, List.set_cons_succ]
            refine wpAnyH_take (i := 10) (v := .pointer (some ⟨lb, lo + r1 * 5, none⟩)) rfl (by kernel_rfl) (by kernel_rfl) (by kernel_rfl) (fun _ _ _ h => h) (Or.inl ⟨by first | rfl | go_simp, by intro w9 hSw; (try dsimp only at hSw); go_simp⟩) (by assumption) ?_
            simp only [List.getElem_toArray, List.getElem_cons_zero, List.getElem_cons_succ, Act.put, List.setIfInBounds_toArray, List.set_cons_zero, List.set_cons_succ]
            refine wpAnyH_take (i := 11) (v := .pointer (some ⟨lb, lo + r1 * 5, none⟩)) rfl (by kernel_rfl) (by kernel_rfl) (by kernel_rfl) (fun _ _ _ h => h) (Or.inl ⟨by first | rfl | go_simp, by intro w9 hSw; (try dsimp only at hSw); go_simp⟩) (by assumption) ?_
            simp only [List.getElem_toArray, List.getElem_cons_zero, List.getElem_cons_succ, Act.put, List.setIfInBounds_toArray, List.set_cons_zero, List.set_cons_succ]
            refine wpAnyH_take (i := 12) (v := .int .i64 p) rfl (by kernel_rfl) (by kernel_rfl) (by kernel_rfl) (fun _ _ _ h => h) (Or.inl ⟨by first | rfl | go_simp, by intro w9 hSw; (try dsimp only at hSw); go_simp⟩) (by assumption) ?_
            simp only [List.getElem_toArray, List.getElem_cons_zero, List.getElem_cons_succ, Act.put, List.setIfInBounds_toArray, List.set_cons_zero, List.set_cons_succ]
            refine wpAnyH_take (i := 13) (v := .bool false) rfl (by kernel_rfl) (by kernel_rfl) (by kernel_rfl) (fun _ _ _ h => h) (Or.inl ⟨by first | rfl | go_simp, by intro w9 hSw; (try dsimp only at hSw); go_simp⟩) (by assumption) ?_
            simp only [List.getElem_toArray, List.getElem_cons_zero, List.getElem_cons_succ, Act.put, List.setIfInBounds_toArray, List.set_cons_zero, List.set_cons_succ]
            refine wpAnyH_take (i := 14) (v := .bool false) rfl (by kernel_rfl) (by kernel_rfl) (by kernel_rfl) (fun _ _ _ h => h) (Or.inl ⟨by first | rfl | go_simp, by intro w9 hSw; (try dsimp only at hSw); go_simp⟩) (by assumption) ?_
            simp only [List.getElem_toArray, List.getElem_cons_zero, List.getElem_cons_succ, Act.put, List.setIfInBounds_toArray, List.set_cons_zero, List.set_cons_succ]
            refine wpAnyH_done (by kernel_rfl) ?_ _
            have B4 := thenB (thenB B3 BX) ((Below.refl _ X0).alloc (Nat.le_refl _) (.cells #[.int .i64 p0, .int .i64 p1, .int .i64 p2, .int .i64 p3, .slice bA m bc] 52))
            have KP4 : Kept (X0.alloc (.cells #[.int .i64 p0, .int .i64 p1, .int .i64 p2, .int .i64 p3, .slice bA m bc] 52)) w.heap.size (some ⟨lb, lo, none⟩) rn rc l := (KP3.below BX).below ((Below.refl _ X0).alloc (Nat.le_refl _) (.cells #[.int .i64 p0, .int .i64 p1, .int .i64 p2, .int .i64 p3, .slice bA m bc] 52))
            have NW4 := (own_below NW BX).alloc (.cells #[.int .i64 p0, .int .i64 p1, .int .i64 p2, .int .i64 p3, .slice bA m bc] 52)
            have CL4 := CellsAt.lit X0 [.int .i64 p0, .int .i64 p1, .int .i64 p2, .int .i64 p3, .slice bA m bc] #[.int .i64 p0, .int .i64 p1, .int .i64 p2, .int .i64 p3, .slice bA m bc] 52 rfl
            have TBX := HTB.out.below BX HTB.out.lt
            obtain ⟨q0, q1, q2, q3, q4, _⟩ := blk_five TBX
            obtain ⟨kl, ko, km⟩ := KP4
            clear TBX
            go_wp2_with (at_builtin; refine wpList_append_rows rfl (.tmp 52) (.tmp 54) 35 rfl w.heap.size 52 iT _ 5 56 Tryd.underlying35 hiT hzT hsT hbT hc0 (by decide) (.slice (some ⟨lb, lo, none⟩) rn rc) rn (l.flatMap encT) rfl ko _ (some ⟨X0.heap.size, 0, none⟩) 1 1 [.int .i64 p0, .int .i64 p1, .int .i64 p2, .int .i64 p3, .slice bA m bc] rfl rfl (by intro u hu; simp at hu; rcases hu with rfl | rfl | rfl | rfl | rfl <;> rfl) CL4 (by unfold maxLen; omega) (by omega) B4.size ?_; intro v5 w5 O5 b5 g5; obtain ⟨A5, c5, rfl⟩ := own_form O5; have K5 := Lib.hid (kept_app kl ko km NW4 O5 g5 ⟨hbl, h260⟩); have B5 := B4.trans b5; clear O5 g5 b5 kl ko km NW4 CL4)
            obtain ⟨f', hm'⟩ := HGd.out (by simpa [lateB] using hlate)
            go_roundw
            case rel => exact ⟨KN, rn + 1, c5, A5, l ++ [⟨p0, p1, p2, p3, bA, bc, bs⟩], f', by omega, by omega, rfl, rfl, K5.out, by rw [List.map_append, List.map_singleton, List.getLast?_append, ← HDrr.out, show (KN : Int) = (K : Int) + (16 + (m : Int)) by omega]; exact hm', by omega, B5⟩
            case measure => simp [intOf]; omega
    · have e : K = n := by omega
      subst e
      have c1' : ¬ (K : Int) < (K : Int) := by omega
      have hE := Lib.hid (hmid.done (by rw [List.length_drop, HZ.out]; omega))
      clear hmid
      go_wp2_with fail
      go_ret3
      exact rd_done hkp hbel hE.out
end Go.Proofs.YtkbhmgdmkamcfaaDoor.Cap
