/- Advertising PDUs: Decode by the layer where the header is right: contracts over the program. -/
import Derived.Test.YtcjlliilfecmnaaDoorKApDecF
import Derived.Deep.CutRange
set_option linter.unusedVariables false
set_option linter.unusedSimpArgs false
namespace Go.Proofs.YtcjlliilfecmnaaDoor.Ap
open Go.RowKit Mem Oct
open Base (thenB)

set_option maxRecDepth 100000 in
set_option maxHeartbeats 8000000 in
theorem decode_near (b off n c : Nat) (xs : List Int) (w : World) (hx : xs.length = n) (hnc : n ≤ c) (bxs : Bytes xs) (hr : Ints .u8 w w.heap.size (some ⟨b, off, none⟩) xs) (hT : Adr.Tab w) (h : hdrE xs = 0) (hc2 : c = 2) :
    Calls Tryd.prog 16 #[.slice (some ⟨b, off, none⟩) n c] w fun e w' => Decd w w' e (decP xs) := by
  obtain ⟨h2, hk6, hlen⟩ := hdr_ok h
  have hb1 : 0 ≤ xs.getD 1 0 ∧ xs.getD 1 0 ≤ 255 := bxs _ (by simp [List.getD, List.getElem?_eq_getElem (show 1 < xs.length by omega)])
  have hb0 : 0 ≤ xs.getD 0 0 ∧ xs.getD 0 0 ≤ 255 := bxs _ (by simp [List.getD, List.getElem?_eq_getElem (show 0 < xs.length by omega)])
  have hn1 : n ≤ 257 := by omega
  obtain ⟨b', off', heq, hbl, hcell⟩ := hr.at_ (i := 0) (by omega)
  injection heq with heq
  injection heq with hbe hoe _
  subst hbe; subst hoe
  have TT0 : w.cell? ⟨b, off, none⟩ = some (.int .u8 (xs.getD 0 0)) := hcell 0 (by omega)
  have BX : Below w.heap.size w (w.alloc (.cells #[.int .i64 0, .int .i64 0, .int .u64 0, .int .i64 0, .int .u64 0, .slice none 0 0, .int .u32 0, .int .u32 0, .int .i64 0, .int .i64 0, .int .i64 0, .int .i64 0, .int .i64 0, .int .u64 0, .int .i64 0, .int .i64 0, .int .i64 0] 33)) := (Below.refl _ _).alloc (Nat.le_refl _) _
  have K2 := Blk.fresh w 33 #[.int .i64 0, .int .i64 0, .int .u64 0, .int .i64 0, .int .u64 0, .slice none 0 0, .int .u32 0, .int .u32 0, .int .i64 0, .int .i64 0, .int .i64 0, .int .i64 0, .int .i64 0, .int .u64 0, .int .i64 0, .int .i64 0, .int .i64 0]
  have HH : Hid (∀ w', Below w.heap.size w w' → Calls Tryd.prog 40 #[.slice (some ⟨b, off, none⟩) n c] w' fun e w2 => e = .returned (.int .i64 0) ∧ Below w'.heap.size w' w2) := Lib.hid fun w' bb => by
    have := header_any (some ⟨b, off, none⟩) n c xs w' hx bxs (Base.later hr bb)
    rwa [h] at this
  obtain ⟨sk, sb, tk, tb, L, er, ha⟩ := adrs_form (xs.getD 0 0 % 16) (xs.drop 2)
  have hLl := adrs_len (xs.getD 0 0 % 16) (xs.drop 2)
  have hLb := adrs_bytes (k := xs.getD 0 0 % 16) (bytes_drop bxs 2)
  rw [ha] at hLl hLb
  simp only [List.length_drop, hx] at hLl hLb
  have hcut : Ints .u8 w w.heap.size (some ⟨b, off, none⟩) (xs.drop 2) := by
    have := hr.cut (c := c) (i := 2) (by omega) (by omega)
    rw [if_pos hc2] at this; exact this
  have HAd : Hid (∀ w', Below w.heap.size w w' → Calls Tryd.prog 41 #[.int .i64 (xs.getD 0 0 % 16), .slice (some ⟨b, off, none⟩) (n - 2) (c - 2)] w' fun e w2 => ∃ A' c', e = .returned (.tuple #[.agg #[.int .i64 (xs.getD 0 0 % 16), .int .i64 sk, .int .u64 sb, .int .i64 tk, .int .u64 tb, .slice none 0 0, .int .u32 0, .int .u32 0, .int .i64 0, .int .i64 0, .int .i64 0, .int .i64 0, .int .i64 0, .int .u64 0, .int .i64 0, .int .i64 0, .int .i64 0], .slice A' L.length c', .int .i64 er]) ∧ L.length ≤ c' ∧ Ints .u8 w2 w2.heap.size A' L ∧ Below w'.heap.size w' w2 ∧ (L = [] ∨ ∃ g4, A' = some ⟨g4, 0, none⟩ ∧ w'.heap.size ≤ g4)) := Lib.hid fun w' bb => by
    have := daddr_any (xs.getD 0 0 % 16) (some ⟨b, off, none⟩) (n - 2) (c - 2) (xs.drop 2) w' (by simp [hx]) (by omega) (by omega) (bytes_drop bxs 2) (Base.later hcut bb) (hT.below bb)
    refine this.mono fun e w2 hd => ?_
    rw [ha] at hd
    exact hd
  have HE1 : Hid (er ≠ 0 → decP xs = (zp, er)) := Lib.hid fun he => decP_adr h ha he
  have HE2 : Hid (er = 0 → xs.getD 0 0 ≠ fstB (adrP (xs.getD 0 0 % 16) sk sb tk tb) → decP xs = (zp, 2)) := Lib.hid fun he hf => by subst he; exact decP_fst h ha hf
  have HE3 : Hid (er = 0 → xs.getD 0 0 = fstB (adrP (xs.getD 0 0 % 16) sk sb tk tb) → (cmpl (xs.getD 0 0 % 16) sk sb tk tb L).2 ≠ 0 → decP xs = (zp, (cmpl (xs.getD 0 0 % 16) sk sb tk tb L).2)) := Lib.hid fun he hf hc => by subst he; exact decP_cmp h ha hf hc
  have HE4 : Hid (er = 0 → xs.getD 0 0 = fstB (adrP (xs.getD 0 0 % 16) sk sb tk tb) → (cmpl (xs.getD 0 0 % 16) sk sb tk tb L).2 = 0 → decP xs = ((cmpl (xs.getD 0 0 % 16) sk sb tk tb L).1, 0)) := Lib.hid fun he hf hc => by subst he; exact decP_ok h ha hf hc
  have HLb : Hid (Bytes L) := Lib.hid hLb
  obtain ⟨a1, _⟩ := and_facts _ hb0
  have HFi := Lib.hid (fun (k sk sb tk tb : Int) V w hk => first_any (adrP k sk sb tk tb) V w hk)
  have HFx : Hid (∀ w, Calls Tryd.prog 36 #[.agg #[.int .i64 (xs.getD 0 0 % 16), .int .i64 sk, .int .u64 sb, .int .i64 tk, .int .u64 tb, .slice none 0 0, .int .u32 0, .int .u32 0, .int .i64 0, .int .i64 0, .int .i64 0, .int .i64 0, .int .i64 0, .int .u64 0, .int .i64 0, .int .i64 0, .int .i64 0]] w fun e w' => e = .returned (.int .u8 (fstB (adrP (xs.getD 0 0 % 16) sk sb tk tb))) ∧ Below w.heap.size w w') := Lib.hid fun w => first_any (adrP (xs.getD 0 0 % 16) sk sb tk tb) _ w (by show 0 ≤ xs.getD 0 0 % 16 ∧ xs.getD 0 0 % 16 ≤ 6; omega)
  have HCm : Hid (∀ w' A' c', L.length ≤ c' → Ints .u8 w' w'.heap.size A' L → Calls Tryd.prog 42 #[.agg #[.int .i64 (xs.getD 0 0 % 16), .int .i64 sk, .int .u64 sb, .int .i64 tk, .int .u64 tb, .slice none 0 0, .int .u32 0, .int .u32 0, .int .i64 0, .int .i64 0, .int .i64 0, .int .i64 0, .int .i64 0, .int .u64 0, .int .i64 0, .int .i64 0, .int .i64 0], .slice A' L.length c'] w' fun e w2 => CPd w' w2 e (cmpl (xs.getD 0 0 % 16) sk sb tk tb L) A' L.length c' L) := Lib.hid fun w' A' c' h1 h2 => complete_any _ _ _ _ _ A' _ c' L w' rfl h1 (by omega) HLb.out h2
  have hcc : (c = 2) = True := by simp [hc2]
  clear hc2
  clear HFi hr bxs hT h ha hcell hcut hlen hb1 hLb
  unfold CPd at HCm
  generalize (cmpl (xs.getD 0 0 % 16) sk sb tk tb L).2 = ec at *
  generalize (cmpl (xs.getD 0 0 % 16) sk sb tk tb L).1 = q at *
  generalize fstB (adrP (xs.getD 0 0 % 16) sk sb tk tb) = F at *
  generalize decP xs = R at *
  generalize xs.getD 0 0 = x at *
  have e1 : IntKind.i64.wrap (x % 16) = x % 16 := by rw [IntWalk.i64_in _ (by omega)]
  have gn : (0 : Int) < (n : Int) ∧ 0 < n ∧ (2 : Int) ≤ (n : Int) ∧ 2 ≤ n ∧ (2 : Int) ≤ (c : Int) ∧ 2 ≤ c := by omega
  obtain ⟨gn1, gn2, gn3, gn4, gn5, gn6⟩ := gn
  clear hx
  have H5 : (#[.int .i64 (x % 16), .int .i64 sk, .int .u64 sb, .int .i64 tk, .int .u64 tb, .slice none 0 0, .int .u32 0, .int .u32 0, .int .i64 0, .int .i64 0, .int .i64 0, .int .i64 0, .int .i64 0, .int .u64 0, .int .i64 0, .int .i64 0, .int .i64 0] : Array Value).all (·.oneCell') = true := by rw [← Array.all_toList]; rfl
  go_enter Tryd.func16, Tryd.ntmps16
  go_wp2_with fail
  generalize w.alloc (.cells #[.int .i64 0, .int .i64 0, .int .u64 0, .int .i64 0, .int .u64 0, .slice none 0 0, .int .u32 0, .int .u32 0, .int .i64 0, .int .i64 0, .int .i64 0, .int .i64 0, .int .i64 0, .int .u64 0, .int .i64 0, .int .i64 0, .int .i64 0] 33) = W0 at *
  refine (HH.out W0 BX).mono ?_
  rintro e w1 ⟨rfl, b1⟩
  have BX := thenB BX b1
  have K2 := K2.below b1 K2.lt
  have TT := (BX.cell (p := ⟨b, off, none⟩) hbl).trans TT0
  clear b1
  go_upto_region 4 with (fail)
  go_cut [5, 6, 7] from 14 to 25 (fun s5 s6 s7 wx => ∃ g5 A' c', s5 = .pointer (some ⟨g5, 0, none⟩) ∧ s6 = .slice A' L.length c' ∧ s7 = .int .i64 er ∧ L.length ≤ c' ∧ Ints .u8 wx wx.heap.size A' L ∧ (L = [] ∨ ∃ g4, A' = some (⟨g4, 0, none⟩ : Addr) ∧ g4 ≠ g5 ∧ w.heap.size < g4) ∧ Blk wx g5 33 #[.int .i64 (x % 16), .int .i64 sk, .int .u64 sb, .int .i64 tk, .int .u64 tb, .slice none 0 0, .int .u32 0, .int .u32 0, .int .i64 0, .int .i64 0, .int .i64 0, .int .i64 0, .int .i64 0, .int .u64 0, .int .i64 0, .int .i64 0, .int .i64 0] ∧ w.heap.size < g5 ∧ Blk wx w.heap.size 33 #[.int .i64 0, .int .i64 0, .int .u64 0, .int .i64 0, .int .u64 0, .slice none 0 0, .int .u32 0, .int .u32 0, .int .i64 0, .int .i64 0, .int .i64 0, .int .i64 0, .int .i64 0, .int .u64 0, .int .i64 0, .int .i64 0, .int .i64 0] ∧ Below w.heap.size w wx ∧ wx.cell? ⟨b, off, none⟩ = some (.int .u8 x))
  case first =>
    go_wp2_with fail
    refine wp_region_held_drew (S := (fun w' => w'.cell? ⟨b, off, none⟩ = some (.int .u8 x))) (by kernel_rfl) ?_ (fun hHeld => ?_)
    · exact TT
    have BX : Below w.heap.size w w1.drew := BX.drew
    have K2 : Blk w1.drew w.heap.size 33 #[.int .i64 0, .int .i64 0, .int .u64 0, .int .i64 0, .int .u64 0, .slice none 0 0, .int .u32 0, .int .u32 0, .int .i64 0, .int .i64 0, .int .i64 0, .int .i64 0, .int .i64 0, .int .u64 0, .int .i64 0, .int .i64 0, .int .i64 0] := K2
    have TT : w1.drew.cell? ⟨b, off, none⟩ = some (.int .u8 x) := TT
    generalize w1.drew = X0 at *
    refine wpAnyH_take (i := 0) (v := .slice (some ⟨b, off, none⟩) n c) rfl (by kernel_rfl) (by kernel_rfl) (by kernel_rfl) (fun _ _ _ h => h) (Or.inl ⟨by first | rfl | go_simp, by intro w9 hSw; (try dsimp only at hSw); go_simp⟩) (by assumption) ?_
    simp only [List.getElem_toArray, List.getElem_cons_zero, List.getElem_cons_succ, Act.put, List.setIfInBounds_toArray, List.set_cons_zero, List.set_cons_succ]
    refine wpAnyH_take (i := 1) (v := .pointer (some ⟨b, off, none⟩)) rfl (by kernel_rfl) (by kernel_rfl) (by kernel_rfl) (fun _ _ _ h => h) (Or.inl ⟨by first | rfl | go_simp, by intro w9 hSw; (try dsimp only at hSw); go_simp⟩) (by assumption) ?_
    simp only [List.getElem_toArray, List.getElem_cons_zero, List.getElem_cons_succ, Act.put, List.setIfInBounds_toArray, List.set_cons_zero, List.set_cons_succ]
    refine wpAnyH_take (i := 2) (v := .int .u8 x) rfl (by kernel_rfl) (by kernel_rfl) (by kernel_rfl) (fun _ _ _ h => h) (Or.inl ⟨by first | rfl | go_simp, by intro w9 hSw; (try dsimp only at hSw); go_simp⟩) (by assumption) ?_
    simp only [List.getElem_toArray, List.getElem_cons_zero, List.getElem_cons_succ, Act.put, List.setIfInBounds_toArray, List.set_cons_zero, List.set_cons_succ]
    refine wpAnyH_take (i := 3) (v := .int .u8 (x % 16)) rfl (by kernel_rfl) (by kernel_rfl) (by kernel_rfl) (fun _ _ _ h => h) (Or.inl ⟨by first | rfl | go_simp, by intro w9 hSw; (try dsimp only at hSw); go_simp⟩) (by assumption) ?_
    simp only [List.getElem_toArray, List.getElem_cons_zero, List.getElem_cons_succ, Act.put, List.setIfInBounds_toArray, List.set_cons_zero, List.set_cons_succ]
    refine wpAnyH_take (i := 4) (v := .int .i64 (x % 16)) rfl (by kernel_rfl) (by kernel_rfl) (by kernel_rfl) (fun _ _ _ h => h) (Or.inl ⟨by first | rfl | go_simp, by intro w9 hSw; (try dsimp only at hSw); go_simp⟩) (by assumption) ?_
    simp only [List.getElem_toArray, List.getElem_cons_zero, List.getElem_cons_succ, Act.put, List.setIfInBounds_toArray, List.set_cons_zero, List.set_cons_succ]
    refine wpAnyH_take (i := 5) (v := .slice (some ⟨b, off, none⟩) n c) rfl (by kernel_rfl) (by kernel_rfl) (by kernel_rfl) (fun _ _ _ h => h) (Or.inl ⟨by first | rfl | go_simp, by intro w9 hSw; (try dsimp only at hSw); go_simp⟩) (by assumption) ?_
    simp only [List.getElem_toArray, List.getElem_cons_zero, List.getElem_cons_succ, Act.put, List.setIfInBounds_toArray, List.set_cons_zero, List.set_cons_succ]
    refine wpAnyH_take (i := 6) (v := .slice (some ⟨b, off, none⟩) (n - 2) (c - 2)) rfl (by kernel_rfl) (by kernel_rfl) (by kernel_rfl) (fun _ _ _ h => h) (Or.inl ⟨by first | rfl | go_simp, by intro w9 hSw; (try dsimp only at hSw); go_simp⟩) (by assumption) ?_
    simp only [List.getElem_toArray, List.getElem_cons_zero, List.getElem_cons_succ, Act.put, List.setIfInBounds_toArray, List.set_cons_zero, List.set_cons_succ]
    refine wpAnyH_ready (rs := [7, 12]) (by kernel_rfl) (by simp) ?_
    refine AllReadyH.cons rfl (fun K hK => ?_) (AllReadyH.cons rfl (fun K hK => ?_) (AllReadyH.nil))
    · skip
      go_simp
      have hXs0 : w.heap.size < X0.heap.size := K2.lt
      refine (HAd.out X0 BX).mono ?_
      rintro e X1 ⟨A', c', rfl, hcap, IL, b9, hfL⟩
      have hXs : w.heap.size < X0.heap.size := hXs0
      have TT := (b9.cell (p := ⟨b, off, none⟩) (by show b < _; have := K2.lt; omega)).trans TT
      have BX := thenB BX b9
      have K2 := K2.below b9 K2.lt
      refine hK.out _ _ TT (fun hHeld => ?_)
      clear hK K
      try simp only [List.getElem_toArray, List.getElem_cons_zero, List.getElem_cons_succ, Act.put, List.setIfInBounds_toArray, List.set_cons_zero, List.set_cons_succ]
      refine wpAnyH_take (i := 8) (v := .tuple #[.agg #[.int .i64 (x % 16), .int .i64 sk, .int .u64 sb, .int .i64 tk, .int .u64 tb, .slice none 0 0, .int .u32 0, .int .u32 0, .int .i64 0, .int .i64 0, .int .i64 0, .int .i64 0, .int .i64 0, .int .u64 0, .int .i64 0, .int .i64 0, .int .i64 0], .slice A' L.length c', .int .i64 er]) rfl (by kernel_rfl) (by kernel_rfl) (by kernel_rfl) (fun _ _ _ h => h) (Or.inl ⟨by first | rfl | go_simp, by intro w9 hSw; (try dsimp only at hSw); go_simp⟩) (by assumption) ?_
      simp only [List.getElem_toArray, List.getElem_cons_zero, List.getElem_cons_succ, Act.put, List.setIfInBounds_toArray, List.set_cons_zero, List.set_cons_succ]
      refine wpAnyH_take (i := 9) (v := .agg #[.int .i64 (x % 16), .int .i64 sk, .int .u64 sb, .int .i64 tk, .int .u64 tb, .slice none 0 0, .int .u32 0, .int .u32 0, .int .i64 0, .int .i64 0, .int .i64 0, .int .i64 0, .int .i64 0, .int .u64 0, .int .i64 0, .int .i64 0, .int .i64 0]) rfl (by kernel_rfl) (by kernel_rfl) (by kernel_rfl) (fun _ _ _ h => h) (Or.inl ⟨by first | rfl | go_simp, by intro w9 hSw; (try dsimp only at hSw); go_simp⟩) (by assumption) ?_
      simp only [List.getElem_toArray, List.getElem_cons_zero, List.getElem_cons_succ, Act.put, List.setIfInBounds_toArray, List.set_cons_zero, List.set_cons_succ]
      refine wpAnyH_take (i := 10) (v := .slice A' L.length c') rfl (by kernel_rfl) (by kernel_rfl) (by kernel_rfl) (fun _ _ _ h => h) (Or.inl ⟨by first | rfl | go_simp, by intro w9 hSw; (try dsimp only at hSw); go_simp⟩) (by assumption) ?_
      simp only [List.getElem_toArray, List.getElem_cons_zero, List.getElem_cons_succ, Act.put, List.setIfInBounds_toArray, List.set_cons_zero, List.set_cons_succ]
      refine wpAnyH_take (i := 11) (v := .int .i64 er) rfl (by kernel_rfl) (by kernel_rfl) (by kernel_rfl) (fun _ _ _ h => h) (Or.inl ⟨by first | rfl | go_simp, by intro w9 hSw; (try dsimp only at hSw); go_simp⟩) (by assumption) ?_
      simp only [List.getElem_toArray, List.getElem_cons_zero, List.getElem_cons_succ, Act.put, List.setIfInBounds_toArray, List.set_cons_zero, List.set_cons_succ]
      refine wpAnyH_ready (rs := [12]) (by kernel_rfl) (by simp) ?_
      refine AllReadyH.cons rfl (fun K hK => ?_) (AllReadyH.nil)
      go_simp
      have b9 := (Below.refl X1.heap.size X1).alloc (Nat.le_refl _) (.cells #[.int .i64 0, .int .i64 0, .int .u64 0, .int .i64 0, .int .u64 0, .slice none 0 0, .int .u32 0, .int .u32 0, .int .i64 0, .int .i64 0, .int .i64 0, .int .i64 0, .int .i64 0, .int .u64 0, .int .i64 0, .int .i64 0, .int .i64 0] 33)
      have P5 := Blk.fresh X1 33 #[.int .i64 0, .int .i64 0, .int .u64 0, .int .i64 0, .int .u64 0, .slice none 0 0, .int .u32 0, .int .u32 0, .int .i64 0, .int .i64 0, .int .i64 0, .int .i64 0, .int .i64 0, .int .u64 0, .int .i64 0, .int .i64 0, .int .i64 0]
      have hg5 : w.heap.size < X1.heap.size := K2.lt
      have hfL := fresh_ne IL hfL
      skip
      generalize X1.alloc (.cells #[.int .i64 0, .int .i64 0, .int .u64 0, .int .i64 0, .int .u64 0, .slice none 0 0, .int .u32 0, .int .u32 0, .int .i64 0, .int .i64 0, .int .i64 0, .int .i64 0, .int .i64 0, .int .u64 0, .int .i64 0, .int .i64 0, .int .i64 0] 33) = X2 at *
      have TT := (b9.cell (p := ⟨b, off, none⟩) (by show b < _; have := K2.lt; omega)).trans TT
      have BX := thenB BX b9
      have K2 := K2.below b9 K2.lt
      have IL := Base.later IL b9
      refine hK.out _ _ TT (fun hHeld => ?_)
      clear hK K
      try simp only [List.getElem_toArray, List.getElem_cons_zero, List.getElem_cons_succ, Act.put, List.setIfInBounds_toArray, List.set_cons_zero, List.set_cons_succ]
      refine wpAnyH_ready (rs := [13]) (by kernel_rfl) (by simp) ?_
      refine AllReadyH.cons rfl (fun K hK => ?_) (AllReadyH.nil)
      have hfN : L = [] ∨ ∃ g4, A' = some (⟨g4, 0, none⟩ : Addr) ∧ g4 ≠ X1.heap.size ∧ w.heap.size < g4 := by
        rcases hfL with h | ⟨g4, e, h⟩
        · exact .inl h
        · exact .inr ⟨g4, e, by omega, by omega⟩
      refine step_store_row rfl 33 (.tmp 5) (.tmp 23) rfl X1.heap.size #[.int .i64 (x % 16), .int .i64 sk, .int .u64 sb, .int .i64 tk, .int .u64 tb, .slice none 0 0, .int .u32 0, .int .u32 0, .int .i64 0, .int .i64 0, .int .i64 0, .int .i64 0, .int .i64 0, .int .u64 0, .int .i64 0, .int .i64 0, .int .i64 0] rfl rfl 33 _ P5 (by kernel_rfl) rfl H5 ?_
      have P5 : Blk (X2.setRow X1.heap.size #[.int .i64 (x % 16), .int .i64 sk, .int .u64 sb, .int .i64 tk, .int .u64 tb, .slice none 0 0, .int .u32 0, .int .u32 0, .int .i64 0, .int .i64 0, .int .i64 0, .int .i64 0, .int .i64 0, .int .u64 0, .int .i64 0, .int .i64 0, .int .i64 0]) X1.heap.size 33 #[.int .i64 (x % 16), .int .i64 sk, .int .u64 sb, .int .i64 tk, .int .u64 tb, .slice none 0 0, .int .u32 0, .int .u32 0, .int .i64 0, .int .i64 0, .int .i64 0, .int .i64 0, .int .i64 0, .int .u64 0, .int .i64 0, .int .i64 0, .int .i64 0] := setRow_heap X2 X1.heap.size _ #[.int .i64 (x % 16), .int .i64 sk, .int .u64 sb, .int .i64 tk, .int .u64 tb, .slice none 0 0, .int .u32 0, .int .u32 0, .int .i64 0, .int .i64 0, .int .i64 0, .int .i64 0, .int .i64 0, .int .u64 0, .int .i64 0, .int .i64 0, .int .i64 0] 33 (0, 0) P5
      have K2 : Blk (X2.setRow X1.heap.size #[.int .i64 (x % 16), .int .i64 sk, .int .u64 sb, .int .i64 tk, .int .u64 tb, .slice none 0 0, .int .u32 0, .int .u32 0, .int .i64 0, .int .i64 0, .int .i64 0, .int .i64 0, .int .i64 0, .int .u64 0, .int .i64 0, .int .i64 0, .int .i64 0]) w.heap.size 33 #[.int .i64 0, .int .i64 0, .int .u64 0, .int .i64 0, .int .u64 0, .slice none 0 0, .int .u32 0, .int .u32 0, .int .i64 0, .int .i64 0, .int .i64 0, .int .i64 0, .int .i64 0, .int .u64 0, .int .i64 0, .int .i64 0, .int .i64 0] := (setRow_other X2 X1.heap.size w.heap.size #[.int .i64 (x % 16), .int .i64 sk, .int .u64 sb, .int .i64 tk, .int .u64 tb, .slice none 0 0, .int .u32 0, .int .u32 0, .int .i64 0, .int .i64 0, .int .i64 0, .int .i64 0, .int .i64 0, .int .u64 0, .int .i64 0, .int .i64 0, .int .i64 0] (by omega)).trans K2
      have IL := (farNe (cs := #[.int .i64 (x % 16), .int .i64 sk, .int .u64 sb, .int .i64 tk, .int .u64 tb, .slice none 0 0, .int .u32 0, .int .u32 0, .int .i64 0, .int .i64 0, .int .i64 0, .int .i64 0, .int .i64 0, .int .u64 0, .int .i64 0, .int .i64 0, .int .i64 0]) (hfN.imp id fun ⟨g4, e, h, _⟩ => ⟨g4, e, h⟩) IL).more (Nat.le_of_eq (size_setRow X2 X1.heap.size #[.int .i64 (x % 16), .int .i64 sk, .int .u64 sb, .int .i64 tk, .int .u64 tb, .slice none 0 0, .int .u32 0, .int .u32 0, .int .i64 0, .int .i64 0, .int .i64 0, .int .i64 0, .int .i64 0, .int .u64 0, .int .i64 0, .int .i64 0, .int .i64 0]).symm)
      have TT := (cell_setRow_other X2 X1.heap.size #[.int .i64 (x % 16), .int .i64 sk, .int .u64 sb, .int .i64 tk, .int .u64 tb, .slice none 0 0, .int .u32 0, .int .u32 0, .int .i64 0, .int .i64 0, .int .i64 0, .int .i64 0, .int .i64 0, .int .u64 0, .int .i64 0, .int .i64 0, .int .i64 0] ⟨b, off, none⟩ (show b ≠ X1.heap.size by omega)).trans TT
      have BX := below_setRow BX (Nat.le_of_lt hg5) #[.int .i64 (x % 16), .int .i64 sk, .int .u64 sb, .int .i64 tk, .int .u64 tb, .slice none 0 0, .int .u32 0, .int .u32 0, .int .i64 0, .int .i64 0, .int .i64 0, .int .i64 0, .int .i64 0, .int .u64 0, .int .i64 0, .int .i64 0, .int .i64 0]
      generalize X2.setRow X1.heap.size #[.int .i64 (x % 16), .int .i64 sk, .int .u64 sb, .int .i64 tk, .int .u64 tb, .slice none 0 0, .int .u32 0, .int .u32 0, .int .i64 0, .int .i64 0, .int .i64 0, .int .i64 0, .int .i64 0, .int .u64 0, .int .i64 0, .int .i64 0, .int .i64 0] = X3 at *
      refine hK.out _ _ TT (fun hHeld => ?_)
      clear hK K
      try simp only [List.getElem_toArray, List.getElem_cons_zero, List.getElem_cons_succ, Act.put, List.setIfInBounds_toArray, List.set_cons_zero, List.set_cons_succ]
      refine wpAnyH_take (i := 14) (v := .slice A' L.length c') rfl (by kernel_rfl) (by kernel_rfl) (by kernel_rfl) (fun _ _ _ h => h) (Or.inl ⟨by first | rfl | go_simp, by intro w9 hSw; (try dsimp only at hSw); go_simp⟩) (by assumption) ?_
      simp only [List.getElem_toArray, List.getElem_cons_zero, List.getElem_cons_succ, Act.put, List.setIfInBounds_toArray, List.set_cons_zero, List.set_cons_succ]
      refine wpAnyH_take (i := 15) (v := .int .i64 er) rfl (by kernel_rfl) (by kernel_rfl) (by kernel_rfl) (fun _ _ _ h => h) (Or.inl ⟨by first | rfl | go_simp, by intro w9 hSw; (try dsimp only at hSw); go_simp⟩) (by assumption) ?_
      simp only [List.getElem_toArray, List.getElem_cons_zero, List.getElem_cons_succ, Act.put, List.setIfInBounds_toArray, List.set_cons_zero, List.set_cons_succ]
      refine wpAnyH_done (by kernel_rfl) ?_ _
      go_wp2_with fail
      go_meet
      exact ⟨_, A', c', rfl, rfl, rfl, hcap, IL, hfN, P5, hg5, K2, BX, TT⟩
    · skip
      go_simp
      have b9 := (Below.refl X0.heap.size X0).alloc (Nat.le_refl _) (.cells #[.int .i64 0, .int .i64 0, .int .u64 0, .int .i64 0, .int .u64 0, .slice none 0 0, .int .u32 0, .int .u32 0, .int .i64 0, .int .i64 0, .int .i64 0, .int .i64 0, .int .i64 0, .int .u64 0, .int .i64 0, .int .i64 0, .int .i64 0] 33)
      have P5 := Blk.fresh X0 33 #[.int .i64 0, .int .i64 0, .int .u64 0, .int .i64 0, .int .u64 0, .slice none 0 0, .int .u32 0, .int .u32 0, .int .i64 0, .int .i64 0, .int .i64 0, .int .i64 0, .int .i64 0, .int .u64 0, .int .i64 0, .int .i64 0, .int .i64 0]
      have hg5 : w.heap.size < X0.heap.size := K2.lt
      skip
      generalize X0.alloc (.cells #[.int .i64 0, .int .i64 0, .int .u64 0, .int .i64 0, .int .u64 0, .slice none 0 0, .int .u32 0, .int .u32 0, .int .i64 0, .int .i64 0, .int .i64 0, .int .i64 0, .int .i64 0, .int .u64 0, .int .i64 0, .int .i64 0, .int .i64 0] 33) = X4 at *
      have TT := (b9.cell (p := ⟨b, off, none⟩) (by show b < _; have := K2.lt; omega)).trans TT
      have BX := thenB BX b9
      have K2 := K2.below b9 K2.lt
      refine hK.out _ _ TT (fun hHeld => ?_)
      clear hK K
      try simp only [List.getElem_toArray, List.getElem_cons_zero, List.getElem_cons_succ, Act.put, List.setIfInBounds_toArray, List.set_cons_zero, List.set_cons_succ]
      refine wpAnyH_ready (rs := [7]) (by kernel_rfl) (by simp) ?_
      refine AllReadyH.cons rfl (fun K hK => ?_) (AllReadyH.nil)
      go_simp
      have hXs0 : w.heap.size < X4.heap.size := K2.lt
      have hP5l := P5.lt
      refine (HAd.out X4 BX).mono ?_
      rintro e X5 ⟨A', c', rfl, hcap, IL, b9, hfL⟩
      have hXs : w.heap.size < X4.heap.size := hXs0
      have TT := (b9.cell (p := ⟨b, off, none⟩) (by show b < _; have := K2.lt; omega)).trans TT
      have BX := thenB BX b9
      have K2 := K2.below b9 K2.lt
      have P5 := P5.below b9 P5.lt
      refine hK.out _ _ TT (fun hHeld => ?_)
      clear hK K
      try simp only [List.getElem_toArray, List.getElem_cons_zero, List.getElem_cons_succ, Act.put, List.setIfInBounds_toArray, List.set_cons_zero, List.set_cons_succ]
      refine wpAnyH_take (i := 8) (v := .tuple #[.agg #[.int .i64 (x % 16), .int .i64 sk, .int .u64 sb, .int .i64 tk, .int .u64 tb, .slice none 0 0, .int .u32 0, .int .u32 0, .int .i64 0, .int .i64 0, .int .i64 0, .int .i64 0, .int .i64 0, .int .u64 0, .int .i64 0, .int .i64 0, .int .i64 0], .slice A' L.length c', .int .i64 er]) rfl (by kernel_rfl) (by kernel_rfl) (by kernel_rfl) (fun _ _ _ h => h) (Or.inl ⟨by first | rfl | go_simp, by intro w9 hSw; (try dsimp only at hSw); go_simp⟩) (by assumption) ?_
      simp only [List.getElem_toArray, List.getElem_cons_zero, List.getElem_cons_succ, Act.put, List.setIfInBounds_toArray, List.set_cons_zero, List.set_cons_succ]
      refine wpAnyH_take (i := 9) (v := .agg #[.int .i64 (x % 16), .int .i64 sk, .int .u64 sb, .int .i64 tk, .int .u64 tb, .slice none 0 0, .int .u32 0, .int .u32 0, .int .i64 0, .int .i64 0, .int .i64 0, .int .i64 0, .int .i64 0, .int .u64 0, .int .i64 0, .int .i64 0, .int .i64 0]) rfl (by kernel_rfl) (by kernel_rfl) (by kernel_rfl) (fun _ _ _ h => h) (Or.inl ⟨by first | rfl | go_simp, by intro w9 hSw; (try dsimp only at hSw); go_simp⟩) (by assumption) ?_
      simp only [List.getElem_toArray, List.getElem_cons_zero, List.getElem_cons_succ, Act.put, List.setIfInBounds_toArray, List.set_cons_zero, List.set_cons_succ]
      refine wpAnyH_take (i := 10) (v := .slice A' L.length c') rfl (by kernel_rfl) (by kernel_rfl) (by kernel_rfl) (fun _ _ _ h => h) (Or.inl ⟨by first | rfl | go_simp, by intro w9 hSw; (try dsimp only at hSw); go_simp⟩) (by assumption) ?_
      simp only [List.getElem_toArray, List.getElem_cons_zero, List.getElem_cons_succ, Act.put, List.setIfInBounds_toArray, List.set_cons_zero, List.set_cons_succ]
      refine wpAnyH_take (i := 11) (v := .int .i64 er) rfl (by kernel_rfl) (by kernel_rfl) (by kernel_rfl) (fun _ _ _ h => h) (Or.inl ⟨by first | rfl | go_simp, by intro w9 hSw; (try dsimp only at hSw); go_simp⟩) (by assumption) ?_
      simp only [List.getElem_toArray, List.getElem_cons_zero, List.getElem_cons_succ, Act.put, List.setIfInBounds_toArray, List.set_cons_zero, List.set_cons_succ]
      refine wpAnyH_ready (rs := [13]) (by kernel_rfl) (by simp) ?_
      refine AllReadyH.cons rfl (fun K hK => ?_) (AllReadyH.nil)
      have hfN : L = [] ∨ ∃ g4, A' = some (⟨g4, 0, none⟩ : Addr) ∧ g4 ≠ X0.heap.size ∧ w.heap.size < g4 := by
        rcases hfL with h | ⟨g4, e, h⟩
        · exact .inl h
        · exact .inr ⟨g4, e, by omega, by omega⟩
      refine step_store_row rfl 33 (.tmp 5) (.tmp 23) rfl X0.heap.size #[.int .i64 (x % 16), .int .i64 sk, .int .u64 sb, .int .i64 tk, .int .u64 tb, .slice none 0 0, .int .u32 0, .int .u32 0, .int .i64 0, .int .i64 0, .int .i64 0, .int .i64 0, .int .i64 0, .int .u64 0, .int .i64 0, .int .i64 0, .int .i64 0] rfl rfl 33 _ P5 (by kernel_rfl) rfl H5 ?_
      have P5 : Blk (X5.setRow X0.heap.size #[.int .i64 (x % 16), .int .i64 sk, .int .u64 sb, .int .i64 tk, .int .u64 tb, .slice none 0 0, .int .u32 0, .int .u32 0, .int .i64 0, .int .i64 0, .int .i64 0, .int .i64 0, .int .i64 0, .int .u64 0, .int .i64 0, .int .i64 0, .int .i64 0]) X0.heap.size 33 #[.int .i64 (x % 16), .int .i64 sk, .int .u64 sb, .int .i64 tk, .int .u64 tb, .slice none 0 0, .int .u32 0, .int .u32 0, .int .i64 0, .int .i64 0, .int .i64 0, .int .i64 0, .int .i64 0, .int .u64 0, .int .i64 0, .int .i64 0, .int .i64 0] := setRow_heap X5 X0.heap.size _ #[.int .i64 (x % 16), .int .i64 sk, .int .u64 sb, .int .i64 tk, .int .u64 tb, .slice none 0 0, .int .u32 0, .int .u32 0, .int .i64 0, .int .i64 0, .int .i64 0, .int .i64 0, .int .i64 0, .int .u64 0, .int .i64 0, .int .i64 0, .int .i64 0] 33 (0, 0) P5
      have K2 : Blk (X5.setRow X0.heap.size #[.int .i64 (x % 16), .int .i64 sk, .int .u64 sb, .int .i64 tk, .int .u64 tb, .slice none 0 0, .int .u32 0, .int .u32 0, .int .i64 0, .int .i64 0, .int .i64 0, .int .i64 0, .int .i64 0, .int .u64 0, .int .i64 0, .int .i64 0, .int .i64 0]) w.heap.size 33 #[.int .i64 0, .int .i64 0, .int .u64 0, .int .i64 0, .int .u64 0, .slice none 0 0, .int .u32 0, .int .u32 0, .int .i64 0, .int .i64 0, .int .i64 0, .int .i64 0, .int .i64 0, .int .u64 0, .int .i64 0, .int .i64 0, .int .i64 0] := (setRow_other X5 X0.heap.size w.heap.size #[.int .i64 (x % 16), .int .i64 sk, .int .u64 sb, .int .i64 tk, .int .u64 tb, .slice none 0 0, .int .u32 0, .int .u32 0, .int .i64 0, .int .i64 0, .int .i64 0, .int .i64 0, .int .i64 0, .int .u64 0, .int .i64 0, .int .i64 0, .int .i64 0] (by omega)).trans K2
      have IL := (farNe (cs := #[.int .i64 (x % 16), .int .i64 sk, .int .u64 sb, .int .i64 tk, .int .u64 tb, .slice none 0 0, .int .u32 0, .int .u32 0, .int .i64 0, .int .i64 0, .int .i64 0, .int .i64 0, .int .i64 0, .int .u64 0, .int .i64 0, .int .i64 0, .int .i64 0]) (hfN.imp id fun ⟨g4, e, h, _⟩ => ⟨g4, e, h⟩) IL).more (Nat.le_of_eq (size_setRow X5 X0.heap.size #[.int .i64 (x % 16), .int .i64 sk, .int .u64 sb, .int .i64 tk, .int .u64 tb, .slice none 0 0, .int .u32 0, .int .u32 0, .int .i64 0, .int .i64 0, .int .i64 0, .int .i64 0, .int .i64 0, .int .u64 0, .int .i64 0, .int .i64 0, .int .i64 0]).symm)
      have TT := (cell_setRow_other X5 X0.heap.size #[.int .i64 (x % 16), .int .i64 sk, .int .u64 sb, .int .i64 tk, .int .u64 tb, .slice none 0 0, .int .u32 0, .int .u32 0, .int .i64 0, .int .i64 0, .int .i64 0, .int .i64 0, .int .i64 0, .int .u64 0, .int .i64 0, .int .i64 0, .int .i64 0] ⟨b, off, none⟩ (show b ≠ X0.heap.size by omega)).trans TT
      have BX := below_setRow BX (Nat.le_of_lt hg5) #[.int .i64 (x % 16), .int .i64 sk, .int .u64 sb, .int .i64 tk, .int .u64 tb, .slice none 0 0, .int .u32 0, .int .u32 0, .int .i64 0, .int .i64 0, .int .i64 0, .int .i64 0, .int .i64 0, .int .u64 0, .int .i64 0, .int .i64 0, .int .i64 0]
      generalize X5.setRow X0.heap.size #[.int .i64 (x % 16), .int .i64 sk, .int .u64 sb, .int .i64 tk, .int .u64 tb, .slice none 0 0, .int .u32 0, .int .u32 0, .int .i64 0, .int .i64 0, .int .i64 0, .int .i64 0, .int .i64 0, .int .u64 0, .int .i64 0, .int .i64 0, .int .i64 0] = X6 at *
      refine hK.out _ _ TT (fun hHeld => ?_)
      clear hK K
      try simp only [List.getElem_toArray, List.getElem_cons_zero, List.getElem_cons_succ, Act.put, List.setIfInBounds_toArray, List.set_cons_zero, List.set_cons_succ]
      refine wpAnyH_take (i := 14) (v := .slice A' L.length c') rfl (by kernel_rfl) (by kernel_rfl) (by kernel_rfl) (fun _ _ _ h => h) (Or.inl ⟨by first | rfl | go_simp, by intro w9 hSw; (try dsimp only at hSw); go_simp⟩) (by assumption) ?_
      simp only [List.getElem_toArray, List.getElem_cons_zero, List.getElem_cons_succ, Act.put, List.setIfInBounds_toArray, List.set_cons_zero, List.set_cons_succ]
      refine wpAnyH_take (i := 15) (v := .int .i64 er) rfl (by kernel_rfl) (by kernel_rfl) (by kernel_rfl) (fun _ _ _ h => h) (Or.inl ⟨by first | rfl | go_simp, by intro w9 hSw; (try dsimp only at hSw); go_simp⟩) (by assumption) ?_
      simp only [List.getElem_toArray, List.getElem_cons_zero, List.getElem_cons_succ, Act.put, List.setIfInBounds_toArray, List.set_cons_zero, List.set_cons_succ]
      refine wpAnyH_done (by kernel_rfl) ?_ _
      go_wp2_with fail
      go_meet
      exact ⟨_, A', c', rfl, rfl, rfl, hcap, IL, hfN, P5, hg5, K2, BX, TT⟩
  case rest =>
    obtain ⟨g5, A', c', rfl, rfl, rfl, hcap, IL, hfN, P5, hg5, K2, BX, TT⟩ := hcut
    by_cases he : er = 0
    · subst he
      have HF0 : Hid (∀ w, Calls Tryd.prog 36 #[.agg #[.int .i64 (x % 16), .int .i64 sk, .int .u64 sb, .int .i64 tk, .int .u64 tb, .slice none 0 0, .int .u32 0, .int .u32 0, .int .i64 0, .int .i64 0, .int .i64 0, .int .i64 0, .int .i64 0, .int .u64 0, .int .i64 0, .int .i64 0, .int .i64 0]] w fun e w' => e = .returned (.int .u8 F) ∧ Below w.heap.size w w') := Lib.hid fun w => HFx.out w
      have TT : wc.cell? ⟨b, off, none⟩ = some (.int .u8 x) ∧ Cel wc g5 (x % 16) sk sb tk tb (.slice none 0 0) := ⟨TT, pd_cells P5⟩
      have HE2a := Lib.hid (HE2.out rfl)
      have HE3a := Lib.hid (HE3.out rfl)
      have HE4a := Lib.hid (HE4.out rfl)
      clear HE2 HE3 HE4
      by_cases hf : x = F
      · have g7 : (x != F) = false := by simpa using hf
        have HE3b := Lib.hid (HE3a.out hf)
        have HE4b := Lib.hid (HE4a.out hf)
        clear HE1 HE2a HE3a HE4a hf
        go_wp2_with fail
        refine wp_region_held_drew (S := (fun w' => w'.cell? ⟨b, off, none⟩ = some (.int .u8 x) ∧ Cel w' g5 (x % 16) sk sb tk tb (.slice none 0 0))) (by kernel_rfl) ?_ (fun hHeld => ?_)
        · exact TT
        have TT : wc.drew.cell? ⟨b, off, none⟩ = some (.int .u8 x) ∧ Cel wc.drew g5 (x % 16) sk sb tk tb (.slice none 0 0) := TT
        have BX : Below w.heap.size w wc.drew := BX.drew
        have K2 : Blk wc.drew w.heap.size 33 #[.int .i64 0, .int .i64 0, .int .u64 0, .int .i64 0, .int .u64 0, .slice none 0 0, .int .u32 0, .int .u32 0, .int .i64 0, .int .i64 0, .int .i64 0, .int .i64 0, .int .i64 0, .int .u64 0, .int .i64 0, .int .i64 0, .int .i64 0] := K2
        have P5 : Blk wc.drew g5 33 #[.int .i64 (x % 16), .int .i64 sk, .int .u64 sb, .int .i64 tk, .int .u64 tb, .slice none 0 0, .int .u32 0, .int .u32 0, .int .i64 0, .int .i64 0, .int .i64 0, .int .i64 0, .int .i64 0, .int .u64 0, .int .i64 0, .int .i64 0, .int .i64 0] := P5
        have IL : Ints .u8 wc.drew wc.drew.heap.size A' L := IL
        generalize wc.drew = Z0 at *
        refine wpAnyH_take (i := 0) (v := .slice (some ⟨b, off, none⟩) n c) rfl (by kernel_rfl) (by kernel_rfl) (by kernel_rfl) (fun _ _ _ h => h) (Or.inl ⟨by first | rfl | go_simp, by intro w9 hSw; (try dsimp only at hSw); go_simp⟩) (by assumption) ?_
        simp only [List.getElem_toArray, List.getElem_cons_zero, List.getElem_cons_succ, Act.put, List.setIfInBounds_toArray, List.set_cons_zero, List.set_cons_succ]
        refine wpAnyH_take (i := 1) (v := .pointer (some ⟨b, off, none⟩)) rfl (by kernel_rfl) (by kernel_rfl) (by kernel_rfl) (fun _ _ _ h => h) (Or.inl ⟨by first | rfl | go_simp, by intro w9 hSw; (try dsimp only at hSw); go_simp⟩) (by assumption) ?_
        simp only [List.getElem_toArray, List.getElem_cons_zero, List.getElem_cons_succ, Act.put, List.setIfInBounds_toArray, List.set_cons_zero, List.set_cons_succ]
        refine wpAnyH_take (i := 2) (v := .int .u8 x) rfl (by kernel_rfl) (by kernel_rfl) (by kernel_rfl) (fun _ _ _ h => h) (Or.inl ⟨by first | rfl | go_simp, by intro w9 hSw; (try dsimp only at hSw); go_simp⟩) (by assumption) ?_
        simp only [List.getElem_toArray, List.getElem_cons_zero, List.getElem_cons_succ, Act.put, List.setIfInBounds_toArray, List.set_cons_zero, List.set_cons_succ]
        refine wpAnyH_take (i := 3) (v := .agg #[.int .i64 (x % 16), .int .i64 sk, .int .u64 sb, .int .i64 tk, .int .u64 tb, .slice none 0 0, .int .u32 0, .int .u32 0, .int .i64 0, .int .i64 0, .int .i64 0, .int .i64 0, .int .i64 0, .int .u64 0, .int .i64 0, .int .i64 0, .int .i64 0]) rfl (by kernel_rfl) (by kernel_rfl) (by kernel_rfl) (fun _ _ _ h => h) (Or.inl ⟨by first | rfl | go_simp, by intro w9 hSw; (try dsimp only at hSw); go_simp⟩) (by assumption) ?_
        simp only [List.getElem_toArray, List.getElem_cons_zero, List.getElem_cons_succ, Act.put, List.setIfInBounds_toArray, List.set_cons_zero, List.set_cons_succ]
        refine wpAnyH_ready (rs := [4]) (by kernel_rfl) (by simp) ?_
        refine AllReadyH.cons rfl (fun K hK => ?_) (AllReadyH.nil)
        go_simp
        refine (HF0.out Z0).mono ?_
        rintro e Z1 ⟨rfl, b9⟩
        have TT := And.intro ((b9.cell (p := ⟨b, off, none⟩) (block_lt_of_cell TT.1)).trans TT.1) (cel_below TT.2 b9)
        have BX := thenB BX b9
        have K2 := K2.below b9 K2.lt
        have P5 := P5.below b9 P5.lt
        have IL := Base.later IL b9
        refine hK.out _ _ TT (fun hHeld => ?_)
        clear hK K
        try simp only [List.getElem_toArray, List.getElem_cons_zero, List.getElem_cons_succ, Act.put, List.setIfInBounds_toArray, List.set_cons_zero, List.set_cons_succ]
        refine wpAnyH_take (i := 5) (v := .bool false) rfl (by kernel_rfl) (by kernel_rfl) (by kernel_rfl) (fun _ _ _ h => h) (Or.inl ⟨by first | rfl | go_simp, by intro w9 hSw; (try dsimp only at hSw); go_simp⟩) (by assumption) ?_
        simp only [List.getElem_toArray, List.getElem_cons_zero, List.getElem_cons_succ, Act.put, List.setIfInBounds_toArray, List.set_cons_zero, List.set_cons_succ]
        refine wpAnyH_done (by kernel_rfl) ?_ _
        go_wp2_with (refine wpList_load_row rfl 33 (.tmp 5) rfl g5 rfl 33 _ (0, 0) _ P5 Tryd.underlying33 rfl (by kernel_rfl) ?_)
        refine (HCm.out Z1 A' c' hcap IL).mono ?_
        rintro e y1 ⟨V, rfl, hV, b8⟩
        have BX := thenB BX b8
        have K2 := K2.below b8 K2.lt
        have P5 := P5.below b8 P5.lt
        have IL := Base.later IL b8
        clear b8 TT
        have hV1 : V.oneCell' = true := by rcases hV with ⟨rfl, _⟩ | ⟨rfl, _⟩ <;> rfl
        have H6 : (cel q V).all (·.oneCell') = true := by rw [← Array.all_toList]; rcases hV with ⟨rfl, _⟩ | ⟨rfl, _⟩ <;> rfl
        go_upto_region 10 with (refine wpList_store_row rfl 33 (.tmp 5) _ rfl g5 (cel q V) rfl rfl 33 _ P5 (by kernel_rfl) rfl H6 ?_)
        have P5 : Blk (y1.setRow g5 (cel q V)) g5 33 (cel q V) := setRow_heap y1 g5 _ (cel q V) 33 (0, 0) P5
        have K2 : Blk (y1.setRow g5 (cel q V)) w.heap.size 33 #[.int .i64 0, .int .i64 0, .int .u64 0, .int .i64 0, .int .u64 0, .slice none 0 0, .int .u32 0, .int .u32 0, .int .i64 0, .int .i64 0, .int .i64 0, .int .i64 0, .int .i64 0, .int .u64 0, .int .i64 0, .int .i64 0, .int .i64 0] := (setRow_other y1 g5 w.heap.size (cel q V) (by omega)).trans K2
        have IL := (farNe (cs := (cel q V)) (hfN.imp id fun ⟨g4, e, h, _⟩ => ⟨g4, e, h⟩) IL).more (Nat.le_of_eq (size_setRow y1 g5 (cel q V)).symm)
        have BX := below_setRow BX (Nat.le_of_lt hg5) (cel q V)
        generalize y1.setRow g5 (cel q V) = y2 at *
        by_cases hec : ec = 0
        · subst hec
          have HZ : Hid (R = (q, 0)) := Lib.hid (HE4b.out (by first | rfl | trivial))
          go_wp2_with (first | (refine wpList_store_row rfl 33 (.tmp 2) _ rfl w.heap.size (cel q V) rfl rfl 33 _ K2 (by kernel_rfl) rfl H6 ?_) | (refine wpList_load_row rfl 33 (.tmp 5) rfl g5 rfl 33 _ (0, 0) _ P5 Tryd.underlying33 rfl (by kernel_rfl) ?_))
          have KR : Blk (y2.setRow w.heap.size (cel q V)) w.heap.size 33 (cel q V) := setRow_heap y2 w.heap.size _ (cel q V) 33 (0, 0) K2
          have BE := below_setRow BX (Nat.le_refl _) (cel q V)
          have IL := (farNe (cs := (cel q V)) (hfN.imp id fun ⟨g4, e, _, h⟩ => ⟨g4, e, Nat.ne_of_gt h⟩) IL).more (Nat.le_of_eq (size_setRow y2 w.heap.size (cel q V)).symm)
          generalize y2.setRow w.heap.size (cel q V) = Y at *
          have HL := run_loadVar_row (P := Tryd.prog) Y w.heap.size 33 33 (cel q V) (0, 0) _ KR Tryd.underlying33 rfl (by kernel_rfl)
          have HD : Decd w Y (.returned (.tuple #[.agg (cel q V), .int .i64 0])) (q, 0) := by
            rcases hV with ⟨rfl, hd⟩ | ⟨rfl, hd⟩
            · exact ⟨none, 0, by rw [hd]; rfl, by rw [hd]; exact Nat.le_refl _, by rw [hd]; exact .inl rfl, BE⟩
            · exact ⟨A', c', by rw [hd], by rw [hd]; exact hcap, by rw [hd]; exact IL, BE⟩
          refine bodyPost_ret (v := .tuple #[.agg (cel q V), .int .i64 0]) ?_ rfl (by rw [HZ.out]; exact HD)
          clear HD hV H6
          generalize (cel q V) = CS at *
          simp [results, show (Tryd.f16).results = #[.cell 2 33, .slot 3] from rfl, asAddr, HL, Act.put]
        · have HZ : Hid (R = (zp, ec)) := Lib.hid (HE3b.out hec)
          have g9 : (ec != 0) = true := by simpa using hec
          have H1 : (#[.int .i64 0, .int .i64 0, .int .u64 0, .int .i64 0, .int .u64 0, .slice none 0 0, .int .u32 0, .int .u32 0, .int .i64 0, .int .i64 0, .int .i64 0, .int .i64 0, .int .i64 0, .int .u64 0, .int .i64 0, .int .i64 0, .int .i64 0] : Array Value).all (·.oneCell') = true := by rw [← Array.all_toList]; rfl
          go_wp2_with (refine wpList_store_row rfl 33 (.tmp 2) _ rfl w.heap.size #[.int .i64 0, .int .i64 0, .int .u64 0, .int .i64 0, .int .u64 0, .slice none 0 0, .int .u32 0, .int .u32 0, .int .i64 0, .int .i64 0, .int .i64 0, .int .i64 0, .int .i64 0, .int .u64 0, .int .i64 0, .int .i64 0, .int .i64 0] rfl rfl 33 _ K2 (by kernel_rfl) rfl H1 ?_)
          have KR : Blk (y2.setRow w.heap.size #[.int .i64 0, .int .i64 0, .int .u64 0, .int .i64 0, .int .u64 0, .slice none 0 0, .int .u32 0, .int .u32 0, .int .i64 0, .int .i64 0, .int .i64 0, .int .i64 0, .int .i64 0, .int .u64 0, .int .i64 0, .int .i64 0, .int .i64 0]) w.heap.size 33 #[.int .i64 0, .int .i64 0, .int .u64 0, .int .i64 0, .int .u64 0, .slice none 0 0, .int .u32 0, .int .u32 0, .int .i64 0, .int .i64 0, .int .i64 0, .int .i64 0, .int .i64 0, .int .u64 0, .int .i64 0, .int .i64 0, .int .i64 0] := setRow_heap y2 w.heap.size _ #[.int .i64 0, .int .i64 0, .int .u64 0, .int .i64 0, .int .u64 0, .slice none 0 0, .int .u32 0, .int .u32 0, .int .i64 0, .int .i64 0, .int .i64 0, .int .i64 0, .int .i64 0, .int .u64 0, .int .i64 0, .int .i64 0, .int .i64 0] 33 (0, 0) K2
          have BE := below_setRow BX (Nat.le_refl _) #[.int .i64 0, .int .i64 0, .int .u64 0, .int .i64 0, .int .u64 0, .slice none 0 0, .int .u32 0, .int .u32 0, .int .i64 0, .int .i64 0, .int .i64 0, .int .i64 0, .int .i64 0, .int .u64 0, .int .i64 0, .int .i64 0, .int .i64 0]
          generalize y2.setRow w.heap.size #[.int .i64 0, .int .i64 0, .int .u64 0, .int .i64 0, .int .u64 0, .slice none 0 0, .int .u32 0, .int .u32 0, .int .i64 0, .int .i64 0, .int .i64 0, .int .i64 0, .int .i64 0, .int .u64 0, .int .i64 0, .int .i64 0, .int .i64 0] = Y at *
          refine bodyPost_ret (v := .tuple #[.agg #[.int .i64 0, .int .i64 0, .int .u64 0, .int .i64 0, .int .u64 0, .slice none 0 0, .int .u32 0, .int .u32 0, .int .i64 0, .int .i64 0, .int .i64 0, .int .i64 0, .int .i64 0, .int .u64 0, .int .i64 0, .int .i64 0, .int .i64 0], .int .i64 ec]) ?_ rfl ⟨none, 0, (by rw [HZ.out]; rfl), (by rw [HZ.out]; exact Nat.le_refl _), (by rw [HZ.out]; exact .inl rfl), BE⟩
          have HL := run_loadVar_row (P := Tryd.prog) Y w.heap.size 33 33 #[.int .i64 0, .int .i64 0, .int .u64 0, .int .i64 0, .int .u64 0, .slice none 0 0, .int .u32 0, .int .u32 0, .int .i64 0, .int .i64 0, .int .i64 0, .int .i64 0, .int .i64 0, .int .u64 0, .int .i64 0, .int .i64 0, .int .i64 0] (0, 0) _ KR Tryd.underlying33 rfl (by kernel_rfl)
          generalize (#[.int .i64 0, .int .i64 0, .int .u64 0, .int .i64 0, .int .u64 0, .slice none 0 0, .int .u32 0, .int .u32 0, .int .i64 0, .int .i64 0, .int .i64 0, .int .i64 0, .int .i64 0, .int .u64 0, .int .i64 0, .int .i64 0, .int .i64 0] : Array Value) = CS at *
          simp [results, show (Tryd.f16).results = #[.cell 2 33, .slot 3] from rfl, asAddr, HL, Act.put]
      · have g7 : (x != F) = true := by simpa using hf
        have HZ : Hid (R = (zp, 2)) := Lib.hid (HE2a.out hf)
        clear HE1 HE2a HE3a HE4a hf
        go_wp2_with fail
        refine wp_region_held_drew (S := (fun w' => w'.cell? ⟨b, off, none⟩ = some (.int .u8 x) ∧ Cel w' g5 (x % 16) sk sb tk tb (.slice none 0 0))) (by kernel_rfl) ?_ (fun hHeld => ?_)
        · exact TT
        have TT : wc.drew.cell? ⟨b, off, none⟩ = some (.int .u8 x) ∧ Cel wc.drew g5 (x % 16) sk sb tk tb (.slice none 0 0) := TT
        have BX : Below w.heap.size w wc.drew := BX.drew
        have K2 : Blk wc.drew w.heap.size 33 #[.int .i64 0, .int .i64 0, .int .u64 0, .int .i64 0, .int .u64 0, .slice none 0 0, .int .u32 0, .int .u32 0, .int .i64 0, .int .i64 0, .int .i64 0, .int .i64 0, .int .i64 0, .int .u64 0, .int .i64 0, .int .i64 0, .int .i64 0] := K2
        have P5 : Blk wc.drew g5 33 #[.int .i64 (x % 16), .int .i64 sk, .int .u64 sb, .int .i64 tk, .int .u64 tb, .slice none 0 0, .int .u32 0, .int .u32 0, .int .i64 0, .int .i64 0, .int .i64 0, .int .i64 0, .int .i64 0, .int .u64 0, .int .i64 0, .int .i64 0, .int .i64 0] := P5
        have IL : Ints .u8 wc.drew wc.drew.heap.size A' L := IL
        generalize wc.drew = Z0 at *
        refine wpAnyH_take (i := 0) (v := .slice (some ⟨b, off, none⟩) n c) rfl (by kernel_rfl) (by kernel_rfl) (by kernel_rfl) (fun _ _ _ h => h) (Or.inl ⟨by first | rfl | go_simp, by intro w9 hSw; (try dsimp only at hSw); go_simp⟩) (by assumption) ?_
        simp only [List.getElem_toArray, List.getElem_cons_zero, List.getElem_cons_succ, Act.put, List.setIfInBounds_toArray, List.set_cons_zero, List.set_cons_succ]
        refine wpAnyH_take (i := 1) (v := .pointer (some ⟨b, off, none⟩)) rfl (by kernel_rfl) (by kernel_rfl) (by kernel_rfl) (fun _ _ _ h => h) (Or.inl ⟨by first | rfl | go_simp, by intro w9 hSw; (try dsimp only at hSw); go_simp⟩) (by assumption) ?_
        simp only [List.getElem_toArray, List.getElem_cons_zero, List.getElem_cons_succ, Act.put, List.setIfInBounds_toArray, List.set_cons_zero, List.set_cons_succ]
        refine wpAnyH_take (i := 2) (v := .int .u8 x) rfl (by kernel_rfl) (by kernel_rfl) (by kernel_rfl) (fun _ _ _ h => h) (Or.inl ⟨by first | rfl | go_simp, by intro w9 hSw; (try dsimp only at hSw); go_simp⟩) (by assumption) ?_
        simp only [List.getElem_toArray, List.getElem_cons_zero, List.getElem_cons_succ, Act.put, List.setIfInBounds_toArray, List.set_cons_zero, List.set_cons_succ]
        refine wpAnyH_take (i := 3) (v := .agg #[.int .i64 (x % 16), .int .i64 sk, .int .u64 sb, .int .i64 tk, .int .u64 tb, .slice none 0 0, .int .u32 0, .int .u32 0, .int .i64 0, .int .i64 0, .int .i64 0, .int .i64 0, .int .i64 0, .int .u64 0, .int .i64 0, .int .i64 0, .int .i64 0]) rfl (by kernel_rfl) (by kernel_rfl) (by kernel_rfl) (fun _ _ _ h => h) (Or.inl ⟨by first | rfl | go_simp, by intro w9 hSw; (try dsimp only at hSw); go_simp⟩) (by assumption) ?_
        simp only [List.getElem_toArray, List.getElem_cons_zero, List.getElem_cons_succ, Act.put, List.setIfInBounds_toArray, List.set_cons_zero, List.set_cons_succ]
        refine wpAnyH_ready (rs := [4]) (by kernel_rfl) (by simp) ?_
        refine AllReadyH.cons rfl (fun K hK => ?_) (AllReadyH.nil)
        go_simp
        refine (HF0.out Z0).mono ?_
        rintro e Z1 ⟨rfl, b9⟩
        have TT := And.intro ((b9.cell (p := ⟨b, off, none⟩) (block_lt_of_cell TT.1)).trans TT.1) (cel_below TT.2 b9)
        have BX := thenB BX b9
        have K2 := K2.below b9 K2.lt
        have P5 := P5.below b9 P5.lt
        have IL := Base.later IL b9
        refine hK.out _ _ TT (fun hHeld => ?_)
        clear hK K
        try simp only [List.getElem_toArray, List.getElem_cons_zero, List.getElem_cons_succ, Act.put, List.setIfInBounds_toArray, List.set_cons_zero, List.set_cons_succ]
        refine wpAnyH_take (i := 5) (v := .bool true) rfl (by kernel_rfl) (by kernel_rfl) (by kernel_rfl) (fun _ _ _ h => h) (Or.inl ⟨by first | rfl | go_simp, by intro w9 hSw; (try dsimp only at hSw); go_simp⟩) (by assumption) ?_
        simp only [List.getElem_toArray, List.getElem_cons_zero, List.getElem_cons_succ, Act.put, List.setIfInBounds_toArray, List.set_cons_zero, List.set_cons_succ]
        refine wpAnyH_done (by kernel_rfl) ?_ _
        have H1 : (#[.int .i64 0, .int .i64 0, .int .u64 0, .int .i64 0, .int .u64 0, .slice none 0 0, .int .u32 0, .int .u32 0, .int .i64 0, .int .i64 0, .int .i64 0, .int .i64 0, .int .i64 0, .int .u64 0, .int .i64 0, .int .i64 0, .int .i64 0] : Array Value).all (·.oneCell') = true := by rw [← Array.all_toList]; rfl
        go_wp2_with (refine wpList_store_row rfl 33 (.tmp 2) _ rfl w.heap.size #[.int .i64 0, .int .i64 0, .int .u64 0, .int .i64 0, .int .u64 0, .slice none 0 0, .int .u32 0, .int .u32 0, .int .i64 0, .int .i64 0, .int .i64 0, .int .i64 0, .int .i64 0, .int .u64 0, .int .i64 0, .int .i64 0, .int .i64 0] rfl rfl 33 _ K2 (by kernel_rfl) rfl H1 ?_)
        have KR : Blk (Z1.setRow w.heap.size #[.int .i64 0, .int .i64 0, .int .u64 0, .int .i64 0, .int .u64 0, .slice none 0 0, .int .u32 0, .int .u32 0, .int .i64 0, .int .i64 0, .int .i64 0, .int .i64 0, .int .i64 0, .int .u64 0, .int .i64 0, .int .i64 0, .int .i64 0]) w.heap.size 33 #[.int .i64 0, .int .i64 0, .int .u64 0, .int .i64 0, .int .u64 0, .slice none 0 0, .int .u32 0, .int .u32 0, .int .i64 0, .int .i64 0, .int .i64 0, .int .i64 0, .int .i64 0, .int .u64 0, .int .i64 0, .int .i64 0, .int .i64 0] := setRow_heap Z1 w.heap.size _ #[.int .i64 0, .int .i64 0, .int .u64 0, .int .i64 0, .int .u64 0, .slice none 0 0, .int .u32 0, .int .u32 0, .int .i64 0, .int .i64 0, .int .i64 0, .int .i64 0, .int .i64 0, .int .u64 0, .int .i64 0, .int .i64 0, .int .i64 0] 33 (0, 0) K2
        have BE := below_setRow BX (Nat.le_refl _) #[.int .i64 0, .int .i64 0, .int .u64 0, .int .i64 0, .int .u64 0, .slice none 0 0, .int .u32 0, .int .u32 0, .int .i64 0, .int .i64 0, .int .i64 0, .int .i64 0, .int .i64 0, .int .u64 0, .int .i64 0, .int .i64 0, .int .i64 0]
        generalize Z1.setRow w.heap.size #[.int .i64 0, .int .i64 0, .int .u64 0, .int .i64 0, .int .u64 0, .slice none 0 0, .int .u32 0, .int .u32 0, .int .i64 0, .int .i64 0, .int .i64 0, .int .i64 0, .int .i64 0, .int .u64 0, .int .i64 0, .int .i64 0, .int .i64 0] = Y at *
        refine bodyPost_ret (v := .tuple #[.agg #[.int .i64 0, .int .i64 0, .int .u64 0, .int .i64 0, .int .u64 0, .slice none 0 0, .int .u32 0, .int .u32 0, .int .i64 0, .int .i64 0, .int .i64 0, .int .i64 0, .int .i64 0, .int .u64 0, .int .i64 0, .int .i64 0, .int .i64 0], .int .i64 2]) ?_ rfl ⟨none, 0, (by rw [HZ.out]; rfl), (by rw [HZ.out]; exact Nat.le_refl _), (by rw [HZ.out]; exact .inl rfl), BE⟩
        have HL := run_loadVar_row (P := Tryd.prog) Y w.heap.size 33 33 #[.int .i64 0, .int .i64 0, .int .u64 0, .int .i64 0, .int .u64 0, .slice none 0 0, .int .u32 0, .int .u32 0, .int .i64 0, .int .i64 0, .int .i64 0, .int .i64 0, .int .i64 0, .int .u64 0, .int .i64 0, .int .i64 0, .int .i64 0] (0, 0) _ KR Tryd.underlying33 rfl (by kernel_rfl)
        generalize (#[.int .i64 0, .int .i64 0, .int .u64 0, .int .i64 0, .int .u64 0, .slice none 0 0, .int .u32 0, .int .u32 0, .int .i64 0, .int .i64 0, .int .i64 0, .int .i64 0, .int .i64 0, .int .u64 0, .int .i64 0, .int .i64 0, .int .i64 0] : Array Value) = CS at *
        simp [results, show (Tryd.f16).results = #[.cell 2 33, .slot 3] from rfl, asAddr, HL, Act.put]
    · have HZ : Hid (R = (zp, er)) := Lib.hid (HE1.out he)
      have g8 : (er != 0) = true := by simpa using he
      have H1 : (#[.int .i64 0, .int .i64 0, .int .u64 0, .int .i64 0, .int .u64 0, .slice none 0 0, .int .u32 0, .int .u32 0, .int .i64 0, .int .i64 0, .int .i64 0, .int .i64 0, .int .i64 0, .int .u64 0, .int .i64 0, .int .i64 0, .int .i64 0] : Array Value).all (·.oneCell') = true := by rw [← Array.all_toList]; rfl
      go_wp2_with (refine wpList_store_row rfl 33 (.tmp 2) _ rfl w.heap.size #[.int .i64 0, .int .i64 0, .int .u64 0, .int .i64 0, .int .u64 0, .slice none 0 0, .int .u32 0, .int .u32 0, .int .i64 0, .int .i64 0, .int .i64 0, .int .i64 0, .int .i64 0, .int .u64 0, .int .i64 0, .int .i64 0, .int .i64 0] rfl rfl 33 _ K2 (by kernel_rfl) rfl H1 ?_)
      have KR : Blk (wc.setRow w.heap.size #[.int .i64 0, .int .i64 0, .int .u64 0, .int .i64 0, .int .u64 0, .slice none 0 0, .int .u32 0, .int .u32 0, .int .i64 0, .int .i64 0, .int .i64 0, .int .i64 0, .int .i64 0, .int .u64 0, .int .i64 0, .int .i64 0, .int .i64 0]) w.heap.size 33 #[.int .i64 0, .int .i64 0, .int .u64 0, .int .i64 0, .int .u64 0, .slice none 0 0, .int .u32 0, .int .u32 0, .int .i64 0, .int .i64 0, .int .i64 0, .int .i64 0, .int .i64 0, .int .u64 0, .int .i64 0, .int .i64 0, .int .i64 0] := setRow_heap wc w.heap.size _ #[.int .i64 0, .int .i64 0, .int .u64 0, .int .i64 0, .int .u64 0, .slice none 0 0, .int .u32 0, .int .u32 0, .int .i64 0, .int .i64 0, .int .i64 0, .int .i64 0, .int .i64 0, .int .u64 0, .int .i64 0, .int .i64 0, .int .i64 0] 33 (0, 0) K2
      have BE := below_setRow BX (Nat.le_refl _) #[.int .i64 0, .int .i64 0, .int .u64 0, .int .i64 0, .int .u64 0, .slice none 0 0, .int .u32 0, .int .u32 0, .int .i64 0, .int .i64 0, .int .i64 0, .int .i64 0, .int .i64 0, .int .u64 0, .int .i64 0, .int .i64 0, .int .i64 0]
      generalize wc.setRow w.heap.size #[.int .i64 0, .int .i64 0, .int .u64 0, .int .i64 0, .int .u64 0, .slice none 0 0, .int .u32 0, .int .u32 0, .int .i64 0, .int .i64 0, .int .i64 0, .int .i64 0, .int .i64 0, .int .u64 0, .int .i64 0, .int .i64 0, .int .i64 0] = Y at *
      refine bodyPost_ret (v := .tuple #[.agg #[.int .i64 0, .int .i64 0, .int .u64 0, .int .i64 0, .int .u64 0, .slice none 0 0, .int .u32 0, .int .u32 0, .int .i64 0, .int .i64 0, .int .i64 0, .int .i64 0, .int .i64 0, .int .u64 0, .int .i64 0, .int .i64 0, .int .i64 0], .int .i64 er]) ?_ rfl ⟨none, 0, (by rw [HZ.out]; rfl), (by rw [HZ.out]; exact Nat.le_refl _), (by rw [HZ.out]; exact .inl rfl), BE⟩
      have HL := run_loadVar_row (P := Tryd.prog) Y w.heap.size 33 33 #[.int .i64 0, .int .i64 0, .int .u64 0, .int .i64 0, .int .u64 0, .slice none 0 0, .int .u32 0, .int .u32 0, .int .i64 0, .int .i64 0, .int .i64 0, .int .i64 0, .int .i64 0, .int .u64 0, .int .i64 0, .int .i64 0, .int .i64 0] (0, 0) _ KR Tryd.underlying33 rfl (by kernel_rfl)
      generalize (#[.int .i64 0, .int .i64 0, .int .u64 0, .int .i64 0, .int .u64 0, .slice none 0 0, .int .u32 0, .int .u32 0, .int .i64 0, .int .i64 0, .int .i64 0, .int .i64 0, .int .i64 0, .int .u64 0, .int .i64 0, .int .i64 0, .int .i64 0] : Array Value) = CS at *
      simp [results, show (Tryd.f16).results = #[.cell 2 33, .slot 3] from rfl, asAddr, HL, Act.put]
end Go.Proofs.YtcjlliilfecmnaaDoor.Ap
