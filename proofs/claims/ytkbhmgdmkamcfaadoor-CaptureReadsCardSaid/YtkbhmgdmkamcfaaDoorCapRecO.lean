/- A good record is kept. -/
import Derived.Test.YtkbhmgdmkamcfaaDoorCapRec
set_option linter.unusedVariables false
set_option linter.unusedSimpArgs false
namespace Go.Proofs.YtkbhmgdmkamcfaaDoor.Cap
open Go.RowKit Mem Rw Air Base Oct

set_option maxRecDepth 100000 in
set_option maxHeartbeats 8000000 in
theorem rec_ok (g n c b off : Nat) (k : Int) (RA : Option Addr) (rn rc base : Nat) (l : List Tx) (zs : List Int) (w : World) (h : Rdr w g (some ⟨b, off, none⟩) n c k (.slice RA rn rc)) (hz : zs.length = n) (hnc : n ≤ c) (hc : c ≤ 9223372036854775807) (hk : 0 ≤ k ∧ k + (n : Int) ≤ 140737488351232) (bz : Bytes zs) (hi : Ints .u8 w w.heap.size (some ⟨b, off, none⟩) zs) (hT : Crc.Tab w) (h13 : 13 ≤ n) (hl : ¬ 260 < lenZ (zs.take 13)) (hs : 16 + recN zs ≤ n) (hb : (bodZ zs).2 = 0) (hgb : g < base) (hbw : base ≤ w.heap.size) (hrn : rn ≤ 4000) (hkp : Kept w base RA rn rc l) (pv : Option Int)
    (hpv : match pv with | none => rn = 0 | some p => 0 < rn ∧ ∃ b off, RA = some ⟨b, off, none⟩ ∧ b < w.heap.size ∧ w.cell? ⟨b, off + (rn - 1) * 5, none⟩ = some (.int .i64 p)) (hcz : chkC pv (decR (bodZ zs).1) = 0) :
    Calls Tryd.prog 40 #[.pointer (some ⟨g, 0, none⟩)] w fun e w' => e = .returned (.tuple #[]) ∧ Left w w' g base b off n c (16 + recN zs) k rn l (decR (bodZ zs).1) := by
  obtain ⟨iT, hiT, hzT, hsT, hbT, hc0⟩ := info_parts2 info_tx rfl
  obtain ⟨m, hm⟩ : ∃ m, recN zs = m := ⟨_, rfl⟩
  have hlm : lenZ (zs.take 13) = (m : Int) := by
    have := nm4_bd (bytes_take bz 13); rw [lenZ_eq (bytes_take bz 13)]; unfold recN at hm; rw [lenZ_eq (bytes_take bz 13)] at hm; omega
  obtain ⟨M, hM⟩ : ∃ M, M = 13 + m := ⟨_, rfl⟩
  obtain ⟨N, hNe⟩ : ∃ N, N = 16 + m := ⟨_, rfl⟩
  have hm260 : m ≤ 260 := by omega
  have HwN : Hid (13 + (m : Int) + 3 = (N : Int)) := Lib.hid (by omega)
  have HL : Hid (Calls Tryd.prog 63 #[.pointer (some ⟨g, 0, none⟩)] w fun e w' => e = .returned (.int .i64 (m : Int)) ∧ Below w.heap.size w w') := Lib.hid (by
    have := len_ok g n c _ k _ zs w h hz h13 hnc hc bz hi (by omega)
    rw [hlm] at this; exact this)
  have HNx : Hid (∀ w', Below w.heap.size w w' → Calls Tryd.prog 60 #[.pointer (some ⟨g, 0, none⟩), .int .i64 (13 + (m : Int) + 3)] w' fun e w2 => e = .returned (.slice (some ⟨b, off, none⟩) N c) ∧ w' = w2) := Lib.hid fun w' bb => HwN.out ▸ next_ok g n c N _ k _ w' (h.below bb h.lt) (by omega) hnc hc
  have HCr : Hid (∀ w', Below w.heap.size w w' → Calls Tryd.prog 64 #[.int .u32 0, .slice (some ⟨b, off, none⟩) N c] w' fun e w2 => Crc.Gives w' w2 e (bodZ zs)) := Lib.hid fun w' bb => by
    have hN16 : 16 + recN zs = N := by omega
    unfold bodZ
    rw [hN16]
    exact Crc.check_any 0 (some ⟨b, off, none⟩) N c (zs.take N) w' (by decide) (by rw [List.length_take]; omega) (by omega) (bytes_take bz N) (later (ints_take hi N) bb) (by omega) (hT.below bb)
  have hBl := bodZ_len (by omega) hb
  have hBb : Bytes (bodZ zs).1 := chkR_bytes _ (bytes_take bz _)
  have hN : N ≤ n := by omega
  have hds : (bodZ zs).1.drop 13 = (decR (bodZ zs).1).bs := rfl
  rw [hm] at hBl
  rw [hm, ← hNe]
  have HBL : Hid ((decR (bodZ zs).1).bs.length = M - 13) := Lib.hid (by rw [← hds, List.length_drop]; omega)
  have HDc : Hid (∀ (w' : World) (BA : Option Addr) (bcc : Nat), M ≤ bcc → Ints .u8 w' w'.heap.size BA (bodZ zs).1 → Calls Tryd.prog 65 #[.slice BA M bcc] w' fun e w2 => ∃ bA bc, e = .returned (.agg #[.int .i64 (decR (bodZ zs).1).id, .int .i64 (decR (bodZ zs).1).frm, .int .i64 (decR (bodZ zs).1).ch, .int .i64 (decR (bodZ zs).1).st, .slice bA (M - 13) bc]) ∧ w2.ownsRow (w'.heap.size + 1) 5 1 (.slice bA (M - 13) bc) (M - 13) ((decR (bodZ zs).1).bs.map (Value.int .u8)) ∧ Below w'.heap.size w' w2) := Lib.hid fun w' BA bcc hcp ib => by
    rw [← hds]
    exact decode_any BA M bcc (bodZ zs).1 w' (by omega) (by omega) hcp (by omega) hBb ib
  have HChk : Hid (∀ (w' : World) (bA : Option Addr) (bc : Nat), Below w.heap.size w w' → Calls Tryd.prog 34 #[.agg #[.int .i64 (decR (bodZ zs).1).id, .int .i64 (decR (bodZ zs).1).frm, .int .i64 (decR (bodZ zs).1).ch, .int .i64 (decR (bodZ zs).1).st, .slice bA (M - 13) bc], .slice RA rn rc] w' fun e w2 => e = .returned (.int .i64 (chkC pv (decR (bodZ zs).1))) ∧ Below w'.heap.size w' w2) := Lib.hid fun w' bA bc bb => by
    refine check_any _ _ _ _ bA RA (M - 13) bc rn rc (decR (bodZ zs).1).bs pv w' HBL.out (by omega) ?_
    revert hpv
    cases pv with
    | none => exact id
    | some p =>
      rintro ⟨q1, b', off', q2, q3, q4⟩
      exact ⟨q1, b', off', q2, Nat.lt_of_lt_of_le q3 bb.size, (bb.cell (p := ⟨b', off' + (rn - 1) * 5, none⟩) q3).trans q4⟩
  obtain ⟨b0, hq⟩ : ∃ q, (bodZ zs).1 = q := ⟨_, rfl⟩
  have HB0 : Hid (∀ (w' : World), Below w.heap.size w w' → Calls Tryd.prog 64 #[.int .u32 0, .slice (some ⟨b, off, none⟩) N c] w' fun e w2 => ∃ BA bcc, e = .returned (.tuple #[.slice BA M bcc, .int .i64 0]) ∧ M ≤ bcc ∧ Ints .u8 w2 w2.heap.size BA (bodZ zs).1 ∧ Below w'.heap.size w' w2) := Lib.hid fun w' bb => (HCr.out w' bb).mono fun e w2 h => by
    obtain ⟨BA, bcc, he, h1, h2, h3⟩ := h
    rw [hBl, hb, ← hM] at he
    exact ⟨BA, bcc, he, by omega, h2, h3⟩
  clear HCr
  generalize hcq : chkC pv (decR (bodZ zs).1) = cz at *
  generalize (bodZ zs).1 = body at *
  generalize hrr : decR body = r at *
  obtain ⟨p0, p1, p2, p3, bs⟩ := r
  simp only at HDc HChk HBL
  subst hcz
  have HSt : Hid (∀ w', Calls Tryd.prog 61 #[.int .i64 0] w' fun e w2 => e = .returned (.tuple #[]) ∧ w' = w2) := Lib.hid fun w' => stop_ok w'
  have HBS : Hid ((⟨p0, p1, p2, p3, bs⟩ : Tr) = ⟨p0, p1, p2, p3, bs⟩) := Lib.hid rfl
  have HML : bs.length = M - 13 ∧ M - 13 ≤ 260 := ⟨HBL.out, by omega⟩
  have HS0 : Hid (∀ w', Calls Tryd.prog 61 #[.int .i64 0] w' fun e w2 => e = .returned (.tuple #[]) ∧ w' = w2) := Lib.hid fun w' => stop_ok w'
  have HRd : Hid (∀ X, Below w.heap.size w X → Rdr X g (some ⟨b, off, none⟩) n c k (.slice RA rn rc)) := Lib.hid fun X bb => h.below bb h.lt
  have HKp : Hid (∀ X, Below w.heap.size w X → Kept X base RA rn rc l) := Lib.hid fun X bb => hkp.below bb
  clear hNe hM h hz bz hi h13 hl hs hT hBl hBb hds hpv hkp hrr hcq hq b0 HBL hlm hm 
  go_enter Tryd.func40, Tryd.ntmps40
  go_wp2_with (first
    | (go_at_call 63; refine HL.out.mono ?_; rintro e w1 ⟨rfl, b1⟩)
    | (go_at_call 60; refine (HNx.out _ b1).mono ?_; rintro e w2 ⟨rfl, rfl⟩)
    | (go_at_call 64; refine (HB0.out _ b1).mono ?_; rintro e w3 ⟨BA, bcc, rfl, hcp, i3, b3⟩; have b13 := thenB b1 b3)
    | (go_at_call 61; refine (HS0.out _).mono ?_; rintro e w5 ⟨rfl, rfl⟩)
    | (go_at_call 65; refine (HDc.out _ BA bcc hcp i3).mono ?_; rintro e w4 ⟨bA, bc, rfl, hO, b4⟩))
  have BW4 := thenB b13 b4
  have NW4 : w4.ownsRow base 5 1 (.slice bA (M - 13) bc) (M - 13) (bs.map (Value.int .u8)) := own_base hO (by have := b13.size; omega)
  have BWV : Below w.heap.size w (w4.alloc (.cells #[.int .i64 p0, .int .i64 p1, .int .i64 p2, .int .i64 p3, .slice bA (M - 13) bc] 52)) := thenB BW4 ((Below.refl _ w4).alloc (Nat.le_refl _) _)
  have NWV := NW4.alloc (.cells #[.int .i64 p0, .int .i64 p1, .int .i64 p2, .int .i64 p3, .slice bA (M - 13) bc] 52)
  have TV := Blk.fresh w4 52 #[.int .i64 p0, .int .i64 p1, .int .i64 p2, .int .i64 p3, .slice bA (M - 13) bc]
  have HCh : Hid (∀ w', Below w.heap.size w w' → Calls Tryd.prog 34 #[.agg #[.int .i64 p0, .int .i64 p1, .int .i64 p2, .int .i64 p3, .slice bA (M - 13) bc], .slice RA rn rc] w' fun e w2 => e = .returned (.int .i64 0) ∧ Below w'.heap.size w' w2) := Lib.hid fun w' bb => HChk.out w' bA bc bb
  clear HChk NW4 hO i3 b1 b3 b4 b13 BW4 HDc HB0 HNx HL HS0
  generalize w4.heap.size = rb at *
  generalize w4.alloc (.cells #[.int .i64 p0, .int .i64 p1, .int .i64 p2, .int .i64 p3, .slice bA (M - 13) bc] 52) = V at *
  have HK : Hid (∀ X, Below V.heap.size V X → X.cell? ⟨rb, 0, none⟩ = some (.int .i64 p0) ∧ X.cell? ⟨rb, 1, none⟩ = some (.int .i64 p1) ∧ X.cell? ⟨rb, 2, none⟩ = some (.int .i64 p2) ∧ X.cell? ⟨rb, 3, none⟩ = some (.int .i64 p3) ∧ X.cell? ⟨rb, 4, none⟩ = some (.slice bA (M - 13) bc) ∧ X.cell? ⟨g, 2, none⟩ = some (.slice RA rn rc)) := Lib.hid fun X bb => by
    have T := TV.below bb TV.lt
    obtain ⟨r0, r1, r2, r3, r4, _⟩ := blk_five T
    exact ⟨r0, r1, r2, r3, r4, (rdr_cells (HRd.out _ (thenB BWV bb))).2.2.1⟩
  have HNW : Hid (∀ X, Below V.heap.size V X → X.ownsRow base 5 1 (.slice bA (M - 13) bc) (M - 13) (bs.map (Value.int .u8))) := Lib.hid fun X bb => own_below NWV bb
  have HTB : Hid (∀ X, Below V.heap.size V X → Blk X rb 52 #[.int .i64 p0, .int .i64 p1, .int .i64 p2, .int .i64 p3, .slice bA (M - 13) bc]) := Lib.hid fun X bb => TV.below bb TV.lt
  clear NWV TV
  go_wp2_with fail
  refine wp_region_held_drew (S := (fun w' => w'.cell? ⟨rb, 0, none⟩ = some (.int .i64 p0) ∧ w'.cell? ⟨rb, 1, none⟩ = some (.int .i64 p1) ∧ w'.cell? ⟨rb, 2, none⟩ = some (.int .i64 p2) ∧ w'.cell? ⟨rb, 3, none⟩ = some (.int .i64 p3) ∧ w'.cell? ⟨rb, 4, none⟩ = some (.slice bA (M - 13) bc) ∧ w'.cell? ⟨g, 2, none⟩ = some (.slice RA rn rc))) (by kernel_rfl) ?_ (fun hHeld => ?_)
  · exact HK.out _ (Below.refl _ _).drew
  have BX : Below V.heap.size V V.drew := (Below.refl _ _).drew
  generalize V.drew = X0 at *
  refine wpAnyH_take (i := 0) (v := .agg #[.int .i64 p0, .int .i64 p1, .int .i64 p2, .int .i64 p3, .slice bA (M - 13) bc]) rfl (by kernel_rfl) (by kernel_rfl) (by kernel_rfl) (fun _ _ _ h => h) (Or.inl ⟨by first | rfl | go_simp, by intro w9 hSw; (try dsimp only at hSw); go_simp⟩) (by assumption) ?_
  simp only [List.getElem_toArray, List.getElem_cons_zero, List.getElem_cons_succ, Act.put, List.setIfInBounds_toArray, List.set_cons_zero, List.set_cons_succ]
  refine wpAnyH_take (i := 1) (v := .pointer (some ⟨g, 0, none⟩)) rfl (by kernel_rfl) (by kernel_rfl) (by kernel_rfl) (fun _ _ _ h => h) (Or.inl ⟨by first | rfl | go_simp, by intro w9 hSw; (try dsimp only at hSw); go_simp⟩) (by assumption) ?_
  simp only [List.getElem_toArray, List.getElem_cons_zero, List.getElem_cons_succ, Act.put, List.setIfInBounds_toArray, List.set_cons_zero, List.set_cons_succ]
  refine wpAnyH_take (i := 2) (v := .pointer (some ⟨g, 0, none⟩)) rfl (by kernel_rfl) (by kernel_rfl) (by kernel_rfl) (fun _ _ _ h => h) (Or.inl ⟨by first | rfl | go_simp, by intro w9 hSw; (try dsimp only at hSw); go_simp⟩) (by assumption) ?_
  simp only [List.getElem_toArray, List.getElem_cons_zero, List.getElem_cons_succ, Act.put, List.setIfInBounds_toArray, List.set_cons_zero, List.set_cons_succ]
  refine wpAnyH_take (i := 3) (v := .pointer (some ⟨g, 2, none⟩)) rfl (by kernel_rfl) (by kernel_rfl) (by kernel_rfl) (fun _ _ _ h => h) (Or.inl ⟨by first | rfl | go_simp, by intro w9 hSw; (try dsimp only at hSw); go_simp⟩) (by assumption) ?_
  simp only [List.getElem_toArray, List.getElem_cons_zero, List.getElem_cons_succ, Act.put, List.setIfInBounds_toArray, List.set_cons_zero, List.set_cons_succ]
  refine wpAnyH_take (i := 4) (v := .slice RA rn rc) rfl (by kernel_rfl) (by kernel_rfl) (by kernel_rfl) (fun _ _ _ h => h) (Or.inl ⟨by first | rfl | go_simp, by intro w9 hSw; (try dsimp only at hSw); go_simp⟩) (by assumption) ?_
  simp only [List.getElem_toArray, List.getElem_cons_zero, List.getElem_cons_succ, Act.put, List.setIfInBounds_toArray, List.set_cons_zero, List.set_cons_succ]
  refine wpAnyH_ready (rs := [5]) (by kernel_rfl) (by simp) ?_
  refine AllReadyH.cons rfl (fun K hK => ?_) (AllReadyH.nil)
  go_simp
  refine (HCh.out _ (thenB BWV BX)).mono ?_
  rintro e X1 ⟨rfl, b1⟩
  have BX := thenB BX b1
  refine hK.out _ _ (HK.out _ BX) (fun hHeld => ?_)
  clear hK K
  try simp only [List.getElem_toArray, List.getElem_cons_zero, List.getElem_cons_succ, Act.put, List.setIfInBounds_toArray, List.set_cons_zero, List.set_cons_succ]
  refine wpAnyH_ready (rs := [6]) (by kernel_rfl) (by simp) ?_
  refine AllReadyH.cons rfl (fun K hK => ?_) (AllReadyH.nil)
  go_simp
  refine (HSt.out _).mono ?_
  rintro e X8 ⟨rfl, rfl⟩
  refine hK.out _ _ (HK.out _ BX) (fun hHeld => ?_)
  clear hK K
  try simp only [List.getElem_toArray, List.getElem_cons_zero, List.getElem_cons_succ, Act.put, List.setIfInBounds_toArray, List.set_cons_zero, List.set_cons_succ]
  refine wpAnyH_done (by kernel_rfl) ?_ _
  have RD : Rdr X1 g (some ⟨b, off, none⟩) n c k (.slice RA rn rc) := (HRd.out _ (thenB BWV BX))
  have KP : Kept X1 base RA rn rc l := HKp.out _ (thenB BWV BX)
  have NW := HNW.out _ BX
  have TB := HTB.out _ BX
  have HG : base ≤ X1.heap.size := Nat.le_trans hbw (thenB BWV BX).size
  have BX : Below base V X1 := BX.mono (Nat.le_trans hbw BWV.size)
  have hgb2 : g < base := hgb
  clear HK HCh HSt HTB HNW HKp HRd
  generalize X1 = X at *
  go_wp2_with fail
  refine wp_region_held_drew (S := (fun _ => True)) (by kernel_rfl) ?_ (fun hHeld => ?_)
  · trivial
  have BX : Below base V X.drew := BX.drew
  have RD : Rdr X.drew g (some ⟨b, off, none⟩) n c k (.slice RA rn rc) := RD
  have KP : Kept X.drew base RA rn rc l := KP.below (Below.refl _ _).drew
  have NW := own_below NW (Below.refl _ _).drew
  have TB := TB.below (Below.refl _ _).drew TB.lt
  have HG : base ≤ X.drew.heap.size := HG
  generalize X.drew = Y0 at *
  refine wpAnyH_take (i := 0) (v := .pointer (some ⟨g, 0, none⟩)) rfl (by kernel_rfl) (by kernel_rfl) (by kernel_rfl) (fun _ _ _ h => h) (Or.inl ⟨by first | rfl | go_simp, by intro w9 hSw; (try dsimp only at hSw); go_simp⟩) (by assumption) ?_
  simp only [List.getElem_toArray, List.getElem_cons_zero, List.getElem_cons_succ, Act.put, List.setIfInBounds_toArray, List.set_cons_zero, List.set_cons_succ]
  refine wpAnyH_take (i := 1) (v := .pointer (some ⟨g, 0, none⟩)) rfl (by kernel_rfl) (by kernel_rfl) (by kernel_rfl) (fun _ _ _ h => h) (Or.inl ⟨by first | rfl | go_simp, by intro w9 hSw; (try dsimp only at hSw); go_simp⟩) (by assumption) ?_
  simp only [List.getElem_toArray, List.getElem_cons_zero, List.getElem_cons_succ, Act.put, List.setIfInBounds_toArray, List.set_cons_zero, List.set_cons_succ]
  refine wpAnyH_take (i := 2) (v := .pointer (some ⟨g, 0, none⟩)) rfl (by kernel_rfl) (by kernel_rfl) (by kernel_rfl) (fun _ _ _ h => h) (Or.inl ⟨by first | rfl | go_simp, by intro w9 hSw; (try dsimp only at hSw); go_simp⟩) (by assumption) ?_
  simp only [List.getElem_toArray, List.getElem_cons_zero, List.getElem_cons_succ, Act.put, List.setIfInBounds_toArray, List.set_cons_zero, List.set_cons_succ]
  refine wpAnyH_take (i := 3) (v := .pointer (some ⟨g, 2, none⟩)) rfl (by kernel_rfl) (by kernel_rfl) (by kernel_rfl) (fun _ _ _ h => h) (Or.inl ⟨by first | rfl | go_simp, by intro w9 hSw; (try dsimp only at hSw); go_simp⟩) (by assumption) ?_
  simp only [List.getElem_toArray, List.getElem_cons_zero, List.getElem_cons_succ, Act.put, List.setIfInBounds_toArray, List.set_cons_zero, List.set_cons_succ]
  refine wpAnyH_ready (rs := [4, 5]) (by kernel_rfl) (by simp) ?_
  refine AllReadyH.cons rfl (fun K hK => ?_) (AllReadyH.cons rfl (fun K hK => ?_) (AllReadyH.nil))
  · skip
    have h2 := (rdr_cells RD).2.2.1
    go_simp
    refine hK.out _ _ trivial (fun hHeld => ?_)
    clear hK K
    try simp only [List.getElem_toArray, List.getElem_cons_zero, List.getElem_cons_succ, Act.put, List.setIfInBounds_toArray, List.set_cons_zero, List.set_cons_succ]
    refine wpAnyH_ready (rs := [5]) (by kernel_rfl) (by simp) ?_
    refine AllReadyH.cons rfl (fun K hK => ?_) (AllReadyH.nil)
    obtain ⟨r0, r1, r2, r3, r4, _⟩ := blk_five TB
    go_simp
    refine hK.out _ _ trivial (fun hHeld => ?_)
    clear hK K
    try simp only [List.getElem_toArray, List.getElem_cons_zero, List.getElem_cons_succ, Act.put, List.setIfInBounds_toArray, List.set_cons_zero, List.set_cons_succ]
    refine wpAnyH_ready (rs := [6]) (by kernel_rfl) (by simp) ?_
    refine AllReadyH.cons rfl (fun K hK => ?_) (AllReadyH.nil)
    try obtain ⟨r0, r1, r2, r3, r4, _⟩ := blk_five TB
    go_simp
    have b1 := (Below.refl Y0.heap.size Y0).alloc (Nat.le_refl _) (.cells #[.int .i64 p0, .int .i64 p1, .int .i64 p2, .int .i64 p3, .slice bA (M - 13) bc] 52)
    have CL := CellsAt.lit Y0 [.int .i64 p0, .int .i64 p1, .int .i64 p2, .int .i64 p3, .slice bA (M - 13) bc] #[.int .i64 p0, .int .i64 p1, .int .i64 p2, .int .i64 p3, .slice bA (M - 13) bc] 52 rfl
    have BX := BX.trans (b1.mono HG)
    have RD := RD.below b1 RD.lt
    have KP := KP.below b1
    have NW := own_below NW b1
    have HG := Nat.le_trans HG b1.size
    generalize hgY3 : Y0.heap.size = gY3 at *
    generalize Y0.alloc (.cells #[.int .i64 p0, .int .i64 p1, .int .i64 p2, .int .i64 p3, .slice bA (M - 13) bc] 52) = Y3 at *
    refine hK.out _ _ trivial (fun hHeld => ?_)
    clear hK K
    try simp only [List.getElem_toArray, List.getElem_cons_zero, List.getElem_cons_succ, Act.put, List.setIfInBounds_toArray, List.set_cons_zero, List.set_cons_succ]
    refine wpAnyH_ready (rs := [7]) (by kernel_rfl) (by simp) ?_
    refine AllReadyH.cons rfl (fun K hK => ?_) (AllReadyH.nil)
    obtain ⟨kl, ko, km⟩ := KP
    refine step_append_rows rfl (.tmp 32) (.tmp 34) 35 rfl base 52 iT _ 5 56 Tryd.underlying35 hiT hzT hsT hbT hc0 (by decide) (.slice RA rn rc) rn (l.flatMap encT) rfl ko _ (some ⟨gY3, 0, none⟩) 1 1 [.int .i64 p0, .int .i64 p1, .int .i64 p2, .int .i64 p3, .slice bA (M - 13) bc] rfl rfl (by intro u hu; simp at hu; rcases hu with rfl | rfl | rfl | rfl | rfl <;> rfl) CL (by unfold maxLen; omega) (by omega) HG ?_
    intro v5 Y4 O5 b5 g5
    obtain ⟨A5, c5, rfl⟩ := own_form O5
    have K5 := Lib.hid (kept_app kl ko km NW O5 g5 HML)
    have RD := RD.below b5 hgb
    have BX := BX.trans b5
    refine hK.out _ _ trivial (fun hHeld => ?_)
    clear hK K
    try simp only [List.getElem_toArray, List.getElem_cons_zero, List.getElem_cons_succ, Act.put, List.setIfInBounds_toArray, List.set_cons_zero, List.set_cons_succ]
    refine wpAnyH_take (i := 8) (v := .pointer (some ⟨g, 0, none⟩)) rfl (by kernel_rfl) (by kernel_rfl) (by kernel_rfl) (fun _ _ _ h => h) (Or.inl ⟨by first | rfl | go_simp, by intro w9 hSw; (try dsimp only at hSw); go_simp⟩) (by assumption) ?_
    simp only [List.getElem_toArray, List.getElem_cons_zero, List.getElem_cons_succ, Act.put, List.setIfInBounds_toArray, List.set_cons_zero, List.set_cons_succ]
    refine wpAnyH_take (i := 9) (v := .pointer (some ⟨g, 2, none⟩)) rfl (by kernel_rfl) (by kernel_rfl) (by kernel_rfl) (fun _ _ _ h => h) (Or.inl ⟨by first | rfl | go_simp, by intro w9 hSw; (try dsimp only at hSw); go_simp⟩) (by assumption) ?_
    simp only [List.getElem_toArray, List.getElem_cons_zero, List.getElem_cons_succ, Act.put, List.setIfInBounds_toArray, List.set_cons_zero, List.set_cons_succ]
    refine wpAnyH_ready (rs := [10]) (by kernel_rfl) (by simp) ?_
    refine AllReadyH.cons rfl (fun K hK => ?_) (AllReadyH.nil)
    obtain ⟨h0, h1, h2, h3, h4, h5⟩ := rdr_cells RD
    have CH := Lib.hid (chg_set g 2 Y4 (.slice A5 (rn + 1) c5))
    have RE : Rdr (Y4.setCell ⟨g, 2, none⟩ (.slice A5 (rn + 1) c5)) g (some ⟨b, off, none⟩) n c k (.slice A5 (rn + 1) c5) := by have := blk_setc RD 2 (.slice A5 (rn + 1) c5); simpa using this
    go_simp
    generalize Y4.setCell ⟨g, 2, none⟩ (.slice A5 (rn + 1) c5) = Y5 at *
    refine hK.out _ _ trivial (fun hHeld => ?_)
    clear hK K
    try simp only [List.getElem_toArray, List.getElem_cons_zero, List.getElem_cons_succ, Act.put, List.setIfInBounds_toArray, List.set_cons_zero, List.set_cons_succ]
    refine wpAnyH_done (by kernel_rfl) ?_ _
    have HSk := skip_any g n c N b off k (.slice A5 (rn + 1) c5) Y5 RE hN hnc hc hk
    rw [← HwN.out] at HSk
    have HSk := Lib.hid HSk
    clear RE RD
    go_wp2_with (go_at_call 62; refine HSk.out.mono ?_; rintro e Y ⟨o', rfl, y1, y2, y3⟩)
    refine bodyPost_end (v := .tuple #[]) (by simp [results, Tryd.f40, go_sem]) rfl ?_
    rw [HwN.out] at y1
    exact rec_end hgb hbw BWV BX CH.out y3 K5.out rfl y1 y2
  · skip
    obtain ⟨r0, r1, r2, r3, r4, _⟩ := blk_five TB
    go_simp
    refine hK.out _ _ trivial (fun hHeld => ?_)
    clear hK K
    try simp only [List.getElem_toArray, List.getElem_cons_zero, List.getElem_cons_succ, Act.put, List.setIfInBounds_toArray, List.set_cons_zero, List.set_cons_succ]
    refine wpAnyH_ready (rs := [4, 6]) (by kernel_rfl) (by simp) ?_
    refine AllReadyH.cons rfl (fun K hK => ?_) (AllReadyH.cons rfl (fun K hK => ?_) (AllReadyH.nil))
    · skip
      have h2 := (rdr_cells RD).2.2.1
      go_simp
      refine hK.out _ _ trivial (fun hHeld => ?_)
      clear hK K
      try simp only [List.getElem_toArray, List.getElem_cons_zero, List.getElem_cons_succ, Act.put, List.setIfInBounds_toArray, List.set_cons_zero, List.set_cons_succ]
      refine wpAnyH_ready (rs := [6]) (by kernel_rfl) (by simp) ?_
      refine AllReadyH.cons rfl (fun K hK => ?_) (AllReadyH.nil)
      try obtain ⟨r0, r1, r2, r3, r4, _⟩ := blk_five TB
      go_simp
      have b1 := (Below.refl Y0.heap.size Y0).alloc (Nat.le_refl _) (.cells #[.int .i64 p0, .int .i64 p1, .int .i64 p2, .int .i64 p3, .slice bA (M - 13) bc] 52)
      have CL := CellsAt.lit Y0 [.int .i64 p0, .int .i64 p1, .int .i64 p2, .int .i64 p3, .slice bA (M - 13) bc] #[.int .i64 p0, .int .i64 p1, .int .i64 p2, .int .i64 p3, .slice bA (M - 13) bc] 52 rfl
      have BX := BX.trans (b1.mono HG)
      have RD := RD.below b1 RD.lt
      have KP := KP.below b1
      have NW := own_below NW b1
      have HG := Nat.le_trans HG b1.size
      generalize hgY8 : Y0.heap.size = gY8 at *
      generalize Y0.alloc (.cells #[.int .i64 p0, .int .i64 p1, .int .i64 p2, .int .i64 p3, .slice bA (M - 13) bc] 52) = Y8 at *
      refine hK.out _ _ trivial (fun hHeld => ?_)
      clear hK K
      try simp only [List.getElem_toArray, List.getElem_cons_zero, List.getElem_cons_succ, Act.put, List.setIfInBounds_toArray, List.set_cons_zero, List.set_cons_succ]
      refine wpAnyH_ready (rs := [7]) (by kernel_rfl) (by simp) ?_
      refine AllReadyH.cons rfl (fun K hK => ?_) (AllReadyH.nil)
      obtain ⟨kl, ko, km⟩ := KP
      refine step_append_rows rfl (.tmp 32) (.tmp 34) 35 rfl base 52 iT _ 5 56 Tryd.underlying35 hiT hzT hsT hbT hc0 (by decide) (.slice RA rn rc) rn (l.flatMap encT) rfl ko _ (some ⟨gY8, 0, none⟩) 1 1 [.int .i64 p0, .int .i64 p1, .int .i64 p2, .int .i64 p3, .slice bA (M - 13) bc] rfl rfl (by intro u hu; simp at hu; rcases hu with rfl | rfl | rfl | rfl | rfl <;> rfl) CL (by unfold maxLen; omega) (by omega) HG ?_
      intro v5 Y9 O5 b5 g5
      obtain ⟨A5, c5, rfl⟩ := own_form O5
      have K5 := Lib.hid (kept_app kl ko km NW O5 g5 HML)
      have RD := RD.below b5 hgb
      have BX := BX.trans b5
      refine hK.out _ _ trivial (fun hHeld => ?_)
      clear hK K
      try simp only [List.getElem_toArray, List.getElem_cons_zero, List.getElem_cons_succ, Act.put, List.setIfInBounds_toArray, List.set_cons_zero, List.set_cons_succ]
      refine wpAnyH_take (i := 8) (v := .pointer (some ⟨g, 0, none⟩)) rfl (by kernel_rfl) (by kernel_rfl) (by kernel_rfl) (fun _ _ _ h => h) (Or.inl ⟨by first | rfl | go_simp, by intro w9 hSw; (try dsimp only at hSw); go_simp⟩) (by assumption) ?_
      simp only [List.getElem_toArray, List.getElem_cons_zero, List.getElem_cons_succ, Act.put, List.setIfInBounds_toArray, List.set_cons_zero, List.set_cons_succ]
      refine wpAnyH_take (i := 9) (v := .pointer (some ⟨g, 2, none⟩)) rfl (by kernel_rfl) (by kernel_rfl) (by kernel_rfl) (fun _ _ _ h => h) (Or.inl ⟨by first | rfl | go_simp, by intro w9 hSw; (try dsimp only at hSw); go_simp⟩) (by assumption) ?_
      simp only [List.getElem_toArray, List.getElem_cons_zero, List.getElem_cons_succ, Act.put, List.setIfInBounds_toArray, List.set_cons_zero, List.set_cons_succ]
      refine wpAnyH_ready (rs := [10]) (by kernel_rfl) (by simp) ?_
      refine AllReadyH.cons rfl (fun K hK => ?_) (AllReadyH.nil)
      obtain ⟨h0, h1, h2, h3, h4, h5⟩ := rdr_cells RD
      have CH := Lib.hid (chg_set g 2 Y9 (.slice A5 (rn + 1) c5))
      have RE : Rdr (Y9.setCell ⟨g, 2, none⟩ (.slice A5 (rn + 1) c5)) g (some ⟨b, off, none⟩) n c k (.slice A5 (rn + 1) c5) := by have := blk_setc RD 2 (.slice A5 (rn + 1) c5); simpa using this
      go_simp
      generalize Y9.setCell ⟨g, 2, none⟩ (.slice A5 (rn + 1) c5) = Y10 at *
      refine hK.out _ _ trivial (fun hHeld => ?_)
      clear hK K
      try simp only [List.getElem_toArray, List.getElem_cons_zero, List.getElem_cons_succ, Act.put, List.setIfInBounds_toArray, List.set_cons_zero, List.set_cons_succ]
      refine wpAnyH_done (by kernel_rfl) ?_ _
      have HSk := skip_any g n c N b off k (.slice A5 (rn + 1) c5) Y10 RE hN hnc hc hk
      rw [← HwN.out] at HSk
      have HSk := Lib.hid HSk
      clear RE RD
      go_wp2_with (go_at_call 62; refine HSk.out.mono ?_; rintro e Y ⟨o', rfl, y1, y2, y3⟩)
      refine bodyPost_end (v := .tuple #[]) (by simp [results, Tryd.f40, go_sem]) rfl ?_
      rw [HwN.out] at y1
      exact rec_end hgb hbw BWV BX CH.out y3 K5.out rfl y1 y2
    · skip
      try obtain ⟨r0, r1, r2, r3, r4, _⟩ := blk_five TB
      go_simp
      have b1 := (Below.refl Y0.heap.size Y0).alloc (Nat.le_refl _) (.cells #[.int .i64 p0, .int .i64 p1, .int .i64 p2, .int .i64 p3, .slice bA (M - 13) bc] 52)
      have CL := CellsAt.lit Y0 [.int .i64 p0, .int .i64 p1, .int .i64 p2, .int .i64 p3, .slice bA (M - 13) bc] #[.int .i64 p0, .int .i64 p1, .int .i64 p2, .int .i64 p3, .slice bA (M - 13) bc] 52 rfl
      have BX := BX.trans (b1.mono HG)
      have RD := RD.below b1 RD.lt
      have KP := KP.below b1
      have NW := own_below NW b1
      have HG := Nat.le_trans HG b1.size
      generalize hgY11 : Y0.heap.size = gY11 at *
      generalize Y0.alloc (.cells #[.int .i64 p0, .int .i64 p1, .int .i64 p2, .int .i64 p3, .slice bA (M - 13) bc] 52) = Y11 at *
      refine hK.out _ _ trivial (fun hHeld => ?_)
      clear hK K
      try simp only [List.getElem_toArray, List.getElem_cons_zero, List.getElem_cons_succ, Act.put, List.setIfInBounds_toArray, List.set_cons_zero, List.set_cons_succ]
      refine wpAnyH_ready (rs := [4]) (by kernel_rfl) (by simp) ?_
      refine AllReadyH.cons rfl (fun K hK => ?_) (AllReadyH.nil)
      have h2 := (rdr_cells RD).2.2.1
      go_simp
      refine hK.out _ _ trivial (fun hHeld => ?_)
      clear hK K
      try simp only [List.getElem_toArray, List.getElem_cons_zero, List.getElem_cons_succ, Act.put, List.setIfInBounds_toArray, List.set_cons_zero, List.set_cons_succ]
      refine wpAnyH_ready (rs := [7]) (by kernel_rfl) (by simp) ?_
      refine AllReadyH.cons rfl (fun K hK => ?_) (AllReadyH.nil)
      obtain ⟨kl, ko, km⟩ := KP
      refine step_append_rows rfl (.tmp 32) (.tmp 34) 35 rfl base 52 iT _ 5 56 Tryd.underlying35 hiT hzT hsT hbT hc0 (by decide) (.slice RA rn rc) rn (l.flatMap encT) rfl ko _ (some ⟨gY11, 0, none⟩) 1 1 [.int .i64 p0, .int .i64 p1, .int .i64 p2, .int .i64 p3, .slice bA (M - 13) bc] rfl rfl (by intro u hu; simp at hu; rcases hu with rfl | rfl | rfl | rfl | rfl <;> rfl) CL (by unfold maxLen; omega) (by omega) HG ?_
      intro v5 Y13 O5 b5 g5
      obtain ⟨A5, c5, rfl⟩ := own_form O5
      have K5 := Lib.hid (kept_app kl ko km NW O5 g5 HML)
      have RD := RD.below b5 hgb
      have BX := BX.trans b5
      refine hK.out _ _ trivial (fun hHeld => ?_)
      clear hK K
      try simp only [List.getElem_toArray, List.getElem_cons_zero, List.getElem_cons_succ, Act.put, List.setIfInBounds_toArray, List.set_cons_zero, List.set_cons_succ]
      refine wpAnyH_take (i := 8) (v := .pointer (some ⟨g, 0, none⟩)) rfl (by kernel_rfl) (by kernel_rfl) (by kernel_rfl) (fun _ _ _ h => h) (Or.inl ⟨by first | rfl | go_simp, by intro w9 hSw; (try dsimp only at hSw); go_simp⟩) (by assumption) ?_
      simp only [List.getElem_toArray, List.getElem_cons_zero, List.getElem_cons_succ, Act.put, List.setIfInBounds_toArray, List.set_cons_zero, List.set_cons_succ]
      refine wpAnyH_take (i := 9) (v := .pointer (some ⟨g, 2, none⟩)) rfl (by kernel_rfl) (by kernel_rfl) (by kernel_rfl) (fun _ _ _ h => h) (Or.inl ⟨by first | rfl | go_simp, by intro w9 hSw; (try dsimp only at hSw); go_simp⟩) (by assumption) ?_
      simp only [List.getElem_toArray, List.getElem_cons_zero, List.getElem_cons_succ, Act.put, List.setIfInBounds_toArray, List.set_cons_zero, List.set_cons_succ]
      refine wpAnyH_ready (rs := [10]) (by kernel_rfl) (by simp) ?_
      refine AllReadyH.cons rfl (fun K hK => ?_) (AllReadyH.nil)
      obtain ⟨h0, h1, h2, h3, h4, h5⟩ := rdr_cells RD
      have CH := Lib.hid (chg_set g 2 Y13 (.slice A5 (rn + 1) c5))
      have RE : Rdr (Y13.setCell ⟨g, 2, none⟩ (.slice A5 (rn + 1) c5)) g (some ⟨b, off, none⟩) n c k (.slice A5 (rn + 1) c5) := by have := blk_setc RD 2 (.slice A5 (rn + 1) c5); simpa using this
      go_simp
      generalize Y13.setCell ⟨g, 2, none⟩ (.slice A5 (rn + 1) c5) = Y14 at *
      refine hK.out _ _ trivial (fun hHeld => ?_)
      clear hK K
      try simp only [List.getElem_toArray, List.getElem_cons_zero, List.getElem_cons_succ, Act.put, List.setIfInBounds_toArray, List.set_cons_zero, List.set_cons_succ]
      refine wpAnyH_done (by kernel_rfl) ?_ _
      have HSk := skip_any g n c N b off k (.slice A5 (rn + 1) c5) Y14 RE hN hnc hc hk
      rw [← HwN.out] at HSk
      have HSk := Lib.hid HSk
      clear RE RD
      go_wp2_with (go_at_call 62; refine HSk.out.mono ?_; rintro e Y ⟨o', rfl, y1, y2, y3⟩)
      refine bodyPost_end (v := .tuple #[]) (by simp [results, Tryd.f40, go_sem]) rfl ?_
      rw [HwN.out] at y1
      exact rec_end hgb hbw BWV BX CH.out y3 K5.out rfl y1 y2
end Go.Proofs.YtkbhmgdmkamcfaaDoor.Cap
