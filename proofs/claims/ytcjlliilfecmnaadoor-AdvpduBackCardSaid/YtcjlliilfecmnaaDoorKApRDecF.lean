/- Advertising PDUs: Decode by the document where the header is right: contracts over the program. -/
import Derived.Test.YtcjlliilfecmnaaDoorKApRDecE
import Derived.Test.YtcjlliilfecmnaaDoorKM14
import Derived.Test.YtcjlliilfecmnaaDoorKM13
import Derived.Deep.CutRange
set_option linter.unusedVariables false
set_option linter.unusedSimpArgs false
namespace Go.Proofs.YtcjlliilfecmnaaDoor.Ap
open Go.RowKit Mem Oct
open Base (thenB)

theorem radrs_form (k : Int) (ys : List Int) (hB : Bytes ys) : ∃ kk sk sb tk tb L er, radrs k ys = (adrP kk sk sb tk tb, L, er) ∧ (er = 0 → kk = k ∧ adrs k ys = (adrP k sk sb tk tb, L, 0)) ∧ (er ≠ 0 → ∃ p' L', adrs k ys = (p', L', er)) ∧ L.length ≤ ys.length ∧ Bytes L := by
  obtain ⟨sk, sb, tk, tb, L, er, e⟩ := adrs_form k ys
  have hl := adrs_len k ys
  have hb := adrs_bytes (k := k) hB
  unfold radrs
  rw [e] at hl hb ⊢
  by_cases h : er = 0
  · subst h
    exact ⟨k, sk, sb, tk, tb, L, 0, by rw [if_pos rfl], fun _ => ⟨rfl, rfl⟩, fun h => absurd rfl h, hl, hb⟩
  · exact ⟨0, 0, 0, 0, 0, [], er, by rw [if_neg h]; rfl, fun h' => absurd h' h, fun _ => ⟨_, _, rfl⟩, Nat.zero_le _, fun z hz => by cases hz⟩
theorem dec_d {xs : List Int} {k sk sb tk tb : Int} {L : List Int} (h : hdrE xs = 0) (ha : adrs (xs.getD 0 0 % 16) (xs.drop 2) = (adrP k sk sb tk tb, L, 0)) (hf : xs.getD 0 0 = fstB (adrP k sk sb tk tb)) (hd : datB k = true) : decP xs = if 31 < L.length then (zp, 4) else (withD k sk sb tk tb L, 0) := by
  have hC : conB k = false := by
    cases e : conB k with
    | false => rfl
    | true => unfold conB at e; rw [beq_iff_eq] at e; rw [e] at hd; exact absurd hd (by decide)
  have hc : cmpl k sk sb tk tb L = (withD k sk sb tk tb L, if 31 < L.length then 4 else 0) := by
    unfold cmpl; rw [hC, hd, if_neg (by simp), if_pos rfl]; rfl
  by_cases hl : 31 < L.length
  · rw [if_pos hl] at hc ⊢
    rw [decP_cmp h ha hf (by show (cmpl k sk sb tk tb L).2 ≠ 0; rw [hc]; exact (by decide : (4 : Int) ≠ 0))]
    show (zp, (cmpl k sk sb tk tb L).2) = _
    rw [hc]
  · rw [if_neg hl] at hc ⊢
    rw [decP_ok h ha hf (by show (cmpl k sk sb tk tb L).2 = 0; rw [hc])]
    show ((cmpl k sk sb tk tb L).1, (0 : Int)) = _
    rw [hc]
theorem dec_c {xs : List Int} {k sk sb tk tb : Int} {L : List Int} (h : hdrE xs = 0) (ha : adrs (xs.getD 0 0 % 16) (xs.drop 2) = (adrP k sk sb tk tb, L, 0)) (hf : xs.getD 0 0 = fstB (adrP k sk sb tk tb)) (hC : k = 5) : decP xs = if (Cn.decR L).2 ≠ 0 then (zp, (Cn.decR L).2) else (withC k sk sb tk tb (Cn.decR L).1, 0) := by
  have hc : cmpl k sk sb tk tb L = (withC k sk sb tk tb (Cn.decR L).1, (Cn.decR L).2) := by
    unfold cmpl; rw [show conB k = true by rw [hC]; rfl, if_pos rfl]
  by_cases hl : (Cn.decR L).2 = 0
  · rw [if_neg (by simpa using hl)]
    rw [decP_ok h ha hf (by show (cmpl k sk sb tk tb L).2 = 0; rw [hc]; exact hl)]
    show ((cmpl k sk sb tk tb L).1, (0 : Int)) = _
    rw [hc]
  · rw [if_pos hl]
    rw [decP_cmp h ha hf (by show (cmpl k sk sb tk tb L).2 ≠ 0; rw [hc]; exact hl)]
    show (zp, (cmpl k sk sb tk tb L).2) = _
    rw [hc]
theorem dec_n {xs : List Int} {k sk sb tk tb : Int} {L : List Int} (h : hdrE xs = 0) (ha : adrs (xs.getD 0 0 % 16) (xs.drop 2) = (adrP k sk sb tk tb, L, 0)) (hf : xs.getD 0 0 = fstB (adrP k sk sb tk tb)) (hd : datB k = false) (hC : k ≠ 5) : decP xs = if 0 < L.length then (zp, 2) else (adrP k sk sb tk tb, 0) := by
  have hc : cmpl k sk sb tk tb L = if 0 < L.length then (adrP k sk sb tk tb, 2) else (adrP k sk sb tk tb, 0) := by
    unfold cmpl; rw [show conB k = false by unfold conB; simpa using hC, hd, if_neg (by simp), if_neg (by simp)]
  by_cases hl : 0 < L.length
  · rw [if_pos hl] at hc ⊢
    rw [decP_cmp h ha hf (by show (cmpl k sk sb tk tb L).2 ≠ 0; rw [hc]; simp)]
    show (zp, (cmpl k sk sb tk tb L).2) = _
    rw [hc]
  · rw [if_neg hl] at hc ⊢
    rw [decP_ok h ha hf (by show (cmpl k sk sb tk tb L).2 = 0; rw [hc])]
    show ((cmpl k sk sb tk tb L).1, (0 : Int)) = _
    rw [hc]
theorem rfirst_form {k : Int} {ys : List Int} {sk sb tk tb : Int} {L : List Int} (hB : Bytes ys) (ha : adrs k ys = (adrP k sk sb tk tb, L, 0)) (hk : 0 ≤ k ∧ k ≤ 6) (V : Value) (w : World) :
    Calls Tryd.prog 39 #[.agg (cel (adrP k sk sb tk tb) V)] w fun e w' => e = .returned (.int .u8 (fstB (adrP k sk sb tk tb))) ∧ Below w.heap.size w w' := by
  obtain ⟨sk', sb', tk', tb', L', e, h1, h2, h3, h4, h5⟩ := adrs_ok hB (show (adrs k ys).2.2 = 0 by rw [ha])
  rw [ha] at e
  injection e with e e2
  injection e with _ e3 e4 e5 e6
  subst e3 e4 e5 e6
  refine rfirst_any (adrP k sk sb tk tb) V w hk _ (fst_doc (adrP k sk sb tk tb) ?_ ?_ ?_).symm
  · have := (Adr.chk_ok h1).1; show sk ≠ 0; omega
  · intro ht
    have ht : tgtB k = true := ht
    rw [ht] at h3
    unfold tE at h3; rw [if_pos rfl] at h3
    have := (Adr.chk_ok h3).1; show tk ≠ 0; omega
  · intro ht
    have ht : tgtB k = false := ht
    rw [ht] at h3
    unfold tE at h3; rw [if_neg (by simp)] at h3
    show tk = 0
    split at h3
    · rename_i hh; exact hh.1
    · exact absurd h3 (by decide)
set_option maxRecDepth 100000 in
set_option maxHeartbeats 8000000 in
theorem rdecode_far (b off n c : Nat) (xs : List Int) (w : World) (hx : xs.length = n) (hnc : n ≤ c) (bxs : Bytes xs) (hr : Ints .u8 w w.heap.size (some ⟨b, off, none⟩) xs) (h : hdrE xs = 0) (hc2 : ¬ c = 2) :
    Calls Tryd.prog 17 #[.slice (some ⟨b, off, none⟩) n c] w fun e w' => Decd w w' e (decP xs) := by
  obtain ⟨h2, hk6, hlen⟩ := hdr_ok h
  have hsy : ¬ (xs.getD 0 0 / 16 % 4 ≠ 0) := by
    intro hh
    unfold hdrE at h
    rw [if_neg (by omega), if_neg (by omega), if_pos hh] at h
    exact absurd h (by decide)
  have hb1 : 0 ≤ xs.getD 1 0 ∧ xs.getD 1 0 ≤ 255 := bxs _ (by simp [List.getD, List.getElem?_eq_getElem (show 1 < xs.length by omega)])
  have hb0 : 0 ≤ xs.getD 0 0 ∧ xs.getD 0 0 ≤ 255 := bxs _ (by simp [List.getD, List.getElem?_eq_getElem (show 0 < xs.length by omega)])
  have hn1 : n ≤ 257 := by omega
  obtain ⟨b', off', heq, hbl, hcell⟩ := hr.at_ (i := 0) (by omega)
  injection heq with heq
  injection heq with hbe hoe _
  subst hbe; subst hoe
  have TT0 : w.cell? ⟨b, off, none⟩ = some (.int .u8 (xs.getD 0 0)) := hcell 0 (by omega)
  have TT1 : w.cell? ⟨b, off + 1, none⟩ = some (.int .u8 (xs.getD 1 0)) := hcell 1 (by omega)
  have BX : Below w.heap.size w (w.alloc (.cells #[.int .i64 0, .int .i64 0, .int .u64 0, .int .i64 0, .int .u64 0, .slice none 0 0, .int .u32 0, .int .u32 0, .int .i64 0, .int .i64 0, .int .i64 0, .int .i64 0, .int .i64 0, .int .u64 0, .int .i64 0, .int .i64 0, .int .i64 0] 33)) := (Below.refl _ _).alloc (Nat.le_refl _) _
  have K2 := Blk.fresh w 33 #[.int .i64 0, .int .i64 0, .int .u64 0, .int .i64 0, .int .u64 0, .slice none 0 0, .int .u32 0, .int .u32 0, .int .i64 0, .int .i64 0, .int .i64 0, .int .i64 0, .int .i64 0, .int .u64 0, .int .i64 0, .int .i64 0, .int .i64 0]
  obtain ⟨kk, sk, sb, tk, tb, L, er, ha, hok, hbad, hLl, hLb⟩ := radrs_form (xs.getD 0 0 % 16) (xs.drop 2) (bytes_drop bxs 2)
  simp only [List.length_drop, hx] at hLl
  have hcut : Ints .u8 w w.heap.size (some ⟨b, off + 2, none⟩) (xs.drop 2) := by
    have := hr.cut (c := c) (i := 2) (by omega) (by omega)
    rw [if_neg hc2] at this; exact this
  have HAd : Hid (∀ w', Below w.heap.size w w' → Calls Tryd.prog 43 #[.int .i64 (xs.getD 0 0 % 16), .slice (some ⟨b, off + 2, none⟩) (n - 2) (c - 2)] w' fun e w2 => ∃ A' c', e = .returned (.tuple #[.agg #[.int .i64 kk, .int .i64 sk, .int .u64 sb, .int .i64 tk, .int .u64 tb, .slice none 0 0, .int .u32 0, .int .u32 0, .int .i64 0, .int .i64 0, .int .i64 0, .int .i64 0, .int .i64 0, .int .u64 0, .int .i64 0, .int .i64 0, .int .i64 0], .slice A' L.length c', .int .i64 er]) ∧ L.length ≤ c' ∧ Ints .u8 w2 w2.heap.size A' L ∧ Below w'.heap.size w' w2 ∧ (L = [] ∨ ∃ g4, A' = some ⟨g4, 0, none⟩ ∧ w'.heap.size ≤ g4)) := Lib.hid fun w' bb => by
    have := rpay_any (xs.getD 0 0 % 16) (some ⟨b, off + 2, none⟩) (n - 2) (c - 2) (xs.drop 2) w' (by simp [hx]) (by omega) (by omega) (bytes_drop bxs 2) (Base.later hcut bb)
    refine this.mono fun e w2 hd => ?_
    rw [ha] at hd
    exact hd
  have HK : Hid (er = 0 → kk = (xs.getD 0 0 % 16)) := Lib.hid fun he => (hok he).1
  have HE1 : Hid (er ≠ 0 → decP xs = (zp, er)) := Lib.hid fun he => by obtain ⟨p', L', e⟩ := hbad he; exact decP_adr h e he
  have HE2 : Hid (er = 0 → xs.getD 0 0 ≠ fstB (adrP (xs.getD 0 0 % 16) sk sb tk tb) → decP xs = (zp, 2)) := Lib.hid fun he hf => decP_fst h (hok he).2 hf
  have HEd : Hid (er = 0 → xs.getD 0 0 = fstB (adrP (xs.getD 0 0 % 16) sk sb tk tb) → datB (xs.getD 0 0 % 16) = true → decP xs = if 31 < L.length then (zp, 4) else (withD (xs.getD 0 0 % 16) sk sb tk tb L, 0)) := Lib.hid fun he hf hd => dec_d h (hok he).2 hf hd
  have HEc : Hid (er = 0 → xs.getD 0 0 = fstB (adrP (xs.getD 0 0 % 16) sk sb tk tb) → datB (xs.getD 0 0 % 16) = false → (xs.getD 0 0 % 16) = 5 → decP xs = if (Cn.decR L).2 ≠ 0 then (zp, (Cn.decR L).2) else (withC (xs.getD 0 0 % 16) sk sb tk tb (Cn.decR L).1, 0)) := Lib.hid fun he hf hd hC => dec_c h (hok he).2 hf hC
  have HEn : Hid (er = 0 → xs.getD 0 0 = fstB (adrP (xs.getD 0 0 % 16) sk sb tk tb) → datB (xs.getD 0 0 % 16) = false → (xs.getD 0 0 % 16) ≠ 5 → decP xs = if 0 < L.length then (zp, 2) else (adrP (xs.getD 0 0 % 16) sk sb tk tb, 0)) := Lib.hid fun he hf hd hC => dec_n h (hok he).2 hf hd hC
  have HLb : Hid (Bytes L) := Lib.hid hLb
  have HFx : Hid (er = 0 → ∀ w, Calls Tryd.prog 39 #[.agg #[.int .i64 (xs.getD 0 0 % 16), .int .i64 sk, .int .u64 sb, .int .i64 tk, .int .u64 tb, .slice none 0 0, .int .u32 0, .int .u32 0, .int .i64 0, .int .i64 0, .int .i64 0, .int .i64 0, .int .i64 0, .int .u64 0, .int .i64 0, .int .i64 0, .int .i64 0]] w fun e w' => e = .returned (.int .u8 (fstB (adrP (xs.getD 0 0 % 16) sk sb tk tb))) ∧ Below w.heap.size w w') := Lib.hid fun he w => rfirst_form (bytes_drop bxs 2) (hok he).2 (by omega) _ w
  have HHd := Lib.hid (fun w => hasdata_any (xs.getD 0 0 % 16) w)
  have HCd : Hid (∀ w' A' c', L.length ≤ c' → Ints .u8 w' w'.heap.size A' L → Calls Tryd.prog 44 #[.slice A' L.length c'] w' fun e w2 => e = .returned (.tuple #[Cn.parN (Cn.decR L).1, .int .i64 (Cn.decR L).2]) ∧ Below w'.heap.size w' w2) := Lib.hid fun w' A' c' h1 h2 => Cn.rdecode_any A' _ c' L w' rfl h1 (by omega) HLb.out h2
  clear hr bxs h ha hok hbad hcell hcut hLb
  generalize (Cn.decR L).2 = ec at *
  generalize (Cn.decR L).1 = ns at *
  have HPN : Hid (Cn.parN ns = .agg #[.int .u32 (ns.getD 0 0), .int .u32 (ns.getD 1 0), .int .i64 (ns.getD 2 0), .int .i64 (ns.getD 3 0), .int .i64 (ns.getD 4 0), .int .i64 (ns.getD 5 0), .int .i64 (ns.getD 6 0), .int .u64 ((ns.getD 7 0).toNat : Int), .int .i64 (ns.getD 8 0), .int .i64 (ns.getD 9 0), .int .i64 (ns.getD 10 0)]) := Lib.hid rfl
  rw [HPN.out] at HCd
  unfold withC at HEc
  clear HPN
  generalize (ns.getD 7 0).toNat = n7 at *
  generalize ns.getD 0 0 = n0 at *
  generalize ns.getD 1 0 = n1 at *
  generalize ns.getD 2 0 = n2 at *
  generalize ns.getD 3 0 = n3 at *
  generalize ns.getD 4 0 = n4 at *
  generalize ns.getD 5 0 = n5 at *
  generalize ns.getD 6 0 = n6 at *
  generalize ns.getD 8 0 = n8 at *
  generalize ns.getD 9 0 = n9 at *
  generalize ns.getD 10 0 = n10 at *
  generalize fstB (adrP (xs.getD 0 0 % 16) sk sb tk tb) = F at *
  generalize decP xs = R at *
  generalize datB (xs.getD 0 0 % 16) = D at *
  generalize xs.getD 0 0 = x at *
  generalize xs.getD 1 0 = y at *
  rw [hx] at hlen
  have q1 : x.tmod 16 = x % 16 := Int.tmod_eq_emod_of_nonneg hb0.1
  have q2 : IntKind.u8.wrap (x.tdiv 16) = x / 16 := quo16 x hb0
  have q3 : (x / 16).tmod 4 = x / 16 % 4 := Int.tmod_eq_emod_of_nonneg (by omega)
  have e4 : IntKind.i64.wrap ((n : Int) - 2) = (n : Int) - 2 := by rw [IntWalk.i64_in _ (by omega)]
  have e5 : IntKind.i64.wrap y = y := by rw [IntWalk.i64_in _ (by omega)]
  have gn : (0 : Int) < (n : Int) ∧ (1 : Int) < (n : Int) ∧ 0 < n ∧ 1 < n ∧ ¬ (n : Int) < 2 := by omega
  obtain ⟨gn1, gn2, gn3, gn4, gn5⟩ := gn
  have e1 : IntKind.i64.wrap (x % 16) = x % 16 := by rw [IntWalk.i64_in _ (by omega)]
  have gm : (2 : Int) ≤ (n : Int) ∧ 2 ≤ n ∧ (2 : Int) ≤ (c : Int) ∧ 2 ≤ c ∧ ¬ 6 < x % 16 ∧ ¬ (n : Int) - 2 < y ∧ ¬ y < (n : Int) - 2 := by omega
  obtain ⟨gm1, gm2, gm3, gm4, gm5, gm6, gm7⟩ := gm
  have gm8 : (x / 16 % 4 != 0) = false := by simpa using hsy
  clear hx hsy hlen h2
  have H5 : (#[.int .i64 kk, .int .i64 sk, .int .u64 sb, .int .i64 tk, .int .u64 tb, .slice none 0 0, .int .u32 0, .int .u32 0, .int .i64 0, .int .i64 0, .int .i64 0, .int .i64 0, .int .i64 0, .int .u64 0, .int .i64 0, .int .i64 0, .int .i64 0] : Array Value).all (·.oneCell') = true := by rw [← Array.all_toList]; rfl
  have c0 := (BX.cell (p := ⟨b, off, none⟩) hbl).trans TT0
  have c1' := (BX.cell (p := ⟨b, off + 1, none⟩) hbl).trans TT1
  go_enter Tryd.func17, Tryd.ntmps17
  go_upto_region 1 with (fail)
  generalize w.alloc (.cells #[.int .i64 0, .int .i64 0, .int .u64 0, .int .i64 0, .int .u64 0, .slice none 0 0, .int .u32 0, .int .u32 0, .int .i64 0, .int .i64 0, .int .i64 0, .int .i64 0, .int .i64 0, .int .u64 0, .int .i64 0, .int .i64 0, .int .i64 0] 33) = w1 at *
  go_upto_region 11 with (fail)
  have TT := c0
  clear c0 c1' TT0 TT1
  go_cut [4, 5, 6] from 44 to 55 (fun s4 s5 s6 wx => ∃ g5 A' c', s4 = .pointer (some ⟨g5, 0, none⟩) ∧ s5 = .slice A' L.length c' ∧ s6 = .int .i64 er ∧ L.length ≤ c' ∧ Ints .u8 wx wx.heap.size A' L ∧ (L = [] ∨ ∃ g4, A' = some (⟨g4, 0, none⟩ : Addr) ∧ g4 ≠ g5 ∧ w.heap.size < g4) ∧ Blk wx g5 33 #[.int .i64 kk, .int .i64 sk, .int .u64 sb, .int .i64 tk, .int .u64 tb, .slice none 0 0, .int .u32 0, .int .u32 0, .int .i64 0, .int .i64 0, .int .i64 0, .int .i64 0, .int .i64 0, .int .u64 0, .int .i64 0, .int .i64 0, .int .i64 0] ∧ w.heap.size < g5 ∧ Blk wx w.heap.size 33 #[.int .i64 0, .int .i64 0, .int .u64 0, .int .i64 0, .int .u64 0, .slice none 0 0, .int .u32 0, .int .u32 0, .int .i64 0, .int .i64 0, .int .i64 0, .int .i64 0, .int .i64 0, .int .u64 0, .int .i64 0, .int .i64 0, .int .i64 0] ∧ Below w.heap.size w wx ∧ wx.cell? ⟨b, off, none⟩ = some (.int .u8 x))
  case first =>
    go_wp2_with fail
    refine wp_region_held_drew (S := (fun w' => w'.cell? ⟨b, off, none⟩ = some (.int .u8 x))) (by kernel_rfl) ?_ (fun hHeld => ?_)
    · exact TT
    have BX : Below w.heap.size w w1.drew := BX.drew
    have K2 : Blk w1.drew w.heap.size 33 #[.int .i64 0, .int .i64 0, .int .u64 0, .int .i64 0, .int .u64 0, .slice none 0 0, .int .u32 0, .int .u32 0, .int .i64 0, .int .i64 0, .int .i64 0, .int .i64 0, .int .i64 0, .int .u64 0, .int .i64 0, .int .i64 0, .int .i64 0] := K2
    have TT : w1.drew.cell? ⟨b, off, none⟩ = some (.int .u8 x) := TT
    generalize w1.drew = X0 at *
    refine wpAnyH_take (i := 0) (v := .slice (some ⟨b, off, none⟩) n c) rfl (by kernel_rfl) (by kernel_rfl) (by kernel_rfl) (fun _ _ _ h => h) (Or.inl ⟨by first | rfl | go_simp, by intro w9 hSw; (try dsimp only at hSw); go_simp⟩) (by assumption) ?_
    simp only [List.getElem_toArray, List.getElem_cons_zero, List.getElem_cons_succ, Act.put, List.setIfInBounds_toArray, List.set_cons_zero, List.set_cons_succ]
    refine wpAnyH_take (i := 1) (v := .pointer (some ⟨b, off, none⟩)) rfl (by kernel_rfl) (by kernel_rfl) (by kernel_rfl) (fun _ _ _ h => h) (Or.inl ⟨by first | rfl | go_simp, by intro w9 hSw; (try dsimp only at hSw); go_simp⟩) (by assumption) ?_
    simp only [List.getElem_toArray, List.getElem_cons_zero, List.getElem_cons_succ, Act.put, List.setIfInBounds_toArray, List.set_cons_zero, List.set_cons_succ]
    refine wpAnyH_take (i := 2) (v := .int .u8 x) rfl (by kernel_rfl) (by kernel_rfl) (by kernel_rfl) (fun _ _ _ h => h) (Or.inl ⟨by first | rfl | go_simp, by intro w9 hSw; (try dsimp only at hSw); go_simp⟩) (by assumption) ?_
    simp only [List.getElem_toArray, List.getElem_cons_zero, List.getElem_cons_succ, Act.put, List.setIfInBounds_toArray, List.set_cons_zero, List.set_cons_succ]
    refine wpAnyH_take (i := 3) (v := .int .u8 (x % 16)) rfl (by kernel_rfl) (by kernel_rfl) (by kernel_rfl) (fun _ _ _ h => h) (Or.inl ⟨by first | rfl | go_simp, by intro w9 hSw; (try dsimp only at hSw); go_simp⟩) (by assumption) ?_
    simp only [List.getElem_toArray, List.getElem_cons_zero, List.getElem_cons_succ, Act.put, List.setIfInBounds_toArray, List.set_cons_zero, List.set_cons_succ]
    refine wpAnyH_take (i := 4) (v := .int .i64 (x % 16)) rfl (by kernel_rfl) (by kernel_rfl) (by kernel_rfl) (fun _ _ _ h => h) (Or.inl ⟨by first | rfl | go_simp, by intro w9 hSw; (try dsimp only at hSw); go_simp⟩) (by assumption) ?_
    simp only [List.getElem_toArray, List.getElem_cons_zero, List.getElem_cons_succ, Act.put, List.setIfInBounds_toArray, List.set_cons_zero, List.set_cons_succ]
    refine wpAnyH_take (i := 5) (v := .slice (some ⟨b, off, none⟩) n c) rfl (by kernel_rfl) (by kernel_rfl) (by kernel_rfl) (fun _ _ _ h => h) (Or.inl ⟨by first | rfl | go_simp, by intro w9 hSw; (try dsimp only at hSw); go_simp⟩) (by assumption) ?_
    simp only [List.getElem_toArray, List.getElem_cons_zero, List.getElem_cons_succ, Act.put, List.setIfInBounds_toArray, List.set_cons_zero, List.set_cons_succ]
    refine wpAnyH_take (i := 6) (v := .slice (some ⟨b, off + 2, none⟩) (n - 2) (c - 2)) rfl (by kernel_rfl) (by kernel_rfl) (by kernel_rfl) (fun _ _ _ h => h) (Or.inl ⟨by first | rfl | go_simp, by intro w9 hSw; (try dsimp only at hSw); go_simp⟩) (by assumption) ?_
    simp only [List.getElem_toArray, List.getElem_cons_zero, List.getElem_cons_succ, Act.put, List.setIfInBounds_toArray, List.set_cons_zero, List.set_cons_succ]
    refine wpAnyH_ready (rs := [7, 12]) (by kernel_rfl) (by simp) ?_
    refine AllReadyH.cons rfl (fun K hK => ?_) (AllReadyH.cons rfl (fun K hK => ?_) (AllReadyH.nil))
    · skip
      go_simp
      have hXs0 : w.heap.size < X0.heap.size := K2.lt
      refine (HAd.out X0 BX).mono ?_
      rintro e X1 ⟨A', c', rfl, hcap, IL, b9, hfL⟩
      have hXs : w.heap.size < X0.heap.size := hXs0
      have TT := (b9.cell (p := ⟨b, off, none⟩) (by show b < _; have := K2.lt; omega)).trans TT
      have BX := thenB BX b9
      have K2 := K2.below b9 K2.lt
      refine hK.out _ _ TT (fun hHeld => ?_)
      clear hK K
      try simp only [List.getElem_toArray, List.getElem_cons_zero, List.getElem_cons_succ, Act.put, List.setIfInBounds_toArray, List.set_cons_zero, List.set_cons_succ]
      refine wpAnyH_take (i := 8) (v := .tuple #[.agg #[.int .i64 kk, .int .i64 sk, .int .u64 sb, .int .i64 tk, .int .u64 tb, .slice none 0 0, .int .u32 0, .int .u32 0, .int .i64 0, .int .i64 0, .int .i64 0, .int .i64 0, .int .i64 0, .int .u64 0, .int .i64 0, .int .i64 0, .int .i64 0], .slice A' L.length c', .int .i64 er]) rfl (by kernel_rfl) (by kernel_rfl) (by kernel_rfl) (fun _ _ _ h => h) (Or.inl ⟨by first | rfl | go_simp, by intro w9 hSw; (try dsimp only at hSw); go_simp⟩) (by assumption) ?_
      simp only [List.getElem_toArray, List.getElem_cons_zero, List.getElem_cons_succ, Act.put, List.setIfInBounds_toArray, List.set_cons_zero, List.set_cons_succ]
      refine wpAnyH_take (i := 9) (v := .agg #[.int .i64 kk, .int .i64 sk, .int .u64 sb, .int .i64 tk, .int .u64 tb, .slice none 0 0, .int .u32 0, .int .u32 0, .int .i64 0, .int .i64 0, .int .i64 0, .int .i64 0, .int .i64 0, .int .u64 0, .int .i64 0, .int .i64 0, .int .i64 0]) rfl (by kernel_rfl) (by kernel_rfl) (by kernel_rfl) (fun _ _ _ h => h) (Or.inl ⟨by first | rfl | go_simp, by intro w9 hSw; (try dsimp only at hSw); go_simp⟩) (by assumption) ?_
      simp only [List.getElem_toArray, List.getElem_cons_zero, List.getElem_cons_succ, Act.put, List.setIfInBounds_toArray, List.set_cons_zero, List.set_cons_succ]
      refine wpAnyH_take (i := 10) (v := .slice A' L.length c') rfl (by kernel_rfl) (by kernel_rfl) (by kernel_rfl) (fun _ _ _ h => h) (Or.inl ⟨by first | rfl | go_simp, by intro w9 hSw; (try dsimp only at hSw); go_simp⟩) (by assumption) ?_
      simp only [List.getElem_toArray, List.getElem_cons_zero, List.getElem_cons_succ, Act.put, List.setIfInBounds_toArray, List.set_cons_zero, List.set_cons_succ]
      refine wpAnyH_take (i := 11) (v := .int .i64 er) rfl (by kernel_rfl) (by kernel_rfl) (by kernel_rfl) (fun _ _ _ h => h) (Or.inl ⟨by first | rfl | go_simp, by intro w9 hSw; (try dsimp only at hSw); go_simp⟩) (by assumption) ?_
      simp only [List.getElem_toArray, List.getElem_cons_zero, List.getElem_cons_succ, Act.put, List.setIfInBounds_toArray, List.set_cons_zero, List.set_cons_succ]
      refine wpAnyH_ready (rs := [12]) (by kernel_rfl) (by simp) ?_
      refine AllReadyH.cons rfl (fun K hK => ?_) (AllReadyH.nil)
      go_simp
      have b9 := (Below.refl X1.heap.size X1).alloc (Nat.le_refl _) (.cells #[.int .i64 0, .int .i64 0, .int .u64 0, .int .i64 0, .int .u64 0, .slice none 0 0, .int .u32 0, .int .u32 0, .int .i64 0, .int .i64 0, .int .i64 0, .int .i64 0, .int .i64 0, .int .u64 0, .int .i64 0, .int .i64 0, .int .i64 0] 33)
      have P5 := Blk.fresh X1 33 #[.int .i64 0, .int .i64 0, .int .u64 0, .int .i64 0, .int .u64 0, .slice none 0 0, .int .u32 0, .int .u32 0, .int .i64 0, .int .i64 0, .int .i64 0, .int .i64 0, .int .i64 0, .int .u64 0, .int .i64 0, .int .i64 0, .int .i64 0]
      have hg5 : w.heap.size < X1.heap.size := K2.lt
      have hfL := fresh_ne IL hfL
      generalize X1.alloc (.cells #[.int .i64 0, .int .i64 0, .int .u64 0, .int .i64 0, .int .u64 0, .slice none 0 0, .int .u32 0, .int .u32 0, .int .i64 0, .int .i64 0, .int .i64 0, .int .i64 0, .int .i64 0, .int .u64 0, .int .i64 0, .int .i64 0, .int .i64 0] 33) = X2 at *
      have TT := (b9.cell (p := ⟨b, off, none⟩) (by show b < _; have := K2.lt; omega)).trans TT
      have BX := thenB BX b9
      have K2 := K2.below b9 K2.lt
      have IL := Base.later IL b9
      refine hK.out _ _ TT (fun hHeld => ?_)
      clear hK K
      try simp only [List.getElem_toArray, List.getElem_cons_zero, List.getElem_cons_succ, Act.put, List.setIfInBounds_toArray, List.set_cons_zero, List.set_cons_succ]
      refine wpAnyH_ready (rs := [13]) (by kernel_rfl) (by simp) ?_
      refine AllReadyH.cons rfl (fun K hK => ?_) (AllReadyH.nil)
      have hfN : L = [] ∨ ∃ g4, A' = some (⟨g4, 0, none⟩ : Addr) ∧ g4 ≠ X1.heap.size ∧ w.heap.size < g4 := by
        rcases hfL with h | ⟨g4, e, h⟩
        · exact .inl h
        · exact .inr ⟨g4, e, by omega, by omega⟩
      refine step_store_row rfl 33 (.tmp 4) (.tmp 53) rfl X1.heap.size #[.int .i64 kk, .int .i64 sk, .int .u64 sb, .int .i64 tk, .int .u64 tb, .slice none 0 0, .int .u32 0, .int .u32 0, .int .i64 0, .int .i64 0, .int .i64 0, .int .i64 0, .int .i64 0, .int .u64 0, .int .i64 0, .int .i64 0, .int .i64 0] rfl rfl 33 _ P5 (by kernel_rfl) rfl H5 ?_
      have P5 : Blk (X2.setRow X1.heap.size #[.int .i64 kk, .int .i64 sk, .int .u64 sb, .int .i64 tk, .int .u64 tb, .slice none 0 0, .int .u32 0, .int .u32 0, .int .i64 0, .int .i64 0, .int .i64 0, .int .i64 0, .int .i64 0, .int .u64 0, .int .i64 0, .int .i64 0, .int .i64 0]) X1.heap.size 33 #[.int .i64 kk, .int .i64 sk, .int .u64 sb, .int .i64 tk, .int .u64 tb, .slice none 0 0, .int .u32 0, .int .u32 0, .int .i64 0, .int .i64 0, .int .i64 0, .int .i64 0, .int .i64 0, .int .u64 0, .int .i64 0, .int .i64 0, .int .i64 0] := setRow_heap X2 X1.heap.size _ #[.int .i64 kk, .int .i64 sk, .int .u64 sb, .int .i64 tk, .int .u64 tb, .slice none 0 0, .int .u32 0, .int .u32 0, .int .i64 0, .int .i64 0, .int .i64 0, .int .i64 0, .int .i64 0, .int .u64 0, .int .i64 0, .int .i64 0, .int .i64 0] 33 (0, 0) P5
      have K2 : Blk (X2.setRow X1.heap.size #[.int .i64 kk, .int .i64 sk, .int .u64 sb, .int .i64 tk, .int .u64 tb, .slice none 0 0, .int .u32 0, .int .u32 0, .int .i64 0, .int .i64 0, .int .i64 0, .int .i64 0, .int .i64 0, .int .u64 0, .int .i64 0, .int .i64 0, .int .i64 0]) w.heap.size 33 #[.int .i64 0, .int .i64 0, .int .u64 0, .int .i64 0, .int .u64 0, .slice none 0 0, .int .u32 0, .int .u32 0, .int .i64 0, .int .i64 0, .int .i64 0, .int .i64 0, .int .i64 0, .int .u64 0, .int .i64 0, .int .i64 0, .int .i64 0] := (setRow_other X2 X1.heap.size w.heap.size #[.int .i64 kk, .int .i64 sk, .int .u64 sb, .int .i64 tk, .int .u64 tb, .slice none 0 0, .int .u32 0, .int .u32 0, .int .i64 0, .int .i64 0, .int .i64 0, .int .i64 0, .int .i64 0, .int .u64 0, .int .i64 0, .int .i64 0, .int .i64 0] (by omega)).trans K2
      have IL := (farNe (cs := #[.int .i64 kk, .int .i64 sk, .int .u64 sb, .int .i64 tk, .int .u64 tb, .slice none 0 0, .int .u32 0, .int .u32 0, .int .i64 0, .int .i64 0, .int .i64 0, .int .i64 0, .int .i64 0, .int .u64 0, .int .i64 0, .int .i64 0, .int .i64 0]) (hfN.imp id fun ⟨g4, e, h, _⟩ => ⟨g4, e, h⟩) IL).more (Nat.le_of_eq (size_setRow X2 X1.heap.size #[.int .i64 kk, .int .i64 sk, .int .u64 sb, .int .i64 tk, .int .u64 tb, .slice none 0 0, .int .u32 0, .int .u32 0, .int .i64 0, .int .i64 0, .int .i64 0, .int .i64 0, .int .i64 0, .int .u64 0, .int .i64 0, .int .i64 0, .int .i64 0]).symm)
      have TT := (cell_setRow_other X2 X1.heap.size #[.int .i64 kk, .int .i64 sk, .int .u64 sb, .int .i64 tk, .int .u64 tb, .slice none 0 0, .int .u32 0, .int .u32 0, .int .i64 0, .int .i64 0, .int .i64 0, .int .i64 0, .int .i64 0, .int .u64 0, .int .i64 0, .int .i64 0, .int .i64 0] ⟨b, off, none⟩ (show b ≠ X1.heap.size by omega)).trans TT
      have BX := below_setRow BX (Nat.le_of_lt hg5) #[.int .i64 kk, .int .i64 sk, .int .u64 sb, .int .i64 tk, .int .u64 tb, .slice none 0 0, .int .u32 0, .int .u32 0, .int .i64 0, .int .i64 0, .int .i64 0, .int .i64 0, .int .i64 0, .int .u64 0, .int .i64 0, .int .i64 0, .int .i64 0]
      generalize X2.setRow X1.heap.size #[.int .i64 kk, .int .i64 sk, .int .u64 sb, .int .i64 tk, .int .u64 tb, .slice none 0 0, .int .u32 0, .int .u32 0, .int .i64 0, .int .i64 0, .int .i64 0, .int .i64 0, .int .i64 0, .int .u64 0, .int .i64 0, .int .i64 0, .int .i64 0] = X3 at *
      refine hK.out _ _ TT (fun hHeld => ?_)
      clear hK K
      try simp only [List.getElem_toArray, List.getElem_cons_zero, List.getElem_cons_succ, Act.put, List.setIfInBounds_toArray, List.set_cons_zero, List.set_cons_succ]
      refine wpAnyH_take (i := 14) (v := .slice A' L.length c') rfl (by kernel_rfl) (by kernel_rfl) (by kernel_rfl) (fun _ _ _ h => h) (Or.inl ⟨by first | rfl | go_simp, by intro w9 hSw; (try dsimp only at hSw); go_simp⟩) (by assumption) ?_
      simp only [List.getElem_toArray, List.getElem_cons_zero, List.getElem_cons_succ, Act.put, List.setIfInBounds_toArray, List.set_cons_zero, List.set_cons_succ]
      refine wpAnyH_take (i := 15) (v := .int .i64 er) rfl (by kernel_rfl) (by kernel_rfl) (by kernel_rfl) (fun _ _ _ h => h) (Or.inl ⟨by first | rfl | go_simp, by intro w9 hSw; (try dsimp only at hSw); go_simp⟩) (by assumption) ?_
      simp only [List.getElem_toArray, List.getElem_cons_zero, List.getElem_cons_succ, Act.put, List.setIfInBounds_toArray, List.set_cons_zero, List.set_cons_succ]
      refine wpAnyH_done (by kernel_rfl) ?_ _
      go_wp2_with fail
      go_meet
      exact ⟨_, A', c', rfl, rfl, rfl, hcap, IL, hfN, P5, hg5, K2, BX, TT⟩
    · skip
      go_simp
      have b9 := (Below.refl X0.heap.size X0).alloc (Nat.le_refl _) (.cells #[.int .i64 0, .int .i64 0, .int .u64 0, .int .i64 0, .int .u64 0, .slice none 0 0, .int .u32 0, .int .u32 0, .int .i64 0, .int .i64 0, .int .i64 0, .int .i64 0, .int .i64 0, .int .u64 0, .int .i64 0, .int .i64 0, .int .i64 0] 33)
      have P5 := Blk.fresh X0 33 #[.int .i64 0, .int .i64 0, .int .u64 0, .int .i64 0, .int .u64 0, .slice none 0 0, .int .u32 0, .int .u32 0, .int .i64 0, .int .i64 0, .int .i64 0, .int .i64 0, .int .i64 0, .int .u64 0, .int .i64 0, .int .i64 0, .int .i64 0]
      have hg5 : w.heap.size < X0.heap.size := K2.lt
      generalize X0.alloc (.cells #[.int .i64 0, .int .i64 0, .int .u64 0, .int .i64 0, .int .u64 0, .slice none 0 0, .int .u32 0, .int .u32 0, .int .i64 0, .int .i64 0, .int .i64 0, .int .i64 0, .int .i64 0, .int .u64 0, .int .i64 0, .int .i64 0, .int .i64 0] 33) = X4 at *
      have TT := (b9.cell (p := ⟨b, off, none⟩) (by show b < _; have := K2.lt; omega)).trans TT
      have BX := thenB BX b9
      have K2 := K2.below b9 K2.lt
      refine hK.out _ _ TT (fun hHeld => ?_)
      clear hK K
      try simp only [List.getElem_toArray, List.getElem_cons_zero, List.getElem_cons_succ, Act.put, List.setIfInBounds_toArray, List.set_cons_zero, List.set_cons_succ]
      refine wpAnyH_ready (rs := [7]) (by kernel_rfl) (by simp) ?_
      refine AllReadyH.cons rfl (fun K hK => ?_) (AllReadyH.nil)
      go_simp
      have hXs0 : w.heap.size < X4.heap.size := K2.lt
      have hP5l := P5.lt
      refine (HAd.out X4 BX).mono ?_
      rintro e X5 ⟨A', c', rfl, hcap, IL, b9, hfL⟩
      have hXs : w.heap.size < X4.heap.size := hXs0
      have TT := (b9.cell (p := ⟨b, off, none⟩) (by show b < _; have := K2.lt; omega)).trans TT
      have BX := thenB BX b9
      have K2 := K2.below b9 K2.lt
      have P5 := P5.below b9 P5.lt
      refine hK.out _ _ TT (fun hHeld => ?_)
      clear hK K
      try simp only [List.getElem_toArray, List.getElem_cons_zero, List.getElem_cons_succ, Act.put, List.setIfInBounds_toArray, List.set_cons_zero, List.set_cons_succ]
      refine wpAnyH_take (i := 8) (v := .tuple #[.agg #[.int .i64 kk, .int .i64 sk, .int .u64 sb, .int .i64 tk, .int .u64 tb, .slice none 0 0, .int .u32 0, .int .u32 0, .int .i64 0, .int .i64 0, .int .i64 0, .int .i64 0, .int .i64 0, .int .u64 0, .int .i64 0, .int .i64 0, .int .i64 0], .slice A' L.length c', .int .i64 er]) rfl (by kernel_rfl) (by kernel_rfl) (by kernel_rfl) (fun _ _ _ h => h) (Or.inl ⟨by first | rfl | go_simp, by intro w9 hSw; (try dsimp only at hSw); go_simp⟩) (by assumption) ?_
      simp only [List.getElem_toArray, List.getElem_cons_zero, List.getElem_cons_succ, Act.put, List.setIfInBounds_toArray, List.set_cons_zero, List.set_cons_succ]
      refine wpAnyH_take (i := 9) (v := .agg #[.int .i64 kk, .int .i64 sk, .int .u64 sb, .int .i64 tk, .int .u64 tb, .slice none 0 0, .int .u32 0, .int .u32 0, .int .i64 0, .int .i64 0, .int .i64 0, .int .i64 0, .int .i64 0, .int .u64 0, .int .i64 0, .int .i64 0, .int .i64 0]) rfl (by kernel_rfl) (by kernel_rfl) (by kernel_rfl) (fun _ _ _ h => h) (Or.inl ⟨by first | rfl | go_simp, by intro w9 hSw; (try dsimp only at hSw); go_simp⟩) (by assumption) ?_
      simp only [List.getElem_toArray, List.getElem_cons_zero, List.getElem_cons_succ, Act.put, List.setIfInBounds_toArray, List.set_cons_zero, List.set_cons_succ]
      refine wpAnyH_take (i := 10) (v := .slice A' L.length c') rfl (by kernel_rfl) (by kernel_rfl) (by kernel_rfl) (fun _ _ _ h => h) (Or.inl ⟨by first | rfl | go_simp, by intro w9 hSw; (try dsimp only at hSw); go_simp⟩) (by assumption) ?_
      simp only [List.getElem_toArray, List.getElem_cons_zero, List.getElem_cons_succ, Act.put, List.setIfInBounds_toArray, List.set_cons_zero, List.set_cons_succ]
      refine wpAnyH_take (i := 11) (v := .int .i64 er) rfl (by kernel_rfl) (by kernel_rfl) (by kernel_rfl) (fun _ _ _ h => h) (Or.inl ⟨by first | rfl | go_simp, by intro w9 hSw; (try dsimp only at hSw); go_simp⟩) (by assumption) ?_
      simp only [List.getElem_toArray, List.getElem_cons_zero, List.getElem_cons_succ, Act.put, List.setIfInBounds_toArray, List.set_cons_zero, List.set_cons_succ]
      refine wpAnyH_ready (rs := [13]) (by kernel_rfl) (by simp) ?_
      refine AllReadyH.cons rfl (fun K hK => ?_) (AllReadyH.nil)
      have hfN : L = [] ∨ ∃ g4, A' = some (⟨g4, 0, none⟩ : Addr) ∧ g4 ≠ X0.heap.size ∧ w.heap.size < g4 := by
        rcases hfL with h | ⟨g4, e, h⟩
        · exact .inl h
        · exact .inr ⟨g4, e, by omega, by omega⟩
      refine step_store_row rfl 33 (.tmp 4) (.tmp 53) rfl X0.heap.size #[.int .i64 kk, .int .i64 sk, .int .u64 sb, .int .i64 tk, .int .u64 tb, .slice none 0 0, .int .u32 0, .int .u32 0, .int .i64 0, .int .i64 0, .int .i64 0, .int .i64 0, .int .i64 0, .int .u64 0, .int .i64 0, .int .i64 0, .int .i64 0] rfl rfl 33 _ P5 (by kernel_rfl) rfl H5 ?_
      have P5 : Blk (X5.setRow X0.heap.size #[.int .i64 kk, .int .i64 sk, .int .u64 sb, .int .i64 tk, .int .u64 tb, .slice none 0 0, .int .u32 0, .int .u32 0, .int .i64 0, .int .i64 0, .int .i64 0, .int .i64 0, .int .i64 0, .int .u64 0, .int .i64 0, .int .i64 0, .int .i64 0]) X0.heap.size 33 #[.int .i64 kk, .int .i64 sk, .int .u64 sb, .int .i64 tk, .int .u64 tb, .slice none 0 0, .int .u32 0, .int .u32 0, .int .i64 0, .int .i64 0, .int .i64 0, .int .i64 0, .int .i64 0, .int .u64 0, .int .i64 0, .int .i64 0, .int .i64 0] := setRow_heap X5 X0.heap.size _ #[.int .i64 kk, .int .i64 sk, .int .u64 sb, .int .i64 tk, .int .u64 tb, .slice none 0 0, .int .u32 0, .int .u32 0, .int .i64 0, .int .i64 0, .int .i64 0, .int .i64 0, .int .i64 0, .int .u64 0, .int .i64 0, .int .i64 0, .int .i64 0] 33 (0, 0) P5
      have K2 : Blk (X5.setRow X0.heap.size #[.int .i64 kk, .int .i64 sk, .int .u64 sb, .int .i64 tk, .int .u64 tb, .slice none 0 0, .int .u32 0, .int .u32 0, .int .i64 0, .int .i64 0, .int .i64 0, .int .i64 0, .int .i64 0, .int .u64 0, .int .i64 0, .int .i64 0, .int .i64 0]) w.heap.size 33 #[.int .i64 0, .int .i64 0, .int .u64 0, .int .i64 0, .int .u64 0, .slice none 0 0, .int .u32 0, .int .u32 0, .int .i64 0, .int .i64 0, .int .i64 0, .int .i64 0, .int .i64 0, .int .u64 0, .int .i64 0, .int .i64 0, .int .i64 0] := (setRow_other X5 X0.heap.size w.heap.size #[.int .i64 kk, .int .i64 sk, .int .u64 sb, .int .i64 tk, .int .u64 tb, .slice none 0 0, .int .u32 0, .int .u32 0, .int .i64 0, .int .i64 0, .int .i64 0, .int .i64 0, .int .i64 0, .int .u64 0, .int .i64 0, .int .i64 0, .int .i64 0] (by omega)).trans K2
      have IL := (farNe (cs := #[.int .i64 kk, .int .i64 sk, .int .u64 sb, .int .i64 tk, .int .u64 tb, .slice none 0 0, .int .u32 0, .int .u32 0, .int .i64 0, .int .i64 0, .int .i64 0, .int .i64 0, .int .i64 0, .int .u64 0, .int .i64 0, .int .i64 0, .int .i64 0]) (hfN.imp id fun ⟨g4, e, h, _⟩ => ⟨g4, e, h⟩) IL).more (Nat.le_of_eq (size_setRow X5 X0.heap.size #[.int .i64 kk, .int .i64 sk, .int .u64 sb, .int .i64 tk, .int .u64 tb, .slice none 0 0, .int .u32 0, .int .u32 0, .int .i64 0, .int .i64 0, .int .i64 0, .int .i64 0, .int .i64 0, .int .u64 0, .int .i64 0, .int .i64 0, .int .i64 0]).symm)
      have TT := (cell_setRow_other X5 X0.heap.size #[.int .i64 kk, .int .i64 sk, .int .u64 sb, .int .i64 tk, .int .u64 tb, .slice none 0 0, .int .u32 0, .int .u32 0, .int .i64 0, .int .i64 0, .int .i64 0, .int .i64 0, .int .i64 0, .int .u64 0, .int .i64 0, .int .i64 0, .int .i64 0] ⟨b, off, none⟩ (show b ≠ X0.heap.size by omega)).trans TT
      have BX := below_setRow BX (Nat.le_of_lt hg5) #[.int .i64 kk, .int .i64 sk, .int .u64 sb, .int .i64 tk, .int .u64 tb, .slice none 0 0, .int .u32 0, .int .u32 0, .int .i64 0, .int .i64 0, .int .i64 0, .int .i64 0, .int .i64 0, .int .u64 0, .int .i64 0, .int .i64 0, .int .i64 0]
      generalize X5.setRow X0.heap.size #[.int .i64 kk, .int .i64 sk, .int .u64 sb, .int .i64 tk, .int .u64 tb, .slice none 0 0, .int .u32 0, .int .u32 0, .int .i64 0, .int .i64 0, .int .i64 0, .int .i64 0, .int .i64 0, .int .u64 0, .int .i64 0, .int .i64 0, .int .i64 0] = X6 at *
      refine hK.out _ _ TT (fun hHeld => ?_)
      clear hK K
      try simp only [List.getElem_toArray, List.getElem_cons_zero, List.getElem_cons_succ, Act.put, List.setIfInBounds_toArray, List.set_cons_zero, List.set_cons_succ]
      refine wpAnyH_take (i := 14) (v := .slice A' L.length c') rfl (by kernel_rfl) (by kernel_rfl) (by kernel_rfl) (fun _ _ _ h => h) (Or.inl ⟨by first | rfl | go_simp, by intro w9 hSw; (try dsimp only at hSw); go_simp⟩) (by assumption) ?_
      simp only [List.getElem_toArray, List.getElem_cons_zero, List.getElem_cons_succ, Act.put, List.setIfInBounds_toArray, List.set_cons_zero, List.set_cons_succ]
      refine wpAnyH_take (i := 15) (v := .int .i64 er) rfl (by kernel_rfl) (by kernel_rfl) (by kernel_rfl) (fun _ _ _ h => h) (Or.inl ⟨by first | rfl | go_simp, by intro w9 hSw; (try dsimp only at hSw); go_simp⟩) (by assumption) ?_
      simp only [List.getElem_toArray, List.getElem_cons_zero, List.getElem_cons_succ, Act.put, List.setIfInBounds_toArray, List.set_cons_zero, List.set_cons_succ]
      refine wpAnyH_done (by kernel_rfl) ?_ _
      go_wp2_with fail
      go_meet
      exact ⟨_, A', c', rfl, rfl, rfl, hcap, IL, hfN, P5, hg5, K2, BX, TT⟩
  case rest =>
    obtain ⟨g5, A', c', rfl, rfl, rfl, hcap, IL, hfN, P5, hg5, K2, BX, TT⟩ := hcut
    by_cases he : er = 0
    · subst he
      obtain rfl := HK.out rfl
      have HF0 := Lib.hid (HFx.out rfl)
      have TT : wc.cell? ⟨b, off, none⟩ = some (.int .u8 x) ∧ Cel wc g5 (x % 16) sk sb tk tb (.slice none 0 0) := ⟨TT, pd_cells P5⟩
      have HE2a := Lib.hid (HE2.out rfl)
      have HEdA := Lib.hid (HEd.out rfl)
      have HEcA := Lib.hid (HEc.out rfl)
      have HEnA := Lib.hid (HEn.out rfl)
      clear HE2 HEd HEc HEn HK HFx
      by_cases hf : x = F
      · have g7 : (x != F) = false := by simpa using hf
        have g7' : (F != x) = false := by simpa using hf.symm
        have HEd0 := Lib.hid (HEdA.out hf)
        have HEc0 := Lib.hid (HEcA.out hf)
        have HEn0 := Lib.hid (HEnA.out hf)
        clear HE1 HE2a HEdA HEcA HEnA hf
        go_wp2_with fail
        refine wp_region_held_drew (S := (fun w' => w'.cell? ⟨b, off, none⟩ = some (.int .u8 x) ∧ Cel w' g5 (x % 16) sk sb tk tb (.slice none 0 0))) (by kernel_rfl) ?_ (fun hHeld => ?_)
        · exact TT
        have TT : wc.drew.cell? ⟨b, off, none⟩ = some (.int .u8 x) ∧ Cel wc.drew g5 (x % 16) sk sb tk tb (.slice none 0 0) := TT
        have BX : Below w.heap.size w wc.drew := BX.drew
        have K2 : Blk wc.drew w.heap.size 33 #[.int .i64 0, .int .i64 0, .int .u64 0, .int .i64 0, .int .u64 0, .slice none 0 0, .int .u32 0, .int .u32 0, .int .i64 0, .int .i64 0, .int .i64 0, .int .i64 0, .int .i64 0, .int .u64 0, .int .i64 0, .int .i64 0, .int .i64 0] := K2
        have P5 : Blk wc.drew g5 33 #[.int .i64 (x % 16), .int .i64 sk, .int .u64 sb, .int .i64 tk, .int .u64 tb, .slice none 0 0, .int .u32 0, .int .u32 0, .int .i64 0, .int .i64 0, .int .i64 0, .int .i64 0, .int .i64 0, .int .u64 0, .int .i64 0, .int .i64 0, .int .i64 0] := P5
        have IL : Ints .u8 wc.drew wc.drew.heap.size A' L := IL
        generalize wc.drew = Z0 at *
        refine wpAnyH_take (i := 0) (v := .agg #[.int .i64 (x % 16), .int .i64 sk, .int .u64 sb, .int .i64 tk, .int .u64 tb, .slice none 0 0, .int .u32 0, .int .u32 0, .int .i64 0, .int .i64 0, .int .i64 0, .int .i64 0, .int .i64 0, .int .u64 0, .int .i64 0, .int .i64 0, .int .i64 0]) rfl (by kernel_rfl) (by kernel_rfl) (by kernel_rfl) (fun _ _ _ h => h) (Or.inl ⟨by first | rfl | go_simp, by intro w9 hSw; (try dsimp only at hSw); go_simp⟩) (by assumption) ?_
        simp only [List.getElem_toArray, List.getElem_cons_zero, List.getElem_cons_succ, Act.put, List.setIfInBounds_toArray, List.set_cons_zero, List.set_cons_succ]
        refine wpAnyH_take (i := 2) (v := .slice (some ⟨b, off, none⟩) n c) rfl (by kernel_rfl) (by kernel_rfl) (by kernel_rfl) (fun _ _ _ h => h) (Or.inl ⟨by first | rfl | go_simp, by intro w9 hSw; (try dsimp only at hSw); go_simp⟩) (by assumption) ?_
        simp only [List.getElem_toArray, List.getElem_cons_zero, List.getElem_cons_succ, Act.put, List.setIfInBounds_toArray, List.set_cons_zero, List.set_cons_succ]
        refine wpAnyH_take (i := 3) (v := .pointer (some ⟨b, off, none⟩)) rfl (by kernel_rfl) (by kernel_rfl) (by kernel_rfl) (fun _ _ _ h => h) (Or.inl ⟨by first | rfl | go_simp, by intro w9 hSw; (try dsimp only at hSw); go_simp⟩) (by assumption) ?_
        simp only [List.getElem_toArray, List.getElem_cons_zero, List.getElem_cons_succ, Act.put, List.setIfInBounds_toArray, List.set_cons_zero, List.set_cons_succ]
        refine wpAnyH_take (i := 4) (v := .int .u8 x) rfl (by kernel_rfl) (by kernel_rfl) (by kernel_rfl) (fun _ _ _ h => h) (Or.inl ⟨by first | rfl | go_simp, by intro w9 hSw; (try dsimp only at hSw); go_simp⟩) (by assumption) ?_
        simp only [List.getElem_toArray, List.getElem_cons_zero, List.getElem_cons_succ, Act.put, List.setIfInBounds_toArray, List.set_cons_zero, List.set_cons_succ]
        refine wpAnyH_ready (rs := [1]) (by kernel_rfl) (by simp) ?_
        refine AllReadyH.cons rfl (fun K hK => ?_) (AllReadyH.nil)
        go_simp
        refine (HF0.out Z0).mono ?_
        rintro e Z1 ⟨rfl, b9⟩
        have TT := And.intro ((b9.cell (p := ⟨b, off, none⟩) (block_lt_of_cell TT.1)).trans TT.1) (cel_below TT.2 b9)
        have BX := thenB BX b9
        have K2 := K2.below b9 K2.lt
        have P5 := P5.below b9 P5.lt
        have IL := Base.later IL b9
        refine hK.out _ _ TT (fun hHeld => ?_)
        clear hK K
        try simp only [List.getElem_toArray, List.getElem_cons_zero, List.getElem_cons_succ, Act.put, List.setIfInBounds_toArray, List.set_cons_zero, List.set_cons_succ]
        refine wpAnyH_take (i := 5) (v := .bool false) rfl (by kernel_rfl) (by kernel_rfl) (by kernel_rfl) (fun _ _ _ h => h) (Or.inl ⟨by first | rfl | go_simp, by intro w9 hSw; (try dsimp only at hSw); go_simp⟩) (by assumption) ?_
        simp only [List.getElem_toArray, List.getElem_cons_zero, List.getElem_cons_succ, Act.put, List.setIfInBounds_toArray, List.set_cons_zero, List.set_cons_succ]
        refine wpAnyH_done (by kernel_rfl) ?_ _
        have u0 := P5.cell 0
        go_wp2_with fail
        refine (HHd.out Z1).mono ?_
        rintro e y1 ⟨rfl, rfl⟩
        cases D with
        | true =>
          have HEd := Lib.hid (HEd0.out rfl)
          clear HEc0 HEn0 HEd0
          by_cases hl : 31 < L.length
          · have HZ : Hid (R = (zp, 4)) := Lib.hid (by rw [HEd.out, if_pos hl])
            have gl : (31 : Int) < (L.length : Int) := by omega
            have H1 : (#[.int .i64 0, .int .i64 0, .int .u64 0, .int .i64 0, .int .u64 0, .slice none 0 0, .int .u32 0, .int .u32 0, .int .i64 0, .int .i64 0, .int .i64 0, .int .i64 0, .int .i64 0, .int .u64 0, .int .i64 0, .int .i64 0, .int .i64 0] : Array Value).all (·.oneCell') = true := by rw [← Array.all_toList]; rfl
            go_wp2_with (refine wpList_store_row rfl 33 (.tmp 2) _ rfl w.heap.size #[.int .i64 0, .int .i64 0, .int .u64 0, .int .i64 0, .int .u64 0, .slice none 0 0, .int .u32 0, .int .u32 0, .int .i64 0, .int .i64 0, .int .i64 0, .int .i64 0, .int .i64 0, .int .u64 0, .int .i64 0, .int .i64 0, .int .i64 0] rfl rfl 33 _ K2 (by kernel_rfl) rfl H1 ?_)
            have KR : Blk (Z1.setRow w.heap.size #[.int .i64 0, .int .i64 0, .int .u64 0, .int .i64 0, .int .u64 0, .slice none 0 0, .int .u32 0, .int .u32 0, .int .i64 0, .int .i64 0, .int .i64 0, .int .i64 0, .int .i64 0, .int .u64 0, .int .i64 0, .int .i64 0, .int .i64 0]) w.heap.size 33 #[.int .i64 0, .int .i64 0, .int .u64 0, .int .i64 0, .int .u64 0, .slice none 0 0, .int .u32 0, .int .u32 0, .int .i64 0, .int .i64 0, .int .i64 0, .int .i64 0, .int .i64 0, .int .u64 0, .int .i64 0, .int .i64 0, .int .i64 0] := setRow_heap Z1 w.heap.size _ #[.int .i64 0, .int .i64 0, .int .u64 0, .int .i64 0, .int .u64 0, .slice none 0 0, .int .u32 0, .int .u32 0, .int .i64 0, .int .i64 0, .int .i64 0, .int .i64 0, .int .i64 0, .int .u64 0, .int .i64 0, .int .i64 0, .int .i64 0] 33 (0, 0) K2
            have BE := below_setRow BX (Nat.le_refl _) #[.int .i64 0, .int .i64 0, .int .u64 0, .int .i64 0, .int .u64 0, .slice none 0 0, .int .u32 0, .int .u32 0, .int .i64 0, .int .i64 0, .int .i64 0, .int .i64 0, .int .i64 0, .int .u64 0, .int .i64 0, .int .i64 0, .int .i64 0]
            generalize Z1.setRow w.heap.size #[.int .i64 0, .int .i64 0, .int .u64 0, .int .i64 0, .int .u64 0, .slice none 0 0, .int .u32 0, .int .u32 0, .int .i64 0, .int .i64 0, .int .i64 0, .int .i64 0, .int .i64 0, .int .u64 0, .int .i64 0, .int .i64 0, .int .i64 0] = Y at *
            refine bodyPost_ret (v := .tuple #[.agg #[.int .i64 0, .int .i64 0, .int .u64 0, .int .i64 0, .int .u64 0, .slice none 0 0, .int .u32 0, .int .u32 0, .int .i64 0, .int .i64 0, .int .i64 0, .int .i64 0, .int .i64 0, .int .u64 0, .int .i64 0, .int .i64 0, .int .i64 0], .int .i64 4]) ?_ rfl ⟨none, 0, (by rw [HZ.out]; rfl), (by rw [HZ.out]; exact Nat.le_refl _), (by rw [HZ.out]; exact .inl rfl), BE⟩
            have HL := run_loadVar_row (P := Tryd.prog) Y w.heap.size 33 33 #[.int .i64 0, .int .i64 0, .int .u64 0, .int .i64 0, .int .u64 0, .slice none 0 0, .int .u32 0, .int .u32 0, .int .i64 0, .int .i64 0, .int .i64 0, .int .i64 0, .int .i64 0, .int .u64 0, .int .i64 0, .int .i64 0, .int .i64 0] (0, 0) _ KR Tryd.underlying33 rfl (by kernel_rfl)
            generalize (#[.int .i64 0, .int .i64 0, .int .u64 0, .int .i64 0, .int .u64 0, .slice none 0 0, .int .u32 0, .int .u32 0, .int .i64 0, .int .i64 0, .int .i64 0, .int .i64 0, .int .i64 0, .int .u64 0, .int .i64 0, .int .i64 0, .int .i64 0] : Array Value) = CS at *
            simp [results, show (Tryd.f17).results = #[.cell 2 33, .slot 3] from rfl, asAddr, HL, Act.put]
          · have HZ : Hid (R = (withD (x % 16) sk sb tk tb L, 0)) := Lib.hid (by rw [HEd.out, if_neg hl])
            have gl : ¬ (31 : Int) < (L.length : Int) := by omega
            have own0 : (Z1.alloc (.cells #[] 5)).ownsRow Z1.heap.size 5 1 (.slice (some ⟨Z1.heap.size, 0, none⟩) 0 0) 0 [] := by
              have := World.ownsRow_made (base := Z1.heap.size) (e := 5) (size := 1) Z1 #[] 0 (Nat.le_refl _) (by unfold maxLen; omega) rfl
              simpa using this
            obtain ⟨i0, hi, hz0, hz1, hz2⟩ := info_parts Base.info_u8
            have IR := IL.alloc (Nat.le_refl _) (.cells #[] 5)
            have g5l := P5.lt
            have K2l := K2.lt
            have bz : Below Z1.heap.size Z1 (Z1.alloc (.cells #[] 5)) := (Below.refl _ _).alloc (Nat.le_refl _) _
            go_upto_region 20 with (at_builtin; refine wpList_append_ints rfl _ _ 25 rfl .u8 Z1.heap.size 5 i0 _ 1 Tryd.underlying25 hi hz0 hz1 hz2 rfl (.slice (some ⟨Z1.heap.size, 0, none⟩) 0 0) 0 [] rfl own0 Z1.heap.size A' L.length c' L rfl rfl IR (by unfold maxLen; omega) (by omega) (by simp) ?_; intro v1 w1 own1 b1 g1; obtain ⟨A1, c1, rfl⟩ := own_form own1; simp only [Nat.zero_add, List.nil_append] at own1 ⊢; have x5 := (P5.below (bz.trans b1) g5l).cell 5; have y5 := Clk.frz (P5.below (bz.trans b1) g5l) 5)
            clear x5 y5
            replace P5 := P5.below (bz.trans b1) g5l
            replace K2 := K2.below (bz.trans b1) K2l
            replace BX := BX.trans ((bz.trans b1).mono (Nat.le_of_lt K2l))
            have hs1 := own_sep' own1 rfl
            have hcap := own_cap own1
            have I1 := Ints.own own1
            clear own0 own1 IR IL hi hz0 hz1 hz2 g1
            replace I1 := far1 (i := 5) (x := .slice A1 L.length c1) (g := g5) hs1 g5l I1
            replace P5 : Blk (w1.setCell ⟨g5, 5, none⟩ (.slice A1 L.length c1)) g5 33 #[.int .i64 (x % 16), .int .i64 sk, .int .u64 sb, .int .i64 tk, .int .u64 tb, .slice A1 L.length c1, .int .u32 0, .int .u32 0, .int .i64 0, .int .i64 0, .int .i64 0, .int .i64 0, .int .i64 0, .int .u64 0, .int .i64 0, .int .i64 0, .int .i64 0] := by
              have := Cn.blk_setc P5 5 (.slice A1 L.length c1)
              simpa using this
            replace K2 : Blk (w1.setCell ⟨g5, 5, none⟩ (.slice A1 L.length c1)) w.heap.size 33 #[.int .i64 0, .int .i64 0, .int .u64 0, .int .i64 0, .int .u64 0, .slice none 0 0, .int .u32 0, .int .u32 0, .int .i64 0, .int .i64 0, .int .i64 0, .int .i64 0, .int .i64 0, .int .u64 0, .int .i64 0, .int .i64 0, .int .i64 0] := bother K2 (by omega) _
            replace BX := BX.setCell (p := ⟨g5, 5, none⟩) (show w.heap.size ≤ g5 by omega) (.slice A1 L.length c1)
            replace I1 := I1.more (Nat.le_of_eq (sz1 w1 ⟨g5, 5, none⟩ (.slice A1 L.length c1)).symm)
            clear b1 bz
            generalize w1.setCell ⟨g5, 5, none⟩ (.slice A1 L.length c1) = Y1 at *
            have H6 : (#[.int .i64 (x % 16), .int .i64 sk, .int .u64 sb, .int .i64 tk, .int .u64 tb, .slice A1 L.length c1, .int .u32 0, .int .u32 0, .int .i64 0, .int .i64 0, .int .i64 0, .int .i64 0, .int .i64 0, .int .u64 0, .int .i64 0, .int .i64 0, .int .i64 0] : Array Value).all (·.oneCell') = true := by rw [← Array.all_toList]; rfl
            go_wp2_with (first | (refine wpList_store_row rfl 33 (.tmp 2) _ rfl w.heap.size #[.int .i64 (x % 16), .int .i64 sk, .int .u64 sb, .int .i64 tk, .int .u64 tb, .slice A1 L.length c1, .int .u32 0, .int .u32 0, .int .i64 0, .int .i64 0, .int .i64 0, .int .i64 0, .int .i64 0, .int .u64 0, .int .i64 0, .int .i64 0, .int .i64 0] rfl rfl 33 _ K2 (by kernel_rfl) rfl H6 ?_) | (refine wpList_load_row rfl 33 (.tmp 4) rfl g5 rfl 33 _ (0, 0) _ P5 Tryd.underlying33 rfl (by kernel_rfl) ?_))
            have KR : Blk (Y1.setRow w.heap.size #[.int .i64 (x % 16), .int .i64 sk, .int .u64 sb, .int .i64 tk, .int .u64 tb, .slice A1 L.length c1, .int .u32 0, .int .u32 0, .int .i64 0, .int .i64 0, .int .i64 0, .int .i64 0, .int .i64 0, .int .u64 0, .int .i64 0, .int .i64 0, .int .i64 0]) w.heap.size 33 #[.int .i64 (x % 16), .int .i64 sk, .int .u64 sb, .int .i64 tk, .int .u64 tb, .slice A1 L.length c1, .int .u32 0, .int .u32 0, .int .i64 0, .int .i64 0, .int .i64 0, .int .i64 0, .int .i64 0, .int .u64 0, .int .i64 0, .int .i64 0, .int .i64 0] := setRow_heap Y1 w.heap.size _ #[.int .i64 (x % 16), .int .i64 sk, .int .u64 sb, .int .i64 tk, .int .u64 tb, .slice A1 L.length c1, .int .u32 0, .int .u32 0, .int .i64 0, .int .i64 0, .int .i64 0, .int .i64 0, .int .i64 0, .int .u64 0, .int .i64 0, .int .i64 0, .int .i64 0] 33 (0, 0) K2
            have BE := below_setRow BX (Nat.le_refl _) #[.int .i64 (x % 16), .int .i64 sk, .int .u64 sb, .int .i64 tk, .int .u64 tb, .slice A1 L.length c1, .int .u32 0, .int .u32 0, .int .i64 0, .int .i64 0, .int .i64 0, .int .i64 0, .int .i64 0, .int .u64 0, .int .i64 0, .int .i64 0, .int .i64 0]
            have IE := (farR (cs := #[.int .i64 (x % 16), .int .i64 sk, .int .u64 sb, .int .i64 tk, .int .u64 tb, .slice A1 L.length c1, .int .u32 0, .int .u32 0, .int .i64 0, .int .i64 0, .int .i64 0, .int .i64 0, .int .i64 0, .int .u64 0, .int .i64 0, .int .i64 0, .int .i64 0]) hs1 K2l I1).more (Nat.le_of_eq (size_setRow Y1 w.heap.size #[.int .i64 (x % 16), .int .i64 sk, .int .u64 sb, .int .i64 tk, .int .u64 tb, .slice A1 L.length c1, .int .u32 0, .int .u32 0, .int .i64 0, .int .i64 0, .int .i64 0, .int .i64 0, .int .i64 0, .int .u64 0, .int .i64 0, .int .i64 0, .int .i64 0]).symm)
            have DD : Decd w (Y1.setRow w.heap.size #[.int .i64 (x % 16), .int .i64 sk, .int .u64 sb, .int .i64 tk, .int .u64 tb, .slice A1 L.length c1, .int .u32 0, .int .u32 0, .int .i64 0, .int .i64 0, .int .i64 0, .int .i64 0, .int .i64 0, .int .u64 0, .int .i64 0, .int .i64 0, .int .i64 0]) (.returned (.tuple #[.agg #[.int .i64 (x % 16), .int .i64 sk, .int .u64 sb, .int .i64 tk, .int .u64 tb, .slice A1 L.length c1, .int .u32 0, .int .u32 0, .int .i64 0, .int .i64 0, .int .i64 0, .int .i64 0, .int .i64 0, .int .u64 0, .int .i64 0, .int .i64 0, .int .i64 0], .int .i64 0])) (withD (x % 16) sk sb tk tb L, 0) := ⟨A1, c1, rfl, hcap, IE, BE⟩
            generalize Y1.setRow w.heap.size #[.int .i64 (x % 16), .int .i64 sk, .int .u64 sb, .int .i64 tk, .int .u64 tb, .slice A1 L.length c1, .int .u32 0, .int .u32 0, .int .i64 0, .int .i64 0, .int .i64 0, .int .i64 0, .int .i64 0, .int .u64 0, .int .i64 0, .int .i64 0, .int .i64 0] = Y at *
            have HL := run_loadVar_row (P := Tryd.prog) Y w.heap.size 33 33 #[.int .i64 (x % 16), .int .i64 sk, .int .u64 sb, .int .i64 tk, .int .u64 tb, .slice A1 L.length c1, .int .u32 0, .int .u32 0, .int .i64 0, .int .i64 0, .int .i64 0, .int .i64 0, .int .i64 0, .int .u64 0, .int .i64 0, .int .i64 0, .int .i64 0] (0, 0) _ KR Tryd.underlying33 rfl (by kernel_rfl)
            refine bodyPost_ret (v := .tuple #[.agg #[.int .i64 (x % 16), .int .i64 sk, .int .u64 sb, .int .i64 tk, .int .u64 tb, .slice A1 L.length c1, .int .u32 0, .int .u32 0, .int .i64 0, .int .i64 0, .int .i64 0, .int .i64 0, .int .i64 0, .int .u64 0, .int .i64 0, .int .i64 0, .int .i64 0], .int .i64 0]) ?_ rfl (by rw [HZ.out]; exact DD)
            clear H6
            generalize (#[.int .i64 (x % 16), .int .i64 sk, .int .u64 sb, .int .i64 tk, .int .u64 tb, .slice A1 L.length c1, .int .u32 0, .int .u32 0, .int .i64 0, .int .i64 0, .int .i64 0, .int .i64 0, .int .i64 0, .int .u64 0, .int .i64 0, .int .i64 0, .int .i64 0] : Array Value) = CS at *
            simp [results, show (Tryd.f17).results = #[.cell 2 33, .slot 3] from rfl, asAddr, HL, Act.put]
        | false =>
          have HEc := Lib.hid (HEc0.out rfl)
          have HEn := Lib.hid (HEn0.out rfl)
          clear HEc0 HEn0 HEd0
          by_cases hC : x % 16 = 5
          · have g10 : (x % 16 == 5) = true := by simpa using hC
            have HEc1 := Lib.hid (HEc.out hC)
            clear HEc HEn hC
            go_wp2_with fail
            refine (HCd.out Z1 A' c' hcap IL).mono ?_
            rintro e y2 ⟨rfl, b8⟩
            replace BX := thenB BX b8
            replace K2 := K2.below b8 K2.lt
            replace P5 := P5.below b8 P5.lt
            clear b8 TT IL
            have K9 := Blk.fresh y2 31 #[.int .u32 0, .int .u32 0, .int .i64 0, .int .i64 0, .int .i64 0, .int .i64 0, .int .i64 0, .int .u64 0, .int .i64 0, .int .i64 0, .int .i64 0]
            have H9 : (#[.int .u32 n0, .int .u32 n1, .int .i64 n2, .int .i64 n3, .int .i64 n4, .int .i64 n5, .int .i64 n6, .int .u64 (n7 : Int), .int .i64 n8, .int .i64 n9, .int .i64 n10] : Array Value).all (·.oneCell') = true := by rw [← Array.all_toList]; rfl
            have b7 : Below y2.heap.size y2 ((y2.alloc (.cells #[.int .u32 0, .int .u32 0, .int .i64 0, .int .i64 0, .int .i64 0, .int .i64 0, .int .i64 0, .int .u64 0, .int .i64 0, .int .i64 0, .int .i64 0] 31)).setRow y2.heap.size #[.int .u32 n0, .int .u32 n1, .int .i64 n2, .int .i64 n3, .int .i64 n4, .int .i64 n5, .int .i64 n6, .int .u64 (n7 : Int), .int .i64 n8, .int .i64 n9, .int .i64 n10]) := below_setRow ((Below.refl _ _).alloc (Nat.le_refl _) _) (Nat.le_refl _) _
            go_upto_region 23 with (refine wpList_store_row rfl 31 (.tmp 7) _ rfl y2.heap.size #[.int .u32 n0, .int .u32 n1, .int .i64 n2, .int .i64 n3, .int .i64 n4, .int .i64 n5, .int .i64 n6, .int .u64 (n7 : Int), .int .i64 n8, .int .i64 n9, .int .i64 n10] rfl rfl 31 _ K9 (by kernel_rfl) rfl H9 ?_)
            replace K9 : Blk ((y2.alloc (.cells #[.int .u32 0, .int .u32 0, .int .i64 0, .int .i64 0, .int .i64 0, .int .i64 0, .int .i64 0, .int .u64 0, .int .i64 0, .int .i64 0, .int .i64 0] 31)).setRow y2.heap.size #[.int .u32 n0, .int .u32 n1, .int .i64 n2, .int .i64 n3, .int .i64 n4, .int .i64 n5, .int .i64 n6, .int .u64 (n7 : Int), .int .i64 n8, .int .i64 n9, .int .i64 n10]) y2.heap.size 31 #[.int .u32 n0, .int .u32 n1, .int .i64 n2, .int .i64 n3, .int .i64 n4, .int .i64 n5, .int .i64 n6, .int .u64 (n7 : Int), .int .i64 n8, .int .i64 n9, .int .i64 n10] := setRow_heap _ y2.heap.size _ #[.int .u32 n0, .int .u32 n1, .int .i64 n2, .int .i64 n3, .int .i64 n4, .int .i64 n5, .int .i64 n6, .int .u64 (n7 : Int), .int .i64 n8, .int .i64 n9, .int .i64 n10] 31 (0, 0) K9
            have g59 : g5 < y2.heap.size := P5.lt
            replace BX := thenB BX b7
            replace K2 := K2.below b7 K2.lt
            replace P5 := P5.below b7 P5.lt
            clear b7 H9
            generalize (y2.alloc (.cells #[.int .u32 0, .int .u32 0, .int .i64 0, .int .i64 0, .int .i64 0, .int .i64 0, .int .i64 0, .int .u64 0, .int .i64 0, .int .i64 0, .int .i64 0] 31)).setRow y2.heap.size #[.int .u32 n0, .int .u32 n1, .int .i64 n2, .int .i64 n3, .int .i64 n4, .int .i64 n5, .int .i64 n6, .int .u64 (n7 : Int), .int .i64 n8, .int .i64 n9, .int .i64 n10] = Y2 at *
            generalize y2.heap.size = g9 at *
            by_cases hec : ec = 0
            · subst hec
              have HZ : Hid (R = ((⟨x % 16, sk, sb, tk, tb, [], n0, n1, n2, n3, n4, n5, n6, n7, n8, n9, n10⟩ : Pd), 0)) := Lib.hid (by rw [HEc1.out, if_neg (by simp)])
              clear HEc1
              obtain ⟨u_0, u_1, u_2, u_3, u_4, u_5, u_6, u_7, u_8, u_9, u_10, u_11, u_12, u_13, u_14, u_15, u_16⟩ := pd_cells P5
              obtain ⟨f_0, f_1, f_2, f_3, f_4, f_5, f_6, f_7, f_8, f_9, f_10, f_11, f_12, f_13, f_14, f_15, f_16⟩ := pd_frz P5
              have h2 := P5.lt
              clear u_0 u_1 u_2 u_3 u_4 u_5 f_0 f_1 f_2 f_3 f_4 f_5
              go_upto_region 26 with (refine wpList_load_row rfl 31 (.tmp 7) rfl g9 rfl 31 _ (0, 0) _ K9 Tryd.underlying31 rfl (by kernel_rfl) ?_)
              clear u_6 u_7 u_8 u_9 u_10 u_11 u_12 u_13 u_14 u_15 u_16 f_6 f_7 f_8 f_9 f_10 f_11 f_12 f_13 f_14 f_15 f_16 K9
              replace P5 : Blk (((((((((((Y2.setCell ⟨g5, 6, none⟩ (.int .u32 n0)).setCell ⟨g5, 7, none⟩ (.int .u32 n1)).setCell ⟨g5, 8, none⟩ (.int .i64 n2)).setCell ⟨g5, 9, none⟩ (.int .i64 n3)).setCell ⟨g5, 10, none⟩ (.int .i64 n4)).setCell ⟨g5, 11, none⟩ (.int .i64 n5)).setCell ⟨g5, 12, none⟩ (.int .i64 n6)).setCell ⟨g5, 13, none⟩ (.int .u64 (n7 : Int))).setCell ⟨g5, 14, none⟩ (.int .i64 n8)).setCell ⟨g5, 15, none⟩ (.int .i64 n9)).setCell ⟨g5, 16, none⟩ (.int .i64 n10)) g5 33 #[.int .i64 (x % 16), .int .i64 sk, .int .u64 sb, .int .i64 tk, .int .u64 tb, .slice none 0 0, .int .u32 n0, .int .u32 n1, .int .i64 n2, .int .i64 n3, .int .i64 n4, .int .i64 n5, .int .i64 n6, .int .u64 (n7 : Int), .int .i64 n8, .int .i64 n9, .int .i64 n10] := conn_set (.int .u32 n0) (.int .u32 n1) (.int .i64 n2) (.int .i64 n3) (.int .i64 n4) (.int .i64 n5) (.int .i64 n6) (.int .u64 (n7 : Int)) (.int .i64 n8) (.int .i64 n9) (.int .i64 n10) P5
              replace K2 : Blk (((((((((((Y2.setCell ⟨g5, 6, none⟩ (.int .u32 n0)).setCell ⟨g5, 7, none⟩ (.int .u32 n1)).setCell ⟨g5, 8, none⟩ (.int .i64 n2)).setCell ⟨g5, 9, none⟩ (.int .i64 n3)).setCell ⟨g5, 10, none⟩ (.int .i64 n4)).setCell ⟨g5, 11, none⟩ (.int .i64 n5)).setCell ⟨g5, 12, none⟩ (.int .i64 n6)).setCell ⟨g5, 13, none⟩ (.int .u64 (n7 : Int))).setCell ⟨g5, 14, none⟩ (.int .i64 n8)).setCell ⟨g5, 15, none⟩ (.int .i64 n9)).setCell ⟨g5, 16, none⟩ (.int .i64 n10)) w.heap.size 33 #[.int .i64 0, .int .i64 0, .int .u64 0, .int .i64 0, .int .u64 0, .slice none 0 0, .int .u32 0, .int .u32 0, .int .i64 0, .int .i64 0, .int .i64 0, .int .i64 0, .int .i64 0, .int .u64 0, .int .i64 0, .int .i64 0, .int .i64 0] := conn_other (.int .u32 n0) (.int .u32 n1) (.int .i64 n2) (.int .i64 n3) (.int .i64 n4) (.int .i64 n5) (.int .i64 n6) (.int .u64 (n7 : Int)) (.int .i64 n8) (.int .i64 n9) (.int .i64 n10) K2 (by omega)
              replace BX : Below w.heap.size w (((((((((((Y2.setCell ⟨g5, 6, none⟩ (.int .u32 n0)).setCell ⟨g5, 7, none⟩ (.int .u32 n1)).setCell ⟨g5, 8, none⟩ (.int .i64 n2)).setCell ⟨g5, 9, none⟩ (.int .i64 n3)).setCell ⟨g5, 10, none⟩ (.int .i64 n4)).setCell ⟨g5, 11, none⟩ (.int .i64 n5)).setCell ⟨g5, 12, none⟩ (.int .i64 n6)).setCell ⟨g5, 13, none⟩ (.int .u64 (n7 : Int))).setCell ⟨g5, 14, none⟩ (.int .i64 n8)).setCell ⟨g5, 15, none⟩ (.int .i64 n9)).setCell ⟨g5, 16, none⟩ (.int .i64 n10)) := conn_below (.int .u32 n0) (.int .u32 n1) (.int .i64 n2) (.int .i64 n3) (.int .i64 n4) (.int .i64 n5) (.int .i64 n6) (.int .u64 (n7 : Int)) (.int .i64 n8) (.int .i64 n9) (.int .i64 n10) BX (Nat.le_of_lt hg5)
              generalize (((((((((((Y2.setCell ⟨g5, 6, none⟩ (.int .u32 n0)).setCell ⟨g5, 7, none⟩ (.int .u32 n1)).setCell ⟨g5, 8, none⟩ (.int .i64 n2)).setCell ⟨g5, 9, none⟩ (.int .i64 n3)).setCell ⟨g5, 10, none⟩ (.int .i64 n4)).setCell ⟨g5, 11, none⟩ (.int .i64 n5)).setCell ⟨g5, 12, none⟩ (.int .i64 n6)).setCell ⟨g5, 13, none⟩ (.int .u64 (n7 : Int))).setCell ⟨g5, 14, none⟩ (.int .i64 n8)).setCell ⟨g5, 15, none⟩ (.int .i64 n9)).setCell ⟨g5, 16, none⟩ (.int .i64 n10)) = Y3 at *
              have H6 : (#[.int .i64 (x % 16), .int .i64 sk, .int .u64 sb, .int .i64 tk, .int .u64 tb, .slice none 0 0, .int .u32 n0, .int .u32 n1, .int .i64 n2, .int .i64 n3, .int .i64 n4, .int .i64 n5, .int .i64 n6, .int .u64 (n7 : Int), .int .i64 n8, .int .i64 n9, .int .i64 n10] : Array Value).all (·.oneCell') = true := by rw [← Array.all_toList]; rfl
              go_wp2_with (first | (refine wpList_store_row rfl 33 (.tmp 2) _ rfl w.heap.size #[.int .i64 (x % 16), .int .i64 sk, .int .u64 sb, .int .i64 tk, .int .u64 tb, .slice none 0 0, .int .u32 n0, .int .u32 n1, .int .i64 n2, .int .i64 n3, .int .i64 n4, .int .i64 n5, .int .i64 n6, .int .u64 (n7 : Int), .int .i64 n8, .int .i64 n9, .int .i64 n10] rfl rfl 33 _ K2 (by kernel_rfl) rfl H6 ?_) | (refine wpList_load_row rfl 33 (.tmp 4) rfl g5 rfl 33 _ (0, 0) _ P5 Tryd.underlying33 rfl (by kernel_rfl) ?_))
              have KR : Blk (Y3.setRow w.heap.size #[.int .i64 (x % 16), .int .i64 sk, .int .u64 sb, .int .i64 tk, .int .u64 tb, .slice none 0 0, .int .u32 n0, .int .u32 n1, .int .i64 n2, .int .i64 n3, .int .i64 n4, .int .i64 n5, .int .i64 n6, .int .u64 (n7 : Int), .int .i64 n8, .int .i64 n9, .int .i64 n10]) w.heap.size 33 #[.int .i64 (x % 16), .int .i64 sk, .int .u64 sb, .int .i64 tk, .int .u64 tb, .slice none 0 0, .int .u32 n0, .int .u32 n1, .int .i64 n2, .int .i64 n3, .int .i64 n4, .int .i64 n5, .int .i64 n6, .int .u64 (n7 : Int), .int .i64 n8, .int .i64 n9, .int .i64 n10] := setRow_heap Y3 w.heap.size _ #[.int .i64 (x % 16), .int .i64 sk, .int .u64 sb, .int .i64 tk, .int .u64 tb, .slice none 0 0, .int .u32 n0, .int .u32 n1, .int .i64 n2, .int .i64 n3, .int .i64 n4, .int .i64 n5, .int .i64 n6, .int .u64 (n7 : Int), .int .i64 n8, .int .i64 n9, .int .i64 n10] 33 (0, 0) K2
              have BE := below_setRow BX (Nat.le_refl _) #[.int .i64 (x % 16), .int .i64 sk, .int .u64 sb, .int .i64 tk, .int .u64 tb, .slice none 0 0, .int .u32 n0, .int .u32 n1, .int .i64 n2, .int .i64 n3, .int .i64 n4, .int .i64 n5, .int .i64 n6, .int .u64 (n7 : Int), .int .i64 n8, .int .i64 n9, .int .i64 n10]
              have DD : Decd w (Y3.setRow w.heap.size #[.int .i64 (x % 16), .int .i64 sk, .int .u64 sb, .int .i64 tk, .int .u64 tb, .slice none 0 0, .int .u32 n0, .int .u32 n1, .int .i64 n2, .int .i64 n3, .int .i64 n4, .int .i64 n5, .int .i64 n6, .int .u64 (n7 : Int), .int .i64 n8, .int .i64 n9, .int .i64 n10]) (.returned (.tuple #[.agg #[.int .i64 (x % 16), .int .i64 sk, .int .u64 sb, .int .i64 tk, .int .u64 tb, .slice none 0 0, .int .u32 n0, .int .u32 n1, .int .i64 n2, .int .i64 n3, .int .i64 n4, .int .i64 n5, .int .i64 n6, .int .u64 (n7 : Int), .int .i64 n8, .int .i64 n9, .int .i64 n10], .int .i64 0])) ((⟨x % 16, sk, sb, tk, tb, [], n0, n1, n2, n3, n4, n5, n6, n7, n8, n9, n10⟩ : Pd), 0) := ⟨none, 0, rfl, Nat.le_refl _, .inl rfl, BE⟩
              generalize Y3.setRow w.heap.size #[.int .i64 (x % 16), .int .i64 sk, .int .u64 sb, .int .i64 tk, .int .u64 tb, .slice none 0 0, .int .u32 n0, .int .u32 n1, .int .i64 n2, .int .i64 n3, .int .i64 n4, .int .i64 n5, .int .i64 n6, .int .u64 (n7 : Int), .int .i64 n8, .int .i64 n9, .int .i64 n10] = Y at *
              have HL := run_loadVar_row (P := Tryd.prog) Y w.heap.size 33 33 #[.int .i64 (x % 16), .int .i64 sk, .int .u64 sb, .int .i64 tk, .int .u64 tb, .slice none 0 0, .int .u32 n0, .int .u32 n1, .int .i64 n2, .int .i64 n3, .int .i64 n4, .int .i64 n5, .int .i64 n6, .int .u64 (n7 : Int), .int .i64 n8, .int .i64 n9, .int .i64 n10] (0, 0) _ KR Tryd.underlying33 rfl (by kernel_rfl)
              refine bodyPost_ret (v := .tuple #[.agg #[.int .i64 (x % 16), .int .i64 sk, .int .u64 sb, .int .i64 tk, .int .u64 tb, .slice none 0 0, .int .u32 n0, .int .u32 n1, .int .i64 n2, .int .i64 n3, .int .i64 n4, .int .i64 n5, .int .i64 n6, .int .u64 (n7 : Int), .int .i64 n8, .int .i64 n9, .int .i64 n10], .int .i64 0]) ?_ rfl (by rw [HZ.out]; exact DD)
              clear H6
              generalize (#[.int .i64 (x % 16), .int .i64 sk, .int .u64 sb, .int .i64 tk, .int .u64 tb, .slice none 0 0, .int .u32 n0, .int .u32 n1, .int .i64 n2, .int .i64 n3, .int .i64 n4, .int .i64 n5, .int .i64 n6, .int .u64 (n7 : Int), .int .i64 n8, .int .i64 n9, .int .i64 n10] : Array Value) = CS at *
              simp [results, show (Tryd.f17).results = #[.cell 2 33, .slot 3] from rfl, asAddr, HL, Act.put]
            · have HZ : Hid (R = (zp, ec)) := Lib.hid (by rw [HEc1.out, if_pos hec])
              have g9e : (ec != 0) = true := by simpa using hec
              clear HEc1 K9
              have H1 : (#[.int .i64 0, .int .i64 0, .int .u64 0, .int .i64 0, .int .u64 0, .slice none 0 0, .int .u32 0, .int .u32 0, .int .i64 0, .int .i64 0, .int .i64 0, .int .i64 0, .int .i64 0, .int .u64 0, .int .i64 0, .int .i64 0, .int .i64 0] : Array Value).all (·.oneCell') = true := by rw [← Array.all_toList]; rfl
              go_wp2_with (refine wpList_store_row rfl 33 (.tmp 2) _ rfl w.heap.size #[.int .i64 0, .int .i64 0, .int .u64 0, .int .i64 0, .int .u64 0, .slice none 0 0, .int .u32 0, .int .u32 0, .int .i64 0, .int .i64 0, .int .i64 0, .int .i64 0, .int .i64 0, .int .u64 0, .int .i64 0, .int .i64 0, .int .i64 0] rfl rfl 33 _ K2 (by kernel_rfl) rfl H1 ?_)
              have KR : Blk (Y2.setRow w.heap.size #[.int .i64 0, .int .i64 0, .int .u64 0, .int .i64 0, .int .u64 0, .slice none 0 0, .int .u32 0, .int .u32 0, .int .i64 0, .int .i64 0, .int .i64 0, .int .i64 0, .int .i64 0, .int .u64 0, .int .i64 0, .int .i64 0, .int .i64 0]) w.heap.size 33 #[.int .i64 0, .int .i64 0, .int .u64 0, .int .i64 0, .int .u64 0, .slice none 0 0, .int .u32 0, .int .u32 0, .int .i64 0, .int .i64 0, .int .i64 0, .int .i64 0, .int .i64 0, .int .u64 0, .int .i64 0, .int .i64 0, .int .i64 0] := setRow_heap Y2 w.heap.size _ #[.int .i64 0, .int .i64 0, .int .u64 0, .int .i64 0, .int .u64 0, .slice none 0 0, .int .u32 0, .int .u32 0, .int .i64 0, .int .i64 0, .int .i64 0, .int .i64 0, .int .i64 0, .int .u64 0, .int .i64 0, .int .i64 0, .int .i64 0] 33 (0, 0) K2
              have BE := below_setRow BX (Nat.le_refl _) #[.int .i64 0, .int .i64 0, .int .u64 0, .int .i64 0, .int .u64 0, .slice none 0 0, .int .u32 0, .int .u32 0, .int .i64 0, .int .i64 0, .int .i64 0, .int .i64 0, .int .i64 0, .int .u64 0, .int .i64 0, .int .i64 0, .int .i64 0]
              generalize Y2.setRow w.heap.size #[.int .i64 0, .int .i64 0, .int .u64 0, .int .i64 0, .int .u64 0, .slice none 0 0, .int .u32 0, .int .u32 0, .int .i64 0, .int .i64 0, .int .i64 0, .int .i64 0, .int .i64 0, .int .u64 0, .int .i64 0, .int .i64 0, .int .i64 0] = Y at *
              refine bodyPost_ret (v := .tuple #[.agg #[.int .i64 0, .int .i64 0, .int .u64 0, .int .i64 0, .int .u64 0, .slice none 0 0, .int .u32 0, .int .u32 0, .int .i64 0, .int .i64 0, .int .i64 0, .int .i64 0, .int .i64 0, .int .u64 0, .int .i64 0, .int .i64 0, .int .i64 0], .int .i64 ec]) ?_ rfl ⟨none, 0, (by rw [HZ.out]; rfl), (by rw [HZ.out]; exact Nat.le_refl _), (by rw [HZ.out]; exact .inl rfl), BE⟩
              have HL := run_loadVar_row (P := Tryd.prog) Y w.heap.size 33 33 #[.int .i64 0, .int .i64 0, .int .u64 0, .int .i64 0, .int .u64 0, .slice none 0 0, .int .u32 0, .int .u32 0, .int .i64 0, .int .i64 0, .int .i64 0, .int .i64 0, .int .i64 0, .int .u64 0, .int .i64 0, .int .i64 0, .int .i64 0] (0, 0) _ KR Tryd.underlying33 rfl (by kernel_rfl)
              generalize (#[.int .i64 0, .int .i64 0, .int .u64 0, .int .i64 0, .int .u64 0, .slice none 0 0, .int .u32 0, .int .u32 0, .int .i64 0, .int .i64 0, .int .i64 0, .int .i64 0, .int .i64 0, .int .u64 0, .int .i64 0, .int .i64 0, .int .i64 0] : Array Value) = CS at *
              simp [results, show (Tryd.f17).results = #[.cell 2 33, .slot 3] from rfl, asAddr, HL, Act.put]
          · have g10 : (x % 16 == 5) = false := by simpa using hC
            have HEn1 := Lib.hid (HEn.out hC)
            clear HEc HEn hC
            by_cases hl : 0 < L.length
            · have HZ : Hid (R = (zp, 2)) := Lib.hid (by rw [HEn1.out, if_pos hl])
              have gl : (0 : Int) < (L.length : Int) := by omega
              have H1 : (#[.int .i64 0, .int .i64 0, .int .u64 0, .int .i64 0, .int .u64 0, .slice none 0 0, .int .u32 0, .int .u32 0, .int .i64 0, .int .i64 0, .int .i64 0, .int .i64 0, .int .i64 0, .int .u64 0, .int .i64 0, .int .i64 0, .int .i64 0] : Array Value).all (·.oneCell') = true := by rw [← Array.all_toList]; rfl
              go_wp2_with (refine wpList_store_row rfl 33 (.tmp 2) _ rfl w.heap.size #[.int .i64 0, .int .i64 0, .int .u64 0, .int .i64 0, .int .u64 0, .slice none 0 0, .int .u32 0, .int .u32 0, .int .i64 0, .int .i64 0, .int .i64 0, .int .i64 0, .int .i64 0, .int .u64 0, .int .i64 0, .int .i64 0, .int .i64 0] rfl rfl 33 _ K2 (by kernel_rfl) rfl H1 ?_)
              have KR : Blk (Z1.setRow w.heap.size #[.int .i64 0, .int .i64 0, .int .u64 0, .int .i64 0, .int .u64 0, .slice none 0 0, .int .u32 0, .int .u32 0, .int .i64 0, .int .i64 0, .int .i64 0, .int .i64 0, .int .i64 0, .int .u64 0, .int .i64 0, .int .i64 0, .int .i64 0]) w.heap.size 33 #[.int .i64 0, .int .i64 0, .int .u64 0, .int .i64 0, .int .u64 0, .slice none 0 0, .int .u32 0, .int .u32 0, .int .i64 0, .int .i64 0, .int .i64 0, .int .i64 0, .int .i64 0, .int .u64 0, .int .i64 0, .int .i64 0, .int .i64 0] := setRow_heap Z1 w.heap.size _ #[.int .i64 0, .int .i64 0, .int .u64 0, .int .i64 0, .int .u64 0, .slice none 0 0, .int .u32 0, .int .u32 0, .int .i64 0, .int .i64 0, .int .i64 0, .int .i64 0, .int .i64 0, .int .u64 0, .int .i64 0, .int .i64 0, .int .i64 0] 33 (0, 0) K2
              have BE := below_setRow BX (Nat.le_refl _) #[.int .i64 0, .int .i64 0, .int .u64 0, .int .i64 0, .int .u64 0, .slice none 0 0, .int .u32 0, .int .u32 0, .int .i64 0, .int .i64 0, .int .i64 0, .int .i64 0, .int .i64 0, .int .u64 0, .int .i64 0, .int .i64 0, .int .i64 0]
              generalize Z1.setRow w.heap.size #[.int .i64 0, .int .i64 0, .int .u64 0, .int .i64 0, .int .u64 0, .slice none 0 0, .int .u32 0, .int .u32 0, .int .i64 0, .int .i64 0, .int .i64 0, .int .i64 0, .int .i64 0, .int .u64 0, .int .i64 0, .int .i64 0, .int .i64 0] = Y at *
              refine bodyPost_ret (v := .tuple #[.agg #[.int .i64 0, .int .i64 0, .int .u64 0, .int .i64 0, .int .u64 0, .slice none 0 0, .int .u32 0, .int .u32 0, .int .i64 0, .int .i64 0, .int .i64 0, .int .i64 0, .int .i64 0, .int .u64 0, .int .i64 0, .int .i64 0, .int .i64 0], .int .i64 2]) ?_ rfl ⟨none, 0, (by rw [HZ.out]; rfl), (by rw [HZ.out]; exact Nat.le_refl _), (by rw [HZ.out]; exact .inl rfl), BE⟩
              have HL := run_loadVar_row (P := Tryd.prog) Y w.heap.size 33 33 #[.int .i64 0, .int .i64 0, .int .u64 0, .int .i64 0, .int .u64 0, .slice none 0 0, .int .u32 0, .int .u32 0, .int .i64 0, .int .i64 0, .int .i64 0, .int .i64 0, .int .i64 0, .int .u64 0, .int .i64 0, .int .i64 0, .int .i64 0] (0, 0) _ KR Tryd.underlying33 rfl (by kernel_rfl)
              generalize (#[.int .i64 0, .int .i64 0, .int .u64 0, .int .i64 0, .int .u64 0, .slice none 0 0, .int .u32 0, .int .u32 0, .int .i64 0, .int .i64 0, .int .i64 0, .int .i64 0, .int .i64 0, .int .u64 0, .int .i64 0, .int .i64 0, .int .i64 0] : Array Value) = CS at *
              simp [results, show (Tryd.f17).results = #[.cell 2 33, .slot 3] from rfl, asAddr, HL, Act.put]
            · have HZ : Hid (R = (adrP (x % 16) sk sb tk tb, 0)) := Lib.hid (by rw [HEn1.out, if_neg hl])
              have gl : ¬ (0 : Int) < (L.length : Int) := by omega
              have H6 : (#[.int .i64 (x % 16), .int .i64 sk, .int .u64 sb, .int .i64 tk, .int .u64 tb, .slice none 0 0, .int .u32 0, .int .u32 0, .int .i64 0, .int .i64 0, .int .i64 0, .int .i64 0, .int .i64 0, .int .u64 0, .int .i64 0, .int .i64 0, .int .i64 0] : Array Value).all (·.oneCell') = true := by rw [← Array.all_toList]; rfl
              go_wp2_with (first | (refine wpList_store_row rfl 33 (.tmp 2) _ rfl w.heap.size #[.int .i64 (x % 16), .int .i64 sk, .int .u64 sb, .int .i64 tk, .int .u64 tb, .slice none 0 0, .int .u32 0, .int .u32 0, .int .i64 0, .int .i64 0, .int .i64 0, .int .i64 0, .int .i64 0, .int .u64 0, .int .i64 0, .int .i64 0, .int .i64 0] rfl rfl 33 _ K2 (by kernel_rfl) rfl H6 ?_) | (refine wpList_load_row rfl 33 (.tmp 4) rfl g5 rfl 33 _ (0, 0) _ P5 Tryd.underlying33 rfl (by kernel_rfl) ?_))
              have KR : Blk (Z1.setRow w.heap.size #[.int .i64 (x % 16), .int .i64 sk, .int .u64 sb, .int .i64 tk, .int .u64 tb, .slice none 0 0, .int .u32 0, .int .u32 0, .int .i64 0, .int .i64 0, .int .i64 0, .int .i64 0, .int .i64 0, .int .u64 0, .int .i64 0, .int .i64 0, .int .i64 0]) w.heap.size 33 #[.int .i64 (x % 16), .int .i64 sk, .int .u64 sb, .int .i64 tk, .int .u64 tb, .slice none 0 0, .int .u32 0, .int .u32 0, .int .i64 0, .int .i64 0, .int .i64 0, .int .i64 0, .int .i64 0, .int .u64 0, .int .i64 0, .int .i64 0, .int .i64 0] := setRow_heap Z1 w.heap.size _ #[.int .i64 (x % 16), .int .i64 sk, .int .u64 sb, .int .i64 tk, .int .u64 tb, .slice none 0 0, .int .u32 0, .int .u32 0, .int .i64 0, .int .i64 0, .int .i64 0, .int .i64 0, .int .i64 0, .int .u64 0, .int .i64 0, .int .i64 0, .int .i64 0] 33 (0, 0) K2
              have BE := below_setRow BX (Nat.le_refl _) #[.int .i64 (x % 16), .int .i64 sk, .int .u64 sb, .int .i64 tk, .int .u64 tb, .slice none 0 0, .int .u32 0, .int .u32 0, .int .i64 0, .int .i64 0, .int .i64 0, .int .i64 0, .int .i64 0, .int .u64 0, .int .i64 0, .int .i64 0, .int .i64 0]
              have DD : Decd w (Z1.setRow w.heap.size #[.int .i64 (x % 16), .int .i64 sk, .int .u64 sb, .int .i64 tk, .int .u64 tb, .slice none 0 0, .int .u32 0, .int .u32 0, .int .i64 0, .int .i64 0, .int .i64 0, .int .i64 0, .int .i64 0, .int .u64 0, .int .i64 0, .int .i64 0, .int .i64 0]) (.returned (.tuple #[.agg #[.int .i64 (x % 16), .int .i64 sk, .int .u64 sb, .int .i64 tk, .int .u64 tb, .slice none 0 0, .int .u32 0, .int .u32 0, .int .i64 0, .int .i64 0, .int .i64 0, .int .i64 0, .int .i64 0, .int .u64 0, .int .i64 0, .int .i64 0, .int .i64 0], .int .i64 0])) (adrP (x % 16) sk sb tk tb, 0) := ⟨none, 0, rfl, Nat.le_refl _, .inl rfl, BE⟩
              generalize Z1.setRow w.heap.size #[.int .i64 (x % 16), .int .i64 sk, .int .u64 sb, .int .i64 tk, .int .u64 tb, .slice none 0 0, .int .u32 0, .int .u32 0, .int .i64 0, .int .i64 0, .int .i64 0, .int .i64 0, .int .i64 0, .int .u64 0, .int .i64 0, .int .i64 0, .int .i64 0] = Y at *
              have HL := run_loadVar_row (P := Tryd.prog) Y w.heap.size 33 33 #[.int .i64 (x % 16), .int .i64 sk, .int .u64 sb, .int .i64 tk, .int .u64 tb, .slice none 0 0, .int .u32 0, .int .u32 0, .int .i64 0, .int .i64 0, .int .i64 0, .int .i64 0, .int .i64 0, .int .u64 0, .int .i64 0, .int .i64 0, .int .i64 0] (0, 0) _ KR Tryd.underlying33 rfl (by kernel_rfl)
              refine bodyPost_ret (v := .tuple #[.agg #[.int .i64 (x % 16), .int .i64 sk, .int .u64 sb, .int .i64 tk, .int .u64 tb, .slice none 0 0, .int .u32 0, .int .u32 0, .int .i64 0, .int .i64 0, .int .i64 0, .int .i64 0, .int .i64 0, .int .u64 0, .int .i64 0, .int .i64 0, .int .i64 0], .int .i64 0]) ?_ rfl (by rw [HZ.out]; exact DD)
              clear H6
              generalize (#[.int .i64 (x % 16), .int .i64 sk, .int .u64 sb, .int .i64 tk, .int .u64 tb, .slice none 0 0, .int .u32 0, .int .u32 0, .int .i64 0, .int .i64 0, .int .i64 0, .int .i64 0, .int .i64 0, .int .u64 0, .int .i64 0, .int .i64 0, .int .i64 0] : Array Value) = CS at *
              simp [results, show (Tryd.f17).results = #[.cell 2 33, .slot 3] from rfl, asAddr, HL, Act.put]
      · have g7 : (x != F) = true := by simpa using hf
        have g7' : (F != x) = true := by simpa using fun e => hf e.symm
        have HZ : Hid (R = (zp, 2)) := Lib.hid (HE2a.out hf)
        clear HE1 HE2a HEdA HEcA HEnA hf
        go_wp2_with fail
        refine wp_region_held_drew (S := (fun w' => w'.cell? ⟨b, off, none⟩ = some (.int .u8 x) ∧ Cel w' g5 (x % 16) sk sb tk tb (.slice none 0 0))) (by kernel_rfl) ?_ (fun hHeld => ?_)
        · exact TT
        have TT : wc.drew.cell? ⟨b, off, none⟩ = some (.int .u8 x) ∧ Cel wc.drew g5 (x % 16) sk sb tk tb (.slice none 0 0) := TT
        have BX : Below w.heap.size w wc.drew := BX.drew
        have K2 : Blk wc.drew w.heap.size 33 #[.int .i64 0, .int .i64 0, .int .u64 0, .int .i64 0, .int .u64 0, .slice none 0 0, .int .u32 0, .int .u32 0, .int .i64 0, .int .i64 0, .int .i64 0, .int .i64 0, .int .i64 0, .int .u64 0, .int .i64 0, .int .i64 0, .int .i64 0] := K2
        have P5 : Blk wc.drew g5 33 #[.int .i64 (x % 16), .int .i64 sk, .int .u64 sb, .int .i64 tk, .int .u64 tb, .slice none 0 0, .int .u32 0, .int .u32 0, .int .i64 0, .int .i64 0, .int .i64 0, .int .i64 0, .int .i64 0, .int .u64 0, .int .i64 0, .int .i64 0, .int .i64 0] := P5
        have IL : Ints .u8 wc.drew wc.drew.heap.size A' L := IL
        generalize wc.drew = Z0 at *
        refine wpAnyH_take (i := 0) (v := .agg #[.int .i64 (x % 16), .int .i64 sk, .int .u64 sb, .int .i64 tk, .int .u64 tb, .slice none 0 0, .int .u32 0, .int .u32 0, .int .i64 0, .int .i64 0, .int .i64 0, .int .i64 0, .int .i64 0, .int .u64 0, .int .i64 0, .int .i64 0, .int .i64 0]) rfl (by kernel_rfl) (by kernel_rfl) (by kernel_rfl) (fun _ _ _ h => h) (Or.inl ⟨by first | rfl | go_simp, by intro w9 hSw; (try dsimp only at hSw); go_simp⟩) (by assumption) ?_
        simp only [List.getElem_toArray, List.getElem_cons_zero, List.getElem_cons_succ, Act.put, List.setIfInBounds_toArray, List.set_cons_zero, List.set_cons_succ]
        refine wpAnyH_take (i := 2) (v := .slice (some ⟨b, off, none⟩) n c) rfl (by kernel_rfl) (by kernel_rfl) (by kernel_rfl) (fun _ _ _ h => h) (Or.inl ⟨by first | rfl | go_simp, by intro w9 hSw; (try dsimp only at hSw); go_simp⟩) (by assumption) ?_
        simp only [List.getElem_toArray, List.getElem_cons_zero, List.getElem_cons_succ, Act.put, List.setIfInBounds_toArray, List.set_cons_zero, List.set_cons_succ]
        refine wpAnyH_take (i := 3) (v := .pointer (some ⟨b, off, none⟩)) rfl (by kernel_rfl) (by kernel_rfl) (by kernel_rfl) (fun _ _ _ h => h) (Or.inl ⟨by first | rfl | go_simp, by intro w9 hSw; (try dsimp only at hSw); go_simp⟩) (by assumption) ?_
        simp only [List.getElem_toArray, List.getElem_cons_zero, List.getElem_cons_succ, Act.put, List.setIfInBounds_toArray, List.set_cons_zero, List.set_cons_succ]
        refine wpAnyH_take (i := 4) (v := .int .u8 x) rfl (by kernel_rfl) (by kernel_rfl) (by kernel_rfl) (fun _ _ _ h => h) (Or.inl ⟨by first | rfl | go_simp, by intro w9 hSw; (try dsimp only at hSw); go_simp⟩) (by assumption) ?_
        simp only [List.getElem_toArray, List.getElem_cons_zero, List.getElem_cons_succ, Act.put, List.setIfInBounds_toArray, List.set_cons_zero, List.set_cons_succ]
        refine wpAnyH_ready (rs := [1]) (by kernel_rfl) (by simp) ?_
        refine AllReadyH.cons rfl (fun K hK => ?_) (AllReadyH.nil)
        go_simp
        refine (HF0.out Z0).mono ?_
        rintro e Z1 ⟨rfl, b9⟩
        have TT := And.intro ((b9.cell (p := ⟨b, off, none⟩) (block_lt_of_cell TT.1)).trans TT.1) (cel_below TT.2 b9)
        have BX := thenB BX b9
        have K2 := K2.below b9 K2.lt
        have P5 := P5.below b9 P5.lt
        have IL := Base.later IL b9
        refine hK.out _ _ TT (fun hHeld => ?_)
        clear hK K
        try simp only [List.getElem_toArray, List.getElem_cons_zero, List.getElem_cons_succ, Act.put, List.setIfInBounds_toArray, List.set_cons_zero, List.set_cons_succ]
        refine wpAnyH_take (i := 5) (v := .bool true) rfl (by kernel_rfl) (by kernel_rfl) (by kernel_rfl) (fun _ _ _ h => h) (Or.inl ⟨by first | rfl | go_simp, by intro w9 hSw; (try dsimp only at hSw); go_simp⟩) (by assumption) ?_
        simp only [List.getElem_toArray, List.getElem_cons_zero, List.getElem_cons_succ, Act.put, List.setIfInBounds_toArray, List.set_cons_zero, List.set_cons_succ]
        refine wpAnyH_done (by kernel_rfl) ?_ _
        have H1 : (#[.int .i64 0, .int .i64 0, .int .u64 0, .int .i64 0, .int .u64 0, .slice none 0 0, .int .u32 0, .int .u32 0, .int .i64 0, .int .i64 0, .int .i64 0, .int .i64 0, .int .i64 0, .int .u64 0, .int .i64 0, .int .i64 0, .int .i64 0] : Array Value).all (·.oneCell') = true := by rw [← Array.all_toList]; rfl
        go_wp2_with (refine wpList_store_row rfl 33 (.tmp 2) _ rfl w.heap.size #[.int .i64 0, .int .i64 0, .int .u64 0, .int .i64 0, .int .u64 0, .slice none 0 0, .int .u32 0, .int .u32 0, .int .i64 0, .int .i64 0, .int .i64 0, .int .i64 0, .int .i64 0, .int .u64 0, .int .i64 0, .int .i64 0, .int .i64 0] rfl rfl 33 _ K2 (by kernel_rfl) rfl H1 ?_)
        have KR : Blk (Z1.setRow w.heap.size #[.int .i64 0, .int .i64 0, .int .u64 0, .int .i64 0, .int .u64 0, .slice none 0 0, .int .u32 0, .int .u32 0, .int .i64 0, .int .i64 0, .int .i64 0, .int .i64 0, .int .i64 0, .int .u64 0, .int .i64 0, .int .i64 0, .int .i64 0]) w.heap.size 33 #[.int .i64 0, .int .i64 0, .int .u64 0, .int .i64 0, .int .u64 0, .slice none 0 0, .int .u32 0, .int .u32 0, .int .i64 0, .int .i64 0, .int .i64 0, .int .i64 0, .int .i64 0, .int .u64 0, .int .i64 0, .int .i64 0, .int .i64 0] := setRow_heap Z1 w.heap.size _ #[.int .i64 0, .int .i64 0, .int .u64 0, .int .i64 0, .int .u64 0, .slice none 0 0, .int .u32 0, .int .u32 0, .int .i64 0, .int .i64 0, .int .i64 0, .int .i64 0, .int .i64 0, .int .u64 0, .int .i64 0, .int .i64 0, .int .i64 0] 33 (0, 0) K2
        have BE := below_setRow BX (Nat.le_refl _) #[.int .i64 0, .int .i64 0, .int .u64 0, .int .i64 0, .int .u64 0, .slice none 0 0, .int .u32 0, .int .u32 0, .int .i64 0, .int .i64 0, .int .i64 0, .int .i64 0, .int .i64 0, .int .u64 0, .int .i64 0, .int .i64 0, .int .i64 0]
        generalize Z1.setRow w.heap.size #[.int .i64 0, .int .i64 0, .int .u64 0, .int .i64 0, .int .u64 0, .slice none 0 0, .int .u32 0, .int .u32 0, .int .i64 0, .int .i64 0, .int .i64 0, .int .i64 0, .int .i64 0, .int .u64 0, .int .i64 0, .int .i64 0, .int .i64 0] = Y at *
        refine bodyPost_ret (v := .tuple #[.agg #[.int .i64 0, .int .i64 0, .int .u64 0, .int .i64 0, .int .u64 0, .slice none 0 0, .int .u32 0, .int .u32 0, .int .i64 0, .int .i64 0, .int .i64 0, .int .i64 0, .int .i64 0, .int .u64 0, .int .i64 0, .int .i64 0, .int .i64 0], .int .i64 2]) ?_ rfl ⟨none, 0, (by rw [HZ.out]; rfl), (by rw [HZ.out]; exact Nat.le_refl _), (by rw [HZ.out]; exact .inl rfl), BE⟩
        have HL := run_loadVar_row (P := Tryd.prog) Y w.heap.size 33 33 #[.int .i64 0, .int .i64 0, .int .u64 0, .int .i64 0, .int .u64 0, .slice none 0 0, .int .u32 0, .int .u32 0, .int .i64 0, .int .i64 0, .int .i64 0, .int .i64 0, .int .i64 0, .int .u64 0, .int .i64 0, .int .i64 0, .int .i64 0] (0, 0) _ KR Tryd.underlying33 rfl (by kernel_rfl)
        generalize (#[.int .i64 0, .int .i64 0, .int .u64 0, .int .i64 0, .int .u64 0, .slice none 0 0, .int .u32 0, .int .u32 0, .int .i64 0, .int .i64 0, .int .i64 0, .int .i64 0, .int .i64 0, .int .u64 0, .int .i64 0, .int .i64 0, .int .i64 0] : Array Value) = CS at *
        simp [results, show (Tryd.f17).results = #[.cell 2 33, .slot 3] from rfl, asAddr, HL, Act.put]
    · have HZ : Hid (R = (zp, er)) := Lib.hid (HE1.out he)
      have g8 : (er != 0) = true := by simpa using he
      have H1 : (#[.int .i64 0, .int .i64 0, .int .u64 0, .int .i64 0, .int .u64 0, .slice none 0 0, .int .u32 0, .int .u32 0, .int .i64 0, .int .i64 0, .int .i64 0, .int .i64 0, .int .i64 0, .int .u64 0, .int .i64 0, .int .i64 0, .int .i64 0] : Array Value).all (·.oneCell') = true := by rw [← Array.all_toList]; rfl
      go_wp2_with (refine wpList_store_row rfl 33 (.tmp 2) _ rfl w.heap.size #[.int .i64 0, .int .i64 0, .int .u64 0, .int .i64 0, .int .u64 0, .slice none 0 0, .int .u32 0, .int .u32 0, .int .i64 0, .int .i64 0, .int .i64 0, .int .i64 0, .int .i64 0, .int .u64 0, .int .i64 0, .int .i64 0, .int .i64 0] rfl rfl 33 _ K2 (by kernel_rfl) rfl H1 ?_)
      have KR : Blk (wc.setRow w.heap.size #[.int .i64 0, .int .i64 0, .int .u64 0, .int .i64 0, .int .u64 0, .slice none 0 0, .int .u32 0, .int .u32 0, .int .i64 0, .int .i64 0, .int .i64 0, .int .i64 0, .int .i64 0, .int .u64 0, .int .i64 0, .int .i64 0, .int .i64 0]) w.heap.size 33 #[.int .i64 0, .int .i64 0, .int .u64 0, .int .i64 0, .int .u64 0, .slice none 0 0, .int .u32 0, .int .u32 0, .int .i64 0, .int .i64 0, .int .i64 0, .int .i64 0, .int .i64 0, .int .u64 0, .int .i64 0, .int .i64 0, .int .i64 0] := setRow_heap wc w.heap.size _ #[.int .i64 0, .int .i64 0, .int .u64 0, .int .i64 0, .int .u64 0, .slice none 0 0, .int .u32 0, .int .u32 0, .int .i64 0, .int .i64 0, .int .i64 0, .int .i64 0, .int .i64 0, .int .u64 0, .int .i64 0, .int .i64 0, .int .i64 0] 33 (0, 0) K2
      have BE := below_setRow BX (Nat.le_refl _) #[.int .i64 0, .int .i64 0, .int .u64 0, .int .i64 0, .int .u64 0, .slice none 0 0, .int .u32 0, .int .u32 0, .int .i64 0, .int .i64 0, .int .i64 0, .int .i64 0, .int .i64 0, .int .u64 0, .int .i64 0, .int .i64 0, .int .i64 0]
      generalize wc.setRow w.heap.size #[.int .i64 0, .int .i64 0, .int .u64 0, .int .i64 0, .int .u64 0, .slice none 0 0, .int .u32 0, .int .u32 0, .int .i64 0, .int .i64 0, .int .i64 0, .int .i64 0, .int .i64 0, .int .u64 0, .int .i64 0, .int .i64 0, .int .i64 0] = Y at *
      refine bodyPost_ret (v := .tuple #[.agg #[.int .i64 0, .int .i64 0, .int .u64 0, .int .i64 0, .int .u64 0, .slice none 0 0, .int .u32 0, .int .u32 0, .int .i64 0, .int .i64 0, .int .i64 0, .int .i64 0, .int .i64 0, .int .u64 0, .int .i64 0, .int .i64 0, .int .i64 0], .int .i64 er]) ?_ rfl ⟨none, 0, (by rw [HZ.out]; rfl), (by rw [HZ.out]; exact Nat.le_refl _), (by rw [HZ.out]; exact .inl rfl), BE⟩
      have HL := run_loadVar_row (P := Tryd.prog) Y w.heap.size 33 33 #[.int .i64 0, .int .i64 0, .int .u64 0, .int .i64 0, .int .u64 0, .slice none 0 0, .int .u32 0, .int .u32 0, .int .i64 0, .int .i64 0, .int .i64 0, .int .i64 0, .int .i64 0, .int .u64 0, .int .i64 0, .int .i64 0, .int .i64 0] (0, 0) _ KR Tryd.underlying33 rfl (by kernel_rfl)
      generalize (#[.int .i64 0, .int .i64 0, .int .u64 0, .int .i64 0, .int .u64 0, .slice none 0 0, .int .u32 0, .int .u32 0, .int .i64 0, .int .i64 0, .int .i64 0, .int .i64 0, .int .i64 0, .int .u64 0, .int .i64 0, .int .i64 0, .int .i64 0] : Array Value) = CS at *
      simp [results, show (Tryd.f17).results = #[.cell 2 33, .slot 3] from rfl, asAddr, HL, Act.put]
end Go.Proofs.YtcjlliilfecmnaaDoor.Ap
