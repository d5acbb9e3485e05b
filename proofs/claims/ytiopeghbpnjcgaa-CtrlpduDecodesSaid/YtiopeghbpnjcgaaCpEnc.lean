/- Control PDUs: what Encode returns: contracts over the program. -/
import Derived.Test.YtiopeghbpnjcgaaCpChk
import Derived.Test.YtiopeghbpnjcgaaOctPut
set_option linter.unusedVariables false
set_option linter.unusedSimpArgs false
namespace Go.Proofs.Ytiopeghbpnjcgaa.Cp
open Go.RowKit Mem Oct Rw Av
open Draw
open Base (thenB)
/-- The fields of a part. -/
def fpC (c : Ct) (p : Pt) : List (Int × Int) := (szP p).zip (getP p c)
def fsC (c : Ct) (ps : List Pt) : List (Int × Int) := (1, u c.k) :: ps.flatMap (fpC c)
def encR (c : Ct) : List Int × Int := if chkC c = 0 then putR (fsC c ((ptsK c.k).getD [])) else ([], chkC c)
def encF (f : Int × Int) : List Value := [.int .i64 f.1, .int .u64 f.2]
theorem sizF : Sized encF 2 := fun x => ⟨rfl, fun u hu => by simp [encF] at hu; rcases hu with rfl | rfl <;> rfl⟩
theorem info_fld : (Try.prog.info? 59).map (fun i => (i.zero, i.size, i.bytes)) = some (some (.agg #[.int .i64 0, .int .u64 0]), 2, 16) := by kernel_rfl
theorem info_parts2 {P : Program} {e : TypeId} {z : Value} {s b : Nat} (h : (P.info? e).map (fun i => (i.zero, i.size, i.bytes)) = some (some z, s, b)) (hz : z.cells.size = s) : ∃ i, P.info? e = some i ∧ i.zero = some z ∧ i.size = s ∧ i.bytes = b ∧ z.cells.size = s := by
  cases hq : P.info? e with
  | none => rw [hq] at h; cases h
  | some i =>
    rw [hq] at h
    simp only [Option.map_some, Option.some.injEq, Prod.mk.injEq] at h
    exact ⟨i, rfl, h.1, h.2.1, h.2.2, hz⟩
theorem keeps_own {w w' : World} {B q : Nat} {V : Value} {xs : List Value} (h : w.ownsRow B 59 2 V q xs) (g : w.grownBy w' V.ownBlock) : Keeps w w' := fun b t cs ht hb => by
  have hne : some b ≠ V.ownBlock := by
    intro e
    rcases h.2 with ⟨hv, _⟩ | ⟨g', cap, cur, hv, _, hk, _⟩
    · rw [hv] at e; simp [Value.ownBlock] at e
    · rw [hv] at e
      simp [Value.ownBlock] at e
      subst e
      unfold Blk at hb
      rw [hk] at hb
      injection hb with hb
      injection hb with _ hb
      subst hb
      revert ht; decide
  unfold Blk at hb ⊢
  rw [g.block b (Blk.lt hb) hne]; exact hb
theorem flds_own {w : World} {B n c : Nat} {A : Option Addr} {L : List (Int × Int)} (h : w.ownsRow B 59 2 (.slice A n c) n (L.flatMap encF)) : FldsAt w w.heap.size A L := by
  rcases CellsAt.own h with h0 | ⟨b, off, e, hlt, hc⟩
  · cases L with
    | nil => exact .inl rfl
    | cons f r => simp [encF] at h0
  · refine .inr ⟨b, off, e, hlt, fun j f hj => ⟨?_, ?_⟩⟩
    · exact hc _ _ (flat_get sizF L j 0 f _ hj rfl)
    · rw [Nat.add_assoc]; exact hc _ _ (flat_get sizF L j 1 f _ hj rfl)
theorem getP_up {c : Ct} (h : GoodC c) (p : Pt) : ∀ z ∈ getP p c, 0 ≤ z ∧ z ≤ 18446744073709551615 := by
  obtain ⟨h0, h1, h2, h3, h4, h5, h6, h7, h8, h9, h10, h11, h12, h13, h14⟩ := h
  have hu : ∀ n, 0 ≤ u n ∧ u n ≤ 18446744073709551615 := fun n => by unfold u; simp only [IntKind.wrap, IntKind.signed, IntKind.bits]; simp; omega
  intro z hz
  cases p <;> simp only [getP, List.mem_cons, List.mem_nil_iff, or_false] at hz
  · rcases hz with rfl | rfl | rfl | rfl | rfl <;> exact hu _
  · subst hz; exact hu _
  · subst hz; omega
  · subst hz; exact hu _
  · subst hz; exact hu _
  · subst hz; exact hu _
  · subst hz; exact hu _
  · subst hz; omega
  · subst hz; omega
  · subst hz; omega
theorem szP_bd (p : Pt) : ∀ z ∈ szP p, 1 ≤ z ∧ z ≤ 8 := by cases p <;> decide
theorem fields_fs {c : Ct} (h : GoodC c) (ps : List Pt) : Fields (fsC c ps) := by
  intro f hf
  rcases List.mem_cons.1 hf with rfl | hf
  · refine ⟨(show (-9223372036854775808 : Int) ≤ 1 ∧ (1 : Int) ≤ 9223372036854775807 by decide), ?_⟩
    show 0 ≤ u c.k ∧ u c.k ≤ 18446744073709551615
    unfold u; simp only [IntKind.wrap, IntKind.signed, IntKind.bits]; simp; omega
  · obtain ⟨p, _, hp⟩ := List.mem_flatMap.1 hf
    have h1 := szP_bd p _ (List.of_mem_zip hp).1
    have h2 := getP_up h p _ (List.of_mem_zip hp).2
    exact ⟨by omega, h2⟩
theorem fpC_at {c : Ct} {p : Pt} {i : Nat} {a b : Int} (h1 : (szP p)[i]? = some a) (h2 : (getP p c)[i]? = some b) : (fpC c p)[i]? = some (a, b) := by
  unfold fpC; rw [List.getElem?_zip_eq_some]; exact ⟨h1, h2⟩
theorem fpC_len (c : Ct) (p : Pt) : (fpC c p).length = (getP p c).length := by
  unfold fpC; rw [List.length_zip, ← szP_len p c]; exact Nat.min_self _
theorem getP_len5 (c : Ct) (p : Pt) : (getP p c).length ≤ 5 := by cases p <;> simp [getP]
set_option maxRecDepth 100000 in
set_option maxHeartbeats 4000000 in
theorem encode_any (c : Ct) (w : World) (hg : GoodC c) : Calls Try.prog 12 #[.agg (encC c)] w fun e w' => Gives w w' e (encR c) := by
  obtain ⟨iF, hi, hz, hs, hb, hcz⟩ := info_parts2 info_fld rfl
  have BX : Below w.heap.size w (w.alloc (.cells (encC c) 28)) := (Below.refl _ _).alloc (Nat.le_refl _) _
  have K1 : Blk (w.alloc (.cells (encC c) 28)) w.heap.size 28 (encC c) := Blk.fresh w 28 (encC c)
  have HG := Lib.hid hg
  have HPa := Lib.hid (partsOf_any c.k)
  have HCk := Lib.hid fun w => check_any c w hg
  have HFl := Lib.hid (fields_fs hg ((ptsK c.k).getD []))
  clear hg
  obtain ⟨C, hC⟩ : ∃ C, encC c = C := ⟨_, rfl⟩
  have hsK1 : C.size = 15 := by rw [← hC]; rfl
  have hC0 : C[0]? = some (.int .i64 c.k) := by rw [← hC]; rfl
  rw [hC] at BX K1 HCk ⊢
  have HC := Lib.hid hC
  clear hC
  by_cases hR : chkC c = 0
  · have hen : encR c = putR (fsC c ((ptsK c.k).getD [])) := by unfold encR; rw [if_pos hR]
    rw [hen]
    clear hen
    rw [hR] at HCk
    obtain ⟨ps, hps⟩ : ∃ ps, ptsK c.k = some ps := by
      cases hp : ptsK c.k with
      | some ps => exact ⟨ps, rfl⟩
      | none => exfalso; unfold chkC at hR; rw [hp] at hR; simp at hR
    have hn2 := pts_len hps
    rw [hps, Option.getD_some] at HFl ⊢
    have HPa2 : Hid (∀ w, Calls Try.prog 19 #[.int .i64 c.k] w fun e w' => ∃ r, e = .returned (.tuple #[r, .bool true]) ∧ SliceAt w' r ps ∧ Below w.heap.size w w') := Lib.hid fun w => by
      have := HPa.out w
      simp only [hps, Option.isSome_some, Res] at this
      exact this
    clear hR hps HPa
    obtain ⟨n, hn⟩ : ∃ n, ps.length = n := ⟨_, rfl⟩
    rw [hn] at hn2
    have HN := Lib.hid hn
    clear hn
    go_enter Try.func12, Try.ntmps12
    go_upto_region 4 with (first | (refine wpList_load_row rfl 28 (.tmp 1) rfl w.heap.size rfl 28 _ (0, 0) _ K1 Try.underlying28 rfl (by rw [hsK1]; kernel_rfl) ?_) | (go_at_call 9; refine (HCk.out _).mono ?_; rintro e w1 ⟨rfl, b1⟩))
    replace BX := thenB BX b1
    replace K1 := K1.below b1 K1.lt
    clear b1
    have k0 := (K1.cell 0).trans hC0
    go_upto_region 5 with (fail)
    clear k0
    have hB := K1.lt
    have b9 : Below w1.heap.size w1 (w1.alloc (.cells #[.int .i64 1, .int .u64 (IntKind.u64.wrap c.k)] 59)) := (Below.refl _ _).alloc (Nat.le_refl _) _
    have own : (w1.alloc (.cells #[.int .i64 1, .int .u64 (IntKind.u64.wrap c.k)] 59)).ownsRow w1.heap.size 59 2 (.slice (some ⟨w1.heap.size, 0, none⟩) 1 1) 1 ([((1 : Int), u c.k)].flatMap encF) := World.ownsRow_lit w1 #[.int .i64 1, .int .u64 (IntKind.u64.wrap c.k)] 1 (Nat.le_refl _) (by unfold maxLen; omega) rfl
    replace K1 := K1.below b9 K1.lt
    replace BX := thenB BX b9
    clear b9
    generalize w1.alloc (.cells #[.int .i64 1, .int .u64 (IntKind.u64.wrap c.k)] 59) = W2 at *
    obtain ⟨B, eB⟩ : ∃ g, w1.heap.size = g := ⟨_, rfl⟩
    rw [eB] at own hB
    try simp only [eB]
    clear eB
    have k0 := (K1.cell 0).trans hC0
    go_upto_region 6 with (go_at_call 19; refine (HPa2.out _).mono ?_; rintro e W ⟨r, rfl, hres, b2⟩)
    clear k0
    replace own := own_below own b2
    replace K1 := K1.below b2 K1.lt
    replace BX := thenB BX b2
    clear b2
    obtain ⟨gp, cs, rfl, KP, HP⟩ := hres
    rw [HN.out]
    have HPh := Lib.hid HP
    clear HP
    go_wp2_with fail
    go_loopw [5, 30] (fun s5 s30 wr => ∃ (j q : Nat) (L : List (Int × Int)), j ≤ n ∧ s30 = .int .i64 j ∧ L.length = q ∧ q ≤ 1 + 5 * j ∧ Hid (L = (1, u c.k) :: (ps.take j).flatMap (fpC c)) ∧ wr.ownsRow B 59 2 s5 q (L.flatMap encF) ∧ Blk wr w.heap.size 28 C ∧ Keeps W wr ∧ Below w.heap.size w wr) (fun _ s30 _ => n - (intOf s30).toNat)
    case atStart => exact ⟨0, 1, _, by omega, rfl, rfl, by omega, Lib.hid rfl, own, K1, Keeps.refl _, BX⟩
    case round =>
      obtain ⟨j, q, L, hj, rfl, hLq, hq5, HL, own', L1, kp, BY⟩ := hrel
      clear own K1 BX
      have own := own'
      have K1 := L1
      have BX := BY
      clear own' L1 BY
      by_cases cj : j < n
      · have g1 : (0 : Int) ≤ (j : Int) ∧ (j : Int) < (n : Int) := by omega
        have g2 : ¬ ((n : Int) ≤ (j : Int)) := by omega
        obtain ⟨p, hpj⟩ : ∃ p, ps[j]? = some p := ⟨_, List.getElem?_eq_getElem (by rw [HN.out]; exact cj)⟩
        obtain ⟨S, v1, v2, v3, PA, d0, d1, d2, d3⟩ := HPh.out j p hpj
        obtain ⟨S', f1, c1, f2, c2, f3, c3, eV, hSz⟩ := part_form PA
        obtain ⟨rfl, rfl, rfl, rfl⟩ := agg4 eV
        clear eV
        have hq1 : 1 ≤ q := by rw [← hLq, HL.out]; simp
        obtain ⟨gS, hS, KS⟩ := hSz
        subst hS
        obtain ⟨m, hm⟩ : ∃ m, (szP p).length = m := ⟨_, rfl⟩
        have hm5 : m ≤ 5 := by rw [← hm, ← szP_len p c]; exact getP_len5 c p
        rw [hm] at PA d0
        have HM := Lib.hid hm
        clear hm
        have H1 : (#[.slice (some ⟨gS, 0, none⟩) m m, .func (.func f1) #[] c1, .func (.func f2) #[] c2, .func (.func f3) #[] c3] : Array Value).all (·.oneCell') = true := by rw [← Array.all_toList]; rfl
        have HPJ := Lib.hid hpj
        replace PA := PA.keep kp
        replace KS := kp _ _ _ (by decide) KS
        have KPj := kp _ _ _ (by decide) KP
        have x0 := (KPj.cell (j * 4)).trans d0
        have x1 := (KPj.cell (j * 4 + 1)).trans d1
        have x2 := (KPj.cell (j * 4 + 2)).trans d2
        have x3 := (KPj.cell (j * 4 + 3)).trans d3
        obtain ⟨E1, E2, E3⟩ := ents PA
        unfold Ent at E1 E2 E3
        have e5 : IntKind.i64.wrap ((j : Int) + 1) = (j : Int) + 1 := by simp only [IntKind.wrap, IntKind.signed, IntKind.bits]; simp; omega
        clear d0 d1 d2 d3 hpj
        go_upto_region 9 with (refine wpList_store_row rfl 49 (.tmp 9) _ rfl wr.heap.size #[.slice (some ⟨gS, 0, none⟩) m m, .func (.func f1) #[] c1, .func (.func f2) #[] c2, .func (.func f3) #[] c3] rfl rfl 49 _ (Blk.fresh wr 49 #[.slice none 0 0, .nilFunc, .nilFunc, .nilFunc]) (by kernel_rfl) rfl H1 ?_)
        clear x0 x1 x2 x3 H1
        have b9 : Below wr.heap.size wr ((wr.alloc (.cells #[.slice none 0 0, .nilFunc, .nilFunc, .nilFunc] 49)).setRow wr.heap.size #[.slice (some ⟨gS, 0, none⟩) m m, .func (.func f1) #[] c1, .func (.func f2) #[] c2, .func (.func f3) #[] c3]) := below_setRow ((Below.refl _ _).alloc (Nat.le_refl _) _) (Nat.le_refl _) _
        have KX : Blk ((wr.alloc (.cells #[.slice none 0 0, .nilFunc, .nilFunc, .nilFunc] 49)).setRow wr.heap.size #[.slice (some ⟨gS, 0, none⟩) m m, .func (.func f1) #[] c1, .func (.func f2) #[] c2, .func (.func f3) #[] c3]) wr.heap.size 49 #[.slice (some ⟨gS, 0, none⟩) m m, .func (.func f1) #[] c1, .func (.func f2) #[] c2, .func (.func f3) #[] c3] := Av.bset_row (Blk.fresh wr 49 #[.slice none 0 0, .nilFunc, .nilFunc, .nilFunc])
        replace own := own_below own b9
        replace K1 := K1.below b9 K1.lt
        replace KS := KS.below b9 KS.lt
        replace PA := PA.keep (keeps_below b9)
        replace kp := kp.trans (keeps_below b9)
        replace BX := thenB BX b9
        clear b9 KPj
        generalize (wr.alloc (.cells #[.slice none 0 0, .nilFunc, .nilFunc, .nilFunc] 49)).setRow wr.heap.size #[.slice (some ⟨gS, 0, none⟩) m m, .func (.func f1) #[] c1, .func (.func f2) #[] c2, .func (.func f3) #[] c3] = X9 at *
        obtain ⟨gx, ex⟩ : ∃ g, wr.heap.size = g := ⟨_, rfl⟩
        rw [ex] at KX
        try simp only [ex]
        clear ex
        have y1 := KX.cell 1
        have HGt : Hid (Calls Try.prog f1 (#[.agg C] ++ c1) X9 fun e w' => Gets X9 w' e (getP p c)) := Lib.hid (by rw [← HC.out]; exact get_call PA c)
        have hgm : (getP p c).length = m := by rw [szP_len, HM.out]
        go_wp2_with (first | (refine wpList_load_row rfl 28 (.tmp 1) rfl w.heap.size rfl 28 _ (0, 0) _ K1 Try.underlying28 rfl (by rw [hsK1]; kernel_rfl) ?_) | (refine HGt.out.mono ?_; rintro e X1 ⟨Ag, cg, rfl, hlg, hng, KG, b9⟩))
        rw [hgm] at hlg
        try rw [hgm]
        replace own := own_below own b9
        replace K1 := K1.below b9 K1.lt
        replace KS := KS.below b9 KS.lt
        replace KX := KX.below b9 KX.lt
        replace kp := kp.trans (keeps_below b9)
        replace BX := thenB BX b9
        clear b9 y1
        go_loopw [5, 39] (fun s5 s39 wi => ∃ (i : Nat) (L' : List (Int × Int)), i ≤ m ∧ s39 = .int .i64 i ∧ L'.length = q + i ∧ Hid (L' = L ++ (fpC c p).take i) ∧ wi.ownsRow B 59 2 s5 (q + i) (L'.flatMap encF) ∧ Blk wi w.heap.size 28 C ∧ Keeps X1 wi ∧ Below w.heap.size w wi) (fun _ s39 _ => m - (intOf s39).toNat)
        case atStart => exact ⟨0, L, by omega, rfl, hLq, Lib.hid (by simp), own, K1, Keeps.refl _, BX⟩
        case round =>
          obtain ⟨i, L', hi', rfl, hLi, HLi, own', L1, kq, BY⟩ := hrel
          clear own K1 BX
          have own := own'
          have K1 := L1
          have BX := BY
          clear own' L1 BY
          by_cases ci : i < m
          · obtain ⟨z, hzi⟩ : ∃ z, (getP p c)[i]? = some z := ⟨_, List.getElem?_eq_getElem (by omega)⟩
            obtain ⟨sz, hsi⟩ : ∃ sz, (szP p)[i]? = some sz := ⟨_, List.getElem?_eq_getElem (by rw [HM.out]; exact ci)⟩
            have n0 : wr.cell? ⟨Ag, i, none⟩ = some (.int .u64 z) := by rw [(kq _ _ _ (by decide) KG).cell i]; simp [hzi]
            have m0 : wr.cell? ⟨gS, i, none⟩ = some (.int .i64 sz) := by rw [(kq _ _ _ (by decide) KS).cell i]; simp [hsi]
            have y0 := (kq _ _ _ (by decide) KX).cell 0
            have HF := Lib.hid (fpC_at hsi hzi)
            have g3 : (0 : Int) ≤ (i : Int) ∧ (i : Int) < (m : Int) := by omega
            have g4 : ¬ ((m : Int) ≤ (i : Int)) := by omega
            have e6 : IntKind.i64.wrap ((i : Int) + 1) = (i : Int) + 1 := by simp only [IntKind.wrap, IntKind.signed, IntKind.bits]; simp; omega
            have b9 : Below wr.heap.size wr (wr.alloc (.cells #[.int .i64 sz, .int .u64 z] 59)) := (Below.refl _ _).alloc (Nat.le_refl _) _
            have ownA := own_below own b9
            have hBi : B ≤ wr.heap.size := by
              rcases own.2 with ⟨_, h0'⟩ | ⟨g2', cap2, cur2, hv2, hbg2, hk2, _⟩
              · omega
              · have := (Array.getElem?_eq_some_iff.1 hk2).1; omega
            have hone : ∀ u ∈ ([.int .i64 sz, .int .u64 z] : List Value), u.oneCell' = true := fun u hu => by simp at hu; rcases hu with rfl | rfl <;> rfl
            clear hzi hsi
            go_upto_region 13 with (at_builtin; refine wpList_append_rows rfl (.tmp 44) (.tmp 52) 60 rfl B 59 iF _ 2 16 Try.underlying60 hi hz hs hb hcz (by decide) _ (q + i) _ rfl ownA _ (some ⟨wr.heap.size, 0, none⟩) 1 1 [.int .i64 sz, .int .u64 z] rfl rfl hone (CellsAt.lit wr _ _ _ rfl) (by unfold maxLen; omega) (by omega) (by simp; omega) ?_; intro V9 w9 own9 b8 g9)
            clear n0 m0 y0
            have kw : Keeps wr w9 := (keeps_below b9).trans (keeps_own ownA g9)
            replace own9 : w9.ownsRow B 59 2 V9 (q + (i + 1)) ((L' ++ [(sz, z)]).flatMap encF) := by rw [flat_append]; exact own9
            have HL9 : Hid (L' ++ [(sz, z)] = L ++ (fpC c p).take (i + 1)) := Lib.hid (by rw [HLi.out, List.take_add_one, HF.out, List.append_assoc]; rfl)
            have hl9 : (L' ++ [(sz, z)]).length = q + (i + 1) := by simp [hLi]; omega
            replace K1 := (K1.below b9 K1.lt).below b8 hB
            replace BX := (thenB BX b9).trans (b8.mono (Nat.le_of_lt hB))
            go_wp2_with fail
            go_roundw
            case rel => exact ⟨i + 1, L' ++ [(sz, z)], by omega, by go_num, hl9, HL9, own9, K1, kq.trans kw, BX⟩
            case measure => simp [intOf]; omega
          · obtain rfl : i = m := by omega
            have HL9 : Hid (L' = (1, u c.k) :: (ps.take (j + 1)).flatMap (fpC c)) := Lib.hid (by
              rw [HLi.out, HL.out, List.take_add_one, HPJ.out, Option.toList_some, List.flatMap_append, List.take_of_length_le (l := fpC c p) (by rw [fpC_len, hgm]; exact Nat.le_refl _)]
              simp)
            have hq9 : q + i ≤ 1 + 5 * (j + 1) := by omega
            go_wp2_with fail
            go_roundw
            case rel => exact ⟨j + 1, q + i, L', by omega, by go_num, hLi, hq9, HL9, own, K1, kp.trans kq, BX⟩
            case measure => simp [intOf]; omega
      · obtain rfl : j = n := by omega
        have hL : L = fsC c ps := by rw [HL.out, List.take_of_length_le (by rw [HN.out]; exact Nat.le_refl _)]; rfl
        obtain ⟨A, c9, rfl⟩ := own_form own
        have HPu := Lib.hid (put_any A q c9 L wr (by rw [hL]; exact HFl.out) hLq (by omega) (flds_own own))
        obtain ⟨⟨zs, x⟩, hzx⟩ : ∃ r, putR (fsC c ps) = r := ⟨_, rfl⟩
        rw [show putR L = (zs, x) from by rw [hL]; exact hzx] at HPu
        obtain ⟨nz, hnz⟩ : ∃ nz, zs.length = nz := ⟨_, rfl⟩
        have HNZ := Lib.hid hnz
        have HZX := Lib.hid hzx
        clear hL HL own hnz hzx
        go_wp2_with (go_at_call 25; refine HPu.out.mono ?_; rintro e w9 ⟨A9, c8, rfl, own9, b9⟩)
        refine bodyPost_ret (results_tmp2 rfl _ _ _) rfl ?_
        rw [HZX.out]
        exact ⟨A9, c8, rfl, own_base own9 BX.size, thenB BX b9⟩
  · have hen : encR c = ([], chkC c) := by unfold encR; rw [if_neg hR]
    rw [hen]
    have hz' : (chkC c != 0) = true := by simpa using hR
    generalize chkC c = R at *
    clear hR hen HFl HPa
    go_enter Try.func12, Try.ntmps12
    go_wp2_with (first | (refine wpList_load_row rfl 28 (.tmp 1) rfl w.heap.size rfl 28 _ (0, 0) _ K1 Try.underlying28 rfl (by rw [hsK1]; kernel_rfl) ?_) | (go_at_call 9; refine (HCk.out _).mono ?_; rintro e w1 ⟨rfl, b1⟩))
    refine bodyPost_ret (results_tmp2 rfl _ _ _) rfl ?_
    exact ⟨none, 0, rfl, World.ownsRow_nil _ _ _ _, thenB BX b1⟩
end Go.Proofs.Ytiopeghbpnjcgaa.Cp
