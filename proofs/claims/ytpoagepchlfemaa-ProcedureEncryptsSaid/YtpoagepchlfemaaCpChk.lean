/- Control PDUs: what Check returns: contracts over the program. -/
import Derived.Test.YtpoagepchlfemaaCpEq
set_option linter.unusedVariables false
set_option linter.unusedSimpArgs false
namespace Go.Proofs.Ytpoagepchlfemaa.Cp
open Go.RowKit Mem Oct Rw Av
open Draw
open Base (thenB)
/-- The numbers of a control PDU fit their kinds. -/
def GoodC (c : Ct) : Prop := c.m ≤ 18446744073709551615 ∧ (-9223372036854775808 ≤ c.k ∧ c.k ≤ 9223372036854775807) ∧ (-9223372036854775808 ≤ c.ws ∧ c.ws ≤ 9223372036854775807) ∧ (-9223372036854775808 ≤ c.wo ∧ c.wo ≤ 9223372036854775807) ∧ (-9223372036854775808 ≤ c.it ∧ c.it ≤ 9223372036854775807) ∧ (-9223372036854775808 ≤ c.la ∧ c.la ≤ 9223372036854775807) ∧ (-9223372036854775808 ≤ c.ti ∧ c.ti ≤ 9223372036854775807) ∧ (0 ≤ c.ins ∧ c.ins ≤ 65535) ∧ (-9223372036854775808 ≤ c.rs ∧ c.rs ≤ 9223372036854775807) ∧ (-9223372036854775808 ≤ c.rj ∧ c.rj ≤ 9223372036854775807) ∧ (0 ≤ c.st ∧ c.st ≤ 18446744073709551615) ∧ (0 ≤ c.mr ∧ c.mr ≤ 18446744073709551615) ∧ (0 ≤ c.ft ∧ c.ft ≤ 18446744073709551615) ∧ (-9223372036854775808 ≤ c.vs ∧ c.vs ≤ 9223372036854775807) ∧ (-9223372036854775808 ≤ c.ln ∧ c.ln ≤ 9223372036854775807)
set_option maxRecDepth 100000 in
theorem ins_len : ∀ e ∈ insT, e.2.2.length ≤ 2 := by decide
theorem pts_len {k : Int} {ps : List Pt} (h : ptsK k = some ps) : ps.length ≤ 2 := by
  obtain ⟨i, hi⟩ := ptsK_ins h
  exact ins_len _ hi
theorem blk_grown {w w' : World} {g b : Nat} {t : TypeId} {cs : Array Value} (h : w.grownBy w' (some g)) (hb : Blk w b t cs) (hne : b ≠ g) : Blk w' b t cs := by
  unfold Blk at hb ⊢
  rw [h.block b (Blk.lt hb) (by simpa using hne)]; exact hb
theorem below_grown {B : Nat} {w X X' : World} {g : Nat} (h : Below B w X) (k : X.grownBy X' (some g)) (hg : B ≤ g) (hB : B ≤ X.heap.size := by omega) : Below B w X' :=
  ⟨k.os.trans h.os, k.tape.trans h.tape, k.output.trans h.output, Nat.le_trans h.size k.size, fun i hi => (k.block i (by omega) (by simp; omega)).trans (h.block i hi)⟩
theorem u_nn (n : Int) : 0 ≤ u n := by unfold u; simp only [IntKind.wrap, IntKind.signed, IntKind.bits]; simp; omega
theorem getP_nn {c : Ct} (h : GoodC c) (p : Pt) : ∀ z ∈ getP p c, 0 ≤ z := by
  obtain ⟨h0, h1, h2, h3, h4, h5, h6, h7, h8, h9, h10, h11, h12, h13, h14⟩ := h
  intro z hz
  cases p <;> simp only [getP, List.mem_cons, List.mem_nil_iff, or_false] at hz
  · rcases hz with rfl | rfl | rfl | rfl | rfl <;> exact u_nn _
  · subst hz; exact u_nn _
  · subst hz; omega
  · subst hz; exact u_nn _
  · subst hz; exact u_nn _
  · subst hz; exact u_nn _
  · subst hz; exact u_nn _
  · subst hz; omega
  · subst hz; omega
  · subst hz; omega
set_option maxRecDepth 100000 in
set_option maxHeartbeats 4000000 in
theorem check_any (c : Ct) (w : World) (hg : GoodC c) : Calls Try.prog 28 #[.agg (encC c)] w fun e w' => e = .returned (.int .i64 (chkC c)) ∧ Below w.heap.size w w' := by
  have BX : Below w.heap.size w (w.alloc (.cells (encC c) 57)) := (Below.refl _ _).alloc (Nat.le_refl _) _
  have K1 : Blk (w.alloc (.cells (encC c) 57)) w.heap.size 57 (encC c) := Blk.fresh w 57 (encC c)
  have k0 : (w.alloc (.cells (encC c) 57)).cell? ⟨w.heap.size, 0, none⟩ = some (.int .i64 c.k) := K1.cell 0
  have HG := Lib.hid hg
  have HPa := Lib.hid (partsOf_any c.k)
  clear hg
  obtain ⟨C, hC⟩ : ∃ C, encC c = C := ⟨_, rfl⟩
  rw [hC] at BX K1 k0 ⊢
  have HC := Lib.hid hC
  clear hC
  obtain ⟨R, hR⟩ : ∃ R, chkC c = R := ⟨_, rfl⟩
  rw [hR]
  go_enter Try.func28, Try.ntmps28
  go_upto_region 2 with (go_at_call 42; refine (HPa.out _).mono ?_; rintro e w1 ⟨r, rfl, hres, b1⟩)
  replace BX := thenB BX b1
  replace K1 := K1.below b1 K1.lt
  clear k0 b1
  cases hp : ptsK c.k with
  | none =>
    obtain rfl : R = 12 := by rw [← hR]; unfold chkC; rw [hp]
    simp only [hp, Option.isSome_none]
    clear hp hR hres HPa
    go_wp2_with fail
    go_ret
    exact ⟨rfl, BX⟩
  | some ps =>
    unfold Res at hres
    rw [hp] at hres
    simp only [hp, Option.isSome_some]
    have HR : Hid (R = if c = usedC c ps then errP c ps else 1) := Lib.hid (by rw [← hR]; unfold chkC; rw [hp])
    have hn2 := pts_len hp
    clear hp HPa hR
    obtain ⟨gp, cs, rfl, KP, HP⟩ := hres
    obtain ⟨n, hn⟩ : ∃ n, ps.length = n := ⟨_, rfl⟩
    rw [hn] at hn2 ⊢
    have HN := Lib.hid hn
    clear hn
    have k0 : w1.cell? ⟨w.heap.size, 0, none⟩ = some (.int .i64 c.k) := (K1.cell 0).trans (by rw [← HC.out]; rfl)
    go_upto_region 5 with (fail)
    clear k0
    have hlt := K1.lt
    have hlp := KP.lt
    have b9 : Below w1.heap.size w1 (w1.alloc (.cells #[.int .i64 c.k, .int .i64 0, .int .i64 0, .int .i64 0, .int .i64 0, .int .i64 0, .int .u64 0, .int .u16 0, .int .i64 0, .int .i64 0, .int .u64 0, .int .u64 0, .int .u64 0, .int .i64 0, .int .i64 0] 57)) := (Below.refl _ _).alloc (Nat.le_refl _) _
    have K5 : Blk (w1.alloc (.cells #[.int .i64 c.k, .int .i64 0, .int .i64 0, .int .i64 0, .int .i64 0, .int .i64 0, .int .u64 0, .int .u16 0, .int .i64 0, .int .i64 0, .int .u64 0, .int .u64 0, .int .u64 0, .int .i64 0, .int .i64 0] 57)) w1.heap.size 57 (encC (usedC c (ps.take 0))) := Blk.fresh w1 57 #[.int .i64 c.k, .int .i64 0, .int .i64 0, .int .i64 0, .int .i64 0, .int .i64 0, .int .u64 0, .int .u16 0, .int .i64 0, .int .i64 0, .int .u64 0, .int .u64 0, .int .u64 0, .int .i64 0, .int .i64 0]
    have kp0 := keeps_below b9
    replace KP := KP.below b9 hlp
    replace K1 := K1.below b9 hlt
    replace BX := thenB BX b9
    replace HP := fun j p h => (fun (x : ∃ v0 v1 v2 v3 : Value, PartAt w1 (.agg #[v0, v1, v2, v3]) p ∧ cs[j * 4]? = some v0 ∧ cs[j * 4 + 1]? = some v1 ∧ cs[j * 4 + 2]? = some v2 ∧ cs[j * 4 + 3]? = some v3) => (show ∃ v0 v1 v2 v3 : Value, PartAt (w1.alloc (.cells #[.int .i64 c.k, .int .i64 0, .int .i64 0, .int .i64 0, .int .i64 0, .int .i64 0, .int .u64 0, .int .u16 0, .int .i64 0, .int .i64 0, .int .u64 0, .int .u64 0, .int .u64 0, .int .i64 0, .int .i64 0] 57)) (.agg #[v0, v1, v2, v3]) p ∧ cs[j * 4]? = some v0 ∧ cs[j * 4 + 1]? = some v1 ∧ cs[j * 4 + 2]? = some v2 ∧ cs[j * 4 + 3]? = some v3 from by obtain ⟨v0, v1, v2, v3, h1, h2⟩ := x; exact ⟨v0, v1, v2, v3, h1.keep kp0, h2⟩)) (HP j p h)
    clear b9 kp0
    generalize w1.alloc (.cells #[.int .i64 c.k, .int .i64 0, .int .i64 0, .int .i64 0, .int .i64 0, .int .i64 0, .int .u64 0, .int .u16 0, .int .i64 0, .int .i64 0, .int .u64 0, .int .u64 0, .int .u64 0, .int .i64 0, .int .i64 0] 57) = W at *
    obtain ⟨g5, e5⟩ : ∃ g, w1.heap.size = g := ⟨_, rfl⟩
    rw [e5] at K5 hlt hlp
    try simp only [e5]
    clear e5
    have HPh := Lib.hid HP
    clear HP
    go_wp2_with fail
    go_loopw [24] (fun s24 wr => ∃ j : Nat, j ≤ n ∧ s24 = .int .i64 j ∧ Blk wr w.heap.size 57 C ∧ Blk wr g5 57 (encC (usedC c (ps.take j))) ∧ Keeps W wr ∧ Below w.heap.size w wr) (fun s24 _ => n - (intOf s24).toNat)
    case atStart => exact ⟨0, by omega, rfl, K1, K5, Keeps.refl _, BX⟩
    case round =>
      obtain ⟨j, hj, rfl, L1, L5, kp, BY⟩ := hrel
      clear K1 K5 BX
      have K1 := L1
      have K5 := L5
      have BX := BY
      clear L1 L5 BY
      by_cases cj : j < n
      · have g1 : (0 : Int) ≤ (j : Int) ∧ (j : Int) < (n : Int) := by omega
        have g2 : ¬ ((n : Int) ≤ (j : Int)) := by omega
        obtain ⟨p, hpj⟩ : ∃ p, ps[j]? = some p := ⟨_, List.getElem?_eq_getElem (by rw [HN.out]; exact cj)⟩
        obtain ⟨S, v1, v2, v3, PA, d0, d1, d2, d3⟩ := HPh.out j p hpj
        obtain ⟨S', f1, c1, f2, c2, f3, c3, eV, hSz⟩ := part_form PA
        obtain ⟨rfl, rfl, rfl, rfl⟩ := agg4 eV
        clear eV
        have oS : S.oneCell' = true := by obtain ⟨gS, hS, _⟩ := hSz; rw [hS]; rfl
        have H1 : (#[S, .func (.func f1) #[] c1, .func (.func f2) #[] c2, .func (.func f3) #[] c3] : Array Value).all (·.oneCell') = true := by rw [← Array.all_toList]; simp only [List.all_cons, List.all_nil, oS, Bool.and_true, Bool.and_self]; rfl
        clear hSz
        have HPJ := Lib.hid hpj
        replace PA := PA.keep kp
        have KPj := kp _ _ _ (by decide) KP
        have x0 := (KPj.cell (j * 4)).trans d0
        have x1 := (KPj.cell (j * 4 + 1)).trans d1
        have x2 := (KPj.cell (j * 4 + 2)).trans d2
        have x3 := (KPj.cell (j * 4 + 3)).trans d3
        obtain ⟨E1, E2, E3⟩ := ents PA
        unfold Ent at E1 E2 E3
        have e5 : IntKind.i64.wrap ((j : Int) + 1) = (j : Int) + 1 := by simp only [IntKind.wrap, IntKind.signed, IntKind.bits]; simp; omega
        clear d0 d1 d2 d3 hpj
        go_upto_region 8 with (refine wpList_store_row rfl 107 (.tmp 7) _ rfl wr.heap.size #[S, .func (.func f1) #[] c1, .func (.func f2) #[] c2, .func (.func f3) #[] c3] rfl rfl 107 _ (Blk.fresh wr 107 #[.slice none 0 0, .nilFunc, .nilFunc, .nilFunc]) (by kernel_rfl) rfl H1 ?_)
        clear x0 x1 x2 x3 H1 oS
        have hlw := K5.lt
        have b9 : Below wr.heap.size wr ((wr.alloc (.cells #[.slice none 0 0, .nilFunc, .nilFunc, .nilFunc] 107)).setRow wr.heap.size #[S, .func (.func f1) #[] c1, .func (.func f2) #[] c2, .func (.func f3) #[] c3]) := below_setRow ((Below.refl _ _).alloc (Nat.le_refl _) _) (Nat.le_refl _) _
        have KX : Blk ((wr.alloc (.cells #[.slice none 0 0, .nilFunc, .nilFunc, .nilFunc] 107)).setRow wr.heap.size #[S, .func (.func f1) #[] c1, .func (.func f2) #[] c2, .func (.func f3) #[] c3]) wr.heap.size 107 #[S, .func (.func f1) #[] c1, .func (.func f2) #[] c2, .func (.func f3) #[] c3] := Av.bset_row (Blk.fresh wr 107 #[.slice none 0 0, .nilFunc, .nilFunc, .nilFunc])
        replace K1 := K1.below b9 K1.lt
        replace K5 := K5.below b9 K5.lt
        replace PA := PA.keep (keeps_below b9)
        replace kp := kp.trans (keeps_below b9)
        replace BX := thenB BX b9
        clear b9 KPj
        generalize (wr.alloc (.cells #[.slice none 0 0, .nilFunc, .nilFunc, .nilFunc] 107)).setRow wr.heap.size #[S, .func (.func f1) #[] c1, .func (.func f2) #[] c2, .func (.func f3) #[] c3] = X9 at *
        obtain ⟨gx, ex⟩ : ∃ g, wr.heap.size = g := ⟨_, rfl⟩
        rw [ex] at KX hlw
        try simp only [ex]
        clear ex
        have eC := HC.out
        subst eC
        replace K1 : Blk X9 w.heap.size 57 #[.int .i64 c.k, .int .i64 c.ws, .int .i64 c.wo, .int .i64 c.it, .int .i64 c.la, .int .i64 c.ti, .int .u64 (c.m : Int), .int .u16 c.ins, .int .i64 c.rs, .int .i64 c.rj, .int .u64 c.st, .int .u64 c.mr, .int .u64 c.ft, .int .i64 c.vs, .int .i64 c.ln] := K1
        have KX' : Blk X9.drew (gx) 107 #[S, .func (.func f1) #[] c1, .func (.func f2) #[] c2, .func (.func f3) #[] c3] := Mem.Blk.drew KX
        have K1' : Blk X9.drew (w.heap.size) 57 #[.int .i64 c.k, .int .i64 c.ws, .int .i64 c.wo, .int .i64 c.it, .int .i64 c.la, .int .i64 c.ti, .int .u64 (c.m : Int), .int .u16 c.ins, .int .i64 c.rs, .int .i64 c.rj, .int .u64 c.st, .int .u64 c.mr, .int .u64 c.ft, .int .i64 c.vs, .int .i64 c.ln] := Mem.Blk.drew K1
        refine wp_region_held_drew (S := (fun w' => Blk w' (gx) 107 #[S, .func (.func f1) #[] c1, .func (.func f2) #[] c2, .func (.func f3) #[] c3] ∧ Blk w' (w.heap.size) 57 #[.int .i64 c.k, .int .i64 c.ws, .int .i64 c.wo, .int .i64 c.it, .int .i64 c.la, .int .i64 c.ti, .int .u64 (c.m : Int), .int .u16 c.ins, .int .i64 c.rs, .int .i64 c.rj, .int .u64 c.st, .int .u64 c.mr, .int .u64 c.ft, .int .i64 c.vs, .int .i64 c.ln])) (by kernel_rfl) ?_ (fun hHeld => ?_)
        · exact ⟨KX', K1'⟩
        replace KX := KX'
        clear KX'
        replace K1 := K1'
        clear K1'
        replace BX : Below w.heap.size w X9.drew := BX.drew
        replace K5 := (show Blk X9.drew g5 57 _ from K5)
        replace PA := (show PartAt X9.drew _ _ from PA.keep (keeps_below (Below.refl _ _).drew))
        replace kp := (show Keeps W X9.drew from kp.trans (keeps_below (Below.refl _ _).drew))
        generalize X9.drew = X0 at *
        refine wpAnyH_take (i := 0) (v := .pointer (some ⟨gx, 2, none⟩)) rfl (by kernel_rfl) (by kernel_rfl) (by kernel_rfl) (fun _ _ _ h => h) (Or.inl ⟨by first | rfl | go_simp, by intro w9 hSw; (try dsimp only at hSw); go_simp⟩) (by assumption) ?_
        simp only [List.getElem_toArray, List.getElem_cons_zero, List.getElem_cons_succ, Act.put, List.setIfInBounds_toArray, List.set_cons_zero, List.set_cons_succ]
        refine wpAnyH_take (i := 1) (v := .func (.func f2) #[] c2) rfl (by kernel_rfl) (by kernel_rfl) (by kernel_rfl) (fun _ _ _ h => h) (Or.inl ⟨by first | rfl | go_simp, by intro w9 hSw; (try dsimp only at hSw); have c9 := hSw.1.cell 2; clear hSw; go_simp⟩) (by assumption) ?_
        simp only [List.getElem_toArray, List.getElem_cons_zero, List.getElem_cons_succ, Act.put, List.setIfInBounds_toArray, List.set_cons_zero, List.set_cons_succ]
        refine wpAnyH_take (i := 2) (v := .pointer (some ⟨gx, 1, none⟩)) rfl (by kernel_rfl) (by kernel_rfl) (by kernel_rfl) (fun _ _ _ h => h) (Or.inl ⟨by first | rfl | go_simp, by intro w9 hSw; (try dsimp only at hSw); go_simp⟩) (by assumption) ?_
        simp only [List.getElem_toArray, List.getElem_cons_zero, List.getElem_cons_succ, Act.put, List.setIfInBounds_toArray, List.set_cons_zero, List.set_cons_succ]
        refine wpAnyH_take (i := 3) (v := .func (.func f1) #[] c1) rfl (by kernel_rfl) (by kernel_rfl) (by kernel_rfl) (fun _ _ _ h => h) (Or.inl ⟨by first | rfl | go_simp, by intro w9 hSw; (try dsimp only at hSw); have c9 := hSw.1.cell 1; clear hSw; go_simp⟩) (by assumption) ?_
        simp only [List.getElem_toArray, List.getElem_cons_zero, List.getElem_cons_succ, Act.put, List.setIfInBounds_toArray, List.set_cons_zero, List.set_cons_succ]
        refine wpAnyH_take (i := 4) (v := .agg #[.int .i64 c.k, .int .i64 c.ws, .int .i64 c.wo, .int .i64 c.it, .int .i64 c.la, .int .i64 c.ti, .int .u64 (c.m : Int), .int .u16 c.ins, .int .i64 c.rs, .int .i64 c.rj, .int .u64 c.st, .int .u64 c.mr, .int .u64 c.ft, .int .i64 c.vs, .int .i64 c.ln]) rfl (by kernel_rfl) (by kernel_rfl) (by kernel_rfl) (fun _ _ _ h => h) (Av.yields_part (by first | rfl | go_simp) _ _ rfl (w.heap.size) 0 rfl #[.int .i64 c.k, .int .i64 c.ws, .int .i64 c.wo, .int .i64 c.it, .int .i64 c.la, .int .i64 c.ti, .int .u64 (c.m : Int), .int .u16 c.ins, .int .i64 c.rs, .int .i64 c.rj, .int .u64 c.st, .int .u64 c.mr, .int .u64 c.ft, .int .i64 c.vs, .int .i64 c.ln] _ 57 #[.int .i64 c.k, .int .i64 c.ws, .int .i64 c.wo, .int .i64 c.it, .int .i64 c.la, .int .i64 c.ti, .int .u64 (c.m : Int), .int .u16 c.ins, .int .i64 c.rs, .int .i64 c.rj, .int .u64 c.st, .int .u64 c.mr, .int .u64 c.ft, .int .i64 c.vs, .int .i64 c.ln] (fun w9 hSw => hSw.2) rfl Try.underlying57 rfl (by kernel_rfl)) (by assumption) ?_
        simp only [List.getElem_toArray, List.getElem_cons_zero, List.getElem_cons_succ, Act.put, List.setIfInBounds_toArray, List.set_cons_zero, List.set_cons_succ]
        refine wpAnyH_ready (rs := [5]) (by kernel_rfl) (by simp) ?_
        refine AllReadyH.cons rfl (fun K hK => ?_) (AllReadyH.nil)
        go_simp
        have hk5 := K5.lt
        refine (get_call PA c).mono ?_
        rintro e X1 ⟨Ag, cg, rfl, hlg, hng, KG, b9⟩
        skip
        replace KX := KX.below b9 KX.lt
        replace K1 := K1.below b9 K1.lt
        replace BX := Base.thenB BX b9
        replace K5 := K5.below b9 K5.lt
        replace PA := PA.keep (keeps_below b9)
        replace kp := kp.trans (keeps_below b9)
        clear b9
        refine hK.out _ _ ⟨KX, K1⟩ (fun hHeld => ?_)
        clear hK K
        try simp only [List.getElem_toArray, List.getElem_cons_zero, List.getElem_cons_succ, Act.put, List.setIfInBounds_toArray, List.set_cons_zero, List.set_cons_succ]
        refine wpAnyH_ready (rs := [6]) (by kernel_rfl) (by simp) ?_
        refine AllReadyH.cons rfl (fun K hK => ?_) (AllReadyH.nil)
        go_simp
        have hk1 := K1.lt
        refine (set_call PA _ g5 K5 (some ⟨Ag, 0, none⟩) _ cg _ rfl (szP_len p c) (getP_nn HG.out p) (fun a ha hb => by injection ha with ha; subst ha; simp only at hb; omega) (ints_blk KG)).mono ?_
        rintro e X2 ⟨⟨vs, rfl⟩, K9, gr⟩
        have kq := keeps_grown gr K5
        replace KX := kq _ _ _ (by decide) KX
        replace K1 := blk_grown gr K1 (by omega)
        replace PA := PA.keep kq
        replace kp := kp.trans kq
        replace BX := below_grown BX gr (by omega)
        replace K5 := K9
        clear K9 kq gr
        refine hK.out _ _ ⟨KX, K1⟩ (fun hHeld => ?_)
        clear hK K
        try simp only [List.getElem_toArray, List.getElem_cons_zero, List.getElem_cons_succ, Act.put, List.setIfInBounds_toArray, List.set_cons_zero, List.set_cons_succ]
        refine wpAnyH_done (by kernel_rfl) ?_ _
        clear hHeld
        go_wp2_with fail
        go_roundw
        case rel => exact ⟨j + 1, by omega, by go_num, K1, by rw [usedC_snoc c HPJ.out]; exact K5, kp, BX⟩
        case measure => simp [intOf]; omega
      · obtain rfl : j = n := by omega
        have hu : ps.take j = ps := List.take_of_length_le (by rw [HN.out]; exact Nat.le_refl _)
        rw [hu] at K5
        clear hu
        have q1 := ctl_neq c (usedC c ps)
        have q2 := ctl_ng c (usedC c ps)
        have eC := HC.out
        subst eC
        obtain ⟨U, hU⟩ : ∃ U, encC (usedC c ps) = U := ⟨_, rfl⟩
        obtain ⟨C, hC⟩ : ∃ C, encC c = C := ⟨_, rfl⟩
        rw [hU] at K5 q1 q2
        rw [hC] at K1 q1 q2
        simp only [hC]
        have HCC := Lib.hid hC
        have hsK1 : C.size = 15 := by rw [← hC]; rfl
        have hsK5 : U.size = 15 := by rw [← hU]; rfl
        clear hU hC HC
        by_cases hcu : c = usedC c ps
        · rw [decide_eq_true hcu] at q1
          have HR2 : Hid (R = errP c ps) := Lib.hid (by rw [HR.out, if_pos hcu])
          clear HR hcu
          go_upto_region 12 with (first | (refine wpList_load_row rfl 57 (.tmp 1) rfl w.heap.size rfl 57 _ (0, 0) _ K1 Try.underlying57 rfl (by rw [hsK1]; kernel_rfl) ?_) | (refine wpList_load_row rfl 57 (.tmp 5) rfl g5 rfl 57 _ (0, 0) _ K5 Try.underlying57 rfl (by rw [hsK5]; kernel_rfl) ?_))
          clear q1 q2 K5
          have hlw : w.heap.size < wr.heap.size := K1.lt
          go_wp2_with fail
          go_loopw [41] (fun s41 wr => ∃ i : Nat, i ≤ j ∧ s41 = .int .i64 i ∧ Blk wr w.heap.size 57 C ∧ Keeps W wr ∧ Below w.heap.size w wr ∧ Hid (∀ q ∈ ps.take i, chkP q c = 0)) (fun s41 _ => j - (intOf s41).toNat)
          case atStart => exact ⟨0, by omega, rfl, K1, kp, BX, Lib.hid (by simp)⟩
          case round =>
            obtain ⟨i, hi, rfl, L1, kq, BY, HA⟩ := hrel
            clear K1 kp BX hlw
            have K1 := L1
            have kp := kq
            have BX := BY
            clear L1 kq BY
            by_cases ci : i < j
            · have g1 : (0 : Int) ≤ (i : Int) ∧ (i : Int) < (j : Int) := by omega
              have g2 : ¬ ((j : Int) ≤ (i : Int)) := by omega
              obtain ⟨p, hpj⟩ : ∃ p, ps[i]? = some p := ⟨_, List.getElem?_eq_getElem (by rw [HN.out]; exact ci)⟩
              obtain ⟨S, v1, v2, v3, PA, d0, d1, d2, d3⟩ := HPh.out i p hpj
              obtain ⟨S', f1, c1, f2, c2, f3, c3, eV, hSz⟩ := part_form PA
              obtain ⟨rfl, rfl, rfl, rfl⟩ := agg4 eV
              clear eV
              have oS : S.oneCell' = true := by obtain ⟨gS, hS, _⟩ := hSz; rw [hS]; rfl
              have H1 : (#[S, .func (.func f1) #[] c1, .func (.func f2) #[] c2, .func (.func f3) #[] c3] : Array Value).all (·.oneCell') = true := by rw [← Array.all_toList]; simp only [List.all_cons, List.all_nil, oS, Bool.and_true, Bool.and_self]; rfl
              clear hSz
              have HPJ := Lib.hid hpj
              replace PA := PA.keep kp
              have KPj := kp _ _ _ (by decide) KP
              have x0 := (KPj.cell (i * 4)).trans d0
              have x1 := (KPj.cell (i * 4 + 1)).trans d1
              have x2 := (KPj.cell (i * 4 + 2)).trans d2
              have x3 := (KPj.cell (i * 4 + 3)).trans d3
              obtain ⟨E1, E2, E3⟩ := ents PA
              unfold Ent at E1 E2 E3
              have e5 : IntKind.i64.wrap ((i : Int) + 1) = (i : Int) + 1 := by simp only [IntKind.wrap, IntKind.signed, IntKind.bits]; simp; omega
              clear d0 d1 d2 d3 hpj
              go_upto_region 15 with (refine wpList_store_row rfl 107 (.tmp 9) _ rfl wr.heap.size #[S, .func (.func f1) #[] c1, .func (.func f2) #[] c2, .func (.func f3) #[] c3] rfl rfl 107 _ (Blk.fresh wr 107 #[.slice none 0 0, .nilFunc, .nilFunc, .nilFunc]) (by kernel_rfl) rfl H1 ?_)
              clear x0 x1 x2 x3 H1 oS
              have b9 : Below wr.heap.size wr ((wr.alloc (.cells #[.slice none 0 0, .nilFunc, .nilFunc, .nilFunc] 107)).setRow wr.heap.size #[S, .func (.func f1) #[] c1, .func (.func f2) #[] c2, .func (.func f3) #[] c3]) := below_setRow ((Below.refl _ _).alloc (Nat.le_refl _) _) (Nat.le_refl _) _
              have KX : Blk ((wr.alloc (.cells #[.slice none 0 0, .nilFunc, .nilFunc, .nilFunc] 107)).setRow wr.heap.size #[S, .func (.func f1) #[] c1, .func (.func f2) #[] c2, .func (.func f3) #[] c3]) wr.heap.size 107 #[S, .func (.func f1) #[] c1, .func (.func f2) #[] c2, .func (.func f3) #[] c3] := Av.bset_row (Blk.fresh wr 107 #[.slice none 0 0, .nilFunc, .nilFunc, .nilFunc])
              replace K1 := K1.below b9 K1.lt
              replace PA := PA.keep (keeps_below b9)
              replace kp := kp.trans (keeps_below b9)
              replace BX := thenB BX b9
              clear b9 KPj
              generalize (wr.alloc (.cells #[.slice none 0 0, .nilFunc, .nilFunc, .nilFunc] 107)).setRow wr.heap.size #[S, .func (.func f1) #[] c1, .func (.func f2) #[] c2, .func (.func f3) #[] c3] = X9 at *
              obtain ⟨gx, ex⟩ : ∃ g, wr.heap.size = g := ⟨_, rfl⟩
              rw [ex] at KX
              try simp only [ex]
              clear ex
              have y3 := KX.cell 3
              have HCk : Hid (Calls Try.prog f3 (#[.agg C] ++ c3) X9 fun e w' => e = .returned (.int .i64 (chkP p c)) ∧ Below X9.heap.size X9 w') := Lib.hid (by rw [← HCC.out]; exact chk_call PA c HG.out.1)
              by_cases hz : chkP p c = 0
              · rw [hz] at HCk
                have HA2 : Hid (∀ q ∈ ps.take (i + 1), chkP q c = 0) := Lib.hid (by
                  rw [List.take_add_one, HPJ.out, Option.toList_some]
                  intro q hq
                  rcases List.mem_append.1 hq with hq | hq
                  · exact HA.out q hq
                  · rw [List.mem_singleton.1 hq]; exact hz)
                clear hz
                go_wp2_with (first | (refine wpList_load_row rfl 57 (.tmp 1) rfl w.heap.size rfl 57 _ (0, 0) _ K1 Try.underlying57 rfl (by rw [hsK1]; kernel_rfl) ?_) | (refine HCk.out.mono ?_; rintro e X8 ⟨rfl, b9⟩))
                go_roundw
                case rel => exact ⟨i + 1, by omega, by go_num, K1.below b9 K1.lt, kp.trans (keeps_below b9), thenB BX b9, HA2⟩
                case measure => simp [intOf]; omega
              · have hR : R = chkP p c := by rw [HR2.out]; exact errP_at c ps i p HPJ.out HA.out hz
                rw [← hR] at HCk hz
                have hz' : (R != 0) = true := by simpa using hz
                clear hR hz
                go_wp2_with (first | (refine wpList_load_row rfl 57 (.tmp 1) rfl w.heap.size rfl 57 _ (0, 0) _ K1 Try.underlying57 rfl (by rw [hsK1]; kernel_rfl) ?_) | (refine HCk.out.mono ?_; rintro e X8 ⟨rfl, b9⟩))
                go_ret
                exact ⟨rfl, thenB BX b9⟩
            · obtain rfl : i = j := by omega
              have hR : R = 0 := by
                rw [HR2.out]
                exact errP_none c ps (by have := HA.out; rwa [List.take_of_length_le (by rw [HN.out]; exact Nat.le_refl _)] at this)
              subst hR
              go_wp2_with fail
              go_ret
              exact ⟨rfl, BX⟩
        · rw [decide_eq_false hcu] at q1
          obtain rfl : R = 1 := by rw [HR.out, if_neg hcu]
          clear hcu HR
          go_wp2_with (first | (refine wpList_load_row rfl 57 (.tmp 1) rfl w.heap.size rfl 57 _ (0, 0) _ K1 Try.underlying57 rfl (by rw [hsK1]; kernel_rfl) ?_) | (refine wpList_load_row rfl 57 (.tmp 5) rfl g5 rfl 57 _ (0, 0) _ K5 Try.underlying57 rfl (by rw [hsK5]; kernel_rfl) ?_))
          go_ret
          exact ⟨rfl, BX⟩
end Go.Proofs.Ytpoagepchlfemaa.Cp
