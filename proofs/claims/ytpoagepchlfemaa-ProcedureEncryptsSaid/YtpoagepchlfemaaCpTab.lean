/- Control PDUs: what partsOf returns: contracts over the program. -/
import Derived.Test.YtpoagepchlfemaaCpStep
import Derived.Deep.Cut
set_option linter.unusedVariables false
set_option linter.unusedSimpArgs false
namespace Go.Proofs.Ytpoagepchlfemaa.Cp
open Go.RowKit Mem Oct Rw Av
open Draw
open Base (thenB)
theorem region_tab {ops : Array Oper} {Q : Exit → Act → World → Prop} {id : Nat} {a : Act} {w : World} {k : Int} (D : Dig ops) (B : Boxes k w.drew a.tmps) (hs : a.tmps.size = 63) (hd : a.defers = [])
    (h : ∀ (T : Array Value) (w' : World) (r : Value), T.size = 63 → Res k w' r → T.getD 11 undef = r → T.getD 12 undef = .bool (ptsK k).isSome → Below w.heap.size w w' → Q .normal ⟨T, []⟩ w') : (Code.region id ops true).wp Try.prog Q a w := by
  obtain ⟨T0, df⟩ := a
  simp only at hs hd B
  subst hd
  refine wp_region_inv (by kernel_rfl) (Inv k w.drew T0) ?_ (fun listed a w i I hr => step_any D B listed a w i I hr) (fun listed a w I hr => ?_)
  · rw [D.sz]; exact start_any k w.drew T0 hs
  · obtain ⟨h1, h2, h3, h4, h5⟩ := done_any D I hr
    obtain ⟨T, df⟩ := a
    simp only at h1 h2 h3 h4
    subst h2
    exact h T w _ h1 h3 rfl h4 ⟨h5.os, h5.tape, h5.output, h5.size, h5.block⟩
theorem small_part {ff : Nat} {lo hi : Int} {p : Pt} (hp : ∀ w V, SmallAt w V ff lo hi → PartAt w V p) (w : World) : Calls Try.prog 62 #[.int .i64 lo, .int .i64 hi, .func (.func ff) #[] #[]] w fun e w' => ∃ v0 v1 v2 v3, e = .returned (.agg #[v0, v1, v2, v3]) ∧ (#[v0, v1, v2, v3] : Array Value).all (·.oneCell') = true ∧ PartAt w' (.agg #[v0, v1, v2, v3]) p ∧ Below w.heap.size w w' := by
  refine (make_small ff lo hi w).mono ?_
  rintro e w' ⟨V, rfl, _, hs, hb⟩
  have hp := hp _ _ hs
  obtain ⟨S, f1, c1, f2, c2, f3, c3, eV, g, rfl, _⟩ := part_form hp
  exact ⟨_, _, _, _, by rw [eV], by rw [← Array.all_toList]; rfl, by rw [← eV]; exact hp, hb⟩
theorem large_part {ff : Nat} {p : Pt} (hp : ∀ w V, LargeAt w V ff → PartAt w V p) (w : World) : Calls Try.prog 67 #[.func (.func ff) #[] #[]] w fun e w' => ∃ v0 v1 v2 v3, e = .returned (.agg #[v0, v1, v2, v3]) ∧ (#[v0, v1, v2, v3] : Array Value).all (·.oneCell') = true ∧ PartAt w' (.agg #[v0, v1, v2, v3]) p ∧ Below w.heap.size w w' := by
  refine (make_large ff w).mono ?_
  rintro e w' ⟨V, rfl, _, hs, hb⟩
  have hp := hp _ _ hs
  obtain ⟨S, f1, c1, f2, c2, f3, c3, eV, g, rfl, _⟩ := part_form hp
  exact ⟨_, _, _, _, by rw [eV], by rw [← Array.all_toList]; rfl, by rw [← eV]; exact hp, hb⟩
set_option maxRecDepth 100000 in
set_option maxHeartbeats 4000000 in
theorem partsOf_any (k : Int) (w : World) : Calls Try.prog 42 #[.int .i64 k] w fun e w' => ∃ r, e = .returned (.tuple #[r, .bool (ptsK k).isSome]) ∧ Res k w' r ∧ Below w.heap.size w w' := by
  have BX : Below w.heap.size w w := Below.refl _ _
  have Hrs := Lib.hid (small_part (ff := 63) (lo := 0) (hi := 255) (p := .rs) fun w V h => h)
  have Hrj := Lib.hid (small_part (ff := 64) (lo := 0) (hi := 255) (p := .rj) fun w V h => h)
  have Hvs := Lib.hid (small_part (ff := 65) (lo := 0) (hi := 255) (p := .vs) fun w V h => h)
  have Hln := Lib.hid (small_part (ff := 66) (lo := 27) (hi := 251) (p := .ln) fun w V h => h)
  have Hsa := Lib.hid (large_part (ff := 68)  (p := .sa) fun w V h => h)
  have Hmk := Lib.hid (large_part (ff := 69)  (p := .mk) fun w V h => h)
  have Hfe := Lib.hid (large_part (ff := 70)  (p := .fe) fun w V h => h)
  go_enter Try.func42, Try.ntmps42
  go_upto_region 1 with (fail)
  go_upto_region 2 with (first | (go_at_call 62; refine (Hrs.out _).mono ?_; rintro e w1 ⟨rs0, rs1, rs2, rs3, rfl, H1, Prs, b9⟩; replace BX := thenB BX b9; clear b9) | (refine wpList_store_row rfl 107 (.tmp 4) _ rfl w1.heap.size #[rs0, rs1, rs2, rs3] rfl rfl 107 _ (Blk.fresh w1 107 #[.slice none 0 0, .nilFunc, .nilFunc, .nilFunc]) (by kernel_rfl) rfl H1 ?_))
  have b9 : Below w1.heap.size w1 ((w1.alloc (.cells #[.slice none 0 0, .nilFunc, .nilFunc, .nilFunc] 107)).setRow w1.heap.size #[rs0, rs1, rs2, rs3]) := below_setRow ((Below.refl _ _).alloc (Nat.le_refl _) _) (Nat.le_refl _) _
  have Krs : Blk ((w1.alloc (.cells #[.slice none 0 0, .nilFunc, .nilFunc, .nilFunc] 107)).setRow w1.heap.size #[rs0, rs1, rs2, rs3]) w1.heap.size 107 #[rs0, rs1, rs2, rs3] := Av.bset_row (Blk.fresh w1 107 #[.slice none 0 0, .nilFunc, .nilFunc, .nilFunc])
  replace Prs := Prs.keep (keeps_below b9)
  replace BX := thenB BX b9
  generalize (w1.alloc (.cells #[.slice none 0 0, .nilFunc, .nilFunc, .nilFunc] 107)).setRow w1.heap.size #[rs0, rs1, rs2, rs3] = Y1 at *
  obtain ⟨grs, ers⟩ : ∃ g, w1.heap.size = g := ⟨_, rfl⟩
  rw [ers] at Krs
  try simp only [ers]
  clear H1 b9 Hrs ers
  go_upto_region 3 with (first | (go_at_call 62; refine (Hrj.out _).mono ?_; rintro e w2 ⟨rj0, rj1, rj2, rj3, rfl, H1, Prj, b9⟩; replace BX := thenB BX b9; replace Krs := Krs.below b9 Krs.lt; replace Prs := Prs.keep (keeps_below b9); clear b9) | (refine wpList_store_row rfl 107 (.tmp 5) _ rfl w2.heap.size #[rj0, rj1, rj2, rj3] rfl rfl 107 _ (Blk.fresh w2 107 #[.slice none 0 0, .nilFunc, .nilFunc, .nilFunc]) (by kernel_rfl) rfl H1 ?_))
  have b9 : Below w2.heap.size w2 ((w2.alloc (.cells #[.slice none 0 0, .nilFunc, .nilFunc, .nilFunc] 107)).setRow w2.heap.size #[rj0, rj1, rj2, rj3]) := below_setRow ((Below.refl _ _).alloc (Nat.le_refl _) _) (Nat.le_refl _) _
  have Krj : Blk ((w2.alloc (.cells #[.slice none 0 0, .nilFunc, .nilFunc, .nilFunc] 107)).setRow w2.heap.size #[rj0, rj1, rj2, rj3]) w2.heap.size 107 #[rj0, rj1, rj2, rj3] := Av.bset_row (Blk.fresh w2 107 #[.slice none 0 0, .nilFunc, .nilFunc, .nilFunc])
  replace Prj := Prj.keep (keeps_below b9)
  replace BX := thenB BX b9
  replace Krs := Krs.below b9 Krs.lt
  replace Prs := Prs.keep (keeps_below b9)
  generalize (w2.alloc (.cells #[.slice none 0 0, .nilFunc, .nilFunc, .nilFunc] 107)).setRow w2.heap.size #[rj0, rj1, rj2, rj3] = Y2 at *
  obtain ⟨grj, erj⟩ : ∃ g, w2.heap.size = g := ⟨_, rfl⟩
  rw [erj] at Krj
  try simp only [erj]
  clear H1 b9 Hrj erj
  go_upto_region 4 with (first | (go_at_call 62; refine (Hvs.out _).mono ?_; rintro e w3 ⟨vs0, vs1, vs2, vs3, rfl, H1, Pvs, b9⟩; replace BX := thenB BX b9; replace Krs := Krs.below b9 Krs.lt; replace Prs := Prs.keep (keeps_below b9); replace Krj := Krj.below b9 Krj.lt; replace Prj := Prj.keep (keeps_below b9); clear b9) | (refine wpList_store_row rfl 107 (.tmp 6) _ rfl w3.heap.size #[vs0, vs1, vs2, vs3] rfl rfl 107 _ (Blk.fresh w3 107 #[.slice none 0 0, .nilFunc, .nilFunc, .nilFunc]) (by kernel_rfl) rfl H1 ?_))
  have b9 : Below w3.heap.size w3 ((w3.alloc (.cells #[.slice none 0 0, .nilFunc, .nilFunc, .nilFunc] 107)).setRow w3.heap.size #[vs0, vs1, vs2, vs3]) := below_setRow ((Below.refl _ _).alloc (Nat.le_refl _) _) (Nat.le_refl _) _
  have Kvs : Blk ((w3.alloc (.cells #[.slice none 0 0, .nilFunc, .nilFunc, .nilFunc] 107)).setRow w3.heap.size #[vs0, vs1, vs2, vs3]) w3.heap.size 107 #[vs0, vs1, vs2, vs3] := Av.bset_row (Blk.fresh w3 107 #[.slice none 0 0, .nilFunc, .nilFunc, .nilFunc])
  replace Pvs := Pvs.keep (keeps_below b9)
  replace BX := thenB BX b9
  replace Krs := Krs.below b9 Krs.lt
  replace Prs := Prs.keep (keeps_below b9)
  replace Krj := Krj.below b9 Krj.lt
  replace Prj := Prj.keep (keeps_below b9)
  generalize (w3.alloc (.cells #[.slice none 0 0, .nilFunc, .nilFunc, .nilFunc] 107)).setRow w3.heap.size #[vs0, vs1, vs2, vs3] = Y3 at *
  obtain ⟨gvs, evs⟩ : ∃ g, w3.heap.size = g := ⟨_, rfl⟩
  rw [evs] at Kvs
  try simp only [evs]
  clear H1 b9 Hvs evs
  go_upto_region 5 with (first | (go_at_call 62; refine (Hln.out _).mono ?_; rintro e w4 ⟨ln0, ln1, ln2, ln3, rfl, H1, Pln, b9⟩; replace BX := thenB BX b9; replace Krs := Krs.below b9 Krs.lt; replace Prs := Prs.keep (keeps_below b9); replace Krj := Krj.below b9 Krj.lt; replace Prj := Prj.keep (keeps_below b9); replace Kvs := Kvs.below b9 Kvs.lt; replace Pvs := Pvs.keep (keeps_below b9); clear b9) | (refine wpList_store_row rfl 107 (.tmp 7) _ rfl w4.heap.size #[ln0, ln1, ln2, ln3] rfl rfl 107 _ (Blk.fresh w4 107 #[.slice none 0 0, .nilFunc, .nilFunc, .nilFunc]) (by kernel_rfl) rfl H1 ?_))
  have b9 : Below w4.heap.size w4 ((w4.alloc (.cells #[.slice none 0 0, .nilFunc, .nilFunc, .nilFunc] 107)).setRow w4.heap.size #[ln0, ln1, ln2, ln3]) := below_setRow ((Below.refl _ _).alloc (Nat.le_refl _) _) (Nat.le_refl _) _
  have Kln : Blk ((w4.alloc (.cells #[.slice none 0 0, .nilFunc, .nilFunc, .nilFunc] 107)).setRow w4.heap.size #[ln0, ln1, ln2, ln3]) w4.heap.size 107 #[ln0, ln1, ln2, ln3] := Av.bset_row (Blk.fresh w4 107 #[.slice none 0 0, .nilFunc, .nilFunc, .nilFunc])
  replace Pln := Pln.keep (keeps_below b9)
  replace BX := thenB BX b9
  replace Krs := Krs.below b9 Krs.lt
  replace Prs := Prs.keep (keeps_below b9)
  replace Krj := Krj.below b9 Krj.lt
  replace Prj := Prj.keep (keeps_below b9)
  replace Kvs := Kvs.below b9 Kvs.lt
  replace Pvs := Pvs.keep (keeps_below b9)
  generalize (w4.alloc (.cells #[.slice none 0 0, .nilFunc, .nilFunc, .nilFunc] 107)).setRow w4.heap.size #[ln0, ln1, ln2, ln3] = Y4 at *
  obtain ⟨gln, eln⟩ : ∃ g, w4.heap.size = g := ⟨_, rfl⟩
  rw [eln] at Kln
  try simp only [eln]
  clear H1 b9 Hln eln
  go_upto_region 6 with (first | (go_at_call 67; refine (Hsa.out _).mono ?_; rintro e w5 ⟨sa0, sa1, sa2, sa3, rfl, H1, Psa, b9⟩; replace BX := thenB BX b9; replace Krs := Krs.below b9 Krs.lt; replace Prs := Prs.keep (keeps_below b9); replace Krj := Krj.below b9 Krj.lt; replace Prj := Prj.keep (keeps_below b9); replace Kvs := Kvs.below b9 Kvs.lt; replace Pvs := Pvs.keep (keeps_below b9); replace Kln := Kln.below b9 Kln.lt; replace Pln := Pln.keep (keeps_below b9); clear b9) | (refine wpList_store_row rfl 107 (.tmp 8) _ rfl w5.heap.size #[sa0, sa1, sa2, sa3] rfl rfl 107 _ (Blk.fresh w5 107 #[.slice none 0 0, .nilFunc, .nilFunc, .nilFunc]) (by kernel_rfl) rfl H1 ?_))
  have b9 : Below w5.heap.size w5 ((w5.alloc (.cells #[.slice none 0 0, .nilFunc, .nilFunc, .nilFunc] 107)).setRow w5.heap.size #[sa0, sa1, sa2, sa3]) := below_setRow ((Below.refl _ _).alloc (Nat.le_refl _) _) (Nat.le_refl _) _
  have Ksa : Blk ((w5.alloc (.cells #[.slice none 0 0, .nilFunc, .nilFunc, .nilFunc] 107)).setRow w5.heap.size #[sa0, sa1, sa2, sa3]) w5.heap.size 107 #[sa0, sa1, sa2, sa3] := Av.bset_row (Blk.fresh w5 107 #[.slice none 0 0, .nilFunc, .nilFunc, .nilFunc])
  replace Psa := Psa.keep (keeps_below b9)
  replace BX := thenB BX b9
  replace Krs := Krs.below b9 Krs.lt
  replace Prs := Prs.keep (keeps_below b9)
  replace Krj := Krj.below b9 Krj.lt
  replace Prj := Prj.keep (keeps_below b9)
  replace Kvs := Kvs.below b9 Kvs.lt
  replace Pvs := Pvs.keep (keeps_below b9)
  replace Kln := Kln.below b9 Kln.lt
  replace Pln := Pln.keep (keeps_below b9)
  generalize (w5.alloc (.cells #[.slice none 0 0, .nilFunc, .nilFunc, .nilFunc] 107)).setRow w5.heap.size #[sa0, sa1, sa2, sa3] = Y5 at *
  obtain ⟨gsa, esa⟩ : ∃ g, w5.heap.size = g := ⟨_, rfl⟩
  rw [esa] at Ksa
  try simp only [esa]
  clear H1 b9 Hsa esa
  go_upto_region 7 with (first | (go_at_call 67; refine (Hmk.out _).mono ?_; rintro e w6 ⟨mk0, mk1, mk2, mk3, rfl, H1, Pmk, b9⟩; replace BX := thenB BX b9; replace Krs := Krs.below b9 Krs.lt; replace Prs := Prs.keep (keeps_below b9); replace Krj := Krj.below b9 Krj.lt; replace Prj := Prj.keep (keeps_below b9); replace Kvs := Kvs.below b9 Kvs.lt; replace Pvs := Pvs.keep (keeps_below b9); replace Kln := Kln.below b9 Kln.lt; replace Pln := Pln.keep (keeps_below b9); replace Ksa := Ksa.below b9 Ksa.lt; replace Psa := Psa.keep (keeps_below b9); clear b9) | (refine wpList_store_row rfl 107 (.tmp 9) _ rfl w6.heap.size #[mk0, mk1, mk2, mk3] rfl rfl 107 _ (Blk.fresh w6 107 #[.slice none 0 0, .nilFunc, .nilFunc, .nilFunc]) (by kernel_rfl) rfl H1 ?_))
  have b9 : Below w6.heap.size w6 ((w6.alloc (.cells #[.slice none 0 0, .nilFunc, .nilFunc, .nilFunc] 107)).setRow w6.heap.size #[mk0, mk1, mk2, mk3]) := below_setRow ((Below.refl _ _).alloc (Nat.le_refl _) _) (Nat.le_refl _) _
  have Kmk : Blk ((w6.alloc (.cells #[.slice none 0 0, .nilFunc, .nilFunc, .nilFunc] 107)).setRow w6.heap.size #[mk0, mk1, mk2, mk3]) w6.heap.size 107 #[mk0, mk1, mk2, mk3] := Av.bset_row (Blk.fresh w6 107 #[.slice none 0 0, .nilFunc, .nilFunc, .nilFunc])
  replace Pmk := Pmk.keep (keeps_below b9)
  replace BX := thenB BX b9
  replace Krs := Krs.below b9 Krs.lt
  replace Prs := Prs.keep (keeps_below b9)
  replace Krj := Krj.below b9 Krj.lt
  replace Prj := Prj.keep (keeps_below b9)
  replace Kvs := Kvs.below b9 Kvs.lt
  replace Pvs := Pvs.keep (keeps_below b9)
  replace Kln := Kln.below b9 Kln.lt
  replace Pln := Pln.keep (keeps_below b9)
  replace Ksa := Ksa.below b9 Ksa.lt
  replace Psa := Psa.keep (keeps_below b9)
  generalize (w6.alloc (.cells #[.slice none 0 0, .nilFunc, .nilFunc, .nilFunc] 107)).setRow w6.heap.size #[mk0, mk1, mk2, mk3] = Y6 at *
  obtain ⟨gmk, emk⟩ : ∃ g, w6.heap.size = g := ⟨_, rfl⟩
  rw [emk] at Kmk
  try simp only [emk]
  clear H1 b9 Hmk emk
  go_upto_region 8 with (first | (go_at_call 67; refine (Hfe.out _).mono ?_; rintro e w7 ⟨fe0, fe1, fe2, fe3, rfl, H1, Pfe, b9⟩; replace BX := thenB BX b9; replace Krs := Krs.below b9 Krs.lt; replace Prs := Prs.keep (keeps_below b9); replace Krj := Krj.below b9 Krj.lt; replace Prj := Prj.keep (keeps_below b9); replace Kvs := Kvs.below b9 Kvs.lt; replace Pvs := Pvs.keep (keeps_below b9); replace Kln := Kln.below b9 Kln.lt; replace Pln := Pln.keep (keeps_below b9); replace Ksa := Ksa.below b9 Ksa.lt; replace Psa := Psa.keep (keeps_below b9); replace Kmk := Kmk.below b9 Kmk.lt; replace Pmk := Pmk.keep (keeps_below b9); clear b9) | (refine wpList_store_row rfl 107 (.tmp 10) _ rfl w7.heap.size #[fe0, fe1, fe2, fe3] rfl rfl 107 _ (Blk.fresh w7 107 #[.slice none 0 0, .nilFunc, .nilFunc, .nilFunc]) (by kernel_rfl) rfl H1 ?_))
  have b9 : Below w7.heap.size w7 ((w7.alloc (.cells #[.slice none 0 0, .nilFunc, .nilFunc, .nilFunc] 107)).setRow w7.heap.size #[fe0, fe1, fe2, fe3]) := below_setRow ((Below.refl _ _).alloc (Nat.le_refl _) _) (Nat.le_refl _) _
  have Kfe : Blk ((w7.alloc (.cells #[.slice none 0 0, .nilFunc, .nilFunc, .nilFunc] 107)).setRow w7.heap.size #[fe0, fe1, fe2, fe3]) w7.heap.size 107 #[fe0, fe1, fe2, fe3] := Av.bset_row (Blk.fresh w7 107 #[.slice none 0 0, .nilFunc, .nilFunc, .nilFunc])
  replace Pfe := Pfe.keep (keeps_below b9)
  replace BX := thenB BX b9
  replace Krs := Krs.below b9 Krs.lt
  replace Prs := Prs.keep (keeps_below b9)
  replace Krj := Krj.below b9 Krj.lt
  replace Prj := Prj.keep (keeps_below b9)
  replace Kvs := Kvs.below b9 Kvs.lt
  replace Pvs := Pvs.keep (keeps_below b9)
  replace Kln := Kln.below b9 Kln.lt
  replace Pln := Pln.keep (keeps_below b9)
  replace Ksa := Ksa.below b9 Ksa.lt
  replace Psa := Psa.keep (keeps_below b9)
  replace Kmk := Kmk.below b9 Kmk.lt
  replace Pmk := Pmk.keep (keeps_below b9)
  generalize (w7.alloc (.cells #[.slice none 0 0, .nilFunc, .nilFunc, .nilFunc] 107)).setRow w7.heap.size #[fe0, fe1, fe2, fe3] = Y7 at *
  obtain ⟨gfe, efe⟩ : ∃ g, w7.heap.size = g := ⟨_, rfl⟩
  rw [efe] at Kfe
  try simp only [efe]
  clear H1 b9 Hfe efe
  refine region_tab (k := k) (dig_of rfl (by kernel_rfl) (by kernel_rfl) (by kernel_rfl)) ⟨rfl, ⟨_, _, _, _, _, rfl, Mem.Blk.drew Krs, Prs⟩, ⟨_, _, _, _, _, rfl, Mem.Blk.drew Krj, Prj⟩, ⟨_, _, _, _, _, rfl, Mem.Blk.drew Kvs, Pvs⟩, ⟨_, _, _, _, _, rfl, Mem.Blk.drew Kln, Pln⟩, ⟨_, _, _, _, _, rfl, Mem.Blk.drew Ksa, Psa⟩, ⟨_, _, _, _, _, rfl, Mem.Blk.drew Kmk, Pmk⟩, ⟨_, _, _, _, _, rfl, Mem.Blk.drew Kfe, Pfe⟩⟩ rfl rfl ?_
  intro T w9 r hT hres h11 h12 b9
  replace BX := thenB BX b9
  clear Krs Prs Krj Prj Kvs Pvs Kln Pln Ksa Psa Kmk Pmk Kfe Pfe b9
  have h12' : T[12]'(by omega) = .bool (ptsK k).isSome := by rw [← h12]; simp [Array.getD, hT]
  have e2 : ((((T.setIfInBounds 61 r).setIfInBounds 62 (.bool (ptsK k).isSome)).setIfInBounds 2 r).setIfInBounds 3 (.bool (ptsK k).isSome)).getD 2 undef = r := by rw [getD_set _ _ _ _ _ (by simp [hT]), if_neg (by decide), getD_set _ _ _ _ _ (by simp [hT]), if_pos rfl]
  have e3 : ((((T.setIfInBounds 61 r).setIfInBounds 62 (.bool (ptsK k).isSome)).setIfInBounds 2 r).setIfInBounds 3 (.bool (ptsK k).isSome)).getD 3 undef = .bool (ptsK k).isSome := by rw [getD_set _ _ _ _ _ (by simp [hT]), if_pos rfl]
  go_wp2_with fail
  refine bodyPost_ret (results_tmp2 rfl _ _ _) rfl ⟨r, ?_, hres, BX⟩
  first | (rw [e2, e3]) | (simp only [e2, e3])
end Go.Proofs.Ytpoagepchlfemaa.Cp
