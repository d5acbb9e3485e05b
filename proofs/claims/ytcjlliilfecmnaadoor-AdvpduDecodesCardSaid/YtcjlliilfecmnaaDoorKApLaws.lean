/- The statements on advertising PDUs, walked: kinds, bytes, lengths. -/
import Derived.Test.YtcjlliilfecmnaaDoorKM14
set_option linter.unusedVariables false
set_option linter.unusedSimpArgs false
namespace Go.Proofs.YtcjlliilfecmnaaDoor.Ap
open Go.RowKit Mem Oct
open Base (thenB)

set_option maxRecDepth 100000 in
set_option maxHeartbeats 4000000 in
theorem law_kinds (k : Int) (w : World) (hk : -9223372036854775808 ≤ k ∧ k ≤ 9223372036854775807) (hT : Adr.Tab w) :
    Calls Tryd.prog 6 #[.int .i64 k] w fun e w' => e = .returned (.bool true) ∧ Below w.heap.size w w' := by
  have HLi := Lib.hid lives_any
  have H1 := Lib.hid (scannable_any k)
  have H2 := Lib.hid (rscannable_any k)
  have H3 := Lib.hid (connectable_any k)
  have H4 := Lib.hid (rconnectable_any k)
  generalize (k == 0 || k == 6) = S at *
  generalize (k == 0 || k == 1) = C at *
  cases S <;> cases C
  all_goals
    go_enter Tryd.func6, Tryd.ntmps6
    go_wp2_with fail
    refine (HLi.out w hT).mono ?_
    rintro e w1 ⟨rfl, b1⟩
    go_wp2_with fail
    refine (H1.out w1).mono ?_
    rintro e w2 ⟨rfl, rfl⟩
    go_wp2_with fail
    refine (H2.out w1).mono ?_
    rintro e w2 ⟨rfl, rfl⟩
    go_wp2_with fail
    refine (H3.out w1).mono ?_
    rintro e w2 ⟨rfl, rfl⟩
    go_wp2_with fail
    refine (H4.out w1).mono ?_
    rintro e w2 ⟨rfl, rfl⟩
    go_wp2_with fail
    go_ret
    exact ⟨rfl, b1⟩
/-- A PDU as an argument. -/
structure Arg (w : World) (p : Pd) (A : Option Addr) (n c : Nat) : Prop where
  hn : p.ds.length = n
  hW : Wid p
  bd : Bytes p.ds
  hn2 : n ≤ 140737488351232
  hr : Ints .u8 w w.heap.size A p.ds
theorem Arg.later {w w' : World} {p : Pd} {A : Option Addr} {n c : Nat} (h : Arg w p A n c) (b : Below w.heap.size w w') : Arg w' p A n c := ⟨h.hn, h.hW, h.bd, h.hn2, Base.later h.hr b⟩
theorem Arg.own {w : World} {p : Pd} {A : Option Addr} {n c : Nat} (h : Arg w p A n c) : Calls Tryd.prog 11 #[.agg (cel p (.slice A n c))] w fun e w' => ∃ A1 c1, e = .returned (.agg (cel p (.slice A1 n c1))) ∧ Arg w' p A1 n c1 ∧ Below w.heap.size w w' :=
  (own_any p A n c w h.hn h.hn2 h.hr).mono fun e w' ho => by
    obtain ⟨A1, c1, he, hc, hi, hb⟩ := ho.len h.hn
    exact ⟨A1, c1, he, ⟨h.hn, h.hW, h.bd, h.hn2, hi⟩, hb⟩
theorem adr_bytes (k b : Int) : Bytes (Adr.encR k b).1 := by
  unfold Adr.encR
  split
  · rename_i h
    have hk := Adr.chk_ok h
    intro z hz
    rcases List.mem_cons.1 hz with rfl | hz
    · omega
    · exact numL_bytes _ _ z hz
  · intro z hz; cases hz
theorem cn_bytes (a b s o i l t : Int) (m : Nat) (h d g : Int) : Bytes (Cn.encR a b s o i l t m h d g).1 := by
  unfold Cn.encR
  split
  · exact Cn.put_bytes _
  · intro z hz; cases hz
theorem form_bytes {p : Pd} (hc : chkP p = 0) (bd : Bytes p.ds) : Bytes (formP p) := by
  have ok := ok_of hc
  have hk := kinds_of p ok.kind
  have hl := pay_ok_len ok
  intro z hz
  unfold formP at hz
  rcases List.mem_cons.1 hz with rfl | hz
  · exact ⟨hk.1, hk.2.1⟩
  · rcases List.mem_cons.1 hz with rfl | hz
    · omega
    · unfold payP at hz
      rcases List.mem_append.1 hz with hz | hz
      · exact adr_bytes _ _ z hz
      · rcases List.mem_append.1 hz with hz | hz
        · exact adr_bytes _ _ z hz
        · rcases List.mem_append.1 hz with hz | hz
          · exact bd z hz
          · exact cn_bytes _ _ _ _ _ _ _ _ _ _ _ z hz
theorem enc_bytes {p : Pd} (bd : Bytes p.ds) : Bytes (encP p).1 := by
  unfold encP
  split
  · rename_i hc; exact form_bytes hc bd
  · intro z hz; cases hz
/-- Bytes were given, in new memory, with an error. -/
def Enc (w w' : World) (e : Ending) (zs : List Int) (m : Nat) (x : Int) : Prop := ∃ A c, e = .returned (.tuple #[.slice A m c, .int .i64 x]) ∧ m ≤ c ∧ Ints .u8 w' w'.heap.size A zs ∧ Below w.heap.size w w'
theorem enc_of {w w' : World} {e : Ending} {zs : List Int} {m : Nat} {x : Int} (h : Gives w w' e (zs, x)) (hm : zs.length = m) : Enc w w' e zs m x := by
  obtain ⟨A, c, he, ho, hb⟩ := h
  subst hm
  exact ⟨A, c, he, own_cap ho, Ints.own ho, hb⟩
theorem Arg.enc {w : World} {p : Pd} {A : Option Addr} {n c : Nat} (h : Arg w p A n c) (hT : Adr.Tab w) {zs : List Int} {m : Nat} {x : Int} (hz : encP p = (zs, x)) (hm : zs.length = m) : Calls Tryd.prog 13 #[.agg (cel p (.slice A n c))] w fun e w' => Enc w w' e zs m x :=
  (encode_any p A n c w h.hn h.hW h.hr hT).mono fun e w' hg => enc_of (hz ▸ hg) hm
theorem Arg.renc {w : World} {p : Pd} {A : Option Addr} {n c : Nat} (h : Arg w p A n c) {zs : List Int} {m : Nat} {x : Int} (hz : encP p = (zs, x)) (hm : zs.length = m) : Calls Tryd.prog 14 #[.agg (cel p (.slice A n c))] w fun e w' => Enc w w' e zs m x :=
  (rencode_any p A n c w h.hn h.hW h.hr).mono fun e w' hg => enc_of (hz ▸ hg) hm
set_option maxRecDepth 100000 in
set_option maxHeartbeats 4000000 in
theorem law_encodes (p : Pd) (A : Option Addr) (n c : Nat) (w : World) (h : Arg w p A n c) (hT : Adr.Tab w) :
    Calls Tryd.prog 4 #[.agg (cel p (.slice A n c))] w fun e w' => e = .returned (.bool true) ∧ Below w.heap.size w w' := by
  obtain ⟨zs, x, hz⟩ : ∃ zs x, encP p = (zs, x) := ⟨_, _, rfl⟩
  obtain ⟨m, hm⟩ : ∃ m, zs.length = m := ⟨_, rfl⟩
  have bz : Bytes zs := by have := enc_bytes h.bd; rw [hz] at this; exact this
  have HLi := Lib.hid lives_any
  have HO : Hid (∀ w', Below w.heap.size w w' → Calls Tryd.prog 11 #[.agg (cel p (.slice A n c))] w' fun e w2 => ∃ A1 c1, e = .returned (.agg (cel p (.slice A1 n c1))) ∧ Arg w2 p A1 n c1 ∧ Below w'.heap.size w' w2) := Lib.hid fun w' b => (h.later b).own
  have HE : Hid (∀ A1 c1 w', Arg w' p A1 n c1 → Adr.Tab w' → Calls Tryd.prog 13 #[.agg (cel p (.slice A1 n c1))] w' fun e w2 => Enc w' w2 e zs m x) := Lib.hid fun A1 c1 w' h' hT' => h'.enc hT' hz hm
  have HR : Hid (∀ w', Below w.heap.size w w' → Calls Tryd.prog 14 #[.agg (cel p (.slice A n c))] w' fun e w2 => Enc w' w2 e zs m x) := Lib.hid fun w' b => (h.later b).renc hz hm
  have HS : Hid (∀ A A' c c' w', Ints .u8 w' w'.heap.size A zs → Ints .u8 w' w'.heap.size A' zs → Calls Tryd.prog 15 #[.slice A m c, .slice A' m c'] w' fun e w2 => e = .returned (.bool true) ∧ w' = w2) := Lib.hid fun A A' c c' w' h1 h2 => bytes_same_yes A A' m c c' zs w' hm bz h1 h2
  have K0 := Blk.fresh w 33 (cel p (.slice A n c))
  have B0 : Below w.heap.size w (w.alloc (.cells (cel p (.slice A n c)) 33)) := (Below.refl _ _).alloc (Nat.le_refl _) _
  have T0 := hT.below B0
  clear hT h hz hm bz
  go_enter Tryd.func4, Tryd.ntmps4
  go_upto_region 1 with (fail)
  generalize (w.alloc (.cells (cel p (.slice A n c)) 33)) = W0 at *
  go_wp2_with (refine wpList_load_row rfl 33 (.tmp 1) rfl w.heap.size rfl 33 _ (0, 0) _ K0 Tryd.underlying33 rfl (by kernel_rfl) ?_)
  refine (HO.out W0 B0).mono ?_
  rintro e w1 ⟨A1, c1, rfl, G1, b1⟩
  have B1 := thenB B0 b1
  have T1 := T0.below b1
  have K1 := K0.below b1 K0.lt
  clear b1 T0 K0 B0
  go_wp2_with fail
  refine (HE.out A1 c1 w1 G1 T1).mono ?_
  rintro e w2 ⟨A2, c2, rfl, hc2, I2, b2⟩
  have B2 := thenB B1 b2
  have T2 := T1.below b2
  have K2 := K1.below b2 K1.lt
  clear b2 T1 K1 B1 G1
  go_wp2_with (refine wpList_load_row rfl 33 (.tmp 1) rfl w.heap.size rfl 33 _ (0, 0) _ K2 Tryd.underlying33 rfl (by kernel_rfl) ?_)
  refine (HR.out w2 B2).mono ?_
  rintro e w3 ⟨A3, c3, rfl, hc3, I3, b3⟩
  have B3 := thenB B2 b3
  have T3 := T2.below b3
  replace I2 := Base.later I2 b3
  clear b3 T2 K2 B2
  go_wp2_with fail
  refine (HLi.out w3 T3).mono ?_
  rintro e w4 ⟨rfl, b4⟩
  have B4 := thenB B3 b4
  replace I2 := Base.later I2 b4
  replace I3 := Base.later I3 b4
  go_wp2_with fail
  refine (HS.out A2 A3 c2 c3 w4 I2 I3).mono ?_
  rintro e w5 ⟨rfl, rfl⟩
  go_wp2_with fail
  go_ret
  exact ⟨rfl, B4⟩
set_option maxRecDepth 100000 in
set_option maxHeartbeats 4000000 in
theorem law_lengths (p : Pd) (A : Option Addr) (n c : Nat) (w : World) (h : Arg w p A n c) (hT : Adr.Tab w) :
    Calls Tryd.prog 8 #[.agg (cel p (.slice A n c))] w fun e w' => e = .returned (.bool true) ∧ Below w.heap.size w w' := by
  obtain ⟨zs, x, hz⟩ : ∃ zs x, encP p = (zs, x) := ⟨_, _, rfl⟩
  obtain ⟨m, hm⟩ : ∃ m, zs.length = m := ⟨_, rfl⟩
  have HLi := Lib.hid lives_any
  have HO : Hid (∀ w', Below w.heap.size w w' → Calls Tryd.prog 11 #[.agg (cel p (.slice A n c))] w' fun e w2 => ∃ A1 c1, e = .returned (.agg (cel p (.slice A1 n c1))) ∧ Arg w2 p A1 n c1 ∧ Below w'.heap.size w' w2) := Lib.hid fun w' b => (h.later b).own
  have HE : Hid (∀ A1 c1 w', Arg w' p A1 n c1 → Adr.Tab w' → Calls Tryd.prog 13 #[.agg (cel p (.slice A1 n c1))] w' fun e w2 => Enc w' w2 e zs m x) := Lib.hid fun A1 c1 w' h' hT' => h'.enc hT' hz hm
  have K0 := Blk.fresh w 33 (cel p (.slice A n c))
  have B0 : Below w.heap.size w (w.alloc (.cells (cel p (.slice A n c)) 33)) := (Below.refl _ _).alloc (Nat.le_refl _) _
  have T0 := hT.below B0
  have hq : (x ≠ 0 ∧ m = 0) ∨ (x = 0 ∧ 9 ≤ m ∧ m ≤ 41 ∧ zs.getD 1 0 = (m : Int) - 2 ∧ 0 ≤ zs.getD 0 0 ∧ zs.getD 0 0 ≤ 255 ∧ zs.getD 0 0 % 16 = p.k) := by
    unfold encP at hz
    by_cases hc : chkP p = 0
    · rw [if_pos hc] at hz
      injection hz with hz1 hz2
      subst hz1
      have l := form_len hc
      have k := kinds_of p (ok_of hc).kind
      have gl : (formP p).length = (payP p).length + 2 := rfl
      exact .inr ⟨hz2.symm, by omega, by omega, by show ((payP p).length : Int) = (m : Int) - 2; omega, k.1, k.2.1, k.2.2.1⟩
    · rw [if_neg hc] at hz
      injection hz with hz1 hz2
      subst hz1 hz2
      exact .inl ⟨hc, hm.symm⟩
  clear hT h hz
  rcases hq with ⟨hx, hm0⟩ | ⟨rfl, h9, h41, hy, hx0, hx1, hk⟩
  · subst hm0
    have g1 : (x != 0) = true := by simpa using hx
    go_enter Tryd.func8, Tryd.ntmps8
    go_upto_region 1 with (fail)
    generalize (w.alloc (.cells (cel p (.slice A n c)) 33)) = W0 at *
    go_wp2_with fail
    refine (HLi.out W0 T0).mono ?_
    rintro e w0 ⟨rfl, b0⟩
    replace B0 := thenB B0 b0
    replace T0 := T0.below b0
    replace K0 := K0.below b0 K0.lt
    go_wp2_with (refine wpList_load_row rfl 33 (.tmp 1) rfl w.heap.size rfl 33 _ (0, 0) _ K0 Tryd.underlying33 rfl (by kernel_rfl) ?_)
    refine (HO.out w0 B0).mono ?_
    rintro e w1 ⟨A1, c1, rfl, G1, b1⟩
    have B1 := thenB B0 b1
    have T1 := T0.below b1
    go_wp2_with fail
    refine (HE.out A1 c1 w1 G1 T1).mono ?_
    rintro e w2 ⟨A2, c2, rfl, hc2, I2, b2⟩
    have B2 := thenB B1 b2
    go_wp2_with fail
    go_ret
    exact ⟨rfl, B2⟩
  · generalize hx9 : zs.getD 0 0 = y0 at *
    generalize hy9 : zs.getD 1 0 = y1 at *
    have e1 : y0.tmod 16 = p.k := by rw [Int.tmod_eq_emod_of_nonneg hx0]; exact hk
    have e2 : IntKind.i64.wrap p.k = p.k := by rw [IntWalk.i64_in _ (by omega)]
    have e3 : IntKind.i64.wrap y1 = (m : Int) - 2 := by rw [IntWalk.i64_in _ (by omega)]; exact hy
    have e4 : IntKind.i64.wrap ((m : Int) - 2) = (m : Int) - 2 := by rw [IntWalk.i64_in _ (by omega)]
    have e5 : IntKind.u8.wrap p.k = p.k := by rw [IntKind.wrap_u8]; omega
    have g9 : (9 : Int) ≤ (m : Int) := by omega
    have g41 : (m : Int) ≤ 41 := by omega
    have gm : (0 : Int) < (m : Int) ∧ (1 : Int) < (m : Int) ∧ 0 < m ∧ 1 < m := by omega
    obtain ⟨gm1, gm2, gm3, gm4⟩ := gm
    go_enter Tryd.func8, Tryd.ntmps8
    go_upto_region 1 with (fail)
    generalize (w.alloc (.cells (cel p (.slice A n c)) 33)) = W0 at *
    go_wp2_with fail
    refine (HLi.out W0 T0).mono ?_
    rintro e w0 ⟨rfl, b0⟩
    replace B0 := thenB B0 b0
    replace T0 := T0.below b0
    replace K0 := K0.below b0 K0.lt
    go_wp2_with (refine wpList_load_row rfl 33 (.tmp 1) rfl w.heap.size rfl 33 _ (0, 0) _ K0 Tryd.underlying33 rfl (by kernel_rfl) ?_)
    refine (HO.out w0 B0).mono ?_
    rintro e w1 ⟨A1, c1, rfl, G1, b1⟩
    have B1 := thenB B0 b1
    have T1 := T0.below b1
    replace K0 := K0.below b1 K0.lt
    go_wp2_with fail
    refine (HE.out A1 c1 w1 G1 T1).mono ?_
    rintro e w2 ⟨A2, c2, rfl, hc2, I2, b2⟩
    have B2 := thenB B1 b2
    replace K0 := K0.below b2 K0.lt
    have k0 := K0.cell 0
    obtain ⟨b, off, rfl, hbl, hcell⟩ := I2.at_ (i := 0) (by omega)
    have d0 := hcell 0 (by omega)
    have d1 := hcell 1 (by omega)
    rw [hx9] at d0
    rw [hy9] at d1
    rw [Nat.add_zero] at d0
    have B3 := B2.drew
    clear hcell I2 K0 G1 T1 B1 B0 b1 b2 T0 b0 HO HE HLi hx9 hy9
    go_upto_region 6 with (fail)
    go_quiet (fail)
    go_wp2_with fail
    go_ret
    exact ⟨rfl, B2.trans ⟨rfl, rfl, rfl, Nat.le_refl _, fun _ _ => rfl⟩⟩
set_option maxRecDepth 100000 in
set_option maxHeartbeats 4000000 in
theorem law_checks (p : Pd) (A : Option Addr) (n c : Nat) (w : World) (h : Arg w p A n c) (hT : Adr.Tab w) :
    Calls Tryd.prog 3 #[.agg (cel p (.slice A n c))] w fun e w' => e = .returned (.bool true) ∧ Below w.heap.size w w' := by
  have HLi := Lib.hid lives_any
  have HO : Hid (∀ w', Below w.heap.size w w' → Calls Tryd.prog 11 #[.agg (cel p (.slice A n c))] w' fun e w2 => ∃ A1 c1, e = .returned (.agg (cel p (.slice A1 n c1))) ∧ Arg w2 p A1 n c1 ∧ Below w'.heap.size w' w2) := Lib.hid fun w' b => (h.later b).own
  have HC : Hid (∀ A1 c1 w', Arg w' p A1 n c1 → Adr.Tab w' → Calls Tryd.prog 10 #[.agg (cel p (.slice A1 n c1))] w' fun e w2 => e = .returned (.int .i64 (chkP p)) ∧ Below w'.heap.size w' w2) := Lib.hid fun A1 c1 w' h' hT' => check_any p A1 n c1 w' h'.hn h'.hW hT'
  have HR : Hid (∀ w', Below w.heap.size w w' → Calls Tryd.prog 12 #[.agg (cel p (.slice A n c))] w' fun e w2 => e = .returned (.int .i64 (chkP p)) ∧ Below w'.heap.size w' w2) := Lib.hid fun w' b => rcheck_any p A n c w' h.hn h.hW
  generalize chkP p = x at *
  have TT := sev_new w p (.slice A n c)
  have BX : Below w.heap.size w (w.alloc (.cells (cel p (.slice A n c)) 33)) := (Below.refl _ _).alloc (Nat.le_refl _) _
  have TX := hT.below BX
  clear hT h
  go_enter Tryd.func3, Tryd.ntmps3
  go_upto_region 1 with (fail)
  generalize (w.alloc (.cells (cel p (.slice A n c)) 33)) = W0 at *
  go_wp2_with fail
  refine wp_region_held_drew (S := (fun w' => Sev w' w.heap.size p (.slice A n c))) (by kernel_rfl) ?_ (fun hHeld => ?_)
  · exact TT
  have BX : Below w.heap.size w W0.drew := BX.drew
  have TX : Adr.Tab W0.drew := TX
  have TT : Sev W0.drew w.heap.size p (.slice A n c) := TT
  generalize W0.drew = X0 at *
  refine wpAnyH_ready (rs := [0]) (by kernel_rfl) (by simp) ?_
  refine AllReadyH.cons rfl (fun K hK => ?_) (AllReadyH.nil)
  go_simp
  refine (HLi.out X0 TX).mono ?_
  rintro e X1 ⟨rfl, b9⟩
  have TT := sev_below TT b9
  have BX := thenB BX b9
  have TX := TX.below b9
  refine hK.out _ _ TT (fun hHeld => ?_)
  clear hK K
  try simp only [List.getElem_toArray, List.getElem_cons_zero, List.getElem_cons_succ, Act.put, List.setIfInBounds_toArray, List.set_cons_zero, List.set_cons_succ]
  refine wpAnyH_take (i := 1) (v := .bool true) rfl (by kernel_rfl) (by kernel_rfl) (by kernel_rfl) (fun _ _ _ h => h) (Or.inl ⟨by first | rfl | go_simp, by intro w9 hSw; (try dsimp only at hSw); go_simp⟩) (by assumption) ?_
  simp only [List.getElem_toArray, List.getElem_cons_zero, List.getElem_cons_succ, Act.put, List.setIfInBounds_toArray, List.set_cons_zero, List.set_cons_succ]
  refine wpAnyH_take (i := 2) (v := .agg #[.int .i64 p.k, .int .i64 p.sk, .int .u64 p.sb, .int .i64 p.tk, .int .u64 p.tb, .slice A n c, .int .u32 p.a, .int .u32 p.b, .int .i64 p.s, .int .i64 p.o, .int .i64 p.i, .int .i64 p.l, .int .i64 p.t, .int .u64 (p.m : Int), .int .i64 p.h, .int .i64 p.d, .int .i64 p.g]) rfl (by kernel_rfl) (by kernel_rfl) (by kernel_rfl) (fun _ _ _ h => h) (Or.inl ⟨by first | rfl | go_simp, by intro w9 hSw; (try dsimp only at hSw); go_simp⟩) (by assumption) ?_
  simp only [List.getElem_toArray, List.getElem_cons_zero, List.getElem_cons_succ, Act.put, List.setIfInBounds_toArray, List.set_cons_zero, List.set_cons_succ]
  refine wpAnyH_take (i := 5) (v := .agg #[.int .i64 p.k, .int .i64 p.sk, .int .u64 p.sb, .int .i64 p.tk, .int .u64 p.tb, .slice A n c, .int .u32 p.a, .int .u32 p.b, .int .i64 p.s, .int .i64 p.o, .int .i64 p.i, .int .i64 p.l, .int .i64 p.t, .int .u64 (p.m : Int), .int .i64 p.h, .int .i64 p.d, .int .i64 p.g]) rfl (by kernel_rfl) (by kernel_rfl) (by kernel_rfl) (fun _ _ _ h => h) (Or.inl ⟨by first | rfl | go_simp, by intro w9 hSw; (try dsimp only at hSw); go_simp⟩) (by assumption) ?_
  simp only [List.getElem_toArray, List.getElem_cons_zero, List.getElem_cons_succ, Act.put, List.setIfInBounds_toArray, List.set_cons_zero, List.set_cons_succ]
  refine wpAnyH_ready (rs := [3]) (by kernel_rfl) (by simp) ?_
  refine AllReadyH.cons rfl (fun K hK => ?_) (AllReadyH.nil)
  go_simp
  refine (HO.out X1 BX).mono ?_
  rintro e X2 ⟨A1, c1, rfl, G1, b9⟩
  have TT := sev_below TT b9
  have BX := thenB BX b9
  have TX := TX.below b9
  refine hK.out _ _ TT (fun hHeld => ?_)
  clear hK K
  try simp only [List.getElem_toArray, List.getElem_cons_zero, List.getElem_cons_succ, Act.put, List.setIfInBounds_toArray, List.set_cons_zero, List.set_cons_succ]
  refine wpAnyH_ready (rs := [4]) (by kernel_rfl) (by simp) ?_
  refine AllReadyH.cons rfl (fun K hK => ?_) (AllReadyH.nil)
  go_simp
  refine (HC.out A1 c1 X2 G1 TX).mono ?_
  rintro e X3 ⟨rfl, b9⟩
  have TT := sev_below TT b9
  have BX := thenB BX b9
  have TX := TX.below b9
  have G1 := G1.later b9
  refine hK.out _ _ TT (fun hHeld => ?_)
  clear hK K
  try simp only [List.getElem_toArray, List.getElem_cons_zero, List.getElem_cons_succ, Act.put, List.setIfInBounds_toArray, List.set_cons_zero, List.set_cons_succ]
  refine wpAnyH_ready (rs := [6]) (by kernel_rfl) (by simp) ?_
  refine AllReadyH.cons rfl (fun K hK => ?_) (AllReadyH.nil)
  go_simp
  refine (HR.out X3 BX).mono ?_
  rintro e X4 ⟨rfl, b9⟩
  have TT := sev_below TT b9
  have BX := thenB BX b9
  have TX := TX.below b9
  have G1 := G1.later b9
  refine hK.out _ _ TT (fun hHeld => ?_)
  clear hK K
  try simp only [List.getElem_toArray, List.getElem_cons_zero, List.getElem_cons_succ, Act.put, List.setIfInBounds_toArray, List.set_cons_zero, List.set_cons_succ]
  refine wpAnyH_take (i := 7) (v := .bool true) rfl (by kernel_rfl) (by kernel_rfl) (by kernel_rfl) (fun _ _ _ h => h) (Or.inl ⟨by first | rfl | go_simp, by intro w9 hSw; (try dsimp only at hSw); go_simp⟩) (by assumption) ?_
  simp only [List.getElem_toArray, List.getElem_cons_zero, List.getElem_cons_succ, Act.put, List.setIfInBounds_toArray, List.set_cons_zero, List.set_cons_succ]
  refine wpAnyH_take (i := 8) (v := .bool true) rfl (by kernel_rfl) (by kernel_rfl) (by kernel_rfl) (fun _ _ _ h => h) (Or.inl ⟨by first | rfl | go_simp, by intro w9 hSw; (try dsimp only at hSw); go_simp⟩) (by assumption) ?_
  simp only [List.getElem_toArray, List.getElem_cons_zero, List.getElem_cons_succ, Act.put, List.setIfInBounds_toArray, List.set_cons_zero, List.set_cons_succ]
  refine wpAnyH_take (i := 9) (v := .bool true) rfl (by kernel_rfl) (by kernel_rfl) (by kernel_rfl) (fun _ _ _ h => h) (Or.inl ⟨by first | rfl | go_simp, by intro w9 hSw; (try dsimp only at hSw); go_simp⟩) (by assumption) ?_
  simp only [List.getElem_toArray, List.getElem_cons_zero, List.getElem_cons_succ, Act.put, List.setIfInBounds_toArray, List.set_cons_zero, List.set_cons_succ]
  refine wpAnyH_done (by kernel_rfl) ?_ _
  go_wp2_with fail
  go_ret
  exact ⟨rfl, BX⟩
end Go.Proofs.YtcjlliilfecmnaaDoor.Ap
