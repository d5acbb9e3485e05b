/- Control PDUs: the statements without the reference hold: walks. -/
import Derived.Test.YtiopeghbpnjcgaaCpBack
import Derived.Test.YtiopeghbpnjcgaaCpEx
import Derived.Deep.CutRange
set_option linter.unusedVariables false
set_option linter.unusedSimpArgs false
namespace Go.Proofs.Ytiopeghbpnjcgaa.Cp
open Go.RowKit Mem Oct Rw Av
open Base (thenB)
theorem ctl_eql (a : Ct) (w : World) : (binOp .eql 28 (.agg (encC a)) (.agg (encC a))).run Try.prog w = .ok (.bool true) w := by
  unfold encC
  go_simp
theorem ctl_eg (a b : Ct) (w : World) (x y : Operand) : (eqGuard .eql 28 x y (.agg (encC a)) (.agg (encC b))).run Try.prog w = .ok () w := by
  unfold encC
  go_simp
theorem proc_proc (k : Int) : procZ (procZ k) = procZ k := by
  by_cases h8 : k = 8
  · subst h8; decide
  by_cases h9 : k = 9
  · subst h9; decide
  by_cases h3 : k = 3
  · subst h3; decide
  by_cases h4 : k = 4
  · subst h4; decide
  by_cases h5 : k = 5
  · subst h5; decide
  by_cases h6 : k = 6
  · subst h6; decide
  by_cases h18 : k = 18
  · subst h18; decide
  by_cases h19 : k = 19
  · subst h19; decide
  by_cases h20 : k = 20
  · subst h20; decide
  by_cases h21 : k = 21
  · subst h21; decide
  by_cases h0 : k = 0
  · subst h0; decide
  by_cases h1 : k = 1
  · subst h1; decide
  by_cases h2 : k = 2
  · subst h2; decide
  by_cases h12 : k = 12
  · subst h12; decide
  by_cases h15 : k = 15
  · subst h15; decide
  have h : procZ k = -1 := by unfold procZ; rw [if_neg h8, if_neg h9, if_neg h3, if_neg h4, if_neg h5, if_neg h6, if_neg h18, if_neg h19, if_neg h20, if_neg h21, if_neg h0, if_neg h1, if_neg h2, if_neg h12, if_neg h15]
  rw [h]; decide
set_option maxRecDepth 100000 in
set_option maxHeartbeats 4000000 in
theorem procs_any (k : Int) (w : World) : Calls Try.prog 6 #[.int .i64 k] w fun e w' => e = .returned (.bool true) ∧ Below w.heap.size w w' := by
  have HP := Lib.hid fun w => proc_any k w
  have HR := Lib.hid fun w => rproc_any k w
  have HQ : Hid (∀ w, Calls Try.prog 17 #[.int .i64 (procZ k)] w fun e w' => e = .returned (.int .i64 (procZ k)) ∧ w = w') := Lib.hid fun w => by have := proc_any (procZ k) w; rwa [proc_proc] at this
  have HX := Lib.hid example_any
  obtain ⟨K, hK⟩ : ∃ K, procZ k = K := ⟨_, rfl⟩
  rw [hK] at HP HR HQ
  have e1 : (K == K) = true := by simp
  clear hK
  go_enter Try.func6, Try.ntmps6
  go_upto_region 2 with (go_at_call 17; refine (HP.out _).mono ?_; rintro e w1 ⟨rfl, rfl⟩)
  clear HP
  go_wp2_with (first | (go_at_call 17; refine (HQ.out _).mono ?_; rintro e w1 ⟨rfl, rfl⟩) | (go_at_call 18; refine (HR.out _).mono ?_; rintro e w1 ⟨rfl, rfl⟩) | (go_at_call 11; refine (HX.out _).mono ?_; rintro e w1 ⟨rfl, b1⟩))
  go_ret
  exact ⟨rfl, b1⟩
set_option maxRecDepth 100000 in
set_option maxHeartbeats 4000000 in
theorem unique_any (A : Option Addr) (c : Nat) (n : Nat) (xs : List Int) (w : World) (hx : xs.length = n) (hnc : n ≤ c) (hr : Ints .u8 w w.heap.size A xs) (bx : Bytes xs) (hcs : c * 1 ≤ 140737488351232) :
    Calls Try.prog 8 #[.slice A n c] w fun e w' => e = .returned (.bool true) ∧ Below w.heap.size w w' := by
  have HX := Lib.hid example_any
  by_cases hl : (1000 : Int) < (n : Int)
  · clear hr hx bx hnc hcs
    go_enter Try.func8, Try.ntmps8
    go_wp2_with (go_at_call 11; refine (HX.out _).mono ?_; rintro e w9 ⟨rfl, b9⟩)
    go_ret
    exact ⟨rfl, b9⟩
  · have hn1 : n ≤ 1000 := by omega
    have HD := Lib.hid (decode_any A n c xs w hx (by omega) hnc bx hr)
    have HI := Lib.hid hr
    have HXs := Lib.hid hx
    have HBx := Lib.hid bx
    obtain ⟨⟨d, x⟩, hd⟩ : ∃ r, decR xs = r := ⟨_, rfl⟩
    rw [hd] at HD
    have HSZ : (Try.prog.info? 28).map (·.size) = some (encC d).size := by kernel_rfl
    have hs2 : (#[.int .i64 0, .int .i64 0, .int .i64 0, .int .i64 0, .int .i64 0, .int .i64 0, .int .u64 0, .int .u16 0, .int .i64 0, .int .i64 0, .int .u64 0, .int .u64 0, .int .u64 0, .int .i64 0, .int .i64 0] : Array Value).size = (encC d).size := rfl
    have H1 := encC_one d
    have HDd := Lib.hid hd
    clear hr hx bx hnc hcs hd
    by_cases h0 : x = 0
    · subst h0
      obtain ⟨hG, hE⟩ := enc_dec HBx.out HDd.out
      have HE : Hid (∀ w, Calls Try.prog 12 #[.agg (encC d)] w fun e w' => Gives w w' e (xs, 0)) := Lib.hid fun w => by have := encode_any d w hG; rwa [hE] at this
      obtain ⟨C, hC⟩ : ∃ C, encC d = C := ⟨_, rfl⟩
      have HD2 : Hid (Calls Try.prog 15 #[.slice A n c] w fun e w' => e = .returned (.tuple #[.agg C, .int .i64 0]) ∧ Below w.heap.size w w') := Lib.hid (by rw [← hC]; exact HD.out)
      rw [hC] at HSZ hs2 H1 HE
      clear hC hG hE HD
      go_enter Try.func8, Try.ntmps8
      go_upto_region 4 with (first | (go_at_call 15; refine HD2.out.mono ?_; rintro e w1 ⟨rfl, b1⟩) | (refine wpList_store_row rfl 28 (.tmp 3) _ rfl w1.heap.size C rfl rfl 28 _ (Blk.fresh w1 28 #[.int .i64 0, .int .i64 0, .int .i64 0, .int .i64 0, .int .i64 0, .int .i64 0, .int .u64 0, .int .u16 0, .int .i64 0, .int .i64 0, .int .u64 0, .int .u64 0, .int .u64 0, .int .i64 0, .int .i64 0]) HSZ hs2 H1 ?_))
      have b9 : Below w1.heap.size w1 ((w1.alloc (.cells #[.int .i64 0, .int .i64 0, .int .i64 0, .int .i64 0, .int .i64 0, .int .i64 0, .int .u64 0, .int .u16 0, .int .i64 0, .int .i64 0, .int .u64 0, .int .u64 0, .int .u64 0, .int .i64 0, .int .i64 0] 28)).setRow w1.heap.size C) := below_setRow ((Below.refl _ _).alloc (Nat.le_refl _) _) (Nat.le_refl _) _
      have K3 : Blk ((w1.alloc (.cells #[.int .i64 0, .int .i64 0, .int .i64 0, .int .i64 0, .int .i64 0, .int .i64 0, .int .u64 0, .int .u16 0, .int .i64 0, .int .i64 0, .int .u64 0, .int .u64 0, .int .u64 0, .int .i64 0, .int .i64 0] 28)).setRow w1.heap.size C) w1.heap.size 28 C := Av.bset_row (Blk.fresh w1 28 #[.int .i64 0, .int .i64 0, .int .i64 0, .int .i64 0, .int .i64 0, .int .i64 0, .int .u64 0, .int .u16 0, .int .i64 0, .int .i64 0, .int .u64 0, .int .u64 0, .int .u64 0, .int .i64 0, .int .i64 0])
      have BX := thenB b1 b9
      clear b1 b9
      generalize (w1.alloc (.cells #[.int .i64 0, .int .i64 0, .int .i64 0, .int .i64 0, .int .i64 0, .int .i64 0, .int .u64 0, .int .u16 0, .int .i64 0, .int .i64 0, .int .u64 0, .int .u64 0, .int .u64 0, .int .i64 0, .int .i64 0] 28)).setRow w1.heap.size C = W1 at *
      go_upto_region 7 with (first | (refine wpList_load_row rfl 28 (.tmp 3) rfl (w1.heap.size) rfl 28 _ (0, 0) _ K3 Try.underlying28 rfl HSZ ?_) | (go_at_call 12; refine (HE.out _).mono ?_; intro e w2 m2; obtain ⟨A2, c2, rfl, own2, b2⟩ := gives_len m2 HXs.out))
      replace BX := thenB BX b2
      have I2 : Ints .u8 w2 w2.heap.size A2 xs := Ints.own own2
      have I0 := Base.later HI.out BX
      go_wp2_with (first | (go_at_call 14; refine (same23_to (b := true) (xs := xs) (ys := xs) (by simp) HXs.out HXs.out HBx.out HBx.out I0 I2).mono ?_; rintro e X' ⟨rfl, rfl⟩) | (go_at_call 11; refine (HX.out _).mono ?_; rintro e w9 ⟨rfl, b9⟩))
      go_ret
      exact ⟨rfl, thenB BX b9⟩
    · obtain rfl : d = zeroC := dec_zero HDd.out h0
      have hz' : (x != 0) = true := by simpa using h0
      have q1 := ctl_eql zeroC
      have q2 := ctl_eg zeroC zeroC
      have q1' : ∀ w, (binOp .eql 28 (.agg (encC zeroC)) (.agg #[.int .i64 0, .int .i64 0, .int .i64 0, .int .i64 0, .int .i64 0, .int .i64 0, .int .u64 0, .int .u16 0, .int .i64 0, .int .i64 0, .int .u64 0, .int .u64 0, .int .u64 0, .int .i64 0, .int .i64 0])).run Try.prog w = .ok (.bool true) w := q1
      have q2' : ∀ w x y, (eqGuard .eql 28 x y (.agg (encC zeroC)) (.agg #[.int .i64 0, .int .i64 0, .int .i64 0, .int .i64 0, .int .i64 0, .int .i64 0, .int .u64 0, .int .u16 0, .int .i64 0, .int .i64 0, .int .u64 0, .int .u64 0, .int .u64 0, .int .i64 0, .int .i64 0])).run Try.prog w = .ok () w := q2
      clear q1 q2
      obtain ⟨C, hC⟩ : ∃ C, encC zeroC = C := ⟨_, rfl⟩
      have HD2 : Hid (Calls Try.prog 15 #[.slice A n c] w fun e w' => e = .returned (.tuple #[.agg C, .int .i64 x]) ∧ Below w.heap.size w w') := Lib.hid (by rw [← hC]; exact HD.out)
      rw [hC] at HSZ hs2 H1 q1' q2'
      clear hC HD h0
      go_enter Try.func8, Try.ntmps8
      go_upto_region 4 with (first | (go_at_call 15; refine HD2.out.mono ?_; rintro e w1 ⟨rfl, b1⟩) | (refine wpList_store_row rfl 28 (.tmp 3) _ rfl w1.heap.size C rfl rfl 28 _ (Blk.fresh w1 28 #[.int .i64 0, .int .i64 0, .int .i64 0, .int .i64 0, .int .i64 0, .int .i64 0, .int .u64 0, .int .u16 0, .int .i64 0, .int .i64 0, .int .u64 0, .int .u64 0, .int .u64 0, .int .i64 0, .int .i64 0]) HSZ hs2 H1 ?_))
      have b9 : Below w1.heap.size w1 ((w1.alloc (.cells #[.int .i64 0, .int .i64 0, .int .i64 0, .int .i64 0, .int .i64 0, .int .i64 0, .int .u64 0, .int .u16 0, .int .i64 0, .int .i64 0, .int .u64 0, .int .u64 0, .int .u64 0, .int .i64 0, .int .i64 0] 28)).setRow w1.heap.size C) := below_setRow ((Below.refl _ _).alloc (Nat.le_refl _) _) (Nat.le_refl _) _
      have K3 : Blk ((w1.alloc (.cells #[.int .i64 0, .int .i64 0, .int .i64 0, .int .i64 0, .int .i64 0, .int .i64 0, .int .u64 0, .int .u16 0, .int .i64 0, .int .i64 0, .int .u64 0, .int .u64 0, .int .u64 0, .int .i64 0, .int .i64 0] 28)).setRow w1.heap.size C) w1.heap.size 28 C := Av.bset_row (Blk.fresh w1 28 #[.int .i64 0, .int .i64 0, .int .i64 0, .int .i64 0, .int .i64 0, .int .i64 0, .int .u64 0, .int .u16 0, .int .i64 0, .int .i64 0, .int .u64 0, .int .u64 0, .int .u64 0, .int .i64 0, .int .i64 0])
      have BX := thenB b1 b9
      clear b1 b9
      generalize (w1.alloc (.cells #[.int .i64 0, .int .i64 0, .int .i64 0, .int .i64 0, .int .i64 0, .int .i64 0, .int .u64 0, .int .u16 0, .int .i64 0, .int .i64 0, .int .u64 0, .int .u64 0, .int .u64 0, .int .i64 0, .int .i64 0] 28)).setRow w1.heap.size C = W1 at *
      go_wp2_with (first | (refine wpList_load_row rfl 28 (.tmp 3) rfl (w1.heap.size) rfl 28 _ (0, 0) _ K3 Try.underlying28 rfl HSZ ?_) | (go_at_call 11; refine (HX.out _).mono ?_; rintro e w9 ⟨rfl, b9⟩))
      go_ret
      exact ⟨rfl, thenB BX b9⟩
set_option maxRecDepth 100000 in
set_option maxHeartbeats 4000000 in
theorem back_any (c : Ct) (w : World) (hg : GoodC c) : Calls Try.prog 7 #[.agg (encC c)] w fun e w' => e = .returned (.bool true) ∧ Below w.heap.size w w' := by
  have HX := Lib.hid example_any
  have BX : Below w.heap.size w (w.alloc (.cells (encC c) 28)) := (Below.refl _ _).alloc (Nat.le_refl _) _
  have K1 : Blk (w.alloc (.cells (encC c) 28)) w.heap.size 28 (encC c) := Blk.fresh w 28 (encC c)
  have HSZ : (Try.prog.info? 28).map (·.size) = some (encC c).size := by kernel_rfl
  have hs2 : (#[.int .i64 0, .int .i64 0, .int .i64 0, .int .i64 0, .int .i64 0, .int .i64 0, .int .u64 0, .int .u16 0, .int .i64 0, .int .i64 0, .int .u64 0, .int .u64 0, .int .u64 0, .int .i64 0, .int .i64 0] : Array Value).size = (encC c).size := rfl
  have H1 := encC_one c
  have HCk := Lib.hid fun w => check_any c w hg
  by_cases h0 : chkC c = 0
  · obtain ⟨r, hE, hDr, hl, bk⟩ := dec_enc hg h0
    have HE : Hid (∀ w, Calls Try.prog 12 #[.agg (encC c)] w fun e w' => Gives w w' e (c.k :: r, 0)) := Lib.hid fun w => by have := encode_any c w hg; rwa [hE] at this
    have HD : Hid (∀ (A : Option Addr) (n c1 : Nat) (W : World), (c.k :: r).length = n → n ≤ c1 → Ints .u8 W W.heap.size A (c.k :: r) → Calls Try.prog 15 #[.slice A n c1] W fun e w' => e = .returned (.tuple #[.agg (encC c), .int .i64 0]) ∧ Below W.heap.size W w') := Lib.hid fun A n c1 W hn hc hi => by have := decode_any A n c1 (c.k :: r) W hn (by rw [← hn]; simp; omega) hc bk hi; rwa [hDr] at this
    rw [h0] at HCk
    have hk := bk c.k (by simp)
    obtain ⟨n, hn⟩ : ∃ n, (c.k :: r).length = n := ⟨_, rfl⟩
    have hn17 : (1 : Int) ≤ (n : Int) ∧ (n : Int) ≤ 17 := by simp at hn; omega
    have hn0 : ¬ (n = 0) := by omega
    have HN := Lib.hid hn
    have HC : Hid (encC c = #[.int .i64 c.k, .int .i64 c.ws, .int .i64 c.wo, .int .i64 c.it, .int .i64 c.la, .int .i64 c.ti, .int .u64 (c.m : Int), .int .u16 c.ins, .int .i64 c.rs, .int .i64 c.rj, .int .u64 c.st, .int .u64 c.mr, .int .u64 c.ft, .int .i64 c.vs, .int .i64 c.ln]) := Lib.hid rfl
    obtain ⟨C, hC⟩ : ∃ C, encC c = C := ⟨_, rfl⟩
    have HCC := Lib.hid hC
    rw [hC] at BX K1 HSZ hs2 H1 HCk HE HD HC ⊢
    clear hg h0 hE hDr hl bk hn hC
    go_enter Try.func7, Try.ntmps7
    go_upto_region 3 with (first | (refine wpList_load_row rfl 28 (.tmp 1) rfl (w.heap.size) rfl 28 _ (0, 0) _ K1 Try.underlying28 rfl HSZ ?_) | (go_at_call 9; refine (HCk.out _).mono ?_; rintro e w1 ⟨rfl, b1⟩; replace K1 := K1.below b1 K1.lt; replace BX := thenB BX b1; clear b1))
    go_upto_region 4 with (first | (refine wpList_load_row rfl 28 (.tmp 1) rfl (w.heap.size) rfl 28 _ (0, 0) _ K1 Try.underlying28 rfl HSZ ?_) | (go_at_call 12; refine (HE.out _).mono ?_; intro e w2 m2; obtain ⟨A1, c1, rfl, own1, b2⟩ := gives_len m2 HN.out; replace K1 := K1.below b2 K1.lt; replace BX := thenB BX b2; clear b2))
    have I1 : Ints .u8 w2 w2.heap.size A1 (c.k :: r) := Ints.own own1
    have hnc := own_cap own1
    clear m2 own1
    obtain ⟨b1, o1, rfl, hb1, TT⟩ : ∃ b1 o1, A1 = some ⟨b1, o1, none⟩ ∧ b1 < w2.heap.size ∧ w2.cell? ⟨b1, o1, none⟩ = some (.int .u8 c.k) := by
      rcases I1 with h | ⟨b, off, e, hb, hc⟩
      · cases h
      · exact ⟨b, off, e, hb, by have := hc 0 (by simp); simpa using this⟩
    go_upto_region 5 with (first | (go_at_call 15; refine (HD.out _ _ _ _ HN.out hnc I1).mono ?_; rintro e w3 ⟨rfl, b3⟩; replace K1 := K1.below b3 K1.lt; replace BX := thenB BX b3; replace TT := (b3.cell (p := ⟨b1, o1, none⟩) hb1).trans TT; clear b3) | (refine wpList_store_row rfl 28 (.tmp 5) _ rfl w3.heap.size C rfl rfl 28 _ (Blk.fresh w3 28 #[.int .i64 0, .int .i64 0, .int .i64 0, .int .i64 0, .int .i64 0, .int .i64 0, .int .u64 0, .int .u16 0, .int .i64 0, .int .i64 0, .int .u64 0, .int .u64 0, .int .u64 0, .int .i64 0, .int .i64 0]) HSZ hs2 H1 ?_))
    have b9 : Below w3.heap.size w3 ((w3.alloc (.cells #[.int .i64 0, .int .i64 0, .int .i64 0, .int .i64 0, .int .i64 0, .int .i64 0, .int .u64 0, .int .u16 0, .int .i64 0, .int .i64 0, .int .u64 0, .int .u64 0, .int .u64 0, .int .i64 0, .int .i64 0] 28)).setRow w3.heap.size C) := below_setRow ((Below.refl _ _).alloc (Nat.le_refl _) _) (Nat.le_refl _) _
    have K5 : Blk ((w3.alloc (.cells #[.int .i64 0, .int .i64 0, .int .i64 0, .int .i64 0, .int .i64 0, .int .i64 0, .int .u64 0, .int .u16 0, .int .i64 0, .int .i64 0, .int .u64 0, .int .u64 0, .int .u64 0, .int .i64 0, .int .i64 0] 28)).setRow w3.heap.size C) w3.heap.size 28 C := Av.bset_row (Blk.fresh w3 28 #[.int .i64 0, .int .i64 0, .int .i64 0, .int .i64 0, .int .i64 0, .int .i64 0, .int .u64 0, .int .u16 0, .int .i64 0, .int .i64 0, .int .u64 0, .int .u64 0, .int .u64 0, .int .i64 0, .int .i64 0])
    replace TT := (b9.cell (p := ⟨b1, o1, none⟩) (World.block_lt_of_cell? _ _ TT)).trans TT
    replace K1 := K1.below b9 K1.lt
    replace BX := thenB BX b9
    clear b9 HE HD HCk I1
    generalize (w3.alloc (.cells #[.int .i64 0, .int .i64 0, .int .i64 0, .int .i64 0, .int .i64 0, .int .i64 0, .int .u64 0, .int .u16 0, .int .i64 0, .int .i64 0, .int .u64 0, .int .u64 0, .int .u64 0, .int .i64 0, .int .i64 0] 28)).setRow w3.heap.size C = W4 at *
    obtain ⟨g5, e5⟩ : ∃ g, w3.heap.size = g := ⟨_, rfl⟩
    rw [e5] at K5
    try simp only [e5]
    clear e5
    have q1 := ctl_eql c
    have q2 := ctl_eg c c
    have eC := HC.out
    rw [HCC.out, eC] at q1 q2
    rw [eC] at K1 K5
    have e1 : (c.k == c.k) = true := by simp
    have ek : IntKind.i64.wrap c.k = c.k := by simp only [IntKind.wrap, IntKind.signed, IntKind.bits]; simp; omega
    clear H1 HSZ hs2
    have K1' : Blk W4.drew (w.heap.size) 28 #[.int .i64 c.k, .int .i64 c.ws, .int .i64 c.wo, .int .i64 c.it, .int .i64 c.la, .int .i64 c.ti, .int .u64 (c.m : Int), .int .u16 c.ins, .int .i64 c.rs, .int .i64 c.rj, .int .u64 c.st, .int .u64 c.mr, .int .u64 c.ft, .int .i64 c.vs, .int .i64 c.ln] := Mem.Blk.drew K1
    have K5' : Blk W4.drew (g5) 28 #[.int .i64 c.k, .int .i64 c.ws, .int .i64 c.wo, .int .i64 c.it, .int .i64 c.la, .int .i64 c.ti, .int .u64 (c.m : Int), .int .u16 c.ins, .int .i64 c.rs, .int .i64 c.rj, .int .u64 c.st, .int .u64 c.mr, .int .u64 c.ft, .int .i64 c.vs, .int .i64 c.ln] := Mem.Blk.drew K5
    refine wp_region_held_drew (S := (fun w' => Blk w' (g5) 28 #[.int .i64 c.k, .int .i64 c.ws, .int .i64 c.wo, .int .i64 c.it, .int .i64 c.la, .int .i64 c.ti, .int .u64 (c.m : Int), .int .u16 c.ins, .int .i64 c.rs, .int .i64 c.rj, .int .u64 c.st, .int .u64 c.mr, .int .u64 c.ft, .int .i64 c.vs, .int .i64 c.ln] ∧ Blk w' (w.heap.size) 28 #[.int .i64 c.k, .int .i64 c.ws, .int .i64 c.wo, .int .i64 c.it, .int .i64 c.la, .int .i64 c.ti, .int .u64 (c.m : Int), .int .u16 c.ins, .int .i64 c.rs, .int .i64 c.rj, .int .u64 c.st, .int .u64 c.mr, .int .u64 c.ft, .int .i64 c.vs, .int .i64 c.ln] ∧ w'.cell? ⟨b1, o1, none⟩ = some (.int .u8 c.k))) (by kernel_rfl) ?_ (fun hHeld => ?_)
    · exact ⟨K5', K1', TT⟩
    replace K1 := K1'
    clear K1'
    replace K5 := K5'
    clear K5'
    replace BX : Below w.heap.size w W4.drew := BX.drew
    replace TT := TT
    replace TT : W4.drew.cell? ⟨b1, o1, none⟩ = some (.int .u8 c.k) := TT
    generalize W4.drew = X0 at *
    refine wpAnyH_take (i := 0) (v := .int .i64 0) rfl (by kernel_rfl) (by kernel_rfl) (by kernel_rfl) (fun _ _ _ h => h) (Or.inl ⟨by first | rfl | go_simp, by intro w9 hSw; (try dsimp only at hSw); go_simp⟩) (by assumption) ?_
    simp only [List.getElem_toArray, List.getElem_cons_zero, List.getElem_cons_succ, Act.put, List.setIfInBounds_toArray, List.set_cons_zero, List.set_cons_succ]
    refine wpAnyH_take (i := 1) (v := .bool true) rfl (by kernel_rfl) (by kernel_rfl) (by kernel_rfl) (fun _ _ _ h => h) (Or.inl ⟨by first | rfl | go_simp, by intro w9 hSw; (try dsimp only at hSw); go_simp⟩) (by assumption) ?_
    simp only [List.getElem_toArray, List.getElem_cons_zero, List.getElem_cons_succ, Act.put, List.setIfInBounds_toArray, List.set_cons_zero, List.set_cons_succ]
    refine wpAnyH_take (i := 2) (v := .bool true) rfl (by kernel_rfl) (by kernel_rfl) (by kernel_rfl) (fun _ _ _ h => h) (Or.inl ⟨by first | rfl | go_simp, by intro w9 hSw; (try dsimp only at hSw); go_simp⟩) (by assumption) ?_
    simp only [List.getElem_toArray, List.getElem_cons_zero, List.getElem_cons_succ, Act.put, List.setIfInBounds_toArray, List.set_cons_zero, List.set_cons_succ]
    refine wpAnyH_take (i := 3) (v := .int .i64 0) rfl (by kernel_rfl) (by kernel_rfl) (by kernel_rfl) (fun _ _ _ h => h) (Or.inl ⟨by first | rfl | go_simp, by intro w9 hSw; (try dsimp only at hSw); go_simp⟩) (by assumption) ?_
    simp only [List.getElem_toArray, List.getElem_cons_zero, List.getElem_cons_succ, Act.put, List.setIfInBounds_toArray, List.set_cons_zero, List.set_cons_succ]
    refine wpAnyH_take (i := 4) (v := .bool true) rfl (by kernel_rfl) (by kernel_rfl) (by kernel_rfl) (fun _ _ _ h => h) (Or.inl ⟨by first | rfl | go_simp, by intro w9 hSw; (try dsimp only at hSw); go_simp⟩) (by assumption) ?_
    simp only [List.getElem_toArray, List.getElem_cons_zero, List.getElem_cons_succ, Act.put, List.setIfInBounds_toArray, List.set_cons_zero, List.set_cons_succ]
    refine wpAnyH_take (i := 5) (v := .bool true) rfl (by kernel_rfl) (by kernel_rfl) (by kernel_rfl) (fun _ _ _ h => h) (Or.inl ⟨by first | rfl | go_simp, by intro w9 hSw; (try dsimp only at hSw); go_simp⟩) (by assumption) ?_
    simp only [List.getElem_toArray, List.getElem_cons_zero, List.getElem_cons_succ, Act.put, List.setIfInBounds_toArray, List.set_cons_zero, List.set_cons_succ]
    refine wpAnyH_take (i := 6) (v := .bool true) rfl (by kernel_rfl) (by kernel_rfl) (by kernel_rfl) (fun _ _ _ h => h) (Or.inl ⟨by first | rfl | go_simp, by intro w9 hSw; (try dsimp only at hSw); go_simp⟩) (by assumption) ?_
    simp only [List.getElem_toArray, List.getElem_cons_zero, List.getElem_cons_succ, Act.put, List.setIfInBounds_toArray, List.set_cons_zero, List.set_cons_succ]
    refine wpAnyH_take (i := 7) (v := .agg #[.int .i64 c.k, .int .i64 c.ws, .int .i64 c.wo, .int .i64 c.it, .int .i64 c.la, .int .i64 c.ti, .int .u64 (c.m : Int), .int .u16 c.ins, .int .i64 c.rs, .int .i64 c.rj, .int .u64 c.st, .int .u64 c.mr, .int .u64 c.ft, .int .i64 c.vs, .int .i64 c.ln]) rfl (by kernel_rfl) (by kernel_rfl) (by kernel_rfl) (fun _ _ _ h => h) (Av.yields_part (by first | rfl | go_simp) _ _ rfl (w.heap.size) 0 rfl #[.int .i64 c.k, .int .i64 c.ws, .int .i64 c.wo, .int .i64 c.it, .int .i64 c.la, .int .i64 c.ti, .int .u64 (c.m : Int), .int .u16 c.ins, .int .i64 c.rs, .int .i64 c.rj, .int .u64 c.st, .int .u64 c.mr, .int .u64 c.ft, .int .i64 c.vs, .int .i64 c.ln] _ 28 #[.int .i64 c.k, .int .i64 c.ws, .int .i64 c.wo, .int .i64 c.it, .int .i64 c.la, .int .i64 c.ti, .int .u64 (c.m : Int), .int .u16 c.ins, .int .i64 c.rs, .int .i64 c.rj, .int .u64 c.st, .int .u64 c.mr, .int .u64 c.ft, .int .i64 c.vs, .int .i64 c.ln] (fun w9 hSw => hSw.2.1) rfl Try.underlying28 rfl (by kernel_rfl)) (by assumption) ?_
    simp only [List.getElem_toArray, List.getElem_cons_zero, List.getElem_cons_succ, Act.put, List.setIfInBounds_toArray, List.set_cons_zero, List.set_cons_succ]
    refine wpAnyH_take (i := 8) (v := .agg #[.int .i64 c.k, .int .i64 c.ws, .int .i64 c.wo, .int .i64 c.it, .int .i64 c.la, .int .i64 c.ti, .int .u64 (c.m : Int), .int .u16 c.ins, .int .i64 c.rs, .int .i64 c.rj, .int .u64 c.st, .int .u64 c.mr, .int .u64 c.ft, .int .i64 c.vs, .int .i64 c.ln]) rfl (by kernel_rfl) (by kernel_rfl) (by kernel_rfl) (fun _ _ _ h => h) (Av.yields_part (by first | rfl | go_simp) _ _ rfl (g5) 0 rfl #[.int .i64 c.k, .int .i64 c.ws, .int .i64 c.wo, .int .i64 c.it, .int .i64 c.la, .int .i64 c.ti, .int .u64 (c.m : Int), .int .u16 c.ins, .int .i64 c.rs, .int .i64 c.rj, .int .u64 c.st, .int .u64 c.mr, .int .u64 c.ft, .int .i64 c.vs, .int .i64 c.ln] _ 28 #[.int .i64 c.k, .int .i64 c.ws, .int .i64 c.wo, .int .i64 c.it, .int .i64 c.la, .int .i64 c.ti, .int .u64 (c.m : Int), .int .u16 c.ins, .int .i64 c.rs, .int .i64 c.rj, .int .u64 c.st, .int .u64 c.mr, .int .u64 c.ft, .int .i64 c.vs, .int .i64 c.ln] (fun w9 hSw => hSw.1) rfl Try.underlying28 rfl (by kernel_rfl)) (by assumption) ?_
    simp only [List.getElem_toArray, List.getElem_cons_zero, List.getElem_cons_succ, Act.put, List.setIfInBounds_toArray, List.set_cons_zero, List.set_cons_succ]
    refine wpAnyH_take (i := 9) (v := .bool true) rfl (by kernel_rfl) (by kernel_rfl) (by kernel_rfl) (fun _ _ _ h => h) (Or.inl ⟨by first | rfl | go_simp, by intro w9 hSw; (try dsimp only at hSw); go_simp⟩) (by assumption) ?_
    simp only [List.getElem_toArray, List.getElem_cons_zero, List.getElem_cons_succ, Act.put, List.setIfInBounds_toArray, List.set_cons_zero, List.set_cons_succ]
    refine wpAnyH_take (i := 10) (v := .bool true) rfl (by kernel_rfl) (by kernel_rfl) (by kernel_rfl) (fun _ _ _ h => h) (Or.inl ⟨by first | rfl | go_simp, by intro w9 hSw; (try dsimp only at hSw); go_simp⟩) (by assumption) ?_
    simp only [List.getElem_toArray, List.getElem_cons_zero, List.getElem_cons_succ, Act.put, List.setIfInBounds_toArray, List.set_cons_zero, List.set_cons_succ]
    refine wpAnyH_take (i := 11) (v := .bool true) rfl (by kernel_rfl) (by kernel_rfl) (by kernel_rfl) (fun _ _ _ h => h) (Or.inl ⟨by first | rfl | go_simp, by intro w9 hSw; (try dsimp only at hSw); go_simp⟩) (by assumption) ?_
    simp only [List.getElem_toArray, List.getElem_cons_zero, List.getElem_cons_succ, Act.put, List.setIfInBounds_toArray, List.set_cons_zero, List.set_cons_succ]
    refine wpAnyH_take (i := 12) (v := .slice (some ⟨b1, o1, none⟩) n c1) rfl (by kernel_rfl) (by kernel_rfl) (by kernel_rfl) (fun _ _ _ h => h) (Or.inl ⟨by first | rfl | go_simp, by intro w9 hSw; (try dsimp only at hSw); go_simp⟩) (by assumption) ?_
    simp only [List.getElem_toArray, List.getElem_cons_zero, List.getElem_cons_succ, Act.put, List.setIfInBounds_toArray, List.set_cons_zero, List.set_cons_succ]
    refine wpAnyH_take (i := 13) (v := .int .i64 (n : Int)) rfl (by kernel_rfl) (by kernel_rfl) (by kernel_rfl) (fun _ _ _ h => h) (Or.inl ⟨by first | rfl | go_simp, by intro w9 hSw; (try dsimp only at hSw); go_simp⟩) (by assumption) ?_
    simp only [List.getElem_toArray, List.getElem_cons_zero, List.getElem_cons_succ, Act.put, List.setIfInBounds_toArray, List.set_cons_zero, List.set_cons_succ]
    refine wpAnyH_take (i := 14) (v := .bool true) rfl (by kernel_rfl) (by kernel_rfl) (by kernel_rfl) (fun _ _ _ h => h) (Or.inl ⟨by first | rfl | go_simp, by intro w9 hSw; (try dsimp only at hSw); go_simp⟩) (by assumption) ?_
    simp only [List.getElem_toArray, List.getElem_cons_zero, List.getElem_cons_succ, Act.put, List.setIfInBounds_toArray, List.set_cons_zero, List.set_cons_succ]
    refine wpAnyH_take (i := 15) (v := .bool true) rfl (by kernel_rfl) (by kernel_rfl) (by kernel_rfl) (fun _ _ _ h => h) (Or.inl ⟨by first | rfl | go_simp, by intro w9 hSw; (try dsimp only at hSw); go_simp⟩) (by assumption) ?_
    simp only [List.getElem_toArray, List.getElem_cons_zero, List.getElem_cons_succ, Act.put, List.setIfInBounds_toArray, List.set_cons_zero, List.set_cons_succ]
    refine wpAnyH_take (i := 16) (v := .bool true) rfl (by kernel_rfl) (by kernel_rfl) (by kernel_rfl) (fun _ _ _ h => h) (Or.inl ⟨by first | rfl | go_simp, by intro w9 hSw; (try dsimp only at hSw); go_simp⟩) (by assumption) ?_
    simp only [List.getElem_toArray, List.getElem_cons_zero, List.getElem_cons_succ, Act.put, List.setIfInBounds_toArray, List.set_cons_zero, List.set_cons_succ]
    refine wpAnyH_take (i := 17) (v := .slice (some ⟨b1, o1, none⟩) n c1) rfl (by kernel_rfl) (by kernel_rfl) (by kernel_rfl) (fun _ _ _ h => h) (Or.inl ⟨by first | rfl | go_simp, by intro w9 hSw; (try dsimp only at hSw); go_simp⟩) (by assumption) ?_
    simp only [List.getElem_toArray, List.getElem_cons_zero, List.getElem_cons_succ, Act.put, List.setIfInBounds_toArray, List.set_cons_zero, List.set_cons_succ]
    refine wpAnyH_take (i := 18) (v := .int .i64 (n : Int)) rfl (by kernel_rfl) (by kernel_rfl) (by kernel_rfl) (fun _ _ _ h => h) (Or.inl ⟨by first | rfl | go_simp, by intro w9 hSw; (try dsimp only at hSw); go_simp⟩) (by assumption) ?_
    simp only [List.getElem_toArray, List.getElem_cons_zero, List.getElem_cons_succ, Act.put, List.setIfInBounds_toArray, List.set_cons_zero, List.set_cons_succ]
    refine wpAnyH_take (i := 19) (v := .bool true) rfl (by kernel_rfl) (by kernel_rfl) (by kernel_rfl) (fun _ _ _ h => h) (Or.inl ⟨by first | rfl | go_simp, by intro w9 hSw; (try dsimp only at hSw); go_simp⟩) (by assumption) ?_
    simp only [List.getElem_toArray, List.getElem_cons_zero, List.getElem_cons_succ, Act.put, List.setIfInBounds_toArray, List.set_cons_zero, List.set_cons_succ]
    refine wpAnyH_take (i := 20) (v := .bool true) rfl (by kernel_rfl) (by kernel_rfl) (by kernel_rfl) (fun _ _ _ h => h) (Or.inl ⟨by first | rfl | go_simp, by intro w9 hSw; (try dsimp only at hSw); go_simp⟩) (by assumption) ?_
    simp only [List.getElem_toArray, List.getElem_cons_zero, List.getElem_cons_succ, Act.put, List.setIfInBounds_toArray, List.set_cons_zero, List.set_cons_succ]
    refine wpAnyH_take (i := 21) (v := .bool true) rfl (by kernel_rfl) (by kernel_rfl) (by kernel_rfl) (fun _ _ _ h => h) (Or.inl ⟨by first | rfl | go_simp, by intro w9 hSw; (try dsimp only at hSw); go_simp⟩) (by assumption) ?_
    simp only [List.getElem_toArray, List.getElem_cons_zero, List.getElem_cons_succ, Act.put, List.setIfInBounds_toArray, List.set_cons_zero, List.set_cons_succ]
    refine wpAnyH_take (i := 22) (v := .slice (some ⟨b1, o1, none⟩) n c1) rfl (by kernel_rfl) (by kernel_rfl) (by kernel_rfl) (fun _ _ _ h => h) (Or.inl ⟨by first | rfl | go_simp, by intro w9 hSw; (try dsimp only at hSw); go_simp⟩) (by assumption) ?_
    simp only [List.getElem_toArray, List.getElem_cons_zero, List.getElem_cons_succ, Act.put, List.setIfInBounds_toArray, List.set_cons_zero, List.set_cons_succ]
    refine wpAnyH_take (i := 23) (v := .pointer (some ⟨b1, o1, none⟩)) rfl (by kernel_rfl) (by kernel_rfl) (by kernel_rfl) (fun _ _ _ h => h) (Or.inl ⟨by first | rfl | go_simp, by intro w9 hSw; (try dsimp only at hSw); go_simp⟩) (by assumption) ?_
    simp only [List.getElem_toArray, List.getElem_cons_zero, List.getElem_cons_succ, Act.put, List.setIfInBounds_toArray, List.set_cons_zero, List.set_cons_succ]
    refine wpAnyH_take (i := 24) (v := .int .u8 c.k) rfl (by kernel_rfl) (by kernel_rfl) (by kernel_rfl) (fun _ _ _ h => h) (Or.inl ⟨by first | rfl | go_simp, by intro w9 hSw; (try dsimp only at hSw); go_simp⟩) (by assumption) ?_
    simp only [List.getElem_toArray, List.getElem_cons_zero, List.getElem_cons_succ, Act.put, List.setIfInBounds_toArray, List.set_cons_zero, List.set_cons_succ]
    refine wpAnyH_take (i := 25) (v := .int .i64 c.k) rfl (by kernel_rfl) (by kernel_rfl) (by kernel_rfl) (fun _ _ _ h => h) (Or.inl ⟨by first | rfl | go_simp, by intro w9 hSw; (try dsimp only at hSw); go_simp⟩) (by assumption) ?_
    simp only [List.getElem_toArray, List.getElem_cons_zero, List.getElem_cons_succ, Act.put, List.setIfInBounds_toArray, List.set_cons_zero, List.set_cons_succ]
    refine wpAnyH_take (i := 26) (v := .pointer (some ⟨w.heap.size, 0, none⟩)) rfl (by kernel_rfl) (by kernel_rfl) (by kernel_rfl) (fun _ _ _ h => h) (Or.inl ⟨by first | rfl | go_simp, by intro w9 hSw; (try dsimp only at hSw); go_simp⟩) (by assumption) ?_
    simp only [List.getElem_toArray, List.getElem_cons_zero, List.getElem_cons_succ, Act.put, List.setIfInBounds_toArray, List.set_cons_zero, List.set_cons_succ]
    refine wpAnyH_take (i := 27) (v := .int .i64 c.k) rfl (by kernel_rfl) (by kernel_rfl) (by kernel_rfl) (fun _ _ _ h => h) (Or.inl ⟨by first | rfl | go_simp, by intro w9 hSw; (try dsimp only at hSw); have c9 := hSw.2.1.cell 0; clear hSw; go_simp⟩) (by assumption) ?_
    simp only [List.getElem_toArray, List.getElem_cons_zero, List.getElem_cons_succ, Act.put, List.setIfInBounds_toArray, List.set_cons_zero, List.set_cons_succ]
    refine wpAnyH_take (i := 28) (v := .bool true) rfl (by kernel_rfl) (by kernel_rfl) (by kernel_rfl) (fun _ _ _ h => h) (Or.inl ⟨by first | rfl | go_simp, by intro w9 hSw; (try dsimp only at hSw); go_simp⟩) (by assumption) ?_
    simp only [List.getElem_toArray, List.getElem_cons_zero, List.getElem_cons_succ, Act.put, List.setIfInBounds_toArray, List.set_cons_zero, List.set_cons_succ]
    refine wpAnyH_take (i := 29) (v := .bool true) rfl (by kernel_rfl) (by kernel_rfl) (by kernel_rfl) (fun _ _ _ h => h) (Or.inl ⟨by first | rfl | go_simp, by intro w9 hSw; (try dsimp only at hSw); go_simp⟩) (by assumption) ?_
    simp only [List.getElem_toArray, List.getElem_cons_zero, List.getElem_cons_succ, Act.put, List.setIfInBounds_toArray, List.set_cons_zero, List.set_cons_succ]
    refine wpAnyH_take (i := 30) (v := .bool true) rfl (by kernel_rfl) (by kernel_rfl) (by kernel_rfl) (fun _ _ _ h => h) (Or.inl ⟨by first | rfl | go_simp, by intro w9 hSw; (try dsimp only at hSw); go_simp⟩) (by assumption) ?_
    simp only [List.getElem_toArray, List.getElem_cons_zero, List.getElem_cons_succ, Act.put, List.setIfInBounds_toArray, List.set_cons_zero, List.set_cons_succ]
    refine wpAnyH_ready (rs := [31]) (by kernel_rfl) (by simp) ?_
    refine AllReadyH.cons rfl (fun K hK => ?_) (AllReadyH.nil)
    go_simp
    refine (HX.out X0).mono ?_
    rintro e X1 ⟨rfl, b9⟩
    replace K1 := K1.below b9 K1.lt
    replace K5 := K5.below b9 K5.lt
    replace BX := Base.thenB BX b9
    replace TT := ((b9.cell (p := ⟨b1, o1, none⟩) (World.block_lt_of_cell? _ _ TT)).trans TT)
    clear b9
    refine hK.out _ _ ⟨K5, K1, TT⟩ (fun hHeld => ?_)
    clear hK K
    try simp only [List.getElem_toArray, List.getElem_cons_zero, List.getElem_cons_succ, Act.put, List.setIfInBounds_toArray, List.set_cons_zero, List.set_cons_succ]
    refine wpAnyH_take (i := 32) (v := .bool true) rfl (by kernel_rfl) (by kernel_rfl) (by kernel_rfl) (fun _ _ _ h => h) (Or.inl ⟨by first | rfl | go_simp, by intro w9 hSw; (try dsimp only at hSw); go_simp⟩) (by assumption) ?_
    simp only [List.getElem_toArray, List.getElem_cons_zero, List.getElem_cons_succ, Act.put, List.setIfInBounds_toArray, List.set_cons_zero, List.set_cons_succ]
    refine wpAnyH_take (i := 33) (v := .bool true) rfl (by kernel_rfl) (by kernel_rfl) (by kernel_rfl) (fun _ _ _ h => h) (Or.inl ⟨by first | rfl | go_simp, by intro w9 hSw; (try dsimp only at hSw); go_simp⟩) (by assumption) ?_
    simp only [List.getElem_toArray, List.getElem_cons_zero, List.getElem_cons_succ, Act.put, List.setIfInBounds_toArray, List.set_cons_zero, List.set_cons_succ]
    refine wpAnyH_done (by kernel_rfl) ?_ _
    clear hHeld
    go_wp2_with fail
    go_ret
    exact ⟨rfl, BX⟩
  · have hz' : (chkC c != 0) = true := by simpa using h0
    generalize chkC c = R at *
    obtain ⟨C, hC⟩ : ∃ C, encC c = C := ⟨_, rfl⟩
    rw [hC] at BX K1 HSZ hs2 H1 HCk ⊢
    clear h0 hC
    go_enter Try.func7, Try.ntmps7
    go_wp2_with (first | (refine wpList_load_row rfl 28 (.tmp 1) rfl (w.heap.size) rfl 28 _ (0, 0) _ K1 Try.underlying28 rfl HSZ ?_) | (go_at_call 9; refine (HCk.out _).mono ?_; rintro e w1 ⟨rfl, b1⟩; replace BX := thenB BX b1; clear b1) | (go_at_call 11; refine (HX.out _).mono ?_; rintro e w9 ⟨rfl, b9⟩))
    go_ret
    exact ⟨rfl, thenB BX b9⟩
end Go.Proofs.Ytiopeghbpnjcgaa.Cp
