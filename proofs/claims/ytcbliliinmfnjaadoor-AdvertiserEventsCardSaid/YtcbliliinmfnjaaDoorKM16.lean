/- Advertisers: what is wrong with settings: contracts over the program. Advertisers: how they start and stop, their delays: contracts over the program. Advertisers: delays, ends, and which requests are answered: contracts over the program. Advertisers: which connections are accepted: contracts over the program. -/
import Derived.Test.YtcbliliinmfnjaaDoorKAvCopy
import Derived.Test.YtcbliliinmfnjaaDoorKM7
import Derived.Test.YtcbliliinmfnjaaDoorKApRChk
import Derived.Test.YtcbliliinmfnjaaDoorKApParts
import Derived.Test.YtcbliliinmfnjaaDoorKM3
import Derived.Test.YtcbliliinmfnjaaDoorKM14
section
set_option linter.unusedVariables false
set_option linter.unusedSimpArgs false
namespace Go.Proofs.YtcbliliinmfnjaaDoor.Av
open Go.RowKit Mem Oct Rw Ap Ace Prv
open Base (thenB)

theorem chk_call (q : Pd) (V : Value) (m : Nat) (X : World) (hW : Wid q) (hR : Row X m V q.ds.length (q.ds.map (Value.int .u8))) (hT : Adr.Tab X) :
    Calls Tryd.prog 54 #[.agg (cel q V)] X fun e w' => e = .returned (.int .i64 (chkP q)) ∧ Below X.heap.size X w' := by
  obtain ⟨A, c, rfl, _⟩ := hR
  exact check_any q A _ c X rfl hW hT
theorem rchk_call (q : Pd) (V : Value) (m : Nat) (X : World) (hW : Wid q) (hR : Row X m V q.ds.length (q.ds.map (Value.int .u8))) :
    Calls Tryd.prog 43 #[.agg (cel q V)] X fun e w' => e = .returned (.int .i64 (chkP q)) ∧ Below X.heap.size X w' := by
  obtain ⟨A, c, rfl, _⟩ := hR
  exact rcheck_any q A _ c X rfl hW
theorem scannable_any (k : Int) (w : World) : Calls Tryd.prog 91 #[.int .i64 k] w fun e w' => e = .returned (.bool (scnB k)) ∧ w = w' := by
  unfold scnB
  by_cases h : k = 0
  · subst h
    go_enter Tryd.func91, Tryd.ntmps91
    go_wp2_with fail
    go_ret
    exact ⟨rfl, rfl⟩
  · have g : (k == 0) = false := by simpa using h
    rw [g]
    go_enter Tryd.func91, Tryd.ntmps91
    go_wp2_with fail
    go_ret
    exact ⟨by simp, rfl⟩
theorem rscannable_any (k : Int) (w : World) : Calls Tryd.prog 26 #[.int .i64 k] w fun e w' => e = .returned (.bool (scnB k)) ∧ w = w' := by
  unfold scnB
  by_cases h : k = 0
  · subst h
    go_enter Tryd.func26, Tryd.ntmps26
    go_wp2_with fail
    go_ret
    exact ⟨rfl, rfl⟩
  · have g : (k == 0) = false := by simpa using h
    rw [g]
    go_enter Tryd.func26, Tryd.ntmps26
    go_wp2_with fail
    go_ret
    exact ⟨by simp, rfl⟩
theorem rconnectable_any (k : Int) (w : World) : Calls Tryd.prog 25 #[.int .i64 k] w fun e w' => e = .returned (.bool (k == 0 || k == 1)) ∧ w = w' := by
  by_cases h : k = 0
  · subst h
    go_enter Tryd.func25, Tryd.ntmps25
    go_wp2_with fail
    go_ret
    exact ⟨rfl, rfl⟩
  · have g : (k == 0) = false := by simpa using h
    rw [g]
    go_enter Tryd.func25, Tryd.ntmps25
    go_wp2_with fail
    go_ret
    exact ⟨by simp, rfl⟩
set_option maxRecDepth 100000 in
set_option maxHeartbeats 4000000 in
theorem small_any (p : Pm) (VD VS VA VI : Value) (m : Nat) (w : World) (hH : Has w m p VD VS VA VI) :
    Calls Tryd.prog 13 #[.agg (pcel p VD VS VA VI)] w fun e w' => e = .returned (.bool (decide (p.ac.length ≤ 100 ∧ p.ids.length ≤ 100))) ∧ Below w.heap.size w w' := by
  obtain ⟨AA, cA, rfl, _⟩ := id hH.a
  obtain ⟨AI, cI, rfl, _⟩ := id hH.i
  clear hH
  generalize p.ac.length = na at *
  generalize p.ids.length = ni at *
  have BX : Below w.heap.size w (w.alloc (.cells #[.int .i64 p.k, .int .i64 p.it, .int .i64 p.ok, .int .u64 p.ob, .int .i64 p.tk, .int .u64 p.tb, VD, VS, .int .i64 p.po, .slice AA na cA, .slice AI ni cI, .int .u64 p.sd] 29)) := (Below.refl _ _).alloc (Nat.le_refl _) _
  have K1 : Blk (w.alloc (.cells #[.int .i64 p.k, .int .i64 p.it, .int .i64 p.ok, .int .u64 p.ob, .int .i64 p.tk, .int .u64 p.tb, VD, VS, .int .i64 p.po, .slice AA na cA, .slice AI ni cI, .int .u64 p.sd] 29)) w.heap.size 29 #[.int .i64 p.k, .int .i64 p.it, .int .i64 p.ok, .int .u64 p.ob, .int .i64 p.tk, .int .u64 p.tb, VD, VS, .int .i64 p.po, .slice AA na cA, .slice AI ni cI, .int .u64 p.sd] := Blk.fresh w 29 #[.int .i64 p.k, .int .i64 p.it, .int .i64 p.ok, .int .u64 p.ob, .int .i64 p.tk, .int .u64 p.tb, VD, VS, .int .i64 p.po, .slice AA na cA, .slice AI ni cI, .int .u64 p.sd]
  have c9 := K1.cell 9
  have c10 := K1.cell 10
  by_cases h1 : na ≤ 100
  · have g1 : (na : Int) ≤ 100 := by omega
    by_cases h2 : ni ≤ 100
    · have g2 : (ni : Int) ≤ 100 := by omega
      rw [decide_eq_true (And.intro h1 h2)]
      go_enter Tryd.func13, Tryd.ntmps13
      go_wp2_with fail
      go_ret
      exact ⟨rfl, BX⟩
    · have g2 : ¬ (ni : Int) ≤ 100 := by omega
      rw [decide_eq_false (fun h => h2 h.2)]
      go_enter Tryd.func13, Tryd.ntmps13
      go_wp2_with fail
      go_ret
      exact ⟨rfl, BX⟩
  · have g1 : ¬ (na : Int) ≤ 100 := by omega
    rw [decide_eq_false (fun h => h1 h.1)]
    go_enter Tryd.func13, Tryd.ntmps13
    go_wp2_with fail
    go_ret
    exact ⟨rfl, BX⟩
set_option maxRecDepth 100000 in
set_option maxHeartbeats 4000000 in
theorem checkScan_any (p : Pm) (VD VS VA VI : Value) (m : Nat) (w : World) (hW : PW p) (hH : Has w m p VD VS VA VI) (hT : Adr.Tab w) :
    Calls Tryd.prog 73 #[.agg (pcel p VD VS VA VI)] w fun e w' => e = .returned (.int .i64 (scE p)) ∧ Below w.heap.size w w' := by
  obtain ⟨AS, cS, rfl, _⟩ := id hH.s
  have HS := Lib.hid (fun X => scannable_any p.k X)
  have HP : Hid (∀ X, Below w.heap.size w X → Calls Tryd.prog 56 #[.agg (pcel p VD (.slice AS p.sc.length cS) VA VI)] X fun e w' => PduR X w' e (ansP p)) := Lib.hid fun X b => scanAnswer_any p _ _ _ _ m X hW (hH.below b)
  have HK : Hid (∀ X V, Below w.heap.size w X → Row X X.heap.size V (ansP p).ds.length ((ansP p).ds.map (Value.int .u8)) → Calls Tryd.prog 54 #[.agg (cel (ansP p) V)] X fun e w' => e = .returned (.int .i64 (chkP (ansP p))) ∧ Below X.heap.size X w') := Lib.hid fun X V b h => chk_call (ansP p) V _ X (wid_ans hW) h (hT.below b)
  have HR : Hid (scE p = if scnB p.k = true then chkP (ansP p) else if 0 < p.sc.length then 1 else 0) := Lib.hid rfl
  have HK := Lib.hid (fun X V (b : Below w.heap.size w X) (mm : Nat) (h : Row X mm V (ansP p).ds.length ((ansP p).ds.map (Value.int .u8))) => chk_call (ansP p) V mm X (wid_ans hW) h (hT.below b))
  clear hW hH hT
  generalize scE p = R at *
  generalize chkP (ansP p) = E1 at *
  generalize ansP p = q at *
  generalize p.sc.length = ns at *
  generalize scnB p.k = K at *
  have BX : Below w.heap.size w (w.alloc (.cells #[.int .i64 p.k, .int .i64 p.it, .int .i64 p.ok, .int .u64 p.ob, .int .i64 p.tk, .int .u64 p.tb, VD, .slice AS ns cS, .int .i64 p.po, VA, VI, .int .u64 p.sd] 29)) := (Below.refl _ _).alloc (Nat.le_refl _) _
  have K1 : Blk (w.alloc (.cells #[.int .i64 p.k, .int .i64 p.it, .int .i64 p.ok, .int .u64 p.ob, .int .i64 p.tk, .int .u64 p.tb, VD, .slice AS ns cS, .int .i64 p.po, VA, VI, .int .u64 p.sd] 29)) w.heap.size 29 #[.int .i64 p.k, .int .i64 p.it, .int .i64 p.ok, .int .u64 p.ob, .int .i64 p.tk, .int .u64 p.tb, VD, .slice AS ns cS, .int .i64 p.po, VA, VI, .int .u64 p.sd] := Blk.fresh w 29 #[.int .i64 p.k, .int .i64 p.it, .int .i64 p.ok, .int .u64 p.ob, .int .i64 p.tk, .int .u64 p.tb, VD, .slice AS ns cS, .int .i64 p.po, VA, VI, .int .u64 p.sd]
  have c0 := K1.cell 0
  have c7 := K1.cell 7
  go_enter Tryd.func73, Tryd.ntmps73
  go_wp2_with fail
  refine (HS.out _).mono ?_
  rintro e w1 ⟨rfl, rfl⟩
  generalize w.alloc (.cells #[.int .i64 p.k, .int .i64 p.it, .int .i64 p.ok, .int .u64 p.ob, .int .i64 p.tk, .int .u64 p.tb, VD, .slice AS ns cS, .int .i64 p.po, VA, VI, .int .u64 p.sd] 29) = W0 at *
  cases K with
  | true =>
    have HR : Hid (R = E1) := Lib.hid (by rw [HR.out]; simp)
    go_wp2_with (refine wpList_load_row rfl 29 (.tmp 1) rfl (w.heap.size) rfl 29 _ (0, 0) _ K1 Tryd.underlying29 rfl (by kernel_rfl) ?_)
    refine (HP.out _ BX).mono ?_
    rintro e w1 ⟨V1, rfl, R1, b1⟩
    have BX := thenB BX b1
    go_wp2_with fail
    refine (HK.out _ _ BX _ R1).mono ?_
    rintro e w2 ⟨rfl, b2⟩
    go_wp2_with fail
    go_ret
    exact ⟨Ser.ret_int HR.out.symm, thenB BX b2⟩
  | false =>
    by_cases h0 : 0 < ns
    · have g0 : (0 : Int) < (ns : Int) := by omega
      have HR : Hid (R = 1) := Lib.hid (by rw [HR.out]; simp [h0])
      go_wp2_with fail
      go_ret
      exact ⟨Ser.ret_int HR.out.symm, BX⟩
    · have g0 : ¬ (0 : Int) < (ns : Int) := by omega
      have HR : Hid (R = 0) := Lib.hid (by rw [HR.out]; simp [h0])
      go_wp2_with fail
      go_ret
      exact ⟨Ser.ret_int HR.out.symm, BX⟩
set_option maxRecDepth 100000 in
set_option maxHeartbeats 4000000 in
theorem check_any (p : Pm) (VD VS VA VI : Value) (m : Nat) (w : World) (hW : PW p) (hH : Has w m p VD VS VA VI) (hT : Adr.Tab w) :
    Calls Tryd.prog 40 #[.agg (pcel p VD VS VA VI)] w fun e w' => e = .returned (.int .i64 (stE p)) ∧ Below w.heap.size w w' := by
  obtain ⟨AA, cA, rfl, _⟩ := id hH.a
  obtain ⟨AI, cI, rfl, _⟩ := id hH.i
  have HA := Lib.hid (fun X => announces_any p.k X)
  have HP : Hid (∀ X, Below w.heap.size w X → Calls Tryd.prog 52 #[.agg (pcel p VD VS (.slice AA p.ac.length cA) (.slice AI p.ids.length cI))] X fun e w' => PduR X w' e (annP p)) := Lib.hid fun X b => announcement_any p _ _ _ _ m X hW (hH.below b)
  have HK := Lib.hid (fun X V (b : Below w.heap.size w X) (mm : Nat) (h : Row X mm V (annP p).ds.length ((annP p).ds.map (Value.int .u8))) => chk_call (annP p) V mm X (wid_ann hW) h (hT.below b))
  have HS : Hid (∀ X, Below w.heap.size w X → Calls Tryd.prog 73 #[.agg (pcel p VD VS (.slice AA p.ac.length cA) (.slice AI p.ids.length cI))] X fun e w' => e = .returned (.int .i64 (scE p)) ∧ Below X.heap.size X w') := Lib.hid fun X b => checkScan_any p _ _ _ _ m X hW (hH.below b) (hT.below b)
  have HR : Hid (stE p = if annB p.k = false then 12 else if p.it < 32 ∨ 16384 < p.it then 5 else if ¬ chkP (annP p) = 0 then chkP (annP p) else if ¬ scE p = 0 then scE p else
    if p.po < 0 ∨ 3 < p.po then 5 else if 64 < p.ac.length ∨ 64 < p.ids.length then 4 else 0) := Lib.hid rfl
  clear hW hH hT
  generalize stE p = R at *
  generalize scE p = E2 at *
  generalize chkP (annP p) = E1 at *
  generalize annP p = q at *
  generalize p.ac.length = na at *
  generalize p.ids.length = ni at *
  generalize annB p.k = K at *
  have BX : Below w.heap.size w (w.alloc (.cells #[.int .i64 p.k, .int .i64 p.it, .int .i64 p.ok, .int .u64 p.ob, .int .i64 p.tk, .int .u64 p.tb, VD, VS, .int .i64 p.po, .slice AA na cA, .slice AI ni cI, .int .u64 p.sd] 29)) := (Below.refl _ _).alloc (Nat.le_refl _) _
  have K1 : Blk (w.alloc (.cells #[.int .i64 p.k, .int .i64 p.it, .int .i64 p.ok, .int .u64 p.ob, .int .i64 p.tk, .int .u64 p.tb, VD, VS, .int .i64 p.po, .slice AA na cA, .slice AI ni cI, .int .u64 p.sd] 29)) w.heap.size 29 #[.int .i64 p.k, .int .i64 p.it, .int .i64 p.ok, .int .u64 p.ob, .int .i64 p.tk, .int .u64 p.tb, VD, VS, .int .i64 p.po, .slice AA na cA, .slice AI ni cI, .int .u64 p.sd] := Blk.fresh w 29 #[.int .i64 p.k, .int .i64 p.it, .int .i64 p.ok, .int .u64 p.ob, .int .i64 p.tk, .int .u64 p.tb, VD, VS, .int .i64 p.po, .slice AA na cA, .slice AI ni cI, .int .u64 p.sd]
  have c0 := K1.cell 0
  have c1 := K1.cell 1
  go_enter Tryd.func40, Tryd.ntmps40
  go_wp2_with fail
  refine (HA.out _).mono ?_
  rintro e w1 ⟨rfl, rfl⟩
  generalize w.alloc (.cells #[.int .i64 p.k, .int .i64 p.it, .int .i64 p.ok, .int .u64 p.ob, .int .i64 p.tk, .int .u64 p.tb, VD, VS, .int .i64 p.po, .slice AA na cA, .slice AI ni cI, .int .u64 p.sd] 29) = W0 at *
  cases K with
  | false =>
    have HR : Hid (R = 12) := Lib.hid (by rw [HR.out]; simp)
    go_wp2_with fail
    go_ret
    exact ⟨Ser.ret_int HR.out.symm, BX⟩
  | true =>
    by_cases h1 : p.it < 32
    · have HR : Hid (R = 5) := Lib.hid (by rw [HR.out]; simp [h1])
      go_wp2_with fail
      go_ret
      exact ⟨Ser.ret_int HR.out.symm, BX⟩
    by_cases h2 : 16384 < p.it
    · have HR : Hid (R = 5) := Lib.hid (by rw [HR.out]; simp [h2])
      go_wp2_with fail
      go_ret
      exact ⟨Ser.ret_int HR.out.symm, BX⟩
    have HQ : Hid (R = if ¬ E1 = 0 then E1 else if ¬ E2 = 0 then E2 else if p.po < 0 ∨ 3 < p.po then 5 else if 64 < na ∨ 64 < ni then 4 else 0) := Lib.hid (by rw [HR.out, if_neg (by simp), if_neg (by omega)])
    go_wp2_with (refine wpList_load_row rfl 29 (.tmp 1) rfl (w.heap.size) rfl 29 _ (0, 0) _ K1 Tryd.underlying29 rfl (by kernel_rfl) ?_)
    clear h1 h2 c0 c1
    refine (HP.out _ BX).mono ?_
    rintro e w1 ⟨V1, rfl, R1, b1⟩
    have BX := thenB BX b1
    have K1 := K1.below b1 K1.lt
    clear b1
    go_wp2_with fail
    refine (HK.out _ _ BX _ R1).mono ?_
    rintro e w2 ⟨rfl, b2⟩
    have BX := thenB BX b2
    have K1 := K1.below b2 K1.lt
    clear b2 R1
    by_cases h3 : E1 = 0
    · subst h3
      go_wp2_with (refine wpList_load_row rfl 29 (.tmp 1) rfl (w.heap.size) rfl 29 _ (0, 0) _ K1 Tryd.underlying29 rfl (by kernel_rfl) ?_)
      refine (HS.out _ BX).mono ?_
      rintro e w3 ⟨rfl, b3⟩
      have BX := thenB BX b3
      have K1 := K1.below b3 K1.lt
      clear b3
      have c8 := K1.cell 8
      have c9 := K1.cell 9
      have c10 := K1.cell 10
      by_cases h4 : E2 = 0
      · subst h4
        by_cases h5 : p.po < 0
        · have HZ : Hid (R = 5) := Lib.hid (by rw [HQ.out]; simp [h5])
          go_wp2_with fail
          go_ret
          exact ⟨Ser.ret_int HZ.out.symm, BX⟩
        by_cases h6 : 3 < p.po
        · have HZ : Hid (R = 5) := Lib.hid (by rw [HQ.out]; simp [h6])
          go_wp2_with fail
          go_ret
          exact ⟨Ser.ret_int HZ.out.symm, BX⟩
        have HQ2 : Hid (R = if 64 < na ∨ 64 < ni then 4 else 0) := Lib.hid (by rw [HQ.out, if_neg (by simp), if_neg (by simp), if_neg (by omega)])
        by_cases h7 : 64 < na
        · have g7 : (64 : Int) < (na : Int) := by omega
          have HZ : Hid (R = 4) := Lib.hid (by rw [HQ2.out, if_pos (.inl h7)])
          go_wp2_with fail
          go_ret
          exact ⟨Ser.ret_int HZ.out.symm, BX⟩
        have g7 : ¬ (64 : Int) < (na : Int) := by omega
        by_cases h8 : 64 < ni
        · have g8 : (64 : Int) < (ni : Int) := by omega
          have HZ : Hid (R = 4) := Lib.hid (by rw [HQ2.out, if_pos (.inr h8)])
          go_wp2_with fail
          go_ret
          exact ⟨Ser.ret_int HZ.out.symm, BX⟩
        have g8 : ¬ (64 : Int) < (ni : Int) := by omega
        have HZ : Hid (R = 0) := Lib.hid (by rw [HQ2.out, if_neg (by omega)])
        go_wp2_with fail
        go_ret
        exact ⟨Ser.ret_int HZ.out.symm, BX⟩
      · have g4 : (E2 != 0) = true := by simpa using h4
        have HZ : Hid (R = E2) := Lib.hid (by rw [HQ.out, if_neg (by simp), if_pos h4])
        go_wp2_with fail
        go_ret
        exact ⟨Ser.ret_int HZ.out.symm, BX⟩
    · have g3 : (E1 != 0) = true := by simpa using h3
      have HZ : Hid (R = E1) := Lib.hid (by rw [HQ.out, if_pos h3])
      go_wp2_with fail
      go_ret
      exact ⟨Ser.ret_int HZ.out.symm, BX⟩
theorem words1' (ev : Int) : Mac.Words [ev % 18446744073709551616] := by
  intro p hp; simp at hp; subst hp; omega
theorem ev_wrap (ev : Int) : IntKind.u64.wrap ev = ev % 18446744073709551616 := by
  simp only [IntKind.wrap, IntKind.signed, IntKind.bits]; simp
end Go.Proofs.YtcbliliinmfnjaaDoor.Av

end
section
set_option linter.unusedVariables false
set_option linter.unusedSimpArgs false
namespace Go.Proofs.YtcbliliinmfnjaaDoor.Av
open Go.RowKit Mem Oct Rw Ap Ace Prv
open Base (thenB)

set_option maxRecDepth 100000 in
set_option maxHeartbeats 4000000 in
theorem rpdu_any (p : Pm) (VD VS VA VI : Value) (m : Nat) (w : World) (hW : PW p) (hH : Has w m p VD VS VA VI) :
    Calls Tryd.prog 44 #[.agg (pcel p VD VS VA VI)] w fun e w' => PduR w w' e (annP p) := by
  obtain ⟨AX, cX, rfl, _, hX⟩ := hH.d.cells
  have HC := Lib.hid hX
  have hbnd := hW.nds
  obtain ⟨iEu8, hiu8, hzu8, hsu8, hbu8, hcu8⟩ := info_parts2 Base.info_u8 rfl
  have BX : Below w.heap.size w ((w.alloc (.cells #[.int .i64 p.k, .int .i64 p.it, .int .i64 p.ok, .int .u64 p.ob, .int .i64 p.tk, .int .u64 p.tb, .slice AX p.ds.length cX, VS, .int .i64 p.po, VA, VI, .int .u64 p.sd] 29)).alloc (.cells #[.int .i64 0, .int .i64 0, .int .u64 0, .int .i64 0, .int .u64 0, .slice none 0 0, .int .u32 0, .int .u32 0, .int .i64 0, .int .i64 0, .int .i64 0, .int .i64 0, .int .i64 0, .int .u64 0, .int .i64 0, .int .i64 0, .int .i64 0] 52)) := ((Below.refl _ _).alloc (Nat.le_refl _) _).alloc (by simp) _
  have K1 : Blk ((w.alloc (.cells #[.int .i64 p.k, .int .i64 p.it, .int .i64 p.ok, .int .u64 p.ob, .int .i64 p.tk, .int .u64 p.tb, .slice AX p.ds.length cX, VS, .int .i64 p.po, VA, VI, .int .u64 p.sd] 29)).alloc (.cells #[.int .i64 0, .int .i64 0, .int .u64 0, .int .i64 0, .int .u64 0, .slice none 0 0, .int .u32 0, .int .u32 0, .int .i64 0, .int .i64 0, .int .i64 0, .int .i64 0, .int .i64 0, .int .u64 0, .int .i64 0, .int .i64 0, .int .i64 0] 52)) (w.heap.size) 29 #[.int .i64 p.k, .int .i64 p.it, .int .i64 p.ok, .int .u64 p.ob, .int .i64 p.tk, .int .u64 p.tb, .slice AX p.ds.length cX, VS, .int .i64 p.po, VA, VI, .int .u64 p.sd] := (Blk.fresh w 29 #[.int .i64 p.k, .int .i64 p.it, .int .i64 p.ok, .int .u64 p.ob, .int .i64 p.tk, .int .u64 p.tb, .slice AX p.ds.length cX, VS, .int .i64 p.po, VA, VI, .int .u64 p.sd]).alloc _
  have K2 : Blk ((w.alloc (.cells #[.int .i64 p.k, .int .i64 p.it, .int .i64 p.ok, .int .u64 p.ob, .int .i64 p.tk, .int .u64 p.tb, .slice AX p.ds.length cX, VS, .int .i64 p.po, VA, VI, .int .u64 p.sd] 29)).alloc (.cells #[.int .i64 0, .int .i64 0, .int .u64 0, .int .i64 0, .int .u64 0, .slice none 0 0, .int .u32 0, .int .u32 0, .int .i64 0, .int .i64 0, .int .i64 0, .int .i64 0, .int .i64 0, .int .u64 0, .int .i64 0, .int .i64 0, .int .i64 0] 52)) (w.heap.size + 1) 52 #[.int .i64 0, .int .i64 0, .int .u64 0, .int .i64 0, .int .u64 0, .slice none 0 0, .int .u32 0, .int .u32 0, .int .i64 0, .int .i64 0, .int .i64 0, .int .i64 0, .int .i64 0, .int .u64 0, .int .i64 0, .int .i64 0, .int .i64 0] := Av.Blk.next
  clear hW hH hX
  go_enter Tryd.func44, Tryd.ntmps44
  go_upto_region 1 with (fail)
  generalize (w.alloc (.cells #[.int .i64 p.k, .int .i64 p.it, .int .i64 p.ok, .int .u64 p.ob, .int .i64 p.tk, .int .u64 p.tb, .slice AX p.ds.length cX, VS, .int .i64 p.po, VA, VI, .int .u64 p.sd] 29)).alloc (.cells #[.int .i64 0, .int .i64 0, .int .u64 0, .int .i64 0, .int .u64 0, .slice none 0 0, .int .u32 0, .int .u32 0, .int .i64 0, .int .i64 0, .int .i64 0, .int .i64 0, .int .i64 0, .int .u64 0, .int .i64 0, .int .i64 0, .int .i64 0] 52) = W0 at *
  refine wp_region_held_drew (S := (fun w' => Blk w' (w.heap.size) 29 #[.int .i64 p.k, .int .i64 p.it, .int .i64 p.ok, .int .u64 p.ob, .int .i64 p.tk, .int .u64 p.tb, .slice AX p.ds.length cX, VS, .int .i64 p.po, VA, VI, .int .u64 p.sd])) (by kernel_rfl) ?_ (fun hHeld => ?_)
  · exact K1
  replace K1 : Blk W0.drew (w.heap.size) 29 #[.int .i64 p.k, .int .i64 p.it, .int .i64 p.ok, .int .u64 p.ob, .int .i64 p.tk, .int .u64 p.tb, .slice AX p.ds.length cX, VS, .int .i64 p.po, VA, VI, .int .u64 p.sd] := K1
  replace K2 : Blk W0.drew (w.heap.size + 1) 52 #[.int .i64 0, .int .i64 0, .int .u64 0, .int .i64 0, .int .u64 0, .slice none 0 0, .int .u32 0, .int .u32 0, .int .i64 0, .int .i64 0, .int .i64 0, .int .i64 0, .int .i64 0, .int .u64 0, .int .i64 0, .int .i64 0, .int .i64 0] := K2
  replace BX : Below w.heap.size w W0.drew := BX.drew
  generalize W0.drew = X0 at *
  refine wpAnyH_take (i := 0) (v := .pointer (some ⟨w.heap.size, 0, none⟩)) rfl (by kernel_rfl) (by kernel_rfl) (by kernel_rfl) (fun _ _ _ h => h) (Or.inl ⟨by first | rfl | go_simp, by intro w9 hSw; (try dsimp only at hSw); go_simp⟩) (by assumption) ?_
  simp only [List.getElem_toArray, List.getElem_cons_zero, List.getElem_cons_succ, Act.put, List.setIfInBounds_toArray, List.set_cons_zero, List.set_cons_succ]
  refine wpAnyH_take (i := 1) (v := .int .i64 p.k) rfl (by kernel_rfl) (by kernel_rfl) (by kernel_rfl) (fun _ _ _ h => h) (Or.inl ⟨by first | rfl | go_simp, by intro w9 hSw; (try dsimp only at hSw); have c9 := hSw.cell 0; clear hSw; go_simp⟩) (by assumption) ?_
  simp only [List.getElem_toArray, List.getElem_cons_zero, List.getElem_cons_succ, Act.put, List.setIfInBounds_toArray, List.set_cons_zero, List.set_cons_succ]
  refine wpAnyH_take (i := 2) (v := .pointer (some ⟨w.heap.size, 2, none⟩)) rfl (by kernel_rfl) (by kernel_rfl) (by kernel_rfl) (fun _ _ _ h => h) (Or.inl ⟨by first | rfl | go_simp, by intro w9 hSw; (try dsimp only at hSw); go_simp⟩) (by assumption) ?_
  simp only [List.getElem_toArray, List.getElem_cons_zero, List.getElem_cons_succ, Act.put, List.setIfInBounds_toArray, List.set_cons_zero, List.set_cons_succ]
  refine wpAnyH_take (i := 3) (v := .agg #[.int .i64 p.ok, .int .u64 p.ob]) rfl (by kernel_rfl) (by kernel_rfl) (by kernel_rfl) (fun _ _ _ h => h) (Av.yields_part (by first | rfl | go_simp) _ _ rfl (w.heap.size) 2 rfl #[.int .i64 p.ok, .int .u64 p.ob] _ 29 #[.int .i64 p.k, .int .i64 p.it, .int .i64 p.ok, .int .u64 p.ob, .int .i64 p.tk, .int .u64 p.tb, .slice AX p.ds.length cX, VS, .int .i64 p.po, VA, VI, .int .u64 p.sd] (fun w9 hSw => hSw) rfl Tryd.underlying24 rfl (by kernel_rfl)) (by assumption) ?_
  simp only [List.getElem_toArray, List.getElem_cons_zero, List.getElem_cons_succ, Act.put, List.setIfInBounds_toArray, List.set_cons_zero, List.set_cons_succ]
  refine wpAnyH_take (i := 4) (v := .pointer (some ⟨w.heap.size, 4, none⟩)) rfl (by kernel_rfl) (by kernel_rfl) (by kernel_rfl) (fun _ _ _ h => h) (Or.inl ⟨by first | rfl | go_simp, by intro w9 hSw; (try dsimp only at hSw); go_simp⟩) (by assumption) ?_
  simp only [List.getElem_toArray, List.getElem_cons_zero, List.getElem_cons_succ, Act.put, List.setIfInBounds_toArray, List.set_cons_zero, List.set_cons_succ]
  refine wpAnyH_take (i := 5) (v := .agg #[.int .i64 p.tk, .int .u64 p.tb]) rfl (by kernel_rfl) (by kernel_rfl) (by kernel_rfl) (fun _ _ _ h => h) (Av.yields_part (by first | rfl | go_simp) _ _ rfl (w.heap.size) 4 rfl #[.int .i64 p.tk, .int .u64 p.tb] _ 29 #[.int .i64 p.k, .int .i64 p.it, .int .i64 p.ok, .int .u64 p.ob, .int .i64 p.tk, .int .u64 p.tb, .slice AX p.ds.length cX, VS, .int .i64 p.po, VA, VI, .int .u64 p.sd] (fun w9 hSw => hSw) rfl Tryd.underlying24 rfl (by kernel_rfl)) (by assumption) ?_
  simp only [List.getElem_toArray, List.getElem_cons_zero, List.getElem_cons_succ, Act.put, List.setIfInBounds_toArray, List.set_cons_zero, List.set_cons_succ]
  refine wpAnyH_take (i := 7) (v := .pointer (some ⟨w.heap.size, 6, none⟩)) rfl (by kernel_rfl) (by kernel_rfl) (by kernel_rfl) (fun _ _ _ h => h) (Or.inl ⟨by first | rfl | go_simp, by intro w9 hSw; (try dsimp only at hSw); go_simp⟩) (by assumption) ?_
  simp only [List.getElem_toArray, List.getElem_cons_zero, List.getElem_cons_succ, Act.put, List.setIfInBounds_toArray, List.set_cons_zero, List.set_cons_succ]
  refine wpAnyH_take (i := 8) (v := .slice AX p.ds.length cX) rfl (by kernel_rfl) (by kernel_rfl) (by kernel_rfl) (fun _ _ _ h => h) (Or.inl ⟨by first | rfl | go_simp, by intro w9 hSw; (try dsimp only at hSw); have c9 := hSw.cell 6; clear hSw; go_simp⟩) (by assumption) ?_
  simp only [List.getElem_toArray, List.getElem_cons_zero, List.getElem_cons_succ, Act.put, List.setIfInBounds_toArray, List.set_cons_zero, List.set_cons_succ]
  refine wpAnyH_ready (rs := [6]) (by kernel_rfl) (by simp) ?_
  refine AllReadyH.cons rfl (fun K hK => ?_) (AllReadyH.nil)
  go_simp
  have b9 := (Below.refl X0.heap.size X0).alloc (Nat.le_refl _) (.cells #[] 5)
  have O1 : (X0.alloc (.cells #[] 5)).ownsRow (w.heap.size + 2) 5 1 (.slice (some ⟨X0.heap.size, 0, none⟩) 0 0) 0 [] := World.ownsRow_made X0 #[] 0 (show w.heap.size + 2 ≤ X0.heap.size from K2.lt) (by unfold maxLen; omega) rfl
  generalize X0.alloc (.cells #[] 5) = X1 at *
  replace K1 := K1.below b9 K1.lt
  replace K2 := K2.below b9 K2.lt
  replace BX := Base.thenB BX b9
  clear b9
  refine hK.out _ _ K1 (fun hHeld => ?_)
  clear hK K
  try simp only [List.getElem_toArray, List.getElem_cons_zero, List.getElem_cons_succ, Act.put, List.setIfInBounds_toArray, List.set_cons_zero, List.set_cons_succ]
  refine wpAnyH_ready (rs := [9]) (by kernel_rfl) (by simp) ?_
  refine AllReadyH.cons rfl (fun K hK => ?_) (AllReadyH.nil)
  refine step_append_rows rfl (.tmp 9) (.tmp 11) 25 rfl (w.heap.size + 2) 5 iEu8 _ 1 1 Tryd.underlying25 hiu8 hzu8 hsu8 hbu8 hcu8 (by decide) (.slice (some ⟨X0.heap.size, 0, none⟩) 0 0) 0 [] rfl O1 w.heap.size AX (p.ds.length) cX (p.ds.map (Value.int .u8)) rfl (by simp) (by intro u hu; simp at hu; obtain ⟨z, _, rfl⟩ := hu; rfl) (CellsAt.below HC.out BX) (by unfold maxLen; omega) (by omega) (show w.heap.size + 2 ≤ X1.heap.size from K2.lt) ?_
  intro v9 X2 O9 b9 g9
  obtain ⟨A1, c1, rfl⟩ := own_form O9
  simp only [Nat.zero_add, List.nil_append] at O9 ⊢
  have RV := Row.own O9
  clear O9 g9
  replace K1 := K1.below b9 (by omega)
  replace K2 := K2.below b9 (by omega)
  replace BX := BX.trans (b9.mono (by omega))
  clear b9
  refine hK.out _ _ K1 (fun hHeld => ?_)
  clear hK K
  try simp only [List.getElem_toArray, List.getElem_cons_zero, List.getElem_cons_succ, Act.put, List.setIfInBounds_toArray, List.set_cons_zero, List.set_cons_succ]
  refine wpAnyH_take (i := 10) (v := .agg #[.int .i64 p.k, .int .i64 p.ok, .int .u64 p.ob, .int .i64 p.tk, .int .u64 p.tb, .slice A1 p.ds.length c1, .int .u32 0, .int .u32 0, .int .i64 0, .int .i64 0, .int .i64 0, .int .i64 0, .int .i64 0, .int .u64 0, .int .i64 0, .int .i64 0, .int .i64 0]) rfl (by kernel_rfl) (by kernel_rfl) (by kernel_rfl) (fun _ _ _ h => h) (Av.yields_build (by first | rfl | go_simp) _ _ rfl #[.int .i64 p.k, .int .i64 p.ok, .int .u64 p.ob, .int .i64 p.tk, .int .u64 p.tb, .slice A1 p.ds.length c1, .int .u32 0, .int .u32 0, .int .i64 0, .int .i64 0, .int .i64 0, .int .i64 0, .int .i64 0, .int .u64 0, .int .i64 0, .int .i64 0, .int .i64 0] (by kernel_rfl)) (by assumption) ?_
  simp only [List.getElem_toArray, List.getElem_cons_zero, List.getElem_cons_succ, Act.put, List.setIfInBounds_toArray, List.set_cons_zero, List.set_cons_succ]
  refine wpAnyH_ready (rs := [11]) (by kernel_rfl) (by simp) ?_
  refine AllReadyH.cons rfl (fun K hK => ?_) (AllReadyH.nil)
  have H9 : (#[.int .i64 p.k, .int .i64 p.ok, .int .u64 p.ob, .int .i64 p.tk, .int .u64 p.tb, .slice A1 p.ds.length c1, .int .u32 0, .int .u32 0, .int .i64 0, .int .i64 0, .int .i64 0, .int .i64 0, .int .i64 0, .int .u64 0, .int .i64 0, .int .i64 0, .int .i64 0] : Array Value).all (·.oneCell') = true := by rw [← Array.all_toList]; rfl
  refine Av.step_store_row rfl 52 (.tmp 2) (.tmp 13) rfl (w.heap.size + 1) #[.int .i64 p.k, .int .i64 p.ok, .int .u64 p.ob, .int .i64 p.tk, .int .u64 p.tb, .slice A1 p.ds.length c1, .int .u32 0, .int .u32 0, .int .i64 0, .int .i64 0, .int .i64 0, .int .i64 0, .int .i64 0, .int .u64 0, .int .i64 0, .int .i64 0, .int .i64 0] rfl rfl 52 _ K2 (by kernel_rfl) rfl H9 ?_
  replace K1 : Blk (X2.setRow (w.heap.size + 1) #[.int .i64 p.k, .int .i64 p.ok, .int .u64 p.ob, .int .i64 p.tk, .int .u64 p.tb, .slice A1 p.ds.length c1, .int .u32 0, .int .u32 0, .int .i64 0, .int .i64 0, .int .i64 0, .int .i64 0, .int .i64 0, .int .u64 0, .int .i64 0, .int .i64 0, .int .i64 0]) (w.heap.size) 29 #[.int .i64 p.k, .int .i64 p.it, .int .i64 p.ok, .int .u64 p.ob, .int .i64 p.tk, .int .u64 p.tb, .slice AX p.ds.length cX, VS, .int .i64 p.po, VA, VI, .int .u64 p.sd] := Av.bother_row K1 (by omega)
  replace K2 : Blk (X2.setRow (w.heap.size + 1) #[.int .i64 p.k, .int .i64 p.ok, .int .u64 p.ob, .int .i64 p.tk, .int .u64 p.tb, .slice A1 p.ds.length c1, .int .u32 0, .int .u32 0, .int .i64 0, .int .i64 0, .int .i64 0, .int .i64 0, .int .i64 0, .int .u64 0, .int .i64 0, .int .i64 0, .int .i64 0]) (w.heap.size + 1) 52 #[.int .i64 p.k, .int .i64 p.ok, .int .u64 p.ob, .int .i64 p.tk, .int .u64 p.tb, .slice A1 p.ds.length c1, .int .u32 0, .int .u32 0, .int .i64 0, .int .i64 0, .int .i64 0, .int .i64 0, .int .i64 0, .int .u64 0, .int .i64 0, .int .i64 0, .int .i64 0] := Av.bset_row K2
  replace BX : Below w.heap.size w (X2.setRow (w.heap.size + 1) #[.int .i64 p.k, .int .i64 p.ok, .int .u64 p.ob, .int .i64 p.tk, .int .u64 p.tb, .slice A1 p.ds.length c1, .int .u32 0, .int .u32 0, .int .i64 0, .int .i64 0, .int .i64 0, .int .i64 0, .int .i64 0, .int .u64 0, .int .i64 0, .int .i64 0, .int .i64 0]) := below_setRow BX (by omega) _
  replace RV := Row.farR (cs := #[.int .i64 p.k, .int .i64 p.ok, .int .u64 p.ob, .int .i64 p.tk, .int .u64 p.tb, .slice A1 p.ds.length c1, .int .u32 0, .int .u32 0, .int .i64 0, .int .i64 0, .int .i64 0, .int .i64 0, .int .i64 0, .int .u64 0, .int .i64 0, .int .i64 0, .int .i64 0]) RV (show w.heap.size + 1 < w.heap.size + 2 by omega)
  clear H9
  generalize X2.setRow (w.heap.size + 1) #[.int .i64 p.k, .int .i64 p.ok, .int .u64 p.ob, .int .i64 p.tk, .int .u64 p.tb, .slice A1 p.ds.length c1, .int .u32 0, .int .u32 0, .int .i64 0, .int .i64 0, .int .i64 0, .int .i64 0, .int .i64 0, .int .u64 0, .int .i64 0, .int .i64 0, .int .i64 0] = X3 at *
  refine hK.out _ _ K1 (fun hHeld => ?_)
  clear hK K
  try simp only [List.getElem_toArray, List.getElem_cons_zero, List.getElem_cons_succ, Act.put, List.setIfInBounds_toArray, List.set_cons_zero, List.set_cons_succ]
  refine wpAnyH_done (by kernel_rfl) ?_ _
  go_wp2_with fail
  refine bodyPost_ret (v := .agg #[.int .i64 p.k, .int .i64 p.ok, .int .u64 p.ob, .int .i64 p.tk, .int .u64 p.tb, .slice A1 p.ds.length c1, .int .u32 0, .int .u32 0, .int .i64 0, .int .i64 0, .int .i64 0, .int .i64 0, .int .i64 0, .int .u64 0, .int .i64 0, .int .i64 0, .int .i64 0]) ?_ rfl ⟨_, rfl, RV.less (by omega), BX⟩
  clear hHeld
  have HL := run_loadVar_row (P := Tryd.prog) X3 (w.heap.size + 1) 52 52 #[.int .i64 p.k, .int .i64 p.ok, .int .u64 p.ob, .int .i64 p.tk, .int .u64 p.tb, .slice A1 p.ds.length c1, .int .u32 0, .int .u32 0, .int .i64 0, .int .i64 0, .int .i64 0, .int .i64 0, .int .i64 0, .int .u64 0, .int .i64 0, .int .i64 0, .int .i64 0] (0, 0) _ K2 Tryd.underlying52 rfl (by kernel_rfl)
  generalize (#[.int .i64 p.k, .int .i64 p.ok, .int .u64 p.ob, .int .i64 p.tk, .int .u64 p.tb, .slice A1 p.ds.length c1, .int .u32 0, .int .u32 0, .int .i64 0, .int .i64 0, .int .i64 0, .int .i64 0, .int .i64 0, .int .u64 0, .int .i64 0, .int .i64 0, .int .i64 0] : Array Value) = CS at *
  simp [results, show (Tryd.f44).results = #[.cell 2 52] from rfl, asAddr, HL, Act.put]
set_option maxRecDepth 100000 in
set_option maxHeartbeats 4000000 in
theorem rscan_any (p : Pm) (VD VS VA VI : Value) (m : Nat) (w : World) (hW : PW p) (hH : Has w m p VD VS VA VI) :
    Calls Tryd.prog 45 #[.agg (pcel p VD VS VA VI)] w fun e w' => PduR w w' e (ansP p) := by
  obtain ⟨AX, cX, rfl, _, hX⟩ := hH.s.cells
  have HC := Lib.hid hX
  have hbnd := hW.nsc
  obtain ⟨iEu8, hiu8, hzu8, hsu8, hbu8, hcu8⟩ := info_parts2 Base.info_u8 rfl
  have BX : Below w.heap.size w ((w.alloc (.cells #[.int .i64 p.k, .int .i64 p.it, .int .i64 p.ok, .int .u64 p.ob, .int .i64 p.tk, .int .u64 p.tb, VD, .slice AX p.sc.length cX, .int .i64 p.po, VA, VI, .int .u64 p.sd] 29)).alloc (.cells #[.int .i64 0, .int .i64 0, .int .u64 0, .int .i64 0, .int .u64 0, .slice none 0 0, .int .u32 0, .int .u32 0, .int .i64 0, .int .i64 0, .int .i64 0, .int .i64 0, .int .i64 0, .int .u64 0, .int .i64 0, .int .i64 0, .int .i64 0] 52)) := ((Below.refl _ _).alloc (Nat.le_refl _) _).alloc (by simp) _
  have K1 : Blk ((w.alloc (.cells #[.int .i64 p.k, .int .i64 p.it, .int .i64 p.ok, .int .u64 p.ob, .int .i64 p.tk, .int .u64 p.tb, VD, .slice AX p.sc.length cX, .int .i64 p.po, VA, VI, .int .u64 p.sd] 29)).alloc (.cells #[.int .i64 0, .int .i64 0, .int .u64 0, .int .i64 0, .int .u64 0, .slice none 0 0, .int .u32 0, .int .u32 0, .int .i64 0, .int .i64 0, .int .i64 0, .int .i64 0, .int .i64 0, .int .u64 0, .int .i64 0, .int .i64 0, .int .i64 0] 52)) (w.heap.size) 29 #[.int .i64 p.k, .int .i64 p.it, .int .i64 p.ok, .int .u64 p.ob, .int .i64 p.tk, .int .u64 p.tb, VD, .slice AX p.sc.length cX, .int .i64 p.po, VA, VI, .int .u64 p.sd] := (Blk.fresh w 29 #[.int .i64 p.k, .int .i64 p.it, .int .i64 p.ok, .int .u64 p.ob, .int .i64 p.tk, .int .u64 p.tb, VD, .slice AX p.sc.length cX, .int .i64 p.po, VA, VI, .int .u64 p.sd]).alloc _
  have K2 : Blk ((w.alloc (.cells #[.int .i64 p.k, .int .i64 p.it, .int .i64 p.ok, .int .u64 p.ob, .int .i64 p.tk, .int .u64 p.tb, VD, .slice AX p.sc.length cX, .int .i64 p.po, VA, VI, .int .u64 p.sd] 29)).alloc (.cells #[.int .i64 0, .int .i64 0, .int .u64 0, .int .i64 0, .int .u64 0, .slice none 0 0, .int .u32 0, .int .u32 0, .int .i64 0, .int .i64 0, .int .i64 0, .int .i64 0, .int .i64 0, .int .u64 0, .int .i64 0, .int .i64 0, .int .i64 0] 52)) (w.heap.size + 1) 52 #[.int .i64 0, .int .i64 0, .int .u64 0, .int .i64 0, .int .u64 0, .slice none 0 0, .int .u32 0, .int .u32 0, .int .i64 0, .int .i64 0, .int .i64 0, .int .i64 0, .int .i64 0, .int .u64 0, .int .i64 0, .int .i64 0, .int .i64 0] := Av.Blk.next
  clear hW hH hX
  go_enter Tryd.func45, Tryd.ntmps45
  go_upto_region 1 with (fail)
  generalize (w.alloc (.cells #[.int .i64 p.k, .int .i64 p.it, .int .i64 p.ok, .int .u64 p.ob, .int .i64 p.tk, .int .u64 p.tb, VD, .slice AX p.sc.length cX, .int .i64 p.po, VA, VI, .int .u64 p.sd] 29)).alloc (.cells #[.int .i64 0, .int .i64 0, .int .u64 0, .int .i64 0, .int .u64 0, .slice none 0 0, .int .u32 0, .int .u32 0, .int .i64 0, .int .i64 0, .int .i64 0, .int .i64 0, .int .i64 0, .int .u64 0, .int .i64 0, .int .i64 0, .int .i64 0] 52) = W0 at *
  refine wp_region_held_drew (S := (fun w' => Blk w' (w.heap.size) 29 #[.int .i64 p.k, .int .i64 p.it, .int .i64 p.ok, .int .u64 p.ob, .int .i64 p.tk, .int .u64 p.tb, VD, .slice AX p.sc.length cX, .int .i64 p.po, VA, VI, .int .u64 p.sd])) (by kernel_rfl) ?_ (fun hHeld => ?_)
  · exact K1
  replace K1 : Blk W0.drew (w.heap.size) 29 #[.int .i64 p.k, .int .i64 p.it, .int .i64 p.ok, .int .u64 p.ob, .int .i64 p.tk, .int .u64 p.tb, VD, .slice AX p.sc.length cX, .int .i64 p.po, VA, VI, .int .u64 p.sd] := K1
  replace K2 : Blk W0.drew (w.heap.size + 1) 52 #[.int .i64 0, .int .i64 0, .int .u64 0, .int .i64 0, .int .u64 0, .slice none 0 0, .int .u32 0, .int .u32 0, .int .i64 0, .int .i64 0, .int .i64 0, .int .i64 0, .int .i64 0, .int .u64 0, .int .i64 0, .int .i64 0, .int .i64 0] := K2
  replace BX : Below w.heap.size w W0.drew := BX.drew
  generalize W0.drew = X0 at *
  refine wpAnyH_take (i := 0) (v := .pointer (some ⟨w.heap.size, 2, none⟩)) rfl (by kernel_rfl) (by kernel_rfl) (by kernel_rfl) (fun _ _ _ h => h) (Or.inl ⟨by first | rfl | go_simp, by intro w9 hSw; (try dsimp only at hSw); go_simp⟩) (by assumption) ?_
  simp only [List.getElem_toArray, List.getElem_cons_zero, List.getElem_cons_succ, Act.put, List.setIfInBounds_toArray, List.set_cons_zero, List.set_cons_succ]
  refine wpAnyH_take (i := 1) (v := .agg #[.int .i64 p.ok, .int .u64 p.ob]) rfl (by kernel_rfl) (by kernel_rfl) (by kernel_rfl) (fun _ _ _ h => h) (Av.yields_part (by first | rfl | go_simp) _ _ rfl (w.heap.size) 2 rfl #[.int .i64 p.ok, .int .u64 p.ob] _ 29 #[.int .i64 p.k, .int .i64 p.it, .int .i64 p.ok, .int .u64 p.ob, .int .i64 p.tk, .int .u64 p.tb, VD, .slice AX p.sc.length cX, .int .i64 p.po, VA, VI, .int .u64 p.sd] (fun w9 hSw => hSw) rfl Tryd.underlying24 rfl (by kernel_rfl)) (by assumption) ?_
  simp only [List.getElem_toArray, List.getElem_cons_zero, List.getElem_cons_succ, Act.put, List.setIfInBounds_toArray, List.set_cons_zero, List.set_cons_succ]
  refine wpAnyH_take (i := 3) (v := .pointer (some ⟨w.heap.size, 7, none⟩)) rfl (by kernel_rfl) (by kernel_rfl) (by kernel_rfl) (fun _ _ _ h => h) (Or.inl ⟨by first | rfl | go_simp, by intro w9 hSw; (try dsimp only at hSw); go_simp⟩) (by assumption) ?_
  simp only [List.getElem_toArray, List.getElem_cons_zero, List.getElem_cons_succ, Act.put, List.setIfInBounds_toArray, List.set_cons_zero, List.set_cons_succ]
  refine wpAnyH_take (i := 4) (v := .slice AX p.sc.length cX) rfl (by kernel_rfl) (by kernel_rfl) (by kernel_rfl) (fun _ _ _ h => h) (Or.inl ⟨by first | rfl | go_simp, by intro w9 hSw; (try dsimp only at hSw); have c9 := hSw.cell 7; clear hSw; go_simp⟩) (by assumption) ?_
  simp only [List.getElem_toArray, List.getElem_cons_zero, List.getElem_cons_succ, Act.put, List.setIfInBounds_toArray, List.set_cons_zero, List.set_cons_succ]
  refine wpAnyH_ready (rs := [2]) (by kernel_rfl) (by simp) ?_
  refine AllReadyH.cons rfl (fun K hK => ?_) (AllReadyH.nil)
  go_simp
  have b9 := (Below.refl X0.heap.size X0).alloc (Nat.le_refl _) (.cells #[] 5)
  have O1 : (X0.alloc (.cells #[] 5)).ownsRow (w.heap.size + 2) 5 1 (.slice (some ⟨X0.heap.size, 0, none⟩) 0 0) 0 [] := World.ownsRow_made X0 #[] 0 (show w.heap.size + 2 ≤ X0.heap.size from K2.lt) (by unfold maxLen; omega) rfl
  generalize X0.alloc (.cells #[] 5) = X1 at *
  replace K1 := K1.below b9 K1.lt
  replace K2 := K2.below b9 K2.lt
  replace BX := Base.thenB BX b9
  clear b9
  refine hK.out _ _ K1 (fun hHeld => ?_)
  clear hK K
  try simp only [List.getElem_toArray, List.getElem_cons_zero, List.getElem_cons_succ, Act.put, List.setIfInBounds_toArray, List.set_cons_zero, List.set_cons_succ]
  refine wpAnyH_ready (rs := [5]) (by kernel_rfl) (by simp) ?_
  refine AllReadyH.cons rfl (fun K hK => ?_) (AllReadyH.nil)
  refine step_append_rows rfl (.tmp 5) (.tmp 7) 25 rfl (w.heap.size + 2) 5 iEu8 _ 1 1 Tryd.underlying25 hiu8 hzu8 hsu8 hbu8 hcu8 (by decide) (.slice (some ⟨X0.heap.size, 0, none⟩) 0 0) 0 [] rfl O1 w.heap.size AX (p.sc.length) cX (p.sc.map (Value.int .u8)) rfl (by simp) (by intro u hu; simp at hu; obtain ⟨z, _, rfl⟩ := hu; rfl) (CellsAt.below HC.out BX) (by unfold maxLen; omega) (by omega) (show w.heap.size + 2 ≤ X1.heap.size from K2.lt) ?_
  intro v9 X2 O9 b9 g9
  obtain ⟨A1, c1, rfl⟩ := own_form O9
  simp only [Nat.zero_add, List.nil_append] at O9 ⊢
  have RV := Row.own O9
  clear O9 g9
  replace K1 := K1.below b9 (by omega)
  replace K2 := K2.below b9 (by omega)
  replace BX := BX.trans (b9.mono (by omega))
  clear b9
  refine hK.out _ _ K1 (fun hHeld => ?_)
  clear hK K
  try simp only [List.getElem_toArray, List.getElem_cons_zero, List.getElem_cons_succ, Act.put, List.setIfInBounds_toArray, List.set_cons_zero, List.set_cons_succ]
  refine wpAnyH_take (i := 6) (v := .agg #[.int .i64 4, .int .i64 p.ok, .int .u64 p.ob, .int .i64 0, .int .u64 0, .slice A1 p.sc.length c1, .int .u32 0, .int .u32 0, .int .i64 0, .int .i64 0, .int .i64 0, .int .i64 0, .int .i64 0, .int .u64 0, .int .i64 0, .int .i64 0, .int .i64 0]) rfl (by kernel_rfl) (by kernel_rfl) (by kernel_rfl) (fun _ _ _ h => h) (Av.yields_build (by first | rfl | go_simp) _ _ rfl #[.int .i64 4, .int .i64 p.ok, .int .u64 p.ob, .int .i64 0, .int .u64 0, .slice A1 p.sc.length c1, .int .u32 0, .int .u32 0, .int .i64 0, .int .i64 0, .int .i64 0, .int .i64 0, .int .i64 0, .int .u64 0, .int .i64 0, .int .i64 0, .int .i64 0] (by kernel_rfl)) (by assumption) ?_
  simp only [List.getElem_toArray, List.getElem_cons_zero, List.getElem_cons_succ, Act.put, List.setIfInBounds_toArray, List.set_cons_zero, List.set_cons_succ]
  refine wpAnyH_ready (rs := [7]) (by kernel_rfl) (by simp) ?_
  refine AllReadyH.cons rfl (fun K hK => ?_) (AllReadyH.nil)
  have H9 : (#[.int .i64 4, .int .i64 p.ok, .int .u64 p.ob, .int .i64 0, .int .u64 0, .slice A1 p.sc.length c1, .int .u32 0, .int .u32 0, .int .i64 0, .int .i64 0, .int .i64 0, .int .i64 0, .int .i64 0, .int .u64 0, .int .i64 0, .int .i64 0, .int .i64 0] : Array Value).all (·.oneCell') = true := by rw [← Array.all_toList]; rfl
  refine Av.step_store_row rfl 52 (.tmp 2) (.tmp 9) rfl (w.heap.size + 1) #[.int .i64 4, .int .i64 p.ok, .int .u64 p.ob, .int .i64 0, .int .u64 0, .slice A1 p.sc.length c1, .int .u32 0, .int .u32 0, .int .i64 0, .int .i64 0, .int .i64 0, .int .i64 0, .int .i64 0, .int .u64 0, .int .i64 0, .int .i64 0, .int .i64 0] rfl rfl 52 _ K2 (by kernel_rfl) rfl H9 ?_
  replace K1 : Blk (X2.setRow (w.heap.size + 1) #[.int .i64 4, .int .i64 p.ok, .int .u64 p.ob, .int .i64 0, .int .u64 0, .slice A1 p.sc.length c1, .int .u32 0, .int .u32 0, .int .i64 0, .int .i64 0, .int .i64 0, .int .i64 0, .int .i64 0, .int .u64 0, .int .i64 0, .int .i64 0, .int .i64 0]) (w.heap.size) 29 #[.int .i64 p.k, .int .i64 p.it, .int .i64 p.ok, .int .u64 p.ob, .int .i64 p.tk, .int .u64 p.tb, VD, .slice AX p.sc.length cX, .int .i64 p.po, VA, VI, .int .u64 p.sd] := Av.bother_row K1 (by omega)
  replace K2 : Blk (X2.setRow (w.heap.size + 1) #[.int .i64 4, .int .i64 p.ok, .int .u64 p.ob, .int .i64 0, .int .u64 0, .slice A1 p.sc.length c1, .int .u32 0, .int .u32 0, .int .i64 0, .int .i64 0, .int .i64 0, .int .i64 0, .int .i64 0, .int .u64 0, .int .i64 0, .int .i64 0, .int .i64 0]) (w.heap.size + 1) 52 #[.int .i64 4, .int .i64 p.ok, .int .u64 p.ob, .int .i64 0, .int .u64 0, .slice A1 p.sc.length c1, .int .u32 0, .int .u32 0, .int .i64 0, .int .i64 0, .int .i64 0, .int .i64 0, .int .i64 0, .int .u64 0, .int .i64 0, .int .i64 0, .int .i64 0] := Av.bset_row K2
  replace BX : Below w.heap.size w (X2.setRow (w.heap.size + 1) #[.int .i64 4, .int .i64 p.ok, .int .u64 p.ob, .int .i64 0, .int .u64 0, .slice A1 p.sc.length c1, .int .u32 0, .int .u32 0, .int .i64 0, .int .i64 0, .int .i64 0, .int .i64 0, .int .i64 0, .int .u64 0, .int .i64 0, .int .i64 0, .int .i64 0]) := below_setRow BX (by omega) _
  replace RV := Row.farR (cs := #[.int .i64 4, .int .i64 p.ok, .int .u64 p.ob, .int .i64 0, .int .u64 0, .slice A1 p.sc.length c1, .int .u32 0, .int .u32 0, .int .i64 0, .int .i64 0, .int .i64 0, .int .i64 0, .int .i64 0, .int .u64 0, .int .i64 0, .int .i64 0, .int .i64 0]) RV (show w.heap.size + 1 < w.heap.size + 2 by omega)
  clear H9
  generalize X2.setRow (w.heap.size + 1) #[.int .i64 4, .int .i64 p.ok, .int .u64 p.ob, .int .i64 0, .int .u64 0, .slice A1 p.sc.length c1, .int .u32 0, .int .u32 0, .int .i64 0, .int .i64 0, .int .i64 0, .int .i64 0, .int .i64 0, .int .u64 0, .int .i64 0, .int .i64 0, .int .i64 0] = X3 at *
  refine hK.out _ _ K1 (fun hHeld => ?_)
  clear hK K
  try simp only [List.getElem_toArray, List.getElem_cons_zero, List.getElem_cons_succ, Act.put, List.setIfInBounds_toArray, List.set_cons_zero, List.set_cons_succ]
  refine wpAnyH_done (by kernel_rfl) ?_ _
  go_wp2_with fail
  refine bodyPost_ret (v := .agg #[.int .i64 4, .int .i64 p.ok, .int .u64 p.ob, .int .i64 0, .int .u64 0, .slice A1 p.sc.length c1, .int .u32 0, .int .u32 0, .int .i64 0, .int .i64 0, .int .i64 0, .int .i64 0, .int .i64 0, .int .u64 0, .int .i64 0, .int .i64 0, .int .i64 0]) ?_ rfl ⟨_, rfl, RV.less (by omega), BX⟩
  clear hHeld
  have HL := run_loadVar_row (P := Tryd.prog) X3 (w.heap.size + 1) 52 52 #[.int .i64 4, .int .i64 p.ok, .int .u64 p.ob, .int .i64 0, .int .u64 0, .slice A1 p.sc.length c1, .int .u32 0, .int .u32 0, .int .i64 0, .int .i64 0, .int .i64 0, .int .i64 0, .int .i64 0, .int .u64 0, .int .i64 0, .int .i64 0, .int .i64 0] (0, 0) _ K2 Tryd.underlying52 rfl (by kernel_rfl)
  generalize (#[.int .i64 4, .int .i64 p.ok, .int .u64 p.ob, .int .i64 0, .int .u64 0, .slice A1 p.sc.length c1, .int .u32 0, .int .u32 0, .int .i64 0, .int .i64 0, .int .i64 0, .int .i64 0, .int .i64 0, .int .u64 0, .int .i64 0, .int .i64 0, .int .i64 0] : Array Value) = CS at *
  simp [results, show (Tryd.f45).results = #[.cell 2 52] from rfl, asAddr, HL, Act.put]
/-- What Start returns. -/
def StaR (w w' : World) (e : Ending) (a : Ad) (x : Int) : Prop := ∃ VD VS VA VI, e = .returned (.tuple #[.agg (vcel a VD VS VA VI), .int .i64 x]) ∧ Has w' w.heap.size a.p VD VS VA VI ∧ Below w.heap.size w w'
theorem start_ok {p : Pm} {l : Int} (h : stE p = 0) : startA p l = ⟨p, true, 0, plc l⟩ := by unfold startA; rw [if_pos h]
theorem start_no {p : Pm} {l : Int} (h : ¬ stE p = 0) : startA p l = zeroA := by unfold startA; rw [if_neg h]
set_option maxRecDepth 100000 in
set_option maxHeartbeats 4000000 in
theorem start_any (p : Pm) (VD VS VA VI : Value) (l : Int) (m : Nat) (w : World) (hW : PW p) (hH : Has w m p VD VS VA VI) (hT : Adr.Tab w) :
    Calls Tryd.prog 14 #[.agg (pcel p VD VS VA VI), .int .i64 l] w fun e w' => StaR w w' e (startA p l) (stE p) := by
  have oVD := hH.d.one
  have oVS := hH.s.one
  have oVA := hH.a.one
  have oVI := hH.i.one
  have BX : Below w.heap.size w ((w.alloc (.cells #[.int .i64 p.k, .int .i64 p.it, .int .i64 p.ok, .int .u64 p.ob, .int .i64 p.tk, .int .u64 p.tb, VD, VS, .int .i64 p.po, VA, VI, .int .u64 p.sd] 29)).alloc (.cells #[.int .i64 0, .int .i64 0, .int .i64 0, .int .u64 0, .int .i64 0, .int .u64 0, .slice none 0 0, .slice none 0 0, .int .i64 0, .slice none 0 0, .slice none 0 0, .int .u64 0, .bool false, .int .i64 0, .int .i64 0] 33)) := ((Below.refl _ _).alloc (Nat.le_refl _) _).alloc (by simp) _
  have K1 : Blk ((w.alloc (.cells #[.int .i64 p.k, .int .i64 p.it, .int .i64 p.ok, .int .u64 p.ob, .int .i64 p.tk, .int .u64 p.tb, VD, VS, .int .i64 p.po, VA, VI, .int .u64 p.sd] 29)).alloc (.cells #[.int .i64 0, .int .i64 0, .int .i64 0, .int .u64 0, .int .i64 0, .int .u64 0, .slice none 0 0, .slice none 0 0, .int .i64 0, .slice none 0 0, .slice none 0 0, .int .u64 0, .bool false, .int .i64 0, .int .i64 0] 33)) (w.heap.size) 29 #[.int .i64 p.k, .int .i64 p.it, .int .i64 p.ok, .int .u64 p.ob, .int .i64 p.tk, .int .u64 p.tb, VD, VS, .int .i64 p.po, VA, VI, .int .u64 p.sd] := (Blk.fresh w 29 #[.int .i64 p.k, .int .i64 p.it, .int .i64 p.ok, .int .u64 p.ob, .int .i64 p.tk, .int .u64 p.tb, VD, VS, .int .i64 p.po, VA, VI, .int .u64 p.sd]).alloc _
  have K2 : Blk ((w.alloc (.cells #[.int .i64 p.k, .int .i64 p.it, .int .i64 p.ok, .int .u64 p.ob, .int .i64 p.tk, .int .u64 p.tb, VD, VS, .int .i64 p.po, VA, VI, .int .u64 p.sd] 29)).alloc (.cells #[.int .i64 0, .int .i64 0, .int .i64 0, .int .u64 0, .int .i64 0, .int .u64 0, .slice none 0 0, .slice none 0 0, .int .i64 0, .slice none 0 0, .slice none 0 0, .int .u64 0, .bool false, .int .i64 0, .int .i64 0] 33)) (w.heap.size + 1) 33 #[.int .i64 0, .int .i64 0, .int .i64 0, .int .u64 0, .int .i64 0, .int .u64 0, .slice none 0 0, .slice none 0 0, .int .i64 0, .slice none 0 0, .slice none 0 0, .int .u64 0, .bool false, .int .i64 0, .int .i64 0] := Av.Blk.next
  have HK : Hid (∀ X, Below w.heap.size w X → Calls Tryd.prog 40 #[.agg (pcel p VD VS VA VI)] X fun e w' => e = .returned (.int .i64 (stE p)) ∧ Below X.heap.size X w') := Lib.hid fun X b => check_any p _ _ _ _ m X hW (hH.below b) (hT.below b)
  have HM := Lib.hid (fun X => moment_any l X)
  have HCp : Hid (∀ X, Below w.heap.size w X → Calls Tryd.prog 41 #[.agg (vcel ⟨p, true, 0, plc l⟩ VD VS VA VI)] X fun e w' => AdvR X w' e ⟨p, true, 0, plc l⟩) := Lib.hid fun X b => copied_any ⟨p, true, 0, plc l⟩ _ _ _ _ m X hW (hH.below b)
  have HO := Lib.hid (@start_ok p l)
  have HN := Lib.hid (@start_no p l)
  clear hW hH hT
  generalize stE p = E at *
  generalize startA p l = AA at *
  generalize plc l = L at *
  go_enter Tryd.func14, Tryd.ntmps14
  go_wp2_with (refine wpList_load_row rfl 29 (.tmp 2) rfl (w.heap.size) rfl 29 _ (0, 0) _ K1 Tryd.underlying29 rfl (by kernel_rfl) ?_)
  generalize (w.alloc (.cells #[.int .i64 p.k, .int .i64 p.it, .int .i64 p.ok, .int .u64 p.ob, .int .i64 p.tk, .int .u64 p.tb, VD, VS, .int .i64 p.po, VA, VI, .int .u64 p.sd] 29)).alloc (.cells #[.int .i64 0, .int .i64 0, .int .i64 0, .int .u64 0, .int .i64 0, .int .u64 0, .slice none 0 0, .slice none 0 0, .int .i64 0, .slice none 0 0, .slice none 0 0, .int .u64 0, .bool false, .int .i64 0, .int .i64 0] 33) = W0 at *
  refine (HK.out W0 BX).mono ?_
  rintro e W1 ⟨rfl, b1⟩
  have BX := thenB BX b1
  have K1 := K1.below b1 K1.lt
  have K2 := K2.below b1 K2.lt
  clear b1
  by_cases h0 : E = 0
  · have HQ := Lib.hid (HO.out h0)
    subst h0
    go_upto_region 4 with (fail)
    refine wp_region_held_drew (S := (fun w' => Blk w' (w.heap.size) 29 #[.int .i64 p.k, .int .i64 p.it, .int .i64 p.ok, .int .u64 p.ob, .int .i64 p.tk, .int .u64 p.tb, VD, VS, .int .i64 p.po, VA, VI, .int .u64 p.sd])) (by kernel_rfl) ?_ (fun hHeld => ?_)
    · exact K1
    replace K1 : Blk W1.drew (w.heap.size) 29 #[.int .i64 p.k, .int .i64 p.it, .int .i64 p.ok, .int .u64 p.ob, .int .i64 p.tk, .int .u64 p.tb, VD, VS, .int .i64 p.po, VA, VI, .int .u64 p.sd] := K1
    replace K2 : Blk W1.drew (w.heap.size + 1) 33 #[.int .i64 0, .int .i64 0, .int .i64 0, .int .u64 0, .int .i64 0, .int .u64 0, .slice none 0 0, .slice none 0 0, .int .i64 0, .slice none 0 0, .slice none 0 0, .int .u64 0, .bool false, .int .i64 0, .int .i64 0] := K2
    replace BX : Below w.heap.size w W1.drew := BX.drew
    generalize W1.drew = X0 at *
    refine wpAnyH_take (i := 0) (v := .agg #[.int .i64 p.k, .int .i64 p.it, .int .i64 p.ok, .int .u64 p.ob, .int .i64 p.tk, .int .u64 p.tb, VD, VS, .int .i64 p.po, VA, VI, .int .u64 p.sd]) rfl (by kernel_rfl) (by kernel_rfl) (by kernel_rfl) (fun _ _ _ h => h) (Av.yields_part (by first | rfl | go_simp) _ _ rfl (w.heap.size) 0 rfl #[.int .i64 p.k, .int .i64 p.it, .int .i64 p.ok, .int .u64 p.ob, .int .i64 p.tk, .int .u64 p.tb, VD, VS, .int .i64 p.po, VA, VI, .int .u64 p.sd] _ 29 #[.int .i64 p.k, .int .i64 p.it, .int .i64 p.ok, .int .u64 p.ob, .int .i64 p.tk, .int .u64 p.tb, VD, VS, .int .i64 p.po, VA, VI, .int .u64 p.sd] (fun w9 hSw => hSw) rfl Tryd.underlying29 rfl (by kernel_rfl)) (by assumption) ?_
    simp only [List.getElem_toArray, List.getElem_cons_zero, List.getElem_cons_succ, Act.put, List.setIfInBounds_toArray, List.set_cons_zero, List.set_cons_succ]
    refine wpAnyH_take (i := 1) (v := .int .i64 l) rfl (by kernel_rfl) (by kernel_rfl) (by kernel_rfl) (fun _ _ _ h => h) (Or.inl ⟨by first | rfl | go_simp, by intro w9 hSw; (try dsimp only at hSw); go_simp⟩) (by assumption) ?_
    simp only [List.getElem_toArray, List.getElem_cons_zero, List.getElem_cons_succ, Act.put, List.setIfInBounds_toArray, List.set_cons_zero, List.set_cons_succ]
    refine wpAnyH_ready (rs := [2]) (by kernel_rfl) (by simp) ?_
    refine AllReadyH.cons rfl (fun K hK => ?_) (AllReadyH.nil)
    go_simp
    refine (HM.out X0).mono ?_
    rintro e X1 ⟨rfl, rfl⟩
    refine hK.out _ _ K1 (fun hHeld => ?_)
    clear hK K
    try simp only [List.getElem_toArray, List.getElem_cons_zero, List.getElem_cons_succ, Act.put, List.setIfInBounds_toArray, List.set_cons_zero, List.set_cons_succ]
    refine wpAnyH_take (i := 3) (v := .agg #[.int .i64 p.k, .int .i64 p.it, .int .i64 p.ok, .int .u64 p.ob, .int .i64 p.tk, .int .u64 p.tb, VD, VS, .int .i64 p.po, VA, VI, .int .u64 p.sd, .bool true, .int .i64 0, .int .i64 (L)]) rfl (by kernel_rfl) (by kernel_rfl) (by kernel_rfl) (fun _ _ _ h => h) (Av.yields_build (by first | rfl | go_simp) _ _ rfl #[.int .i64 p.k, .int .i64 p.it, .int .i64 p.ok, .int .u64 p.ob, .int .i64 p.tk, .int .u64 p.tb, VD, VS, .int .i64 p.po, VA, VI, .int .u64 p.sd, .bool true, .int .i64 0, .int .i64 (L)] (by kernel_rfl)) (by assumption) ?_
    simp only [List.getElem_toArray, List.getElem_cons_zero, List.getElem_cons_succ, Act.put, List.setIfInBounds_toArray, List.set_cons_zero, List.set_cons_succ]
    refine wpAnyH_ready (rs := [4]) (by kernel_rfl) (by simp) ?_
    refine AllReadyH.cons rfl (fun K hK => ?_) (AllReadyH.nil)
    go_simp
    refine (HCp.out X0 BX).mono ?_
    rintro e X2 ⟨V1, V2, V3, V4, rfl, HS, b9⟩
    have HS := HS.less (show w.heap.size + 2 ≤ X0.heap.size from K2.lt)
    have oV1 := HS.d.one
    have oV2 := HS.s.one
    have oV3 := HS.a.one
    have oV4 := HS.i.one
    replace K1 := K1.below b9 K1.lt
    replace K2 := K2.below b9 K2.lt
    replace BX := Base.thenB BX b9
    clear b9
    refine hK.out _ _ K1 (fun hHeld => ?_)
    clear hK K
    try simp only [List.getElem_toArray, List.getElem_cons_zero, List.getElem_cons_succ, Act.put, List.setIfInBounds_toArray, List.set_cons_zero, List.set_cons_succ]
    refine wpAnyH_ready (rs := [5]) (by kernel_rfl) (by simp) ?_
    refine AllReadyH.cons rfl (fun K hK => ?_) (AllReadyH.nil)
    have H9 : (#[.int .i64 p.k, .int .i64 p.it, .int .i64 p.ok, .int .u64 p.ob, .int .i64 p.tk, .int .u64 p.tb, V1, V2, .int .i64 p.po, V3, V4, .int .u64 p.sd, .bool true, .int .i64 0, .int .i64 (L)] : Array Value).all (·.oneCell') = true := by rw [← Array.all_toList]; simp only [List.all_cons, List.all_nil, oV1, oV2, oV3, oV4, Bool.and_true, Bool.and_self]; rfl
    refine Av.step_store_row rfl 33 (.tmp 4) (.tmp 17) rfl (w.heap.size + 1) #[.int .i64 p.k, .int .i64 p.it, .int .i64 p.ok, .int .u64 p.ob, .int .i64 p.tk, .int .u64 p.tb, V1, V2, .int .i64 p.po, V3, V4, .int .u64 p.sd, .bool true, .int .i64 0, .int .i64 (L)] rfl rfl 33 _ K2 (by kernel_rfl) rfl H9 ?_
    replace K1 : Blk (X2.setRow (w.heap.size + 1) #[.int .i64 p.k, .int .i64 p.it, .int .i64 p.ok, .int .u64 p.ob, .int .i64 p.tk, .int .u64 p.tb, V1, V2, .int .i64 p.po, V3, V4, .int .u64 p.sd, .bool true, .int .i64 0, .int .i64 (L)]) (w.heap.size) 29 #[.int .i64 p.k, .int .i64 p.it, .int .i64 p.ok, .int .u64 p.ob, .int .i64 p.tk, .int .u64 p.tb, VD, VS, .int .i64 p.po, VA, VI, .int .u64 p.sd] := Av.bother_row K1 (by omega)
    replace K2 : Blk (X2.setRow (w.heap.size + 1) #[.int .i64 p.k, .int .i64 p.it, .int .i64 p.ok, .int .u64 p.ob, .int .i64 p.tk, .int .u64 p.tb, V1, V2, .int .i64 p.po, V3, V4, .int .u64 p.sd, .bool true, .int .i64 0, .int .i64 (L)]) (w.heap.size + 1) 33 #[.int .i64 p.k, .int .i64 p.it, .int .i64 p.ok, .int .u64 p.ob, .int .i64 p.tk, .int .u64 p.tb, V1, V2, .int .i64 p.po, V3, V4, .int .u64 p.sd, .bool true, .int .i64 0, .int .i64 (L)] := Av.bset_row K2
    replace BX : Below w.heap.size w (X2.setRow (w.heap.size + 1) #[.int .i64 p.k, .int .i64 p.it, .int .i64 p.ok, .int .u64 p.ob, .int .i64 p.tk, .int .u64 p.tb, V1, V2, .int .i64 p.po, V3, V4, .int .u64 p.sd, .bool true, .int .i64 0, .int .i64 (L)]) := below_setRow BX (by omega) _
    replace HS := Has.farR (cs := #[.int .i64 p.k, .int .i64 p.it, .int .i64 p.ok, .int .u64 p.ob, .int .i64 p.tk, .int .u64 p.tb, V1, V2, .int .i64 p.po, V3, V4, .int .u64 p.sd, .bool true, .int .i64 0, .int .i64 (L)]) HS (show w.heap.size + 1 < w.heap.size + 2 by omega)
    clear H9
    generalize X2.setRow (w.heap.size + 1) #[.int .i64 p.k, .int .i64 p.it, .int .i64 p.ok, .int .u64 p.ob, .int .i64 p.tk, .int .u64 p.tb, V1, V2, .int .i64 p.po, V3, V4, .int .u64 p.sd, .bool true, .int .i64 0, .int .i64 (L)] = X3 at *
    refine hK.out _ _ K1 (fun hHeld => ?_)
    clear hK K
    try simp only [List.getElem_toArray, List.getElem_cons_zero, List.getElem_cons_succ, Act.put, List.setIfInBounds_toArray, List.set_cons_zero, List.set_cons_succ]
    refine wpAnyH_take (i := 6) (v := .int .i64 0) rfl (by kernel_rfl) (by kernel_rfl) (by kernel_rfl) (fun _ _ _ h => h) (Or.inl ⟨by first | rfl | go_simp, by intro w9 hSw; (try dsimp only at hSw); go_simp⟩) (by assumption) ?_
    simp only [List.getElem_toArray, List.getElem_cons_zero, List.getElem_cons_succ, Act.put, List.setIfInBounds_toArray, List.set_cons_zero, List.set_cons_succ]
    refine wpAnyH_done (by kernel_rfl) ?_ _
    go_wp2_with fail
    refine bodyPost_ret (v := .tuple #[.agg #[.int .i64 p.k, .int .i64 p.it, .int .i64 p.ok, .int .u64 p.ob, .int .i64 p.tk, .int .u64 p.tb, V1, V2, .int .i64 p.po, V3, V4, .int .u64 p.sd, .bool true, .int .i64 0, .int .i64 (L)], .int .i64 0]) ?_ rfl ⟨V1, V2, V3, V4, by rw [HQ.out], by rw [HQ.out]; exact HS.less (by omega), BX⟩
    clear hHeld
    have HL := run_loadVar_row (P := Tryd.prog) X3 (w.heap.size + 1) 33 33 #[.int .i64 p.k, .int .i64 p.it, .int .i64 p.ok, .int .u64 p.ob, .int .i64 p.tk, .int .u64 p.tb, V1, V2, .int .i64 p.po, V3, V4, .int .u64 p.sd, .bool true, .int .i64 0, .int .i64 (L)] (0, 0) _ K2 Tryd.underlying33 rfl (by kernel_rfl)
    generalize (#[.int .i64 p.k, .int .i64 p.it, .int .i64 p.ok, .int .u64 p.ob, .int .i64 p.tk, .int .u64 p.tb, V1, V2, .int .i64 p.po, V3, V4, .int .u64 p.sd, .bool true, .int .i64 0, .int .i64 (L)] : Array Value) = CS at *
    simp [results, show (Tryd.f14).results = #[.cell 4 33, .slot 5] from rfl, asAddr, HL, Act.put]
  · have HQ := Lib.hid (HN.out h0)
    have g0 : (E != 0) = true := by simpa using h0
    have H1 : (#[.int .i64 0, .int .i64 0, .int .i64 0, .int .u64 0, .int .i64 0, .int .u64 0, .slice none 0 0, .slice none 0 0, .int .i64 0, .slice none 0 0, .slice none 0 0, .int .u64 0, .bool false, .int .i64 0, .int .i64 0] : Array Value).all (·.oneCell') = true := by rw [← Array.all_toList]; rfl
    go_wp2_with (refine wpList_store_row rfl 33 (.tmp 4) _ rfl (w.heap.size + 1) #[.int .i64 0, .int .i64 0, .int .i64 0, .int .u64 0, .int .i64 0, .int .u64 0, .slice none 0 0, .slice none 0 0, .int .i64 0, .slice none 0 0, .slice none 0 0, .int .u64 0, .bool false, .int .i64 0, .int .i64 0] rfl rfl 33 _ K2 (by kernel_rfl) rfl H1 ?_)
    have KR : Blk (W1.setRow (w.heap.size + 1) #[.int .i64 0, .int .i64 0, .int .i64 0, .int .u64 0, .int .i64 0, .int .u64 0, .slice none 0 0, .slice none 0 0, .int .i64 0, .slice none 0 0, .slice none 0 0, .int .u64 0, .bool false, .int .i64 0, .int .i64 0]) (w.heap.size + 1) 33 #[.int .i64 0, .int .i64 0, .int .i64 0, .int .u64 0, .int .i64 0, .int .u64 0, .slice none 0 0, .slice none 0 0, .int .i64 0, .slice none 0 0, .slice none 0 0, .int .u64 0, .bool false, .int .i64 0, .int .i64 0] := bset_row K2
    have BE := below_setRow BX (Nat.le_succ _) #[.int .i64 0, .int .i64 0, .int .i64 0, .int .u64 0, .int .i64 0, .int .u64 0, .slice none 0 0, .slice none 0 0, .int .i64 0, .slice none 0 0, .slice none 0 0, .int .u64 0, .bool false, .int .i64 0, .int .i64 0]
    generalize W1.setRow (w.heap.size + 1) #[.int .i64 0, .int .i64 0, .int .i64 0, .int .u64 0, .int .i64 0, .int .u64 0, .slice none 0 0, .slice none 0 0, .int .i64 0, .slice none 0 0, .slice none 0 0, .int .u64 0, .bool false, .int .i64 0, .int .i64 0] = Y at *
    refine bodyPost_ret (v := .tuple #[.agg #[.int .i64 0, .int .i64 0, .int .i64 0, .int .u64 0, .int .i64 0, .int .u64 0, .slice none 0 0, .slice none 0 0, .int .i64 0, .slice none 0 0, .slice none 0 0, .int .u64 0, .bool false, .int .i64 0, .int .i64 0], .int .i64 E]) ?_ rfl ⟨.slice none 0 0, .slice none 0 0, .slice none 0 0, .slice none 0 0, by rw [HQ.out]; rfl, by rw [HQ.out]; exact has_zero _ _, BE⟩
    have HL := run_loadVar_row (P := Tryd.prog) Y (w.heap.size + 1) 33 33 #[.int .i64 0, .int .i64 0, .int .i64 0, .int .u64 0, .int .i64 0, .int .u64 0, .slice none 0 0, .slice none 0 0, .int .i64 0, .slice none 0 0, .slice none 0 0, .int .u64 0, .bool false, .int .i64 0, .int .i64 0] (0, 0) _ KR Tryd.underlying33 rfl (by kernel_rfl)
    generalize (#[.int .i64 0, .int .i64 0, .int .i64 0, .int .u64 0, .int .i64 0, .int .u64 0, .slice none 0 0, .slice none 0 0, .int .i64 0, .slice none 0 0, .slice none 0 0, .int .u64 0, .bool false, .int .i64 0, .int .i64 0] : Array Value) = CS at *
    simp [results, show (Tryd.f14).results = #[.cell 4 33, .slot 5] from rfl, asAddr, HL, Act.put]
end Go.Proofs.YtcbliliinmfnjaaDoor.Av

end
section
set_option linter.unusedVariables false
set_option linter.unusedSimpArgs false
namespace Go.Proofs.YtcbliliinmfnjaaDoor.Av
open Go.RowKit Mem Oct Rw Ap Ace Prv
open Base (thenB)

theorem delay_any (sd ev : Int) (w : World) (hs : 0 ≤ sd ∧ sd ≤ 18446744073709551615) :
    Calls Tryd.prog 18 #[.int .u64 sd, .int .i64 ev] w fun e w' => e = .returned (.int .i64 (delZ sd ev)) ∧ Below w.heap.size w w' := by
  have e0 := ev_wrap ev
  have bk : 0 ≤ Mac.tagZ sd (Mac.derI sDel [ev % 18446744073709551616]) ∧ Mac.tagZ sd (Mac.derI sDel [ev % 18446744073709551616]) ≤ 18446744073709551615 :=
    Mac.tagZ_bd _ (Mac.derI_bytes _ _) (by rw [Mac.derI_len]; simp only [List.length_cons, List.length_nil]; decide)
  have HD : Hid (∀ (w : World) (A : Option Addr), Ints .u64 w w.heap.size A [ev % 18446744073709551616] → Calls Tryd.prog 49 #[.int .u64 sd, .string sDel, .slice A 1 1] w fun e w' => e = .returned (.int .u64 (Mac.tagZ sd (Mac.derI sDel [ev % 18446744073709551616]))) ∧ Below w.heap.size w w') :=
    Lib.hid fun w A hr => Mac.derive_any sd sDel A 1 1 [ev % 18446744073709551616] w hs (by decide) rfl (words1' ev) hr (by decide)
  unfold delZ
  generalize Mac.tagZ sd (Mac.derI sDel [ev % 18446744073709551616]) = T at *
  have hI : 0 ≤ ev % 18446744073709551616 ∧ ev % 18446744073709551616 ≤ 18446744073709551615 := by omega
  generalize ev % 18446744073709551616 = I at *
  have e1 : T.tmod 10000 = T % 10000 := Int.tmod_eq_emod_of_nonneg bk.1
  have e2 : IntKind.u64.wrap (T % 10000) = T % 10000 := by rw [IntKind.wrap_u64]; omega
  have e3 : IntKind.i64.wrap (T % 10000) = T % 10000 := by simp only [IntKind.wrap, IntKind.signed, IntKind.bits]; simp; omega
  have hd : sDel = ⟨#[100, 101, 108, 97, 121]⟩ := rfl
  rw [hd] at HD
  clear hd
  go_enter Tryd.func18, Tryd.ntmps18
  go_wp2_with (go_at_call 49; refine (HD.out _ _ (Base.lit1 .u64 _ [I] _ _ rfl)).mono ?_; rintro e w1 ⟨rfl, b1⟩)
  go_ret
  exact ⟨rfl, Base.alloc1 _ _ b1⟩
theorem rdelay_any (sd ev : Int) (w : World) (hs : 0 ≤ sd ∧ sd ≤ 18446744073709551615) :
    Calls Tryd.prog 19 #[.int .u64 sd, .int .i64 ev] w fun e w' => e = .returned (.int .i64 (delZ sd ev)) ∧ Below w.heap.size w w' := by
  have e0 := ev_wrap ev
  have bk : 0 ≤ Mac.tagZ sd (Mac.derI sDel [ev % 18446744073709551616]) ∧ Mac.tagZ sd (Mac.derI sDel [ev % 18446744073709551616]) ≤ 18446744073709551615 :=
    Mac.tagZ_bd _ (Mac.derI_bytes _ _) (by rw [Mac.derI_len]; simp only [List.length_cons, List.length_nil]; decide)
  have HD : Hid (∀ (w : World) (A : Option Addr), Ints .u64 w w.heap.size A [ev % 18446744073709551616] → Calls Tryd.prog 50 #[.int .u64 sd, .string sDel, .slice A 1 1] w fun e w' => e = .returned (.int .u64 (Mac.tagZ sd (Mac.derI sDel [ev % 18446744073709551616]))) ∧ Below w.heap.size w w') :=
    Lib.hid fun w A hr => Mac.rderive_any sd sDel A 1 1 [ev % 18446744073709551616] w hs (by decide) rfl (words1' ev) hr (by decide)
  unfold delZ
  generalize Mac.tagZ sd (Mac.derI sDel [ev % 18446744073709551616]) = T at *
  have hI : 0 ≤ ev % 18446744073709551616 ∧ ev % 18446744073709551616 ≤ 18446744073709551615 := by omega
  generalize ev % 18446744073709551616 = I at *
  have e1 : T.tmod 10000 = T % 10000 := Int.tmod_eq_emod_of_nonneg bk.1
  have e2 : IntKind.u64.wrap (T % 10000) = T % 10000 := by rw [IntKind.wrap_u64]; omega
  have e3 : IntKind.i64.wrap (T % 10000) = T % 10000 := by simp only [IntKind.wrap, IntKind.signed, IntKind.bits]; simp; omega
  have hd : sDel = ⟨#[100, 101, 108, 97, 121]⟩ := rfl
  rw [hd] at HD
  clear hd
  go_enter Tryd.func19, Tryd.ntmps19
  go_wp2_with (go_at_call 50; refine (HD.out _ _ (Base.lit1 .u64 _ [I] _ _ rfl)).mono ?_; rintro e w1 ⟨rfl, b1⟩)
  go_ret
  exact ⟨rfl, Base.alloc1 _ _ b1⟩
theorem adv_any (ch : Int) (w : World) : Calls Tryd.prog 53 #[.int .i64 ch] w fun e w' => e = .returned (.bool (advB ch)) ∧ w = w' := by
  unfold advB
  by_cases h : 37 ≤ ch
  · by_cases h2 : ch < 40
    · rw [decide_eq_true (And.intro h h2)]
      go_enter Tryd.func53, Tryd.ntmps53
      go_wp2_with fail
      go_ret
      exact ⟨rfl, rfl⟩
    · rw [decide_eq_false (fun x => h2 x.2)]
      go_enter Tryd.func53, Tryd.ntmps53
      go_wp2_with fail
      go_ret
      exact ⟨rfl, rfl⟩
  · rw [decide_eq_false (fun x => h x.1)]
    go_enter Tryd.func53, Tryd.ntmps53
    go_wp2_with fail
    go_ret
    exact ⟨rfl, rfl⟩
set_option maxRecDepth 100000 in
set_option maxHeartbeats 4000000 in
theorem stop_any (a : Ad) (VD VS VA VI : Value) (m : Nat) (w : World) (hW : PW a.p) (hH : Has w m a.p VD VS VA VI) :
    Calls Tryd.prog 22 #[.agg (vcel a VD VS VA VI)] w fun e w' => AdvR w w' e (stopA a) := by
  have oVD := hH.d.one
  have oVS := hH.s.one
  have oVA := hH.a.one
  have oVI := hH.i.one
  have BX : Below w.heap.size w ((w.alloc (.cells #[.int .i64 a.p.k, .int .i64 a.p.it, .int .i64 a.p.ok, .int .u64 a.p.ob, .int .i64 a.p.tk, .int .u64 a.p.tb, VD, VS, .int .i64 a.p.po, VA, VI, .int .u64 a.p.sd, .bool a.on, .int .i64 a.ev, .int .i64 a.nx] 33)).alloc (.cells #[.int .i64 0, .int .i64 0, .int .i64 0, .int .u64 0, .int .i64 0, .int .u64 0, .slice none 0 0, .slice none 0 0, .int .i64 0, .slice none 0 0, .slice none 0 0, .int .u64 0, .bool false, .int .i64 0, .int .i64 0] 33)) := ((Below.refl _ _).alloc (Nat.le_refl _) _).alloc (by simp) _
  have K1 : Blk ((w.alloc (.cells #[.int .i64 a.p.k, .int .i64 a.p.it, .int .i64 a.p.ok, .int .u64 a.p.ob, .int .i64 a.p.tk, .int .u64 a.p.tb, VD, VS, .int .i64 a.p.po, VA, VI, .int .u64 a.p.sd, .bool a.on, .int .i64 a.ev, .int .i64 a.nx] 33)).alloc (.cells #[.int .i64 0, .int .i64 0, .int .i64 0, .int .u64 0, .int .i64 0, .int .u64 0, .slice none 0 0, .slice none 0 0, .int .i64 0, .slice none 0 0, .slice none 0 0, .int .u64 0, .bool false, .int .i64 0, .int .i64 0] 33)) (w.heap.size) 33 #[.int .i64 a.p.k, .int .i64 a.p.it, .int .i64 a.p.ok, .int .u64 a.p.ob, .int .i64 a.p.tk, .int .u64 a.p.tb, VD, VS, .int .i64 a.p.po, VA, VI, .int .u64 a.p.sd, .bool a.on, .int .i64 a.ev, .int .i64 a.nx] := (Blk.fresh w 33 #[.int .i64 a.p.k, .int .i64 a.p.it, .int .i64 a.p.ok, .int .u64 a.p.ob, .int .i64 a.p.tk, .int .u64 a.p.tb, VD, VS, .int .i64 a.p.po, VA, VI, .int .u64 a.p.sd, .bool a.on, .int .i64 a.ev, .int .i64 a.nx]).alloc _
  have K2 : Blk ((w.alloc (.cells #[.int .i64 a.p.k, .int .i64 a.p.it, .int .i64 a.p.ok, .int .u64 a.p.ob, .int .i64 a.p.tk, .int .u64 a.p.tb, VD, VS, .int .i64 a.p.po, VA, VI, .int .u64 a.p.sd, .bool a.on, .int .i64 a.ev, .int .i64 a.nx] 33)).alloc (.cells #[.int .i64 0, .int .i64 0, .int .i64 0, .int .u64 0, .int .i64 0, .int .u64 0, .slice none 0 0, .slice none 0 0, .int .i64 0, .slice none 0 0, .slice none 0 0, .int .u64 0, .bool false, .int .i64 0, .int .i64 0] 33)) (w.heap.size + 1) 33 #[.int .i64 0, .int .i64 0, .int .i64 0, .int .u64 0, .int .i64 0, .int .u64 0, .slice none 0 0, .slice none 0 0, .int .i64 0, .slice none 0 0, .slice none 0 0, .int .u64 0, .bool false, .int .i64 0, .int .i64 0] := Av.Blk.next
  have HC : Hid (∀ X, Below w.heap.size w X → Calls Tryd.prog 41 #[.agg (vcel a VD VS VA VI)] X fun e w' => AdvR X w' e a) := Lib.hid fun X b => copied_any a _ _ _ _ m X hW (hH.below b)
  clear hW hH
  go_enter Tryd.func22, Tryd.ntmps22
  go_wp2_with (refine wpList_load_row rfl 33 (.tmp 1) rfl (w.heap.size) rfl 33 _ (0, 0) _ K1 Tryd.underlying33 rfl (by kernel_rfl) ?_)
  generalize (w.alloc (.cells #[.int .i64 a.p.k, .int .i64 a.p.it, .int .i64 a.p.ok, .int .u64 a.p.ob, .int .i64 a.p.tk, .int .u64 a.p.tb, VD, VS, .int .i64 a.p.po, VA, VI, .int .u64 a.p.sd, .bool a.on, .int .i64 a.ev, .int .i64 a.nx] 33)).alloc (.cells #[.int .i64 0, .int .i64 0, .int .i64 0, .int .u64 0, .int .i64 0, .int .u64 0, .slice none 0 0, .slice none 0 0, .int .i64 0, .slice none 0 0, .slice none 0 0, .int .u64 0, .bool false, .int .i64 0, .int .i64 0] 33) = W0 at *
  refine (HC.out W0 BX).mono ?_
  rintro e W1 ⟨V1, V2, V3, V4, rfl, HS, b1⟩
  have HS := HS.less (show w.heap.size + 2 ≤ W0.heap.size from K2.lt)
  have BX := thenB BX b1
  have K1 := K1.below b1 K1.lt
  have K2 := K2.below b1 K2.lt
  clear b1
  have H1 : (#[.int .i64 a.p.k, .int .i64 a.p.it, .int .i64 a.p.ok, .int .u64 a.p.ob, .int .i64 a.p.tk, .int .u64 a.p.tb, V1, V2, .int .i64 a.p.po, V3, V4, .int .u64 a.p.sd, .bool a.on, .int .i64 a.ev, .int .i64 a.nx] : Array Value).all (·.oneCell') = true := HS.one a
  go_upto_region 2 with (refine wpList_store_row rfl 33 (.tmp 1) _ rfl (w.heap.size) #[.int .i64 a.p.k, .int .i64 a.p.it, .int .i64 a.p.ok, .int .u64 a.p.ob, .int .i64 a.p.tk, .int .u64 a.p.tb, V1, V2, .int .i64 a.p.po, V3, V4, .int .u64 a.p.sd, .bool a.on, .int .i64 a.ev, .int .i64 a.nx] rfl rfl 33 _ K1 (by kernel_rfl) rfl H1 ?_)
  have K2 : Blk (W1.setRow (w.heap.size) #[.int .i64 a.p.k, .int .i64 a.p.it, .int .i64 a.p.ok, .int .u64 a.p.ob, .int .i64 a.p.tk, .int .u64 a.p.tb, V1, V2, .int .i64 a.p.po, V3, V4, .int .u64 a.p.sd, .bool a.on, .int .i64 a.ev, .int .i64 a.nx]) (w.heap.size + 1) 33 #[.int .i64 0, .int .i64 0, .int .i64 0, .int .u64 0, .int .i64 0, .int .u64 0, .slice none 0 0, .slice none 0 0, .int .i64 0, .slice none 0 0, .slice none 0 0, .int .u64 0, .bool false, .int .i64 0, .int .i64 0] := bother_row K2 (by omega)
  have K1 : Blk (W1.setRow (w.heap.size) #[.int .i64 a.p.k, .int .i64 a.p.it, .int .i64 a.p.ok, .int .u64 a.p.ob, .int .i64 a.p.tk, .int .u64 a.p.tb, V1, V2, .int .i64 a.p.po, V3, V4, .int .u64 a.p.sd, .bool a.on, .int .i64 a.ev, .int .i64 a.nx]) (w.heap.size) 33 #[.int .i64 a.p.k, .int .i64 a.p.it, .int .i64 a.p.ok, .int .u64 a.p.ob, .int .i64 a.p.tk, .int .u64 a.p.tb, V1, V2, .int .i64 a.p.po, V3, V4, .int .u64 a.p.sd, .bool a.on, .int .i64 a.ev, .int .i64 a.nx] := bset_row K1
  have BX := below_setRow BX (Nat.le_refl _) #[.int .i64 a.p.k, .int .i64 a.p.it, .int .i64 a.p.ok, .int .u64 a.p.ob, .int .i64 a.p.tk, .int .u64 a.p.tb, V1, V2, .int .i64 a.p.po, V3, V4, .int .u64 a.p.sd, .bool a.on, .int .i64 a.ev, .int .i64 a.nx]
  have HS := HS.farR (g := w.heap.size) (cs := #[.int .i64 a.p.k, .int .i64 a.p.it, .int .i64 a.p.ok, .int .u64 a.p.ob, .int .i64 a.p.tk, .int .u64 a.p.tb, V1, V2, .int .i64 a.p.po, V3, V4, .int .u64 a.p.sd, .bool a.on, .int .i64 a.ev, .int .i64 a.nx]) (by omega)
  generalize W1.setRow (w.heap.size) #[.int .i64 a.p.k, .int .i64 a.p.it, .int .i64 a.p.ok, .int .u64 a.p.ob, .int .i64 a.p.tk, .int .u64 a.p.tb, V1, V2, .int .i64 a.p.po, V3, V4, .int .u64 a.p.sd, .bool a.on, .int .i64 a.ev, .int .i64 a.nx] = W2 at *
  go_upto_region 3 with (refine wpList_store_cell rfl _ _ _ rfl (w.heap.size) 12 (.bool false) rfl rfl 33 _ K1 (by show 12 < 15; decide) (by kernel_rfl) rfl ?_)
  have K2 : Blk (W2.setCell ⟨w.heap.size, 12, none⟩ (.bool false)) (w.heap.size + 1) 33 #[.int .i64 0, .int .i64 0, .int .i64 0, .int .u64 0, .int .i64 0, .int .u64 0, .slice none 0 0, .slice none 0 0, .int .i64 0, .slice none 0 0, .slice none 0 0, .int .u64 0, .bool false, .int .i64 0, .int .i64 0] := bother K2 (by omega) _
  have K1 : Blk (W2.setCell ⟨w.heap.size, 12, none⟩ (.bool false)) (w.heap.size) 33 #[.int .i64 a.p.k, .int .i64 a.p.it, .int .i64 a.p.ok, .int .u64 a.p.ob, .int .i64 a.p.tk, .int .u64 a.p.tb, V1, V2, .int .i64 a.p.po, V3, V4, .int .u64 a.p.sd, .bool false, .int .i64 a.ev, .int .i64 a.nx] := bset K1 12 (.bool false) rfl
  have BX : Below w.heap.size w (W2.setCell ⟨w.heap.size, 12, none⟩ (.bool false)) := BX.setCell (p := ⟨w.heap.size, 12, none⟩) (Nat.le_refl _) _
  have HS := HS.far (g := w.heap.size) (i := 12) (x := .bool false) (by omega)
  generalize W2.setCell ⟨w.heap.size, 12, none⟩ (.bool false) = W3 at *
  have H1 : (#[.int .i64 a.p.k, .int .i64 a.p.it, .int .i64 a.p.ok, .int .u64 a.p.ob, .int .i64 a.p.tk, .int .u64 a.p.tb, V1, V2, .int .i64 a.p.po, V3, V4, .int .u64 a.p.sd, .bool false, .int .i64 a.ev, .int .i64 a.nx] : Array Value).all (·.oneCell') = true := HS.one (stopA a)
  go_wp2_with (first
    | (refine wpList_store_row rfl 33 (.tmp 2) _ rfl (w.heap.size + 1) #[.int .i64 a.p.k, .int .i64 a.p.it, .int .i64 a.p.ok, .int .u64 a.p.ob, .int .i64 a.p.tk, .int .u64 a.p.tb, V1, V2, .int .i64 a.p.po, V3, V4, .int .u64 a.p.sd, .bool false, .int .i64 a.ev, .int .i64 a.nx] rfl rfl 33 _ K2 (by kernel_rfl) rfl H1 ?_)
    | (refine wpList_load_row rfl 33 (.tmp 1) rfl w.heap.size rfl 33 _ (0, 0) _ K1 Tryd.underlying33 rfl (by kernel_rfl) ?_))
  have KR : Blk (W3.setRow (w.heap.size + 1) #[.int .i64 a.p.k, .int .i64 a.p.it, .int .i64 a.p.ok, .int .u64 a.p.ob, .int .i64 a.p.tk, .int .u64 a.p.tb, V1, V2, .int .i64 a.p.po, V3, V4, .int .u64 a.p.sd, .bool false, .int .i64 a.ev, .int .i64 a.nx]) (w.heap.size + 1) 33 #[.int .i64 a.p.k, .int .i64 a.p.it, .int .i64 a.p.ok, .int .u64 a.p.ob, .int .i64 a.p.tk, .int .u64 a.p.tb, V1, V2, .int .i64 a.p.po, V3, V4, .int .u64 a.p.sd, .bool false, .int .i64 a.ev, .int .i64 a.nx] := bset_row K2
  have BE := below_setRow BX (Nat.le_succ _) #[.int .i64 a.p.k, .int .i64 a.p.it, .int .i64 a.p.ok, .int .u64 a.p.ob, .int .i64 a.p.tk, .int .u64 a.p.tb, V1, V2, .int .i64 a.p.po, V3, V4, .int .u64 a.p.sd, .bool false, .int .i64 a.ev, .int .i64 a.nx]
  have HE := HS.farR (g := w.heap.size + 1) (cs := #[.int .i64 a.p.k, .int .i64 a.p.it, .int .i64 a.p.ok, .int .u64 a.p.ob, .int .i64 a.p.tk, .int .u64 a.p.tb, V1, V2, .int .i64 a.p.po, V3, V4, .int .u64 a.p.sd, .bool false, .int .i64 a.ev, .int .i64 a.nx]) (by omega)
  generalize W3.setRow (w.heap.size + 1) #[.int .i64 a.p.k, .int .i64 a.p.it, .int .i64 a.p.ok, .int .u64 a.p.ob, .int .i64 a.p.tk, .int .u64 a.p.tb, V1, V2, .int .i64 a.p.po, V3, V4, .int .u64 a.p.sd, .bool false, .int .i64 a.ev, .int .i64 a.nx] = Y at *
  refine bodyPost_ret (v := .agg #[.int .i64 a.p.k, .int .i64 a.p.it, .int .i64 a.p.ok, .int .u64 a.p.ob, .int .i64 a.p.tk, .int .u64 a.p.tb, V1, V2, .int .i64 a.p.po, V3, V4, .int .u64 a.p.sd, .bool false, .int .i64 a.ev, .int .i64 a.nx]) ?_ rfl ⟨V1, V2, V3, V4, rfl, HE.less (by omega), BE⟩
  have HL := run_loadVar_row (P := Tryd.prog) Y (w.heap.size + 1) 33 33 #[.int .i64 a.p.k, .int .i64 a.p.it, .int .i64 a.p.ok, .int .u64 a.p.ob, .int .i64 a.p.tk, .int .u64 a.p.tb, V1, V2, .int .i64 a.p.po, V3, V4, .int .u64 a.p.sd, .bool false, .int .i64 a.ev, .int .i64 a.nx] (0, 0) _ KR Tryd.underlying33 rfl (by kernel_rfl)
  generalize (#[.int .i64 a.p.k, .int .i64 a.p.it, .int .i64 a.p.ok, .int .u64 a.p.ob, .int .i64 a.p.tk, .int .u64 a.p.tb, V1, V2, .int .i64 a.p.po, V3, V4, .int .u64 a.p.sd, .bool false, .int .i64 a.ev, .int .i64 a.nx] : Array Value) = CS at *
  simp [results, show (Tryd.f22).results = #[.cell 2 33] from rfl, asAddr, HL, Act.put]
set_option maxRecDepth 100000 in
set_option maxHeartbeats 4000000 in
theorem ascan_any (p : Pm) (VD VS VA VI : Value) (a1 a2 : Int) (m : Nat) (w : World) (hW : PW p) (hH : Has w m p VD VS VA VI) (h1 : -9223372036854775808 ≤ a1 ∧ a1 ≤ 9223372036854775807) (h2 : 0 ≤ a2 ∧ a2 ≤ 18446744073709551615) (hT : Adr.Tab w) :
    Calls Tryd.prog 55 #[.agg (pcel p VD VS VA VI), .agg #[.int .i64 a1, .int .u64 a2]] w fun e w' => e = .returned (.bool (scnB p.k && allowZ p.po 3 (hasB p.ac p.ids (a1, a2)))) ∧ Below w.heap.size w w' := by
  obtain ⟨AA, cA, rfl, hcA, hA⟩ := hH.a.cells
  obtain ⟨AI, cI, rfl, hcI, hI⟩ := hH.i.cells
  have hI := triples_of_list hI
  have hna := hW.nac
  have hni := hW.nids
  have hids := hW.hids
  have HL := Lib.hid (rfl : p.ac.length = p.ac.length)
  have BX : Below w.heap.size w ((w.alloc (.cells #[.int .i64 p.k, .int .i64 p.it, .int .i64 p.ok, .int .u64 p.ob, .int .i64 p.tk, .int .u64 p.tb, VD, VS, .int .i64 p.po, .slice AA p.ac.length cA, .slice AI p.ids.length cI, .int .u64 p.sd] 29)).alloc (.cells #[.int .i64 a1, .int .u64 a2] 24)) := ((Below.refl _ _).alloc (Nat.le_refl _) _).alloc (by simp) _
  have K1 : Blk ((w.alloc (.cells #[.int .i64 p.k, .int .i64 p.it, .int .i64 p.ok, .int .u64 p.ob, .int .i64 p.tk, .int .u64 p.tb, VD, VS, .int .i64 p.po, .slice AA p.ac.length cA, .slice AI p.ids.length cI, .int .u64 p.sd] 29)).alloc (.cells #[.int .i64 a1, .int .u64 a2] 24)) (w.heap.size) 29 #[.int .i64 p.k, .int .i64 p.it, .int .i64 p.ok, .int .u64 p.ob, .int .i64 p.tk, .int .u64 p.tb, VD, VS, .int .i64 p.po, .slice AA p.ac.length cA, .slice AI p.ids.length cI, .int .u64 p.sd] := (Blk.fresh w 29 #[.int .i64 p.k, .int .i64 p.it, .int .i64 p.ok, .int .u64 p.ob, .int .i64 p.tk, .int .u64 p.tb, VD, VS, .int .i64 p.po, .slice AA p.ac.length cA, .slice AI p.ids.length cI, .int .u64 p.sd]).alloc _
  have K2 : Blk ((w.alloc (.cells #[.int .i64 p.k, .int .i64 p.it, .int .i64 p.ok, .int .u64 p.ob, .int .i64 p.tk, .int .u64 p.tb, VD, VS, .int .i64 p.po, .slice AA p.ac.length cA, .slice AI p.ids.length cI, .int .u64 p.sd] 29)).alloc (.cells #[.int .i64 a1, .int .u64 a2] 24)) (w.heap.size + 1) 24 #[.int .i64 a1, .int .u64 a2] := Av.Blk.next
  have HS := Lib.hid (fun X => scannable_any p.k X)
  have HA : Hid (∀ X, Below w.heap.size w X → Calls Tryd.prog 92 #[.int .i64 p.po, .int .i64 3, .slice AA p.ac.length cA, .slice AI p.ids.length cI, .agg #[.int .i64 a1, .int .u64 a2]] X fun e w' => e = .returned (.bool (allowZ p.po 3 (hasB p.ac p.ids (a1, a2)))) ∧ Below X.heap.size X w') :=
    Lib.hid fun X b => allows_any p.po 3 AA AI _ cA _ cI p.ac p.ids a1 a2 X rfl hna (CellsAt.later hA b) rfl hcI (by omega) (triples_below hI b) hids h1 h2 (hT.below b)
  clear hA hI hH hW hT hids
  generalize allowZ p.po 3 (hasB p.ac p.ids (a1, a2)) = R at *
  generalize scnB p.k = K at *
  generalize p.ac.length = na at *
  generalize p.ids.length = ni at *
  have c0 := K1.cell 0
  have c8 := K1.cell 8
  have c9 := K1.cell 9
  have c10 := K1.cell 10
  have d0 := K2.cell 0
  have d1 := K2.cell 1
  go_enter Tryd.func55, Tryd.ntmps55
  go_wp2_with fail
  refine (HS.out _).mono ?_
  rintro e w1 ⟨rfl, rfl⟩
  generalize (w.alloc (.cells #[.int .i64 p.k, .int .i64 p.it, .int .i64 p.ok, .int .u64 p.ob, .int .i64 p.tk, .int .u64 p.tb, VD, VS, .int .i64 p.po, .slice AA na cA, .slice AI ni cI, .int .u64 p.sd] 29)).alloc (.cells #[.int .i64 a1, .int .u64 a2] 24) = W0 at *
  cases K with
  | false =>
    go_wp2_with fail
    go_ret
    exact ⟨rfl, BX⟩
  | true =>
    go_wp2_with fail
    refine (HA.out _ BX).mono ?_
    rintro e w2 ⟨rfl, b2⟩
    go_wp2_with fail
    go_ret
    exact ⟨rfl, thenB BX b2⟩
end Go.Proofs.YtcbliliinmfnjaaDoor.Av

end
section
set_option linter.unusedVariables false
set_option linter.unusedSimpArgs false
namespace Go.Proofs.YtcbliliinmfnjaaDoor.Av
open Go.RowKit Mem Oct Rw Ap Ace Prv
open Base (thenB)

set_option maxRecDepth 100000 in
set_option maxHeartbeats 4000000 in
theorem aconn_any (p : Pm) (VD VS VA VI : Value) (a1 a2 : Int) (m : Nat) (w : World) (hW : PW p) (hH : Has w m p VD VS VA VI) (h1 : -9223372036854775808 ≤ a1 ∧ a1 ≤ 9223372036854775807) (h2 : 0 ≤ a2 ∧ a2 ≤ 18446744073709551615) (hT : Adr.Tab w) :
    Calls Tryd.prog 57 #[.agg (pcel p VD VS VA VI), .agg #[.int .i64 a1, .int .u64 a2]] w fun e w' => e = .returned (.bool ((p.k == 0 && allowZ p.po 5 (hasB p.ac p.ids (a1, a2))) || (p.k == 1 && hasB [(p.tk, p.tb)] p.ids (a1, a2)))) ∧ Below w.heap.size w w' := by
  obtain ⟨AA, cA, rfl, hcA, hA⟩ := hH.a.cells
  obtain ⟨AI, cI, rfl, hcI, hI⟩ := hH.i.cells
  have hI := triples_of_list hI
  have hna := hW.nac
  have hni := hW.nids
  have hids := hW.hids
  have HL := Lib.hid (rfl : p.ac.length = p.ac.length)
  have BX : Below w.heap.size w ((w.alloc (.cells #[.int .i64 p.k, .int .i64 p.it, .int .i64 p.ok, .int .u64 p.ob, .int .i64 p.tk, .int .u64 p.tb, VD, VS, .int .i64 p.po, .slice AA p.ac.length cA, .slice AI p.ids.length cI, .int .u64 p.sd] 29)).alloc (.cells #[.int .i64 a1, .int .u64 a2] 24)) := ((Below.refl _ _).alloc (Nat.le_refl _) _).alloc (by simp) _
  have K1 : Blk ((w.alloc (.cells #[.int .i64 p.k, .int .i64 p.it, .int .i64 p.ok, .int .u64 p.ob, .int .i64 p.tk, .int .u64 p.tb, VD, VS, .int .i64 p.po, .slice AA p.ac.length cA, .slice AI p.ids.length cI, .int .u64 p.sd] 29)).alloc (.cells #[.int .i64 a1, .int .u64 a2] 24)) (w.heap.size) 29 #[.int .i64 p.k, .int .i64 p.it, .int .i64 p.ok, .int .u64 p.ob, .int .i64 p.tk, .int .u64 p.tb, VD, VS, .int .i64 p.po, .slice AA p.ac.length cA, .slice AI p.ids.length cI, .int .u64 p.sd] := (Blk.fresh w 29 #[.int .i64 p.k, .int .i64 p.it, .int .i64 p.ok, .int .u64 p.ob, .int .i64 p.tk, .int .u64 p.tb, VD, VS, .int .i64 p.po, .slice AA p.ac.length cA, .slice AI p.ids.length cI, .int .u64 p.sd]).alloc _
  have K2 : Blk ((w.alloc (.cells #[.int .i64 p.k, .int .i64 p.it, .int .i64 p.ok, .int .u64 p.ob, .int .i64 p.tk, .int .u64 p.tb, VD, VS, .int .i64 p.po, .slice AA p.ac.length cA, .slice AI p.ids.length cI, .int .u64 p.sd] 29)).alloc (.cells #[.int .i64 a1, .int .u64 a2] 24)) (w.heap.size + 1) 24 #[.int .i64 a1, .int .u64 a2] := Av.Blk.next
  have HA : Hid (∀ X, Below w.heap.size w X → Calls Tryd.prog 92 #[.int .i64 p.po, .int .i64 5, .slice AA p.ac.length cA, .slice AI p.ids.length cI, .agg #[.int .i64 a1, .int .u64 a2]] X fun e w' => e = .returned (.bool (allowZ p.po 5 (hasB p.ac p.ids (a1, a2)))) ∧ Below X.heap.size X w') :=
    Lib.hid fun X b => allows_any p.po 5 AA AI _ cA _ cI p.ac p.ids a1 a2 X rfl hna (CellsAt.later hA b) rfl hcI (by omega) (triples_below hI b) hids h1 h2 (hT.below b)
  have HB : Hid (∀ X A c, Below w.heap.size w X → ListAt encA X X.heap.size A [(p.tk, p.tb)] → Calls Tryd.prog 93 #[.slice A 1 c, .slice AI p.ids.length cI, .agg #[.int .i64 a1, .int .u64 a2]] X fun e w' => e = .returned (.bool (hasB [(p.tk, p.tb)] p.ids (a1, a2))) ∧ Below X.heap.size X w') :=
    Lib.hid fun X A c b h => has_any A AI 1 c _ cI [(p.tk, p.tb)] p.ids a1 a2 X rfl (by omega) h rfl hcI (by omega) (triples_below hI b) hids h1 h2 (hT.below b)
  clear hA hI hH hW hT hids
  generalize allowZ p.po 5 (hasB p.ac p.ids (a1, a2)) = R at *
  generalize hasB [(p.tk, p.tb)] p.ids (a1, a2) = R2 at *
  generalize p.ac.length = na at *
  generalize p.ids.length = ni at *
  have c0 := K1.cell 0
  have c8 := K1.cell 8
  have c9 := K1.cell 9
  have c10 := K1.cell 10
  have d0 := K2.cell 0
  have d1 := K2.cell 1
  generalize hq : ((p.k == 0 && R) || (p.k == 1 && R2)) = Q
  have HQ := Lib.hid hq
  clear hq
  by_cases h0 : p.k = 0
  · have e0 : (p.k == 0) = true := by simpa using h0
    have HZ : Hid (Q = R) := Lib.hid (by rw [← HQ.out, e0, show (p.k == 1) = false by rw [h0]; rfl]; simp)
    clear h0
    go_enter Tryd.func57, Tryd.ntmps57
    go_wp2_with fail
    generalize (w.alloc (.cells #[.int .i64 p.k, .int .i64 p.it, .int .i64 p.ok, .int .u64 p.ob, .int .i64 p.tk, .int .u64 p.tb, VD, VS, .int .i64 p.po, .slice AA na cA, .slice AI ni cI, .int .u64 p.sd] 29)).alloc (.cells #[.int .i64 a1, .int .u64 a2] 24) = W0 at *
    refine (HA.out _ BX).mono ?_
    rintro e w2 ⟨rfl, b2⟩
    go_wp2_with fail
    go_ret
    exact ⟨Ser.ret_bool HZ.out.symm, thenB BX b2⟩
  · have e0 : (p.k == 0) = false := by simpa using h0
    clear h0
    have c4 := K1.cell 4
    have c5 := K1.cell 5
    by_cases h3 : p.k = 1
    · have e1 : (p.k == 1) = true := by simpa using h3
      have HZ : Hid (Q = R2) := Lib.hid (by rw [← HQ.out, e0, e1]; simp)
      clear h3
      go_enter Tryd.func57, Tryd.ntmps57
      go_wp2_with fail
      have hz : ((w.alloc (.cells #[.int .i64 p.k, .int .i64 p.it, .int .i64 p.ok, .int .u64 p.ob, .int .i64 p.tk, .int .u64 p.tb, VD, VS, .int .i64 p.po, .slice AA na cA, .slice AI ni cI, .int .u64 p.sd] 29)).alloc (.cells #[.int .i64 a1, .int .u64 a2] 24)).heap.size = w.heap.size + 1 + 1 := by simp
      generalize (w.alloc (.cells #[.int .i64 p.k, .int .i64 p.it, .int .i64 p.ok, .int .u64 p.ob, .int .i64 p.tk, .int .u64 p.tb, VD, VS, .int .i64 p.po, .slice AA na cA, .slice AI ni cI, .int .u64 p.sd] 29)).alloc (.cells #[.int .i64 a1, .int .u64 a2] 24) = W0 at *
      have BL : Below w.heap.size w (W0.alloc (.cells #[.int .i64 p.tk, .int .u64 p.tb] 24)) := BX.alloc BX.size _
      have LL : ListAt encA (W0.alloc (.cells #[.int .i64 p.tk, .int .u64 p.tb] 24)) (W0.alloc (.cells #[.int .i64 p.tk, .int .u64 p.tb] 24)).heap.size (some ⟨w.heap.size + 1 + 1, 0, none⟩) [(p.tk, p.tb)] := by rw [← hz]; exact CellsAt.lit W0 _ _ _ rfl
      refine (HB.out (W0.alloc (.cells #[.int .i64 p.tk, .int .u64 p.tb] 24)) (some ⟨w.heap.size + 1 + 1, 0, none⟩) 1 BL LL).mono ?_
      rintro e w2 ⟨rfl, b2⟩
      go_wp2_with fail
      go_ret
      exact ⟨Ser.ret_bool HZ.out.symm, thenB BL b2⟩
    · have e1 : (p.k == 1) = false := by simpa using h3
      have HZ : Hid (Q = false) := Lib.hid (by rw [← HQ.out, e0, e1]; rfl)
      clear h3
      go_enter Tryd.func57, Tryd.ntmps57
      go_wp2_with fail
      go_ret
      exact ⟨Ser.ret_bool HZ.out.symm, BX⟩
end Go.Proofs.YtcbliliinmfnjaaDoor.Av

end
