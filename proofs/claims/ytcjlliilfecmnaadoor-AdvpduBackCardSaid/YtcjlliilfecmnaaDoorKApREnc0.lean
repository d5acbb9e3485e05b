/- Advertising PDUs: their bytes by the document: contracts over the program. -/
import Derived.Test.YtcjlliilfecmnaaDoorKApEnc
import Derived.Test.YtcjlliilfecmnaaDoorKApRChk
set_option linter.unusedVariables false
set_option linter.unusedSimpArgs false
namespace Go.Proofs.YtcjlliilfecmnaaDoor.Ap
open Go.RowKit Mem Oct
open Base (thenB)

theorem sev_under {w w' : World} {x B : Nat} {p : Pd} {V : Value} (H : Sev w x p V) (hg : x < B) (b : Below B w w') : Sev w' x p V := by
  obtain ⟨h0, h1, h2, h3, h4, h5, h6, h7, h8, h9, h10, h11, h12, h13, h14, h15, h16⟩ := H
  exact ⟨(b.cell (p := ⟨x, 0, none⟩) hg).trans h0, (b.cell (p := ⟨x, 1, none⟩) hg).trans h1, (b.cell (p := ⟨x, 2, none⟩) hg).trans h2, (b.cell (p := ⟨x, 3, none⟩) hg).trans h3, (b.cell (p := ⟨x, 4, none⟩) hg).trans h4, (b.cell (p := ⟨x, 5, none⟩) hg).trans h5, (b.cell (p := ⟨x, 6, none⟩) hg).trans h6, (b.cell (p := ⟨x, 7, none⟩) hg).trans h7, (b.cell (p := ⟨x, 8, none⟩) hg).trans h8, (b.cell (p := ⟨x, 9, none⟩) hg).trans h9, (b.cell (p := ⟨x, 10, none⟩) hg).trans h10, (b.cell (p := ⟨x, 11, none⟩) hg).trans h11, (b.cell (p := ⟨x, 12, none⟩) hg).trans h12, (b.cell (p := ⟨x, 13, none⟩) hg).trans h13, (b.cell (p := ⟨x, 14, none⟩) hg).trans h14, (b.cell (p := ⟨x, 15, none⟩) hg).trans h15, (b.cell (p := ⟨x, 16, none⟩) hg).trans h16⟩
theorem Okp.t_yes {p : Pd} (h : Okp p) (e : tgtB p.k = true) : Adr.chk p.tk p.tb = 0 := by
  have := h.ht; rw [e] at this; simpa [tE] using this
theorem Okp.t_no {p : Pd} (h : Okp p) (e : tgtB p.k = false) : p.tk = 0 ∧ p.tb = 0 := by
  have := h.ht; rw [e] at this; unfold tE at this; rw [if_neg (by simp)] at this
  split at this
  · assumption
  · omega
theorem Okp.c_no {p : Pd} (h : Okp p) (e : conB p.k = false) : zerC p = true := by
  have := h.hc; rw [e] at this; unfold cE at this; rw [if_neg (by simp)] at this
  split at this
  · assumption
  · omega
theorem Okp.no2 {p : Pd} (h : Okp p) (e : tgtB p.k = false) : (Adr.encR p.tk p.tb).1 = [] := by
  obtain ⟨h1, h2⟩ := h.t_no e
  rw [h1, h2]; decide
theorem Okp.no4 {p : Pd} (h : Okp p) (e : conB p.k = false) : (Cn.encR p.a p.b p.s p.o p.i p.l p.t p.m p.h p.d p.g).1 = [] := by
  have hz := h.c_no e
  unfold zerC at hz
  rw [decide_eq_true_eq] at hz
  have : Cn.okP p.a p.b p.s p.o p.i p.l p.t p.m p.h p.d p.g ≠ 0 := by
    unfold Cn.okP; rw [if_pos (.inl hz.1)]; decide
  rw [Cn.enc_bad this]
theorem Okp.fst {p : Pd} (h : Okp p) : p.k + (if (p.sk != 1) = true then 64 else 0) + (if (tgtB p.k && p.tk != 1) = true then 128 else 0) = fstB p := by
  refine (fst_doc p ?_ ?_ ?_).symm
  · have := (Adr.chk_ok h.hs).1; omega
  · intro e; have := (Adr.chk_ok (h.t_yes e)).1; omega
  · intro e; exact (h.t_no e).1
set_option maxRecDepth 100000 in
set_option maxHeartbeats 4000000 in
theorem rencode_no (p : Pd) (A : Option Addr) (n c : Nat) (w : World) (hn : p.ds.length = n) (hW : Wid p) (h : ¬ chkP p = 0) :
    Calls Tryd.prog 14 #[.agg (cel p (.slice A n c))] w fun e w' => Gives w w' e (encP p) := by
  have B0 : Below w.heap.size w (w.alloc (.cells (cel p (.slice A n c)) 33)) := (Below.refl _ _).alloc (Nat.le_refl _) _
  have SX := sev_new w p (.slice A n c)
  have HC : Hid (∀ w, Calls Tryd.prog 12 #[.agg (cel p (.slice A n c))] w fun e w' => e = .returned (.int .i64 (chkP p)) ∧ Below w.heap.size w w') := Lib.hid fun w => rcheck_any p A n c w hn hW
  have HR : Hid (encP p = ([], chkP p)) := Lib.hid (enc_no h rfl)
  have g1 : (chkP p != 0) = true := by simpa using h
  clear hn hW h
  generalize chkP p = R at *
  obtain ⟨q0, q1, q2, q3, q4, q5, q6, q7, q8, q9, q10, q11, q12, q13, q14, q15, q16⟩ := id SX
  go_enter Tryd.func14, Tryd.ntmps14
  go_wp2_with fail
  generalize w.alloc (.cells (cel p (.slice A n c)) 33) = W0 at *
  refine (HC.out W0).mono ?_
  rintro e w1 ⟨rfl, b1⟩
  have B1 := thenB B0 b1
  clear q0 q1 q2 q3 q4 q5 q6 q7 q8 q9 q10 q11 q12 q13 q14 q15 q16
  clear SX
  go_wp2_with fail
  go_ret2
  exact Cn.gives_none HR.out rfl B1
end Go.Proofs.YtcjlliilfecmnaaDoor.Ap
