/- Advertising PDUs: their bytes by the document: contracts over the program. -/
import Derived.Test.YtcjlliilfecmnaaDoorKApREnc0
set_option linter.unusedVariables false
set_option linter.unusedSimpArgs false
namespace Go.Proofs.YtcjlliilfecmnaaDoor.Ap
open Go.RowKit Mem Oct
open Base (thenB)

set_option maxRecDepth 100000 in
set_option maxHeartbeats 8000000 in
theorem rencode_tf (p : Pd) (A : Option Addr) (n c : Nat) (w : World) (hn : p.ds.length = n) (hW : Wid p) (hr : Ints .u8 w w.heap.size A p.ds) (h : chkP p = 0) (hT : tgtB p.k = true) (hC : conB p.k = false) :
    Calls Tryd.prog 14 #[.agg (cel p (.slice A n c))] w fun e w' => Gives w w' e (encP p) := by
  obtain ⟨i0, hi, hz0, hz1, hz2⟩ := info_parts Base.info_u8
  have BX : Below w.heap.size w (w.alloc (.cells (cel p (.slice A n c)) 33)) := (Below.refl _ _).alloc (Nat.le_refl _) _
  have SX := sev_new w p (.slice A n c)
  have HI0 := Lib.hid hr
  have HOk := Lib.hid (ok_of h)
  have HC : Hid (∀ w, Calls Tryd.prog 12 #[.agg (cel p (.slice A n c))] w fun e w' => e = .returned (.int .i64 0) ∧ Below w.heap.size w w') := Lib.hid fun w => by
    have := rcheck_any p A n c w hn hW
    rwa [h] at this
  have HR : Hid (encP p = (formP p, 0)) := Lib.hid (enc_yes h)
  have HS : Hid (∀ w, Calls Tryd.prog 37 #[.agg #[.int .i64 p.sk, .int .u64 p.sb]] w fun e w' => Gives w w' e (Adr.encR p.sk p.sb)) := Lib.hid fun w => Adr.rencode_any p.sk p.sb w hW.hsk hW.hsb
  have H2 : Hid (∀ w, Calls Tryd.prog 37 #[.agg #[.int .i64 p.tk, .int .u64 p.tb]] w fun e w' => Gives w w' e (Adr.encR p.tk p.tb)) := Lib.hid fun w => Adr.rencode_any p.tk p.tb w hW.htk hW.htb
  have H4 : Hid (∀ w, Calls Tryd.prog 38 #[.agg #[.int .u32 p.a, .int .u32 p.b, .int .i64 p.s, .int .i64 p.o, .int .i64 p.i, .int .i64 p.l, .int .i64 p.t, .int .u64 (p.m : Int), .int .i64 p.h, .int .i64 p.d, .int .i64 p.g]] w fun e w' => Gives w w' e (Cn.encR p.a p.b p.s p.o p.i p.l p.t p.m p.h p.d p.g)) := Lib.hid fun w => Cn.rencode_any p.a p.b p.s p.o p.i p.l p.t p.h p.d p.g p.m w hW.ha hW.hb hW.hm
  have HTg : Hid (∀ w, Calls Tryd.prog 31 #[.int .i64 p.k] w fun e w' => e = .returned (.bool true) ∧ w = w') := Lib.hid fun w => by rw [← hT]; exact hastarget_any p.k w
  have HFi : Hid (∀ w, Calls Tryd.prog 39 #[.agg (cel p (.slice A n c))] w fun e w' => e = .returned (.int .u8 (fstB p)) ∧ Below w.heap.size w w') := Lib.hid fun w => rfirst_any p _ w HOk.out.kind _ HOk.out.fst
  have HN := Lib.hid hn
  have L1 := adr_len p.sk p.sb
  have L2 := adr_len p.tk p.tb
  have L4 := cn_len p.a p.b p.s p.o p.i p.l p.t p.m p.h p.d p.g
  have L3 : n ≤ 31 := by have := HOk.out.data; omega
  have hk5 : (p.k == 5) = false := hC
  have HP : Hid (payP p = (Adr.encR p.sk p.sb).1 ++ ((Adr.encR p.tk p.tb).1 ++ (p.ds ++ []))) := Lib.hid (by unfold payP; rw [HOk.out.no4 hC])
  have HM : Hid ((payP p).length ≤ 70) := Lib.hid (pay_len HOk.out)
  have HF : Hid (formP p = fstB p :: ((payP p).length : Int) :: payP p) := Lib.hid rfl
  clear hn hW hr h hT hC
  generalize Adr.encR p.sk p.sb = r1 at *
  generalize Adr.encR p.tk p.tb = r2 at *
  generalize Cn.encR p.a p.b p.s p.o p.i p.l p.t p.m p.h p.d p.g = r4 at *
  generalize formP p = F at *
  generalize fstB p = b0 at *
  obtain ⟨q0, q1, q2, q3, q4, q5, q6, q7, q8, q9, q10, q11, q12, q13, q14, q15, q16⟩ := id SX
  go_enter Tryd.func14, Tryd.ntmps14
  go_wp2_with fail
  generalize w.alloc (.cells (cel p (.slice A n c)) 33) = W0 at *
  clear q0 q1 q2 q3 q4 q5 q6 q7 q8 q9 q10 q11 q12 q13 q14 q15 q16
  refine (HC.out W0).mono ?_
  rintro e w1 ⟨rfl, b1⟩
  have BX := thenB BX b1
  have SX := sev_below SX b1
  clear b1
  have q1 := SX.2.1; have q2 := SX.2.2.1
  go_wp2_with fail
  clear q1 q2
  refine (HS.out w1).mono ?_
  rintro e w2 ⟨A1, c1, rfl, o1, b2⟩
  have hx := SX.1
  have hxl : w.heap.size < w1.heap.size := block_lt_of_cell hx
  have hbz := b2.size
  have BX := thenB BX b2
  have SX := sev_below SX b2
  have own := o1
  generalize hg1 : w1.heap.size = G at *
  clear o1 b2 hx hg1
  have q0 := SX.1
  go_wp2_with fail
  clear q0
  refine (HTg.out w2).mono ?_
  rintro e w' ⟨rfl, rfl⟩
  have q3 := SX.2.2.2.1; have q4 := SX.2.2.2.2.1
  go_wp2_with fail
  clear q3 q4
  refine (H2.out w2).mono ?_
  rintro e w3 ⟨A2, c2, rfl, o2, b3⟩
  have I2 := Ints.own o2
  have BX := thenB BX b3
  have SX := sev_below SX b3
  have own := own_below own b3
  have hbz := Nat.le_trans hbz b3.size
  clear o2 b3
  go_wp2_with (first | (at_builtin; refine wpList_append_ints rfl _ _ 25 rfl .u8 G 5 i0 _ 1 Tryd.underlying25 hi hz0 hz1 hz2 rfl (.slice A4 (r1.1.length + r2.1.length) c4) (r1.1.length + r2.1.length) _ rfl own4 w4.heap.size A n c p.ds rfl HN.out I3 (by unfold maxLen; omega) (by omega) hbz ?_; intro v5 w5 own5 b5 g5; obtain ⟨A5, c5, rfl⟩ := own_form own5; have BX := BX.trans (b5.mono (Nat.le_of_lt hxl)); have SX := sev_under SX hxl b5; have hbz := Nat.le_trans hbz b5.size; have q0 := SX.1) | (at_builtin; refine wpList_append_ints rfl _ _ 25 rfl .u8 G 5 i0 _ 1 Tryd.underlying25 hi hz0 hz1 hz2 rfl (.slice A1 r1.1.length c1) r1.1.length _ rfl own w3.heap.size A2 r2.1.length c2 r2.1 rfl rfl I2 (by unfold maxLen; omega) (by omega) hbz ?_; intro v4 w4 own4 b4 g4; obtain ⟨A4, c4, rfl⟩ := own_form own4; have BX := BX.trans (b4.mono (Nat.le_of_lt hxl)); have SX := sev_under SX hxl b4; have hbz := Nat.le_trans hbz b4.size; have I3 := (HI0.out.below BX).more BX.size; have q5 := SX.2.2.2.2.2.1))
  clear own I2 b4 g4
  clear own4 I3 b5 g5 q5
  obtain ⟨_, q1, q2, q3, q4, q5, q6, q7, q8, q9, q10, q11, q12, q13, q14, q15, q16⟩ := id SX
  go_wp2_with fail
  clear q0 q1 q2 q3 q4 q5 q6 q7 q8 q9 q10 q11 q12 q13 q14 q15 q16
  refine (HFi.out w5).mono ?_
  rintro e w8 ⟨rfl, b8⟩
  have BX := thenB BX b8
  have hw8x := BX.size
  have own := own_below own5 b8
  have HPl : Hid ((payP p).length = ((r1.1.length + r2.1.length) + n)) := Lib.hid (by rw [HP.out]; simp [HN.out]; try omega)
  have own : w8.ownsRow G 5 1 (.slice A5 ((r1.1.length + r2.1.length) + n) c5) ((r1.1.length + r2.1.length) + n) ((payP p).map (Value.int .u8)) := by rw [HP.out]; simpa using own
  have IP := Ints.own own
  clear own5 own SX b8 hbz
  obtain ⟨m, hm⟩ : ∃ m, ((r1.1.length + r2.1.length) + n) = m := ⟨_, rfl⟩
  rw [hm] at HPl ⊢
  have hm70 : m ≤ 70 := by have := HM.out; rw [HPl.out] at this; exact this
  have e1 : IntKind.u8.wrap (m : Int) = m := by rw [u8_mod]; omega
  have I9 := Base.kept IP (.cells #[.int .u8 b0, .int .u8 (m : Int)] 5)
  have own9 : (w8.alloc (.cells #[.int .u8 b0, .int .u8 (m : Int)] 5)).ownsRow w8.heap.size 5 1 (.slice (some ⟨w8.heap.size, 0, none⟩) 2 2) 2 ([b0, (m : Int)].map (Value.int .u8)) := World.ownsRow_lit w8 #[.int .u8 b0, .int .u8 (m : Int)] 2 (Nat.le_refl _) (by unfold maxLen; omega) rfl
  have BX := BX.alloc BX.size (.cells #[.int .u8 b0, .int .u8 (m : Int)] 5)
  have hw8 : w.heap.size ≤ w8.heap.size := hw8x
  have HPr := Lib.hid (show [b0, (m : Int)].map (Value.int .u8) ++ (payP p).map (Value.int .u8) = F.map (Value.int .u8) by rw [HF.out, HPl.out]; rfl)
  have HFl : Hid (F.length = 2 + m) := Lib.hid (by rw [HF.out]; simp [HPl.out]; omega)
  have hmm := hm
  clear hm
  go_wp2_with (at_builtin; refine wpList_append_ints rfl _ _ 25 rfl .u8 w8.heap.size 5 i0 _ 1 Tryd.underlying25 hi hz0 hz1 hz2 rfl (.slice (some ⟨w8.heap.size, 0, none⟩) 2 2) 2 _ rfl own9 _ A5 m c5 (payP p) rfl HPl.out I9 (by unfold maxLen; omega) (by omega) (by simp) ?_; intro v9 w9 own10 b9 g9; obtain ⟨A9, c9, rfl⟩ := own_form own10)
  have HO : Hid (w9.ownsRow w.heap.size 5 1 (.slice A9 (2 + m) c9) (2 + m) (F.map (Value.int .u8))) := Lib.hid (by rw [← HPr.out]; exact own_base own10 hw8)
  have BX := BX.trans (b9.mono hw8)
  clear own10 own9 I9 IP b9 g9
  go_wp2_with fail
  go_ret2
  exact gives_of HR.out rfl HFl.out HO.out BX
end Go.Proofs.YtcjlliilfecmnaaDoor.Ap
