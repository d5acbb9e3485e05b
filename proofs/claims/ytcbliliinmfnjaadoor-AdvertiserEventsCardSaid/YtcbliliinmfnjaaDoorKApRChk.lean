/- Advertising PDUs: Check by the document; the first byte: contracts over the program. -/
import Derived.Test.YtcbliliinmfnjaaDoorKM7
set_option linter.unusedVariables false
set_option linter.unusedSimpArgs false
namespace Go.Proofs.YtcbliliinmfnjaaDoor.Ap
open Go.RowKit Mem Oct
open Base (thenB)

theorem fst0_or {x : Int} {l : List Int} (h : ¬ x = 0) : Cn.fst0 (x :: l) = x := by simp [Cn.fst0, h]
set_option maxRecDepth 100000 in
set_option maxHeartbeats 4000000 in
theorem rcheck_any (p : Pd) (A : Option Addr) (n c : Nat) (w : World) (hn : p.ds.length = n) (hW : Wid p) :
    Calls Tryd.prog 43 #[.agg (cel p (.slice A n c))] w fun e w' => e = .returned (.int .i64 (chkP p)) ∧ Below w.heap.size w w' := by
  have B0 : Below w.heap.size w (w.alloc (.cells (cel p (.slice A n c)) 52)) := (Below.refl _ _).alloc (Nat.le_refl _) _
  have S0 := sev_new w p (.slice A n c)
  have H1 : Hid (∀ w, Calls Tryd.prog 62 #[.agg #[.int .i64 p.sk, .int .u64 p.sb]] w fun e w' => e = .returned (.int .i64 (Adr.chk p.sk p.sb)) ∧ Below w.heap.size w w') := Lib.hid fun w => Adr.rcheck_any p.sk p.sb w hW.hsk hW.hsb
  have H2 : Hid (∀ w, Calls Tryd.prog 62 #[.agg #[.int .i64 p.tk, .int .u64 p.tb]] w fun e w' => e = .returned (.int .i64 (Adr.chk p.tk p.tb)) ∧ Below w.heap.size w w') := Lib.hid fun w => Adr.rcheck_any p.tk p.tb w hW.htk hW.htb
  have HT := Lib.hid (fun w => hastarget_any p.k w)
  have H3 := Lib.hid (fun w => hasdata_any p.k w)
  have H4 : Hid (∀ w, Calls Tryd.prog 79 #[.agg #[.int .u32 p.a, .int .u32 p.b, .int .i64 p.s, .int .i64 p.o, .int .i64 p.i, .int .i64 p.l, .int .i64 p.t, .int .u64 (p.m : Int), .int .i64 p.h, .int .i64 p.d, .int .i64 p.g]] w fun e w' => e = .returned (.int .i64 (okC p)) ∧ Below w.heap.size w w') := Lib.hid fun w => Cn.rcheck_any p.a p.b p.s p.o p.i p.l p.t p.h p.d p.g p.m w hW.hm
  have q21 := adr_neq p.tk p.tb 0 0
  have q22 := adr_ng p.tk p.tb 0 0
  have q41 := par_neq p.a p.b p.s p.o p.i p.l p.t (p.m : Int) p.h p.d p.g 0 0 0 0 0 0 0 0 0 0 0
  have q42 := par_ng p.a p.b p.s p.o p.i p.l p.t (p.m : Int) p.h p.d p.g 0 0 0 0 0 0 0 0 0 0 0
  obtain ⟨Z2, hZ2⟩ : ∃ Z2, decide (p.tk = 0 ∧ p.tb = 0) = Z2 := ⟨_, rfl⟩
  obtain ⟨Z4, hZ4⟩ : ∃ Z4, zerC p = Z4 := ⟨_, rfl⟩
  have hz4 : decide (p.a = 0 ∧ p.b = 0 ∧ p.s = 0 ∧ p.o = 0 ∧ p.i = 0 ∧ p.l = 0 ∧ p.t = 0 ∧ (p.m : Int) = 0 ∧ p.h = 0 ∧ p.d = 0 ∧ p.g = 0) = Z4 := by rw [← hZ4]; unfold zerC; simp only [Int.natCast_eq_zero]
  rw [hZ2] at q21
  rw [hz4] at q41
  have hT2 : ∀ T, tE T p.tk p.tb = if T = true then Adr.chk p.tk p.tb else if Z2 = true then 0 else 1 := fun T => by unfold tE; rw [← hZ2]; simp only [decide_eq_true_eq]
  have hC4 : ∀ C, cE C p = if C = true then okC p else if Z4 = true then 0 else 1 := fun C => by unfold cE; rw [hZ4]
  have HR : Hid (chkP p = if knoB p.k = true then Cn.fst0 [Adr.chk p.sk p.sb, if tgtB p.k = true then Adr.chk p.tk p.tb else if Z2 = true then 0 else 1, dE (datB p.k) n, if conB p.k = true then okC p else if Z4 = true then 0 else 1] else 12) := Lib.hid (by rw [← hn, ← hT2, ← hC4]; rfl)
  have HKn : Hid (knoB p.k = decide (0 ≤ p.k ∧ p.k ≤ 6)) := Lib.hid rfl
  have hC : (p.k == 5) = conB p.k := rfl
  clear hn hW hZ2 hZ4 hz4 hT2 hC4
  generalize chkP p = R at *
  generalize tgtB p.k = T at *
  generalize datB p.k = D at *
  generalize conB p.k = C at *
  generalize Adr.chk p.sk p.sb = e1 at *
  generalize Adr.chk p.tk p.tb = e2 at *
  generalize okC p = e4 at *
  have c0 := S0.1
  by_cases hk : ¬ (0 ≤ p.k ∧ p.k ≤ 6)
  · have HE : Hid (R = 12) := Lib.hid (by rw [HR.out, HKn.out, decide_eq_false hk]; rfl)
    clear hC
    by_cases h0 : p.k < 0
    · go_enter Tryd.func43, Tryd.ntmps43
      go_wp2_with fail
      go_ret
      exact ⟨Ser.ret_int HE.out.symm, B0⟩
    · have h6 : 6 < p.k := by omega
      go_enter Tryd.func43, Tryd.ntmps43
      go_wp2_with fail
      go_ret
      exact ⟨Ser.ret_int HE.out.symm, B0⟩
  have hk : 0 ≤ p.k ∧ p.k ≤ 6 := by omega
  have HK1 : Hid (R = Cn.fst0 [e1, if T = true then e2 else if Z2 = true then 0 else 1, dE D n, if C = true then e4 else if Z4 = true then 0 else 1]) := Lib.hid (by rw [HR.out, HKn.out, decide_eq_true hk]; rfl)
  have HR1 : Hid (e1 = 0 → R = Cn.fst0 [if T = true then e2 else if Z2 = true then 0 else 1, dE D n, if C = true then e4 else if Z4 = true then 0 else 1]) := Lib.hid fun h => by rw [HK1.out, h]; simp [Cn.fst0]
  have HR2 : Hid (¬ e1 = 0 → R = e1) := Lib.hid fun h => by rw [HK1.out]; exact fst0_or h
  have h0 : ¬ p.k < 0 := by omega
  have h6 : ¬ 6 < p.k := by omega
  clear hk HR HK1 HKn
  go_enter Tryd.func43, Tryd.ntmps43
  go_wp2_with fail
  generalize w.alloc (.cells (cel p (.slice A n c)) 52) = W0 at *
  clear c0
  refine (H1.out W0).mono ?_
  rintro e w0 ⟨rfl, b0⟩
  have BX := thenB B0 b0
  have SX := sev_below S0 b0
  clear B0 S0 b0
  obtain ⟨q0_0, q1_0, q2_0, q3_0, q4_0, q5_0, q6_0, q7_0, q8_0, q9_0, q10_0, q11_0, q12_0, q13_0, q14_0, q15_0, q16_0⟩ := id SX
  by_cases he1 : e1 = 0
  · have HE := Lib.hid (HR1.out he1)
    subst he1
    cases T with
    | true =>
      go_wp2_with fail
      refine (HT.out _).mono ?_
      rintro e w' ⟨rfl, rfl⟩
      go_wp2_with fail
      refine (H2.out _).mono ?_
      rintro e w1 ⟨rfl, b1⟩
      have BX1 := thenB BX b1
      have SX1 := sev_below SX b1
      clear SX BX b1
      obtain ⟨q0_1, q1_1, q2_1, q3_1, q4_1, q5_1, q6_1, q7_1, q8_1, q9_1, q10_1, q11_1, q12_1, q13_1, q14_1, q15_1, q16_1⟩ := id SX1
      by_cases he2 : e2 = 0
      · subst he2
        have HE : Hid (R = Cn.fst0 [dE D n, if C = true then e4 else if Z4 = true then 0 else 1]) := Lib.hid (by rw [HE.out]; simp [Cn.fst0])
        cases D with
        | true =>
          go_wp2_with fail
          refine (H3.out _).mono ?_
          rintro e w' ⟨rfl, rfl⟩
          by_cases h31 : 31 < n
          · have g31 : (31 : Int) < (n : Int) := by omega
            have HZ : Hid (R = 4) := Lib.hid (by rw [HE.out]; simp [dE, Cn.fst0, h31])
            go_wp2_with fail
            go_ret
            exact ⟨Ser.ret_int HZ.out.symm, BX1⟩
          · have g31 : ¬ (31 : Int) < (n : Int) := by omega
            have HE : Hid (R = if C = true then e4 else if Z4 = true then 0 else 1) := Lib.hid (by rw [HE.out]; simp only [dE, if_true, if_neg h31]; simp only [Cn.fst0, if_true]; (try split) <;> simp_all [Cn.fst0])
            go_wp2_with fail
            refine (H3.out _).mono ?_
            rintro e w' ⟨rfl, rfl⟩
            cases C with
            | true =>
              go_wp2_with fail
              refine (H4.out _).mono ?_
              rintro e w9 ⟨rfl, b9⟩
              have HZ : Hid (R = e4) := Lib.hid (by simpa using HE.out)
              go_wp2_with fail
              go_ret
              exact ⟨Ser.ret_int HZ.out.symm, thenB BX1 b9⟩
            | false =>
              cases Z4 with
              | true =>
                rw [Bool.not_true] at q41
                have HZ : Hid (R = 0) := Lib.hid (HE.out)
                go_wp2_with fail
                go_ret
                exact ⟨Ser.ret_int HZ.out.symm, BX1⟩
              | false =>
                rw [Bool.not_false] at q41
                have HZ : Hid (R = 1) := Lib.hid (HE.out)
                go_wp2_with fail
                go_ret
                exact ⟨Ser.ret_int HZ.out.symm, BX1⟩
        | false =>
          go_wp2_with fail
          refine (H3.out _).mono ?_
          rintro e w' ⟨rfl, rfl⟩
          go_wp2_with fail
          refine (H3.out _).mono ?_
          rintro e w' ⟨rfl, rfl⟩
          by_cases h31 : 0 < n
          · have g31 : (0 : Int) < (n : Int) := by omega
            have HZ : Hid (R = 1) := Lib.hid (by rw [HE.out]; simp [dE, Cn.fst0, h31])
            go_wp2_with fail
            go_ret
            exact ⟨Ser.ret_int HZ.out.symm, BX1⟩
          · have g31 : ¬ (0 : Int) < (n : Int) := by omega
            have HE : Hid (R = if C = true then e4 else if Z4 = true then 0 else 1) := Lib.hid (by rw [HE.out]; simp only [dE, if_neg h31]; simp only [Cn.fst0, if_true]; (try split) <;> simp_all [Cn.fst0])
            cases C with
            | true =>
              go_wp2_with fail
              refine (H4.out _).mono ?_
              rintro e w9 ⟨rfl, b9⟩
              have HZ : Hid (R = e4) := Lib.hid (by simpa using HE.out)
              go_wp2_with fail
              go_ret
              exact ⟨Ser.ret_int HZ.out.symm, thenB BX1 b9⟩
            | false =>
              cases Z4 with
              | true =>
                rw [Bool.not_true] at q41
                have HZ : Hid (R = 0) := Lib.hid (HE.out)
                go_wp2_with fail
                go_ret
                exact ⟨Ser.ret_int HZ.out.symm, BX1⟩
              | false =>
                rw [Bool.not_false] at q41
                have HZ : Hid (R = 1) := Lib.hid (HE.out)
                go_wp2_with fail
                go_ret
                exact ⟨Ser.ret_int HZ.out.symm, BX1⟩
      · have g2 : (e2 != 0) = true := by simpa using he2
        have HZ : Hid (R = e2) := Lib.hid (by rw [HE.out]; simp [Cn.fst0, he2])
        go_wp2_with fail
        go_ret
        exact ⟨Ser.ret_int HZ.out.symm, BX1⟩
    | false =>
      go_wp2_with fail
      refine (HT.out _).mono ?_
      rintro e w' ⟨rfl, rfl⟩
      cases Z2 with
      | true =>
        rw [Bool.not_true] at q21
        have HE : Hid (R = Cn.fst0 [dE D n, if C = true then e4 else if Z4 = true then 0 else 1]) := Lib.hid (by rw [HE.out]; simp [Cn.fst0])
        cases D with
        | true =>
          go_wp2_with fail
          refine (H3.out _).mono ?_
          rintro e w' ⟨rfl, rfl⟩
          by_cases h31 : 31 < n
          · have g31 : (31 : Int) < (n : Int) := by omega
            have HZ : Hid (R = 4) := Lib.hid (by rw [HE.out]; simp [dE, Cn.fst0, h31])
            go_wp2_with fail
            go_ret
            exact ⟨Ser.ret_int HZ.out.symm, BX⟩
          · have g31 : ¬ (31 : Int) < (n : Int) := by omega
            have HE : Hid (R = if C = true then e4 else if Z4 = true then 0 else 1) := Lib.hid (by rw [HE.out]; simp only [dE, if_true, if_neg h31]; simp only [Cn.fst0, if_true]; (try split) <;> simp_all [Cn.fst0])
            go_wp2_with fail
            refine (H3.out _).mono ?_
            rintro e w' ⟨rfl, rfl⟩
            cases C with
            | true =>
              go_wp2_with fail
              refine (H4.out _).mono ?_
              rintro e w9 ⟨rfl, b9⟩
              have HZ : Hid (R = e4) := Lib.hid (by simpa using HE.out)
              go_wp2_with fail
              go_ret
              exact ⟨Ser.ret_int HZ.out.symm, thenB BX b9⟩
            | false =>
              cases Z4 with
              | true =>
                rw [Bool.not_true] at q41
                have HZ : Hid (R = 0) := Lib.hid (HE.out)
                go_wp2_with fail
                go_ret
                exact ⟨Ser.ret_int HZ.out.symm, BX⟩
              | false =>
                rw [Bool.not_false] at q41
                have HZ : Hid (R = 1) := Lib.hid (HE.out)
                go_wp2_with fail
                go_ret
                exact ⟨Ser.ret_int HZ.out.symm, BX⟩
        | false =>
          go_wp2_with fail
          refine (H3.out _).mono ?_
          rintro e w' ⟨rfl, rfl⟩
          go_wp2_with fail
          refine (H3.out _).mono ?_
          rintro e w' ⟨rfl, rfl⟩
          by_cases h31 : 0 < n
          · have g31 : (0 : Int) < (n : Int) := by omega
            have HZ : Hid (R = 1) := Lib.hid (by rw [HE.out]; simp [dE, Cn.fst0, h31])
            go_wp2_with fail
            go_ret
            exact ⟨Ser.ret_int HZ.out.symm, BX⟩
          · have g31 : ¬ (0 : Int) < (n : Int) := by omega
            have HE : Hid (R = if C = true then e4 else if Z4 = true then 0 else 1) := Lib.hid (by rw [HE.out]; simp only [dE, if_neg h31]; simp only [Cn.fst0, if_true]; (try split) <;> simp_all [Cn.fst0])
            cases C with
            | true =>
              go_wp2_with fail
              refine (H4.out _).mono ?_
              rintro e w9 ⟨rfl, b9⟩
              have HZ : Hid (R = e4) := Lib.hid (by simpa using HE.out)
              go_wp2_with fail
              go_ret
              exact ⟨Ser.ret_int HZ.out.symm, thenB BX b9⟩
            | false =>
              cases Z4 with
              | true =>
                rw [Bool.not_true] at q41
                have HZ : Hid (R = 0) := Lib.hid (HE.out)
                go_wp2_with fail
                go_ret
                exact ⟨Ser.ret_int HZ.out.symm, BX⟩
              | false =>
                rw [Bool.not_false] at q41
                have HZ : Hid (R = 1) := Lib.hid (HE.out)
                go_wp2_with fail
                go_ret
                exact ⟨Ser.ret_int HZ.out.symm, BX⟩
      | false =>
        rw [Bool.not_false] at q21
        have HZ : Hid (R = 1) := Lib.hid (by rw [HE.out]; simp [Cn.fst0])
        go_wp2_with fail
        go_ret
        exact ⟨Ser.ret_int HZ.out.symm, BX⟩
  · have g1 : (e1 != 0) = true := by simpa using he1
    have HZ : Hid (R = e1) := Lib.hid (HR2.out he1)
    go_wp2_with fail
    go_ret
    exact ⟨Ser.ret_int HZ.out.symm, BX⟩
end Go.Proofs.YtcbliliinmfnjaaDoor.Ap
