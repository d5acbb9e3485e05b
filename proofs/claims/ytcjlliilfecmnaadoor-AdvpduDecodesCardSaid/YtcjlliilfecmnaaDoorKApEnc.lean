/- Advertising PDUs: their bytes by the layer: contracts over the program. -/
import Derived.Test.YtcjlliilfecmnaaDoorKM9
import Derived.Test.YtcjlliilfecmnaaDoorKM8
import Derived.Test.YtcjlliilfecmnaaDoorKCnEnc2
set_option linter.unusedVariables false
set_option linter.unusedSimpArgs false
namespace Go.Proofs.YtcjlliilfecmnaaDoor.Ap
open Go.RowKit Mem Oct
open Base (thenB)

/-- The bytes of the payload, and all of them. -/
def payP (p : Pd) : List Int := (Adr.encR p.sk p.sb).1 ++ ((Adr.encR p.tk p.tb).1 ++ (p.ds ++ (Cn.encR p.a p.b p.s p.o p.i p.l p.t p.m p.h p.d p.g).1))
def formP (p : Pd) : List Int := fstB p :: ((payP p).length : Int) :: payP p
def encP (p : Pd) : List Int × Int := if chkP p = 0 then (formP p, 0) else ([], chkP p)
theorem fst0_or' {x : Int} {l : List Int} (h : ¬ x = 0) : Cn.fst0 (x :: l) = x := by simp [Cn.fst0, h]
theorem fst0_zero {l : List Int} (h : Cn.fst0 l = 0) : ∀ x ∈ l, x = 0 := by
  induction l with
  | nil => simp
  | cons y r ih =>
    intro x hx
    by_cases hy : y = 0
    · rcases List.mem_cons.mp hx with rfl | hx
      · exact hy
      · exact ih (by simpa [Cn.fst0, hy] using h) x hx
    · exfalso; rw [fst0_or' hy] at h; exact hy h
/-- What a valid PDU keeps. -/
structure Okp (p : Pd) : Prop where
  kind : 0 ≤ p.k ∧ p.k ≤ 6
  hs : Adr.chk p.sk p.sb = 0
  ht : tE (tgtB p.k) p.tk p.tb = 0
  hd : dE (datB p.k) p.ds.length = 0
  hc : cE (conB p.k) p = 0
theorem ok_of {p : Pd} (h : chkP p = 0) : Okp p := by
  unfold chkP at h
  cases hk : knoB p.k with
  | false => rw [hk] at h; simp at h
  | true =>
    rw [hk, if_pos rfl] at h
    have := fst0_zero h
    refine ⟨by unfold knoB at hk; simpa using hk, this _ (by simp), this _ (by simp), this _ (by simp), this _ (by simp)⟩
theorem of_ok {p : Pd} (h : Okp p) : chkP p = 0 := by
  unfold chkP
  have hk : knoB p.k = true := by unfold knoB; simpa using h.kind
  rw [hk, if_pos rfl, h.hs, h.ht, h.hd, h.hc]; rfl
theorem Okp.data {p : Pd} (h : Okp p) : p.ds.length ≤ 31 := by
  have := h.hd
  unfold dE at this
  split at this
  · split at this
    · omega
    · omega
  · split at this
    · omega
    · omega
theorem adr_len (k b : Int) : (Adr.encR k b).1.length ≤ 7 := by
  unfold Adr.encR; split <;> simp [numL_len]
theorem cn_len (a b s o i l t : Int) (m : Nat) (h d g : Int) : (Cn.encR a b s o i l t m h d g).1.length ≤ 25 := by
  unfold Cn.encR; split
  · have := Cn.fl_len a b s o i l t m h d g; simp only; omega
  · simp
theorem pay_len {p : Pd} (h : Okp p) : (payP p).length ≤ 70 := by
  have h1 := adr_len p.sk p.sb
  have h2 := adr_len p.tk p.tb
  have h3 := h.data
  have h4 := cn_len p.a p.b p.s p.o p.i p.l p.t p.m p.h p.d p.g
  unfold payP
  simp only [List.length_append]; omega
theorem enc_no {p : Pd} {x : Int} (h : ¬ chkP p = 0) (hx : chkP p = x) : encP p = ([], x) := by unfold encP; rw [if_neg h, hx]
theorem enc_yes {p : Pd} (h : chkP p = 0) : encP p = (formP p, 0) := by unfold encP; rw [if_pos h]
theorem ints2 (w : World) (x y : Int) (g : Nat) (hg : g = w.heap.size) : Ints .u8 (w.alloc (.cells #[.int .u8 x, .int .u8 y] 5)) (w.alloc (.cells #[.int .u8 x, .int .u8 y] 5)).heap.size (some ⟨g, 0, none⟩) [x, y] := Base.litg .u8 w [x, y] _ _ g hg rfl
set_option maxRecDepth 100000 in
set_option maxHeartbeats 4000000 in
theorem encode_no (p : Pd) (A : Option Addr) (n c : Nat) (w : World) (hn : p.ds.length = n) (hW : Wid p) (hT : Adr.Tab w) (h : ¬ chkP p = 0) :
    Calls Tryd.prog 13 #[.agg (cel p (.slice A n c))] w fun e w' => Gives w w' e (encP p) := by
  have B0 : Below w.heap.size w (w.alloc (.cells (cel p (.slice A n c)) 33)) := (Below.refl _ _).alloc (Nat.le_refl _) _
  have S0 := sev_new w p (.slice A n c)
  have T0 := hT.below B0
  have HC : Hid (∀ w, Adr.Tab w → Calls Tryd.prog 10 #[.agg (cel p (.slice A n c))] w fun e w' => e = .returned (.int .i64 (chkP p)) ∧ Below w.heap.size w w') := Lib.hid fun w h => check_any p A n c w hn hW h
  have HR : Hid (encP p = ([], chkP p)) := Lib.hid (enc_no h rfl)
  have g1 : (chkP p != 0) = true := by simpa using h
  clear hn hW hT h
  generalize chkP p = R at *
  obtain ⟨q0, q1, q2, q3, q4, q5, q6, q7, q8, q9, q10, q11, q12, q13, q14, q15, q16⟩ := id S0
  go_enter Tryd.func13, Tryd.ntmps13
  go_wp2_with fail
  generalize w.alloc (.cells (cel p (.slice A n c)) 33) = W0 at *
  refine (HC.out W0 T0).mono ?_
  rintro e w1 ⟨rfl, b1⟩
  have B1 := thenB B0 b1
  go_wp2_with fail
  go_ret2
  exact Cn.gives_none HR.out rfl B1
set_option maxRecDepth 100000 in
set_option maxHeartbeats 4000000 in
theorem encode_yes (p : Pd) (A : Option Addr) (n c : Nat) (w : World) (hn : p.ds.length = n) (hW : Wid p) (hr : Ints .u8 w w.heap.size A p.ds) (hT : Adr.Tab w) (h : chkP p = 0) :
    Calls Tryd.prog 13 #[.agg (cel p (.slice A n c))] w fun e w' => Gives w w' e (encP p) := by
  have B0 : Below w.heap.size w (w.alloc (.cells (cel p (.slice A n c)) 33)) := (Below.refl _ _).alloc (Nat.le_refl _) _
  have S0 := sev_new w p (.slice A n c)
  have T0 := hT.below B0
  have HI0 := Lib.hid hr
  have HOk := Lib.hid (ok_of h)
  have HC : Hid (∀ w, Adr.Tab w → Calls Tryd.prog 10 #[.agg (cel p (.slice A n c))] w fun e w' => e = .returned (.int .i64 0) ∧ Below w.heap.size w w') := Lib.hid fun w k => by
    have := check_any p A n c w hn hW k
    rwa [h] at this
  have HR : Hid (encP p = (formP p, 0)) := Lib.hid (enc_yes h)
  have HS : Hid (∀ w, Adr.Tab w → Calls Tryd.prog 23 #[.agg #[.int .i64 p.sk, .int .u64 p.sb]] w fun e w' => Gives w w' e (Adr.encR p.sk p.sb)) := Lib.hid fun w k => Adr.encode_any p.sk p.sb w hW.hsk hW.hsb k
  have HTg : Hid (∀ w, Adr.Tab w → Calls Tryd.prog 23 #[.agg #[.int .i64 p.tk, .int .u64 p.tb]] w fun e w' => Gives w w' e (Adr.encR p.tk p.tb)) := Lib.hid fun w k => Adr.encode_any p.tk p.tb w hW.htk hW.htb k
  have HCn : Hid (∀ w, Calls Tryd.prog 34 #[.agg #[.int .u32 p.a, .int .u32 p.b, .int .i64 p.s, .int .i64 p.o, .int .i64 p.i, .int .i64 p.l, .int .i64 p.t, .int .u64 (p.m : Int), .int .i64 p.h, .int .i64 p.d, .int .i64 p.g]] w fun e w' => Gives w w' e (Cn.encR p.a p.b p.s p.o p.i p.l p.t p.m p.h p.d p.g)) := Lib.hid fun w => Cn.encode_any p.a p.b p.s p.o p.i p.l p.t p.h p.d p.g p.m w hW.ha hW.hb hW.hm
  have HFi : Hid (∀ w, Calls Tryd.prog 36 #[.agg (cel p (.slice A n c))] w fun e w' => e = .returned (.int .u8 (fstB p)) ∧ Below w.heap.size w w') := Lib.hid fun w => first_any p _ w HOk.out.kind
  have HN := Lib.hid hn
  have L1 := adr_len p.sk p.sb
  have L2 := adr_len p.tk p.tb
  have L4 := cn_len p.a p.b p.s p.o p.i p.l p.t p.m p.h p.d p.g
  have L3 : n ≤ 31 := by have := HOk.out.data; omega
  have HP : Hid (payP p = (Adr.encR p.sk p.sb).1 ++ ((Adr.encR p.tk p.tb).1 ++ (p.ds ++ (Cn.encR p.a p.b p.s p.o p.i p.l p.t p.m p.h p.d p.g).1))) := Lib.hid rfl
  have HF : Hid (formP p = fstB p :: ((payP p).length : Int) :: payP p) := Lib.hid rfl
  clear hn hW hT hr h
  generalize Adr.encR p.sk p.sb = r1 at *
  generalize Adr.encR p.tk p.tb = r2 at *
  generalize Cn.encR p.a p.b p.s p.o p.i p.l p.t p.m p.h p.d p.g = r4 at *
  generalize formP p = F at *
  generalize fstB p = b0 at *
  obtain ⟨q0, q1, q2, q3, q4, q5, q6, q7, q8, q9, q10, q11, q12, q13, q14, q15, q16⟩ := id S0
  go_enter Tryd.func13, Tryd.ntmps13
  go_wp2_with fail
  generalize w.alloc (.cells (cel p (.slice A n c)) 33) = W0 at *
  clear q0 q1 q2 q3 q4 q5 q6 q7 q8 q9 q10 q11 q12 q13 q14 q15 q16
  refine (HC.out W0 T0).mono ?_
  rintro e w1 ⟨rfl, b1⟩
  have BX := thenB B0 b1
  have SX := sev_below S0 b1
  have TX := T0.below b1
  clear B0 S0 T0 b1
  obtain ⟨q0, q1, q2, q3, q4, q5, q6, q7, q8, q9, q10, q11, q12, q13, q14, q15, q16⟩ := id SX
  go_wp2_with fail
  clear q0 q1 q2 q3 q4 q5 q6 q7 q8 q9 q10 q11 q12 q13 q14 q15 q16
  refine (HS.out w1 TX).mono ?_
  rintro e w2 ⟨A1, c1, rfl, o1, b2⟩
  have I1 := Ints.own o1
  have BX := thenB BX b2
  have SX := sev_below SX b2
  have TX := TX.below b2
  clear o1 b2
  obtain ⟨q0, q1, q2, q3, q4, q5, q6, q7, q8, q9, q10, q11, q12, q13, q14, q15, q16⟩ := id SX
  go_wp2_with fail
  clear q0 q1 q2 q3 q4 q5 q6 q7 q8 q9 q10 q11 q12 q13 q14 q15 q16
  refine (HTg.out w2 TX).mono ?_
  rintro e w3 ⟨A2, c2, rfl, o2, b3⟩
  have I2 := Ints.own o2
  have I1 := Base.later I1 b3
  have BX := thenB BX b3
  have SX := sev_below SX b3
  have TX := TX.below b3
  clear o2 b3
  obtain ⟨q0, q1, q2, q3, q4, q5, q6, q7, q8, q9, q10, q11, q12, q13, q14, q15, q16⟩ := id SX
  go_wp2_with fail
  clear q0 q1 q2 q3 q4 q5 q6 q7 q8 q9 q10 q11 q12 q13 q14 q15 q16
  refine (HCn.out w3).mono ?_
  rintro e w4 ⟨A4, c4, rfl, o4, b4⟩
  have I4 := Ints.own o4
  have I1 := Base.later I1 b4
  have I2 := Base.later I2 b4
  have BX := thenB BX b4
  have SX := sev_below SX b4
  have I3 : Ints .u8 w4 w4.heap.size A p.ds := (HI0.out.below BX).more BX.size
  have hr0 := BX.size
  clear o4 b4
  have PL := parts_lit w4 [(A1, c1, r1.1), (A2, c2, r2.1), (A, c, p.ds), (A4, c4, r4.1)] #[.slice A1 r1.1.length c1, .slice A2 r2.1.length c2, .slice A n c, .slice A4 r4.1.length c4] 25 w4.heap.size rfl (by simp [HN.out]) (by intro x hx; simp at hx; rcases hx with rfl | rfl | rfl | rfl <;> assumption)
  have HJ : Hid (joinL [(A1, c1, r1.1), (A2, c2, r2.1), (A, c, p.ds), (A4, c4, r4.1)] = payP p) := Lib.hid (by rw [HP.out]; simp [joinL])
  have HJl : Hid ((joinL [(A1, c1, r1.1), (A2, c2, r2.1), (A, c, p.ds), (A4, c4, r4.1)]).length ≤ 140737488351232) := Lib.hid (by simp [joinL]; have := HN.out; omega)
  have HM : Hid ((payP p).length ≤ 70) := Lib.hid (pay_len HOk.out)
  obtain ⟨m, hm⟩ : ∃ m, (payP p).length = m := ⟨_, rfl⟩
  have HMl := Lib.hid hm
  have hm70 : m ≤ 70 := by have := HM.out; omega
  rw [hm] at HF
  clear hm
  have BX := BX.alloc BX.size (.cells #[.slice A1 r1.1.length c1, .slice A2 r2.1.length c2, .slice A n c, .slice A4 r4.1.length c4] 25)
  have SX2 := sev_below SX ((Below.refl w4.heap.size w4).alloc (Nat.le_refl _) (.cells #[.slice A1 r1.1.length c1, .slice A2 r2.1.length c2, .slice A n c, .slice A4 r4.1.length c4] 25))
  clear I1 I2 I3 I4
  obtain ⟨q0, q1, q2, q3, q4, q5, q6, q7, q8, q9, q10, q11, q12, q13, q14, q15, q16⟩ := id SX
  go_wp2_with fail
  clear q0 q1 q2 q3 q4 q5 q6 q7 q8 q9 q10 q11 q12 q13 q14 q15 q16
  generalize w4.alloc (.cells #[.slice A1 r1.1.length c1, .slice A2 r2.1.length c2, .slice A n c, .slice A4 r4.1.length c4] 25) = X4 at *
  have SX := SX2
  clear SX2
  refine (join_any _ 4 4 [(A1, c1, r1.1), (A2, c2, r2.1), (A, c, p.ds), (A4, c4, r4.1)] X4 rfl (by omega) PL HJl.out).mono ?_
  intro e w5 h5
  rw [HJ.out] at h5
  obtain ⟨A5, c5, rfl, o5, b5⟩ := Base.Makes.len (n := m) h5 HMl.out
  have I5 := Ints.own o5
  have BX := thenB BX b5
  have SX := sev_below SX b5
  clear h5 o5 b5 PL
  obtain ⟨q0, q1, q2, q3, q4, q5, q6, q7, q8, q9, q10, q11, q12, q13, q14, q15, q16⟩ := id SX
  have e1 : IntKind.u8.wrap (m : Int) = m := by rw [u8_mod]; omega
  go_wp2_with fail
  clear q0 q1 q2 q3 q4 q5 q6 q7 q8 q9 q10 q11 q12 q13 q14 q15 q16
  refine (HFi.out w5).mono ?_
  rintro e w6 ⟨rfl, b6⟩
  have I6 := Base.later I5 b6
  have BX := thenB BX b6
  clear I5 SX
  have J1 := Base.lit1 .u8 w6 [b0, (m : Int)] #[.int .u8 b0, .int .u8 (m : Int)] 5 rfl
  have I7 := Base.kept I6 (.cells #[.int .u8 b0, .int .u8 (m : Int)] 5)
  have BX := BX.alloc BX.size (.cells #[.int .u8 b0, .int .u8 (m : Int)] 5)
  have PL2 := parts_lit (w6.alloc (.cells #[.int .u8 b0, .int .u8 (m : Int)] 5)) [(some ⟨w6.heap.size, 0, none⟩, 2, [b0, (m : Int)]), (A5, c5, payP p)] #[.slice (some ⟨w6.heap.size, 0, none⟩) 2 2, .slice A5 m c5] 25 (w6.heap.size + 1) (by simp) (by simp [HMl.out]) (by intro x hx; simp at hx; rcases hx with rfl | rfl <;> assumption)
  have HJ2 : Hid (joinL [(some ⟨w6.heap.size, 0, none⟩, 2, [b0, (m : Int)]), (A5, c5, payP p)] = F) := Lib.hid (by rw [HF.out]; simp [joinL])
  have HJl2 : Hid ((joinL [(some (⟨w6.heap.size, 0, none⟩ : Addr), 2, [b0, (m : Int)]), (A5, c5, payP p)]).length ≤ 140737488351232) := Lib.hid (by simp [joinL]; have := HMl.out; omega)
  have BX := BX.alloc BX.size (.cells #[.slice (some ⟨w6.heap.size, 0, none⟩) 2 2, .slice A5 m c5] 25)
  have hbs := BX.size
  have HFl : Hid (F.length = m + 2) := Lib.hid (by rw [HF.out]; simp [HMl.out])
  clear I6 I7 J1
  go_wp2_with fail
  refine (join_any _ 2 2 [(some ⟨w6.heap.size, 0, none⟩, 2, [b0, (m : Int)]), (A5, c5, payP p)] _ rfl (by omega) PL2 HJl2.out).mono ?_
  intro e w7 h7
  rw [HJ2.out] at h7
  obtain ⟨A7, c7, rfl, o7, b7⟩ := Base.Makes.len (n := m + 2) h7 HFl.out
  have BX := thenB BX b7
  have HO7 := Lib.hid (own_base o7 hbs)
  clear h7 o7 PL2
  go_wp2_with fail
  go_ret2
  exact gives_of HR.out rfl HFl.out HO7.out BX
end Go.Proofs.YtcjlliilfecmnaaDoor.Ap
