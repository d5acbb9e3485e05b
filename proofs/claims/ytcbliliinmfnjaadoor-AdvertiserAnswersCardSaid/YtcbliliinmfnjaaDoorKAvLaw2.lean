/- The statement on answers: contracts over the program. -/
import Derived.Test.YtcbliliinmfnjaaDoorKAvLives
import Derived.Test.YtcbliliinmfnjaaDoorKAvOwn
import Derived.Test.YtcbliliinmfnjaaDoorKM18
set_option linter.unusedVariables false
set_option linter.unusedSimpArgs false
namespace Go.Proofs.YtcbliliinmfnjaaDoor.Av
open Go.RowKit Mem Oct Rw Ap Ace Prv
open Base (thenB)

/-- A struct that is read cell by cell is read at once. -/
theorem run_loadVar_cells {P : Program} (w : World) (g off : Nat) (ty : TypeId) (vs : Array Value) (d : TypeDesc) (hc : ∀ (j : Nat) v, vs.toList[j]? = some v → w.cell? ⟨g, off + j, none⟩ = some v)
    (hu : P.underlying ty = some d) (hd : (match d with | .struct _ | .array _ _ => true | _ => false) = true) (hi : (P.info? ty).map (·.size) = some vs.size) :
    (loadVar ty ⟨g, off, none⟩).run P w = .ok (.agg vs) w := by
  have hl : (loadCells ⟨g, off, none⟩ vs.toList.length).run P w = .ok vs.toList.toArray w :=
    run_loadCells_list (P := P) w ⟨g, off, none⟩ vs.toList (fun j v hj => by rw [plain_add]; exact hc j v hj)
  cases hq : P.info? ty with
  | none => simp [hq] at hi
  | some i =>
    have hs : i.size = vs.size := by simpa [hq] using hi
    have hagg : (isAgg ty).run P w = .ok true w := by
      unfold isAgg
      rw [Sem.run_bind, run_underlying hu w]
      cases d <;> simp_all
    simp only [Array.length_toList, Array.toArray_toList] at hl
    simp [loadVar, Sem.run_bind, hagg, sizeOf, typeInfo, hq, hs, hl]
theorem wpList_load_cells {P : Program} {ops : Array Oper} {rest : List Oper} {o : Oper} {a : Act} {w : World} {Q : Exit → Act → World → Prop} (hgd : o.guard = none) (ty : TypeId) (x : Operand) (ho : o.op = .load ty x)
    (g off : Nat) (hx : a.eval x = .pointer (some ⟨g, off, none⟩)) (vs : Array Value) (d : TypeDesc) (hc : ∀ (j : Nat) v, vs.toList[j]? = some v → w.cell? ⟨g, off + j, none⟩ = some v)
    (hu : P.underlying ty = some d) (hd : (match d with | .struct _ | .array _ _ => true | _ => false) = true) (hi : (P.info? ty).map (·.size) = some vs.size)
    (h : wpList P ops Q rest (a.put o.dst (.agg vs)) w) : wpList P ops Q (o :: rest) a w :=
  wpList_plain hgd fun K hK => by
    unfold Oper.wp execOp
    simp only [ho, hx, Instr.loadAt, Instr.sureAddr, Sem.run_bind, Sem.run_pure, Result.andThen_ok, run_loadVar_cells w g off ty vs d hc hu hd hi]
    exact hK _ _ h
theorem allow_all (r : Int) (o : Bool) (h : r = 3 ∨ r = 5) : allowZ 0 r o = true := by
  rcases h with rfl | rfl <;> cases o <;> rfl
/-- What Answer does, without saying how. -/
theorem ans_cases (p : Pm) (q : Pd) (ch l : Int) :
    (ansA ⟨p, true, 0, 0⟩ q ch = ⟨p, true, 0, 0⟩ ∧ ansS ⟨p, true, 0, 0⟩ q ch l = [] ∧ ansB ⟨p, true, 0, 0⟩ q ch = false ∧ ((((q.k == 3 || q.k == 5) && (decide (chkP q = 0) && decide (q.tk = p.ok ∧ q.tb = p.ob))) && (decide (37 ≤ ch) && decide (ch ≤ 39))) = true → ¬ (p.k = 0 ∧ p.po = 0))) ∨
    (ansA ⟨p, true, 0, 0⟩ q ch = ⟨p, true, 0, 0⟩ ∧ ansS ⟨p, true, 0, 0⟩ q ch l = [⟨ch, plc l + 150, ansP p⟩] ∧ ansB ⟨p, true, 0, 0⟩ q ch = false ∧ (((q.k == 3 || q.k == 5) && (decide (chkP q = 0) && decide (q.tk = p.ok ∧ q.tb = p.ob))) && (decide (37 ≤ ch) && decide (ch ≤ 39))) = true ∧ q.k = 3 ∧ scnB p.k = true) ∨
    (ansA ⟨p, true, 0, 0⟩ q ch = ⟨p, false, 0, 0⟩ ∧ ansS ⟨p, true, 0, 0⟩ q ch l = [] ∧ ansB ⟨p, true, 0, 0⟩ q ch = true ∧ (((q.k == 3 || q.k == 5) && (decide (chkP q = 0) && decide (q.tk = p.ok ∧ q.tb = p.ob))) && (decide (37 ≤ ch) && decide (ch ≤ 39))) = true ∧ q.k = 5 ∧ (p.k == 0 || p.k == 1) = true) := by
  have hme : meantB ⟨p, true, 0, 0⟩ q ch = (advB ch && decide (chkP q = 0) && decide (q.tk = p.ok ∧ q.tb = p.ob)) := by
    unfold meantB; rw [eqA_dec]; rfl
  have had : advB ch = (decide (37 ≤ ch) && decide (ch ≤ 39)) := by
    unfold advB
    by_cases h1 : 37 ≤ ch <;> by_cases h2 : ch ≤ 39 <;> simp [h1, h2] <;> omega
  cases hM : meantB ⟨p, true, 0, 0⟩ q ch with
  | false =>
    have := @ans_no ⟨p, true, 0, 0⟩ q ch l (.inl hM)
    refine .inl ⟨this.1, this.2.1, this.2.2, fun h => ?_⟩
    exfalso
    rw [hme, had] at hM
    simp only [Bool.and_eq_true] at h
    simp [h.1.2.1, h.1.2.2, h.2.1, h.2.2] at hM
  | true =>
    have hk := hM
    rw [hme, had] at hk
    simp only [Bool.and_eq_true] at hk
    cases hS : scanB p q with
    | true =>
      have := @ans_scan ⟨p, true, 0, 0⟩ q ch l hM hS
      have h3 : q.k = 3 := by unfold scanB at hS; simp only [Bool.and_eq_true, beq_iff_eq] at hS; exact hS.1
      have hs : scnB p.k = true := by unfold scanB at hS; simp only [Bool.and_eq_true] at hS; exact hS.2.1
      refine .inr (.inl ⟨this.1, this.2.1, this.2.2, ?_, h3, hs⟩)
      rw [show (q.k == 3) = true by simp [h3]]
      simp [hk.1.1.1, hk.1.1.2, hk.1.2, hk.2]
    | false =>
      cases hC : connB p q with
      | true =>
        have := @ans_conn ⟨p, true, 0, 0⟩ q ch l hM hS hC
        have h5 : q.k = 5 := by unfold connB at hC; simp only [Bool.and_eq_true, beq_iff_eq] at hC; exact hC.1
        refine .inr (.inr ⟨this.1, this.2.1, this.2.2, ?_, h5, ?_⟩)
        · rw [show (q.k == 5) = true by simp [h5]]
          simp [hk.1.1.1, hk.1.1.2, hk.1.2, hk.2]
        · unfold connB accB at hC
          simp only [Bool.and_eq_true, Bool.or_eq_true] at hC
          rcases hC.2 with h | h
          · simp [h.1]
          · simp [h.1]
      | false =>
        have := @ans_no ⟨p, true, 0, 0⟩ q ch l (.inr ⟨hS, hC⟩)
        refine .inl ⟨this.1, this.2.1, this.2.2, fun h => ?_⟩
        rintro ⟨h0, hp⟩
        simp only [Bool.and_eq_true, Bool.or_eq_true, beq_iff_eq] at h
        rcases h.1.1 with h3 | h5
        · unfold scanB at hS
          rw [h3, h0, hp, allow_all 3 _ (.inl rfl)] at hS
          cases hS
        · unfold connB accB at hC
          rw [h5, h0, hp, allow_all 5 _ (.inr rfl)] at hC
          simp at hC
set_option maxRecDepth 100000 in
set_option maxHeartbeats 4000000 in
theorem law_answers (p : Pm) (VD VS VA VI : Value) (q : Pd) (VQ : Value) (ch lo : Int) (w : World) (hW : PW p) (hH : Has w 0 p VD VS VA VI) (hQ : Wid q) (hR : Row w 0 VQ q.ds.length (q.ds.map (Value.int .u8))) (hT : Adr.Tab w) :
    Calls Tryd.prog 6 #[.agg (pcel p VD VS VA VI), .agg #[.int .i64 q.k, .int .i64 q.sk, .int .u64 q.sb, .int .i64 q.tk, .int .u64 q.tb, VQ, .int .u32 q.a, .int .u32 q.b, .int .i64 q.s, .int .i64 q.o, .int .i64 q.i, .int .i64 q.l, .int .i64 q.t, .int .u64 (q.m : Int), .int .i64 q.h, .int .i64 q.d, .int .i64 q.g, .int .i64 ch, .int .i64 lo]] w fun e w' => e = .returned (.bool true) ∧ Below w.heap.size w w' := by
  have oVQ := hR.one
  have BX : Below w.heap.size w ((w.alloc (.cells #[.int .i64 p.k, .int .i64 p.it, .int .i64 p.ok, .int .u64 p.ob, .int .i64 p.tk, .int .u64 p.tb, VD, VS, .int .i64 p.po, VA, VI, .int .u64 p.sd] 29)).alloc (.cells #[.int .i64 q.k, .int .i64 q.sk, .int .u64 q.sb, .int .i64 q.tk, .int .u64 q.tb, VQ, .int .u32 q.a, .int .u32 q.b, .int .i64 q.s, .int .i64 q.o, .int .i64 q.i, .int .i64 q.l, .int .i64 q.t, .int .u64 (q.m : Int), .int .i64 q.h, .int .i64 q.d, .int .i64 q.g, .int .i64 ch, .int .i64 lo] 59)) := ((Below.refl _ _).alloc (Nat.le_refl _) _).alloc (by simp) _
  have K2 : Blk ((w.alloc (.cells #[.int .i64 p.k, .int .i64 p.it, .int .i64 p.ok, .int .u64 p.ob, .int .i64 p.tk, .int .u64 p.tb, VD, VS, .int .i64 p.po, VA, VI, .int .u64 p.sd] 29)).alloc (.cells #[.int .i64 q.k, .int .i64 q.sk, .int .u64 q.sb, .int .i64 q.tk, .int .u64 q.tb, VQ, .int .u32 q.a, .int .u32 q.b, .int .i64 q.s, .int .i64 q.o, .int .i64 q.i, .int .i64 q.l, .int .i64 q.t, .int .u64 (q.m : Int), .int .i64 q.h, .int .i64 q.d, .int .i64 q.g, .int .i64 ch, .int .i64 lo] 59)) (w.heap.size) 29 #[.int .i64 p.k, .int .i64 p.it, .int .i64 p.ok, .int .u64 p.ob, .int .i64 p.tk, .int .u64 p.tb, VD, VS, .int .i64 p.po, VA, VI, .int .u64 p.sd] := (Blk.fresh w 29 #[.int .i64 p.k, .int .i64 p.it, .int .i64 p.ok, .int .u64 p.ob, .int .i64 p.tk, .int .u64 p.tb, VD, VS, .int .i64 p.po, VA, VI, .int .u64 p.sd]).alloc _
  have K3 : Blk ((w.alloc (.cells #[.int .i64 p.k, .int .i64 p.it, .int .i64 p.ok, .int .u64 p.ob, .int .i64 p.tk, .int .u64 p.tb, VD, VS, .int .i64 p.po, VA, VI, .int .u64 p.sd] 29)).alloc (.cells #[.int .i64 q.k, .int .i64 q.sk, .int .u64 q.sb, .int .i64 q.tk, .int .u64 q.tb, VQ, .int .u32 q.a, .int .u32 q.b, .int .i64 q.s, .int .i64 q.o, .int .i64 q.i, .int .i64 q.l, .int .i64 q.t, .int .u64 (q.m : Int), .int .i64 q.h, .int .i64 q.d, .int .i64 q.g, .int .i64 ch, .int .i64 lo] 59)) (w.heap.size + 1) 59 #[.int .i64 q.k, .int .i64 q.sk, .int .u64 q.sb, .int .i64 q.tk, .int .u64 q.tb, VQ, .int .u32 q.a, .int .u32 q.b, .int .i64 q.s, .int .i64 q.o, .int .i64 q.i, .int .i64 q.l, .int .i64 q.t, .int .u64 (q.m : Int), .int .i64 q.h, .int .i64 q.d, .int .i64 q.g, .int .i64 ch, .int .i64 lo] := Av.Blk.next
  have HLi : Hid (∀ X, Below w.heap.size w X → Calls Tryd.prog 12 #[] X fun e w' => e = .returned (.bool true) ∧ Below X.heap.size X w') := Lib.hid fun X b => lives_any X (hT.below b)
  have HSm : Hid (∀ X, Below w.heap.size w X → Calls Tryd.prog 13 #[.agg (pcel p VD VS VA VI)] X fun e w' => e = .returned (.bool (decide (p.ac.length ≤ 100 ∧ p.ids.length ≤ 100))) ∧ Below X.heap.size X w') := Lib.hid fun X b => small_any p _ _ _ _ 0 X (hH.below b)
  have HOw : Hid (∀ X, Below w.heap.size w X → Calls Tryd.prog 15 #[.agg (pcel p VD VS VA VI)] X fun e w' => PmR X w' e p) := Lib.hid fun X b => own_any p _ _ _ _ 0 X hW (hH.below b)
  have HSt : Hid (∀ X U1 U2 U3 U4 mm, Below w.heap.size w X → Has X mm p U1 U2 U3 U4 → Calls Tryd.prog 14 #[.agg (pcel p U1 U2 U3 U4), .int .i64 0] X fun e w' => StaR X w' e (startA p 0) (stE p)) := Lib.hid fun X U1 U2 U3 U4 mm b h => start_any p U1 U2 U3 U4 0 mm X hW h (hT.below b)
  have HO : Hid (stE p = 0 → startA p 0 = ⟨p, true, 0, 0⟩) := Lib.hid fun h => by rw [start_ok h, show plc 0 = 0 by decide]
  have HAn : Hid (∀ X U1 U2 U3 U4 mm, Below w.heap.size w X → Has X mm p U1 U2 U3 U4 → Calls Tryd.prog 23 #[.agg #[.int .i64 p.k, .int .i64 p.it, .int .i64 p.ok, .int .u64 p.ob, .int .i64 p.tk, .int .u64 p.tb, U1, U2, .int .i64 p.po, U3, U4, .int .u64 p.sd, .bool true, .int .i64 0, .int .i64 0], .agg #[.int .i64 q.k, .int .i64 q.sk, .int .u64 q.sb, .int .i64 q.tk, .int .u64 q.tb, VQ, .int .u32 q.a, .int .u32 q.b, .int .i64 q.s, .int .i64 q.o, .int .i64 q.i, .int .i64 q.l, .int .i64 q.t, .int .u64 (q.m : Int), .int .i64 q.h, .int .i64 q.d, .int .i64 q.g], .int .i64 ch, .int .i64 lo] X fun e w' => AnsR X w' e (ansA ⟨p, true, 0, 0⟩ q ch) (ansS ⟨p, true, 0, 0⟩ q ch lo) (ansB ⟨p, true, 0, 0⟩ q ch)) := Lib.hid fun X U1 U2 U3 U4 mm b h => answer_any ⟨p, true, 0, 0⟩ U1 U2 U3 U4 q VQ ch lo mm X hW h hQ (hR.below b) (hT.below b)
  have HMe : Hid (∀ X U1 U2 U3 U4, Below w.heap.size w X → Calls Tryd.prog 24 #[.agg #[.int .i64 p.k, .int .i64 p.it, .int .i64 p.ok, .int .u64 p.ob, .int .i64 p.tk, .int .u64 p.tb, U1, U2, .int .i64 p.po, U3, U4, .int .u64 p.sd, .bool true, .int .i64 0, .int .i64 0], .agg #[.int .i64 q.k, .int .i64 q.sk, .int .u64 q.sb, .int .i64 q.tk, .int .u64 q.tb, VQ, .int .u32 q.a, .int .u32 q.b, .int .i64 q.s, .int .i64 q.o, .int .i64 q.i, .int .i64 q.l, .int .i64 q.t, .int .u64 (q.m : Int), .int .i64 q.h, .int .i64 q.d, .int .i64 q.g]] X fun e w' => e = .returned (.bool (((q.k == 3 || q.k == 5) && (decide (chkP q = 0) && decide (q.tk = p.ok ∧ q.tb = p.ob))))) ∧ Below X.heap.size X w') := Lib.hid fun X U1 U2 U3 U4 b => rmeant_any ⟨p, true, 0, 0⟩ U1 U2 U3 U4 q VQ 0 X hQ (hR.below b)
  have HSS : Hid (∀ X U mm, Below w.heap.size w X → Row X mm U p.sc.length (p.sc.map (Value.int .u8)) → Calls Tryd.prog 21 #[U, VS] X fun e w' => e = .returned (.bool true) ∧ X = w') := Lib.hid fun X U mm b h => bytes_yes U VS _ mm 0 p.sc X rfl hW.hsc h (hH.s.below b)
  have HS3 := Lib.hid (fun X => rscannable_any p.k X)
  have HC3 := Lib.hid (fun X => rconnectable_any p.k X)
  have HCa := Lib.hid (ans_cases p q ch lo)
  have HPl : Hid (0 ≤ lo → lo ≤ 1099511627776 → plc lo = lo) := Lib.hid fun h1 h2 => by unfold plc; omega
  have oVS := hH.s.one
  have q1 := Ace.adr_eq' p.ok p.ob
  have q2 := Ace.adr_guard' p.ok p.ob p.ok p.ob
  clear hW hH hQ hR hT
  generalize startA p 0 = AD at *
  generalize stE p = E at *
  generalize decide (p.ac.length ≤ 100 ∧ p.ids.length ≤ 100) = SM at *
  generalize ansA ⟨p, true, 0, 0⟩ q ch = RA at *
  generalize ansS ⟨p, true, 0, 0⟩ q ch lo = RS at *
  generalize ansB ⟨p, true, 0, 0⟩ q ch = RB at *
  generalize (((q.k == 3 || q.k == 5) && (decide (chkP q = 0) && decide (q.tk = p.ok ∧ q.tb = p.ob)))) = MB at *
  generalize scnB p.k = SB at *
  go_enter Tryd.func6, Tryd.ntmps6
  go_wp2_with fail
  generalize (w.alloc (.cells #[.int .i64 p.k, .int .i64 p.it, .int .i64 p.ok, .int .u64 p.ob, .int .i64 p.tk, .int .u64 p.tb, VD, VS, .int .i64 p.po, VA, VI, .int .u64 p.sd] 29)).alloc (.cells #[.int .i64 q.k, .int .i64 q.sk, .int .u64 q.sb, .int .i64 q.tk, .int .u64 q.tb, VQ, .int .u32 q.a, .int .u32 q.b, .int .i64 q.s, .int .i64 q.o, .int .i64 q.i, .int .i64 q.l, .int .i64 q.t, .int .u64 (q.m : Int), .int .i64 q.h, .int .i64 q.d, .int .i64 q.g, .int .i64 ch, .int .i64 lo] 59) = W0 at *
  refine (HLi.out _ BX).mono ?_
  rintro e W1 ⟨rfl, b1⟩
  replace BX := thenB BX b1
  replace K2 := K2.below b1 K2.lt
  replace K3 := K3.below b1 K3.lt
  clear b1
  go_wp2_with (refine wpList_load_row rfl 29 (.tmp 2) rfl w.heap.size rfl 29 _ (0, 0) _ K2 Tryd.underlying29 rfl (by kernel_rfl) ?_)
  refine (HSm.out _ BX).mono ?_
  rintro e W2 ⟨rfl, b2⟩
  replace BX := thenB BX b2
  replace K2 := K2.below b2 K2.lt
  replace K3 := K3.below b2 K3.lt
  clear b2
  cases SM with
  | false =>
    go_wp2_with fail
    go_ret
    exact ⟨rfl, BX⟩
  | true =>
  have c18 := K3.cell 18
  by_cases hl0 : lo < 0
  · go_wp2_with fail
    go_ret
    exact ⟨rfl, BX⟩
  by_cases hl1 : 1099511627776 < lo
  · go_wp2_with fail
    go_ret
    exact ⟨rfl, BX⟩
  go_wp2_with (refine wpList_load_row rfl 29 (.tmp 2) rfl w.heap.size rfl 29 _ (0, 0) _ K2 Tryd.underlying29 rfl (by kernel_rfl) ?_)
  have hpl := Lib.hid (HPl.out (by omega) (by omega))
  have hlo : 0 ≤ lo ∧ lo ≤ 1099511627776 := by omega
  clear hl0 hl1 c18 HPl
  refine (HOw.out _ BX).mono ?_
  rintro e W3 ⟨O1, O2, O3, O4, rfl, HO1, b3⟩
  replace BX := thenB BX b3
  replace K2 := K2.below b3 K2.lt
  replace K3 := K3.below b3 K3.lt
  clear b3
  go_wp2_with fail
  refine (HSt.out _ O1 O2 O3 O4 _ BX HO1).mono ?_
  rintro e W4 ⟨A1, A2, A3, A4, rfl, HA, b4⟩
  replace BX := thenB BX b4
  replace K2 := K2.below b4 K2.lt
  replace K3 := K3.below b4 K3.lt
  replace HO1 := HO1.below b4
  clear b4
  clear HO1
  have K5 : Blk (W4.alloc (.cells #[.int .i64 0, .int .i64 0, .int .i64 0, .int .u64 0, .int .i64 0, .int .u64 0, .slice none 0 0, .slice none 0 0, .int .i64 0, .slice none 0 0, .slice none 0 0, .int .u64 0, .bool false, .int .i64 0, .int .i64 0] 33)) W4.heap.size 33 #[.int .i64 0, .int .i64 0, .int .i64 0, .int .u64 0, .int .i64 0, .int .u64 0, .slice none 0 0, .slice none 0 0, .int .i64 0, .slice none 0 0, .slice none 0 0, .int .u64 0, .bool false, .int .i64 0, .int .i64 0] := Blk.fresh W4 33 #[.int .i64 0, .int .i64 0, .int .i64 0, .int .u64 0, .int .i64 0, .int .u64 0, .slice none 0 0, .slice none 0 0, .int .i64 0, .slice none 0 0, .slice none 0 0, .int .u64 0, .bool false, .int .i64 0, .int .i64 0]
  have l9K2 := K2.lt
  have l9K3 := K3.lt
  have B9 := (Below.refl W4.heap.size W4).alloc (Nat.le_refl _) (.cells #[.int .i64 0, .int .i64 0, .int .i64 0, .int .u64 0, .int .i64 0, .int .u64 0, .slice none 0 0, .slice none 0 0, .int .i64 0, .slice none 0 0, .slice none 0 0, .int .u64 0, .bool false, .int .i64 0, .int .i64 0] 33)
  replace B9 := below_setRow B9 (Nat.le_refl _) #[.int .i64 AD.p.k, .int .i64 AD.p.it, .int .i64 AD.p.ok, .int .u64 AD.p.ob, .int .i64 AD.p.tk, .int .u64 AD.p.tb, A1, A2, .int .i64 AD.p.po, A3, A4, .int .u64 AD.p.sd, .bool AD.on, .int .i64 AD.ev, .int .i64 AD.nx]
  have H1 : (#[.int .i64 AD.p.k, .int .i64 AD.p.it, .int .i64 AD.p.ok, .int .u64 AD.p.ob, .int .i64 AD.p.tk, .int .u64 AD.p.tb, A1, A2, .int .i64 AD.p.po, A3, A4, .int .u64 AD.p.sd, .bool AD.on, .int .i64 AD.ev, .int .i64 AD.nx] : Array Value).all (·.oneCell') = true := HA.one AD
  have K5' : Blk ((W4.alloc (.cells #[.int .i64 0, .int .i64 0, .int .i64 0, .int .u64 0, .int .i64 0, .int .u64 0, .slice none 0 0, .slice none 0 0, .int .i64 0, .slice none 0 0, .slice none 0 0, .int .u64 0, .bool false, .int .i64 0, .int .i64 0] 33)).setRow W4.heap.size #[.int .i64 AD.p.k, .int .i64 AD.p.it, .int .i64 AD.p.ok, .int .u64 AD.p.ob, .int .i64 AD.p.tk, .int .u64 AD.p.tb, A1, A2, .int .i64 AD.p.po, A3, A4, .int .u64 AD.p.sd, .bool AD.on, .int .i64 AD.ev, .int .i64 AD.nx]) W4.heap.size 33 #[.int .i64 AD.p.k, .int .i64 AD.p.it, .int .i64 AD.p.ok, .int .u64 AD.p.ob, .int .i64 AD.p.tk, .int .u64 AD.p.tb, A1, A2, .int .i64 AD.p.po, A3, A4, .int .u64 AD.p.sd, .bool AD.on, .int .i64 AD.ev, .int .i64 AD.nx] := bset_row K5
  go_upto_region 6 with (refine wpList_store_row rfl 33 (.tmp 5) _ rfl (W4.heap.size) #[.int .i64 AD.p.k, .int .i64 AD.p.it, .int .i64 AD.p.ok, .int .u64 AD.p.ob, .int .i64 AD.p.tk, .int .u64 AD.p.tb, A1, A2, .int .i64 AD.p.po, A3, A4, .int .u64 AD.p.sd, .bool AD.on, .int .i64 AD.ev, .int .i64 AD.nx] rfl rfl 33 _ K5 (by kernel_rfl) rfl H1 ?_)
  clear K5 H1
  have K5 := K5'
  clear K5'
  replace K2 := K2.below B9 l9K2
  replace K3 := K3.below B9 l9K3
  replace HA := HA.below B9
  replace BX := thenB BX B9
  clear B9 l9K2 l9K3
  generalize (W4.alloc (.cells #[.int .i64 0, .int .i64 0, .int .i64 0, .int .u64 0, .int .i64 0, .int .u64 0, .slice none 0 0, .slice none 0 0, .int .i64 0, .slice none 0 0, .slice none 0 0, .int .u64 0, .bool false, .int .i64 0, .int .i64 0] 33)).setRow W4.heap.size #[.int .i64 AD.p.k, .int .i64 AD.p.it, .int .i64 AD.p.ok, .int .u64 AD.p.ob, .int .i64 AD.p.tk, .int .u64 AD.p.tb, A1, A2, .int .i64 AD.p.po, A3, A4, .int .u64 AD.p.sd, .bool AD.on, .int .i64 AD.ev, .int .i64 AD.nx] = Y1 at *
  generalize W4.heap.size = g5 at *
  by_cases hE : E = 0
  rotate_left
  · have gE : (E != 0) = true := by simpa using hE
    go_wp2_with fail
    go_ret
    exact ⟨rfl, BX⟩
  have hAD := HO.out hE
  subst hE
  subst hAD
  simp only at K5 HA
  have c17 := K3.cell 17
  have c18 := K3.cell 18
  go_wp2_with (first | (refine wpList_load_row rfl 33 (.tmp 5) rfl g5 rfl 33 _ (0, 0) _ K5 Tryd.underlying33 rfl (by kernel_rfl) ?_) | (refine wpList_load_part rfl _ _ rfl (w.heap.size + 1) 0 rfl 59 _ #[.int .i64 q.k, .int .i64 q.sk, .int .u64 q.sb, .int .i64 q.tk, .int .u64 q.tb, VQ, .int .u32 q.a, .int .u32 q.b, .int .i64 q.s, .int .i64 q.o, .int .i64 q.i, .int .i64 q.l, .int .i64 q.t, .int .u64 (q.m : Int), .int .i64 q.h, .int .i64 q.d, .int .i64 q.g] (0, 0) _ K3 rfl Tryd.underlying52 rfl (by kernel_rfl) ?_))
  refine (HAn.out _ A1 A2 A3 A4 _ BX HA).mono ?_
  rintro e W6 ⟨B1, B2, B3, B4, VL, rfl, HB, SL, b6⟩
  clear c17 c18
  replace BX := thenB BX b6
  replace K2 := K2.below b6 K2.lt
  replace K3 := K3.below b6 K3.lt
  replace K5 := K5.below b6 K5.lt
  replace HA := HA.below b6
  clear b6
  have K7 : Blk (W6.alloc (.cells #[.int .i64 0, .int .i64 0, .int .i64 0, .int .u64 0, .int .i64 0, .int .u64 0, .slice none 0 0, .slice none 0 0, .int .i64 0, .slice none 0 0, .slice none 0 0, .int .u64 0, .bool false, .int .i64 0, .int .i64 0] 33)) W6.heap.size 33 #[.int .i64 0, .int .i64 0, .int .i64 0, .int .u64 0, .int .i64 0, .int .u64 0, .slice none 0 0, .slice none 0 0, .int .i64 0, .slice none 0 0, .slice none 0 0, .int .u64 0, .bool false, .int .i64 0, .int .i64 0] := Blk.fresh W6 33 #[.int .i64 0, .int .i64 0, .int .i64 0, .int .u64 0, .int .i64 0, .int .u64 0, .slice none 0 0, .slice none 0 0, .int .i64 0, .slice none 0 0, .slice none 0 0, .int .u64 0, .bool false, .int .i64 0, .int .i64 0]
  have l9K2 := K2.lt
  have l9K3 := K3.lt
  have l9K5 := K5.lt
  have B9 := (Below.refl W6.heap.size W6).alloc (Nat.le_refl _) (.cells #[.int .i64 0, .int .i64 0, .int .i64 0, .int .u64 0, .int .i64 0, .int .u64 0, .slice none 0 0, .slice none 0 0, .int .i64 0, .slice none 0 0, .slice none 0 0, .int .u64 0, .bool false, .int .i64 0, .int .i64 0] 33)
  replace B9 := below_setRow B9 (Nat.le_refl _) #[.int .i64 RA.p.k, .int .i64 RA.p.it, .int .i64 RA.p.ok, .int .u64 RA.p.ob, .int .i64 RA.p.tk, .int .u64 RA.p.tb, B1, B2, .int .i64 RA.p.po, B3, B4, .int .u64 RA.p.sd, .bool RA.on, .int .i64 RA.ev, .int .i64 RA.nx]
  have H1 : (#[.int .i64 RA.p.k, .int .i64 RA.p.it, .int .i64 RA.p.ok, .int .u64 RA.p.ob, .int .i64 RA.p.tk, .int .u64 RA.p.tb, B1, B2, .int .i64 RA.p.po, B3, B4, .int .u64 RA.p.sd, .bool RA.on, .int .i64 RA.ev, .int .i64 RA.nx] : Array Value).all (·.oneCell') = true := HB.one RA
  have K7' : Blk ((W6.alloc (.cells #[.int .i64 0, .int .i64 0, .int .i64 0, .int .u64 0, .int .i64 0, .int .u64 0, .slice none 0 0, .slice none 0 0, .int .i64 0, .slice none 0 0, .slice none 0 0, .int .u64 0, .bool false, .int .i64 0, .int .i64 0] 33)).setRow W6.heap.size #[.int .i64 RA.p.k, .int .i64 RA.p.it, .int .i64 RA.p.ok, .int .u64 RA.p.ob, .int .i64 RA.p.tk, .int .u64 RA.p.tb, B1, B2, .int .i64 RA.p.po, B3, B4, .int .u64 RA.p.sd, .bool RA.on, .int .i64 RA.ev, .int .i64 RA.nx]) W6.heap.size 33 #[.int .i64 RA.p.k, .int .i64 RA.p.it, .int .i64 RA.p.ok, .int .u64 RA.p.ob, .int .i64 RA.p.tk, .int .u64 RA.p.tb, B1, B2, .int .i64 RA.p.po, B3, B4, .int .u64 RA.p.sd, .bool RA.on, .int .i64 RA.ev, .int .i64 RA.nx] := bset_row K7
  go_upto_region 9 with (refine wpList_store_row rfl 33 (.tmp 7) _ rfl (W6.heap.size) #[.int .i64 RA.p.k, .int .i64 RA.p.it, .int .i64 RA.p.ok, .int .u64 RA.p.ob, .int .i64 RA.p.tk, .int .u64 RA.p.tb, B1, B2, .int .i64 RA.p.po, B3, B4, .int .u64 RA.p.sd, .bool RA.on, .int .i64 RA.ev, .int .i64 RA.nx] rfl rfl 33 _ K7 (by kernel_rfl) rfl H1 ?_)
  clear K7 H1
  have K7 := K7'
  clear K7'
  replace K2 := K2.below B9 l9K2
  replace K3 := K3.below B9 l9K3
  replace K5 := K5.below B9 l9K5
  replace HA := HA.below B9
  replace HB := HB.below B9
  replace SL := SL.below B9
  replace BX := thenB BX B9
  clear B9 l9K2 l9K3 l9K5
  generalize (W6.alloc (.cells #[.int .i64 0, .int .i64 0, .int .i64 0, .int .u64 0, .int .i64 0, .int .u64 0, .slice none 0 0, .slice none 0 0, .int .i64 0, .slice none 0 0, .slice none 0 0, .int .u64 0, .bool false, .int .i64 0, .int .i64 0] 33)).setRow W6.heap.size #[.int .i64 RA.p.k, .int .i64 RA.p.it, .int .i64 RA.p.ok, .int .u64 RA.p.ob, .int .i64 RA.p.tk, .int .u64 RA.p.tb, B1, B2, .int .i64 RA.p.po, B3, B4, .int .u64 RA.p.sd, .bool RA.on, .int .i64 RA.ev, .int .i64 RA.nx] = Y2 at *
  generalize W6.heap.size = g7 at *
  have e150 : IntKind.i64.wrap (lo + 150) = lo + 150 := by have := hlo; simp only [IntKind.wrap, IntKind.signed, IntKind.bits]; simp; omega
  rcases HCa.out with h9 | h9 | h9
  · obtain ⟨hA, hS, hB, hN⟩ := h9
    subst hA
    subst hS
    subst hB
    simp only at K7 HB
    obtain ⟨VsN, hvn, RNs, RNd⟩ := SL
    obtain ⟨AN, cN, rfl, hcN, RNs⟩ := RNs
    go_wp2_with (first | (refine wpList_load_row rfl 33 (.tmp 5) rfl g5 rfl 33 _ (0, 0) _ K5 Tryd.underlying33 rfl (by kernel_rfl) ?_) | (refine wpList_load_part rfl _ _ rfl (w.heap.size + 1) 0 rfl 59 _ #[.int .i64 q.k, .int .i64 q.sk, .int .u64 q.sb, .int .i64 q.tk, .int .u64 q.tb, VQ, .int .u32 q.a, .int .u32 q.b, .int .i64 q.s, .int .i64 q.o, .int .i64 q.i, .int .i64 q.l, .int .i64 q.t, .int .u64 (q.m : Int), .int .i64 q.h, .int .i64 q.d, .int .i64 q.g] (0, 0) _ K3 rfl Tryd.underlying52 rfl (by kernel_rfl) ?_))
    refine (HMe.out _ A1 A2 A3 A4 BX).mono ?_
    rintro e W7 ⟨rfl, b7⟩
    replace BX := thenB BX b7
    replace K2 := K2.below b7 K2.lt
    replace K3 := K3.below b7 K3.lt
    replace K5 := K5.below b7 K5.lt
    replace K7 := K7.below b7 K7.lt
    replace HA := HA.below b7
    replace HB := HB.below b7
    clear b7
    have c12 := K7.cell 12
    have c0 := K2.cell 0
    have c8 := K2.cell 8
    have c17 := K3.cell 17
    have c00 := K3.cell 0
    cases MB with
    | false =>
      go_wp2_with fail
      go_ret
      exact ⟨rfl, BX⟩
    | true =>
    by_cases h37 : 37 ≤ ch
    rotate_left
    · go_wp2_with fail
      go_ret
      exact ⟨rfl, BX⟩
    by_cases h39 : ch ≤ 39
    rotate_left
    · go_wp2_with fail
      go_ret
      exact ⟨rfl, BX⟩
    have hN := hN (by simp [h37, h39])
    by_cases hk : p.k = 0
    rotate_left
    · go_wp2_with fail
      go_ret
      exact ⟨rfl, BX⟩
    by_cases hp : p.po = 0
    · exact absurd ⟨hk, hp⟩ hN
    go_wp2_with fail
    go_ret
    exact ⟨rfl, BX⟩
  rotate_left
  · obtain ⟨hA, hS, hB, hm, h5, hs⟩ := h9
    simp only [Bool.and_eq_true, decide_eq_true_eq] at hm
    obtain ⟨rfl, h37, h39⟩ := hm
    subst hA
    subst hS
    subst hB
    simp only at K7 HB
    obtain ⟨VsN, hvn, RNs, RNd⟩ := SL
    obtain ⟨AN, cN, rfl, hcN, RNs⟩ := RNs
    have HC3 : Hid (∀ X, Calls Tryd.prog 25 #[.int .i64 p.k] X fun e w' => e = .returned (.bool true) ∧ X = w') := Lib.hid fun X => by have := HC3.out X; rwa [hs] at this
    have gk5 : (q.k != 5) = false := by rw [h5]; rfl
    clear h5 hs
    go_wp2_with (first | (refine wpList_load_row rfl 33 (.tmp 5) rfl g5 rfl 33 _ (0, 0) _ K5 Tryd.underlying33 rfl (by kernel_rfl) ?_) | (refine wpList_load_part rfl _ _ rfl (w.heap.size + 1) 0 rfl 59 _ #[.int .i64 q.k, .int .i64 q.sk, .int .u64 q.sb, .int .i64 q.tk, .int .u64 q.tb, VQ, .int .u32 q.a, .int .u32 q.b, .int .i64 q.s, .int .i64 q.o, .int .i64 q.i, .int .i64 q.l, .int .i64 q.t, .int .u64 (q.m : Int), .int .i64 q.h, .int .i64 q.d, .int .i64 q.g] (0, 0) _ K3 rfl Tryd.underlying52 rfl (by kernel_rfl) ?_))
    refine (HMe.out _ A1 A2 A3 A4 BX).mono ?_
    rintro e W7 ⟨rfl, b7⟩
    replace BX := thenB BX b7
    replace K2 := K2.below b7 K2.lt
    replace K3 := K3.below b7 K3.lt
    replace K5 := K5.below b7 K5.lt
    replace K7 := K7.below b7 K7.lt
    replace HA := HA.below b7
    replace HB := HB.below b7
    clear b7
    have c12 := K7.cell 12
    have c0 := K2.cell 0
    have c8 := K2.cell 8
    have c17 := K3.cell 17
    have c00 := K3.cell 0
    go_wp2_with fail
    refine (HC3.out _).mono ?_
    rintro e W8 ⟨rfl, rfl⟩
    by_cases hk : p.k = 0
    rotate_left
    · go_wp2_with fail
      go_ret
      exact ⟨rfl, BX⟩
    by_cases hp : p.po = 0
    rotate_left
    · go_wp2_with fail
      go_ret
      exact ⟨rfl, BX⟩
    go_wp2_with fail
    go_ret
    exact ⟨rfl, BX⟩
  obtain ⟨hA, hS, hB, hm, h3, hs⟩ := h9
  simp only [Bool.and_eq_true, decide_eq_true_eq] at hm
  obtain ⟨rfl, h37, h39⟩ := hm
  have gk3 : (q.k != 3) = false := by rw [h3]; rfl
  clear h3
  rw [hpl.out] at hS
  subst hA
  subst hS
  subst hB
  subst hs
  simp only at K7 HB
  obtain ⟨VsM, hvm, RMs, RMd⟩ := SL
  obtain ⟨U3, rfl⟩ : ∃ a, VsM = [a] := by match VsM, hvm with | [a], _ => exact ⟨a, rfl⟩
  have RV : Row Y2 0 U3 p.sc.length (p.sc.map (Value.int .u8)) := (RMd (⟨ch, lo + 150, ansP p⟩, U3) (by simp)).less (Nat.zero_le _)
  obtain ⟨AM, cM, rfl, hcM, RM⟩ := RMs
  rcases RM with h | ⟨bM, oM, rfl, _, hbM, hqM⟩
  · simp [encD] at h
  have hqM : ∀ (q : Nat) u, ([.int .i64 ch, .int .i64 (lo + 150)] ++ (#[.int .i64 4, .int .i64 p.ok, .int .u64 p.ob, .int .i64 0, .int .u64 0, U3, .int .u32 0, .int .u32 0, .int .i64 0, .int .i64 0, .int .i64 0, .int .i64 0, .int .i64 0, .int .u64 0, .int .i64 0, .int .i64 0, .int .i64 0] : Array Value).toList)[q]? = some u → Y2.cell? ⟨bM, oM + q, none⟩ = some u := hqM
  have k0 : Y2.cell? ⟨bM, oM, none⟩ = some (.int .i64 ch) := hqM 0 _ rfl
  have k1 : Y2.cell? ⟨bM, oM + 1, none⟩ = some (.int .i64 (lo + 150)) := hqM 1 _ rfl
  have kq : ∀ (j : Nat) v, (#[.int .i64 4, .int .i64 p.ok, .int .u64 p.ob, .int .i64 0, .int .u64 0, U3, .int .u32 0, .int .u32 0, .int .i64 0, .int .i64 0, .int .i64 0, .int .i64 0, .int .i64 0, .int .u64 0, .int .i64 0, .int .i64 0, .int .i64 0] : Array Value).toList[j]? = some v → Y2.cell? ⟨bM, oM + 2 + j, none⟩ = some v := fun j v hj => by rw [Nat.add_assoc]; exact hqM (2 + j) v (by rw [List.getElem?_append_right (by simp)]; simpa using hj)
  simp only [List.length_cons, List.length_nil] at hcM ⊢
  have hcM : 1 ≤ cM := hcM
  clear hqM RMd hvm
  have lbM : bM < Y2.heap.size := hbM
  clear hbM
  go_wp2_with (first | (refine wpList_load_row rfl 33 (.tmp 5) rfl g5 rfl 33 _ (0, 0) _ K5 Tryd.underlying33 rfl (by kernel_rfl) ?_) | (refine wpList_load_part rfl _ _ rfl (w.heap.size + 1) 0 rfl 59 _ #[.int .i64 q.k, .int .i64 q.sk, .int .u64 q.sb, .int .i64 q.tk, .int .u64 q.tb, VQ, .int .u32 q.a, .int .u32 q.b, .int .i64 q.s, .int .i64 q.o, .int .i64 q.i, .int .i64 q.l, .int .i64 q.t, .int .u64 (q.m : Int), .int .i64 q.h, .int .i64 q.d, .int .i64 q.g] (0, 0) _ K3 rfl Tryd.underlying52 rfl (by kernel_rfl) ?_))
  refine (HMe.out _ A1 A2 A3 A4 BX).mono ?_
  rintro e W7 ⟨rfl, b7⟩
  replace k0 := (b7.cell (p := ⟨bM, oM, none⟩) lbM).trans k0
  replace k1 := (b7.cell (p := ⟨bM, oM + 1, none⟩) lbM).trans k1
  replace kq := fun j v hj => (b7.cell (p := ⟨bM, oM + 2 + j, none⟩) lbM).trans (kq j v hj)
  replace RV := RV.below b7
  replace lbM : bM < _ := Nat.lt_of_lt_of_le lbM b7.size
  replace BX := thenB BX b7
  replace K2 := K2.below b7 K2.lt
  replace K3 := K3.below b7 K3.lt
  replace K5 := K5.below b7 K5.lt
  replace K7 := K7.below b7 K7.lt
  replace HA := HA.below b7
  replace HB := HB.below b7
  clear b7
  have c12 := K7.cell 12
  have c0 := K2.cell 0
  have c8 := K2.cell 8
  have c17 := K3.cell 17
  have c00 := K3.cell 0
  have K11 : Blk (W7.alloc (.cells #[.int .i64 0, .int .i64 0, .int .u64 0, .int .i64 0, .int .u64 0, .slice none 0 0, .int .u32 0, .int .u32 0, .int .i64 0, .int .i64 0, .int .i64 0, .int .i64 0, .int .i64 0, .int .u64 0, .int .i64 0, .int .i64 0, .int .i64 0] 52)) W7.heap.size 52 #[.int .i64 0, .int .i64 0, .int .u64 0, .int .i64 0, .int .u64 0, .slice none 0 0, .int .u32 0, .int .u32 0, .int .i64 0, .int .i64 0, .int .i64 0, .int .i64 0, .int .i64 0, .int .u64 0, .int .i64 0, .int .i64 0, .int .i64 0] := Blk.fresh W7 52 _
  have l9K2 := K2.lt
  have l9K3 := K3.lt
  have l9K5 := K5.lt
  have l9K7 := K7.lt
  have B9 := (Below.refl W7.heap.size W7).alloc (Nat.le_refl _) (.cells #[.int .i64 0, .int .i64 0, .int .u64 0, .int .i64 0, .int .u64 0, .slice none 0 0, .int .u32 0, .int .u32 0, .int .i64 0, .int .i64 0, .int .i64 0, .int .i64 0, .int .i64 0, .int .u64 0, .int .i64 0, .int .i64 0, .int .i64 0] 52)
  replace B9 := below_setRow B9 (Nat.le_refl _) #[.int .i64 4, .int .i64 p.ok, .int .u64 p.ob, .int .i64 0, .int .u64 0, U3, .int .u32 0, .int .u32 0, .int .i64 0, .int .i64 0, .int .i64 0, .int .i64 0, .int .i64 0, .int .u64 0, .int .i64 0, .int .i64 0, .int .i64 0]
  have oU := RV.one
  have H1 : (#[.int .i64 4, .int .i64 p.ok, .int .u64 p.ob, .int .i64 0, .int .u64 0, U3, .int .u32 0, .int .u32 0, .int .i64 0, .int .i64 0, .int .i64 0, .int .i64 0, .int .i64 0, .int .u64 0, .int .i64 0, .int .i64 0, .int .i64 0] : Array Value).all (·.oneCell') = true := by rw [← Array.all_toList]; simp only [List.all_cons, List.all_nil, oU, Bool.and_true, Bool.and_self]; rfl
  have K11' : Blk ((W7.alloc (.cells #[.int .i64 0, .int .i64 0, .int .u64 0, .int .i64 0, .int .u64 0, .slice none 0 0, .int .u32 0, .int .u32 0, .int .i64 0, .int .i64 0, .int .i64 0, .int .i64 0, .int .i64 0, .int .u64 0, .int .i64 0, .int .i64 0, .int .i64 0] 52)).setRow W7.heap.size #[.int .i64 4, .int .i64 p.ok, .int .u64 p.ob, .int .i64 0, .int .u64 0, U3, .int .u32 0, .int .u32 0, .int .i64 0, .int .i64 0, .int .i64 0, .int .i64 0, .int .i64 0, .int .u64 0, .int .i64 0, .int .i64 0, .int .i64 0]) W7.heap.size 52 #[.int .i64 4, .int .i64 p.ok, .int .u64 p.ob, .int .i64 0, .int .u64 0, U3, .int .u32 0, .int .u32 0, .int .i64 0, .int .i64 0, .int .i64 0, .int .i64 0, .int .i64 0, .int .u64 0, .int .i64 0, .int .i64 0, .int .i64 0] := bset_row K11
  go_upto_region 15 with (fail)
  go_upto_region 16 with (first | (refine wpList_load_cells rfl 52 (.tmp 105) rfl bM (oM + 2) rfl #[.int .i64 4, .int .i64 p.ok, .int .u64 p.ob, .int .i64 0, .int .u64 0, U3, .int .u32 0, .int .u32 0, .int .i64 0, .int .i64 0, .int .i64 0, .int .i64 0, .int .i64 0, .int .u64 0, .int .i64 0, .int .i64 0, .int .i64 0] _ kq Tryd.underlying52 rfl (by kernel_rfl) ?_) | (refine wpList_store_row rfl 52 (.tmp 11) _ rfl (W7.heap.size) #[.int .i64 4, .int .i64 p.ok, .int .u64 p.ob, .int .i64 0, .int .u64 0, U3, .int .u32 0, .int .u32 0, .int .i64 0, .int .i64 0, .int .i64 0, .int .i64 0, .int .i64 0, .int .u64 0, .int .i64 0, .int .i64 0, .int .i64 0] rfl rfl 52 _ K11 (by kernel_rfl) rfl H1 ?_))
  replace k0 := (B9.cell (p := ⟨bM, oM, none⟩) lbM).trans k0
  replace k1 := (B9.cell (p := ⟨bM, oM + 1, none⟩) lbM).trans k1
  replace kq := fun j v hj => (B9.cell (p := ⟨bM, oM + 2 + j, none⟩) lbM).trans (kq j v hj)
  replace RV := RV.below B9
  replace lbM : bM < _ := Nat.lt_of_lt_of_le lbM B9.size
  clear K11 H1 kq
  have K11 := K11'
  clear K11'
  replace K2 := K2.below B9 l9K2
  replace K3 := K3.below B9 l9K3
  replace K5 := K5.below B9 l9K5
  replace K7 := K7.below B9 l9K7
  replace HA := HA.below B9
  replace HB := HB.below B9
  replace BX := thenB BX B9
  clear B9 l9K2 l9K3 l9K5 l9K7
  generalize (W7.alloc (.cells #[.int .i64 0, .int .i64 0, .int .u64 0, .int .i64 0, .int .u64 0, .slice none 0 0, .int .u32 0, .int .u32 0, .int .i64 0, .int .i64 0, .int .i64 0, .int .i64 0, .int .i64 0, .int .u64 0, .int .i64 0, .int .i64 0, .int .i64 0] 52)).setRow W7.heap.size #[.int .i64 4, .int .i64 p.ok, .int .u64 p.ob, .int .i64 0, .int .u64 0, U3, .int .u32 0, .int .u32 0, .int .i64 0, .int .i64 0, .int .i64 0, .int .i64 0, .int .i64 0, .int .u64 0, .int .i64 0, .int .i64 0, .int .i64 0] = Y4 at *
  generalize W7.heap.size = g11 at *
  clear c12 c0 c8 c17 c00
  have K2' : Blk Y4.drew (w.heap.size) 29 #[.int .i64 p.k, .int .i64 p.it, .int .i64 p.ok, .int .u64 p.ob, .int .i64 p.tk, .int .u64 p.tb, VD, VS, .int .i64 p.po, VA, VI, .int .u64 p.sd] := Mem.Blk.drew K2
  have K3' : Blk Y4.drew (w.heap.size + 1) 59 #[.int .i64 q.k, .int .i64 q.sk, .int .u64 q.sb, .int .i64 q.tk, .int .u64 q.tb, VQ, .int .u32 q.a, .int .u32 q.b, .int .i64 q.s, .int .i64 q.o, .int .i64 q.i, .int .i64 q.l, .int .i64 q.t, .int .u64 (q.m : Int), .int .i64 q.h, .int .i64 q.d, .int .i64 q.g, .int .i64 ch, .int .i64 lo] := Mem.Blk.drew K3
  have K11' : Blk Y4.drew (g11) 52 #[.int .i64 4, .int .i64 p.ok, .int .u64 p.ob, .int .i64 0, .int .u64 0, U3, .int .u32 0, .int .u32 0, .int .i64 0, .int .i64 0, .int .i64 0, .int .i64 0, .int .i64 0, .int .u64 0, .int .i64 0, .int .i64 0, .int .i64 0] := Mem.Blk.drew K11
  refine wp_region_held_drew (S := (fun w' => Blk w' (g11) 52 #[.int .i64 4, .int .i64 p.ok, .int .u64 p.ob, .int .i64 0, .int .u64 0, U3, .int .u32 0, .int .u32 0, .int .i64 0, .int .i64 0, .int .i64 0, .int .i64 0, .int .i64 0, .int .u64 0, .int .i64 0, .int .i64 0, .int .i64 0] ∧ Blk w' (w.heap.size + 1) 59 #[.int .i64 q.k, .int .i64 q.sk, .int .u64 q.sb, .int .i64 q.tk, .int .u64 q.tb, VQ, .int .u32 q.a, .int .u32 q.b, .int .i64 q.s, .int .i64 q.o, .int .i64 q.i, .int .i64 q.l, .int .i64 q.t, .int .u64 (q.m : Int), .int .i64 q.h, .int .i64 q.d, .int .i64 q.g, .int .i64 ch, .int .i64 lo] ∧ Blk w' (w.heap.size) 29 #[.int .i64 p.k, .int .i64 p.it, .int .i64 p.ok, .int .u64 p.ob, .int .i64 p.tk, .int .u64 p.tb, VD, VS, .int .i64 p.po, VA, VI, .int .u64 p.sd] ∧ w'.cell? ⟨bM, oM, none⟩ = some (.int .i64 ch) ∧ w'.cell? ⟨bM, oM + 1, none⟩ = some (.int .i64 (lo + 150)))) (by kernel_rfl) ?_ (fun hHeld => ?_)
  · exact ⟨K11', K3', K2', k0, k1⟩
  replace K2 := K2'
  clear K2'
  replace K3 := K3'
  clear K3'
  replace K11 := K11'
  clear K11'
  replace BX : Below w.heap.size w Y4.drew := BX.drew
  replace RV := Row.drew RV
  replace k0 : Y4.drew.cell? ⟨bM, oM, none⟩ = some (.int .i64 ch) := k0
  replace k1 : Y4.drew.cell? ⟨bM, oM + 1, none⟩ = some (.int .i64 (lo + 150)) := k1
  generalize Y4.drew = X0 at *
  refine wpAnyH_take (i := 0) (v := .pointer (some ⟨w.heap.size + 1, 0, none⟩)) rfl (by kernel_rfl) (by kernel_rfl) (by kernel_rfl) (fun _ _ _ h => h) (Or.inl ⟨by first | rfl | go_simp, by intro w9 hSw; (try dsimp only at hSw); go_simp⟩) (by assumption) ?_
  simp only [List.getElem_toArray, List.getElem_cons_zero, List.getElem_cons_succ, Act.put, List.setIfInBounds_toArray, List.set_cons_zero, List.set_cons_succ]
  refine wpAnyH_take (i := 1) (v := .pointer (some ⟨w.heap.size + 1, 0, none⟩)) rfl (by kernel_rfl) (by kernel_rfl) (by kernel_rfl) (fun _ _ _ h => h) (Or.inl ⟨by first | rfl | go_simp, by intro w9 hSw; (try dsimp only at hSw); go_simp⟩) (by assumption) ?_
  simp only [List.getElem_toArray, List.getElem_cons_zero, List.getElem_cons_succ, Act.put, List.setIfInBounds_toArray, List.set_cons_zero, List.set_cons_succ]
  refine wpAnyH_take (i := 2) (v := .int .i64 q.k) rfl (by kernel_rfl) (by kernel_rfl) (by kernel_rfl) (fun _ _ _ h => h) (Or.inl ⟨by first | rfl | go_simp, by intro w9 hSw; (try dsimp only at hSw); have c9 := hSw.2.1.cell 0; clear hSw; go_simp⟩) (by assumption) ?_
  simp only [List.getElem_toArray, List.getElem_cons_zero, List.getElem_cons_succ, Act.put, List.setIfInBounds_toArray, List.set_cons_zero, List.set_cons_succ]
  refine wpAnyH_take (i := 3) (v := .bool false) rfl (by kernel_rfl) (by kernel_rfl) (by kernel_rfl) (fun _ _ _ h => h) (Or.inl ⟨by first | rfl | go_simp, by intro w9 hSw; (try dsimp only at hSw); go_simp⟩) (by assumption) ?_
  simp only [List.getElem_toArray, List.getElem_cons_zero, List.getElem_cons_succ, Act.put, List.setIfInBounds_toArray, List.set_cons_zero, List.set_cons_succ]
  refine wpAnyH_take (i := 4) (v := .bool false) rfl (by kernel_rfl) (by kernel_rfl) (by kernel_rfl) (fun _ _ _ h => h) (Or.inl ⟨by first | rfl | go_simp, by intro w9 hSw; (try dsimp only at hSw); go_simp⟩) (by assumption) ?_
  simp only [List.getElem_toArray, List.getElem_cons_zero, List.getElem_cons_succ, Act.put, List.setIfInBounds_toArray, List.set_cons_zero, List.set_cons_succ]
  refine wpAnyH_take (i := 5) (v := .pointer (some ⟨w.heap.size, 0, none⟩)) rfl (by kernel_rfl) (by kernel_rfl) (by kernel_rfl) (fun _ _ _ h => h) (Or.inl ⟨by first | rfl | go_simp, by intro w9 hSw; (try dsimp only at hSw); go_simp⟩) (by assumption) ?_
  simp only [List.getElem_toArray, List.getElem_cons_zero, List.getElem_cons_succ, Act.put, List.setIfInBounds_toArray, List.set_cons_zero, List.set_cons_succ]
  refine wpAnyH_take (i := 6) (v := .int .i64 p.k) rfl (by kernel_rfl) (by kernel_rfl) (by kernel_rfl) (fun _ _ _ h => h) (Or.inl ⟨by first | rfl | go_simp, by intro w9 hSw; (try dsimp only at hSw); have c9 := hSw.2.2.1.cell 0; clear hSw; go_simp⟩) (by assumption) ?_
  simp only [List.getElem_toArray, List.getElem_cons_zero, List.getElem_cons_succ, Act.put, List.setIfInBounds_toArray, List.set_cons_zero, List.set_cons_succ]
  refine wpAnyH_ready (rs := [7]) (by kernel_rfl) (by simp) ?_
  refine AllReadyH.cons rfl (fun K hK => ?_) (AllReadyH.nil)
  go_simp
  refine (HS3.out X0).mono ?_
  rintro e X1 ⟨rfl, rfl⟩
  refine hK.out _ _ ⟨K11, K3, K2, k0, k1⟩ (fun hHeld => ?_)
  clear hK K
  try simp only [List.getElem_toArray, List.getElem_cons_zero, List.getElem_cons_succ, Act.put, List.setIfInBounds_toArray, List.set_cons_zero, List.set_cons_succ]
  refine wpAnyH_take (i := 8) (v := .bool false) rfl (by kernel_rfl) (by kernel_rfl) (by kernel_rfl) (fun _ _ _ h => h) (Or.inl ⟨by first | rfl | go_simp, by intro w9 hSw; (try dsimp only at hSw); go_simp⟩) (by assumption) ?_
  simp only [List.getElem_toArray, List.getElem_cons_zero, List.getElem_cons_succ, Act.put, List.setIfInBounds_toArray, List.set_cons_zero, List.set_cons_succ]
  refine wpAnyH_take (i := 9) (v := .bool false) rfl (by kernel_rfl) (by kernel_rfl) (by kernel_rfl) (fun _ _ _ h => h) (Or.inl ⟨by first | rfl | go_simp, by intro w9 hSw; (try dsimp only at hSw); go_simp⟩) (by assumption) ?_
  simp only [List.getElem_toArray, List.getElem_cons_zero, List.getElem_cons_succ, Act.put, List.setIfInBounds_toArray, List.set_cons_zero, List.set_cons_succ]
  refine wpAnyH_take (i := 10) (v := .bool false) rfl (by kernel_rfl) (by kernel_rfl) (by kernel_rfl) (fun _ _ _ h => h) (Or.inl ⟨by first | rfl | go_simp, by intro w9 hSw; (try dsimp only at hSw); go_simp⟩) (by assumption) ?_
  simp only [List.getElem_toArray, List.getElem_cons_zero, List.getElem_cons_succ, Act.put, List.setIfInBounds_toArray, List.set_cons_zero, List.set_cons_succ]
  refine wpAnyH_take (i := 11) (v := .slice (some ⟨bM, oM, none⟩) 1 cM) rfl (by kernel_rfl) (by kernel_rfl) (by kernel_rfl) (fun _ _ _ h => h) (Or.inl ⟨by first | rfl | go_simp, by intro w9 hSw; (try dsimp only at hSw); go_simp⟩) (by assumption) ?_
  simp only [List.getElem_toArray, List.getElem_cons_zero, List.getElem_cons_succ, Act.put, List.setIfInBounds_toArray, List.set_cons_zero, List.set_cons_succ]
  refine wpAnyH_take (i := 12) (v := .pointer (some ⟨bM, oM, none⟩)) rfl (by kernel_rfl) (by kernel_rfl) (by kernel_rfl) (fun _ _ _ h => h) (Or.inl ⟨by first | rfl | go_simp, by intro w9 hSw; (try dsimp only at hSw); go_simp⟩) (by assumption) ?_
  simp only [List.getElem_toArray, List.getElem_cons_zero, List.getElem_cons_succ, Act.put, List.setIfInBounds_toArray, List.set_cons_zero, List.set_cons_succ]
  refine wpAnyH_take (i := 13) (v := .pointer (some ⟨bM, oM, none⟩)) rfl (by kernel_rfl) (by kernel_rfl) (by kernel_rfl) (fun _ _ _ h => h) (Or.inl ⟨by first | rfl | go_simp, by intro w9 hSw; (try dsimp only at hSw); go_simp⟩) (by assumption) ?_
  simp only [List.getElem_toArray, List.getElem_cons_zero, List.getElem_cons_succ, Act.put, List.setIfInBounds_toArray, List.set_cons_zero, List.set_cons_succ]
  refine wpAnyH_take (i := 14) (v := .int .i64 ch) rfl (by kernel_rfl) (by kernel_rfl) (by kernel_rfl) (fun _ _ _ h => h) (Or.inl ⟨by first | rfl | go_simp, by intro w9 hSw; (try dsimp only at hSw); go_simp⟩) (by assumption) ?_
  simp only [List.getElem_toArray, List.getElem_cons_zero, List.getElem_cons_succ, Act.put, List.setIfInBounds_toArray, List.set_cons_zero, List.set_cons_succ]
  refine wpAnyH_take (i := 15) (v := .pointer (some ⟨w.heap.size + 1, 17, none⟩)) rfl (by kernel_rfl) (by kernel_rfl) (by kernel_rfl) (fun _ _ _ h => h) (Or.inl ⟨by first | rfl | go_simp, by intro w9 hSw; (try dsimp only at hSw); go_simp⟩) (by assumption) ?_
  simp only [List.getElem_toArray, List.getElem_cons_zero, List.getElem_cons_succ, Act.put, List.setIfInBounds_toArray, List.set_cons_zero, List.set_cons_succ]
  refine wpAnyH_take (i := 16) (v := .int .i64 ch) rfl (by kernel_rfl) (by kernel_rfl) (by kernel_rfl) (fun _ _ _ h => h) (Or.inl ⟨by first | rfl | go_simp, by intro w9 hSw; (try dsimp only at hSw); have c9 := hSw.2.1.cell 17; clear hSw; go_simp⟩) (by assumption) ?_
  simp only [List.getElem_toArray, List.getElem_cons_zero, List.getElem_cons_succ, Act.put, List.setIfInBounds_toArray, List.set_cons_zero, List.set_cons_succ]
  refine wpAnyH_take (i := 17) (v := .bool false) rfl (by kernel_rfl) (by kernel_rfl) (by kernel_rfl) (fun _ _ _ h => h) (Or.inl ⟨by first | rfl | go_simp, by intro w9 hSw; (try dsimp only at hSw); go_simp⟩) (by assumption) ?_
  simp only [List.getElem_toArray, List.getElem_cons_zero, List.getElem_cons_succ, Act.put, List.setIfInBounds_toArray, List.set_cons_zero, List.set_cons_succ]
  refine wpAnyH_take (i := 18) (v := .bool false) rfl (by kernel_rfl) (by kernel_rfl) (by kernel_rfl) (fun _ _ _ h => h) (Or.inl ⟨by first | rfl | go_simp, by intro w9 hSw; (try dsimp only at hSw); go_simp⟩) (by assumption) ?_
  simp only [List.getElem_toArray, List.getElem_cons_zero, List.getElem_cons_succ, Act.put, List.setIfInBounds_toArray, List.set_cons_zero, List.set_cons_succ]
  refine wpAnyH_take (i := 19) (v := .bool false) rfl (by kernel_rfl) (by kernel_rfl) (by kernel_rfl) (fun _ _ _ h => h) (Or.inl ⟨by first | rfl | go_simp, by intro w9 hSw; (try dsimp only at hSw); go_simp⟩) (by assumption) ?_
  simp only [List.getElem_toArray, List.getElem_cons_zero, List.getElem_cons_succ, Act.put, List.setIfInBounds_toArray, List.set_cons_zero, List.set_cons_succ]
  refine wpAnyH_take (i := 20) (v := .slice (some ⟨bM, oM, none⟩) 1 cM) rfl (by kernel_rfl) (by kernel_rfl) (by kernel_rfl) (fun _ _ _ h => h) (Or.inl ⟨by first | rfl | go_simp, by intro w9 hSw; (try dsimp only at hSw); go_simp⟩) (by assumption) ?_
  simp only [List.getElem_toArray, List.getElem_cons_zero, List.getElem_cons_succ, Act.put, List.setIfInBounds_toArray, List.set_cons_zero, List.set_cons_succ]
  refine wpAnyH_take (i := 21) (v := .pointer (some ⟨bM, oM, none⟩)) rfl (by kernel_rfl) (by kernel_rfl) (by kernel_rfl) (fun _ _ _ h => h) (Or.inl ⟨by first | rfl | go_simp, by intro w9 hSw; (try dsimp only at hSw); go_simp⟩) (by assumption) ?_
  simp only [List.getElem_toArray, List.getElem_cons_zero, List.getElem_cons_succ, Act.put, List.setIfInBounds_toArray, List.set_cons_zero, List.set_cons_succ]
  refine wpAnyH_take (i := 22) (v := .pointer (some ⟨bM, oM + 1, none⟩)) rfl (by kernel_rfl) (by kernel_rfl) (by kernel_rfl) (fun _ _ _ h => h) (Or.inl ⟨by first | rfl | go_simp, by intro w9 hSw; (try dsimp only at hSw); go_simp⟩) (by assumption) ?_
  simp only [List.getElem_toArray, List.getElem_cons_zero, List.getElem_cons_succ, Act.put, List.setIfInBounds_toArray, List.set_cons_zero, List.set_cons_succ]
  refine wpAnyH_take (i := 23) (v := .int .i64 (lo + 150)) rfl (by kernel_rfl) (by kernel_rfl) (by kernel_rfl) (fun _ _ _ h => h) (Or.inl ⟨by first | rfl | go_simp, by intro w9 hSw; (try dsimp only at hSw); go_simp⟩) (by assumption) ?_
  simp only [List.getElem_toArray, List.getElem_cons_zero, List.getElem_cons_succ, Act.put, List.setIfInBounds_toArray, List.set_cons_zero, List.set_cons_succ]
  refine wpAnyH_take (i := 24) (v := .pointer (some ⟨w.heap.size + 1, 18, none⟩)) rfl (by kernel_rfl) (by kernel_rfl) (by kernel_rfl) (fun _ _ _ h => h) (Or.inl ⟨by first | rfl | go_simp, by intro w9 hSw; (try dsimp only at hSw); go_simp⟩) (by assumption) ?_
  simp only [List.getElem_toArray, List.getElem_cons_zero, List.getElem_cons_succ, Act.put, List.setIfInBounds_toArray, List.set_cons_zero, List.set_cons_succ]
  refine wpAnyH_take (i := 25) (v := .int .i64 lo) rfl (by kernel_rfl) (by kernel_rfl) (by kernel_rfl) (fun _ _ _ h => h) (Or.inl ⟨by first | rfl | go_simp, by intro w9 hSw; (try dsimp only at hSw); have c9 := hSw.2.1.cell 18; clear hSw; go_simp⟩) (by assumption) ?_
  simp only [List.getElem_toArray, List.getElem_cons_zero, List.getElem_cons_succ, Act.put, List.setIfInBounds_toArray, List.set_cons_zero, List.set_cons_succ]
  refine wpAnyH_take (i := 26) (v := .int .i64 (lo + 150)) rfl (by kernel_rfl) (by kernel_rfl) (by kernel_rfl) (fun _ _ _ h => h) (Or.inl ⟨by first | rfl | go_simp, by intro w9 hSw; (try dsimp only at hSw); go_simp⟩) (by assumption) ?_
  simp only [List.getElem_toArray, List.getElem_cons_zero, List.getElem_cons_succ, Act.put, List.setIfInBounds_toArray, List.set_cons_zero, List.set_cons_succ]
  refine wpAnyH_take (i := 27) (v := .bool false) rfl (by kernel_rfl) (by kernel_rfl) (by kernel_rfl) (fun _ _ _ h => h) (Or.inl ⟨by first | rfl | go_simp, by intro w9 hSw; (try dsimp only at hSw); go_simp⟩) (by assumption) ?_
  simp only [List.getElem_toArray, List.getElem_cons_zero, List.getElem_cons_succ, Act.put, List.setIfInBounds_toArray, List.set_cons_zero, List.set_cons_succ]
  refine wpAnyH_take (i := 28) (v := .bool false) rfl (by kernel_rfl) (by kernel_rfl) (by kernel_rfl) (fun _ _ _ h => h) (Or.inl ⟨by first | rfl | go_simp, by intro w9 hSw; (try dsimp only at hSw); go_simp⟩) (by assumption) ?_
  simp only [List.getElem_toArray, List.getElem_cons_zero, List.getElem_cons_succ, Act.put, List.setIfInBounds_toArray, List.set_cons_zero, List.set_cons_succ]
  refine wpAnyH_take (i := 29) (v := .bool false) rfl (by kernel_rfl) (by kernel_rfl) (by kernel_rfl) (fun _ _ _ h => h) (Or.inl ⟨by first | rfl | go_simp, by intro w9 hSw; (try dsimp only at hSw); go_simp⟩) (by assumption) ?_
  simp only [List.getElem_toArray, List.getElem_cons_zero, List.getElem_cons_succ, Act.put, List.setIfInBounds_toArray, List.set_cons_zero, List.set_cons_succ]
  refine wpAnyH_take (i := 30) (v := .pointer (some ⟨g11, 0, none⟩)) rfl (by kernel_rfl) (by kernel_rfl) (by kernel_rfl) (fun _ _ _ h => h) (Or.inl ⟨by first | rfl | go_simp, by intro w9 hSw; (try dsimp only at hSw); go_simp⟩) (by assumption) ?_
  simp only [List.getElem_toArray, List.getElem_cons_zero, List.getElem_cons_succ, Act.put, List.setIfInBounds_toArray, List.set_cons_zero, List.set_cons_succ]
  refine wpAnyH_take (i := 31) (v := .int .i64 4) rfl (by kernel_rfl) (by kernel_rfl) (by kernel_rfl) (fun _ _ _ h => h) (Or.inl ⟨by first | rfl | go_simp, by intro w9 hSw; (try dsimp only at hSw); have c9 := hSw.1.cell 0; clear hSw; go_simp⟩) (by assumption) ?_
  simp only [List.getElem_toArray, List.getElem_cons_zero, List.getElem_cons_succ, Act.put, List.setIfInBounds_toArray, List.set_cons_zero, List.set_cons_succ]
  refine wpAnyH_take (i := 32) (v := .bool false) rfl (by kernel_rfl) (by kernel_rfl) (by kernel_rfl) (fun _ _ _ h => h) (Or.inl ⟨by first | rfl | go_simp, by intro w9 hSw; (try dsimp only at hSw); go_simp⟩) (by assumption) ?_
  simp only [List.getElem_toArray, List.getElem_cons_zero, List.getElem_cons_succ, Act.put, List.setIfInBounds_toArray, List.set_cons_zero, List.set_cons_succ]
  refine wpAnyH_take (i := 33) (v := .bool false) rfl (by kernel_rfl) (by kernel_rfl) (by kernel_rfl) (fun _ _ _ h => h) (Or.inl ⟨by first | rfl | go_simp, by intro w9 hSw; (try dsimp only at hSw); go_simp⟩) (by assumption) ?_
  simp only [List.getElem_toArray, List.getElem_cons_zero, List.getElem_cons_succ, Act.put, List.setIfInBounds_toArray, List.set_cons_zero, List.set_cons_succ]
  refine wpAnyH_take (i := 34) (v := .bool false) rfl (by kernel_rfl) (by kernel_rfl) (by kernel_rfl) (fun _ _ _ h => h) (Or.inl ⟨by first | rfl | go_simp, by intro w9 hSw; (try dsimp only at hSw); go_simp⟩) (by assumption) ?_
  simp only [List.getElem_toArray, List.getElem_cons_zero, List.getElem_cons_succ, Act.put, List.setIfInBounds_toArray, List.set_cons_zero, List.set_cons_succ]
  refine wpAnyH_take (i := 35) (v := .pointer (some ⟨g11, 1, none⟩)) rfl (by kernel_rfl) (by kernel_rfl) (by kernel_rfl) (fun _ _ _ h => h) (Or.inl ⟨by first | rfl | go_simp, by intro w9 hSw; (try dsimp only at hSw); go_simp⟩) (by assumption) ?_
  simp only [List.getElem_toArray, List.getElem_cons_zero, List.getElem_cons_succ, Act.put, List.setIfInBounds_toArray, List.set_cons_zero, List.set_cons_succ]
  refine wpAnyH_take (i := 36) (v := .agg #[.int .i64 p.ok, .int .u64 p.ob]) rfl (by kernel_rfl) (by kernel_rfl) (by kernel_rfl) (fun _ _ _ h => h) (Av.yields_part (by first | rfl | go_simp) _ _ rfl (g11) 1 rfl #[.int .i64 p.ok, .int .u64 p.ob] _ 52 #[.int .i64 4, .int .i64 p.ok, .int .u64 p.ob, .int .i64 0, .int .u64 0, U3, .int .u32 0, .int .u32 0, .int .i64 0, .int .i64 0, .int .i64 0, .int .i64 0, .int .i64 0, .int .u64 0, .int .i64 0, .int .i64 0, .int .i64 0] (fun w9 hSw => hSw.1) rfl Tryd.underlying24 rfl (by kernel_rfl)) (by assumption) ?_
  simp only [List.getElem_toArray, List.getElem_cons_zero, List.getElem_cons_succ, Act.put, List.setIfInBounds_toArray, List.set_cons_zero, List.set_cons_succ]
  refine wpAnyH_take (i := 37) (v := .pointer (some ⟨w.heap.size, 2, none⟩)) rfl (by kernel_rfl) (by kernel_rfl) (by kernel_rfl) (fun _ _ _ h => h) (Or.inl ⟨by first | rfl | go_simp, by intro w9 hSw; (try dsimp only at hSw); go_simp⟩) (by assumption) ?_
  simp only [List.getElem_toArray, List.getElem_cons_zero, List.getElem_cons_succ, Act.put, List.setIfInBounds_toArray, List.set_cons_zero, List.set_cons_succ]
  refine wpAnyH_take (i := 38) (v := .agg #[.int .i64 p.ok, .int .u64 p.ob]) rfl (by kernel_rfl) (by kernel_rfl) (by kernel_rfl) (fun _ _ _ h => h) (Av.yields_part (by first | rfl | go_simp) _ _ rfl (w.heap.size) 2 rfl #[.int .i64 p.ok, .int .u64 p.ob] _ 29 #[.int .i64 p.k, .int .i64 p.it, .int .i64 p.ok, .int .u64 p.ob, .int .i64 p.tk, .int .u64 p.tb, VD, VS, .int .i64 p.po, VA, VI, .int .u64 p.sd] (fun w9 hSw => hSw.2.2.1) rfl Tryd.underlying24 rfl (by kernel_rfl)) (by assumption) ?_
  simp only [List.getElem_toArray, List.getElem_cons_zero, List.getElem_cons_succ, Act.put, List.setIfInBounds_toArray, List.set_cons_zero, List.set_cons_succ]
  refine wpAnyH_take (i := 39) (v := .bool false) rfl (by kernel_rfl) (by kernel_rfl) (by kernel_rfl) (fun _ _ _ h => h) (Or.inl ⟨by first | rfl | go_simp, by intro w9 hSw; (try dsimp only at hSw); go_simp⟩) (by assumption) ?_
  simp only [List.getElem_toArray, List.getElem_cons_zero, List.getElem_cons_succ, Act.put, List.setIfInBounds_toArray, List.set_cons_zero, List.set_cons_succ]
  refine wpAnyH_take (i := 40) (v := .bool false) rfl (by kernel_rfl) (by kernel_rfl) (by kernel_rfl) (fun _ _ _ h => h) (Or.inl ⟨by first | rfl | go_simp, by intro w9 hSw; (try dsimp only at hSw); go_simp⟩) (by assumption) ?_
  simp only [List.getElem_toArray, List.getElem_cons_zero, List.getElem_cons_succ, Act.put, List.setIfInBounds_toArray, List.set_cons_zero, List.set_cons_succ]
  refine wpAnyH_take (i := 41) (v := .bool false) rfl (by kernel_rfl) (by kernel_rfl) (by kernel_rfl) (fun _ _ _ h => h) (Or.inl ⟨by first | rfl | go_simp, by intro w9 hSw; (try dsimp only at hSw); go_simp⟩) (by assumption) ?_
  simp only [List.getElem_toArray, List.getElem_cons_zero, List.getElem_cons_succ, Act.put, List.setIfInBounds_toArray, List.set_cons_zero, List.set_cons_succ]
  refine wpAnyH_take (i := 42) (v := .pointer (some ⟨g11, 5, none⟩)) rfl (by kernel_rfl) (by kernel_rfl) (by kernel_rfl) (fun _ _ _ h => h) (Or.inl ⟨by first | rfl | go_simp, by intro w9 hSw; (try dsimp only at hSw); go_simp⟩) (by assumption) ?_
  simp only [List.getElem_toArray, List.getElem_cons_zero, List.getElem_cons_succ, Act.put, List.setIfInBounds_toArray, List.set_cons_zero, List.set_cons_succ]
  refine wpAnyH_take (i := 43) (v := U3) rfl (by kernel_rfl) (by kernel_rfl) (by kernel_rfl) (fun _ _ _ h => h) (Or.inl ⟨by first | rfl | go_simp, by intro w9 hSw; (try dsimp only at hSw); have c9 := hSw.1.cell 5; clear hSw; go_simp⟩) (by assumption) ?_
  simp only [List.getElem_toArray, List.getElem_cons_zero, List.getElem_cons_succ, Act.put, List.setIfInBounds_toArray, List.set_cons_zero, List.set_cons_succ]
  refine wpAnyH_take (i := 44) (v := .pointer (some ⟨w.heap.size, 7, none⟩)) rfl (by kernel_rfl) (by kernel_rfl) (by kernel_rfl) (fun _ _ _ h => h) (Or.inl ⟨by first | rfl | go_simp, by intro w9 hSw; (try dsimp only at hSw); go_simp⟩) (by assumption) ?_
  simp only [List.getElem_toArray, List.getElem_cons_zero, List.getElem_cons_succ, Act.put, List.setIfInBounds_toArray, List.set_cons_zero, List.set_cons_succ]
  refine wpAnyH_take (i := 45) (v := VS) rfl (by kernel_rfl) (by kernel_rfl) (by kernel_rfl) (fun _ _ _ h => h) (Or.inl ⟨by first | rfl | go_simp, by intro w9 hSw; (try dsimp only at hSw); have c9 := hSw.2.2.1.cell 7; clear hSw; go_simp⟩) (by assumption) ?_
  simp only [List.getElem_toArray, List.getElem_cons_zero, List.getElem_cons_succ, Act.put, List.setIfInBounds_toArray, List.set_cons_zero, List.set_cons_succ]
  refine wpAnyH_ready (rs := [46]) (by kernel_rfl) (by simp) ?_
  refine AllReadyH.cons rfl (fun K hK => ?_) (AllReadyH.nil)
  go_simp
  refine (HSS.out X0 U3 _ BX RV).mono ?_
  rintro e X2 ⟨rfl, rfl⟩
  refine hK.out _ _ ⟨K11, K3, K2, k0, k1⟩ (fun hHeld => ?_)
  clear hK K
  try simp only [List.getElem_toArray, List.getElem_cons_zero, List.getElem_cons_succ, Act.put, List.setIfInBounds_toArray, List.set_cons_zero, List.set_cons_succ]
  refine wpAnyH_take (i := 47) (v := .bool false) rfl (by kernel_rfl) (by kernel_rfl) (by kernel_rfl) (fun _ _ _ h => h) (Or.inl ⟨by first | rfl | go_simp, by intro w9 hSw; (try dsimp only at hSw); go_simp⟩) (by assumption) ?_
  simp only [List.getElem_toArray, List.getElem_cons_zero, List.getElem_cons_succ, Act.put, List.setIfInBounds_toArray, List.set_cons_zero, List.set_cons_succ]
  refine wpAnyH_take (i := 48) (v := .bool false) rfl (by kernel_rfl) (by kernel_rfl) (by kernel_rfl) (fun _ _ _ h => h) (Or.inl ⟨by first | rfl | go_simp, by intro w9 hSw; (try dsimp only at hSw); go_simp⟩) (by assumption) ?_
  simp only [List.getElem_toArray, List.getElem_cons_zero, List.getElem_cons_succ, Act.put, List.setIfInBounds_toArray, List.set_cons_zero, List.set_cons_succ]
  refine wpAnyH_done (by kernel_rfl) ?_ _
  have c0 := K2.cell 0
  have c8 := K2.cell 8
  by_cases hk : p.k = 0
  rotate_left
  · go_wp2_with fail
    go_ret
    exact ⟨rfl, BX⟩
  by_cases hp : p.po = 0
  rotate_left
  · go_wp2_with fail
    go_ret
    exact ⟨rfl, BX⟩
  go_wp2_with fail
  go_ret
  exact ⟨rfl, BX⟩
end Go.Proofs.YtcbliliinmfnjaaDoor.Av
