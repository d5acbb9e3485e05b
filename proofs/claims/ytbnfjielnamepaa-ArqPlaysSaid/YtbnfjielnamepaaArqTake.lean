/- Acknowledgement: what a side takes: contracts over the program. -/
import Derived.Test.YtbnfjielnamepaaArqQueue
set_option linter.unusedVariables false
set_option linter.unusedSimpArgs false
namespace Go.Proofs.Ytbnfjielnamepaa.Arq
open Go.RowKit Mem Oct Rw Av Dp
open Base (thenB)

theorem take_no {s : Sd} {p : Pd} (h : chk p ≠ 0) : takeR s p = (s, zeroK, false, false) := by unfold takeR; rw [if_pos h]
theorem take_old {s b : Sd} {p : Pd} {a : Bool} (h : chk p = 0) (ha : ackB s p = a) (hb : tk1 s p = b) (hn : p.sn ≠ b.nesn) : takeR s p = (b, zeroK, false, a) := by
 have hw : newB s p = false := by unfold newB; rw [hb]; simpa using hn
 have hf : freshB s p = false := by unfold freshB; rw [hw]; rfl
 unfold takeR takeS
 rw [if_neg (by simpa using h), hf, hw, hb, ha]; rfl
theorem take_blank {s b : Sd} {p : Pd} {a : Bool} (h : chk p = 0) (ha : ackB s p = a) (hb : tk1 s p = b) (hn : p.sn = b.nesn) (hl : blankP p.pk = true) : takeR s p = (⟨b.sn, 1 - b.nesn, b.q, b.op, b.em, b.ack, b.tak⟩, zeroK, false, a) := by
 have hw : newB s p = true := by unfold newB; rw [hb]; simpa using hn
 have hf : freshB s p = false := by unfold freshB; rw [hw, hl]; rfl
 unfold takeR takeS
 rw [if_neg (by simpa using h), hf, hw, hb, ha]; rfl
theorem take_new {s b : Sd} {p : Pd} {a : Bool} (h : chk p = 0) (ha : ackB s p = a) (hb : tk1 s p = b) (hn : p.sn = b.nesn) (hl : blankP p.pk = false) : takeR s p = (⟨b.sn, 1 - b.nesn, b.q, b.op, b.em, b.ack, b.tak + 1⟩, p.pk, true, a) := by
 have hw : newB s p = true := by unfold newB; rw [hb]; simpa using hn
 have hf : freshB s p = true := by unfold freshB; rw [hw, hl]; rfl
 unfold takeR takeS
 rw [if_neg (by simpa using h), hf, hw, hb, ha]; rfl
/-- A side took a PDU: the side, the packet in memory of its own, whether it is new, whether the open one is acknowledged. -/
def Took (w w' : World) (e : Ending) (r : Sd × Pk × Bool × Bool) : Prop := ∃ V' l' y, e = .returned (.tuple #[.agg (acel r.1 V'), .agg #[.int .i64 y.k, .slice y.A y.v.length y.c], .bool r.2.2.1, .bool r.2.2.2]) ∧ QQ w' w.heap.size 0 V' l' ∧ l'.map Pm.p = r.1.q ∧ y.p = r.2.1 ∧ PP w' 0 y ∧ Below w.heap.size w w'
theorem pp_zero (w : World) (o : Nat) (k : Int) : PP w o ⟨k, none, 0, []⟩ := ⟨Nat.le_refl _, Nat.zero_le _, fun z hz => absurd hz (by simp), .inl (.inl rfl)⟩
open List (getElem_toArray getElem_cons_zero getElem_cons_succ setIfInBounds_toArray set_cons_zero set_cons_succ)
set_option maxRecDepth 100000 in
set_option maxHeartbeats 4000000 in
theorem take_core (sn nesn : Int) (q : List Pk) (op em : Bool) (ack tak : Nat) (V : Value) (l : List Pm) (psn pnesn pmd : Int) (x : Pm) (w : World) (hn : l.length ≤ 1000000) (hsn : sn = 0 ∨ sn = 1) (hne : nesn = 0 ∨ nesn = 1) (hca : ack ≤ 1000) (hct : tak ≤ 1000) (hqi : QI w V l) (hl : l.map Pm.p = q) (hx : GP w x) :
  Calls Try.prog 33 #[.agg #[.int .i64 sn, .int .i64 nesn, V, .bool op, .bool em, .int .i64 ack, .int .i64 tak], .agg #[.int .i64 psn, .int .i64 pnesn, .int .i64 pmd, .int .i64 x.k, .slice x.A x.v.length x.c]] w fun e w' => Took w w' e (takeR ⟨sn, nesn, q, op, em, ack, tak⟩ ⟨psn, pnesn, pmd, x.p⟩) := by
 have BX : Below w.heap.size w ((((w.alloc (.cells #[.int .i64 sn, .int .i64 nesn, V, .bool op, .bool em, .int .i64 ack, .int .i64 tak] 43)).alloc (.cells #[.int .i64 psn, .int .i64 pnesn, .int .i64 pmd, .int .i64 x.k, .slice x.A x.v.length x.c] 26)).alloc (.cells #[.int .i64 0, .int .i64 0, .slice none 0 0, .bool false, .bool false, .int .i64 0, .int .i64 0] 43)).alloc (.cells #[.int .i64 0, .slice none 0 0] 24)) := ((((Below.refl _ _).alloc (Nat.le_refl _) _).alloc (by simp) _).alloc (by simp; omega) _).alloc (by simp; omega) _
 have K2 : Blk ((((w.alloc (.cells #[.int .i64 sn, .int .i64 nesn, V, .bool op, .bool em, .int .i64 ack, .int .i64 tak] 43)).alloc (.cells #[.int .i64 psn, .int .i64 pnesn, .int .i64 pmd, .int .i64 x.k, .slice x.A x.v.length x.c] 26)).alloc (.cells #[.int .i64 0, .int .i64 0, .slice none 0 0, .bool false, .bool false, .int .i64 0, .int .i64 0] 43)).alloc (.cells #[.int .i64 0, .slice none 0 0] 24)) (w.heap.size + 1) 26 #[.int .i64 psn, .int .i64 pnesn, .int .i64 pmd, .int .i64 x.k, .slice x.A x.v.length x.c] := ((Av.Blk.next).alloc _).alloc _
 have K3 : Blk ((((w.alloc (.cells #[.int .i64 sn, .int .i64 nesn, V, .bool op, .bool em, .int .i64 ack, .int .i64 tak] 43)).alloc (.cells #[.int .i64 psn, .int .i64 pnesn, .int .i64 pmd, .int .i64 x.k, .slice x.A x.v.length x.c] 26)).alloc (.cells #[.int .i64 0, .int .i64 0, .slice none 0 0, .bool false, .bool false, .int .i64 0, .int .i64 0] 43)).alloc (.cells #[.int .i64 0, .slice none 0 0] 24)) (w.heap.size + 2) 43 #[.int .i64 0, .int .i64 0, .slice none 0 0, .bool false, .bool false, .int .i64 0, .int .i64 0] := by
  have := (Blk.fresh ((w.alloc (.cells #[.int .i64 sn, .int .i64 nesn, V, .bool op, .bool em, .int .i64 ack, .int .i64 tak] 43)).alloc (.cells #[.int .i64 psn, .int .i64 pnesn, .int .i64 pmd, .int .i64 x.k, .slice x.A x.v.length x.c] 26)) 43 #[.int .i64 0, .int .i64 0, .slice none 0 0, .bool false, .bool false, .int .i64 0, .int .i64 0]).alloc (.cells #[.int .i64 0, .slice none 0 0] 24)
  simpa using this
 have K4 : Blk ((((w.alloc (.cells #[.int .i64 sn, .int .i64 nesn, V, .bool op, .bool em, .int .i64 ack, .int .i64 tak] 43)).alloc (.cells #[.int .i64 psn, .int .i64 pnesn, .int .i64 pmd, .int .i64 x.k, .slice x.A x.v.length x.c] 26)).alloc (.cells #[.int .i64 0, .int .i64 0, .slice none 0 0, .bool false, .bool false, .int .i64 0, .int .i64 0] 43)).alloc (.cells #[.int .i64 0, .slice none 0 0] 24)) (w.heap.size + 3) 24 #[.int .i64 0, .slice none 0 0] := by
  have := Blk.fresh (((w.alloc (.cells #[.int .i64 sn, .int .i64 nesn, V, .bool op, .bool em, .int .i64 ack, .int .i64 tak] 43)).alloc (.cells #[.int .i64 psn, .int .i64 pnesn, .int .i64 pmd, .int .i64 x.k, .slice x.A x.v.length x.c] 26)).alloc (.cells #[.int .i64 0, .int .i64 0, .slice none 0 0, .bool false, .bool false, .int .i64 0, .int .i64 0] 43)) 24 #[.int .i64 0, .slice none 0 0]
  simpa using this
 have K1 : Blk ((((w.alloc (.cells #[.int .i64 sn, .int .i64 nesn, V, .bool op, .bool em, .int .i64 ack, .int .i64 tak] 43)).alloc (.cells #[.int .i64 psn, .int .i64 pnesn, .int .i64 pmd, .int .i64 x.k, .slice x.A x.v.length x.c] 26)).alloc (.cells #[.int .i64 0, .int .i64 0, .slice none 0 0, .bool false, .bool false, .int .i64 0, .int .i64 0] 43)).alloc (.cells #[.int .i64 0, .slice none 0 0] 24)) (w.heap.size) 43 #[.int .i64 sn, .int .i64 nesn, V, .bool op, .bool em, .int .i64 ack, .int .i64 tak] := (((Blk.fresh w 43 #[.int .i64 sn, .int .i64 nesn, V, .bool op, .bool em, .int .i64 ack, .int .i64 tak]).alloc _).alloc _).alloc _
 have HC : Hid (∀ X, Below w.heap.size w X → Calls Try.prog 53 #[.agg #[.int .i64 sn, .int .i64 nesn, V, .bool op, .bool em, .int .i64 ack, .int .i64 tak]] X fun e w' => ∃ V' l', e = .returned (.agg #[.int .i64 sn, .int .i64 nesn, V', .bool op, .bool em, .int .i64 ack, .int .i64 tak]) ∧ l'.map Pm.p = l.map Pm.p ∧ RR w' X.heap.size 0 V' l' ∧ Below X.heap.size X w') := Lib.hid fun X b => copied_any sn nesn V op em ack tak l X (by omega) (hqi.later b)
 have HK := Lib.hid (check_any psn pnesn pmd x.k x.A x.v.length x.c)
 have HP : Hid (∀ X, Below w.heap.size w X → Calls Try.prog 55 #[.agg #[.int .i64 x.k, .slice x.A x.v.length x.c]] X fun e w' => ∃ A c, e = .returned (.agg #[.int .i64 x.k, .slice A x.v.length c]) ∧ PP w' 0 ⟨x.k, A, c, x.v⟩ ∧ Below X.heap.size X w') := Lib.hid fun X b => cpk_any x X (hx.later b)
 obtain ⟨R, hR⟩ : ∃ R, chkN psn pnesn pmd x.k x.v.length = R := ⟨_, rfl⟩
 have hck : Hid (chk ⟨psn, pnesn, pmd, x.p⟩ = R) := Lib.hid hR
 rw [hR] at HK
 obtain ⟨n, hln⟩ : ∃ n, l.length = n := ⟨_, rfl⟩
 have HLl := Lib.hid hl
 have eN : IntKind.i64.wrap (1 - nesn) = 1 - nesn := by rw [IntWalk.i64_in _ (by omega)]
 have eT : IntKind.i64.wrap ((tak : Int) + 1) = (tak : Int) + 1 := by rw [IntWalk.i64_in _ (by omega)]
 rw [hln] at hn
 clear hqi hl hx hR
 go_enter Try.func33, Try.ntmps33
 go_upto_region 1 with (fail)
 generalize (((w.alloc (.cells #[.int .i64 sn, .int .i64 nesn, V, .bool op, .bool em, .int .i64 ack, .int .i64 tak] 43)).alloc (.cells #[.int .i64 psn, .int .i64 pnesn, .int .i64 pmd, .int .i64 x.k, .slice x.A x.v.length x.c] 26)).alloc (.cells #[.int .i64 0, .int .i64 0, .slice none 0 0, .bool false, .bool false, .int .i64 0, .int .i64 0] 43)).alloc (.cells #[.int .i64 0, .slice none 0 0] 24) = W0 at *
 go_upto_region 2 with (first
  | (go_at_call 53; refine (HC.out W0 BX).mono ?_; rintro e W1 ⟨V1, LB, rfl, hl1, HR, b1⟩; have hs4 := K4.lt; have HQ := HR.qq.less (show w.heap.size + 4 ≤ W0.heap.size by omega) (Nat.le_refl _); replace K1 := K1.below b1 K1.lt; replace K2 := K2.below b1 K2.lt; replace K3 := K3.below b1 K3.lt; replace K4 := K4.below b1 K4.lt; replace BX := thenB BX b1; clear b1 HR; obtain ⟨⟨A, c, rfl, hLc, _⟩, _⟩ := id HQ; have hLn : LB.length = n := (len_map hl1).trans hln; rw [hLn] at hLc HQ ⊢; have H1 : (#[.int .i64 sn, .int .i64 nesn, .slice A n c, .bool op, .bool em, .int .i64 ack, .int .i64 tak] : Array Value).all (·.oneCell') = true := by rw [← Array.all_toList]; rfl)
  | (refine wpList_store_row rfl 43 (.tmp 4) _ rfl (w.heap.size + 2) #[.int .i64 sn, .int .i64 nesn, .slice A n c, .bool op, .bool em, .int .i64 ack, .int .i64 tak] rfl rfl 43 _ K3 (by kernel_rfl) rfl H1 ?_)
  | (refine wpList_load_row rfl 43 (.tmp 2) rfl w.heap.size rfl 43 _ (0, 0) _ K1 Try.underlying43 rfl (by kernel_rfl) ?_))
 replace HQ := HQ.step (stp_row K3 #[.int .i64 sn, .int .i64 nesn, .slice A n c, .bool op, .bool em, .int .i64 ack, .int .i64 tak]) (by decide) (by decide) (Nat.zero_le _)
 replace K2 : Blk (W1.setRow (w.heap.size + 2) #[.int .i64 sn, .int .i64 nesn, .slice A n c, .bool op, .bool em, .int .i64 ack, .int .i64 tak]) (w.heap.size + 1) 26 #[.int .i64 psn, .int .i64 pnesn, .int .i64 pmd, .int .i64 x.k, .slice x.A x.v.length x.c] := Av.bother_row K2 (by omega)
 replace K4 : Blk (W1.setRow (w.heap.size + 2) #[.int .i64 sn, .int .i64 nesn, .slice A n c, .bool op, .bool em, .int .i64 ack, .int .i64 tak]) (w.heap.size + 3) 24 #[.int .i64 0, .slice none 0 0] := Av.bother_row K4 (by omega)
 replace K3 : Blk (W1.setRow (w.heap.size + 2) #[.int .i64 sn, .int .i64 nesn, .slice A n c, .bool op, .bool em, .int .i64 ack, .int .i64 tak]) (w.heap.size + 2) 43 #[.int .i64 sn, .int .i64 nesn, .slice A n c, .bool op, .bool em, .int .i64 ack, .int .i64 tak] := Av.bset_row K3
 replace BX : Below w.heap.size w (W1.setRow (w.heap.size + 2) #[.int .i64 sn, .int .i64 nesn, .slice A n c, .bool op, .bool em, .int .i64 ack, .int .i64 tak]) := below_setRow BX (by omega) _
 clear K1
 generalize W1.setRow (w.heap.size + 2) #[.int .i64 sn, .int .i64 nesn, .slice A n c, .bool op, .bool em, .int .i64 ack, .int .i64 tak] = W2 at *
 have HLb : Hid (LB.map Pm.p = q) := Lib.hid (hl1.trans HLl.out)
 clear H1 HC hl1 HLl
 by_cases h0 : R = 0
 ·
  subst h0
  go_upto_region 4 with (first | (go_at_call 14; refine (HK.out W2).mono ?_; rintro e W5 ⟨rfl, b9⟩; replace K2 := K2.below b9 K2.lt; replace K3 := K3.below b9 K3.lt; replace K4 := K4.below b9 K4.lt; replace HQ := HQ.below b9; replace BX := thenB BX b9; clear b9) | (refine wpList_load_row rfl 26 (.tmp 3) rfl (w.heap.size + 1) rfl 26 _ (0, 0) _ K2 Try.underlying26 rfl (by kernel_rfl) ?_))
  have p3 := K3.cell 3
  have p0 := K3.cell 0
  have r1 := K2.cell 1
  cases op with
  | false =>
   have hac : Hid (ackB ⟨sn, nesn, q, false, em, ack, tak⟩ ⟨psn, pnesn, pmd, x.p⟩ = false) := Lib.hid rfl
   have hb1 : Hid (tk1 ⟨sn, nesn, q, false, em, ack, tak⟩ ⟨psn, pnesn, pmd, x.p⟩ = ⟨sn, nesn, q, false, em, ack, tak⟩) := Lib.hid rfl
   go_upto_region 7 with (fail)
   clear p3 p0 r1
   have q0 := K2.cell 0
   have q1 := K3.cell 1
   by_cases hn : psn = nesn
   ·
    have gn : (psn != nesn) = false := by simpa using hn
    have HON := Lib.hid hn
    clear hn
    go_upto_region 10 with (refine Av.wpList_store_cell rfl _ _ _ rfl (w.heap.size + 2) 1 (.int .i64 (1 - nesn)) rfl rfl 43 _ K3 (by show 1 < 7; decide) (by kernel_rfl) rfl ?_)
    replace HQ := HQ.step (stp_cell (i := 1) K3 (.int .i64 (1 - nesn))) (by decide) (by decide) (Nat.zero_le _)
    replace K2 := (stp_cell (i := 1) K3 (.int .i64 (1 - nesn))).blk_ne K2 (by omega)
    replace K4 := (stp_cell (i := 1) K3 (.int .i64 (1 - nesn))).blk_ne K4 (by omega)
    replace K3 := Av.bset K3 1 (.int .i64 (1 - nesn)) rfl
    replace BX := BX.setCell (p := ⟨w.heap.size + 2, 1, none⟩) (by show w.heap.size ≤ w.heap.size + 2; omega) (.int .i64 (1 - nesn))
    clear q0 q1
    generalize W5.setCell ⟨w.heap.size + 2, 1, none⟩ (.int .i64 (1 - nesn)) = X6 at *
    have q3 := K2.cell 3
    have q4 := K2.cell 4
    cases hbl : blankB x.k x.v.length with
    | true =>
     have HB := Lib.hid (blank_to hbl x.A x.c)
     have HO := Lib.hid (take_blank hck.out hac.out hb1.out HON.out hbl)
     clear hbl
     go_upto_region 11 with (go_at_call 16; refine (HB.out X6).mono ?_; rintro e X7 ⟨rfl, b9⟩; replace K3 := K3.below b9 K3.lt; replace K4 := K4.below b9 K4.lt; replace HQ := HQ.below b9; replace BX := thenB BX b9; clear b9 q3 q4)
     have H1 : (#[.int .i64 sn, .int .i64 (1 - nesn), .slice A n c, .bool false, .bool em, .int .i64 (ack : Int), .int .i64 (tak : Int)] : Array Value).all (·.oneCell') = true := by rw [← Array.all_toList]; rfl
     have H2 : (#[.int .i64 0, .slice none 0 0] : Array Value).all (·.oneCell') = true := by rw [← Array.all_toList]; rfl
     go_wp2_with (first | (refine wpList_store_row rfl 43 (.tmp 4) _ rfl (w.heap.size + 2) #[.int .i64 sn, .int .i64 (1 - nesn), .slice A n c, .bool false, .bool em, .int .i64 (ack : Int), .int .i64 (tak : Int)] rfl rfl 43 _ K3 (by kernel_rfl) rfl H1 ?_; have sA := stp_row K3 #[.int .i64 sn, .int .i64 (1 - nesn), .slice A n c, .bool false, .bool em, .int .i64 (ack : Int), .int .i64 (tak : Int)]; have M3 := Av.bset_row (cs' := #[.int .i64 sn, .int .i64 (1 - nesn), .slice A n c, .bool false, .bool em, .int .i64 (ack : Int), .int .i64 (tak : Int)]) K3; have M4 := Av.bother_row (cs' := #[.int .i64 sn, .int .i64 (1 - nesn), .slice A n c, .bool false, .bool em, .int .i64 (ack : Int), .int .i64 (tak : Int)]) (g' := w.heap.size + 2) K4 (by omega)) | (refine wpList_store_row rfl 24 (.tmp 5) _ rfl (w.heap.size + 3) #[.int .i64 0, .slice none 0 0] rfl rfl 24 _ M4 (by kernel_rfl) rfl H2 ?_) | (refine wpList_load_row rfl 43 (.tmp 4) rfl (w.heap.size + 2) rfl 43 _ (0, 0) _ K3 Try.underlying43 rfl (by kernel_rfl) ?_))
     have MQ := HQ.step sA (by decide) (by decide) (Nat.zero_le _)
     replace MQ := MQ.step_ne (stp_row M4 #[.int .i64 0, .slice none 0 0]) (by decide) (fun h => by have := (MQ.2.2 _ h).1; omega) (Nat.zero_le _)
     have MA := Av.bother_row (cs' := #[.int .i64 0, .slice none 0 0]) (g' := w.heap.size + 3) M3 (by omega)
     have MC := Av.bset_row (cs' := #[.int .i64 0, .slice none 0 0]) M4
     have MB : Below w.heap.size w ((X7.setRow (w.heap.size + 2) #[.int .i64 sn, .int .i64 (1 - nesn), .slice A n c, .bool false, .bool em, .int .i64 (ack : Int), .int .i64 (tak : Int)]).setRow (w.heap.size + 3) #[.int .i64 0, .slice none 0 0]) := below_setRow (below_setRow BX (by omega) #[.int .i64 sn, .int .i64 (1 - nesn), .slice A n c, .bool false, .bool em, .int .i64 (ack : Int), .int .i64 (tak : Int)]) (by omega) #[.int .i64 0, .slice none 0 0]
     clear sA M3 M4
     generalize (X7.setRow (w.heap.size + 2) #[.int .i64 sn, .int .i64 (1 - nesn), .slice A n c, .bool false, .bool em, .int .i64 (ack : Int), .int .i64 (tak : Int)]).setRow (w.heap.size + 3) #[.int .i64 0, .slice none 0 0] = Y at *
     refine bodyPost_ret (v := .tuple #[.agg #[.int .i64 sn, .int .i64 (1 - nesn), .slice A n c, .bool false, .bool em, .int .i64 (ack : Int), .int .i64 (tak : Int)], .agg #[.int .i64 0, .slice none 0 0], .bool false, .bool false]) ?_ rfl (by rw [HO.out]; exact ⟨_, LB, ⟨0, none, 0, []⟩, rfl, MQ.less (by omega) (Nat.le_refl _), HLb.out, rfl, pp_zero _ _ _, MB⟩)
     have HLa := run_loadVar_row (P := Try.prog) Y (w.heap.size + 2) 43 43 #[.int .i64 sn, .int .i64 (1 - nesn), .slice A n c, .bool false, .bool em, .int .i64 (ack : Int), .int .i64 (tak : Int)] (0, 0) _ MA Try.underlying43 rfl (by kernel_rfl)
     have HLb := run_loadVar_row (P := Try.prog) Y (w.heap.size + 3) 24 24 #[.int .i64 0, .slice none 0 0] (0, 0) _ MC Try.underlying24 rfl (by kernel_rfl)
     generalize (#[.int .i64 sn, .int .i64 (1 - nesn), .slice A n c, .bool false, .bool em, .int .i64 (ack : Int), .int .i64 (tak : Int)] : Array Value) = CS at *
     generalize (#[.int .i64 0, .slice none 0 0] : Array Value) = CP at *
     simp [results, show (Try.f33).results = #[.cell 4 43, .cell 5 24, .slot 6, .slot 7] from rfl, asAddr, HLa, HLb, Act.put]
    | false =>
     have HB := Lib.hid (blank_to hbl x.A x.c)
     have HO := Lib.hid (take_new hck.out hac.out hb1.out HON.out hbl)
     clear hbl
     go_upto_region 12 with (go_at_call 16; refine (HB.out X6).mono ?_; rintro e X7 ⟨rfl, b9⟩; replace K2 := K2.below b9 K2.lt; replace K3 := K3.below b9 K3.lt; replace K4 := K4.below b9 K4.lt; replace HQ := HQ.below b9; replace BX := thenB BX b9; clear b9 q3 q4)
     have q6 := K3.cell 6
     go_upto_region 13 with (refine Av.wpList_store_cell rfl _ _ _ rfl (w.heap.size + 2) 6 (.int .i64 ((tak : Int) + 1)) rfl rfl 43 _ K3 (by show 6 < 7; decide) (by kernel_rfl) rfl ?_)
     replace HQ := HQ.step (stp_cell (i := 6) K3 (.int .i64 ((tak : Int) + 1))) (by decide) (by decide) (Nat.zero_le _)
     replace K2 := (stp_cell (i := 6) K3 (.int .i64 ((tak : Int) + 1))).blk_ne K2 (by omega)
     replace K4 := (stp_cell (i := 6) K3 (.int .i64 ((tak : Int) + 1))).blk_ne K4 (by omega)
     replace K3 := Av.bset K3 6 (.int .i64 ((tak : Int) + 1)) rfl
     replace BX := BX.setCell (p := ⟨w.heap.size + 2, 6, none⟩) (by show w.heap.size ≤ w.heap.size + 2; omega) (.int .i64 ((tak : Int) + 1))
     clear q6
     generalize X7.setCell ⟨w.heap.size + 2, 6, none⟩ (.int .i64 ((tak : Int) + 1)) = X8 at *
     have K2' : Blk X8.drew (w.heap.size + 1) 26 #[.int .i64 psn, .int .i64 pnesn, .int .i64 pmd, .int .i64 x.k, .slice x.A x.v.length x.c] := Mem.Blk.drew K2
     have K3' : Blk X8.drew (w.heap.size + 2) 43 #[.int .i64 sn, .int .i64 (1 - nesn), .slice A n c, .bool false, .bool em, .int .i64 (ack : Int), .int .i64 ((tak : Int) + 1)] := Mem.Blk.drew K3
     have K4' : Blk X8.drew (w.heap.size + 3) 24 #[.int .i64 0, .slice none 0 0] := Mem.Blk.drew K4
     refine wp_region_held_drew (S := (fun w' => Blk w' (w.heap.size + 1) 26 #[.int .i64 psn, .int .i64 pnesn, .int .i64 pmd, .int .i64 x.k, .slice x.A x.v.length x.c])) (by kernel_rfl) ?_ (fun hHeld => ?_)
     ·
      exact K2'
     replace K2 := K2'
     clear K2'
     replace K3 := K3'
     clear K3'
     replace K4 := K4'
     clear K4'
     replace BX : Below w.heap.size w X8.drew := BX.drew
     replace HQ := (show QQ X8.drew (w.heap.size + 4) 0 (.slice A n c) LB from HQ.below ((Below.refl X8.heap.size X8).drew))
     generalize X8.drew = Z0 at *
     refine wpAnyH_take (i := 1) (v := .pointer (some ⟨w.heap.size + 1, 3, none⟩)) rfl (by kernel_rfl) (by kernel_rfl) (by kernel_rfl) (fun _ _ _ h => h) (.inl ⟨by first | rfl | go_simp, by intro u h; (try dsimp only at h); go_simp⟩) ‹_› ?_
     simp only [getElem_toArray, getElem_cons_zero, getElem_cons_succ, Act.put, setIfInBounds_toArray, set_cons_zero, set_cons_succ]
     refine wpAnyH_take (i := 2) (v := .agg #[.int .i64 x.k, .slice x.A x.v.length x.c]) rfl (by kernel_rfl) (by kernel_rfl) (by kernel_rfl) (fun _ _ _ h => h) (Av.yields_part (by first | rfl | go_simp) _ _ rfl (w.heap.size + 1) 3 rfl #[.int .i64 x.k, .slice x.A x.v.length x.c] _ 26 #[.int .i64 psn, .int .i64 pnesn, .int .i64 pmd, .int .i64 x.k, .slice x.A x.v.length x.c] (fun w9 hSw => hSw) rfl Try.underlying24 rfl (by kernel_rfl)) ‹_› ?_
     simp only [getElem_toArray, getElem_cons_zero, getElem_cons_succ, Act.put, setIfInBounds_toArray, set_cons_zero, set_cons_succ]
     refine wpAnyH_take (i := 4) (v := .bool false) rfl (by kernel_rfl) (by kernel_rfl) (by kernel_rfl) (fun _ _ _ h => h) (.inl ⟨by first | rfl | go_simp, by intro u h; (try dsimp only at h); go_simp⟩) ‹_› ?_
     simp only [getElem_toArray, getElem_cons_zero, getElem_cons_succ, Act.put, setIfInBounds_toArray, set_cons_zero, set_cons_succ]
     refine wpAnyH_ready (rs := [0, 3]) (by kernel_rfl) (by simp) ?_
     refine AllReadyH.cons rfl (fun K hK => ?_) (AllReadyH.cons rfl (fun K hK => ?_) (AllReadyH.nil))
     ·
      have c90 := K3.cell 0
      have c91 := K3.cell 1
      have c92 := K3.cell 2
      have c93 := K3.cell 3
      have c94 := K3.cell 4
      have c95 := K3.cell 5
      have c96 := K3.cell 6
      go_simp
      clear c90 c91 c92 c93 c94 c95 c96
      refine hK.out _ _ K2 (fun hHeld => ?_)
      clear hK K
      try simp only [getElem_toArray, getElem_cons_zero, getElem_cons_succ, Act.put, setIfInBounds_toArray, set_cons_zero, set_cons_succ]
      refine wpAnyH_ready (rs := [3]) (by kernel_rfl) (by simp) ?_
      refine .cons rfl (fun K hK => ?_) .nil
      go_simp
      refine (HP.out Z0 BX).mono ?_
      rintro e Z1 ⟨A5, c5, rfl, HX, b9⟩
      replace K2 := K2.below b9 K2.lt
      replace K3 := K3.below b9 K3.lt
      replace K4 := K4.below b9 K4.lt
      replace BX := thenB BX b9
      replace HQ := HQ.below b9
      clear b9
      refine hK.out _ _ K2 (fun hHeld => ?_)
      clear hK K
      try simp only [getElem_toArray, getElem_cons_zero, getElem_cons_succ, Act.put, setIfInBounds_toArray, set_cons_zero, set_cons_succ]
      refine wpAnyH_ready (rs := [5]) (by kernel_rfl) (by simp) ?_
      refine .cons rfl (fun K hK => ?_) .nil
      have H9 : (#[.int .i64 sn, .int .i64 (1 - nesn), .slice A n c, .bool false, .bool em, .int .i64 (ack : Int), .int .i64 ((tak : Int) + 1)] : Array Value).all (·.oneCell') = true := by rw [← Array.all_toList]; rfl
      refine Av.step_store_row rfl 43 (.tmp 4) (.tmp 49) rfl (w.heap.size + 2) #[.int .i64 sn, .int .i64 (1 - nesn), .slice A n c, .bool false, .bool em, .int .i64 (ack : Int), .int .i64 ((tak : Int) + 1)] rfl rfl 43 _ K3 (by kernel_rfl) rfl H9 ?_
      replace HQ := HQ.step (stp_row K3 #[.int .i64 sn, .int .i64 (1 - nesn), .slice A n c, .bool false, .bool em, .int .i64 (ack : Int), .int .i64 ((tak : Int) + 1)]) (by decide) (by decide) (Nat.zero_le _)
      replace HX := HX.step (stp_row K3 #[.int .i64 sn, .int .i64 (1 - nesn), .slice A n c, .bool false, .bool em, .int .i64 (ack : Int), .int .i64 ((tak : Int) + 1)]) (by decide) (Nat.zero_le _)
      replace K2 : Blk (Z1.setRow (w.heap.size + 2) #[.int .i64 sn, .int .i64 (1 - nesn), .slice A n c, .bool false, .bool em, .int .i64 (ack : Int), .int .i64 ((tak : Int) + 1)]) (w.heap.size + 1) 26 #[.int .i64 psn, .int .i64 pnesn, .int .i64 pmd, .int .i64 x.k, .slice x.A x.v.length x.c] := Av.bother_row K2 (by omega)
      replace K3 : Blk (Z1.setRow (w.heap.size + 2) #[.int .i64 sn, .int .i64 (1 - nesn), .slice A n c, .bool false, .bool em, .int .i64 (ack : Int), .int .i64 ((tak : Int) + 1)]) (w.heap.size + 2) 43 #[.int .i64 sn, .int .i64 (1 - nesn), .slice A n c, .bool false, .bool em, .int .i64 (ack : Int), .int .i64 ((tak : Int) + 1)] := Av.bset_row K3
      replace K4 : Blk (Z1.setRow (w.heap.size + 2) #[.int .i64 sn, .int .i64 (1 - nesn), .slice A n c, .bool false, .bool em, .int .i64 (ack : Int), .int .i64 ((tak : Int) + 1)]) (w.heap.size + 3) 24 #[.int .i64 0, .slice none 0 0] := Av.bother_row K4 (by omega)
      replace BX : Below w.heap.size w (Z1.setRow (w.heap.size + 2) #[.int .i64 sn, .int .i64 (1 - nesn), .slice A n c, .bool false, .bool em, .int .i64 (ack : Int), .int .i64 ((tak : Int) + 1)]) := below_setRow BX (by omega) _
      clear H9
      generalize Z1.setRow (w.heap.size + 2) #[.int .i64 sn, .int .i64 (1 - nesn), .slice A n c, .bool false, .bool em, .int .i64 (ack : Int), .int .i64 ((tak : Int) + 1)] = Z2 at *
      refine hK.out _ _ K2 (fun hHeld => ?_)
      clear hK K
      try simp only [getElem_toArray, getElem_cons_zero, getElem_cons_succ, Act.put, setIfInBounds_toArray, set_cons_zero, set_cons_succ]
      refine wpAnyH_ready (rs := [6]) (by kernel_rfl) (by simp) ?_
      refine .cons rfl (fun K hK => ?_) .nil
      have H9 : (#[.int .i64 x.k, .slice A5 x.v.length c5] : Array Value).all (·.oneCell') = true := by rw [← Array.all_toList]; rfl
      refine Av.step_store_row rfl 24 (.tmp 5) (.tmp 52) rfl (w.heap.size + 3) #[.int .i64 x.k, .slice A5 x.v.length c5] rfl rfl 24 _ K4 (by kernel_rfl) rfl H9 ?_
      replace HQ := HQ.step_ne (stp_row K4 #[.int .i64 x.k, .slice A5 x.v.length c5]) (by decide) (fun h => by have := (HQ.2.2 _ h).1; omega) (Nat.zero_le _)
      replace HX := HX.step (stp_row K4 #[.int .i64 x.k, .slice A5 x.v.length c5]) (by decide) (Nat.zero_le _)
      replace K2 : Blk (Z2.setRow (w.heap.size + 3) #[.int .i64 x.k, .slice A5 x.v.length c5]) (w.heap.size + 1) 26 #[.int .i64 psn, .int .i64 pnesn, .int .i64 pmd, .int .i64 x.k, .slice x.A x.v.length x.c] := Av.bother_row K2 (by omega)
      replace K3 : Blk (Z2.setRow (w.heap.size + 3) #[.int .i64 x.k, .slice A5 x.v.length c5]) (w.heap.size + 2) 43 #[.int .i64 sn, .int .i64 (1 - nesn), .slice A n c, .bool false, .bool em, .int .i64 (ack : Int), .int .i64 ((tak : Int) + 1)] := Av.bother_row K3 (by omega)
      replace K4 : Blk (Z2.setRow (w.heap.size + 3) #[.int .i64 x.k, .slice A5 x.v.length c5]) (w.heap.size + 3) 24 #[.int .i64 x.k, .slice A5 x.v.length c5] := Av.bset_row K4
      replace BX : Below w.heap.size w (Z2.setRow (w.heap.size + 3) #[.int .i64 x.k, .slice A5 x.v.length c5]) := below_setRow BX (by omega) _
      clear H9
      generalize Z2.setRow (w.heap.size + 3) #[.int .i64 x.k, .slice A5 x.v.length c5] = Z3 at *
      refine hK.out _ _ K2 (fun hHeld => ?_)
      clear hK K
      try simp only [getElem_toArray, getElem_cons_zero, getElem_cons_succ, Act.put, setIfInBounds_toArray, set_cons_zero, set_cons_succ]
      refine wpAnyH_take (i := 7) (v := .bool true) rfl (by kernel_rfl) (by kernel_rfl) (by kernel_rfl) (fun _ _ _ h => h) (.inl ⟨by first | rfl | go_simp, by intro u h; (try dsimp only at h); go_simp⟩) ‹_› ?_
      simp only [getElem_toArray, getElem_cons_zero, getElem_cons_succ, Act.put, setIfInBounds_toArray, set_cons_zero, set_cons_succ]
      refine wpAnyH_take (i := 8) (v := .bool false) rfl (by kernel_rfl) (by kernel_rfl) (by kernel_rfl) (fun _ _ _ h => h) (.inl ⟨by first | rfl | go_simp, by intro u h; (try dsimp only at h); go_simp⟩) ‹_› ?_
      simp only [getElem_toArray, getElem_cons_zero, getElem_cons_succ, Act.put, setIfInBounds_toArray, set_cons_zero, set_cons_succ]
      refine wpAnyH_done (by kernel_rfl) ?_ _
      go_wp2_with fail
      have MQ := HQ
      have MA := K3
      have MC := K4
      have MB := BX
      clear hHeld K3 K4 HQ
      refine bodyPost_ret (v := .tuple #[.agg #[.int .i64 sn, .int .i64 (1 - nesn), .slice A n c, .bool false, .bool em, .int .i64 (ack : Int), .int .i64 ((tak : Int) + 1)], .agg #[.int .i64 x.k, .slice A5 x.v.length c5], .bool true, .bool false]) ?_ rfl (by rw [HO.out]; exact ⟨_, LB, ⟨x.k, A5, c5, x.v⟩, rfl, MQ.less (by omega) (Nat.le_refl _), HLb.out, rfl, HX, MB⟩)
      have HLa := run_loadVar_row (P := Try.prog) Z3 (w.heap.size + 2) 43 43 #[.int .i64 sn, .int .i64 (1 - nesn), .slice A n c, .bool false, .bool em, .int .i64 (ack : Int), .int .i64 ((tak : Int) + 1)] (0, 0) _ MA Try.underlying43 rfl (by kernel_rfl)
      have HLb := run_loadVar_row (P := Try.prog) Z3 (w.heap.size + 3) 24 24 #[.int .i64 x.k, .slice A5 x.v.length c5] (0, 0) _ MC Try.underlying24 rfl (by kernel_rfl)
      generalize (#[.int .i64 sn, .int .i64 (1 - nesn), .slice A n c, .bool false, .bool em, .int .i64 (ack : Int), .int .i64 ((tak : Int) + 1)] : Array Value) = CS at *
      generalize (#[.int .i64 x.k, .slice A5 x.v.length c5] : Array Value) = CP at *
      simp [results, show (Try.f33).results = #[.cell 4 43, .cell 5 24, .slot 6, .slot 7] from rfl, asAddr, HLa, HLb, Act.put]
     ·
      go_simp
      refine (HP.out Z0 BX).mono ?_
      rintro e Z4 ⟨A5, c5, rfl, HX, b9⟩
      replace K2 := K2.below b9 K2.lt
      replace K3 := K3.below b9 K3.lt
      replace K4 := K4.below b9 K4.lt
      replace BX := thenB BX b9
      replace HQ := HQ.below b9
      clear b9
      refine hK.out _ _ K2 (fun hHeld => ?_)
      clear hK K
      try simp only [getElem_toArray, getElem_cons_zero, getElem_cons_succ, Act.put, setIfInBounds_toArray, set_cons_zero, set_cons_succ]
      refine wpAnyH_ready (rs := [0]) (by kernel_rfl) (by simp) ?_
      refine .cons rfl (fun K hK => ?_) .nil
      have c90 := K3.cell 0
      have c91 := K3.cell 1
      have c92 := K3.cell 2
      have c93 := K3.cell 3
      have c94 := K3.cell 4
      have c95 := K3.cell 5
      have c96 := K3.cell 6
      go_simp
      clear c90 c91 c92 c93 c94 c95 c96
      refine hK.out _ _ K2 (fun hHeld => ?_)
      clear hK K
      try simp only [getElem_toArray, getElem_cons_zero, getElem_cons_succ, Act.put, setIfInBounds_toArray, set_cons_zero, set_cons_succ]
      refine wpAnyH_ready (rs := [5]) (by kernel_rfl) (by simp) ?_
      refine .cons rfl (fun K hK => ?_) .nil
      have H9 : (#[.int .i64 sn, .int .i64 (1 - nesn), .slice A n c, .bool false, .bool em, .int .i64 (ack : Int), .int .i64 ((tak : Int) + 1)] : Array Value).all (·.oneCell') = true := by rw [← Array.all_toList]; rfl
      refine Av.step_store_row rfl 43 (.tmp 4) (.tmp 49) rfl (w.heap.size + 2) #[.int .i64 sn, .int .i64 (1 - nesn), .slice A n c, .bool false, .bool em, .int .i64 (ack : Int), .int .i64 ((tak : Int) + 1)] rfl rfl 43 _ K3 (by kernel_rfl) rfl H9 ?_
      replace HQ := HQ.step (stp_row K3 #[.int .i64 sn, .int .i64 (1 - nesn), .slice A n c, .bool false, .bool em, .int .i64 (ack : Int), .int .i64 ((tak : Int) + 1)]) (by decide) (by decide) (Nat.zero_le _)
      replace HX := HX.step (stp_row K3 #[.int .i64 sn, .int .i64 (1 - nesn), .slice A n c, .bool false, .bool em, .int .i64 (ack : Int), .int .i64 ((tak : Int) + 1)]) (by decide) (Nat.zero_le _)
      replace K2 : Blk (Z4.setRow (w.heap.size + 2) #[.int .i64 sn, .int .i64 (1 - nesn), .slice A n c, .bool false, .bool em, .int .i64 (ack : Int), .int .i64 ((tak : Int) + 1)]) (w.heap.size + 1) 26 #[.int .i64 psn, .int .i64 pnesn, .int .i64 pmd, .int .i64 x.k, .slice x.A x.v.length x.c] := Av.bother_row K2 (by omega)
      replace K3 : Blk (Z4.setRow (w.heap.size + 2) #[.int .i64 sn, .int .i64 (1 - nesn), .slice A n c, .bool false, .bool em, .int .i64 (ack : Int), .int .i64 ((tak : Int) + 1)]) (w.heap.size + 2) 43 #[.int .i64 sn, .int .i64 (1 - nesn), .slice A n c, .bool false, .bool em, .int .i64 (ack : Int), .int .i64 ((tak : Int) + 1)] := Av.bset_row K3
      replace K4 : Blk (Z4.setRow (w.heap.size + 2) #[.int .i64 sn, .int .i64 (1 - nesn), .slice A n c, .bool false, .bool em, .int .i64 (ack : Int), .int .i64 ((tak : Int) + 1)]) (w.heap.size + 3) 24 #[.int .i64 0, .slice none 0 0] := Av.bother_row K4 (by omega)
      replace BX : Below w.heap.size w (Z4.setRow (w.heap.size + 2) #[.int .i64 sn, .int .i64 (1 - nesn), .slice A n c, .bool false, .bool em, .int .i64 (ack : Int), .int .i64 ((tak : Int) + 1)]) := below_setRow BX (by omega) _
      clear H9
      generalize Z4.setRow (w.heap.size + 2) #[.int .i64 sn, .int .i64 (1 - nesn), .slice A n c, .bool false, .bool em, .int .i64 (ack : Int), .int .i64 ((tak : Int) + 1)] = Z5 at *
      refine hK.out _ _ K2 (fun hHeld => ?_)
      clear hK K
      try simp only [getElem_toArray, getElem_cons_zero, getElem_cons_succ, Act.put, setIfInBounds_toArray, set_cons_zero, set_cons_succ]
      refine wpAnyH_ready (rs := [6]) (by kernel_rfl) (by simp) ?_
      refine .cons rfl (fun K hK => ?_) .nil
      have H9 : (#[.int .i64 x.k, .slice A5 x.v.length c5] : Array Value).all (·.oneCell') = true := by rw [← Array.all_toList]; rfl
      refine Av.step_store_row rfl 24 (.tmp 5) (.tmp 52) rfl (w.heap.size + 3) #[.int .i64 x.k, .slice A5 x.v.length c5] rfl rfl 24 _ K4 (by kernel_rfl) rfl H9 ?_
      replace HQ := HQ.step_ne (stp_row K4 #[.int .i64 x.k, .slice A5 x.v.length c5]) (by decide) (fun h => by have := (HQ.2.2 _ h).1; omega) (Nat.zero_le _)
      replace HX := HX.step (stp_row K4 #[.int .i64 x.k, .slice A5 x.v.length c5]) (by decide) (Nat.zero_le _)
      replace K2 : Blk (Z5.setRow (w.heap.size + 3) #[.int .i64 x.k, .slice A5 x.v.length c5]) (w.heap.size + 1) 26 #[.int .i64 psn, .int .i64 pnesn, .int .i64 pmd, .int .i64 x.k, .slice x.A x.v.length x.c] := Av.bother_row K2 (by omega)
      replace K3 : Blk (Z5.setRow (w.heap.size + 3) #[.int .i64 x.k, .slice A5 x.v.length c5]) (w.heap.size + 2) 43 #[.int .i64 sn, .int .i64 (1 - nesn), .slice A n c, .bool false, .bool em, .int .i64 (ack : Int), .int .i64 ((tak : Int) + 1)] := Av.bother_row K3 (by omega)
      replace K4 : Blk (Z5.setRow (w.heap.size + 3) #[.int .i64 x.k, .slice A5 x.v.length c5]) (w.heap.size + 3) 24 #[.int .i64 x.k, .slice A5 x.v.length c5] := Av.bset_row K4
      replace BX : Below w.heap.size w (Z5.setRow (w.heap.size + 3) #[.int .i64 x.k, .slice A5 x.v.length c5]) := below_setRow BX (by omega) _
      clear H9
      generalize Z5.setRow (w.heap.size + 3) #[.int .i64 x.k, .slice A5 x.v.length c5] = Z6 at *
      refine hK.out _ _ K2 (fun hHeld => ?_)
      clear hK K
      try simp only [getElem_toArray, getElem_cons_zero, getElem_cons_succ, Act.put, setIfInBounds_toArray, set_cons_zero, set_cons_succ]
      refine wpAnyH_take (i := 7) (v := .bool true) rfl (by kernel_rfl) (by kernel_rfl) (by kernel_rfl) (fun _ _ _ h => h) (.inl ⟨by first | rfl | go_simp, by intro u h; (try dsimp only at h); go_simp⟩) ‹_› ?_
      simp only [getElem_toArray, getElem_cons_zero, getElem_cons_succ, Act.put, setIfInBounds_toArray, set_cons_zero, set_cons_succ]
      refine wpAnyH_take (i := 8) (v := .bool false) rfl (by kernel_rfl) (by kernel_rfl) (by kernel_rfl) (fun _ _ _ h => h) (.inl ⟨by first | rfl | go_simp, by intro u h; (try dsimp only at h); go_simp⟩) ‹_› ?_
      simp only [getElem_toArray, getElem_cons_zero, getElem_cons_succ, Act.put, setIfInBounds_toArray, set_cons_zero, set_cons_succ]
      refine wpAnyH_done (by kernel_rfl) ?_ _
      go_wp2_with fail
      have MQ := HQ
      have MA := K3
      have MC := K4
      have MB := BX
      clear hHeld K3 K4 HQ
      refine bodyPost_ret (v := .tuple #[.agg #[.int .i64 sn, .int .i64 (1 - nesn), .slice A n c, .bool false, .bool em, .int .i64 (ack : Int), .int .i64 ((tak : Int) + 1)], .agg #[.int .i64 x.k, .slice A5 x.v.length c5], .bool true, .bool false]) ?_ rfl (by rw [HO.out]; exact ⟨_, LB, ⟨x.k, A5, c5, x.v⟩, rfl, MQ.less (by omega) (Nat.le_refl _), HLb.out, rfl, HX, MB⟩)
      have HLa := run_loadVar_row (P := Try.prog) Z6 (w.heap.size + 2) 43 43 #[.int .i64 sn, .int .i64 (1 - nesn), .slice A n c, .bool false, .bool em, .int .i64 (ack : Int), .int .i64 ((tak : Int) + 1)] (0, 0) _ MA Try.underlying43 rfl (by kernel_rfl)
      have HLb := run_loadVar_row (P := Try.prog) Z6 (w.heap.size + 3) 24 24 #[.int .i64 x.k, .slice A5 x.v.length c5] (0, 0) _ MC Try.underlying24 rfl (by kernel_rfl)
      generalize (#[.int .i64 sn, .int .i64 (1 - nesn), .slice A n c, .bool false, .bool em, .int .i64 (ack : Int), .int .i64 ((tak : Int) + 1)] : Array Value) = CS at *
      generalize (#[.int .i64 x.k, .slice A5 x.v.length c5] : Array Value) = CP at *
      simp [results, show (Try.f33).results = #[.cell 4 43, .cell 5 24, .slot 6, .slot 7] from rfl, asAddr, HLa, HLb, Act.put]
   ·
    have gn : (psn != nesn) = true := by simpa using hn
    have HO := Lib.hid (take_old hck.out hac.out hb1.out hn)
    clear hn
    go_upto_region 8 with (fail)
    clear q0 q1
    have H1 : (#[.int .i64 sn, .int .i64 nesn, .slice A n c, .bool false, .bool em, .int .i64 (ack : Int), .int .i64 (tak : Int)] : Array Value).all (·.oneCell') = true := by rw [← Array.all_toList]; rfl
    have H2 : (#[.int .i64 0, .slice none 0 0] : Array Value).all (·.oneCell') = true := by rw [← Array.all_toList]; rfl
    go_wp2_with (first | (refine wpList_store_row rfl 43 (.tmp 4) _ rfl (w.heap.size + 2) #[.int .i64 sn, .int .i64 nesn, .slice A n c, .bool false, .bool em, .int .i64 (ack : Int), .int .i64 (tak : Int)] rfl rfl 43 _ K3 (by kernel_rfl) rfl H1 ?_; have sA := stp_row K3 #[.int .i64 sn, .int .i64 nesn, .slice A n c, .bool false, .bool em, .int .i64 (ack : Int), .int .i64 (tak : Int)]; have M3 := Av.bset_row (cs' := #[.int .i64 sn, .int .i64 nesn, .slice A n c, .bool false, .bool em, .int .i64 (ack : Int), .int .i64 (tak : Int)]) K3; have M4 := Av.bother_row (cs' := #[.int .i64 sn, .int .i64 nesn, .slice A n c, .bool false, .bool em, .int .i64 (ack : Int), .int .i64 (tak : Int)]) (g' := w.heap.size + 2) K4 (by omega)) | (refine wpList_store_row rfl 24 (.tmp 5) _ rfl (w.heap.size + 3) #[.int .i64 0, .slice none 0 0] rfl rfl 24 _ M4 (by kernel_rfl) rfl H2 ?_) | (refine wpList_load_row rfl 43 (.tmp 4) rfl (w.heap.size + 2) rfl 43 _ (0, 0) _ K3 Try.underlying43 rfl (by kernel_rfl) ?_))
    have MQ := HQ.step sA (by decide) (by decide) (Nat.zero_le _)
    replace MQ := MQ.step_ne (stp_row M4 #[.int .i64 0, .slice none 0 0]) (by decide) (fun h => by have := (MQ.2.2 _ h).1; omega) (Nat.zero_le _)
    have MA := Av.bother_row (cs' := #[.int .i64 0, .slice none 0 0]) (g' := w.heap.size + 3) M3 (by omega)
    have MC := Av.bset_row (cs' := #[.int .i64 0, .slice none 0 0]) M4
    have MB : Below w.heap.size w ((W5.setRow (w.heap.size + 2) #[.int .i64 sn, .int .i64 nesn, .slice A n c, .bool false, .bool em, .int .i64 (ack : Int), .int .i64 (tak : Int)]).setRow (w.heap.size + 3) #[.int .i64 0, .slice none 0 0]) := below_setRow (below_setRow BX (by omega) #[.int .i64 sn, .int .i64 nesn, .slice A n c, .bool false, .bool em, .int .i64 (ack : Int), .int .i64 (tak : Int)]) (by omega) #[.int .i64 0, .slice none 0 0]
    clear sA M3 M4
    generalize (W5.setRow (w.heap.size + 2) #[.int .i64 sn, .int .i64 nesn, .slice A n c, .bool false, .bool em, .int .i64 (ack : Int), .int .i64 (tak : Int)]).setRow (w.heap.size + 3) #[.int .i64 0, .slice none 0 0] = Y at *
    refine bodyPost_ret (v := .tuple #[.agg #[.int .i64 sn, .int .i64 nesn, .slice A n c, .bool false, .bool em, .int .i64 (ack : Int), .int .i64 (tak : Int)], .agg #[.int .i64 0, .slice none 0 0], .bool false, .bool false]) ?_ rfl (by rw [HO.out]; exact ⟨_, LB, ⟨0, none, 0, []⟩, rfl, MQ.less (by omega) (Nat.le_refl _), HLb.out, rfl, pp_zero _ _ _, MB⟩)
    have HLa := run_loadVar_row (P := Try.prog) Y (w.heap.size + 2) 43 43 #[.int .i64 sn, .int .i64 nesn, .slice A n c, .bool false, .bool em, .int .i64 (ack : Int), .int .i64 (tak : Int)] (0, 0) _ MA Try.underlying43 rfl (by kernel_rfl)
    have HLb := run_loadVar_row (P := Try.prog) Y (w.heap.size + 3) 24 24 #[.int .i64 0, .slice none 0 0] (0, 0) _ MC Try.underlying24 rfl (by kernel_rfl)
    generalize (#[.int .i64 sn, .int .i64 nesn, .slice A n c, .bool false, .bool em, .int .i64 (ack : Int), .int .i64 (tak : Int)] : Array Value) = CS at *
    generalize (#[.int .i64 0, .slice none 0 0] : Array Value) = CP at *
    simp [results, show (Try.f33).results = #[.cell 4 43, .cell 5 24, .slot 6, .slot 7] from rfl, asAddr, HLa, HLb, Act.put]
  | true =>
   by_cases ha : pnesn = sn
   ·
    have ga : (pnesn != sn) = false := by simpa using ha
    have hac : Hid (ackB ⟨sn, nesn, q, true, em, ack, tak⟩ ⟨psn, pnesn, pmd, x.p⟩ = false) := Lib.hid (by unfold ackB; simp [ha])
    have hb1 : Hid (tk1 ⟨sn, nesn, q, true, em, ack, tak⟩ ⟨psn, pnesn, pmd, x.p⟩ = ⟨sn, nesn, q, true, em, ack, tak⟩) := Lib.hid (by unfold tk1; rw [hac.out]; rfl)
    clear ha
    go_upto_region 7 with (fail)
    clear p3 p0 r1
    have q0 := K2.cell 0
    have q1 := K3.cell 1
    by_cases hn : psn = nesn
    ·
     have gn : (psn != nesn) = false := by simpa using hn
     have HON := Lib.hid hn
     clear hn
     go_upto_region 10 with (refine Av.wpList_store_cell rfl _ _ _ rfl (w.heap.size + 2) 1 (.int .i64 (1 - nesn)) rfl rfl 43 _ K3 (by show 1 < 7; decide) (by kernel_rfl) rfl ?_)
     replace HQ := HQ.step (stp_cell (i := 1) K3 (.int .i64 (1 - nesn))) (by decide) (by decide) (Nat.zero_le _)
     replace K2 := (stp_cell (i := 1) K3 (.int .i64 (1 - nesn))).blk_ne K2 (by omega)
     replace K4 := (stp_cell (i := 1) K3 (.int .i64 (1 - nesn))).blk_ne K4 (by omega)
     replace K3 := Av.bset K3 1 (.int .i64 (1 - nesn)) rfl
     replace BX := BX.setCell (p := ⟨w.heap.size + 2, 1, none⟩) (by show w.heap.size ≤ w.heap.size + 2; omega) (.int .i64 (1 - nesn))
     clear q0 q1
     generalize W5.setCell ⟨w.heap.size + 2, 1, none⟩ (.int .i64 (1 - nesn)) = X6 at *
     have q3 := K2.cell 3
     have q4 := K2.cell 4
     cases hbl : blankB x.k x.v.length with
     | true =>
      have HB := Lib.hid (blank_to hbl x.A x.c)
      have HO := Lib.hid (take_blank hck.out hac.out hb1.out HON.out hbl)
      clear hbl
      go_upto_region 11 with (go_at_call 16; refine (HB.out X6).mono ?_; rintro e X7 ⟨rfl, b9⟩; replace K3 := K3.below b9 K3.lt; replace K4 := K4.below b9 K4.lt; replace HQ := HQ.below b9; replace BX := thenB BX b9; clear b9 q3 q4)
      have H1 : (#[.int .i64 sn, .int .i64 (1 - nesn), .slice A n c, .bool true, .bool em, .int .i64 (ack : Int), .int .i64 (tak : Int)] : Array Value).all (·.oneCell') = true := by rw [← Array.all_toList]; rfl
      have H2 : (#[.int .i64 0, .slice none 0 0] : Array Value).all (·.oneCell') = true := by rw [← Array.all_toList]; rfl
      go_wp2_with (first | (refine wpList_store_row rfl 43 (.tmp 4) _ rfl (w.heap.size + 2) #[.int .i64 sn, .int .i64 (1 - nesn), .slice A n c, .bool true, .bool em, .int .i64 (ack : Int), .int .i64 (tak : Int)] rfl rfl 43 _ K3 (by kernel_rfl) rfl H1 ?_; have sA := stp_row K3 #[.int .i64 sn, .int .i64 (1 - nesn), .slice A n c, .bool true, .bool em, .int .i64 (ack : Int), .int .i64 (tak : Int)]; have M3 := Av.bset_row (cs' := #[.int .i64 sn, .int .i64 (1 - nesn), .slice A n c, .bool true, .bool em, .int .i64 (ack : Int), .int .i64 (tak : Int)]) K3; have M4 := Av.bother_row (cs' := #[.int .i64 sn, .int .i64 (1 - nesn), .slice A n c, .bool true, .bool em, .int .i64 (ack : Int), .int .i64 (tak : Int)]) (g' := w.heap.size + 2) K4 (by omega)) | (refine wpList_store_row rfl 24 (.tmp 5) _ rfl (w.heap.size + 3) #[.int .i64 0, .slice none 0 0] rfl rfl 24 _ M4 (by kernel_rfl) rfl H2 ?_) | (refine wpList_load_row rfl 43 (.tmp 4) rfl (w.heap.size + 2) rfl 43 _ (0, 0) _ K3 Try.underlying43 rfl (by kernel_rfl) ?_))
      have MQ := HQ.step sA (by decide) (by decide) (Nat.zero_le _)
      replace MQ := MQ.step_ne (stp_row M4 #[.int .i64 0, .slice none 0 0]) (by decide) (fun h => by have := (MQ.2.2 _ h).1; omega) (Nat.zero_le _)
      have MA := Av.bother_row (cs' := #[.int .i64 0, .slice none 0 0]) (g' := w.heap.size + 3) M3 (by omega)
      have MC := Av.bset_row (cs' := #[.int .i64 0, .slice none 0 0]) M4
      have MB : Below w.heap.size w ((X7.setRow (w.heap.size + 2) #[.int .i64 sn, .int .i64 (1 - nesn), .slice A n c, .bool true, .bool em, .int .i64 (ack : Int), .int .i64 (tak : Int)]).setRow (w.heap.size + 3) #[.int .i64 0, .slice none 0 0]) := below_setRow (below_setRow BX (by omega) #[.int .i64 sn, .int .i64 (1 - nesn), .slice A n c, .bool true, .bool em, .int .i64 (ack : Int), .int .i64 (tak : Int)]) (by omega) #[.int .i64 0, .slice none 0 0]
      clear sA M3 M4
      generalize (X7.setRow (w.heap.size + 2) #[.int .i64 sn, .int .i64 (1 - nesn), .slice A n c, .bool true, .bool em, .int .i64 (ack : Int), .int .i64 (tak : Int)]).setRow (w.heap.size + 3) #[.int .i64 0, .slice none 0 0] = Y at *
      refine bodyPost_ret (v := .tuple #[.agg #[.int .i64 sn, .int .i64 (1 - nesn), .slice A n c, .bool true, .bool em, .int .i64 (ack : Int), .int .i64 (tak : Int)], .agg #[.int .i64 0, .slice none 0 0], .bool false, .bool false]) ?_ rfl (by rw [HO.out]; exact ⟨_, LB, ⟨0, none, 0, []⟩, rfl, MQ.less (by omega) (Nat.le_refl _), HLb.out, rfl, pp_zero _ _ _, MB⟩)
      have HLa := run_loadVar_row (P := Try.prog) Y (w.heap.size + 2) 43 43 #[.int .i64 sn, .int .i64 (1 - nesn), .slice A n c, .bool true, .bool em, .int .i64 (ack : Int), .int .i64 (tak : Int)] (0, 0) _ MA Try.underlying43 rfl (by kernel_rfl)
      have HLb := run_loadVar_row (P := Try.prog) Y (w.heap.size + 3) 24 24 #[.int .i64 0, .slice none 0 0] (0, 0) _ MC Try.underlying24 rfl (by kernel_rfl)
      generalize (#[.int .i64 sn, .int .i64 (1 - nesn), .slice A n c, .bool true, .bool em, .int .i64 (ack : Int), .int .i64 (tak : Int)] : Array Value) = CS at *
      generalize (#[.int .i64 0, .slice none 0 0] : Array Value) = CP at *
      simp [results, show (Try.f33).results = #[.cell 4 43, .cell 5 24, .slot 6, .slot 7] from rfl, asAddr, HLa, HLb, Act.put]
     | false =>
      have HB := Lib.hid (blank_to hbl x.A x.c)
      have HO := Lib.hid (take_new hck.out hac.out hb1.out HON.out hbl)
      clear hbl
      go_upto_region 12 with (go_at_call 16; refine (HB.out X6).mono ?_; rintro e X7 ⟨rfl, b9⟩; replace K2 := K2.below b9 K2.lt; replace K3 := K3.below b9 K3.lt; replace K4 := K4.below b9 K4.lt; replace HQ := HQ.below b9; replace BX := thenB BX b9; clear b9 q3 q4)
      have q6 := K3.cell 6
      go_upto_region 13 with (refine Av.wpList_store_cell rfl _ _ _ rfl (w.heap.size + 2) 6 (.int .i64 ((tak : Int) + 1)) rfl rfl 43 _ K3 (by show 6 < 7; decide) (by kernel_rfl) rfl ?_)
      replace HQ := HQ.step (stp_cell (i := 6) K3 (.int .i64 ((tak : Int) + 1))) (by decide) (by decide) (Nat.zero_le _)
      replace K2 := (stp_cell (i := 6) K3 (.int .i64 ((tak : Int) + 1))).blk_ne K2 (by omega)
      replace K4 := (stp_cell (i := 6) K3 (.int .i64 ((tak : Int) + 1))).blk_ne K4 (by omega)
      replace K3 := Av.bset K3 6 (.int .i64 ((tak : Int) + 1)) rfl
      replace BX := BX.setCell (p := ⟨w.heap.size + 2, 6, none⟩) (by show w.heap.size ≤ w.heap.size + 2; omega) (.int .i64 ((tak : Int) + 1))
      clear q6
      generalize X7.setCell ⟨w.heap.size + 2, 6, none⟩ (.int .i64 ((tak : Int) + 1)) = X8 at *
      have K2' : Blk X8.drew (w.heap.size + 1) 26 #[.int .i64 psn, .int .i64 pnesn, .int .i64 pmd, .int .i64 x.k, .slice x.A x.v.length x.c] := Mem.Blk.drew K2
      have K3' : Blk X8.drew (w.heap.size + 2) 43 #[.int .i64 sn, .int .i64 (1 - nesn), .slice A n c, .bool true, .bool em, .int .i64 (ack : Int), .int .i64 ((tak : Int) + 1)] := Mem.Blk.drew K3
      have K4' : Blk X8.drew (w.heap.size + 3) 24 #[.int .i64 0, .slice none 0 0] := Mem.Blk.drew K4
      refine wp_region_held_drew (S := (fun w' => Blk w' (w.heap.size + 1) 26 #[.int .i64 psn, .int .i64 pnesn, .int .i64 pmd, .int .i64 x.k, .slice x.A x.v.length x.c])) (by kernel_rfl) ?_ (fun hHeld => ?_)
      ·
       exact K2'
      replace K2 := K2'
      clear K2'
      replace K3 := K3'
      clear K3'
      replace K4 := K4'
      clear K4'
      replace BX : Below w.heap.size w X8.drew := BX.drew
      replace HQ := (show QQ X8.drew (w.heap.size + 4) 0 (.slice A n c) LB from HQ.below ((Below.refl X8.heap.size X8).drew))
      generalize X8.drew = Z0 at *
      refine wpAnyH_take (i := 1) (v := .pointer (some ⟨w.heap.size + 1, 3, none⟩)) rfl (by kernel_rfl) (by kernel_rfl) (by kernel_rfl) (fun _ _ _ h => h) (.inl ⟨by first | rfl | go_simp, by intro u h; (try dsimp only at h); go_simp⟩) ‹_› ?_
      simp only [getElem_toArray, getElem_cons_zero, getElem_cons_succ, Act.put, setIfInBounds_toArray, set_cons_zero, set_cons_succ]
      refine wpAnyH_take (i := 2) (v := .agg #[.int .i64 x.k, .slice x.A x.v.length x.c]) rfl (by kernel_rfl) (by kernel_rfl) (by kernel_rfl) (fun _ _ _ h => h) (Av.yields_part (by first | rfl | go_simp) _ _ rfl (w.heap.size + 1) 3 rfl #[.int .i64 x.k, .slice x.A x.v.length x.c] _ 26 #[.int .i64 psn, .int .i64 pnesn, .int .i64 pmd, .int .i64 x.k, .slice x.A x.v.length x.c] (fun w9 hSw => hSw) rfl Try.underlying24 rfl (by kernel_rfl)) ‹_› ?_
      simp only [getElem_toArray, getElem_cons_zero, getElem_cons_succ, Act.put, setIfInBounds_toArray, set_cons_zero, set_cons_succ]
      refine wpAnyH_take (i := 4) (v := .bool false) rfl (by kernel_rfl) (by kernel_rfl) (by kernel_rfl) (fun _ _ _ h => h) (.inl ⟨by first | rfl | go_simp, by intro u h; (try dsimp only at h); go_simp⟩) ‹_› ?_
      simp only [getElem_toArray, getElem_cons_zero, getElem_cons_succ, Act.put, setIfInBounds_toArray, set_cons_zero, set_cons_succ]
      refine wpAnyH_ready (rs := [0, 3]) (by kernel_rfl) (by simp) ?_
      refine AllReadyH.cons rfl (fun K hK => ?_) (AllReadyH.cons rfl (fun K hK => ?_) (AllReadyH.nil))
      ·
       have c90 := K3.cell 0
       have c91 := K3.cell 1
       have c92 := K3.cell 2
       have c93 := K3.cell 3
       have c94 := K3.cell 4
       have c95 := K3.cell 5
       have c96 := K3.cell 6
       go_simp
       clear c90 c91 c92 c93 c94 c95 c96
       refine hK.out _ _ K2 (fun hHeld => ?_)
       clear hK K
       try simp only [getElem_toArray, getElem_cons_zero, getElem_cons_succ, Act.put, setIfInBounds_toArray, set_cons_zero, set_cons_succ]
       refine wpAnyH_ready (rs := [3]) (by kernel_rfl) (by simp) ?_
       refine .cons rfl (fun K hK => ?_) .nil
       go_simp
       refine (HP.out Z0 BX).mono ?_
       rintro e Z1 ⟨A5, c5, rfl, HX, b9⟩
       replace K2 := K2.below b9 K2.lt
       replace K3 := K3.below b9 K3.lt
       replace K4 := K4.below b9 K4.lt
       replace BX := thenB BX b9
       replace HQ := HQ.below b9
       clear b9
       refine hK.out _ _ K2 (fun hHeld => ?_)
       clear hK K
       try simp only [getElem_toArray, getElem_cons_zero, getElem_cons_succ, Act.put, setIfInBounds_toArray, set_cons_zero, set_cons_succ]
       refine wpAnyH_ready (rs := [5]) (by kernel_rfl) (by simp) ?_
       refine .cons rfl (fun K hK => ?_) .nil
       have H9 : (#[.int .i64 sn, .int .i64 (1 - nesn), .slice A n c, .bool true, .bool em, .int .i64 (ack : Int), .int .i64 ((tak : Int) + 1)] : Array Value).all (·.oneCell') = true := by rw [← Array.all_toList]; rfl
       refine Av.step_store_row rfl 43 (.tmp 4) (.tmp 49) rfl (w.heap.size + 2) #[.int .i64 sn, .int .i64 (1 - nesn), .slice A n c, .bool true, .bool em, .int .i64 (ack : Int), .int .i64 ((tak : Int) + 1)] rfl rfl 43 _ K3 (by kernel_rfl) rfl H9 ?_
       replace HQ := HQ.step (stp_row K3 #[.int .i64 sn, .int .i64 (1 - nesn), .slice A n c, .bool true, .bool em, .int .i64 (ack : Int), .int .i64 ((tak : Int) + 1)]) (by decide) (by decide) (Nat.zero_le _)
       replace HX := HX.step (stp_row K3 #[.int .i64 sn, .int .i64 (1 - nesn), .slice A n c, .bool true, .bool em, .int .i64 (ack : Int), .int .i64 ((tak : Int) + 1)]) (by decide) (Nat.zero_le _)
       replace K2 : Blk (Z1.setRow (w.heap.size + 2) #[.int .i64 sn, .int .i64 (1 - nesn), .slice A n c, .bool true, .bool em, .int .i64 (ack : Int), .int .i64 ((tak : Int) + 1)]) (w.heap.size + 1) 26 #[.int .i64 psn, .int .i64 pnesn, .int .i64 pmd, .int .i64 x.k, .slice x.A x.v.length x.c] := Av.bother_row K2 (by omega)
       replace K3 : Blk (Z1.setRow (w.heap.size + 2) #[.int .i64 sn, .int .i64 (1 - nesn), .slice A n c, .bool true, .bool em, .int .i64 (ack : Int), .int .i64 ((tak : Int) + 1)]) (w.heap.size + 2) 43 #[.int .i64 sn, .int .i64 (1 - nesn), .slice A n c, .bool true, .bool em, .int .i64 (ack : Int), .int .i64 ((tak : Int) + 1)] := Av.bset_row K3
       replace K4 : Blk (Z1.setRow (w.heap.size + 2) #[.int .i64 sn, .int .i64 (1 - nesn), .slice A n c, .bool true, .bool em, .int .i64 (ack : Int), .int .i64 ((tak : Int) + 1)]) (w.heap.size + 3) 24 #[.int .i64 0, .slice none 0 0] := Av.bother_row K4 (by omega)
       replace BX : Below w.heap.size w (Z1.setRow (w.heap.size + 2) #[.int .i64 sn, .int .i64 (1 - nesn), .slice A n c, .bool true, .bool em, .int .i64 (ack : Int), .int .i64 ((tak : Int) + 1)]) := below_setRow BX (by omega) _
       clear H9
       generalize Z1.setRow (w.heap.size + 2) #[.int .i64 sn, .int .i64 (1 - nesn), .slice A n c, .bool true, .bool em, .int .i64 (ack : Int), .int .i64 ((tak : Int) + 1)] = Z2 at *
       refine hK.out _ _ K2 (fun hHeld => ?_)
       clear hK K
       try simp only [getElem_toArray, getElem_cons_zero, getElem_cons_succ, Act.put, setIfInBounds_toArray, set_cons_zero, set_cons_succ]
       refine wpAnyH_ready (rs := [6]) (by kernel_rfl) (by simp) ?_
       refine .cons rfl (fun K hK => ?_) .nil
       have H9 : (#[.int .i64 x.k, .slice A5 x.v.length c5] : Array Value).all (·.oneCell') = true := by rw [← Array.all_toList]; rfl
       refine Av.step_store_row rfl 24 (.tmp 5) (.tmp 52) rfl (w.heap.size + 3) #[.int .i64 x.k, .slice A5 x.v.length c5] rfl rfl 24 _ K4 (by kernel_rfl) rfl H9 ?_
       replace HQ := HQ.step_ne (stp_row K4 #[.int .i64 x.k, .slice A5 x.v.length c5]) (by decide) (fun h => by have := (HQ.2.2 _ h).1; omega) (Nat.zero_le _)
       replace HX := HX.step (stp_row K4 #[.int .i64 x.k, .slice A5 x.v.length c5]) (by decide) (Nat.zero_le _)
       replace K2 : Blk (Z2.setRow (w.heap.size + 3) #[.int .i64 x.k, .slice A5 x.v.length c5]) (w.heap.size + 1) 26 #[.int .i64 psn, .int .i64 pnesn, .int .i64 pmd, .int .i64 x.k, .slice x.A x.v.length x.c] := Av.bother_row K2 (by omega)
       replace K3 : Blk (Z2.setRow (w.heap.size + 3) #[.int .i64 x.k, .slice A5 x.v.length c5]) (w.heap.size + 2) 43 #[.int .i64 sn, .int .i64 (1 - nesn), .slice A n c, .bool true, .bool em, .int .i64 (ack : Int), .int .i64 ((tak : Int) + 1)] := Av.bother_row K3 (by omega)
       replace K4 : Blk (Z2.setRow (w.heap.size + 3) #[.int .i64 x.k, .slice A5 x.v.length c5]) (w.heap.size + 3) 24 #[.int .i64 x.k, .slice A5 x.v.length c5] := Av.bset_row K4
       replace BX : Below w.heap.size w (Z2.setRow (w.heap.size + 3) #[.int .i64 x.k, .slice A5 x.v.length c5]) := below_setRow BX (by omega) _
       clear H9
       generalize Z2.setRow (w.heap.size + 3) #[.int .i64 x.k, .slice A5 x.v.length c5] = Z3 at *
       refine hK.out _ _ K2 (fun hHeld => ?_)
       clear hK K
       try simp only [getElem_toArray, getElem_cons_zero, getElem_cons_succ, Act.put, setIfInBounds_toArray, set_cons_zero, set_cons_succ]
       refine wpAnyH_take (i := 7) (v := .bool true) rfl (by kernel_rfl) (by kernel_rfl) (by kernel_rfl) (fun _ _ _ h => h) (.inl ⟨by first | rfl | go_simp, by intro u h; (try dsimp only at h); go_simp⟩) ‹_› ?_
       simp only [getElem_toArray, getElem_cons_zero, getElem_cons_succ, Act.put, setIfInBounds_toArray, set_cons_zero, set_cons_succ]
       refine wpAnyH_take (i := 8) (v := .bool false) rfl (by kernel_rfl) (by kernel_rfl) (by kernel_rfl) (fun _ _ _ h => h) (.inl ⟨by first | rfl | go_simp, by intro u h; (try dsimp only at h); go_simp⟩) ‹_› ?_
       simp only [getElem_toArray, getElem_cons_zero, getElem_cons_succ, Act.put, setIfInBounds_toArray, set_cons_zero, set_cons_succ]
       refine wpAnyH_done (by kernel_rfl) ?_ _
       go_wp2_with fail
       have MQ := HQ
       have MA := K3
       have MC := K4
       have MB := BX
       clear hHeld K3 K4 HQ
       refine bodyPost_ret (v := .tuple #[.agg #[.int .i64 sn, .int .i64 (1 - nesn), .slice A n c, .bool true, .bool em, .int .i64 (ack : Int), .int .i64 ((tak : Int) + 1)], .agg #[.int .i64 x.k, .slice A5 x.v.length c5], .bool true, .bool false]) ?_ rfl (by rw [HO.out]; exact ⟨_, LB, ⟨x.k, A5, c5, x.v⟩, rfl, MQ.less (by omega) (Nat.le_refl _), HLb.out, rfl, HX, MB⟩)
       have HLa := run_loadVar_row (P := Try.prog) Z3 (w.heap.size + 2) 43 43 #[.int .i64 sn, .int .i64 (1 - nesn), .slice A n c, .bool true, .bool em, .int .i64 (ack : Int), .int .i64 ((tak : Int) + 1)] (0, 0) _ MA Try.underlying43 rfl (by kernel_rfl)
       have HLb := run_loadVar_row (P := Try.prog) Z3 (w.heap.size + 3) 24 24 #[.int .i64 x.k, .slice A5 x.v.length c5] (0, 0) _ MC Try.underlying24 rfl (by kernel_rfl)
       generalize (#[.int .i64 sn, .int .i64 (1 - nesn), .slice A n c, .bool true, .bool em, .int .i64 (ack : Int), .int .i64 ((tak : Int) + 1)] : Array Value) = CS at *
       generalize (#[.int .i64 x.k, .slice A5 x.v.length c5] : Array Value) = CP at *
       simp [results, show (Try.f33).results = #[.cell 4 43, .cell 5 24, .slot 6, .slot 7] from rfl, asAddr, HLa, HLb, Act.put]
      ·
       go_simp
       refine (HP.out Z0 BX).mono ?_
       rintro e Z4 ⟨A5, c5, rfl, HX, b9⟩
       replace K2 := K2.below b9 K2.lt
       replace K3 := K3.below b9 K3.lt
       replace K4 := K4.below b9 K4.lt
       replace BX := thenB BX b9
       replace HQ := HQ.below b9
       clear b9
       refine hK.out _ _ K2 (fun hHeld => ?_)
       clear hK K
       try simp only [getElem_toArray, getElem_cons_zero, getElem_cons_succ, Act.put, setIfInBounds_toArray, set_cons_zero, set_cons_succ]
       refine wpAnyH_ready (rs := [0]) (by kernel_rfl) (by simp) ?_
       refine .cons rfl (fun K hK => ?_) .nil
       have c90 := K3.cell 0
       have c91 := K3.cell 1
       have c92 := K3.cell 2
       have c93 := K3.cell 3
       have c94 := K3.cell 4
       have c95 := K3.cell 5
       have c96 := K3.cell 6
       go_simp
       clear c90 c91 c92 c93 c94 c95 c96
       refine hK.out _ _ K2 (fun hHeld => ?_)
       clear hK K
       try simp only [getElem_toArray, getElem_cons_zero, getElem_cons_succ, Act.put, setIfInBounds_toArray, set_cons_zero, set_cons_succ]
       refine wpAnyH_ready (rs := [5]) (by kernel_rfl) (by simp) ?_
       refine .cons rfl (fun K hK => ?_) .nil
       have H9 : (#[.int .i64 sn, .int .i64 (1 - nesn), .slice A n c, .bool true, .bool em, .int .i64 (ack : Int), .int .i64 ((tak : Int) + 1)] : Array Value).all (·.oneCell') = true := by rw [← Array.all_toList]; rfl
       refine Av.step_store_row rfl 43 (.tmp 4) (.tmp 49) rfl (w.heap.size + 2) #[.int .i64 sn, .int .i64 (1 - nesn), .slice A n c, .bool true, .bool em, .int .i64 (ack : Int), .int .i64 ((tak : Int) + 1)] rfl rfl 43 _ K3 (by kernel_rfl) rfl H9 ?_
       replace HQ := HQ.step (stp_row K3 #[.int .i64 sn, .int .i64 (1 - nesn), .slice A n c, .bool true, .bool em, .int .i64 (ack : Int), .int .i64 ((tak : Int) + 1)]) (by decide) (by decide) (Nat.zero_le _)
       replace HX := HX.step (stp_row K3 #[.int .i64 sn, .int .i64 (1 - nesn), .slice A n c, .bool true, .bool em, .int .i64 (ack : Int), .int .i64 ((tak : Int) + 1)]) (by decide) (Nat.zero_le _)
       replace K2 : Blk (Z4.setRow (w.heap.size + 2) #[.int .i64 sn, .int .i64 (1 - nesn), .slice A n c, .bool true, .bool em, .int .i64 (ack : Int), .int .i64 ((tak : Int) + 1)]) (w.heap.size + 1) 26 #[.int .i64 psn, .int .i64 pnesn, .int .i64 pmd, .int .i64 x.k, .slice x.A x.v.length x.c] := Av.bother_row K2 (by omega)
       replace K3 : Blk (Z4.setRow (w.heap.size + 2) #[.int .i64 sn, .int .i64 (1 - nesn), .slice A n c, .bool true, .bool em, .int .i64 (ack : Int), .int .i64 ((tak : Int) + 1)]) (w.heap.size + 2) 43 #[.int .i64 sn, .int .i64 (1 - nesn), .slice A n c, .bool true, .bool em, .int .i64 (ack : Int), .int .i64 ((tak : Int) + 1)] := Av.bset_row K3
       replace K4 : Blk (Z4.setRow (w.heap.size + 2) #[.int .i64 sn, .int .i64 (1 - nesn), .slice A n c, .bool true, .bool em, .int .i64 (ack : Int), .int .i64 ((tak : Int) + 1)]) (w.heap.size + 3) 24 #[.int .i64 0, .slice none 0 0] := Av.bother_row K4 (by omega)
       replace BX : Below w.heap.size w (Z4.setRow (w.heap.size + 2) #[.int .i64 sn, .int .i64 (1 - nesn), .slice A n c, .bool true, .bool em, .int .i64 (ack : Int), .int .i64 ((tak : Int) + 1)]) := below_setRow BX (by omega) _
       clear H9
       generalize Z4.setRow (w.heap.size + 2) #[.int .i64 sn, .int .i64 (1 - nesn), .slice A n c, .bool true, .bool em, .int .i64 (ack : Int), .int .i64 ((tak : Int) + 1)] = Z5 at *
       refine hK.out _ _ K2 (fun hHeld => ?_)
       clear hK K
       try simp only [getElem_toArray, getElem_cons_zero, getElem_cons_succ, Act.put, setIfInBounds_toArray, set_cons_zero, set_cons_succ]
       refine wpAnyH_ready (rs := [6]) (by kernel_rfl) (by simp) ?_
       refine .cons rfl (fun K hK => ?_) .nil
       have H9 : (#[.int .i64 x.k, .slice A5 x.v.length c5] : Array Value).all (·.oneCell') = true := by rw [← Array.all_toList]; rfl
       refine Av.step_store_row rfl 24 (.tmp 5) (.tmp 52) rfl (w.heap.size + 3) #[.int .i64 x.k, .slice A5 x.v.length c5] rfl rfl 24 _ K4 (by kernel_rfl) rfl H9 ?_
       replace HQ := HQ.step_ne (stp_row K4 #[.int .i64 x.k, .slice A5 x.v.length c5]) (by decide) (fun h => by have := (HQ.2.2 _ h).1; omega) (Nat.zero_le _)
       replace HX := HX.step (stp_row K4 #[.int .i64 x.k, .slice A5 x.v.length c5]) (by decide) (Nat.zero_le _)
       replace K2 : Blk (Z5.setRow (w.heap.size + 3) #[.int .i64 x.k, .slice A5 x.v.length c5]) (w.heap.size + 1) 26 #[.int .i64 psn, .int .i64 pnesn, .int .i64 pmd, .int .i64 x.k, .slice x.A x.v.length x.c] := Av.bother_row K2 (by omega)
       replace K3 : Blk (Z5.setRow (w.heap.size + 3) #[.int .i64 x.k, .slice A5 x.v.length c5]) (w.heap.size + 2) 43 #[.int .i64 sn, .int .i64 (1 - nesn), .slice A n c, .bool true, .bool em, .int .i64 (ack : Int), .int .i64 ((tak : Int) + 1)] := Av.bother_row K3 (by omega)
       replace K4 : Blk (Z5.setRow (w.heap.size + 3) #[.int .i64 x.k, .slice A5 x.v.length c5]) (w.heap.size + 3) 24 #[.int .i64 x.k, .slice A5 x.v.length c5] := Av.bset_row K4
       replace BX : Below w.heap.size w (Z5.setRow (w.heap.size + 3) #[.int .i64 x.k, .slice A5 x.v.length c5]) := below_setRow BX (by omega) _
       clear H9
       generalize Z5.setRow (w.heap.size + 3) #[.int .i64 x.k, .slice A5 x.v.length c5] = Z6 at *
       refine hK.out _ _ K2 (fun hHeld => ?_)
       clear hK K
       try simp only [getElem_toArray, getElem_cons_zero, getElem_cons_succ, Act.put, setIfInBounds_toArray, set_cons_zero, set_cons_succ]
       refine wpAnyH_take (i := 7) (v := .bool true) rfl (by kernel_rfl) (by kernel_rfl) (by kernel_rfl) (fun _ _ _ h => h) (.inl ⟨by first | rfl | go_simp, by intro u h; (try dsimp only at h); go_simp⟩) ‹_› ?_
       simp only [getElem_toArray, getElem_cons_zero, getElem_cons_succ, Act.put, setIfInBounds_toArray, set_cons_zero, set_cons_succ]
       refine wpAnyH_take (i := 8) (v := .bool false) rfl (by kernel_rfl) (by kernel_rfl) (by kernel_rfl) (fun _ _ _ h => h) (.inl ⟨by first | rfl | go_simp, by intro u h; (try dsimp only at h); go_simp⟩) ‹_› ?_
       simp only [getElem_toArray, getElem_cons_zero, getElem_cons_succ, Act.put, setIfInBounds_toArray, set_cons_zero, set_cons_succ]
       refine wpAnyH_done (by kernel_rfl) ?_ _
       go_wp2_with fail
       have MQ := HQ
       have MA := K3
       have MC := K4
       have MB := BX
       clear hHeld K3 K4 HQ
       refine bodyPost_ret (v := .tuple #[.agg #[.int .i64 sn, .int .i64 (1 - nesn), .slice A n c, .bool true, .bool em, .int .i64 (ack : Int), .int .i64 ((tak : Int) + 1)], .agg #[.int .i64 x.k, .slice A5 x.v.length c5], .bool true, .bool false]) ?_ rfl (by rw [HO.out]; exact ⟨_, LB, ⟨x.k, A5, c5, x.v⟩, rfl, MQ.less (by omega) (Nat.le_refl _), HLb.out, rfl, HX, MB⟩)
       have HLa := run_loadVar_row (P := Try.prog) Z6 (w.heap.size + 2) 43 43 #[.int .i64 sn, .int .i64 (1 - nesn), .slice A n c, .bool true, .bool em, .int .i64 (ack : Int), .int .i64 ((tak : Int) + 1)] (0, 0) _ MA Try.underlying43 rfl (by kernel_rfl)
       have HLb := run_loadVar_row (P := Try.prog) Z6 (w.heap.size + 3) 24 24 #[.int .i64 x.k, .slice A5 x.v.length c5] (0, 0) _ MC Try.underlying24 rfl (by kernel_rfl)
       generalize (#[.int .i64 sn, .int .i64 (1 - nesn), .slice A n c, .bool true, .bool em, .int .i64 (ack : Int), .int .i64 ((tak : Int) + 1)] : Array Value) = CS at *
       generalize (#[.int .i64 x.k, .slice A5 x.v.length c5] : Array Value) = CP at *
       simp [results, show (Try.f33).results = #[.cell 4 43, .cell 5 24, .slot 6, .slot 7] from rfl, asAddr, HLa, HLb, Act.put]
    ·
     have gn : (psn != nesn) = true := by simpa using hn
     have HO := Lib.hid (take_old hck.out hac.out hb1.out hn)
     clear hn
     go_upto_region 8 with (fail)
     clear q0 q1
     have H1 : (#[.int .i64 sn, .int .i64 nesn, .slice A n c, .bool true, .bool em, .int .i64 (ack : Int), .int .i64 (tak : Int)] : Array Value).all (·.oneCell') = true := by rw [← Array.all_toList]; rfl
     have H2 : (#[.int .i64 0, .slice none 0 0] : Array Value).all (·.oneCell') = true := by rw [← Array.all_toList]; rfl
     go_wp2_with (first | (refine wpList_store_row rfl 43 (.tmp 4) _ rfl (w.heap.size + 2) #[.int .i64 sn, .int .i64 nesn, .slice A n c, .bool true, .bool em, .int .i64 (ack : Int), .int .i64 (tak : Int)] rfl rfl 43 _ K3 (by kernel_rfl) rfl H1 ?_; have sA := stp_row K3 #[.int .i64 sn, .int .i64 nesn, .slice A n c, .bool true, .bool em, .int .i64 (ack : Int), .int .i64 (tak : Int)]; have M3 := Av.bset_row (cs' := #[.int .i64 sn, .int .i64 nesn, .slice A n c, .bool true, .bool em, .int .i64 (ack : Int), .int .i64 (tak : Int)]) K3; have M4 := Av.bother_row (cs' := #[.int .i64 sn, .int .i64 nesn, .slice A n c, .bool true, .bool em, .int .i64 (ack : Int), .int .i64 (tak : Int)]) (g' := w.heap.size + 2) K4 (by omega)) | (refine wpList_store_row rfl 24 (.tmp 5) _ rfl (w.heap.size + 3) #[.int .i64 0, .slice none 0 0] rfl rfl 24 _ M4 (by kernel_rfl) rfl H2 ?_) | (refine wpList_load_row rfl 43 (.tmp 4) rfl (w.heap.size + 2) rfl 43 _ (0, 0) _ K3 Try.underlying43 rfl (by kernel_rfl) ?_))
     have MQ := HQ.step sA (by decide) (by decide) (Nat.zero_le _)
     replace MQ := MQ.step_ne (stp_row M4 #[.int .i64 0, .slice none 0 0]) (by decide) (fun h => by have := (MQ.2.2 _ h).1; omega) (Nat.zero_le _)
     have MA := Av.bother_row (cs' := #[.int .i64 0, .slice none 0 0]) (g' := w.heap.size + 3) M3 (by omega)
     have MC := Av.bset_row (cs' := #[.int .i64 0, .slice none 0 0]) M4
     have MB : Below w.heap.size w ((W5.setRow (w.heap.size + 2) #[.int .i64 sn, .int .i64 nesn, .slice A n c, .bool true, .bool em, .int .i64 (ack : Int), .int .i64 (tak : Int)]).setRow (w.heap.size + 3) #[.int .i64 0, .slice none 0 0]) := below_setRow (below_setRow BX (by omega) #[.int .i64 sn, .int .i64 nesn, .slice A n c, .bool true, .bool em, .int .i64 (ack : Int), .int .i64 (tak : Int)]) (by omega) #[.int .i64 0, .slice none 0 0]
     clear sA M3 M4
     generalize (W5.setRow (w.heap.size + 2) #[.int .i64 sn, .int .i64 nesn, .slice A n c, .bool true, .bool em, .int .i64 (ack : Int), .int .i64 (tak : Int)]).setRow (w.heap.size + 3) #[.int .i64 0, .slice none 0 0] = Y at *
     refine bodyPost_ret (v := .tuple #[.agg #[.int .i64 sn, .int .i64 nesn, .slice A n c, .bool true, .bool em, .int .i64 (ack : Int), .int .i64 (tak : Int)], .agg #[.int .i64 0, .slice none 0 0], .bool false, .bool false]) ?_ rfl (by rw [HO.out]; exact ⟨_, LB, ⟨0, none, 0, []⟩, rfl, MQ.less (by omega) (Nat.le_refl _), HLb.out, rfl, pp_zero _ _ _, MB⟩)
     have HLa := run_loadVar_row (P := Try.prog) Y (w.heap.size + 2) 43 43 #[.int .i64 sn, .int .i64 nesn, .slice A n c, .bool true, .bool em, .int .i64 (ack : Int), .int .i64 (tak : Int)] (0, 0) _ MA Try.underlying43 rfl (by kernel_rfl)
     have HLb := run_loadVar_row (P := Try.prog) Y (w.heap.size + 3) 24 24 #[.int .i64 0, .slice none 0 0] (0, 0) _ MC Try.underlying24 rfl (by kernel_rfl)
     generalize (#[.int .i64 sn, .int .i64 nesn, .slice A n c, .bool true, .bool em, .int .i64 (ack : Int), .int .i64 (tak : Int)] : Array Value) = CS at *
     generalize (#[.int .i64 0, .slice none 0 0] : Array Value) = CP at *
     simp [results, show (Try.f33).results = #[.cell 4 43, .cell 5 24, .slot 6, .slot 7] from rfl, asAddr, HLa, HLb, Act.put]
   ·
    have ga : (pnesn != sn) = true := by simpa using ha
    have hac : Hid (ackB ⟨sn, nesn, q, true, em, ack, tak⟩ ⟨psn, pnesn, pmd, x.p⟩ = true) := Lib.hid (by unfold ackB; simp [ha])
    have HAk : Hid (∀ X, QQ X (w.heap.size + 4) 0 (.slice A n c) LB → Calls Try.prog 58 #[.agg #[.int .i64 sn, .int .i64 nesn, .slice A n c, .bool true, .bool em, .int .i64 ack, .int .i64 tak]] X fun e w' => ∃ V' l', e = .returned (.agg (acel (ackd ⟨sn, nesn, q, true, em, ack, tak⟩) V')) ∧ QQ w' (w.heap.size + 4) 0 V' l' ∧ l'.map Pm.p = (ackd ⟨sn, nesn, q, true, em, ack, tak⟩).q ∧ Below X.heap.size X w') := Lib.hid fun X h => acked_any ⟨sn, nesn, q, true, em, ack, tak⟩ (.slice A n c) LB (w.heap.size + 4) 0 X hsn hca (by omega) rfl h HLb.out
    have hnn : (ackd ⟨sn, nesn, q, true, em, ack, tak⟩).nesn = nesn ∧ (ackd ⟨sn, nesn, q, true, em, ack, tak⟩).tak = tak := by
     unfold ackd
     split <;> exact ⟨rfl, rfl⟩
    obtain ⟨b, hbd⟩ : ∃ b, ackd ⟨sn, nesn, q, true, em, ack, tak⟩ = b := ⟨_, rfl⟩
    have hb1 : Hid (tk1 ⟨sn, nesn, q, true, em, ack, tak⟩ ⟨psn, pnesn, pmd, x.p⟩ = b) := Lib.hid (by unfold tk1; rw [hac.out, ← hbd]; rfl)
    rw [hbd] at HAk hnn
    clear ha hbd
    obtain ⟨bsn, bnesn, bq, bop, bem, back, btak⟩ := b
    obtain ⟨rfl, rfl⟩ : bnesn = nesn ∧ btak = tak := hnn
    go_upto_region 6 with (fail)
    clear p3 p0 r1
    go_upto_region 7 with (first
     | (go_at_call 58; refine (HAk.out W5 HQ).mono ?_; rintro e W6 ⟨V6, LC, rfl, HQ6, hl6, b9⟩; obtain ⟨⟨A6, c6, rfl, hLc6, _⟩, _⟩ := id HQ6; replace K2 := K2.below b9 K2.lt; replace K3 := K3.below b9 K3.lt; replace K4 := K4.below b9 K4.lt; replace BX := thenB BX b9; clear b9; have H1 : (#[.int .i64 bsn, .int .i64 bnesn, .slice A6 LC.length c6, .bool bop, .bool bem, .int .i64 (back : Int), .int .i64 (btak : Int)] : Array Value).all (·.oneCell') = true := by rw [← Array.all_toList]; rfl)
     | (refine wpList_store_row rfl 43 (.tmp 4) _ rfl (w.heap.size + 2) #[.int .i64 bsn, .int .i64 bnesn, .slice A6 LC.length c6, .bool bop, .bool bem, .int .i64 (back : Int), .int .i64 (btak : Int)] rfl rfl 43 _ K3 (by kernel_rfl) rfl H1 ?_)
     | (refine wpList_load_row rfl 43 (.tmp 4) rfl (w.heap.size + 2) rfl 43 _ (0, 0) _ K3 Try.underlying43 rfl (by kernel_rfl) ?_))
    clear HQ HLb hLn
    have HLb : Hid (LC.map Pm.p = bq) := Lib.hid hl6
    have HQ := HQ6.step (stp_row K3 #[.int .i64 bsn, .int .i64 bnesn, .slice A6 LC.length c6, .bool bop, .bool bem, .int .i64 (back : Int), .int .i64 (btak : Int)]) (by decide) (by decide) (Nat.zero_le _)
    replace K2 := (stp_row K3 #[.int .i64 bsn, .int .i64 bnesn, .slice A6 LC.length c6, .bool bop, .bool bem, .int .i64 (back : Int), .int .i64 (btak : Int)]).blk_ne K2 (by omega)
    replace K4 := (stp_row K3 #[.int .i64 bsn, .int .i64 bnesn, .slice A6 LC.length c6, .bool bop, .bool bem, .int .i64 (back : Int), .int .i64 (btak : Int)]).blk_ne K4 (by omega)
    replace BX : Below w.heap.size w (W6.setRow (w.heap.size + 2) #[.int .i64 bsn, .int .i64 bnesn, .slice A6 LC.length c6, .bool bop, .bool bem, .int .i64 (back : Int), .int .i64 (btak : Int)]) := below_setRow BX (by omega) _
    replace K3 := Av.bset_row (cs' := #[.int .i64 bsn, .int .i64 bnesn, .slice A6 LC.length c6, .bool bop, .bool bem, .int .i64 (back : Int), .int .i64 (btak : Int)]) K3
    clear HQ6 hl6 H1 HAk
    generalize W6.setRow (w.heap.size + 2) #[.int .i64 bsn, .int .i64 bnesn, .slice A6 LC.length c6, .bool bop, .bool bem, .int .i64 (back : Int), .int .i64 (btak : Int)] = W7 at *
    obtain ⟨n6, hn6⟩ : ∃ n6, LC.length = n6 := ⟨_, rfl⟩
    rw [hn6] at K3 HQ hLc6
    try rw [hn6]
    clear hn6
    have q0 := K2.cell 0
    have q1 := K3.cell 1
    by_cases hn : psn = bnesn
    ·
     have gn : (psn != bnesn) = false := by simpa using hn
     have HON := Lib.hid hn
     clear hn
     go_upto_region 10 with (refine Av.wpList_store_cell rfl _ _ _ rfl (w.heap.size + 2) 1 (.int .i64 (1 - bnesn)) rfl rfl 43 _ K3 (by show 1 < 7; decide) (by kernel_rfl) rfl ?_)
     replace HQ := HQ.step (stp_cell (i := 1) K3 (.int .i64 (1 - bnesn))) (by decide) (by decide) (Nat.zero_le _)
     replace K2 := (stp_cell (i := 1) K3 (.int .i64 (1 - bnesn))).blk_ne K2 (by omega)
     replace K4 := (stp_cell (i := 1) K3 (.int .i64 (1 - bnesn))).blk_ne K4 (by omega)
     replace K3 := Av.bset K3 1 (.int .i64 (1 - bnesn)) rfl
     replace BX := BX.setCell (p := ⟨w.heap.size + 2, 1, none⟩) (by show w.heap.size ≤ w.heap.size + 2; omega) (.int .i64 (1 - bnesn))
     clear q0 q1
     generalize W7.setCell ⟨w.heap.size + 2, 1, none⟩ (.int .i64 (1 - bnesn)) = X6 at *
     have q3 := K2.cell 3
     have q4 := K2.cell 4
     cases hbl : blankB x.k x.v.length with
     | true =>
      have HB := Lib.hid (blank_to hbl x.A x.c)
      have HO := Lib.hid (take_blank hck.out hac.out hb1.out HON.out hbl)
      clear hbl
      go_upto_region 11 with (go_at_call 16; refine (HB.out X6).mono ?_; rintro e X7 ⟨rfl, b9⟩; replace K3 := K3.below b9 K3.lt; replace K4 := K4.below b9 K4.lt; replace HQ := HQ.below b9; replace BX := thenB BX b9; clear b9 q3 q4)
      have H1 : (#[.int .i64 bsn, .int .i64 (1 - bnesn), .slice A6 n6 c6, .bool bop, .bool bem, .int .i64 (back : Int), .int .i64 (btak : Int)] : Array Value).all (·.oneCell') = true := by rw [← Array.all_toList]; rfl
      have H2 : (#[.int .i64 0, .slice none 0 0] : Array Value).all (·.oneCell') = true := by rw [← Array.all_toList]; rfl
      go_wp2_with (first | (refine wpList_store_row rfl 43 (.tmp 4) _ rfl (w.heap.size + 2) #[.int .i64 bsn, .int .i64 (1 - bnesn), .slice A6 n6 c6, .bool bop, .bool bem, .int .i64 (back : Int), .int .i64 (btak : Int)] rfl rfl 43 _ K3 (by kernel_rfl) rfl H1 ?_; have sA := stp_row K3 #[.int .i64 bsn, .int .i64 (1 - bnesn), .slice A6 n6 c6, .bool bop, .bool bem, .int .i64 (back : Int), .int .i64 (btak : Int)]; have M3 := Av.bset_row (cs' := #[.int .i64 bsn, .int .i64 (1 - bnesn), .slice A6 n6 c6, .bool bop, .bool bem, .int .i64 (back : Int), .int .i64 (btak : Int)]) K3; have M4 := Av.bother_row (cs' := #[.int .i64 bsn, .int .i64 (1 - bnesn), .slice A6 n6 c6, .bool bop, .bool bem, .int .i64 (back : Int), .int .i64 (btak : Int)]) (g' := w.heap.size + 2) K4 (by omega)) | (refine wpList_store_row rfl 24 (.tmp 5) _ rfl (w.heap.size + 3) #[.int .i64 0, .slice none 0 0] rfl rfl 24 _ M4 (by kernel_rfl) rfl H2 ?_) | (refine wpList_load_row rfl 43 (.tmp 4) rfl (w.heap.size + 2) rfl 43 _ (0, 0) _ K3 Try.underlying43 rfl (by kernel_rfl) ?_))
      have MQ := HQ.step sA (by decide) (by decide) (Nat.zero_le _)
      replace MQ := MQ.step_ne (stp_row M4 #[.int .i64 0, .slice none 0 0]) (by decide) (fun h => by have := (MQ.2.2 _ h).1; omega) (Nat.zero_le _)
      have MA := Av.bother_row (cs' := #[.int .i64 0, .slice none 0 0]) (g' := w.heap.size + 3) M3 (by omega)
      have MC := Av.bset_row (cs' := #[.int .i64 0, .slice none 0 0]) M4
      have MB : Below w.heap.size w ((X7.setRow (w.heap.size + 2) #[.int .i64 bsn, .int .i64 (1 - bnesn), .slice A6 n6 c6, .bool bop, .bool bem, .int .i64 (back : Int), .int .i64 (btak : Int)]).setRow (w.heap.size + 3) #[.int .i64 0, .slice none 0 0]) := below_setRow (below_setRow BX (by omega) #[.int .i64 bsn, .int .i64 (1 - bnesn), .slice A6 n6 c6, .bool bop, .bool bem, .int .i64 (back : Int), .int .i64 (btak : Int)]) (by omega) #[.int .i64 0, .slice none 0 0]
      clear sA M3 M4
      generalize (X7.setRow (w.heap.size + 2) #[.int .i64 bsn, .int .i64 (1 - bnesn), .slice A6 n6 c6, .bool bop, .bool bem, .int .i64 (back : Int), .int .i64 (btak : Int)]).setRow (w.heap.size + 3) #[.int .i64 0, .slice none 0 0] = Y at *
      refine bodyPost_ret (v := .tuple #[.agg #[.int .i64 bsn, .int .i64 (1 - bnesn), .slice A6 n6 c6, .bool bop, .bool bem, .int .i64 (back : Int), .int .i64 (btak : Int)], .agg #[.int .i64 0, .slice none 0 0], .bool false, .bool true]) ?_ rfl (by rw [HO.out]; exact ⟨_, LC, ⟨0, none, 0, []⟩, rfl, MQ.less (by omega) (Nat.le_refl _), HLb.out, rfl, pp_zero _ _ _, MB⟩)
      have HLa := run_loadVar_row (P := Try.prog) Y (w.heap.size + 2) 43 43 #[.int .i64 bsn, .int .i64 (1 - bnesn), .slice A6 n6 c6, .bool bop, .bool bem, .int .i64 (back : Int), .int .i64 (btak : Int)] (0, 0) _ MA Try.underlying43 rfl (by kernel_rfl)
      have HLb := run_loadVar_row (P := Try.prog) Y (w.heap.size + 3) 24 24 #[.int .i64 0, .slice none 0 0] (0, 0) _ MC Try.underlying24 rfl (by kernel_rfl)
      generalize (#[.int .i64 bsn, .int .i64 (1 - bnesn), .slice A6 n6 c6, .bool bop, .bool bem, .int .i64 (back : Int), .int .i64 (btak : Int)] : Array Value) = CS at *
      generalize (#[.int .i64 0, .slice none 0 0] : Array Value) = CP at *
      simp [results, show (Try.f33).results = #[.cell 4 43, .cell 5 24, .slot 6, .slot 7] from rfl, asAddr, HLa, HLb, Act.put]
     | false =>
      have HB := Lib.hid (blank_to hbl x.A x.c)
      have HO := Lib.hid (take_new hck.out hac.out hb1.out HON.out hbl)
      clear hbl
      go_upto_region 12 with (go_at_call 16; refine (HB.out X6).mono ?_; rintro e X7 ⟨rfl, b9⟩; replace K2 := K2.below b9 K2.lt; replace K3 := K3.below b9 K3.lt; replace K4 := K4.below b9 K4.lt; replace HQ := HQ.below b9; replace BX := thenB BX b9; clear b9 q3 q4)
      have q6 := K3.cell 6
      go_upto_region 13 with (refine Av.wpList_store_cell rfl _ _ _ rfl (w.heap.size + 2) 6 (.int .i64 ((btak : Int) + 1)) rfl rfl 43 _ K3 (by show 6 < 7; decide) (by kernel_rfl) rfl ?_)
      replace HQ := HQ.step (stp_cell (i := 6) K3 (.int .i64 ((btak : Int) + 1))) (by decide) (by decide) (Nat.zero_le _)
      replace K2 := (stp_cell (i := 6) K3 (.int .i64 ((btak : Int) + 1))).blk_ne K2 (by omega)
      replace K4 := (stp_cell (i := 6) K3 (.int .i64 ((btak : Int) + 1))).blk_ne K4 (by omega)
      replace K3 := Av.bset K3 6 (.int .i64 ((btak : Int) + 1)) rfl
      replace BX := BX.setCell (p := ⟨w.heap.size + 2, 6, none⟩) (by show w.heap.size ≤ w.heap.size + 2; omega) (.int .i64 ((btak : Int) + 1))
      clear q6
      generalize X7.setCell ⟨w.heap.size + 2, 6, none⟩ (.int .i64 ((btak : Int) + 1)) = X8 at *
      have K2' : Blk X8.drew (w.heap.size + 1) 26 #[.int .i64 psn, .int .i64 pnesn, .int .i64 pmd, .int .i64 x.k, .slice x.A x.v.length x.c] := Mem.Blk.drew K2
      have K3' : Blk X8.drew (w.heap.size + 2) 43 #[.int .i64 bsn, .int .i64 (1 - bnesn), .slice A6 n6 c6, .bool bop, .bool bem, .int .i64 (back : Int), .int .i64 ((btak : Int) + 1)] := Mem.Blk.drew K3
      have K4' : Blk X8.drew (w.heap.size + 3) 24 #[.int .i64 0, .slice none 0 0] := Mem.Blk.drew K4
      refine wp_region_held_drew (S := (fun w' => Blk w' (w.heap.size + 1) 26 #[.int .i64 psn, .int .i64 pnesn, .int .i64 pmd, .int .i64 x.k, .slice x.A x.v.length x.c])) (by kernel_rfl) ?_ (fun hHeld => ?_)
      ·
       exact K2'
      replace K2 := K2'
      clear K2'
      replace K3 := K3'
      clear K3'
      replace K4 := K4'
      clear K4'
      replace BX : Below w.heap.size w X8.drew := BX.drew
      replace HQ := (show QQ X8.drew (w.heap.size + 4) 0 (.slice A6 n6 c6) LC from HQ.below ((Below.refl X8.heap.size X8).drew))
      generalize X8.drew = Z0 at *
      refine wpAnyH_take (i := 1) (v := .pointer (some ⟨w.heap.size + 1, 3, none⟩)) rfl (by kernel_rfl) (by kernel_rfl) (by kernel_rfl) (fun _ _ _ h => h) (.inl ⟨by first | rfl | go_simp, by intro u h; (try dsimp only at h); go_simp⟩) ‹_› ?_
      simp only [getElem_toArray, getElem_cons_zero, getElem_cons_succ, Act.put, setIfInBounds_toArray, set_cons_zero, set_cons_succ]
      refine wpAnyH_take (i := 2) (v := .agg #[.int .i64 x.k, .slice x.A x.v.length x.c]) rfl (by kernel_rfl) (by kernel_rfl) (by kernel_rfl) (fun _ _ _ h => h) (Av.yields_part (by first | rfl | go_simp) _ _ rfl (w.heap.size + 1) 3 rfl #[.int .i64 x.k, .slice x.A x.v.length x.c] _ 26 #[.int .i64 psn, .int .i64 pnesn, .int .i64 pmd, .int .i64 x.k, .slice x.A x.v.length x.c] (fun w9 hSw => hSw) rfl Try.underlying24 rfl (by kernel_rfl)) ‹_› ?_
      simp only [getElem_toArray, getElem_cons_zero, getElem_cons_succ, Act.put, setIfInBounds_toArray, set_cons_zero, set_cons_succ]
      refine wpAnyH_take (i := 4) (v := .bool true) rfl (by kernel_rfl) (by kernel_rfl) (by kernel_rfl) (fun _ _ _ h => h) (.inl ⟨by first | rfl | go_simp, by intro u h; (try dsimp only at h); go_simp⟩) ‹_› ?_
      simp only [getElem_toArray, getElem_cons_zero, getElem_cons_succ, Act.put, setIfInBounds_toArray, set_cons_zero, set_cons_succ]
      refine wpAnyH_ready (rs := [0, 3]) (by kernel_rfl) (by simp) ?_
      refine AllReadyH.cons rfl (fun K hK => ?_) (AllReadyH.cons rfl (fun K hK => ?_) (AllReadyH.nil))
      ·
       have c90 := K3.cell 0
       have c91 := K3.cell 1
       have c92 := K3.cell 2
       have c93 := K3.cell 3
       have c94 := K3.cell 4
       have c95 := K3.cell 5
       have c96 := K3.cell 6
       go_simp
       clear c90 c91 c92 c93 c94 c95 c96
       refine hK.out _ _ K2 (fun hHeld => ?_)
       clear hK K
       try simp only [getElem_toArray, getElem_cons_zero, getElem_cons_succ, Act.put, setIfInBounds_toArray, set_cons_zero, set_cons_succ]
       refine wpAnyH_ready (rs := [3]) (by kernel_rfl) (by simp) ?_
       refine .cons rfl (fun K hK => ?_) .nil
       go_simp
       refine (HP.out Z0 BX).mono ?_
       rintro e Z1 ⟨A5, c5, rfl, HX, b9⟩
       replace K2 := K2.below b9 K2.lt
       replace K3 := K3.below b9 K3.lt
       replace K4 := K4.below b9 K4.lt
       replace BX := thenB BX b9
       replace HQ := HQ.below b9
       clear b9
       refine hK.out _ _ K2 (fun hHeld => ?_)
       clear hK K
       try simp only [getElem_toArray, getElem_cons_zero, getElem_cons_succ, Act.put, setIfInBounds_toArray, set_cons_zero, set_cons_succ]
       refine wpAnyH_ready (rs := [5]) (by kernel_rfl) (by simp) ?_
       refine .cons rfl (fun K hK => ?_) .nil
       have H9 : (#[.int .i64 bsn, .int .i64 (1 - bnesn), .slice A6 n6 c6, .bool bop, .bool bem, .int .i64 (back : Int), .int .i64 ((btak : Int) + 1)] : Array Value).all (·.oneCell') = true := by rw [← Array.all_toList]; rfl
       refine Av.step_store_row rfl 43 (.tmp 4) (.tmp 49) rfl (w.heap.size + 2) #[.int .i64 bsn, .int .i64 (1 - bnesn), .slice A6 n6 c6, .bool bop, .bool bem, .int .i64 (back : Int), .int .i64 ((btak : Int) + 1)] rfl rfl 43 _ K3 (by kernel_rfl) rfl H9 ?_
       replace HQ := HQ.step (stp_row K3 #[.int .i64 bsn, .int .i64 (1 - bnesn), .slice A6 n6 c6, .bool bop, .bool bem, .int .i64 (back : Int), .int .i64 ((btak : Int) + 1)]) (by decide) (by decide) (Nat.zero_le _)
       replace HX := HX.step (stp_row K3 #[.int .i64 bsn, .int .i64 (1 - bnesn), .slice A6 n6 c6, .bool bop, .bool bem, .int .i64 (back : Int), .int .i64 ((btak : Int) + 1)]) (by decide) (Nat.zero_le _)
       replace K2 : Blk (Z1.setRow (w.heap.size + 2) #[.int .i64 bsn, .int .i64 (1 - bnesn), .slice A6 n6 c6, .bool bop, .bool bem, .int .i64 (back : Int), .int .i64 ((btak : Int) + 1)]) (w.heap.size + 1) 26 #[.int .i64 psn, .int .i64 pnesn, .int .i64 pmd, .int .i64 x.k, .slice x.A x.v.length x.c] := Av.bother_row K2 (by omega)
       replace K3 : Blk (Z1.setRow (w.heap.size + 2) #[.int .i64 bsn, .int .i64 (1 - bnesn), .slice A6 n6 c6, .bool bop, .bool bem, .int .i64 (back : Int), .int .i64 ((btak : Int) + 1)]) (w.heap.size + 2) 43 #[.int .i64 bsn, .int .i64 (1 - bnesn), .slice A6 n6 c6, .bool bop, .bool bem, .int .i64 (back : Int), .int .i64 ((btak : Int) + 1)] := Av.bset_row K3
       replace K4 : Blk (Z1.setRow (w.heap.size + 2) #[.int .i64 bsn, .int .i64 (1 - bnesn), .slice A6 n6 c6, .bool bop, .bool bem, .int .i64 (back : Int), .int .i64 ((btak : Int) + 1)]) (w.heap.size + 3) 24 #[.int .i64 0, .slice none 0 0] := Av.bother_row K4 (by omega)
       replace BX : Below w.heap.size w (Z1.setRow (w.heap.size + 2) #[.int .i64 bsn, .int .i64 (1 - bnesn), .slice A6 n6 c6, .bool bop, .bool bem, .int .i64 (back : Int), .int .i64 ((btak : Int) + 1)]) := below_setRow BX (by omega) _
       clear H9
       generalize Z1.setRow (w.heap.size + 2) #[.int .i64 bsn, .int .i64 (1 - bnesn), .slice A6 n6 c6, .bool bop, .bool bem, .int .i64 (back : Int), .int .i64 ((btak : Int) + 1)] = Z2 at *
       refine hK.out _ _ K2 (fun hHeld => ?_)
       clear hK K
       try simp only [getElem_toArray, getElem_cons_zero, getElem_cons_succ, Act.put, setIfInBounds_toArray, set_cons_zero, set_cons_succ]
       refine wpAnyH_ready (rs := [6]) (by kernel_rfl) (by simp) ?_
       refine .cons rfl (fun K hK => ?_) .nil
       have H9 : (#[.int .i64 x.k, .slice A5 x.v.length c5] : Array Value).all (·.oneCell') = true := by rw [← Array.all_toList]; rfl
       refine Av.step_store_row rfl 24 (.tmp 5) (.tmp 52) rfl (w.heap.size + 3) #[.int .i64 x.k, .slice A5 x.v.length c5] rfl rfl 24 _ K4 (by kernel_rfl) rfl H9 ?_
       replace HQ := HQ.step_ne (stp_row K4 #[.int .i64 x.k, .slice A5 x.v.length c5]) (by decide) (fun h => by have := (HQ.2.2 _ h).1; omega) (Nat.zero_le _)
       replace HX := HX.step (stp_row K4 #[.int .i64 x.k, .slice A5 x.v.length c5]) (by decide) (Nat.zero_le _)
       replace K2 : Blk (Z2.setRow (w.heap.size + 3) #[.int .i64 x.k, .slice A5 x.v.length c5]) (w.heap.size + 1) 26 #[.int .i64 psn, .int .i64 pnesn, .int .i64 pmd, .int .i64 x.k, .slice x.A x.v.length x.c] := Av.bother_row K2 (by omega)
       replace K3 : Blk (Z2.setRow (w.heap.size + 3) #[.int .i64 x.k, .slice A5 x.v.length c5]) (w.heap.size + 2) 43 #[.int .i64 bsn, .int .i64 (1 - bnesn), .slice A6 n6 c6, .bool bop, .bool bem, .int .i64 (back : Int), .int .i64 ((btak : Int) + 1)] := Av.bother_row K3 (by omega)
       replace K4 : Blk (Z2.setRow (w.heap.size + 3) #[.int .i64 x.k, .slice A5 x.v.length c5]) (w.heap.size + 3) 24 #[.int .i64 x.k, .slice A5 x.v.length c5] := Av.bset_row K4
       replace BX : Below w.heap.size w (Z2.setRow (w.heap.size + 3) #[.int .i64 x.k, .slice A5 x.v.length c5]) := below_setRow BX (by omega) _
       clear H9
       generalize Z2.setRow (w.heap.size + 3) #[.int .i64 x.k, .slice A5 x.v.length c5] = Z3 at *
       refine hK.out _ _ K2 (fun hHeld => ?_)
       clear hK K
       try simp only [getElem_toArray, getElem_cons_zero, getElem_cons_succ, Act.put, setIfInBounds_toArray, set_cons_zero, set_cons_succ]
       refine wpAnyH_take (i := 7) (v := .bool true) rfl (by kernel_rfl) (by kernel_rfl) (by kernel_rfl) (fun _ _ _ h => h) (.inl ⟨by first | rfl | go_simp, by intro u h; (try dsimp only at h); go_simp⟩) ‹_› ?_
       simp only [getElem_toArray, getElem_cons_zero, getElem_cons_succ, Act.put, setIfInBounds_toArray, set_cons_zero, set_cons_succ]
       refine wpAnyH_take (i := 8) (v := .bool true) rfl (by kernel_rfl) (by kernel_rfl) (by kernel_rfl) (fun _ _ _ h => h) (.inl ⟨by first | rfl | go_simp, by intro u h; (try dsimp only at h); go_simp⟩) ‹_› ?_
       simp only [getElem_toArray, getElem_cons_zero, getElem_cons_succ, Act.put, setIfInBounds_toArray, set_cons_zero, set_cons_succ]
       refine wpAnyH_done (by kernel_rfl) ?_ _
       go_wp2_with fail
       have MQ := HQ
       have MA := K3
       have MC := K4
       have MB := BX
       clear hHeld K3 K4 HQ
       refine bodyPost_ret (v := .tuple #[.agg #[.int .i64 bsn, .int .i64 (1 - bnesn), .slice A6 n6 c6, .bool bop, .bool bem, .int .i64 (back : Int), .int .i64 ((btak : Int) + 1)], .agg #[.int .i64 x.k, .slice A5 x.v.length c5], .bool true, .bool true]) ?_ rfl (by rw [HO.out]; exact ⟨_, LC, ⟨x.k, A5, c5, x.v⟩, rfl, MQ.less (by omega) (Nat.le_refl _), HLb.out, rfl, HX, MB⟩)
       have HLa := run_loadVar_row (P := Try.prog) Z3 (w.heap.size + 2) 43 43 #[.int .i64 bsn, .int .i64 (1 - bnesn), .slice A6 n6 c6, .bool bop, .bool bem, .int .i64 (back : Int), .int .i64 ((btak : Int) + 1)] (0, 0) _ MA Try.underlying43 rfl (by kernel_rfl)
       have HLb := run_loadVar_row (P := Try.prog) Z3 (w.heap.size + 3) 24 24 #[.int .i64 x.k, .slice A5 x.v.length c5] (0, 0) _ MC Try.underlying24 rfl (by kernel_rfl)
       generalize (#[.int .i64 bsn, .int .i64 (1 - bnesn), .slice A6 n6 c6, .bool bop, .bool bem, .int .i64 (back : Int), .int .i64 ((btak : Int) + 1)] : Array Value) = CS at *
       generalize (#[.int .i64 x.k, .slice A5 x.v.length c5] : Array Value) = CP at *
       simp [results, show (Try.f33).results = #[.cell 4 43, .cell 5 24, .slot 6, .slot 7] from rfl, asAddr, HLa, HLb, Act.put]
      ·
       go_simp
       refine (HP.out Z0 BX).mono ?_
       rintro e Z4 ⟨A5, c5, rfl, HX, b9⟩
       replace K2 := K2.below b9 K2.lt
       replace K3 := K3.below b9 K3.lt
       replace K4 := K4.below b9 K4.lt
       replace BX := thenB BX b9
       replace HQ := HQ.below b9
       clear b9
       refine hK.out _ _ K2 (fun hHeld => ?_)
       clear hK K
       try simp only [getElem_toArray, getElem_cons_zero, getElem_cons_succ, Act.put, setIfInBounds_toArray, set_cons_zero, set_cons_succ]
       refine wpAnyH_ready (rs := [0]) (by kernel_rfl) (by simp) ?_
       refine .cons rfl (fun K hK => ?_) .nil
       have c90 := K3.cell 0
       have c91 := K3.cell 1
       have c92 := K3.cell 2
       have c93 := K3.cell 3
       have c94 := K3.cell 4
       have c95 := K3.cell 5
       have c96 := K3.cell 6
       go_simp
       clear c90 c91 c92 c93 c94 c95 c96
       refine hK.out _ _ K2 (fun hHeld => ?_)
       clear hK K
       try simp only [getElem_toArray, getElem_cons_zero, getElem_cons_succ, Act.put, setIfInBounds_toArray, set_cons_zero, set_cons_succ]
       refine wpAnyH_ready (rs := [5]) (by kernel_rfl) (by simp) ?_
       refine .cons rfl (fun K hK => ?_) .nil
       have H9 : (#[.int .i64 bsn, .int .i64 (1 - bnesn), .slice A6 n6 c6, .bool bop, .bool bem, .int .i64 (back : Int), .int .i64 ((btak : Int) + 1)] : Array Value).all (·.oneCell') = true := by rw [← Array.all_toList]; rfl
       refine Av.step_store_row rfl 43 (.tmp 4) (.tmp 49) rfl (w.heap.size + 2) #[.int .i64 bsn, .int .i64 (1 - bnesn), .slice A6 n6 c6, .bool bop, .bool bem, .int .i64 (back : Int), .int .i64 ((btak : Int) + 1)] rfl rfl 43 _ K3 (by kernel_rfl) rfl H9 ?_
       replace HQ := HQ.step (stp_row K3 #[.int .i64 bsn, .int .i64 (1 - bnesn), .slice A6 n6 c6, .bool bop, .bool bem, .int .i64 (back : Int), .int .i64 ((btak : Int) + 1)]) (by decide) (by decide) (Nat.zero_le _)
       replace HX := HX.step (stp_row K3 #[.int .i64 bsn, .int .i64 (1 - bnesn), .slice A6 n6 c6, .bool bop, .bool bem, .int .i64 (back : Int), .int .i64 ((btak : Int) + 1)]) (by decide) (Nat.zero_le _)
       replace K2 : Blk (Z4.setRow (w.heap.size + 2) #[.int .i64 bsn, .int .i64 (1 - bnesn), .slice A6 n6 c6, .bool bop, .bool bem, .int .i64 (back : Int), .int .i64 ((btak : Int) + 1)]) (w.heap.size + 1) 26 #[.int .i64 psn, .int .i64 pnesn, .int .i64 pmd, .int .i64 x.k, .slice x.A x.v.length x.c] := Av.bother_row K2 (by omega)
       replace K3 : Blk (Z4.setRow (w.heap.size + 2) #[.int .i64 bsn, .int .i64 (1 - bnesn), .slice A6 n6 c6, .bool bop, .bool bem, .int .i64 (back : Int), .int .i64 ((btak : Int) + 1)]) (w.heap.size + 2) 43 #[.int .i64 bsn, .int .i64 (1 - bnesn), .slice A6 n6 c6, .bool bop, .bool bem, .int .i64 (back : Int), .int .i64 ((btak : Int) + 1)] := Av.bset_row K3
       replace K4 : Blk (Z4.setRow (w.heap.size + 2) #[.int .i64 bsn, .int .i64 (1 - bnesn), .slice A6 n6 c6, .bool bop, .bool bem, .int .i64 (back : Int), .int .i64 ((btak : Int) + 1)]) (w.heap.size + 3) 24 #[.int .i64 0, .slice none 0 0] := Av.bother_row K4 (by omega)
       replace BX : Below w.heap.size w (Z4.setRow (w.heap.size + 2) #[.int .i64 bsn, .int .i64 (1 - bnesn), .slice A6 n6 c6, .bool bop, .bool bem, .int .i64 (back : Int), .int .i64 ((btak : Int) + 1)]) := below_setRow BX (by omega) _
       clear H9
       generalize Z4.setRow (w.heap.size + 2) #[.int .i64 bsn, .int .i64 (1 - bnesn), .slice A6 n6 c6, .bool bop, .bool bem, .int .i64 (back : Int), .int .i64 ((btak : Int) + 1)] = Z5 at *
       refine hK.out _ _ K2 (fun hHeld => ?_)
       clear hK K
       try simp only [getElem_toArray, getElem_cons_zero, getElem_cons_succ, Act.put, setIfInBounds_toArray, set_cons_zero, set_cons_succ]
       refine wpAnyH_ready (rs := [6]) (by kernel_rfl) (by simp) ?_
       refine .cons rfl (fun K hK => ?_) .nil
       have H9 : (#[.int .i64 x.k, .slice A5 x.v.length c5] : Array Value).all (·.oneCell') = true := by rw [← Array.all_toList]; rfl
       refine Av.step_store_row rfl 24 (.tmp 5) (.tmp 52) rfl (w.heap.size + 3) #[.int .i64 x.k, .slice A5 x.v.length c5] rfl rfl 24 _ K4 (by kernel_rfl) rfl H9 ?_
       replace HQ := HQ.step_ne (stp_row K4 #[.int .i64 x.k, .slice A5 x.v.length c5]) (by decide) (fun h => by have := (HQ.2.2 _ h).1; omega) (Nat.zero_le _)
       replace HX := HX.step (stp_row K4 #[.int .i64 x.k, .slice A5 x.v.length c5]) (by decide) (Nat.zero_le _)
       replace K2 : Blk (Z5.setRow (w.heap.size + 3) #[.int .i64 x.k, .slice A5 x.v.length c5]) (w.heap.size + 1) 26 #[.int .i64 psn, .int .i64 pnesn, .int .i64 pmd, .int .i64 x.k, .slice x.A x.v.length x.c] := Av.bother_row K2 (by omega)
       replace K3 : Blk (Z5.setRow (w.heap.size + 3) #[.int .i64 x.k, .slice A5 x.v.length c5]) (w.heap.size + 2) 43 #[.int .i64 bsn, .int .i64 (1 - bnesn), .slice A6 n6 c6, .bool bop, .bool bem, .int .i64 (back : Int), .int .i64 ((btak : Int) + 1)] := Av.bother_row K3 (by omega)
       replace K4 : Blk (Z5.setRow (w.heap.size + 3) #[.int .i64 x.k, .slice A5 x.v.length c5]) (w.heap.size + 3) 24 #[.int .i64 x.k, .slice A5 x.v.length c5] := Av.bset_row K4
       replace BX : Below w.heap.size w (Z5.setRow (w.heap.size + 3) #[.int .i64 x.k, .slice A5 x.v.length c5]) := below_setRow BX (by omega) _
       clear H9
       generalize Z5.setRow (w.heap.size + 3) #[.int .i64 x.k, .slice A5 x.v.length c5] = Z6 at *
       refine hK.out _ _ K2 (fun hHeld => ?_)
       clear hK K
       try simp only [getElem_toArray, getElem_cons_zero, getElem_cons_succ, Act.put, setIfInBounds_toArray, set_cons_zero, set_cons_succ]
       refine wpAnyH_take (i := 7) (v := .bool true) rfl (by kernel_rfl) (by kernel_rfl) (by kernel_rfl) (fun _ _ _ h => h) (.inl ⟨by first | rfl | go_simp, by intro u h; (try dsimp only at h); go_simp⟩) ‹_› ?_
       simp only [getElem_toArray, getElem_cons_zero, getElem_cons_succ, Act.put, setIfInBounds_toArray, set_cons_zero, set_cons_succ]
       refine wpAnyH_take (i := 8) (v := .bool true) rfl (by kernel_rfl) (by kernel_rfl) (by kernel_rfl) (fun _ _ _ h => h) (.inl ⟨by first | rfl | go_simp, by intro u h; (try dsimp only at h); go_simp⟩) ‹_› ?_
       simp only [getElem_toArray, getElem_cons_zero, getElem_cons_succ, Act.put, setIfInBounds_toArray, set_cons_zero, set_cons_succ]
       refine wpAnyH_done (by kernel_rfl) ?_ _
       go_wp2_with fail
       have MQ := HQ
       have MA := K3
       have MC := K4
       have MB := BX
       clear hHeld K3 K4 HQ
       refine bodyPost_ret (v := .tuple #[.agg #[.int .i64 bsn, .int .i64 (1 - bnesn), .slice A6 n6 c6, .bool bop, .bool bem, .int .i64 (back : Int), .int .i64 ((btak : Int) + 1)], .agg #[.int .i64 x.k, .slice A5 x.v.length c5], .bool true, .bool true]) ?_ rfl (by rw [HO.out]; exact ⟨_, LC, ⟨x.k, A5, c5, x.v⟩, rfl, MQ.less (by omega) (Nat.le_refl _), HLb.out, rfl, HX, MB⟩)
       have HLa := run_loadVar_row (P := Try.prog) Z6 (w.heap.size + 2) 43 43 #[.int .i64 bsn, .int .i64 (1 - bnesn), .slice A6 n6 c6, .bool bop, .bool bem, .int .i64 (back : Int), .int .i64 ((btak : Int) + 1)] (0, 0) _ MA Try.underlying43 rfl (by kernel_rfl)
       have HLb := run_loadVar_row (P := Try.prog) Z6 (w.heap.size + 3) 24 24 #[.int .i64 x.k, .slice A5 x.v.length c5] (0, 0) _ MC Try.underlying24 rfl (by kernel_rfl)
       generalize (#[.int .i64 bsn, .int .i64 (1 - bnesn), .slice A6 n6 c6, .bool bop, .bool bem, .int .i64 (back : Int), .int .i64 ((btak : Int) + 1)] : Array Value) = CS at *
       generalize (#[.int .i64 x.k, .slice A5 x.v.length c5] : Array Value) = CP at *
       simp [results, show (Try.f33).results = #[.cell 4 43, .cell 5 24, .slot 6, .slot 7] from rfl, asAddr, HLa, HLb, Act.put]
    ·
     have gn : (psn != bnesn) = true := by simpa using hn
     have HO := Lib.hid (take_old hck.out hac.out hb1.out hn)
     clear hn
     go_upto_region 8 with (fail)
     clear q0 q1
     have H1 : (#[.int .i64 bsn, .int .i64 bnesn, .slice A6 n6 c6, .bool bop, .bool bem, .int .i64 (back : Int), .int .i64 (btak : Int)] : Array Value).all (·.oneCell') = true := by rw [← Array.all_toList]; rfl
     have H2 : (#[.int .i64 0, .slice none 0 0] : Array Value).all (·.oneCell') = true := by rw [← Array.all_toList]; rfl
     go_wp2_with (first | (refine wpList_store_row rfl 43 (.tmp 4) _ rfl (w.heap.size + 2) #[.int .i64 bsn, .int .i64 bnesn, .slice A6 n6 c6, .bool bop, .bool bem, .int .i64 (back : Int), .int .i64 (btak : Int)] rfl rfl 43 _ K3 (by kernel_rfl) rfl H1 ?_; have sA := stp_row K3 #[.int .i64 bsn, .int .i64 bnesn, .slice A6 n6 c6, .bool bop, .bool bem, .int .i64 (back : Int), .int .i64 (btak : Int)]; have M3 := Av.bset_row (cs' := #[.int .i64 bsn, .int .i64 bnesn, .slice A6 n6 c6, .bool bop, .bool bem, .int .i64 (back : Int), .int .i64 (btak : Int)]) K3; have M4 := Av.bother_row (cs' := #[.int .i64 bsn, .int .i64 bnesn, .slice A6 n6 c6, .bool bop, .bool bem, .int .i64 (back : Int), .int .i64 (btak : Int)]) (g' := w.heap.size + 2) K4 (by omega)) | (refine wpList_store_row rfl 24 (.tmp 5) _ rfl (w.heap.size + 3) #[.int .i64 0, .slice none 0 0] rfl rfl 24 _ M4 (by kernel_rfl) rfl H2 ?_) | (refine wpList_load_row rfl 43 (.tmp 4) rfl (w.heap.size + 2) rfl 43 _ (0, 0) _ K3 Try.underlying43 rfl (by kernel_rfl) ?_))
     have MQ := HQ.step sA (by decide) (by decide) (Nat.zero_le _)
     replace MQ := MQ.step_ne (stp_row M4 #[.int .i64 0, .slice none 0 0]) (by decide) (fun h => by have := (MQ.2.2 _ h).1; omega) (Nat.zero_le _)
     have MA := Av.bother_row (cs' := #[.int .i64 0, .slice none 0 0]) (g' := w.heap.size + 3) M3 (by omega)
     have MC := Av.bset_row (cs' := #[.int .i64 0, .slice none 0 0]) M4
     have MB : Below w.heap.size w ((W7.setRow (w.heap.size + 2) #[.int .i64 bsn, .int .i64 bnesn, .slice A6 n6 c6, .bool bop, .bool bem, .int .i64 (back : Int), .int .i64 (btak : Int)]).setRow (w.heap.size + 3) #[.int .i64 0, .slice none 0 0]) := below_setRow (below_setRow BX (by omega) #[.int .i64 bsn, .int .i64 bnesn, .slice A6 n6 c6, .bool bop, .bool bem, .int .i64 (back : Int), .int .i64 (btak : Int)]) (by omega) #[.int .i64 0, .slice none 0 0]
     clear sA M3 M4
     generalize (W7.setRow (w.heap.size + 2) #[.int .i64 bsn, .int .i64 bnesn, .slice A6 n6 c6, .bool bop, .bool bem, .int .i64 (back : Int), .int .i64 (btak : Int)]).setRow (w.heap.size + 3) #[.int .i64 0, .slice none 0 0] = Y at *
     refine bodyPost_ret (v := .tuple #[.agg #[.int .i64 bsn, .int .i64 bnesn, .slice A6 n6 c6, .bool bop, .bool bem, .int .i64 (back : Int), .int .i64 (btak : Int)], .agg #[.int .i64 0, .slice none 0 0], .bool false, .bool true]) ?_ rfl (by rw [HO.out]; exact ⟨_, LC, ⟨0, none, 0, []⟩, rfl, MQ.less (by omega) (Nat.le_refl _), HLb.out, rfl, pp_zero _ _ _, MB⟩)
     have HLa := run_loadVar_row (P := Try.prog) Y (w.heap.size + 2) 43 43 #[.int .i64 bsn, .int .i64 bnesn, .slice A6 n6 c6, .bool bop, .bool bem, .int .i64 (back : Int), .int .i64 (btak : Int)] (0, 0) _ MA Try.underlying43 rfl (by kernel_rfl)
     have HLb := run_loadVar_row (P := Try.prog) Y (w.heap.size + 3) 24 24 #[.int .i64 0, .slice none 0 0] (0, 0) _ MC Try.underlying24 rfl (by kernel_rfl)
     generalize (#[.int .i64 bsn, .int .i64 bnesn, .slice A6 n6 c6, .bool bop, .bool bem, .int .i64 (back : Int), .int .i64 (btak : Int)] : Array Value) = CS at *
     generalize (#[.int .i64 0, .slice none 0 0] : Array Value) = CP at *
     simp [results, show (Try.f33).results = #[.cell 4 43, .cell 5 24, .slot 6, .slot 7] from rfl, asAddr, HLa, HLb, Act.put]
 ·
  have g0 : (R != 0) = true := by simpa using h0
  have HO : Hid (takeR ⟨sn, nesn, q, op, em, ack, tak⟩ ⟨psn, pnesn, pmd, x.p⟩ = (⟨sn, nesn, q, op, em, ack, tak⟩, zeroK, false, false)) := Lib.hid (take_no (by rw [hck.out]; exact h0))
  clear h0
  go_upto_region 3 with (first | (go_at_call 14; refine (HK.out W2).mono ?_; rintro e W5 ⟨rfl, b9⟩; replace K2 := K2.below b9 K2.lt; replace K3 := K3.below b9 K3.lt; replace K4 := K4.below b9 K4.lt; replace HQ := HQ.below b9; replace BX := thenB BX b9; clear b9) | (refine wpList_load_row rfl 26 (.tmp 3) rfl (w.heap.size + 1) rfl 26 _ (0, 0) _ K2 Try.underlying26 rfl (by kernel_rfl) ?_))
  have H1 : (#[.int .i64 sn, .int .i64 nesn, .slice A n c, .bool op, .bool em, .int .i64 ack, .int .i64 tak] : Array Value).all (·.oneCell') = true := by rw [← Array.all_toList]; rfl
  have H2 : (#[.int .i64 0, .slice none 0 0] : Array Value).all (·.oneCell') = true := by rw [← Array.all_toList]; rfl
  go_wp2_with (first | (refine wpList_store_row rfl 43 (.tmp 4) _ rfl (w.heap.size + 2) #[.int .i64 sn, .int .i64 nesn, .slice A n c, .bool op, .bool em, .int .i64 ack, .int .i64 tak] rfl rfl 43 _ K3 (by kernel_rfl) rfl H1 ?_; have sA := stp_row K3 #[.int .i64 sn, .int .i64 nesn, .slice A n c, .bool op, .bool em, .int .i64 ack, .int .i64 tak]; have M3 := Av.bset_row (cs' := #[.int .i64 sn, .int .i64 nesn, .slice A n c, .bool op, .bool em, .int .i64 ack, .int .i64 tak]) K3; have M4 := Av.bother_row (cs' := #[.int .i64 sn, .int .i64 nesn, .slice A n c, .bool op, .bool em, .int .i64 ack, .int .i64 tak]) (g' := w.heap.size + 2) K4 (by omega)) | (refine wpList_store_row rfl 24 (.tmp 5) _ rfl (w.heap.size + 3) #[.int .i64 0, .slice none 0 0] rfl rfl 24 _ M4 (by kernel_rfl) rfl H2 ?_) | (refine wpList_load_row rfl 43 (.tmp 4) rfl (w.heap.size + 2) rfl 43 _ (0, 0) _ K3 Try.underlying43 rfl (by kernel_rfl) ?_))
  have MQ := HQ.step sA (by decide) (by decide) (Nat.zero_le _)
  replace MQ := MQ.step_ne (stp_row M4 #[.int .i64 0, .slice none 0 0]) (by decide) (fun h => by have := (MQ.2.2 _ h).1; omega) (Nat.zero_le _)
  have MA := Av.bother_row (cs' := #[.int .i64 0, .slice none 0 0]) (g' := w.heap.size + 3) M3 (by omega)
  have MC := Av.bset_row (cs' := #[.int .i64 0, .slice none 0 0]) M4
  have MB : Below w.heap.size w ((W5.setRow (w.heap.size + 2) #[.int .i64 sn, .int .i64 nesn, .slice A n c, .bool op, .bool em, .int .i64 ack, .int .i64 tak]).setRow (w.heap.size + 3) #[.int .i64 0, .slice none 0 0]) := below_setRow (below_setRow BX (by omega) #[.int .i64 sn, .int .i64 nesn, .slice A n c, .bool op, .bool em, .int .i64 ack, .int .i64 tak]) (by omega) #[.int .i64 0, .slice none 0 0]
  clear sA M3 M4
  generalize (W5.setRow (w.heap.size + 2) #[.int .i64 sn, .int .i64 nesn, .slice A n c, .bool op, .bool em, .int .i64 ack, .int .i64 tak]).setRow (w.heap.size + 3) #[.int .i64 0, .slice none 0 0] = Y at *
  refine bodyPost_ret (v := .tuple #[.agg #[.int .i64 sn, .int .i64 nesn, .slice A n c, .bool op, .bool em, .int .i64 ack, .int .i64 tak], .agg #[.int .i64 0, .slice none 0 0], .bool false, .bool false]) ?_ rfl (by rw [HO.out]; exact ⟨_, LB, ⟨0, none, 0, []⟩, rfl, MQ.less (by omega) (Nat.le_refl _), HLb.out, rfl, pp_zero _ _ _, MB⟩)
  have HLa := run_loadVar_row (P := Try.prog) Y (w.heap.size + 2) 43 43 #[.int .i64 sn, .int .i64 nesn, .slice A n c, .bool op, .bool em, .int .i64 ack, .int .i64 tak] (0, 0) _ MA Try.underlying43 rfl (by kernel_rfl)
  have HLb := run_loadVar_row (P := Try.prog) Y (w.heap.size + 3) 24 24 #[.int .i64 0, .slice none 0 0] (0, 0) _ MC Try.underlying24 rfl (by kernel_rfl)
  generalize (#[.int .i64 sn, .int .i64 nesn, .slice A n c, .bool op, .bool em, .int .i64 ack, .int .i64 tak] : Array Value) = CS at *
  generalize (#[.int .i64 0, .slice none 0 0] : Array Value) = CP at *
  simp [results, show (Try.f33).results = #[.cell 4 43, .cell 5 24, .slot 6, .slot 7] from rfl, asAddr, HLa, HLb, Act.put]
theorem take_any (s : Sd) (V : Value) (l : List Pm) (p : Dm) (w : World) (hn : l.length ≤ 1000000) (hs : Bit s) (hca : s.ack ≤ 1000) (hct : s.tak ≤ 1000) (hqi : QI w V l) (hl : l.map Pm.p = s.q) (hx : GP w p.x) :
  Calls Try.prog 33 #[.agg (acel s V), .agg #[.int .i64 p.sn, .int .i64 p.nesn, .int .i64 p.md, .int .i64 p.x.k, .slice p.x.A p.x.v.length p.x.c]] w fun e w' => Took w w' e (takeR s p.p) :=
 take_core s.sn s.nesn s.q s.op s.em s.ack s.tak V l p.sn p.nesn p.md p.x w hn hs.1 hs.2 hca hct hqi hl hx
end Go.Proofs.Ytbnfjielnamepaa.Arq
