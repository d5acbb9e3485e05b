/- Advertisers: requests that are answered, by the layer: contracts over the program. -/
import Derived.Test.YtcbliliinmfnjaaDoorKAvFire1
set_option linter.unusedVariables false
set_option linter.unusedSimpArgs false
namespace Go.Proofs.YtcbliliinmfnjaaDoor.Av
open Go.RowKit Mem Oct Rw Ap Ace Prv
open Base (thenB)

/-- What Answer returns. -/
def AnsR (w w' : World) (e : Ending) (a : Ad) (l : List Sd) (b : Bool) : Prop := ∃ VD VS VA VI V, e = .returned (.tuple #[.agg (vcel a VD VS VA VI), V, .bool b]) ∧ Has w' w.heap.size a.p VD VS VA VI ∧ Snds w' w.heap.size V l ∧ Below w.heap.size w w'
theorem ans_no {a : Ad} {q : Pd} {ch l : Int} (h : meantB a q ch = false ∨ (scanB a.p q = false ∧ connB a.p q = false)) : ansA a q ch = a ∧ ansS a q ch l = [] ∧ ansB a q ch = false := by
  unfold ansA ansS ansB
  rcases h with h | ⟨h1, h2⟩
  · simp [h]
  · simp [h1, h2]
theorem ans_scan {a : Ad} {q : Pd} {ch l : Int} (h : meantB a q ch = true) (h1 : scanB a.p q = true) : ansA a q ch = a ∧ ansS a q ch l = [⟨ch, plc l + 150, ansP a.p⟩] ∧ ansB a q ch = false := by
  unfold ansA ansS ansB
  simp [h, h1]
theorem ans_conn {a : Ad} {q : Pd} {ch l : Int} (h : meantB a q ch = true) (h1 : scanB a.p q = false) (h2 : connB a.p q = true) : ansA a q ch = { a with on := false } ∧ ansS a q ch l = [] ∧ ansB a q ch = true := by
  unfold ansA ansS ansB
  simp [h, h1, h2]
theorem eqA_dec (a b c d : Int) : eqA (a, b) (c, d) = decide (a = c ∧ b = d) := by
  unfold eqA
  by_cases h1 : a = c <;> by_cases h2 : b = d <;> simp [h1, h2]
theorem wpList_on {P : Program} {ops : Array Oper} {rest : List Oper} {o : Oper} {a : Act} {w : World} {Q : Exit → Act → World → Prop} (hw : Region.wanted o (yielded ops a.tmps) = true) (h : wpList P ops Q ({ o with guard := none } :: rest) a w) : wpList P ops Q (o :: rest) a w := by
  simp only [wpList, hw, if_true] at h ⊢
  exact h
set_option maxRecDepth 100000 in
set_option maxHeartbeats 4000000 in
theorem answer_any (a : Ad) (VD VS VA VI : Value) (q : Pd) (VQ : Value) (ch l : Int) (m : Nat) (w : World) (hW : PW a.p) (hH : Has w m a.p VD VS VA VI) (hQ : Wid q) (hR : Row w 0 VQ q.ds.length (q.ds.map (Value.int .u8))) (hT : Adr.Tab w) :
    Calls Tryd.prog 23 #[.agg (vcel a VD VS VA VI), .agg (cel q VQ), .int .i64 ch, .int .i64 l] w fun e w' => AnsR w w' e (ansA a q ch) (ansS a q ch l) (ansB a q ch) := by
  obtain ⟨p, on, ev, nx⟩ := a
  simp only at hW hH
  have oVQ := hR.one
  have BX : Below w.heap.size w (((w.alloc (.cells #[.int .i64 p.k, .int .i64 p.it, .int .i64 p.ok, .int .u64 p.ob, .int .i64 p.tk, .int .u64 p.tb, VD, VS, .int .i64 p.po, VA, VI, .int .u64 p.sd, .bool on, .int .i64 ev, .int .i64 nx] 33)).alloc (.cells #[.int .i64 q.k, .int .i64 q.sk, .int .u64 q.sb, .int .i64 q.tk, .int .u64 q.tb, VQ, .int .u32 q.a, .int .u32 q.b, .int .i64 q.s, .int .i64 q.o, .int .i64 q.i, .int .i64 q.l, .int .i64 q.t, .int .u64 (q.m : Int), .int .i64 q.h, .int .i64 q.d, .int .i64 q.g] 52)).alloc (.cells #[.int .i64 0, .int .i64 0, .int .i64 0, .int .u64 0, .int .i64 0, .int .u64 0, .slice none 0 0, .slice none 0 0, .int .i64 0, .slice none 0 0, .slice none 0 0, .int .u64 0, .bool false, .int .i64 0, .int .i64 0] 33)) := (((Below.refl _ _).alloc (Nat.le_refl _) _).alloc (by simp) _).alloc (by simp; omega) _
  have K4 : Blk (((w.alloc (.cells #[.int .i64 p.k, .int .i64 p.it, .int .i64 p.ok, .int .u64 p.ob, .int .i64 p.tk, .int .u64 p.tb, VD, VS, .int .i64 p.po, VA, VI, .int .u64 p.sd, .bool on, .int .i64 ev, .int .i64 nx] 33)).alloc (.cells #[.int .i64 q.k, .int .i64 q.sk, .int .u64 q.sb, .int .i64 q.tk, .int .u64 q.tb, VQ, .int .u32 q.a, .int .u32 q.b, .int .i64 q.s, .int .i64 q.o, .int .i64 q.i, .int .i64 q.l, .int .i64 q.t, .int .u64 (q.m : Int), .int .i64 q.h, .int .i64 q.d, .int .i64 q.g] 52)).alloc (.cells #[.int .i64 0, .int .i64 0, .int .i64 0, .int .u64 0, .int .i64 0, .int .u64 0, .slice none 0 0, .slice none 0 0, .int .i64 0, .slice none 0 0, .slice none 0 0, .int .u64 0, .bool false, .int .i64 0, .int .i64 0] 33)) (w.heap.size) 33 #[.int .i64 p.k, .int .i64 p.it, .int .i64 p.ok, .int .u64 p.ob, .int .i64 p.tk, .int .u64 p.tb, VD, VS, .int .i64 p.po, VA, VI, .int .u64 p.sd, .bool on, .int .i64 ev, .int .i64 nx] := ((Blk.fresh w 33 #[.int .i64 p.k, .int .i64 p.it, .int .i64 p.ok, .int .u64 p.ob, .int .i64 p.tk, .int .u64 p.tb, VD, VS, .int .i64 p.po, VA, VI, .int .u64 p.sd, .bool on, .int .i64 ev, .int .i64 nx]).alloc _).alloc _
  have K5 : Blk (((w.alloc (.cells #[.int .i64 p.k, .int .i64 p.it, .int .i64 p.ok, .int .u64 p.ob, .int .i64 p.tk, .int .u64 p.tb, VD, VS, .int .i64 p.po, VA, VI, .int .u64 p.sd, .bool on, .int .i64 ev, .int .i64 nx] 33)).alloc (.cells #[.int .i64 q.k, .int .i64 q.sk, .int .u64 q.sb, .int .i64 q.tk, .int .u64 q.tb, VQ, .int .u32 q.a, .int .u32 q.b, .int .i64 q.s, .int .i64 q.o, .int .i64 q.i, .int .i64 q.l, .int .i64 q.t, .int .u64 (q.m : Int), .int .i64 q.h, .int .i64 q.d, .int .i64 q.g] 52)).alloc (.cells #[.int .i64 0, .int .i64 0, .int .i64 0, .int .u64 0, .int .i64 0, .int .u64 0, .slice none 0 0, .slice none 0 0, .int .i64 0, .slice none 0 0, .slice none 0 0, .int .u64 0, .bool false, .int .i64 0, .int .i64 0] 33)) (w.heap.size + 1) 52 #[.int .i64 q.k, .int .i64 q.sk, .int .u64 q.sb, .int .i64 q.tk, .int .u64 q.tb, VQ, .int .u32 q.a, .int .u32 q.b, .int .i64 q.s, .int .i64 q.o, .int .i64 q.i, .int .i64 q.l, .int .i64 q.t, .int .u64 (q.m : Int), .int .i64 q.h, .int .i64 q.d, .int .i64 q.g] := (Av.Blk.next).alloc _
  have K8 : Blk (((w.alloc (.cells #[.int .i64 p.k, .int .i64 p.it, .int .i64 p.ok, .int .u64 p.ob, .int .i64 p.tk, .int .u64 p.tb, VD, VS, .int .i64 p.po, VA, VI, .int .u64 p.sd, .bool on, .int .i64 ev, .int .i64 nx] 33)).alloc (.cells #[.int .i64 q.k, .int .i64 q.sk, .int .u64 q.sb, .int .i64 q.tk, .int .u64 q.tb, VQ, .int .u32 q.a, .int .u32 q.b, .int .i64 q.s, .int .i64 q.o, .int .i64 q.i, .int .i64 q.l, .int .i64 q.t, .int .u64 (q.m : Int), .int .i64 q.h, .int .i64 q.d, .int .i64 q.g] 52)).alloc (.cells #[.int .i64 0, .int .i64 0, .int .i64 0, .int .u64 0, .int .i64 0, .int .u64 0, .slice none 0 0, .slice none 0 0, .int .i64 0, .slice none 0 0, .slice none 0 0, .int .u64 0, .bool false, .int .i64 0, .int .i64 0] 33)) (w.heap.size + 2) 33 #[.int .i64 0, .int .i64 0, .int .i64 0, .int .u64 0, .int .i64 0, .int .u64 0, .slice none 0 0, .slice none 0 0, .int .i64 0, .slice none 0 0, .slice none 0 0, .int .u64 0, .bool false, .int .i64 0, .int .i64 0] := by
    have := Blk.fresh ((w.alloc (.cells #[.int .i64 p.k, .int .i64 p.it, .int .i64 p.ok, .int .u64 p.ob, .int .i64 p.tk, .int .u64 p.tb, VD, VS, .int .i64 p.po, VA, VI, .int .u64 p.sd, .bool on, .int .i64 ev, .int .i64 nx] 33)).alloc (.cells #[.int .i64 q.k, .int .i64 q.sk, .int .u64 q.sb, .int .i64 q.tk, .int .u64 q.tb, VQ, .int .u32 q.a, .int .u32 q.b, .int .i64 q.s, .int .i64 q.o, .int .i64 q.i, .int .i64 q.l, .int .i64 q.t, .int .u64 (q.m : Int), .int .i64 q.h, .int .i64 q.d, .int .i64 q.g] 52)) 33 #[.int .i64 0, .int .i64 0, .int .i64 0, .int .u64 0, .int .i64 0, .int .u64 0, .slice none 0 0, .slice none 0 0, .int .i64 0, .slice none 0 0, .slice none 0 0, .int .u64 0, .bool false, .int .i64 0, .int .i64 0]
    simpa using this
  have HC : Hid (∀ X, Below w.heap.size w X → Calls Tryd.prog 41 #[.agg #[.int .i64 p.k, .int .i64 p.it, .int .i64 p.ok, .int .u64 p.ob, .int .i64 p.tk, .int .u64 p.tb, VD, VS, .int .i64 p.po, VA, VI, .int .u64 p.sd, .bool on, .int .i64 ev, .int .i64 nx]] X fun e w' => AdvR X w' e ⟨p, on, ev, nx⟩) := Lib.hid fun X b => copied_any ⟨p, on, ev, nx⟩ _ _ _ _ m X hW (hH.below b)
  have HM := Lib.hid (fun X => moment_any l X)
  have HAd := Lib.hid (fun X => adv_any ch X)
  have HK : Hid (∀ X, Below w.heap.size w X → Calls Tryd.prog 54 #[.agg #[.int .i64 q.k, .int .i64 q.sk, .int .u64 q.sb, .int .i64 q.tk, .int .u64 q.tb, VQ, .int .u32 q.a, .int .u32 q.b, .int .i64 q.s, .int .i64 q.o, .int .i64 q.i, .int .i64 q.l, .int .i64 q.t, .int .u64 (q.m : Int), .int .i64 q.h, .int .i64 q.d, .int .i64 q.g]] X fun e w' => e = .returned (.int .i64 (chkP q)) ∧ Below X.heap.size X w') := Lib.hid fun X b => chk_call q VQ 0 X hQ (hR.below b) (hT.below b)
  have HSc : Hid (∀ X U1 U2 U3 U4 mm, Below w.heap.size w X → Has X mm p U1 U2 U3 U4 → Calls Tryd.prog 55 #[.agg (pcel p U1 U2 U3 U4), .agg #[.int .i64 q.sk, .int .u64 q.sb]] X fun e w' => e = .returned (.bool (scnB p.k && allowZ p.po 3 (hasB p.ac p.ids (q.sk, q.sb)))) ∧ Below X.heap.size X w') := Lib.hid fun X U1 U2 U3 U4 mm b h => ascan_any p U1 U2 U3 U4 q.sk q.sb mm X hW h hQ.hsk hQ.hsb (hT.below b)
  have HCn : Hid (∀ X U1 U2 U3 U4 mm, Below w.heap.size w X → Has X mm p U1 U2 U3 U4 → Calls Tryd.prog 57 #[.agg (pcel p U1 U2 U3 U4), .agg #[.int .i64 q.sk, .int .u64 q.sb]] X fun e w' => e = .returned (.bool (accB p q)) ∧ Below X.heap.size X w') := Lib.hid fun X U1 U2 U3 U4 mm b h => aconn_any p U1 U2 U3 U4 q.sk q.sb mm X hW h hQ.hsk hQ.hsb (hT.below b)
  have HSA : Hid (∀ X U1 U2 U3 U4 mm, Has X mm p U1 U2 U3 U4 → Calls Tryd.prog 56 #[.agg (pcel p U1 U2 U3 U4)] X fun e w' => ∃ V, e = .returned (.agg #[.int .i64 4, .int .i64 p.ok, .int .u64 p.ob, .int .i64 0, .int .u64 0, V, .int .u32 0, .int .u32 0, .int .i64 0, .int .i64 0, .int .i64 0, .int .i64 0, .int .i64 0, .int .u64 0, .int .i64 0, .int .i64 0, .int .i64 0]) ∧ Row w' X.heap.size V p.sc.length (p.sc.map (Value.int .u8)) ∧ Below X.heap.size X w') := Lib.hid fun X U1 U2 U3 U4 mm h => scanAnswer_any p U1 U2 U3 U4 mm X hW h
  have hpl := plc_bd l
  have HN := Lib.hid (fun h => @ans_no ⟨p, on, ev, nx⟩ q ch l h)
  have HYs := Lib.hid (fun h h1 => @ans_scan ⟨p, on, ev, nx⟩ q ch l h h1)
  have HYc := Lib.hid (fun h h1 h2 => @ans_conn ⟨p, on, ev, nx⟩ q ch l h h1 h2)
  have HMe : Hid (meantB ⟨p, on, ev, nx⟩ q ch = (on && advB ch && decide (chkP q = 0) && decide (q.tk = p.ok ∧ q.tb = p.ob))) := Lib.hid (by rw [← eqA_dec]; rfl)
  have HsB : Hid (scanB p q = (q.k == 3 && (scnB p.k && allowZ p.po 3 (hasB p.ac p.ids (q.sk, q.sb))))) := Lib.hid rfl
  have HcB : Hid (connB p q = (q.k == 5 && accB p q)) := Lib.hid rfl
  simp only at HN HYs HYc
  generalize ansA ⟨p, on, ev, nx⟩ q ch = RA at *
  generalize ansS ⟨p, on, ev, nx⟩ q ch l = RS at *
  generalize ansB ⟨p, on, ev, nx⟩ q ch = RB at *
  generalize meantB ⟨p, on, ev, nx⟩ q ch = ME at *
  generalize scanB p q = SB at *
  generalize connB p q = CB at *
  generalize (scnB p.k && allowZ p.po 3 (hasB p.ac p.ids (q.sk, q.sb))) = S2 at *
  generalize accB p q = C2 at *
  generalize chkP q = E at *
  generalize advB ch = AB at *
  generalize plc l = L at *
  have q1 := adr_neq q.tk q.tb p.ok p.ob
  have q2 := adr_ng q.tk q.tb p.ok p.ob
  clear hW hH hQ hR hT
  go_enter Tryd.func23, Tryd.ntmps23
  go_wp2_with (refine wpList_load_row rfl 33 (.tmp 4) rfl (w.heap.size) rfl 33 _ (0, 0) _ K4 Tryd.underlying33 rfl (by kernel_rfl) ?_)
  generalize ((w.alloc (.cells #[.int .i64 p.k, .int .i64 p.it, .int .i64 p.ok, .int .u64 p.ob, .int .i64 p.tk, .int .u64 p.tb, VD, VS, .int .i64 p.po, VA, VI, .int .u64 p.sd, .bool on, .int .i64 ev, .int .i64 nx] 33)).alloc (.cells #[.int .i64 q.k, .int .i64 q.sk, .int .u64 q.sb, .int .i64 q.tk, .int .u64 q.tb, VQ, .int .u32 q.a, .int .u32 q.b, .int .i64 q.s, .int .i64 q.o, .int .i64 q.i, .int .i64 q.l, .int .i64 q.t, .int .u64 (q.m : Int), .int .i64 q.h, .int .i64 q.d, .int .i64 q.g] 52)).alloc (.cells #[.int .i64 0, .int .i64 0, .int .i64 0, .int .u64 0, .int .i64 0, .int .u64 0, .slice none 0 0, .slice none 0 0, .int .i64 0, .slice none 0 0, .slice none 0 0, .int .u64 0, .bool false, .int .i64 0, .int .i64 0] 33) = W0 at *
  refine (HC.out W0 BX).mono ?_
  rintro e W1 ⟨V1, V2, V3, V4, rfl, HS, b1⟩
  replace HS := HS.less (show w.heap.size + 3 ≤ W0.heap.size from K8.lt)
  replace BX := thenB BX b1
  replace K4 := K4.below b1 K4.lt
  replace K5 := K5.below b1 K5.lt
  replace K8 := K8.below b1 K8.lt
  clear b1 HC
  have H1 : (#[.int .i64 p.k, .int .i64 p.it, .int .i64 p.ok, .int .u64 p.ob, .int .i64 p.tk, .int .u64 p.tb, V1, V2, .int .i64 p.po, V3, V4, .int .u64 p.sd, .bool on, .int .i64 ev, .int .i64 nx] : Array Value).all (·.oneCell') = true := HS.one ⟨p, on, ev, nx⟩
  go_upto_region 2 with (refine wpList_store_row rfl 33 (.tmp 4) _ rfl (w.heap.size) #[.int .i64 p.k, .int .i64 p.it, .int .i64 p.ok, .int .u64 p.ob, .int .i64 p.tk, .int .u64 p.tb, V1, V2, .int .i64 p.po, V3, V4, .int .u64 p.sd, .bool on, .int .i64 ev, .int .i64 nx] rfl rfl 33 _ K4 (by kernel_rfl) rfl H1 ?_)
  replace K5 : Blk (W1.setRow (w.heap.size) #[.int .i64 p.k, .int .i64 p.it, .int .i64 p.ok, .int .u64 p.ob, .int .i64 p.tk, .int .u64 p.tb, V1, V2, .int .i64 p.po, V3, V4, .int .u64 p.sd, .bool on, .int .i64 ev, .int .i64 nx]) (w.heap.size + 1) 52 #[.int .i64 q.k, .int .i64 q.sk, .int .u64 q.sb, .int .i64 q.tk, .int .u64 q.tb, VQ, .int .u32 q.a, .int .u32 q.b, .int .i64 q.s, .int .i64 q.o, .int .i64 q.i, .int .i64 q.l, .int .i64 q.t, .int .u64 (q.m : Int), .int .i64 q.h, .int .i64 q.d, .int .i64 q.g] := bother_row K5 (by omega)
  replace K8 : Blk (W1.setRow (w.heap.size) #[.int .i64 p.k, .int .i64 p.it, .int .i64 p.ok, .int .u64 p.ob, .int .i64 p.tk, .int .u64 p.tb, V1, V2, .int .i64 p.po, V3, V4, .int .u64 p.sd, .bool on, .int .i64 ev, .int .i64 nx]) (w.heap.size + 2) 33 #[.int .i64 0, .int .i64 0, .int .i64 0, .int .u64 0, .int .i64 0, .int .u64 0, .slice none 0 0, .slice none 0 0, .int .i64 0, .slice none 0 0, .slice none 0 0, .int .u64 0, .bool false, .int .i64 0, .int .i64 0] := bother_row K8 (by omega)
  replace K4 : Blk (W1.setRow (w.heap.size) #[.int .i64 p.k, .int .i64 p.it, .int .i64 p.ok, .int .u64 p.ob, .int .i64 p.tk, .int .u64 p.tb, V1, V2, .int .i64 p.po, V3, V4, .int .u64 p.sd, .bool on, .int .i64 ev, .int .i64 nx]) (w.heap.size) 33 #[.int .i64 p.k, .int .i64 p.it, .int .i64 p.ok, .int .u64 p.ob, .int .i64 p.tk, .int .u64 p.tb, V1, V2, .int .i64 p.po, V3, V4, .int .u64 p.sd, .bool on, .int .i64 ev, .int .i64 nx] := bset_row K4
  replace BX := below_setRow BX (Nat.le_refl _) #[.int .i64 p.k, .int .i64 p.it, .int .i64 p.ok, .int .u64 p.ob, .int .i64 p.tk, .int .u64 p.tb, V1, V2, .int .i64 p.po, V3, V4, .int .u64 p.sd, .bool on, .int .i64 ev, .int .i64 nx]
  replace HS := HS.farR (g := w.heap.size) (cs := #[.int .i64 p.k, .int .i64 p.it, .int .i64 p.ok, .int .u64 p.ob, .int .i64 p.tk, .int .u64 p.tb, V1, V2, .int .i64 p.po, V3, V4, .int .u64 p.sd, .bool on, .int .i64 ev, .int .i64 nx]) (by omega)
  generalize W1.setRow (w.heap.size) #[.int .i64 p.k, .int .i64 p.it, .int .i64 p.ok, .int .u64 p.ob, .int .i64 p.tk, .int .u64 p.tb, V1, V2, .int .i64 p.po, V3, V4, .int .u64 p.sd, .bool on, .int .i64 ev, .int .i64 nx] = W2 at *
  have oV1 := HS.d.one
  have oV2 := HS.s.one
  have oV3 := HS.a.one
  have oV4 := HS.i.one
  have c12 := K4.cell 12
  cases on with
  | false =>
    have HQ := Lib.hid (HN.out (.inl (by rw [HMe.out]; rfl)))
    go_wp2_with (first | (refine wpList_store_row rfl 33 (.tmp 8) _ rfl (w.heap.size + 2) #[.int .i64 p.k, .int .i64 p.it, .int .i64 p.ok, .int .u64 p.ob, .int .i64 p.tk, .int .u64 p.tb, V1, V2, .int .i64 p.po, V3, V4, .int .u64 p.sd, .bool false, .int .i64 ev, .int .i64 nx] rfl rfl 33 _ K8 (by kernel_rfl) rfl H1 ?_) | (refine wpList_load_row rfl 33 (.tmp 4) rfl w.heap.size rfl 33 _ (0, 0) _ K4 Tryd.underlying33 rfl (by kernel_rfl) ?_))
    have KR : Blk (W2.setRow (w.heap.size + 2) #[.int .i64 p.k, .int .i64 p.it, .int .i64 p.ok, .int .u64 p.ob, .int .i64 p.tk, .int .u64 p.tb, V1, V2, .int .i64 p.po, V3, V4, .int .u64 p.sd, .bool false, .int .i64 ev, .int .i64 nx]) (w.heap.size + 2) 33 #[.int .i64 p.k, .int .i64 p.it, .int .i64 p.ok, .int .u64 p.ob, .int .i64 p.tk, .int .u64 p.tb, V1, V2, .int .i64 p.po, V3, V4, .int .u64 p.sd, .bool false, .int .i64 ev, .int .i64 nx] := bset_row K8
    have BE := below_setRow BX (show w.heap.size ≤ w.heap.size + 2 by omega) #[.int .i64 p.k, .int .i64 p.it, .int .i64 p.ok, .int .u64 p.ob, .int .i64 p.tk, .int .u64 p.tb, V1, V2, .int .i64 p.po, V3, V4, .int .u64 p.sd, .bool false, .int .i64 ev, .int .i64 nx]
    have HE := HS.farR (g := w.heap.size + 2) (cs := #[.int .i64 p.k, .int .i64 p.it, .int .i64 p.ok, .int .u64 p.ob, .int .i64 p.tk, .int .u64 p.tb, V1, V2, .int .i64 p.po, V3, V4, .int .u64 p.sd, .bool false, .int .i64 ev, .int .i64 nx]) (by omega)
    generalize W2.setRow (w.heap.size + 2) #[.int .i64 p.k, .int .i64 p.it, .int .i64 p.ok, .int .u64 p.ob, .int .i64 p.tk, .int .u64 p.tb, V1, V2, .int .i64 p.po, V3, V4, .int .u64 p.sd, .bool false, .int .i64 ev, .int .i64 nx] = Y at *
    refine bodyPost_ret (v := .tuple #[.agg #[.int .i64 p.k, .int .i64 p.it, .int .i64 p.ok, .int .u64 p.ob, .int .i64 p.tk, .int .u64 p.tb, V1, V2, .int .i64 p.po, V3, V4, .int .u64 p.sd, .bool false, .int .i64 ev, .int .i64 nx], .slice none 0 0, .bool false]) ?_ rfl ⟨V1, V2, V3, V4, .slice none 0 0, by rw [HQ.out.1, HQ.out.2.2], by rw [HQ.out.1]; exact HE.less (by omega), by rw [HQ.out.2.1]; exact Snds.nil _ _, BE⟩
    have HL := run_loadVar_row (P := Tryd.prog) Y (w.heap.size + 2) 33 33 #[.int .i64 p.k, .int .i64 p.it, .int .i64 p.ok, .int .u64 p.ob, .int .i64 p.tk, .int .u64 p.tb, V1, V2, .int .i64 p.po, V3, V4, .int .u64 p.sd, .bool false, .int .i64 ev, .int .i64 nx] (0, 0) _ KR Tryd.underlying33 rfl (by kernel_rfl)
    generalize (#[.int .i64 p.k, .int .i64 p.it, .int .i64 p.ok, .int .u64 p.ob, .int .i64 p.tk, .int .u64 p.tb, V1, V2, .int .i64 p.po, V3, V4, .int .u64 p.sd, .bool false, .int .i64 ev, .int .i64 nx] : Array Value) = CS at *
    simp [results, show (Tryd.f23).results = #[.cell 8 33, .slot 9, .slot 10] from rfl, asAddr, HL, Act.put]
  | true =>
  go_wp2_with fail
  refine (HAd.out _).mono ?_
  rintro e w2 ⟨rfl, rfl⟩
  cases AB with
  | false =>
    have HQ := Lib.hid (HN.out (.inl (by rw [HMe.out]; rfl)))
    go_wp2_with (first | (refine wpList_store_row rfl 33 (.tmp 8) _ rfl (w.heap.size + 2) #[.int .i64 p.k, .int .i64 p.it, .int .i64 p.ok, .int .u64 p.ob, .int .i64 p.tk, .int .u64 p.tb, V1, V2, .int .i64 p.po, V3, V4, .int .u64 p.sd, .bool true, .int .i64 ev, .int .i64 nx] rfl rfl 33 _ K8 (by kernel_rfl) rfl H1 ?_) | (refine wpList_load_row rfl 33 (.tmp 4) rfl w.heap.size rfl 33 _ (0, 0) _ K4 Tryd.underlying33 rfl (by kernel_rfl) ?_))
    have KR : Blk (W2.setRow (w.heap.size + 2) #[.int .i64 p.k, .int .i64 p.it, .int .i64 p.ok, .int .u64 p.ob, .int .i64 p.tk, .int .u64 p.tb, V1, V2, .int .i64 p.po, V3, V4, .int .u64 p.sd, .bool true, .int .i64 ev, .int .i64 nx]) (w.heap.size + 2) 33 #[.int .i64 p.k, .int .i64 p.it, .int .i64 p.ok, .int .u64 p.ob, .int .i64 p.tk, .int .u64 p.tb, V1, V2, .int .i64 p.po, V3, V4, .int .u64 p.sd, .bool true, .int .i64 ev, .int .i64 nx] := bset_row K8
    have BE := below_setRow BX (show w.heap.size ≤ w.heap.size + 2 by omega) #[.int .i64 p.k, .int .i64 p.it, .int .i64 p.ok, .int .u64 p.ob, .int .i64 p.tk, .int .u64 p.tb, V1, V2, .int .i64 p.po, V3, V4, .int .u64 p.sd, .bool true, .int .i64 ev, .int .i64 nx]
    have HE := HS.farR (g := w.heap.size + 2) (cs := #[.int .i64 p.k, .int .i64 p.it, .int .i64 p.ok, .int .u64 p.ob, .int .i64 p.tk, .int .u64 p.tb, V1, V2, .int .i64 p.po, V3, V4, .int .u64 p.sd, .bool true, .int .i64 ev, .int .i64 nx]) (by omega)
    generalize W2.setRow (w.heap.size + 2) #[.int .i64 p.k, .int .i64 p.it, .int .i64 p.ok, .int .u64 p.ob, .int .i64 p.tk, .int .u64 p.tb, V1, V2, .int .i64 p.po, V3, V4, .int .u64 p.sd, .bool true, .int .i64 ev, .int .i64 nx] = Y at *
    refine bodyPost_ret (v := .tuple #[.agg #[.int .i64 p.k, .int .i64 p.it, .int .i64 p.ok, .int .u64 p.ob, .int .i64 p.tk, .int .u64 p.tb, V1, V2, .int .i64 p.po, V3, V4, .int .u64 p.sd, .bool true, .int .i64 ev, .int .i64 nx], .slice none 0 0, .bool false]) ?_ rfl ⟨V1, V2, V3, V4, .slice none 0 0, by rw [HQ.out.1, HQ.out.2.2], by rw [HQ.out.1]; exact HE.less (by omega), by rw [HQ.out.2.1]; exact Snds.nil _ _, BE⟩
    have HL := run_loadVar_row (P := Tryd.prog) Y (w.heap.size + 2) 33 33 #[.int .i64 p.k, .int .i64 p.it, .int .i64 p.ok, .int .u64 p.ob, .int .i64 p.tk, .int .u64 p.tb, V1, V2, .int .i64 p.po, V3, V4, .int .u64 p.sd, .bool true, .int .i64 ev, .int .i64 nx] (0, 0) _ KR Tryd.underlying33 rfl (by kernel_rfl)
    generalize (#[.int .i64 p.k, .int .i64 p.it, .int .i64 p.ok, .int .u64 p.ob, .int .i64 p.tk, .int .u64 p.tb, V1, V2, .int .i64 p.po, V3, V4, .int .u64 p.sd, .bool true, .int .i64 ev, .int .i64 nx] : Array Value) = CS at *
    simp [results, show (Tryd.f23).results = #[.cell 8 33, .slot 9, .slot 10] from rfl, asAddr, HL, Act.put]
  | true =>
  go_wp2_with (refine wpList_on (by rfl) (wpList_load_row rfl 52 (.tmp 5) rfl (w.heap.size + 1) rfl 52 _ (0, 0) _ K5 Tryd.underlying52 rfl (by kernel_rfl) ?_))
  refine (HK.out _ BX).mono ?_
  rintro e W3 ⟨rfl, b3⟩
  replace BX := thenB BX b3
  replace K4 := K4.below b3 K4.lt
  replace K5 := K5.below b3 K5.lt
  replace K8 := K8.below b3 K8.lt
  replace HS := HS.below b3
  clear b3
  clear c12
  by_cases hE : E = 0
  · subst hE
    have c2 := K4.cell 2
    have c3 := K4.cell 3
    have d3 := K5.cell 3
    have d4 := K5.cell 4
    have d0 := K5.cell 0
    have d1 := K5.cell 1
    have d2 := K5.cell 2
    by_cases hM : q.tk = p.ok ∧ q.tb = p.ob
    · rw [decide_eq_true hM] at q1
      have HME : Hid (ME = true) := Lib.hid (by rw [HMe.out, decide_eq_true hM]; rfl)
      clear hM HMe
      by_cases h3 : q.k = 3
      · have e3 : (q.k == 3) = true := by simpa using h3
        have e5 : (q.k == 5) = false := by rw [h3]; rfl
        clear h3
        go_wp2_with (refine wpList_on (by rfl) (wpList_load_part rfl _ _ rfl w.heap.size 0 rfl 33 _ #[.int .i64 p.k, .int .i64 p.it, .int .i64 p.ok, .int .u64 p.ob, .int .i64 p.tk, .int .u64 p.tb, V1, V2, .int .i64 p.po, V3, V4, .int .u64 p.sd] (0, 0) _ K4 rfl Tryd.underlying29 rfl (by kernel_rfl) ?_))
        refine (HSc.out _ V1 V2 V3 V4 _ BX HS).mono ?_
        rintro e W4 ⟨rfl, b4⟩
        replace BX := thenB BX b4
        replace K4 := K4.below b4 K4.lt
        replace K5 := K5.below b4 K5.lt
        replace K8 := K8.below b4 K8.lt
        replace HS := HS.below b4
        clear b4
        clear c2 c3 d3 d4 d0 d1 d2
        have d0 := K5.cell 0
        cases S2 with
        | true =>
          have HQ := Lib.hid (HYs.out HME.out (by rw [HsB.out, e3]; rfl))
          clear HN HYs HYc HsB HcB HME HSc HCn HK HAd
          go_upto_region 5 with (fail)
          have e7 : IntKind.i64.wrap (L + 150) = L + 150 := by simp only [IntKind.wrap, IntKind.signed, IntKind.bits]; simp; omega
          go_cut [11] from 47 to 54 (fun s11 wx => ∃ gS B1 d1, s11 = .pointer (some ⟨gS, 0, none⟩) ∧ w.heap.size + 3 ≤ gS ∧ Blk wx gS 54 #[.int .i64 ch, .int .i64 (L + 150), .int .i64 4, .int .i64 p.ok, .int .u64 p.ob, .int .i64 0, .int .u64 0, .slice B1 p.sc.length d1, .int .u32 0, .int .u32 0, .int .i64 0, .int .i64 0, .int .i64 0, .int .i64 0, .int .i64 0, .int .u64 0, .int .i64 0, .int .i64 0, .int .i64 0] ∧ Blk wx (w.heap.size) 33 #[.int .i64 p.k, .int .i64 p.it, .int .i64 p.ok, .int .u64 p.ob, .int .i64 p.tk, .int .u64 p.tb, V1, V2, .int .i64 p.po, V3, V4, .int .u64 p.sd, .bool true, .int .i64 ev, .int .i64 nx] ∧ Blk wx (w.heap.size + 2) 33 #[.int .i64 0, .int .i64 0, .int .i64 0, .int .u64 0, .int .i64 0, .int .u64 0, .slice none 0 0, .slice none 0 0, .int .i64 0, .slice none 0 0, .slice none 0 0, .int .u64 0, .bool false, .int .i64 0, .int .i64 0] ∧ Has wx (w.heap.size + 3) p V1 V2 V3 V4 ∧ Row wx (w.heap.size + 3) (.slice B1 p.sc.length d1) p.sc.length (p.sc.map (Value.int .u8)) ∧ Below w.heap.size w wx)
          case first =>
              go_wp2_with fail
              refine wp_region_held_drew (S := (fun w' => Blk w' (w.heap.size) 33 #[.int .i64 p.k, .int .i64 p.it, .int .i64 p.ok, .int .u64 p.ob, .int .i64 p.tk, .int .u64 p.tb, V1, V2, .int .i64 p.po, V3, V4, .int .u64 p.sd, .bool true, .int .i64 ev, .int .i64 nx])) (by kernel_rfl) ?_ (fun hHeld => ?_)
              · exact K4
              replace K4 : Blk W4.drew (w.heap.size) 33 #[.int .i64 p.k, .int .i64 p.it, .int .i64 p.ok, .int .u64 p.ob, .int .i64 p.tk, .int .u64 p.tb, V1, V2, .int .i64 p.po, V3, V4, .int .u64 p.sd, .bool true, .int .i64 ev, .int .i64 nx] := K4
              replace K8 : Blk W4.drew (w.heap.size + 2) 33 #[.int .i64 0, .int .i64 0, .int .i64 0, .int .u64 0, .int .i64 0, .int .u64 0, .slice none 0 0, .slice none 0 0, .int .i64 0, .slice none 0 0, .slice none 0 0, .int .u64 0, .bool false, .int .i64 0, .int .i64 0] := K8
              replace BX : Below w.heap.size w W4.drew := BX.drew
              replace HS := (show Has W4.drew _ _ _ _ _ _ from HS.drew)
              generalize W4.drew = X0 at *
              refine wpAnyH_take (i := 0) (v := .int .i64 ch) rfl (by kernel_rfl) (by kernel_rfl) (by kernel_rfl) (fun _ _ _ h => h) (Or.inl ⟨by first | rfl | go_simp, by intro w9 hSw; (try dsimp only at hSw); go_simp⟩) (by assumption) ?_
              simp only [List.getElem_toArray, List.getElem_cons_zero, List.getElem_cons_succ, Act.put, List.setIfInBounds_toArray, List.set_cons_zero, List.set_cons_succ]
              refine wpAnyH_take (i := 1) (v := .int .i64 l) rfl (by kernel_rfl) (by kernel_rfl) (by kernel_rfl) (fun _ _ _ h => h) (Or.inl ⟨by first | rfl | go_simp, by intro w9 hSw; (try dsimp only at hSw); go_simp⟩) (by assumption) ?_
              simp only [List.getElem_toArray, List.getElem_cons_zero, List.getElem_cons_succ, Act.put, List.setIfInBounds_toArray, List.set_cons_zero, List.set_cons_succ]
              refine wpAnyH_take (i := 4) (v := .pointer (some ⟨w.heap.size, 0, none⟩)) rfl (by kernel_rfl) (by kernel_rfl) (by kernel_rfl) (fun _ _ _ h => h) (Or.inl ⟨by first | rfl | go_simp, by intro w9 hSw; (try dsimp only at hSw); go_simp⟩) (by assumption) ?_
              simp only [List.getElem_toArray, List.getElem_cons_zero, List.getElem_cons_succ, Act.put, List.setIfInBounds_toArray, List.set_cons_zero, List.set_cons_succ]
              refine wpAnyH_take (i := 5) (v := .agg #[.int .i64 p.k, .int .i64 p.it, .int .i64 p.ok, .int .u64 p.ob, .int .i64 p.tk, .int .u64 p.tb, V1, V2, .int .i64 p.po, V3, V4, .int .u64 p.sd]) rfl (by kernel_rfl) (by kernel_rfl) (by kernel_rfl) (fun _ _ _ h => h) (Av.yields_part (by first | rfl | go_simp) _ _ rfl (w.heap.size) 0 rfl #[.int .i64 p.k, .int .i64 p.it, .int .i64 p.ok, .int .u64 p.ob, .int .i64 p.tk, .int .u64 p.tb, V1, V2, .int .i64 p.po, V3, V4, .int .u64 p.sd] _ 33 #[.int .i64 p.k, .int .i64 p.it, .int .i64 p.ok, .int .u64 p.ob, .int .i64 p.tk, .int .u64 p.tb, V1, V2, .int .i64 p.po, V3, V4, .int .u64 p.sd, .bool true, .int .i64 ev, .int .i64 nx] (fun w9 hSw => hSw) rfl Tryd.underlying29 rfl (by kernel_rfl)) (by assumption) ?_
              simp only [List.getElem_toArray, List.getElem_cons_zero, List.getElem_cons_succ, Act.put, List.setIfInBounds_toArray, List.set_cons_zero, List.set_cons_succ]
              refine wpAnyH_ready (rs := [2, 8]) (by kernel_rfl) (by simp) ?_
              refine AllReadyH.cons rfl (fun K hK => ?_) (AllReadyH.cons rfl (fun K hK => ?_) (AllReadyH.nil))
              · skip
                go_simp
                refine (HM.out X0).mono ?_
                rintro e X1 ⟨rfl, rfl⟩
                refine hK.out _ _ K4 (fun hHeld => ?_)
                clear hK K
                try simp only [List.getElem_toArray, List.getElem_cons_zero, List.getElem_cons_succ, Act.put, List.setIfInBounds_toArray, List.set_cons_zero, List.set_cons_succ]
                refine wpAnyH_take (i := 3) (v := .int .i64 (L + 150)) rfl (by kernel_rfl) (by kernel_rfl) (by kernel_rfl) (fun _ _ _ h => h) (Or.inl ⟨by first | rfl | go_simp, by intro w9 hSw; (try dsimp only at hSw); go_simp⟩) (by assumption) ?_
                simp only [List.getElem_toArray, List.getElem_cons_zero, List.getElem_cons_succ, Act.put, List.setIfInBounds_toArray, List.set_cons_zero, List.set_cons_succ]
                refine wpAnyH_ready (rs := [6, 8]) (by kernel_rfl) (by simp) ?_
                refine AllReadyH.cons rfl (fun K hK => ?_) (AllReadyH.cons rfl (fun K hK => ?_) (AllReadyH.nil))
                · skip
                  go_simp
                  refine (HSA.out X0 V1 V2 V3 V4 _ HS).mono ?_
                  rintro e X2 ⟨U1, rfl, RU, b9⟩
                  obtain ⟨B1, d1, e1, _⟩ := id RU
                  subst e1
                  replace RU := RU.less (show w.heap.size + 3 ≤ X0.heap.size from K8.lt)
                  replace K4 := K4.below b9 K4.lt
                  replace K8 := K8.below b9 K8.lt
                  replace BX := Base.thenB BX b9
                  replace HS := HS.below b9
                  clear b9
                  refine hK.out _ _ K4 (fun hHeld => ?_)
                  clear hK K
                  try simp only [List.getElem_toArray, List.getElem_cons_zero, List.getElem_cons_succ, Act.put, List.setIfInBounds_toArray, List.set_cons_zero, List.set_cons_succ]
                  refine wpAnyH_take (i := 7) (v := .agg #[.int .i64 ch, .int .i64 (L + 150), .int .i64 4, .int .i64 p.ok, .int .u64 p.ob, .int .i64 0, .int .u64 0, .slice B1 p.sc.length d1, .int .u32 0, .int .u32 0, .int .i64 0, .int .i64 0, .int .i64 0, .int .i64 0, .int .i64 0, .int .u64 0, .int .i64 0, .int .i64 0, .int .i64 0]) rfl (by kernel_rfl) (by kernel_rfl) (by kernel_rfl) (fun _ _ _ h => h) (Av.yields_build (by first | rfl | go_simp) _ _ rfl #[.int .i64 ch, .int .i64 (L + 150), .int .i64 4, .int .i64 p.ok, .int .u64 p.ob, .int .i64 0, .int .u64 0, .slice B1 p.sc.length d1, .int .u32 0, .int .u32 0, .int .i64 0, .int .i64 0, .int .i64 0, .int .i64 0, .int .i64 0, .int .u64 0, .int .i64 0, .int .i64 0, .int .i64 0] (by kernel_rfl)) (by assumption) ?_
                  simp only [List.getElem_toArray, List.getElem_cons_zero, List.getElem_cons_succ, Act.put, List.setIfInBounds_toArray, List.set_cons_zero, List.set_cons_succ]
                  refine wpAnyH_ready (rs := [8]) (by kernel_rfl) (by simp) ?_
                  refine AllReadyH.cons rfl (fun K hK => ?_) (AllReadyH.nil)
                  go_simp
                  have b9 := (Below.refl X2.heap.size X2).alloc (Nat.le_refl _) (.cells #[.int .i64 0, .int .i64 0, .int .i64 0, .int .i64 0, .int .u64 0, .int .i64 0, .int .u64 0, .slice none 0 0, .int .u32 0, .int .u32 0, .int .i64 0, .int .i64 0, .int .i64 0, .int .i64 0, .int .i64 0, .int .u64 0, .int .i64 0, .int .i64 0, .int .i64 0] 54)
                  have BA := b9
                  have KS : Blk (X2.alloc (.cells #[.int .i64 0, .int .i64 0, .int .i64 0, .int .i64 0, .int .u64 0, .int .i64 0, .int .u64 0, .slice none 0 0, .int .u32 0, .int .u32 0, .int .i64 0, .int .i64 0, .int .i64 0, .int .i64 0, .int .i64 0, .int .u64 0, .int .i64 0, .int .i64 0, .int .i64 0] 54)) (X2.heap.size) 54 #[.int .i64 0, .int .i64 0, .int .i64 0, .int .i64 0, .int .u64 0, .int .i64 0, .int .u64 0, .slice none 0 0, .int .u32 0, .int .u32 0, .int .i64 0, .int .i64 0, .int .i64 0, .int .i64 0, .int .i64 0, .int .u64 0, .int .i64 0, .int .i64 0, .int .i64 0] := Blk.fresh X2 54 #[.int .i64 0, .int .i64 0, .int .i64 0, .int .i64 0, .int .u64 0, .int .i64 0, .int .u64 0, .slice none 0 0, .int .u32 0, .int .u32 0, .int .i64 0, .int .i64 0, .int .i64 0, .int .i64 0, .int .i64 0, .int .u64 0, .int .i64 0, .int .i64 0, .int .i64 0]
                  have lS : w.heap.size + 3 ≤ X2.heap.size := K8.lt
                  generalize X2.alloc (.cells #[.int .i64 0, .int .i64 0, .int .i64 0, .int .i64 0, .int .u64 0, .int .i64 0, .int .u64 0, .slice none 0 0, .int .u32 0, .int .u32 0, .int .i64 0, .int .i64 0, .int .i64 0, .int .i64 0, .int .i64 0, .int .u64 0, .int .i64 0, .int .i64 0, .int .i64 0] 54) = X3 at *
                  replace K4 := K4.below b9 K4.lt
                  replace K8 := K8.below b9 K8.lt
                  replace BX := Base.thenB BX b9
                  clear b9
                  refine hK.out _ _ K4 (fun hHeld => ?_)
                  clear hK K
                  try simp only [List.getElem_toArray, List.getElem_cons_zero, List.getElem_cons_succ, Act.put, List.setIfInBounds_toArray, List.set_cons_zero, List.set_cons_succ]
                  refine wpAnyH_ready (rs := [9]) (by kernel_rfl) (by simp) ?_
                  refine AllReadyH.cons rfl (fun K hK => ?_) (AllReadyH.nil)
                  have H9 : (#[.int .i64 ch, .int .i64 (L + 150), .int .i64 4, .int .i64 p.ok, .int .u64 p.ob, .int .i64 0, .int .u64 0, .slice B1 p.sc.length d1, .int .u32 0, .int .u32 0, .int .i64 0, .int .i64 0, .int .i64 0, .int .i64 0, .int .i64 0, .int .u64 0, .int .i64 0, .int .i64 0, .int .i64 0] : Array Value).all (·.oneCell') = true := by rw [← Array.all_toList]; rfl
                  refine Av.step_store_row rfl 54 (.tmp 11) (.tmp 54) rfl (X2.heap.size) #[.int .i64 ch, .int .i64 (L + 150), .int .i64 4, .int .i64 p.ok, .int .u64 p.ob, .int .i64 0, .int .u64 0, .slice B1 p.sc.length d1, .int .u32 0, .int .u32 0, .int .i64 0, .int .i64 0, .int .i64 0, .int .i64 0, .int .i64 0, .int .u64 0, .int .i64 0, .int .i64 0, .int .i64 0] rfl rfl 54 _ KS (by kernel_rfl) rfl H9 ?_
                  replace K4 : Blk (X3.setRow (X2.heap.size) #[.int .i64 ch, .int .i64 (L + 150), .int .i64 4, .int .i64 p.ok, .int .u64 p.ob, .int .i64 0, .int .u64 0, .slice B1 p.sc.length d1, .int .u32 0, .int .u32 0, .int .i64 0, .int .i64 0, .int .i64 0, .int .i64 0, .int .i64 0, .int .u64 0, .int .i64 0, .int .i64 0, .int .i64 0]) (w.heap.size) 33 #[.int .i64 p.k, .int .i64 p.it, .int .i64 p.ok, .int .u64 p.ob, .int .i64 p.tk, .int .u64 p.tb, V1, V2, .int .i64 p.po, V3, V4, .int .u64 p.sd, .bool true, .int .i64 ev, .int .i64 nx] := Av.bother_row K4 (by omega)
                  replace K8 : Blk (X3.setRow (X2.heap.size) #[.int .i64 ch, .int .i64 (L + 150), .int .i64 4, .int .i64 p.ok, .int .u64 p.ob, .int .i64 0, .int .u64 0, .slice B1 p.sc.length d1, .int .u32 0, .int .u32 0, .int .i64 0, .int .i64 0, .int .i64 0, .int .i64 0, .int .i64 0, .int .u64 0, .int .i64 0, .int .i64 0, .int .i64 0]) (w.heap.size + 2) 33 #[.int .i64 0, .int .i64 0, .int .i64 0, .int .u64 0, .int .i64 0, .int .u64 0, .slice none 0 0, .slice none 0 0, .int .i64 0, .slice none 0 0, .slice none 0 0, .int .u64 0, .bool false, .int .i64 0, .int .i64 0] := Av.bother_row K8 (by omega)
                  replace KS : Blk (X3.setRow (X2.heap.size) #[.int .i64 ch, .int .i64 (L + 150), .int .i64 4, .int .i64 p.ok, .int .u64 p.ob, .int .i64 0, .int .u64 0, .slice B1 p.sc.length d1, .int .u32 0, .int .u32 0, .int .i64 0, .int .i64 0, .int .i64 0, .int .i64 0, .int .i64 0, .int .u64 0, .int .i64 0, .int .i64 0, .int .i64 0]) (X2.heap.size) 54 #[.int .i64 ch, .int .i64 (L + 150), .int .i64 4, .int .i64 p.ok, .int .u64 p.ob, .int .i64 0, .int .u64 0, .slice B1 p.sc.length d1, .int .u32 0, .int .u32 0, .int .i64 0, .int .i64 0, .int .i64 0, .int .i64 0, .int .i64 0, .int .u64 0, .int .i64 0, .int .i64 0, .int .i64 0] := Av.bset_row KS
                  replace BX : Below w.heap.size w (X3.setRow (X2.heap.size) #[.int .i64 ch, .int .i64 (L + 150), .int .i64 4, .int .i64 p.ok, .int .u64 p.ob, .int .i64 0, .int .u64 0, .slice B1 p.sc.length d1, .int .u32 0, .int .u32 0, .int .i64 0, .int .i64 0, .int .i64 0, .int .i64 0, .int .i64 0, .int .u64 0, .int .i64 0, .int .i64 0, .int .i64 0]) := below_setRow BX (by omega) _
                  replace BA := below_setRow BA (Nat.le_refl _) #[.int .i64 ch, .int .i64 (L + 150), .int .i64 4, .int .i64 p.ok, .int .u64 p.ob, .int .i64 0, .int .u64 0, .slice B1 p.sc.length d1, .int .u32 0, .int .u32 0, .int .i64 0, .int .i64 0, .int .i64 0, .int .i64 0, .int .i64 0, .int .u64 0, .int .i64 0, .int .i64 0, .int .i64 0]
                  clear H9
                  generalize X3.setRow (X2.heap.size) #[.int .i64 ch, .int .i64 (L + 150), .int .i64 4, .int .i64 p.ok, .int .u64 p.ob, .int .i64 0, .int .u64 0, .slice B1 p.sc.length d1, .int .u32 0, .int .u32 0, .int .i64 0, .int .i64 0, .int .i64 0, .int .i64 0, .int .i64 0, .int .u64 0, .int .i64 0, .int .i64 0, .int .i64 0] = X4 at *
                  refine hK.out _ _ K4 (fun hHeld => ?_)
                  clear hK K
                  try simp only [List.getElem_toArray, List.getElem_cons_zero, List.getElem_cons_succ, Act.put, List.setIfInBounds_toArray, List.set_cons_zero, List.set_cons_succ]
                  refine wpAnyH_done (by kernel_rfl) ?_ _
                  go_wp2_with fail
                  go_meet
                  replace HS := HS.below BA
                  replace RU := RU.below BA
                  exact ⟨X2.heap.size, B1, d1, rfl, lS, KS, K4, K8, HS, RU, BX⟩
                · skip
                  go_simp
                  have b9 := (Below.refl X0.heap.size X0).alloc (Nat.le_refl _) (.cells #[.int .i64 0, .int .i64 0, .int .i64 0, .int .i64 0, .int .u64 0, .int .i64 0, .int .u64 0, .slice none 0 0, .int .u32 0, .int .u32 0, .int .i64 0, .int .i64 0, .int .i64 0, .int .i64 0, .int .i64 0, .int .u64 0, .int .i64 0, .int .i64 0, .int .i64 0] 54)
                  have BA := b9
                  have KS : Blk (X0.alloc (.cells #[.int .i64 0, .int .i64 0, .int .i64 0, .int .i64 0, .int .u64 0, .int .i64 0, .int .u64 0, .slice none 0 0, .int .u32 0, .int .u32 0, .int .i64 0, .int .i64 0, .int .i64 0, .int .i64 0, .int .i64 0, .int .u64 0, .int .i64 0, .int .i64 0, .int .i64 0] 54)) (X0.heap.size) 54 #[.int .i64 0, .int .i64 0, .int .i64 0, .int .i64 0, .int .u64 0, .int .i64 0, .int .u64 0, .slice none 0 0, .int .u32 0, .int .u32 0, .int .i64 0, .int .i64 0, .int .i64 0, .int .i64 0, .int .i64 0, .int .u64 0, .int .i64 0, .int .i64 0, .int .i64 0] := Blk.fresh X0 54 #[.int .i64 0, .int .i64 0, .int .i64 0, .int .i64 0, .int .u64 0, .int .i64 0, .int .u64 0, .slice none 0 0, .int .u32 0, .int .u32 0, .int .i64 0, .int .i64 0, .int .i64 0, .int .i64 0, .int .i64 0, .int .u64 0, .int .i64 0, .int .i64 0, .int .i64 0]
                  have lS : w.heap.size + 3 ≤ X0.heap.size := K8.lt
                  generalize X0.alloc (.cells #[.int .i64 0, .int .i64 0, .int .i64 0, .int .i64 0, .int .u64 0, .int .i64 0, .int .u64 0, .slice none 0 0, .int .u32 0, .int .u32 0, .int .i64 0, .int .i64 0, .int .i64 0, .int .i64 0, .int .i64 0, .int .u64 0, .int .i64 0, .int .i64 0, .int .i64 0] 54) = X5 at *
                  replace K4 := K4.below b9 K4.lt
                  replace K8 := K8.below b9 K8.lt
                  replace BX := Base.thenB BX b9
                  clear b9
                  refine hK.out _ _ K4 (fun hHeld => ?_)
                  clear hK K
                  try simp only [List.getElem_toArray, List.getElem_cons_zero, List.getElem_cons_succ, Act.put, List.setIfInBounds_toArray, List.set_cons_zero, List.set_cons_succ]
                  refine wpAnyH_ready (rs := [6]) (by kernel_rfl) (by simp) ?_
                  refine AllReadyH.cons rfl (fun K hK => ?_) (AllReadyH.nil)
                  go_simp
                  refine (HSA.out X5 V1 V2 V3 V4 _ (HS.below BA)).mono ?_
                  rintro e X6 ⟨U1, rfl, RU, b9⟩
                  obtain ⟨B1, d1, e1, _⟩ := id RU
                  subst e1
                  replace RU := RU.less (show X0.heap.size + 1 ≤ X5.heap.size from KS.lt)
                  replace K4 := K4.below b9 K4.lt
                  replace K8 := K8.below b9 K8.lt
                  replace KS := KS.below b9 KS.lt
                  replace BX := Base.thenB BX b9
                  replace BA := BA.trans (b9.mono BA.size)
                  clear b9
                  refine hK.out _ _ K4 (fun hHeld => ?_)
                  clear hK K
                  try simp only [List.getElem_toArray, List.getElem_cons_zero, List.getElem_cons_succ, Act.put, List.setIfInBounds_toArray, List.set_cons_zero, List.set_cons_succ]
                  refine wpAnyH_take (i := 7) (v := .agg #[.int .i64 ch, .int .i64 (L + 150), .int .i64 4, .int .i64 p.ok, .int .u64 p.ob, .int .i64 0, .int .u64 0, .slice B1 p.sc.length d1, .int .u32 0, .int .u32 0, .int .i64 0, .int .i64 0, .int .i64 0, .int .i64 0, .int .i64 0, .int .u64 0, .int .i64 0, .int .i64 0, .int .i64 0]) rfl (by kernel_rfl) (by kernel_rfl) (by kernel_rfl) (fun _ _ _ h => h) (Av.yields_build (by first | rfl | go_simp) _ _ rfl #[.int .i64 ch, .int .i64 (L + 150), .int .i64 4, .int .i64 p.ok, .int .u64 p.ob, .int .i64 0, .int .u64 0, .slice B1 p.sc.length d1, .int .u32 0, .int .u32 0, .int .i64 0, .int .i64 0, .int .i64 0, .int .i64 0, .int .i64 0, .int .u64 0, .int .i64 0, .int .i64 0, .int .i64 0] (by kernel_rfl)) (by assumption) ?_
                  simp only [List.getElem_toArray, List.getElem_cons_zero, List.getElem_cons_succ, Act.put, List.setIfInBounds_toArray, List.set_cons_zero, List.set_cons_succ]
                  refine wpAnyH_ready (rs := [9]) (by kernel_rfl) (by simp) ?_
                  refine AllReadyH.cons rfl (fun K hK => ?_) (AllReadyH.nil)
                  have H9 : (#[.int .i64 ch, .int .i64 (L + 150), .int .i64 4, .int .i64 p.ok, .int .u64 p.ob, .int .i64 0, .int .u64 0, .slice B1 p.sc.length d1, .int .u32 0, .int .u32 0, .int .i64 0, .int .i64 0, .int .i64 0, .int .i64 0, .int .i64 0, .int .u64 0, .int .i64 0, .int .i64 0, .int .i64 0] : Array Value).all (·.oneCell') = true := by rw [← Array.all_toList]; rfl
                  refine Av.step_store_row rfl 54 (.tmp 11) (.tmp 54) rfl (X0.heap.size) #[.int .i64 ch, .int .i64 (L + 150), .int .i64 4, .int .i64 p.ok, .int .u64 p.ob, .int .i64 0, .int .u64 0, .slice B1 p.sc.length d1, .int .u32 0, .int .u32 0, .int .i64 0, .int .i64 0, .int .i64 0, .int .i64 0, .int .i64 0, .int .u64 0, .int .i64 0, .int .i64 0, .int .i64 0] rfl rfl 54 _ KS (by kernel_rfl) rfl H9 ?_
                  replace K4 : Blk (X6.setRow (X0.heap.size) #[.int .i64 ch, .int .i64 (L + 150), .int .i64 4, .int .i64 p.ok, .int .u64 p.ob, .int .i64 0, .int .u64 0, .slice B1 p.sc.length d1, .int .u32 0, .int .u32 0, .int .i64 0, .int .i64 0, .int .i64 0, .int .i64 0, .int .i64 0, .int .u64 0, .int .i64 0, .int .i64 0, .int .i64 0]) (w.heap.size) 33 #[.int .i64 p.k, .int .i64 p.it, .int .i64 p.ok, .int .u64 p.ob, .int .i64 p.tk, .int .u64 p.tb, V1, V2, .int .i64 p.po, V3, V4, .int .u64 p.sd, .bool true, .int .i64 ev, .int .i64 nx] := Av.bother_row K4 (by omega)
                  replace K8 : Blk (X6.setRow (X0.heap.size) #[.int .i64 ch, .int .i64 (L + 150), .int .i64 4, .int .i64 p.ok, .int .u64 p.ob, .int .i64 0, .int .u64 0, .slice B1 p.sc.length d1, .int .u32 0, .int .u32 0, .int .i64 0, .int .i64 0, .int .i64 0, .int .i64 0, .int .i64 0, .int .u64 0, .int .i64 0, .int .i64 0, .int .i64 0]) (w.heap.size + 2) 33 #[.int .i64 0, .int .i64 0, .int .i64 0, .int .u64 0, .int .i64 0, .int .u64 0, .slice none 0 0, .slice none 0 0, .int .i64 0, .slice none 0 0, .slice none 0 0, .int .u64 0, .bool false, .int .i64 0, .int .i64 0] := Av.bother_row K8 (by omega)
                  replace KS : Blk (X6.setRow (X0.heap.size) #[.int .i64 ch, .int .i64 (L + 150), .int .i64 4, .int .i64 p.ok, .int .u64 p.ob, .int .i64 0, .int .u64 0, .slice B1 p.sc.length d1, .int .u32 0, .int .u32 0, .int .i64 0, .int .i64 0, .int .i64 0, .int .i64 0, .int .i64 0, .int .u64 0, .int .i64 0, .int .i64 0, .int .i64 0]) (X0.heap.size) 54 #[.int .i64 ch, .int .i64 (L + 150), .int .i64 4, .int .i64 p.ok, .int .u64 p.ob, .int .i64 0, .int .u64 0, .slice B1 p.sc.length d1, .int .u32 0, .int .u32 0, .int .i64 0, .int .i64 0, .int .i64 0, .int .i64 0, .int .i64 0, .int .u64 0, .int .i64 0, .int .i64 0, .int .i64 0] := Av.bset_row KS
                  replace BX : Below w.heap.size w (X6.setRow (X0.heap.size) #[.int .i64 ch, .int .i64 (L + 150), .int .i64 4, .int .i64 p.ok, .int .u64 p.ob, .int .i64 0, .int .u64 0, .slice B1 p.sc.length d1, .int .u32 0, .int .u32 0, .int .i64 0, .int .i64 0, .int .i64 0, .int .i64 0, .int .i64 0, .int .u64 0, .int .i64 0, .int .i64 0, .int .i64 0]) := below_setRow BX (by omega) _
                  replace BA := below_setRow BA (Nat.le_refl _) #[.int .i64 ch, .int .i64 (L + 150), .int .i64 4, .int .i64 p.ok, .int .u64 p.ob, .int .i64 0, .int .u64 0, .slice B1 p.sc.length d1, .int .u32 0, .int .u32 0, .int .i64 0, .int .i64 0, .int .i64 0, .int .i64 0, .int .i64 0, .int .u64 0, .int .i64 0, .int .i64 0, .int .i64 0]
                  replace RU := Row.farR (cs := #[.int .i64 ch, .int .i64 (L + 150), .int .i64 4, .int .i64 p.ok, .int .u64 p.ob, .int .i64 0, .int .u64 0, .slice B1 p.sc.length d1, .int .u32 0, .int .u32 0, .int .i64 0, .int .i64 0, .int .i64 0, .int .i64 0, .int .i64 0, .int .u64 0, .int .i64 0, .int .i64 0, .int .i64 0]) RU (show X0.heap.size < X0.heap.size + 1 by omega)
                  clear H9
                  generalize X6.setRow (X0.heap.size) #[.int .i64 ch, .int .i64 (L + 150), .int .i64 4, .int .i64 p.ok, .int .u64 p.ob, .int .i64 0, .int .u64 0, .slice B1 p.sc.length d1, .int .u32 0, .int .u32 0, .int .i64 0, .int .i64 0, .int .i64 0, .int .i64 0, .int .i64 0, .int .u64 0, .int .i64 0, .int .i64 0, .int .i64 0] = X7 at *
                  refine hK.out _ _ K4 (fun hHeld => ?_)
                  clear hK K
                  try simp only [List.getElem_toArray, List.getElem_cons_zero, List.getElem_cons_succ, Act.put, List.setIfInBounds_toArray, List.set_cons_zero, List.set_cons_succ]
                  refine wpAnyH_done (by kernel_rfl) ?_ _
                  go_wp2_with fail
                  go_meet
                  replace HS := HS.below BA
                  replace RU := RU.less (show w.heap.size + 3 ≤ X0.heap.size + 1 by omega)
                  exact ⟨X0.heap.size, B1, d1, rfl, lS, KS, K4, K8, HS, RU, BX⟩
              · skip
                go_simp
                have b9 := (Below.refl X0.heap.size X0).alloc (Nat.le_refl _) (.cells #[.int .i64 0, .int .i64 0, .int .i64 0, .int .i64 0, .int .u64 0, .int .i64 0, .int .u64 0, .slice none 0 0, .int .u32 0, .int .u32 0, .int .i64 0, .int .i64 0, .int .i64 0, .int .i64 0, .int .i64 0, .int .u64 0, .int .i64 0, .int .i64 0, .int .i64 0] 54)
                have BA := b9
                have KS : Blk (X0.alloc (.cells #[.int .i64 0, .int .i64 0, .int .i64 0, .int .i64 0, .int .u64 0, .int .i64 0, .int .u64 0, .slice none 0 0, .int .u32 0, .int .u32 0, .int .i64 0, .int .i64 0, .int .i64 0, .int .i64 0, .int .i64 0, .int .u64 0, .int .i64 0, .int .i64 0, .int .i64 0] 54)) (X0.heap.size) 54 #[.int .i64 0, .int .i64 0, .int .i64 0, .int .i64 0, .int .u64 0, .int .i64 0, .int .u64 0, .slice none 0 0, .int .u32 0, .int .u32 0, .int .i64 0, .int .i64 0, .int .i64 0, .int .i64 0, .int .i64 0, .int .u64 0, .int .i64 0, .int .i64 0, .int .i64 0] := Blk.fresh X0 54 #[.int .i64 0, .int .i64 0, .int .i64 0, .int .i64 0, .int .u64 0, .int .i64 0, .int .u64 0, .slice none 0 0, .int .u32 0, .int .u32 0, .int .i64 0, .int .i64 0, .int .i64 0, .int .i64 0, .int .i64 0, .int .u64 0, .int .i64 0, .int .i64 0, .int .i64 0]
                have lS : w.heap.size + 3 ≤ X0.heap.size := K8.lt
                generalize X0.alloc (.cells #[.int .i64 0, .int .i64 0, .int .i64 0, .int .i64 0, .int .u64 0, .int .i64 0, .int .u64 0, .slice none 0 0, .int .u32 0, .int .u32 0, .int .i64 0, .int .i64 0, .int .i64 0, .int .i64 0, .int .i64 0, .int .u64 0, .int .i64 0, .int .i64 0, .int .i64 0] 54) = X8 at *
                replace K4 := K4.below b9 K4.lt
                replace K8 := K8.below b9 K8.lt
                replace BX := Base.thenB BX b9
                clear b9
                refine hK.out _ _ K4 (fun hHeld => ?_)
                clear hK K
                try simp only [List.getElem_toArray, List.getElem_cons_zero, List.getElem_cons_succ, Act.put, List.setIfInBounds_toArray, List.set_cons_zero, List.set_cons_succ]
                refine wpAnyH_ready (rs := [2]) (by kernel_rfl) (by simp) ?_
                refine AllReadyH.cons rfl (fun K hK => ?_) (AllReadyH.nil)
                go_simp
                refine (HM.out X8).mono ?_
                rintro e X9 ⟨rfl, rfl⟩
                refine hK.out _ _ K4 (fun hHeld => ?_)
                clear hK K
                try simp only [List.getElem_toArray, List.getElem_cons_zero, List.getElem_cons_succ, Act.put, List.setIfInBounds_toArray, List.set_cons_zero, List.set_cons_succ]
                refine wpAnyH_take (i := 3) (v := .int .i64 (L + 150)) rfl (by kernel_rfl) (by kernel_rfl) (by kernel_rfl) (fun _ _ _ h => h) (Or.inl ⟨by first | rfl | go_simp, by intro w9 hSw; (try dsimp only at hSw); go_simp⟩) (by assumption) ?_
                simp only [List.getElem_toArray, List.getElem_cons_zero, List.getElem_cons_succ, Act.put, List.setIfInBounds_toArray, List.set_cons_zero, List.set_cons_succ]
                refine wpAnyH_ready (rs := [6]) (by kernel_rfl) (by simp) ?_
                refine AllReadyH.cons rfl (fun K hK => ?_) (AllReadyH.nil)
                go_simp
                refine (HSA.out X8 V1 V2 V3 V4 _ (HS.below BA)).mono ?_
                rintro e X10 ⟨U1, rfl, RU, b9⟩
                obtain ⟨B1, d1, e1, _⟩ := id RU
                subst e1
                replace RU := RU.less (show X0.heap.size + 1 ≤ X8.heap.size from KS.lt)
                replace K4 := K4.below b9 K4.lt
                replace K8 := K8.below b9 K8.lt
                replace KS := KS.below b9 KS.lt
                replace BX := Base.thenB BX b9
                replace BA := BA.trans (b9.mono BA.size)
                clear b9
                refine hK.out _ _ K4 (fun hHeld => ?_)
                clear hK K
                try simp only [List.getElem_toArray, List.getElem_cons_zero, List.getElem_cons_succ, Act.put, List.setIfInBounds_toArray, List.set_cons_zero, List.set_cons_succ]
                refine wpAnyH_take (i := 7) (v := .agg #[.int .i64 ch, .int .i64 (L + 150), .int .i64 4, .int .i64 p.ok, .int .u64 p.ob, .int .i64 0, .int .u64 0, .slice B1 p.sc.length d1, .int .u32 0, .int .u32 0, .int .i64 0, .int .i64 0, .int .i64 0, .int .i64 0, .int .i64 0, .int .u64 0, .int .i64 0, .int .i64 0, .int .i64 0]) rfl (by kernel_rfl) (by kernel_rfl) (by kernel_rfl) (fun _ _ _ h => h) (Av.yields_build (by first | rfl | go_simp) _ _ rfl #[.int .i64 ch, .int .i64 (L + 150), .int .i64 4, .int .i64 p.ok, .int .u64 p.ob, .int .i64 0, .int .u64 0, .slice B1 p.sc.length d1, .int .u32 0, .int .u32 0, .int .i64 0, .int .i64 0, .int .i64 0, .int .i64 0, .int .i64 0, .int .u64 0, .int .i64 0, .int .i64 0, .int .i64 0] (by kernel_rfl)) (by assumption) ?_
                simp only [List.getElem_toArray, List.getElem_cons_zero, List.getElem_cons_succ, Act.put, List.setIfInBounds_toArray, List.set_cons_zero, List.set_cons_succ]
                refine wpAnyH_ready (rs := [9]) (by kernel_rfl) (by simp) ?_
                refine AllReadyH.cons rfl (fun K hK => ?_) (AllReadyH.nil)
                have H9 : (#[.int .i64 ch, .int .i64 (L + 150), .int .i64 4, .int .i64 p.ok, .int .u64 p.ob, .int .i64 0, .int .u64 0, .slice B1 p.sc.length d1, .int .u32 0, .int .u32 0, .int .i64 0, .int .i64 0, .int .i64 0, .int .i64 0, .int .i64 0, .int .u64 0, .int .i64 0, .int .i64 0, .int .i64 0] : Array Value).all (·.oneCell') = true := by rw [← Array.all_toList]; rfl
                refine Av.step_store_row rfl 54 (.tmp 11) (.tmp 54) rfl (X0.heap.size) #[.int .i64 ch, .int .i64 (L + 150), .int .i64 4, .int .i64 p.ok, .int .u64 p.ob, .int .i64 0, .int .u64 0, .slice B1 p.sc.length d1, .int .u32 0, .int .u32 0, .int .i64 0, .int .i64 0, .int .i64 0, .int .i64 0, .int .i64 0, .int .u64 0, .int .i64 0, .int .i64 0, .int .i64 0] rfl rfl 54 _ KS (by kernel_rfl) rfl H9 ?_
                replace K4 : Blk (X10.setRow (X0.heap.size) #[.int .i64 ch, .int .i64 (L + 150), .int .i64 4, .int .i64 p.ok, .int .u64 p.ob, .int .i64 0, .int .u64 0, .slice B1 p.sc.length d1, .int .u32 0, .int .u32 0, .int .i64 0, .int .i64 0, .int .i64 0, .int .i64 0, .int .i64 0, .int .u64 0, .int .i64 0, .int .i64 0, .int .i64 0]) (w.heap.size) 33 #[.int .i64 p.k, .int .i64 p.it, .int .i64 p.ok, .int .u64 p.ob, .int .i64 p.tk, .int .u64 p.tb, V1, V2, .int .i64 p.po, V3, V4, .int .u64 p.sd, .bool true, .int .i64 ev, .int .i64 nx] := Av.bother_row K4 (by omega)
                replace K8 : Blk (X10.setRow (X0.heap.size) #[.int .i64 ch, .int .i64 (L + 150), .int .i64 4, .int .i64 p.ok, .int .u64 p.ob, .int .i64 0, .int .u64 0, .slice B1 p.sc.length d1, .int .u32 0, .int .u32 0, .int .i64 0, .int .i64 0, .int .i64 0, .int .i64 0, .int .i64 0, .int .u64 0, .int .i64 0, .int .i64 0, .int .i64 0]) (w.heap.size + 2) 33 #[.int .i64 0, .int .i64 0, .int .i64 0, .int .u64 0, .int .i64 0, .int .u64 0, .slice none 0 0, .slice none 0 0, .int .i64 0, .slice none 0 0, .slice none 0 0, .int .u64 0, .bool false, .int .i64 0, .int .i64 0] := Av.bother_row K8 (by omega)
                replace KS : Blk (X10.setRow (X0.heap.size) #[.int .i64 ch, .int .i64 (L + 150), .int .i64 4, .int .i64 p.ok, .int .u64 p.ob, .int .i64 0, .int .u64 0, .slice B1 p.sc.length d1, .int .u32 0, .int .u32 0, .int .i64 0, .int .i64 0, .int .i64 0, .int .i64 0, .int .i64 0, .int .u64 0, .int .i64 0, .int .i64 0, .int .i64 0]) (X0.heap.size) 54 #[.int .i64 ch, .int .i64 (L + 150), .int .i64 4, .int .i64 p.ok, .int .u64 p.ob, .int .i64 0, .int .u64 0, .slice B1 p.sc.length d1, .int .u32 0, .int .u32 0, .int .i64 0, .int .i64 0, .int .i64 0, .int .i64 0, .int .i64 0, .int .u64 0, .int .i64 0, .int .i64 0, .int .i64 0] := Av.bset_row KS
                replace BX : Below w.heap.size w (X10.setRow (X0.heap.size) #[.int .i64 ch, .int .i64 (L + 150), .int .i64 4, .int .i64 p.ok, .int .u64 p.ob, .int .i64 0, .int .u64 0, .slice B1 p.sc.length d1, .int .u32 0, .int .u32 0, .int .i64 0, .int .i64 0, .int .i64 0, .int .i64 0, .int .i64 0, .int .u64 0, .int .i64 0, .int .i64 0, .int .i64 0]) := below_setRow BX (by omega) _
                replace BA := below_setRow BA (Nat.le_refl _) #[.int .i64 ch, .int .i64 (L + 150), .int .i64 4, .int .i64 p.ok, .int .u64 p.ob, .int .i64 0, .int .u64 0, .slice B1 p.sc.length d1, .int .u32 0, .int .u32 0, .int .i64 0, .int .i64 0, .int .i64 0, .int .i64 0, .int .i64 0, .int .u64 0, .int .i64 0, .int .i64 0, .int .i64 0]
                replace RU := Row.farR (cs := #[.int .i64 ch, .int .i64 (L + 150), .int .i64 4, .int .i64 p.ok, .int .u64 p.ob, .int .i64 0, .int .u64 0, .slice B1 p.sc.length d1, .int .u32 0, .int .u32 0, .int .i64 0, .int .i64 0, .int .i64 0, .int .i64 0, .int .i64 0, .int .u64 0, .int .i64 0, .int .i64 0, .int .i64 0]) RU (show X0.heap.size < X0.heap.size + 1 by omega)
                clear H9
                generalize X10.setRow (X0.heap.size) #[.int .i64 ch, .int .i64 (L + 150), .int .i64 4, .int .i64 p.ok, .int .u64 p.ob, .int .i64 0, .int .u64 0, .slice B1 p.sc.length d1, .int .u32 0, .int .u32 0, .int .i64 0, .int .i64 0, .int .i64 0, .int .i64 0, .int .i64 0, .int .u64 0, .int .i64 0, .int .i64 0, .int .i64 0] = X11 at *
                refine hK.out _ _ K4 (fun hHeld => ?_)
                clear hK K
                try simp only [List.getElem_toArray, List.getElem_cons_zero, List.getElem_cons_succ, Act.put, List.setIfInBounds_toArray, List.set_cons_zero, List.set_cons_succ]
                refine wpAnyH_done (by kernel_rfl) ?_ _
                go_wp2_with fail
                go_meet
                replace HS := HS.below BA
                replace RU := RU.less (show w.heap.size + 3 ≤ X0.heap.size + 1 by omega)
                exact ⟨X0.heap.size, B1, d1, rfl, lS, KS, K4, K8, HS, RU, BX⟩
          case rest =>
            obtain ⟨gS, B1, d1, rfl, lS, KS, K4, K8, HS, RU, BX⟩ := hcut
            obtain ⟨iEsnd, hisnd, hzsnd, hssnd, hbsnd, hcsnd⟩ := info_parts2 info_snd rfl
            generalize wc = W5 at *
            go_upto_region 6 with (fail)
            refine wp_region_held_drew (S := (fun w' => Blk w' (gS) 54 #[.int .i64 ch, .int .i64 (L + 150), .int .i64 4, .int .i64 p.ok, .int .u64 p.ob, .int .i64 0, .int .u64 0, .slice B1 p.sc.length d1, .int .u32 0, .int .u32 0, .int .i64 0, .int .i64 0, .int .i64 0, .int .i64 0, .int .i64 0, .int .u64 0, .int .i64 0, .int .i64 0, .int .i64 0] ∧ Blk w' (w.heap.size) 33 #[.int .i64 p.k, .int .i64 p.it, .int .i64 p.ok, .int .u64 p.ob, .int .i64 p.tk, .int .u64 p.tb, V1, V2, .int .i64 p.po, V3, V4, .int .u64 p.sd, .bool true, .int .i64 ev, .int .i64 nx])) (by kernel_rfl) ?_ (fun hHeld => ?_)
            · exact ⟨KS, K4⟩
            replace K4 : Blk W5.drew (w.heap.size) 33 #[.int .i64 p.k, .int .i64 p.it, .int .i64 p.ok, .int .u64 p.ob, .int .i64 p.tk, .int .u64 p.tb, V1, V2, .int .i64 p.po, V3, V4, .int .u64 p.sd, .bool true, .int .i64 ev, .int .i64 nx] := K4
            replace K8 : Blk W5.drew (w.heap.size + 2) 33 #[.int .i64 0, .int .i64 0, .int .i64 0, .int .u64 0, .int .i64 0, .int .u64 0, .slice none 0 0, .slice none 0 0, .int .i64 0, .slice none 0 0, .slice none 0 0, .int .u64 0, .bool false, .int .i64 0, .int .i64 0] := K8
            replace KS : Blk W5.drew (gS) 54 #[.int .i64 ch, .int .i64 (L + 150), .int .i64 4, .int .i64 p.ok, .int .u64 p.ob, .int .i64 0, .int .u64 0, .slice B1 p.sc.length d1, .int .u32 0, .int .u32 0, .int .i64 0, .int .i64 0, .int .i64 0, .int .i64 0, .int .i64 0, .int .u64 0, .int .i64 0, .int .i64 0, .int .i64 0] := KS
            replace BX : Below w.heap.size w W5.drew := BX.drew
            replace HS := (show Has W5.drew _ _ _ _ _ _ from HS.drew)
            replace RU := (show Row W5.drew _ _ _ _ from RU)
            generalize W5.drew = X0 at *
            refine wpAnyH_take (i := 0) (v := .agg #[.int .i64 p.k, .int .i64 p.it, .int .i64 p.ok, .int .u64 p.ob, .int .i64 p.tk, .int .u64 p.tb, V1, V2, .int .i64 p.po, V3, V4, .int .u64 p.sd, .bool true, .int .i64 ev, .int .i64 nx]) rfl (by kernel_rfl) (by kernel_rfl) (by kernel_rfl) (fun _ _ _ h => h) (Av.yields_part (by first | rfl | go_simp) _ _ rfl (w.heap.size) 0 rfl #[.int .i64 p.k, .int .i64 p.it, .int .i64 p.ok, .int .u64 p.ob, .int .i64 p.tk, .int .u64 p.tb, V1, V2, .int .i64 p.po, V3, V4, .int .u64 p.sd, .bool true, .int .i64 ev, .int .i64 nx] _ 33 #[.int .i64 p.k, .int .i64 p.it, .int .i64 p.ok, .int .u64 p.ob, .int .i64 p.tk, .int .u64 p.tb, V1, V2, .int .i64 p.po, V3, V4, .int .u64 p.sd, .bool true, .int .i64 ev, .int .i64 nx] (fun w9 hSw => hSw.2) rfl Tryd.underlying33 rfl (by kernel_rfl)) (by assumption) ?_
            simp only [List.getElem_toArray, List.getElem_cons_zero, List.getElem_cons_succ, Act.put, List.setIfInBounds_toArray, List.set_cons_zero, List.set_cons_succ]
            refine wpAnyH_take (i := 1) (v := .agg #[.int .i64 ch, .int .i64 (L + 150), .int .i64 4, .int .i64 p.ok, .int .u64 p.ob, .int .i64 0, .int .u64 0, .slice B1 p.sc.length d1, .int .u32 0, .int .u32 0, .int .i64 0, .int .i64 0, .int .i64 0, .int .i64 0, .int .i64 0, .int .u64 0, .int .i64 0, .int .i64 0, .int .i64 0]) rfl (by kernel_rfl) (by kernel_rfl) (by kernel_rfl) (fun _ _ _ h => h) (Av.yields_part (by first | rfl | go_simp) _ _ rfl (gS) 0 rfl #[.int .i64 ch, .int .i64 (L + 150), .int .i64 4, .int .i64 p.ok, .int .u64 p.ob, .int .i64 0, .int .u64 0, .slice B1 p.sc.length d1, .int .u32 0, .int .u32 0, .int .i64 0, .int .i64 0, .int .i64 0, .int .i64 0, .int .i64 0, .int .u64 0, .int .i64 0, .int .i64 0, .int .i64 0] _ 54 #[.int .i64 ch, .int .i64 (L + 150), .int .i64 4, .int .i64 p.ok, .int .u64 p.ob, .int .i64 0, .int .u64 0, .slice B1 p.sc.length d1, .int .u32 0, .int .u32 0, .int .i64 0, .int .i64 0, .int .i64 0, .int .i64 0, .int .i64 0, .int .u64 0, .int .i64 0, .int .i64 0, .int .i64 0] (fun w9 hSw => hSw.1) rfl Tryd.underlying54 rfl (by kernel_rfl)) (by assumption) ?_
            simp only [List.getElem_toArray, List.getElem_cons_zero, List.getElem_cons_succ, Act.put, List.setIfInBounds_toArray, List.set_cons_zero, List.set_cons_succ]
            refine wpAnyH_ready (rs := [2, 3]) (by kernel_rfl) (by simp) ?_
            refine AllReadyH.cons rfl (fun K hK => ?_) (AllReadyH.cons rfl (fun K hK => ?_) (AllReadyH.nil))
            · skip
              refine Av.step_build_slice rfl 42 54 1 _ rfl #[.int .i64 ch, .int .i64 (L + 150), .int .i64 4, .int .i64 p.ok, .int .u64 p.ob, .int .i64 0, .int .u64 0, .slice B1 p.sc.length d1, .int .u32 0, .int .u32 0, .int .i64 0, .int .i64 0, .int .i64 0, .int .i64 0, .int .i64 0, .int .u64 0, .int .i64 0, .int .i64 0, .int .i64 0] iEsnd _ 19 Tryd.underlying42 hisnd hzsnd hssnd (by omega) (by omega) (by kernel_rfl) ?_
              have b9 := (Below.refl X0.heap.size X0).alloc (Nat.le_refl _) (.cells #[.int .i64 ch, .int .i64 (L + 150), .int .i64 4, .int .i64 p.ok, .int .u64 p.ob, .int .i64 0, .int .u64 0, .slice B1 p.sc.length d1, .int .u32 0, .int .u32 0, .int .i64 0, .int .i64 0, .int .i64 0, .int .i64 0, .int .i64 0, .int .u64 0, .int .i64 0, .int .i64 0, .int .i64 0] 54)
              have RL : Row (X0.alloc (.cells #[.int .i64 ch, .int .i64 (L + 150), .int .i64 4, .int .i64 p.ok, .int .u64 p.ob, .int .i64 0, .int .u64 0, .slice B1 p.sc.length d1, .int .u32 0, .int .u32 0, .int .i64 0, .int .i64 0, .int .i64 0, .int .i64 0, .int .i64 0, .int .u64 0, .int .i64 0, .int .i64 0, .int .i64 0] 54)) (w.heap.size + 3) (.slice (some ⟨X0.heap.size, 0, none⟩) 1 1) 1 [.int .i64 ch, .int .i64 (L + 150), .int .i64 4, .int .i64 p.ok, .int .u64 p.ob, .int .i64 0, .int .u64 0, .slice B1 p.sc.length d1, .int .u32 0, .int .u32 0, .int .i64 0, .int .i64 0, .int .i64 0, .int .i64 0, .int .i64 0, .int .u64 0, .int .i64 0, .int .i64 0, .int .i64 0] := Row.lit (show w.heap.size + 3 ≤ X0.heap.size from K8.lt) rfl
              generalize X0.alloc (.cells #[.int .i64 ch, .int .i64 (L + 150), .int .i64 4, .int .i64 p.ok, .int .u64 p.ob, .int .i64 0, .int .u64 0, .slice B1 p.sc.length d1, .int .u32 0, .int .u32 0, .int .i64 0, .int .i64 0, .int .i64 0, .int .i64 0, .int .i64 0, .int .u64 0, .int .i64 0, .int .i64 0, .int .i64 0] 54) = X1 at *
              replace K4 := K4.below b9 K4.lt
              replace K8 := K8.below b9 K8.lt
              replace KS := KS.below b9 KS.lt
              replace BX := Base.thenB BX b9
              replace HS := HS.below b9
              replace RU := Row.below RU b9
              clear b9
              refine hK.out _ _ ⟨KS, K4⟩ (fun hHeld => ?_)
              clear hK K
              try simp only [List.getElem_toArray, List.getElem_cons_zero, List.getElem_cons_succ, Act.put, List.setIfInBounds_toArray, List.set_cons_zero, List.set_cons_succ]
              refine wpAnyH_ready (rs := [3]) (by kernel_rfl) (by simp) ?_
              refine AllReadyH.cons rfl (fun K hK => ?_) (AllReadyH.nil)
              have H9 : (#[.int .i64 p.k, .int .i64 p.it, .int .i64 p.ok, .int .u64 p.ob, .int .i64 p.tk, .int .u64 p.tb, V1, V2, .int .i64 p.po, V3, V4, .int .u64 p.sd, .bool true, .int .i64 ev, .int .i64 nx] : Array Value).all (·.oneCell') = true := by rw [← Array.all_toList]; simp only [List.all_cons, List.all_nil, oV1, oV2, oV3, oV4, Bool.and_true, Bool.and_self]; rfl
              refine Av.step_store_row rfl 33 (.tmp 8) (.tmp 55) rfl (w.heap.size + 2) #[.int .i64 p.k, .int .i64 p.it, .int .i64 p.ok, .int .u64 p.ob, .int .i64 p.tk, .int .u64 p.tb, V1, V2, .int .i64 p.po, V3, V4, .int .u64 p.sd, .bool true, .int .i64 ev, .int .i64 nx] rfl rfl 33 _ K8 (by kernel_rfl) rfl H9 ?_
              replace K4 : Blk (X1.setRow (w.heap.size + 2) #[.int .i64 p.k, .int .i64 p.it, .int .i64 p.ok, .int .u64 p.ob, .int .i64 p.tk, .int .u64 p.tb, V1, V2, .int .i64 p.po, V3, V4, .int .u64 p.sd, .bool true, .int .i64 ev, .int .i64 nx]) (w.heap.size) 33 #[.int .i64 p.k, .int .i64 p.it, .int .i64 p.ok, .int .u64 p.ob, .int .i64 p.tk, .int .u64 p.tb, V1, V2, .int .i64 p.po, V3, V4, .int .u64 p.sd, .bool true, .int .i64 ev, .int .i64 nx] := Av.bother_row K4 (by omega)
              replace K8 : Blk (X1.setRow (w.heap.size + 2) #[.int .i64 p.k, .int .i64 p.it, .int .i64 p.ok, .int .u64 p.ob, .int .i64 p.tk, .int .u64 p.tb, V1, V2, .int .i64 p.po, V3, V4, .int .u64 p.sd, .bool true, .int .i64 ev, .int .i64 nx]) (w.heap.size + 2) 33 #[.int .i64 p.k, .int .i64 p.it, .int .i64 p.ok, .int .u64 p.ob, .int .i64 p.tk, .int .u64 p.tb, V1, V2, .int .i64 p.po, V3, V4, .int .u64 p.sd, .bool true, .int .i64 ev, .int .i64 nx] := Av.bset_row K8
              replace KS : Blk (X1.setRow (w.heap.size + 2) #[.int .i64 p.k, .int .i64 p.it, .int .i64 p.ok, .int .u64 p.ob, .int .i64 p.tk, .int .u64 p.tb, V1, V2, .int .i64 p.po, V3, V4, .int .u64 p.sd, .bool true, .int .i64 ev, .int .i64 nx]) (gS) 54 #[.int .i64 ch, .int .i64 (L + 150), .int .i64 4, .int .i64 p.ok, .int .u64 p.ob, .int .i64 0, .int .u64 0, .slice B1 p.sc.length d1, .int .u32 0, .int .u32 0, .int .i64 0, .int .i64 0, .int .i64 0, .int .i64 0, .int .i64 0, .int .u64 0, .int .i64 0, .int .i64 0, .int .i64 0] := Av.bother_row KS (by omega)
              replace BX : Below w.heap.size w (X1.setRow (w.heap.size + 2) #[.int .i64 p.k, .int .i64 p.it, .int .i64 p.ok, .int .u64 p.ob, .int .i64 p.tk, .int .u64 p.tb, V1, V2, .int .i64 p.po, V3, V4, .int .u64 p.sd, .bool true, .int .i64 ev, .int .i64 nx]) := below_setRow BX (by omega) _
              replace HS := Has.farR (cs := #[.int .i64 p.k, .int .i64 p.it, .int .i64 p.ok, .int .u64 p.ob, .int .i64 p.tk, .int .u64 p.tb, V1, V2, .int .i64 p.po, V3, V4, .int .u64 p.sd, .bool true, .int .i64 ev, .int .i64 nx]) HS (show w.heap.size + 2 < w.heap.size + 3 by omega)
              replace RU := Row.farR (cs := #[.int .i64 p.k, .int .i64 p.it, .int .i64 p.ok, .int .u64 p.ob, .int .i64 p.tk, .int .u64 p.tb, V1, V2, .int .i64 p.po, V3, V4, .int .u64 p.sd, .bool true, .int .i64 ev, .int .i64 nx]) RU (show w.heap.size + 2 < w.heap.size + 3 by omega)
              replace RL := Row.farR (cs := #[.int .i64 p.k, .int .i64 p.it, .int .i64 p.ok, .int .u64 p.ob, .int .i64 p.tk, .int .u64 p.tb, V1, V2, .int .i64 p.po, V3, V4, .int .u64 p.sd, .bool true, .int .i64 ev, .int .i64 nx]) RL (show w.heap.size + 2 < w.heap.size + 3 by omega)
              clear H9
              generalize X1.setRow (w.heap.size + 2) #[.int .i64 p.k, .int .i64 p.it, .int .i64 p.ok, .int .u64 p.ob, .int .i64 p.tk, .int .u64 p.tb, V1, V2, .int .i64 p.po, V3, V4, .int .u64 p.sd, .bool true, .int .i64 ev, .int .i64 nx] = X2 at *
              refine hK.out _ _ ⟨KS, K4⟩ (fun hHeld => ?_)
              clear hK K
              try simp only [List.getElem_toArray, List.getElem_cons_zero, List.getElem_cons_succ, Act.put, List.setIfInBounds_toArray, List.set_cons_zero, List.set_cons_succ]
              refine wpAnyH_take (i := 4) (v := .slice (some ⟨X0.heap.size, 0, none⟩) 1 1) rfl (by kernel_rfl) (by kernel_rfl) (by kernel_rfl) (fun _ _ _ h => h) (Or.inl ⟨by first | rfl | go_simp, by intro w9 hSw; (try dsimp only at hSw); go_simp⟩) (by assumption) ?_
              simp only [List.getElem_toArray, List.getElem_cons_zero, List.getElem_cons_succ, Act.put, List.setIfInBounds_toArray, List.set_cons_zero, List.set_cons_succ]
              refine wpAnyH_take (i := 5) (v := .bool false) rfl (by kernel_rfl) (by kernel_rfl) (by kernel_rfl) (fun _ _ _ h => h) (Or.inl ⟨by first | rfl | go_simp, by intro w9 hSw; (try dsimp only at hSw); go_simp⟩) (by assumption) ?_
              simp only [List.getElem_toArray, List.getElem_cons_zero, List.getElem_cons_succ, Act.put, List.setIfInBounds_toArray, List.set_cons_zero, List.set_cons_succ]
              refine wpAnyH_done (by kernel_rfl) ?_ _
              go_wp2_with fail
              refine bodyPost_ret (v := .tuple #[.agg #[.int .i64 p.k, .int .i64 p.it, .int .i64 p.ok, .int .u64 p.ob, .int .i64 p.tk, .int .u64 p.tb, V1, V2, .int .i64 p.po, V3, V4, .int .u64 p.sd, .bool true, .int .i64 ev, .int .i64 nx], .slice (some ⟨X0.heap.size, 0, none⟩) 1 1, .bool false]) ?_ rfl ⟨V1, V2, V3, V4, .slice (some ⟨X0.heap.size, 0, none⟩) 1 1, by rw [HQ.out.1, HQ.out.2.2], by rw [HQ.out.1]; exact HS.less (by omega), ?_, BX⟩
              rotate_left
              · rw [HQ.out.2.1]
                refine ⟨[.slice B1 p.sc.length d1], rfl, RL.less (by omega), ?_⟩
                intro x hx
                simp only [List.zip_cons_cons, List.zip_nil_right, List.mem_cons, List.not_mem_nil, or_false] at hx
                subst hx
                exact RU.less (by omega)
              clear hHeld
              have HL := run_loadVar_row (P := Tryd.prog) X2 (w.heap.size + 2) 33 33 #[.int .i64 p.k, .int .i64 p.it, .int .i64 p.ok, .int .u64 p.ob, .int .i64 p.tk, .int .u64 p.tb, V1, V2, .int .i64 p.po, V3, V4, .int .u64 p.sd, .bool true, .int .i64 ev, .int .i64 nx] (0, 0) _ K8 Tryd.underlying33 rfl (by kernel_rfl)
              generalize (#[.int .i64 p.k, .int .i64 p.it, .int .i64 p.ok, .int .u64 p.ob, .int .i64 p.tk, .int .u64 p.tb, V1, V2, .int .i64 p.po, V3, V4, .int .u64 p.sd, .bool true, .int .i64 ev, .int .i64 nx] : Array Value) = CS at *
              simp [results, show (Tryd.f23).results = #[.cell 8 33, .slot 9, .slot 10] from rfl, asAddr, HL, Act.put]
            · skip
              have H9 : (#[.int .i64 p.k, .int .i64 p.it, .int .i64 p.ok, .int .u64 p.ob, .int .i64 p.tk, .int .u64 p.tb, V1, V2, .int .i64 p.po, V3, V4, .int .u64 p.sd, .bool true, .int .i64 ev, .int .i64 nx] : Array Value).all (·.oneCell') = true := by rw [← Array.all_toList]; simp only [List.all_cons, List.all_nil, oV1, oV2, oV3, oV4, Bool.and_true, Bool.and_self]; rfl
              refine Av.step_store_row rfl 33 (.tmp 8) (.tmp 55) rfl (w.heap.size + 2) #[.int .i64 p.k, .int .i64 p.it, .int .i64 p.ok, .int .u64 p.ob, .int .i64 p.tk, .int .u64 p.tb, V1, V2, .int .i64 p.po, V3, V4, .int .u64 p.sd, .bool true, .int .i64 ev, .int .i64 nx] rfl rfl 33 _ K8 (by kernel_rfl) rfl H9 ?_
              replace K4 : Blk (X0.setRow (w.heap.size + 2) #[.int .i64 p.k, .int .i64 p.it, .int .i64 p.ok, .int .u64 p.ob, .int .i64 p.tk, .int .u64 p.tb, V1, V2, .int .i64 p.po, V3, V4, .int .u64 p.sd, .bool true, .int .i64 ev, .int .i64 nx]) (w.heap.size) 33 #[.int .i64 p.k, .int .i64 p.it, .int .i64 p.ok, .int .u64 p.ob, .int .i64 p.tk, .int .u64 p.tb, V1, V2, .int .i64 p.po, V3, V4, .int .u64 p.sd, .bool true, .int .i64 ev, .int .i64 nx] := Av.bother_row K4 (by omega)
              replace K8 : Blk (X0.setRow (w.heap.size + 2) #[.int .i64 p.k, .int .i64 p.it, .int .i64 p.ok, .int .u64 p.ob, .int .i64 p.tk, .int .u64 p.tb, V1, V2, .int .i64 p.po, V3, V4, .int .u64 p.sd, .bool true, .int .i64 ev, .int .i64 nx]) (w.heap.size + 2) 33 #[.int .i64 p.k, .int .i64 p.it, .int .i64 p.ok, .int .u64 p.ob, .int .i64 p.tk, .int .u64 p.tb, V1, V2, .int .i64 p.po, V3, V4, .int .u64 p.sd, .bool true, .int .i64 ev, .int .i64 nx] := Av.bset_row K8
              replace KS : Blk (X0.setRow (w.heap.size + 2) #[.int .i64 p.k, .int .i64 p.it, .int .i64 p.ok, .int .u64 p.ob, .int .i64 p.tk, .int .u64 p.tb, V1, V2, .int .i64 p.po, V3, V4, .int .u64 p.sd, .bool true, .int .i64 ev, .int .i64 nx]) (gS) 54 #[.int .i64 ch, .int .i64 (L + 150), .int .i64 4, .int .i64 p.ok, .int .u64 p.ob, .int .i64 0, .int .u64 0, .slice B1 p.sc.length d1, .int .u32 0, .int .u32 0, .int .i64 0, .int .i64 0, .int .i64 0, .int .i64 0, .int .i64 0, .int .u64 0, .int .i64 0, .int .i64 0, .int .i64 0] := Av.bother_row KS (by omega)
              replace BX : Below w.heap.size w (X0.setRow (w.heap.size + 2) #[.int .i64 p.k, .int .i64 p.it, .int .i64 p.ok, .int .u64 p.ob, .int .i64 p.tk, .int .u64 p.tb, V1, V2, .int .i64 p.po, V3, V4, .int .u64 p.sd, .bool true, .int .i64 ev, .int .i64 nx]) := below_setRow BX (by omega) _
              replace HS := Has.farR (cs := #[.int .i64 p.k, .int .i64 p.it, .int .i64 p.ok, .int .u64 p.ob, .int .i64 p.tk, .int .u64 p.tb, V1, V2, .int .i64 p.po, V3, V4, .int .u64 p.sd, .bool true, .int .i64 ev, .int .i64 nx]) HS (show w.heap.size + 2 < w.heap.size + 3 by omega)
              replace RU := Row.farR (cs := #[.int .i64 p.k, .int .i64 p.it, .int .i64 p.ok, .int .u64 p.ob, .int .i64 p.tk, .int .u64 p.tb, V1, V2, .int .i64 p.po, V3, V4, .int .u64 p.sd, .bool true, .int .i64 ev, .int .i64 nx]) RU (show w.heap.size + 2 < w.heap.size + 3 by omega)
              clear H9
              generalize X0.setRow (w.heap.size + 2) #[.int .i64 p.k, .int .i64 p.it, .int .i64 p.ok, .int .u64 p.ob, .int .i64 p.tk, .int .u64 p.tb, V1, V2, .int .i64 p.po, V3, V4, .int .u64 p.sd, .bool true, .int .i64 ev, .int .i64 nx] = X3 at *
              refine hK.out _ _ ⟨KS, K4⟩ (fun hHeld => ?_)
              clear hK K
              try simp only [List.getElem_toArray, List.getElem_cons_zero, List.getElem_cons_succ, Act.put, List.setIfInBounds_toArray, List.set_cons_zero, List.set_cons_succ]
              refine wpAnyH_ready (rs := [2]) (by kernel_rfl) (by simp) ?_
              refine AllReadyH.cons rfl (fun K hK => ?_) (AllReadyH.nil)
              refine Av.step_build_slice rfl 42 54 1 _ rfl #[.int .i64 ch, .int .i64 (L + 150), .int .i64 4, .int .i64 p.ok, .int .u64 p.ob, .int .i64 0, .int .u64 0, .slice B1 p.sc.length d1, .int .u32 0, .int .u32 0, .int .i64 0, .int .i64 0, .int .i64 0, .int .i64 0, .int .i64 0, .int .u64 0, .int .i64 0, .int .i64 0, .int .i64 0] iEsnd _ 19 Tryd.underlying42 hisnd hzsnd hssnd (by omega) (by omega) (by kernel_rfl) ?_
              have b9 := (Below.refl X3.heap.size X3).alloc (Nat.le_refl _) (.cells #[.int .i64 ch, .int .i64 (L + 150), .int .i64 4, .int .i64 p.ok, .int .u64 p.ob, .int .i64 0, .int .u64 0, .slice B1 p.sc.length d1, .int .u32 0, .int .u32 0, .int .i64 0, .int .i64 0, .int .i64 0, .int .i64 0, .int .i64 0, .int .u64 0, .int .i64 0, .int .i64 0, .int .i64 0] 54)
              have RL : Row (X3.alloc (.cells #[.int .i64 ch, .int .i64 (L + 150), .int .i64 4, .int .i64 p.ok, .int .u64 p.ob, .int .i64 0, .int .u64 0, .slice B1 p.sc.length d1, .int .u32 0, .int .u32 0, .int .i64 0, .int .i64 0, .int .i64 0, .int .i64 0, .int .i64 0, .int .u64 0, .int .i64 0, .int .i64 0, .int .i64 0] 54)) (w.heap.size + 3) (.slice (some ⟨X3.heap.size, 0, none⟩) 1 1) 1 [.int .i64 ch, .int .i64 (L + 150), .int .i64 4, .int .i64 p.ok, .int .u64 p.ob, .int .i64 0, .int .u64 0, .slice B1 p.sc.length d1, .int .u32 0, .int .u32 0, .int .i64 0, .int .i64 0, .int .i64 0, .int .i64 0, .int .i64 0, .int .u64 0, .int .i64 0, .int .i64 0, .int .i64 0] := Row.lit (show w.heap.size + 3 ≤ X3.heap.size from K8.lt) rfl
              generalize X3.alloc (.cells #[.int .i64 ch, .int .i64 (L + 150), .int .i64 4, .int .i64 p.ok, .int .u64 p.ob, .int .i64 0, .int .u64 0, .slice B1 p.sc.length d1, .int .u32 0, .int .u32 0, .int .i64 0, .int .i64 0, .int .i64 0, .int .i64 0, .int .i64 0, .int .u64 0, .int .i64 0, .int .i64 0, .int .i64 0] 54) = X4 at *
              replace K4 := K4.below b9 K4.lt
              replace K8 := K8.below b9 K8.lt
              replace KS := KS.below b9 KS.lt
              replace BX := Base.thenB BX b9
              replace HS := HS.below b9
              replace RU := Row.below RU b9
              clear b9
              refine hK.out _ _ ⟨KS, K4⟩ (fun hHeld => ?_)
              clear hK K
              try simp only [List.getElem_toArray, List.getElem_cons_zero, List.getElem_cons_succ, Act.put, List.setIfInBounds_toArray, List.set_cons_zero, List.set_cons_succ]
              refine wpAnyH_take (i := 4) (v := .slice (some ⟨X3.heap.size, 0, none⟩) 1 1) rfl (by kernel_rfl) (by kernel_rfl) (by kernel_rfl) (fun _ _ _ h => h) (Or.inl ⟨by first | rfl | go_simp, by intro w9 hSw; (try dsimp only at hSw); go_simp⟩) (by assumption) ?_
              simp only [List.getElem_toArray, List.getElem_cons_zero, List.getElem_cons_succ, Act.put, List.setIfInBounds_toArray, List.set_cons_zero, List.set_cons_succ]
              refine wpAnyH_take (i := 5) (v := .bool false) rfl (by kernel_rfl) (by kernel_rfl) (by kernel_rfl) (fun _ _ _ h => h) (Or.inl ⟨by first | rfl | go_simp, by intro w9 hSw; (try dsimp only at hSw); go_simp⟩) (by assumption) ?_
              simp only [List.getElem_toArray, List.getElem_cons_zero, List.getElem_cons_succ, Act.put, List.setIfInBounds_toArray, List.set_cons_zero, List.set_cons_succ]
              refine wpAnyH_done (by kernel_rfl) ?_ _
              go_wp2_with fail
              refine bodyPost_ret (v := .tuple #[.agg #[.int .i64 p.k, .int .i64 p.it, .int .i64 p.ok, .int .u64 p.ob, .int .i64 p.tk, .int .u64 p.tb, V1, V2, .int .i64 p.po, V3, V4, .int .u64 p.sd, .bool true, .int .i64 ev, .int .i64 nx], .slice (some ⟨X3.heap.size, 0, none⟩) 1 1, .bool false]) ?_ rfl ⟨V1, V2, V3, V4, .slice (some ⟨X3.heap.size, 0, none⟩) 1 1, by rw [HQ.out.1, HQ.out.2.2], by rw [HQ.out.1]; exact HS.less (by omega), ?_, BX⟩
              rotate_left
              · rw [HQ.out.2.1]
                refine ⟨[.slice B1 p.sc.length d1], rfl, RL.less (by omega), ?_⟩
                intro x hx
                simp only [List.zip_cons_cons, List.zip_nil_right, List.mem_cons, List.not_mem_nil, or_false] at hx
                subst hx
                exact RU.less (by omega)
              clear hHeld
              have HL := run_loadVar_row (P := Tryd.prog) X4 (w.heap.size + 2) 33 33 #[.int .i64 p.k, .int .i64 p.it, .int .i64 p.ok, .int .u64 p.ob, .int .i64 p.tk, .int .u64 p.tb, V1, V2, .int .i64 p.po, V3, V4, .int .u64 p.sd, .bool true, .int .i64 ev, .int .i64 nx] (0, 0) _ K8 Tryd.underlying33 rfl (by kernel_rfl)
              generalize (#[.int .i64 p.k, .int .i64 p.it, .int .i64 p.ok, .int .u64 p.ob, .int .i64 p.tk, .int .u64 p.tb, V1, V2, .int .i64 p.po, V3, V4, .int .u64 p.sd, .bool true, .int .i64 ev, .int .i64 nx] : Array Value) = CS at *
              simp [results, show (Tryd.f23).results = #[.cell 8 33, .slot 9, .slot 10] from rfl, asAddr, HL, Act.put]
        | false =>
          have HQ := Lib.hid (HN.out (.inr ⟨by rw [HsB.out, e3]; rfl, by rw [HcB.out, e5]; rfl⟩))
          go_wp2_with (first | (refine wpList_store_row rfl 33 (.tmp 8) _ rfl (w.heap.size + 2) #[.int .i64 p.k, .int .i64 p.it, .int .i64 p.ok, .int .u64 p.ob, .int .i64 p.tk, .int .u64 p.tb, V1, V2, .int .i64 p.po, V3, V4, .int .u64 p.sd, .bool true, .int .i64 ev, .int .i64 nx] rfl rfl 33 _ K8 (by kernel_rfl) rfl H1 ?_) | (refine wpList_load_row rfl 33 (.tmp 4) rfl w.heap.size rfl 33 _ (0, 0) _ K4 Tryd.underlying33 rfl (by kernel_rfl) ?_))
          have KR : Blk (W4.setRow (w.heap.size + 2) #[.int .i64 p.k, .int .i64 p.it, .int .i64 p.ok, .int .u64 p.ob, .int .i64 p.tk, .int .u64 p.tb, V1, V2, .int .i64 p.po, V3, V4, .int .u64 p.sd, .bool true, .int .i64 ev, .int .i64 nx]) (w.heap.size + 2) 33 #[.int .i64 p.k, .int .i64 p.it, .int .i64 p.ok, .int .u64 p.ob, .int .i64 p.tk, .int .u64 p.tb, V1, V2, .int .i64 p.po, V3, V4, .int .u64 p.sd, .bool true, .int .i64 ev, .int .i64 nx] := bset_row K8
          have BE := below_setRow BX (show w.heap.size ≤ w.heap.size + 2 by omega) #[.int .i64 p.k, .int .i64 p.it, .int .i64 p.ok, .int .u64 p.ob, .int .i64 p.tk, .int .u64 p.tb, V1, V2, .int .i64 p.po, V3, V4, .int .u64 p.sd, .bool true, .int .i64 ev, .int .i64 nx]
          have HE := HS.farR (g := w.heap.size + 2) (cs := #[.int .i64 p.k, .int .i64 p.it, .int .i64 p.ok, .int .u64 p.ob, .int .i64 p.tk, .int .u64 p.tb, V1, V2, .int .i64 p.po, V3, V4, .int .u64 p.sd, .bool true, .int .i64 ev, .int .i64 nx]) (by omega)
          generalize W4.setRow (w.heap.size + 2) #[.int .i64 p.k, .int .i64 p.it, .int .i64 p.ok, .int .u64 p.ob, .int .i64 p.tk, .int .u64 p.tb, V1, V2, .int .i64 p.po, V3, V4, .int .u64 p.sd, .bool true, .int .i64 ev, .int .i64 nx] = Y at *
          refine bodyPost_ret (v := .tuple #[.agg #[.int .i64 p.k, .int .i64 p.it, .int .i64 p.ok, .int .u64 p.ob, .int .i64 p.tk, .int .u64 p.tb, V1, V2, .int .i64 p.po, V3, V4, .int .u64 p.sd, .bool true, .int .i64 ev, .int .i64 nx], .slice none 0 0, .bool false]) ?_ rfl ⟨V1, V2, V3, V4, .slice none 0 0, by rw [HQ.out.1, HQ.out.2.2], by rw [HQ.out.1]; exact HE.less (by omega), by rw [HQ.out.2.1]; exact Snds.nil _ _, BE⟩
          have HL := run_loadVar_row (P := Tryd.prog) Y (w.heap.size + 2) 33 33 #[.int .i64 p.k, .int .i64 p.it, .int .i64 p.ok, .int .u64 p.ob, .int .i64 p.tk, .int .u64 p.tb, V1, V2, .int .i64 p.po, V3, V4, .int .u64 p.sd, .bool true, .int .i64 ev, .int .i64 nx] (0, 0) _ KR Tryd.underlying33 rfl (by kernel_rfl)
          generalize (#[.int .i64 p.k, .int .i64 p.it, .int .i64 p.ok, .int .u64 p.ob, .int .i64 p.tk, .int .u64 p.tb, V1, V2, .int .i64 p.po, V3, V4, .int .u64 p.sd, .bool true, .int .i64 ev, .int .i64 nx] : Array Value) = CS at *
          simp [results, show (Tryd.f23).results = #[.cell 8 33, .slot 9, .slot 10] from rfl, asAddr, HL, Act.put]
      · have e3 : (q.k == 3) = false := by simpa using h3
        clear h3
        by_cases h5 : q.k = 5
        · have e5 : (q.k == 5) = true := by simpa using h5
          clear h5
          go_wp2_with (refine wpList_on (by rfl) (wpList_load_part rfl _ _ rfl w.heap.size 0 rfl 33 _ #[.int .i64 p.k, .int .i64 p.it, .int .i64 p.ok, .int .u64 p.ob, .int .i64 p.tk, .int .u64 p.tb, V1, V2, .int .i64 p.po, V3, V4, .int .u64 p.sd] (0, 0) _ K4 rfl Tryd.underlying29 rfl (by kernel_rfl) ?_))
          refine (HCn.out _ V1 V2 V3 V4 _ BX HS).mono ?_
          rintro e W4 ⟨rfl, b4⟩
          replace BX := thenB BX b4
          replace K4 := K4.below b4 K4.lt
          replace K5 := K5.below b4 K5.lt
          replace K8 := K8.below b4 K8.lt
          replace HS := HS.below b4
          clear b4
          clear c2 c3 d3 d4 d0 d1 d2
          cases C2 with
          | true =>
            have HQ := Lib.hid (HYc.out HME.out (by rw [HsB.out, e3]; rfl) (by rw [HcB.out, e5]; rfl))
            have c12 := K4.cell 12
            go_upto_region 9 with (refine wpList_store_cell rfl _ _ _ rfl (w.heap.size) 12 (.bool false) rfl rfl 33 _ K4 (by show 12 < 15; decide) (by kernel_rfl) rfl ?_)
            replace K8 : Blk (W4.setCell ⟨w.heap.size, 12, none⟩ (.bool false)) (w.heap.size + 2) 33 #[.int .i64 0, .int .i64 0, .int .i64 0, .int .u64 0, .int .i64 0, .int .u64 0, .slice none 0 0, .slice none 0 0, .int .i64 0, .slice none 0 0, .slice none 0 0, .int .u64 0, .bool false, .int .i64 0, .int .i64 0] := bother K8 (by omega) _
            replace K4 : Blk (W4.setCell ⟨w.heap.size, 12, none⟩ (.bool false)) (w.heap.size) 33 #[.int .i64 p.k, .int .i64 p.it, .int .i64 p.ok, .int .u64 p.ob, .int .i64 p.tk, .int .u64 p.tb, V1, V2, .int .i64 p.po, V3, V4, .int .u64 p.sd, .bool false, .int .i64 ev, .int .i64 nx] := bset K4 12 (.bool false) rfl
            replace BX : Below w.heap.size w (W4.setCell ⟨w.heap.size, 12, none⟩ (.bool false)) := BX.setCell (p := ⟨w.heap.size, 12, none⟩) (Nat.le_refl _) _
            replace HS := HS.far (g := w.heap.size) (i := 12) (x := .bool false) (by omega)
            generalize W4.setCell ⟨w.heap.size, 12, none⟩ (.bool false) = W6 at *
            have H1 : (#[.int .i64 p.k, .int .i64 p.it, .int .i64 p.ok, .int .u64 p.ob, .int .i64 p.tk, .int .u64 p.tb, V1, V2, .int .i64 p.po, V3, V4, .int .u64 p.sd, .bool false, .int .i64 ev, .int .i64 nx] : Array Value).all (·.oneCell') = true := HS.one ⟨p, false, ev, nx⟩
            clear c12
            go_wp2_with (first | (refine wpList_store_row rfl 33 (.tmp 8) _ rfl (w.heap.size + 2) #[.int .i64 p.k, .int .i64 p.it, .int .i64 p.ok, .int .u64 p.ob, .int .i64 p.tk, .int .u64 p.tb, V1, V2, .int .i64 p.po, V3, V4, .int .u64 p.sd, .bool false, .int .i64 ev, .int .i64 nx] rfl rfl 33 _ K8 (by kernel_rfl) rfl H1 ?_) | (refine wpList_load_row rfl 33 (.tmp 4) rfl w.heap.size rfl 33 _ (0, 0) _ K4 Tryd.underlying33 rfl (by kernel_rfl) ?_))
            have KR : Blk (W6.setRow (w.heap.size + 2) #[.int .i64 p.k, .int .i64 p.it, .int .i64 p.ok, .int .u64 p.ob, .int .i64 p.tk, .int .u64 p.tb, V1, V2, .int .i64 p.po, V3, V4, .int .u64 p.sd, .bool false, .int .i64 ev, .int .i64 nx]) (w.heap.size + 2) 33 #[.int .i64 p.k, .int .i64 p.it, .int .i64 p.ok, .int .u64 p.ob, .int .i64 p.tk, .int .u64 p.tb, V1, V2, .int .i64 p.po, V3, V4, .int .u64 p.sd, .bool false, .int .i64 ev, .int .i64 nx] := bset_row K8
            have BE := below_setRow BX (show w.heap.size ≤ w.heap.size + 2 by omega) #[.int .i64 p.k, .int .i64 p.it, .int .i64 p.ok, .int .u64 p.ob, .int .i64 p.tk, .int .u64 p.tb, V1, V2, .int .i64 p.po, V3, V4, .int .u64 p.sd, .bool false, .int .i64 ev, .int .i64 nx]
            have HE := HS.farR (g := w.heap.size + 2) (cs := #[.int .i64 p.k, .int .i64 p.it, .int .i64 p.ok, .int .u64 p.ob, .int .i64 p.tk, .int .u64 p.tb, V1, V2, .int .i64 p.po, V3, V4, .int .u64 p.sd, .bool false, .int .i64 ev, .int .i64 nx]) (by omega)
            generalize W6.setRow (w.heap.size + 2) #[.int .i64 p.k, .int .i64 p.it, .int .i64 p.ok, .int .u64 p.ob, .int .i64 p.tk, .int .u64 p.tb, V1, V2, .int .i64 p.po, V3, V4, .int .u64 p.sd, .bool false, .int .i64 ev, .int .i64 nx] = Y at *
            refine bodyPost_ret (v := .tuple #[.agg #[.int .i64 p.k, .int .i64 p.it, .int .i64 p.ok, .int .u64 p.ob, .int .i64 p.tk, .int .u64 p.tb, V1, V2, .int .i64 p.po, V3, V4, .int .u64 p.sd, .bool false, .int .i64 ev, .int .i64 nx], .slice none 0 0, .bool true]) ?_ rfl ⟨V1, V2, V3, V4, .slice none 0 0, by rw [HQ.out.1, HQ.out.2.2], by rw [HQ.out.1]; exact HE.less (by omega), by rw [HQ.out.2.1]; exact Snds.nil _ _, BE⟩
            have HL := run_loadVar_row (P := Tryd.prog) Y (w.heap.size + 2) 33 33 #[.int .i64 p.k, .int .i64 p.it, .int .i64 p.ok, .int .u64 p.ob, .int .i64 p.tk, .int .u64 p.tb, V1, V2, .int .i64 p.po, V3, V4, .int .u64 p.sd, .bool false, .int .i64 ev, .int .i64 nx] (0, 0) _ KR Tryd.underlying33 rfl (by kernel_rfl)
            generalize (#[.int .i64 p.k, .int .i64 p.it, .int .i64 p.ok, .int .u64 p.ob, .int .i64 p.tk, .int .u64 p.tb, V1, V2, .int .i64 p.po, V3, V4, .int .u64 p.sd, .bool false, .int .i64 ev, .int .i64 nx] : Array Value) = CS at *
            simp [results, show (Tryd.f23).results = #[.cell 8 33, .slot 9, .slot 10] from rfl, asAddr, HL, Act.put]
          | false =>
            have HQ := Lib.hid (HN.out (.inr ⟨by rw [HsB.out, e3]; rfl, by rw [HcB.out, e5]; rfl⟩))
            go_wp2_with (first | (refine wpList_store_row rfl 33 (.tmp 8) _ rfl (w.heap.size + 2) #[.int .i64 p.k, .int .i64 p.it, .int .i64 p.ok, .int .u64 p.ob, .int .i64 p.tk, .int .u64 p.tb, V1, V2, .int .i64 p.po, V3, V4, .int .u64 p.sd, .bool true, .int .i64 ev, .int .i64 nx] rfl rfl 33 _ K8 (by kernel_rfl) rfl H1 ?_) | (refine wpList_load_row rfl 33 (.tmp 4) rfl w.heap.size rfl 33 _ (0, 0) _ K4 Tryd.underlying33 rfl (by kernel_rfl) ?_))
            have KR : Blk (W4.setRow (w.heap.size + 2) #[.int .i64 p.k, .int .i64 p.it, .int .i64 p.ok, .int .u64 p.ob, .int .i64 p.tk, .int .u64 p.tb, V1, V2, .int .i64 p.po, V3, V4, .int .u64 p.sd, .bool true, .int .i64 ev, .int .i64 nx]) (w.heap.size + 2) 33 #[.int .i64 p.k, .int .i64 p.it, .int .i64 p.ok, .int .u64 p.ob, .int .i64 p.tk, .int .u64 p.tb, V1, V2, .int .i64 p.po, V3, V4, .int .u64 p.sd, .bool true, .int .i64 ev, .int .i64 nx] := bset_row K8
            have BE := below_setRow BX (show w.heap.size ≤ w.heap.size + 2 by omega) #[.int .i64 p.k, .int .i64 p.it, .int .i64 p.ok, .int .u64 p.ob, .int .i64 p.tk, .int .u64 p.tb, V1, V2, .int .i64 p.po, V3, V4, .int .u64 p.sd, .bool true, .int .i64 ev, .int .i64 nx]
            have HE := HS.farR (g := w.heap.size + 2) (cs := #[.int .i64 p.k, .int .i64 p.it, .int .i64 p.ok, .int .u64 p.ob, .int .i64 p.tk, .int .u64 p.tb, V1, V2, .int .i64 p.po, V3, V4, .int .u64 p.sd, .bool true, .int .i64 ev, .int .i64 nx]) (by omega)
            generalize W4.setRow (w.heap.size + 2) #[.int .i64 p.k, .int .i64 p.it, .int .i64 p.ok, .int .u64 p.ob, .int .i64 p.tk, .int .u64 p.tb, V1, V2, .int .i64 p.po, V3, V4, .int .u64 p.sd, .bool true, .int .i64 ev, .int .i64 nx] = Y at *
            refine bodyPost_ret (v := .tuple #[.agg #[.int .i64 p.k, .int .i64 p.it, .int .i64 p.ok, .int .u64 p.ob, .int .i64 p.tk, .int .u64 p.tb, V1, V2, .int .i64 p.po, V3, V4, .int .u64 p.sd, .bool true, .int .i64 ev, .int .i64 nx], .slice none 0 0, .bool false]) ?_ rfl ⟨V1, V2, V3, V4, .slice none 0 0, by rw [HQ.out.1, HQ.out.2.2], by rw [HQ.out.1]; exact HE.less (by omega), by rw [HQ.out.2.1]; exact Snds.nil _ _, BE⟩
            have HL := run_loadVar_row (P := Tryd.prog) Y (w.heap.size + 2) 33 33 #[.int .i64 p.k, .int .i64 p.it, .int .i64 p.ok, .int .u64 p.ob, .int .i64 p.tk, .int .u64 p.tb, V1, V2, .int .i64 p.po, V3, V4, .int .u64 p.sd, .bool true, .int .i64 ev, .int .i64 nx] (0, 0) _ KR Tryd.underlying33 rfl (by kernel_rfl)
            generalize (#[.int .i64 p.k, .int .i64 p.it, .int .i64 p.ok, .int .u64 p.ob, .int .i64 p.tk, .int .u64 p.tb, V1, V2, .int .i64 p.po, V3, V4, .int .u64 p.sd, .bool true, .int .i64 ev, .int .i64 nx] : Array Value) = CS at *
            simp [results, show (Tryd.f23).results = #[.cell 8 33, .slot 9, .slot 10] from rfl, asAddr, HL, Act.put]
        · have e5 : (q.k == 5) = false := by simpa using h5
          have HQ := Lib.hid (HN.out (.inr ⟨by rw [HsB.out, e3]; rfl, by rw [HcB.out, e5]; rfl⟩))
          clear h5
          go_wp2_with (first | (refine wpList_store_row rfl 33 (.tmp 8) _ rfl (w.heap.size + 2) #[.int .i64 p.k, .int .i64 p.it, .int .i64 p.ok, .int .u64 p.ob, .int .i64 p.tk, .int .u64 p.tb, V1, V2, .int .i64 p.po, V3, V4, .int .u64 p.sd, .bool true, .int .i64 ev, .int .i64 nx] rfl rfl 33 _ K8 (by kernel_rfl) rfl H1 ?_) | (refine wpList_load_row rfl 33 (.tmp 4) rfl w.heap.size rfl 33 _ (0, 0) _ K4 Tryd.underlying33 rfl (by kernel_rfl) ?_))
          have KR : Blk (W3.setRow (w.heap.size + 2) #[.int .i64 p.k, .int .i64 p.it, .int .i64 p.ok, .int .u64 p.ob, .int .i64 p.tk, .int .u64 p.tb, V1, V2, .int .i64 p.po, V3, V4, .int .u64 p.sd, .bool true, .int .i64 ev, .int .i64 nx]) (w.heap.size + 2) 33 #[.int .i64 p.k, .int .i64 p.it, .int .i64 p.ok, .int .u64 p.ob, .int .i64 p.tk, .int .u64 p.tb, V1, V2, .int .i64 p.po, V3, V4, .int .u64 p.sd, .bool true, .int .i64 ev, .int .i64 nx] := bset_row K8
          have BE := below_setRow BX (show w.heap.size ≤ w.heap.size + 2 by omega) #[.int .i64 p.k, .int .i64 p.it, .int .i64 p.ok, .int .u64 p.ob, .int .i64 p.tk, .int .u64 p.tb, V1, V2, .int .i64 p.po, V3, V4, .int .u64 p.sd, .bool true, .int .i64 ev, .int .i64 nx]
          have HE := HS.farR (g := w.heap.size + 2) (cs := #[.int .i64 p.k, .int .i64 p.it, .int .i64 p.ok, .int .u64 p.ob, .int .i64 p.tk, .int .u64 p.tb, V1, V2, .int .i64 p.po, V3, V4, .int .u64 p.sd, .bool true, .int .i64 ev, .int .i64 nx]) (by omega)
          generalize W3.setRow (w.heap.size + 2) #[.int .i64 p.k, .int .i64 p.it, .int .i64 p.ok, .int .u64 p.ob, .int .i64 p.tk, .int .u64 p.tb, V1, V2, .int .i64 p.po, V3, V4, .int .u64 p.sd, .bool true, .int .i64 ev, .int .i64 nx] = Y at *
          refine bodyPost_ret (v := .tuple #[.agg #[.int .i64 p.k, .int .i64 p.it, .int .i64 p.ok, .int .u64 p.ob, .int .i64 p.tk, .int .u64 p.tb, V1, V2, .int .i64 p.po, V3, V4, .int .u64 p.sd, .bool true, .int .i64 ev, .int .i64 nx], .slice none 0 0, .bool false]) ?_ rfl ⟨V1, V2, V3, V4, .slice none 0 0, by rw [HQ.out.1, HQ.out.2.2], by rw [HQ.out.1]; exact HE.less (by omega), by rw [HQ.out.2.1]; exact Snds.nil _ _, BE⟩
          have HL := run_loadVar_row (P := Tryd.prog) Y (w.heap.size + 2) 33 33 #[.int .i64 p.k, .int .i64 p.it, .int .i64 p.ok, .int .u64 p.ob, .int .i64 p.tk, .int .u64 p.tb, V1, V2, .int .i64 p.po, V3, V4, .int .u64 p.sd, .bool true, .int .i64 ev, .int .i64 nx] (0, 0) _ KR Tryd.underlying33 rfl (by kernel_rfl)
          generalize (#[.int .i64 p.k, .int .i64 p.it, .int .i64 p.ok, .int .u64 p.ob, .int .i64 p.tk, .int .u64 p.tb, V1, V2, .int .i64 p.po, V3, V4, .int .u64 p.sd, .bool true, .int .i64 ev, .int .i64 nx] : Array Value) = CS at *
          simp [results, show (Tryd.f23).results = #[.cell 8 33, .slot 9, .slot 10] from rfl, asAddr, HL, Act.put]
    · rw [decide_eq_false hM] at q1
      have HQ := Lib.hid (HN.out (.inl (by rw [HMe.out, decide_eq_false hM]; simp)))
      clear hM
      go_wp2_with (first | (refine wpList_store_row rfl 33 (.tmp 8) _ rfl (w.heap.size + 2) #[.int .i64 p.k, .int .i64 p.it, .int .i64 p.ok, .int .u64 p.ob, .int .i64 p.tk, .int .u64 p.tb, V1, V2, .int .i64 p.po, V3, V4, .int .u64 p.sd, .bool true, .int .i64 ev, .int .i64 nx] rfl rfl 33 _ K8 (by kernel_rfl) rfl H1 ?_) | (refine wpList_load_row rfl 33 (.tmp 4) rfl w.heap.size rfl 33 _ (0, 0) _ K4 Tryd.underlying33 rfl (by kernel_rfl) ?_))
      have KR : Blk (W3.setRow (w.heap.size + 2) #[.int .i64 p.k, .int .i64 p.it, .int .i64 p.ok, .int .u64 p.ob, .int .i64 p.tk, .int .u64 p.tb, V1, V2, .int .i64 p.po, V3, V4, .int .u64 p.sd, .bool true, .int .i64 ev, .int .i64 nx]) (w.heap.size + 2) 33 #[.int .i64 p.k, .int .i64 p.it, .int .i64 p.ok, .int .u64 p.ob, .int .i64 p.tk, .int .u64 p.tb, V1, V2, .int .i64 p.po, V3, V4, .int .u64 p.sd, .bool true, .int .i64 ev, .int .i64 nx] := bset_row K8
      have BE := below_setRow BX (show w.heap.size ≤ w.heap.size + 2 by omega) #[.int .i64 p.k, .int .i64 p.it, .int .i64 p.ok, .int .u64 p.ob, .int .i64 p.tk, .int .u64 p.tb, V1, V2, .int .i64 p.po, V3, V4, .int .u64 p.sd, .bool true, .int .i64 ev, .int .i64 nx]
      have HE := HS.farR (g := w.heap.size + 2) (cs := #[.int .i64 p.k, .int .i64 p.it, .int .i64 p.ok, .int .u64 p.ob, .int .i64 p.tk, .int .u64 p.tb, V1, V2, .int .i64 p.po, V3, V4, .int .u64 p.sd, .bool true, .int .i64 ev, .int .i64 nx]) (by omega)
      generalize W3.setRow (w.heap.size + 2) #[.int .i64 p.k, .int .i64 p.it, .int .i64 p.ok, .int .u64 p.ob, .int .i64 p.tk, .int .u64 p.tb, V1, V2, .int .i64 p.po, V3, V4, .int .u64 p.sd, .bool true, .int .i64 ev, .int .i64 nx] = Y at *
      refine bodyPost_ret (v := .tuple #[.agg #[.int .i64 p.k, .int .i64 p.it, .int .i64 p.ok, .int .u64 p.ob, .int .i64 p.tk, .int .u64 p.tb, V1, V2, .int .i64 p.po, V3, V4, .int .u64 p.sd, .bool true, .int .i64 ev, .int .i64 nx], .slice none 0 0, .bool false]) ?_ rfl ⟨V1, V2, V3, V4, .slice none 0 0, by rw [HQ.out.1, HQ.out.2.2], by rw [HQ.out.1]; exact HE.less (by omega), by rw [HQ.out.2.1]; exact Snds.nil _ _, BE⟩
      have HL := run_loadVar_row (P := Tryd.prog) Y (w.heap.size + 2) 33 33 #[.int .i64 p.k, .int .i64 p.it, .int .i64 p.ok, .int .u64 p.ob, .int .i64 p.tk, .int .u64 p.tb, V1, V2, .int .i64 p.po, V3, V4, .int .u64 p.sd, .bool true, .int .i64 ev, .int .i64 nx] (0, 0) _ KR Tryd.underlying33 rfl (by kernel_rfl)
      generalize (#[.int .i64 p.k, .int .i64 p.it, .int .i64 p.ok, .int .u64 p.ob, .int .i64 p.tk, .int .u64 p.tb, V1, V2, .int .i64 p.po, V3, V4, .int .u64 p.sd, .bool true, .int .i64 ev, .int .i64 nx] : Array Value) = CS at *
      simp [results, show (Tryd.f23).results = #[.cell 8 33, .slot 9, .slot 10] from rfl, asAddr, HL, Act.put]
  · have g3 : (E != 0) = true := by simpa using hE
    have HQ := Lib.hid (HN.out (.inl (by rw [HMe.out, decide_eq_false hE]; simp)))
    clear hE
    go_wp2_with (first | (refine wpList_store_row rfl 33 (.tmp 8) _ rfl (w.heap.size + 2) #[.int .i64 p.k, .int .i64 p.it, .int .i64 p.ok, .int .u64 p.ob, .int .i64 p.tk, .int .u64 p.tb, V1, V2, .int .i64 p.po, V3, V4, .int .u64 p.sd, .bool true, .int .i64 ev, .int .i64 nx] rfl rfl 33 _ K8 (by kernel_rfl) rfl H1 ?_) | (refine wpList_load_row rfl 33 (.tmp 4) rfl w.heap.size rfl 33 _ (0, 0) _ K4 Tryd.underlying33 rfl (by kernel_rfl) ?_))
    have KR : Blk (W3.setRow (w.heap.size + 2) #[.int .i64 p.k, .int .i64 p.it, .int .i64 p.ok, .int .u64 p.ob, .int .i64 p.tk, .int .u64 p.tb, V1, V2, .int .i64 p.po, V3, V4, .int .u64 p.sd, .bool true, .int .i64 ev, .int .i64 nx]) (w.heap.size + 2) 33 #[.int .i64 p.k, .int .i64 p.it, .int .i64 p.ok, .int .u64 p.ob, .int .i64 p.tk, .int .u64 p.tb, V1, V2, .int .i64 p.po, V3, V4, .int .u64 p.sd, .bool true, .int .i64 ev, .int .i64 nx] := bset_row K8
    have BE := below_setRow BX (show w.heap.size ≤ w.heap.size + 2 by omega) #[.int .i64 p.k, .int .i64 p.it, .int .i64 p.ok, .int .u64 p.ob, .int .i64 p.tk, .int .u64 p.tb, V1, V2, .int .i64 p.po, V3, V4, .int .u64 p.sd, .bool true, .int .i64 ev, .int .i64 nx]
    have HE := HS.farR (g := w.heap.size + 2) (cs := #[.int .i64 p.k, .int .i64 p.it, .int .i64 p.ok, .int .u64 p.ob, .int .i64 p.tk, .int .u64 p.tb, V1, V2, .int .i64 p.po, V3, V4, .int .u64 p.sd, .bool true, .int .i64 ev, .int .i64 nx]) (by omega)
    generalize W3.setRow (w.heap.size + 2) #[.int .i64 p.k, .int .i64 p.it, .int .i64 p.ok, .int .u64 p.ob, .int .i64 p.tk, .int .u64 p.tb, V1, V2, .int .i64 p.po, V3, V4, .int .u64 p.sd, .bool true, .int .i64 ev, .int .i64 nx] = Y at *
    refine bodyPost_ret (v := .tuple #[.agg #[.int .i64 p.k, .int .i64 p.it, .int .i64 p.ok, .int .u64 p.ob, .int .i64 p.tk, .int .u64 p.tb, V1, V2, .int .i64 p.po, V3, V4, .int .u64 p.sd, .bool true, .int .i64 ev, .int .i64 nx], .slice none 0 0, .bool false]) ?_ rfl ⟨V1, V2, V3, V4, .slice none 0 0, by rw [HQ.out.1, HQ.out.2.2], by rw [HQ.out.1]; exact HE.less (by omega), by rw [HQ.out.2.1]; exact Snds.nil _ _, BE⟩
    have HL := run_loadVar_row (P := Tryd.prog) Y (w.heap.size + 2) 33 33 #[.int .i64 p.k, .int .i64 p.it, .int .i64 p.ok, .int .u64 p.ob, .int .i64 p.tk, .int .u64 p.tb, V1, V2, .int .i64 p.po, V3, V4, .int .u64 p.sd, .bool true, .int .i64 ev, .int .i64 nx] (0, 0) _ KR Tryd.underlying33 rfl (by kernel_rfl)
    generalize (#[.int .i64 p.k, .int .i64 p.it, .int .i64 p.ok, .int .u64 p.ob, .int .i64 p.tk, .int .u64 p.tb, V1, V2, .int .i64 p.po, V3, V4, .int .u64 p.sd, .bool true, .int .i64 ev, .int .i64 nx] : Array Value) = CS at *
    simp [results, show (Tryd.f23).results = #[.cell 8 33, .slot 9, .slot 10] from rfl, asAddr, HL, Act.put]
end Go.Proofs.YtcbliliinmfnjaaDoor.Av
