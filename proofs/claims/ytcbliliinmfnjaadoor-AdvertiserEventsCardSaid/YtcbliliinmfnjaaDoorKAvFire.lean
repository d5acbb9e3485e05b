/- Advertisers: an event that is due, by the layer: contracts over the program. -/
import Derived.Test.YtcbliliinmfnjaaDoorKAvFire1
set_option linter.unusedVariables false
set_option linter.unusedSimpArgs false
namespace Go.Proofs.YtcbliliinmfnjaaDoor.Av
open Go.RowKit Mem Oct Rw Ap Ace Prv
open Base (thenB)

/-- What Fire returns. -/
def FirR (w w' : World) (e : Ending) (a : Ad) (l : List Sd) : Prop := ∃ VD VS VA VI V, e = .returned (.tuple #[.agg (vcel a VD VS VA VI), V]) ∧ Has w' w.heap.size a.p VD VS VA VI ∧ Snds w' w.heap.size V l ∧ Below w.heap.size w w'
theorem fire_yes {a : Ad} {l : Int} (h : fires a l = true) : fireA a l = ⟨a.p, a.on, a.ev + 1, plc l + a.p.it * 625 + delZ a.p.sd a.ev⟩ ∧ fireS a l = [⟨37, plc l, annP a.p⟩, ⟨38, plc l + 1000, annP a.p⟩, ⟨39, plc l + 2000, annP a.p⟩] := by
  unfold fireA fireS; rw [if_pos h, if_pos h]; exact ⟨rfl, rfl⟩
theorem fire_no {a : Ad} {l : Int} (h : fires a l = false) : fireA a l = a ∧ fireS a l = [] := by
  unfold fireA fireS; rw [if_neg (by rw [h]; simp), if_neg (by rw [h]; simp)]; exact ⟨rfl, rfl⟩
set_option maxRecDepth 100000 in
set_option maxHeartbeats 4000000 in
theorem fire_any (a : Ad) (VD VS VA VI : Value) (l : Int) (m : Nat) (w : World) (hW : PW a.p) (hH : Has w m a.p VD VS VA VI) (hit : 0 ≤ a.p.it ∧ a.p.it ≤ 16384) (hev : 0 ≤ a.ev ∧ a.ev ≤ 1000000) :
    Calls Tryd.prog 20 #[.agg (vcel a VD VS VA VI), .int .i64 l] w fun e w' => FirR w w' e (fireA a l) (fireS a l) := by
  obtain ⟨p, on, ev, nx⟩ := a
  simp only at hW hH hit hev
  obtain ⟨iEsnd, hisnd, hzsnd, hssnd, hbsnd, hcsnd⟩ := info_parts2 info_snd rfl
  have BX : Below w.heap.size w ((w.alloc (.cells #[.int .i64 p.k, .int .i64 p.it, .int .i64 p.ok, .int .u64 p.ob, .int .i64 p.tk, .int .u64 p.tb, VD, VS, .int .i64 p.po, VA, VI, .int .u64 p.sd, .bool on, .int .i64 ev, .int .i64 nx] 33)).alloc (.cells #[.int .i64 0, .int .i64 0, .int .i64 0, .int .u64 0, .int .i64 0, .int .u64 0, .slice none 0 0, .slice none 0 0, .int .i64 0, .slice none 0 0, .slice none 0 0, .int .u64 0, .bool false, .int .i64 0, .int .i64 0] 33)) := ((Below.refl _ _).alloc (Nat.le_refl _) _).alloc (by simp) _
  have K1 : Blk ((w.alloc (.cells #[.int .i64 p.k, .int .i64 p.it, .int .i64 p.ok, .int .u64 p.ob, .int .i64 p.tk, .int .u64 p.tb, VD, VS, .int .i64 p.po, VA, VI, .int .u64 p.sd, .bool on, .int .i64 ev, .int .i64 nx] 33)).alloc (.cells #[.int .i64 0, .int .i64 0, .int .i64 0, .int .u64 0, .int .i64 0, .int .u64 0, .slice none 0 0, .slice none 0 0, .int .i64 0, .slice none 0 0, .slice none 0 0, .int .u64 0, .bool false, .int .i64 0, .int .i64 0] 33)) (w.heap.size) 33 #[.int .i64 p.k, .int .i64 p.it, .int .i64 p.ok, .int .u64 p.ob, .int .i64 p.tk, .int .u64 p.tb, VD, VS, .int .i64 p.po, VA, VI, .int .u64 p.sd, .bool on, .int .i64 ev, .int .i64 nx] := (Blk.fresh w 33 #[.int .i64 p.k, .int .i64 p.it, .int .i64 p.ok, .int .u64 p.ob, .int .i64 p.tk, .int .u64 p.tb, VD, VS, .int .i64 p.po, VA, VI, .int .u64 p.sd, .bool on, .int .i64 ev, .int .i64 nx]).alloc _
  have K2 : Blk ((w.alloc (.cells #[.int .i64 p.k, .int .i64 p.it, .int .i64 p.ok, .int .u64 p.ob, .int .i64 p.tk, .int .u64 p.tb, VD, VS, .int .i64 p.po, VA, VI, .int .u64 p.sd, .bool on, .int .i64 ev, .int .i64 nx] 33)).alloc (.cells #[.int .i64 0, .int .i64 0, .int .i64 0, .int .u64 0, .int .i64 0, .int .u64 0, .slice none 0 0, .slice none 0 0, .int .i64 0, .slice none 0 0, .slice none 0 0, .int .u64 0, .bool false, .int .i64 0, .int .i64 0] 33)) (w.heap.size + 1) 33 #[.int .i64 0, .int .i64 0, .int .i64 0, .int .u64 0, .int .i64 0, .int .u64 0, .slice none 0 0, .slice none 0 0, .int .i64 0, .slice none 0 0, .slice none 0 0, .int .u64 0, .bool false, .int .i64 0, .int .i64 0] := Av.Blk.next
  have HC : Hid (∀ X, Below w.heap.size w X → Calls Tryd.prog 41 #[.agg (vcel ⟨p, on, ev, nx⟩ VD VS VA VI)] X fun e w' => AdvR X w' e ⟨p, on, ev, nx⟩) := Lib.hid fun X b => copied_any ⟨p, on, ev, nx⟩ _ _ _ _ m X hW (hH.below b)
  have HM := Lib.hid (fun X => moment_any l X)
  have HDl := Lib.hid (fun X => delay_any p.sd ev X hW.hsd)
  have hdl := delZ_bd p.sd ev
  have hpl := plc_bd l
  have HY := Lib.hid (@fire_yes ⟨p, on, ev, nx⟩ l)
  have HN := Lib.hid (@fire_no ⟨p, on, ev, nx⟩ l)
  have HFi : Hid (fires ⟨p, on, ev, nx⟩ l = (on && !decide (plc l < nx))) := Lib.hid rfl
  generalize fires ⟨p, on, ev, nx⟩ l = FI at *
  generalize fireA ⟨p, on, ev, nx⟩ l = RA at *
  generalize fireS ⟨p, on, ev, nx⟩ l = RS at *
  generalize plc l = L at *
  generalize delZ p.sd ev = DL at *
  have HF : Hid (∀ (I : Int) (X : World) (g6 : Nat) (U1 U2 U3 U4 : Value) (mm : Nat), 0 ≤ I ∧ I ≤ 2 → g6 ≠ w.heap.size → Blk X g6 3 #[.int .i64 L] → Blk X w.heap.size 33 (vcel ⟨p, on, ev + 1, L + p.it * 625 + DL⟩ U1 U2 U3 U4) → Has X mm p U1 U2 U3 U4 → Calls Tryd.prog 51 #[.int .i64 I, .pointer (some ⟨g6, 0, none⟩), .pointer (some ⟨w.heap.size, 0, none⟩)] X fun e w' => ∃ V, e = .returned (.agg (encD (⟨37 + I, L + I * 1000, annP p⟩, V)).toArray) ∧ Row w' X.heap.size V p.ds.length (p.ds.map (Value.int .u8)) ∧ Below X.heap.size X w') :=
    Lib.hid fun I X g6 U1 U2 U3 U4 mm hI hne k6 k2 hh => fire1_any I L g6 w.heap.size ⟨p, on, ev + 1, L + p.it * 625 + DL⟩ U1 U2 U3 U4 mm X hI hpl hne k6 k2 hW hh
  clear hW hH
  go_enter Tryd.func20, Tryd.ntmps20
  go_wp2_with (refine wpList_load_row rfl 33 (.tmp 2) rfl (w.heap.size) rfl 33 _ (0, 0) _ K1 Tryd.underlying33 rfl (by kernel_rfl) ?_)
  generalize (w.alloc (.cells #[.int .i64 p.k, .int .i64 p.it, .int .i64 p.ok, .int .u64 p.ob, .int .i64 p.tk, .int .u64 p.tb, VD, VS, .int .i64 p.po, VA, VI, .int .u64 p.sd, .bool on, .int .i64 ev, .int .i64 nx] 33)).alloc (.cells #[.int .i64 0, .int .i64 0, .int .i64 0, .int .u64 0, .int .i64 0, .int .u64 0, .slice none 0 0, .slice none 0 0, .int .i64 0, .slice none 0 0, .slice none 0 0, .int .u64 0, .bool false, .int .i64 0, .int .i64 0] 33) = W0 at *
  refine (HC.out W0 BX).mono ?_
  rintro e W1 ⟨V1, V2, V3, V4, rfl, HS, b1⟩
  replace HS := HS.less (show w.heap.size + 2 ≤ W0.heap.size from K2.lt)
  replace BX := thenB BX b1
  replace K1 := K1.below b1 K1.lt
  replace K2 := K2.below b1 K2.lt
  clear b1
  have H1 : (#[.int .i64 p.k, .int .i64 p.it, .int .i64 p.ok, .int .u64 p.ob, .int .i64 p.tk, .int .u64 p.tb, V1, V2, .int .i64 p.po, V3, V4, .int .u64 p.sd, .bool on, .int .i64 ev, .int .i64 nx] : Array Value).all (·.oneCell') = true := HS.one ⟨p, on, ev, nx⟩
  go_upto_region 2 with (refine wpList_store_row rfl 33 (.tmp 2) _ rfl (w.heap.size) #[.int .i64 p.k, .int .i64 p.it, .int .i64 p.ok, .int .u64 p.ob, .int .i64 p.tk, .int .u64 p.tb, V1, V2, .int .i64 p.po, V3, V4, .int .u64 p.sd, .bool on, .int .i64 ev, .int .i64 nx] rfl rfl 33 _ K1 (by kernel_rfl) rfl H1 ?_)
  have K2 : Blk (W1.setRow (w.heap.size) #[.int .i64 p.k, .int .i64 p.it, .int .i64 p.ok, .int .u64 p.ob, .int .i64 p.tk, .int .u64 p.tb, V1, V2, .int .i64 p.po, V3, V4, .int .u64 p.sd, .bool on, .int .i64 ev, .int .i64 nx]) (w.heap.size + 1) 33 #[.int .i64 0, .int .i64 0, .int .i64 0, .int .u64 0, .int .i64 0, .int .u64 0, .slice none 0 0, .slice none 0 0, .int .i64 0, .slice none 0 0, .slice none 0 0, .int .u64 0, .bool false, .int .i64 0, .int .i64 0] := bother_row K2 (by omega)
  have K1 : Blk (W1.setRow (w.heap.size) #[.int .i64 p.k, .int .i64 p.it, .int .i64 p.ok, .int .u64 p.ob, .int .i64 p.tk, .int .u64 p.tb, V1, V2, .int .i64 p.po, V3, V4, .int .u64 p.sd, .bool on, .int .i64 ev, .int .i64 nx]) (w.heap.size) 33 #[.int .i64 p.k, .int .i64 p.it, .int .i64 p.ok, .int .u64 p.ob, .int .i64 p.tk, .int .u64 p.tb, V1, V2, .int .i64 p.po, V3, V4, .int .u64 p.sd, .bool on, .int .i64 ev, .int .i64 nx] := bset_row K1
  replace BX := below_setRow BX (Nat.le_refl _) #[.int .i64 p.k, .int .i64 p.it, .int .i64 p.ok, .int .u64 p.ob, .int .i64 p.tk, .int .u64 p.tb, V1, V2, .int .i64 p.po, V3, V4, .int .u64 p.sd, .bool on, .int .i64 ev, .int .i64 nx]
  have HS := HS.farR (g := w.heap.size) (cs := #[.int .i64 p.k, .int .i64 p.it, .int .i64 p.ok, .int .u64 p.ob, .int .i64 p.tk, .int .u64 p.tb, V1, V2, .int .i64 p.po, V3, V4, .int .u64 p.sd, .bool on, .int .i64 ev, .int .i64 nx]) (by omega)
  generalize W1.setRow (w.heap.size) #[.int .i64 p.k, .int .i64 p.it, .int .i64 p.ok, .int .u64 p.ob, .int .i64 p.tk, .int .u64 p.tb, V1, V2, .int .i64 p.po, V3, V4, .int .u64 p.sd, .bool on, .int .i64 ev, .int .i64 nx] = W2 at *
  go_upto_region 3 with (go_at_call 42; refine (HM.out _).mono ?_; rintro e w1 ⟨rfl, rfl⟩)
  have l6 : w.heap.size + 2 ≤ W2.heap.size := K2.lt
  have K6 : Blk (W2.alloc (.cells #[.int .i64 L] 3)) W2.heap.size 3 #[.int .i64 L] := Blk.fresh W2 3 #[.int .i64 L]
  have K1 : Blk (W2.alloc (.cells #[.int .i64 L] 3)) (w.heap.size) 33 #[.int .i64 p.k, .int .i64 p.it, .int .i64 p.ok, .int .u64 p.ob, .int .i64 p.tk, .int .u64 p.tb, V1, V2, .int .i64 p.po, V3, V4, .int .u64 p.sd, .bool on, .int .i64 ev, .int .i64 nx] := K1.alloc _
  have K2 : Blk (W2.alloc (.cells #[.int .i64 L] 3)) (w.heap.size + 1) 33 #[.int .i64 0, .int .i64 0, .int .i64 0, .int .u64 0, .int .i64 0, .int .u64 0, .slice none 0 0, .slice none 0 0, .int .i64 0, .slice none 0 0, .slice none 0 0, .int .u64 0, .bool false, .int .i64 0, .int .i64 0] := K2.alloc _
  have BX : Below w.heap.size w (W2.alloc (.cells #[.int .i64 L] 3)) := BX.alloc BX.size _
  have HS : Has (W2.alloc (.cells #[.int .i64 L] 3)) (w.heap.size + 2) p V1 V2 V3 V4 := HS.alloc _
  generalize W2.alloc (.cells #[.int .i64 L] 3) = W3 at *
  generalize W2.heap.size = g6 at *
  have oV1 := HS.d.one
  have oV2 := HS.s.one
  have oV3 := HS.a.one
  have oV4 := HS.i.one
  have c12 := K1.cell 12
  have c14 := K1.cell 14
  have d0 := K6.cell 0
  cases on with
  | false =>
    have HQ := Lib.hid (HN.out (by rw [HFi.out]; rfl))
    go_wp2_with (first | (refine wpList_store_row rfl 33 (.tmp 4) _ rfl (w.heap.size + 1) #[.int .i64 p.k, .int .i64 p.it, .int .i64 p.ok, .int .u64 p.ob, .int .i64 p.tk, .int .u64 p.tb, V1, V2, .int .i64 p.po, V3, V4, .int .u64 p.sd, .bool false, .int .i64 ev, .int .i64 nx] rfl rfl 33 _ K2 (by kernel_rfl) rfl H1 ?_) | (refine wpList_load_row rfl 33 (.tmp 2) rfl w.heap.size rfl 33 _ (0, 0) _ K1 Tryd.underlying33 rfl (by kernel_rfl) ?_))
    have KR : Blk (W3.setRow (w.heap.size + 1) #[.int .i64 p.k, .int .i64 p.it, .int .i64 p.ok, .int .u64 p.ob, .int .i64 p.tk, .int .u64 p.tb, V1, V2, .int .i64 p.po, V3, V4, .int .u64 p.sd, .bool false, .int .i64 ev, .int .i64 nx]) (w.heap.size + 1) 33 #[.int .i64 p.k, .int .i64 p.it, .int .i64 p.ok, .int .u64 p.ob, .int .i64 p.tk, .int .u64 p.tb, V1, V2, .int .i64 p.po, V3, V4, .int .u64 p.sd, .bool false, .int .i64 ev, .int .i64 nx] := bset_row K2
    have BE := below_setRow BX (Nat.le_succ _) #[.int .i64 p.k, .int .i64 p.it, .int .i64 p.ok, .int .u64 p.ob, .int .i64 p.tk, .int .u64 p.tb, V1, V2, .int .i64 p.po, V3, V4, .int .u64 p.sd, .bool false, .int .i64 ev, .int .i64 nx]
    have HE := HS.farR (g := w.heap.size + 1) (cs := #[.int .i64 p.k, .int .i64 p.it, .int .i64 p.ok, .int .u64 p.ob, .int .i64 p.tk, .int .u64 p.tb, V1, V2, .int .i64 p.po, V3, V4, .int .u64 p.sd, .bool false, .int .i64 ev, .int .i64 nx]) (by omega)
    generalize W3.setRow (w.heap.size + 1) #[.int .i64 p.k, .int .i64 p.it, .int .i64 p.ok, .int .u64 p.ob, .int .i64 p.tk, .int .u64 p.tb, V1, V2, .int .i64 p.po, V3, V4, .int .u64 p.sd, .bool false, .int .i64 ev, .int .i64 nx] = Y at *
    refine bodyPost_ret (v := .tuple #[.agg #[.int .i64 p.k, .int .i64 p.it, .int .i64 p.ok, .int .u64 p.ob, .int .i64 p.tk, .int .u64 p.tb, V1, V2, .int .i64 p.po, V3, V4, .int .u64 p.sd, .bool false, .int .i64 ev, .int .i64 nx], .slice none 0 0]) ?_ rfl ⟨V1, V2, V3, V4, .slice none 0 0, by rw [HQ.out.1], by rw [HQ.out.1]; exact HE.less (by omega), by rw [HQ.out.2]; exact Snds.nil _ _, BE⟩
    have HL := run_loadVar_row (P := Tryd.prog) Y (w.heap.size + 1) 33 33 #[.int .i64 p.k, .int .i64 p.it, .int .i64 p.ok, .int .u64 p.ob, .int .i64 p.tk, .int .u64 p.tb, V1, V2, .int .i64 p.po, V3, V4, .int .u64 p.sd, .bool false, .int .i64 ev, .int .i64 nx] (0, 0) _ KR Tryd.underlying33 rfl (by kernel_rfl)
    generalize (#[.int .i64 p.k, .int .i64 p.it, .int .i64 p.ok, .int .u64 p.ob, .int .i64 p.tk, .int .u64 p.tb, V1, V2, .int .i64 p.po, V3, V4, .int .u64 p.sd, .bool false, .int .i64 ev, .int .i64 nx] : Array Value) = CS at *
    simp [results, show (Tryd.f20).results = #[.cell 4 33, .slot 5] from rfl, asAddr, HL, Act.put]
  | true =>
  by_cases hlt : L < nx
  · have HQ := Lib.hid (HN.out (by rw [HFi.out, decide_eq_true hlt]; rfl))
    go_wp2_with (first | (refine wpList_store_row rfl 33 (.tmp 4) _ rfl (w.heap.size + 1) #[.int .i64 p.k, .int .i64 p.it, .int .i64 p.ok, .int .u64 p.ob, .int .i64 p.tk, .int .u64 p.tb, V1, V2, .int .i64 p.po, V3, V4, .int .u64 p.sd, .bool true, .int .i64 ev, .int .i64 nx] rfl rfl 33 _ K2 (by kernel_rfl) rfl H1 ?_) | (refine wpList_load_row rfl 33 (.tmp 2) rfl w.heap.size rfl 33 _ (0, 0) _ K1 Tryd.underlying33 rfl (by kernel_rfl) ?_))
    have KR : Blk (W3.setRow (w.heap.size + 1) #[.int .i64 p.k, .int .i64 p.it, .int .i64 p.ok, .int .u64 p.ob, .int .i64 p.tk, .int .u64 p.tb, V1, V2, .int .i64 p.po, V3, V4, .int .u64 p.sd, .bool true, .int .i64 ev, .int .i64 nx]) (w.heap.size + 1) 33 #[.int .i64 p.k, .int .i64 p.it, .int .i64 p.ok, .int .u64 p.ob, .int .i64 p.tk, .int .u64 p.tb, V1, V2, .int .i64 p.po, V3, V4, .int .u64 p.sd, .bool true, .int .i64 ev, .int .i64 nx] := bset_row K2
    have BE := below_setRow BX (Nat.le_succ _) #[.int .i64 p.k, .int .i64 p.it, .int .i64 p.ok, .int .u64 p.ob, .int .i64 p.tk, .int .u64 p.tb, V1, V2, .int .i64 p.po, V3, V4, .int .u64 p.sd, .bool true, .int .i64 ev, .int .i64 nx]
    have HE := HS.farR (g := w.heap.size + 1) (cs := #[.int .i64 p.k, .int .i64 p.it, .int .i64 p.ok, .int .u64 p.ob, .int .i64 p.tk, .int .u64 p.tb, V1, V2, .int .i64 p.po, V3, V4, .int .u64 p.sd, .bool true, .int .i64 ev, .int .i64 nx]) (by omega)
    generalize W3.setRow (w.heap.size + 1) #[.int .i64 p.k, .int .i64 p.it, .int .i64 p.ok, .int .u64 p.ob, .int .i64 p.tk, .int .u64 p.tb, V1, V2, .int .i64 p.po, V3, V4, .int .u64 p.sd, .bool true, .int .i64 ev, .int .i64 nx] = Y at *
    refine bodyPost_ret (v := .tuple #[.agg #[.int .i64 p.k, .int .i64 p.it, .int .i64 p.ok, .int .u64 p.ob, .int .i64 p.tk, .int .u64 p.tb, V1, V2, .int .i64 p.po, V3, V4, .int .u64 p.sd, .bool true, .int .i64 ev, .int .i64 nx], .slice none 0 0]) ?_ rfl ⟨V1, V2, V3, V4, .slice none 0 0, by rw [HQ.out.1], by rw [HQ.out.1]; exact HE.less (by omega), by rw [HQ.out.2]; exact Snds.nil _ _, BE⟩
    have HL := run_loadVar_row (P := Tryd.prog) Y (w.heap.size + 1) 33 33 #[.int .i64 p.k, .int .i64 p.it, .int .i64 p.ok, .int .u64 p.ob, .int .i64 p.tk, .int .u64 p.tb, V1, V2, .int .i64 p.po, V3, V4, .int .u64 p.sd, .bool true, .int .i64 ev, .int .i64 nx] (0, 0) _ KR Tryd.underlying33 rfl (by kernel_rfl)
    generalize (#[.int .i64 p.k, .int .i64 p.it, .int .i64 p.ok, .int .u64 p.ob, .int .i64 p.tk, .int .u64 p.tb, V1, V2, .int .i64 p.po, V3, V4, .int .u64 p.sd, .bool true, .int .i64 ev, .int .i64 nx] : Array Value) = CS at *
    simp [results, show (Tryd.f20).results = #[.cell 4 33, .slot 5] from rfl, asAddr, HL, Act.put]
  · have HQ := Lib.hid (HY.out (by rw [HFi.out, decide_eq_false hlt]; rfl))
    have e1 : IntKind.i64.wrap (p.it * 625) = p.it * 625 := by simp only [IntKind.wrap, IntKind.signed, IntKind.bits]; simp; omega
    have e2 : IntKind.i64.wrap (L + p.it * 625) = L + p.it * 625 := by simp only [IntKind.wrap, IntKind.signed, IntKind.bits]; simp; omega
    have e3 : IntKind.i64.wrap (L + p.it * 625 + DL) = L + p.it * 625 + DL := by simp only [IntKind.wrap, IntKind.signed, IntKind.bits]; simp; omega
    have e4 : IntKind.i64.wrap (ev + 1) = ev + 1 := by simp only [IntKind.wrap, IntKind.signed, IntKind.bits]; simp; omega
    have HF0 : Hid (∀ (X : World) (g6 : Nat) (U1 U2 U3 U4 : Value) (mm : Nat), g6 ≠ w.heap.size → Blk X g6 3 #[.int .i64 L] → Blk X w.heap.size 33 #[.int .i64 p.k, .int .i64 p.it, .int .i64 p.ok, .int .u64 p.ob, .int .i64 p.tk, .int .u64 p.tb, U1, U2, .int .i64 p.po, U3, U4, .int .u64 p.sd, .bool true, .int .i64 (ev + 1), .int .i64 (L + p.it * 625 + DL)] → Has X mm p U1 U2 U3 U4 → Calls Tryd.prog 51 #[.int .i64 0, .pointer (some ⟨g6, 0, none⟩), .pointer (some ⟨w.heap.size, 0, none⟩)] X fun e w' => ∃ V, e = .returned (.agg #[.int .i64 37, .int .i64 L, .int .i64 p.k, .int .i64 p.ok, .int .u64 p.ob, .int .i64 p.tk, .int .u64 p.tb, V, .int .u32 0, .int .u32 0, .int .i64 0, .int .i64 0, .int .i64 0, .int .i64 0, .int .i64 0, .int .u64 0, .int .i64 0, .int .i64 0, .int .i64 0]) ∧ Row w' X.heap.size V p.ds.length (p.ds.map (Value.int .u8)) ∧ Below X.heap.size X w') := Lib.hid fun X g6 U1 U2 U3 U4 mm hne k6 k2 hh => by have h9 := HF.out 0 X g6 U1 U2 U3 U4 mm (by omega) hne k6 k2 hh; rw [show (37 : Int) + 0 = 37 from rfl, show L + 0 * 1000 = L by omega] at h9; exact h9
    have HF1 : Hid (∀ (X : World) (g6 : Nat) (U1 U2 U3 U4 : Value) (mm : Nat), g6 ≠ w.heap.size → Blk X g6 3 #[.int .i64 L] → Blk X w.heap.size 33 #[.int .i64 p.k, .int .i64 p.it, .int .i64 p.ok, .int .u64 p.ob, .int .i64 p.tk, .int .u64 p.tb, U1, U2, .int .i64 p.po, U3, U4, .int .u64 p.sd, .bool true, .int .i64 (ev + 1), .int .i64 (L + p.it * 625 + DL)] → Has X mm p U1 U2 U3 U4 → Calls Tryd.prog 51 #[.int .i64 1, .pointer (some ⟨g6, 0, none⟩), .pointer (some ⟨w.heap.size, 0, none⟩)] X fun e w' => ∃ V, e = .returned (.agg #[.int .i64 38, .int .i64 (L + 1000), .int .i64 p.k, .int .i64 p.ok, .int .u64 p.ob, .int .i64 p.tk, .int .u64 p.tb, V, .int .u32 0, .int .u32 0, .int .i64 0, .int .i64 0, .int .i64 0, .int .i64 0, .int .i64 0, .int .u64 0, .int .i64 0, .int .i64 0, .int .i64 0]) ∧ Row w' X.heap.size V p.ds.length (p.ds.map (Value.int .u8)) ∧ Below X.heap.size X w') := Lib.hid fun X g6 U1 U2 U3 U4 mm hne k6 k2 hh => by have h9 := HF.out 1 X g6 U1 U2 U3 U4 mm (by omega) hne k6 k2 hh; rw [show (37 : Int) + 1 = 38 from rfl, show L + 1 * 1000 = L + 1000 by omega] at h9; exact h9
    have HF2 : Hid (∀ (X : World) (g6 : Nat) (U1 U2 U3 U4 : Value) (mm : Nat), g6 ≠ w.heap.size → Blk X g6 3 #[.int .i64 L] → Blk X w.heap.size 33 #[.int .i64 p.k, .int .i64 p.it, .int .i64 p.ok, .int .u64 p.ob, .int .i64 p.tk, .int .u64 p.tb, U1, U2, .int .i64 p.po, U3, U4, .int .u64 p.sd, .bool true, .int .i64 (ev + 1), .int .i64 (L + p.it * 625 + DL)] → Has X mm p U1 U2 U3 U4 → Calls Tryd.prog 51 #[.int .i64 2, .pointer (some ⟨g6, 0, none⟩), .pointer (some ⟨w.heap.size, 0, none⟩)] X fun e w' => ∃ V, e = .returned (.agg #[.int .i64 39, .int .i64 (L + 2000), .int .i64 p.k, .int .i64 p.ok, .int .u64 p.ob, .int .i64 p.tk, .int .u64 p.tb, V, .int .u32 0, .int .u32 0, .int .i64 0, .int .i64 0, .int .i64 0, .int .i64 0, .int .i64 0, .int .u64 0, .int .i64 0, .int .i64 0, .int .i64 0]) ∧ Row w' X.heap.size V p.ds.length (p.ds.map (Value.int .u8)) ∧ Below X.heap.size X w') := Lib.hid fun X g6 U1 U2 U3 U4 mm hne k6 k2 hh => by have h9 := HF.out 2 X g6 U1 U2 U3 U4 mm (by omega) hne k6 k2 hh; rw [show (37 : Int) + 2 = 39 from rfl, show L + 2 * 1000 = L + 2000 by omega] at h9; exact h9
    clear HF HN HY HFi HC
    go_upto_region 6 with (fail)
    clear c12 c14 d0
    skip
    have K1' : Blk W3.drew (w.heap.size) 33 #[.int .i64 p.k, .int .i64 p.it, .int .i64 p.ok, .int .u64 p.ob, .int .i64 p.tk, .int .u64 p.tb, V1, V2, .int .i64 p.po, V3, V4, .int .u64 p.sd, .bool true, .int .i64 ev, .int .i64 nx] := Mem.Blk.drew K1
    have K2' : Blk W3.drew (w.heap.size + 1) 33 #[.int .i64 0, .int .i64 0, .int .i64 0, .int .u64 0, .int .i64 0, .int .u64 0, .slice none 0 0, .slice none 0 0, .int .i64 0, .slice none 0 0, .slice none 0 0, .int .u64 0, .bool false, .int .i64 0, .int .i64 0] := Mem.Blk.drew K2
    have K6' : Blk W3.drew (g6) 3 #[.int .i64 L] := Mem.Blk.drew K6
    refine wp_region_held_drew (S := (fun w' => Blk w' (g6) 3 #[.int .i64 L] ∧ w'.cell? ⟨w.heap.size, 1, none⟩ = some (.int .i64 p.it) ∧ w'.cell? ⟨w.heap.size, 11, none⟩ = some (.int .u64 p.sd) ∧ w'.cell? ⟨w.heap.size, 13, none⟩ = some (.int .i64 ev))) (by kernel_rfl) ?_ (fun hHeld => ?_)
    · exact ⟨K6', K1'.cell 1, K1'.cell 11, K1'.cell 13⟩
    replace K1 := K1'
    clear K1'
    replace K2 := K2'
    clear K2'
    replace K6 := K6'
    clear K6'
    replace BX : Below w.heap.size w W3.drew := BX.drew
    replace HS := HS.drew
    generalize W3.drew = X0 at *
    refine wpAnyH_take (i := 0) (v := .int .i64 L) rfl (by kernel_rfl) (by kernel_rfl) (by kernel_rfl) (fun _ _ _ h => h) (Or.inl ⟨by first | rfl | go_simp, by intro w9 hSw; (try dsimp only at hSw); have c9 := hSw.1.cell 0; clear hSw; go_simp⟩) (by assumption) ?_
    simp only [List.getElem_toArray, List.getElem_cons_zero, List.getElem_cons_succ, Act.put, List.setIfInBounds_toArray, List.set_cons_zero, List.set_cons_succ]
    refine wpAnyH_take (i := 1) (v := .pointer (some ⟨w.heap.size, 0, none⟩)) rfl (by kernel_rfl) (by kernel_rfl) (by kernel_rfl) (fun _ _ _ h => h) (Or.inl ⟨by first | rfl | go_simp, by intro w9 hSw; (try dsimp only at hSw); go_simp⟩) (by assumption) ?_
    simp only [List.getElem_toArray, List.getElem_cons_zero, List.getElem_cons_succ, Act.put, List.setIfInBounds_toArray, List.set_cons_zero, List.set_cons_succ]
    refine wpAnyH_take (i := 2) (v := .pointer (some ⟨w.heap.size, 1, none⟩)) rfl (by kernel_rfl) (by kernel_rfl) (by kernel_rfl) (fun _ _ _ h => h) (Or.inl ⟨by first | rfl | go_simp, by intro w9 hSw; (try dsimp only at hSw); go_simp⟩) (by assumption) ?_
    simp only [List.getElem_toArray, List.getElem_cons_zero, List.getElem_cons_succ, Act.put, List.setIfInBounds_toArray, List.set_cons_zero, List.set_cons_succ]
    refine wpAnyH_take (i := 3) (v := .int .i64 p.it) rfl (by kernel_rfl) (by kernel_rfl) (by kernel_rfl) (fun _ _ _ h => h) (Or.inl ⟨by first | rfl | go_simp, by intro w9 hSw; (try dsimp only at hSw); go_simp⟩) (by assumption) ?_
    simp only [List.getElem_toArray, List.getElem_cons_zero, List.getElem_cons_succ, Act.put, List.setIfInBounds_toArray, List.set_cons_zero, List.set_cons_succ]
    refine wpAnyH_take (i := 4) (v := .int .i64 (p.it * 625)) rfl (by kernel_rfl) (by kernel_rfl) (by kernel_rfl) (fun _ _ _ h => h) (Or.inl ⟨by first | rfl | go_simp, by intro w9 hSw; (try dsimp only at hSw); go_simp⟩) (by assumption) ?_
    simp only [List.getElem_toArray, List.getElem_cons_zero, List.getElem_cons_succ, Act.put, List.setIfInBounds_toArray, List.set_cons_zero, List.set_cons_succ]
    refine wpAnyH_take (i := 5) (v := .int .i64 (L + p.it * 625)) rfl (by kernel_rfl) (by kernel_rfl) (by kernel_rfl) (fun _ _ _ h => h) (Or.inl ⟨by first | rfl | go_simp, by intro w9 hSw; (try dsimp only at hSw); go_simp⟩) (by assumption) ?_
    simp only [List.getElem_toArray, List.getElem_cons_zero, List.getElem_cons_succ, Act.put, List.setIfInBounds_toArray, List.set_cons_zero, List.set_cons_succ]
    refine wpAnyH_take (i := 6) (v := .pointer (some ⟨w.heap.size, 0, none⟩)) rfl (by kernel_rfl) (by kernel_rfl) (by kernel_rfl) (fun _ _ _ h => h) (Or.inl ⟨by first | rfl | go_simp, by intro w9 hSw; (try dsimp only at hSw); go_simp⟩) (by assumption) ?_
    simp only [List.getElem_toArray, List.getElem_cons_zero, List.getElem_cons_succ, Act.put, List.setIfInBounds_toArray, List.set_cons_zero, List.set_cons_succ]
    refine wpAnyH_take (i := 7) (v := .pointer (some ⟨w.heap.size, 11, none⟩)) rfl (by kernel_rfl) (by kernel_rfl) (by kernel_rfl) (fun _ _ _ h => h) (Or.inl ⟨by first | rfl | go_simp, by intro w9 hSw; (try dsimp only at hSw); go_simp⟩) (by assumption) ?_
    simp only [List.getElem_toArray, List.getElem_cons_zero, List.getElem_cons_succ, Act.put, List.setIfInBounds_toArray, List.set_cons_zero, List.set_cons_succ]
    refine wpAnyH_take (i := 8) (v := .int .u64 p.sd) rfl (by kernel_rfl) (by kernel_rfl) (by kernel_rfl) (fun _ _ _ h => h) (Or.inl ⟨by first | rfl | go_simp, by intro w9 hSw; (try dsimp only at hSw); go_simp⟩) (by assumption) ?_
    simp only [List.getElem_toArray, List.getElem_cons_zero, List.getElem_cons_succ, Act.put, List.setIfInBounds_toArray, List.set_cons_zero, List.set_cons_succ]
    refine wpAnyH_take (i := 9) (v := .pointer (some ⟨w.heap.size, 13, none⟩)) rfl (by kernel_rfl) (by kernel_rfl) (by kernel_rfl) (fun _ _ _ h => h) (Or.inl ⟨by first | rfl | go_simp, by intro w9 hSw; (try dsimp only at hSw); go_simp⟩) (by assumption) ?_
    simp only [List.getElem_toArray, List.getElem_cons_zero, List.getElem_cons_succ, Act.put, List.setIfInBounds_toArray, List.set_cons_zero, List.set_cons_succ]
    refine wpAnyH_take (i := 10) (v := .int .i64 ev) rfl (by kernel_rfl) (by kernel_rfl) (by kernel_rfl) (fun _ _ _ h => h) (Or.inl ⟨by first | rfl | go_simp, by intro w9 hSw; (try dsimp only at hSw); go_simp⟩) (by assumption) ?_
    simp only [List.getElem_toArray, List.getElem_cons_zero, List.getElem_cons_succ, Act.put, List.setIfInBounds_toArray, List.set_cons_zero, List.set_cons_succ]
    refine wpAnyH_ready (rs := [11]) (by kernel_rfl) (by simp) ?_
    refine AllReadyH.cons rfl (fun K hK => ?_) (AllReadyH.nil)
    go_simp
    refine (HDl.out X0).mono ?_
    rintro e X1 ⟨rfl, b9⟩
    replace K1 := K1.below b9 K1.lt
    replace K2 := K2.below b9 K2.lt
    replace K6 := K6.below b9 K6.lt
    replace BX := Base.thenB BX b9
    replace HS := HS.below b9
    clear b9
    refine hK.out _ _ ⟨K6, K1.cell 1, K1.cell 11, K1.cell 13⟩ (fun hHeld => ?_)
    clear hK K
    try simp only [List.getElem_toArray, List.getElem_cons_zero, List.getElem_cons_succ, Act.put, List.setIfInBounds_toArray, List.set_cons_zero, List.set_cons_succ]
    refine wpAnyH_take (i := 12) (v := .int .i64 (L + p.it * 625 + DL)) rfl (by kernel_rfl) (by kernel_rfl) (by kernel_rfl) (fun _ _ _ h => h) (Or.inl ⟨by first | rfl | go_simp, by intro w9 hSw; (try dsimp only at hSw); go_simp⟩) (by assumption) ?_
    simp only [List.getElem_toArray, List.getElem_cons_zero, List.getElem_cons_succ, Act.put, List.setIfInBounds_toArray, List.set_cons_zero, List.set_cons_succ]
    refine wpAnyH_take (i := 13) (v := .pointer (some ⟨w.heap.size, 14, none⟩)) rfl (by kernel_rfl) (by kernel_rfl) (by kernel_rfl) (fun _ _ _ h => h) (Or.inl ⟨by first | rfl | go_simp, by intro w9 hSw; (try dsimp only at hSw); go_simp⟩) (by assumption) ?_
    simp only [List.getElem_toArray, List.getElem_cons_zero, List.getElem_cons_succ, Act.put, List.setIfInBounds_toArray, List.set_cons_zero, List.set_cons_succ]
    refine wpAnyH_ready (rs := [14]) (by kernel_rfl) (by simp) ?_
    refine AllReadyH.cons rfl (fun K hK => ?_) (AllReadyH.nil)
    refine Av.step_store_cell rfl _ _ _ rfl (w.heap.size) 14 (.int .i64 (L + p.it * 625 + DL)) rfl rfl 33 _ K1 (by show 14 < 15; decide) (by kernel_rfl) rfl ?_
    replace K1 : Blk (X1.setCell ⟨w.heap.size, 14, none⟩ (.int .i64 (L + p.it * 625 + DL))) (w.heap.size) 33 #[.int .i64 p.k, .int .i64 p.it, .int .i64 p.ok, .int .u64 p.ob, .int .i64 p.tk, .int .u64 p.tb, V1, V2, .int .i64 p.po, V3, V4, .int .u64 p.sd, .bool true, .int .i64 ev, .int .i64 (L + p.it * 625 + DL)] := (Av.bset K1 14 (.int .i64 (L + p.it * 625 + DL)) rfl)
    replace K2 : Blk (X1.setCell ⟨w.heap.size, 14, none⟩ (.int .i64 (L + p.it * 625 + DL))) (w.heap.size + 1) 33 #[.int .i64 0, .int .i64 0, .int .i64 0, .int .u64 0, .int .i64 0, .int .u64 0, .slice none 0 0, .slice none 0 0, .int .i64 0, .slice none 0 0, .slice none 0 0, .int .u64 0, .bool false, .int .i64 0, .int .i64 0] := Av.bother (K2) (by omega) _
    replace K6 : Blk (X1.setCell ⟨w.heap.size, 14, none⟩ (.int .i64 (L + p.it * 625 + DL))) (g6) 3 #[.int .i64 L] := Av.bother (K6) (by omega) _
    replace BX : Below w.heap.size w (X1.setCell ⟨w.heap.size, 14, none⟩ (.int .i64 (L + p.it * 625 + DL))) := (BX.setCell (p := ⟨w.heap.size, 14, none⟩) (by simp only; omega) _)
    replace HS := (Has.far (i := 14) (x := .int .i64 (L + p.it * 625 + DL)) HS (show w.heap.size < w.heap.size + 2 by omega))
    generalize (X1.setCell ⟨w.heap.size, 14, none⟩ (.int .i64 (L + p.it * 625 + DL))) = X2 at *
    refine hK.out _ _ ⟨K6, K1.cell 1, K1.cell 11, K1.cell 13⟩ (fun hHeld => ?_)
    clear hK K
    try simp only [List.getElem_toArray, List.getElem_cons_zero, List.getElem_cons_succ, Act.put, List.setIfInBounds_toArray, List.set_cons_zero, List.set_cons_succ]
    refine wpAnyH_done (by kernel_rfl) ?_ _
    skip
    clear hHeld
    have c13 := K1.cell 13
    go_upto_region 8 with (refine wpList_store_cell rfl _ _ _ rfl (w.heap.size) 13 (.int .i64 (ev + 1)) rfl rfl 33 _ K1 (by show 13 < 15; decide) (by kernel_rfl) rfl ?_)
    have K2 : Blk (X2.setCell ⟨w.heap.size, 13, none⟩ (.int .i64 (ev + 1))) (w.heap.size + 1) 33 #[.int .i64 0, .int .i64 0, .int .i64 0, .int .u64 0, .int .i64 0, .int .u64 0, .slice none 0 0, .slice none 0 0, .int .i64 0, .slice none 0 0, .slice none 0 0, .int .u64 0, .bool false, .int .i64 0, .int .i64 0] := bother K2 (by omega) _
    have K6 : Blk (X2.setCell ⟨w.heap.size, 13, none⟩ (.int .i64 (ev + 1))) g6 3 #[.int .i64 L] := bother K6 (by omega) _
    have K1 : Blk (X2.setCell ⟨w.heap.size, 13, none⟩ (.int .i64 (ev + 1))) (w.heap.size) 33 #[.int .i64 p.k, .int .i64 p.it, .int .i64 p.ok, .int .u64 p.ob, .int .i64 p.tk, .int .u64 p.tb, V1, V2, .int .i64 p.po, V3, V4, .int .u64 p.sd, .bool true, .int .i64 (ev + 1), .int .i64 (L + p.it * 625 + DL)] := bset K1 13 (.int .i64 (ev + 1)) rfl
    have BX : Below w.heap.size w (X2.setCell ⟨w.heap.size, 13, none⟩ (.int .i64 (ev + 1))) := BX.setCell (p := ⟨w.heap.size, 13, none⟩) (Nat.le_refl _) _
    have HS := HS.far (g := w.heap.size) (i := 13) (x := .int .i64 (ev + 1)) (by omega)
    clear c13
    generalize X2.setCell ⟨w.heap.size, 13, none⟩ (.int .i64 (ev + 1)) = W5 at *
    simp only [Act.put]
    have K1' : Blk W5.drew (w.heap.size) 33 #[.int .i64 p.k, .int .i64 p.it, .int .i64 p.ok, .int .u64 p.ob, .int .i64 p.tk, .int .u64 p.tb, V1, V2, .int .i64 p.po, V3, V4, .int .u64 p.sd, .bool true, .int .i64 (ev + 1), .int .i64 (L + p.it * 625 + DL)] := Mem.Blk.drew K1
    have K2' : Blk W5.drew (w.heap.size + 1) 33 #[.int .i64 0, .int .i64 0, .int .i64 0, .int .u64 0, .int .i64 0, .int .u64 0, .slice none 0 0, .slice none 0 0, .int .i64 0, .slice none 0 0, .slice none 0 0, .int .u64 0, .bool false, .int .i64 0, .int .i64 0] := Mem.Blk.drew K2
    have K6' : Blk W5.drew (g6) 3 #[.int .i64 L] := Mem.Blk.drew K6
    refine wp_region_held_drew (S := (fun w' => Blk w' (w.heap.size) 33 #[.int .i64 p.k, .int .i64 p.it, .int .i64 p.ok, .int .u64 p.ob, .int .i64 p.tk, .int .u64 p.tb, V1, V2, .int .i64 p.po, V3, V4, .int .u64 p.sd, .bool true, .int .i64 (ev + 1), .int .i64 (L + p.it * 625 + DL)])) (by kernel_rfl) ?_ (fun hHeld => ?_)
    · exact K1'
    replace K1 := K1'
    clear K1'
    replace K2 := K2'
    clear K2'
    replace K6 := K6'
    clear K6'
    replace BX : Below w.heap.size w W5.drew := BX.drew
    replace HS := HS.drew
    generalize W5.drew = Y0 at *
    refine wpAnyH_take (i := 0) (v := .agg #[.int .i64 p.k, .int .i64 p.it, .int .i64 p.ok, .int .u64 p.ob, .int .i64 p.tk, .int .u64 p.tb, V1, V2, .int .i64 p.po, V3, V4, .int .u64 p.sd, .bool true, .int .i64 (ev + 1), .int .i64 (L + p.it * 625 + DL)]) rfl (by kernel_rfl) (by kernel_rfl) (by kernel_rfl) (fun _ _ _ h => h) (Av.yields_part (by first | rfl | go_simp) _ _ rfl (w.heap.size) 0 rfl #[.int .i64 p.k, .int .i64 p.it, .int .i64 p.ok, .int .u64 p.ob, .int .i64 p.tk, .int .u64 p.tb, V1, V2, .int .i64 p.po, V3, V4, .int .u64 p.sd, .bool true, .int .i64 (ev + 1), .int .i64 (L + p.it * 625 + DL)] _ 33 #[.int .i64 p.k, .int .i64 p.it, .int .i64 p.ok, .int .u64 p.ob, .int .i64 p.tk, .int .u64 p.tb, V1, V2, .int .i64 p.po, V3, V4, .int .u64 p.sd, .bool true, .int .i64 (ev + 1), .int .i64 (L + p.it * 625 + DL)] (fun w9 hSw => hSw) rfl Tryd.underlying33 rfl (by kernel_rfl)) (by assumption) ?_
    simp only [List.getElem_toArray, List.getElem_cons_zero, List.getElem_cons_succ, Act.put, List.setIfInBounds_toArray, List.set_cons_zero, List.set_cons_succ]
    refine wpAnyH_take (i := 1) (v := .func (.func 51) #[] #[.pointer (some ⟨g6, 0, none⟩), .pointer (some ⟨w.heap.size, 0, none⟩)]) rfl (by kernel_rfl) (by kernel_rfl) (by kernel_rfl) (fun _ _ _ h => h) (Or.inl ⟨by first | rfl | go_simp, by intro w9 hSw; (try dsimp only at hSw); go_simp⟩) (by assumption) ?_
    simp only [List.getElem_toArray, List.getElem_cons_zero, List.getElem_cons_succ, Act.put, List.setIfInBounds_toArray, List.set_cons_zero, List.set_cons_succ]
    refine wpAnyH_take (i := 3) (v := .func (.func 51) #[] #[.pointer (some ⟨g6, 0, none⟩), .pointer (some ⟨w.heap.size, 0, none⟩)]) rfl (by kernel_rfl) (by kernel_rfl) (by kernel_rfl) (fun _ _ _ h => h) (Or.inl ⟨by first | rfl | go_simp, by intro w9 hSw; (try dsimp only at hSw); go_simp⟩) (by assumption) ?_
    simp only [List.getElem_toArray, List.getElem_cons_zero, List.getElem_cons_succ, Act.put, List.setIfInBounds_toArray, List.set_cons_zero, List.set_cons_succ]
    refine wpAnyH_take (i := 5) (v := .func (.func 51) #[] #[.pointer (some ⟨g6, 0, none⟩), .pointer (some ⟨w.heap.size, 0, none⟩)]) rfl (by kernel_rfl) (by kernel_rfl) (by kernel_rfl) (fun _ _ _ h => h) (Or.inl ⟨by first | rfl | go_simp, by intro w9 hSw; (try dsimp only at hSw); go_simp⟩) (by assumption) ?_
    simp only [List.getElem_toArray, List.getElem_cons_zero, List.getElem_cons_succ, Act.put, List.setIfInBounds_toArray, List.set_cons_zero, List.set_cons_succ]
    refine wpAnyH_ready (rs := [2]) (by kernel_rfl) (by simp) ?_
    refine AllReadyH.cons rfl (fun K hK => ?_) (AllReadyH.nil)
    go_simp
    refine (HF0.out Y0 g6 V1 V2 V3 V4 _ (by omega) K6 K1 HS).mono ?_
    rintro e Y1 ⟨U0, rfl, R0, b9⟩
    obtain ⟨B0, d0, e0, _⟩ := id R0
    subst e0
    have R0 := R0.less (show w.heap.size + 2 ≤ Y0.heap.size from K2.lt)
    replace K1 := K1.below b9 K1.lt
    replace K2 := K2.below b9 K2.lt
    replace K6 := K6.below b9 K6.lt
    replace BX := Base.thenB BX b9
    replace HS := HS.below b9
    clear b9
    refine hK.out _ _ K1 (fun hHeld => ?_)
    clear hK K
    try simp only [List.getElem_toArray, List.getElem_cons_zero, List.getElem_cons_succ, Act.put, List.setIfInBounds_toArray, List.set_cons_zero, List.set_cons_succ]
    refine wpAnyH_ready (rs := [4]) (by kernel_rfl) (by simp) ?_
    refine AllReadyH.cons rfl (fun K hK => ?_) (AllReadyH.nil)
    go_simp
    refine (HF1.out Y1 g6 V1 V2 V3 V4 _ (by omega) K6 K1 HS).mono ?_
    rintro e Y2 ⟨U1, rfl, R1, b9⟩
    obtain ⟨B1, d1, e1, _⟩ := id R1
    subst e1
    have R1 := R1.less (show w.heap.size + 2 ≤ Y1.heap.size from K2.lt)
    replace K1 := K1.below b9 K1.lt
    replace K2 := K2.below b9 K2.lt
    replace K6 := K6.below b9 K6.lt
    replace BX := Base.thenB BX b9
    replace HS := HS.below b9
    replace R0 := Row.below R0 b9
    clear b9
    refine hK.out _ _ K1 (fun hHeld => ?_)
    clear hK K
    try simp only [List.getElem_toArray, List.getElem_cons_zero, List.getElem_cons_succ, Act.put, List.setIfInBounds_toArray, List.set_cons_zero, List.set_cons_succ]
    refine wpAnyH_ready (rs := [6]) (by kernel_rfl) (by simp) ?_
    refine AllReadyH.cons rfl (fun K hK => ?_) (AllReadyH.nil)
    go_simp
    refine (HF2.out Y2 g6 V1 V2 V3 V4 _ (by omega) K6 K1 HS).mono ?_
    rintro e Y3 ⟨U2, rfl, R2, b9⟩
    obtain ⟨B2, d2, e2, _⟩ := id R2
    subst e2
    have R2 := R2.less (show w.heap.size + 2 ≤ Y2.heap.size from K2.lt)
    replace K1 := K1.below b9 K1.lt
    replace K2 := K2.below b9 K2.lt
    replace K6 := K6.below b9 K6.lt
    replace BX := Base.thenB BX b9
    replace HS := HS.below b9
    replace R0 := Row.below R0 b9
    replace R1 := Row.below R1 b9
    clear b9
    refine hK.out _ _ K1 (fun hHeld => ?_)
    clear hK K
    try simp only [List.getElem_toArray, List.getElem_cons_zero, List.getElem_cons_succ, Act.put, List.setIfInBounds_toArray, List.set_cons_zero, List.set_cons_succ]
    refine wpAnyH_ready (rs := [7, 8]) (by kernel_rfl) (by simp) ?_
    refine AllReadyH.cons rfl (fun K hK => ?_) (AllReadyH.cons rfl (fun K hK => ?_) (AllReadyH.nil))
    · skip
      refine Av.step_build_slice rfl 42 54 3 _ rfl #[.int .i64 37, .int .i64 L, .int .i64 p.k, .int .i64 p.ok, .int .u64 p.ob, .int .i64 p.tk, .int .u64 p.tb, .slice B0 p.ds.length d0, .int .u32 0, .int .u32 0, .int .i64 0, .int .i64 0, .int .i64 0, .int .i64 0, .int .i64 0, .int .u64 0, .int .i64 0, .int .i64 0, .int .i64 0, .int .i64 38, .int .i64 (L + 1000), .int .i64 p.k, .int .i64 p.ok, .int .u64 p.ob, .int .i64 p.tk, .int .u64 p.tb, .slice B1 p.ds.length d1, .int .u32 0, .int .u32 0, .int .i64 0, .int .i64 0, .int .i64 0, .int .i64 0, .int .i64 0, .int .u64 0, .int .i64 0, .int .i64 0, .int .i64 0, .int .i64 39, .int .i64 (L + 2000), .int .i64 p.k, .int .i64 p.ok, .int .u64 p.ob, .int .i64 p.tk, .int .u64 p.tb, .slice B2 p.ds.length d2, .int .u32 0, .int .u32 0, .int .i64 0, .int .i64 0, .int .i64 0, .int .i64 0, .int .i64 0, .int .u64 0, .int .i64 0, .int .i64 0, .int .i64 0] iEsnd _ 19 Tryd.underlying42 hisnd hzsnd hssnd (by omega) (by omega) (by kernel_rfl) ?_
      have b9 := (Below.refl Y3.heap.size Y3).alloc (Nat.le_refl _) (.cells #[.int .i64 37, .int .i64 L, .int .i64 p.k, .int .i64 p.ok, .int .u64 p.ob, .int .i64 p.tk, .int .u64 p.tb, .slice B0 p.ds.length d0, .int .u32 0, .int .u32 0, .int .i64 0, .int .i64 0, .int .i64 0, .int .i64 0, .int .i64 0, .int .u64 0, .int .i64 0, .int .i64 0, .int .i64 0, .int .i64 38, .int .i64 (L + 1000), .int .i64 p.k, .int .i64 p.ok, .int .u64 p.ob, .int .i64 p.tk, .int .u64 p.tb, .slice B1 p.ds.length d1, .int .u32 0, .int .u32 0, .int .i64 0, .int .i64 0, .int .i64 0, .int .i64 0, .int .i64 0, .int .u64 0, .int .i64 0, .int .i64 0, .int .i64 0, .int .i64 39, .int .i64 (L + 2000), .int .i64 p.k, .int .i64 p.ok, .int .u64 p.ob, .int .i64 p.tk, .int .u64 p.tb, .slice B2 p.ds.length d2, .int .u32 0, .int .u32 0, .int .i64 0, .int .i64 0, .int .i64 0, .int .i64 0, .int .i64 0, .int .u64 0, .int .i64 0, .int .i64 0, .int .i64 0] 54)
      have RL : Row (Y3.alloc (.cells #[.int .i64 37, .int .i64 L, .int .i64 p.k, .int .i64 p.ok, .int .u64 p.ob, .int .i64 p.tk, .int .u64 p.tb, .slice B0 p.ds.length d0, .int .u32 0, .int .u32 0, .int .i64 0, .int .i64 0, .int .i64 0, .int .i64 0, .int .i64 0, .int .u64 0, .int .i64 0, .int .i64 0, .int .i64 0, .int .i64 38, .int .i64 (L + 1000), .int .i64 p.k, .int .i64 p.ok, .int .u64 p.ob, .int .i64 p.tk, .int .u64 p.tb, .slice B1 p.ds.length d1, .int .u32 0, .int .u32 0, .int .i64 0, .int .i64 0, .int .i64 0, .int .i64 0, .int .i64 0, .int .u64 0, .int .i64 0, .int .i64 0, .int .i64 0, .int .i64 39, .int .i64 (L + 2000), .int .i64 p.k, .int .i64 p.ok, .int .u64 p.ob, .int .i64 p.tk, .int .u64 p.tb, .slice B2 p.ds.length d2, .int .u32 0, .int .u32 0, .int .i64 0, .int .i64 0, .int .i64 0, .int .i64 0, .int .i64 0, .int .u64 0, .int .i64 0, .int .i64 0, .int .i64 0] 54)) (w.heap.size + 2) (.slice (some ⟨Y3.heap.size, 0, none⟩) 3 3) 3 [.int .i64 37, .int .i64 L, .int .i64 p.k, .int .i64 p.ok, .int .u64 p.ob, .int .i64 p.tk, .int .u64 p.tb, .slice B0 p.ds.length d0, .int .u32 0, .int .u32 0, .int .i64 0, .int .i64 0, .int .i64 0, .int .i64 0, .int .i64 0, .int .u64 0, .int .i64 0, .int .i64 0, .int .i64 0, .int .i64 38, .int .i64 (L + 1000), .int .i64 p.k, .int .i64 p.ok, .int .u64 p.ob, .int .i64 p.tk, .int .u64 p.tb, .slice B1 p.ds.length d1, .int .u32 0, .int .u32 0, .int .i64 0, .int .i64 0, .int .i64 0, .int .i64 0, .int .i64 0, .int .u64 0, .int .i64 0, .int .i64 0, .int .i64 0, .int .i64 39, .int .i64 (L + 2000), .int .i64 p.k, .int .i64 p.ok, .int .u64 p.ob, .int .i64 p.tk, .int .u64 p.tb, .slice B2 p.ds.length d2, .int .u32 0, .int .u32 0, .int .i64 0, .int .i64 0, .int .i64 0, .int .i64 0, .int .i64 0, .int .u64 0, .int .i64 0, .int .i64 0, .int .i64 0] := Row.lit (show w.heap.size + 2 ≤ Y3.heap.size from K2.lt) rfl
      generalize Y3.alloc (.cells #[.int .i64 37, .int .i64 L, .int .i64 p.k, .int .i64 p.ok, .int .u64 p.ob, .int .i64 p.tk, .int .u64 p.tb, .slice B0 p.ds.length d0, .int .u32 0, .int .u32 0, .int .i64 0, .int .i64 0, .int .i64 0, .int .i64 0, .int .i64 0, .int .u64 0, .int .i64 0, .int .i64 0, .int .i64 0, .int .i64 38, .int .i64 (L + 1000), .int .i64 p.k, .int .i64 p.ok, .int .u64 p.ob, .int .i64 p.tk, .int .u64 p.tb, .slice B1 p.ds.length d1, .int .u32 0, .int .u32 0, .int .i64 0, .int .i64 0, .int .i64 0, .int .i64 0, .int .i64 0, .int .u64 0, .int .i64 0, .int .i64 0, .int .i64 0, .int .i64 39, .int .i64 (L + 2000), .int .i64 p.k, .int .i64 p.ok, .int .u64 p.ob, .int .i64 p.tk, .int .u64 p.tb, .slice B2 p.ds.length d2, .int .u32 0, .int .u32 0, .int .i64 0, .int .i64 0, .int .i64 0, .int .i64 0, .int .i64 0, .int .u64 0, .int .i64 0, .int .i64 0, .int .i64 0] 54) = Y4 at *
      replace K1 := K1.below b9 K1.lt
      replace K2 := K2.below b9 K2.lt
      replace K6 := K6.below b9 K6.lt
      replace BX := Base.thenB BX b9
      replace HS := HS.below b9
      replace R0 := Row.below R0 b9
      replace R1 := Row.below R1 b9
      replace R2 := Row.below R2 b9
      clear b9
      refine hK.out _ _ K1 (fun hHeld => ?_)
      clear hK K
      try simp only [List.getElem_toArray, List.getElem_cons_zero, List.getElem_cons_succ, Act.put, List.setIfInBounds_toArray, List.set_cons_zero, List.set_cons_succ]
      refine wpAnyH_ready (rs := [8]) (by kernel_rfl) (by simp) ?_
      refine AllReadyH.cons rfl (fun K hK => ?_) (AllReadyH.nil)
      have H9 : (#[.int .i64 p.k, .int .i64 p.it, .int .i64 p.ok, .int .u64 p.ob, .int .i64 p.tk, .int .u64 p.tb, V1, V2, .int .i64 p.po, V3, V4, .int .u64 p.sd, .bool true, .int .i64 (ev + 1), .int .i64 (L + p.it * 625 + DL)] : Array Value).all (·.oneCell') = true := by rw [← Array.all_toList]; simp only [List.all_cons, List.all_nil, oV1, oV2, oV3, oV4, Bool.and_true, Bool.and_self]; rfl
      refine Av.step_store_row rfl 33 (.tmp 4) (.tmp 41) rfl (w.heap.size + 1) #[.int .i64 p.k, .int .i64 p.it, .int .i64 p.ok, .int .u64 p.ob, .int .i64 p.tk, .int .u64 p.tb, V1, V2, .int .i64 p.po, V3, V4, .int .u64 p.sd, .bool true, .int .i64 (ev + 1), .int .i64 (L + p.it * 625 + DL)] rfl rfl 33 _ K2 (by kernel_rfl) rfl H9 ?_
      replace K1 : Blk (Y4.setRow (w.heap.size + 1) #[.int .i64 p.k, .int .i64 p.it, .int .i64 p.ok, .int .u64 p.ob, .int .i64 p.tk, .int .u64 p.tb, V1, V2, .int .i64 p.po, V3, V4, .int .u64 p.sd, .bool true, .int .i64 (ev + 1), .int .i64 (L + p.it * 625 + DL)]) (w.heap.size) 33 #[.int .i64 p.k, .int .i64 p.it, .int .i64 p.ok, .int .u64 p.ob, .int .i64 p.tk, .int .u64 p.tb, V1, V2, .int .i64 p.po, V3, V4, .int .u64 p.sd, .bool true, .int .i64 (ev + 1), .int .i64 (L + p.it * 625 + DL)] := Av.bother_row K1 (by omega)
      replace K2 : Blk (Y4.setRow (w.heap.size + 1) #[.int .i64 p.k, .int .i64 p.it, .int .i64 p.ok, .int .u64 p.ob, .int .i64 p.tk, .int .u64 p.tb, V1, V2, .int .i64 p.po, V3, V4, .int .u64 p.sd, .bool true, .int .i64 (ev + 1), .int .i64 (L + p.it * 625 + DL)]) (w.heap.size + 1) 33 #[.int .i64 p.k, .int .i64 p.it, .int .i64 p.ok, .int .u64 p.ob, .int .i64 p.tk, .int .u64 p.tb, V1, V2, .int .i64 p.po, V3, V4, .int .u64 p.sd, .bool true, .int .i64 (ev + 1), .int .i64 (L + p.it * 625 + DL)] := Av.bset_row K2
      replace K6 : Blk (Y4.setRow (w.heap.size + 1) #[.int .i64 p.k, .int .i64 p.it, .int .i64 p.ok, .int .u64 p.ob, .int .i64 p.tk, .int .u64 p.tb, V1, V2, .int .i64 p.po, V3, V4, .int .u64 p.sd, .bool true, .int .i64 (ev + 1), .int .i64 (L + p.it * 625 + DL)]) (g6) 3 #[.int .i64 L] := Av.bother_row K6 (by omega)
      replace BX : Below w.heap.size w (Y4.setRow (w.heap.size + 1) #[.int .i64 p.k, .int .i64 p.it, .int .i64 p.ok, .int .u64 p.ob, .int .i64 p.tk, .int .u64 p.tb, V1, V2, .int .i64 p.po, V3, V4, .int .u64 p.sd, .bool true, .int .i64 (ev + 1), .int .i64 (L + p.it * 625 + DL)]) := below_setRow BX (by omega) _
      replace HS := Has.farR (cs := #[.int .i64 p.k, .int .i64 p.it, .int .i64 p.ok, .int .u64 p.ob, .int .i64 p.tk, .int .u64 p.tb, V1, V2, .int .i64 p.po, V3, V4, .int .u64 p.sd, .bool true, .int .i64 (ev + 1), .int .i64 (L + p.it * 625 + DL)]) HS (show w.heap.size + 1 < w.heap.size + 2 by omega)
      replace R0 := Row.farR (cs := #[.int .i64 p.k, .int .i64 p.it, .int .i64 p.ok, .int .u64 p.ob, .int .i64 p.tk, .int .u64 p.tb, V1, V2, .int .i64 p.po, V3, V4, .int .u64 p.sd, .bool true, .int .i64 (ev + 1), .int .i64 (L + p.it * 625 + DL)]) R0 (show w.heap.size + 1 < w.heap.size + 2 by omega)
      replace R1 := Row.farR (cs := #[.int .i64 p.k, .int .i64 p.it, .int .i64 p.ok, .int .u64 p.ob, .int .i64 p.tk, .int .u64 p.tb, V1, V2, .int .i64 p.po, V3, V4, .int .u64 p.sd, .bool true, .int .i64 (ev + 1), .int .i64 (L + p.it * 625 + DL)]) R1 (show w.heap.size + 1 < w.heap.size + 2 by omega)
      replace R2 := Row.farR (cs := #[.int .i64 p.k, .int .i64 p.it, .int .i64 p.ok, .int .u64 p.ob, .int .i64 p.tk, .int .u64 p.tb, V1, V2, .int .i64 p.po, V3, V4, .int .u64 p.sd, .bool true, .int .i64 (ev + 1), .int .i64 (L + p.it * 625 + DL)]) R2 (show w.heap.size + 1 < w.heap.size + 2 by omega)
      replace RL := Row.farR (cs := #[.int .i64 p.k, .int .i64 p.it, .int .i64 p.ok, .int .u64 p.ob, .int .i64 p.tk, .int .u64 p.tb, V1, V2, .int .i64 p.po, V3, V4, .int .u64 p.sd, .bool true, .int .i64 (ev + 1), .int .i64 (L + p.it * 625 + DL)]) RL (show w.heap.size + 1 < w.heap.size + 2 by omega)
      clear H9
      generalize Y4.setRow (w.heap.size + 1) #[.int .i64 p.k, .int .i64 p.it, .int .i64 p.ok, .int .u64 p.ob, .int .i64 p.tk, .int .u64 p.tb, V1, V2, .int .i64 p.po, V3, V4, .int .u64 p.sd, .bool true, .int .i64 (ev + 1), .int .i64 (L + p.it * 625 + DL)] = Y5 at *
      refine hK.out _ _ K1 (fun hHeld => ?_)
      clear hK K
      try simp only [List.getElem_toArray, List.getElem_cons_zero, List.getElem_cons_succ, Act.put, List.setIfInBounds_toArray, List.set_cons_zero, List.set_cons_succ]
      refine wpAnyH_take (i := 9) (v := .slice (some ⟨Y3.heap.size, 0, none⟩) 3 3) rfl (by kernel_rfl) (by kernel_rfl) (by kernel_rfl) (fun _ _ _ h => h) (Or.inl ⟨by first | rfl | go_simp, by intro w9 hSw; (try dsimp only at hSw); go_simp⟩) (by assumption) ?_
      simp only [List.getElem_toArray, List.getElem_cons_zero, List.getElem_cons_succ, Act.put, List.setIfInBounds_toArray, List.set_cons_zero, List.set_cons_succ]
      refine wpAnyH_done (by kernel_rfl) ?_ _
      go_wp2_with fail
      refine bodyPost_ret (v := .tuple #[.agg #[.int .i64 p.k, .int .i64 p.it, .int .i64 p.ok, .int .u64 p.ob, .int .i64 p.tk, .int .u64 p.tb, V1, V2, .int .i64 p.po, V3, V4, .int .u64 p.sd, .bool true, .int .i64 (ev + 1), .int .i64 (L + p.it * 625 + DL)], .slice (some ⟨Y3.heap.size, 0, none⟩) 3 3]) ?_ rfl ⟨V1, V2, V3, V4, .slice (some ⟨Y3.heap.size, 0, none⟩) 3 3, by rw [HQ.out.1], by rw [HQ.out.1]; exact HS.less (by omega), ?_, BX⟩
      rotate_left
      · rw [HQ.out.2]
        refine ⟨[.slice B0 p.ds.length d0, .slice B1 p.ds.length d1, .slice B2 p.ds.length d2], rfl, RL.less (by omega), ?_⟩
        intro x hx
        simp only [List.zip_cons_cons, List.zip_nil_right, List.mem_cons, List.not_mem_nil, or_false] at hx
        rcases hx with rfl | rfl | rfl
        · exact R0.less (by omega)
        · exact R1.less (by omega)
        · exact R2.less (by omega)
      clear hHeld
      have HL := run_loadVar_row (P := Tryd.prog) Y5 (w.heap.size + 1) 33 33 #[.int .i64 p.k, .int .i64 p.it, .int .i64 p.ok, .int .u64 p.ob, .int .i64 p.tk, .int .u64 p.tb, V1, V2, .int .i64 p.po, V3, V4, .int .u64 p.sd, .bool true, .int .i64 (ev + 1), .int .i64 (L + p.it * 625 + DL)] (0, 0) _ K2 Tryd.underlying33 rfl (by kernel_rfl)
      generalize (#[.int .i64 p.k, .int .i64 p.it, .int .i64 p.ok, .int .u64 p.ob, .int .i64 p.tk, .int .u64 p.tb, V1, V2, .int .i64 p.po, V3, V4, .int .u64 p.sd, .bool true, .int .i64 (ev + 1), .int .i64 (L + p.it * 625 + DL)] : Array Value) = CS at *
      simp [results, show (Tryd.f20).results = #[.cell 4 33, .slot 5] from rfl, asAddr, HL, Act.put]
    · skip
      have H9 : (#[.int .i64 p.k, .int .i64 p.it, .int .i64 p.ok, .int .u64 p.ob, .int .i64 p.tk, .int .u64 p.tb, V1, V2, .int .i64 p.po, V3, V4, .int .u64 p.sd, .bool true, .int .i64 (ev + 1), .int .i64 (L + p.it * 625 + DL)] : Array Value).all (·.oneCell') = true := by rw [← Array.all_toList]; simp only [List.all_cons, List.all_nil, oV1, oV2, oV3, oV4, Bool.and_true, Bool.and_self]; rfl
      refine Av.step_store_row rfl 33 (.tmp 4) (.tmp 41) rfl (w.heap.size + 1) #[.int .i64 p.k, .int .i64 p.it, .int .i64 p.ok, .int .u64 p.ob, .int .i64 p.tk, .int .u64 p.tb, V1, V2, .int .i64 p.po, V3, V4, .int .u64 p.sd, .bool true, .int .i64 (ev + 1), .int .i64 (L + p.it * 625 + DL)] rfl rfl 33 _ K2 (by kernel_rfl) rfl H9 ?_
      replace K1 : Blk (Y3.setRow (w.heap.size + 1) #[.int .i64 p.k, .int .i64 p.it, .int .i64 p.ok, .int .u64 p.ob, .int .i64 p.tk, .int .u64 p.tb, V1, V2, .int .i64 p.po, V3, V4, .int .u64 p.sd, .bool true, .int .i64 (ev + 1), .int .i64 (L + p.it * 625 + DL)]) (w.heap.size) 33 #[.int .i64 p.k, .int .i64 p.it, .int .i64 p.ok, .int .u64 p.ob, .int .i64 p.tk, .int .u64 p.tb, V1, V2, .int .i64 p.po, V3, V4, .int .u64 p.sd, .bool true, .int .i64 (ev + 1), .int .i64 (L + p.it * 625 + DL)] := Av.bother_row K1 (by omega)
      replace K2 : Blk (Y3.setRow (w.heap.size + 1) #[.int .i64 p.k, .int .i64 p.it, .int .i64 p.ok, .int .u64 p.ob, .int .i64 p.tk, .int .u64 p.tb, V1, V2, .int .i64 p.po, V3, V4, .int .u64 p.sd, .bool true, .int .i64 (ev + 1), .int .i64 (L + p.it * 625 + DL)]) (w.heap.size + 1) 33 #[.int .i64 p.k, .int .i64 p.it, .int .i64 p.ok, .int .u64 p.ob, .int .i64 p.tk, .int .u64 p.tb, V1, V2, .int .i64 p.po, V3, V4, .int .u64 p.sd, .bool true, .int .i64 (ev + 1), .int .i64 (L + p.it * 625 + DL)] := Av.bset_row K2
      replace K6 : Blk (Y3.setRow (w.heap.size + 1) #[.int .i64 p.k, .int .i64 p.it, .int .i64 p.ok, .int .u64 p.ob, .int .i64 p.tk, .int .u64 p.tb, V1, V2, .int .i64 p.po, V3, V4, .int .u64 p.sd, .bool true, .int .i64 (ev + 1), .int .i64 (L + p.it * 625 + DL)]) (g6) 3 #[.int .i64 L] := Av.bother_row K6 (by omega)
      replace BX : Below w.heap.size w (Y3.setRow (w.heap.size + 1) #[.int .i64 p.k, .int .i64 p.it, .int .i64 p.ok, .int .u64 p.ob, .int .i64 p.tk, .int .u64 p.tb, V1, V2, .int .i64 p.po, V3, V4, .int .u64 p.sd, .bool true, .int .i64 (ev + 1), .int .i64 (L + p.it * 625 + DL)]) := below_setRow BX (by omega) _
      replace HS := Has.farR (cs := #[.int .i64 p.k, .int .i64 p.it, .int .i64 p.ok, .int .u64 p.ob, .int .i64 p.tk, .int .u64 p.tb, V1, V2, .int .i64 p.po, V3, V4, .int .u64 p.sd, .bool true, .int .i64 (ev + 1), .int .i64 (L + p.it * 625 + DL)]) HS (show w.heap.size + 1 < w.heap.size + 2 by omega)
      replace R0 := Row.farR (cs := #[.int .i64 p.k, .int .i64 p.it, .int .i64 p.ok, .int .u64 p.ob, .int .i64 p.tk, .int .u64 p.tb, V1, V2, .int .i64 p.po, V3, V4, .int .u64 p.sd, .bool true, .int .i64 (ev + 1), .int .i64 (L + p.it * 625 + DL)]) R0 (show w.heap.size + 1 < w.heap.size + 2 by omega)
      replace R1 := Row.farR (cs := #[.int .i64 p.k, .int .i64 p.it, .int .i64 p.ok, .int .u64 p.ob, .int .i64 p.tk, .int .u64 p.tb, V1, V2, .int .i64 p.po, V3, V4, .int .u64 p.sd, .bool true, .int .i64 (ev + 1), .int .i64 (L + p.it * 625 + DL)]) R1 (show w.heap.size + 1 < w.heap.size + 2 by omega)
      replace R2 := Row.farR (cs := #[.int .i64 p.k, .int .i64 p.it, .int .i64 p.ok, .int .u64 p.ob, .int .i64 p.tk, .int .u64 p.tb, V1, V2, .int .i64 p.po, V3, V4, .int .u64 p.sd, .bool true, .int .i64 (ev + 1), .int .i64 (L + p.it * 625 + DL)]) R2 (show w.heap.size + 1 < w.heap.size + 2 by omega)
      clear H9
      generalize Y3.setRow (w.heap.size + 1) #[.int .i64 p.k, .int .i64 p.it, .int .i64 p.ok, .int .u64 p.ob, .int .i64 p.tk, .int .u64 p.tb, V1, V2, .int .i64 p.po, V3, V4, .int .u64 p.sd, .bool true, .int .i64 (ev + 1), .int .i64 (L + p.it * 625 + DL)] = Y6 at *
      refine hK.out _ _ K1 (fun hHeld => ?_)
      clear hK K
      try simp only [List.getElem_toArray, List.getElem_cons_zero, List.getElem_cons_succ, Act.put, List.setIfInBounds_toArray, List.set_cons_zero, List.set_cons_succ]
      refine wpAnyH_ready (rs := [7]) (by kernel_rfl) (by simp) ?_
      refine AllReadyH.cons rfl (fun K hK => ?_) (AllReadyH.nil)
      refine Av.step_build_slice rfl 42 54 3 _ rfl #[.int .i64 37, .int .i64 L, .int .i64 p.k, .int .i64 p.ok, .int .u64 p.ob, .int .i64 p.tk, .int .u64 p.tb, .slice B0 p.ds.length d0, .int .u32 0, .int .u32 0, .int .i64 0, .int .i64 0, .int .i64 0, .int .i64 0, .int .i64 0, .int .u64 0, .int .i64 0, .int .i64 0, .int .i64 0, .int .i64 38, .int .i64 (L + 1000), .int .i64 p.k, .int .i64 p.ok, .int .u64 p.ob, .int .i64 p.tk, .int .u64 p.tb, .slice B1 p.ds.length d1, .int .u32 0, .int .u32 0, .int .i64 0, .int .i64 0, .int .i64 0, .int .i64 0, .int .i64 0, .int .u64 0, .int .i64 0, .int .i64 0, .int .i64 0, .int .i64 39, .int .i64 (L + 2000), .int .i64 p.k, .int .i64 p.ok, .int .u64 p.ob, .int .i64 p.tk, .int .u64 p.tb, .slice B2 p.ds.length d2, .int .u32 0, .int .u32 0, .int .i64 0, .int .i64 0, .int .i64 0, .int .i64 0, .int .i64 0, .int .u64 0, .int .i64 0, .int .i64 0, .int .i64 0] iEsnd _ 19 Tryd.underlying42 hisnd hzsnd hssnd (by omega) (by omega) (by kernel_rfl) ?_
      have b9 := (Below.refl Y6.heap.size Y6).alloc (Nat.le_refl _) (.cells #[.int .i64 37, .int .i64 L, .int .i64 p.k, .int .i64 p.ok, .int .u64 p.ob, .int .i64 p.tk, .int .u64 p.tb, .slice B0 p.ds.length d0, .int .u32 0, .int .u32 0, .int .i64 0, .int .i64 0, .int .i64 0, .int .i64 0, .int .i64 0, .int .u64 0, .int .i64 0, .int .i64 0, .int .i64 0, .int .i64 38, .int .i64 (L + 1000), .int .i64 p.k, .int .i64 p.ok, .int .u64 p.ob, .int .i64 p.tk, .int .u64 p.tb, .slice B1 p.ds.length d1, .int .u32 0, .int .u32 0, .int .i64 0, .int .i64 0, .int .i64 0, .int .i64 0, .int .i64 0, .int .u64 0, .int .i64 0, .int .i64 0, .int .i64 0, .int .i64 39, .int .i64 (L + 2000), .int .i64 p.k, .int .i64 p.ok, .int .u64 p.ob, .int .i64 p.tk, .int .u64 p.tb, .slice B2 p.ds.length d2, .int .u32 0, .int .u32 0, .int .i64 0, .int .i64 0, .int .i64 0, .int .i64 0, .int .i64 0, .int .u64 0, .int .i64 0, .int .i64 0, .int .i64 0] 54)
      have RL : Row (Y6.alloc (.cells #[.int .i64 37, .int .i64 L, .int .i64 p.k, .int .i64 p.ok, .int .u64 p.ob, .int .i64 p.tk, .int .u64 p.tb, .slice B0 p.ds.length d0, .int .u32 0, .int .u32 0, .int .i64 0, .int .i64 0, .int .i64 0, .int .i64 0, .int .i64 0, .int .u64 0, .int .i64 0, .int .i64 0, .int .i64 0, .int .i64 38, .int .i64 (L + 1000), .int .i64 p.k, .int .i64 p.ok, .int .u64 p.ob, .int .i64 p.tk, .int .u64 p.tb, .slice B1 p.ds.length d1, .int .u32 0, .int .u32 0, .int .i64 0, .int .i64 0, .int .i64 0, .int .i64 0, .int .i64 0, .int .u64 0, .int .i64 0, .int .i64 0, .int .i64 0, .int .i64 39, .int .i64 (L + 2000), .int .i64 p.k, .int .i64 p.ok, .int .u64 p.ob, .int .i64 p.tk, .int .u64 p.tb, .slice B2 p.ds.length d2, .int .u32 0, .int .u32 0, .int .i64 0, .int .i64 0, .int .i64 0, .int .i64 0, .int .i64 0, .int .u64 0, .int .i64 0, .int .i64 0, .int .i64 0] 54)) (w.heap.size + 2) (.slice (some ⟨Y6.heap.size, 0, none⟩) 3 3) 3 [.int .i64 37, .int .i64 L, .int .i64 p.k, .int .i64 p.ok, .int .u64 p.ob, .int .i64 p.tk, .int .u64 p.tb, .slice B0 p.ds.length d0, .int .u32 0, .int .u32 0, .int .i64 0, .int .i64 0, .int .i64 0, .int .i64 0, .int .i64 0, .int .u64 0, .int .i64 0, .int .i64 0, .int .i64 0, .int .i64 38, .int .i64 (L + 1000), .int .i64 p.k, .int .i64 p.ok, .int .u64 p.ob, .int .i64 p.tk, .int .u64 p.tb, .slice B1 p.ds.length d1, .int .u32 0, .int .u32 0, .int .i64 0, .int .i64 0, .int .i64 0, .int .i64 0, .int .i64 0, .int .u64 0, .int .i64 0, .int .i64 0, .int .i64 0, .int .i64 39, .int .i64 (L + 2000), .int .i64 p.k, .int .i64 p.ok, .int .u64 p.ob, .int .i64 p.tk, .int .u64 p.tb, .slice B2 p.ds.length d2, .int .u32 0, .int .u32 0, .int .i64 0, .int .i64 0, .int .i64 0, .int .i64 0, .int .i64 0, .int .u64 0, .int .i64 0, .int .i64 0, .int .i64 0] := Row.lit (show w.heap.size + 2 ≤ Y6.heap.size from K2.lt) rfl
      generalize Y6.alloc (.cells #[.int .i64 37, .int .i64 L, .int .i64 p.k, .int .i64 p.ok, .int .u64 p.ob, .int .i64 p.tk, .int .u64 p.tb, .slice B0 p.ds.length d0, .int .u32 0, .int .u32 0, .int .i64 0, .int .i64 0, .int .i64 0, .int .i64 0, .int .i64 0, .int .u64 0, .int .i64 0, .int .i64 0, .int .i64 0, .int .i64 38, .int .i64 (L + 1000), .int .i64 p.k, .int .i64 p.ok, .int .u64 p.ob, .int .i64 p.tk, .int .u64 p.tb, .slice B1 p.ds.length d1, .int .u32 0, .int .u32 0, .int .i64 0, .int .i64 0, .int .i64 0, .int .i64 0, .int .i64 0, .int .u64 0, .int .i64 0, .int .i64 0, .int .i64 0, .int .i64 39, .int .i64 (L + 2000), .int .i64 p.k, .int .i64 p.ok, .int .u64 p.ob, .int .i64 p.tk, .int .u64 p.tb, .slice B2 p.ds.length d2, .int .u32 0, .int .u32 0, .int .i64 0, .int .i64 0, .int .i64 0, .int .i64 0, .int .i64 0, .int .u64 0, .int .i64 0, .int .i64 0, .int .i64 0] 54) = Y7 at *
      replace K1 := K1.below b9 K1.lt
      replace K2 := K2.below b9 K2.lt
      replace K6 := K6.below b9 K6.lt
      replace BX := Base.thenB BX b9
      replace HS := HS.below b9
      replace R0 := Row.below R0 b9
      replace R1 := Row.below R1 b9
      replace R2 := Row.below R2 b9
      clear b9
      refine hK.out _ _ K1 (fun hHeld => ?_)
      clear hK K
      try simp only [List.getElem_toArray, List.getElem_cons_zero, List.getElem_cons_succ, Act.put, List.setIfInBounds_toArray, List.set_cons_zero, List.set_cons_succ]
      refine wpAnyH_take (i := 9) (v := .slice (some ⟨Y6.heap.size, 0, none⟩) 3 3) rfl (by kernel_rfl) (by kernel_rfl) (by kernel_rfl) (fun _ _ _ h => h) (Or.inl ⟨by first | rfl | go_simp, by intro w9 hSw; (try dsimp only at hSw); go_simp⟩) (by assumption) ?_
      simp only [List.getElem_toArray, List.getElem_cons_zero, List.getElem_cons_succ, Act.put, List.setIfInBounds_toArray, List.set_cons_zero, List.set_cons_succ]
      refine wpAnyH_done (by kernel_rfl) ?_ _
      go_wp2_with fail
      refine bodyPost_ret (v := .tuple #[.agg #[.int .i64 p.k, .int .i64 p.it, .int .i64 p.ok, .int .u64 p.ob, .int .i64 p.tk, .int .u64 p.tb, V1, V2, .int .i64 p.po, V3, V4, .int .u64 p.sd, .bool true, .int .i64 (ev + 1), .int .i64 (L + p.it * 625 + DL)], .slice (some ⟨Y6.heap.size, 0, none⟩) 3 3]) ?_ rfl ⟨V1, V2, V3, V4, .slice (some ⟨Y6.heap.size, 0, none⟩) 3 3, by rw [HQ.out.1], by rw [HQ.out.1]; exact HS.less (by omega), ?_, BX⟩
      rotate_left
      · rw [HQ.out.2]
        refine ⟨[.slice B0 p.ds.length d0, .slice B1 p.ds.length d1, .slice B2 p.ds.length d2], rfl, RL.less (by omega), ?_⟩
        intro x hx
        simp only [List.zip_cons_cons, List.zip_nil_right, List.mem_cons, List.not_mem_nil, or_false] at hx
        rcases hx with rfl | rfl | rfl
        · exact R0.less (by omega)
        · exact R1.less (by omega)
        · exact R2.less (by omega)
      clear hHeld
      have HL := run_loadVar_row (P := Tryd.prog) Y7 (w.heap.size + 1) 33 33 #[.int .i64 p.k, .int .i64 p.it, .int .i64 p.ok, .int .u64 p.ob, .int .i64 p.tk, .int .u64 p.tb, V1, V2, .int .i64 p.po, V3, V4, .int .u64 p.sd, .bool true, .int .i64 (ev + 1), .int .i64 (L + p.it * 625 + DL)] (0, 0) _ K2 Tryd.underlying33 rfl (by kernel_rfl)
      generalize (#[.int .i64 p.k, .int .i64 p.it, .int .i64 p.ok, .int .u64 p.ob, .int .i64 p.tk, .int .u64 p.tb, V1, V2, .int .i64 p.po, V3, V4, .int .u64 p.sd, .bool true, .int .i64 (ev + 1), .int .i64 (L + p.it * 625 + DL)] : Array Value) = CS at *
      simp [results, show (Tryd.f20).results = #[.cell 4 33, .slot 5] from rfl, asAddr, HL, Act.put]
end Go.Proofs.YtcbliliinmfnjaaDoor.Av
