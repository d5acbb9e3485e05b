/- The statements on the start of advertisers and on delays: contracts over the program. How a struct with fields of several cells reads, field by field. No program is mentioned. How arguments read: a PDU by value. No function is mentioned. How arguments read: slices of addresses and of changes, a request under a policy. No function is mentioned. How arguments read: the settings of an advertiser by value, a PDU that is heard, calls one after another. No function is mentioned. The statements on the start of advertisers and on delays, as they are read. -/
import Derived.Test.YtcbliliinmfnjaaDoorKAvLives
import Derived.Test.YtcbliliinmfnjaaDoorKAvOwn
import Derived.Test.YtcbliliinmfnjaaDoorKAvRStart
import Derived.Test.YtcbliliinmfnjaaDoorKAvSame
import Derived.Test.YtcbliliinmfnjaaDoorKM14
import Derived.Test.YtcbliliinmfnjaaDoorKM7
import Derived.Test.YtcbliliinmfnjaaDoorKM8
import Derived.Test.YtcbliliinmfnjaaDoorKM15
section
set_option linter.unusedVariables false
set_option linter.unusedSimpArgs false
namespace Go.Proofs.YtcbliliinmfnjaaDoor.Av
open Go.RowKit Mem Oct Rw Ap Ace Prv
open Base (thenB)

set_option maxRecDepth 100000 in
set_option maxHeartbeats 4000000 in
theorem law_starts (p : Pm) (VD VS VA VI : Value) (l : Int) (w : World) (hW : PW p) (hH : Has w 0 p VD VS VA VI) (hT : Adr.Tab w) :
    Calls Tryd.prog 3 #[.agg (pcel p VD VS VA VI), .int .i64 l] w fun e w' => e = .returned (.bool true) ∧ Below w.heap.size w w' := by
  have BX : Below w.heap.size w (w.alloc (.cells #[.int .i64 p.k, .int .i64 p.it, .int .i64 p.ok, .int .u64 p.ob, .int .i64 p.tk, .int .u64 p.tb, VD, VS, .int .i64 p.po, VA, VI, .int .u64 p.sd] 29)) := (Below.refl _ _).alloc (Nat.le_refl _) _
  have K2 : Blk (w.alloc (.cells #[.int .i64 p.k, .int .i64 p.it, .int .i64 p.ok, .int .u64 p.ob, .int .i64 p.tk, .int .u64 p.tb, VD, VS, .int .i64 p.po, VA, VI, .int .u64 p.sd] 29)) w.heap.size 29 #[.int .i64 p.k, .int .i64 p.it, .int .i64 p.ok, .int .u64 p.ob, .int .i64 p.tk, .int .u64 p.tb, VD, VS, .int .i64 p.po, VA, VI, .int .u64 p.sd] := Blk.fresh w 29 #[.int .i64 p.k, .int .i64 p.it, .int .i64 p.ok, .int .u64 p.ob, .int .i64 p.tk, .int .u64 p.tb, VD, VS, .int .i64 p.po, VA, VI, .int .u64 p.sd]
  have HLi : Hid (∀ X, Below w.heap.size w X → Calls Tryd.prog 12 #[] X fun e w' => e = .returned (.bool true) ∧ Below X.heap.size X w') := Lib.hid fun X b => lives_any X (hT.below b)
  have HSm : Hid (∀ X, Below w.heap.size w X → Calls Tryd.prog 13 #[.agg (pcel p VD VS VA VI)] X fun e w' => e = .returned (.bool (decide (p.ac.length ≤ 100 ∧ p.ids.length ≤ 100))) ∧ Below X.heap.size X w') := Lib.hid fun X b => small_any p _ _ _ _ 0 X (hH.below b)
  have HOw : Hid (∀ X, Below w.heap.size w X → Calls Tryd.prog 15 #[.agg (pcel p VD VS VA VI)] X fun e w' => PmR X w' e p) := Lib.hid fun X b => own_any p _ _ _ _ 0 X hW (hH.below b)
  have HSt : Hid (∀ X U1 U2 U3 U4 mm, Below w.heap.size w X → Has X mm p U1 U2 U3 U4 → Calls Tryd.prog 14 #[.agg (pcel p U1 U2 U3 U4), .int .i64 l] X fun e w' => StaR X w' e (startA p l) (stE p)) := Lib.hid fun X U1 U2 U3 U4 mm b h => start_any p U1 U2 U3 U4 l mm X hW h (hT.below b)
  have HRs : Hid (∀ X, Below w.heap.size w X → Calls Tryd.prog 16 #[.agg (pcel p VD VS VA VI), .int .i64 l] X fun e w' => RStR X w' e (startA p l) (stE p)) := Lib.hid fun X b => rstart_any p _ _ _ _ l 0 X hW (hH.below b)
  have hPA := start_pw hW l
  clear hW hH hT
  generalize startA p l = AD at *
  generalize stE p = E at *
  generalize decide (p.ac.length ≤ 100 ∧ p.ids.length ≤ 100) = SM at *
  go_enter Tryd.func3, Tryd.ntmps3
  go_wp2_with fail
  generalize w.alloc (.cells #[.int .i64 p.k, .int .i64 p.it, .int .i64 p.ok, .int .u64 p.ob, .int .i64 p.tk, .int .u64 p.tb, VD, VS, .int .i64 p.po, VA, VI, .int .u64 p.sd] 29) = W0 at *
  refine (HLi.out _ BX).mono ?_
  rintro e W1 ⟨rfl, b1⟩
  replace BX := thenB BX b1
  replace K2 := K2.below b1 K2.lt
  clear b1
  go_wp2_with (refine wpList_load_row rfl 29 (.tmp 2) rfl w.heap.size rfl 29 _ (0, 0) _ K2 Tryd.underlying29 rfl (by kernel_rfl) ?_)
  refine (HSm.out _ BX).mono ?_
  rintro e W2 ⟨rfl, b2⟩
  replace BX := thenB BX b2
  replace K2 := K2.below b2 K2.lt
  clear b2
  cases SM with
  | false =>
    go_wp2_with fail
    go_ret
    exact ⟨rfl, BX⟩
  | true =>
  go_wp2_with (refine wpList_load_row rfl 29 (.tmp 2) rfl w.heap.size rfl 29 _ (0, 0) _ K2 Tryd.underlying29 rfl (by kernel_rfl) ?_)
  refine (HOw.out _ BX).mono ?_
  rintro e W3 ⟨O1, O2, O3, O4, rfl, HO, b3⟩
  replace BX := thenB BX b3
  replace K2 := K2.below b3 K2.lt
  clear b3
  go_wp2_with fail
  refine (HSt.out _ O1 O2 O3 O4 _ BX HO).mono ?_
  rintro e W4 ⟨A1, A2, A3, A4, rfl, HA, b4⟩
  replace BX := thenB BX b4
  replace K2 := K2.below b4 K2.lt
  replace HO := HO.below b4
  clear b4
  have K5 : Blk (W4.alloc (.cells #[.int .i64 0, .int .i64 0, .int .i64 0, .int .u64 0, .int .i64 0, .int .u64 0, .slice none 0 0, .slice none 0 0, .int .i64 0, .slice none 0 0, .slice none 0 0, .int .u64 0, .bool false, .int .i64 0, .int .i64 0] 33)) W4.heap.size 33 #[.int .i64 0, .int .i64 0, .int .i64 0, .int .u64 0, .int .i64 0, .int .u64 0, .slice none 0 0, .slice none 0 0, .int .i64 0, .slice none 0 0, .slice none 0 0, .int .u64 0, .bool false, .int .i64 0, .int .i64 0] := Blk.fresh W4 33 #[.int .i64 0, .int .i64 0, .int .i64 0, .int .u64 0, .int .i64 0, .int .u64 0, .slice none 0 0, .slice none 0 0, .int .i64 0, .slice none 0 0, .slice none 0 0, .int .u64 0, .bool false, .int .i64 0, .int .i64 0]
  have l9K2 := K2.lt
  have B9 := (Below.refl W4.heap.size W4).alloc (Nat.le_refl _) (.cells #[.int .i64 0, .int .i64 0, .int .i64 0, .int .u64 0, .int .i64 0, .int .u64 0, .slice none 0 0, .slice none 0 0, .int .i64 0, .slice none 0 0, .slice none 0 0, .int .u64 0, .bool false, .int .i64 0, .int .i64 0] 33)
  replace B9 := below_setRow B9 (Nat.le_refl _) #[.int .i64 AD.p.k, .int .i64 AD.p.it, .int .i64 AD.p.ok, .int .u64 AD.p.ob, .int .i64 AD.p.tk, .int .u64 AD.p.tb, A1, A2, .int .i64 AD.p.po, A3, A4, .int .u64 AD.p.sd, .bool AD.on, .int .i64 AD.ev, .int .i64 AD.nx]
  have H1 : (#[.int .i64 AD.p.k, .int .i64 AD.p.it, .int .i64 AD.p.ok, .int .u64 AD.p.ob, .int .i64 AD.p.tk, .int .u64 AD.p.tb, A1, A2, .int .i64 AD.p.po, A3, A4, .int .u64 AD.p.sd, .bool AD.on, .int .i64 AD.ev, .int .i64 AD.nx] : Array Value).all (·.oneCell') = true := HA.one AD
  have K5' : Blk ((W4.alloc (.cells #[.int .i64 0, .int .i64 0, .int .i64 0, .int .u64 0, .int .i64 0, .int .u64 0, .slice none 0 0, .slice none 0 0, .int .i64 0, .slice none 0 0, .slice none 0 0, .int .u64 0, .bool false, .int .i64 0, .int .i64 0] 33)).setRow W4.heap.size #[.int .i64 AD.p.k, .int .i64 AD.p.it, .int .i64 AD.p.ok, .int .u64 AD.p.ob, .int .i64 AD.p.tk, .int .u64 AD.p.tb, A1, A2, .int .i64 AD.p.po, A3, A4, .int .u64 AD.p.sd, .bool AD.on, .int .i64 AD.ev, .int .i64 AD.nx]) W4.heap.size 33 #[.int .i64 AD.p.k, .int .i64 AD.p.it, .int .i64 AD.p.ok, .int .u64 AD.p.ob, .int .i64 AD.p.tk, .int .u64 AD.p.tb, A1, A2, .int .i64 AD.p.po, A3, A4, .int .u64 AD.p.sd, .bool AD.on, .int .i64 AD.ev, .int .i64 AD.nx] := bset_row K5
  go_upto_region 6 with (refine wpList_store_row rfl 33 (.tmp 5) _ rfl (W4.heap.size) #[.int .i64 AD.p.k, .int .i64 AD.p.it, .int .i64 AD.p.ok, .int .u64 AD.p.ob, .int .i64 AD.p.tk, .int .u64 AD.p.tb, A1, A2, .int .i64 AD.p.po, A3, A4, .int .u64 AD.p.sd, .bool AD.on, .int .i64 AD.ev, .int .i64 AD.nx] rfl rfl 33 _ K5 (by kernel_rfl) rfl H1 ?_)
  clear K5 H1
  have K5 := K5'
  clear K5'
  replace K2 := K2.below B9 l9K2
  replace HA := HA.below B9
  replace BX := thenB BX B9
  clear B9 l9K2
  generalize (W4.alloc (.cells #[.int .i64 0, .int .i64 0, .int .i64 0, .int .u64 0, .int .i64 0, .int .u64 0, .slice none 0 0, .slice none 0 0, .int .i64 0, .slice none 0 0, .slice none 0 0, .int .u64 0, .bool false, .int .i64 0, .int .i64 0] 33)).setRow W4.heap.size #[.int .i64 AD.p.k, .int .i64 AD.p.it, .int .i64 AD.p.ok, .int .u64 AD.p.ob, .int .i64 AD.p.tk, .int .u64 AD.p.tb, A1, A2, .int .i64 AD.p.po, A3, A4, .int .u64 AD.p.sd, .bool AD.on, .int .i64 AD.ev, .int .i64 AD.nx] = Y1 at *
  generalize W4.heap.size = g5 at *
  go_wp2_with (refine wpList_load_row rfl 29 (.tmp 2) rfl w.heap.size rfl 29 _ (0, 0) _ K2 Tryd.underlying29 rfl (by kernel_rfl) ?_)
  refine (HRs.out _ BX).mono ?_
  rintro e W5 ⟨B1, B2, B3, B4, rfl, HB, b5⟩
  replace BX := thenB BX b5
  replace K2 := K2.below b5 K2.lt
  replace K5 := K5.below b5 K5.lt
  replace HA := HA.below b5
  clear b5
  have K7 : Blk (W5.alloc (.cells #[.int .i64 0, .int .i64 0, .int .i64 0, .int .u64 0, .int .i64 0, .int .u64 0, .slice none 0 0, .slice none 0 0, .int .i64 0, .slice none 0 0, .slice none 0 0, .int .u64 0, .bool false, .int .i64 0, .int .i64 0] 33)) W5.heap.size 33 #[.int .i64 0, .int .i64 0, .int .i64 0, .int .u64 0, .int .i64 0, .int .u64 0, .slice none 0 0, .slice none 0 0, .int .i64 0, .slice none 0 0, .slice none 0 0, .int .u64 0, .bool false, .int .i64 0, .int .i64 0] := Blk.fresh W5 33 #[.int .i64 0, .int .i64 0, .int .i64 0, .int .u64 0, .int .i64 0, .int .u64 0, .slice none 0 0, .slice none 0 0, .int .i64 0, .slice none 0 0, .slice none 0 0, .int .u64 0, .bool false, .int .i64 0, .int .i64 0]
  have l9K2 := K2.lt
  have l9K5 := K5.lt
  have B9 := (Below.refl W5.heap.size W5).alloc (Nat.le_refl _) (.cells #[.int .i64 0, .int .i64 0, .int .i64 0, .int .u64 0, .int .i64 0, .int .u64 0, .slice none 0 0, .slice none 0 0, .int .i64 0, .slice none 0 0, .slice none 0 0, .int .u64 0, .bool false, .int .i64 0, .int .i64 0] 33)
  replace B9 := below_setRow B9 (Nat.le_refl _) #[.int .i64 AD.p.k, .int .i64 AD.p.it, .int .i64 AD.p.ok, .int .u64 AD.p.ob, .int .i64 AD.p.tk, .int .u64 AD.p.tb, B1, B2, .int .i64 AD.p.po, B3, B4, .int .u64 AD.p.sd, .bool AD.on, .int .i64 AD.ev, .int .i64 AD.nx]
  have H1 : (#[.int .i64 AD.p.k, .int .i64 AD.p.it, .int .i64 AD.p.ok, .int .u64 AD.p.ob, .int .i64 AD.p.tk, .int .u64 AD.p.tb, B1, B2, .int .i64 AD.p.po, B3, B4, .int .u64 AD.p.sd, .bool AD.on, .int .i64 AD.ev, .int .i64 AD.nx] : Array Value).all (·.oneCell') = true := HB.one AD
  have K7' : Blk ((W5.alloc (.cells #[.int .i64 0, .int .i64 0, .int .i64 0, .int .u64 0, .int .i64 0, .int .u64 0, .slice none 0 0, .slice none 0 0, .int .i64 0, .slice none 0 0, .slice none 0 0, .int .u64 0, .bool false, .int .i64 0, .int .i64 0] 33)).setRow W5.heap.size #[.int .i64 AD.p.k, .int .i64 AD.p.it, .int .i64 AD.p.ok, .int .u64 AD.p.ob, .int .i64 AD.p.tk, .int .u64 AD.p.tb, B1, B2, .int .i64 AD.p.po, B3, B4, .int .u64 AD.p.sd, .bool AD.on, .int .i64 AD.ev, .int .i64 AD.nx]) W5.heap.size 33 #[.int .i64 AD.p.k, .int .i64 AD.p.it, .int .i64 AD.p.ok, .int .u64 AD.p.ob, .int .i64 AD.p.tk, .int .u64 AD.p.tb, B1, B2, .int .i64 AD.p.po, B3, B4, .int .u64 AD.p.sd, .bool AD.on, .int .i64 AD.ev, .int .i64 AD.nx] := bset_row K7
  go_upto_region 7 with (refine wpList_store_row rfl 33 (.tmp 7) _ rfl (W5.heap.size) #[.int .i64 AD.p.k, .int .i64 AD.p.it, .int .i64 AD.p.ok, .int .u64 AD.p.ob, .int .i64 AD.p.tk, .int .u64 AD.p.tb, B1, B2, .int .i64 AD.p.po, B3, B4, .int .u64 AD.p.sd, .bool AD.on, .int .i64 AD.ev, .int .i64 AD.nx] rfl rfl 33 _ K7 (by kernel_rfl) rfl H1 ?_)
  clear K7 H1
  have K7 := K7'
  clear K7'
  replace K2 := K2.below B9 l9K2
  replace K5 := K5.below B9 l9K5
  replace HA := HA.below B9
  replace HB := HB.below B9
  replace BX := thenB BX B9
  clear B9 l9K2 l9K5
  generalize (W5.alloc (.cells #[.int .i64 0, .int .i64 0, .int .i64 0, .int .u64 0, .int .i64 0, .int .u64 0, .slice none 0 0, .slice none 0 0, .int .i64 0, .slice none 0 0, .slice none 0 0, .int .u64 0, .bool false, .int .i64 0, .int .i64 0] 33)).setRow W5.heap.size #[.int .i64 AD.p.k, .int .i64 AD.p.it, .int .i64 AD.p.ok, .int .u64 AD.p.ob, .int .i64 AD.p.tk, .int .u64 AD.p.tb, B1, B2, .int .i64 AD.p.po, B3, B4, .int .u64 AD.p.sd, .bool AD.on, .int .i64 AD.ev, .int .i64 AD.nx] = Y2 at *
  generalize W5.heap.size = g7 at *
  go_wp2_with (first | (refine wpList_load_row rfl 33 (.tmp 5) rfl g5 rfl 33 _ (0, 0) _ K5 Tryd.underlying33 rfl (by kernel_rfl) ?_) | (refine wpList_load_row rfl 33 (.tmp 7) rfl g7 rfl 33 _ (0, 0) _ K7 Tryd.underlying33 rfl (by kernel_rfl) ?_))
  refine (same_adv AD A1 A2 A3 A4 B1 B2 B3 B4 _ _ _ hPA HA HB).mono ?_
  rintro e W6 ⟨rfl, b6⟩
  go_wp2_with fail
  go_ret
  exact ⟨by simp, thenB BX b6⟩
set_option maxRecDepth 100000 in
set_option maxHeartbeats 4000000 in
theorem law_delays (sd ev : Int) (w : World) (hs : 0 ≤ sd ∧ sd ≤ 18446744073709551615) (hT : Adr.Tab w) :
    Calls Tryd.prog 4 #[.int .u64 sd, .int .i64 ev] w fun e w' => e = .returned (.bool true) ∧ Below w.heap.size w w' := by
  have HLi := Lib.hid (lives_any w hT)
  have H1 := Lib.hid (fun X => delay_any sd ev X hs)
  have H2 := Lib.hid (fun X => rdelay_any sd ev X hs)
  clear hT
  generalize delZ sd ev = DZ at *
  go_enter Tryd.func4, Tryd.ntmps4
  go_wp2_with fail
  refine HLi.out.mono ?_
  rintro e W1 ⟨rfl, b1⟩
  go_wp2_with fail
  refine (H1.out _).mono ?_
  rintro e W2 ⟨rfl, b2⟩
  go_wp2_with fail
  refine (H2.out _).mono ?_
  rintro e W3 ⟨rfl, b3⟩
  go_wp2_with fail
  go_ret
  exact ⟨by simp, thenB (thenB b1 b2) b3⟩
end Go.Proofs.YtcbliliinmfnjaaDoor.Av

end
section
set_option linter.unusedVariables false
set_option linter.unusedSimpArgs false
namespace Go.Proofs.YtcbliliinmfnjaaDoor.Rd
open Go.ChangeShapes Go.WideShapes Go.ChangeAt Go.RowKit Go.Deep Mem Rw

section
variable {H : Type} {enc : TypeId × Value → H} {P : Program} {w : World} {base : Nat}
theorem trod_part {t : TypeId} {fs : Array Field} {cs : List Value} {fuel : Nat} {y : DataW H × List MemPlace} (hs : P.underlying t = some (.struct fs)) (h : DataW.trod enc P w base (fun _ => true) true fuel t cs = some y) (hl : Light P t y.1) :
    ∃ n, ∀ (j : Nat) (f : Field) (o k : Nat), fs[j]? = some f → f.offset = o → P.cellsOf f.type = k → ∃ z, DataW.trod enc P w base (fun _ => true) true n f.type ((cs.drop o).take k) = some z ∧ Light P f.type z.1 := by
  obtain ⟨xs, n, _, rfl, _, hlen, hat⟩ := DataW.trod_struct hs h
  refine ⟨n, fun j f o k hf ho hk => ?_⟩
  have hj : j < fs.size := by
    rcases Nat.lt_or_ge j fs.size with g | g
    · exact g
    · rw [Array.getElem?_eq_none g] at hf; cases hf
  have h1 := hat j f (by simpa using hf)
  rw [ho, hk] at h1
  have hj2 : j < xs.length := by simpa [hlen] using hj
  rw [List.getElem?_eq_getElem hj2] at h1
  exact ⟨_, h1, light_part hs hl hf (by simp [hj2])⟩
end
theorem cells2 {α : Type} {cs : List α} (h : cs.length = 2) : ∃ c0 c1, cs = [c0, c1] := by
  match cs, h with
  | [c0, c1], _ => exact ⟨c0, c1, rfl⟩
theorem cells3 {α : Type} {cs : List α} (h : cs.length = 3) : ∃ c0 c1 c2, cs = [c0, c1, c2] := by
  match cs, h with
  | [c0, c1, c2], _ => exact ⟨c0, c1, c2, rfl⟩
theorem cells17 {α : Type} {cs : List α} (h : cs.length = 17) : ∃ c0 c1 c2 c3 c4 c5 c6 c7 c8 c9 c10 c11 c12 c13 c14 c15 c16, cs = [c0, c1, c2, c3, c4, c5, c6, c7, c8, c9, c10, c11, c12, c13, c14, c15, c16] := by
  match cs, h with
  | [c0, c1, c2, c3, c4, c5, c6, c7, c8, c9, c10, c11, c12, c13, c14, c15, c16], _ => exact ⟨c0, c1, c2, c3, c4, c5, c6, c7, c8, c9, c10, c11, c12, c13, c14, c15, c16, rfl⟩
end Go.Proofs.YtcbliliinmfnjaaDoor.Rd

end
section
set_option maxRecDepth 100000
set_option linter.unusedVariables false
set_option linter.unusedSimpArgs false
namespace Go.Proofs.YtcbliliinmfnjaaDoor.Rd
open Go.ChangeShapes Go.WideShapes Go.ChangeAt Go.RowKit Go.Deep Mem Rw Ap

/-- A PDU with the slice that holds its data. -/
def encP (x : Pd × Option Addr × Nat) : List Value := (cel x.1 (.slice x.2.1 x.1.ds.length x.2.2)).toList
def GoodP (w : World) (x : Pd × Option Addr × Nat) : Prop := Wid x.1 ∧ Bytes x.1.ds ∧ x.1.ds.length ≤ x.2.2 ∧ x.2.2 ≤ 140737488351232 ∧ Ints .u8 w w.heap.size x.2.1 x.1.ds
section
variable {H : Type} {enc : TypeId × Value → H} {w : World} {base b0 : Nat} {v : Value} {d : DataW H} {p : List MemPlace}
theorem elP : ∀ fuel cs y, DataW.trod enc Tryd.prog w base (fun _ => true) true fuel 52 cs = some y → cs.length = 17 → Light Tryd.prog 52 y.1 → ∃ x : Pd × Option Addr × Nat, cs = encP x ∧ GoodP w x := by
  intro fuel cs y h hlen hl
  obtain ⟨c0, c1, c2, c3, c4, c5, c6, c7, c8, c9, c10, c11, c12, c13, c14, c15, c16, rfl⟩ := cells17 hlen
  obtain ⟨n, hat⟩ := trod_part Tryd.underlying52 h hl
  obtain ⟨z0, h0, _⟩ := hat 0 _ 0 1 rfl rfl (by kernel_rfl)
  obtain ⟨z1, h1, l1⟩ := hat 1 _ 1 2 rfl rfl (by kernel_rfl)
  obtain ⟨z2, h2, l2⟩ := hat 2 _ 3 2 rfl rfl (by kernel_rfl)
  obtain ⟨z3, h3, l3⟩ := hat 3 _ 5 1 rfl rfl (by kernel_rfl)
  obtain ⟨z4, h4, l4⟩ := hat 4 _ 6 11 rfl rfl (by kernel_rfl)
  obtain ⟨k, rfl, w0⟩ := slot_int (by exact Tryd.underlying3) h0
  obtain ⟨n1, hat1⟩ := trod_slot (by exact Tryd.underlying24) (by kernel_rfl) h1 l1
  obtain ⟨y1, g1, _⟩ := hat1 0 _ c1 rfl rfl
  obtain ⟨y2, g2, _⟩ := hat1 1 _ c2 rfl rfl
  obtain ⟨sk, rfl, w1⟩ := slot_int (by exact Tryd.underlying3) g1
  obtain ⟨sb, rfl, w2⟩ := slot_int (by exact Tryd.underlying22) g2
  obtain ⟨n2, hat2⟩ := trod_slot (by exact Tryd.underlying24) (by kernel_rfl) h2 l2
  obtain ⟨y3, g3, _⟩ := hat2 0 _ c3 rfl rfl
  obtain ⟨y4, g4, _⟩ := hat2 1 _ c4 rfl rfl
  obtain ⟨tk, rfl, w3⟩ := slot_int (by exact Tryd.underlying3) g3
  obtain ⟨tb, rfl, w4⟩ := slot_int (by exact Tryd.underlying22) g4
  obtain ⟨A, m, c, zs, rfl, rfl, hmc, hi, hw, hz⟩ := trod_ints (by exact Tryd.underlying25) Tryd.underlying5 (by kernel_rfl) h3 l3
  obtain ⟨n4, hat4⟩ := trod_part (by exact Tryd.underlying50) h4 l4
  obtain ⟨x0, e0, _⟩ := hat4 0 _ 0 1 rfl rfl (by kernel_rfl)
  obtain ⟨x1, e1, _⟩ := hat4 1 _ 1 1 rfl rfl (by kernel_rfl)
  obtain ⟨x2, e2, m2⟩ := hat4 2 _ 2 5 rfl rfl (by kernel_rfl)
  obtain ⟨x3, e3, _⟩ := hat4 3 _ 7 1 rfl rfl (by kernel_rfl)
  obtain ⟨x4, e4, _⟩ := hat4 4 _ 8 1 rfl rfl (by kernel_rfl)
  obtain ⟨x5, e5, _⟩ := hat4 5 _ 9 1 rfl rfl (by kernel_rfl)
  obtain ⟨x6, e6, _⟩ := hat4 6 _ 10 1 rfl rfl (by kernel_rfl)
  obtain ⟨pa, rfl, wa⟩ := slot_int (by exact Tryd.underlying45) e0
  obtain ⟨pb, rfl, wb⟩ := slot_int (by exact Tryd.underlying45) e1
  obtain ⟨pm, rfl, wm⟩ := slot_int (by exact Tryd.underlying48) e3
  obtain ⟨ph, rfl, _⟩ := slot_int (by exact Tryd.underlying3) e4
  obtain ⟨pd, rfl, _⟩ := slot_int (by exact Tryd.underlying3) e5
  obtain ⟨pg, rfl, _⟩ := slot_int (by exact Tryd.underlying3) e6
  obtain ⟨n5, hat5⟩ := trod_slot (by exact Tryd.underlying47) (by kernel_rfl) e2 m2
  obtain ⟨u0, s0, _⟩ := hat5 0 _ c8 rfl rfl
  obtain ⟨u1, s1, _⟩ := hat5 1 _ c9 rfl rfl
  obtain ⟨u2, s2, _⟩ := hat5 2 _ c10 rfl rfl
  obtain ⟨u3, s3, _⟩ := hat5 3 _ c11 rfl rfl
  obtain ⟨u4, s4, _⟩ := hat5 4 _ c12 rfl rfl
  obtain ⟨ps, rfl, _⟩ := slot_int (by exact Tryd.underlying3) s0
  obtain ⟨po, rfl, _⟩ := slot_int (by exact Tryd.underlying3) s1
  obtain ⟨pi, rfl, _⟩ := slot_int (by exact Tryd.underlying3) s2
  obtain ⟨pl, rfl, _⟩ := slot_int (by exact Tryd.underlying3) s3
  obtain ⟨pt, rfl, _⟩ := slot_int (by exact Tryd.underlying3) s4
  have bm := bounds_u64 wm
  obtain ⟨mm, rfl⟩ := Int.eq_ofNat_of_zero_le bm.1
  rw [show Tryd.prog.bytesOf 5 = 1 by kernel_rfl] at hz
  exact ⟨(⟨k, sk, sb, tk, tb, zs, pa, pb, ps, po, pi, pl, pt, mm, ph, pd, pg⟩, A, c), rfl, ⟨bounds_i64 w0, bounds_i64 w1, bounds_u64 w2, bounds_i64 w3, bounds_u64 w4, bounds_u32 wa, bounds_u32 wb, by simp only; omega⟩, fun z hz => bounds_u8 (hw z hz), hmc, by simp only; omega, hi⟩
end
end Go.Proofs.YtcbliliinmfnjaaDoor.Rd

end
section
set_option maxRecDepth 100000
set_option linter.unusedVariables false
set_option linter.unusedSimpArgs false
namespace Go.Proofs.YtcbliliinmfnjaaDoor.Rd
open Go.ChangeShapes Go.WideShapes Go.ChangeAt Go.RowKit Go.Deep Mem Rw Ace

def GoodA (x : Int × Int) : Prop := (-9223372036854775808 ≤ x.1 ∧ x.1 ≤ 9223372036854775807) ∧ 0 ≤ x.2 ∧ x.2 ≤ 18446744073709551615
section
variable {H : Type} {enc : TypeId × Value → H} {w : World} {base b0 : Nat} {v : Value} {d : DataW H} {p : List MemPlace}
theorem elA : ∀ fuel cs y, DataW.trod enc Tryd.prog w base (fun _ => true) true fuel 24 cs = some y → cs.length = 2 → Light Tryd.prog 24 y.1 → ∃ x : Int × Int, cs = encA x ∧ GoodA x := by
  intro fuel cs y h hlen hl
  obtain ⟨c0, c1, rfl⟩ := cells2 hlen
  obtain ⟨n, hat⟩ := trod_slot Tryd.underlying24 (by kernel_rfl) h hl
  obtain ⟨z0, h0, _⟩ := hat 0 _ c0 rfl rfl
  obtain ⟨z1, h1, _⟩ := hat 1 _ c1 rfl rfl
  obtain ⟨n0, rfl, w0⟩ := slot_int (by exact Tryd.underlying3) h0
  obtain ⟨n1, rfl, w1⟩ := slot_int (by exact Tryd.underlying22) h1
  exact ⟨(n0, n1), rfl, bounds_i64 w0, bounds_u64 w1⟩
end
end Go.Proofs.YtcbliliinmfnjaaDoor.Rd

end
section
set_option maxRecDepth 100000
set_option linter.unusedVariables false
set_option linter.unusedSimpArgs false
namespace Go.Proofs.YtcbliliinmfnjaaDoor.Rd
open Go.ChangeShapes Go.WideShapes Go.ChangeAt Go.RowKit Go.Deep Mem Rw Ap Ace Av

theorem cells7 {α : Type} {cs : List α} (h : cs.length = 7) : ∃ c0 c1 c2 c3 c4 c5 c6, cs = [c0, c1, c2, c3, c4, c5, c6] := by
  match cs, h with
  | [c0, c1, c2, c3, c4, c5, c6], _ => exact ⟨c0, c1, c2, c3, c4, c5, c6, rfl⟩
theorem cells9 {α : Type} {cs : List α} (h : cs.length = 9) : ∃ c0 c1 c2 c3 c4 c5 c6 c7 c8, cs = [c0, c1, c2, c3, c4, c5, c6, c7, c8] := by
  match cs, h with
  | [c0, c1, c2, c3, c4, c5, c6, c7, c8], _ => exact ⟨c0, c1, c2, c3, c4, c5, c6, c7, c8, rfl⟩
theorem cells12 {α : Type} {cs : List α} (h : cs.length = 12) : ∃ c0 c1 c2 c3 c4 c5 c6 c7 c8 c9 c10 c11, cs = [c0, c1, c2, c3, c4, c5, c6, c7, c8, c9, c10, c11] := by
  match cs, h with
  | [c0, c1, c2, c3, c4, c5, c6, c7, c8, c9, c10, c11], _ => exact ⟨c0, c1, c2, c3, c4, c5, c6, c7, c8, c9, c10, c11, rfl⟩
theorem cells19 {α : Type} {cs : List α} (h : cs.length = 19) : ∃ c0 c1 c2 c3 c4 c5 c6 c7 c8 c9 c10 c11 c12 c13 c14 c15 c16 c17 c18, cs = [c0, c1, c2, c3, c4, c5, c6, c7, c8, c9, c10, c11, c12, c13, c14, c15, c16, c17, c18] := by
  match cs, h with
  | [c0, c1, c2, c3, c4, c5, c6, c7, c8, c9, c10, c11, c12, c13, c14, c15, c16, c17, c18], _ => exact ⟨c0, c1, c2, c3, c4, c5, c6, c7, c8, c9, c10, c11, c12, c13, c14, c15, c16, c17, c18, rfl⟩
theorem cells20 {α : Type} {cs : List α} (h : cs.length = 20) : ∃ c0 c1 c2 c3 c4 c5 c6 c7 c8 c9 c10 c11 c12 c13 c14 c15 c16 c17 c18 c19, cs = [c0, c1, c2, c3, c4, c5, c6, c7, c8, c9, c10, c11, c12, c13, c14, c15, c16, c17, c18, c19] := by
  match cs, h with
  | [c0, c1, c2, c3, c4, c5, c6, c7, c8, c9, c10, c11, c12, c13, c14, c15, c16, c17, c18, c19], _ => exact ⟨c0, c1, c2, c3, c4, c5, c6, c7, c8, c9, c10, c11, c12, c13, c14, c15, c16, c17, c18, c19, rfl⟩
def GoodI (x : Int × Int × Int) : Prop := (-9223372036854775808 ≤ x.1 ∧ x.1 ≤ 9223372036854775807) ∧ (0 ≤ x.2.1 ∧ x.2.1 ≤ 18446744073709551615) ∧ 0 ≤ x.2.2 ∧ x.2.2 ≤ 18446744073709551615
abbrev QA := Pm × Value × Value × Value × Value
def encQ (x : QA) : List Value := (pcel x.1 x.2.1 x.2.2.1 x.2.2.2.1 x.2.2.2.2).toList
def GoodQ (w : World) (x : QA) : Prop := PW x.1 ∧ Has w 0 x.1 x.2.1 x.2.2.1 x.2.2.2.1 x.2.2.2.2
section
variable {H : Type} {enc : TypeId × Value → H} {w : World} {base b0 : Nat} {v : Value} {d : DataW H} {p : List MemPlace}
theorem elI : ∀ fuel cs y, DataW.trod enc Tryd.prog w base (fun _ => true) true fuel 122 cs = some y → cs.length = 3 → Light Tryd.prog 122 y.1 → ∃ x : Int × Int × Int, cs = encI x ∧ GoodI x := by
  intro fuel cs y h hlen hl
  obtain ⟨c0, c1, c2, rfl⟩ := cells3 hlen
  obtain ⟨n, hat⟩ := trod_part Tryd.underlying122 h hl
  obtain ⟨z0, h0, l0⟩ := hat 0 _ 0 2 rfl rfl (by kernel_rfl)
  obtain ⟨z1, h1, _⟩ := hat 1 _ 2 1 rfl rfl (by kernel_rfl)
  obtain ⟨x, e, g⟩ := elA _ _ _ h0 rfl l0
  obtain ⟨n1, rfl, w1⟩ := slot_int (by exact Tryd.underlying101) h1
  obtain ⟨x1, x2⟩ := x
  simp only [encA] at e
  injection e with e1 e2
  injection e2 with e2 e3
  subst e1; subst e2
  exact ⟨(x1, x2, n1), rfl, g.1, g.2, bounds_u64 w1⟩
theorem addrs_part {v : Value} {fuel : Nat} {y : DataW H × List MemPlace} (h : DataW.trod enc Tryd.prog w base (fun _ => true) true fuel 26 [v] = some y) (hl : Light Tryd.prog 26 y.1) :
    ∃ xs : List (Int × Int), Row w 0 v xs.length (xs.flatMap encA) ∧ (∀ x ∈ xs, GoodA x) ∧ xs.length ≤ 8796093022200 := by
  obtain ⟨A, n, c, xs, rfl, rfl, h2, h3, h4, h5⟩ := trod_rows sizA (by omega) Tryd.underlying26 (by kernel_rfl) elA h hl
  rw [show Tryd.prog.bytesOf 24 = 16 by kernel_rfl] at h5
  exact ⟨xs, Row.of_cells h2 h3, h4, by omega⟩
theorem idents_part {v : Value} {fuel : Nat} {y : DataW H × List MemPlace} (h : DataW.trod enc Tryd.prog w base (fun _ => true) true fuel 27 [v] = some y) (hl : Light Tryd.prog 27 y.1) :
    ∃ xs : List (Int × Int × Int), Row w 0 v xs.length (xs.flatMap encI) ∧ Prv.Idents xs ∧ xs.length ≤ 5864062014800 := by
  obtain ⟨A, n, c, xs, rfl, rfl, h2, h3, h4, h5⟩ := trod_rows sizI (by omega) Tryd.underlying27 (by kernel_rfl) elI h hl
  rw [show Tryd.prog.bytesOf 122 = 24 by kernel_rfl] at h5
  exact ⟨xs, Row.of_cells h2 h3, h4, by omega⟩
theorem bytes_part {v : Value} {fuel : Nat} {y : DataW H × List MemPlace} (h : DataW.trod enc Tryd.prog w base (fun _ => true) true fuel 25 [v] = some y) (hl : Light Tryd.prog 25 y.1) :
    ∃ zs : List Int, Row w 0 v zs.length (zs.map (Value.int .u8)) ∧ Bytes zs ∧ zs.length ≤ 140737488351232 := by
  obtain ⟨A, m, c, zs, rfl, rfl, hmc, hi, hw, hz⟩ := trod_ints (by exact Tryd.underlying25) Tryd.underlying5 (by kernel_rfl) h hl
  rw [show Tryd.prog.bytesOf 5 = 1 by kernel_rfl] at hz
  exact ⟨zs, Row.of_cells hmc (of_ints hi), fun z hz => bounds_u8 (hw z hz), by omega⟩
theorem elQ : ∀ fuel cs y, DataW.trod enc Tryd.prog w base (fun _ => true) true fuel 29 cs = some y → cs.length = 12 → Light Tryd.prog 29 y.1 → ∃ x : QA, cs = encQ x ∧ GoodQ w x := by
  intro fuel cs y h hlen hl
  obtain ⟨c0, c1, c2, c3, c4, c5, c6, c7, c8, c9, c10, c11, rfl⟩ := cells12 hlen
  obtain ⟨n, hat⟩ := trod_part Tryd.underlying29 h hl
  obtain ⟨z0, h0, _⟩ := hat 0 _ 0 1 rfl rfl (by kernel_rfl)
  obtain ⟨z1, h1, _⟩ := hat 1 _ 1 1 rfl rfl (by kernel_rfl)
  obtain ⟨z2, h2, l2⟩ := hat 2 _ 2 2 rfl rfl (by kernel_rfl)
  obtain ⟨z3, h3, l3⟩ := hat 3 _ 4 2 rfl rfl (by kernel_rfl)
  obtain ⟨z4, h4, l4⟩ := hat 4 _ 6 1 rfl rfl (by kernel_rfl)
  obtain ⟨z5, h5, l5⟩ := hat 5 _ 7 1 rfl rfl (by kernel_rfl)
  obtain ⟨z6, h6, _⟩ := hat 6 _ 8 1 rfl rfl (by kernel_rfl)
  obtain ⟨z7, h7, l7⟩ := hat 7 _ 9 1 rfl rfl (by kernel_rfl)
  obtain ⟨z8, h8, l8⟩ := hat 8 _ 10 1 rfl rfl (by kernel_rfl)
  obtain ⟨z9, h9, _⟩ := hat 9 _ 11 1 rfl rfl (by kernel_rfl)
  obtain ⟨k, rfl, w0⟩ := slot_int (by exact Tryd.underlying3) h0
  obtain ⟨it, rfl, w1⟩ := slot_int (by exact Tryd.underlying3) h1
  obtain ⟨x2, e2, g2⟩ := elA _ _ _ h2 rfl l2
  obtain ⟨x3, e3, g3⟩ := elA _ _ _ h3 rfl l3
  obtain ⟨ds, rd, bd, nd⟩ := bytes_part h4 l4
  obtain ⟨sc, rs, bs, ns⟩ := bytes_part h5 l5
  obtain ⟨po, rfl, w6⟩ := slot_int (by exact Tryd.underlying3) h6
  obtain ⟨ac, ra, ga, na⟩ := addrs_part h7 l7
  obtain ⟨ids, ri, gi, ni⟩ := idents_part h8 l8
  obtain ⟨sd, rfl, w9⟩ := slot_int (by exact Tryd.underlying22) h9
  obtain ⟨ok, ob⟩ := x2
  obtain ⟨tk, tb⟩ := x3
  simp only [encA] at e2 e3
  have e2 : [c2, c3] = [.int .i64 ok, .int .u64 ob] := e2
  have e3 : [c4, c5] = [.int .i64 tk, .int .u64 tb] := e3
  injection e2 with e20 e21
  injection e21 with e21 _
  injection e3 with e30 e31
  injection e31 with e31 _
  subst e20; subst e21; subst e30; subst e31
  exact ⟨(⟨k, it, ok, ob, tk, tb, ds, sc, po, ac, ids, sd⟩, c6, c7, c9, c10), rfl, ⟨bounds_i64 w0, bounds_i64 w1, g2.1, g2.2, g3.1, g3.2, bd, bs, bounds_i64 w6, gi, bounds_u64 w9, nd, ns, na, ni⟩, ⟨rd, rs, ra, ri⟩⟩
theorem adv_open (hv : Value.okWide Tryd.prog w .any b0 29 v) (h : DataW.Trod enc Tryd.prog w base (fun _ => true) true 29 v d p) (hl : Light Tryd.prog 29 d) :
    ∃ (x : Pm) (VD VS VA VI : Value), v = .agg (pcel x VD VS VA VI) ∧ PW x ∧ Has w 0 x VD VS VA VI := by
  obtain ⟨x, e, g⟩ := open_struct (en := encQ) (K := 12) Tryd.underlying29 (by kernel_rfl) elQ hv h hl
  exact ⟨x.1, x.2.1, x.2.2.1, x.2.2.2.1, x.2.2.2.2, e, g⟩
/-- A PDU on a channel at a time. -/
def encH (x : (Pd × Option Addr × Nat) × Int × Int) : List Value := encP x.1 ++ [.int .i64 x.2.1, .int .i64 x.2.2]
theorem elH : ∀ fuel cs y, DataW.trod enc Tryd.prog w base (fun _ => true) true fuel 59 cs = some y → cs.length = 19 → Light Tryd.prog 59 y.1 → ∃ x : (Pd × Option Addr × Nat) × Int × Int, cs = encH x ∧ GoodP w x.1 ∧ (-9223372036854775808 ≤ x.2.1 ∧ x.2.1 ≤ 9223372036854775807) ∧ -9223372036854775808 ≤ x.2.2 ∧ x.2.2 ≤ 9223372036854775807 := by
  intro fuel cs y h hlen hl
  obtain ⟨c0, c1, c2, c3, c4, c5, c6, c7, c8, c9, c10, c11, c12, c13, c14, c15, c16, c17, c18, rfl⟩ := cells19 hlen
  obtain ⟨n, hat⟩ := trod_part Tryd.underlying59 h hl
  obtain ⟨z0, h0, l0⟩ := hat 0 _ 0 17 rfl rfl (by kernel_rfl)
  obtain ⟨z1, h1, _⟩ := hat 1 _ 17 1 rfl rfl (by kernel_rfl)
  obtain ⟨z2, h2, _⟩ := hat 2 _ 18 1 rfl rfl (by kernel_rfl)
  obtain ⟨x, e, g⟩ := elP _ _ _ h0 rfl l0
  obtain ⟨ch, rfl, w1⟩ := slot_int (by exact Tryd.underlying3) h1
  obtain ⟨lo, rfl, w2⟩ := slot_int (by exact Tryd.underlying3) h2
  refine ⟨(x, ch, lo), ?_, g, bounds_i64 w1, bounds_i64 w2⟩
  show _ = encP x ++ _
  rw [← e]
  rfl
theorem heard_open (hv : Value.okWide Tryd.prog w .any b0 59 v) (h : DataW.Trod enc Tryd.prog w base (fun _ => true) true 59 v d p) (hl : Light Tryd.prog 59 d) :
    ∃ (x : Pd) (A : Option Addr) (c : Nat) (ch lo : Int), v = .agg ((cel x (.slice A x.ds.length c)) ++ #[.int .i64 ch, .int .i64 lo]) ∧ GoodP w (x, A, c) ∧ (-9223372036854775808 ≤ ch ∧ ch ≤ 9223372036854775807) ∧ -9223372036854775808 ≤ lo ∧ lo ≤ 9223372036854775807 := by
  obtain ⟨x, e, g⟩ := open_struct (en := encH) (K := 19) Tryd.underlying59 (by kernel_rfl) elH hv h hl
  exact ⟨x.1.1, x.1.2.1, x.1.2.2, x.2.1, x.2.2, by rw [e]; rfl, g⟩
end
end Go.Proofs.YtcbliliinmfnjaaDoor.Rd

end
section
set_option linter.unusedVariables false
namespace Go.Proofs.YtcbliliinmfnjaaDoor.Av
open Go.RowKit Mem Rw

theorem fin_starts (p : Pm) (VD VS VA VI : Value) (l : Int) (w : World) (hW : PW p) (hH : Has w 0 p VD VS VA VI) (hl : -9223372036854775808 ≤ l ∧ l ≤ 9223372036854775807) (hT : Adr.Tab w) :
    Calls Tryd.prog 3 #[.agg (pcel p VD VS VA VI), .int .i64 l] w fun e w' => e = .returned (.bool true) ∧ Below w.heap.size w w' := law_starts p VD VS VA VI l w hW hH hT
theorem fin_delays (sd ev : Int) (w : World) (hs : 0 ≤ sd ∧ sd ≤ 18446744073709551615) (hl : -9223372036854775808 ≤ ev ∧ ev ≤ 9223372036854775807) (hT : Adr.Tab w) :
    Calls Tryd.prog 4 #[.int .u64 sd, .int .i64 ev] w fun e w' => e = .returned (.bool true) ∧ Below w.heap.size w w' := law_delays sd ev w hs hT
end Go.Proofs.YtcbliliinmfnjaaDoor.Av

end
