/- The examples of the advertiser: contracts over the program. -/
import Derived.Test.YtcbliliinmfnjaaDoorKAvFire
import Derived.Test.YtcbliliinmfnjaaDoorKAvAns
import Derived.Test.YtcbliliinmfnjaaDoorKAvSame
set_option linter.unusedVariables false
set_option linter.unusedSimpArgs false
namespace Go.Proofs.YtcbliliinmfnjaaDoor.Av
open Go.RowKit Mem Oct Rw Ap Ace Prv
open Base (thenB)

def lp1 : Pm := ⟨0, 160, 1, 5, 0, 0, [], [1, 5], 0, [], [], 0⟩
def lp2 : Pm := ⟨4, 160, 1, 5, 0, 0, [], [], 0, [], [], 0⟩
def la : Ad := ⟨lp1, true, 0, 5000⟩
def lb : Ad := ⟨lp1, true, 1, 105000 + delZ 0 0⟩
def lq : Pd := pdu 3 1 6 1 5 []
theorem pw1 : PW lp1 := by
  constructor <;> first | decide | (unfold lp1 Bytes; decide) | (intro z hz; cases hz)
theorem pw2 : PW lp2 := by
  constructor <;> first | decide | (unfold lp2 Bytes; decide) | (intro z hz; cases hz)
theorem l_st1 : startA lp1 5000 = la ∧ stE lp1 = 0 := by
  have h : stE lp1 = 0 := by decide
  exact ⟨(start_ok h).trans (by rw [show plc 5000 = 5000 by decide]; rfl), h⟩
theorem l_st2 : startA lp2 0 = zeroA ∧ stE lp2 = 12 := by
  have h : stE lp2 = 12 := by decide
  exact ⟨start_no (by rw [h]; decide), h⟩
theorem l_fi1 : fireA la 5000 = lb ∧ fireS la 5000 = [⟨37, 5000, annP lp1⟩, ⟨38, 6000, annP lp1⟩, ⟨39, 7000, annP lp1⟩] := by
  have h : fires la 5000 = true := by decide
  have := fire_yes (a := la) (l := 5000) h
  refine ⟨this.1.trans ?_, this.2.trans ?_⟩
  · show Ad.mk lp1 true 1 (plc 5000 + 160 * 625 + delZ 0 0) = Ad.mk lp1 true 1 (105000 + delZ 0 0)
    rw [show plc 5000 + 160 * 625 = 105000 by decide]
  · rfl
theorem l_fi2 : fireA lb 5001 = lb ∧ fireS lb 5001 = [] := fire_no (by
  have h := delZ_bd 0 0
  unfold fires lb
  simp only [Bool.true_and, Bool.not_eq_false', decide_eq_true_eq]
  rw [show plc 5001 = 5001 by decide]
  omega)
theorem l_an : ansA lb lq 38 = lb ∧ ansS lb lq 38 6300 = [⟨38, 6450, ansP lp1⟩] ∧ ansB lb lq 38 = false := by
  have h1 : meantB lb lq 38 = true := by decide
  have h2 : scanB lb.p lq = true := by decide
  exact ans_scan h1 h2
set_option maxRecDepth 100000 in
set_option maxHeartbeats 4000000 in
theorem lives_any (w : World) (hT : Adr.Tab w) : Calls Tryd.prog 12 #[] w fun e w' => e = .returned (.bool true) ∧ Below w.heap.size w w' := by
  have BX : Below w.heap.size w ((w.alloc (.cells #[.int .i64 1, .int .u64 5] 24)).alloc (.cells #[.int .i64 1, .int .u64 6] 24)) := ((Below.refl _ _).alloc (Nat.le_refl _) _).alloc (by simp) _
  have M1 : Blk ((w.alloc (.cells #[.int .i64 1, .int .u64 5] 24)).alloc (.cells #[.int .i64 1, .int .u64 6] 24)) (w.heap.size) 24 #[.int .i64 1, .int .u64 5] := (Blk.fresh w 24 #[.int .i64 1, .int .u64 5]).alloc _
  have M2 : Blk ((w.alloc (.cells #[.int .i64 1, .int .u64 5] 24)).alloc (.cells #[.int .i64 1, .int .u64 6] 24)) (w.heap.size + 1) 24 #[.int .i64 1, .int .u64 6] := Av.Blk.next
  have hz : ((w.alloc (.cells #[.int .i64 1, .int .u64 5] 24)).alloc (.cells #[.int .i64 1, .int .u64 6] 24)).heap.size = w.heap.size + 1 + 1 := by simp
  have HS1 : Hid (∀ X V, Below w.heap.size w X → Row X 0 V 2 [.int .u8 1, .int .u8 5] → Calls Tryd.prog 14 #[.agg (pcel lp1 (.slice none 0 0) V (.slice none 0 0) (.slice none 0 0)), .int .i64 5000] X fun e w' => StaR X w' e la 0) := Lib.hid fun X V b h => by
    have := start_any lp1 (.slice none 0 0) V (.slice none 0 0) (.slice none 0 0) 5000 0 X pw1 ⟨Row.nil _ _ _ _, h, Row.nil _ _ _ _, Row.nil _ _ _ _⟩ (hT.below b)
    rwa [l_st1.1, l_st1.2] at this
  have HS2 : Hid (∀ X, Below w.heap.size w X → Calls Tryd.prog 14 #[.agg (pcel lp2 (.slice none 0 0) (.slice none 0 0) (.slice none 0 0) (.slice none 0 0)), .int .i64 0] X fun e w' => StaR X w' e zeroA 12) := Lib.hid fun X b => by
    have := start_any lp2 (.slice none 0 0) (.slice none 0 0) (.slice none 0 0) (.slice none 0 0) 0 0 X pw2 ⟨Row.nil _ _ _ _, Row.nil _ _ _ _, Row.nil _ _ _ _, Row.nil _ _ _ _⟩ (hT.below b)
    rwa [l_st2.1, l_st2.2] at this
  have HF1 : Hid (∀ X V1 V2 V3 V4 mm, Has X mm lp1 V1 V2 V3 V4 → Calls Tryd.prog 20 #[.agg (vcel la V1 V2 V3 V4), .int .i64 5000] X fun e w' => FirR X w' e lb [⟨37, 5000, annP lp1⟩, ⟨38, 6000, annP lp1⟩, ⟨39, 7000, annP lp1⟩]) := Lib.hid fun X V1 V2 V3 V4 mm h => by
    have := fire_any la V1 V2 V3 V4 5000 mm X pw1 h (by decide) (by decide)
    rwa [l_fi1.1, l_fi1.2] at this
  have HF2 : Hid (∀ X V1 V2 V3 V4 mm, Has X mm lp1 V1 V2 V3 V4 → Calls Tryd.prog 20 #[.agg (vcel lb V1 V2 V3 V4), .int .i64 5001] X fun e w' => FirR X w' e lb []) := Lib.hid fun X V1 V2 V3 V4 mm h => by
    have := fire_any lb V1 V2 V3 V4 5001 mm X pw1 h (show 0 ≤ (160 : Int) ∧ (160 : Int) ≤ 16384 by decide) (show 0 ≤ (1 : Int) ∧ (1 : Int) ≤ 1000000 by decide)
    rwa [l_fi2.1, l_fi2.2] at this
  have HAn : Hid (∀ X V1 V2 V3 V4 mm, Below w.heap.size w X → Has X mm lp1 V1 V2 V3 V4 → Calls Tryd.prog 23 #[.agg (vcel lb V1 V2 V3 V4), .agg (cel lq (.slice none 0 0)), .int .i64 38, .int .i64 6300] X fun e w' => AnsR X w' e lb [⟨38, 6450, ansP lp1⟩] false) := Lib.hid fun X V1 V2 V3 V4 mm b h => by
    have := answer_any lb V1 V2 V3 V4 lq (.slice none 0 0) 38 6300 mm X pw1 h (by constructor <;> decide) (Row.nil _ _ _ _) (hT.below b)
    rwa [l_an.1, l_an.2.1, l_an.2.2] at this
  have HSp : Hid (∀ X V1 V2 V3 V4 mm, Has X mm lp1 V1 V2 V3 V4 → Calls Tryd.prog 22 #[.agg (vcel lb V1 V2 V3 V4)] X fun e w' => ∃ F1 F2 F3 F4, e = .returned (.agg #[.int .i64 0, .int .i64 160, .int .i64 1, .int .u64 5, .int .i64 0, .int .u64 0, F1, F2, .int .i64 0, F3, F4, .int .u64 0, .bool false, .int .i64 1, .int .i64 (105000 + delZ 0 0)]) ∧ Has w' X.heap.size lp1 F1 F2 F3 F4 ∧ Below X.heap.size X w') := Lib.hid fun X V1 V2 V3 V4 mm h => stop_any lb V1 V2 V3 V4 mm X pw1 h
  have HDl : Hid (∀ X, Calls Tryd.prog 18 #[.int .u64 0, .int .i64 0] X fun e w' => e = .returned (.int .i64 (delZ 0 0)) ∧ Below X.heap.size X w') := Lib.hid fun X => delay_any 0 0 X (by decide)
  have hdz := delZ_bd 0 0
  have HLB : Hid (lb = ⟨lp1, true, 1, 105000 + delZ 0 0⟩) := Lib.hid rfl
  rw [HLB.out] at HF1 HF2 HAn HSp
  clear HLB hT
  have qf : ∀ (w : World) (F1 F2 F3 F4 : Value) (n : Int), (Instr.field 33 (.agg #[.int .i64 0, .int .i64 160, .int .i64 1, .int .u64 5, .int .i64 0, .int .u64 0, F1, F2, .int .i64 0, F3, F4, .int .u64 0, .bool false, .int .i64 1, .int .i64 n]) 1).run Tryd.prog w = .ok (.bool false) w := fun _ _ _ _ _ _ => by kernel_rfl
  generalize delZ 0 0 = DZ at *
  have e1 : IntKind.i64.wrap (105000 + DZ) = 105000 + DZ := by simp only [IntKind.wrap, IntKind.signed, IntKind.bits]; simp; omega
  go_enter Tryd.func12, Tryd.ntmps12
  go_wp2_with fail
  have RL : Row (((w.alloc (.cells #[.int .i64 1, .int .u64 5] 24)).alloc (.cells #[.int .i64 1, .int .u64 6] 24)).alloc (.cells #[.int .u8 1, .int .u8 5] 5)) 0 (.slice (some ⟨w.heap.size + 1 + 1, 0, none⟩) 2 2) 2 [.int .u8 1, .int .u8 5] := by rw [← hz]; exact Row.lit (Nat.zero_le _) rfl
  replace BX : Below w.heap.size w (((w.alloc (.cells #[.int .i64 1, .int .u64 5] 24)).alloc (.cells #[.int .i64 1, .int .u64 6] 24)).alloc (.cells #[.int .u8 1, .int .u8 5] 5)) := BX.alloc BX.size _
  replace M1 : Blk (((w.alloc (.cells #[.int .i64 1, .int .u64 5] 24)).alloc (.cells #[.int .i64 1, .int .u64 6] 24)).alloc (.cells #[.int .u8 1, .int .u8 5] 5)) w.heap.size 24 #[.int .i64 1, .int .u64 5] := M1.alloc _
  replace M2 : Blk (((w.alloc (.cells #[.int .i64 1, .int .u64 5] 24)).alloc (.cells #[.int .i64 1, .int .u64 6] 24)).alloc (.cells #[.int .u8 1, .int .u8 5] 5)) (w.heap.size + 1) 24 #[.int .i64 1, .int .u64 6] := M2.alloc _
  clear hz
  generalize (((w.alloc (.cells #[.int .i64 1, .int .u64 5] 24)).alloc (.cells #[.int .i64 1, .int .u64 6] 24)).alloc (.cells #[.int .u8 1, .int .u8 5] 5)) = X0 at *
  refine (HS1.out X0 _ BX RL).mono ?_
  rintro e W1 ⟨A1, A2, A3, A4, rfl, HS3, b1⟩
  replace HS3 : Has W1 0 lp1 A1 A2 A3 A4 := HS3.less (Nat.zero_le _)
  replace BX := thenB BX b1
  replace M1 := M1.below b1 M1.lt
  replace M2 := M2.below b1 M2.lt
  clear b1
  clear RL HS1
  have K3 : Blk (W1.alloc (.cells #[.int .i64 0, .int .i64 0, .int .i64 0, .int .u64 0, .int .i64 0, .int .u64 0, .slice none 0 0, .slice none 0 0, .int .i64 0, .slice none 0 0, .slice none 0 0, .int .u64 0, .bool false, .int .i64 0, .int .i64 0] 33)) W1.heap.size 33 #[.int .i64 0, .int .i64 0, .int .i64 0, .int .u64 0, .int .i64 0, .int .u64 0, .slice none 0 0, .slice none 0 0, .int .i64 0, .slice none 0 0, .slice none 0 0, .int .u64 0, .bool false, .int .i64 0, .int .i64 0] := Blk.fresh W1 33 #[.int .i64 0, .int .i64 0, .int .i64 0, .int .u64 0, .int .i64 0, .int .u64 0, .slice none 0 0, .slice none 0 0, .int .i64 0, .slice none 0 0, .slice none 0 0, .int .u64 0, .bool false, .int .i64 0, .int .i64 0]
  have l9M1 := M1.lt
  have l9M2 := M2.lt
  have B9 := (Below.refl W1.heap.size W1).alloc (Nat.le_refl _) (.cells #[.int .i64 0, .int .i64 0, .int .i64 0, .int .u64 0, .int .i64 0, .int .u64 0, .slice none 0 0, .slice none 0 0, .int .i64 0, .slice none 0 0, .slice none 0 0, .int .u64 0, .bool false, .int .i64 0, .int .i64 0] 33)
  replace B9 := below_setRow B9 (Nat.le_refl _) #[.int .i64 0, .int .i64 160, .int .i64 1, .int .u64 5, .int .i64 0, .int .u64 0, A1, A2, .int .i64 0, A3, A4, .int .u64 0, .bool true, .int .i64 0, .int .i64 5000]
  have H1 : (#[.int .i64 0, .int .i64 160, .int .i64 1, .int .u64 5, .int .i64 0, .int .u64 0, A1, A2, .int .i64 0, A3, A4, .int .u64 0, .bool true, .int .i64 0, .int .i64 5000] : Array Value).all (·.oneCell') = true := HS3.one ⟨lp1, true, 0, 5000⟩
  have K3' : Blk ((W1.alloc (.cells #[.int .i64 0, .int .i64 0, .int .i64 0, .int .u64 0, .int .i64 0, .int .u64 0, .slice none 0 0, .slice none 0 0, .int .i64 0, .slice none 0 0, .slice none 0 0, .int .u64 0, .bool false, .int .i64 0, .int .i64 0] 33)).setRow W1.heap.size #[.int .i64 0, .int .i64 160, .int .i64 1, .int .u64 5, .int .i64 0, .int .u64 0, A1, A2, .int .i64 0, A3, A4, .int .u64 0, .bool true, .int .i64 0, .int .i64 5000]) W1.heap.size 33 #[.int .i64 0, .int .i64 160, .int .i64 1, .int .u64 5, .int .i64 0, .int .u64 0, A1, A2, .int .i64 0, A3, A4, .int .u64 0, .bool true, .int .i64 0, .int .i64 5000] := bset_row K3
  go_upto_region 3 with (refine wpList_store_row rfl 33 (.tmp 3) _ rfl (W1.heap.size) #[.int .i64 0, .int .i64 160, .int .i64 1, .int .u64 5, .int .i64 0, .int .u64 0, A1, A2, .int .i64 0, A3, A4, .int .u64 0, .bool true, .int .i64 0, .int .i64 5000] rfl rfl 33 _ K3 (by kernel_rfl) rfl H1 ?_)
  clear K3 H1
  have K3 := K3'
  clear K3'
  replace M1 := M1.below B9 l9M1
  replace M2 := M2.below B9 l9M2
  replace HS3 := HS3.below B9
  replace BX := thenB BX B9
  clear B9 l9M1 l9M2
  generalize (W1.alloc (.cells #[.int .i64 0, .int .i64 0, .int .i64 0, .int .u64 0, .int .i64 0, .int .u64 0, .slice none 0 0, .slice none 0 0, .int .i64 0, .slice none 0 0, .slice none 0 0, .int .u64 0, .bool false, .int .i64 0, .int .i64 0] 33)).setRow W1.heap.size #[.int .i64 0, .int .i64 160, .int .i64 1, .int .u64 5, .int .i64 0, .int .u64 0, A1, A2, .int .i64 0, A3, A4, .int .u64 0, .bool true, .int .i64 0, .int .i64 5000] = Y1 at *
  generalize W1.heap.size = g3 at *
  go_wp2_with (refine wpList_load_row rfl 33 (.tmp 3) rfl g3 rfl 33 _ (0, 0) _ K3 Tryd.underlying33 rfl (by kernel_rfl) ?_)
  refine (HF1.out _ A1 A2 A3 A4 _ HS3).mono ?_
  rintro e W2 ⟨B1, B2, B3, B4, VL, rfl, HS5, SL, b2⟩
  replace HS5 := HS5.less (Nat.zero_le _)
  replace SL := SL.less (Nat.zero_le _)
  replace BX := thenB BX b2
  replace M1 := M1.below b2 M1.lt
  replace M2 := M2.below b2 M2.lt
  replace K3 := K3.below b2 K3.lt
  replace HS3 := HS3.below b2
  clear b2
  have K5 : Blk (W2.alloc (.cells #[.int .i64 0, .int .i64 0, .int .i64 0, .int .u64 0, .int .i64 0, .int .u64 0, .slice none 0 0, .slice none 0 0, .int .i64 0, .slice none 0 0, .slice none 0 0, .int .u64 0, .bool false, .int .i64 0, .int .i64 0] 33)) W2.heap.size 33 #[.int .i64 0, .int .i64 0, .int .i64 0, .int .u64 0, .int .i64 0, .int .u64 0, .slice none 0 0, .slice none 0 0, .int .i64 0, .slice none 0 0, .slice none 0 0, .int .u64 0, .bool false, .int .i64 0, .int .i64 0] := Blk.fresh W2 33 #[.int .i64 0, .int .i64 0, .int .i64 0, .int .u64 0, .int .i64 0, .int .u64 0, .slice none 0 0, .slice none 0 0, .int .i64 0, .slice none 0 0, .slice none 0 0, .int .u64 0, .bool false, .int .i64 0, .int .i64 0]
  have l9M1 := M1.lt
  have l9M2 := M2.lt
  have l9K3 := K3.lt
  have B9 := (Below.refl W2.heap.size W2).alloc (Nat.le_refl _) (.cells #[.int .i64 0, .int .i64 0, .int .i64 0, .int .u64 0, .int .i64 0, .int .u64 0, .slice none 0 0, .slice none 0 0, .int .i64 0, .slice none 0 0, .slice none 0 0, .int .u64 0, .bool false, .int .i64 0, .int .i64 0] 33)
  replace B9 := below_setRow B9 (Nat.le_refl _) #[.int .i64 0, .int .i64 160, .int .i64 1, .int .u64 5, .int .i64 0, .int .u64 0, B1, B2, .int .i64 0, B3, B4, .int .u64 0, .bool true, .int .i64 1, .int .i64 (105000 + DZ)]
  have H1 : (#[.int .i64 0, .int .i64 160, .int .i64 1, .int .u64 5, .int .i64 0, .int .u64 0, B1, B2, .int .i64 0, B3, B4, .int .u64 0, .bool true, .int .i64 1, .int .i64 (105000 + DZ)] : Array Value).all (·.oneCell') = true := HS5.one ⟨lp1, true, 1, (105000 + DZ)⟩
  have K5' : Blk ((W2.alloc (.cells #[.int .i64 0, .int .i64 0, .int .i64 0, .int .u64 0, .int .i64 0, .int .u64 0, .slice none 0 0, .slice none 0 0, .int .i64 0, .slice none 0 0, .slice none 0 0, .int .u64 0, .bool false, .int .i64 0, .int .i64 0] 33)).setRow W2.heap.size #[.int .i64 0, .int .i64 160, .int .i64 1, .int .u64 5, .int .i64 0, .int .u64 0, B1, B2, .int .i64 0, B3, B4, .int .u64 0, .bool true, .int .i64 1, .int .i64 (105000 + DZ)]) W2.heap.size 33 #[.int .i64 0, .int .i64 160, .int .i64 1, .int .u64 5, .int .i64 0, .int .u64 0, B1, B2, .int .i64 0, B3, B4, .int .u64 0, .bool true, .int .i64 1, .int .i64 (105000 + DZ)] := bset_row K5
  go_upto_region 4 with (refine wpList_store_row rfl 33 (.tmp 5) _ rfl (W2.heap.size) #[.int .i64 0, .int .i64 160, .int .i64 1, .int .u64 5, .int .i64 0, .int .u64 0, B1, B2, .int .i64 0, B3, B4, .int .u64 0, .bool true, .int .i64 1, .int .i64 (105000 + DZ)] rfl rfl 33 _ K5 (by kernel_rfl) rfl H1 ?_)
  clear K5 H1
  have K5 := K5'
  clear K5'
  replace M1 := M1.below B9 l9M1
  replace M2 := M2.below B9 l9M2
  replace K3 := K3.below B9 l9K3
  replace HS3 := HS3.below B9
  replace SL := SL.below B9
  replace HS5 := HS5.below B9
  replace BX := thenB BX B9
  clear B9 l9M1 l9M2 l9K3
  generalize (W2.alloc (.cells #[.int .i64 0, .int .i64 0, .int .i64 0, .int .u64 0, .int .i64 0, .int .u64 0, .slice none 0 0, .slice none 0 0, .int .i64 0, .slice none 0 0, .slice none 0 0, .int .u64 0, .bool false, .int .i64 0, .int .i64 0] 33)).setRow W2.heap.size #[.int .i64 0, .int .i64 160, .int .i64 1, .int .u64 5, .int .i64 0, .int .u64 0, B1, B2, .int .i64 0, B3, B4, .int .u64 0, .bool true, .int .i64 1, .int .i64 (105000 + DZ)] = Y2 at *
  generalize W2.heap.size = g5 at *
  go_wp2_with (refine wpList_load_row rfl 33 (.tmp 5) rfl g5 rfl 33 _ (0, 0) _ K5 Tryd.underlying33 rfl (by kernel_rfl) ?_)
  refine (HF2.out _ B1 B2 B3 B4 _ HS5).mono ?_
  rintro e W3 ⟨C1, C2, C3, C4, VN, rfl, HS7, SN, b3⟩
  replace HS7 := HS7.less (Nat.zero_le _)
  replace SN := SN.less (Nat.zero_le _)
  replace BX := thenB BX b3
  replace M1 := M1.below b3 M1.lt
  replace M2 := M2.below b3 M2.lt
  replace K3 := K3.below b3 K3.lt
  replace K5 := K5.below b3 K5.lt
  replace HS3 := HS3.below b3
  replace SL := SL.below b3
  replace HS5 := HS5.below b3
  clear b3
  have K7 : Blk (W3.alloc (.cells #[.int .i64 0, .int .i64 0, .int .i64 0, .int .u64 0, .int .i64 0, .int .u64 0, .slice none 0 0, .slice none 0 0, .int .i64 0, .slice none 0 0, .slice none 0 0, .int .u64 0, .bool false, .int .i64 0, .int .i64 0] 33)) W3.heap.size 33 #[.int .i64 0, .int .i64 0, .int .i64 0, .int .u64 0, .int .i64 0, .int .u64 0, .slice none 0 0, .slice none 0 0, .int .i64 0, .slice none 0 0, .slice none 0 0, .int .u64 0, .bool false, .int .i64 0, .int .i64 0] := Blk.fresh W3 33 #[.int .i64 0, .int .i64 0, .int .i64 0, .int .u64 0, .int .i64 0, .int .u64 0, .slice none 0 0, .slice none 0 0, .int .i64 0, .slice none 0 0, .slice none 0 0, .int .u64 0, .bool false, .int .i64 0, .int .i64 0]
  have l9M1 := M1.lt
  have l9M2 := M2.lt
  have l9K3 := K3.lt
  have l9K5 := K5.lt
  have B9 := (Below.refl W3.heap.size W3).alloc (Nat.le_refl _) (.cells #[.int .i64 0, .int .i64 0, .int .i64 0, .int .u64 0, .int .i64 0, .int .u64 0, .slice none 0 0, .slice none 0 0, .int .i64 0, .slice none 0 0, .slice none 0 0, .int .u64 0, .bool false, .int .i64 0, .int .i64 0] 33)
  replace B9 := below_setRow B9 (Nat.le_refl _) #[.int .i64 0, .int .i64 160, .int .i64 1, .int .u64 5, .int .i64 0, .int .u64 0, C1, C2, .int .i64 0, C3, C4, .int .u64 0, .bool true, .int .i64 1, .int .i64 (105000 + DZ)]
  have H1 : (#[.int .i64 0, .int .i64 160, .int .i64 1, .int .u64 5, .int .i64 0, .int .u64 0, C1, C2, .int .i64 0, C3, C4, .int .u64 0, .bool true, .int .i64 1, .int .i64 (105000 + DZ)] : Array Value).all (·.oneCell') = true := HS7.one ⟨lp1, true, 1, (105000 + DZ)⟩
  have K7' : Blk ((W3.alloc (.cells #[.int .i64 0, .int .i64 0, .int .i64 0, .int .u64 0, .int .i64 0, .int .u64 0, .slice none 0 0, .slice none 0 0, .int .i64 0, .slice none 0 0, .slice none 0 0, .int .u64 0, .bool false, .int .i64 0, .int .i64 0] 33)).setRow W3.heap.size #[.int .i64 0, .int .i64 160, .int .i64 1, .int .u64 5, .int .i64 0, .int .u64 0, C1, C2, .int .i64 0, C3, C4, .int .u64 0, .bool true, .int .i64 1, .int .i64 (105000 + DZ)]) W3.heap.size 33 #[.int .i64 0, .int .i64 160, .int .i64 1, .int .u64 5, .int .i64 0, .int .u64 0, C1, C2, .int .i64 0, C3, C4, .int .u64 0, .bool true, .int .i64 1, .int .i64 (105000 + DZ)] := bset_row K7
  go_upto_region 5 with (refine wpList_store_row rfl 33 (.tmp 7) _ rfl (W3.heap.size) #[.int .i64 0, .int .i64 160, .int .i64 1, .int .u64 5, .int .i64 0, .int .u64 0, C1, C2, .int .i64 0, C3, C4, .int .u64 0, .bool true, .int .i64 1, .int .i64 (105000 + DZ)] rfl rfl 33 _ K7 (by kernel_rfl) rfl H1 ?_)
  clear K7 H1
  have K7 := K7'
  clear K7'
  replace M1 := M1.below B9 l9M1
  replace M2 := M2.below B9 l9M2
  replace K3 := K3.below B9 l9K3
  replace K5 := K5.below B9 l9K5
  replace HS3 := HS3.below B9
  replace SL := SL.below B9
  replace HS5 := HS5.below B9
  replace SN := SN.below B9
  replace HS7 := HS7.below B9
  replace BX := thenB BX B9
  clear B9 l9M1 l9M2 l9K3 l9K5
  generalize (W3.alloc (.cells #[.int .i64 0, .int .i64 0, .int .i64 0, .int .u64 0, .int .i64 0, .int .u64 0, .slice none 0 0, .slice none 0 0, .int .i64 0, .slice none 0 0, .slice none 0 0, .int .u64 0, .bool false, .int .i64 0, .int .i64 0] 33)).setRow W3.heap.size #[.int .i64 0, .int .i64 160, .int .i64 1, .int .u64 5, .int .i64 0, .int .u64 0, C1, C2, .int .i64 0, C3, C4, .int .u64 0, .bool true, .int .i64 1, .int .i64 (105000 + DZ)] = Y3 at *
  generalize W3.heap.size = g7 at *
  have m0 := M1.cell 0
  have m1 := M1.cell 1
  have n0 := M2.cell 0
  have n1 := M2.cell 1
  go_wp2_with (refine wpList_load_row rfl 33 (.tmp 5) rfl g5 rfl 33 _ (0, 0) _ K5 Tryd.underlying33 rfl (by kernel_rfl) ?_)
  refine (HAn.out _ B1 B2 B3 B4 _ BX HS5).mono ?_
  rintro e W4 ⟨D1, D2, D3, D4, VM, rfl, HS9, SM, b4⟩
  replace HS9 := HS9.less (Nat.zero_le _)
  replace SM := SM.less (Nat.zero_le _)
  clear m0 m1 n0 n1
  replace BX := thenB BX b4
  replace M1 := M1.below b4 M1.lt
  replace M2 := M2.below b4 M2.lt
  replace K3 := K3.below b4 K3.lt
  replace K5 := K5.below b4 K5.lt
  replace K7 := K7.below b4 K7.lt
  replace HS3 := HS3.below b4
  replace SL := SL.below b4
  replace HS5 := HS5.below b4
  replace SN := SN.below b4
  replace HS7 := HS7.below b4
  clear b4
  have K9 : Blk (W4.alloc (.cells #[.int .i64 0, .int .i64 0, .int .i64 0, .int .u64 0, .int .i64 0, .int .u64 0, .slice none 0 0, .slice none 0 0, .int .i64 0, .slice none 0 0, .slice none 0 0, .int .u64 0, .bool false, .int .i64 0, .int .i64 0] 33)) W4.heap.size 33 #[.int .i64 0, .int .i64 0, .int .i64 0, .int .u64 0, .int .i64 0, .int .u64 0, .slice none 0 0, .slice none 0 0, .int .i64 0, .slice none 0 0, .slice none 0 0, .int .u64 0, .bool false, .int .i64 0, .int .i64 0] := Blk.fresh W4 33 #[.int .i64 0, .int .i64 0, .int .i64 0, .int .u64 0, .int .i64 0, .int .u64 0, .slice none 0 0, .slice none 0 0, .int .i64 0, .slice none 0 0, .slice none 0 0, .int .u64 0, .bool false, .int .i64 0, .int .i64 0]
  have l9M1 := M1.lt
  have l9M2 := M2.lt
  have l9K3 := K3.lt
  have l9K5 := K5.lt
  have l9K7 := K7.lt
  have B9 := (Below.refl W4.heap.size W4).alloc (Nat.le_refl _) (.cells #[.int .i64 0, .int .i64 0, .int .i64 0, .int .u64 0, .int .i64 0, .int .u64 0, .slice none 0 0, .slice none 0 0, .int .i64 0, .slice none 0 0, .slice none 0 0, .int .u64 0, .bool false, .int .i64 0, .int .i64 0] 33)
  replace B9 := below_setRow B9 (Nat.le_refl _) #[.int .i64 0, .int .i64 160, .int .i64 1, .int .u64 5, .int .i64 0, .int .u64 0, D1, D2, .int .i64 0, D3, D4, .int .u64 0, .bool true, .int .i64 1, .int .i64 (105000 + DZ)]
  have H1 : (#[.int .i64 0, .int .i64 160, .int .i64 1, .int .u64 5, .int .i64 0, .int .u64 0, D1, D2, .int .i64 0, D3, D4, .int .u64 0, .bool true, .int .i64 1, .int .i64 (105000 + DZ)] : Array Value).all (·.oneCell') = true := HS9.one ⟨lp1, true, 1, (105000 + DZ)⟩
  have K9' : Blk ((W4.alloc (.cells #[.int .i64 0, .int .i64 0, .int .i64 0, .int .u64 0, .int .i64 0, .int .u64 0, .slice none 0 0, .slice none 0 0, .int .i64 0, .slice none 0 0, .slice none 0 0, .int .u64 0, .bool false, .int .i64 0, .int .i64 0] 33)).setRow W4.heap.size #[.int .i64 0, .int .i64 160, .int .i64 1, .int .u64 5, .int .i64 0, .int .u64 0, D1, D2, .int .i64 0, D3, D4, .int .u64 0, .bool true, .int .i64 1, .int .i64 (105000 + DZ)]) W4.heap.size 33 #[.int .i64 0, .int .i64 160, .int .i64 1, .int .u64 5, .int .i64 0, .int .u64 0, D1, D2, .int .i64 0, D3, D4, .int .u64 0, .bool true, .int .i64 1, .int .i64 (105000 + DZ)] := bset_row K9
  go_upto_region 6 with (refine wpList_store_row rfl 33 (.tmp 9) _ rfl (W4.heap.size) #[.int .i64 0, .int .i64 160, .int .i64 1, .int .u64 5, .int .i64 0, .int .u64 0, D1, D2, .int .i64 0, D3, D4, .int .u64 0, .bool true, .int .i64 1, .int .i64 (105000 + DZ)] rfl rfl 33 _ K9 (by kernel_rfl) rfl H1 ?_)
  clear K9 H1
  have K9 := K9'
  clear K9'
  replace M1 := M1.below B9 l9M1
  replace M2 := M2.below B9 l9M2
  replace K3 := K3.below B9 l9K3
  replace K5 := K5.below B9 l9K5
  replace K7 := K7.below B9 l9K7
  replace HS3 := HS3.below B9
  replace SL := SL.below B9
  replace HS5 := HS5.below B9
  replace SN := SN.below B9
  replace HS7 := HS7.below B9
  replace SM := SM.below B9
  replace HS9 := HS9.below B9
  replace BX := thenB BX B9
  clear B9 l9M1 l9M2 l9K3 l9K5 l9K7
  generalize (W4.alloc (.cells #[.int .i64 0, .int .i64 0, .int .i64 0, .int .u64 0, .int .i64 0, .int .u64 0, .slice none 0 0, .slice none 0 0, .int .i64 0, .slice none 0 0, .slice none 0 0, .int .u64 0, .bool false, .int .i64 0, .int .i64 0] 33)).setRow W4.heap.size #[.int .i64 0, .int .i64 160, .int .i64 1, .int .u64 5, .int .i64 0, .int .u64 0, D1, D2, .int .i64 0, D3, D4, .int .u64 0, .bool true, .int .i64 1, .int .i64 (105000 + DZ)] = Y4 at *
  generalize W4.heap.size = g9 at *
  have m0 := M1.cell 0
  have m1 := M1.cell 1
  go_wp2_with fail
  refine (HS2.out _ BX).mono ?_
  rintro e W5 ⟨E1, E2, E3, E4, rfl, HS12, b5⟩
  replace HS12 := HS12.less (Nat.zero_le _)
  clear m0 m1
  replace BX := thenB BX b5
  replace M1 := M1.below b5 M1.lt
  replace M2 := M2.below b5 M2.lt
  replace K3 := K3.below b5 K3.lt
  replace K5 := K5.below b5 K5.lt
  replace K7 := K7.below b5 K7.lt
  replace K9 := K9.below b5 K9.lt
  replace HS3 := HS3.below b5
  replace SL := SL.below b5
  replace HS5 := HS5.below b5
  replace SN := SN.below b5
  replace HS7 := HS7.below b5
  replace SM := SM.below b5
  replace HS9 := HS9.below b5
  clear b5
  have K12 : Blk (W5.alloc (.cells #[.int .i64 0, .int .i64 0, .int .i64 0, .int .u64 0, .int .i64 0, .int .u64 0, .slice none 0 0, .slice none 0 0, .int .i64 0, .slice none 0 0, .slice none 0 0, .int .u64 0, .bool false, .int .i64 0, .int .i64 0] 33)) W5.heap.size 33 #[.int .i64 0, .int .i64 0, .int .i64 0, .int .u64 0, .int .i64 0, .int .u64 0, .slice none 0 0, .slice none 0 0, .int .i64 0, .slice none 0 0, .slice none 0 0, .int .u64 0, .bool false, .int .i64 0, .int .i64 0] := Blk.fresh W5 33 #[.int .i64 0, .int .i64 0, .int .i64 0, .int .u64 0, .int .i64 0, .int .u64 0, .slice none 0 0, .slice none 0 0, .int .i64 0, .slice none 0 0, .slice none 0 0, .int .u64 0, .bool false, .int .i64 0, .int .i64 0]
  have l9M1 := M1.lt
  have l9M2 := M2.lt
  have l9K3 := K3.lt
  have l9K5 := K5.lt
  have l9K7 := K7.lt
  have l9K9 := K9.lt
  have B9 := (Below.refl W5.heap.size W5).alloc (Nat.le_refl _) (.cells #[.int .i64 0, .int .i64 0, .int .i64 0, .int .u64 0, .int .i64 0, .int .u64 0, .slice none 0 0, .slice none 0 0, .int .i64 0, .slice none 0 0, .slice none 0 0, .int .u64 0, .bool false, .int .i64 0, .int .i64 0] 33)
  replace B9 := below_setRow B9 (Nat.le_refl _) #[.int .i64 0, .int .i64 0, .int .i64 0, .int .u64 0, .int .i64 0, .int .u64 0, E1, E2, .int .i64 0, E3, E4, .int .u64 0, .bool false, .int .i64 0, .int .i64 0]
  have H1 : (#[.int .i64 0, .int .i64 0, .int .i64 0, .int .u64 0, .int .i64 0, .int .u64 0, E1, E2, .int .i64 0, E3, E4, .int .u64 0, .bool false, .int .i64 0, .int .i64 0] : Array Value).all (·.oneCell') = true := HS12.one ⟨zeroP, false, 0, 0⟩
  have K12' : Blk ((W5.alloc (.cells #[.int .i64 0, .int .i64 0, .int .i64 0, .int .u64 0, .int .i64 0, .int .u64 0, .slice none 0 0, .slice none 0 0, .int .i64 0, .slice none 0 0, .slice none 0 0, .int .u64 0, .bool false, .int .i64 0, .int .i64 0] 33)).setRow W5.heap.size #[.int .i64 0, .int .i64 0, .int .i64 0, .int .u64 0, .int .i64 0, .int .u64 0, E1, E2, .int .i64 0, E3, E4, .int .u64 0, .bool false, .int .i64 0, .int .i64 0]) W5.heap.size 33 #[.int .i64 0, .int .i64 0, .int .i64 0, .int .u64 0, .int .i64 0, .int .u64 0, E1, E2, .int .i64 0, E3, E4, .int .u64 0, .bool false, .int .i64 0, .int .i64 0] := bset_row K12
  go_upto_region 7 with (refine wpList_store_row rfl 33 (.tmp 12) _ rfl (W5.heap.size) #[.int .i64 0, .int .i64 0, .int .i64 0, .int .u64 0, .int .i64 0, .int .u64 0, E1, E2, .int .i64 0, E3, E4, .int .u64 0, .bool false, .int .i64 0, .int .i64 0] rfl rfl 33 _ K12 (by kernel_rfl) rfl H1 ?_)
  clear K12 H1
  have K12 := K12'
  clear K12'
  replace M1 := M1.below B9 l9M1
  replace M2 := M2.below B9 l9M2
  replace K3 := K3.below B9 l9K3
  replace K5 := K5.below B9 l9K5
  replace K7 := K7.below B9 l9K7
  replace K9 := K9.below B9 l9K9
  replace HS3 := HS3.below B9
  replace SL := SL.below B9
  replace HS5 := HS5.below B9
  replace SN := SN.below B9
  replace HS7 := HS7.below B9
  replace SM := SM.below B9
  replace HS9 := HS9.below B9
  replace HS12 := HS12.below B9
  replace BX := thenB BX B9
  clear B9 l9M1 l9M2 l9K3 l9K5 l9K7 l9K9
  generalize (W5.alloc (.cells #[.int .i64 0, .int .i64 0, .int .i64 0, .int .u64 0, .int .i64 0, .int .u64 0, .slice none 0 0, .slice none 0 0, .int .i64 0, .slice none 0 0, .slice none 0 0, .int .u64 0, .bool false, .int .i64 0, .int .i64 0] 33)).setRow W5.heap.size #[.int .i64 0, .int .i64 0, .int .i64 0, .int .u64 0, .int .i64 0, .int .u64 0, E1, E2, .int .i64 0, E3, E4, .int .u64 0, .bool false, .int .i64 0, .int .i64 0] = Y5 at *
  generalize W5.heap.size = g12 at *
  obtain ⟨VsL, hvl, RLs, RLd⟩ := SL
  obtain ⟨VsN, hvn, RNs, RNd⟩ := SN
  obtain ⟨VsM, hvm, RMs, RMd⟩ := SM
  obtain ⟨U0, U1, U2, rfl⟩ : ∃ a b c, VsL = [a, b, c] := by match VsL, hvl with | [a, b, c], _ => exact ⟨a, b, c, rfl⟩
  obtain ⟨U3, rfl⟩ : ∃ a, VsM = [a] := by match VsM, hvm with | [a], _ => exact ⟨a, rfl⟩
  obtain ⟨AN, cN, rfl, _⟩ := RNs
  have RV := RMd (⟨38, 6450, ansP lp1⟩, U3) (by simp)
  obtain ⟨AL, cL, rfl, hcL, RL⟩ := RLs
  rcases RL with h | ⟨bL, oL, rfl, _, hbL, hqL⟩
  · simp [encD] at h
  obtain ⟨AM, cM, rfl, hcM, RM⟩ := RMs
  rcases RM with h | ⟨bM, oM, rfl, _, hbM, hqM⟩
  · simp [encD] at h
  have l0 := hqL 19 _ rfl
  have l1 := hqL 20 _ rfl
  have k0 := hqM 0 _ rfl
  have k1 := hqM 1 _ rfl
  have k7 := hqM 7 _ rfl
  simp only [List.length_cons, List.length_nil] at hcL hcM ⊢
  clear hqL hqM RLd RNd RMd hvl hvn hvm
  have c12 := K3.cell 12
  have d13 := K5.cell 13
  have d14 := K5.cell 14
  simp only [Nat.add_zero] at k0
  have hsz : (3 : Nat) ≤ cL ∧ 1 ≤ cM := ⟨hcL, hcM⟩
  go_upto_region 9 with (fail)
  simp only [List.append_eq, List.cons_append, List.nil_append]
  have lbL := hbL
  have lbM := hbM
  clear hbL hbM
  replace l0 : Y5.cell? ⟨bL, oL + 19, none⟩ = some (.int .i64 38) := l0
  replace l1 : Y5.cell? ⟨bL, oL + 20, none⟩ = some (.int .i64 6000) := l1
  replace k0 : Y5.cell? ⟨bM, oM, none⟩ = some (.int .i64 38) := k0
  replace k1 : Y5.cell? ⟨bM, oM + 1, none⟩ = some (.int .i64 6450) := k1
  replace k7 : Y5.cell? ⟨bM, oM + 7, none⟩ = some U3 := k7
  replace RV : Row Y5 0 U3 2 [.int .u8 1, .int .u8 5] := RV
  have K3' : Blk Y5.drew (g3) 33 #[.int .i64 0, .int .i64 160, .int .i64 1, .int .u64 5, .int .i64 0, .int .u64 0, A1, A2, .int .i64 0, A3, A4, .int .u64 0, .bool true, .int .i64 0, .int .i64 5000] := Mem.Blk.drew K3
  have K5' : Blk Y5.drew (g5) 33 #[.int .i64 0, .int .i64 160, .int .i64 1, .int .u64 5, .int .i64 0, .int .u64 0, B1, B2, .int .i64 0, B3, B4, .int .u64 0, .bool true, .int .i64 1, .int .i64 (105000 + DZ)] := Mem.Blk.drew K5
  have K9' : Blk Y5.drew (g9) 33 #[.int .i64 0, .int .i64 160, .int .i64 1, .int .u64 5, .int .i64 0, .int .u64 0, D1, D2, .int .i64 0, D3, D4, .int .u64 0, .bool true, .int .i64 1, .int .i64 (105000 + DZ)] := Mem.Blk.drew K9
  refine wp_region_held_drew (S := (fun w' => Blk w' (g3) 33 #[.int .i64 0, .int .i64 160, .int .i64 1, .int .u64 5, .int .i64 0, .int .u64 0, A1, A2, .int .i64 0, A3, A4, .int .u64 0, .bool true, .int .i64 0, .int .i64 5000] ∧ Blk w' (g5) 33 #[.int .i64 0, .int .i64 160, .int .i64 1, .int .u64 5, .int .i64 0, .int .u64 0, B1, B2, .int .i64 0, B3, B4, .int .u64 0, .bool true, .int .i64 1, .int .i64 (105000 + DZ)] ∧ Blk w' (g9) 33 #[.int .i64 0, .int .i64 160, .int .i64 1, .int .u64 5, .int .i64 0, .int .u64 0, D1, D2, .int .i64 0, D3, D4, .int .u64 0, .bool true, .int .i64 1, .int .i64 (105000 + DZ)] ∧ w'.cell? ⟨bL, oL + 19, none⟩ = some (.int .i64 38) ∧ w'.cell? ⟨bL, oL + 20, none⟩ = some (.int .i64 6000) ∧ w'.cell? ⟨bM, oM, none⟩ = some (.int .i64 38) ∧ w'.cell? ⟨bM, oM + 1, none⟩ = some (.int .i64 6450) ∧ w'.cell? ⟨bM, oM + 7, none⟩ = some U3)) (by kernel_rfl) ?_ (fun hHeld => ?_)
  · exact ⟨K3', K5', K9', l0, l1, k0, k1, k7⟩
  replace K3 := K3'
  clear K3'
  replace K5 := K5'
  clear K5'
  replace K9 := K9'
  clear K9'
  replace BX : Below w.heap.size w Y5.drew := BX.drew
  replace lbL := (show bL < Y5.drew.heap.size from lbL)
  replace lbM := (show bM < Y5.drew.heap.size from lbM)
  replace HS9 := HS9.drew
  replace RV := Row.drew RV
  replace l0 : Y5.drew.cell? ⟨bL, oL + 19, none⟩ = some (.int .i64 38) := l0
  replace l1 : Y5.drew.cell? ⟨bL, oL + 20, none⟩ = some (.int .i64 6000) := l1
  replace k0 : Y5.drew.cell? ⟨bM, oM, none⟩ = some (.int .i64 38) := k0
  replace k1 : Y5.drew.cell? ⟨bM, oM + 1, none⟩ = some (.int .i64 6450) := k1
  replace k7 : Y5.drew.cell? ⟨bM, oM + 7, none⟩ = some U3 := k7
  generalize Y5.drew = X0 at *
  refine wpAnyH_take (i := 0) (v := .pointer (some ⟨g3, 12, none⟩)) rfl (by kernel_rfl) (by kernel_rfl) (by kernel_rfl) (fun _ _ _ h => h) (Or.inl ⟨by first | rfl | go_simp, by intro w9 hSw; (try dsimp only at hSw); go_simp⟩) (by assumption) ?_
  simp only [List.getElem_toArray, List.getElem_cons_zero, List.getElem_cons_succ, Act.put, List.setIfInBounds_toArray, List.set_cons_zero, List.set_cons_succ]
  refine wpAnyH_take (i := 1) (v := .bool true) rfl (by kernel_rfl) (by kernel_rfl) (by kernel_rfl) (fun _ _ _ h => h) (Or.inl ⟨by first | rfl | go_simp, by intro w9 hSw; (try dsimp only at hSw); have c9 := hSw.1.cell 12; clear hSw; go_simp⟩) (by assumption) ?_
  simp only [List.getElem_toArray, List.getElem_cons_zero, List.getElem_cons_succ, Act.put, List.setIfInBounds_toArray, List.set_cons_zero, List.set_cons_succ]
  refine wpAnyH_take (i := 2) (v := .bool true) rfl (by kernel_rfl) (by kernel_rfl) (by kernel_rfl) (fun _ _ _ h => h) (Or.inl ⟨by first | rfl | go_simp, by intro w9 hSw; (try dsimp only at hSw); go_simp⟩) (by assumption) ?_
  simp only [List.getElem_toArray, List.getElem_cons_zero, List.getElem_cons_succ, Act.put, List.setIfInBounds_toArray, List.set_cons_zero, List.set_cons_succ]
  refine wpAnyH_take (i := 3) (v := .slice (some ⟨bL, oL, none⟩) 3 cL) rfl (by kernel_rfl) (by kernel_rfl) (by kernel_rfl) (fun _ _ _ h => h) (Or.inl ⟨by first | rfl | go_simp, by intro w9 hSw; (try dsimp only at hSw); go_simp⟩) (by assumption) ?_
  simp only [List.getElem_toArray, List.getElem_cons_zero, List.getElem_cons_succ, Act.put, List.setIfInBounds_toArray, List.set_cons_zero, List.set_cons_succ]
  refine wpAnyH_take (i := 4) (v := .pointer (some ⟨bL, oL + 19, none⟩)) rfl (by kernel_rfl) (by kernel_rfl) (by kernel_rfl) (fun _ _ _ h => h) (Or.inl ⟨by first | rfl | go_simp, by intro w9 hSw; (try dsimp only at hSw); go_simp⟩) (by assumption) ?_
  simp only [List.getElem_toArray, List.getElem_cons_zero, List.getElem_cons_succ, Act.put, List.setIfInBounds_toArray, List.set_cons_zero, List.set_cons_succ]
  refine wpAnyH_take (i := 5) (v := .pointer (some ⟨bL, oL + 19, none⟩)) rfl (by kernel_rfl) (by kernel_rfl) (by kernel_rfl) (fun _ _ _ h => h) (Or.inl ⟨by first | rfl | go_simp, by intro w9 hSw; (try dsimp only at hSw); go_simp⟩) (by assumption) ?_
  simp only [List.getElem_toArray, List.getElem_cons_zero, List.getElem_cons_succ, Act.put, List.setIfInBounds_toArray, List.set_cons_zero, List.set_cons_succ]
  refine wpAnyH_take (i := 6) (v := .int .i64 38) rfl (by kernel_rfl) (by kernel_rfl) (by kernel_rfl) (fun _ _ _ h => h) (Or.inl ⟨by first | rfl | go_simp, by intro w9 hSw; (try dsimp only at hSw); go_simp⟩) (by assumption) ?_
  simp only [List.getElem_toArray, List.getElem_cons_zero, List.getElem_cons_succ, Act.put, List.setIfInBounds_toArray, List.set_cons_zero, List.set_cons_succ]
  refine wpAnyH_take (i := 7) (v := .bool true) rfl (by kernel_rfl) (by kernel_rfl) (by kernel_rfl) (fun _ _ _ h => h) (Or.inl ⟨by first | rfl | go_simp, by intro w9 hSw; (try dsimp only at hSw); go_simp⟩) (by assumption) ?_
  simp only [List.getElem_toArray, List.getElem_cons_zero, List.getElem_cons_succ, Act.put, List.setIfInBounds_toArray, List.set_cons_zero, List.set_cons_succ]
  refine wpAnyH_take (i := 8) (v := .bool true) rfl (by kernel_rfl) (by kernel_rfl) (by kernel_rfl) (fun _ _ _ h => h) (Or.inl ⟨by first | rfl | go_simp, by intro w9 hSw; (try dsimp only at hSw); go_simp⟩) (by assumption) ?_
  simp only [List.getElem_toArray, List.getElem_cons_zero, List.getElem_cons_succ, Act.put, List.setIfInBounds_toArray, List.set_cons_zero, List.set_cons_succ]
  refine wpAnyH_take (i := 9) (v := .bool true) rfl (by kernel_rfl) (by kernel_rfl) (by kernel_rfl) (fun _ _ _ h => h) (Or.inl ⟨by first | rfl | go_simp, by intro w9 hSw; (try dsimp only at hSw); go_simp⟩) (by assumption) ?_
  simp only [List.getElem_toArray, List.getElem_cons_zero, List.getElem_cons_succ, Act.put, List.setIfInBounds_toArray, List.set_cons_zero, List.set_cons_succ]
  refine wpAnyH_take (i := 10) (v := .slice (some ⟨bL, oL, none⟩) 3 cL) rfl (by kernel_rfl) (by kernel_rfl) (by kernel_rfl) (fun _ _ _ h => h) (Or.inl ⟨by first | rfl | go_simp, by intro w9 hSw; (try dsimp only at hSw); go_simp⟩) (by assumption) ?_
  simp only [List.getElem_toArray, List.getElem_cons_zero, List.getElem_cons_succ, Act.put, List.setIfInBounds_toArray, List.set_cons_zero, List.set_cons_succ]
  refine wpAnyH_take (i := 11) (v := .pointer (some ⟨bL, oL + 19, none⟩)) rfl (by kernel_rfl) (by kernel_rfl) (by kernel_rfl) (fun _ _ _ h => h) (Or.inl ⟨by first | rfl | go_simp, by intro w9 hSw; (try dsimp only at hSw); go_simp⟩) (by assumption) ?_
  simp only [List.getElem_toArray, List.getElem_cons_zero, List.getElem_cons_succ, Act.put, List.setIfInBounds_toArray, List.set_cons_zero, List.set_cons_succ]
  refine wpAnyH_take (i := 12) (v := .pointer (some ⟨bL, oL + 20, none⟩)) rfl (by kernel_rfl) (by kernel_rfl) (by kernel_rfl) (fun _ _ _ h => h) (Or.inl ⟨by first | rfl | go_simp, by intro w9 hSw; (try dsimp only at hSw); go_simp⟩) (by assumption) ?_
  simp only [List.getElem_toArray, List.getElem_cons_zero, List.getElem_cons_succ, Act.put, List.setIfInBounds_toArray, List.set_cons_zero, List.set_cons_succ]
  refine wpAnyH_take (i := 13) (v := .int .i64 6000) rfl (by kernel_rfl) (by kernel_rfl) (by kernel_rfl) (fun _ _ _ h => h) (Or.inl ⟨by first | rfl | go_simp, by intro w9 hSw; (try dsimp only at hSw); go_simp⟩) (by assumption) ?_
  simp only [List.getElem_toArray, List.getElem_cons_zero, List.getElem_cons_succ, Act.put, List.setIfInBounds_toArray, List.set_cons_zero, List.set_cons_succ]
  refine wpAnyH_take (i := 14) (v := .bool true) rfl (by kernel_rfl) (by kernel_rfl) (by kernel_rfl) (fun _ _ _ h => h) (Or.inl ⟨by first | rfl | go_simp, by intro w9 hSw; (try dsimp only at hSw); go_simp⟩) (by assumption) ?_
  simp only [List.getElem_toArray, List.getElem_cons_zero, List.getElem_cons_succ, Act.put, List.setIfInBounds_toArray, List.set_cons_zero, List.set_cons_succ]
  refine wpAnyH_take (i := 15) (v := .bool true) rfl (by kernel_rfl) (by kernel_rfl) (by kernel_rfl) (fun _ _ _ h => h) (Or.inl ⟨by first | rfl | go_simp, by intro w9 hSw; (try dsimp only at hSw); go_simp⟩) (by assumption) ?_
  simp only [List.getElem_toArray, List.getElem_cons_zero, List.getElem_cons_succ, Act.put, List.setIfInBounds_toArray, List.set_cons_zero, List.set_cons_succ]
  refine wpAnyH_take (i := 16) (v := .bool true) rfl (by kernel_rfl) (by kernel_rfl) (by kernel_rfl) (fun _ _ _ h => h) (Or.inl ⟨by first | rfl | go_simp, by intro w9 hSw; (try dsimp only at hSw); go_simp⟩) (by assumption) ?_
  simp only [List.getElem_toArray, List.getElem_cons_zero, List.getElem_cons_succ, Act.put, List.setIfInBounds_toArray, List.set_cons_zero, List.set_cons_succ]
  refine wpAnyH_take (i := 17) (v := .pointer (some ⟨g5, 13, none⟩)) rfl (by kernel_rfl) (by kernel_rfl) (by kernel_rfl) (fun _ _ _ h => h) (Or.inl ⟨by first | rfl | go_simp, by intro w9 hSw; (try dsimp only at hSw); go_simp⟩) (by assumption) ?_
  simp only [List.getElem_toArray, List.getElem_cons_zero, List.getElem_cons_succ, Act.put, List.setIfInBounds_toArray, List.set_cons_zero, List.set_cons_succ]
  refine wpAnyH_take (i := 18) (v := .int .i64 1) rfl (by kernel_rfl) (by kernel_rfl) (by kernel_rfl) (fun _ _ _ h => h) (Or.inl ⟨by first | rfl | go_simp, by intro w9 hSw; (try dsimp only at hSw); have c9 := hSw.2.1.cell 13; clear hSw; go_simp⟩) (by assumption) ?_
  simp only [List.getElem_toArray, List.getElem_cons_zero, List.getElem_cons_succ, Act.put, List.setIfInBounds_toArray, List.set_cons_zero, List.set_cons_succ]
  refine wpAnyH_take (i := 19) (v := .bool true) rfl (by kernel_rfl) (by kernel_rfl) (by kernel_rfl) (fun _ _ _ h => h) (Or.inl ⟨by first | rfl | go_simp, by intro w9 hSw; (try dsimp only at hSw); go_simp⟩) (by assumption) ?_
  simp only [List.getElem_toArray, List.getElem_cons_zero, List.getElem_cons_succ, Act.put, List.setIfInBounds_toArray, List.set_cons_zero, List.set_cons_succ]
  refine wpAnyH_take (i := 20) (v := .bool true) rfl (by kernel_rfl) (by kernel_rfl) (by kernel_rfl) (fun _ _ _ h => h) (Or.inl ⟨by first | rfl | go_simp, by intro w9 hSw; (try dsimp only at hSw); go_simp⟩) (by assumption) ?_
  simp only [List.getElem_toArray, List.getElem_cons_zero, List.getElem_cons_succ, Act.put, List.setIfInBounds_toArray, List.set_cons_zero, List.set_cons_succ]
  refine wpAnyH_take (i := 21) (v := .bool true) rfl (by kernel_rfl) (by kernel_rfl) (by kernel_rfl) (fun _ _ _ h => h) (Or.inl ⟨by first | rfl | go_simp, by intro w9 hSw; (try dsimp only at hSw); go_simp⟩) (by assumption) ?_
  simp only [List.getElem_toArray, List.getElem_cons_zero, List.getElem_cons_succ, Act.put, List.setIfInBounds_toArray, List.set_cons_zero, List.set_cons_succ]
  refine wpAnyH_take (i := 22) (v := .pointer (some ⟨g5, 14, none⟩)) rfl (by kernel_rfl) (by kernel_rfl) (by kernel_rfl) (fun _ _ _ h => h) (Or.inl ⟨by first | rfl | go_simp, by intro w9 hSw; (try dsimp only at hSw); go_simp⟩) (by assumption) ?_
  simp only [List.getElem_toArray, List.getElem_cons_zero, List.getElem_cons_succ, Act.put, List.setIfInBounds_toArray, List.set_cons_zero, List.set_cons_succ]
  refine wpAnyH_take (i := 23) (v := .int .i64 (105000 + DZ)) rfl (by kernel_rfl) (by kernel_rfl) (by kernel_rfl) (fun _ _ _ h => h) (Or.inl ⟨by first | rfl | go_simp, by intro w9 hSw; (try dsimp only at hSw); have c9 := hSw.2.1.cell 14; clear hSw; go_simp⟩) (by assumption) ?_
  simp only [List.getElem_toArray, List.getElem_cons_zero, List.getElem_cons_succ, Act.put, List.setIfInBounds_toArray, List.set_cons_zero, List.set_cons_succ]
  refine wpAnyH_ready (rs := [24]) (by kernel_rfl) (by simp) ?_
  refine AllReadyH.cons rfl (fun K hK => ?_) (AllReadyH.nil)
  go_simp
  refine (HDl.out X0).mono ?_
  rintro e X1 ⟨rfl, b9⟩
  replace l0 := (b9.cell (p := ⟨bL, oL + 19, none⟩) lbL).trans l0
  replace l1 := (b9.cell (p := ⟨bL, oL + 20, none⟩) lbL).trans l1
  replace k0 := (b9.cell (p := ⟨bM, oM, none⟩) lbM).trans k0
  replace k1 := (b9.cell (p := ⟨bM, oM + 1, none⟩) lbM).trans k1
  replace k7 := (b9.cell (p := ⟨bM, oM + 7, none⟩) lbM).trans k7
  replace K3 := K3.below b9 K3.lt
  replace K5 := K5.below b9 K5.lt
  replace K9 := K9.below b9 K9.lt
  replace BX := Base.thenB BX b9
  replace lbL := Nat.lt_of_lt_of_le lbL b9.size
  replace lbM := Nat.lt_of_lt_of_le lbM b9.size
  replace HS9 := HS9.below b9
  replace RV := Row.below RV b9
  clear b9
  refine hK.out _ _ ⟨K3, K5, K9, l0, l1, k0, k1, k7⟩ (fun hHeld => ?_)
  clear hK K
  try simp only [List.getElem_toArray, List.getElem_cons_zero, List.getElem_cons_succ, Act.put, List.setIfInBounds_toArray, List.set_cons_zero, List.set_cons_succ]
  refine wpAnyH_take (i := 25) (v := .int .i64 (105000 + DZ)) rfl (by kernel_rfl) (by kernel_rfl) (by kernel_rfl) (fun _ _ _ h => h) (Or.inl ⟨by first | rfl | go_simp, by intro w9 hSw; (try dsimp only at hSw); go_simp⟩) (by assumption) ?_
  simp only [List.getElem_toArray, List.getElem_cons_zero, List.getElem_cons_succ, Act.put, List.setIfInBounds_toArray, List.set_cons_zero, List.set_cons_succ]
  refine wpAnyH_take (i := 26) (v := .bool true) rfl (by kernel_rfl) (by kernel_rfl) (by kernel_rfl) (fun _ _ _ h => h) (Or.inl ⟨by first | rfl | go_simp, by intro w9 hSw; (try dsimp only at hSw); go_simp⟩) (by assumption) ?_
  simp only [List.getElem_toArray, List.getElem_cons_zero, List.getElem_cons_succ, Act.put, List.setIfInBounds_toArray, List.set_cons_zero, List.set_cons_succ]
  refine wpAnyH_take (i := 27) (v := .bool true) rfl (by kernel_rfl) (by kernel_rfl) (by kernel_rfl) (fun _ _ _ h => h) (Or.inl ⟨by first | rfl | go_simp, by intro w9 hSw; (try dsimp only at hSw); go_simp⟩) (by assumption) ?_
  simp only [List.getElem_toArray, List.getElem_cons_zero, List.getElem_cons_succ, Act.put, List.setIfInBounds_toArray, List.set_cons_zero, List.set_cons_succ]
  refine wpAnyH_take (i := 28) (v := .bool true) rfl (by kernel_rfl) (by kernel_rfl) (by kernel_rfl) (fun _ _ _ h => h) (Or.inl ⟨by first | rfl | go_simp, by intro w9 hSw; (try dsimp only at hSw); go_simp⟩) (by assumption) ?_
  simp only [List.getElem_toArray, List.getElem_cons_zero, List.getElem_cons_succ, Act.put, List.setIfInBounds_toArray, List.set_cons_zero, List.set_cons_succ]
  refine wpAnyH_take (i := 29) (v := .slice (some ⟨bM, oM, none⟩) 1 cM) rfl (by kernel_rfl) (by kernel_rfl) (by kernel_rfl) (fun _ _ _ h => h) (Or.inl ⟨by first | rfl | go_simp, by intro w9 hSw; (try dsimp only at hSw); go_simp⟩) (by assumption) ?_
  simp only [List.getElem_toArray, List.getElem_cons_zero, List.getElem_cons_succ, Act.put, List.setIfInBounds_toArray, List.set_cons_zero, List.set_cons_succ]
  refine wpAnyH_take (i := 30) (v := .pointer (some ⟨bM, oM, none⟩)) rfl (by kernel_rfl) (by kernel_rfl) (by kernel_rfl) (fun _ _ _ h => h) (Or.inl ⟨by first | rfl | go_simp, by intro w9 hSw; (try dsimp only at hSw); go_simp⟩) (by assumption) ?_
  simp only [List.getElem_toArray, List.getElem_cons_zero, List.getElem_cons_succ, Act.put, List.setIfInBounds_toArray, List.set_cons_zero, List.set_cons_succ]
  refine wpAnyH_take (i := 31) (v := .pointer (some ⟨bM, oM, none⟩)) rfl (by kernel_rfl) (by kernel_rfl) (by kernel_rfl) (fun _ _ _ h => h) (Or.inl ⟨by first | rfl | go_simp, by intro w9 hSw; (try dsimp only at hSw); go_simp⟩) (by assumption) ?_
  simp only [List.getElem_toArray, List.getElem_cons_zero, List.getElem_cons_succ, Act.put, List.setIfInBounds_toArray, List.set_cons_zero, List.set_cons_succ]
  refine wpAnyH_take (i := 32) (v := .int .i64 38) rfl (by kernel_rfl) (by kernel_rfl) (by kernel_rfl) (fun _ _ _ h => h) (Or.inl ⟨by first | rfl | go_simp, by intro w9 hSw; (try dsimp only at hSw); go_simp⟩) (by assumption) ?_
  simp only [List.getElem_toArray, List.getElem_cons_zero, List.getElem_cons_succ, Act.put, List.setIfInBounds_toArray, List.set_cons_zero, List.set_cons_succ]
  refine wpAnyH_take (i := 33) (v := .bool true) rfl (by kernel_rfl) (by kernel_rfl) (by kernel_rfl) (fun _ _ _ h => h) (Or.inl ⟨by first | rfl | go_simp, by intro w9 hSw; (try dsimp only at hSw); go_simp⟩) (by assumption) ?_
  simp only [List.getElem_toArray, List.getElem_cons_zero, List.getElem_cons_succ, Act.put, List.setIfInBounds_toArray, List.set_cons_zero, List.set_cons_succ]
  refine wpAnyH_take (i := 34) (v := .bool true) rfl (by kernel_rfl) (by kernel_rfl) (by kernel_rfl) (fun _ _ _ h => h) (Or.inl ⟨by first | rfl | go_simp, by intro w9 hSw; (try dsimp only at hSw); go_simp⟩) (by assumption) ?_
  simp only [List.getElem_toArray, List.getElem_cons_zero, List.getElem_cons_succ, Act.put, List.setIfInBounds_toArray, List.set_cons_zero, List.set_cons_succ]
  refine wpAnyH_take (i := 35) (v := .bool true) rfl (by kernel_rfl) (by kernel_rfl) (by kernel_rfl) (fun _ _ _ h => h) (Or.inl ⟨by first | rfl | go_simp, by intro w9 hSw; (try dsimp only at hSw); go_simp⟩) (by assumption) ?_
  simp only [List.getElem_toArray, List.getElem_cons_zero, List.getElem_cons_succ, Act.put, List.setIfInBounds_toArray, List.set_cons_zero, List.set_cons_succ]
  refine wpAnyH_take (i := 36) (v := .slice (some ⟨bM, oM, none⟩) 1 cM) rfl (by kernel_rfl) (by kernel_rfl) (by kernel_rfl) (fun _ _ _ h => h) (Or.inl ⟨by first | rfl | go_simp, by intro w9 hSw; (try dsimp only at hSw); go_simp⟩) (by assumption) ?_
  simp only [List.getElem_toArray, List.getElem_cons_zero, List.getElem_cons_succ, Act.put, List.setIfInBounds_toArray, List.set_cons_zero, List.set_cons_succ]
  refine wpAnyH_take (i := 37) (v := .pointer (some ⟨bM, oM, none⟩)) rfl (by kernel_rfl) (by kernel_rfl) (by kernel_rfl) (fun _ _ _ h => h) (Or.inl ⟨by first | rfl | go_simp, by intro w9 hSw; (try dsimp only at hSw); go_simp⟩) (by assumption) ?_
  simp only [List.getElem_toArray, List.getElem_cons_zero, List.getElem_cons_succ, Act.put, List.setIfInBounds_toArray, List.set_cons_zero, List.set_cons_succ]
  refine wpAnyH_take (i := 38) (v := .pointer (some ⟨bM, oM + 1, none⟩)) rfl (by kernel_rfl) (by kernel_rfl) (by kernel_rfl) (fun _ _ _ h => h) (Or.inl ⟨by first | rfl | go_simp, by intro w9 hSw; (try dsimp only at hSw); go_simp⟩) (by assumption) ?_
  simp only [List.getElem_toArray, List.getElem_cons_zero, List.getElem_cons_succ, Act.put, List.setIfInBounds_toArray, List.set_cons_zero, List.set_cons_succ]
  refine wpAnyH_take (i := 39) (v := .int .i64 6450) rfl (by kernel_rfl) (by kernel_rfl) (by kernel_rfl) (fun _ _ _ h => h) (Or.inl ⟨by first | rfl | go_simp, by intro w9 hSw; (try dsimp only at hSw); go_simp⟩) (by assumption) ?_
  simp only [List.getElem_toArray, List.getElem_cons_zero, List.getElem_cons_succ, Act.put, List.setIfInBounds_toArray, List.set_cons_zero, List.set_cons_succ]
  refine wpAnyH_take (i := 40) (v := .bool true) rfl (by kernel_rfl) (by kernel_rfl) (by kernel_rfl) (fun _ _ _ h => h) (Or.inl ⟨by first | rfl | go_simp, by intro w9 hSw; (try dsimp only at hSw); go_simp⟩) (by assumption) ?_
  simp only [List.getElem_toArray, List.getElem_cons_zero, List.getElem_cons_succ, Act.put, List.setIfInBounds_toArray, List.set_cons_zero, List.set_cons_succ]
  refine wpAnyH_take (i := 41) (v := .bool true) rfl (by kernel_rfl) (by kernel_rfl) (by kernel_rfl) (fun _ _ _ h => h) (Or.inl ⟨by first | rfl | go_simp, by intro w9 hSw; (try dsimp only at hSw); go_simp⟩) (by assumption) ?_
  simp only [List.getElem_toArray, List.getElem_cons_zero, List.getElem_cons_succ, Act.put, List.setIfInBounds_toArray, List.set_cons_zero, List.set_cons_succ]
  refine wpAnyH_take (i := 42) (v := .bool true) rfl (by kernel_rfl) (by kernel_rfl) (by kernel_rfl) (fun _ _ _ h => h) (Or.inl ⟨by first | rfl | go_simp, by intro w9 hSw; (try dsimp only at hSw); go_simp⟩) (by assumption) ?_
  simp only [List.getElem_toArray, List.getElem_cons_zero, List.getElem_cons_succ, Act.put, List.setIfInBounds_toArray, List.set_cons_zero, List.set_cons_succ]
  refine wpAnyH_take (i := 43) (v := .slice (some ⟨bM, oM, none⟩) 1 cM) rfl (by kernel_rfl) (by kernel_rfl) (by kernel_rfl) (fun _ _ _ h => h) (Or.inl ⟨by first | rfl | go_simp, by intro w9 hSw; (try dsimp only at hSw); go_simp⟩) (by assumption) ?_
  simp only [List.getElem_toArray, List.getElem_cons_zero, List.getElem_cons_succ, Act.put, List.setIfInBounds_toArray, List.set_cons_zero, List.set_cons_succ]
  refine wpAnyH_take (i := 44) (v := .pointer (some ⟨bM, oM, none⟩)) rfl (by kernel_rfl) (by kernel_rfl) (by kernel_rfl) (fun _ _ _ h => h) (Or.inl ⟨by first | rfl | go_simp, by intro w9 hSw; (try dsimp only at hSw); go_simp⟩) (by assumption) ?_
  simp only [List.getElem_toArray, List.getElem_cons_zero, List.getElem_cons_succ, Act.put, List.setIfInBounds_toArray, List.set_cons_zero, List.set_cons_succ]
  refine wpAnyH_take (i := 45) (v := .pointer (some ⟨bM, oM + 2, none⟩)) rfl (by kernel_rfl) (by kernel_rfl) (by kernel_rfl) (fun _ _ _ h => h) (Or.inl ⟨by first | rfl | go_simp, by intro w9 hSw; (try dsimp only at hSw); go_simp⟩) (by assumption) ?_
  simp only [List.getElem_toArray, List.getElem_cons_zero, List.getElem_cons_succ, Act.put, List.setIfInBounds_toArray, List.set_cons_zero, List.set_cons_succ]
  refine wpAnyH_take (i := 46) (v := .pointer (some ⟨bM, oM + 7, none⟩)) rfl (by kernel_rfl) (by kernel_rfl) (by kernel_rfl) (fun _ _ _ h => h) (Or.inl ⟨by first | rfl | go_simp, by intro w9 hSw; (try dsimp only at hSw); go_simp⟩) (by assumption) ?_
  simp only [List.getElem_toArray, List.getElem_cons_zero, List.getElem_cons_succ, Act.put, List.setIfInBounds_toArray, List.set_cons_zero, List.set_cons_succ]
  refine wpAnyH_take (i := 47) (v := U3) rfl (by kernel_rfl) (by kernel_rfl) (by kernel_rfl) (fun _ _ _ h => h) (Or.inl ⟨by first | rfl | go_simp, by intro w9 hSw; (try dsimp only at hSw); go_simp⟩) (by assumption) ?_
  simp only [List.getElem_toArray, List.getElem_cons_zero, List.getElem_cons_succ, Act.put, List.setIfInBounds_toArray, List.set_cons_zero, List.set_cons_succ]
  refine wpAnyH_ready (rs := [48]) (by kernel_rfl) (by simp) ?_
  refine AllReadyH.cons rfl (fun K hK => ?_) (AllReadyH.nil)
  go_simp
  have b9 := (Below.refl X1.heap.size X1).alloc (Nat.le_refl _) (.cells #[.int .u8 1, .int .u8 5] 5)
  have RB : Row (X1.alloc (.cells #[.int .u8 1, .int .u8 5] 5)) 0 (.slice (some ⟨X1.heap.size, 0, none⟩) 2 2) 2 [.int .u8 1, .int .u8 5] := Row.lit (Nat.zero_le _) rfl
  generalize X1.alloc (.cells #[.int .u8 1, .int .u8 5] 5) = X2 at *
  replace l0 := (b9.cell (p := ⟨bL, oL + 19, none⟩) lbL).trans l0
  replace l1 := (b9.cell (p := ⟨bL, oL + 20, none⟩) lbL).trans l1
  replace k0 := (b9.cell (p := ⟨bM, oM, none⟩) lbM).trans k0
  replace k1 := (b9.cell (p := ⟨bM, oM + 1, none⟩) lbM).trans k1
  replace k7 := (b9.cell (p := ⟨bM, oM + 7, none⟩) lbM).trans k7
  replace K3 := K3.below b9 K3.lt
  replace K5 := K5.below b9 K5.lt
  replace K9 := K9.below b9 K9.lt
  replace BX := Base.thenB BX b9
  replace lbL := Nat.lt_of_lt_of_le lbL b9.size
  replace lbM := Nat.lt_of_lt_of_le lbM b9.size
  replace HS9 := HS9.below b9
  replace RV := Row.below RV b9
  clear b9
  refine hK.out _ _ ⟨K3, K5, K9, l0, l1, k0, k1, k7⟩ (fun hHeld => ?_)
  clear hK K
  try simp only [List.getElem_toArray, List.getElem_cons_zero, List.getElem_cons_succ, Act.put, List.setIfInBounds_toArray, List.set_cons_zero, List.set_cons_succ]
  refine wpAnyH_ready (rs := [49]) (by kernel_rfl) (by simp) ?_
  refine AllReadyH.cons rfl (fun K hK => ?_) (AllReadyH.nil)
  go_simp
  refine (bytes_yes U3 _ 2 0 0 [1, 5] X2 rfl (by unfold Bytes; decide) RV RB).mono ?_
  rintro e X3 ⟨rfl, rfl⟩
  refine hK.out _ _ ⟨K3, K5, K9, l0, l1, k0, k1, k7⟩ (fun hHeld => ?_)
  clear hK K
  try simp only [List.getElem_toArray, List.getElem_cons_zero, List.getElem_cons_succ, Act.put, List.setIfInBounds_toArray, List.set_cons_zero, List.set_cons_succ]
  refine wpAnyH_take (i := 50) (v := .bool true) rfl (by kernel_rfl) (by kernel_rfl) (by kernel_rfl) (fun _ _ _ h => h) (Or.inl ⟨by first | rfl | go_simp, by intro w9 hSw; (try dsimp only at hSw); go_simp⟩) (by assumption) ?_
  simp only [List.getElem_toArray, List.getElem_cons_zero, List.getElem_cons_succ, Act.put, List.setIfInBounds_toArray, List.set_cons_zero, List.set_cons_succ]
  refine wpAnyH_take (i := 51) (v := .bool true) rfl (by kernel_rfl) (by kernel_rfl) (by kernel_rfl) (fun _ _ _ h => h) (Or.inl ⟨by first | rfl | go_simp, by intro w9 hSw; (try dsimp only at hSw); go_simp⟩) (by assumption) ?_
  simp only [List.getElem_toArray, List.getElem_cons_zero, List.getElem_cons_succ, Act.put, List.setIfInBounds_toArray, List.set_cons_zero, List.set_cons_succ]
  refine wpAnyH_take (i := 52) (v := .bool false) rfl (by kernel_rfl) (by kernel_rfl) (by kernel_rfl) (fun _ _ _ h => h) (Or.inl ⟨by first | rfl | go_simp, by intro w9 hSw; (try dsimp only at hSw); go_simp⟩) (by assumption) ?_
  simp only [List.getElem_toArray, List.getElem_cons_zero, List.getElem_cons_succ, Act.put, List.setIfInBounds_toArray, List.set_cons_zero, List.set_cons_succ]
  refine wpAnyH_take (i := 53) (v := .bool true) rfl (by kernel_rfl) (by kernel_rfl) (by kernel_rfl) (fun _ _ _ h => h) (Or.inl ⟨by first | rfl | go_simp, by intro w9 hSw; (try dsimp only at hSw); go_simp⟩) (by assumption) ?_
  simp only [List.getElem_toArray, List.getElem_cons_zero, List.getElem_cons_succ, Act.put, List.setIfInBounds_toArray, List.set_cons_zero, List.set_cons_succ]
  refine wpAnyH_take (i := 54) (v := .bool true) rfl (by kernel_rfl) (by kernel_rfl) (by kernel_rfl) (fun _ _ _ h => h) (Or.inl ⟨by first | rfl | go_simp, by intro w9 hSw; (try dsimp only at hSw); go_simp⟩) (by assumption) ?_
  simp only [List.getElem_toArray, List.getElem_cons_zero, List.getElem_cons_succ, Act.put, List.setIfInBounds_toArray, List.set_cons_zero, List.set_cons_succ]
  refine wpAnyH_take (i := 55) (v := .bool true) rfl (by kernel_rfl) (by kernel_rfl) (by kernel_rfl) (fun _ _ _ h => h) (Or.inl ⟨by first | rfl | go_simp, by intro w9 hSw; (try dsimp only at hSw); go_simp⟩) (by assumption) ?_
  simp only [List.getElem_toArray, List.getElem_cons_zero, List.getElem_cons_succ, Act.put, List.setIfInBounds_toArray, List.set_cons_zero, List.set_cons_succ]
  refine wpAnyH_take (i := 56) (v := .pointer (some ⟨g9, 12, none⟩)) rfl (by kernel_rfl) (by kernel_rfl) (by kernel_rfl) (fun _ _ _ h => h) (Or.inl ⟨by first | rfl | go_simp, by intro w9 hSw; (try dsimp only at hSw); go_simp⟩) (by assumption) ?_
  simp only [List.getElem_toArray, List.getElem_cons_zero, List.getElem_cons_succ, Act.put, List.setIfInBounds_toArray, List.set_cons_zero, List.set_cons_succ]
  refine wpAnyH_take (i := 57) (v := .bool true) rfl (by kernel_rfl) (by kernel_rfl) (by kernel_rfl) (fun _ _ _ h => h) (Or.inl ⟨by first | rfl | go_simp, by intro w9 hSw; (try dsimp only at hSw); have c9 := hSw.2.2.1.cell 12; clear hSw; go_simp⟩) (by assumption) ?_
  simp only [List.getElem_toArray, List.getElem_cons_zero, List.getElem_cons_succ, Act.put, List.setIfInBounds_toArray, List.set_cons_zero, List.set_cons_succ]
  refine wpAnyH_take (i := 58) (v := .bool true) rfl (by kernel_rfl) (by kernel_rfl) (by kernel_rfl) (fun _ _ _ h => h) (Or.inl ⟨by first | rfl | go_simp, by intro w9 hSw; (try dsimp only at hSw); go_simp⟩) (by assumption) ?_
  simp only [List.getElem_toArray, List.getElem_cons_zero, List.getElem_cons_succ, Act.put, List.setIfInBounds_toArray, List.set_cons_zero, List.set_cons_succ]
  refine wpAnyH_take (i := 59) (v := .bool true) rfl (by kernel_rfl) (by kernel_rfl) (by kernel_rfl) (fun _ _ _ h => h) (Or.inl ⟨by first | rfl | go_simp, by intro w9 hSw; (try dsimp only at hSw); go_simp⟩) (by assumption) ?_
  simp only [List.getElem_toArray, List.getElem_cons_zero, List.getElem_cons_succ, Act.put, List.setIfInBounds_toArray, List.set_cons_zero, List.set_cons_succ]
  refine wpAnyH_take (i := 60) (v := .agg #[.int .i64 0, .int .i64 160, .int .i64 1, .int .u64 5, .int .i64 0, .int .u64 0, D1, D2, .int .i64 0, D3, D4, .int .u64 0, .bool true, .int .i64 1, .int .i64 (105000 + DZ)]) rfl (by kernel_rfl) (by kernel_rfl) (by kernel_rfl) (fun _ _ _ h => h) (Av.yields_part (by first | rfl | go_simp) _ _ rfl (g9) 0 rfl #[.int .i64 0, .int .i64 160, .int .i64 1, .int .u64 5, .int .i64 0, .int .u64 0, D1, D2, .int .i64 0, D3, D4, .int .u64 0, .bool true, .int .i64 1, .int .i64 (105000 + DZ)] _ 33 #[.int .i64 0, .int .i64 160, .int .i64 1, .int .u64 5, .int .i64 0, .int .u64 0, D1, D2, .int .i64 0, D3, D4, .int .u64 0, .bool true, .int .i64 1, .int .i64 (105000 + DZ)] (fun w9 hSw => hSw.2.2.1) rfl Tryd.underlying33 rfl (by kernel_rfl)) (by assumption) ?_
  simp only [List.getElem_toArray, List.getElem_cons_zero, List.getElem_cons_succ, Act.put, List.setIfInBounds_toArray, List.set_cons_zero, List.set_cons_succ]
  refine wpAnyH_ready (rs := [61]) (by kernel_rfl) (by simp) ?_
  refine AllReadyH.cons rfl (fun K hK => ?_) (AllReadyH.nil)
  go_simp
  refine (HSp.out X2 D1 D2 D3 D4 _ HS9).mono ?_
  rintro e X4 ⟨F1, F2, F3, F4, rfl, HSX, b9⟩
  replace l0 := (b9.cell (p := ⟨bL, oL + 19, none⟩) lbL).trans l0
  replace l1 := (b9.cell (p := ⟨bL, oL + 20, none⟩) lbL).trans l1
  replace k0 := (b9.cell (p := ⟨bM, oM, none⟩) lbM).trans k0
  replace k1 := (b9.cell (p := ⟨bM, oM + 1, none⟩) lbM).trans k1
  replace k7 := (b9.cell (p := ⟨bM, oM + 7, none⟩) lbM).trans k7
  replace K3 := K3.below b9 K3.lt
  replace K5 := K5.below b9 K5.lt
  replace K9 := K9.below b9 K9.lt
  replace BX := Base.thenB BX b9
  replace lbL := Nat.lt_of_lt_of_le lbL b9.size
  replace lbM := Nat.lt_of_lt_of_le lbM b9.size
  replace HS9 := HS9.below b9
  replace RV := Row.below RV b9
  replace RB := Row.below RB b9
  clear b9
  refine hK.out _ _ ⟨K3, K5, K9, l0, l1, k0, k1, k7⟩ (fun hHeld => ?_)
  clear hK K
  try simp only [List.getElem_toArray, List.getElem_cons_zero, List.getElem_cons_succ, Act.put, List.setIfInBounds_toArray, List.set_cons_zero, List.set_cons_succ]
  refine wpAnyH_take (i := 62) (v := .bool false) rfl (by kernel_rfl) (by kernel_rfl) (by kernel_rfl) (fun _ _ _ h => h) (Or.inl ⟨by first | rfl | go_simp, by intro w9 hSw; (try dsimp only at hSw); go_simp⟩) (by assumption) ?_
  simp only [List.getElem_toArray, List.getElem_cons_zero, List.getElem_cons_succ, Act.put, List.setIfInBounds_toArray, List.set_cons_zero, List.set_cons_succ]
  refine wpAnyH_take (i := 63) (v := .bool true) rfl (by kernel_rfl) (by kernel_rfl) (by kernel_rfl) (fun _ _ _ h => h) (Or.inl ⟨by first | rfl | go_simp, by intro w9 hSw; (try dsimp only at hSw); go_simp⟩) (by assumption) ?_
  simp only [List.getElem_toArray, List.getElem_cons_zero, List.getElem_cons_succ, Act.put, List.setIfInBounds_toArray, List.set_cons_zero, List.set_cons_succ]
  refine wpAnyH_take (i := 64) (v := .bool true) rfl (by kernel_rfl) (by kernel_rfl) (by kernel_rfl) (fun _ _ _ h => h) (Or.inl ⟨by first | rfl | go_simp, by intro w9 hSw; (try dsimp only at hSw); go_simp⟩) (by assumption) ?_
  simp only [List.getElem_toArray, List.getElem_cons_zero, List.getElem_cons_succ, Act.put, List.setIfInBounds_toArray, List.set_cons_zero, List.set_cons_succ]
  refine wpAnyH_take (i := 65) (v := .bool true) rfl (by kernel_rfl) (by kernel_rfl) (by kernel_rfl) (fun _ _ _ h => h) (Or.inl ⟨by first | rfl | go_simp, by intro w9 hSw; (try dsimp only at hSw); go_simp⟩) (by assumption) ?_
  simp only [List.getElem_toArray, List.getElem_cons_zero, List.getElem_cons_succ, Act.put, List.setIfInBounds_toArray, List.set_cons_zero, List.set_cons_succ]
  refine wpAnyH_take (i := 66) (v := .int .i64 12) rfl (by kernel_rfl) (by kernel_rfl) (by kernel_rfl) (fun _ _ _ h => h) (Or.inl ⟨by first | rfl | go_simp, by intro w9 hSw; (try dsimp only at hSw); go_simp⟩) (by assumption) ?_
  simp only [List.getElem_toArray, List.getElem_cons_zero, List.getElem_cons_succ, Act.put, List.setIfInBounds_toArray, List.set_cons_zero, List.set_cons_succ]
  refine wpAnyH_take (i := 67) (v := .bool true) rfl (by kernel_rfl) (by kernel_rfl) (by kernel_rfl) (fun _ _ _ h => h) (Or.inl ⟨by first | rfl | go_simp, by intro w9 hSw; (try dsimp only at hSw); go_simp⟩) (by assumption) ?_
  simp only [List.getElem_toArray, List.getElem_cons_zero, List.getElem_cons_succ, Act.put, List.setIfInBounds_toArray, List.set_cons_zero, List.set_cons_succ]
  refine wpAnyH_take (i := 68) (v := .bool true) rfl (by kernel_rfl) (by kernel_rfl) (by kernel_rfl) (fun _ _ _ h => h) (Or.inl ⟨by first | rfl | go_simp, by intro w9 hSw; (try dsimp only at hSw); go_simp⟩) (by assumption) ?_
  simp only [List.getElem_toArray, List.getElem_cons_zero, List.getElem_cons_succ, Act.put, List.setIfInBounds_toArray, List.set_cons_zero, List.set_cons_succ]
  refine wpAnyH_take (i := 69) (v := .bool true) rfl (by kernel_rfl) (by kernel_rfl) (by kernel_rfl) (fun _ _ _ h => h) (Or.inl ⟨by first | rfl | go_simp, by intro w9 hSw; (try dsimp only at hSw); go_simp⟩) (by assumption) ?_
  simp only [List.getElem_toArray, List.getElem_cons_zero, List.getElem_cons_succ, Act.put, List.setIfInBounds_toArray, List.set_cons_zero, List.set_cons_succ]
  refine wpAnyH_done (by kernel_rfl) ?_ _
  go_wp2_with fail
  go_ret
  exact ⟨rfl, BX⟩
end Go.Proofs.YtcbliliinmfnjaaDoor.Av
