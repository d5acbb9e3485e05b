/- Advertising PDUs: Encode by both and Decode by the layer, in all cases: contracts over the program. Advertising PDUs: data in memory of their own; whether two are the same: contracts over the program. Advertising PDUs: the same PDU in two places is the same: contracts over the program. Advertising PDUs: the contracts at the literals of the document lives. -/
import Derived.Test.YtcjlliilfecmnaaDoorKApDecG
import Derived.Test.YtcjlliilfecmnaaDoorKApREncTt
import Derived.Test.YtcjlliilfecmnaaDoorKApREncTf
import Derived.Test.YtcjlliilfecmnaaDoorKApREncFf
import Derived.Test.YtcjlliilfecmnaaDoorKM11
section
set_option linter.unusedVariables false
set_option linter.unusedSimpArgs false
namespace Go.Proofs.YtcjlliilfecmnaaDoor.Ap
open Go.RowKit Mem Oct
open Base (thenB)

theorem decode_any (A : Option Addr) (n c : Nat) (xs : List Int) (w : World) (hx : xs.length = n) (hnc : n ≤ c) (bxs : Bytes xs) (hr : Ints .u8 w w.heap.size A xs) (hT : Adr.Tab w) :
    Calls Tryd.prog 16 #[.slice A n c] w fun e w' => Decd w w' e (decP xs) := by
  by_cases h : hdrE xs = 0
  · have h2 := (hdr_ok h).1
    obtain ⟨b, off, rfl, _, _⟩ := hr.at_ (i := 0) (by omega)
    by_cases hc : c = 2
    · exact decode_near b off n c xs w hx hnc bxs hr hT h hc
    · exact decode_far b off n c xs w hx hnc bxs hr hT h hc
  · exact decode_hdr A n c xs w hx bxs hr h
theorem encode_any (p : Pd) (A : Option Addr) (n c : Nat) (w : World) (hn : p.ds.length = n) (hW : Wid p) (hr : Ints .u8 w w.heap.size A p.ds) (hT : Adr.Tab w) :
    Calls Tryd.prog 13 #[.agg (cel p (.slice A n c))] w fun e w' => Gives w w' e (encP p) := by
  by_cases h : chkP p = 0
  · exact encode_yes p A n c w hn hW hr hT h
  · exact encode_no p A n c w hn hW hT h
theorem rencode_any (p : Pd) (A : Option Addr) (n c : Nat) (w : World) (hn : p.ds.length = n) (hW : Wid p) (hr : Ints .u8 w w.heap.size A p.ds) :
    Calls Tryd.prog 14 #[.agg (cel p (.slice A n c))] w fun e w' => Gives w w' e (encP p) := by
  by_cases h : chkP p = 0
  · cases hT : tgtB p.k with
    | true =>
      cases hC : conB p.k with
      | true => exact rencode_tt p A n c w hn hW hr h hT hC
      | false => exact rencode_tf p A n c w hn hW hr h hT hC
    | false =>
      cases hC : conB p.k with
      | true =>
        exfalso
        have e : p.k = 5 := by unfold conB at hC; simpa using hC
        rw [e] at hT; exact absurd hT (by decide)
      | false => exact rencode_ff p A n c w hn hW hr h hT hC
  · exact rencode_no p A n c w hn hW h
theorem scannable_any (k : Int) (w : World) : Calls Tryd.prog 19 #[.int .i64 k] w fun e w' => e = .returned (.bool (k == 0 || k == 6)) ∧ w = w' := by
  cases h : k == 0
  all_goals
    go_enter Tryd.func19, Tryd.ntmps19
    go_wp2_with fail
    go_ret
    exact ⟨by simp, rfl⟩
theorem rscannable_any (k : Int) (w : World) : Calls Tryd.prog 20 #[.int .i64 k] w fun e w' => e = .returned (.bool (k == 0 || k == 6)) ∧ w = w' := by
  cases h : k == 0
  all_goals
    go_enter Tryd.func20, Tryd.ntmps20
    go_wp2_with fail
    go_ret
    exact ⟨by simp, rfl⟩
theorem connectable_any (k : Int) (w : World) : Calls Tryd.prog 21 #[.int .i64 k] w fun e w' => e = .returned (.bool (k == 0 || k == 1)) ∧ w = w' := by
  cases h : k == 0
  all_goals
    go_enter Tryd.func21, Tryd.ntmps21
    go_wp2_with fail
    go_ret
    exact ⟨by simp, rfl⟩
theorem rconnectable_any (k : Int) (w : World) : Calls Tryd.prog 22 #[.int .i64 k] w fun e w' => e = .returned (.bool (k == 0 || k == 1)) ∧ w = w' := by
  cases h : k == 0
  all_goals
    go_enter Tryd.func22, Tryd.ntmps22
    go_wp2_with fail
    go_ret
    exact ⟨by simp, rfl⟩
end Go.Proofs.YtcjlliilfecmnaaDoor.Ap

end
section
set_option linter.unusedVariables false
set_option linter.unusedSimpArgs false
namespace Go.Proofs.YtcjlliilfecmnaaDoor.Ap
open Go.RowKit Mem Oct
open Base (thenB)

/-- A PDU whose data are new memory. -/
def Owd (w w' : World) (e : Ending) (p : Pd) : Prop := ∃ A c, e = .returned (.agg (cel p (.slice A p.ds.length c))) ∧ p.ds.length ≤ c ∧ Ints .u8 w' w'.heap.size A p.ds ∧ Below w.heap.size w w'
theorem Owd.len {w w' : World} {e : Ending} {p : Pd} {n : Nat} (h : Owd w w' e p) (hn : p.ds.length = n) : ∃ A c, e = .returned (.agg (cel p (.slice A n c))) ∧ n ≤ c ∧ Ints .u8 w' w'.heap.size A p.ds ∧ Below w.heap.size w w' := by subst hn; exact h
theorem own_sep' {w : World} {base n c : Nat} {e : TypeId} {A : Option Addr} {zs : List Int} (h : w.ownsRow base e 1 (.slice A n c) n (zs.map (Value.int .u8))) (hz : zs.length = n) : zs = [] ∨ ∃ g4, A = some ⟨g4, 0, none⟩ ∧ base ≤ g4 := Adr.own_sep h hz
set_option maxRecDepth 100000 in
set_option maxHeartbeats 4000000 in
theorem own_any (p : Pd) (A : Option Addr) (n c : Nat) (w : World) (hn : p.ds.length = n) (hn2 : n ≤ 140737488351232) (hr : Ints .u8 w w.heap.size A p.ds) :
    Calls Tryd.prog 11 #[.agg (cel p (.slice A n c))] w fun e w' => Owd w w' e p := by
  obtain ⟨i0, hi, hz0, hz1, hz2⟩ := info_parts Base.info_u8
  have B0 : Below w.heap.size w ((w.alloc (.cells (cel p (.slice A n c)) 33)).alloc (.cells #[.int .i64 0, .int .i64 0, .int .u64 0, .int .i64 0, .int .u64 0, .slice none 0 0, .int .u32 0, .int .u32 0, .int .i64 0, .int .i64 0, .int .i64 0, .int .i64 0, .int .i64 0, .int .u64 0, .int .i64 0, .int .i64 0, .int .i64 0] 33)) := ((Below.refl _ _).alloc (Nat.le_refl _) _).alloc (by simp) _
  have K1 : Blk ((w.alloc (.cells (cel p (.slice A n c)) 33)).alloc (.cells #[.int .i64 0, .int .i64 0, .int .u64 0, .int .i64 0, .int .u64 0, .slice none 0 0, .int .u32 0, .int .u32 0, .int .i64 0, .int .i64 0, .int .i64 0, .int .i64 0, .int .i64 0, .int .u64 0, .int .i64 0, .int .i64 0, .int .i64 0] 33)) w.heap.size 33 (cel p (.slice A n c)) := (Blk.fresh w 33 (cel p (.slice A n c))).alloc _
  have K2 : Blk ((w.alloc (.cells (cel p (.slice A n c)) 33)).alloc (.cells #[.int .i64 0, .int .i64 0, .int .u64 0, .int .i64 0, .int .u64 0, .slice none 0 0, .int .u32 0, .int .u32 0, .int .i64 0, .int .i64 0, .int .i64 0, .int .i64 0, .int .i64 0, .int .u64 0, .int .i64 0, .int .i64 0, .int .i64 0] 33)) (w.heap.size + 1) 33 #[.int .i64 0, .int .i64 0, .int .u64 0, .int .i64 0, .int .u64 0, .slice none 0 0, .int .u32 0, .int .u32 0, .int .i64 0, .int .i64 0, .int .i64 0, .int .i64 0, .int .i64 0, .int .u64 0, .int .i64 0, .int .i64 0, .int .i64 0] := by
    have := Blk.fresh (w.alloc (.cells (cel p (.slice A n c)) 33)) 33 #[.int .i64 0, .int .i64 0, .int .u64 0, .int .i64 0, .int .u64 0, .slice none 0 0, .int .u32 0, .int .u32 0, .int .i64 0, .int .i64 0, .int .i64 0, .int .i64 0, .int .i64 0, .int .u64 0, .int .i64 0, .int .i64 0, .int .i64 0]
    simpa using this
  have own0 : (((w.alloc (.cells (cel p (.slice A n c)) 33)).alloc (.cells #[.int .i64 0, .int .i64 0, .int .u64 0, .int .i64 0, .int .u64 0, .slice none 0 0, .int .u32 0, .int .u32 0, .int .i64 0, .int .i64 0, .int .i64 0, .int .i64 0, .int .i64 0, .int .u64 0, .int .i64 0, .int .i64 0, .int .i64 0] 33)).alloc (.cells #[] 5)).ownsRow ((w.alloc (.cells (cel p (.slice A n c)) 33)).alloc (.cells #[.int .i64 0, .int .i64 0, .int .u64 0, .int .i64 0, .int .u64 0, .slice none 0 0, .int .u32 0, .int .u32 0, .int .i64 0, .int .i64 0, .int .i64 0, .int .i64 0, .int .i64 0, .int .u64 0, .int .i64 0, .int .i64 0, .int .i64 0] 33)).heap.size 5 1 (.slice (some ⟨w.heap.size + 1 + 1, 0, none⟩) 0 0) 0 [] := by
    have := World.ownsRow_made (base := ((w.alloc (.cells (cel p (.slice A n c)) 33)).alloc (.cells #[.int .i64 0, .int .i64 0, .int .u64 0, .int .i64 0, .int .u64 0, .slice none 0 0, .int .u32 0, .int .u32 0, .int .i64 0, .int .i64 0, .int .i64 0, .int .i64 0, .int .i64 0, .int .u64 0, .int .i64 0, .int .i64 0, .int .i64 0] 33)).heap.size) (e := 5) (size := 1) ((w.alloc (.cells (cel p (.slice A n c)) 33)).alloc (.cells #[.int .i64 0, .int .i64 0, .int .u64 0, .int .i64 0, .int .u64 0, .slice none 0 0, .int .u32 0, .int .u32 0, .int .i64 0, .int .i64 0, .int .i64 0, .int .i64 0, .int .i64 0, .int .u64 0, .int .i64 0, .int .i64 0, .int .i64 0] 33)) #[] 0 (Nat.le_refl _) (by unfold maxLen; omega) rfl
    simpa using this
  have hb2 : ((w.alloc (.cells (cel p (.slice A n c)) 33)).alloc (.cells #[.int .i64 0, .int .i64 0, .int .u64 0, .int .i64 0, .int .u64 0, .slice none 0 0, .int .u32 0, .int .u32 0, .int .i64 0, .int .i64 0, .int .i64 0, .int .i64 0, .int .i64 0, .int .u64 0, .int .i64 0, .int .i64 0, .int .i64 0] 33)).heap.size = w.heap.size + 1 + 1 := by simp
  have IR := (hr.below B0).alloc B0.size (.cells #[] 5)
  have u5 := K1.cell 5
  have BX := B0.alloc B0.size (.cells #[] 5)
  have K1 := K1.alloc (.cells #[] 5)
  have K2 := K2.alloc (.cells #[] 5)
  have HN := Lib.hid hn
  have H1 : ∀ (A : Option Addr) (n c : Nat), (cel p (.slice A n c)).all (·.oneCell') = true := fun A n c => by rw [← Array.all_toList]; rfl
  clear hr hn B0
  go_enter Tryd.func11, Tryd.ntmps11
  go_upto_region 2 with (at_builtin; refine wpList_append_ints rfl _ _ 25 rfl .u8 ((w.alloc (.cells (cel p (.slice A n c)) 33)).alloc (.cells #[.int .i64 0, .int .i64 0, .int .u64 0, .int .i64 0, .int .u64 0, .slice none 0 0, .int .u32 0, .int .u32 0, .int .i64 0, .int .i64 0, .int .i64 0, .int .i64 0, .int .i64 0, .int .u64 0, .int .i64 0, .int .i64 0, .int .i64 0] 33)).heap.size 5 i0 _ 1 Tryd.underlying25 hi hz0 hz1 hz2 rfl (.slice (some ⟨w.heap.size + 1 + 1, 0, none⟩) 0 0) 0 [] rfl own0 w.heap.size A n c p.ds rfl HN.out IR (by unfold maxLen; omega) (by omega) (by simp) ?_; intro v1 w1 own1 b1 g1; obtain ⟨A1, c1, rfl⟩ := own_form own1; simp only [Nat.zero_add, List.nil_append] at own1 ⊢; have x5 := (K1.below b1 (by rw [hb2]; omega)).cell 5; have y5 := Clk.frz (K1.below b1 (by rw [hb2]; omega)) 5)
  have BX := BX.trans (b1.mono (by rw [hb2]; omega))
  have K1 := K1.below b1 (by rw [hb2]; omega)
  have K2 := K2.below b1 (by rw [hb2]; omega)
  have hs1 := own_sep' own1 HN.out
  have hcap := own_cap own1
  have I1 := Ints.own own1
  have BX := BX.setCell (p := ⟨w.heap.size, 5, none⟩) (Nat.le_refl _) (.slice A1 n c1)
  have I1 := far1 (i := 5) (x := .slice A1 n c1) (g := w.heap.size) hs1 (by rw [hb2]; omega) I1
  have K2 := bother (i := 5) K2 (show w.heap.size ≠ w.heap.size + 1 by omega) (.slice A1 n c1)
  have K1 : Blk (w1.setCell ⟨w.heap.size, 5, none⟩ (.slice A1 n c1)) w.heap.size 33 (cel p (.slice A1 n c1)) := by
    have := Cn.blk_setc K1 5 (.slice A1 n c1)
    simpa using this
  clear own0 own1 b1 g1 IR x5 y5
  go_wp2_with (first
    | (refine wpList_store_row rfl 33 (.tmp 2) _ rfl (w.heap.size + 1) (cel p (.slice A1 n c1)) rfl rfl 33 _ K2 (by kernel_rfl) rfl (H1 _ _ _) ?_)
    | (refine wpList_load_row rfl 33 (.tmp 1) rfl w.heap.size rfl 33 _ (0, 0) _ K1 Tryd.underlying33 rfl (by kernel_rfl) ?_))
  have KR : Blk ((w1.setCell ⟨w.heap.size, 5, none⟩ (.slice A1 n c1)).setRow (w.heap.size + 1) (cel p (.slice A1 n c1))) (w.heap.size + 1) 33 (cel p (.slice A1 n c1)) := setRow_heap _ (w.heap.size + 1) _ (cel p (.slice A1 n c1)) 33 (0, 0) K2
  have BE := below_setRow BX (Nat.le_succ _) (cel p (.slice A1 n c1))
  have IE := (farR (cs := cel p (.slice A1 n c1)) hs1 (show w.heap.size + 1 < ((w.alloc (.cells (cel p (.slice A n c)) 33)).alloc (.cells #[.int .i64 0, .int .i64 0, .int .u64 0, .int .i64 0, .int .u64 0, .slice none 0 0, .int .u32 0, .int .u32 0, .int .i64 0, .int .i64 0, .int .i64 0, .int .i64 0, .int .i64 0, .int .u64 0, .int .i64 0, .int .i64 0, .int .i64 0] 33)).heap.size by rw [hb2]; omega) I1).more (show w1.heap.size ≤ ((w1.setCell ⟨w.heap.size, 5, none⟩ (.slice A1 n c1)).setRow (w.heap.size + 1) (cel p (.slice A1 n c1))).heap.size by rw [size_setRow, sz1]; exact Nat.le_refl _)
  generalize (w1.setCell ⟨w.heap.size, 5, none⟩ (.slice A1 n c1)).setRow (w.heap.size + 1) (cel p (.slice A1 n c1)) = Y at *
  refine bodyPost_ret (v := .agg (cel p (.slice A1 n c1))) ?_ rfl ⟨A1, c1, by rw [HN.out], by rw [HN.out]; exact hcap, IE, BE⟩
  have HL := run_loadVar_row (P := Tryd.prog) Y (w.heap.size + 1) 33 33 (cel p (.slice A1 n c1)) (0, 0) _ KR Tryd.underlying33 rfl (by kernel_rfl)
  generalize (cel p (.slice A1 n c1)) = CS at *
  simp [results, show (Tryd.f11).results = #[.cell 2 33] from rfl, asAddr, HL, Act.put]
end Go.Proofs.YtcjlliilfecmnaaDoor.Ap

end
section
set_option linter.unusedVariables false
set_option linter.unusedSimpArgs false
namespace Go.Proofs.YtcjlliilfecmnaaDoor.Ap
open Go.RowKit Mem Oct
open Base (thenB)

theorem bytes_same_yes (A A' : Option Addr) (n c c' : Nat) (xs : List Int) (w : World) (hx : xs.length = n) (bx : Bytes xs) (hr : Ints .u8 w w.heap.size A xs) (hr' : Ints .u8 w w.heap.size A' xs) :
    Calls Tryd.prog 15 #[.slice A n c, .slice A' n c'] w fun e w' => e = .returned (.bool true) ∧ w = w' := by
  have := Oct.same_any A A' n n c c' xs xs w hx hx bx bx hr hr'
  rwa [decide_eq_true rfl] at this
set_option maxRecDepth 100000 in
set_option maxHeartbeats 4000000 in
theorem same_yes (p : Pd) (A A' : Option Addr) (n c c' : Nat) (w : World) (hn : p.ds.length = n) (bx : Bytes p.ds) (hr : Ints .u8 w w.heap.size A p.ds) (hr' : Ints .u8 w w.heap.size A' p.ds) :
    Calls Tryd.prog 18 #[.agg (cel p (.slice A n c)), .agg (cel p (.slice A' n c'))] w fun e w' => e = .returned (.bool true) ∧ Below w.heap.size w w' := by
  have B0 : Below w.heap.size w ((w.alloc (.cells (cel p (.slice A n c)) 33)).alloc (.cells (cel p (.slice A' n c')) 33)) := ((Below.refl _ _).alloc (Nat.le_refl _) _).alloc (by simp) _
  have S1 := sev_below (sev_new w p (.slice A n c)) ((Below.refl (w.alloc (.cells (cel p (.slice A n c)) 33)).heap.size _).alloc (Nat.le_refl _) (.cells (cel p (.slice A' n c')) 33))
  have S2 : Sev ((w.alloc (.cells (cel p (.slice A n c)) 33)).alloc (.cells (cel p (.slice A' n c')) 33)) (w.heap.size + 1) p (.slice A' n c') := by
    have := sev_new (w.alloc (.cells (cel p (.slice A n c)) 33)) p (.slice A' n c')
    simpa using this
  have HS : Hid (∀ w', Below w.heap.size w w' → Calls Tryd.prog 15 #[.slice A n c, .slice A' n c'] w' fun e w2 => e = .returned (.bool true) ∧ w' = w2) := Lib.hid fun w' b => bytes_same_yes A A' n c c' p.ds w' hn bx (Base.later hr b) (Base.later hr' b)
  have q1 := adr_eql p.sk p.sb p.sk p.sb
  have q2 := adr_eg p.sk p.sb p.sk p.sb
  have q3 := adr_eql p.tk p.tb p.tk p.tb
  have q4 := adr_eg p.tk p.tb p.tk p.tb
  have q5 := par_eql p.a p.b p.s p.o p.i p.l p.t (p.m : Int) p.h p.d p.g p.a p.b p.s p.o p.i p.l p.t (p.m : Int) p.h p.d p.g
  have q6 := par_eg p.a p.b p.s p.o p.i p.l p.t (p.m : Int) p.h p.d p.g p.a p.b p.s p.o p.i p.l p.t (p.m : Int) p.h p.d p.g
  rw [decide_eq_true ⟨rfl, rfl⟩] at q1 q3
  rw [decide_eq_true ⟨rfl, rfl, rfl, rfl, rfl, rfl, rfl, rfl, rfl, rfl, rfl⟩] at q5
  clear hr hr' bx hn
  obtain ⟨a0, a1, a2, a3, a4, a5, a6, a7, a8, a9, a10, a11, a12, a13, a14, a15, a16⟩ := S1
  obtain ⟨d0, d1, d2, d3, d4, d5, d6, d7, d8, d9, d10, d11, d12, d13, d14, d15, d16⟩ := S2
  go_enter Tryd.func18, Tryd.ntmps18
  go_wp2_with fail
  refine (HS.out _ B0).mono ?_
  rintro e w1 ⟨rfl, rfl⟩
  go_wp2_with fail
  go_ret
  exact ⟨rfl, B0⟩
end Go.Proofs.YtcjlliilfecmnaaDoor.Ap

end
section
set_option linter.unusedVariables false
set_option linter.unusedSimpArgs false
namespace Go.Proofs.YtcjlliilfecmnaaDoor.Ap
open Go.RowKit Mem Oct
open Base (thenB)

/-- The PDU of the lives. -/
def lp : Pd := { zp with k := 2, sk := 1, sb := 5, ds := [1, 5] }
def lq : Pd := { zp with k := 7 }
def ln : List Int := [1, 5, 0, 0, 0, 0, 0]
def lb : List Int := [2, 9, 1, 5, 0, 0, 0, 0, 0, 1, 5]
theorem wid_zp : Wid zp := by constructor <;> decide
theorem wid_lp : Wid lp := by constructor <;> decide
theorem wid_lq : Wid lq := by constructor <;> decide
theorem l_ln : Adr.encR 1 5 = (ln, 0) := by decide
theorem l_lb : encP lp = (lb, 0) := by decide
theorem l_dec : decP lb = (lp, 0) := by rfl
theorem by_lb : Bytes lb := by unfold Bytes; decide
theorem by_lp : Bytes lp.ds := by unfold Bytes; decide
theorem l_enca (w : World) (hT : Adr.Tab w) : Calls Tryd.prog 23 #[.agg #[.int .i64 1, .int .u64 5]] w fun e w' => Gives w w' e (ln, 0) := by
  rw [← l_ln]; exact Adr.encode_any 1 5 w (by decide) (by decide) hT
theorem l_encp (A : Option Addr) (w : World) (hr : Ints .u8 w w.heap.size A [1, 5]) (hT : Adr.Tab w) : Calls Tryd.prog 13 #[.agg (cel lp (.slice A 2 2))] w fun e w' => Gives w w' e (lb, 0) := by
  rw [← l_lb]; exact encode_any lp A 2 2 w rfl wid_lp hr hT
theorem l_decp (A : Option Addr) (c : Nat) (hc : 11 ≤ c) (w : World) (hr : Ints .u8 w w.heap.size A lb) (hT : Adr.Tab w) : Calls Tryd.prog 16 #[.slice A 11 c] w fun e w' => Decd w w' e (lp, 0) := by
  rw [← l_dec]; exact decode_any A 11 c lb w rfl hc by_lb hr hT
theorem l_bs (A A' : Option Addr) (c c' : Nat) (w : World) (hr : Ints .u8 w w.heap.size A lb) (hr' : Ints .u8 w w.heap.size A' lb) : Calls Tryd.prog 15 #[.slice A 11 c, .slice A' 11 c'] w fun e w' => e = .returned (.bool true) ∧ w = w' :=
  bytes_same_yes A A' 11 c c' lb w rfl by_lb hr hr'
theorem l_ps (A A' : Option Addr) (c c' : Nat) (w : World) (hr : Ints .u8 w w.heap.size A [1, 5]) (hr' : Ints .u8 w w.heap.size A' [1, 5]) : Calls Tryd.prog 18 #[.agg (cel lp (.slice A 2 c)), .agg (cel lp (.slice A' 2 c'))] w fun e w' => e = .returned (.bool true) ∧ Below w.heap.size w w' :=
  same_yes lp A A' 2 c c' w rfl by_lp hr hr'
theorem l_chk (A : Option Addr) (w : World) (hT : Adr.Tab w) : Calls Tryd.prog 10 #[.agg (cel lp (.slice A 2 2))] w fun e w' => e = .returned (.int .i64 0) ∧ Below w.heap.size w w' := by
  rw [show (0 : Int) = chkP lp by decide]; exact check_any lp A 2 2 w rfl wid_lp hT
theorem l_chkn (w : World) (hT : Adr.Tab w) : Calls Tryd.prog 10 #[.agg (cel lq (.slice none 0 0))] w fun e w' => e = .returned (.int .i64 12) ∧ Below w.heap.size w w' := by
  rw [show (12 : Int) = chkP lq by decide]; exact check_any lq none 0 0 w rfl wid_lq hT
theorem l_sc6 (w : World) : Calls Tryd.prog 19 #[.int .i64 6] w fun e w' => e = .returned (.bool true) ∧ w = w' := scannable_any 6 w
theorem l_sc2 (w : World) : Calls Tryd.prog 19 #[.int .i64 2] w fun e w' => e = .returned (.bool false) ∧ w = w' := scannable_any 2 w
theorem l_co1 (w : World) : Calls Tryd.prog 21 #[.int .i64 1] w fun e w' => e = .returned (.bool true) ∧ w = w' := connectable_any 1 w
theorem l_co6 (w : World) : Calls Tryd.prog 21 #[.int .i64 6] w fun e w' => e = .returned (.bool false) ∧ w = w' := connectable_any 6 w
end Go.Proofs.YtcjlliilfecmnaaDoor.Ap

end
