/- Changes at instants: one more pending change, by the layer and the document: contracts over the program. -/
import Derived.Test.YtejojcanmlgegaaInMem
set_option linter.unusedVariables false
set_option linter.unusedSimpArgs false
namespace Go.Proofs.Ytejojcanmlgegaa.Nst
open Go.RowKit Mem Rw Base

set_option maxHeartbeats 4000000 in
theorem add_any (A : Option Addr) (n c : Nat) (l : List Ch) (ev : Int) (x : Ch) (w : World) (hl : l.length = n) (hn : n ≤ 2199023255550) (hr : ListAt encH w w.heap.size A l) (h0 : 0 ≤ ev ∧ ev ≤ 65535) (hx : GoodI x) :
    Calls Try.prog 14 #[.slice A n c, .int .u16 ev, .agg (encX x)] w fun e w' => Pair w w' e (addR l ev x) := by
  obtain ⟨iE, hi, hz, hs, hb2, hc0⟩ := info_parts2 info_ch rfl
  have HCl : Hid (∀ w', Below w.heap.size w w' → Calls Try.prog 24 #[.slice A n c] w' fun e w2 => Row w' w2 e l) := Lib.hid fun w' b => clone_any A n c l w' hl (by omega) (CellsAt.later hr b)
  have HCk : Hid (∀ w', Calls Try.prog 12 #[.int .u16 ev, .agg (encX x)] w' fun e w2 => e = .returned (.int .i64 (chk ev x)) ∧ Below w'.heap.size w' w2) := Lib.hid fun w' => check_any ev x w' h0 hx
  have HL := Lib.hid hl
  have HB : Hid (¬ chk ev x = 0 → addR l ev x = (l, chk ev x)) := Lib.hid fun h => by unfold addR; rw [if_neg h]
  have HF : Hid (chk ev x = 0 → 0 < n → addR l ev x = (l, 20)) := Lib.hid fun h h1 => by unfold addR; rw [if_pos h, if_neg (by omega)]
  have HK : Hid (chk ev x = 0 → n = 0 → addR l ev x = (l ++ [x], 0)) := Lib.hid fun h h1 => by unfold addR; rw [if_pos h, if_pos (by omega)]
  have HE : Hid (n = 0 → l = []) := Lib.hid fun h => List.eq_nil_of_length_eq_zero (by omega)
  have BX : Below w.heap.size w (w.alloc (.cells (encX x) 31)) := (Below.refl _ _).alloc (Nat.le_refl _) _
  have K1 : Blk (w.alloc (.cells (encX x) 31)) w.heap.size 31 (encX x) := Blk.fresh w _ _
  have hone := encH_one x
  have HX : Hid (∀ l : List Ch, l.flatMap encH ++ encH x = (l ++ [x]).flatMap encH) := Lib.hid fun l => flat_add l x
  have HXX : Hid ([x].flatMap encH = encH x) := Lib.hid (by simp)
  generalize hR : addR l ev x = R at *
  generalize chk ev x = C at *
  clear hl hr hx h0 hR
  obtain ⟨y0, y1, y2, y3, y4, y5, y6, y7⟩ := x
  dsimp only [encX, encH] at *
  go_enter Try.func14, Try.ntmps14
  go_upto_region 1 with (fail)
  generalize w.alloc (.cells #[.int .i64 y0, .int .u16 y1, .int .i64 y2, .int .i64 y3, .int .i64 y4, .int .i64 y5, .int .i64 y6, .int .u64 y7] 31) = W0 at *
  go_upto_region 2 with (first | (go_at_call 12; refine (HCk.out W0).mono ?_; rintro e W1 ⟨rfl, b1⟩; replace K1 := K1.below b1 K1.lt; replace BX := Base.thenB BX b1; clear b1) | (refine wpList_load_row rfl 31 (.tmp 5) rfl w.heap.size rfl 31 _ (0, 0) _ K1 Try.underlying31 rfl (by kernel_rfl) ?_))
  by_cases hC : C = 0
  · subst hC
    by_cases hn0 : n = 0
    · have HR := Lib.hid (HK.out rfl hn0)
      have hl0 := HE.out hn0
      subst hn0
      subst hl0
      clear HB HF HK HCl HCk HE
      have p0 := K1.cell 0
      have p1 := K1.cell 1
      have p2 := K1.cell 2
      have p3 := K1.cell 3
      have p4 := K1.cell 4
      have p5 := K1.cell 5
      have p6 := K1.cell 6
      have p7 := K1.cell 7
      have CA := CellsAt.lit W1 [.int .i64 y0, .int .u16 y1, .int .i64 y2, .int .i64 y3, .int .i64 y4, .int .i64 y5, .int .i64 y6, .int .u64 y7] #[.int .i64 y0, .int .u16 y1, .int .i64 y2, .int .i64 y3, .int .i64 y4, .int .i64 y5, .int .i64 y6, .int .u64 y7] 31 rfl
      go_wp2_with fail
      go_region_law (refine step_append_empty rfl (.tmp 27) (.tmp 29) 35 rfl 31 iE _ 8 64 Try.underlying35 hi hz hs hb2 hc0 (by decide) _ rfl (W1.heap.size + 1) _ 1 1 [.int .i64 y0, .int .u16 y1, .int .i64 y2, .int .i64 y3, .int .i64 y4, .int .i64 y5, .int .i64 y6, .int .u64 y7] rfl rfl hone (by show CellsAt (W1.alloc (.cells #[.int .i64 y0, .int .u16 y1, .int .i64 y2, .int .i64 y3, .int .i64 y4, .int .i64 y5, .int .i64 y6, .int .u64 y7] 31)) _ _ _; simpa using CA) (by unfold maxLen; omega) (by omega) ?_; intro A5 c5 w5 h5 n5 b5)
      all_goals (try go_wp2)
      all_goals go_ret2
      all_goals
        refine ⟨A5, c5, by rw [HR.out]; rfl, by rw [HR.out]; exact h5, ?_, ?_⟩
        · rw [HR.out]
          show CellsAt _ _ _ ([].flatMap encH ++ _)
          exact n5.at_
        · exact Base.thenB (BX.alloc BX.size _).drew b5
    · have HR := Lib.hid (HF.out rfl (by omega))
      have g1 : (0 : Int) < (n : Int) := by omega
      go_wp2_with (go_at_call 24; refine (HCl.out W1 BX).mono ?_; intro e W2 hrow; obtain ⟨A1, c1, rfl, hc1, own1, b2⟩ := hrow.len HL.out; have HH := Lib.hid own1; clear hrow own1)
      go_ret2
      exact ⟨A1, c1, by rw [HR.out]; simp [HL.out], by rw [HR.out]; simpa [HL.out] using hc1, by rw [HR.out]; exact HH.out, Base.thenB BX b2⟩
  · have gC : (C != 0) = true := by simpa using hC
    have HR := Lib.hid (HB.out hC)
    clear hC
    go_wp2_with (go_at_call 24; refine (HCl.out W1 BX).mono ?_; intro e W2 hrow; obtain ⟨A1, c1, rfl, hc1, own1, b2⟩ := hrow.len HL.out; have HH := Lib.hid own1; clear hrow own1)
    go_ret2
    exact ⟨A1, c1, by rw [HR.out]; simp [HL.out], by rw [HR.out]; simpa [HL.out] using hc1, by rw [HR.out]; exact HH.out, Base.thenB BX b2⟩
set_option maxHeartbeats 4000000 in
theorem radd_any (A : Option Addr) (n c : Nat) (l : List Ch) (ev : Int) (x : Ch) (w : World) (hl : l.length = n) (hn : n ≤ 2199023255550) (hr : ListAt encH w w.heap.size A l) (h0 : 0 ≤ ev ∧ ev ≤ 65535) (hx : GoodI x) :
    Calls Try.prog 16 #[.slice A n c, .int .u16 ev, .agg (encX x)] w fun e w' => Pair w w' e (addR l ev x) := by
  obtain ⟨iE, hi, hz, hs, hb2, hc0⟩ := info_parts2 info_ch rfl
  have HCk : Hid (∀ w', Calls Try.prog 13 #[.int .u16 ev, .agg (encX x)] w' fun e w2 => e = .returned (.int .i64 (chk ev x)) ∧ Below w'.heap.size w' w2) := Lib.hid fun w' => rcheck_any ev x w' h0 hx
  have HL := Lib.hid hl
  have HB : Hid (¬ chk ev x = 0 → addR l ev x = (l, chk ev x)) := Lib.hid fun h => by unfold addR; rw [if_neg h]
  have HF : Hid (chk ev x = 0 → 0 < n → addR l ev x = (l, 20)) := Lib.hid fun h h1 => by unfold addR; rw [if_pos h, if_neg (by omega)]
  have HK : Hid (chk ev x = 0 → n = 0 → addR l ev x = (l ++ [x], 0)) := Lib.hid fun h h1 => by unfold addR; rw [if_pos h, if_pos (by omega)]
  have HE : Hid (n = 0 → l = []) := Lib.hid fun h => List.eq_nil_of_length_eq_zero (by omega)
  have BX : Below w.heap.size w (w.alloc (.cells (encX x) 31)) := (Below.refl _ _).alloc (Nat.le_refl _) _
  have K1 : Blk (w.alloc (.cells (encX x) 31)) w.heap.size 31 (encX x) := Blk.fresh w _ _
  have hone := encH_one x
  have HX : Hid (∀ l : List Ch, l.flatMap encH ++ encH x = (l ++ [x]).flatMap encH) := Lib.hid fun l => flat_add l x
  have HXX : Hid ([x].flatMap encH = encH x) := Lib.hid (by simp)
  have hf := flat_lenH hl
  have ho := flat_oneH l
  have hr0 : CellsAt ((w.alloc (.cells (encX x) 31)).alloc (.cells #[] 31)) w.heap.size A (l.flatMap encH) := (CellsAt.below hr BX).alloc BX.size _
  have own0 : ((w.alloc (.cells (encX x) 31)).alloc (.cells #[] 31)).ownsRow (w.alloc (.cells (encX x) 31)).heap.size 31 8 (.slice (some ⟨w.heap.size + 1, 0, none⟩) 0 0) 0 [] := by
    have := World.ownsRow_made (base := (w.alloc (.cells (encX x) 31)).heap.size) (e := 31) (size := 8) (w.alloc (.cells (encX x) 31)) #[] 0 (Nat.le_refl _) (by unfold maxLen; omega) rfl
    simpa using this
  generalize hR : addR l ev x = R at *
  generalize chk ev x = C at *
  clear hl hr hx h0 hR
  obtain ⟨y0, y1, y2, y3, y4, y5, y6, y7⟩ := x
  dsimp only [encX, encH] at *
  go_enter Try.func16, Try.ntmps16
  go_upto_region 1 with (fail)
  generalize w.alloc (.cells #[.int .i64 y0, .int .u16 y1, .int .i64 y2, .int .i64 y3, .int .i64 y4, .int .i64 y5, .int .i64 y6, .int .u64 y7] 31) = W0 at *
  go_upto_region 2 with (at_builtin; refine wpList_append_rows rfl _ _ 35 rfl W0.heap.size 31 iE _ 8 64 Try.underlying35 hi hz hs hb2 hc0 (by decide) (.slice (some ⟨W0.heap.size, 0, none⟩) 0 0) 0 [] rfl (World.ownsRow_made _ _ 0 (Nat.le_refl _) (by unfold maxLen; omega) rfl) w.heap.size A n c (l.flatMap encH) rfl hf ho hr0 (by unfold maxLen; omega) (by omega) (by simp) ?_; intro v1 W1 own1 b1 g1; obtain ⟨A1, c1, rfl⟩ := own_form own1; simp only [Nat.zero_add, List.nil_append] at own1 ⊢; have b1 : Below W0.heap.size W0 W1 := ((Below.refl _ _).alloc (Nat.le_refl _) _).trans b1; replace K1 := K1.below b1 K1.lt; have B1 := Base.thenB BX b1)
  clear g1 hr0 hf ho own0
  have own1 := own_base own1 BX.size
  clear BX
  go_upto_region 3 with (first | (go_at_call 13; refine (HCk.out W1).mono ?_; rintro e W2 ⟨rfl, b2⟩; replace K1 := K1.below b2 K1.lt; have B2 := Base.thenB B1 b2; replace own1 := own_below own1 b2; clear b2) | (refine wpList_load_row rfl 31 (.tmp 5) rfl w.heap.size rfl 31 _ (0, 0) _ K1 Try.underlying31 rfl (by kernel_rfl) ?_))
  have HV : Hid (ListAt encH W2 W2.heap.size A1 l) := Lib.hid (CellsAt.own own1)
  have HC1 := Lib.hid (own_capA own1)
  by_cases hC : C = 0
  · subst hC
    by_cases hn0 : n = 0
    · have HR := Lib.hid (HK.out rfl hn0)
      have hl0 := HE.out hn0
      subst hn0
      subst hl0
      clear HB HF HK HCk HE
      have own4 := own1.alloc (.cells #[.int .i64 y0, .int .u16 y1, .int .i64 y2, .int .i64 y3, .int .i64 y4, .int .i64 y5, .int .i64 y6, .int .u64 y7] 31)
      have CA := CellsAt.lit W2 [.int .i64 y0, .int .u16 y1, .int .i64 y2, .int .i64 y3, .int .i64 y4, .int .i64 y5, .int .i64 y6, .int .u64 y7] #[.int .i64 y0, .int .u16 y1, .int .i64 y2, .int .i64 y3, .int .i64 y4, .int .i64 y5, .int .i64 y6, .int .u64 y7] 31 rfl
      have B4 := B2.alloc B2.size (.cells #[.int .i64 y0, .int .u16 y1, .int .i64 y2, .int .i64 y3, .int .i64 y4, .int .i64 y5, .int .i64 y6, .int .u64 y7] 31)
      clear own1
      go_wp2_with (first | (refine wpList_load_row rfl 31 (.tmp 5) rfl w.heap.size rfl 31 _ (0, 0) _ K1 Try.underlying31 rfl (by kernel_rfl) ?_) | (at_builtin; refine wpList_append_rows rfl _ _ 35 rfl w.heap.size 31 iE _ 8 64 Try.underlying35 hi hz hs hb2 hc0 (by decide) (.slice A1 0 c1) 0 [] rfl own4 _ (some ⟨W2.heap.size, 0, none⟩) 1 1 [.int .i64 y0, .int .u16 y1, .int .i64 y2, .int .i64 y3, .int .i64 y4, .int .i64 y5, .int .i64 y6, .int .u64 y7] rfl rfl hone CA (by unfold maxLen; omega) (by omega) B4.size ?_; intro v5 w5 own5 b5 g5; obtain ⟨A5, c5, rfl⟩ := own_form own5))
      go_ret2
      refine ⟨A5, c5, by rw [HR.out]; rfl, by rw [HR.out]; exact own_capA own5, ?_, B4.trans b5⟩
      rw [HR.out]
      exact CellsAt.own own5
    · have HR := Lib.hid (HF.out rfl (by omega))
      have g1 : (0 : Int) < (n : Int) := by omega
      clear own1
      go_wp2_with fail
      go_ret2
      exact ⟨A1, c1, by rw [HR.out]; simp [HL.out], by rw [HR.out]; simpa [HL.out] using HC1.out, by rw [HR.out]; exact HV.out, B2⟩
  · have gC : (C != 0) = true := by simpa using hC
    have HR := Lib.hid (HB.out hC)
    clear hC own1
    go_wp2_with fail
    go_ret2
    exact ⟨A1, c1, by rw [HR.out]; simp [HL.out], by rw [HR.out]; simpa [HL.out] using HC1.out, by rw [HR.out]; exact HV.out, B2⟩
end Go.Proofs.Ytejojcanmlgegaa.Nst
