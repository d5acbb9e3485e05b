/- Advertising PDUs: the data that follow the addresses, by the layer: contracts over the program. -/
import Derived.Test.YtcjlliilfecmnaaDoorKM11
set_option linter.unusedVariables false
set_option linter.unusedSimpArgs false
namespace Go.Proofs.YtcjlliilfecmnaaDoor.Ap
open Go.RowKit Mem Oct
open Base (thenB)

abbrev Cel (w : World) (g : Nat) (k sk sb tk tb : Int) (V : Value) : Prop := w.cell? ⟨g, 0, none⟩ = some (.int .i64 k) ∧ w.cell? ⟨g, 1, none⟩ = some (.int .i64 sk) ∧ w.cell? ⟨g, 2, none⟩ = some (.int .u64 sb) ∧ w.cell? ⟨g, 3, none⟩ = some (.int .i64 tk) ∧ w.cell? ⟨g, 4, none⟩ = some (.int .u64 tb) ∧ w.cell? ⟨g, 5, none⟩ = some (V) ∧ w.cell? ⟨g, 6, none⟩ = some (.int .u32 0) ∧ w.cell? ⟨g, 7, none⟩ = some (.int .u32 0) ∧ w.cell? ⟨g, 8, none⟩ = some (.int .i64 0) ∧ w.cell? ⟨g, 9, none⟩ = some (.int .i64 0) ∧ w.cell? ⟨g, 10, none⟩ = some (.int .i64 0) ∧ w.cell? ⟨g, 11, none⟩ = some (.int .i64 0) ∧ w.cell? ⟨g, 12, none⟩ = some (.int .i64 0) ∧ w.cell? ⟨g, 13, none⟩ = some (.int .u64 0) ∧ w.cell? ⟨g, 14, none⟩ = some (.int .i64 0) ∧ w.cell? ⟨g, 15, none⟩ = some (.int .i64 0) ∧ w.cell? ⟨g, 16, none⟩ = some (.int .i64 0)
theorem cel_below {w w' : World} {g : Nat} {k sk sb tk tb : Int} {V : Value} (H : Cel w g k sk sb tk tb V) (b : Below w.heap.size w w') : Cel w' g k sk sb tk tb V := by
  have hg := block_lt_of_cell H.1
  obtain ⟨h0, h1, h2, h3, h4, h5, h6, h7, h8, h9, h10, h11, h12, h13, h14, h15, h16⟩ := H
  exact ⟨(b.cell (p := ⟨g, 0, none⟩) hg).trans h0, (b.cell (p := ⟨g, 1, none⟩) hg).trans h1, (b.cell (p := ⟨g, 2, none⟩) hg).trans h2, (b.cell (p := ⟨g, 3, none⟩) hg).trans h3, (b.cell (p := ⟨g, 4, none⟩) hg).trans h4, (b.cell (p := ⟨g, 5, none⟩) hg).trans h5, (b.cell (p := ⟨g, 6, none⟩) hg).trans h6, (b.cell (p := ⟨g, 7, none⟩) hg).trans h7, (b.cell (p := ⟨g, 8, none⟩) hg).trans h8, (b.cell (p := ⟨g, 9, none⟩) hg).trans h9, (b.cell (p := ⟨g, 10, none⟩) hg).trans h10, (b.cell (p := ⟨g, 11, none⟩) hg).trans h11, (b.cell (p := ⟨g, 12, none⟩) hg).trans h12, (b.cell (p := ⟨g, 13, none⟩) hg).trans h13, (b.cell (p := ⟨g, 14, none⟩) hg).trans h14, (b.cell (p := ⟨g, 15, none⟩) hg).trans h15, (b.cell (p := ⟨g, 16, none⟩) hg).trans h16⟩
theorem cel_row {w : World} {g g' : Nat} {cs : Array Value} {k sk sb tk tb : Int} {V : Value} (H : Cel w g k sk sb tk tb V) (hne : g ≠ g') : Cel (w.setRow g' cs) g k sk sb tk tb V := by
  obtain ⟨h0, h1, h2, h3, h4, h5, h6, h7, h8, h9, h10, h11, h12, h13, h14, h15, h16⟩ := H
  exact ⟨(cell_setRow_other w g' cs ⟨g, 0, none⟩ hne).trans h0, (cell_setRow_other w g' cs ⟨g, 1, none⟩ hne).trans h1, (cell_setRow_other w g' cs ⟨g, 2, none⟩ hne).trans h2, (cell_setRow_other w g' cs ⟨g, 3, none⟩ hne).trans h3, (cell_setRow_other w g' cs ⟨g, 4, none⟩ hne).trans h4, (cell_setRow_other w g' cs ⟨g, 5, none⟩ hne).trans h5, (cell_setRow_other w g' cs ⟨g, 6, none⟩ hne).trans h6, (cell_setRow_other w g' cs ⟨g, 7, none⟩ hne).trans h7, (cell_setRow_other w g' cs ⟨g, 8, none⟩ hne).trans h8, (cell_setRow_other w g' cs ⟨g, 9, none⟩ hne).trans h9, (cell_setRow_other w g' cs ⟨g, 10, none⟩ hne).trans h10, (cell_setRow_other w g' cs ⟨g, 11, none⟩ hne).trans h11, (cell_setRow_other w g' cs ⟨g, 12, none⟩ hne).trans h12, (cell_setRow_other w g' cs ⟨g, 13, none⟩ hne).trans h13, (cell_setRow_other w g' cs ⟨g, 14, none⟩ hne).trans h14, (cell_setRow_other w g' cs ⟨g, 15, none⟩ hne).trans h15, (cell_setRow_other w g' cs ⟨g, 16, none⟩ hne).trans h16⟩
theorem tri_row {w : World} {x g' : Nat} {cs : Array Value} {T D C : Bool} (H : Tri w x T D C) (hne : x ≠ g') : Tri (w.setRow g' cs) x T D C :=
  ⟨(cell_setRow_other w g' cs ⟨x, 0, none⟩ hne).trans H.1, (cell_setRow_other w g' cs ⟨x, 1, none⟩ hne).trans H.2.1, (cell_setRow_other w g' cs ⟨x, 2, none⟩ hne).trans H.2.2⟩
set_option maxRecDepth 100000 in
set_option maxHeartbeats 4000000 in
theorem complete_data (k sk sb tk tb : Int) (A : Option Addr) (n c : Nat) (L : List Int) (w : World) (hx : L.length = n) (hC : conB k = false) (hD : datB k = true) :
    Calls Tryd.prog 42 #[.agg #[.int .i64 k, .int .i64 sk, .int .u64 sb, .int .i64 tk, .int .u64 tb, .slice none 0 0, .int .u32 0, .int .u32 0, .int .i64 0, .int .i64 0, .int .i64 0, .int .i64 0, .int .i64 0, .int .u64 0, .int .i64 0, .int .i64 0, .int .i64 0], .slice A n c] w fun e w' => CPd w w' e (cmpl k sk sb tk tb L) A n c L := by
  have BX : Below w.heap.size w ((w.alloc (.cells #[.int .i64 k, .int .i64 sk, .int .u64 sb, .int .i64 tk, .int .u64 tb, .slice none 0 0, .int .u32 0, .int .u32 0, .int .i64 0, .int .i64 0, .int .i64 0, .int .i64 0, .int .i64 0, .int .u64 0, .int .i64 0, .int .i64 0, .int .i64 0] 33)).alloc (.cells #[.int .i64 0, .int .i64 0, .int .u64 0, .int .i64 0, .int .u64 0, .slice none 0 0, .int .u32 0, .int .u32 0, .int .i64 0, .int .i64 0, .int .i64 0, .int .i64 0, .int .i64 0, .int .u64 0, .int .i64 0, .int .i64 0, .int .i64 0] 33)) := ((Below.refl _ _).alloc (Nat.le_refl _) _).alloc (by simp) _
  have K2 : Blk ((w.alloc (.cells #[.int .i64 k, .int .i64 sk, .int .u64 sb, .int .i64 tk, .int .u64 tb, .slice none 0 0, .int .u32 0, .int .u32 0, .int .i64 0, .int .i64 0, .int .i64 0, .int .i64 0, .int .i64 0, .int .u64 0, .int .i64 0, .int .i64 0, .int .i64 0] 33)).alloc (.cells #[.int .i64 0, .int .i64 0, .int .u64 0, .int .i64 0, .int .u64 0, .slice none 0 0, .int .u32 0, .int .u32 0, .int .i64 0, .int .i64 0, .int .i64 0, .int .i64 0, .int .i64 0, .int .u64 0, .int .i64 0, .int .i64 0, .int .i64 0] 33)) w.heap.size 33 #[.int .i64 k, .int .i64 sk, .int .u64 sb, .int .i64 tk, .int .u64 tb, .slice none 0 0, .int .u32 0, .int .u32 0, .int .i64 0, .int .i64 0, .int .i64 0, .int .i64 0, .int .i64 0, .int .u64 0, .int .i64 0, .int .i64 0, .int .i64 0] := (Blk.fresh w 33 #[.int .i64 k, .int .i64 sk, .int .u64 sb, .int .i64 tk, .int .u64 tb, .slice none 0 0, .int .u32 0, .int .u32 0, .int .i64 0, .int .i64 0, .int .i64 0, .int .i64 0, .int .i64 0, .int .u64 0, .int .i64 0, .int .i64 0, .int .i64 0]).alloc _
  have K4 : Blk ((w.alloc (.cells #[.int .i64 k, .int .i64 sk, .int .u64 sb, .int .i64 tk, .int .u64 tb, .slice none 0 0, .int .u32 0, .int .u32 0, .int .i64 0, .int .i64 0, .int .i64 0, .int .i64 0, .int .i64 0, .int .u64 0, .int .i64 0, .int .i64 0, .int .i64 0] 33)).alloc (.cells #[.int .i64 0, .int .i64 0, .int .u64 0, .int .i64 0, .int .u64 0, .slice none 0 0, .int .u32 0, .int .u32 0, .int .i64 0, .int .i64 0, .int .i64 0, .int .i64 0, .int .i64 0, .int .u64 0, .int .i64 0, .int .i64 0, .int .i64 0] 33)) (w.heap.size + 1) 33 #[.int .i64 0, .int .i64 0, .int .u64 0, .int .i64 0, .int .u64 0, .slice none 0 0, .int .u32 0, .int .u32 0, .int .i64 0, .int .i64 0, .int .i64 0, .int .i64 0, .int .i64 0, .int .u64 0, .int .i64 0, .int .i64 0, .int .i64 0] := by
    have := Blk.fresh (w.alloc (.cells #[.int .i64 k, .int .i64 sk, .int .u64 sb, .int .i64 tk, .int .u64 tb, .slice none 0 0, .int .u32 0, .int .u32 0, .int .i64 0, .int .i64 0, .int .i64 0, .int .i64 0, .int .i64 0, .int .u64 0, .int .i64 0, .int .i64 0, .int .i64 0] 33)) 33 #[.int .i64 0, .int .i64 0, .int .u64 0, .int .i64 0, .int .u64 0, .slice none 0 0, .int .u32 0, .int .u32 0, .int .i64 0, .int .i64 0, .int .i64 0, .int .i64 0, .int .i64 0, .int .u64 0, .int .i64 0, .int .i64 0, .int .i64 0]
    simpa using this
  have HP := Lib.hid (fun w => parts_any k w)
  have HZ : Hid (cmpl k sk sb tk tb L = (withD k sk sb tk tb L, dE true n)) := Lib.hid (by unfold cmpl; rw [hC, hD, hx]; rfl)
  generalize cmpl k sk sb tk tb L = R at *
  rw [hC, hD] at HP
  clear hC hD hx
  generalize tgtB k = T at *
  generalize knoB k = KN at *
  have HCd := Lib.hid (fun w => cdata_any T true false A n c w)
  have u0 := K2.cell 0
  go_enter Tryd.func42, Tryd.ntmps42
  go_wp2_with fail
  generalize (w.alloc (.cells #[.int .i64 k, .int .i64 sk, .int .u64 sb, .int .i64 tk, .int .u64 tb, .slice none 0 0, .int .u32 0, .int .u32 0, .int .i64 0, .int .i64 0, .int .i64 0, .int .i64 0, .int .i64 0, .int .u64 0, .int .i64 0, .int .i64 0, .int .i64 0] 33)).alloc (.cells #[.int .i64 0, .int .i64 0, .int .u64 0, .int .i64 0, .int .u64 0, .slice none 0 0, .int .u32 0, .int .u32 0, .int .i64 0, .int .i64 0, .int .i64 0, .int .i64 0, .int .i64 0, .int .u64 0, .int .i64 0, .int .i64 0, .int .i64 0] 33) = W0 at *
  clear u0
  refine (HP.out W0).mono ?_
  rintro e w1 ⟨rfl, b1⟩
  have BX := thenB BX b1
  have K2 := K2.below b1 K2.lt
  have K4 := K4.below b1 K4.lt
  have P1 := Blk.fresh w1 50 #[.bool T, .bool true, .bool false]
  have hgp : w.heap.size + 1 < w1.heap.size := K4.lt
  have BX := BX.alloc BX.size (.cells #[.bool T, .bool true, .bool false] 50)
  have K2 := K2.alloc (.cells #[.bool T, .bool true, .bool false] 50)
  have K4 := K4.alloc (.cells #[.bool T, .bool true, .bool false] 50)
  clear b1
  have t0 := P1.cell 0
  have t1 := P1.cell 1
  have t2 := P1.cell 2
  go_upto_region 7 with (fail)
  generalize w1.alloc (.cells #[.bool T, .bool true, .bool false] 50) = X1 at *
  generalize w1.heap.size = gp at *
  have hgne : gp ≠ w.heap.size + 1 := by omega
  have hgn2 : w.heap.size ≠ gp := by omega
  have u5 := K2.cell 5
  have f5 := Clk.frz K2 5
  have h2 := K2.lt
  go_upto_region 8 with (fail)
  have K2 : Blk (X1.setCell ⟨w.heap.size, 5, none⟩ (.slice A n c)) w.heap.size 33 #[.int .i64 k, .int .i64 sk, .int .u64 sb, .int .i64 tk, .int .u64 tb, .slice A n c, .int .u32 0, .int .u32 0, .int .i64 0, .int .i64 0, .int .i64 0, .int .i64 0, .int .i64 0, .int .u64 0, .int .i64 0, .int .i64 0, .int .i64 0] := by
    have := Cn.blk_setc K2 5 (.slice A n c)
    simpa using this
  have K4 : Blk (X1.setCell ⟨w.heap.size, 5, none⟩ (.slice A n c)) (w.heap.size + 1) 33 #[.int .i64 0, .int .i64 0, .int .u64 0, .int .i64 0, .int .u64 0, .slice none 0 0, .int .u32 0, .int .u32 0, .int .i64 0, .int .i64 0, .int .i64 0, .int .i64 0, .int .i64 0, .int .u64 0, .int .i64 0, .int .i64 0, .int .i64 0] := bother K4 (by omega) _
  have P1 : Blk (X1.setCell ⟨w.heap.size, 5, none⟩ (.slice A n c)) gp 50 #[.bool T, .bool true, .bool false] := bother P1 hgn2 _
  have BX : Below w.heap.size w (X1.setCell ⟨w.heap.size, 5, none⟩ (.slice A n c)) := BX.setCell (p := ⟨w.heap.size, 5, none⟩) (Nat.le_refl _) _
  clear u5 f5 h2 t0 t1 t2
  generalize X1.setCell ⟨w.heap.size, 5, none⟩ (.slice A n c) = X2 at *
  have TT : Cel X2 w.heap.size k sk sb tk tb (.slice A n c) ∧ Tri X2 gp T true false := ⟨pd_cells K2, P1.cell 0, P1.cell 1, P1.cell 2⟩
  have H1 : (#[.int .i64 k, .int .i64 sk, .int .u64 sb, .int .i64 tk, .int .u64 tb, .slice A n c, .int .u32 0, .int .u32 0, .int .i64 0, .int .i64 0, .int .i64 0, .int .i64 0, .int .i64 0, .int .u64 0, .int .i64 0, .int .i64 0, .int .i64 0] : Array Value).all (·.oneCell') = true := by rw [← Array.all_toList]; rfl
  refine wp_region_held_drew (S := (fun w' => Cel w' w.heap.size k sk sb tk tb (.slice A n c) ∧ Tri w' gp T true false)) (by kernel_rfl) ?_ (fun hHeld => ?_)
  · exact TT
  have BX : Below w.heap.size w X2.drew := BX.drew
  have K4 : Blk X2.drew (w.heap.size + 1) 33 #[.int .i64 0, .int .i64 0, .int .u64 0, .int .i64 0, .int .u64 0, .slice none 0 0, .int .u32 0, .int .u32 0, .int .i64 0, .int .i64 0, .int .i64 0, .int .i64 0, .int .i64 0, .int .u64 0, .int .i64 0, .int .i64 0, .int .i64 0] := K4
  have TT : Cel X2.drew w.heap.size k sk sb tk tb (.slice A n c) ∧ Tri X2.drew gp T true false := TT
  generalize X2.drew = X0 at *
  refine wpAnyH_take (i := 0) (v := .agg #[.int .i64 k, .int .i64 sk, .int .u64 sb, .int .i64 tk, .int .u64 tb, .slice A n c, .int .u32 0, .int .u32 0, .int .i64 0, .int .i64 0, .int .i64 0, .int .i64 0, .int .i64 0, .int .u64 0, .int .i64 0, .int .i64 0, .int .i64 0]) rfl (by kernel_rfl) (by kernel_rfl) (by kernel_rfl) (fun _ _ _ h => h) (Or.inl ⟨by first | rfl | go_simp, by intro w9 hSw; (try dsimp only at hSw); go_simp⟩) (by assumption) ?_
  simp only [List.getElem_toArray, List.getElem_cons_zero, List.getElem_cons_succ, Act.put, List.setIfInBounds_toArray, List.set_cons_zero, List.set_cons_succ]
  refine wpAnyH_take (i := 1) (v := .agg #[.bool T, .bool true, .bool false]) rfl (by kernel_rfl) (by kernel_rfl) (by kernel_rfl) (fun _ _ _ h => h) (Or.inl ⟨by first | rfl | go_simp, by intro w9 hSw; (try dsimp only at hSw); go_simp⟩) (by assumption) ?_
  simp only [List.getElem_toArray, List.getElem_cons_zero, List.getElem_cons_succ, Act.put, List.setIfInBounds_toArray, List.set_cons_zero, List.set_cons_succ]
  refine wpAnyH_take (i := 2) (v := .slice A n c) rfl (by kernel_rfl) (by kernel_rfl) (by kernel_rfl) (fun _ _ _ h => h) (Or.inl ⟨by first | rfl | go_simp, by intro w9 hSw; (try dsimp only at hSw); go_simp⟩) (by assumption) ?_
  simp only [List.getElem_toArray, List.getElem_cons_zero, List.getElem_cons_succ, Act.put, List.setIfInBounds_toArray, List.set_cons_zero, List.set_cons_succ]
  refine wpAnyH_ready (rs := [3]) (by kernel_rfl) (by simp) ?_
  refine AllReadyH.cons rfl (fun K hK => ?_) (AllReadyH.nil)
  go_simp
  refine (HCd.out X0).mono ?_
  rintro e X1 ⟨rfl, b9⟩
  have BX := thenB BX b9
  have K4 := K4.below b9 K4.lt
  have TT := And.intro (cel_below TT.1 b9) (tri_below TT.2 b9)
  refine hK.out _ _ TT (fun hHeld => ?_)
  clear hK K
  try simp only [List.getElem_toArray, List.getElem_cons_zero, List.getElem_cons_succ, Act.put, List.setIfInBounds_toArray, List.set_cons_zero, List.set_cons_succ]
  refine wpAnyH_ready (rs := [4]) (by kernel_rfl) (by simp) ?_
  refine AllReadyH.cons rfl (fun K hK => ?_) (AllReadyH.nil)
  refine step_store_row rfl 33 (.tmp 4) (.tmp 33) rfl (w.heap.size + 1) #[.int .i64 k, .int .i64 sk, .int .u64 sb, .int .i64 tk, .int .u64 tb, .slice A n c, .int .u32 0, .int .u32 0, .int .i64 0, .int .i64 0, .int .i64 0, .int .i64 0, .int .i64 0, .int .u64 0, .int .i64 0, .int .i64 0, .int .i64 0] rfl rfl 33 _ K4 (by kernel_rfl) rfl H1 ?_
  have KR : Blk (X1.setRow (w.heap.size + 1) #[.int .i64 k, .int .i64 sk, .int .u64 sb, .int .i64 tk, .int .u64 tb, .slice A n c, .int .u32 0, .int .u32 0, .int .i64 0, .int .i64 0, .int .i64 0, .int .i64 0, .int .i64 0, .int .u64 0, .int .i64 0, .int .i64 0, .int .i64 0]) (w.heap.size + 1) 33 #[.int .i64 k, .int .i64 sk, .int .u64 sb, .int .i64 tk, .int .u64 tb, .slice A n c, .int .u32 0, .int .u32 0, .int .i64 0, .int .i64 0, .int .i64 0, .int .i64 0, .int .i64 0, .int .u64 0, .int .i64 0, .int .i64 0, .int .i64 0] := setRow_heap X1 (w.heap.size + 1) _ #[.int .i64 k, .int .i64 sk, .int .u64 sb, .int .i64 tk, .int .u64 tb, .slice A n c, .int .u32 0, .int .u32 0, .int .i64 0, .int .i64 0, .int .i64 0, .int .i64 0, .int .i64 0, .int .u64 0, .int .i64 0, .int .i64 0, .int .i64 0] 33 (0, 0) K4
  have BE := below_setRow BX (Nat.le_succ _) #[.int .i64 k, .int .i64 sk, .int .u64 sb, .int .i64 tk, .int .u64 tb, .slice A n c, .int .u32 0, .int .u32 0, .int .i64 0, .int .i64 0, .int .i64 0, .int .i64 0, .int .i64 0, .int .u64 0, .int .i64 0, .int .i64 0, .int .i64 0]
  have TT := And.intro (cel_row (cs := #[.int .i64 k, .int .i64 sk, .int .u64 sb, .int .i64 tk, .int .u64 tb, .slice A n c, .int .u32 0, .int .u32 0, .int .i64 0, .int .i64 0, .int .i64 0, .int .i64 0, .int .i64 0, .int .u64 0, .int .i64 0, .int .i64 0, .int .i64 0]) TT.1 (show w.heap.size ≠ w.heap.size + 1 by omega)) (tri_row (cs := #[.int .i64 k, .int .i64 sk, .int .u64 sb, .int .i64 tk, .int .u64 tb, .slice A n c, .int .u32 0, .int .u32 0, .int .i64 0, .int .i64 0, .int .i64 0, .int .i64 0, .int .i64 0, .int .u64 0, .int .i64 0, .int .i64 0, .int .i64 0]) TT.2 hgne)
  generalize X1.setRow (w.heap.size + 1) #[.int .i64 k, .int .i64 sk, .int .u64 sb, .int .i64 tk, .int .u64 tb, .slice A n c, .int .u32 0, .int .u32 0, .int .i64 0, .int .i64 0, .int .i64 0, .int .i64 0, .int .i64 0, .int .u64 0, .int .i64 0, .int .i64 0, .int .i64 0] = X2 at *
  refine hK.out _ _ TT (fun hHeld => ?_)
  clear hK K
  try simp only [List.getElem_toArray, List.getElem_cons_zero, List.getElem_cons_succ, Act.put, List.setIfInBounds_toArray, List.set_cons_zero, List.set_cons_succ]
  refine wpAnyH_take (i := 5) (v := .int .i64 (dE true n)) rfl (by kernel_rfl) (by kernel_rfl) (by kernel_rfl) (fun _ _ _ h => h) (Or.inl ⟨by first | rfl | go_simp, by intro w9 hSw; (try dsimp only at hSw); go_simp⟩) (by assumption) ?_
  simp only [List.getElem_toArray, List.getElem_cons_zero, List.getElem_cons_succ, Act.put, List.setIfInBounds_toArray, List.set_cons_zero, List.set_cons_succ]
  refine wpAnyH_done (by kernel_rfl) ?_ _
  go_wp2_with fail
  refine bodyPost_ret (v := .tuple #[.agg #[.int .i64 k, .int .i64 sk, .int .u64 sb, .int .i64 tk, .int .u64 tb, .slice A n c, .int .u32 0, .int .u32 0, .int .i64 0, .int .i64 0, .int .i64 0, .int .i64 0, .int .i64 0, .int .u64 0, .int .i64 0, .int .i64 0, .int .i64 0], .int .i64 (dE true n)]) ?_ rfl ⟨.slice A n c, by rw [HZ.out]; try rfl, by rw [HZ.out]; exact .inr ⟨rfl, rfl⟩, BE⟩
  have HL := run_loadVar_row (P := Tryd.prog) X2 (w.heap.size + 1) 33 33 #[.int .i64 k, .int .i64 sk, .int .u64 sb, .int .i64 tk, .int .u64 tb, .slice A n c, .int .u32 0, .int .u32 0, .int .i64 0, .int .i64 0, .int .i64 0, .int .i64 0, .int .i64 0, .int .u64 0, .int .i64 0, .int .i64 0, .int .i64 0] (0, 0) _ KR Tryd.underlying33 rfl (by kernel_rfl)
  clear hHeld
  generalize (#[.int .i64 k, .int .i64 sk, .int .u64 sb, .int .i64 tk, .int .u64 tb, .slice A n c, .int .u32 0, .int .u32 0, .int .i64 0, .int .i64 0, .int .i64 0, .int .i64 0, .int .i64 0, .int .u64 0, .int .i64 0, .int .i64 0, .int .i64 0] : Array Value) = CS at *
  simp [results, show (Tryd.f42).results = #[.cell 4 33, .slot 5] from rfl, asAddr, HL]
end Go.Proofs.YtcjlliilfecmnaaDoor.Ap
