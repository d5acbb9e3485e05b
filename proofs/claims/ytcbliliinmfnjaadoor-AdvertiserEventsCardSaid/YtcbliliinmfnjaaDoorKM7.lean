/- Advertising PDUs in memory; Check by the layer: contracts over the program. Words for memory: a slice of elements of k cells each that reads as a list of values of any kind; append of such a slice onto a row of the call's own. No program is mentioned. -/
import Derived.Test.YtcbliliinmfnjaaDoorKApSmall
import Derived.Test.YtcbliliinmfnjaaDoorKM3
import Derived.Deep.CutRange
import Derived.Test.YtcbliliinmfnjaaDoorKM1
import Derived.Laws.CopyRow
import Derived.Laws.OwnMore
section
set_option linter.unusedVariables false
set_option linter.unusedSimpArgs false
namespace Go.Proofs.YtcbliliinmfnjaaDoor.Ap
open Go.RowKit Mem Oct
open Base (thenB)

/-- A PDU by value: V is its data. -/
abbrev cel (p : Pd) (V : Value) : Array Value := #[.int .i64 p.k, .int .i64 p.sk, .int .u64 p.sb, .int .i64 p.tk, .int .u64 p.tb, V, .int .u32 p.a, .int .u32 p.b, .int .i64 p.s, .int .i64 p.o, .int .i64 p.i, .int .i64 p.l, .int .i64 p.t, .int .u64 (p.m : Int), .int .i64 p.h, .int .i64 p.d, .int .i64 p.g]
/-- A PDU in memory. -/
abbrev Sev (w : World) (x : Nat) (p : Pd) (V : Value) : Prop := w.cell? ⟨x, 0, none⟩ = some (.int .i64 p.k) ∧ w.cell? ⟨x, 1, none⟩ = some (.int .i64 p.sk) ∧ w.cell? ⟨x, 2, none⟩ = some (.int .u64 p.sb) ∧ w.cell? ⟨x, 3, none⟩ = some (.int .i64 p.tk) ∧ w.cell? ⟨x, 4, none⟩ = some (.int .u64 p.tb) ∧ w.cell? ⟨x, 5, none⟩ = some (V) ∧ w.cell? ⟨x, 6, none⟩ = some (.int .u32 p.a) ∧ w.cell? ⟨x, 7, none⟩ = some (.int .u32 p.b) ∧ w.cell? ⟨x, 8, none⟩ = some (.int .i64 p.s) ∧ w.cell? ⟨x, 9, none⟩ = some (.int .i64 p.o) ∧ w.cell? ⟨x, 10, none⟩ = some (.int .i64 p.i) ∧ w.cell? ⟨x, 11, none⟩ = some (.int .i64 p.l) ∧ w.cell? ⟨x, 12, none⟩ = some (.int .i64 p.t) ∧ w.cell? ⟨x, 13, none⟩ = some (.int .u64 (p.m : Int)) ∧ w.cell? ⟨x, 14, none⟩ = some (.int .i64 p.h) ∧ w.cell? ⟨x, 15, none⟩ = some (.int .i64 p.d) ∧ w.cell? ⟨x, 16, none⟩ = some (.int .i64 p.g)
theorem sev_of {w : World} {x : Nat} {p : Pd} {V : Value} {ty : TypeId} (H : Blk w x ty (cel p V)) : Sev w x p V :=
  ⟨H.cell 0, H.cell 1, H.cell 2, H.cell 3, H.cell 4, H.cell 5, H.cell 6, H.cell 7, H.cell 8, H.cell 9, H.cell 10, H.cell 11, H.cell 12, H.cell 13, H.cell 14, H.cell 15, H.cell 16⟩
theorem sev_below {w w' : World} {x : Nat} {p : Pd} {V : Value} (H : Sev w x p V) (b : Below w.heap.size w w') : Sev w' x p V := by
  have hg := block_lt_of_cell H.1
  obtain ⟨h0, h1, h2, h3, h4, h5, h6, h7, h8, h9, h10, h11, h12, h13, h14, h15, h16⟩ := H
  exact ⟨(b.cell (p := ⟨x, 0, none⟩) hg).trans h0, (b.cell (p := ⟨x, 1, none⟩) hg).trans h1, (b.cell (p := ⟨x, 2, none⟩) hg).trans h2, (b.cell (p := ⟨x, 3, none⟩) hg).trans h3, (b.cell (p := ⟨x, 4, none⟩) hg).trans h4, (b.cell (p := ⟨x, 5, none⟩) hg).trans h5, (b.cell (p := ⟨x, 6, none⟩) hg).trans h6, (b.cell (p := ⟨x, 7, none⟩) hg).trans h7, (b.cell (p := ⟨x, 8, none⟩) hg).trans h8, (b.cell (p := ⟨x, 9, none⟩) hg).trans h9, (b.cell (p := ⟨x, 10, none⟩) hg).trans h10, (b.cell (p := ⟨x, 11, none⟩) hg).trans h11, (b.cell (p := ⟨x, 12, none⟩) hg).trans h12, (b.cell (p := ⟨x, 13, none⟩) hg).trans h13, (b.cell (p := ⟨x, 14, none⟩) hg).trans h14, (b.cell (p := ⟨x, 15, none⟩) hg).trans h15, (b.cell (p := ⟨x, 16, none⟩) hg).trans h16⟩
theorem sev_new (w : World) (p : Pd) (V : Value) : Sev (w.alloc (.cells (cel p V) 52)) w.heap.size p V := sev_of (Blk.fresh w 52 (cel p V))
/-- The numbers of a PDU are those of their types. -/
structure Wid (p : Pd) : Prop where
  hk : -9223372036854775808 ≤ p.k ∧ p.k ≤ 9223372036854775807
  hsk : -9223372036854775808 ≤ p.sk ∧ p.sk ≤ 9223372036854775807
  hsb : 0 ≤ p.sb ∧ p.sb ≤ 18446744073709551615
  htk : -9223372036854775808 ≤ p.tk ∧ p.tk ≤ 9223372036854775807
  htb : 0 ≤ p.tb ∧ p.tb ≤ 18446744073709551615
  ha : 0 ≤ p.a ∧ p.a ≤ 4294967295
  hb : 0 ≤ p.b ∧ p.b ≤ 4294967295
  hm : p.m ≤ 18446744073709551615
abbrev Tri (w : World) (x : Nat) (T D C : Bool) : Prop := w.cell? ⟨x, 0, none⟩ = some (.bool T) ∧ w.cell? ⟨x, 1, none⟩ = some (.bool D) ∧ w.cell? ⟨x, 2, none⟩ = some (.bool C)
theorem tri_below {w w' : World} {x : Nat} {T D C : Bool} (H : Tri w x T D C) (b : Below w.heap.size w w') : Tri w' x T D C := by
  have hg := block_lt_of_cell H.1
  exact ⟨(b.cell (p := ⟨x, 0, none⟩) hg).trans H.1, (b.cell (p := ⟨x, 1, none⟩) hg).trans H.2.1, (b.cell (p := ⟨x, 2, none⟩) hg).trans H.2.2⟩
theorem tri_new (w : World) (T D C : Bool) : Tri (w.alloc (.cells #[.bool T, .bool D, .bool C] 132)) w.heap.size T D C := by
  have H := Blk.fresh w 132 #[.bool T, .bool D, .bool C]
  exact ⟨H.cell 0, H.cell 1, H.cell 2⟩

theorem or_list (w : World) (e1 e2 e3 e4 : Int) : Calls Tryd.prog 86 #[.slice (some ⟨w.heap.size, 0, none⟩) 4 4] (w.alloc (.cells #[.int .i64 e1, .int .i64 e2, .int .i64 e3, .int .i64 e4] 34)) fun e w' => e = .returned (.int .i64 (Cn.fst0 [e1, e2, e3, e4])) ∧ (w.alloc (.cells #[.int .i64 e1, .int .i64 e2, .int .i64 e3, .int .i64 e4] 34)) = w' := by
  have H := Blk.fresh w 34 #[.int .i64 e1, .int .i64 e2, .int .i64 e3, .int .i64 e4]
  refine Cn.or_any w.heap.size 4 [e1, e2, e3, e4] _ rfl (by decide) (fun j x hj => ?_)
  match j, hj with
  | 0, hj => cases hj; exact H.cell 0
  | 1, hj => cases hj; exact H.cell 1
  | 2, hj => cases hj; exact H.cell 2
  | 3, hj => cases hj; exact H.cell 3
  | j + 4, hj => simp at hj
set_option maxRecDepth 100000 in
set_option maxHeartbeats 4000000 in
theorem check_any (p : Pd) (A : Option Addr) (n c : Nat) (w : World) (hn : p.ds.length = n) (hW : Wid p) (hT : Adr.Tab w) :
    Calls Tryd.prog 54 #[.agg (cel p (.slice A n c))] w fun e w' => e = .returned (.int .i64 (chkP p)) ∧ Below w.heap.size w w' := by
  have B0 : Below w.heap.size w (w.alloc (.cells (cel p (.slice A n c)) 52)) := (Below.refl _ _).alloc (Nat.le_refl _) _
  have S0 := sev_new w p (.slice A n c)
  have T0 := hT.below B0
  have HP := Lib.hid (fun w => parts_any p.k w)
  have H1 : Hid (∀ w, Adr.Tab w → Calls Tryd.prog 87 #[.agg #[.int .i64 p.sk, .int .u64 p.sb]] w fun e w' => e = .returned (.int .i64 (Adr.chk p.sk p.sb)) ∧ Below w.heap.size w w') := Lib.hid fun w h => Adr.check_any p.sk p.sb w hW.hsk hW.hsb h
  have H2 := Lib.hid (fun T D C w h => ctarget_any T D C p.tk p.tb w hW.htk hW.htb h)
  have H3 := Lib.hid (fun T D C w => cdata_any T D C A n c w)
  have H4 := Lib.hid (fun T D C w => cconn_any T D C p w hW.hm)
  have HR : Hid (chkP p = if knoB p.k = true then Cn.fst0 [Adr.chk p.sk p.sb, tE (tgtB p.k) p.tk p.tb, dE (datB p.k) n, cE (conB p.k) p] else 12) := Lib.hid (by rw [← hn]; rfl)
  clear hn hT hW
  generalize chkP p = R at *
  generalize tgtB p.k = T at *
  generalize datB p.k = D at *
  generalize conB p.k = C at *
  have H2 := Lib.hid (H2.out T D C)
  have H3 := Lib.hid (H3.out T D C)
  have H4 := Lib.hid (H4.out T D C)
  generalize Adr.chk p.sk p.sb = e1 at *
  generalize tE T p.tk p.tb = e2 at *
  generalize dE D n = e3 at *
  generalize cE C p = e4 at *
  generalize knoB p.k = K at *
  have c0 := S0.1
  go_enter Tryd.func54, Tryd.ntmps54
  go_wp2_with fail
  generalize w.alloc (.cells (cel p (.slice A n c)) 52) = W0 at *
  refine (HP.out W0).mono ?_
  rintro e W1 ⟨rfl, b1⟩
  have BX := thenB B0 b1
  have BX := BX.alloc BX.size (.cells #[.bool T, .bool D, .bool C] 132)
  have TX := (T0.below b1).alloc (.cells #[.bool T, .bool D, .bool C] 132)
  have TT := And.intro (sev_below (sev_below S0 b1) ((Below.refl _ _).alloc (Nat.le_refl _) (.cells #[.bool T, .bool D, .bool C] 132))) (tri_new W1 T D C)
  clear S0 c0 T0 B0 b1
  cases K with
  | false =>
    have HR : Hid (R = 12) := Lib.hid HR.out
    go_wp2_with fail
    go_ret
    exact ⟨Ser.ret_int HR.out.symm, BX⟩
  | true =>
    have HR : Hid (R = Cn.fst0 [e1, e2, e3, e4]) := Lib.hid HR.out
    go_wp2_with fail
    generalize W1.alloc (.cells #[.bool T, .bool D, .bool C] 132) = W2 at *
    generalize W1.heap.size = x at *
    refine wp_region_held_drew (S := (fun w' => Sev w' w.heap.size p (.slice A n c) ∧ Tri w' x T D C)) (by kernel_rfl) ?_ (fun hHeld => ?_)
    · exact TT
    have BX : Below w.heap.size w W2.drew := BX.drew
    have TX : Adr.Tab W2.drew := TX
    have TT : Sev W2.drew w.heap.size p (.slice A n c) ∧ Tri W2.drew x T D C := TT
    generalize W2.drew = X0 at *
    refine wpAnyH_take (i := 0) (v := .pointer (some ⟨w.heap.size, 1, none⟩)) rfl (by kernel_rfl) (by kernel_rfl) (by kernel_rfl) (fun _ _ _ h => h) (Or.inl ⟨by first | rfl | go_simp, by intro w9 hSw; (try dsimp only at hSw); go_simp⟩) (by assumption) ?_
    simp only [List.getElem_toArray, List.getElem_cons_zero, List.getElem_cons_succ, Act.put, List.setIfInBounds_toArray, List.set_cons_zero, List.set_cons_succ]
    refine wpAnyH_take (i := 1) (v := .agg #[.int .i64 p.sk, .int .u64 p.sb]) rfl (by kernel_rfl) (by kernel_rfl) (by kernel_rfl) (fun _ _ _ h => h) (Or.inl ⟨by first | rfl | go_simp, by intro w9 hSw; (try dsimp only at hSw); go_simp⟩) (by assumption) ?_
    simp only [List.getElem_toArray, List.getElem_cons_zero, List.getElem_cons_succ, Act.put, List.setIfInBounds_toArray, List.set_cons_zero, List.set_cons_succ]
    refine wpAnyH_take (i := 3) (v := .agg #[.bool T, .bool D, .bool C]) rfl (by kernel_rfl) (by kernel_rfl) (by kernel_rfl) (fun _ _ _ h => h) (Or.inl ⟨by first | rfl | go_simp, by intro w9 hSw; (try dsimp only at hSw); go_simp⟩) (by assumption) ?_
    simp only [List.getElem_toArray, List.getElem_cons_zero, List.getElem_cons_succ, Act.put, List.setIfInBounds_toArray, List.set_cons_zero, List.set_cons_succ]
    refine wpAnyH_take (i := 4) (v := .pointer (some ⟨w.heap.size, 3, none⟩)) rfl (by kernel_rfl) (by kernel_rfl) (by kernel_rfl) (fun _ _ _ h => h) (Or.inl ⟨by first | rfl | go_simp, by intro w9 hSw; (try dsimp only at hSw); go_simp⟩) (by assumption) ?_
    simp only [List.getElem_toArray, List.getElem_cons_zero, List.getElem_cons_succ, Act.put, List.setIfInBounds_toArray, List.set_cons_zero, List.set_cons_succ]
    refine wpAnyH_take (i := 5) (v := .agg #[.int .i64 p.tk, .int .u64 p.tb]) rfl (by kernel_rfl) (by kernel_rfl) (by kernel_rfl) (fun _ _ _ h => h) (Or.inl ⟨by first | rfl | go_simp, by intro w9 hSw; (try dsimp only at hSw); go_simp⟩) (by assumption) ?_
    simp only [List.getElem_toArray, List.getElem_cons_zero, List.getElem_cons_succ, Act.put, List.setIfInBounds_toArray, List.set_cons_zero, List.set_cons_succ]
    refine wpAnyH_take (i := 7) (v := .agg #[.bool T, .bool D, .bool C]) rfl (by kernel_rfl) (by kernel_rfl) (by kernel_rfl) (fun _ _ _ h => h) (Or.inl ⟨by first | rfl | go_simp, by intro w9 hSw; (try dsimp only at hSw); go_simp⟩) (by assumption) ?_
    simp only [List.getElem_toArray, List.getElem_cons_zero, List.getElem_cons_succ, Act.put, List.setIfInBounds_toArray, List.set_cons_zero, List.set_cons_succ]
    refine wpAnyH_take (i := 8) (v := .pointer (some ⟨w.heap.size, 5, none⟩)) rfl (by kernel_rfl) (by kernel_rfl) (by kernel_rfl) (fun _ _ _ h => h) (Or.inl ⟨by first | rfl | go_simp, by intro w9 hSw; (try dsimp only at hSw); go_simp⟩) (by assumption) ?_
    simp only [List.getElem_toArray, List.getElem_cons_zero, List.getElem_cons_succ, Act.put, List.setIfInBounds_toArray, List.set_cons_zero, List.set_cons_succ]
    refine wpAnyH_take (i := 9) (v := .slice A n c) rfl (by kernel_rfl) (by kernel_rfl) (by kernel_rfl) (fun _ _ _ h => h) (Or.inl ⟨by first | rfl | go_simp, by intro w9 hSw; (try dsimp only at hSw); go_simp⟩) (by assumption) ?_
    simp only [List.getElem_toArray, List.getElem_cons_zero, List.getElem_cons_succ, Act.put, List.setIfInBounds_toArray, List.set_cons_zero, List.set_cons_succ]
    refine wpAnyH_take (i := 11) (v := .agg #[.bool T, .bool D, .bool C]) rfl (by kernel_rfl) (by kernel_rfl) (by kernel_rfl) (fun _ _ _ h => h) (Or.inl ⟨by first | rfl | go_simp, by intro w9 hSw; (try dsimp only at hSw); go_simp⟩) (by assumption) ?_
    simp only [List.getElem_toArray, List.getElem_cons_zero, List.getElem_cons_succ, Act.put, List.setIfInBounds_toArray, List.set_cons_zero, List.set_cons_succ]
    refine wpAnyH_take (i := 12) (v := .pointer (some ⟨w.heap.size, 6, none⟩)) rfl (by kernel_rfl) (by kernel_rfl) (by kernel_rfl) (fun _ _ _ h => h) (Or.inl ⟨by first | rfl | go_simp, by intro w9 hSw; (try dsimp only at hSw); go_simp⟩) (by assumption) ?_
    simp only [List.getElem_toArray, List.getElem_cons_zero, List.getElem_cons_succ, Act.put, List.setIfInBounds_toArray, List.set_cons_zero, List.set_cons_succ]
    refine wpAnyH_take (i := 13) (v := .agg #[.int .u32 p.a, .int .u32 p.b, .int .i64 p.s, .int .i64 p.o, .int .i64 p.i, .int .i64 p.l, .int .i64 p.t, .int .u64 (p.m : Int), .int .i64 p.h, .int .i64 p.d, .int .i64 p.g]) rfl (by kernel_rfl) (by kernel_rfl) (by kernel_rfl) (fun _ _ _ h => h) (Or.inl ⟨by first | rfl | go_simp, by intro w9 hSw; (try dsimp only at hSw); go_simp⟩) (by assumption) ?_
    simp only [List.getElem_toArray, List.getElem_cons_zero, List.getElem_cons_succ, Act.put, List.setIfInBounds_toArray, List.set_cons_zero, List.set_cons_succ]
    refine wpAnyH_ready (rs := [2]) (by kernel_rfl) (by simp) ?_
    refine AllReadyH.cons rfl (fun K hK => ?_) (AllReadyH.nil)
    go_simp
    refine (H1.out _ TX).mono ?_
    rintro e X1 ⟨rfl, b9⟩
    have BX := thenB BX b9
    have TX := TX.below b9
    have TT := And.intro (sev_below TT.1 b9) (tri_below TT.2 b9)
    refine hK.out _ _ TT (fun hHeld => ?_)
    clear hK K
    try simp only [List.getElem_toArray, List.getElem_cons_zero, List.getElem_cons_succ, Act.put, List.setIfInBounds_toArray, List.set_cons_zero, List.set_cons_succ]
    refine wpAnyH_ready (rs := [6]) (by kernel_rfl) (by simp) ?_
    refine AllReadyH.cons rfl (fun K hK => ?_) (AllReadyH.nil)
    go_simp
    refine (H2.out _ TX).mono ?_
    rintro e X2 ⟨rfl, b9⟩
    have BX := thenB BX b9
    have TX := TX.below b9
    have TT := And.intro (sev_below TT.1 b9) (tri_below TT.2 b9)
    refine hK.out _ _ TT (fun hHeld => ?_)
    clear hK K
    try simp only [List.getElem_toArray, List.getElem_cons_zero, List.getElem_cons_succ, Act.put, List.setIfInBounds_toArray, List.set_cons_zero, List.set_cons_succ]
    refine wpAnyH_ready (rs := [10]) (by kernel_rfl) (by simp) ?_
    refine AllReadyH.cons rfl (fun K hK => ?_) (AllReadyH.nil)
    go_simp
    refine (H3.out _).mono ?_
    rintro e X3 ⟨rfl, b9⟩
    have BX := thenB BX b9
    have TX := TX.below b9
    have TT := And.intro (sev_below TT.1 b9) (tri_below TT.2 b9)
    refine hK.out _ _ TT (fun hHeld => ?_)
    clear hK K
    try simp only [List.getElem_toArray, List.getElem_cons_zero, List.getElem_cons_succ, Act.put, List.setIfInBounds_toArray, List.set_cons_zero, List.set_cons_succ]
    refine wpAnyH_ready (rs := [14]) (by kernel_rfl) (by simp) ?_
    refine AllReadyH.cons rfl (fun K hK => ?_) (AllReadyH.nil)
    go_simp
    refine (H4.out _).mono ?_
    rintro e X4 ⟨rfl, b9⟩
    have BX := thenB BX b9
    have TX := TX.below b9
    have TT := And.intro (sev_below TT.1 b9) (tri_below TT.2 b9)
    refine hK.out _ _ TT (fun hHeld => ?_)
    clear hK K
    try simp only [List.getElem_toArray, List.getElem_cons_zero, List.getElem_cons_succ, Act.put, List.setIfInBounds_toArray, List.set_cons_zero, List.set_cons_succ]
    refine wpAnyH_ready (rs := [15]) (by kernel_rfl) (by simp) ?_
    refine AllReadyH.cons rfl (fun K hK => ?_) (AllReadyH.nil)
    go_simp
    have hor := or_list X4 e1 e2 e3 e4
    have b9 := (Below.refl X4.heap.size X4).alloc (Nat.le_refl _) (.cells #[.int .i64 e1, .int .i64 e2, .int .i64 e3, .int .i64 e4] 34)
    generalize X4.alloc (.cells #[.int .i64 e1, .int .i64 e2, .int .i64 e3, .int .i64 e4] 34) = X5 at *
    have BX := thenB BX b9
    have TX := TX.below b9
    have TT := And.intro (sev_below TT.1 b9) (tri_below TT.2 b9)
    refine hK.out _ _ TT (fun hHeld => ?_)
    clear hK K
    try simp only [List.getElem_toArray, List.getElem_cons_zero, List.getElem_cons_succ, Act.put, List.setIfInBounds_toArray, List.set_cons_zero, List.set_cons_succ]
    refine wpAnyH_ready (rs := [16]) (by kernel_rfl) (by simp) ?_
    refine AllReadyH.cons rfl (fun K hK => ?_) (AllReadyH.nil)
    go_simp
    refine hor.mono ?_
    rintro e w9 ⟨rfl, rfl⟩
    have b9 := Below.refl X5.heap.size X5
    refine hK.out _ _ TT (fun hHeld => ?_)
    clear hK K
    try simp only [List.getElem_toArray, List.getElem_cons_zero, List.getElem_cons_succ, Act.put, List.setIfInBounds_toArray, List.set_cons_zero, List.set_cons_succ]
    refine wpAnyH_take (i := 17) (v := .int .i64 (Cn.fst0 [e1, e2, e3, e4])) rfl (by kernel_rfl) (by kernel_rfl) (by kernel_rfl) (fun _ _ _ h => h) (Or.inl ⟨by first | rfl | go_simp, by intro w9 hSw; (try dsimp only at hSw); go_simp⟩) (by assumption) ?_
    simp only [List.getElem_toArray, List.getElem_cons_zero, List.getElem_cons_succ, Act.put, List.setIfInBounds_toArray, List.set_cons_zero, List.set_cons_succ]
    refine wpAnyH_done (by kernel_rfl) ?_ _
    go_wp2_with fail
    go_ret
    exact ⟨Ser.ret_int HR.out.symm, BX⟩
end Go.Proofs.YtcbliliinmfnjaaDoor.Ap

end
section
set_option linter.unusedVariables false
set_option linter.unusedSimpArgs false
namespace Go.Proofs.YtcbliliinmfnjaaDoor.Rw
open Go.RowKit Mem

/-- The cells from A on are xs, in a block below B. -/
def CellsAt (w : World) (B : Nat) (A : Option Addr) (xs : List Value) : Prop :=
  xs = [] ∨ ∃ b off, A = some ⟨b, off, none⟩ ∧ b < B ∧ ∀ (q : Nat) u, xs[q]? = some u → w.cell? ⟨b, off + q, none⟩ = some u
section
variable {w w' : World} {B B' : Nat} {A : Option Addr} {xs : List Value}
theorem CellsAt.below (h : CellsAt w B A xs) (hb : Below B w w') : CellsAt w' B A xs := by
  rcases h with h | ⟨b, off, e, hlt, hc⟩
  · exact .inl h
  · exact .inr ⟨b, off, e, hlt, fun q u hq => (hb.cell (p := ⟨b, off + q, none⟩) hlt).trans (hc q u hq)⟩
theorem CellsAt.more (h : CellsAt w B A xs) (hB : B ≤ B') : CellsAt w B' A xs := by
  rcases h with h | ⟨b, off, e, hlt, hc⟩
  · exact .inl h
  · exact .inr ⟨b, off, e, by omega, hc⟩
theorem CellsAt.alloc (h : CellsAt w B A xs) (hB : B ≤ w.heap.size) (o : Obj) : CellsAt (w.alloc o) B A xs := h.below ((Below.refl _ _).alloc hB o)
theorem CellsAt.later (h : CellsAt w w.heap.size A xs) (hb : Below w.heap.size w w') : CellsAt w' w'.heap.size A xs := (h.below hb).more hb.size
theorem CellsAt.kept (h : CellsAt w w.heap.size A xs) (o : Obj) : CellsAt (w.alloc o) (w.alloc o).heap.size A xs := (h.alloc (Nat.le_refl _) o).more (by simp)
theorem CellsAt.lit (w : World) (xs : List Value) (cs : Array Value) (e : TypeId) (h : cs = xs.toArray) : CellsAt (w.alloc (.cells cs e)) (w.alloc (.cells cs e)).heap.size (some ⟨w.heap.size, 0, none⟩) xs := by
  right
  refine ⟨w.heap.size, 0, rfl, by simp, fun q u hq => ?_⟩
  rw [World.cell?_alloc_at _ _ _ _ rfl, h]
  simpa using hq
theorem plain_add (b off i : Nat) : (⟨b, off, none⟩ : Addr).add i = ⟨b, off + i, none⟩ := by
  unfold Addr.add
  by_cases h0 : i = 0
  · simp [h0]
  · simp [h0]
theorem CellsAt.own {base n c k : Nat} {e : TypeId} (h : w.ownsRow base e k (.slice A n c) n xs) : CellsAt w w.heap.size A xs := by
  rcases h.2 with ⟨hv, hn⟩ | ⟨g, cap, cur, hv, hbg, hg, hnc, hcm, hcs, htake⟩
  · left
    have := h.1
    subst hn
    simp at this
    exact this
  · right
    injection hv with hA hn hc
    subst hA
    have hlt : g < w.heap.size := by
      rcases Nat.lt_or_ge g w.heap.size with hlt | hge
      · exact hlt
      · rw [Array.getElem?_eq_none hge] at hg; cases hg
    refine ⟨g, 0, rfl, hlt, fun q u hq => ?_⟩
    have := h.cells (g := g) rfl q _ hq
    rwa [plain_add] at this
end

/-! ### Lists laid flat -/
section
variable {α : Type} {enc : α → List Value} {k : Nat}
def Sized (enc : α → List Value) (k : Nat) : Prop := ∀ x, (enc x).length = k ∧ ∀ u ∈ enc x, u.oneCell' = true
theorem flat_len (hk : Sized enc k) (l : List α) : (l.flatMap enc).length = l.length * k := by
  induction l with
  | nil => simp
  | cons x r ih => rw [List.flatMap_cons, List.length_append, ih, (hk x).1, List.length_cons, Nat.add_mul, Nat.one_mul, Nat.add_comm]
theorem flat_one (hk : Sized enc k) (l : List α) : ∀ u ∈ l.flatMap enc, u.oneCell' = true := by
  intro u hu
  obtain ⟨x, _, hx⟩ := List.mem_flatMap.mp hu
  exact (hk x).2 u hx
theorem flat_get (hk : Sized enc k) (l : List α) (j i : Nat) (x : α) (v : Value) (hj : l[j]? = some x) (hi : (enc x)[i]? = some v) : (l.flatMap enc)[j * k + i]? = some v := by
  induction l generalizing j with
  | nil => simp at hj
  | cons y r ih =>
    rw [List.flatMap_cons]
    have hik : i < (enc x).length := by
      rcases Nat.lt_or_ge i (enc x).length with h | h
      · exact h
      · rw [List.getElem?_eq_none h] at hi; cases hi
    cases j with
    | zero =>
      simp at hj; subst hj
      rw [Nat.zero_mul, Nat.zero_add, List.getElem?_append_left hik]; exact hi
    | succ j =>
      have := ih j (by simpa using hj)
      rw [List.getElem?_append_right (by rw [(hk y).1, Nat.add_mul, Nat.one_mul]; omega), (hk y).1, Nat.add_mul, Nat.one_mul, show j * k + k + i - k = j * k + i by omega]
      exact this
theorem flat_append (l m : List α) : (l ++ m).flatMap enc = l.flatMap enc ++ m.flatMap enc := List.flatMap_append
end
/-- The slice that begins at A reads the list l. -/
def ListAt {α : Type} (enc : α → List Value) (w : World) (B : Nat) (A : Option Addr) (l : List α) : Prop := CellsAt w B A (l.flatMap enc)
theorem ListAt.open_ {α : Type} {enc : α → List Value} {k : Nat} {w : World} {B : Nat} {A : Option Addr} {l : List α} (h : ListAt enc w B A l) (hk : Sized enc k) (hk0 : 0 < k) (hl : 0 < l.length) :
    ∃ b off, A = some ⟨b, off, none⟩ ∧ b < B ∧ ∀ (j : Nat) x, l[j]? = some x → ∀ (i : Nat) v, (enc x)[i]? = some v → w.cell? ⟨b, off + j * k + i, none⟩ = some v := by
  rcases h with h | ⟨b, off, e, hlt, hc⟩
  · have := flat_len hk l
    rw [h] at this
    have h2 : 0 < l.length * k := Nat.mul_pos hl hk0
    simp only [List.length_nil] at this
    omega
  · exact ⟨b, off, e, hlt, fun j x hj i v hi => by rw [Nat.add_assoc]; exact hc _ _ (flat_get hk l j i x v hj hi)⟩

section
variable {P : Program} {w : World}
theorem run_append_rows (base : Nat) (t ty e : TypeId) (i : TypeInfo) (z : Value) (k bytes : Nat) (ht : P.underlying t = some (.slice e)) (hi : P.info? e = some i) (hz : i.zero = some z)
    (hsize : i.size = k) (hby : i.bytes = bytes) (hzs : z.cells.size = k) (hk0 : 0 < k)
    (v : Value) (n : Nat) (xs : List Value) (hown : w.ownsRow base e k v n xs)
    (B : Nat) (A : Option Addr) (m c : Nat) (ys : List Value) (hm : ys.length = m * k) (h1 : ∀ u ∈ ys, u.oneCell' = true) (hr : CellsAt w B A ys)
    (h63 : n + m ≤ maxLen) (hbytes : (n + m) * bytes ≤ 140737488355328) (hbase : base ≤ w.heap.size) :
    ∃ v' w', (Builtin.append_ #[t, t] ty #[v, .slice A m c]).run P w = .ok v' w' ∧ w'.ownsRow base e k v' (n + m) (xs ++ ys) ∧ w.grownBy w' v.ownBlock := by
  have go : ∀ ad : Addr, (∀ (j : Nat) u, ys[j]? = some u → w.cell? (ad.add j) = some u) →
      ∃ v' w', (Builtin.append_ #[t, t] ty #[v, .slice (some ad) m c]).run P w = .ok v' w' ∧ w'.ownsRow base e k v' (n + m) (xs ++ ys) ∧ w.grownBy w' v.ownBlock := fun ad hc => by
    obtain ⟨v', w', h2, h3, h4, _⟩ := run_append_own (P := P) w base t ty e i z k bytes ht hi hz hsize hby hzs hk0 v n xs hown ad m c ys hm hc h1 h63 hbytes hbase
    exact ⟨v', w', h2, h3, h4⟩
  rcases hr with hnil | ⟨b, off, rfl, _, hc⟩
  · subst hnil
    have hm0 : m = 0 := by
      rcases Nat.eq_zero_or_pos m with h | h
      · exact h
      · have := Nat.mul_pos h hk0; simp at hm; omega
    subst hm0
    cases A with
    | none =>
      refine ⟨v, w, ?_, by simpa using hown, World.grownBy.refl w _⟩
      rcases hown.2 with ⟨rfl, rfl⟩ | ⟨g, cap, cur, rfl, _, _, hnc, _⟩
      · simp [Builtin.append_, run_underlying ht, sizeOf, typeInfo, hi, Builtin.lenOf, Builtin.firstCells]
      · simp [Builtin.append_, run_underlying ht, sizeOf, typeInfo, hi, Builtin.lenOf, Builtin.firstCells, hnc, storeCells]
    | some ad => exact go ad (by simp)
  · refine go _ fun j u hu => ?_
    rw [plain_add]; exact hc j u hu
theorem wpList_append_rows {ops : Array Oper} {rest : List Oper} {o : Oper} {a : Act} {Q : Exit → Act → World → Prop} (hgd : o.guard = none) (s x : Operand) (t : TypeId)
    (ho : o.op = .call { callee := .builtin .append, args := #[s, x], argTypes := #[t, t] })
    (base : Nat) (e : TypeId) (i : TypeInfo) (z : Value) (k bytes : Nat) (ht : P.underlying t = some (.slice e)) (hi : P.info? e = some i) (hz : i.zero = some z)
    (hsize : i.size = k) (hby : i.bytes = bytes) (hzs : z.cells.size = k) (hk0 : 0 < k)
    (v : Value) (n : Nat) (xs : List Value) (hs : a.eval s = v) (hown : w.ownsRow base e k v n xs)
    (B : Nat) (A : Option Addr) (m c : Nat) (ys : List Value) (hx : a.eval x = .slice A m c) (hm : ys.length = m * k) (h1 : ∀ u ∈ ys, u.oneCell' = true) (hr : CellsAt w B A ys)
    (h63 : n + m ≤ maxLen) (hbytes : (n + m) * bytes ≤ 140737488355328) (hbase : base ≤ w.heap.size)
    (h : ∀ v' w', w'.ownsRow base e k v' (n + m) (xs ++ ys) → Below base w w' → w.grownBy w' v.ownBlock → wpList P ops Q rest (a.put o.dst v') w') : wpList P ops Q (o :: rest) a w := by
  refine wpList_plain hgd fun K hK => ?_
  obtain ⟨v', w', hrun, h2, h3⟩ := run_append_rows (P := P) base t o.type e i z k bytes ht hi hz hsize hby hzs hk0 v n xs hown B A m c ys hm h1 hr h63 hbytes hbase
  unfold Oper.wp execOp
  simp only [ho, resolve, invoke, builtin, Sem.run_bind, Sem.run_pure, Result.andThen_ok, List.map_toArray, List.map_cons, List.map_nil, hs, hx, hrun]
  exact hK _ _ (h v' w' h2 ((Below.refl base w).grown h3 hbase fun g hg => (hown.lt g hg).1) h3)
/-- The same as one step of a region that draws its order. -/
theorem step_append_rows {ops : Array Oper} {o : Oper} {a : Act} {K : Act → World → Prop} {Q : Exit → Act → World → Prop} {E : Prop} (hgd : o.guard = none) (s x : Operand) (t : TypeId)
    (ho : o.op = .call { callee := .builtin .append, args := #[s, x], argTypes := #[t, t] })
    (base : Nat) (e : TypeId) (i : TypeInfo) (z : Value) (k bytes : Nat) (ht : P.underlying t = some (.slice e)) (hi : P.info? e = some i) (hz : i.zero = some z)
    (hsize : i.size = k) (hby : i.bytes = bytes) (hzs : z.cells.size = k) (hk0 : 0 < k)
    (v : Value) (n : Nat) (xs : List Value) (hs : a.eval s = v) (hown : w.ownsRow base e k v n xs)
    (B : Nat) (A : Option Addr) (m c : Nat) (ys : List Value) (hx : a.eval x = .slice A m c) (hm : ys.length = m * k) (h1 : ∀ u ∈ ys, u.oneCell' = true) (hr : CellsAt w B A ys)
    (h63 : n + m ≤ maxLen) (hbytes : (n + m) * bytes ≤ 140737488355328) (hbase : base ≤ w.heap.size)
    (h : ∀ v' w', w'.ownsRow base e k v' (n + m) (xs ++ ys) → Below base w w' → w.grownBy w' v.ownBlock → K (a.put o.dst v') w') :
    if Region.wanted o (yielded ops a.tmps) = true then Oper.wp P o a w K Q else E := by
  have hw : Region.wanted o (yielded ops a.tmps) = true := by simp [Region.wanted, hgd]
  rw [if_pos hw]
  obtain ⟨v', w', hrun, h2, h3⟩ := run_append_rows (P := P) base t o.type e i z k bytes ht hi hz hsize hby hzs hk0 v n xs hown B A m c ys hm h1 hr h63 hbytes hbase
  unfold Oper.wp execOp
  simp only [ho, resolve, invoke, builtin, Sem.run_bind, Sem.run_pure, Result.andThen_ok, List.map_toArray, List.map_cons, List.map_nil, hs, hx, hrun]
  exact h v' w' h2 ((Below.refl base w).grown h3 hbase fun g hg => (hown.lt g hg).1) h3
end
end Go.Proofs.YtcbliliinmfnjaaDoor.Rw

end
