/- Advertising PDUs in memory; Check by the layer: contracts over the program. Advertising PDUs: the first byte: contracts over the program. -/
import Derived.Test.YtcjlliilfecmnaaDoorKApSmall
import Derived.Test.YtcjlliilfecmnaaDoorKM2
import Derived.Deep.CutRange
section
set_option linter.unusedVariables false
set_option linter.unusedSimpArgs false
namespace Go.Proofs.YtcjlliilfecmnaaDoor.Ap
open Go.RowKit Mem Oct
open Base (thenB)

/-- A PDU by value: V is its data. -/
abbrev cel (p : Pd) (V : Value) : Array Value := #[.int .i64 p.k, .int .i64 p.sk, .int .u64 p.sb, .int .i64 p.tk, .int .u64 p.tb, V, .int .u32 p.a, .int .u32 p.b, .int .i64 p.s, .int .i64 p.o, .int .i64 p.i, .int .i64 p.l, .int .i64 p.t, .int .u64 (p.m : Int), .int .i64 p.h, .int .i64 p.d, .int .i64 p.g]
/-- A PDU in memory. -/
abbrev Sev (w : World) (x : Nat) (p : Pd) (V : Value) : Prop := w.cell? ⟨x, 0, none⟩ = some (.int .i64 p.k) ∧ w.cell? ⟨x, 1, none⟩ = some (.int .i64 p.sk) ∧ w.cell? ⟨x, 2, none⟩ = some (.int .u64 p.sb) ∧ w.cell? ⟨x, 3, none⟩ = some (.int .i64 p.tk) ∧ w.cell? ⟨x, 4, none⟩ = some (.int .u64 p.tb) ∧ w.cell? ⟨x, 5, none⟩ = some (V) ∧ w.cell? ⟨x, 6, none⟩ = some (.int .u32 p.a) ∧ w.cell? ⟨x, 7, none⟩ = some (.int .u32 p.b) ∧ w.cell? ⟨x, 8, none⟩ = some (.int .i64 p.s) ∧ w.cell? ⟨x, 9, none⟩ = some (.int .i64 p.o) ∧ w.cell? ⟨x, 10, none⟩ = some (.int .i64 p.i) ∧ w.cell? ⟨x, 11, none⟩ = some (.int .i64 p.l) ∧ w.cell? ⟨x, 12, none⟩ = some (.int .i64 p.t) ∧ w.cell? ⟨x, 13, none⟩ = some (.int .u64 (p.m : Int)) ∧ w.cell? ⟨x, 14, none⟩ = some (.int .i64 p.h) ∧ w.cell? ⟨x, 15, none⟩ = some (.int .i64 p.d) ∧ w.cell? ⟨x, 16, none⟩ = some (.int .i64 p.g)
theorem sev_of {w : World} {x : Nat} {p : Pd} {V : Value} {ty : TypeId} (H : Blk w x ty (cel p V)) : Sev w x p V :=
  ⟨H.cell 0, H.cell 1, H.cell 2, H.cell 3, H.cell 4, H.cell 5, H.cell 6, H.cell 7, H.cell 8, H.cell 9, H.cell 10, H.cell 11, H.cell 12, H.cell 13, H.cell 14, H.cell 15, H.cell 16⟩
theorem sev_below {w w' : World} {x : Nat} {p : Pd} {V : Value} (H : Sev w x p V) (b : Below w.heap.size w w') : Sev w' x p V := by
  have hg := block_lt_of_cell H.1
  obtain ⟨h0, h1, h2, h3, h4, h5, h6, h7, h8, h9, h10, h11, h12, h13, h14, h15, h16⟩ := H
  exact ⟨(b.cell (p := ⟨x, 0, none⟩) hg).trans h0, (b.cell (p := ⟨x, 1, none⟩) hg).trans h1, (b.cell (p := ⟨x, 2, none⟩) hg).trans h2, (b.cell (p := ⟨x, 3, none⟩) hg).trans h3, (b.cell (p := ⟨x, 4, none⟩) hg).trans h4, (b.cell (p := ⟨x, 5, none⟩) hg).trans h5, (b.cell (p := ⟨x, 6, none⟩) hg).trans h6, (b.cell (p := ⟨x, 7, none⟩) hg).trans h7, (b.cell (p := ⟨x, 8, none⟩) hg).trans h8, (b.cell (p := ⟨x, 9, none⟩) hg).trans h9, (b.cell (p := ⟨x, 10, none⟩) hg).trans h10, (b.cell (p := ⟨x, 11, none⟩) hg).trans h11, (b.cell (p := ⟨x, 12, none⟩) hg).trans h12, (b.cell (p := ⟨x, 13, none⟩) hg).trans h13, (b.cell (p := ⟨x, 14, none⟩) hg).trans h14, (b.cell (p := ⟨x, 15, none⟩) hg).trans h15, (b.cell (p := ⟨x, 16, none⟩) hg).trans h16⟩
theorem sev_new (w : World) (p : Pd) (V : Value) : Sev (w.alloc (.cells (cel p V) 33)) w.heap.size p V := sev_of (Blk.fresh w 33 (cel p V))
/-- The numbers of a PDU are those of their types. -/
structure Wid (p : Pd) : Prop where
  hk : -9223372036854775808 ≤ p.k ∧ p.k ≤ 9223372036854775807
  hsk : -9223372036854775808 ≤ p.sk ∧ p.sk ≤ 9223372036854775807
  hsb : 0 ≤ p.sb ∧ p.sb ≤ 18446744073709551615
  htk : -9223372036854775808 ≤ p.tk ∧ p.tk ≤ 9223372036854775807
  htb : 0 ≤ p.tb ∧ p.tb ≤ 18446744073709551615
  ha : 0 ≤ p.a ∧ p.a ≤ 4294967295
  hb : 0 ≤ p.b ∧ p.b ≤ 4294967295
  hm : p.m ≤ 18446744073709551615
abbrev Tri (w : World) (x : Nat) (T D C : Bool) : Prop := w.cell? ⟨x, 0, none⟩ = some (.bool T) ∧ w.cell? ⟨x, 1, none⟩ = some (.bool D) ∧ w.cell? ⟨x, 2, none⟩ = some (.bool C)
theorem tri_below {w w' : World} {x : Nat} {T D C : Bool} (H : Tri w x T D C) (b : Below w.heap.size w w') : Tri w' x T D C := by
  have hg := block_lt_of_cell H.1
  exact ⟨(b.cell (p := ⟨x, 0, none⟩) hg).trans H.1, (b.cell (p := ⟨x, 1, none⟩) hg).trans H.2.1, (b.cell (p := ⟨x, 2, none⟩) hg).trans H.2.2⟩
theorem tri_new (w : World) (T D C : Bool) : Tri (w.alloc (.cells #[.bool T, .bool D, .bool C] 50)) w.heap.size T D C := by
  have H := Blk.fresh w 50 #[.bool T, .bool D, .bool C]
  exact ⟨H.cell 0, H.cell 1, H.cell 2⟩

theorem or_list (w : World) (e1 e2 e3 e4 : Int) : Calls Tryd.prog 25 #[.slice (some ⟨w.heap.size, 0, none⟩) 4 4] (w.alloc (.cells #[.int .i64 e1, .int .i64 e2, .int .i64 e3, .int .i64 e4] 35)) fun e w' => e = .returned (.int .i64 (Cn.fst0 [e1, e2, e3, e4])) ∧ (w.alloc (.cells #[.int .i64 e1, .int .i64 e2, .int .i64 e3, .int .i64 e4] 35)) = w' := by
  have H := Blk.fresh w 35 #[.int .i64 e1, .int .i64 e2, .int .i64 e3, .int .i64 e4]
  refine Cn.or_any w.heap.size 4 [e1, e2, e3, e4] _ rfl (by decide) (fun j x hj => ?_)
  match j, hj with
  | 0, hj => cases hj; exact H.cell 0
  | 1, hj => cases hj; exact H.cell 1
  | 2, hj => cases hj; exact H.cell 2
  | 3, hj => cases hj; exact H.cell 3
  | j + 4, hj => simp at hj
set_option maxRecDepth 100000 in
set_option maxHeartbeats 4000000 in
theorem check_any (p : Pd) (A : Option Addr) (n c : Nat) (w : World) (hn : p.ds.length = n) (hW : Wid p) (hT : Adr.Tab w) :
    Calls Tryd.prog 10 #[.agg (cel p (.slice A n c))] w fun e w' => e = .returned (.int .i64 (chkP p)) ∧ Below w.heap.size w w' := by
  have B0 : Below w.heap.size w (w.alloc (.cells (cel p (.slice A n c)) 33)) := (Below.refl _ _).alloc (Nat.le_refl _) _
  have S0 := sev_new w p (.slice A n c)
  have T0 := hT.below B0
  have HP := Lib.hid (fun w => parts_any p.k w)
  have H1 : Hid (∀ w, Adr.Tab w → Calls Tryd.prog 26 #[.agg #[.int .i64 p.sk, .int .u64 p.sb]] w fun e w' => e = .returned (.int .i64 (Adr.chk p.sk p.sb)) ∧ Below w.heap.size w w') := Lib.hid fun w h => Adr.check_any p.sk p.sb w hW.hsk hW.hsb h
  have H2 := Lib.hid (fun T D C w h => ctarget_any T D C p.tk p.tb w hW.htk hW.htb h)
  have H3 := Lib.hid (fun T D C w => cdata_any T D C A n c w)
  have H4 := Lib.hid (fun T D C w => cconn_any T D C p w hW.hm)
  have HR : Hid (chkP p = if knoB p.k = true then Cn.fst0 [Adr.chk p.sk p.sb, tE (tgtB p.k) p.tk p.tb, dE (datB p.k) n, cE (conB p.k) p] else 12) := Lib.hid (by rw [← hn]; rfl)
  clear hn hT hW
  generalize chkP p = R at *
  generalize tgtB p.k = T at *
  generalize datB p.k = D at *
  generalize conB p.k = C at *
  have H2 := Lib.hid (H2.out T D C)
  have H3 := Lib.hid (H3.out T D C)
  have H4 := Lib.hid (H4.out T D C)
  generalize Adr.chk p.sk p.sb = e1 at *
  generalize tE T p.tk p.tb = e2 at *
  generalize dE D n = e3 at *
  generalize cE C p = e4 at *
  generalize knoB p.k = K at *
  have c0 := S0.1
  go_enter Tryd.func10, Tryd.ntmps10
  go_wp2_with fail
  generalize w.alloc (.cells (cel p (.slice A n c)) 33) = W0 at *
  refine (HP.out W0).mono ?_
  rintro e W1 ⟨rfl, b1⟩
  have BX := thenB B0 b1
  have BX := BX.alloc BX.size (.cells #[.bool T, .bool D, .bool C] 50)
  have TX := (T0.below b1).alloc (.cells #[.bool T, .bool D, .bool C] 50)
  have TT := And.intro (sev_below (sev_below S0 b1) ((Below.refl _ _).alloc (Nat.le_refl _) (.cells #[.bool T, .bool D, .bool C] 50))) (tri_new W1 T D C)
  clear S0 c0 T0 B0 b1
  cases K with
  | false =>
    have HR : Hid (R = 12) := Lib.hid HR.out
    go_wp2_with fail
    go_ret
    exact ⟨Ser.ret_int HR.out.symm, BX⟩
  | true =>
    have HR : Hid (R = Cn.fst0 [e1, e2, e3, e4]) := Lib.hid HR.out
    go_wp2_with fail
    generalize W1.alloc (.cells #[.bool T, .bool D, .bool C] 50) = W2 at *
    generalize W1.heap.size = x at *
    refine wp_region_held_drew (S := (fun w' => Sev w' w.heap.size p (.slice A n c) ∧ Tri w' x T D C)) (by kernel_rfl) ?_ (fun hHeld => ?_)
    · exact TT
    have BX : Below w.heap.size w W2.drew := BX.drew
    have TX : Adr.Tab W2.drew := TX
    have TT : Sev W2.drew w.heap.size p (.slice A n c) ∧ Tri W2.drew x T D C := TT
    generalize W2.drew = X0 at *
    refine wpAnyH_take (i := 0) (v := .pointer (some ⟨w.heap.size, 1, none⟩)) rfl (by kernel_rfl) (by kernel_rfl) (by kernel_rfl) (fun _ _ _ h => h) (Or.inl ⟨by first | rfl | go_simp, by intro w9 hSw; (try dsimp only at hSw); go_simp⟩) (by assumption) ?_
    simp only [List.getElem_toArray, List.getElem_cons_zero, List.getElem_cons_succ, Act.put, List.setIfInBounds_toArray, List.set_cons_zero, List.set_cons_succ]
    refine wpAnyH_take (i := 1) (v := .agg #[.int .i64 p.sk, .int .u64 p.sb]) rfl (by kernel_rfl) (by kernel_rfl) (by kernel_rfl) (fun _ _ _ h => h) (Or.inl ⟨by first | rfl | go_simp, by intro w9 hSw; (try dsimp only at hSw); go_simp⟩) (by assumption) ?_
    simp only [List.getElem_toArray, List.getElem_cons_zero, List.getElem_cons_succ, Act.put, List.setIfInBounds_toArray, List.set_cons_zero, List.set_cons_succ]
    refine wpAnyH_take (i := 3) (v := .agg #[.bool T, .bool D, .bool C]) rfl (by kernel_rfl) (by kernel_rfl) (by kernel_rfl) (fun _ _ _ h => h) (Or.inl ⟨by first | rfl | go_simp, by intro w9 hSw; (try dsimp only at hSw); go_simp⟩) (by assumption) ?_
    simp only [List.getElem_toArray, List.getElem_cons_zero, List.getElem_cons_succ, Act.put, List.setIfInBounds_toArray, List.set_cons_zero, List.set_cons_succ]
    refine wpAnyH_take (i := 4) (v := .pointer (some ⟨w.heap.size, 3, none⟩)) rfl (by kernel_rfl) (by kernel_rfl) (by kernel_rfl) (fun _ _ _ h => h) (Or.inl ⟨by first | rfl | go_simp, by intro w9 hSw; (try dsimp only at hSw); go_simp⟩) (by assumption) ?_
    simp only [List.getElem_toArray, List.getElem_cons_zero, List.getElem_cons_succ, Act.put, List.setIfInBounds_toArray, List.set_cons_zero, List.set_cons_succ]
    refine wpAnyH_take (i := 5) (v := .agg #[.int .i64 p.tk, .int .u64 p.tb]) rfl (by kernel_rfl) (by kernel_rfl) (by kernel_rfl) (fun _ _ _ h => h) (Or.inl ⟨by first | rfl | go_simp, by intro w9 hSw; (try dsimp only at hSw); go_simp⟩) (by assumption) ?_
    simp only [List.getElem_toArray, List.getElem_cons_zero, List.getElem_cons_succ, Act.put, List.setIfInBounds_toArray, List.set_cons_zero, List.set_cons_succ]
    refine wpAnyH_take (i := 7) (v := .agg #[.bool T, .bool D, .bool C]) rfl (by kernel_rfl) (by kernel_rfl) (by kernel_rfl) (fun _ _ _ h => h) (Or.inl ⟨by first | rfl | go_simp, by intro w9 hSw; (try dsimp only at hSw); go_simp⟩) (by assumption) ?_
    simp only [List.getElem_toArray, List.getElem_cons_zero, List.getElem_cons_succ, Act.put, List.setIfInBounds_toArray, List.set_cons_zero, List.set_cons_succ]
    refine wpAnyH_take (i := 8) (v := .pointer (some ⟨w.heap.size, 5, none⟩)) rfl (by kernel_rfl) (by kernel_rfl) (by kernel_rfl) (fun _ _ _ h => h) (Or.inl ⟨by first | rfl | go_simp, by intro w9 hSw; (try dsimp only at hSw); go_simp⟩) (by assumption) ?_
    simp only [List.getElem_toArray, List.getElem_cons_zero, List.getElem_cons_succ, Act.put, List.setIfInBounds_toArray, List.set_cons_zero, List.set_cons_succ]
    refine wpAnyH_take (i := 9) (v := .slice A n c) rfl (by kernel_rfl) (by kernel_rfl) (by kernel_rfl) (fun _ _ _ h => h) (Or.inl ⟨by first | rfl | go_simp, by intro w9 hSw; (try dsimp only at hSw); go_simp⟩) (by assumption) ?_
    simp only [List.getElem_toArray, List.getElem_cons_zero, List.getElem_cons_succ, Act.put, List.setIfInBounds_toArray, List.set_cons_zero, List.set_cons_succ]
    refine wpAnyH_take (i := 11) (v := .agg #[.bool T, .bool D, .bool C]) rfl (by kernel_rfl) (by kernel_rfl) (by kernel_rfl) (fun _ _ _ h => h) (Or.inl ⟨by first | rfl | go_simp, by intro w9 hSw; (try dsimp only at hSw); go_simp⟩) (by assumption) ?_
    simp only [List.getElem_toArray, List.getElem_cons_zero, List.getElem_cons_succ, Act.put, List.setIfInBounds_toArray, List.set_cons_zero, List.set_cons_succ]
    refine wpAnyH_take (i := 12) (v := .pointer (some ⟨w.heap.size, 6, none⟩)) rfl (by kernel_rfl) (by kernel_rfl) (by kernel_rfl) (fun _ _ _ h => h) (Or.inl ⟨by first | rfl | go_simp, by intro w9 hSw; (try dsimp only at hSw); go_simp⟩) (by assumption) ?_
    simp only [List.getElem_toArray, List.getElem_cons_zero, List.getElem_cons_succ, Act.put, List.setIfInBounds_toArray, List.set_cons_zero, List.set_cons_succ]
    refine wpAnyH_take (i := 13) (v := .agg #[.int .u32 p.a, .int .u32 p.b, .int .i64 p.s, .int .i64 p.o, .int .i64 p.i, .int .i64 p.l, .int .i64 p.t, .int .u64 (p.m : Int), .int .i64 p.h, .int .i64 p.d, .int .i64 p.g]) rfl (by kernel_rfl) (by kernel_rfl) (by kernel_rfl) (fun _ _ _ h => h) (Or.inl ⟨by first | rfl | go_simp, by intro w9 hSw; (try dsimp only at hSw); go_simp⟩) (by assumption) ?_
    simp only [List.getElem_toArray, List.getElem_cons_zero, List.getElem_cons_succ, Act.put, List.setIfInBounds_toArray, List.set_cons_zero, List.set_cons_succ]
    refine wpAnyH_ready (rs := [2]) (by kernel_rfl) (by simp) ?_
    refine AllReadyH.cons rfl (fun K hK => ?_) (AllReadyH.nil)
    go_simp
    refine (H1.out _ TX).mono ?_
    rintro e X1 ⟨rfl, b9⟩
    have BX := thenB BX b9
    have TX := TX.below b9
    have TT := And.intro (sev_below TT.1 b9) (tri_below TT.2 b9)
    refine hK.out _ _ TT (fun hHeld => ?_)
    clear hK K
    try simp only [List.getElem_toArray, List.getElem_cons_zero, List.getElem_cons_succ, Act.put, List.setIfInBounds_toArray, List.set_cons_zero, List.set_cons_succ]
    refine wpAnyH_ready (rs := [6]) (by kernel_rfl) (by simp) ?_
    refine AllReadyH.cons rfl (fun K hK => ?_) (AllReadyH.nil)
    go_simp
    refine (H2.out _ TX).mono ?_
    rintro e X2 ⟨rfl, b9⟩
    have BX := thenB BX b9
    have TX := TX.below b9
    have TT := And.intro (sev_below TT.1 b9) (tri_below TT.2 b9)
    refine hK.out _ _ TT (fun hHeld => ?_)
    clear hK K
    try simp only [List.getElem_toArray, List.getElem_cons_zero, List.getElem_cons_succ, Act.put, List.setIfInBounds_toArray, List.set_cons_zero, List.set_cons_succ]
    refine wpAnyH_ready (rs := [10]) (by kernel_rfl) (by simp) ?_
    refine AllReadyH.cons rfl (fun K hK => ?_) (AllReadyH.nil)
    go_simp
    refine (H3.out _).mono ?_
    rintro e X3 ⟨rfl, b9⟩
    have BX := thenB BX b9
    have TX := TX.below b9
    have TT := And.intro (sev_below TT.1 b9) (tri_below TT.2 b9)
    refine hK.out _ _ TT (fun hHeld => ?_)
    clear hK K
    try simp only [List.getElem_toArray, List.getElem_cons_zero, List.getElem_cons_succ, Act.put, List.setIfInBounds_toArray, List.set_cons_zero, List.set_cons_succ]
    refine wpAnyH_ready (rs := [14]) (by kernel_rfl) (by simp) ?_
    refine AllReadyH.cons rfl (fun K hK => ?_) (AllReadyH.nil)
    go_simp
    refine (H4.out _).mono ?_
    rintro e X4 ⟨rfl, b9⟩
    have BX := thenB BX b9
    have TX := TX.below b9
    have TT := And.intro (sev_below TT.1 b9) (tri_below TT.2 b9)
    refine hK.out _ _ TT (fun hHeld => ?_)
    clear hK K
    try simp only [List.getElem_toArray, List.getElem_cons_zero, List.getElem_cons_succ, Act.put, List.setIfInBounds_toArray, List.set_cons_zero, List.set_cons_succ]
    refine wpAnyH_ready (rs := [15]) (by kernel_rfl) (by simp) ?_
    refine AllReadyH.cons rfl (fun K hK => ?_) (AllReadyH.nil)
    go_simp
    have hor := or_list X4 e1 e2 e3 e4
    have b9 := (Below.refl X4.heap.size X4).alloc (Nat.le_refl _) (.cells #[.int .i64 e1, .int .i64 e2, .int .i64 e3, .int .i64 e4] 35)
    generalize X4.alloc (.cells #[.int .i64 e1, .int .i64 e2, .int .i64 e3, .int .i64 e4] 35) = X5 at *
    have BX := thenB BX b9
    have TX := TX.below b9
    have TT := And.intro (sev_below TT.1 b9) (tri_below TT.2 b9)
    refine hK.out _ _ TT (fun hHeld => ?_)
    clear hK K
    try simp only [List.getElem_toArray, List.getElem_cons_zero, List.getElem_cons_succ, Act.put, List.setIfInBounds_toArray, List.set_cons_zero, List.set_cons_succ]
    refine wpAnyH_ready (rs := [16]) (by kernel_rfl) (by simp) ?_
    refine AllReadyH.cons rfl (fun K hK => ?_) (AllReadyH.nil)
    go_simp
    refine hor.mono ?_
    rintro e w9 ⟨rfl, rfl⟩
    have b9 := Below.refl X5.heap.size X5
    refine hK.out _ _ TT (fun hHeld => ?_)
    clear hK K
    try simp only [List.getElem_toArray, List.getElem_cons_zero, List.getElem_cons_succ, Act.put, List.setIfInBounds_toArray, List.set_cons_zero, List.set_cons_succ]
    refine wpAnyH_take (i := 17) (v := .int .i64 (Cn.fst0 [e1, e2, e3, e4])) rfl (by kernel_rfl) (by kernel_rfl) (by kernel_rfl) (fun _ _ _ h => h) (Or.inl ⟨by first | rfl | go_simp, by intro w9 hSw; (try dsimp only at hSw); go_simp⟩) (by assumption) ?_
    simp only [List.getElem_toArray, List.getElem_cons_zero, List.getElem_cons_succ, Act.put, List.setIfInBounds_toArray, List.set_cons_zero, List.set_cons_succ]
    refine wpAnyH_done (by kernel_rfl) ?_ _
    go_wp2_with fail
    go_ret
    exact ⟨Ser.ret_int HR.out.symm, BX⟩
end Go.Proofs.YtcjlliilfecmnaaDoor.Ap

end
section
set_option linter.unusedVariables false
set_option linter.unusedSimpArgs false
namespace Go.Proofs.YtcjlliilfecmnaaDoor.Ap
open Go.RowKit Mem Oct
open Base (thenB)

theorem u8_mod (x : Int) : IntKind.u8.wrap x = x % 256 := by simp [IntKind.wrap, IntKind.bits, IntKind.signed]
theorem or_facts (k : Int) (hk : 0 ≤ k ∧ k ≤ 6) : bits .or .u8 k 64 = k + 64 ∧ bits .or .u8 k 128 = k + 128 ∧ bits .or .u8 (k + 64) 128 = k + 64 + 128 := by
  have : k = 0 ∨ k = 1 ∨ k = 2 ∨ k = 3 ∨ k = 4 ∨ k = 5 ∨ k = 6 := by omega
  rcases this with rfl | rfl | rfl | rfl | rfl | rfl | rfl <;> exact ⟨rfl, rfl, rfl⟩
set_option maxHeartbeats 2000000 in
theorem first_any (p : Pd) (V : Value) (w : World) (hk : 0 ≤ p.k ∧ p.k ≤ 6) :
    Calls Tryd.prog 36 #[.agg (cel p V)] w fun e w' => e = .returned (.int .u8 (fstB p)) ∧ Below w.heap.size w w' := by
  have B0 : Below w.heap.size w (w.alloc (.cells (cel p V) 33)) := (Below.refl _ _).alloc (Nat.le_refl _) _
  have S0 := sev_new w p V
  have HN := Lib.hid (fun k b w => notpublic_any k b w)
  obtain ⟨o1, o2, o3⟩ := or_facts p.k hk
  have HF : Hid (fstB p = p.k + (if npB p.sk = true then 64 else 0) + (if npB p.tk = true then 128 else 0)) := Lib.hid rfl
  generalize fstB p = F at *
  have e1 : IntKind.u8.wrap p.k = p.k := by rw [u8_mod]; omega
  obtain ⟨q0, q1, q2, q3, q4, q5, q6, q7, q8, q9, q10, q11, q12, q13, q14, q15, q16⟩ := id S0
  go_enter Tryd.func36, Tryd.ntmps36
  go_wp2_with fail
  generalize w.alloc (.cells (cel p V) 33) = W0 at *
  clear q0 q1 q2 q3 q4 q5 q6 q7 q8 q9 q10 q11 q12 q13 q14 q15 q16
  refine (HN.out _ _ W0).mono ?_
  rintro e w1 ⟨rfl, b1⟩
  have S1 := sev_below S0 b1
  have B1 := thenB B0 b1
  clear S0 B0 b1
  obtain ⟨r0, r1, r2, r3, r4, r5, r6, r7, r8, r9, r10, r11, r12, r13, r14, r15, r16⟩ := id S1
  have HN2 := Lib.hid (HN.out p.tk p.tb)
  generalize npB p.sk = P1 at *
  generalize npB p.tk = P2 at *
  cases P1
  all_goals
    go_wp2_with fail
    refine (HN2.out w1).mono ?_
    rintro e w2 ⟨rfl, b2⟩
    cases P2
    all_goals
      go_wp2_with fail
      go_ret
      exact ⟨Ser.ret_int (by rw [HF.out]; simp), thenB B1 b2⟩
theorem fst_doc (p : Pd) (hs : p.sk ≠ 0) (ht : tgtB p.k = true → p.tk ≠ 0) (ht0 : tgtB p.k = false → p.tk = 0) : fstB p = p.k + (if (p.sk != 1) = true then 64 else 0) + (if (tgtB p.k && p.tk != 1) = true then 128 else 0) := by
  unfold fstB npB
  have e1 : (p.sk != 0) = true := by simpa using hs
  rw [e1, Bool.true_and]
  cases h : tgtB p.k with
  | true =>
    have e2 : (p.tk != 0) = true := by simpa using ht h
    rw [e2]; try rfl
  | false =>
    have e2 : (p.tk != 0) = false := by simpa using ht0 h
    rw [e2]; try simp
set_option maxHeartbeats 2000000 in
theorem rfirst_any (p : Pd) (V : Value) (w : World) (hk : 0 ≤ p.k ∧ p.k ≤ 6) (X : Int) (hX : p.k + (if (p.sk != 1) = true then 64 else 0) + (if (tgtB p.k && p.tk != 1) = true then 128 else 0) = X) :
    Calls Tryd.prog 39 #[.agg (cel p V)] w fun e w' => e = .returned (.int .u8 X) ∧ Below w.heap.size w w' := by
  have B0 : Below w.heap.size w (w.alloc (.cells (cel p V) 33)) := (Below.refl _ _).alloc (Nat.le_refl _) _
  have S0 := sev_new w p V
  have HX := Lib.hid hX
  clear hX
  have HT := Lib.hid (fun w => hastarget_any p.k w)
  have e1 : IntKind.u8.wrap p.k = p.k := by rw [u8_mod]; omega
  have e2 : IntKind.u8.wrap (p.k + 64) = p.k + 64 := by rw [u8_mod]; omega
  have e3 : IntKind.u8.wrap (p.k + 128) = p.k + 128 := by rw [u8_mod]; omega
  have e4 : IntKind.u8.wrap (p.k + 64 + 128) = p.k + 64 + 128 := by rw [u8_mod]; omega
  obtain ⟨q0, q1, q2, q3, q4, q5, q6, q7, q8, q9, q10, q11, q12, q13, q14, q15, q16⟩ := id S0
  generalize tgtB p.k = T at *
  generalize hs1 : (p.sk != 1) = P1 at *
  generalize ht1 : (p.tk != 1) = P2 at *
  cases P1
  all_goals
    cases T
    · have HZ := Lib.hid HX.out
      go_enter Tryd.func39, Tryd.ntmps39
      go_wp2_with (go_at_call 31; refine (HT.out _).mono ?_; rintro e w' ⟨rfl, rfl⟩)
      go_ret
      exact ⟨Ser.ret_int (by rw [← HX.out]; simp), B0⟩
    · cases P2
      all_goals
        go_enter Tryd.func39, Tryd.ntmps39
        go_wp2_with (go_at_call 31; refine (HT.out _).mono ?_; rintro e w' ⟨rfl, rfl⟩)
        go_ret
        exact ⟨Ser.ret_int (by rw [← HX.out]; simp), B0⟩
end Go.Proofs.YtcjlliilfecmnaaDoor.Ap

end
