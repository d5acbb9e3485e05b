/- Advertising PDUs: what follows the addresses, by the layer: contracts over the program. Advertising PDUs: the parameters that follow the addresses, by the layer: contracts over the program. -/
import Derived.Test.YtcjlliilfecmnaaDoorKApDecA
import Derived.Deep.CutRange
section
set_option linter.unusedVariables false
set_option linter.unusedSimpArgs false
namespace Go.Proofs.YtcjlliilfecmnaaDoor.Ap
open Go.RowKit Mem Oct
open Base (thenB)

/-- A PDU with parameters, with data. -/
def withC (k sk sb tk tb : Int) (ns : List Int) : Pd := ⟨k, sk, sb, tk, tb, [], ns.getD 0 0, ns.getD 1 0, ns.getD 2 0, ns.getD 3 0, ns.getD 4 0, ns.getD 5 0, ns.getD 6 0, (ns.getD 7 0).toNat, ns.getD 8 0, ns.getD 9 0, ns.getD 10 0⟩
def withD (k sk sb tk tb : Int) (L : List Int) : Pd := ⟨k, sk, sb, tk, tb, L, 0, 0, 0, 0, 0, 0, 0, 0, 0, 0, 0⟩
/-- What follows the addresses. -/
def cmpl (k sk sb tk tb : Int) (L : List Int) : Pd × Int :=
  if conB k = true then (withC k sk sb tk tb (Cn.decR L).1, (Cn.decR L).2) else if datB k = true then (withD k sk sb tk tb L, dE true L.length) else if 0 < L.length then (adrP k sk sb tk tb, 2) else (adrP k sk sb tk tb, 0)
def CPd (w w' : World) (e : Ending) (r : Pd × Int) (A : Option Addr) (n c : Nat) (L : List Int) : Prop :=
  ∃ V, e = .returned (.tuple #[.agg (cel r.1 V), .int .i64 r.2]) ∧ ((V = .slice none 0 0 ∧ r.1.ds = []) ∨ (V = .slice A n c ∧ r.1.ds = L)) ∧ Below w.heap.size w w'
theorem conn_set {X : World} {g : Nat} {t : TypeId} {z0 z1 z2 z3 z4 z5 z6 z7 z8 z9 z10 z11 z12 z13 z14 z15 z16 : Value} (v6 v7 v8 v9 v10 v11 v12 v13 v14 v15 v16 : Value) (h : Blk X g t #[z0, z1, z2, z3, z4, z5, z6, z7, z8, z9, z10, z11, z12, z13, z14, z15, z16]) : Blk (((((((((((X.setCell ⟨g, 6, none⟩ v6).setCell ⟨g, 7, none⟩ v7).setCell ⟨g, 8, none⟩ v8).setCell ⟨g, 9, none⟩ v9).setCell ⟨g, 10, none⟩ v10).setCell ⟨g, 11, none⟩ v11).setCell ⟨g, 12, none⟩ v12).setCell ⟨g, 13, none⟩ v13).setCell ⟨g, 14, none⟩ v14).setCell ⟨g, 15, none⟩ v15).setCell ⟨g, 16, none⟩ v16) g t #[z0, z1, z2, z3, z4, z5, v6, v7, v8, v9, v10, v11, v12, v13, v14, v15, v16] := by
  have := (Cn.blk_setc (Cn.blk_setc (Cn.blk_setc (Cn.blk_setc (Cn.blk_setc (Cn.blk_setc (Cn.blk_setc (Cn.blk_setc (Cn.blk_setc (Cn.blk_setc (Cn.blk_setc h 6 v6) 7 v7) 8 v8) 9 v9) 10 v10) 11 v11) 12 v12) 13 v13) 14 v14) 15 v15) 16 v16)
  simpa using this
theorem conn_other {X : World} {g g' : Nat} {t : TypeId} {cs : Array Value} (v6 v7 v8 v9 v10 v11 v12 v13 v14 v15 v16 : Value) (h : Blk X g' t cs) (hne : g ≠ g') : Blk (((((((((((X.setCell ⟨g, 6, none⟩ v6).setCell ⟨g, 7, none⟩ v7).setCell ⟨g, 8, none⟩ v8).setCell ⟨g, 9, none⟩ v9).setCell ⟨g, 10, none⟩ v10).setCell ⟨g, 11, none⟩ v11).setCell ⟨g, 12, none⟩ v12).setCell ⟨g, 13, none⟩ v13).setCell ⟨g, 14, none⟩ v14).setCell ⟨g, 15, none⟩ v15).setCell ⟨g, 16, none⟩ v16) g' t cs :=
  (bother (bother (bother (bother (bother (bother (bother (bother (bother (bother (bother h hne _) hne _) hne _) hne _) hne _) hne _) hne _) hne _) hne _) hne _) hne _)
theorem conn_below {W X : World} {B g : Nat} (v6 v7 v8 v9 v10 v11 v12 v13 v14 v15 v16 : Value) (b : Below B W X) (hg : B ≤ g) : Below B W (((((((((((X.setCell ⟨g, 6, none⟩ v6).setCell ⟨g, 7, none⟩ v7).setCell ⟨g, 8, none⟩ v8).setCell ⟨g, 9, none⟩ v9).setCell ⟨g, 10, none⟩ v10).setCell ⟨g, 11, none⟩ v11).setCell ⟨g, 12, none⟩ v12).setCell ⟨g, 13, none⟩ v13).setCell ⟨g, 14, none⟩ v14).setCell ⟨g, 15, none⟩ v15).setCell ⟨g, 16, none⟩ v16) :=
  (((((((((((b.setCell (p := ⟨g, 6, none⟩) hg _).setCell (p := ⟨g, 7, none⟩) hg _).setCell (p := ⟨g, 8, none⟩) hg _).setCell (p := ⟨g, 9, none⟩) hg _).setCell (p := ⟨g, 10, none⟩) hg _).setCell (p := ⟨g, 11, none⟩) hg _).setCell (p := ⟨g, 12, none⟩) hg _).setCell (p := ⟨g, 13, none⟩) hg _).setCell (p := ⟨g, 14, none⟩) hg _).setCell (p := ⟨g, 15, none⟩) hg _).setCell (p := ⟨g, 16, none⟩) hg _)
theorem step_store_row {P : Program} {ops : Array Oper} {o : Oper} {a : Act} {w : World} {K : Act → World → Prop} {Q : Exit → Act → World → Prop} {E : Prop} (hgd : o.guard = none) (ty : TypeId) (x y : Operand) (ho : o.op = .store ty x y)
    (g : Nat) (cells : Array Value) (hx : a.eval x = .pointer (some ⟨g, 0, none⟩)) (hy : a.eval y = .agg cells)
    (t : TypeId) (old : Array Value) (hg : w.heap[g]? = some (.cells old t (0, 0))) (hi : (P.info? ty).map (·.size) = some cells.size)
    (hold : old.size = cells.size) (h1 : cells.all (·.oneCell') = true)
    (h : K (a.put o.dst undef) (w.setRow g cells)) : if Region.wanted o (yielded ops a.tmps) = true then Oper.wp P o a w K Q else E := by
  have hw : Region.wanted o (yielded ops a.tmps) = true := by simp [Region.wanted, hgd]
  rw [if_pos hw]
  exact wp_store_row ty x y ho g cells hx hy t old hg hi hold h1 h
set_option maxRecDepth 100000 in
set_option maxHeartbeats 4000000 in
theorem complete_none (k sk sb tk tb : Int) (A : Option Addr) (n c : Nat) (L : List Int) (w : World) (hx : L.length = n) (hC : conB k = false) (hD : datB k = false) :
    Calls Tryd.prog 42 #[.agg #[.int .i64 k, .int .i64 sk, .int .u64 sb, .int .i64 tk, .int .u64 tb, .slice none 0 0, .int .u32 0, .int .u32 0, .int .i64 0, .int .i64 0, .int .i64 0, .int .i64 0, .int .i64 0, .int .u64 0, .int .i64 0, .int .i64 0, .int .i64 0], .slice A n c] w fun e w' => CPd w w' e (cmpl k sk sb tk tb L) A n c L := by
  have BX : Below w.heap.size w ((w.alloc (.cells #[.int .i64 k, .int .i64 sk, .int .u64 sb, .int .i64 tk, .int .u64 tb, .slice none 0 0, .int .u32 0, .int .u32 0, .int .i64 0, .int .i64 0, .int .i64 0, .int .i64 0, .int .i64 0, .int .u64 0, .int .i64 0, .int .i64 0, .int .i64 0] 33)).alloc (.cells #[.int .i64 0, .int .i64 0, .int .u64 0, .int .i64 0, .int .u64 0, .slice none 0 0, .int .u32 0, .int .u32 0, .int .i64 0, .int .i64 0, .int .i64 0, .int .i64 0, .int .i64 0, .int .u64 0, .int .i64 0, .int .i64 0, .int .i64 0] 33)) := ((Below.refl _ _).alloc (Nat.le_refl _) _).alloc (by simp) _
  have K2 : Blk ((w.alloc (.cells #[.int .i64 k, .int .i64 sk, .int .u64 sb, .int .i64 tk, .int .u64 tb, .slice none 0 0, .int .u32 0, .int .u32 0, .int .i64 0, .int .i64 0, .int .i64 0, .int .i64 0, .int .i64 0, .int .u64 0, .int .i64 0, .int .i64 0, .int .i64 0] 33)).alloc (.cells #[.int .i64 0, .int .i64 0, .int .u64 0, .int .i64 0, .int .u64 0, .slice none 0 0, .int .u32 0, .int .u32 0, .int .i64 0, .int .i64 0, .int .i64 0, .int .i64 0, .int .i64 0, .int .u64 0, .int .i64 0, .int .i64 0, .int .i64 0] 33)) w.heap.size 33 #[.int .i64 k, .int .i64 sk, .int .u64 sb, .int .i64 tk, .int .u64 tb, .slice none 0 0, .int .u32 0, .int .u32 0, .int .i64 0, .int .i64 0, .int .i64 0, .int .i64 0, .int .i64 0, .int .u64 0, .int .i64 0, .int .i64 0, .int .i64 0] := (Blk.fresh w 33 #[.int .i64 k, .int .i64 sk, .int .u64 sb, .int .i64 tk, .int .u64 tb, .slice none 0 0, .int .u32 0, .int .u32 0, .int .i64 0, .int .i64 0, .int .i64 0, .int .i64 0, .int .i64 0, .int .u64 0, .int .i64 0, .int .i64 0, .int .i64 0]).alloc _
  have K4 : Blk ((w.alloc (.cells #[.int .i64 k, .int .i64 sk, .int .u64 sb, .int .i64 tk, .int .u64 tb, .slice none 0 0, .int .u32 0, .int .u32 0, .int .i64 0, .int .i64 0, .int .i64 0, .int .i64 0, .int .i64 0, .int .u64 0, .int .i64 0, .int .i64 0, .int .i64 0] 33)).alloc (.cells #[.int .i64 0, .int .i64 0, .int .u64 0, .int .i64 0, .int .u64 0, .slice none 0 0, .int .u32 0, .int .u32 0, .int .i64 0, .int .i64 0, .int .i64 0, .int .i64 0, .int .i64 0, .int .u64 0, .int .i64 0, .int .i64 0, .int .i64 0] 33)) (w.heap.size + 1) 33 #[.int .i64 0, .int .i64 0, .int .u64 0, .int .i64 0, .int .u64 0, .slice none 0 0, .int .u32 0, .int .u32 0, .int .i64 0, .int .i64 0, .int .i64 0, .int .i64 0, .int .i64 0, .int .u64 0, .int .i64 0, .int .i64 0, .int .i64 0] := by
    have := Blk.fresh (w.alloc (.cells #[.int .i64 k, .int .i64 sk, .int .u64 sb, .int .i64 tk, .int .u64 tb, .slice none 0 0, .int .u32 0, .int .u32 0, .int .i64 0, .int .i64 0, .int .i64 0, .int .i64 0, .int .i64 0, .int .u64 0, .int .i64 0, .int .i64 0, .int .i64 0] 33)) 33 #[.int .i64 0, .int .i64 0, .int .u64 0, .int .i64 0, .int .u64 0, .slice none 0 0, .int .u32 0, .int .u32 0, .int .i64 0, .int .i64 0, .int .i64 0, .int .i64 0, .int .i64 0, .int .u64 0, .int .i64 0, .int .i64 0, .int .i64 0]
    simpa using this
  have HP := Lib.hid (fun w => parts_any k w)
  have HR : Hid (cmpl k sk sb tk tb L = if 0 < n then (adrP k sk sb tk tb, 2) else (adrP k sk sb tk tb, 0)) := Lib.hid (by unfold cmpl; rw [hC, hD, hx]; rfl)
  generalize cmpl k sk sb tk tb L = R at *
  rw [hC, hD] at HP
  clear hC hD hx
  generalize tgtB k = T at *
  generalize knoB k = KN at *
  by_cases h0 : 0 < n
  · have HZ : Hid (R = (adrP k sk sb tk tb, 2)) := Lib.hid (by rw [HR.out, if_pos h0])
    have g0 : (0 : Int) < (n : Int) := by omega
    have u0 := K2.cell 0
    go_enter Tryd.func42, Tryd.ntmps42
    go_wp2_with fail
    generalize (w.alloc (.cells #[.int .i64 k, .int .i64 sk, .int .u64 sb, .int .i64 tk, .int .u64 tb, .slice none 0 0, .int .u32 0, .int .u32 0, .int .i64 0, .int .i64 0, .int .i64 0, .int .i64 0, .int .i64 0, .int .u64 0, .int .i64 0, .int .i64 0, .int .i64 0] 33)).alloc (.cells #[.int .i64 0, .int .i64 0, .int .u64 0, .int .i64 0, .int .u64 0, .slice none 0 0, .int .u32 0, .int .u32 0, .int .i64 0, .int .i64 0, .int .i64 0, .int .i64 0, .int .i64 0, .int .u64 0, .int .i64 0, .int .i64 0, .int .i64 0] 33) = W0 at *
    clear u0
    refine (HP.out W0).mono ?_
    rintro e w1 ⟨rfl, b1⟩
    have BX := thenB BX b1
    have K2 := K2.below b1 K2.lt
    have K4 := K4.below b1 K4.lt
    have P1 := Blk.fresh w1 50 #[.bool T, .bool false, .bool false]
    have hgp : w.heap.size + 1 < w1.heap.size := K4.lt
    have BX := BX.alloc BX.size (.cells #[.bool T, .bool false, .bool false] 50)
    have K2 := K2.alloc (.cells #[.bool T, .bool false, .bool false] 50)
    have K4 := K4.alloc (.cells #[.bool T, .bool false, .bool false] 50)
    clear b1
    have t0 := P1.cell 0
    have t1 := P1.cell 1
    have t2 := P1.cell 2
    go_upto_region 10 with (fail)
    generalize w1.alloc (.cells #[.bool T, .bool false, .bool false] 50) = X1 at *
    clear t0 t1 t2 P1
    have H1 : (#[.int .i64 k, .int .i64 sk, .int .u64 sb, .int .i64 tk, .int .u64 tb, .slice none 0 0, .int .u32 0, .int .u32 0, .int .i64 0, .int .i64 0, .int .i64 0, .int .i64 0, .int .i64 0, .int .u64 0, .int .i64 0, .int .i64 0, .int .i64 0] : Array Value).all (·.oneCell') = true := by rw [← Array.all_toList]; rfl
    go_wp2_with (first | (refine wpList_store_row rfl 33 (.tmp 4) _ rfl (w.heap.size + 1) #[.int .i64 k, .int .i64 sk, .int .u64 sb, .int .i64 tk, .int .u64 tb, .slice none 0 0, .int .u32 0, .int .u32 0, .int .i64 0, .int .i64 0, .int .i64 0, .int .i64 0, .int .i64 0, .int .u64 0, .int .i64 0, .int .i64 0, .int .i64 0] rfl rfl 33 _ K4 (by kernel_rfl) rfl H1 ?_) | (refine wpList_load_row rfl 33 (.tmp 2) rfl w.heap.size rfl 33 _ (0, 0) _ K2 Tryd.underlying33 rfl (by kernel_rfl) ?_))
    have KR : Blk (X1.setRow (w.heap.size + 1) #[.int .i64 k, .int .i64 sk, .int .u64 sb, .int .i64 tk, .int .u64 tb, .slice none 0 0, .int .u32 0, .int .u32 0, .int .i64 0, .int .i64 0, .int .i64 0, .int .i64 0, .int .i64 0, .int .u64 0, .int .i64 0, .int .i64 0, .int .i64 0]) (w.heap.size + 1) 33 #[.int .i64 k, .int .i64 sk, .int .u64 sb, .int .i64 tk, .int .u64 tb, .slice none 0 0, .int .u32 0, .int .u32 0, .int .i64 0, .int .i64 0, .int .i64 0, .int .i64 0, .int .i64 0, .int .u64 0, .int .i64 0, .int .i64 0, .int .i64 0] := setRow_heap X1 (w.heap.size + 1) _ #[.int .i64 k, .int .i64 sk, .int .u64 sb, .int .i64 tk, .int .u64 tb, .slice none 0 0, .int .u32 0, .int .u32 0, .int .i64 0, .int .i64 0, .int .i64 0, .int .i64 0, .int .i64 0, .int .u64 0, .int .i64 0, .int .i64 0, .int .i64 0] 33 (0, 0) K4
    have BE := below_setRow BX (Nat.le_succ _) #[.int .i64 k, .int .i64 sk, .int .u64 sb, .int .i64 tk, .int .u64 tb, .slice none 0 0, .int .u32 0, .int .u32 0, .int .i64 0, .int .i64 0, .int .i64 0, .int .i64 0, .int .i64 0, .int .u64 0, .int .i64 0, .int .i64 0, .int .i64 0]
    generalize X1.setRow (w.heap.size + 1) #[.int .i64 k, .int .i64 sk, .int .u64 sb, .int .i64 tk, .int .u64 tb, .slice none 0 0, .int .u32 0, .int .u32 0, .int .i64 0, .int .i64 0, .int .i64 0, .int .i64 0, .int .i64 0, .int .u64 0, .int .i64 0, .int .i64 0, .int .i64 0] = Y at *
    refine bodyPost_ret (v := .tuple #[.agg #[.int .i64 k, .int .i64 sk, .int .u64 sb, .int .i64 tk, .int .u64 tb, .slice none 0 0, .int .u32 0, .int .u32 0, .int .i64 0, .int .i64 0, .int .i64 0, .int .i64 0, .int .i64 0, .int .u64 0, .int .i64 0, .int .i64 0, .int .i64 0], .int .i64 2]) ?_ rfl ⟨.slice none 0 0, (by rw [HZ.out]; try rfl), by rw [HZ.out]; exact .inl ⟨rfl, rfl⟩, BE⟩
    have HL := run_loadVar_row (P := Tryd.prog) Y (w.heap.size + 1) 33 33 #[.int .i64 k, .int .i64 sk, .int .u64 sb, .int .i64 tk, .int .u64 tb, .slice none 0 0, .int .u32 0, .int .u32 0, .int .i64 0, .int .i64 0, .int .i64 0, .int .i64 0, .int .i64 0, .int .u64 0, .int .i64 0, .int .i64 0, .int .i64 0] (0, 0) _ KR Tryd.underlying33 rfl (by kernel_rfl)
    generalize (#[.int .i64 k, .int .i64 sk, .int .u64 sb, .int .i64 tk, .int .u64 tb, .slice none 0 0, .int .u32 0, .int .u32 0, .int .i64 0, .int .i64 0, .int .i64 0, .int .i64 0, .int .i64 0, .int .u64 0, .int .i64 0, .int .i64 0, .int .i64 0] : Array Value) = CS at *
    simp [results, show (Tryd.f42).results = #[.cell 4 33, .slot 5] from rfl, asAddr, HL]
  · have HZ : Hid (R = (adrP k sk sb tk tb, 0)) := Lib.hid (by rw [HR.out, if_neg h0])
    have g0 : ¬ (0 : Int) < (n : Int) := by omega
    have u0 := K2.cell 0
    go_enter Tryd.func42, Tryd.ntmps42
    go_wp2_with fail
    generalize (w.alloc (.cells #[.int .i64 k, .int .i64 sk, .int .u64 sb, .int .i64 tk, .int .u64 tb, .slice none 0 0, .int .u32 0, .int .u32 0, .int .i64 0, .int .i64 0, .int .i64 0, .int .i64 0, .int .i64 0, .int .u64 0, .int .i64 0, .int .i64 0, .int .i64 0] 33)).alloc (.cells #[.int .i64 0, .int .i64 0, .int .u64 0, .int .i64 0, .int .u64 0, .slice none 0 0, .int .u32 0, .int .u32 0, .int .i64 0, .int .i64 0, .int .i64 0, .int .i64 0, .int .i64 0, .int .u64 0, .int .i64 0, .int .i64 0, .int .i64 0] 33) = W0 at *
    clear u0
    refine (HP.out W0).mono ?_
    rintro e w1 ⟨rfl, b1⟩
    have BX := thenB BX b1
    have K2 := K2.below b1 K2.lt
    have K4 := K4.below b1 K4.lt
    have P1 := Blk.fresh w1 50 #[.bool T, .bool false, .bool false]
    have hgp : w.heap.size + 1 < w1.heap.size := K4.lt
    have BX := BX.alloc BX.size (.cells #[.bool T, .bool false, .bool false] 50)
    have K2 := K2.alloc (.cells #[.bool T, .bool false, .bool false] 50)
    have K4 := K4.alloc (.cells #[.bool T, .bool false, .bool false] 50)
    clear b1
    have t0 := P1.cell 0
    have t1 := P1.cell 1
    have t2 := P1.cell 2
    go_upto_region 11 with (fail)
    generalize w1.alloc (.cells #[.bool T, .bool false, .bool false] 50) = X1 at *
    clear t0 t1 t2 P1
    have H1 : (#[.int .i64 k, .int .i64 sk, .int .u64 sb, .int .i64 tk, .int .u64 tb, .slice none 0 0, .int .u32 0, .int .u32 0, .int .i64 0, .int .i64 0, .int .i64 0, .int .i64 0, .int .i64 0, .int .u64 0, .int .i64 0, .int .i64 0, .int .i64 0] : Array Value).all (·.oneCell') = true := by rw [← Array.all_toList]; rfl
    go_wp2_with (first | (refine wpList_store_row rfl 33 (.tmp 4) _ rfl (w.heap.size + 1) #[.int .i64 k, .int .i64 sk, .int .u64 sb, .int .i64 tk, .int .u64 tb, .slice none 0 0, .int .u32 0, .int .u32 0, .int .i64 0, .int .i64 0, .int .i64 0, .int .i64 0, .int .i64 0, .int .u64 0, .int .i64 0, .int .i64 0, .int .i64 0] rfl rfl 33 _ K4 (by kernel_rfl) rfl H1 ?_) | (refine wpList_load_row rfl 33 (.tmp 2) rfl w.heap.size rfl 33 _ (0, 0) _ K2 Tryd.underlying33 rfl (by kernel_rfl) ?_))
    have KR : Blk (X1.setRow (w.heap.size + 1) #[.int .i64 k, .int .i64 sk, .int .u64 sb, .int .i64 tk, .int .u64 tb, .slice none 0 0, .int .u32 0, .int .u32 0, .int .i64 0, .int .i64 0, .int .i64 0, .int .i64 0, .int .i64 0, .int .u64 0, .int .i64 0, .int .i64 0, .int .i64 0]) (w.heap.size + 1) 33 #[.int .i64 k, .int .i64 sk, .int .u64 sb, .int .i64 tk, .int .u64 tb, .slice none 0 0, .int .u32 0, .int .u32 0, .int .i64 0, .int .i64 0, .int .i64 0, .int .i64 0, .int .i64 0, .int .u64 0, .int .i64 0, .int .i64 0, .int .i64 0] := setRow_heap X1 (w.heap.size + 1) _ #[.int .i64 k, .int .i64 sk, .int .u64 sb, .int .i64 tk, .int .u64 tb, .slice none 0 0, .int .u32 0, .int .u32 0, .int .i64 0, .int .i64 0, .int .i64 0, .int .i64 0, .int .i64 0, .int .u64 0, .int .i64 0, .int .i64 0, .int .i64 0] 33 (0, 0) K4
    have BE := below_setRow BX (Nat.le_succ _) #[.int .i64 k, .int .i64 sk, .int .u64 sb, .int .i64 tk, .int .u64 tb, .slice none 0 0, .int .u32 0, .int .u32 0, .int .i64 0, .int .i64 0, .int .i64 0, .int .i64 0, .int .i64 0, .int .u64 0, .int .i64 0, .int .i64 0, .int .i64 0]
    generalize X1.setRow (w.heap.size + 1) #[.int .i64 k, .int .i64 sk, .int .u64 sb, .int .i64 tk, .int .u64 tb, .slice none 0 0, .int .u32 0, .int .u32 0, .int .i64 0, .int .i64 0, .int .i64 0, .int .i64 0, .int .i64 0, .int .u64 0, .int .i64 0, .int .i64 0, .int .i64 0] = Y at *
    refine bodyPost_ret (v := .tuple #[.agg #[.int .i64 k, .int .i64 sk, .int .u64 sb, .int .i64 tk, .int .u64 tb, .slice none 0 0, .int .u32 0, .int .u32 0, .int .i64 0, .int .i64 0, .int .i64 0, .int .i64 0, .int .i64 0, .int .u64 0, .int .i64 0, .int .i64 0, .int .i64 0], .int .i64 0]) ?_ rfl ⟨.slice none 0 0, (by rw [HZ.out]; try rfl), by rw [HZ.out]; exact .inl ⟨rfl, rfl⟩, BE⟩
    have HL := run_loadVar_row (P := Tryd.prog) Y (w.heap.size + 1) 33 33 #[.int .i64 k, .int .i64 sk, .int .u64 sb, .int .i64 tk, .int .u64 tb, .slice none 0 0, .int .u32 0, .int .u32 0, .int .i64 0, .int .i64 0, .int .i64 0, .int .i64 0, .int .i64 0, .int .u64 0, .int .i64 0, .int .i64 0, .int .i64 0] (0, 0) _ KR Tryd.underlying33 rfl (by kernel_rfl)
    generalize (#[.int .i64 k, .int .i64 sk, .int .u64 sb, .int .i64 tk, .int .u64 tb, .slice none 0 0, .int .u32 0, .int .u32 0, .int .i64 0, .int .i64 0, .int .i64 0, .int .i64 0, .int .i64 0, .int .u64 0, .int .i64 0, .int .i64 0, .int .i64 0] : Array Value) = CS at *
    simp [results, show (Tryd.f42).results = #[.cell 4 33, .slot 5] from rfl, asAddr, HL]
end Go.Proofs.YtcjlliilfecmnaaDoor.Ap

end
section
set_option linter.unusedVariables false
set_option linter.unusedSimpArgs false
namespace Go.Proofs.YtcjlliilfecmnaaDoor.Ap
open Go.RowKit Mem Oct
open Base (thenB)

set_option maxRecDepth 100000 in
set_option maxHeartbeats 4000000 in
theorem complete_conn (k sk sb tk tb : Int) (A : Option Addr) (n c : Nat) (L : List Int) (w : World) (hx : L.length = n) (hnc : n ≤ c) (hn : n ≤ 1000) (bL : Bytes L) (hr : Ints .u8 w w.heap.size A L) (hC : conB k = true) :
    Calls Tryd.prog 42 #[.agg #[.int .i64 k, .int .i64 sk, .int .u64 sb, .int .i64 tk, .int .u64 tb, .slice none 0 0, .int .u32 0, .int .u32 0, .int .i64 0, .int .i64 0, .int .i64 0, .int .i64 0, .int .i64 0, .int .u64 0, .int .i64 0, .int .i64 0, .int .i64 0], .slice A n c] w fun e w' => CPd w w' e (cmpl k sk sb tk tb L) A n c L := by
  have BX : Below w.heap.size w ((w.alloc (.cells #[.int .i64 k, .int .i64 sk, .int .u64 sb, .int .i64 tk, .int .u64 tb, .slice none 0 0, .int .u32 0, .int .u32 0, .int .i64 0, .int .i64 0, .int .i64 0, .int .i64 0, .int .i64 0, .int .u64 0, .int .i64 0, .int .i64 0, .int .i64 0] 33)).alloc (.cells #[.int .i64 0, .int .i64 0, .int .u64 0, .int .i64 0, .int .u64 0, .slice none 0 0, .int .u32 0, .int .u32 0, .int .i64 0, .int .i64 0, .int .i64 0, .int .i64 0, .int .i64 0, .int .u64 0, .int .i64 0, .int .i64 0, .int .i64 0] 33)) := ((Below.refl _ _).alloc (Nat.le_refl _) _).alloc (by simp) _
  have K2 : Blk ((w.alloc (.cells #[.int .i64 k, .int .i64 sk, .int .u64 sb, .int .i64 tk, .int .u64 tb, .slice none 0 0, .int .u32 0, .int .u32 0, .int .i64 0, .int .i64 0, .int .i64 0, .int .i64 0, .int .i64 0, .int .u64 0, .int .i64 0, .int .i64 0, .int .i64 0] 33)).alloc (.cells #[.int .i64 0, .int .i64 0, .int .u64 0, .int .i64 0, .int .u64 0, .slice none 0 0, .int .u32 0, .int .u32 0, .int .i64 0, .int .i64 0, .int .i64 0, .int .i64 0, .int .i64 0, .int .u64 0, .int .i64 0, .int .i64 0, .int .i64 0] 33)) w.heap.size 33 #[.int .i64 k, .int .i64 sk, .int .u64 sb, .int .i64 tk, .int .u64 tb, .slice none 0 0, .int .u32 0, .int .u32 0, .int .i64 0, .int .i64 0, .int .i64 0, .int .i64 0, .int .i64 0, .int .u64 0, .int .i64 0, .int .i64 0, .int .i64 0] := (Blk.fresh w 33 #[.int .i64 k, .int .i64 sk, .int .u64 sb, .int .i64 tk, .int .u64 tb, .slice none 0 0, .int .u32 0, .int .u32 0, .int .i64 0, .int .i64 0, .int .i64 0, .int .i64 0, .int .i64 0, .int .u64 0, .int .i64 0, .int .i64 0, .int .i64 0]).alloc _
  have K4 : Blk ((w.alloc (.cells #[.int .i64 k, .int .i64 sk, .int .u64 sb, .int .i64 tk, .int .u64 tb, .slice none 0 0, .int .u32 0, .int .u32 0, .int .i64 0, .int .i64 0, .int .i64 0, .int .i64 0, .int .i64 0, .int .u64 0, .int .i64 0, .int .i64 0, .int .i64 0] 33)).alloc (.cells #[.int .i64 0, .int .i64 0, .int .u64 0, .int .i64 0, .int .u64 0, .slice none 0 0, .int .u32 0, .int .u32 0, .int .i64 0, .int .i64 0, .int .i64 0, .int .i64 0, .int .i64 0, .int .u64 0, .int .i64 0, .int .i64 0, .int .i64 0] 33)) (w.heap.size + 1) 33 #[.int .i64 0, .int .i64 0, .int .u64 0, .int .i64 0, .int .u64 0, .slice none 0 0, .int .u32 0, .int .u32 0, .int .i64 0, .int .i64 0, .int .i64 0, .int .i64 0, .int .i64 0, .int .u64 0, .int .i64 0, .int .i64 0, .int .i64 0] := by
    have := Blk.fresh (w.alloc (.cells #[.int .i64 k, .int .i64 sk, .int .u64 sb, .int .i64 tk, .int .u64 tb, .slice none 0 0, .int .u32 0, .int .u32 0, .int .i64 0, .int .i64 0, .int .i64 0, .int .i64 0, .int .i64 0, .int .u64 0, .int .i64 0, .int .i64 0, .int .i64 0] 33)) 33 #[.int .i64 0, .int .i64 0, .int .u64 0, .int .i64 0, .int .u64 0, .slice none 0 0, .int .u32 0, .int .u32 0, .int .i64 0, .int .i64 0, .int .i64 0, .int .i64 0, .int .i64 0, .int .u64 0, .int .i64 0, .int .i64 0, .int .i64 0]
    simpa using this
  have HP := Lib.hid (fun w => parts_any k w)
  have HR : Hid (cmpl k sk sb tk tb L = (withC k sk sb tk tb (Cn.decR L).1, (Cn.decR L).2)) := Lib.hid (by unfold cmpl; rw [hC]; rfl)
  have HD : Hid (∀ w', Below w.heap.size w w' → Calls Tryd.prog 59 #[.slice A n c] w' fun e w2 => e = .returned (.tuple #[Cn.parN (Cn.decR L).1, .int .i64 (Cn.decR L).2]) ∧ Below w'.heap.size w' w2) := Lib.hid fun w' b => Cn.decode_any A n c L w' hx hnc (by omega) bL (Base.later hr b)
  generalize cmpl k sk sb tk tb L = R at *
  generalize (Cn.decR L).1 = ns at *
  generalize (Cn.decR L).2 = er at *
  have HPN : Hid (Cn.parN ns = .agg #[.int .u32 (ns.getD 0 0), .int .u32 (ns.getD 1 0), .int .i64 (ns.getD 2 0), .int .i64 (ns.getD 3 0), .int .i64 (ns.getD 4 0), .int .i64 (ns.getD 5 0), .int .i64 (ns.getD 6 0), .int .u64 ((ns.getD 7 0).toNat : Int), .int .i64 (ns.getD 8 0), .int .i64 (ns.getD 9 0), .int .i64 (ns.getD 10 0)]) := Lib.hid rfl
  rw [HPN.out] at HD
  rw [hC] at HP
  clear hC hx hr bL
  generalize tgtB k = T at *
  generalize datB k = D at *
  generalize knoB k = KN at *
  have HZ : Hid (R = ((⟨k, sk, sb, tk, tb, [], ns.getD 0 0, ns.getD 1 0, ns.getD 2 0, ns.getD 3 0, ns.getD 4 0, ns.getD 5 0, ns.getD 6 0, (ns.getD 7 0).toNat, ns.getD 8 0, ns.getD 9 0, ns.getD 10 0⟩ : Pd), er)) := HR
  clear HPN HR
  generalize (ns.getD 7 0).toNat = n7 at *
  generalize ns.getD 0 0 = n0 at *
  generalize ns.getD 1 0 = n1 at *
  generalize ns.getD 2 0 = n2 at *
  generalize ns.getD 3 0 = n3 at *
  generalize ns.getD 4 0 = n4 at *
  generalize ns.getD 5 0 = n5 at *
  generalize ns.getD 6 0 = n6 at *
  generalize ns.getD 8 0 = n8 at *
  generalize ns.getD 9 0 = n9 at *
  generalize ns.getD 10 0 = n10 at *
  have u0 := K2.cell 0
  go_enter Tryd.func42, Tryd.ntmps42
  go_wp2_with fail
  generalize (w.alloc (.cells #[.int .i64 k, .int .i64 sk, .int .u64 sb, .int .i64 tk, .int .u64 tb, .slice none 0 0, .int .u32 0, .int .u32 0, .int .i64 0, .int .i64 0, .int .i64 0, .int .i64 0, .int .i64 0, .int .u64 0, .int .i64 0, .int .i64 0, .int .i64 0] 33)).alloc (.cells #[.int .i64 0, .int .i64 0, .int .u64 0, .int .i64 0, .int .u64 0, .slice none 0 0, .int .u32 0, .int .u32 0, .int .i64 0, .int .i64 0, .int .i64 0, .int .i64 0, .int .i64 0, .int .u64 0, .int .i64 0, .int .i64 0, .int .i64 0] 33) = W0 at *
  clear u0
  refine (HP.out W0).mono ?_
  rintro e w1 ⟨rfl, b1⟩
  have BX := thenB BX b1
  have K2 := K2.below b1 K2.lt
  have K4 := K4.below b1 K4.lt
  have P1 := Blk.fresh w1 50 #[.bool T, .bool D, .bool true]
  have hgp : w.heap.size + 1 < w1.heap.size := K4.lt
  have BX := BX.alloc BX.size (.cells #[.bool T, .bool D, .bool true] 50)
  have K2 := K2.alloc (.cells #[.bool T, .bool D, .bool true] 50)
  have K4 := K4.alloc (.cells #[.bool T, .bool D, .bool true] 50)
  clear b1
  have t0 := P1.cell 0
  have t1 := P1.cell 1
  have t2 := P1.cell 2
  go_upto_region 3 with (fail)
  generalize w1.alloc (.cells #[.bool T, .bool D, .bool true] 50) = X1 at *
  clear t0 t1 t2 P1
  go_wp2_with fail
  refine (HD.out X1 BX).mono ?_
  rintro e w2 ⟨rfl, b2⟩
  have BX := thenB BX b2
  have K2 := K2.below b2 K2.lt
  have K4 := K4.below b2 K4.lt
  clear b2
  obtain ⟨u_0, u_1, u_2, u_3, u_4, u_5, u_6, u_7, u_8, u_9, u_10, u_11, u_12, u_13, u_14, u_15, u_16⟩ := pd_cells K2
  obtain ⟨f_0, f_1, f_2, f_3, f_4, f_5, f_6, f_7, f_8, f_9, f_10, f_11, f_12, f_13, f_14, f_15, f_16⟩ := pd_frz K2
  have h2 := K2.lt
  clear u_0 u_1 u_2 u_3 u_4 u_5 f_0 f_1 f_2 f_3 f_4 f_5
  go_upto_region 5 with (fail)
  clear u_6 u_7 u_8 u_9 u_10 u_11 u_12 u_13 u_14 u_15 u_16 f_6 f_7 f_8 f_9 f_10 f_11 f_12 f_13 f_14 f_15 f_16
  have K2 : Blk ((((((((((((w2.setCell ⟨w.heap.size, 6, none⟩ (.int .u32 n0)).setCell ⟨w.heap.size, 7, none⟩ (.int .u32 n1)).setCell ⟨w.heap.size, 8, none⟩ (.int .i64 n2)).setCell ⟨w.heap.size, 9, none⟩ (.int .i64 n3)).setCell ⟨w.heap.size, 10, none⟩ (.int .i64 n4)).setCell ⟨w.heap.size, 11, none⟩ (.int .i64 n5)).setCell ⟨w.heap.size, 12, none⟩ (.int .i64 n6)).setCell ⟨w.heap.size, 13, none⟩ (.int .u64 (n7 : Int))).setCell ⟨w.heap.size, 14, none⟩ (.int .i64 n8)).setCell ⟨w.heap.size, 15, none⟩ (.int .i64 n9)).setCell ⟨w.heap.size, 16, none⟩ (.int .i64 n10)).alloc (.cells #[.int .u32 n0, .int .u32 n1, .int .i64 n2, .int .i64 n3, .int .i64 n4, .int .i64 n5, .int .i64 n6, .int .u64 (n7 : Int), .int .i64 n8, .int .i64 n9, .int .i64 n10] 31)) w.heap.size 33 #[.int .i64 k, .int .i64 sk, .int .u64 sb, .int .i64 tk, .int .u64 tb, .slice none 0 0, .int .u32 n0, .int .u32 n1, .int .i64 n2, .int .i64 n3, .int .i64 n4, .int .i64 n5, .int .i64 n6, .int .u64 (n7 : Int), .int .i64 n8, .int .i64 n9, .int .i64 n10] := (conn_set (.int .u32 n0) (.int .u32 n1) (.int .i64 n2) (.int .i64 n3) (.int .i64 n4) (.int .i64 n5) (.int .i64 n6) (.int .u64 (n7 : Int)) (.int .i64 n8) (.int .i64 n9) (.int .i64 n10) K2).alloc _
  have K4 : Blk ((((((((((((w2.setCell ⟨w.heap.size, 6, none⟩ (.int .u32 n0)).setCell ⟨w.heap.size, 7, none⟩ (.int .u32 n1)).setCell ⟨w.heap.size, 8, none⟩ (.int .i64 n2)).setCell ⟨w.heap.size, 9, none⟩ (.int .i64 n3)).setCell ⟨w.heap.size, 10, none⟩ (.int .i64 n4)).setCell ⟨w.heap.size, 11, none⟩ (.int .i64 n5)).setCell ⟨w.heap.size, 12, none⟩ (.int .i64 n6)).setCell ⟨w.heap.size, 13, none⟩ (.int .u64 (n7 : Int))).setCell ⟨w.heap.size, 14, none⟩ (.int .i64 n8)).setCell ⟨w.heap.size, 15, none⟩ (.int .i64 n9)).setCell ⟨w.heap.size, 16, none⟩ (.int .i64 n10)).alloc (.cells #[.int .u32 n0, .int .u32 n1, .int .i64 n2, .int .i64 n3, .int .i64 n4, .int .i64 n5, .int .i64 n6, .int .u64 (n7 : Int), .int .i64 n8, .int .i64 n9, .int .i64 n10] 31)) (w.heap.size + 1) 33 #[.int .i64 0, .int .i64 0, .int .u64 0, .int .i64 0, .int .u64 0, .slice none 0 0, .int .u32 0, .int .u32 0, .int .i64 0, .int .i64 0, .int .i64 0, .int .i64 0, .int .i64 0, .int .u64 0, .int .i64 0, .int .i64 0, .int .i64 0] := (conn_other (.int .u32 n0) (.int .u32 n1) (.int .i64 n2) (.int .i64 n3) (.int .i64 n4) (.int .i64 n5) (.int .i64 n6) (.int .u64 (n7 : Int)) (.int .i64 n8) (.int .i64 n9) (.int .i64 n10) K4 (by omega)).alloc _
  have BX : Below w.heap.size w ((((((((((((w2.setCell ⟨w.heap.size, 6, none⟩ (.int .u32 n0)).setCell ⟨w.heap.size, 7, none⟩ (.int .u32 n1)).setCell ⟨w.heap.size, 8, none⟩ (.int .i64 n2)).setCell ⟨w.heap.size, 9, none⟩ (.int .i64 n3)).setCell ⟨w.heap.size, 10, none⟩ (.int .i64 n4)).setCell ⟨w.heap.size, 11, none⟩ (.int .i64 n5)).setCell ⟨w.heap.size, 12, none⟩ (.int .i64 n6)).setCell ⟨w.heap.size, 13, none⟩ (.int .u64 (n7 : Int))).setCell ⟨w.heap.size, 14, none⟩ (.int .i64 n8)).setCell ⟨w.heap.size, 15, none⟩ (.int .i64 n9)).setCell ⟨w.heap.size, 16, none⟩ (.int .i64 n10)).alloc (.cells #[.int .u32 n0, .int .u32 n1, .int .i64 n2, .int .i64 n3, .int .i64 n4, .int .i64 n5, .int .i64 n6, .int .u64 (n7 : Int), .int .i64 n8, .int .i64 n9, .int .i64 n10] 31)) := (conn_below (.int .u32 n0) (.int .u32 n1) (.int .i64 n2) (.int .i64 n3) (.int .i64 n4) (.int .i64 n5) (.int .i64 n6) (.int .u64 (n7 : Int)) (.int .i64 n8) (.int .i64 n9) (.int .i64 n10) BX (Nat.le_refl _)).alloc (by have := BX.size; simp only [sz1]; omega) _
  generalize ((((((((((((w2.setCell ⟨w.heap.size, 6, none⟩ (.int .u32 n0)).setCell ⟨w.heap.size, 7, none⟩ (.int .u32 n1)).setCell ⟨w.heap.size, 8, none⟩ (.int .i64 n2)).setCell ⟨w.heap.size, 9, none⟩ (.int .i64 n3)).setCell ⟨w.heap.size, 10, none⟩ (.int .i64 n4)).setCell ⟨w.heap.size, 11, none⟩ (.int .i64 n5)).setCell ⟨w.heap.size, 12, none⟩ (.int .i64 n6)).setCell ⟨w.heap.size, 13, none⟩ (.int .u64 (n7 : Int))).setCell ⟨w.heap.size, 14, none⟩ (.int .i64 n8)).setCell ⟨w.heap.size, 15, none⟩ (.int .i64 n9)).setCell ⟨w.heap.size, 16, none⟩ (.int .i64 n10)).alloc (.cells #[.int .u32 n0, .int .u32 n1, .int .i64 n2, .int .i64 n3, .int .i64 n4, .int .i64 n5, .int .i64 n6, .int .u64 (n7 : Int), .int .i64 n8, .int .i64 n9, .int .i64 n10] 31)) = X2 at *
  have H1 : (#[.int .i64 k, .int .i64 sk, .int .u64 sb, .int .i64 tk, .int .u64 tb, .slice none 0 0, .int .u32 n0, .int .u32 n1, .int .i64 n2, .int .i64 n3, .int .i64 n4, .int .i64 n5, .int .i64 n6, .int .u64 (n7 : Int), .int .i64 n8, .int .i64 n9, .int .i64 n10] : Array Value).all (·.oneCell') = true := by rw [← Array.all_toList]; rfl
  go_wp2_with (first | (refine wpList_store_row rfl 33 (.tmp 4) _ rfl (w.heap.size + 1) #[.int .i64 k, .int .i64 sk, .int .u64 sb, .int .i64 tk, .int .u64 tb, .slice none 0 0, .int .u32 n0, .int .u32 n1, .int .i64 n2, .int .i64 n3, .int .i64 n4, .int .i64 n5, .int .i64 n6, .int .u64 (n7 : Int), .int .i64 n8, .int .i64 n9, .int .i64 n10] rfl rfl 33 _ K4 (by kernel_rfl) rfl H1 ?_) | (refine wpList_load_row rfl 33 (.tmp 2) rfl w.heap.size rfl 33 _ (0, 0) _ K2 Tryd.underlying33 rfl (by kernel_rfl) ?_))
  have KR : Blk (X2.setRow (w.heap.size + 1) #[.int .i64 k, .int .i64 sk, .int .u64 sb, .int .i64 tk, .int .u64 tb, .slice none 0 0, .int .u32 n0, .int .u32 n1, .int .i64 n2, .int .i64 n3, .int .i64 n4, .int .i64 n5, .int .i64 n6, .int .u64 (n7 : Int), .int .i64 n8, .int .i64 n9, .int .i64 n10]) (w.heap.size + 1) 33 #[.int .i64 k, .int .i64 sk, .int .u64 sb, .int .i64 tk, .int .u64 tb, .slice none 0 0, .int .u32 n0, .int .u32 n1, .int .i64 n2, .int .i64 n3, .int .i64 n4, .int .i64 n5, .int .i64 n6, .int .u64 (n7 : Int), .int .i64 n8, .int .i64 n9, .int .i64 n10] := setRow_heap X2 (w.heap.size + 1) _ #[.int .i64 k, .int .i64 sk, .int .u64 sb, .int .i64 tk, .int .u64 tb, .slice none 0 0, .int .u32 n0, .int .u32 n1, .int .i64 n2, .int .i64 n3, .int .i64 n4, .int .i64 n5, .int .i64 n6, .int .u64 (n7 : Int), .int .i64 n8, .int .i64 n9, .int .i64 n10] 33 (0, 0) K4
  have BE := below_setRow BX (Nat.le_succ _) #[.int .i64 k, .int .i64 sk, .int .u64 sb, .int .i64 tk, .int .u64 tb, .slice none 0 0, .int .u32 n0, .int .u32 n1, .int .i64 n2, .int .i64 n3, .int .i64 n4, .int .i64 n5, .int .i64 n6, .int .u64 (n7 : Int), .int .i64 n8, .int .i64 n9, .int .i64 n10]
  generalize X2.setRow (w.heap.size + 1) #[.int .i64 k, .int .i64 sk, .int .u64 sb, .int .i64 tk, .int .u64 tb, .slice none 0 0, .int .u32 n0, .int .u32 n1, .int .i64 n2, .int .i64 n3, .int .i64 n4, .int .i64 n5, .int .i64 n6, .int .u64 (n7 : Int), .int .i64 n8, .int .i64 n9, .int .i64 n10] = Y at *
  refine bodyPost_ret (v := .tuple #[.agg #[.int .i64 k, .int .i64 sk, .int .u64 sb, .int .i64 tk, .int .u64 tb, .slice none 0 0, .int .u32 n0, .int .u32 n1, .int .i64 n2, .int .i64 n3, .int .i64 n4, .int .i64 n5, .int .i64 n6, .int .u64 (n7 : Int), .int .i64 n8, .int .i64 n9, .int .i64 n10], .int .i64 er]) ?_ rfl ⟨.slice none 0 0, (by rw [HZ.out]; try rfl), by rw [HZ.out]; exact .inl ⟨rfl, rfl⟩, BE⟩
  have HL := run_loadVar_row (P := Tryd.prog) Y (w.heap.size + 1) 33 33 #[.int .i64 k, .int .i64 sk, .int .u64 sb, .int .i64 tk, .int .u64 tb, .slice none 0 0, .int .u32 n0, .int .u32 n1, .int .i64 n2, .int .i64 n3, .int .i64 n4, .int .i64 n5, .int .i64 n6, .int .u64 (n7 : Int), .int .i64 n8, .int .i64 n9, .int .i64 n10] (0, 0) _ KR Tryd.underlying33 rfl (by kernel_rfl)
  generalize (#[.int .i64 k, .int .i64 sk, .int .u64 sb, .int .i64 tk, .int .u64 tb, .slice none 0 0, .int .u32 n0, .int .u32 n1, .int .i64 n2, .int .i64 n3, .int .i64 n4, .int .i64 n5, .int .i64 n6, .int .u64 (n7 : Int), .int .i64 n8, .int .i64 n9, .int .i64 n10] : Array Value) = CS at *
  simp [results, show (Tryd.f42).results = #[.cell 4 33, .slot 5] from rfl, asAddr, HL]
end Go.Proofs.YtcjlliilfecmnaaDoor.Ap

end
