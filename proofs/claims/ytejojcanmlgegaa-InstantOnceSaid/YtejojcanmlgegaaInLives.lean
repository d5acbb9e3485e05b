/- Changes at instants: what the document gives: walks. -/
import Derived.Test.YtejojcanmlgegaaInDue
import Derived.Test.YtejojcanmlgegaaInAdd
set_option linter.unusedVariables false
set_option linter.unusedSimpArgs false
namespace Go.Proofs.Ytejojcanmlgegaa.Nst
open Go.RowKit Mem Rw Base

theorem wpList_load_row_w {P : Program} {ops : Array Oper} {rest : List Oper} {o : Oper} {a : Act} {w : World} {Q : Exit → Act → World → Prop} (hw : Region.wanted o (yielded ops a.tmps) = true) (ty : TypeId) (x : Operand) (ho : o.op = .load ty x)
    (g : Nat) (hx : a.eval x = .pointer (some ⟨g, 0, none⟩)) (t : TypeId) (cs : Array Value) (fr : Nat × Nat) (d : TypeDesc) (hg : w.heap[g]? = some (.cells cs t fr))
    (hu : P.underlying ty = some d) (hd : (match d with | .struct _ | .array _ _ => true | _ => false) = true) (hi : (P.info? ty).map (·.size) = some cs.size)
    (h : wpList P ops Q rest (a.put o.dst (.agg cs)) w) : wpList P ops Q (o :: rest) a w :=
  BigFrame.wpList_want hw fun K hK => wp_load_row ty x ho g hx t cs fr d hg hu hd hi (hK _ _ h)
theorem l_add1 (w : World) : Calls Try.prog 14 #[.slice none 0 0, .int .u16 6, .agg #[.int .i64 1, .int .u16 7, .int .i64 0, .int .i64 0, .int .i64 0, .int .i64 0, .int .i64 0, .int .u64 0]] w fun e w' => Pair w w' e ([⟨1, 7, 0, 0, 0, 0, 0, 0⟩], 0) :=
  add_any none 0 0 [] 6 ⟨1, 7, 0, 0, 0, 0, 0, 0⟩ w rfl (by decide) (.inl rfl) (by decide) (by unfold GoodI; decide)
theorem l_add2 (A : Option Addr) (c : Nat) (w : World) (h : ListAt encH w w.heap.size A [⟨1, 7, 0, 0, 0, 0, 0, 0⟩]) : Calls Try.prog 14 #[.slice A 1 c, .int .u16 6, .agg #[.int .i64 1, .int .u16 7, .int .i64 0, .int .i64 0, .int .i64 0, .int .i64 0, .int .i64 0, .int .u64 0]] w fun e w' => Pair w w' e ([⟨1, 7, 0, 0, 0, 0, 0, 0⟩], 20) :=
  add_any A 1 c [⟨1, 7, 0, 0, 0, 0, 0, 0⟩] 6 ⟨1, 7, 0, 0, 0, 0, 0, 0⟩ w rfl (by decide) h (by decide) (by unfold GoodI; decide)
theorem l_due (A : Option Addr) (w : World) (h : ListAt encH w w.heap.size A [⟨1, 5, 0, 0, 0, 0, 0, 0⟩, ⟨1, 7, 0, 0, 0, 0, 0, 0⟩]) : Calls Try.prog 18 #[.slice A 2 2, .int .u16 6] w fun e w' => Duo w w' e [⟨1, 7, 0, 0, 0, 0, 0, 0⟩] [⟨1, 5, 0, 0, 0, 0, 0, 0⟩] :=
  due_any A 2 2 [⟨1, 5, 0, 0, 0, 0, 0, 0⟩, ⟨1, 7, 0, 0, 0, 0, 0, 0⟩] 6 w rfl (by decide) h (by decide) (by intro x hx; simp at hx; unfold GoodI; rcases hx with rfl | rfl <;> decide)
theorem l_chk (ev r : Int) (x : Ch) (h0 : 0 ≤ ev ∧ ev ≤ 65535) (hx : GoodI x) (h : chk ev x = r) (w : World) : Calls Try.prog 12 #[.int .u16 ev, .agg (encX x)] w fun e w' => e = .returned (.int .i64 r) ∧ Below w.heap.size w w' := by
  rw [← h]; exact check_any ev x w h0 hx
theorem l_plan (ev la r : Int) (h0 : 0 ≤ ev ∧ ev ≤ 65535) (h : planZ ev la = r) (w : World) : Calls Try.prog 10 #[.int .u16 ev, .int .i64 la] w fun e w' => e = .returned (.int .u16 r) ∧ w = w' := by
  rw [← h]; exact plan_any ev la w h0
theorem l_same (x : Ch) (A A' : Option Addr) (c : Nat) (w : World) (h : ListAt encH w w.heap.size A [x]) (h' : ListAt encH w w.heap.size A' [x]) : Calls Try.prog 17 #[.slice A 1 c, .slice A' 1 1] w fun e w' => e = .returned (.bool true) ∧ Below w.heap.size w w' :=
  same_yes A A' 1 c 1 [x] w rfl (by decide) h h'
set_option maxRecDepth 100000 in
set_option maxHeartbeats 8000000 in
theorem lives_any (w : World) : Calls Try.prog 9 #[] w fun e w' => e = .returned (.bool true) ∧ Below w.heap.size w w' := by
  have E1 := Lib.hid l_add1
  have E2 := Lib.hid l_add2
  have E3 := Lib.hid l_due
  have C1 : Hid (∀ w, Calls Try.prog 12 #[.int .u16 6, .agg #[.int .i64 1, .int .u16 7, .int .i64 0, .int .i64 0, .int .i64 0, .int .i64 0, .int .i64 0, .int .u64 0]] w fun e w' => e = .returned (.int .i64 0) ∧ Below w.heap.size w w') := Lib.hid fun w => l_chk 6 0 ⟨1, 7, 0, 0, 0, 0, 0, 0⟩ (by decide) (by unfold GoodI; decide) (by decide) w
  have C2 : Hid (∀ w, Calls Try.prog 12 #[.int .u16 6, .agg #[.int .i64 1, .int .u16 5, .int .i64 0, .int .i64 0, .int .i64 0, .int .i64 0, .int .i64 0, .int .u64 0]] w fun e w' => e = .returned (.int .i64 18) ∧ Below w.heap.size w w') := Lib.hid fun w => l_chk 6 18 ⟨1, 5, 0, 0, 0, 0, 0, 0⟩ (by decide) (by unfold GoodI; decide) (by decide) w
  have C3 : Hid (∀ w, Calls Try.prog 12 #[.int .u16 7, .agg #[.int .i64 1, .int .u16 7, .int .i64 0, .int .i64 0, .int .i64 0, .int .i64 0, .int .i64 0, .int .u64 0]] w fun e w' => e = .returned (.int .i64 18) ∧ Below w.heap.size w w') := Lib.hid fun w => l_chk 7 18 ⟨1, 7, 0, 0, 0, 0, 0, 0⟩ (by decide) (by unfold GoodI; decide) (by decide) w
  have C4 : Hid (∀ w, Calls Try.prog 12 #[.int .u16 6, .agg #[.int .i64 18, .int .u16 0, .int .i64 0, .int .i64 0, .int .i64 0, .int .i64 0, .int .i64 0, .int .u64 0]] w fun e w' => e = .returned (.int .i64 12) ∧ Below w.heap.size w w') := Lib.hid fun w => l_chk 6 12 ⟨18, 0, 0, 0, 0, 0, 0, 0⟩ (by decide) (by unfold GoodI; decide) (by decide) w
  have P1 := Lib.hid (l_plan 10 0 16 (by decide) (by decide))
  have P2 := Lib.hid (l_plan 65535 4 9 (by decide) (by decide))
  have S1 := Lib.hid (l_same ⟨1, 7, 0, 0, 0, 0, 0, 0⟩)
  have S2 := Lib.hid (l_same ⟨1, 5, 0, 0, 0, 0, 0, 0⟩)
  have BX : Below w.heap.size w ((w.alloc (.cells #[.int .i64 1, .int .u16 5, .int .i64 0, .int .i64 0, .int .i64 0, .int .i64 0, .int .i64 0, .int .u64 0] 31)).alloc (.cells #[.int .i64 1, .int .u16 7, .int .i64 0, .int .i64 0, .int .i64 0, .int .i64 0, .int .i64 0, .int .u64 0] 31)) := ((Below.refl _ _).alloc (Nat.le_refl _) _).alloc (by simp) _
  have K1 : Blk ((w.alloc (.cells #[.int .i64 1, .int .u16 5, .int .i64 0, .int .i64 0, .int .i64 0, .int .i64 0, .int .i64 0, .int .u64 0] 31)).alloc (.cells #[.int .i64 1, .int .u16 7, .int .i64 0, .int .i64 0, .int .i64 0, .int .i64 0, .int .i64 0, .int .u64 0] 31)) w.heap.size 31 #[.int .i64 1, .int .u16 5, .int .i64 0, .int .i64 0, .int .i64 0, .int .i64 0, .int .i64 0, .int .u64 0] := (Blk.fresh w _ _).alloc _
  have K2 : Blk ((w.alloc (.cells #[.int .i64 1, .int .u16 5, .int .i64 0, .int .i64 0, .int .i64 0, .int .i64 0, .int .i64 0, .int .u64 0] 31)).alloc (.cells #[.int .i64 1, .int .u16 7, .int .i64 0, .int .i64 0, .int .i64 0, .int .i64 0, .int .i64 0, .int .u64 0] 31)) (w.heap.size + 1) 31 #[.int .i64 1, .int .u16 7, .int .i64 0, .int .i64 0, .int .i64 0, .int .i64 0, .int .i64 0, .int .u64 0] := Av.Blk.next
  go_enter Try.func9, Try.ntmps9
  go_upto_region 2 with (fail)
  generalize (w.alloc (.cells #[.int .i64 1, .int .u16 5, .int .i64 0, .int .i64 0, .int .i64 0, .int .i64 0, .int .i64 0, .int .u64 0] 31)).alloc (.cells #[.int .i64 1, .int .u16 7, .int .i64 0, .int .i64 0, .int .i64 0, .int .i64 0, .int .i64 0, .int .u64 0] 31) = X0 at *
  go_upto_region 3 with (first | (go_at_call 14; refine (E1.out X0).mono ?_; intro e X1 h9; obtain ⟨A1, c1, rfl, hc1, L1, b9⟩ := h9.len (n := 1) rfl; replace K1 := K1.below b9 K1.lt; replace K2 := K2.below b9 K2.lt; replace BX := Base.thenB BX b9; clear b9 h9) | (refine wpList_load_row_w rfl 31 (.tmp 2) rfl (w.heap.size + 1) rfl 31 _ (0, 0) _ K2 Try.underlying31 rfl (by kernel_rfl) ?_))
  go_upto_region 4 with (first | (go_at_call 14; refine (E2.out A1 c1 X1 L1).mono ?_; intro e X2 h9; obtain ⟨A2, c2, rfl, hc2, L2, b9⟩ := h9.len (n := 1) rfl; replace K1 := K1.below b9 K1.lt; replace K2 := K2.below b9 K2.lt; replace BX := Base.thenB BX b9; clear b9 h9 L1) | (refine wpList_load_row_w rfl 31 (.tmp 2) rfl (w.heap.size + 1) rfl 31 _ (0, 0) _ K2 Try.underlying31 rfl (by kernel_rfl) ?_))
  have LL : ListAt encH (X2.alloc (.cells (#[.int .i64 1, .int .u16 5, .int .i64 0, .int .i64 0, .int .i64 0, .int .i64 0, .int .i64 0, .int .u64 0] ++ #[.int .i64 1, .int .u16 7, .int .i64 0, .int .i64 0, .int .i64 0, .int .i64 0, .int .i64 0, .int .u64 0]) 31)) (X2.alloc (.cells (#[.int .i64 1, .int .u16 5, .int .i64 0, .int .i64 0, .int .i64 0, .int .i64 0, .int .i64 0, .int .u64 0] ++ #[.int .i64 1, .int .u16 7, .int .i64 0, .int .i64 0, .int .i64 0, .int .i64 0, .int .i64 0, .int .u64 0]) 31)).heap.size (some ⟨X2.heap.size, 0, none⟩) [⟨1, 5, 0, 0, 0, 0, 0, 0⟩, ⟨1, 7, 0, 0, 0, 0, 0, 0⟩] := CellsAt.lit X2 _ _ _ rfl
  have B3 := BX.alloc BX.size (.cells (#[.int .i64 1, .int .u16 5, .int .i64 0, .int .i64 0, .int .i64 0, .int .i64 0, .int .i64 0, .int .u64 0] ++ #[.int .i64 1, .int .u16 7, .int .i64 0, .int .i64 0, .int .i64 0, .int .i64 0, .int .i64 0, .int .u64 0]) 31)
  have K13 := K1.alloc (.cells (#[.int .i64 1, .int .u16 5, .int .i64 0, .int .i64 0, .int .i64 0, .int .i64 0, .int .i64 0, .int .u64 0] ++ #[.int .i64 1, .int .u16 7, .int .i64 0, .int .i64 0, .int .i64 0, .int .i64 0, .int .i64 0, .int .u64 0]) 31)
  have K23 := K2.alloc (.cells (#[.int .i64 1, .int .u16 5, .int .i64 0, .int .i64 0, .int .i64 0, .int .i64 0, .int .i64 0, .int .u64 0] ++ #[.int .i64 1, .int .u16 7, .int .i64 0, .int .i64 0, .int .i64 0, .int .i64 0, .int .i64 0, .int .u64 0]) 31)
  have L23 := CellsAt.kept L2 (.cells (#[.int .i64 1, .int .u16 5, .int .i64 0, .int .i64 0, .int .i64 0, .int .i64 0, .int .i64 0, .int .u64 0] ++ #[.int .i64 1, .int .u16 7, .int .i64 0, .int .i64 0, .int .i64 0, .int .i64 0, .int .i64 0, .int .u64 0]) 31)
  simp only [List.append_toArray, List.cons_append, List.nil_append] at LL B3 K13 K23 L23
  go_upto_region 5 with (first | (go_at_call 18; refine (E3.out _ _ LL).mono ?_; intro e X3 h9; obtain ⟨A3, A4, c3, c4, rfl, hc3, hc4, L3, L4, b9⟩ := h9; replace K1 := K13.below b9 K13.lt; replace K2 := K23.below b9 K23.lt; replace L2 := CellsAt.later L23 b9; replace BX := Base.thenB B3 b9; clear b9 LL B3 K13 K23 L23) | (refine wpList_load_row_w rfl 31 (.tmp 1) rfl w.heap.size rfl 31 _ (0, 0) _ K1 Try.underlying31 rfl (by kernel_rfl) ?_) | (refine wpList_load_row_w rfl 31 (.tmp 2) rfl (w.heap.size + 1) rfl 31 _ (0, 0) _ K2 Try.underlying31 rfl (by kernel_rfl) ?_))
  simp only [List.length_cons, List.length_nil, Nat.zero_add] at hc3 hc4 ⊢
  have t1 : Hid (1 = 1) := Lib.hid rfl
  have t2 := t1
  have t3 := t1
  have t4 := t1
  have t5 := t1
  have t6 := t1
  have t7 := t1
  have t8 := t1
  have t9 := t1
  go_wp2_with (first
    | (clear t1; go_at_call 10; refine (P1.out _).mono ?_; rintro e w9 ⟨rfl, rfl⟩)
    | (clear t2; go_at_call 10; refine (P2.out _).mono ?_; rintro e w9 ⟨rfl, rfl⟩)
    | (clear t3; go_at_call 12; refine (C1.out _).mono ?_; rintro e X9 ⟨rfl, b9⟩; replace K1 := K1.below b9 K1.lt; replace K2 := K2.below b9 K2.lt; replace L2 := CellsAt.later L2 b9; replace L3 := CellsAt.later L3 b9; replace L4 := CellsAt.later L4 b9; replace BX := Base.thenB BX b9; clear b9)
    | (clear t4; go_at_call 12; refine (C2.out _).mono ?_; rintro e X9 ⟨rfl, b9⟩; replace K1 := K1.below b9 K1.lt; replace K2 := K2.below b9 K2.lt; replace L2 := CellsAt.later L2 b9; replace L3 := CellsAt.later L3 b9; replace L4 := CellsAt.later L4 b9; replace BX := Base.thenB BX b9; clear b9)
    | (clear t5; go_at_call 12; refine (C3.out _).mono ?_; rintro e X9 ⟨rfl, b9⟩; replace K1 := K1.below b9 K1.lt; replace K2 := K2.below b9 K2.lt; replace L2 := CellsAt.later L2 b9; replace L3 := CellsAt.later L3 b9; replace L4 := CellsAt.later L4 b9; replace BX := Base.thenB BX b9; clear b9)
    | (clear t6; go_at_call 12; refine (C4.out _).mono ?_; rintro e X9 ⟨rfl, b9⟩; replace K1 := K1.below b9 K1.lt; replace K2 := K2.below b9 K2.lt; replace L2 := CellsAt.later L2 b9; replace L3 := CellsAt.later L3 b9; replace L4 := CellsAt.later L4 b9; replace BX := Base.thenB BX b9; clear b9)
    | (clear t7; go_at_call 17; refine (S1.out _ _ _ _ (CellsAt.kept L2 (.cells #[.int .i64 1, .int .u16 7, .int .i64 0, .int .i64 0, .int .i64 0, .int .i64 0, .int .i64 0, .int .u64 0] 31)) (CellsAt.lit _ _ #[.int .i64 1, .int .u16 7, .int .i64 0, .int .i64 0, .int .i64 0, .int .i64 0, .int .i64 0, .int .u64 0] 31 rfl)).mono ?_; rintro e X9 ⟨rfl, b9⟩; replace K1 := (K1.alloc (.cells #[.int .i64 1, .int .u16 7, .int .i64 0, .int .i64 0, .int .i64 0, .int .i64 0, .int .i64 0, .int .u64 0] 31)).below b9 (K1.alloc _).lt; replace K2 := (K2.alloc (.cells #[.int .i64 1, .int .u16 7, .int .i64 0, .int .i64 0, .int .i64 0, .int .i64 0, .int .i64 0, .int .u64 0] 31)).below b9 (K2.alloc _).lt; replace L2 := CellsAt.later (CellsAt.kept L2 (.cells #[.int .i64 1, .int .u16 7, .int .i64 0, .int .i64 0, .int .i64 0, .int .i64 0, .int .i64 0, .int .u64 0] 31)) b9; replace L3 := CellsAt.later (CellsAt.kept L3 (.cells #[.int .i64 1, .int .u16 7, .int .i64 0, .int .i64 0, .int .i64 0, .int .i64 0, .int .i64 0, .int .u64 0] 31)) b9; replace L4 := CellsAt.later (CellsAt.kept L4 (.cells #[.int .i64 1, .int .u16 7, .int .i64 0, .int .i64 0, .int .i64 0, .int .i64 0, .int .i64 0, .int .u64 0] 31)) b9; replace BX := Base.thenB (BX.alloc BX.size (.cells #[.int .i64 1, .int .u16 7, .int .i64 0, .int .i64 0, .int .i64 0, .int .i64 0, .int .i64 0, .int .u64 0] 31)) b9; clear b9)
    | (clear t8; go_at_call 17; refine (S1.out _ _ _ _ (CellsAt.kept L3 (.cells #[.int .i64 1, .int .u16 7, .int .i64 0, .int .i64 0, .int .i64 0, .int .i64 0, .int .i64 0, .int .u64 0] 31)) (CellsAt.lit _ _ #[.int .i64 1, .int .u16 7, .int .i64 0, .int .i64 0, .int .i64 0, .int .i64 0, .int .i64 0, .int .u64 0] 31 rfl)).mono ?_; rintro e X9 ⟨rfl, b9⟩; replace K1 := (K1.alloc (.cells #[.int .i64 1, .int .u16 7, .int .i64 0, .int .i64 0, .int .i64 0, .int .i64 0, .int .i64 0, .int .u64 0] 31)).below b9 (K1.alloc _).lt; replace K2 := (K2.alloc (.cells #[.int .i64 1, .int .u16 7, .int .i64 0, .int .i64 0, .int .i64 0, .int .i64 0, .int .i64 0, .int .u64 0] 31)).below b9 (K2.alloc _).lt; replace L2 := CellsAt.later (CellsAt.kept L2 (.cells #[.int .i64 1, .int .u16 7, .int .i64 0, .int .i64 0, .int .i64 0, .int .i64 0, .int .i64 0, .int .u64 0] 31)) b9; replace L3 := CellsAt.later (CellsAt.kept L3 (.cells #[.int .i64 1, .int .u16 7, .int .i64 0, .int .i64 0, .int .i64 0, .int .i64 0, .int .i64 0, .int .u64 0] 31)) b9; replace L4 := CellsAt.later (CellsAt.kept L4 (.cells #[.int .i64 1, .int .u16 7, .int .i64 0, .int .i64 0, .int .i64 0, .int .i64 0, .int .i64 0, .int .u64 0] 31)) b9; replace BX := Base.thenB (BX.alloc BX.size (.cells #[.int .i64 1, .int .u16 7, .int .i64 0, .int .i64 0, .int .i64 0, .int .i64 0, .int .i64 0, .int .u64 0] 31)) b9; clear b9)
    | (clear t9; go_at_call 17; refine (S2.out _ _ _ _ (CellsAt.kept L4 (.cells #[.int .i64 1, .int .u16 5, .int .i64 0, .int .i64 0, .int .i64 0, .int .i64 0, .int .i64 0, .int .u64 0] 31)) (CellsAt.lit _ _ #[.int .i64 1, .int .u16 5, .int .i64 0, .int .i64 0, .int .i64 0, .int .i64 0, .int .i64 0, .int .u64 0] 31 rfl)).mono ?_; rintro e X9 ⟨rfl, b9⟩; replace K1 := (K1.alloc (.cells #[.int .i64 1, .int .u16 5, .int .i64 0, .int .i64 0, .int .i64 0, .int .i64 0, .int .i64 0, .int .u64 0] 31)).below b9 (K1.alloc _).lt; replace K2 := (K2.alloc (.cells #[.int .i64 1, .int .u16 5, .int .i64 0, .int .i64 0, .int .i64 0, .int .i64 0, .int .i64 0, .int .u64 0] 31)).below b9 (K2.alloc _).lt; replace L2 := CellsAt.later (CellsAt.kept L2 (.cells #[.int .i64 1, .int .u16 5, .int .i64 0, .int .i64 0, .int .i64 0, .int .i64 0, .int .i64 0, .int .u64 0] 31)) b9; replace L3 := CellsAt.later (CellsAt.kept L3 (.cells #[.int .i64 1, .int .u16 5, .int .i64 0, .int .i64 0, .int .i64 0, .int .i64 0, .int .i64 0, .int .u64 0] 31)) b9; replace L4 := CellsAt.later (CellsAt.kept L4 (.cells #[.int .i64 1, .int .u16 5, .int .i64 0, .int .i64 0, .int .i64 0, .int .i64 0, .int .i64 0, .int .u64 0] 31)) b9; replace BX := Base.thenB (BX.alloc BX.size (.cells #[.int .i64 1, .int .u16 5, .int .i64 0, .int .i64 0, .int .i64 0, .int .i64 0, .int .i64 0, .int .u64 0] 31)) b9; clear b9)
    | (refine wpList_load_row_w rfl 31 (.tmp 1) rfl w.heap.size rfl 31 _ (0, 0) _ K1 Try.underlying31 rfl (by kernel_rfl) ?_)
    | (refine wpList_load_row_w rfl 31 (.tmp 2) rfl (w.heap.size + 1) rfl 31 _ (0, 0) _ K2 Try.underlying31 rfl (by kernel_rfl) ?_))
  go_ret
  exact ⟨rfl, BX⟩
end Go.Proofs.Ytejojcanmlgegaa.Nst
