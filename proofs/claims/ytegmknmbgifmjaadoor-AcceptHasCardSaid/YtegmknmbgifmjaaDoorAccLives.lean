/- The statements on accept lists, walked: what the document gives. -/
import Derived.Test.YtegmknmbgifmjaaDoorAccAllow
set_option linter.unusedVariables false
set_option linter.unusedSimpArgs false
namespace Go.Proofs.YtegmknmbgifmjaaDoor.Ace
open Go.RowKit Mem Rw Base Arg
open Prv (findZ Idents triples_below)

theorem lit_one (w : World) (k b : Int) : ListAt encA (w.alloc (.cells #[.int .i64 k, .int .u64 b] 25)) (w.alloc (.cells #[.int .i64 k, .int .u64 b] 25)).heap.size (some ⟨w.heap.size, 0, none⟩) [(k, b)] := CellsAt.lit w _ _ _ rfl
theorem boxK {w : World} {g : Nat} {k b : Int} (h : Adr.Box w g k b) (o : Obj) : Adr.Box (w.alloc o) g k b := h.below ((Below.refl _ _).alloc (Nat.le_refl _) _)
theorem l_add1 (w : World) (hT : Adr.Tab w) : Calls Tryd.prog 10 #[.slice none 0 0, .agg #[.int .i64 1, .int .u64 5]] w fun e w' => Pair w w' e ([(1, 5)], 0) :=
  add_any none 0 0 [] 1 5 w rfl (by decide) (.inl rfl) (by decide) (by decide) hT
theorem l_add2 (A : Option Addr) (w : World) (hr : ListAt encA w w.heap.size A [(1, 5)]) (hT : Adr.Tab w) : Calls Tryd.prog 10 #[.slice A 1 1, .agg #[.int .i64 1, .int .u64 5]] w fun e w' => Pair w w' e ([(1, 5)], 7) :=
  add_any A 1 1 [(1, 5)] 1 5 w rfl (by decide) hr (by decide) (by decide) hT
theorem l_rem1 (A : Option Addr) (w : World) (hr : ListAt encA w w.heap.size A [(1, 5)]) : Calls Tryd.prog 14 #[.slice A 1 1, .agg #[.int .i64 1, .int .u64 6]] w fun e w' => Pair w w' e ([(1, 5)], 6) :=
  remove_any A 1 1 [(1, 5)] 1 6 w rfl (by decide) hr
theorem l_rem2 (A : Option Addr) (w : World) (hr : ListAt encA w w.heap.size A [(1, 5)]) : Calls Tryd.prog 14 #[.slice A 1 1, .agg #[.int .i64 1, .int .u64 5]] w fun e w' => Pair w w' e ([], 0) :=
  remove_any A 1 1 [(1, 5)] 1 5 w rfl (by decide) hr
theorem l_same (A A' : Option Addr) (c c' : Nat) (w : World) (hr : ListAt encA w w.heap.size A [(1, 5)]) (hr' : ListAt encA w w.heap.size A' [(1, 5)]) : Calls Tryd.prog 13 #[.slice A 1 c, .slice A' 1 c'] w fun e w' => e = .returned (.bool true) ∧ Below w.heap.size w w' :=
  same_any A A' 1 1 c c' [(1, 5)] [(1, 5)] w rfl rfl (by decide) (by decide) hr hr'
theorem l_has (A : Option Addr) (c : Nat) (k : Int) (q : Bool) (hq : hasB [(1, 5)] [] (1, k) = q) (hk : 0 ≤ k ∧ k ≤ 18446744073709551615) (w : World) (hr : ListAt encA w w.heap.size A [(1, 5)]) (hT : Adr.Tab w) : Calls Tryd.prog 16 #[.slice A 1 c, .slice none 0 0, .agg #[.int .i64 1, .int .u64 k]] w fun e w' => e = .returned (.bool q) ∧ Below w.heap.size w w' := by
  rw [← hq]
  exact has_any A none 1 c 0 0 [(1, 5)] [] 1 k w rfl (by decide) hr rfl (by decide) (by decide) (.inl rfl) (by intro f hf; cases hf) (by decide) hk hT
theorem l_allow (r : Int) (q : Bool) (hq : allowZ 1 r (hasB [] [] (1, 5)) = q) (w : World) (hT : Adr.Tab w) : Calls Tryd.prog 19 #[.int .i64 1, .int .i64 r, .slice none 0 0, .slice none 0 0, .agg #[.int .i64 1, .int .u64 5]] w fun e w' => e = .returned (.bool q) ∧ Below w.heap.size w w' := by
  rw [← hq]
  exact allows_any 1 r none none 0 0 0 0 [] [] 1 5 w rfl (by decide) (.inl rfl) rfl (by decide) (by decide) (.inl rfl) (by intro f hf; cases hf) (by decide) (by decide) hT
set_option maxHeartbeats 2000000 in
theorem lives_any (w : World) (hT : Adr.Tab w) : Calls Tryd.prog 9 #[] w fun e w' => e = .returned (.bool true) ∧ Below w.heap.size w w' := by
  have E1 := Lib.hid l_add1
  have E2 := Lib.hid l_add2
  have E3 := Lib.hid l_rem1
  have E4 := Lib.hid l_rem2
  have E5 := Lib.hid l_same
  have E6 := Lib.hid (fun A c => l_has A c 5 true (by rfl) (by decide))
  have E7 := Lib.hid (fun A c => l_has A c 6 false (by rfl) (by decide))
  have E8 := Lib.hid (l_allow 5 true (by rfl))
  have E9 := Lib.hid (l_allow 3 false (by rfl))
  have Fa := boxK (Adr.box_new w 1 5) (.cells #[.int .i64 1, .int .u64 6] 25)
  have Fb : Adr.Box ((w.alloc (.cells #[.int .i64 1, .int .u64 5] 25)).alloc (.cells #[.int .i64 1, .int .u64 6] 25)) (w.heap.size + 1) 1 6 := by
    have := Adr.box_new (w.alloc (.cells #[.int .i64 1, .int .u64 5] 25)) 1 6
    simpa using this
  have B0 : Below w.heap.size w ((w.alloc (.cells #[.int .i64 1, .int .u64 5] 25)).alloc (.cells #[.int .i64 1, .int .u64 6] 25)) := ((Below.refl _ _).alloc (Nat.le_refl _) _).alloc (by simp) _
  have T0 := hT.below B0
  go_enter Tryd.func9, Tryd.ntmps9
  go_wp2_with fail
  generalize (w.alloc (.cells #[.int .i64 1, .int .u64 5] 25)).alloc (.cells #[.int .i64 1, .int .u64 6] 25) = X0 at *
  refine (E1.out X0 T0).mono ?_
  intro e W1 h
  obtain ⟨A1, c1, rfl, hc1, own1, b1⟩ := h.len (n := 1) rfl
  have L : ListAt encA W1 W1.heap.size A1 [(1, 5)] := CellsAt.own own1
  clear h own1
  have B1 := thenB B0 b1
  have Fa1 := Fa.below b1
  have Fb1 := Fb.below b1
  have T1 := T0.below b1
  clear B0 T0 b1 Fa Fb
  have M := lit_one W1 1 5
  have B1 := B1.alloc B1.size (.cells #[.int .i64 1, .int .u64 5] 25)
  have L := CellsAt.kept L (.cells #[.int .i64 1, .int .u64 5] 25)
  have T1 := T1.alloc (.cells #[.int .i64 1, .int .u64 5] 25)
  have x0 := Fa1.c0
  have x1 := Fa1.c1
  have y0 := Fb1.c0
  have y1 := Fb1.c1
  have xl := Fa1.lt
  have yl := Fb1.lt
  have Fa1 := boxK Fa1 (.cells #[.int .i64 1, .int .u64 5] 25)
  have Fb1 := boxK Fb1 (.cells #[.int .i64 1, .int .u64 5] 25)
  have z0 := Fa1.c0
  have z1 := Fa1.c1
  have u0 := Fb1.c0
  have u1 := Fb1.c1
  go_wp2_with fail
  clear x0 x1 y0 y1 xl yl z0 z1 u0 u1
  generalize W1.heap.size = gA at *
  generalize W1.alloc (.cells #[.int .i64 1, .int .u64 5] 25) = X1 at *
  refine (E2.out _ X1 M T1).mono ?_
  intro e W2 h
  obtain ⟨A2, c2, rfl, hc2, own2, b2⟩ := h.len (n := 1) rfl
  clear h own2 M
  have B2 := thenB B1 b2
  have Fa2 := Fa1.below b2
  have Fb2 := Fb1.below b2
  have T2 := T1.below b2
  have L := CellsAt.later L b2
  clear B1 T1 b2 Fa1 Fb1
  have M := lit_one W2 1 5
  have B2 := B2.alloc B2.size (.cells #[.int .i64 1, .int .u64 5] 25)
  have L := CellsAt.kept L (.cells #[.int .i64 1, .int .u64 5] 25)
  have T2 := T2.alloc (.cells #[.int .i64 1, .int .u64 5] 25)
  have x0 := Fa2.c0
  have x1 := Fa2.c1
  have y0 := Fb2.c0
  have y1 := Fb2.c1
  have xl := Fa2.lt
  have yl := Fb2.lt
  have Fa2 := boxK Fa2 (.cells #[.int .i64 1, .int .u64 5] 25)
  have Fb2 := boxK Fb2 (.cells #[.int .i64 1, .int .u64 5] 25)
  have z0 := Fa2.c0
  have z1 := Fa2.c1
  have u0 := Fb2.c0
  have u1 := Fb2.c1
  go_wp2_with fail
  clear x0 x1 y0 y1 xl yl z0 z1 u0 u1
  generalize W2.heap.size = gA at *
  generalize W2.alloc (.cells #[.int .i64 1, .int .u64 5] 25) = X2 at *
  refine (E3.out _ X2 M).mono ?_
  intro e W3 h
  obtain ⟨A3, c3, rfl, hc3, own3, b3⟩ := h.len (n := 1) rfl
  clear h own3 M
  have B3 := thenB B2 b3
  have Fa3 := Fa2.below b3
  have Fb3 := Fb2.below b3
  have T3 := T2.below b3
  have L := CellsAt.later L b3
  clear B2 T2 b3 Fa2 Fb2
  have M := lit_one W3 1 5
  have B3 := B3.alloc B3.size (.cells #[.int .i64 1, .int .u64 5] 25)
  have L := CellsAt.kept L (.cells #[.int .i64 1, .int .u64 5] 25)
  have T3 := T3.alloc (.cells #[.int .i64 1, .int .u64 5] 25)
  have x0 := Fa3.c0
  have x1 := Fa3.c1
  have y0 := Fb3.c0
  have y1 := Fb3.c1
  have xl := Fa3.lt
  have yl := Fb3.lt
  have Fa3 := boxK Fa3 (.cells #[.int .i64 1, .int .u64 5] 25)
  have Fb3 := boxK Fb3 (.cells #[.int .i64 1, .int .u64 5] 25)
  have z0 := Fa3.c0
  have z1 := Fa3.c1
  have u0 := Fb3.c0
  have u1 := Fb3.c1
  go_wp2_with fail
  clear x0 x1 y0 y1 xl yl z0 z1 u0 u1
  generalize W3.heap.size = gA at *
  generalize W3.alloc (.cells #[.int .i64 1, .int .u64 5] 25) = X3 at *
  refine (E4.out _ X3 M).mono ?_
  intro e W4 h
  obtain ⟨A4, c4, rfl, hc4, own4, b4⟩ := h.len (n := 0) rfl
  clear h own4 M
  have B4 := thenB B3 b4
  have Fa4 := Fa3.below b4
  have Fb4 := Fb3.below b4
  have T4 := T3.below b4
  have L := CellsAt.later L b4
  clear B3 T3 b4 Fa3 Fb3
  have M := lit_one W4 1 5
  have B4 := B4.alloc B4.size (.cells #[.int .i64 1, .int .u64 5] 25)
  have L := CellsAt.kept L (.cells #[.int .i64 1, .int .u64 5] 25)
  have T4 := T4.alloc (.cells #[.int .i64 1, .int .u64 5] 25)
  have x0 := Fa4.c0
  have x1 := Fa4.c1
  have y0 := Fb4.c0
  have y1 := Fb4.c1
  have xl := Fa4.lt
  have yl := Fb4.lt
  have Fa4 := boxK Fa4 (.cells #[.int .i64 1, .int .u64 5] 25)
  have Fb4 := boxK Fb4 (.cells #[.int .i64 1, .int .u64 5] 25)
  have z0 := Fa4.c0
  have z1 := Fa4.c1
  have u0 := Fb4.c0
  have u1 := Fb4.c1
  go_wp2_with fail
  clear x0 x1 y0 y1 xl yl z0 z1 u0 u1
  generalize W4.heap.size = gA at *
  generalize W4.alloc (.cells #[.int .i64 1, .int .u64 5] 25) = X4 at *
  refine (E5.out _ _ _ _ X4 L M).mono ?_
  rintro e W5 ⟨rfl, b5⟩
  clear M
  have B5 := thenB B4 b5
  have Fa5 := Fa4.below b5
  have Fb5 := Fb4.below b5
  have T5 := T4.below b5
  have L := CellsAt.later L b5
  clear B4 T4 b5 Fa4 Fb4
  have x0 := Fa5.c0
  have x1 := Fa5.c1
  have y0 := Fb5.c0
  have y1 := Fb5.c1
  go_wp2_with fail
  refine (E6.out _ _ W5 L T5).mono ?_
  rintro e W6 ⟨rfl, b6⟩
  clear x0 x1 y0 y1
  have B6 := thenB B5 b6
  have Fa6 := Fa5.below b6
  have Fb6 := Fb5.below b6
  have T6 := T5.below b6
  have L := CellsAt.later L b6
  clear B5 T5 b6 Fa5 Fb5
  have x0 := Fa6.c0
  have x1 := Fa6.c1
  have y0 := Fb6.c0
  have y1 := Fb6.c1
  go_wp2_with fail
  refine (E7.out _ _ W6 L T6).mono ?_
  rintro e W7 ⟨rfl, b7⟩
  clear x0 x1 y0 y1
  have B7 := thenB B6 b7
  have Fa7 := Fa6.below b7
  have Fb7 := Fb6.below b7
  have T7 := T6.below b7
  have L := CellsAt.later L b7
  clear B6 T6 b7 Fa6 Fb6
  have x0 := Fa7.c0
  have x1 := Fa7.c1
  have y0 := Fb7.c0
  have y1 := Fb7.c1
  go_wp2_with fail
  refine (E8.out W7 T7).mono ?_
  rintro e W8 ⟨rfl, b8⟩
  clear x0 x1 y0 y1
  have B8 := thenB B7 b8
  have Fa8 := Fa7.below b8
  have Fb8 := Fb7.below b8
  have T8 := T7.below b8
  have L := CellsAt.later L b8
  clear B7 T7 b8 Fa7 Fb7
  have x0 := Fa8.c0
  have x1 := Fa8.c1
  have y0 := Fb8.c0
  have y1 := Fb8.c1
  go_wp2_with fail
  refine (E9.out W8 T8).mono ?_
  rintro e W9 ⟨rfl, b9⟩
  go_wp2_with fail
  go_ret
  exact ⟨rfl, thenB B8 b9⟩
end Go.Proofs.YtegmknmbgifmjaaDoor.Ace
