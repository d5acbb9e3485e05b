/- Advertising PDUs: the document's lives, walked. Advertising PDUs: what is decoded from bytes, and the bytes of what was decoded: plain mathematics. -/
import Derived.Test.YtcjlliilfecmnaaDoorKM13
import Derived.Test.YtcjlliilfecmnaaDoorKM12
import Derived.Test.YtcjlliilfecmnaaDoorKApREnc0
section
set_option linter.unusedVariables false
set_option linter.unusedSimpArgs false
namespace Go.Proofs.YtcjlliilfecmnaaDoor.Ap
open Go.RowKit Mem Oct
open Base (thenB)

theorem wpList_on {P : Program} {ops : Array Oper} {rest : List Oper} {o : Oper} {a : Act} {w : World} {Q : Exit → Act → World → Prop} (hw : Region.wanted o (yielded ops a.tmps) = true) (h : wpList P ops Q ({ o with guard := none } :: rest) a w) : wpList P ops Q (o :: rest) a w := by
  unfold wpList at h ⊢
  rw [if_pos hw]
  rw [if_pos (by simp [Region.wanted])] at h
  exact h
theorem l_decp2 (A : Option Addr) (c : Nat) (hc : 11 ≤ c) (w : World) (hr : Ints .u8 w w.heap.size A lb) (hT : Adr.Tab w) : Calls Tryd.prog 16 #[.slice A 11 c] w fun e w' => ∃ A c, e = .returned (.tuple #[.agg (cel lp (.slice A 2 c)), .int .i64 0]) ∧ 2 ≤ c ∧ Ints .u8 w' w'.heap.size A [1, 5] ∧ Below w.heap.size w w' :=
  (l_decp A c hc w hr hT).mono fun e w' ⟨A, c, he, hc, hi, hb⟩ => ⟨A, c, he, hc, hi, hb⟩
theorem lives_row (w0 : World) : Blk ((w0.alloc (.cells #[.int .u8 1, .int .u8 5] 5)).alloc (.cells #[.int .i64 0, .int .i64 0, .int .u64 0, .int .i64 0, .int .u64 0, .slice none 0 0, .int .u32 0, .int .u32 0, .int .i64 0, .int .i64 0, .int .i64 0, .int .i64 0, .int .i64 0, .int .u64 0, .int .i64 0, .int .i64 0, .int .i64 0] 33)) (w0.heap.size + 1) 33 #[.int .i64 0, .int .i64 0, .int .u64 0, .int .i64 0, .int .u64 0, .slice none 0 0, .int .u32 0, .int .u32 0, .int .i64 0, .int .i64 0, .int .i64 0, .int .i64 0, .int .i64 0, .int .u64 0, .int .i64 0, .int .i64 0, .int .i64 0] := by
  have := Blk.fresh (w0.alloc (.cells #[.int .u8 1, .int .u8 5] 5)) 33 #[.int .i64 0, .int .i64 0, .int .u64 0, .int .i64 0, .int .u64 0, .slice none 0 0, .int .u32 0, .int .u32 0, .int .i64 0, .int .i64 0, .int .i64 0, .int .i64 0, .int .i64 0, .int .u64 0, .int .i64 0, .int .i64 0, .int .i64 0]
  simpa using this
theorem lives_new (w0 : World) : Below w0.heap.size w0 (((w0.alloc (.cells #[.int .u8 1, .int .u8 5] 5)).alloc (.cells #[.int .i64 0, .int .i64 0, .int .u64 0, .int .i64 0, .int .u64 0, .slice none 0 0, .int .u32 0, .int .u32 0, .int .i64 0, .int .i64 0, .int .i64 0, .int .i64 0, .int .i64 0, .int .u64 0, .int .i64 0, .int .i64 0, .int .i64 0] 33)).setRow (w0.heap.size + 1) #[.int .i64 2, .int .i64 1, .int .u64 5, .int .i64 0, .int .u64 0, .slice (some ⟨w0.heap.size, 0, none⟩) 2 2, .int .u32 0, .int .u32 0, .int .i64 0, .int .i64 0, .int .i64 0, .int .i64 0, .int .i64 0, .int .u64 0, .int .i64 0, .int .i64 0, .int .i64 0]) ∧ Blk (((w0.alloc (.cells #[.int .u8 1, .int .u8 5] 5)).alloc (.cells #[.int .i64 0, .int .i64 0, .int .u64 0, .int .i64 0, .int .u64 0, .slice none 0 0, .int .u32 0, .int .u32 0, .int .i64 0, .int .i64 0, .int .i64 0, .int .i64 0, .int .i64 0, .int .u64 0, .int .i64 0, .int .i64 0, .int .i64 0] 33)).setRow (w0.heap.size + 1) #[.int .i64 2, .int .i64 1, .int .u64 5, .int .i64 0, .int .u64 0, .slice (some ⟨w0.heap.size, 0, none⟩) 2 2, .int .u32 0, .int .u32 0, .int .i64 0, .int .i64 0, .int .i64 0, .int .i64 0, .int .i64 0, .int .u64 0, .int .i64 0, .int .i64 0, .int .i64 0]) (w0.heap.size + 1) 33 (cel lp (.slice (some ⟨w0.heap.size, 0, none⟩) 2 2)) ∧ Ints .u8 (((w0.alloc (.cells #[.int .u8 1, .int .u8 5] 5)).alloc (.cells #[.int .i64 0, .int .i64 0, .int .u64 0, .int .i64 0, .int .u64 0, .slice none 0 0, .int .u32 0, .int .u32 0, .int .i64 0, .int .i64 0, .int .i64 0, .int .i64 0, .int .i64 0, .int .u64 0, .int .i64 0, .int .i64 0, .int .i64 0] 33)).setRow (w0.heap.size + 1) #[.int .i64 2, .int .i64 1, .int .u64 5, .int .i64 0, .int .u64 0, .slice (some ⟨w0.heap.size, 0, none⟩) 2 2, .int .u32 0, .int .u32 0, .int .i64 0, .int .i64 0, .int .i64 0, .int .i64 0, .int .i64 0, .int .u64 0, .int .i64 0, .int .i64 0, .int .i64 0]) (((w0.alloc (.cells #[.int .u8 1, .int .u8 5] 5)).alloc (.cells #[.int .i64 0, .int .i64 0, .int .u64 0, .int .i64 0, .int .u64 0, .slice none 0 0, .int .u32 0, .int .u32 0, .int .i64 0, .int .i64 0, .int .i64 0, .int .i64 0, .int .i64 0, .int .u64 0, .int .i64 0, .int .i64 0, .int .i64 0] 33)).setRow (w0.heap.size + 1) #[.int .i64 2, .int .i64 1, .int .u64 5, .int .i64 0, .int .u64 0, .slice (some ⟨w0.heap.size, 0, none⟩) 2 2, .int .u32 0, .int .u32 0, .int .i64 0, .int .i64 0, .int .i64 0, .int .i64 0, .int .i64 0, .int .u64 0, .int .i64 0, .int .i64 0, .int .i64 0]).heap.size (some ⟨w0.heap.size, 0, none⟩) [1, 5] := by
  have b : Below w0.heap.size w0 ((w0.alloc (.cells #[.int .u8 1, .int .u8 5] 5)).alloc (.cells #[.int .i64 0, .int .i64 0, .int .u64 0, .int .i64 0, .int .u64 0, .slice none 0 0, .int .u32 0, .int .u32 0, .int .i64 0, .int .i64 0, .int .i64 0, .int .i64 0, .int .i64 0, .int .u64 0, .int .i64 0, .int .i64 0, .int .i64 0] 33)) := ((Below.refl _ _).alloc (Nat.le_refl _) _).alloc (by simp) _
  refine ⟨below_setRow b (Nat.le_succ _) #[.int .i64 2, .int .i64 1, .int .u64 5, .int .i64 0, .int .u64 0, .slice (some ⟨w0.heap.size, 0, none⟩) 2 2, .int .u32 0, .int .u32 0, .int .i64 0, .int .i64 0, .int .i64 0, .int .i64 0, .int .i64 0, .int .u64 0, .int .i64 0, .int .i64 0, .int .i64 0], setRow_heap _ (w0.heap.size + 1) _ #[.int .i64 2, .int .i64 1, .int .u64 5, .int .i64 0, .int .u64 0, .slice (some ⟨w0.heap.size, 0, none⟩) 2 2, .int .u32 0, .int .u32 0, .int .i64 0, .int .i64 0, .int .i64 0, .int .i64 0, .int .i64 0, .int .u64 0, .int .i64 0, .int .i64 0, .int .i64 0] 33 (0, 0) (lives_row w0), ?_⟩
  have I := Base.kept (ints2 w0 1 5 w0.heap.size rfl) (.cells #[.int .i64 0, .int .i64 0, .int .u64 0, .int .i64 0, .int .u64 0, .slice none 0 0, .int .u32 0, .int .u32 0, .int .i64 0, .int .i64 0, .int .i64 0, .int .i64 0, .int .i64 0, .int .u64 0, .int .i64 0, .int .i64 0, .int .i64 0] 33)
  exact (farNe (cs := #[.int .i64 2, .int .i64 1, .int .u64 5, .int .i64 0, .int .u64 0, .slice (some ⟨w0.heap.size, 0, none⟩) 2 2, .int .u32 0, .int .u32 0, .int .i64 0, .int .i64 0, .int .i64 0, .int .i64 0, .int .i64 0, .int .u64 0, .int .i64 0, .int .i64 0, .int .i64 0]) (.inr ⟨_, rfl, by omega⟩) I).more (Nat.le_of_eq (size_setRow _ _ _).symm)
set_option maxRecDepth 100000 in
set_option maxHeartbeats 4000000 in
theorem lives_any (w : World) (hT : Adr.Tab w) : Calls Tryd.prog 9 #[] w fun e w' => e = .returned (.bool true) ∧ Below w.heap.size w w' := by
  have E1 := Lib.hid l_enca
  have E2 := Lib.hid l_encp
  have E3 := Lib.hid l_decp2
  have E4 := Lib.hid l_bs
  have E5 := Lib.hid l_ps
  have E6 := Lib.hid l_chk
  have E7 := Lib.hid l_chkn
  have E8 := Lib.hid l_sc6
  have E9 := Lib.hid l_sc2
  have EA := Lib.hid l_co1
  have EB := Lib.hid l_co6
  have H0 : ∀ g : Nat, (#[.int .i64 2, .int .i64 1, .int .u64 5, .int .i64 0, .int .u64 0, .slice (some ⟨g, 0, none⟩) 2 2, .int .u32 0, .int .u32 0, .int .i64 0, .int .i64 0, .int .i64 0, .int .i64 0, .int .i64 0, .int .u64 0, .int .i64 0, .int .i64 0, .int .i64 0] : Array Value).all (·.oneCell') = true := fun g => by rw [← Array.all_toList]; rfl
  have H1 : ∀ (A : Option Addr) (n c : Nat), (cel lp (.slice A n c)).all (·.oneCell') = true := fun A n c => by rw [← Array.all_toList]; rfl
  go_enter Tryd.func9, Tryd.ntmps9
  go_upto_region 2 with (fail)
  have F0 := Blk.fresh w 24 #[.int .i64 1, .int .u64 5]
  have B0 : Below w.heap.size w (w.alloc (.cells #[.int .i64 1, .int .u64 5] 24)) := (Below.refl _ _).alloc (Nat.le_refl _) _
  have T0 := hT.below B0
  have a0 := F0.cell 0
  have a1 := F0.cell 1
  have hl0 := F0.lt
  clear F0 hT
  generalize w.alloc (.cells #[.int .i64 1, .int .u64 5] 24) = w0 at *
  have K0 := lives_row w0
  obtain ⟨b9, KP, ID⟩ := lives_new w0
  go_upto_region 3 with (refine wpList_store_row rfl 33 (.tmp 2) _ rfl (w0.heap.size + 1) #[.int .i64 2, .int .i64 1, .int .u64 5, .int .i64 0, .int .u64 0, .slice (some ⟨w0.heap.size, 0, none⟩) 2 2, .int .u32 0, .int .u32 0, .int .i64 0, .int .i64 0, .int .i64 0, .int .i64 0, .int .i64 0, .int .u64 0, .int .i64 0, .int .i64 0, .int .i64 0] rfl rfl 33 _ K0 (by kernel_rfl) rfl (H0 _) ?_)
  clear K0 H0
  replace a0 := (b9.cell (p := ⟨w.heap.size, 0, none⟩) hl0).trans a0
  replace a1 := (b9.cell (p := ⟨w.heap.size, 1, none⟩) hl0).trans a1
  have BX := thenB B0 b9
  replace T0 := T0.below b9
  clear b9 B0 hl0
  generalize (((w0.alloc (.cells #[.int .u8 1, .int .u8 5] 5)).alloc (.cells #[.int .i64 0, .int .i64 0, .int .u64 0, .int .i64 0, .int .u64 0, .slice none 0 0, .int .u32 0, .int .u32 0, .int .i64 0, .int .i64 0, .int .i64 0, .int .i64 0, .int .i64 0, .int .u64 0, .int .i64 0, .int .i64 0, .int .i64 0] 33)).setRow (w0.heap.size + 1) #[.int .i64 2, .int .i64 1, .int .u64 5, .int .i64 0, .int .u64 0, .slice (some ⟨w0.heap.size, 0, none⟩) 2 2, .int .u32 0, .int .u32 0, .int .i64 0, .int .i64 0, .int .i64 0, .int .i64 0, .int .i64 0, .int .u64 0, .int .i64 0, .int .i64 0, .int .i64 0]) = X0 at *
  generalize w0.heap.size = gD at *
  generalize lp = p at *
  go_wp2_with fail
  refine (E1.out X0 T0).mono ?_
  rintro e W1 ⟨A1, c1, rfl, own1, b1⟩
  have I1 : Ints .u8 W1 W1.heap.size A1 ln := Ints.own own1
  clear own1 a0 a1
  replace BX := thenB BX b1
  have T1 := T0.below b1
  replace KP := KP.below b1 KP.lt
  replace ID := Base.later ID b1
  clear b1 T0
  go_wp2_with (refine wpList_load_row rfl 33 (.tmp 2) rfl (gD + 1) rfl 33 _ (0, 0) _ KP Tryd.underlying33 rfl (by kernel_rfl) ?_)
  refine (E2.out _ W1 ID T1).mono ?_
  rintro e W2 ⟨A2, c2, rfl, own2, b2⟩
  have I2 : Ints .u8 W2 W2.heap.size A2 lb := Ints.own own2
  have C2 := own_cap own2
  clear own2
  replace BX := thenB BX b2
  have T2 := T1.below b2
  replace KP := KP.below b2 KP.lt
  replace ID := Base.later ID b2
  replace I1 := Base.later I1 b2
  clear b2 T1
  go_wp2_with fail
  refine (E3.out A2 c2 C2 W2 I2 T2).mono ?_
  rintro e W3 ⟨A3, c3, rfl, C3, I3, b3⟩
  replace I3 : Ints .u8 W3 W3.heap.size A3 [1, 5] := I3
  replace BX := thenB BX b3
  have T3 := T2.below b3
  replace KP := KP.below b3 KP.lt
  replace ID := Base.later ID b3
  replace I1 := Base.later I1 b3
  replace I2 := Base.later I2 b3
  clear b3 T2
  have K7 := Blk.fresh W3 33 #[.int .i64 0, .int .i64 0, .int .u64 0, .int .i64 0, .int .u64 0, .slice none 0 0, .int .u32 0, .int .u32 0, .int .i64 0, .int .i64 0, .int .i64 0, .int .i64 0, .int .i64 0, .int .u64 0, .int .i64 0, .int .i64 0, .int .i64 0]
  go_upto_region 6 with (refine wpList_store_row rfl 33 (.tmp 7) _ rfl W3.heap.size (cel p (.slice A3 2 c3)) rfl rfl 33 _ K7 (by kernel_rfl) rfl (H1 _ _ _) ?_)
  have b4 : Below W3.heap.size W3 ((W3.alloc (.cells #[.int .i64 0, .int .i64 0, .int .u64 0, .int .i64 0, .int .u64 0, .slice none 0 0, .int .u32 0, .int .u32 0, .int .i64 0, .int .i64 0, .int .i64 0, .int .i64 0, .int .i64 0, .int .u64 0, .int .i64 0, .int .i64 0, .int .i64 0] 33)).setRow W3.heap.size (cel p (.slice A3 2 c3))) := below_setRow ((Below.refl W3.heap.size W3).alloc (Nat.le_refl _) (.cells #[.int .i64 0, .int .i64 0, .int .u64 0, .int .i64 0, .int .u64 0, .slice none 0 0, .int .u32 0, .int .u32 0, .int .i64 0, .int .i64 0, .int .i64 0, .int .i64 0, .int .i64 0, .int .u64 0, .int .i64 0, .int .i64 0, .int .i64 0] 33)) (Nat.le_refl _) (cel p (.slice A3 2 c3))
  replace K7 : Blk ((W3.alloc (.cells #[.int .i64 0, .int .i64 0, .int .u64 0, .int .i64 0, .int .u64 0, .slice none 0 0, .int .u32 0, .int .u32 0, .int .i64 0, .int .i64 0, .int .i64 0, .int .i64 0, .int .i64 0, .int .u64 0, .int .i64 0, .int .i64 0, .int .i64 0] 33)).setRow W3.heap.size (cel p (.slice A3 2 c3))) W3.heap.size 33 (cel p (.slice A3 2 c3)) := setRow_heap _ W3.heap.size _ (cel p (.slice A3 2 c3)) 33 (0, 0) K7
  replace BX := thenB BX b4
  have T4 := T3.below b4
  replace KP := KP.below b4 KP.lt
  replace ID := Base.later ID b4
  replace I1 := Base.later I1 b4
  replace I2 := Base.later I2 b4
  replace I3 := Base.later I3 b4
  clear b4 T3 H1
  generalize (W3.alloc (.cells #[.int .i64 0, .int .i64 0, .int .u64 0, .int .i64 0, .int .u64 0, .slice none 0 0, .int .u32 0, .int .u32 0, .int .i64 0, .int .i64 0, .int .i64 0, .int .i64 0, .int .i64 0, .int .u64 0, .int .i64 0, .int .i64 0, .int .i64 0] 33)).setRow W3.heap.size (cel p (.slice A3 2 c3)) = X3 at *
  generalize W3.heap.size = gQ at *
  obtain ⟨i0, hi, hz0, hz1, hz2⟩ := info_parts Base.info_u8
  have own9 : (X3.alloc (.cells #[.int .u8 2, .int .u8 9] 5)).ownsRow X3.heap.size 5 1 (.slice (some ⟨X3.heap.size, 0, none⟩) 2 2) 2 ([(2 : Int), 9].map (Value.int .u8)) := World.ownsRow_lit X3 #[.int .u8 2, .int .u8 9] 2 (Nat.le_refl _) (by unfold maxLen; omega) rfl
  have IA := Base.kept I1 (.cells #[.int .u8 2, .int .u8 9] 5)
  have B9 : Below X3.heap.size X3 (X3.alloc (.cells #[.int .u8 2, .int .u8 9] 5)) := (Below.refl _ _).alloc (Nat.le_refl _) _
  go_wp2_with (at_builtin; first
    | (refine wpList_on (by rfl) (wpList_append_ints rfl _ _ 25 rfl .u8 X3.heap.size 5 i0 _ 1 Tryd.underlying25 hi hz0 hz1 hz2 rfl (.slice A5 (2 + 7) c5) (2 + 7) _ rfl (own5.alloc _) _ (some ⟨w5.heap.size, 0, none⟩) 2 2 [1, 5] rfl rfl (ints2 w5 1 5 _ rfl) (by unfold maxLen; omega) (by omega) (by have := b5.size; simp at this ⊢; omega) ?_); intro v6 w6 own6 b6 g6; obtain ⟨A6, c6, rfl⟩ := own_form own6)
    | (refine wpList_on (by rfl) (wpList_append_ints rfl _ _ 25 rfl .u8 X3.heap.size 5 i0 _ 1 Tryd.underlying25 hi hz0 hz1 hz2 rfl (.slice (some ⟨X3.heap.size, 0, none⟩) 2 2) 2 _ rfl own9 _ A1 7 c1 ln rfl rfl IA (by unfold maxLen; omega) (by omega) (by simp) ?_); intro v5 w5 own5 b5 g5; obtain ⟨A5, c5, rfl⟩ := own_form own5))
  have b7 : Below X3.heap.size X3 w6 := ((B9.trans b5).alloc (by have := b5.size; simp at this; omega) _).trans b6
  have I6 : Ints .u8 w6 w6.heap.size A6 lb := Ints.own own6
  replace BX := thenB BX b7
  have T5 := T4.below b7
  replace KP := KP.below b7 KP.lt
  replace K7 := K7.below b7 K7.lt
  replace ID := Base.later ID b7
  replace I2 := Base.later I2 b7
  replace I3 := Base.later I3 b7
  clear own5 own6 own9 b5 b6 g5 g6 B9 b7 IA I1 T4 hi hz0 hz1 hz2
  refine (E4.out A2 A6 c2 c6 w6 I2 I6).mono ?_
  rintro e w7 ⟨rfl, rfl⟩
  clear I2 I6
  go_wp2_with (first | (refine wpList_on (by rfl) (wpList_load_row rfl 33 (.tmp 2) rfl (gD + 1) rfl 33 _ (0, 0) _ KP Tryd.underlying33 rfl (by kernel_rfl) ?_)) | (refine wpList_on (by rfl) (wpList_load_row rfl 33 (.tmp 7) rfl gQ rfl 33 _ (0, 0) _ K7 Tryd.underlying33 rfl (by kernel_rfl) ?_)))
  refine (E5.out _ _ _ _ w6 ID I3).mono ?_
  rintro e w8 ⟨rfl, b8⟩
  replace BX := thenB BX b8
  have T6 := T5.below b8
  replace KP := KP.below b8 KP.lt
  clear ID I3 K7 T5 b8
  go_wp2_with (refine wpList_on (by rfl) (wpList_load_row rfl 33 (.tmp 2) rfl (gD + 1) rfl 33 _ (0, 0) _ KP Tryd.underlying33 rfl (by kernel_rfl) ?_))
  refine (E6.out _ w8 T6).mono ?_
  rintro e w9 ⟨rfl, b9⟩
  replace BX := thenB BX b9
  have T7 := T6.below b9
  clear KP T6 b9
  go_wp2_with fail
  refine (E7.out w9 T7).mono ?_
  rintro e w10 ⟨rfl, b10⟩
  replace BX := thenB BX b10
  clear T7 b10
  go_wp2_with fail
  refine (E8.out w10).mono ?_
  rintro e w11 ⟨rfl, rfl⟩
  go_wp2_with fail
  refine (E9.out w10).mono ?_
  rintro e w11 ⟨rfl, rfl⟩
  go_wp2_with fail
  refine (EA.out w10).mono ?_
  rintro e w11 ⟨rfl, rfl⟩
  go_wp2_with fail
  refine (EB.out w10).mono ?_
  rintro e w11 ⟨rfl, rfl⟩
  go_wp2_with fail
  go_ret
  exact ⟨rfl, BX⟩
end Go.Proofs.YtcjlliilfecmnaaDoor.Ap

end
section
set_option linter.unusedVariables false
set_option linter.unusedSimpArgs false
namespace Go.Proofs.YtcjlliilfecmnaaDoor.Ap
open Go.RowKit Mem Oct

theorem kinds_of (p : Pd) (h : 0 ≤ p.k ∧ p.k ≤ 6) : 0 ≤ fstB p ∧ fstB p ≤ 255 ∧ fstB p % 16 = p.k ∧ fstB p / 16 % 4 = 0 := by
  unfold fstB
  split <;> split <;> omega
theorem enc_adr {k b : Int} (h : Adr.chk k b = 0) : (Adr.encR k b).1 = k :: numL 6 b := by unfold Adr.encR; rw [if_pos h]
theorem dA_form {k b : Int} (r : List Int) (h : Adr.chk k b = 0) (hb : 0 ≤ b) : dA ((Adr.encR k b).1 ++ r) = (k, b, r, 0) := by
  have hk := Adr.chk_ok h
  have hv : valL (((((Adr.encR k b).1 ++ r)).drop 1).take 6) = b := by
    rw [enc_adr h]
    have : (numL 6 b ++ r).take 6 = numL 6 b := by rw [List.take_append_of_le_length (by rw [numL_len]; exact Nat.le_refl _)]; exact List.take_of_length_le (by rw [numL_len]; exact Nat.le_refl _)
    simp only [List.cons_append, List.drop_succ_cons, List.drop_zero, this]
    exact valL_numL 6 b hb (by rw [show Ser.p2 (8 * 6) = 281474976710656 by decide]; exact hk.2)
  have h0 : ((Adr.encR k b).1 ++ r).getD 0 0 = k := by rw [enc_adr h]; rfl
  unfold dA
  rw [hv, h0, if_neg (by rw [enc_adr h]; simp [numL_len]), if_pos h]
  rw [enc_adr h]
  have : (numL 6 b ++ r).drop 6 = r := by rw [List.drop_append_of_le_length (by rw [numL_len]; exact Nat.le_refl _), List.drop_of_length_le (by rw [numL_len]; exact Nat.le_refl _)]; rfl
  simp only [List.cons_append, List.drop_succ_cons, this]
theorem dA_ok {ys : List Int} (hB : Bytes ys) (h : (dA ys).2.2.2 = 0) : Adr.chk (dA ys).1 (dA ys).2.1 = 0 ∧ 0 ≤ (dA ys).2.1 ∧ ys = (Adr.encR (dA ys).1 (dA ys).2.1).1 ++ (dA ys).2.2.1 := by
  unfold dA at h ⊢
  by_cases h7 : ys.length < 7
  · rw [if_pos h7] at h; exact absurd h (by decide)
  · rw [if_neg h7] at h ⊢
    by_cases hc : Adr.chk (ys.getD 0 0) (valL ((ys.drop 1).take 6)) = 0
    · rw [if_pos hc]
      have b6 : Bytes ((ys.drop 1).take 6) := fun z hz => hB z (List.mem_of_mem_drop (List.mem_of_mem_take hz))
      have l6 : ((ys.drop 1).take 6).length = 6 := by simp; omega
      refine ⟨hc, (valL_bd b6).1, ?_⟩
      simp only
      rw [enc_adr hc]
      have hv := Cn.numL_valL b6
      rw [l6] at hv
      rw [hv]
      obtain ⟨a, r, rfl⟩ : ∃ a r, ys = a :: r := by
        cases ys with
        | nil => simp at h7
        | cons a r => exact ⟨a, r, rfl⟩
      simp only [List.drop_succ_cons, List.drop_zero, List.cons_append]
      rw [List.take_append_drop]; rfl
    · rw [if_neg hc] at h; exact absurd h hc
theorem Okp.no3 {p : Pd} (h : Okp p) (e : datB p.k = false) : p.ds = [] := by
  have := h.hd; rw [e] at this; unfold dE at this; rw [if_neg (by simp)] at this
  split at this
  · omega
  · exact List.length_eq_zero_iff.1 (by omega)
theorem Okp.tb {p : Pd} (h : Okp p) (hW : Wid p) : tgtB p.k = true → Adr.chk p.tk p.tb = 0 ∧ 0 ≤ p.tb := fun e => ⟨h.t_yes e, hW.htb.1⟩
theorem adrs_form_ok {p : Pd} (h : Okp p) (hW : Wid p) (r : List Int) : adrs p.k ((Adr.encR p.sk p.sb).1 ++ ((Adr.encR p.tk p.tb).1 ++ r)) = (adrP p.k p.sk p.sb p.tk p.tb, r, 0) := by
  unfold adrs
  rw [dA_form _ h.hs hW.hsb.1]
  cases e : tgtB p.k with
  | true =>
    rw [if_pos ⟨rfl, rfl⟩]
    simp only
    rw [dA_form _ (h.t_yes e) hW.htb.1]
  | false =>
    rw [if_neg (by simp)]
    have hz := h.t_no e
    rw [hz.1, hz.2]
    simp only
    rw [show (Adr.encR 0 0).1 = [] by decide]; rfl
theorem decR_ok {a b s o i l t : Int} {m : Nat} {h d g : Int} (k : Cn.okP a b s o i l t m h d g = 0) (ha : 0 ≤ a ∧ a ≤ 4294967295) (hb : 0 ≤ b) : Cn.decR (Oct.putL (Cn.flL a b s o i l t m h d g)) = (Cn.nmL a b s o i l t m h d g, 0) := by
  have hw := Cn.good_wide (Cn.okP_good ha hb k)
  unfold Cn.decR
  rw [if_neg (by rw [Cn.fl_len]; omega), if_neg (by rw [Cn.fl_len]; omega), Cn.nums_put hw, Cn.okN_nm, if_pos k]
theorem cmpl_ok {p : Pd} (h : Okp p) (hW : Wid p) : cmpl p.k p.sk p.sb p.tk p.tb (p.ds ++ (Cn.encR p.a p.b p.s p.o p.i p.l p.t p.m p.h p.d p.g).1) = (p, 0) := by
  unfold cmpl
  cases e : conB p.k with
  | true =>
    have e5 : p.k = 5 := by unfold conB at e; simpa using e
    have hd : p.ds = [] := h.no3 (by rw [e5]; decide)
    have hc : Cn.okP p.a p.b p.s p.o p.i p.l p.t p.m p.h p.d p.g = 0 := by
      have := h.hc; rw [e] at this; unfold cE okC at this; simpa using this
    rw [if_pos rfl, hd, List.nil_append]
    have : (Cn.encR p.a p.b p.s p.o p.i p.l p.t p.m p.h p.d p.g).1 = Oct.putL (Cn.flL p.a p.b p.s p.o p.i p.l p.t p.m p.h p.d p.g) := by unfold Cn.encR; rw [if_pos hc]
    rw [this, decR_ok hc hW.ha hW.hb.1]
    obtain ⟨k, sk, sb, tk, tb, ds, a, b, s, o, i, l, t, m, h', d, g⟩ := p
    simp only at hd
    subst hd
    simp [withC, Cn.nmL]
  | false =>
    rw [if_neg (by simp), h.no4 e, List.append_nil]
    have hz := h.c_no e
    unfold zerC at hz
    rw [decide_eq_true_eq] at hz
    cases e2 : datB p.k with
    | true =>
      have hd := h.hd
      rw [e2] at hd
      rw [if_pos rfl, hd]
      obtain ⟨k, sk, sb, tk, tb, ds, a, b, s, o, i, l, t, m, h', d, g⟩ := p
      simp only at hz
      obtain ⟨rfl, rfl, rfl, rfl, rfl, rfl, rfl, rfl, rfl, rfl, rfl⟩ := hz
      rfl
    | false =>
      have hd := h.no3 e2
      rw [if_neg (by simp), hd, if_neg (by simp)]
      obtain ⟨k, sk, sb, tk, tb, ds, a, b, s, o, i, l, t, m, h', d, g⟩ := p
      simp only at hz hd
      obtain ⟨rfl, rfl, rfl, rfl, rfl, rfl, rfl, rfl, rfl, rfl, rfl⟩ := hz
      subst hd
      rfl
theorem pay_ok_len {p : Pd} (h : Okp p) : 7 ≤ (payP p).length ∧ (payP p).length ≤ 39 := by
  have h1 : (Adr.encR p.sk p.sb).1.length = 7 := by rw [enc_adr h.hs]; simp [numL_len]
  have h2 := adr_len p.tk p.tb
  have h3 := h.data
  have h4 := cn_len p.a p.b p.s p.o p.i p.l p.t p.m p.h p.d p.g
  unfold payP
  simp only [List.length_append]
  cases e : conB p.k with
  | true =>
    have e5 : p.k = 5 := by unfold conB at e; simpa using e
    have hd : p.ds = [] := h.no3 (by rw [e5]; decide)
    rw [hd]; simp only [List.length_nil]; omega
  | false =>
    rw [h.no4 e]; simp only [List.length_nil]
    cases e2 : tgtB p.k with
    | true =>
      have : p.ds = [] := h.no3 (by
        unfold tgtB at e2; simp only [Bool.or_eq_true, beq_iff_eq] at e2
        rcases e2 with e2 | e2 | e2 <;> rw [e2] <;> decide)
      rw [this]; simp only [List.length_nil]; omega
    | false => rw [h.no2 e2]; simp only [List.length_nil]; omega
/-- A valid PDU is decoded from its bytes. -/
theorem dec_form {p : Pd} (h : chkP p = 0) (hW : Wid p) : decP (formP p) = (p, 0) := by
  have ok := ok_of h
  have hk := kinds_of p ok.kind
  have hl := pay_ok_len ok
  have kk := ok.kind
  have g0 : (formP p).getD 0 0 = fstB p := rfl
  have g1 : (formP p).getD 1 0 = ((payP p).length : Int) := rfl
  have gl : (formP p).length = (payP p).length + 2 := rfl
  have hh : hdrE (formP p) = 0 := by
    unfold hdrE
    rw [g0, g1, gl, if_neg (by omega), if_neg (by omega), if_neg (by omega), if_neg (by omega), if_neg (by omega)]
  have ha : adrs ((formP p).getD 0 0 % 16) ((formP p).drop 2) = (adrP p.k p.sk p.sb p.tk p.tb, p.ds ++ (Cn.encR p.a p.b p.s p.o p.i p.l p.t p.m p.h p.d p.g).1, 0) := by
    rw [g0, hk.2.2.1]
    exact adrs_form_ok ok hW _
  have hc := cmpl_ok ok hW
  rw [decP_ok hh ha (by rw [g0]; rfl) (by show (cmpl p.k p.sk p.sb p.tk p.tb _).2 = 0; rw [hc])]
  show ((cmpl p.k p.sk p.sb p.tk p.tb _).1, 0) = (p, 0)
  rw [hc]
theorem dec_enc {p : Pd} (h : chkP p = 0) (hW : Wid p) : decP (encP p).1 = (p, 0) := by unfold encP; rw [if_pos h]; exact dec_form h hW
/-- What is not accepted. -/
theorem dec_err {xs : List Int} (h : (decP xs).2 ≠ 0) : (decP xs).1 = zp := by
  unfold decP at h ⊢
  split at h
  · rename_i h1; rw [if_pos h1]
  · rename_i h1; rw [if_neg h1]
    split at h
    · rename_i h2; rw [if_pos h2]
    · rename_i h2; rw [if_neg h2]
      split at h
      · rename_i h3; rw [if_pos h3]
      · rename_i h3; rw [if_neg h3]
        split at h
        · rename_i h4; rw [if_pos h4]
        · exact absurd rfl h
theorem adrs_ok {k : Int} {ys : List Int} (hB : Bytes ys) (h : (adrs k ys).2.2 = 0) : ∃ sk sb tk tb L, adrs k ys = (adrP k sk sb tk tb, L, 0) ∧ Adr.chk sk sb = 0 ∧ 0 ≤ sb ∧ tE (tgtB k) tk tb = 0 ∧ 0 ≤ tb ∧ ys = (Adr.encR sk sb).1 ++ ((Adr.encR tk tb).1 ++ L) := by
  unfold adrs at h ⊢
  by_cases hc : (dA ys).2.2.2 = 0 ∧ tgtB k = true
  · rw [if_pos hc] at h ⊢
    obtain ⟨a1, a2, a3⟩ := dA_ok hB hc.1
    obtain ⟨b1, b2, b3⟩ := dA_ok (dA_bytes hB) h
    refine ⟨_, _, _, _, _, by rw [h], a1, a2, by rw [hc.2]; unfold tE; rw [if_pos rfl]; exact b1, b2, ?_⟩
    rw [← b3]; exact a3
  · rw [if_neg hc] at h ⊢
    obtain ⟨a1, a2, a3⟩ := dA_ok hB h
    have ht : tgtB k = false := by
      cases e : tgtB k with
      | false => rfl
      | true => exact absurd ⟨h, e⟩ hc
    refine ⟨_, _, 0, 0, _, by rw [h], a1, a2, by rw [ht]; rfl, by omega, ?_⟩
    rw [show (Adr.encR 0 0).1 = [] by decide, List.nil_append]; exact a3
/-- What is accepted is valid, and has these bytes. -/
theorem form_dec {xs : List Int} (hB : Bytes xs) (h : (decP xs).2 = 0) : chkP (decP xs).1 = 0 ∧ formP (decP xs).1 = xs ∧ Wid (decP xs).1 ∧ Bytes (decP xs).1.ds := by
  have hh : hdrE xs = 0 := by
    by_cases c : hdrE xs = 0
    · exact c
    · rw [decP_hdr c] at h; exact absurd h c
  obtain ⟨h2, h6, hl⟩ := hdr_ok hh
  have hBd : Bytes (xs.drop 2) := fun z hz => hB z (List.mem_of_mem_drop hz)
  have b0 : 0 ≤ xs.getD 0 0 := (hB _ (by simp [List.getD, List.getElem?_eq_getElem (show 0 < xs.length by omega)])).1
  have hae : (adrs (xs.getD 0 0 % 16) (xs.drop 2)).2.2 = 0 := by
    by_cases c : (adrs (xs.getD 0 0 % 16) (xs.drop 2)).2.2 = 0
    · exact c
    · obtain ⟨sk, sb, tk, tb, L, er, e⟩ := adrs_form (xs.getD 0 0 % 16) (xs.drop 2)
      rw [e] at c
      rw [decP_adr hh e c] at h; exact absurd h c
  obtain ⟨sk, sb, tk, tb, L, ha, k1, k2, k3, k4, k5⟩ := adrs_ok hBd hae
  have bL : Bytes L := by
    have := adrs_bytes (k := xs.getD 0 0 % 16) hBd
    rw [ha] at this; exact this
  have hf : xs.getD 0 0 = fstB (adrP (xs.getD 0 0 % 16) sk sb tk tb) := by
    by_cases c : xs.getD 0 0 = fstB (adrP (xs.getD 0 0 % 16) sk sb tk tb)
    · exact c
    · rw [decP_fst hh ha c] at h; exact absurd h (by decide)
  have hc : (cmpl (xs.getD 0 0 % 16) sk sb tk tb L).2 = 0 := by
    by_cases c : (cmpl (xs.getD 0 0 % 16) sk sb tk tb L).2 = 0
    · exact c
    · rw [decP_cmp hh ha hf c] at h; exact absurd h c
  rw [decP_ok hh ha hf hc]
  show chkP (cmpl (xs.getD 0 0 % 16) sk sb tk tb L).1 = 0 ∧ formP (cmpl (xs.getD 0 0 % 16) sk sb tk tb L).1 = xs ∧ Wid (cmpl (xs.getD 0 0 % 16) sk sb tk tb L).1 ∧ Bytes (cmpl (xs.getD 0 0 % 16) sk sb tk tb L).1.ds
  have hk : 0 ≤ xs.getD 0 0 % 16 ∧ xs.getD 0 0 % 16 ≤ 6 := by omega
  obtain ⟨x0, x1, ys, rfl⟩ : ∃ x0 x1 ys, xs = x0 :: x1 :: ys := by
    cases xs with
    | nil => simp at h2
    | cons a r => cases r with
      | nil => simp at h2
      | cons b r => exact ⟨a, b, r, rfl⟩
  simp only [show (x0 :: x1 :: ys).getD 0 0 = x0 from rfl, show (x0 :: x1 :: ys).getD 1 0 = x1 from rfl, show (x0 :: x1 :: ys).drop 2 = ys from rfl, List.length_cons] at *
  generalize hkk : x0 % 16 = k at *
  have q1 := Adr.chk_ok k1
  have q2 : (0 ≤ tk ∧ tk ≤ 4) ∧ tb < 281474976710656 := by
    unfold tE at k3
    split at k3
    · have := Adr.chk_ok k3; omega
    · split at k3
      · omega
      · omega
  have main : ∀ p : Pd, p.k = k → p.sk = sk → p.sb = sb → p.tk = tk → p.tb = tb → dE (datB k) p.ds.length = 0 → cE (conB k) p = 0 → L = p.ds ++ (Cn.encR p.a p.b p.s p.o p.i p.l p.t p.m p.h p.d p.g).1 → (0 ≤ p.a ∧ p.a ≤ 4294967295) → (0 ≤ p.b ∧ p.b ≤ 4294967295) → p.m ≤ 18446744073709551615 →
      chkP p = 0 ∧ formP p = x0 :: x1 :: ys ∧ Wid p ∧ Bytes p.ds := by
    intro p e1 e2 e3 e4 e5 d1 c1 eL wa wb wm
    refine ⟨of_ok ⟨by rw [e1]; exact hk, by rw [e2, e3]; exact k1, by rw [e1, e4, e5]; exact k3, by rw [e1]; exact d1, by rw [e1]; exact c1⟩, ?_, ⟨by omega, by omega, by omega, by omega, by omega, wa, wb, wm⟩, ?_⟩
    · have hp : payP p = ys := by unfold payP; rw [e2, e3, e4, e5, ← eL]; exact k5.symm
      have hq : fstB p = x0 := by rw [hf, ← e1, ← e2, ← e3, ← e4, ← e5]; rfl
      unfold formP
      rw [hp, hq]
      congr 2
      omega
    · intro z hz; exact bL z (by rw [eL]; exact List.mem_append_left _ hz)
  unfold cmpl at hc ⊢
  cases e : conB k with
  | true =>
    rw [e, if_pos rfl] at hc
    rw [if_pos rfl]
    simp only at hc ⊢
    have e5 : k = 5 := by unfold conB at e; simpa using e
    have hl25 : L.length = 25 := by
      unfold Cn.decR at hc
      split at hc
      · exact absurd hc (by decide)
      · split at hc
        · exact absurd hc (by decide)
        · omega
    obtain ⟨a, b, s, o, i, l, t, m, h', d, g, en, ew, ep⟩ := Cn.form_of bL hl25
    have hok : Cn.okP a b s o i l t m h' d g = 0 := by
      unfold Cn.decR at hc
      rw [if_neg (by omega), if_neg (by omega), en, Cn.okN_nm] at hc
      split at hc
      · assumption
      · exact hc
    have hd : Cn.decR L = (Cn.nmL a b s o i l t m h' d g, 0) := by
      rw [ep]; exact decR_ok hok ew.ha ew.hb.1
    rw [hd]
    have hN : withC k sk sb tk tb (Cn.nmL a b s o i l t m h' d g) = ⟨k, sk, sb, tk, tb, [], a, b, s, o, i, l, t, m, h', d, g⟩ := by simp [withC, Cn.nmL]
    simp only [hN]
    refine main _ rfl rfl rfl rfl rfl (by rw [e5]; rfl) (by rw [e]; unfold cE okC; rw [if_pos rfl]; exact hok) ?_ ew.ha (by have := ew.hb; simp only; omega) (by have := ew.hm; simp only; omega)
    simp only [List.nil_append]
    unfold Cn.encR; rw [if_pos hok]; exact ep
  | false =>
    rw [e, if_neg (by simp)] at hc
    rw [if_neg (by simp)]
    cases e2 : datB k with
    | true =>
      rw [e2, if_pos rfl] at hc
      rw [if_pos rfl]
      refine main _ rfl rfl rfl rfl rfl (by rw [e2]; exact hc) (by rw [e]; rfl) ?_ ⟨Int.le_refl 0, show (0 : Int) ≤ 4294967295 by decide⟩ ⟨Int.le_refl 0, show (0 : Int) ≤ 4294967295 by decide⟩ (Nat.zero_le _)
      show L = L ++ (Cn.encR 0 0 0 0 0 0 0 0 0 0 0).1
      rw [show (Cn.encR 0 0 0 0 0 0 0 0 0 0 0).1 = [] by decide, List.append_nil]
    | false =>
      rw [e2, if_neg (by simp)] at hc
      rw [if_neg (by simp)]
      by_cases hL : 0 < L.length
      · rw [if_pos hL] at hc; exact absurd (show (2 : Int) = 0 from hc) (by decide)
      · rw [if_neg hL]
        have hL0 : L = [] := List.length_eq_zero_iff.1 (by omega)
        refine main _ rfl rfl rfl rfl rfl (by rw [e2]; rfl) (by rw [e]; rfl) ?_ ⟨Int.le_refl 0, show (0 : Int) ≤ 4294967295 by decide⟩ ⟨Int.le_refl 0, show (0 : Int) ≤ 4294967295 by decide⟩ (Nat.zero_le _)
        show L = [] ++ (Cn.encR 0 0 0 0 0 0 0 0 0 0 0).1
        rw [show (Cn.encR 0 0 0 0 0 0 0 0 0 0 0).1 = [] by decide]; exact hL0
theorem form_len {p : Pd} (h : chkP p = 0) : 9 ≤ (formP p).length ∧ (formP p).length ≤ 41 := by
  have := pay_ok_len (ok_of h)
  have gl : (formP p).length = (payP p).length + 2 := rfl
  omega
end Go.Proofs.YtcjlliilfecmnaaDoor.Ap

end
