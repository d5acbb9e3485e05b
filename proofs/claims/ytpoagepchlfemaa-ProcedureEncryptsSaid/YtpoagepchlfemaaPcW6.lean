/- Control procedures: a control PDU goes to the handler of its kind: contracts over the program. -/
import Derived.Test.YtpoagepchlfemaaPcW5
set_option linter.unusedVariables false
set_option linter.unusedSimpArgs false
namespace Go.Proofs.Ytpoagepchlfemaa.Pc
open Go.RowKit Mem Rw Cp
open Base (thenB)
open Av (Row)

/-- Entries of a map, as they were laid one after the other. -/
def entF : Nat → List (Int × Value) → List MapEntry
  | _, [] => []
  | n, (k, v) :: r => { key := .int .i64 k, val := v, born := n } :: entF (n + 1) r
theorem entF_snoc (L : List (Int × Value)) : ∀ (n : Nat) (k : Int) (v : Value), entF n (L ++ [(k, v)]) = entF n L ++ [{ key := .int .i64 k, val := v, born := n + L.length }] := by
  induction L with
  | nil => intro n k v; simp [entF]
  | cons x r ih =>
    intro n k v
    obtain ⟨k', v'⟩ := x
    simp only [List.cons_append, entF, ih, List.length_cons]
    rw [show n + 1 + r.length = n + (r.length + 1) by omega]
/-- A map in memory. -/
def MapL (w : World) (b : Nat) (L : List (Int × Value)) : Prop := w.heap[b]? = some (.map (entF 0 L).toArray L.length)
theorem MapL.fresh (w : World) : MapL (w.alloc (.map #[] 0)) w.heap.size [] := heap_alloc_new w _
theorem MapL.lt {w : World} {b : Nat} {L : List (Int × Value)} (h : MapL w b L) : b < w.heap.size := by
  rcases Nat.lt_or_ge b w.heap.size with hlt | hge
  · exact hlt
  · unfold MapL at h; rw [Array.getElem?_eq_none hge] at h; cases h
theorem MapL.below {w w' : World} {b : Nat} {L : List (Int × Value)} (h : MapL w b L) (hb : Below w.heap.size w w') : MapL w' b L := by
  have hl := h.lt
  unfold MapL at *
  rw [hb.block b hl]; exact h
section
variable {P : Program} {ops : Array Oper} {rest : List Oper} {o : Oper} {a : Act} {w : World} {Q : Exit → Act → World → Prop}
theorem wpList_ins (hgd : o.guard = none) (t : TypeId) (m k x : Operand) (ho : o.op = .insert t m k x) (b : Nat) (hm : a.eval m = .map (some b)) (key : Int) (hk : a.eval k = .int .i64 key) (v : Value) (hv : a.eval x = v)
    (kt et : TypeId) (hu : P.underlying t = some (.map kt et)) (hd : P.underlying kt = some (.int .i64)) (L : List (Int × Value)) (M : MapL w b L) (hn : Instr.findNow (.int .i64) (.int .i64 key) (entF 0 L) 0 = some none)
    (L' : List (Int × Value)) (hL : L ++ [(key, v)] = L')
    (h : ∀ w', MapL w' b L' → Grw b w w' → wpList P ops Q rest (a.put o.dst undef) w') : wpList P ops Q (o :: rest) a w := by
  subst hL
  refine wpList_plain hgd fun K hK => ?_
  refine Draw.wp_skip (Draw.ex_insert ho (by rw [hm, hk, hv]; exact Draw.run_insert key v hu hd M (by simpa using hn))) (hK _ _ (h _ ?_ ?_))
  · unfold MapL
    rw [entF_snoc]
    have hl := M.lt
    simp [Array.getElem?_setIfInBounds, hl]
  · exact ⟨⟨rfl, rfl, rfl, by simp, fun i hi hne => by
      show (w.heap.setIfInBounds b _)[i]? = _
      rw [Array.getElem?_setIfInBounds, if_neg (fun e => hne (by rw [e]))]⟩⟩
theorem wpList_mkmap (hgd : o.guard = none) (t : TypeId) (ho : o.op = .makeMap t none) (b : Nat) (hb : w.heap.size = b) (h : wpList P ops Q rest (a.put o.dst (.map (some b))) (w.alloc (.map #[] 0))) : wpList P ops Q (o :: rest) a w := by
  subst hb
  exact wpList_plain hgd fun K hK => Draw.wp_value (Draw.ex_makeMap ho) (hK _ _ h)
theorem wpList_look (hgd : o.guard = none) (t : TypeId) (m k : Operand) (ho : o.op = .lookup t m k true) (b : Nat) (hm : a.eval m = .map (some b)) (key : Int) (hk : a.eval k = .int .i64 key)
    (kt et : TypeId) (hu : P.underlying t = some (.map kt et)) (hd : P.underlying kt = some (.int .i64)) (L : List (Int × Value)) (M : MapL w b L) (j : Nat) (v : Value) (hn : Instr.findNow (.int .i64) (.int .i64 key) (entF 0 L) 0 = some (some (j, v)))
    (h : wpList P ops Q rest (a.put o.dst (.tuple #[v, .bool true])) w) : wpList P ops Q (o :: rest) a w := by
  refine wpList_plain hgd fun K hK => ?_
  exact Draw.wp_value (Draw.ex_lookup ho (by rw [hm, hk]; exact Draw.run_look_some hu hd M (by simpa using hn))) (hK _ _ h)
end
set_option maxRecDepth 100000 in
set_option maxHeartbeats 8000000 in
theorem hnd21_any (g : Nat) (x : Pr) (ev now : Int) (c : Ct) (w : World) (K1 : Blk w g 80 (sdC x ev now nilV nilV)) (hk : c.k = 21) (R : World → Prop) (HF : ∀ X, Blk X g 80 (sdC x ev now nilV nilV) → Below w.heap.size w X → Calls Try.prog 55 #[.pointer (some ⟨g, 0, none⟩), .agg (encC c)] X fun e w' => e = .returned (.tuple #[]) ∧ R w') : Calls Try.prog 29 #[.pointer (some ⟨g, 0, none⟩), .agg (encC c)] w fun e w' => e = .returned (.tuple #[]) ∧ R w' := by
  replace HF := Lib.hid HF
  obtain ⟨ck, u1, u2, u3, u4, u5, cm, ci, cr, cj, cs, cy, cf, cv, cl⟩ := c
  simp only at hk
  subst hk
  generalize sdC x ev now nilV nilV = SDX at *
  dsimp only [encC] at *
  have hg := K1.lt
  replace K1 := (K1.alloc (.cells #[.int .i64 21, .int .i64 u1, .int .i64 u2, .int .i64 u3, .int .i64 u4, .int .i64 u5, .int .u64 (cm : Int), .int .u16 ci, .int .i64 cr, .int .i64 cj, .int .u64 cs, .int .u64 cy, .int .u64 cf, .int .i64 cv, .int .i64 cl] 57)).alloc (.map #[] 0)
  have K2 : Blk ((w.alloc (.cells #[.int .i64 21, .int .i64 u1, .int .i64 u2, .int .i64 u3, .int .i64 u4, .int .i64 u5, .int .u64 (cm : Int), .int .u16 ci, .int .i64 cr, .int .i64 cj, .int .u64 cs, .int .u64 cy, .int .u64 cf, .int .i64 cv, .int .i64 cl] 57)).alloc (.map #[] 0)) w.heap.size 57 #[.int .i64 21, .int .i64 u1, .int .i64 u2, .int .i64 u3, .int .i64 u4, .int .i64 u5, .int .u64 (cm : Int), .int .u16 ci, .int .i64 cr, .int .i64 cj, .int .u64 cs, .int .u64 cy, .int .u64 cf, .int .i64 cv, .int .i64 cl] := (Blk.fresh _ _ _).alloc _
  have BX : Below w.heap.size w ((w.alloc (.cells #[.int .i64 21, .int .i64 u1, .int .i64 u2, .int .i64 u3, .int .i64 u4, .int .i64 u5, .int .u64 (cm : Int), .int .u16 ci, .int .i64 cr, .int .i64 cj, .int .u64 cs, .int .u64 cy, .int .u64 cf, .int .i64 cv, .int .i64 cl] 57)).alloc (.map #[] 0)) := ((Below.refl _ _).alloc (Nat.le_refl _) _).alloc (by simp) _
  have ML := MapL.fresh (w.alloc (.cells #[.int .i64 21, .int .i64 u1, .int .i64 u2, .int .i64 u3, .int .i64 u4, .int .i64 u5, .int .u64 (cm : Int), .int .u16 ci, .int .i64 cr, .int .i64 cj, .int .u64 cs, .int .u64 cy, .int .u64 cf, .int .i64 cv, .int .i64 cl] 57))
  have hsz : (w.alloc (.cells #[.int .i64 21, .int .i64 u1, .int .i64 u2, .int .i64 u3, .int .i64 u4, .int .i64 u5, .int .u64 (cm : Int), .int .u16 ci, .int .i64 cr, .int .i64 cj, .int .u64 cs, .int .u64 cy, .int .u64 cf, .int .i64 cv, .int .i64 cl] 57)).heap.size = w.heap.size + 1 := by simp
  rw [hsz] at ML
  clear hsz
  have hgb : g ≠ w.heap.size + 1 := by omega
  have h2b : w.heap.size ≠ w.heap.size + 1 := by omega
  have hwb : w.heap.size ≤ w.heap.size + 1 := by omega
  go_enter Try.func29, Try.ntmps29
  go_upto_region 2 with (first | (refine wpList_mkmap rfl _ rfl (w.heap.size + 1) (by simp) ?_) | (refine wpList_ins rfl _ _ _ _ rfl _ rfl _ rfl _ rfl _ _ Try.underlying110 Try.underlying3 _ ML rfl _ rfl ?_; intro X9 M9 G9; replace ML := M9; replace K1 := G9.blk K1 hgb; replace K2 := G9.blk K2 h2b; replace BX := BX.trans (G9.below hwb BX.size); clear M9 G9; simp only [List.cons_append, List.nil_append] at ML))
  have k0 := K2.cell 0
  go_upto_region 3 with (refine wpList_look rfl _ _ _ rfl _ rfl _ rfl _ _ Try.underlying110 Try.underlying3 _ ML _ _ rfl ?_)
  clear k0
  go_wp2_with (first | (refine wpList_load_row_w rfl 57 (.tmp 3) rfl w.heap.size rfl 57 _ (0, 0) _ K2 Try.underlying57 rfl (by kernel_rfl) ?_) | (go_at_call 55; refine (HF.out _ K1 BX).mono ?_; rintro e X9 ⟨rfl, hR⟩))
  go_end0
  exact ⟨rfl, hR⟩
set_option maxRecDepth 100000 in
set_option maxHeartbeats 8000000 in
theorem hnd8_any (g : Nat) (x : Pr) (ev now : Int) (c : Ct) (w : World) (K1 : Blk w g 80 (sdC x ev now nilV nilV)) (hk : c.k = 8) (R : World → Prop) (HF : ∀ X, Blk X g 80 (sdC x ev now nilV nilV) → Below w.heap.size w X → Calls Try.prog 50 #[.pointer (some ⟨g, 0, none⟩), .agg (encC c)] X fun e w' => e = .returned (.tuple #[]) ∧ R w') : Calls Try.prog 29 #[.pointer (some ⟨g, 0, none⟩), .agg (encC c)] w fun e w' => e = .returned (.tuple #[]) ∧ R w' := by
  replace HF := Lib.hid HF
  obtain ⟨ck, u1, u2, u3, u4, u5, cm, ci, cr, cj, cs, cy, cf, cv, cl⟩ := c
  simp only at hk
  subst hk
  generalize sdC x ev now nilV nilV = SDX at *
  dsimp only [encC] at *
  have hg := K1.lt
  replace K1 := (K1.alloc (.cells #[.int .i64 8, .int .i64 u1, .int .i64 u2, .int .i64 u3, .int .i64 u4, .int .i64 u5, .int .u64 (cm : Int), .int .u16 ci, .int .i64 cr, .int .i64 cj, .int .u64 cs, .int .u64 cy, .int .u64 cf, .int .i64 cv, .int .i64 cl] 57)).alloc (.map #[] 0)
  have K2 : Blk ((w.alloc (.cells #[.int .i64 8, .int .i64 u1, .int .i64 u2, .int .i64 u3, .int .i64 u4, .int .i64 u5, .int .u64 (cm : Int), .int .u16 ci, .int .i64 cr, .int .i64 cj, .int .u64 cs, .int .u64 cy, .int .u64 cf, .int .i64 cv, .int .i64 cl] 57)).alloc (.map #[] 0)) w.heap.size 57 #[.int .i64 8, .int .i64 u1, .int .i64 u2, .int .i64 u3, .int .i64 u4, .int .i64 u5, .int .u64 (cm : Int), .int .u16 ci, .int .i64 cr, .int .i64 cj, .int .u64 cs, .int .u64 cy, .int .u64 cf, .int .i64 cv, .int .i64 cl] := (Blk.fresh _ _ _).alloc _
  have BX : Below w.heap.size w ((w.alloc (.cells #[.int .i64 8, .int .i64 u1, .int .i64 u2, .int .i64 u3, .int .i64 u4, .int .i64 u5, .int .u64 (cm : Int), .int .u16 ci, .int .i64 cr, .int .i64 cj, .int .u64 cs, .int .u64 cy, .int .u64 cf, .int .i64 cv, .int .i64 cl] 57)).alloc (.map #[] 0)) := ((Below.refl _ _).alloc (Nat.le_refl _) _).alloc (by simp) _
  have ML := MapL.fresh (w.alloc (.cells #[.int .i64 8, .int .i64 u1, .int .i64 u2, .int .i64 u3, .int .i64 u4, .int .i64 u5, .int .u64 (cm : Int), .int .u16 ci, .int .i64 cr, .int .i64 cj, .int .u64 cs, .int .u64 cy, .int .u64 cf, .int .i64 cv, .int .i64 cl] 57))
  have hsz : (w.alloc (.cells #[.int .i64 8, .int .i64 u1, .int .i64 u2, .int .i64 u3, .int .i64 u4, .int .i64 u5, .int .u64 (cm : Int), .int .u16 ci, .int .i64 cr, .int .i64 cj, .int .u64 cs, .int .u64 cy, .int .u64 cf, .int .i64 cv, .int .i64 cl] 57)).heap.size = w.heap.size + 1 := by simp
  rw [hsz] at ML
  clear hsz
  have hgb : g ≠ w.heap.size + 1 := by omega
  have h2b : w.heap.size ≠ w.heap.size + 1 := by omega
  have hwb : w.heap.size ≤ w.heap.size + 1 := by omega
  go_enter Try.func29, Try.ntmps29
  go_upto_region 2 with (first | (refine wpList_mkmap rfl _ rfl (w.heap.size + 1) (by simp) ?_) | (refine wpList_ins rfl _ _ _ _ rfl _ rfl _ rfl _ rfl _ _ Try.underlying110 Try.underlying3 _ ML rfl _ rfl ?_; intro X9 M9 G9; replace ML := M9; replace K1 := G9.blk K1 hgb; replace K2 := G9.blk K2 h2b; replace BX := BX.trans (G9.below hwb BX.size); clear M9 G9; simp only [List.cons_append, List.nil_append] at ML))
  have k0 := K2.cell 0
  go_upto_region 3 with (refine wpList_look rfl _ _ _ rfl _ rfl _ rfl _ _ Try.underlying110 Try.underlying3 _ ML _ _ rfl ?_)
  clear k0
  go_wp2_with (first | (refine wpList_load_row_w rfl 57 (.tmp 3) rfl w.heap.size rfl 57 _ (0, 0) _ K2 Try.underlying57 rfl (by kernel_rfl) ?_) | (go_at_call 50; refine (HF.out _ K1 BX).mono ?_; rintro e X9 ⟨rfl, hR⟩))
  go_end0
  exact ⟨rfl, hR⟩
set_option maxRecDepth 100000 in
set_option maxHeartbeats 8000000 in
theorem hnd3_any (g : Nat) (x : Pr) (ev now : Int) (c : Ct) (w : World) (K1 : Blk w g 80 (sdC x ev now nilV nilV)) (hk : c.k = 3) (R : World → Prop) (HF : ∀ X, Blk X g 80 (sdC x ev now nilV nilV) → Below w.heap.size w X → Calls Try.prog 45 #[.pointer (some ⟨g, 0, none⟩), .agg (encC c)] X fun e w' => e = .returned (.tuple #[]) ∧ R w') : Calls Try.prog 29 #[.pointer (some ⟨g, 0, none⟩), .agg (encC c)] w fun e w' => e = .returned (.tuple #[]) ∧ R w' := by
  replace HF := Lib.hid HF
  obtain ⟨ck, u1, u2, u3, u4, u5, cm, ci, cr, cj, cs, cy, cf, cv, cl⟩ := c
  simp only at hk
  subst hk
  generalize sdC x ev now nilV nilV = SDX at *
  dsimp only [encC] at *
  have hg := K1.lt
  replace K1 := (K1.alloc (.cells #[.int .i64 3, .int .i64 u1, .int .i64 u2, .int .i64 u3, .int .i64 u4, .int .i64 u5, .int .u64 (cm : Int), .int .u16 ci, .int .i64 cr, .int .i64 cj, .int .u64 cs, .int .u64 cy, .int .u64 cf, .int .i64 cv, .int .i64 cl] 57)).alloc (.map #[] 0)
  have K2 : Blk ((w.alloc (.cells #[.int .i64 3, .int .i64 u1, .int .i64 u2, .int .i64 u3, .int .i64 u4, .int .i64 u5, .int .u64 (cm : Int), .int .u16 ci, .int .i64 cr, .int .i64 cj, .int .u64 cs, .int .u64 cy, .int .u64 cf, .int .i64 cv, .int .i64 cl] 57)).alloc (.map #[] 0)) w.heap.size 57 #[.int .i64 3, .int .i64 u1, .int .i64 u2, .int .i64 u3, .int .i64 u4, .int .i64 u5, .int .u64 (cm : Int), .int .u16 ci, .int .i64 cr, .int .i64 cj, .int .u64 cs, .int .u64 cy, .int .u64 cf, .int .i64 cv, .int .i64 cl] := (Blk.fresh _ _ _).alloc _
  have BX : Below w.heap.size w ((w.alloc (.cells #[.int .i64 3, .int .i64 u1, .int .i64 u2, .int .i64 u3, .int .i64 u4, .int .i64 u5, .int .u64 (cm : Int), .int .u16 ci, .int .i64 cr, .int .i64 cj, .int .u64 cs, .int .u64 cy, .int .u64 cf, .int .i64 cv, .int .i64 cl] 57)).alloc (.map #[] 0)) := ((Below.refl _ _).alloc (Nat.le_refl _) _).alloc (by simp) _
  have ML := MapL.fresh (w.alloc (.cells #[.int .i64 3, .int .i64 u1, .int .i64 u2, .int .i64 u3, .int .i64 u4, .int .i64 u5, .int .u64 (cm : Int), .int .u16 ci, .int .i64 cr, .int .i64 cj, .int .u64 cs, .int .u64 cy, .int .u64 cf, .int .i64 cv, .int .i64 cl] 57))
  have hsz : (w.alloc (.cells #[.int .i64 3, .int .i64 u1, .int .i64 u2, .int .i64 u3, .int .i64 u4, .int .i64 u5, .int .u64 (cm : Int), .int .u16 ci, .int .i64 cr, .int .i64 cj, .int .u64 cs, .int .u64 cy, .int .u64 cf, .int .i64 cv, .int .i64 cl] 57)).heap.size = w.heap.size + 1 := by simp
  rw [hsz] at ML
  clear hsz
  have hgb : g ≠ w.heap.size + 1 := by omega
  have h2b : w.heap.size ≠ w.heap.size + 1 := by omega
  have hwb : w.heap.size ≤ w.heap.size + 1 := by omega
  go_enter Try.func29, Try.ntmps29
  go_upto_region 2 with (first | (refine wpList_mkmap rfl _ rfl (w.heap.size + 1) (by simp) ?_) | (refine wpList_ins rfl _ _ _ _ rfl _ rfl _ rfl _ rfl _ _ Try.underlying110 Try.underlying3 _ ML rfl _ rfl ?_; intro X9 M9 G9; replace ML := M9; replace K1 := G9.blk K1 hgb; replace K2 := G9.blk K2 h2b; replace BX := BX.trans (G9.below hwb BX.size); clear M9 G9; simp only [List.cons_append, List.nil_append] at ML))
  have k0 := K2.cell 0
  go_upto_region 3 with (refine wpList_look rfl _ _ _ rfl _ rfl _ rfl _ _ Try.underlying110 Try.underlying3 _ ML _ _ rfl ?_)
  clear k0
  go_wp2_with (first | (refine wpList_load_row_w rfl 57 (.tmp 3) rfl w.heap.size rfl 57 _ (0, 0) _ K2 Try.underlying57 rfl (by kernel_rfl) ?_) | (go_at_call 45; refine (HF.out _ K1 BX).mono ?_; rintro e X9 ⟨rfl, hR⟩))
  go_end0
  exact ⟨rfl, hR⟩
set_option maxRecDepth 100000 in
set_option maxHeartbeats 8000000 in
theorem hnd4_any (g : Nat) (x : Pr) (ev now : Int) (c : Ct) (w : World) (K1 : Blk w g 80 (sdC x ev now nilV nilV)) (hk : c.k = 4) (R : World → Prop) (HF : ∀ X, Blk X g 80 (sdC x ev now nilV nilV) → Below w.heap.size w X → Calls Try.prog 46 #[.pointer (some ⟨g, 0, none⟩), .agg (encC c)] X fun e w' => e = .returned (.tuple #[]) ∧ R w') : Calls Try.prog 29 #[.pointer (some ⟨g, 0, none⟩), .agg (encC c)] w fun e w' => e = .returned (.tuple #[]) ∧ R w' := by
  replace HF := Lib.hid HF
  obtain ⟨ck, u1, u2, u3, u4, u5, cm, ci, cr, cj, cs, cy, cf, cv, cl⟩ := c
  simp only at hk
  subst hk
  generalize sdC x ev now nilV nilV = SDX at *
  dsimp only [encC] at *
  have hg := K1.lt
  replace K1 := (K1.alloc (.cells #[.int .i64 4, .int .i64 u1, .int .i64 u2, .int .i64 u3, .int .i64 u4, .int .i64 u5, .int .u64 (cm : Int), .int .u16 ci, .int .i64 cr, .int .i64 cj, .int .u64 cs, .int .u64 cy, .int .u64 cf, .int .i64 cv, .int .i64 cl] 57)).alloc (.map #[] 0)
  have K2 : Blk ((w.alloc (.cells #[.int .i64 4, .int .i64 u1, .int .i64 u2, .int .i64 u3, .int .i64 u4, .int .i64 u5, .int .u64 (cm : Int), .int .u16 ci, .int .i64 cr, .int .i64 cj, .int .u64 cs, .int .u64 cy, .int .u64 cf, .int .i64 cv, .int .i64 cl] 57)).alloc (.map #[] 0)) w.heap.size 57 #[.int .i64 4, .int .i64 u1, .int .i64 u2, .int .i64 u3, .int .i64 u4, .int .i64 u5, .int .u64 (cm : Int), .int .u16 ci, .int .i64 cr, .int .i64 cj, .int .u64 cs, .int .u64 cy, .int .u64 cf, .int .i64 cv, .int .i64 cl] := (Blk.fresh _ _ _).alloc _
  have BX : Below w.heap.size w ((w.alloc (.cells #[.int .i64 4, .int .i64 u1, .int .i64 u2, .int .i64 u3, .int .i64 u4, .int .i64 u5, .int .u64 (cm : Int), .int .u16 ci, .int .i64 cr, .int .i64 cj, .int .u64 cs, .int .u64 cy, .int .u64 cf, .int .i64 cv, .int .i64 cl] 57)).alloc (.map #[] 0)) := ((Below.refl _ _).alloc (Nat.le_refl _) _).alloc (by simp) _
  have ML := MapL.fresh (w.alloc (.cells #[.int .i64 4, .int .i64 u1, .int .i64 u2, .int .i64 u3, .int .i64 u4, .int .i64 u5, .int .u64 (cm : Int), .int .u16 ci, .int .i64 cr, .int .i64 cj, .int .u64 cs, .int .u64 cy, .int .u64 cf, .int .i64 cv, .int .i64 cl] 57))
  have hsz : (w.alloc (.cells #[.int .i64 4, .int .i64 u1, .int .i64 u2, .int .i64 u3, .int .i64 u4, .int .i64 u5, .int .u64 (cm : Int), .int .u16 ci, .int .i64 cr, .int .i64 cj, .int .u64 cs, .int .u64 cy, .int .u64 cf, .int .i64 cv, .int .i64 cl] 57)).heap.size = w.heap.size + 1 := by simp
  rw [hsz] at ML
  clear hsz
  have hgb : g ≠ w.heap.size + 1 := by omega
  have h2b : w.heap.size ≠ w.heap.size + 1 := by omega
  have hwb : w.heap.size ≤ w.heap.size + 1 := by omega
  go_enter Try.func29, Try.ntmps29
  go_upto_region 2 with (first | (refine wpList_mkmap rfl _ rfl (w.heap.size + 1) (by simp) ?_) | (refine wpList_ins rfl _ _ _ _ rfl _ rfl _ rfl _ rfl _ _ Try.underlying110 Try.underlying3 _ ML rfl _ rfl ?_; intro X9 M9 G9; replace ML := M9; replace K1 := G9.blk K1 hgb; replace K2 := G9.blk K2 h2b; replace BX := BX.trans (G9.below hwb BX.size); clear M9 G9; simp only [List.cons_append, List.nil_append] at ML))
  have k0 := K2.cell 0
  go_upto_region 3 with (refine wpList_look rfl _ _ _ rfl _ rfl _ rfl _ _ Try.underlying110 Try.underlying3 _ ML _ _ rfl ?_)
  clear k0
  go_wp2_with (first | (refine wpList_load_row_w rfl 57 (.tmp 3) rfl w.heap.size rfl 57 _ (0, 0) _ K2 Try.underlying57 rfl (by kernel_rfl) ?_) | (go_at_call 46; refine (HF.out _ K1 BX).mono ?_; rintro e X9 ⟨rfl, hR⟩))
  go_end0
  exact ⟨rfl, hR⟩
set_option maxRecDepth 100000 in
set_option maxHeartbeats 8000000 in
theorem hnd5_any (g : Nat) (x : Pr) (ev now : Int) (c : Ct) (w : World) (K1 : Blk w g 80 (sdC x ev now nilV nilV)) (hk : c.k = 5) (R : World → Prop) (HF : ∀ X, Blk X g 80 (sdC x ev now nilV nilV) → Below w.heap.size w X → Calls Try.prog 47 #[.pointer (some ⟨g, 0, none⟩), .agg (encC c)] X fun e w' => e = .returned (.tuple #[]) ∧ R w') : Calls Try.prog 29 #[.pointer (some ⟨g, 0, none⟩), .agg (encC c)] w fun e w' => e = .returned (.tuple #[]) ∧ R w' := by
  replace HF := Lib.hid HF
  obtain ⟨ck, u1, u2, u3, u4, u5, cm, ci, cr, cj, cs, cy, cf, cv, cl⟩ := c
  simp only at hk
  subst hk
  generalize sdC x ev now nilV nilV = SDX at *
  dsimp only [encC] at *
  have hg := K1.lt
  replace K1 := (K1.alloc (.cells #[.int .i64 5, .int .i64 u1, .int .i64 u2, .int .i64 u3, .int .i64 u4, .int .i64 u5, .int .u64 (cm : Int), .int .u16 ci, .int .i64 cr, .int .i64 cj, .int .u64 cs, .int .u64 cy, .int .u64 cf, .int .i64 cv, .int .i64 cl] 57)).alloc (.map #[] 0)
  have K2 : Blk ((w.alloc (.cells #[.int .i64 5, .int .i64 u1, .int .i64 u2, .int .i64 u3, .int .i64 u4, .int .i64 u5, .int .u64 (cm : Int), .int .u16 ci, .int .i64 cr, .int .i64 cj, .int .u64 cs, .int .u64 cy, .int .u64 cf, .int .i64 cv, .int .i64 cl] 57)).alloc (.map #[] 0)) w.heap.size 57 #[.int .i64 5, .int .i64 u1, .int .i64 u2, .int .i64 u3, .int .i64 u4, .int .i64 u5, .int .u64 (cm : Int), .int .u16 ci, .int .i64 cr, .int .i64 cj, .int .u64 cs, .int .u64 cy, .int .u64 cf, .int .i64 cv, .int .i64 cl] := (Blk.fresh _ _ _).alloc _
  have BX : Below w.heap.size w ((w.alloc (.cells #[.int .i64 5, .int .i64 u1, .int .i64 u2, .int .i64 u3, .int .i64 u4, .int .i64 u5, .int .u64 (cm : Int), .int .u16 ci, .int .i64 cr, .int .i64 cj, .int .u64 cs, .int .u64 cy, .int .u64 cf, .int .i64 cv, .int .i64 cl] 57)).alloc (.map #[] 0)) := ((Below.refl _ _).alloc (Nat.le_refl _) _).alloc (by simp) _
  have ML := MapL.fresh (w.alloc (.cells #[.int .i64 5, .int .i64 u1, .int .i64 u2, .int .i64 u3, .int .i64 u4, .int .i64 u5, .int .u64 (cm : Int), .int .u16 ci, .int .i64 cr, .int .i64 cj, .int .u64 cs, .int .u64 cy, .int .u64 cf, .int .i64 cv, .int .i64 cl] 57))
  have hsz : (w.alloc (.cells #[.int .i64 5, .int .i64 u1, .int .i64 u2, .int .i64 u3, .int .i64 u4, .int .i64 u5, .int .u64 (cm : Int), .int .u16 ci, .int .i64 cr, .int .i64 cj, .int .u64 cs, .int .u64 cy, .int .u64 cf, .int .i64 cv, .int .i64 cl] 57)).heap.size = w.heap.size + 1 := by simp
  rw [hsz] at ML
  clear hsz
  have hgb : g ≠ w.heap.size + 1 := by omega
  have h2b : w.heap.size ≠ w.heap.size + 1 := by omega
  have hwb : w.heap.size ≤ w.heap.size + 1 := by omega
  go_enter Try.func29, Try.ntmps29
  go_upto_region 2 with (first | (refine wpList_mkmap rfl _ rfl (w.heap.size + 1) (by simp) ?_) | (refine wpList_ins rfl _ _ _ _ rfl _ rfl _ rfl _ rfl _ _ Try.underlying110 Try.underlying3 _ ML rfl _ rfl ?_; intro X9 M9 G9; replace ML := M9; replace K1 := G9.blk K1 hgb; replace K2 := G9.blk K2 h2b; replace BX := BX.trans (G9.below hwb BX.size); clear M9 G9; simp only [List.cons_append, List.nil_append] at ML))
  have k0 := K2.cell 0
  go_upto_region 3 with (refine wpList_look rfl _ _ _ rfl _ rfl _ rfl _ _ Try.underlying110 Try.underlying3 _ ML _ _ rfl ?_)
  clear k0
  go_wp2_with (first | (refine wpList_load_row_w rfl 57 (.tmp 3) rfl w.heap.size rfl 57 _ (0, 0) _ K2 Try.underlying57 rfl (by kernel_rfl) ?_) | (go_at_call 47; refine (HF.out _ K1 BX).mono ?_; rintro e X9 ⟨rfl, hR⟩))
  go_end0
  exact ⟨rfl, hR⟩
set_option maxRecDepth 100000 in
set_option maxHeartbeats 8000000 in
theorem hnd6_any (g : Nat) (x : Pr) (ev now : Int) (c : Ct) (w : World) (K1 : Blk w g 80 (sdC x ev now nilV nilV)) (hk : c.k = 6) (R : World → Prop) (HF : ∀ X, Blk X g 80 (sdC x ev now nilV nilV) → Below w.heap.size w X → Calls Try.prog 48 #[.pointer (some ⟨g, 0, none⟩), .agg (encC c)] X fun e w' => e = .returned (.tuple #[]) ∧ R w') : Calls Try.prog 29 #[.pointer (some ⟨g, 0, none⟩), .agg (encC c)] w fun e w' => e = .returned (.tuple #[]) ∧ R w' := by
  replace HF := Lib.hid HF
  obtain ⟨ck, u1, u2, u3, u4, u5, cm, ci, cr, cj, cs, cy, cf, cv, cl⟩ := c
  simp only at hk
  subst hk
  generalize sdC x ev now nilV nilV = SDX at *
  dsimp only [encC] at *
  have hg := K1.lt
  replace K1 := (K1.alloc (.cells #[.int .i64 6, .int .i64 u1, .int .i64 u2, .int .i64 u3, .int .i64 u4, .int .i64 u5, .int .u64 (cm : Int), .int .u16 ci, .int .i64 cr, .int .i64 cj, .int .u64 cs, .int .u64 cy, .int .u64 cf, .int .i64 cv, .int .i64 cl] 57)).alloc (.map #[] 0)
  have K2 : Blk ((w.alloc (.cells #[.int .i64 6, .int .i64 u1, .int .i64 u2, .int .i64 u3, .int .i64 u4, .int .i64 u5, .int .u64 (cm : Int), .int .u16 ci, .int .i64 cr, .int .i64 cj, .int .u64 cs, .int .u64 cy, .int .u64 cf, .int .i64 cv, .int .i64 cl] 57)).alloc (.map #[] 0)) w.heap.size 57 #[.int .i64 6, .int .i64 u1, .int .i64 u2, .int .i64 u3, .int .i64 u4, .int .i64 u5, .int .u64 (cm : Int), .int .u16 ci, .int .i64 cr, .int .i64 cj, .int .u64 cs, .int .u64 cy, .int .u64 cf, .int .i64 cv, .int .i64 cl] := (Blk.fresh _ _ _).alloc _
  have BX : Below w.heap.size w ((w.alloc (.cells #[.int .i64 6, .int .i64 u1, .int .i64 u2, .int .i64 u3, .int .i64 u4, .int .i64 u5, .int .u64 (cm : Int), .int .u16 ci, .int .i64 cr, .int .i64 cj, .int .u64 cs, .int .u64 cy, .int .u64 cf, .int .i64 cv, .int .i64 cl] 57)).alloc (.map #[] 0)) := ((Below.refl _ _).alloc (Nat.le_refl _) _).alloc (by simp) _
  have ML := MapL.fresh (w.alloc (.cells #[.int .i64 6, .int .i64 u1, .int .i64 u2, .int .i64 u3, .int .i64 u4, .int .i64 u5, .int .u64 (cm : Int), .int .u16 ci, .int .i64 cr, .int .i64 cj, .int .u64 cs, .int .u64 cy, .int .u64 cf, .int .i64 cv, .int .i64 cl] 57))
  have hsz : (w.alloc (.cells #[.int .i64 6, .int .i64 u1, .int .i64 u2, .int .i64 u3, .int .i64 u4, .int .i64 u5, .int .u64 (cm : Int), .int .u16 ci, .int .i64 cr, .int .i64 cj, .int .u64 cs, .int .u64 cy, .int .u64 cf, .int .i64 cv, .int .i64 cl] 57)).heap.size = w.heap.size + 1 := by simp
  rw [hsz] at ML
  clear hsz
  have hgb : g ≠ w.heap.size + 1 := by omega
  have h2b : w.heap.size ≠ w.heap.size + 1 := by omega
  have hwb : w.heap.size ≤ w.heap.size + 1 := by omega
  go_enter Try.func29, Try.ntmps29
  go_upto_region 2 with (first | (refine wpList_mkmap rfl _ rfl (w.heap.size + 1) (by simp) ?_) | (refine wpList_ins rfl _ _ _ _ rfl _ rfl _ rfl _ rfl _ _ Try.underlying110 Try.underlying3 _ ML rfl _ rfl ?_; intro X9 M9 G9; replace ML := M9; replace K1 := G9.blk K1 hgb; replace K2 := G9.blk K2 h2b; replace BX := BX.trans (G9.below hwb BX.size); clear M9 G9; simp only [List.cons_append, List.nil_append] at ML))
  have k0 := K2.cell 0
  go_upto_region 3 with (refine wpList_look rfl _ _ _ rfl _ rfl _ rfl _ _ Try.underlying110 Try.underlying3 _ ML _ _ rfl ?_)
  clear k0
  go_wp2_with (first | (refine wpList_load_row_w rfl 57 (.tmp 3) rfl w.heap.size rfl 57 _ (0, 0) _ K2 Try.underlying57 rfl (by kernel_rfl) ?_) | (go_at_call 48; refine (HF.out _ K1 BX).mono ?_; rintro e X9 ⟨rfl, hR⟩))
  go_end0
  exact ⟨rfl, hR⟩
set_option maxRecDepth 100000 in
set_option maxHeartbeats 8000000 in
theorem hnd13_any (g : Nat) (x : Pr) (ev now : Int) (c : Ct) (w : World) (K1 : Blk w g 80 (sdC x ev now nilV nilV)) (hk : c.k = 13) (R : World → Prop) (HF : ∀ X, Blk X g 80 (sdC x ev now nilV nilV) → Below w.heap.size w X → Calls Try.prog 49 #[.pointer (some ⟨g, 0, none⟩), .agg (encC c)] X fun e w' => e = .returned (.tuple #[]) ∧ R w') : Calls Try.prog 29 #[.pointer (some ⟨g, 0, none⟩), .agg (encC c)] w fun e w' => e = .returned (.tuple #[]) ∧ R w' := by
  replace HF := Lib.hid HF
  obtain ⟨ck, u1, u2, u3, u4, u5, cm, ci, cr, cj, cs, cy, cf, cv, cl⟩ := c
  simp only at hk
  subst hk
  generalize sdC x ev now nilV nilV = SDX at *
  dsimp only [encC] at *
  have hg := K1.lt
  replace K1 := (K1.alloc (.cells #[.int .i64 13, .int .i64 u1, .int .i64 u2, .int .i64 u3, .int .i64 u4, .int .i64 u5, .int .u64 (cm : Int), .int .u16 ci, .int .i64 cr, .int .i64 cj, .int .u64 cs, .int .u64 cy, .int .u64 cf, .int .i64 cv, .int .i64 cl] 57)).alloc (.map #[] 0)
  have K2 : Blk ((w.alloc (.cells #[.int .i64 13, .int .i64 u1, .int .i64 u2, .int .i64 u3, .int .i64 u4, .int .i64 u5, .int .u64 (cm : Int), .int .u16 ci, .int .i64 cr, .int .i64 cj, .int .u64 cs, .int .u64 cy, .int .u64 cf, .int .i64 cv, .int .i64 cl] 57)).alloc (.map #[] 0)) w.heap.size 57 #[.int .i64 13, .int .i64 u1, .int .i64 u2, .int .i64 u3, .int .i64 u4, .int .i64 u5, .int .u64 (cm : Int), .int .u16 ci, .int .i64 cr, .int .i64 cj, .int .u64 cs, .int .u64 cy, .int .u64 cf, .int .i64 cv, .int .i64 cl] := (Blk.fresh _ _ _).alloc _
  have BX : Below w.heap.size w ((w.alloc (.cells #[.int .i64 13, .int .i64 u1, .int .i64 u2, .int .i64 u3, .int .i64 u4, .int .i64 u5, .int .u64 (cm : Int), .int .u16 ci, .int .i64 cr, .int .i64 cj, .int .u64 cs, .int .u64 cy, .int .u64 cf, .int .i64 cv, .int .i64 cl] 57)).alloc (.map #[] 0)) := ((Below.refl _ _).alloc (Nat.le_refl _) _).alloc (by simp) _
  have ML := MapL.fresh (w.alloc (.cells #[.int .i64 13, .int .i64 u1, .int .i64 u2, .int .i64 u3, .int .i64 u4, .int .i64 u5, .int .u64 (cm : Int), .int .u16 ci, .int .i64 cr, .int .i64 cj, .int .u64 cs, .int .u64 cy, .int .u64 cf, .int .i64 cv, .int .i64 cl] 57))
  have hsz : (w.alloc (.cells #[.int .i64 13, .int .i64 u1, .int .i64 u2, .int .i64 u3, .int .i64 u4, .int .i64 u5, .int .u64 (cm : Int), .int .u16 ci, .int .i64 cr, .int .i64 cj, .int .u64 cs, .int .u64 cy, .int .u64 cf, .int .i64 cv, .int .i64 cl] 57)).heap.size = w.heap.size + 1 := by simp
  rw [hsz] at ML
  clear hsz
  have hgb : g ≠ w.heap.size + 1 := by omega
  have h2b : w.heap.size ≠ w.heap.size + 1 := by omega
  have hwb : w.heap.size ≤ w.heap.size + 1 := by omega
  go_enter Try.func29, Try.ntmps29
  go_upto_region 2 with (first | (refine wpList_mkmap rfl _ rfl (w.heap.size + 1) (by simp) ?_) | (refine wpList_ins rfl _ _ _ _ rfl _ rfl _ rfl _ rfl _ _ Try.underlying110 Try.underlying3 _ ML rfl _ rfl ?_; intro X9 M9 G9; replace ML := M9; replace K1 := G9.blk K1 hgb; replace K2 := G9.blk K2 h2b; replace BX := BX.trans (G9.below hwb BX.size); clear M9 G9; simp only [List.cons_append, List.nil_append] at ML))
  have k0 := K2.cell 0
  go_upto_region 3 with (refine wpList_look rfl _ _ _ rfl _ rfl _ rfl _ _ Try.underlying110 Try.underlying3 _ ML _ _ rfl ?_)
  clear k0
  go_wp2_with (first | (refine wpList_load_row_w rfl 57 (.tmp 3) rfl w.heap.size rfl 57 _ (0, 0) _ K2 Try.underlying57 rfl (by kernel_rfl) ?_) | (go_at_call 49; refine (HF.out _ K1 BX).mono ?_; rintro e X9 ⟨rfl, hR⟩))
  go_end0
  exact ⟨rfl, hR⟩
end Go.Proofs.Ytpoagepchlfemaa.Pc
