/- The key stream: what the program's functions return: contracts over the program. -/
import Derived.Test.YtegmknmbgifmjaaDoorMacTag
set_option linter.unusedVariables false
set_option linter.unusedSimpArgs false
namespace Go.Proofs.YtegmknmbgifmjaaDoor.Mac
open Go.RowKit Go.Shelf Mem Oct Blk Base
attribute [local go_sem] Oper.semAt_some

/-- Three blocks from g on are kept. -/
def Kp3 (g : Nat) (W W' : World) : Prop := W.heap.size ≤ W'.heap.size ∧ ∀ r, g ≤ r → r < g + 3 → W'.heap[r]? = W.heap[r]?
theorem Kp3.refl (g : Nat) (W : World) : Kp3 g W W := ⟨Nat.le_refl _, fun _ _ _ => rfl⟩
theorem Kp3.trans {g : Nat} {A B C : World} (h : Kp3 g A B) (k : Kp3 g B C) : Kp3 g A C := ⟨Nat.le_trans h.1 k.1, fun r h1 h2 => (k.2 r h1 h2).trans (h.2 r h1 h2)⟩
theorem Kp3.below {g : Nat} {A B : World} (h : Below A.heap.size A B) (hg : g + 3 ≤ A.heap.size) : Kp3 g A B := ⟨h.size, fun r h1 h2 => h.block r (by omega)⟩
theorem Kp3.put {g : Nat} {w : World} (hg : g + 3 ≤ w.heap.size) (W : World) (l : Nat) (o o' : Obj) (hl : w.heap.size ≤ l) (_ : W.heap[l]? = some o) (_ : o.isCells = false) (_ : o.isWalk = false) : Kp3 g W (W.putObj l o') :=
  ⟨(grownBy_putObj' W l o').size, fun r h1 h2 => World.putObj_heap_other (by omega)⟩
theorem Kp3.grown {g : Nat} {A B : World} {row : Option Nat} (h : A.grownBy B row) (hr : ∀ r, row = some r → r < g) (hg : g + 3 ≤ A.heap.size) : Kp3 g A B :=
  ⟨h.size, fun r h1 h2 => h.block r (by omega) (fun e => by have := hr r e.symm; omega)⟩
theorem Kp3.boxed {g r : Nat} {A B : World} {t : TypeId} {v : Value} (h : Kp3 g A B) (b : Boxed A r t v) (h1 : g ≤ r) (h2 : r < g + 3) : Boxed B r t v := (h.2 r h1 h2).trans b
theorem mix_to {k x v : Int} (w : World) (hk : 0 ≤ k ∧ k ≤ 18446744073709551615) (hx : 0 ≤ x ∧ x ≤ 18446744073709551615) (hv : mixZ k x = v) :
    Calls Tryd.prog 49 #[.int .u64 k, .int .u64 x] w fun e w' => e = .returned (.int .u64 v) ∧ Below w.heap.size w w' := by
  rw [← hv]; exact mix_any k x w hk hx
/-- The bytes after some numbers. -/
def strF (k nonce : Int) (n : Nat) (pre : List Nat) : List Int := pre.foldl (fun l j => l ++ numL (min 8 (n - l.length)) (keyA k nonce j)) []
theorem strF_snoc (k nonce : Int) (n : Nat) (pre : List Nat) (j : Nat) : strF k nonce n (pre ++ [j]) = strF k nonce n pre ++ numL (min 8 (n - (strF k nonce n pre).length)) (keyA k nonce j) := by simp [strF]
theorem strF_len (k nonce : Int) (n : Nat) (pre : List Nat) : (strF k nonce n pre).length ≤ n := by
  have go : ∀ (pre : List Nat) (l : List Int), l.length ≤ n → (pre.foldl (fun l j => l ++ numL (min 8 (n - l.length)) (keyA k nonce j)) l).length ≤ n := by
    intro pre
    induction pre with
    | nil => intro l hl; exact hl
    | cons j pre ih => intro l hl; exact ih _ (by rw [List.length_append, numL_len]; omega)
  exact go pre [] (Nat.zero_le _)
theorem strF_range (k nonce : Int) (n j : Nat) (hj : j ≤ ngr n) : strF k nonce n (List.range j) = strm k nonce (min (8 * j) n) := by
  induction j with
  | zero => simp [strF, strm]
  | succ j ih =>
    have h8 : 8 * j ≤ n := by unfold ngr at hj; omega
    rw [List.range_succ, strF_snoc, ih (by omega), strm_len, Nat.min_eq_left h8]
    have e : min (8 * (j + 1)) n = 8 * j + min 8 (n - 8 * j) := by omega
    rw [e, strm_num k nonce j _ (by omega)]
theorem strF_all (k nonce : Int) (n : Nat) : strF k nonce n (List.range (ngr n)) = strm k nonce n := by
  rw [strF_range k nonce n _ (Nat.le_refl _)]
  congr 1
  unfold ngr; omega
/-- A row with room for one more, seen with what lies there. -/
theorem row_more {w : World} {base : Nat} {e : TypeId} {g k cap : Nat} {xs : List Value} (h : w.ownsRow base e 1 (.slice (some ⟨g, 0, none⟩) k cap) k xs) (hk : k < cap) :
    ∃ old, w.cell? ⟨g, k, none⟩ = some old ∧ w.ownsRow base e 1 (.slice (some ⟨g, 0, none⟩) (k + 1) cap) (k + 1) (xs ++ [old]) := by
  have hl := h.1
  rcases h.2 with ⟨h', _⟩ | ⟨g', cap', cur, h', hb, hg, hnc, hcm, hcs, htake⟩
  · simp at h'
  · simp only [Value.slice.injEq, Option.some.injEq, Addr.mk.injEq, and_true, true_and] at h'
    obtain ⟨rfl, rfl⟩ := h'
    have hlt : k < cur.toList.length := by simp; omega
    refine ⟨cur.toList[k], ?_, by simp; omega, .inr ⟨g, cap, cur, rfl, hb, hg, hk, hcm, hcs, ?_⟩⟩
    · rw [cell_of_row w g k cur e (0, 0) hg]; simp
    · rw [Nat.mul_one] at htake ⊢
      rw [List.take_succ_eq_append_getElem hlt, htake]
/-- One more byte laid behind a row, and the row's own variable set: all that is known then. -/
theorem row_put {w : World} {base B g gb k cap r : Nat} {zs : List Int} {z : Int} {tv : TypeId} (hb : base ≤ g) (hbb : base ≤ gb) (hB : base ≤ w.heap.size) (hne : gb ≠ g) (htv : tv ≠ 5) (hrow : w.ownsRow base 5 1 (.slice (some ⟨g, 0, none⟩) k cap) k (zs.map (Value.int .u8))) (hk : k < cap)
    (bB : Boxed w gb tv (.slice (some ⟨g, 0, none⟩) k cap)) (hg3 : g < gb + 1) (hs : gb + 1 + 3 ≤ w.heap.size) {ti : TypeId} {vi : Value} (bI : Boxed w r ti vi) (hrg : r ≠ g) (hrb : r ≠ gb) :
    ∃ old, (w.alloc (.cells #[.int .u8 z] 5)).cell? ⟨g, k, none⟩ = some old ∧ (w.alloc (.cells #[.int .u8 z] 5)).frozen? ⟨g, k, none⟩ = false ∧
      ((w.alloc (.cells #[.int .u8 z] 5)).setCell ⟨g, k, none⟩ (.int .u8 z)).cell? ⟨gb, 0, none⟩ = some (.slice (some ⟨g, 0, none⟩) k cap) ∧ ((w.alloc (.cells #[.int .u8 z] 5)).setCell ⟨g, k, none⟩ (.int .u8 z)).frozen? ⟨gb, 0, none⟩ = false ∧
      ∀ W', W' = (((w.alloc (.cells #[.int .u8 z] 5)).setCell ⟨g, k, none⟩ (.int .u8 z)).setCell ⟨gb, 0, none⟩ (.slice (some ⟨g, 0, none⟩) (k + 1) cap)) →
        Boxed W' gb tv (.slice (some ⟨g, 0, none⟩) (k + 1) cap) ∧ W'.ownsRow base 5 1 (.slice (some ⟨g, 0, none⟩) (k + 1) cap) (k + 1) ((zs ++ [z]).map (Value.int .u8)) ∧ KeepsFrom B w W' ∧ Kp3 (gb + 1) w W' ∧ Boxed W' r ti vi ∧ Below base w W' := by
  have hrow1 := hrow.alloc (.cells #[.int .u8 z] 5)
  obtain ⟨old, hc, hm⟩ := row_more hrow1 hk
  have bB1 := bB.alloc (.cells #[.int .u8 z] 5)
  have bI1 := bI.alloc (.cells #[.int .u8 z] 5)
  have hst := hm.stored k (.int .u8 z)
  have hg1 := hst.2
  have hl : (zs.map (Value.int .u8)).length = k := by have := hrow.1; omega
  have hrow2 : ((w.alloc (.cells #[.int .u8 z] 5)).setCell ⟨g, k, none⟩ (.int .u8 z)).ownsRow base 5 1 (.slice (some ⟨g, 0, none⟩) (k + 1) cap) (k + 1) ((zs ++ [z]).map (Value.int .u8)) := by
    have := hst.1
    rw [List.set_append_right _ _ (by omega), hl, Nat.sub_self] at this
    simpa using this
  have bB2 : Boxed ((w.alloc (.cells #[.int .u8 z] 5)).setCell ⟨g, k, none⟩ (.int .u8 z)) gb tv (.slice (some ⟨g, 0, none⟩) k cap) := bB1.kept hg1 (by simp; exact hne)
  have bI2 : Boxed ((w.alloc (.cells #[.int .u8 z] 5)).setCell ⟨g, k, none⟩ (.int .u8 z)) r ti vi := bI1.kept hg1 (by simp; exact hrg)
  refine ⟨old, hc, hm.frozenAt k, bB2.cell, bB2.frozen, ?_⟩
  rintro W' rfl
  refine ⟨bB2.set _, hrow2.kept (grownBy_setCell' _ _ _) (.inr ?_), ?_, ?_, bI2.other hrb _, ?_⟩
  · simp [Value.ownBlock]; exact fun h => hne h.symm
  · refine ((KeepsOthers.alloc _ _).trans ((KeepsOthers.setCell _ _ _).trans (KeepsOthers.setCell _ _ _))).from _
  · refine Kp3.trans (Kp3.grown (World.grownBy_alloc w _ none) (fun r e => by cases e) (by omega)) (Kp3.trans (Kp3.grown hg1 (fun r e => by cases e; omega) (by simp; omega)) (Kp3.grown (grownBy_setCell' _ _ _) (fun r e => by cases e; omega) ?_))
    have := hg1.size
    simp at this ⊢; omega
  · exact (((Below.refl base w).alloc hB _).setCell (p := ⟨g, k, none⟩) hb _).setCell (p := ⟨gb, 0, none⟩) hbb _
end Go.Proofs.YtegmknmbgifmjaaDoor.Mac
