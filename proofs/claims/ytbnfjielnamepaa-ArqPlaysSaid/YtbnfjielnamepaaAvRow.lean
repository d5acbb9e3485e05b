/- Words for memory: a slice that reads as cells, in a block that is not older than a bound; what is written elsewhere leaves it. No program is mentioned. -/
import Derived.Test.YtbnfjielnamepaaRw
import Derived.Laws.Tables
import Derived.Laws.Rows
import Derived.Laws.CopyOwn
import Derived.Deep.RegionHeld
import Derived.Great.BuildSlice
set_option linter.unusedVariables false
set_option linter.unusedSimpArgs false
namespace Go.Proofs.Ytbnfjielnamepaa.Av
open Go.RowKit Mem Rw

/-- V is a slice of n elements whose cells are ys, in a block from m on. -/
def Row (w : World) (m : Nat) (V : Value) (n : Nat) (ys : List Value) : Prop :=
  ∃ A c, V = .slice A n c ∧ n ≤ c ∧ (ys = [] ∨ ∃ b off, A = some ⟨b, off, none⟩ ∧ m ≤ b ∧ b < w.heap.size ∧ ∀ (q : Nat) u, ys[q]? = some u → w.cell? ⟨b, off + q, none⟩ = some u)
section
variable {w w' : World} {m m' n : Nat} {V : Value} {ys : List Value}
theorem Row.keep (h : Row w m V n ys) (hs : w.heap.size ≤ w'.heap.size) (hk : ∀ b i, m ≤ b → b < w.heap.size → w'.cell? ⟨b, i, none⟩ = w.cell? ⟨b, i, none⟩) : Row w' m V n ys := by
  obtain ⟨A, c, e, hc, h⟩ := h
  refine ⟨A, c, e, hc, ?_⟩
  rcases h with h | ⟨b, off, e, hm, hb, hq⟩
  · exact .inl h
  · exact .inr ⟨b, off, e, hm, by omega, fun q u hu => (hk b _ hm hb).trans (hq q u hu)⟩
theorem Row.below (h : Row w m V n ys) (hb : Below w.heap.size w w') : Row w' m V n ys :=
  h.keep hb.size fun b i _ hl => hb.cell (p := ⟨b, i, none⟩) hl
theorem Row.alloc (h : Row w m V n ys) (o : Obj) : Row (w.alloc o) m V n ys := h.below ((Below.refl _ _).alloc (Nat.le_refl _) o)
theorem Row.drew (h : Row w m V n ys) : Row w.drew m V n ys := h
theorem Row.less (h : Row w m V n ys) (hm : m' ≤ m) : Row w m' V n ys := by
  obtain ⟨A, c, e, hc, h⟩ := h
  refine ⟨A, c, e, hc, ?_⟩
  rcases h with h | ⟨b, off, e, hm', hb, hq⟩
  · exact .inl h
  · exact .inr ⟨b, off, e, by omega, hb, hq⟩
theorem Row.cells (h : Row w m V n ys) : ∃ A c, V = .slice A n c ∧ n ≤ c ∧ CellsAt w w.heap.size A ys := by
  obtain ⟨A, c, e, hc, h⟩ := h
  refine ⟨A, c, e, hc, ?_⟩
  rcases h with h | ⟨b, off, e, hm, hb, hq⟩
  · exact .inl h
  · exact .inr ⟨b, off, e, hb, hq⟩
theorem Row.of_cells {A : Option Addr} {n c : Nat} (hc : n ≤ c) (h : CellsAt w w.heap.size A ys) : Row w 0 (.slice A n c) n ys := by
  refine ⟨A, c, rfl, hc, ?_⟩
  rcases h with h | ⟨b, off, e, hb, hq⟩
  · exact .inl h
  · exact .inr ⟨b, off, e, Nat.zero_le _, hb, hq⟩
theorem Row.own {base k : Nat} {e : TypeId} (h : w.ownsRow base e k V n ys) : Row w base V n ys := by
  rcases h.2 with ⟨hv, hn⟩ | ⟨g, cap, cur, hv, hbg, hg, hnc, hcm, hcs, htake⟩
  · refine ⟨none, 0, by rw [hv, hn], by omega, .inl ?_⟩
    have := h.1
    subst hn
    simpa using this
  · refine ⟨some ⟨g, 0, none⟩, cap, hv, hnc, .inr ⟨g, 0, rfl, hbg, ?_, fun q u hq => ?_⟩⟩
    · rcases Nat.lt_or_ge g w.heap.size with hlt | hge
      · exact hlt
      · rw [Array.getElem?_eq_none hge] at hg; cases hg
    · subst hv
      have := h.cells (g := g) rfl q _ hq
      rwa [plain_add] at this
theorem Row.nil (w : World) (m : Nat) (A : Option Addr) (c : Nat) : Row w m (.slice A 0 c) 0 [] := ⟨A, c, rfl, Nat.zero_le _, .inl rfl⟩
theorem Row.one (h : Row w m V n ys) : V.oneCell' = true := by
  obtain ⟨A, c, rfl, _⟩ := h; rfl
/-- Bytes. -/
theorem ints_of {k : IntKind} {A : Option Addr} {zs : List Int} (h : CellsAt w w.heap.size A (zs.map (Value.int k))) : Ints k w w.heap.size A zs := by
  rcases h with h | ⟨b, off, e, hb, hq⟩
  · left; simpa using h
  · refine .inr ⟨b, off, e, hb, fun j hj => hq j _ ?_⟩
    simp [List.getD, List.getElem?_map, List.getElem?_eq_getElem hj]
theorem of_ints {k : IntKind} {A : Option Addr} {zs : List Int} (h : Ints k w w.heap.size A zs) : CellsAt w w.heap.size A (zs.map (Value.int k)) := by
  rcases h with rfl | ⟨b, off, e, hb, hq⟩
  · exact .inl rfl
  · refine .inr ⟨b, off, e, hb, fun j u hu => ?_⟩
    have hj : j < zs.length := by
      rcases Nat.lt_or_ge j zs.length with h | h
      · exact h
      · rw [List.getElem?_eq_none (by simpa using h)] at hu; cases hu
    rw [hq j hj]
    simp [List.getElem?_map, List.getElem?_eq_getElem hj] at hu
    simp [List.getD, List.getElem?_eq_getElem hj, hu]
theorem Row.ints {k : IntKind} {zs : List Int} (h : Row w m V n (zs.map (Value.int k))) : ∃ A c, V = .slice A n c ∧ n ≤ c ∧ Ints k w w.heap.size A zs := by
  obtain ⟨A, c, e, hc, h⟩ := h.cells
  exact ⟨A, c, e, hc, ints_of h⟩
end
/-! ### Blocks that are known whole -/
theorem bset {w : World} {g : Nat} {t : TypeId} {cs cs' : Array Value} (h : Blk w g t cs) (i : Nat) (v : Value) (e : cs.setIfInBounds i v = cs') : Blk (w.setCell ⟨g, i, none⟩ v) g t cs' := by
  subst e
  have hg : g < w.heap.size := h.lt
  unfold Blk at h ⊢
  unfold World.setCell
  simp only [Array.getElem?_modify, if_true, h]
  simp
theorem bother {w : World} {g g' i : Nat} {t : TypeId} {cs : Array Value} (h : Blk w g t cs) (hne : g' ≠ g) (v : Value) : Blk (w.setCell ⟨g', i, none⟩ v) g t cs := by
  unfold Blk at h ⊢
  unfold World.setCell
  simp only [Array.getElem?_modify, h]
  simp [hne]
theorem bset_row {w : World} {g : Nat} {t : TypeId} {cs cs' : Array Value} (h : Blk w g t cs) : Blk (w.setRow g cs') g t cs' := setRow_heap w g _ cs' t (0, 0) h
theorem bother_row {w : World} {g g' : Nat} {t : TypeId} {cs cs' : Array Value} (h : Blk w g t cs) (hne : g' ≠ g) : Blk (w.setRow g' cs') g t cs := by
  unfold Blk at h ⊢
  rw [← h]
  exact setRow_other w g' g cs' (Ne.symm hne)
theorem Blk.next {w : World} {t t' : TypeId} {cs cs' : Array Value} : Blk ((w.alloc (.cells cs t)).alloc (.cells cs' t')) (w.heap.size + 1) t' cs' := by
  have := Blk.fresh (w.alloc (.cells cs t)) t' cs'
  simpa using this
theorem bfrz {w : World} {g : Nat} {t : TypeId} {cs : Array Value} (h : Blk w g t cs) (i : Nat) : w.frozen? ⟨g, i, none⟩ = false := by
  unfold Blk at h
  simp [World.frozen?, h]
theorem step_store_row {P : Program} {ops : Array Oper} {o : Oper} {a : Act} {w : World} {K : Act → World → Prop} {Q : Exit → Act → World → Prop} {E : Prop} (hgd : o.guard = none) (ty : TypeId) (x y : Operand) (ho : o.op = .store ty x y)
    (g : Nat) (cells : Array Value) (hx : a.eval x = .pointer (some ⟨g, 0, none⟩)) (hy : a.eval y = .agg cells)
    (t : TypeId) (old : Array Value) (hg : w.heap[g]? = some (.cells old t (0, 0))) (hi : (P.info? ty).map (·.size) = some cells.size)
    (hold : old.size = cells.size) (h1 : cells.all (·.oneCell') = true)
    (h : K (a.put o.dst undef) (w.setRow g cells)) : if Region.wanted o (yielded ops a.tmps) = true then Oper.wp P o a w K Q else E := by
  have hw : Region.wanted o (yielded ops a.tmps) = true := by simp [Region.wanted, hgd]
  rw [if_pos hw]
  exact wp_store_row ty x y ho g cells hx hy t old hg hi hold h1 h
theorem run_storeVar_cell {P : Program} (w : World) (g i : Nat) (t ty : TypeId) (cs : Array Value) (v : Value) (hg : w.heap[g]? = some (.cells cs t (0, 0))) (hi : i < cs.size) (hs : (P.info? ty).map (·.size) = some 1) (h1 : v.oneCell' = true) :
    (storeVar ty ⟨g, i, none⟩ v).run P w = .ok () (w.setCell ⟨g, i, none⟩ v) := by
  have hcell : w.cell? ⟨g, i, none⟩ = some cs[i] := by simp [World.cell?, hg, hi]
  have hfro : w.frozen? ⟨g, i, none⟩ = false := by simp [World.frozen?, hg]
  have hc : v.cells = #[v] := by cases v <;> first | rfl | (simp [Value.oneCell'] at h1)
  have hst : (store (Addr.add ⟨g, i, none⟩ 0) v).run P w = .ok () (w.setCell ⟨g, i, none⟩ v) := by
    rw [show Addr.add ⟨g, i, none⟩ 0 = ⟨g, i, none⟩ from rfl, run_store P w _ v _ h1, hcell]
    simp [hfro]
  cases hq : P.info? ty with
  | none => simp [hq] at hs
  | some x =>
    have hx : x.size = 1 := by simpa [hq] using hs
    simp [storeVar, sizeOf, typeInfo, hq, hc, hx, storeCells, hst]
theorem wp_store_cell {P : Program} {o : Oper} {a : Act} {w : World} {K : Act → World → Prop} {Q : Exit → Act → World → Prop} (ty : TypeId) (x y : Operand) (ho : o.op = .store ty x y)
    (g i : Nat) (v : Value) (hx : a.eval x = .pointer (some ⟨g, i, none⟩)) (hy : a.eval y = v) (t : TypeId) (cs : Array Value) (hg : w.heap[g]? = some (.cells cs t (0, 0))) (hi : i < cs.size) (hs : (P.info? ty).map (·.size) = some 1) (h1 : v.oneCell' = true)
    (h : K (a.put o.dst undef) (w.setCell ⟨g, i, none⟩ v)) : o.wp P a w K Q := by
  unfold Oper.wp execOp
  simp only [ho, hx, hy, Instr.storeAt, Instr.sureAddr, Sem.run_bind, Sem.run_pure, Result.andThen_ok, run_storeVar_cell w g i t ty cs v hg hi hs h1]
  exact h
theorem step_store_cell {P : Program} {ops : Array Oper} {o : Oper} {a : Act} {w : World} {K : Act → World → Prop} {Q : Exit → Act → World → Prop} {E : Prop} (hgd : o.guard = none) (ty : TypeId) (x y : Operand) (ho : o.op = .store ty x y)
    (g i : Nat) (v : Value) (hx : a.eval x = .pointer (some ⟨g, i, none⟩)) (hy : a.eval y = v) (t : TypeId) (cs : Array Value) (hg : w.heap[g]? = some (.cells cs t (0, 0))) (hi : i < cs.size) (hs : (P.info? ty).map (·.size) = some 1) (h1 : v.oneCell' = true)
    (h : K (a.put o.dst undef) (w.setCell ⟨g, i, none⟩ v)) : if Region.wanted o (yielded ops a.tmps) = true then Oper.wp P o a w K Q else E := by
  have hw : Region.wanted o (yielded ops a.tmps) = true := by simp [Region.wanted, hgd]
  rw [if_pos hw]
  exact wp_store_cell ty x y ho g i v hx hy t cs hg hi hs h1 h
theorem wpList_store_cell {P : Program} {ops : Array Oper} {rest : List Oper} {o : Oper} {a : Act} {w : World} {Q : Exit → Act → World → Prop} (hgd : o.guard = none) (ty : TypeId) (x y : Operand) (ho : o.op = .store ty x y)
    (g i : Nat) (v : Value) (hx : a.eval x = .pointer (some ⟨g, i, none⟩)) (hy : a.eval y = v) (t : TypeId) (cs : Array Value) (hg : w.heap[g]? = some (.cells cs t (0, 0))) (hi : i < cs.size) (hs : (P.info? ty).map (·.size) = some 1) (h1 : v.oneCell' = true)
    (h : wpList P ops Q rest (a.put o.dst undef) (w.setCell ⟨g, i, none⟩ v)) : wpList P ops Q (o :: rest) a w :=
  wpList_plain hgd fun _ hK => wp_store_cell ty x y ho g i v hx hy t cs hg hi hs h1 (hK _ _ h)
/-- A struct that is a part of another one is read at once. -/
theorem run_loadVar_part {P : Program} (w : World) (g off : Nat) (t ty : TypeId) (cs vs : Array Value) (fr : Nat × Nat) (d : TypeDesc) (hg : w.heap[g]? = some (.cells cs t fr))
    (hv : (cs.toList.drop off).take vs.size = vs.toList) (hu : P.underlying ty = some d) (hd : (match d with | .struct _ | .array _ _ => true | _ => false) = true) (hi : (P.info? ty).map (·.size) = some vs.size) :
    (loadVar ty ⟨g, off, none⟩).run P w = .ok (.agg vs) w := by
  have hl : (loadCells ⟨g, off, none⟩ vs.toList.length).run P w = .ok vs.toList.toArray w :=
    run_loadCells_list (P := P) w ⟨g, off, none⟩ vs.toList (fun j v hj => by
      rw [plain_add, cell_of_row w g (off + j) cs t fr hg]
      have hjl : j < vs.size := by
        rcases Nat.lt_or_ge j vs.size with h | h
        · exact h
        · rw [List.getElem?_eq_none (by simpa using h)] at hj; cases hj
      rw [← hv, List.getElem?_take, if_pos hjl, List.getElem?_drop] at hj
      simpa using hj)
  cases hq : P.info? ty with
  | none => simp [hq] at hi
  | some i =>
    have hs : i.size = vs.size := by simpa [hq] using hi
    have hagg : (isAgg ty).run P w = .ok true w := by
      unfold isAgg
      rw [Sem.run_bind, run_underlying hu w]
      cases d <;> simp_all
    simp only [Array.length_toList, Array.toArray_toList] at hl
    simp [loadVar, Sem.run_bind, hagg, sizeOf, typeInfo, hq, hs, hl]
theorem yields_part {P : Program} {ops : Array Oper} {S : World → Prop} {op : Oper} {a : Act} (hw : Region.wanted op (yielded ops a.tmps) = true) (ty : TypeId) (x : Operand) (ho : op.op = .load ty x)
    (g off : Nat) (hx : a.eval x = .pointer (some ⟨g, off, none⟩)) (vs : Array Value) (d : TypeDesc) (t : TypeId) (cs : Array Value) (hS : ∀ w, S w → w.heap[g]? = some (.cells cs t (0, 0))) (hv : (cs.toList.drop off).take vs.size = vs.toList)
    (hu : P.underlying ty = some d) (hd : (match d with | .struct _ | .array _ _ => true | _ => false) = true) (hi : (P.info? ty).map (·.size) = some vs.size) : YieldsIf P ops S op (.agg vs) a :=
  .inl ⟨hw, fun w hw' => by
    unfold execOp
    simp only [ho, hx, Instr.loadAt, Instr.sureAddr, Sem.run_bind, Sem.run_pure, Result.andThen_ok, run_loadVar_part w g off t ty cs vs (0, 0) d (hS w hw') hv hu hd hi]⟩
end Go.Proofs.Ytbnfjielnamepaa.Av
