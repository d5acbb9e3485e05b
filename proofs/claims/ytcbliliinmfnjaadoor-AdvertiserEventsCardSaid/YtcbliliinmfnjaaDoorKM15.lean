/- Words for memory: a slice that reads as cells, in a block that is not older than a bound; what is written elsewhere leaves it. No program is mentioned. Advertisers: their settings, what starts them, what they send and answer: plain mathematics. No function is mentioned. Advertisers: copies of lists; moments; the kinds of their PDUs: contracts over the program. Advertisers: their PDUs: contracts over the program. -/
import Derived.Test.YtcbliliinmfnjaaDoorKM7
import Derived.Laws.Tables
import Derived.Laws.Rows
import Derived.Laws.CopyOwn
import Derived.Deep.RegionHeld
import Derived.Great.BuildSlice
import Derived.Test.YtcbliliinmfnjaaDoorKM14
import Derived.Test.YtcbliliinmfnjaaDoorKM12
import Derived.Test.YtcbliliinmfnjaaDoorKM8
import Derived.Lib.Hide
import Derived.Deep.CutRange
section
set_option linter.unusedVariables false
set_option linter.unusedSimpArgs false
namespace Go.Proofs.YtcbliliinmfnjaaDoor.Av
open Go.RowKit Mem Rw

/-- V is a slice of n elements whose cells are ys, in a block from m on. -/
def Row (w : World) (m : Nat) (V : Value) (n : Nat) (ys : List Value) : Prop :=
  ∃ A c, V = .slice A n c ∧ n ≤ c ∧ (ys = [] ∨ ∃ b off, A = some ⟨b, off, none⟩ ∧ m ≤ b ∧ b < w.heap.size ∧ ∀ (q : Nat) u, ys[q]? = some u → w.cell? ⟨b, off + q, none⟩ = some u)
section
variable {w w' : World} {m m' n : Nat} {V : Value} {ys : List Value}
theorem Row.keep (h : Row w m V n ys) (hs : w.heap.size ≤ w'.heap.size) (hk : ∀ b i, m ≤ b → b < w.heap.size → w'.cell? ⟨b, i, none⟩ = w.cell? ⟨b, i, none⟩) : Row w' m V n ys := by
  obtain ⟨A, c, e, hc, h⟩ := h
  refine ⟨A, c, e, hc, ?_⟩
  rcases h with h | ⟨b, off, e, hm, hb, hq⟩
  · exact .inl h
  · exact .inr ⟨b, off, e, hm, by omega, fun q u hu => (hk b _ hm hb).trans (hq q u hu)⟩
theorem Row.below (h : Row w m V n ys) (hb : Below w.heap.size w w') : Row w' m V n ys :=
  h.keep hb.size fun b i _ hl => hb.cell (p := ⟨b, i, none⟩) hl
theorem Row.alloc (h : Row w m V n ys) (o : Obj) : Row (w.alloc o) m V n ys := h.below ((Below.refl _ _).alloc (Nat.le_refl _) o)
theorem Row.drew (h : Row w m V n ys) : Row w.drew m V n ys := h
theorem Row.far {g i : Nat} {x : Value} (h : Row w m V n ys) (hg : g < m) : Row (w.setCell ⟨g, i, none⟩ x) m V n ys :=
  h.keep (by simp) fun b j hm _ => World.cell?_setCell_far _ _ _ _ (show g ≠ b by omega)
theorem Row.farR {g : Nat} {cs : Array Value} (h : Row w m V n ys) (hg : g < m) : Row (w.setRow g cs) m V n ys :=
  h.keep (by rw [size_setRow]; exact Nat.le_refl _) fun b j hm _ => cell_setRow_other _ _ _ _ (show b ≠ g by omega)
theorem Row.less (h : Row w m V n ys) (hm : m' ≤ m) : Row w m' V n ys := by
  obtain ⟨A, c, e, hc, h⟩ := h
  refine ⟨A, c, e, hc, ?_⟩
  rcases h with h | ⟨b, off, e, hm', hb, hq⟩
  · exact .inl h
  · exact .inr ⟨b, off, e, by omega, hb, hq⟩
theorem Row.cells (h : Row w m V n ys) : ∃ A c, V = .slice A n c ∧ n ≤ c ∧ CellsAt w w.heap.size A ys := by
  obtain ⟨A, c, e, hc, h⟩ := h
  refine ⟨A, c, e, hc, ?_⟩
  rcases h with h | ⟨b, off, e, hm, hb, hq⟩
  · exact .inl h
  · exact .inr ⟨b, off, e, hb, hq⟩
theorem Row.of_cells {A : Option Addr} {n c : Nat} (hc : n ≤ c) (h : CellsAt w w.heap.size A ys) : Row w 0 (.slice A n c) n ys := by
  refine ⟨A, c, rfl, hc, ?_⟩
  rcases h with h | ⟨b, off, e, hb, hq⟩
  · exact .inl h
  · exact .inr ⟨b, off, e, Nat.zero_le _, hb, hq⟩
theorem Row.own {base k : Nat} {e : TypeId} (h : w.ownsRow base e k V n ys) : Row w base V n ys := by
  rcases h.2 with ⟨hv, hn⟩ | ⟨g, cap, cur, hv, hbg, hg, hnc, hcm, hcs, htake⟩
  · refine ⟨none, 0, by rw [hv, hn], by omega, .inl ?_⟩
    have := h.1
    subst hn
    simpa using this
  · refine ⟨some ⟨g, 0, none⟩, cap, hv, hnc, .inr ⟨g, 0, rfl, hbg, ?_, fun q u hq => ?_⟩⟩
    · rcases Nat.lt_or_ge g w.heap.size with hlt | hge
      · exact hlt
      · rw [Array.getElem?_eq_none hge] at hg; cases hg
    · subst hv
      have := h.cells (g := g) rfl q _ hq
      rwa [plain_add] at this
theorem Row.nil (w : World) (m : Nat) (A : Option Addr) (c : Nat) : Row w m (.slice A 0 c) 0 [] := ⟨A, c, rfl, Nat.zero_le _, .inl rfl⟩
theorem Row.one (h : Row w m V n ys) : V.oneCell' = true := by
  obtain ⟨A, c, rfl, _⟩ := h; rfl
/-- Bytes. -/
theorem ints_of {k : IntKind} {A : Option Addr} {zs : List Int} (h : CellsAt w w.heap.size A (zs.map (Value.int k))) : Ints k w w.heap.size A zs := by
  rcases h with h | ⟨b, off, e, hb, hq⟩
  · left; simpa using h
  · refine .inr ⟨b, off, e, hb, fun j hj => hq j _ ?_⟩
    simp [List.getD, List.getElem?_map, List.getElem?_eq_getElem hj]
theorem of_ints {k : IntKind} {A : Option Addr} {zs : List Int} (h : Ints k w w.heap.size A zs) : CellsAt w w.heap.size A (zs.map (Value.int k)) := by
  rcases h with rfl | ⟨b, off, e, hb, hq⟩
  · exact .inl rfl
  · refine .inr ⟨b, off, e, hb, fun j u hu => ?_⟩
    have hj : j < zs.length := by
      rcases Nat.lt_or_ge j zs.length with h | h
      · exact h
      · rw [List.getElem?_eq_none (by simpa using h)] at hu; cases hu
    rw [hq j hj]
    simp [List.getElem?_map, List.getElem?_eq_getElem hj] at hu
    simp [List.getD, List.getElem?_eq_getElem hj, hu]
theorem Row.ints {k : IntKind} {zs : List Int} (h : Row w m V n (zs.map (Value.int k))) : ∃ A c, V = .slice A n c ∧ n ≤ c ∧ Ints k w w.heap.size A zs := by
  obtain ⟨A, c, e, hc, h⟩ := h.cells
  exact ⟨A, c, e, hc, ints_of h⟩
end
/-! ### Blocks that are known whole -/
theorem bset {w : World} {g : Nat} {t : TypeId} {cs cs' : Array Value} (h : Blk w g t cs) (i : Nat) (v : Value) (e : cs.setIfInBounds i v = cs') : Blk (w.setCell ⟨g, i, none⟩ v) g t cs' := by
  subst e
  have hg : g < w.heap.size := h.lt
  unfold Blk at h ⊢
  unfold World.setCell
  simp only [Array.getElem?_modify, if_true, h]
  simp
theorem bother {w : World} {g g' i : Nat} {t : TypeId} {cs : Array Value} (h : Blk w g t cs) (hne : g' ≠ g) (v : Value) : Blk (w.setCell ⟨g', i, none⟩ v) g t cs := by
  unfold Blk at h ⊢
  unfold World.setCell
  simp only [Array.getElem?_modify, h]
  simp [hne]
theorem bset_row {w : World} {g : Nat} {t : TypeId} {cs cs' : Array Value} (h : Blk w g t cs) : Blk (w.setRow g cs') g t cs' := setRow_heap w g _ cs' t (0, 0) h
theorem bother_row {w : World} {g g' : Nat} {t : TypeId} {cs cs' : Array Value} (h : Blk w g t cs) (hne : g' ≠ g) : Blk (w.setRow g' cs') g t cs := by
  unfold Blk at h ⊢
  rw [← h]
  exact setRow_other w g' g cs' (Ne.symm hne)
theorem Blk.next {w : World} {t t' : TypeId} {cs cs' : Array Value} : Blk ((w.alloc (.cells cs t)).alloc (.cells cs' t')) (w.heap.size + 1) t' cs' := by
  have := Blk.fresh (w.alloc (.cells cs t)) t' cs'
  simpa using this
theorem step_store_row {P : Program} {ops : Array Oper} {o : Oper} {a : Act} {w : World} {K : Act → World → Prop} {Q : Exit → Act → World → Prop} {E : Prop} (hgd : o.guard = none) (ty : TypeId) (x y : Operand) (ho : o.op = .store ty x y)
    (g : Nat) (cells : Array Value) (hx : a.eval x = .pointer (some ⟨g, 0, none⟩)) (hy : a.eval y = .agg cells)
    (t : TypeId) (old : Array Value) (hg : w.heap[g]? = some (.cells old t (0, 0))) (hi : (P.info? ty).map (·.size) = some cells.size)
    (hold : old.size = cells.size) (h1 : cells.all (·.oneCell') = true)
    (h : K (a.put o.dst undef) (w.setRow g cells)) : if Region.wanted o (yielded ops a.tmps) = true then Oper.wp P o a w K Q else E := by
  have hw : Region.wanted o (yielded ops a.tmps) = true := by simp [Region.wanted, hgd]
  rw [if_pos hw]
  exact wp_store_row ty x y ho g cells hx hy t old hg hi hold h1 h
theorem run_storeVar_cell {P : Program} (w : World) (g i : Nat) (t ty : TypeId) (cs : Array Value) (v : Value) (hg : w.heap[g]? = some (.cells cs t (0, 0))) (hi : i < cs.size) (hs : (P.info? ty).map (·.size) = some 1) (h1 : v.oneCell' = true) :
    (storeVar ty ⟨g, i, none⟩ v).run P w = .ok () (w.setCell ⟨g, i, none⟩ v) := by
  have hcell : w.cell? ⟨g, i, none⟩ = some cs[i] := by simp [World.cell?, hg, hi]
  have hfro : w.frozen? ⟨g, i, none⟩ = false := by simp [World.frozen?, hg]
  have hc : v.cells = #[v] := by cases v <;> first | rfl | (simp [Value.oneCell'] at h1)
  have hst : (store (Addr.add ⟨g, i, none⟩ 0) v).run P w = .ok () (w.setCell ⟨g, i, none⟩ v) := by
    rw [show Addr.add ⟨g, i, none⟩ 0 = ⟨g, i, none⟩ from rfl, run_store P w _ v _ h1, hcell]
    simp [hfro]
  cases hq : P.info? ty with
  | none => simp [hq] at hs
  | some x =>
    have hx : x.size = 1 := by simpa [hq] using hs
    simp [storeVar, sizeOf, typeInfo, hq, hc, hx, storeCells, hst]
theorem wp_store_cell {P : Program} {o : Oper} {a : Act} {w : World} {K : Act → World → Prop} {Q : Exit → Act → World → Prop} (ty : TypeId) (x y : Operand) (ho : o.op = .store ty x y)
    (g i : Nat) (v : Value) (hx : a.eval x = .pointer (some ⟨g, i, none⟩)) (hy : a.eval y = v) (t : TypeId) (cs : Array Value) (hg : w.heap[g]? = some (.cells cs t (0, 0))) (hi : i < cs.size) (hs : (P.info? ty).map (·.size) = some 1) (h1 : v.oneCell' = true)
    (h : K (a.put o.dst undef) (w.setCell ⟨g, i, none⟩ v)) : o.wp P a w K Q := by
  unfold Oper.wp execOp
  simp only [ho, hx, hy, Instr.storeAt, Instr.sureAddr, Sem.run_bind, Sem.run_pure, Result.andThen_ok, run_storeVar_cell w g i t ty cs v hg hi hs h1]
  exact h
theorem step_store_cell {P : Program} {ops : Array Oper} {o : Oper} {a : Act} {w : World} {K : Act → World → Prop} {Q : Exit → Act → World → Prop} {E : Prop} (hgd : o.guard = none) (ty : TypeId) (x y : Operand) (ho : o.op = .store ty x y)
    (g i : Nat) (v : Value) (hx : a.eval x = .pointer (some ⟨g, i, none⟩)) (hy : a.eval y = v) (t : TypeId) (cs : Array Value) (hg : w.heap[g]? = some (.cells cs t (0, 0))) (hi : i < cs.size) (hs : (P.info? ty).map (·.size) = some 1) (h1 : v.oneCell' = true)
    (h : K (a.put o.dst undef) (w.setCell ⟨g, i, none⟩ v)) : if Region.wanted o (yielded ops a.tmps) = true then Oper.wp P o a w K Q else E := by
  have hw : Region.wanted o (yielded ops a.tmps) = true := by simp [Region.wanted, hgd]
  rw [if_pos hw]
  exact wp_store_cell ty x y ho g i v hx hy t cs hg hi hs h1 h
theorem wpList_store_cell {P : Program} {ops : Array Oper} {rest : List Oper} {o : Oper} {a : Act} {w : World} {Q : Exit → Act → World → Prop} (hgd : o.guard = none) (ty : TypeId) (x y : Operand) (ho : o.op = .store ty x y)
    (g i : Nat) (v : Value) (hx : a.eval x = .pointer (some ⟨g, i, none⟩)) (hy : a.eval y = v) (t : TypeId) (cs : Array Value) (hg : w.heap[g]? = some (.cells cs t (0, 0))) (hi : i < cs.size) (hs : (P.info? ty).map (·.size) = some 1) (h1 : v.oneCell' = true)
    (h : wpList P ops Q rest (a.put o.dst undef) (w.setCell ⟨g, i, none⟩ v)) : wpList P ops Q (o :: rest) a w :=
  wpList_plain hgd fun _ hK => wp_store_cell ty x y ho g i v hx hy t cs hg hi hs h1 (hK _ _ h)
/-- A struct that is a part of another one is read at once. -/
theorem run_loadVar_part {P : Program} (w : World) (g off : Nat) (t ty : TypeId) (cs vs : Array Value) (fr : Nat × Nat) (d : TypeDesc) (hg : w.heap[g]? = some (.cells cs t fr))
    (hv : (cs.toList.drop off).take vs.size = vs.toList) (hu : P.underlying ty = some d) (hd : (match d with | .struct _ | .array _ _ => true | _ => false) = true) (hi : (P.info? ty).map (·.size) = some vs.size) :
    (loadVar ty ⟨g, off, none⟩).run P w = .ok (.agg vs) w := by
  have hl : (loadCells ⟨g, off, none⟩ vs.toList.length).run P w = .ok vs.toList.toArray w :=
    run_loadCells_list (P := P) w ⟨g, off, none⟩ vs.toList (fun j v hj => by
      rw [plain_add, cell_of_row w g (off + j) cs t fr hg]
      have hjl : j < vs.size := by
        rcases Nat.lt_or_ge j vs.size with h | h
        · exact h
        · rw [List.getElem?_eq_none (by simpa using h)] at hj; cases hj
      rw [← hv, List.getElem?_take, if_pos hjl, List.getElem?_drop] at hj
      simpa using hj)
  cases hq : P.info? ty with
  | none => simp [hq] at hi
  | some i =>
    have hs : i.size = vs.size := by simpa [hq] using hi
    have hagg : (isAgg ty).run P w = .ok true w := by
      unfold isAgg
      rw [Sem.run_bind, run_underlying hu w]
      cases d <;> simp_all
    simp only [Array.length_toList, Array.toArray_toList] at hl
    simp [loadVar, Sem.run_bind, hagg, sizeOf, typeInfo, hq, hs, hl]
theorem wpList_load_part {P : Program} {ops : Array Oper} {rest : List Oper} {o : Oper} {a : Act} {w : World} {Q : Exit → Act → World → Prop} (hgd : o.guard = none) (ty : TypeId) (x : Operand) (ho : o.op = .load ty x)
    (g off : Nat) (hx : a.eval x = .pointer (some ⟨g, off, none⟩)) (t : TypeId) (cs vs : Array Value) (fr : Nat × Nat) (d : TypeDesc) (hg : w.heap[g]? = some (.cells cs t fr)) (hv : (cs.toList.drop off).take vs.size = vs.toList)
    (hu : P.underlying ty = some d) (hd : (match d with | .struct _ | .array _ _ => true | _ => false) = true) (hi : (P.info? ty).map (·.size) = some vs.size)
    (h : wpList P ops Q rest (a.put o.dst (.agg vs)) w) : wpList P ops Q (o :: rest) a w :=
  wpList_plain hgd fun K hK => by
    unfold Oper.wp execOp
    simp only [ho, hx, Instr.loadAt, Instr.sureAddr, Sem.run_bind, Sem.run_pure, Result.andThen_ok, run_loadVar_part w g off t ty cs vs fr d hg hv hu hd hi]
    exact hK _ _ h
theorem yields_part {P : Program} {ops : Array Oper} {S : World → Prop} {op : Oper} {a : Act} (hw : Region.wanted op (yielded ops a.tmps) = true) (ty : TypeId) (x : Operand) (ho : op.op = .load ty x)
    (g off : Nat) (hx : a.eval x = .pointer (some ⟨g, off, none⟩)) (vs : Array Value) (d : TypeDesc) (t : TypeId) (cs : Array Value) (hS : ∀ w, S w → w.heap[g]? = some (.cells cs t (0, 0))) (hv : (cs.toList.drop off).take vs.size = vs.toList)
    (hu : P.underlying ty = some d) (hd : (match d with | .struct _ | .array _ _ => true | _ => false) = true) (hi : (P.info? ty).map (·.size) = some vs.size) : YieldsIf P ops S op (.agg vs) a :=
  .inl ⟨hw, fun w hw' => by
    unfold execOp
    simp only [ho, hx, Instr.loadAt, Instr.sureAddr, Sem.run_bind, Sem.run_pure, Result.andThen_ok, run_loadVar_part w g off t ty cs vs (0, 0) d (hS w hw') hv hu hd hi]⟩
theorem yields_build {P : Program} {ops : Array Oper} {S : World → Prop} {op : Oper} {a : Act} (hw : Region.wanted op (yielded ops a.tmps) = true) (t : TypeId) (parts : Array (Nat × Operand)) (ho : op.op = .build t parts)
    (cells : Array Value) (hb : P.built t (parts.map fun (i, x) => (i, a.eval x)).toList = some cells) : YieldsIf P ops S op (.agg cells) a :=
  .inl ⟨hw, fun w hw' => by
    unfold execOp
    simp only [ho, Sem.run_bind, Sem.run_pure, Result.andThen_ok, run_build w t _ cells hb]⟩
theorem step_build_slice {P : Program} {ops : Array Oper} {o : Oper} {a : Act} {w : World} {K : Act → World → Prop} {Q : Exit → Act → World → Prop} {E : Prop} (hgd : o.guard = none) (t e : TypeId) (len : Nat) (parts : Array (Nat × Operand)) (ho : o.op = .buildSlice t len parts)
    (cells : Array Value) (ie : TypeInfo) (z : Value) (k : Nat) (hu : P.underlying t = some (.slice e)) (hie : P.info? e = some ie) (hz : ie.zero = some z) (hk : ie.size = k) (hsmall : ¬ len * k > 2 ^ 24) (hpos : ¬ len * k = 0)
    (hf : Instr.fill (fun i => some (i * k, k)) ((Array.range (len * k)).map (z.cells[· % z.cells.size]!)) (parts.map fun (i, x) => (i, a.eval x)).toList = some cells)
    (h : K (a.put o.dst (.slice (some ⟨w.heap.size, 0, none⟩) len len)) (w.alloc (.cells cells e))) : if Region.wanted o (yielded ops a.tmps) = true then Oper.wp P o a w K Q else E := by
  have hw : Region.wanted o (yielded ops a.tmps) = true := by simp [Region.wanted, hgd]
  rw [if_pos hw]
  subst hk
  exact wp_buildSlice t e len parts ho cells ie z hu hie hz hsmall hpos hf h
end Go.Proofs.YtcbliliinmfnjaaDoor.Av

end
section
set_option linter.unusedVariables false
set_option linter.unusedSimpArgs false
namespace Go.Proofs.YtcbliliinmfnjaaDoor.Av
open Go.RowKit Mem Oct Rw Ap Ace Prv

/-- Settings of an advertiser. -/
structure Pm where
  k : Int
  it : Int
  ok : Int
  ob : Int
  tk : Int
  tb : Int
  ds : List Int
  sc : List Int
  po : Int
  ac : List (Int × Int)
  ids : List (Int × Int × Int)
  sd : Int
/-- An advertiser. -/
structure Ad where
  p : Pm
  on : Bool
  ev : Int
  nx : Int
def zeroP : Pm := ⟨0, 0, 0, 0, 0, 0, [], [], 0, [], [], 0⟩
def zeroA : Ad := ⟨zeroP, false, 0, 0⟩
/-- A PDU without parameters. -/
abbrev pdu (k sk sb tk tb : Int) (ds : List Int) : Pd := ⟨k, sk, sb, tk, tb, ds, 0, 0, 0, 0, 0, 0, 0, 0, 0, 0, 0⟩
def annP (p : Pm) : Pd := pdu p.k p.ok p.ob p.tk p.tb p.ds
def ansP (p : Pm) : Pd := pdu 4 p.ok p.ob 0 0 p.sc
def scnB (k : Int) : Bool := k == 0 || k == 6
def annB (k : Int) : Bool := k == 0 || (k == 1 || (k == 2 || k == 6))
/-- The error of the scan response data, of settings. -/
def scE (p : Pm) : Int := if scnB p.k = true then chkP (ansP p) else if 0 < p.sc.length then 1 else 0
def stE (p : Pm) : Int :=
  if annB p.k = false then 12 else if p.it < 32 ∨ 16384 < p.it then 5 else if ¬ chkP (annP p) = 0 then chkP (annP p) else if ¬ scE p = 0 then scE p else
  if p.po < 0 ∨ 3 < p.po then 5 else if 64 < p.ac.length ∨ 64 < p.ids.length then 4 else 0
/-- A local time. -/
def plc (l : Int) : Int := max 0 (min l 4398046511104)
theorem plc_bd (l : Int) : 0 ≤ plc l ∧ plc l ≤ 4398046511104 := by unfold plc; omega
def startA (p : Pm) (l : Int) : Ad := if stE p = 0 then ⟨p, true, 0, plc l⟩ else zeroA
def sDel : ByteArray := ⟨#[100, 101, 108, 97, 121]⟩
/-- The delay. -/
def delZ (sd ev : Int) : Int := Mac.tagZ sd (Mac.derI sDel [ev % 18446744073709551616]) % 10000
theorem delZ_bd (sd ev : Int) : 0 ≤ delZ sd ev ∧ delZ sd ev ≤ 9999 := by unfold delZ; omega
/-- What is sent: channel, time, PDU. -/
structure Sd where
  ch : Int
  tm : Int
  q : Pd
def fires (a : Ad) (l : Int) : Bool := a.on && !decide (plc l < a.nx)
def fireA (a : Ad) (l : Int) : Ad := if fires a l = true then { a with nx := plc l + a.p.it * 625 + delZ a.p.sd a.ev, ev := a.ev + 1 } else a
def fireS (a : Ad) (l : Int) : List Sd := if fires a l = true then [⟨37, plc l, annP a.p⟩, ⟨38, plc l + 1000, annP a.p⟩, ⟨39, plc l + 2000, annP a.p⟩] else []
/-- Whether a PDU on a channel is a valid one that is meant for the advertiser. -/
def advB (ch : Int) : Bool := decide (37 ≤ ch ∧ ch < 40)
def meantB (a : Ad) (q : Pd) (ch : Int) : Bool := a.on && advB ch && decide (chkP q = 0) && eqA (q.tk, q.tb) (a.p.ok, a.p.ob)
def scanB (p : Pm) (q : Pd) : Bool := q.k == 3 && (scnB p.k && allowZ p.po 3 (hasB p.ac p.ids (q.sk, q.sb)))
def accB (p : Pm) (q : Pd) : Bool := (p.k == 0 && allowZ p.po 5 (hasB p.ac p.ids (q.sk, q.sb))) || (p.k == 1 && hasB [(p.tk, p.tb)] p.ids (q.sk, q.sb))
def connB (p : Pm) (q : Pd) : Bool := q.k == 5 && accB p q
def ansA (a : Ad) (q : Pd) (ch : Int) : Ad := if meantB a q ch = true ∧ scanB a.p q = false ∧ connB a.p q = true then { a with on := false } else a
def ansS (a : Ad) (q : Pd) (ch l : Int) : List Sd := if meantB a q ch = true ∧ scanB a.p q = true then [⟨ch, plc l + 150, ansP a.p⟩] else []
def ansB (a : Ad) (q : Pd) (ch : Int) : Bool := meantB a q ch && (!scanB a.p q && connB a.p q)
def stopA (a : Ad) : Ad := { a with on := false }

/-- Settings by value, and an advertiser. -/
abbrev pcel (p : Pm) (VD VS VA VI : Value) : Array Value := #[.int .i64 p.k, .int .i64 p.it, .int .i64 p.ok, .int .u64 p.ob, .int .i64 p.tk, .int .u64 p.tb, VD, VS, .int .i64 p.po, VA, VI, .int .u64 p.sd]
abbrev vcel (a : Ad) (VD VS VA VI : Value) : Array Value := #[.int .i64 a.p.k, .int .i64 a.p.it, .int .i64 a.p.ok, .int .u64 a.p.ob, .int .i64 a.p.tk, .int .u64 a.p.tb, VD, VS, .int .i64 a.p.po, VA, VI, .int .u64 a.p.sd, .bool a.on, .int .i64 a.ev, .int .i64 a.nx]
/-- The lists of settings are read, from blocks that are not older than m. -/
structure Has (w : World) (m : Nat) (p : Pm) (VD VS VA VI : Value) : Prop where
  d : Row w m VD p.ds.length (p.ds.map (Value.int .u8))
  s : Row w m VS p.sc.length (p.sc.map (Value.int .u8))
  a : Row w m VA p.ac.length (p.ac.flatMap encA)
  i : Row w m VI p.ids.length (p.ids.flatMap encI)
section
variable {w w' : World} {m m' : Nat} {p : Pm} {VD VS VA VI : Value}
theorem Has.below (h : Has w m p VD VS VA VI) (b : Below w.heap.size w w') : Has w' m p VD VS VA VI := ⟨h.d.below b, h.s.below b, h.a.below b, h.i.below b⟩
theorem Has.alloc (h : Has w m p VD VS VA VI) (o : Obj) : Has (w.alloc o) m p VD VS VA VI := ⟨h.d.alloc o, h.s.alloc o, h.a.alloc o, h.i.alloc o⟩
theorem Has.drew (h : Has w m p VD VS VA VI) : Has w.drew m p VD VS VA VI := ⟨h.d, h.s, h.a, h.i⟩
theorem Has.far {g i : Nat} {x : Value} (h : Has w m p VD VS VA VI) (hg : g < m) : Has (w.setCell ⟨g, i, none⟩ x) m p VD VS VA VI := ⟨h.d.far hg, h.s.far hg, h.a.far hg, h.i.far hg⟩
theorem Has.farR {g : Nat} {cs : Array Value} (h : Has w m p VD VS VA VI) (hg : g < m) : Has (w.setRow g cs) m p VD VS VA VI := ⟨h.d.farR hg, h.s.farR hg, h.a.farR hg, h.i.farR hg⟩
theorem Has.less (h : Has w m p VD VS VA VI) (hm : m' ≤ m) : Has w m' p VD VS VA VI := ⟨h.d.less hm, h.s.less hm, h.a.less hm, h.i.less hm⟩
theorem has_zero (w : World) (m : Nat) : Has w m zeroP (.slice none 0 0) (.slice none 0 0) (.slice none 0 0) (.slice none 0 0) := ⟨Row.nil _ _ _ _, Row.nil _ _ _ _, Row.nil _ _ _ _, Row.nil _ _ _ _⟩
end
theorem one_v (a : Ad) (VD VS VA VI : Value) (hd : VD.oneCell' = true) (hs : VS.oneCell' = true) (ha : VA.oneCell' = true) (hi : VI.oneCell' = true) : (vcel a VD VS VA VI).all (·.oneCell') = true := by
  rw [← Array.all_toList]
  simp only [List.all_cons, List.all_nil, hd, hs, ha, hi, Bool.and_true, Bool.and_self]
  rfl
theorem Has.one {w : World} {m : Nat} {p : Pm} {VD VS VA VI : Value} (h : Has w m p VD VS VA VI) (a : Ad) : (vcel a VD VS VA VI).all (·.oneCell') = true := one_v a _ _ _ _ h.d.one h.s.one h.a.one h.i.one
/-- The numbers of settings are those of their types, and the lists are within reach. -/
structure PW (p : Pm) : Prop where
  hk : -9223372036854775808 ≤ p.k ∧ p.k ≤ 9223372036854775807
  hit : -9223372036854775808 ≤ p.it ∧ p.it ≤ 9223372036854775807
  hok : -9223372036854775808 ≤ p.ok ∧ p.ok ≤ 9223372036854775807
  hob : 0 ≤ p.ob ∧ p.ob ≤ 18446744073709551615
  htk : -9223372036854775808 ≤ p.tk ∧ p.tk ≤ 9223372036854775807
  htb : 0 ≤ p.tb ∧ p.tb ≤ 18446744073709551615
  hds : Bytes p.ds
  hsc : Bytes p.sc
  hpo : -9223372036854775808 ≤ p.po ∧ p.po ≤ 9223372036854775807
  hids : Prv.Idents p.ids
  hsd : 0 ≤ p.sd ∧ p.sd ≤ 18446744073709551615
  nds : p.ds.length ≤ 140737488351232
  nsc : p.sc.length ≤ 140737488351232
  nac : p.ac.length ≤ 8796093022200
  nids : p.ids.length ≤ 5864062014800
theorem pw_zero : PW zeroP := by
  constructor <;> first | decide | (intro z hz; cases hz)
theorem wid_ann {p : Pm} (h : PW p) : Wid (annP p) := ⟨h.hk, h.hok, h.hob, h.htk, h.htb, ⟨by show (0 : Int) ≤ 0; omega, by show (0 : Int) ≤ 4294967295; omega⟩, ⟨by show (0 : Int) ≤ 0; omega, by show (0 : Int) ≤ 4294967295; omega⟩, by show 0 ≤ 18446744073709551615; omega⟩
theorem wid_ans {p : Pm} (h : PW p) : Wid (ansP p) := ⟨⟨by show (-9223372036854775808 : Int) ≤ 4; omega, by show (4 : Int) ≤ 9223372036854775807; omega⟩, h.hok, h.hob, ⟨by show (-9223372036854775808 : Int) ≤ 0; omega, by show (0 : Int) ≤ 9223372036854775807; omega⟩, ⟨by show (0 : Int) ≤ 0; omega, by show (0 : Int) ≤ 18446744073709551615; omega⟩, ⟨by show (0 : Int) ≤ 0; omega, by show (0 : Int) ≤ 4294967295; omega⟩, ⟨by show (0 : Int) ≤ 0; omega, by show (0 : Int) ≤ 4294967295; omega⟩, by show 0 ≤ 18446744073709551615; omega⟩
theorem start_pw {p : Pm} (h : PW p) (l : Int) : PW (startA p l).p := by unfold startA; split; exact h; exact pw_zero
end Go.Proofs.YtcbliliinmfnjaaDoor.Av

end
section
set_option linter.unusedVariables false
set_option linter.unusedSimpArgs false
namespace Go.Proofs.YtcbliliinmfnjaaDoor.Av
open Go.RowKit Mem Oct Rw Ap Ace Prv
open Base (thenB)

theorem info_u8' : (Tryd.prog.info? 5).map (fun i => (i.zero, i.size, i.bytes)) = some (some (.int .u8 0), 1, 1) := Base.info_u8
set_option maxHeartbeats 1000000 in
theorem clone_b (V : Value) (n m : Nat) (l : List Int) (w : World) (hl : l.length = n) (hn : n ≤ 140737488351232) (hr : Row w m V n (l.map (Value.int .u8))) :
    Calls Tryd.prog 74 #[V] w fun e w' => ∃ V', e = .returned V' ∧ Row w' w.heap.size V' n (l.map (Value.int .u8)) ∧ Below w.heap.size w w' := by
  obtain ⟨A, c, rfl, hc, hr⟩ := hr.cells
  obtain ⟨iE, hi, hz, hs, hb, hc0⟩ := info_parts2 info_u8' rfl
  have hf : (l.map (Value.int .u8)).length = n * 1 := by simpa using hl
  have ho : ∀ u ∈ l.map (Value.int .u8), u.oneCell' = true := fun u hu => by simp at hu; obtain ⟨z, _, rfl⟩ := hu; rfl
  have hr0 : CellsAt (w.alloc (.cells #[] 5)) w.heap.size A (l.map (Value.int .u8)) := CellsAt.alloc hr (Nat.le_refl _) _
  have q22 : ∀ (w : World) (a : Option Addr) (n c n' c' : Nat), (binOp .eql 25 (.slice a n c) (.slice none n' c')).run Tryd.prog w = .ok (.bool a.isNone) w := fun w a n c n' c' => Lib.run_eql_slice_nil w _ _ a n c n' c' Tryd.underlying25
  generalize l.map (Value.int .u8) = ys at *
  cases A with
  | none =>
    have h0 : ys = [] := by
      rcases hr with h | ⟨b, off, e, _⟩
      · exact h
      · cases e
    subst h0
    obtain rfl : n = 0 := by simp at hf; omega
    clear hf ho hr0 hr hl
    go_enter Tryd.func74, Tryd.ntmps74
    go_wp2_with fail
    go_ret
    exact ⟨_, rfl, Row.nil _ _ _ _, Below.refl _ _⟩
  | some a =>
    clear hr
    go_enter Tryd.func74, Tryd.ntmps74
    go_wp2_with (at_builtin; refine wpList_append_rows rfl _ _ 25 rfl w.heap.size 5 iE _ 1 1 Tryd.underlying25 hi hz hs hb hc0 (by decide) (.slice (some ⟨w.heap.size, 0, none⟩) 0 0) 0 [] rfl (World.ownsRow_made _ _ 0 (Nat.le_refl _) (by unfold maxLen; omega) rfl) w.heap.size (some a) n c ys rfl hf ho hr0 (by unfold maxLen; omega) (by omega) (by simp) ?_; intro v1 w1 own1 b1 g1)
    go_ret
    simp only [Nat.zero_add, List.nil_append] at own1
    exact ⟨_, by simp, Row.own own1, ((Below.refl _ _).alloc (Nat.le_refl _) _).trans b1⟩
set_option maxHeartbeats 1000000 in
theorem clone_a (V : Value) (n m : Nat) (l : List (Int × Int)) (w : World) (hl : l.length = n) (hn : n ≤ 8796093022200) (hr : Row w m V n (l.flatMap encA)) :
    Calls Tryd.prog 75 #[V] w fun e w' => ∃ V', e = .returned V' ∧ Row w' w.heap.size V' n (l.flatMap encA) ∧ Below w.heap.size w w' := by
  obtain ⟨A, c, rfl, hc, hr⟩ := hr.cells
  obtain ⟨iE, hi, hz, hs, hb, hc0⟩ := info_parts2 info_adr rfl
  have hf : (l.flatMap encA).length = n * 2 := by rw [flat_len sizA, hl]
  have ho : ∀ u ∈ l.flatMap encA, u.oneCell' = true := flat_one sizA l
  have hr0 : CellsAt (w.alloc (.cells #[] 24)) w.heap.size A (l.flatMap encA) := CellsAt.alloc hr (Nat.le_refl _) _
  have q22 : ∀ (w : World) (a : Option Addr) (n c n' c' : Nat), (binOp .eql 26 (.slice a n c) (.slice none n' c')).run Tryd.prog w = .ok (.bool a.isNone) w := fun w a n c n' c' => Lib.run_eql_slice_nil w _ _ a n c n' c' Tryd.underlying26
  generalize l.flatMap encA = ys at *
  cases A with
  | none =>
    have h0 : ys = [] := by
      rcases hr with h | ⟨b, off, e, _⟩
      · exact h
      · cases e
    subst h0
    obtain rfl : n = 0 := by simp at hf; omega
    clear hf ho hr0 hr hl
    go_enter Tryd.func75, Tryd.ntmps75
    go_wp2_with fail
    go_ret
    exact ⟨_, rfl, Row.nil _ _ _ _, Below.refl _ _⟩
  | some a =>
    clear hr
    go_enter Tryd.func75, Tryd.ntmps75
    go_wp2_with (at_builtin; refine wpList_append_rows rfl _ _ 26 rfl w.heap.size 24 iE _ 2 16 Tryd.underlying26 hi hz hs hb hc0 (by decide) (.slice (some ⟨w.heap.size, 0, none⟩) 0 0) 0 [] rfl (World.ownsRow_made _ _ 0 (Nat.le_refl _) (by unfold maxLen; omega) rfl) w.heap.size (some a) n c ys rfl hf ho hr0 (by unfold maxLen; omega) (by omega) (by simp) ?_; intro v1 w1 own1 b1 g1)
    go_ret
    simp only [Nat.zero_add, List.nil_append] at own1
    exact ⟨_, by simp, Row.own own1, ((Below.refl _ _).alloc (Nat.le_refl _) _).trans b1⟩
set_option maxHeartbeats 1000000 in
theorem clone_i (V : Value) (n m : Nat) (l : List (Int × Int × Int)) (w : World) (hl : l.length = n) (hn : n ≤ 5864062014800) (hr : Row w m V n (l.flatMap encI)) :
    Calls Tryd.prog 76 #[V] w fun e w' => ∃ V', e = .returned V' ∧ Row w' w.heap.size V' n (l.flatMap encI) ∧ Below w.heap.size w w' := by
  obtain ⟨A, c, rfl, hc, hr⟩ := hr.cells
  obtain ⟨iE, hi, hz, hs, hb, hc0⟩ := info_parts2 info_idn rfl
  have hf : (l.flatMap encI).length = n * 3 := by rw [flat_len sizI, hl]
  have ho : ∀ u ∈ l.flatMap encI, u.oneCell' = true := flat_one sizI l
  have hr0 : CellsAt (w.alloc (.cells #[] 122)) w.heap.size A (l.flatMap encI) := CellsAt.alloc hr (Nat.le_refl _) _
  have q22 : ∀ (w : World) (a : Option Addr) (n c n' c' : Nat), (binOp .eql 27 (.slice a n c) (.slice none n' c')).run Tryd.prog w = .ok (.bool a.isNone) w := fun w a n c n' c' => Lib.run_eql_slice_nil w _ _ a n c n' c' Tryd.underlying27
  generalize l.flatMap encI = ys at *
  cases A with
  | none =>
    have h0 : ys = [] := by
      rcases hr with h | ⟨b, off, e, _⟩
      · exact h
      · cases e
    subst h0
    obtain rfl : n = 0 := by simp at hf; omega
    clear hf ho hr0 hr hl
    go_enter Tryd.func76, Tryd.ntmps76
    go_wp2_with fail
    go_ret
    exact ⟨_, rfl, Row.nil _ _ _ _, Below.refl _ _⟩
  | some a =>
    clear hr
    go_enter Tryd.func76, Tryd.ntmps76
    go_wp2_with (at_builtin; refine wpList_append_rows rfl _ _ 27 rfl w.heap.size 122 iE _ 3 24 Tryd.underlying27 hi hz hs hb hc0 (by decide) (.slice (some ⟨w.heap.size, 0, none⟩) 0 0) 0 [] rfl (World.ownsRow_made _ _ 0 (Nat.le_refl _) (by unfold maxLen; omega) rfl) w.heap.size (some a) n c ys rfl hf ho hr0 (by unfold maxLen; omega) (by omega) (by simp) ?_; intro v1 w1 own1 b1 g1)
    go_ret
    simp only [Nat.zero_add, List.nil_append] at own1
    exact ⟨_, by simp, Row.own own1, ((Below.refl _ _).alloc (Nat.le_refl _) _).trans b1⟩
theorem moment_any (l : Int) (w : World) :
    Calls Tryd.prog 42 #[.int .i64 l] w fun e w' => e = .returned (.int .i64 (plc l)) ∧ w = w' := by
  go_enter Tryd.func42, Tryd.ntmps42
  go_wp2
  go_ret
  exact ⟨rfl, rfl⟩
theorem rplace_any (l : Int) (w : World) :
    Calls Tryd.prog 46 #[.int .i64 l] w fun e w' => e = .returned (.int .i64 (plc l)) ∧ w = w' := by
  go_enter Tryd.func46, Tryd.ntmps46
  go_wp2
  go_ret
  exact ⟨rfl, rfl⟩
theorem announces_any (k : Int) (w : World) : Calls Tryd.prog 72 #[.int .i64 k] w fun e w' => e = .returned (.bool (annB k)) ∧ w = w' := by
  by_cases h : k = 0 ∨ k = 1 ∨ k = 2 ∨ k = 6
  · have e : annB k = true := by unfold annB; rcases h with rfl | rfl | rfl | rfl <;> rfl
    rw [e]
    rcases h with rfl | rfl | rfl | rfl <;>
    · go_enter Tryd.func72, Tryd.ntmps72
      go_wp2_with fail
      go_ret
      exact ⟨rfl, rfl⟩
  · have g0 : (k == 0) = false := by simpa using (by omega : ¬ k = 0)
    have g1 : (k == 1) = false := by simpa using (by omega : ¬ k = 1)
    have g2 : (k == 2) = false := by simpa using (by omega : ¬ k = 2)
    have g6 : (k == 6) = false := by simpa using (by omega : ¬ k = 6)
    have e : annB k = false := by unfold annB; rw [g0, g1, g2, g6]; rfl
    rw [e]
    clear h e
    go_enter Tryd.func72, Tryd.ntmps72
    go_wp2_with fail
    go_ret
    exact ⟨rfl, rfl⟩
end Go.Proofs.YtcbliliinmfnjaaDoor.Av

end
section
set_option linter.unusedVariables false
set_option linter.unusedSimpArgs false
namespace Go.Proofs.YtcbliliinmfnjaaDoor.Av
open Go.RowKit Mem Oct Rw Ap Ace Prv
open Base (thenB)

/-- A PDU whose data are new memory. -/
def PduR (w w' : World) (e : Ending) (q : Pd) : Prop := ∃ V, e = .returned (.agg (cel q V)) ∧ Row w' w.heap.size V q.ds.length (q.ds.map (Value.int .u8)) ∧ Below w.heap.size w w'
set_option maxRecDepth 100000 in
set_option maxHeartbeats 4000000 in
theorem announcement_any (p : Pm) (VD VS VA VI : Value) (m : Nat) (w : World) (hW : PW p) (hH : Has w m p VD VS VA VI) :
    Calls Tryd.prog 52 #[.agg (pcel p VD VS VA VI)] w fun e w' => PduR w w' e (annP p) := by
  have BX : Below w.heap.size w ((w.alloc (.cells #[.int .i64 p.k, .int .i64 p.it, .int .i64 p.ok, .int .u64 p.ob, .int .i64 p.tk, .int .u64 p.tb, VD, VS, .int .i64 p.po, VA, VI, .int .u64 p.sd] 29)).alloc (.cells #[.int .i64 0, .int .i64 0, .int .u64 0, .int .i64 0, .int .u64 0, .slice none 0 0, .int .u32 0, .int .u32 0, .int .i64 0, .int .i64 0, .int .i64 0, .int .i64 0, .int .i64 0, .int .u64 0, .int .i64 0, .int .i64 0, .int .i64 0] 52)) := ((Below.refl _ _).alloc (Nat.le_refl _) _).alloc (by simp) _
  have K1 : Blk ((w.alloc (.cells #[.int .i64 p.k, .int .i64 p.it, .int .i64 p.ok, .int .u64 p.ob, .int .i64 p.tk, .int .u64 p.tb, VD, VS, .int .i64 p.po, VA, VI, .int .u64 p.sd] 29)).alloc (.cells #[.int .i64 0, .int .i64 0, .int .u64 0, .int .i64 0, .int .u64 0, .slice none 0 0, .int .u32 0, .int .u32 0, .int .i64 0, .int .i64 0, .int .i64 0, .int .i64 0, .int .i64 0, .int .u64 0, .int .i64 0, .int .i64 0, .int .i64 0] 52)) (w.heap.size) 29 #[.int .i64 p.k, .int .i64 p.it, .int .i64 p.ok, .int .u64 p.ob, .int .i64 p.tk, .int .u64 p.tb, VD, VS, .int .i64 p.po, VA, VI, .int .u64 p.sd] := (Blk.fresh w 29 #[.int .i64 p.k, .int .i64 p.it, .int .i64 p.ok, .int .u64 p.ob, .int .i64 p.tk, .int .u64 p.tb, VD, VS, .int .i64 p.po, VA, VI, .int .u64 p.sd]).alloc _
  have K2 : Blk ((w.alloc (.cells #[.int .i64 p.k, .int .i64 p.it, .int .i64 p.ok, .int .u64 p.ob, .int .i64 p.tk, .int .u64 p.tb, VD, VS, .int .i64 p.po, VA, VI, .int .u64 p.sd] 29)).alloc (.cells #[.int .i64 0, .int .i64 0, .int .u64 0, .int .i64 0, .int .u64 0, .slice none 0 0, .int .u32 0, .int .u32 0, .int .i64 0, .int .i64 0, .int .i64 0, .int .i64 0, .int .i64 0, .int .u64 0, .int .i64 0, .int .i64 0, .int .i64 0] 52)) (w.heap.size + 1) 52 #[.int .i64 0, .int .i64 0, .int .u64 0, .int .i64 0, .int .u64 0, .slice none 0 0, .int .u32 0, .int .u32 0, .int .i64 0, .int .i64 0, .int .i64 0, .int .i64 0, .int .i64 0, .int .u64 0, .int .i64 0, .int .i64 0, .int .i64 0] := Av.Blk.next
  have hz : ((w.alloc (.cells #[.int .i64 p.k, .int .i64 p.it, .int .i64 p.ok, .int .u64 p.ob, .int .i64 p.tk, .int .u64 p.tb, VD, VS, .int .i64 p.po, VA, VI, .int .u64 p.sd] 29)).alloc (.cells #[.int .i64 0, .int .i64 0, .int .u64 0, .int .i64 0, .int .u64 0, .slice none 0 0, .int .u32 0, .int .u32 0, .int .i64 0, .int .i64 0, .int .i64 0, .int .i64 0, .int .i64 0, .int .u64 0, .int .i64 0, .int .i64 0, .int .i64 0] 52)).heap.size = w.heap.size + 2 := by simp
  have HC : Hid (∀ X, Below w.heap.size w X → Calls Tryd.prog 74 #[VD] X fun e w' => ∃ V', e = .returned V' ∧ Row w' X.heap.size V' p.ds.length (p.ds.map (Value.int .u8)) ∧ Below X.heap.size X w') := Lib.hid fun X b => clone_b VD _ m p.ds X rfl hW.nds (hH.d.below b)
  clear hW hH
  go_enter Tryd.func52, Tryd.ntmps52
  go_upto_region 1 with (fail)
  have hs0 : w.heap.size + 2 ≤ ((w.alloc (.cells #[.int .i64 p.k, .int .i64 p.it, .int .i64 p.ok, .int .u64 p.ob, .int .i64 p.tk, .int .u64 p.tb, VD, VS, .int .i64 p.po, VA, VI, .int .u64 p.sd] 29)).alloc (.cells #[.int .i64 0, .int .i64 0, .int .u64 0, .int .i64 0, .int .u64 0, .slice none 0 0, .int .u32 0, .int .u32 0, .int .i64 0, .int .i64 0, .int .i64 0, .int .i64 0, .int .i64 0, .int .u64 0, .int .i64 0, .int .i64 0, .int .i64 0] 52)).heap.size := by rw [hz]; exact Nat.le_refl _
  clear hz
  generalize (w.alloc (.cells #[.int .i64 p.k, .int .i64 p.it, .int .i64 p.ok, .int .u64 p.ob, .int .i64 p.tk, .int .u64 p.tb, VD, VS, .int .i64 p.po, VA, VI, .int .u64 p.sd] 29)).alloc (.cells #[.int .i64 0, .int .i64 0, .int .u64 0, .int .i64 0, .int .u64 0, .slice none 0 0, .int .u32 0, .int .u32 0, .int .i64 0, .int .i64 0, .int .i64 0, .int .i64 0, .int .i64 0, .int .u64 0, .int .i64 0, .int .i64 0, .int .i64 0] 52) = W0 at *
  refine wp_region_held_drew (S := (fun w' => Blk w' (w.heap.size) 29 #[.int .i64 p.k, .int .i64 p.it, .int .i64 p.ok, .int .u64 p.ob, .int .i64 p.tk, .int .u64 p.tb, VD, VS, .int .i64 p.po, VA, VI, .int .u64 p.sd])) (by kernel_rfl) ?_ (fun hHeld => ?_)
  · exact K1
  replace K1 : Blk W0.drew (w.heap.size) 29 #[.int .i64 p.k, .int .i64 p.it, .int .i64 p.ok, .int .u64 p.ob, .int .i64 p.tk, .int .u64 p.tb, VD, VS, .int .i64 p.po, VA, VI, .int .u64 p.sd] := K1
  replace K2 : Blk W0.drew (w.heap.size + 1) 52 #[.int .i64 0, .int .i64 0, .int .u64 0, .int .i64 0, .int .u64 0, .slice none 0 0, .int .u32 0, .int .u32 0, .int .i64 0, .int .i64 0, .int .i64 0, .int .i64 0, .int .i64 0, .int .u64 0, .int .i64 0, .int .i64 0, .int .i64 0] := K2
  replace BX : Below w.heap.size w W0.drew := BX.drew
  have hs0 : w.heap.size + 2 ≤ W0.drew.heap.size := hs0
  generalize W0.drew = X0 at *
  refine wpAnyH_take (i := 0) (v := .pointer (some ⟨w.heap.size, 0, none⟩)) rfl (by kernel_rfl) (by kernel_rfl) (by kernel_rfl) (fun _ _ _ h => h) (Or.inl ⟨by first | rfl | go_simp, by intro w9 hSw; (try dsimp only at hSw); go_simp⟩) (by assumption) ?_
  simp only [List.getElem_toArray, List.getElem_cons_zero, List.getElem_cons_succ, Act.put, List.setIfInBounds_toArray, List.set_cons_zero, List.set_cons_succ]
  refine wpAnyH_take (i := 1) (v := .int .i64 p.k) rfl (by kernel_rfl) (by kernel_rfl) (by kernel_rfl) (fun _ _ _ h => h) (Or.inl ⟨by first | rfl | go_simp, by intro w9 hSw; (try dsimp only at hSw); have c9 := hSw.cell 0; clear hSw; go_simp⟩) (by assumption) ?_
  simp only [List.getElem_toArray, List.getElem_cons_zero, List.getElem_cons_succ, Act.put, List.setIfInBounds_toArray, List.set_cons_zero, List.set_cons_succ]
  refine wpAnyH_take (i := 2) (v := .pointer (some ⟨w.heap.size, 2, none⟩)) rfl (by kernel_rfl) (by kernel_rfl) (by kernel_rfl) (fun _ _ _ h => h) (Or.inl ⟨by first | rfl | go_simp, by intro w9 hSw; (try dsimp only at hSw); go_simp⟩) (by assumption) ?_
  simp only [List.getElem_toArray, List.getElem_cons_zero, List.getElem_cons_succ, Act.put, List.setIfInBounds_toArray, List.set_cons_zero, List.set_cons_succ]
  refine wpAnyH_take (i := 3) (v := .agg #[.int .i64 p.ok, .int .u64 p.ob]) rfl (by kernel_rfl) (by kernel_rfl) (by kernel_rfl) (fun _ _ _ h => h) (Av.yields_part (by first | rfl | go_simp) _ _ rfl (w.heap.size) 2 rfl #[.int .i64 p.ok, .int .u64 p.ob] _ 29 #[.int .i64 p.k, .int .i64 p.it, .int .i64 p.ok, .int .u64 p.ob, .int .i64 p.tk, .int .u64 p.tb, VD, VS, .int .i64 p.po, VA, VI, .int .u64 p.sd] (fun w9 hSw => hSw) rfl Tryd.underlying24 rfl (by kernel_rfl)) (by assumption) ?_
  simp only [List.getElem_toArray, List.getElem_cons_zero, List.getElem_cons_succ, Act.put, List.setIfInBounds_toArray, List.set_cons_zero, List.set_cons_succ]
  refine wpAnyH_take (i := 4) (v := .pointer (some ⟨w.heap.size, 4, none⟩)) rfl (by kernel_rfl) (by kernel_rfl) (by kernel_rfl) (fun _ _ _ h => h) (Or.inl ⟨by first | rfl | go_simp, by intro w9 hSw; (try dsimp only at hSw); go_simp⟩) (by assumption) ?_
  simp only [List.getElem_toArray, List.getElem_cons_zero, List.getElem_cons_succ, Act.put, List.setIfInBounds_toArray, List.set_cons_zero, List.set_cons_succ]
  refine wpAnyH_take (i := 5) (v := .agg #[.int .i64 p.tk, .int .u64 p.tb]) rfl (by kernel_rfl) (by kernel_rfl) (by kernel_rfl) (fun _ _ _ h => h) (Av.yields_part (by first | rfl | go_simp) _ _ rfl (w.heap.size) 4 rfl #[.int .i64 p.tk, .int .u64 p.tb] _ 29 #[.int .i64 p.k, .int .i64 p.it, .int .i64 p.ok, .int .u64 p.ob, .int .i64 p.tk, .int .u64 p.tb, VD, VS, .int .i64 p.po, VA, VI, .int .u64 p.sd] (fun w9 hSw => hSw) rfl Tryd.underlying24 rfl (by kernel_rfl)) (by assumption) ?_
  simp only [List.getElem_toArray, List.getElem_cons_zero, List.getElem_cons_succ, Act.put, List.setIfInBounds_toArray, List.set_cons_zero, List.set_cons_succ]
  refine wpAnyH_take (i := 6) (v := .pointer (some ⟨w.heap.size, 6, none⟩)) rfl (by kernel_rfl) (by kernel_rfl) (by kernel_rfl) (fun _ _ _ h => h) (Or.inl ⟨by first | rfl | go_simp, by intro w9 hSw; (try dsimp only at hSw); go_simp⟩) (by assumption) ?_
  simp only [List.getElem_toArray, List.getElem_cons_zero, List.getElem_cons_succ, Act.put, List.setIfInBounds_toArray, List.set_cons_zero, List.set_cons_succ]
  refine wpAnyH_take (i := 7) (v := VD) rfl (by kernel_rfl) (by kernel_rfl) (by kernel_rfl) (fun _ _ _ h => h) (Or.inl ⟨by first | rfl | go_simp, by intro w9 hSw; (try dsimp only at hSw); have c9 := hSw.cell 6; clear hSw; go_simp⟩) (by assumption) ?_
  simp only [List.getElem_toArray, List.getElem_cons_zero, List.getElem_cons_succ, Act.put, List.setIfInBounds_toArray, List.set_cons_zero, List.set_cons_succ]
  refine wpAnyH_ready (rs := [8]) (by kernel_rfl) (by simp) ?_
  refine AllReadyH.cons rfl (fun K hK => ?_) (AllReadyH.nil)
  go_simp
  refine (HC.out X0 BX).mono ?_
  rintro e X1 ⟨V1, rfl, HR, b9⟩
  have HR := HR.less hs0
  obtain ⟨A1, c1, e1, _⟩ := id HR
  subst e1
  replace K1 := K1.below b9 K1.lt
  replace K2 := K2.below b9 K2.lt
  replace BX := Base.thenB BX b9
  clear b9
  refine hK.out _ _ K1 (fun hHeld => ?_)
  clear hK K
  try simp only [List.getElem_toArray, List.getElem_cons_zero, List.getElem_cons_succ, Act.put, List.setIfInBounds_toArray, List.set_cons_zero, List.set_cons_succ]
  refine wpAnyH_take (i := 9) (v := .agg #[.int .i64 p.k, .int .i64 p.ok, .int .u64 p.ob, .int .i64 p.tk, .int .u64 p.tb, .slice A1 p.ds.length c1, .int .u32 0, .int .u32 0, .int .i64 0, .int .i64 0, .int .i64 0, .int .i64 0, .int .i64 0, .int .u64 0, .int .i64 0, .int .i64 0, .int .i64 0]) rfl (by kernel_rfl) (by kernel_rfl) (by kernel_rfl) (fun _ _ _ h => h) (Av.yields_build (by first | rfl | go_simp) _ _ rfl #[.int .i64 p.k, .int .i64 p.ok, .int .u64 p.ob, .int .i64 p.tk, .int .u64 p.tb, .slice A1 p.ds.length c1, .int .u32 0, .int .u32 0, .int .i64 0, .int .i64 0, .int .i64 0, .int .i64 0, .int .i64 0, .int .u64 0, .int .i64 0, .int .i64 0, .int .i64 0] (by kernel_rfl)) (by assumption) ?_
  simp only [List.getElem_toArray, List.getElem_cons_zero, List.getElem_cons_succ, Act.put, List.setIfInBounds_toArray, List.set_cons_zero, List.set_cons_succ]
  refine wpAnyH_ready (rs := [10]) (by kernel_rfl) (by simp) ?_
  refine AllReadyH.cons rfl (fun K hK => ?_) (AllReadyH.nil)
  have H9 : (#[.int .i64 p.k, .int .i64 p.ok, .int .u64 p.ob, .int .i64 p.tk, .int .u64 p.tb, .slice A1 p.ds.length c1, .int .u32 0, .int .u32 0, .int .i64 0, .int .i64 0, .int .i64 0, .int .i64 0, .int .i64 0, .int .u64 0, .int .i64 0, .int .i64 0, .int .i64 0] : Array Value).all (·.oneCell') = true := by rw [← Array.all_toList]; rfl
  refine Av.step_store_row rfl 52 (.tmp 2) (.tmp 12) rfl (w.heap.size + 1) #[.int .i64 p.k, .int .i64 p.ok, .int .u64 p.ob, .int .i64 p.tk, .int .u64 p.tb, .slice A1 p.ds.length c1, .int .u32 0, .int .u32 0, .int .i64 0, .int .i64 0, .int .i64 0, .int .i64 0, .int .i64 0, .int .u64 0, .int .i64 0, .int .i64 0, .int .i64 0] rfl rfl 52 _ K2 (by kernel_rfl) rfl H9 ?_
  replace K1 : Blk (X1.setRow (w.heap.size + 1) #[.int .i64 p.k, .int .i64 p.ok, .int .u64 p.ob, .int .i64 p.tk, .int .u64 p.tb, .slice A1 p.ds.length c1, .int .u32 0, .int .u32 0, .int .i64 0, .int .i64 0, .int .i64 0, .int .i64 0, .int .i64 0, .int .u64 0, .int .i64 0, .int .i64 0, .int .i64 0]) (w.heap.size) 29 #[.int .i64 p.k, .int .i64 p.it, .int .i64 p.ok, .int .u64 p.ob, .int .i64 p.tk, .int .u64 p.tb, VD, VS, .int .i64 p.po, VA, VI, .int .u64 p.sd] := Av.bother_row K1 (by omega)
  replace K2 : Blk (X1.setRow (w.heap.size + 1) #[.int .i64 p.k, .int .i64 p.ok, .int .u64 p.ob, .int .i64 p.tk, .int .u64 p.tb, .slice A1 p.ds.length c1, .int .u32 0, .int .u32 0, .int .i64 0, .int .i64 0, .int .i64 0, .int .i64 0, .int .i64 0, .int .u64 0, .int .i64 0, .int .i64 0, .int .i64 0]) (w.heap.size + 1) 52 #[.int .i64 p.k, .int .i64 p.ok, .int .u64 p.ob, .int .i64 p.tk, .int .u64 p.tb, .slice A1 p.ds.length c1, .int .u32 0, .int .u32 0, .int .i64 0, .int .i64 0, .int .i64 0, .int .i64 0, .int .i64 0, .int .u64 0, .int .i64 0, .int .i64 0, .int .i64 0] := Av.bset_row K2
  replace BX : Below w.heap.size w (X1.setRow (w.heap.size + 1) #[.int .i64 p.k, .int .i64 p.ok, .int .u64 p.ob, .int .i64 p.tk, .int .u64 p.tb, .slice A1 p.ds.length c1, .int .u32 0, .int .u32 0, .int .i64 0, .int .i64 0, .int .i64 0, .int .i64 0, .int .i64 0, .int .u64 0, .int .i64 0, .int .i64 0, .int .i64 0]) := below_setRow BX (by omega) _
  replace HR := Row.farR (cs := #[.int .i64 p.k, .int .i64 p.ok, .int .u64 p.ob, .int .i64 p.tk, .int .u64 p.tb, .slice A1 p.ds.length c1, .int .u32 0, .int .u32 0, .int .i64 0, .int .i64 0, .int .i64 0, .int .i64 0, .int .i64 0, .int .u64 0, .int .i64 0, .int .i64 0, .int .i64 0]) HR (show w.heap.size + 1 < w.heap.size + 2 by omega)
  clear H9
  generalize X1.setRow (w.heap.size + 1) #[.int .i64 p.k, .int .i64 p.ok, .int .u64 p.ob, .int .i64 p.tk, .int .u64 p.tb, .slice A1 p.ds.length c1, .int .u32 0, .int .u32 0, .int .i64 0, .int .i64 0, .int .i64 0, .int .i64 0, .int .i64 0, .int .u64 0, .int .i64 0, .int .i64 0, .int .i64 0] = X2 at *
  refine hK.out _ _ K1 (fun hHeld => ?_)
  clear hK K
  try simp only [List.getElem_toArray, List.getElem_cons_zero, List.getElem_cons_succ, Act.put, List.setIfInBounds_toArray, List.set_cons_zero, List.set_cons_succ]
  refine wpAnyH_done (by kernel_rfl) ?_ _
  go_wp2_with fail
  refine bodyPost_ret (v := .agg #[.int .i64 p.k, .int .i64 p.ok, .int .u64 p.ob, .int .i64 p.tk, .int .u64 p.tb, .slice A1 p.ds.length c1, .int .u32 0, .int .u32 0, .int .i64 0, .int .i64 0, .int .i64 0, .int .i64 0, .int .i64 0, .int .u64 0, .int .i64 0, .int .i64 0, .int .i64 0]) ?_ rfl ⟨_, rfl, HR.less (by omega), BX⟩
  have HL := run_loadVar_row (P := Tryd.prog) X2 (w.heap.size + 1) 52 52 #[.int .i64 p.k, .int .i64 p.ok, .int .u64 p.ob, .int .i64 p.tk, .int .u64 p.tb, .slice A1 p.ds.length c1, .int .u32 0, .int .u32 0, .int .i64 0, .int .i64 0, .int .i64 0, .int .i64 0, .int .i64 0, .int .u64 0, .int .i64 0, .int .i64 0, .int .i64 0] (0, 0) _ K2 Tryd.underlying52 rfl (by kernel_rfl)
  clear hHeld
  generalize (#[.int .i64 p.k, .int .i64 p.ok, .int .u64 p.ob, .int .i64 p.tk, .int .u64 p.tb, .slice A1 p.ds.length c1, .int .u32 0, .int .u32 0, .int .i64 0, .int .i64 0, .int .i64 0, .int .i64 0, .int .i64 0, .int .u64 0, .int .i64 0, .int .i64 0, .int .i64 0] : Array Value) = CS at *
  simp [results, show (Tryd.f52).results = #[.cell 2 52] from rfl, asAddr, HL]
set_option maxRecDepth 100000 in
set_option maxHeartbeats 4000000 in
theorem scanAnswer_any (p : Pm) (VD VS VA VI : Value) (m : Nat) (w : World) (hW : PW p) (hH : Has w m p VD VS VA VI) :
    Calls Tryd.prog 56 #[.agg (pcel p VD VS VA VI)] w fun e w' => PduR w w' e (ansP p) := by
  have BX : Below w.heap.size w ((w.alloc (.cells #[.int .i64 p.k, .int .i64 p.it, .int .i64 p.ok, .int .u64 p.ob, .int .i64 p.tk, .int .u64 p.tb, VD, VS, .int .i64 p.po, VA, VI, .int .u64 p.sd] 29)).alloc (.cells #[.int .i64 0, .int .i64 0, .int .u64 0, .int .i64 0, .int .u64 0, .slice none 0 0, .int .u32 0, .int .u32 0, .int .i64 0, .int .i64 0, .int .i64 0, .int .i64 0, .int .i64 0, .int .u64 0, .int .i64 0, .int .i64 0, .int .i64 0] 52)) := ((Below.refl _ _).alloc (Nat.le_refl _) _).alloc (by simp) _
  have K1 : Blk ((w.alloc (.cells #[.int .i64 p.k, .int .i64 p.it, .int .i64 p.ok, .int .u64 p.ob, .int .i64 p.tk, .int .u64 p.tb, VD, VS, .int .i64 p.po, VA, VI, .int .u64 p.sd] 29)).alloc (.cells #[.int .i64 0, .int .i64 0, .int .u64 0, .int .i64 0, .int .u64 0, .slice none 0 0, .int .u32 0, .int .u32 0, .int .i64 0, .int .i64 0, .int .i64 0, .int .i64 0, .int .i64 0, .int .u64 0, .int .i64 0, .int .i64 0, .int .i64 0] 52)) (w.heap.size) 29 #[.int .i64 p.k, .int .i64 p.it, .int .i64 p.ok, .int .u64 p.ob, .int .i64 p.tk, .int .u64 p.tb, VD, VS, .int .i64 p.po, VA, VI, .int .u64 p.sd] := (Blk.fresh w 29 #[.int .i64 p.k, .int .i64 p.it, .int .i64 p.ok, .int .u64 p.ob, .int .i64 p.tk, .int .u64 p.tb, VD, VS, .int .i64 p.po, VA, VI, .int .u64 p.sd]).alloc _
  have K2 : Blk ((w.alloc (.cells #[.int .i64 p.k, .int .i64 p.it, .int .i64 p.ok, .int .u64 p.ob, .int .i64 p.tk, .int .u64 p.tb, VD, VS, .int .i64 p.po, VA, VI, .int .u64 p.sd] 29)).alloc (.cells #[.int .i64 0, .int .i64 0, .int .u64 0, .int .i64 0, .int .u64 0, .slice none 0 0, .int .u32 0, .int .u32 0, .int .i64 0, .int .i64 0, .int .i64 0, .int .i64 0, .int .i64 0, .int .u64 0, .int .i64 0, .int .i64 0, .int .i64 0] 52)) (w.heap.size + 1) 52 #[.int .i64 0, .int .i64 0, .int .u64 0, .int .i64 0, .int .u64 0, .slice none 0 0, .int .u32 0, .int .u32 0, .int .i64 0, .int .i64 0, .int .i64 0, .int .i64 0, .int .i64 0, .int .u64 0, .int .i64 0, .int .i64 0, .int .i64 0] := Av.Blk.next
  have hz : ((w.alloc (.cells #[.int .i64 p.k, .int .i64 p.it, .int .i64 p.ok, .int .u64 p.ob, .int .i64 p.tk, .int .u64 p.tb, VD, VS, .int .i64 p.po, VA, VI, .int .u64 p.sd] 29)).alloc (.cells #[.int .i64 0, .int .i64 0, .int .u64 0, .int .i64 0, .int .u64 0, .slice none 0 0, .int .u32 0, .int .u32 0, .int .i64 0, .int .i64 0, .int .i64 0, .int .i64 0, .int .i64 0, .int .u64 0, .int .i64 0, .int .i64 0, .int .i64 0] 52)).heap.size = w.heap.size + 2 := by simp
  have HC : Hid (∀ X, Below w.heap.size w X → Calls Tryd.prog 74 #[VS] X fun e w' => ∃ V', e = .returned V' ∧ Row w' X.heap.size V' p.sc.length (p.sc.map (Value.int .u8)) ∧ Below X.heap.size X w') := Lib.hid fun X b => clone_b VS _ m p.sc X rfl hW.nsc (hH.s.below b)
  clear hW hH
  go_enter Tryd.func56, Tryd.ntmps56
  go_upto_region 1 with (fail)
  have hs0 : w.heap.size + 2 ≤ ((w.alloc (.cells #[.int .i64 p.k, .int .i64 p.it, .int .i64 p.ok, .int .u64 p.ob, .int .i64 p.tk, .int .u64 p.tb, VD, VS, .int .i64 p.po, VA, VI, .int .u64 p.sd] 29)).alloc (.cells #[.int .i64 0, .int .i64 0, .int .u64 0, .int .i64 0, .int .u64 0, .slice none 0 0, .int .u32 0, .int .u32 0, .int .i64 0, .int .i64 0, .int .i64 0, .int .i64 0, .int .i64 0, .int .u64 0, .int .i64 0, .int .i64 0, .int .i64 0] 52)).heap.size := by rw [hz]; exact Nat.le_refl _
  clear hz
  generalize (w.alloc (.cells #[.int .i64 p.k, .int .i64 p.it, .int .i64 p.ok, .int .u64 p.ob, .int .i64 p.tk, .int .u64 p.tb, VD, VS, .int .i64 p.po, VA, VI, .int .u64 p.sd] 29)).alloc (.cells #[.int .i64 0, .int .i64 0, .int .u64 0, .int .i64 0, .int .u64 0, .slice none 0 0, .int .u32 0, .int .u32 0, .int .i64 0, .int .i64 0, .int .i64 0, .int .i64 0, .int .i64 0, .int .u64 0, .int .i64 0, .int .i64 0, .int .i64 0] 52) = W0 at *
  refine wp_region_held_drew (S := (fun w' => Blk w' (w.heap.size) 29 #[.int .i64 p.k, .int .i64 p.it, .int .i64 p.ok, .int .u64 p.ob, .int .i64 p.tk, .int .u64 p.tb, VD, VS, .int .i64 p.po, VA, VI, .int .u64 p.sd])) (by kernel_rfl) ?_ (fun hHeld => ?_)
  · exact K1
  replace K1 : Blk W0.drew (w.heap.size) 29 #[.int .i64 p.k, .int .i64 p.it, .int .i64 p.ok, .int .u64 p.ob, .int .i64 p.tk, .int .u64 p.tb, VD, VS, .int .i64 p.po, VA, VI, .int .u64 p.sd] := K1
  replace K2 : Blk W0.drew (w.heap.size + 1) 52 #[.int .i64 0, .int .i64 0, .int .u64 0, .int .i64 0, .int .u64 0, .slice none 0 0, .int .u32 0, .int .u32 0, .int .i64 0, .int .i64 0, .int .i64 0, .int .i64 0, .int .i64 0, .int .u64 0, .int .i64 0, .int .i64 0, .int .i64 0] := K2
  replace BX : Below w.heap.size w W0.drew := BX.drew
  have hs0 : w.heap.size + 2 ≤ W0.drew.heap.size := hs0
  generalize W0.drew = X0 at *
  refine wpAnyH_take (i := 0) (v := .pointer (some ⟨w.heap.size, 2, none⟩)) rfl (by kernel_rfl) (by kernel_rfl) (by kernel_rfl) (fun _ _ _ h => h) (Or.inl ⟨by first | rfl | go_simp, by intro w9 hSw; (try dsimp only at hSw); go_simp⟩) (by assumption) ?_
  simp only [List.getElem_toArray, List.getElem_cons_zero, List.getElem_cons_succ, Act.put, List.setIfInBounds_toArray, List.set_cons_zero, List.set_cons_succ]
  refine wpAnyH_take (i := 1) (v := .agg #[.int .i64 p.ok, .int .u64 p.ob]) rfl (by kernel_rfl) (by kernel_rfl) (by kernel_rfl) (fun _ _ _ h => h) (Av.yields_part (by first | rfl | go_simp) _ _ rfl (w.heap.size) 2 rfl #[.int .i64 p.ok, .int .u64 p.ob] _ 29 #[.int .i64 p.k, .int .i64 p.it, .int .i64 p.ok, .int .u64 p.ob, .int .i64 p.tk, .int .u64 p.tb, VD, VS, .int .i64 p.po, VA, VI, .int .u64 p.sd] (fun w9 hSw => hSw) rfl Tryd.underlying24 rfl (by kernel_rfl)) (by assumption) ?_
  simp only [List.getElem_toArray, List.getElem_cons_zero, List.getElem_cons_succ, Act.put, List.setIfInBounds_toArray, List.set_cons_zero, List.set_cons_succ]
  refine wpAnyH_take (i := 2) (v := .pointer (some ⟨w.heap.size, 7, none⟩)) rfl (by kernel_rfl) (by kernel_rfl) (by kernel_rfl) (fun _ _ _ h => h) (Or.inl ⟨by first | rfl | go_simp, by intro w9 hSw; (try dsimp only at hSw); go_simp⟩) (by assumption) ?_
  simp only [List.getElem_toArray, List.getElem_cons_zero, List.getElem_cons_succ, Act.put, List.setIfInBounds_toArray, List.set_cons_zero, List.set_cons_succ]
  refine wpAnyH_take (i := 3) (v := VS) rfl (by kernel_rfl) (by kernel_rfl) (by kernel_rfl) (fun _ _ _ h => h) (Or.inl ⟨by first | rfl | go_simp, by intro w9 hSw; (try dsimp only at hSw); have c9 := hSw.cell 7; clear hSw; go_simp⟩) (by assumption) ?_
  simp only [List.getElem_toArray, List.getElem_cons_zero, List.getElem_cons_succ, Act.put, List.setIfInBounds_toArray, List.set_cons_zero, List.set_cons_succ]
  refine wpAnyH_ready (rs := [4]) (by kernel_rfl) (by simp) ?_
  refine AllReadyH.cons rfl (fun K hK => ?_) (AllReadyH.nil)
  go_simp
  refine (HC.out X0 BX).mono ?_
  rintro e X1 ⟨V1, rfl, HR, b9⟩
  have HR := HR.less hs0
  obtain ⟨A1, c1, e1, _⟩ := id HR
  subst e1
  replace K1 := K1.below b9 K1.lt
  replace K2 := K2.below b9 K2.lt
  replace BX := Base.thenB BX b9
  clear b9
  refine hK.out _ _ K1 (fun hHeld => ?_)
  clear hK K
  try simp only [List.getElem_toArray, List.getElem_cons_zero, List.getElem_cons_succ, Act.put, List.setIfInBounds_toArray, List.set_cons_zero, List.set_cons_succ]
  refine wpAnyH_take (i := 5) (v := .agg #[.int .i64 4, .int .i64 p.ok, .int .u64 p.ob, .int .i64 0, .int .u64 0, .slice A1 p.sc.length c1, .int .u32 0, .int .u32 0, .int .i64 0, .int .i64 0, .int .i64 0, .int .i64 0, .int .i64 0, .int .u64 0, .int .i64 0, .int .i64 0, .int .i64 0]) rfl (by kernel_rfl) (by kernel_rfl) (by kernel_rfl) (fun _ _ _ h => h) (Av.yields_build (by first | rfl | go_simp) _ _ rfl #[.int .i64 4, .int .i64 p.ok, .int .u64 p.ob, .int .i64 0, .int .u64 0, .slice A1 p.sc.length c1, .int .u32 0, .int .u32 0, .int .i64 0, .int .i64 0, .int .i64 0, .int .i64 0, .int .i64 0, .int .u64 0, .int .i64 0, .int .i64 0, .int .i64 0] (by kernel_rfl)) (by assumption) ?_
  simp only [List.getElem_toArray, List.getElem_cons_zero, List.getElem_cons_succ, Act.put, List.setIfInBounds_toArray, List.set_cons_zero, List.set_cons_succ]
  refine wpAnyH_ready (rs := [6]) (by kernel_rfl) (by simp) ?_
  refine AllReadyH.cons rfl (fun K hK => ?_) (AllReadyH.nil)
  have H9 : (#[.int .i64 4, .int .i64 p.ok, .int .u64 p.ob, .int .i64 0, .int .u64 0, .slice A1 p.sc.length c1, .int .u32 0, .int .u32 0, .int .i64 0, .int .i64 0, .int .i64 0, .int .i64 0, .int .i64 0, .int .u64 0, .int .i64 0, .int .i64 0, .int .i64 0] : Array Value).all (·.oneCell') = true := by rw [← Array.all_toList]; rfl
  refine Av.step_store_row rfl 52 (.tmp 2) (.tmp 8) rfl (w.heap.size + 1) #[.int .i64 4, .int .i64 p.ok, .int .u64 p.ob, .int .i64 0, .int .u64 0, .slice A1 p.sc.length c1, .int .u32 0, .int .u32 0, .int .i64 0, .int .i64 0, .int .i64 0, .int .i64 0, .int .i64 0, .int .u64 0, .int .i64 0, .int .i64 0, .int .i64 0] rfl rfl 52 _ K2 (by kernel_rfl) rfl H9 ?_
  replace K1 : Blk (X1.setRow (w.heap.size + 1) #[.int .i64 4, .int .i64 p.ok, .int .u64 p.ob, .int .i64 0, .int .u64 0, .slice A1 p.sc.length c1, .int .u32 0, .int .u32 0, .int .i64 0, .int .i64 0, .int .i64 0, .int .i64 0, .int .i64 0, .int .u64 0, .int .i64 0, .int .i64 0, .int .i64 0]) (w.heap.size) 29 #[.int .i64 p.k, .int .i64 p.it, .int .i64 p.ok, .int .u64 p.ob, .int .i64 p.tk, .int .u64 p.tb, VD, VS, .int .i64 p.po, VA, VI, .int .u64 p.sd] := Av.bother_row K1 (by omega)
  replace K2 : Blk (X1.setRow (w.heap.size + 1) #[.int .i64 4, .int .i64 p.ok, .int .u64 p.ob, .int .i64 0, .int .u64 0, .slice A1 p.sc.length c1, .int .u32 0, .int .u32 0, .int .i64 0, .int .i64 0, .int .i64 0, .int .i64 0, .int .i64 0, .int .u64 0, .int .i64 0, .int .i64 0, .int .i64 0]) (w.heap.size + 1) 52 #[.int .i64 4, .int .i64 p.ok, .int .u64 p.ob, .int .i64 0, .int .u64 0, .slice A1 p.sc.length c1, .int .u32 0, .int .u32 0, .int .i64 0, .int .i64 0, .int .i64 0, .int .i64 0, .int .i64 0, .int .u64 0, .int .i64 0, .int .i64 0, .int .i64 0] := Av.bset_row K2
  replace BX : Below w.heap.size w (X1.setRow (w.heap.size + 1) #[.int .i64 4, .int .i64 p.ok, .int .u64 p.ob, .int .i64 0, .int .u64 0, .slice A1 p.sc.length c1, .int .u32 0, .int .u32 0, .int .i64 0, .int .i64 0, .int .i64 0, .int .i64 0, .int .i64 0, .int .u64 0, .int .i64 0, .int .i64 0, .int .i64 0]) := below_setRow BX (by omega) _
  replace HR := Row.farR (cs := #[.int .i64 4, .int .i64 p.ok, .int .u64 p.ob, .int .i64 0, .int .u64 0, .slice A1 p.sc.length c1, .int .u32 0, .int .u32 0, .int .i64 0, .int .i64 0, .int .i64 0, .int .i64 0, .int .i64 0, .int .u64 0, .int .i64 0, .int .i64 0, .int .i64 0]) HR (show w.heap.size + 1 < w.heap.size + 2 by omega)
  clear H9
  generalize X1.setRow (w.heap.size + 1) #[.int .i64 4, .int .i64 p.ok, .int .u64 p.ob, .int .i64 0, .int .u64 0, .slice A1 p.sc.length c1, .int .u32 0, .int .u32 0, .int .i64 0, .int .i64 0, .int .i64 0, .int .i64 0, .int .i64 0, .int .u64 0, .int .i64 0, .int .i64 0, .int .i64 0] = X2 at *
  refine hK.out _ _ K1 (fun hHeld => ?_)
  clear hK K
  try simp only [List.getElem_toArray, List.getElem_cons_zero, List.getElem_cons_succ, Act.put, List.setIfInBounds_toArray, List.set_cons_zero, List.set_cons_succ]
  refine wpAnyH_done (by kernel_rfl) ?_ _
  go_wp2_with fail
  refine bodyPost_ret (v := .agg #[.int .i64 4, .int .i64 p.ok, .int .u64 p.ob, .int .i64 0, .int .u64 0, .slice A1 p.sc.length c1, .int .u32 0, .int .u32 0, .int .i64 0, .int .i64 0, .int .i64 0, .int .i64 0, .int .i64 0, .int .u64 0, .int .i64 0, .int .i64 0, .int .i64 0]) ?_ rfl ⟨_, rfl, HR.less (by omega), BX⟩
  have HL := run_loadVar_row (P := Tryd.prog) X2 (w.heap.size + 1) 52 52 #[.int .i64 4, .int .i64 p.ok, .int .u64 p.ob, .int .i64 0, .int .u64 0, .slice A1 p.sc.length c1, .int .u32 0, .int .u32 0, .int .i64 0, .int .i64 0, .int .i64 0, .int .i64 0, .int .i64 0, .int .u64 0, .int .i64 0, .int .i64 0, .int .i64 0] (0, 0) _ K2 Tryd.underlying52 rfl (by kernel_rfl)
  clear hHeld
  generalize (#[.int .i64 4, .int .i64 p.ok, .int .u64 p.ob, .int .i64 0, .int .u64 0, .slice A1 p.sc.length c1, .int .u32 0, .int .u32 0, .int .i64 0, .int .i64 0, .int .i64 0, .int .i64 0, .int .i64 0, .int .u64 0, .int .i64 0, .int .i64 0, .int .i64 0] : Array Value) = CS at *
  simp [results, show (Tryd.f56).results = #[.cell 2 52] from rfl, asAddr, HL]
end Go.Proofs.YtcbliliinmfnjaaDoor.Av

end
