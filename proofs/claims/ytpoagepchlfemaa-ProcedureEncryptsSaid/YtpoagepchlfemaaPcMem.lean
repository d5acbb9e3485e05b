/- The state of the control procedures in memory, and a side during a call: what stays when memory changes; loads and stores of known blocks. No function is mentioned. -/
import Derived.Test.YtpoagepchlfemaaCpChk
import Derived.Test.YtpoagepchlfemaaCpIns
import Derived.Test.YtpoagepchlfemaaAvRow
import Derived.Test.YtpoagepchlfemaaAirOwn0
set_option linter.unusedVariables false
set_option linter.unusedSimpArgs false
namespace Go.Proofs.Ytpoagepchlfemaa.Pc
open Go.RowKit Mem Rw Cp
open Base (thenB)

/-- A state. -/
structure Pr where
  r : Int
  o : Int
  s : Int
  V1 : Value
  q : Int
  t : Int
  V2 : Value
  td : Bool
  f : Int
  c : Int
  kn : Bool
  vt : Bool
  v : Int
  l : Int
  m : Int
  sa : Int
  pe : Int
  mr : Int
  cr : Int
  en : Int
def prC (x : Pr) : Array Value := #[.int .i64 x.r, .int .i64 x.o, .int .i64 x.s, x.V1, .int .i64 x.q, .int .i64 x.t, x.V2, .bool x.td, .int .u64 x.f, .int .u64 x.c, .bool x.kn, .bool x.vt, .int .i64 x.v, .int .i64 x.l, .int .i64 x.m, .int .u64 x.sa, .int .u64 x.pe, .int .u64 x.mr, .int .i64 x.cr, .int .i64 x.en]
/-- A side: a state, an event, a time, what is queued, what is reported. -/
def sdC (x : Pr) (ev now : Int) (Q R : Value) : Array Value := #[.int .i64 x.r, .int .i64 x.o, .int .i64 x.s, x.V1, .int .i64 x.q, .int .i64 x.t, x.V2, .bool x.td, .int .u64 x.f, .int .u64 x.c, .bool x.kn, .bool x.vt, .int .i64 x.v, .int .i64 x.l, .int .i64 x.m, .int .u64 x.sa, .int .u64 x.pe, .int .u64 x.mr, .int .i64 x.cr, .int .i64 x.en, .int .u16 ev, .int .i64 now, Q, R]
def nilV : Value := .slice none 0 0
/-- An indication of a kind with a number. -/
def inC (k n : Int) : List Value := [.int .i64 k, .int .u16 0, .int .i64 0, .slice none 0 0, .int .i64 0, .int .u16 0, .int .i64 0, .int .i64 0, .int .i64 0, .int .i64 0, .int .i64 0, .int .u64 0, .int .u64 n, .int .i64 0, .int .i64 0, .int .i64 0, .int .i64 0, .int .i64 0]
def ctL (c : Ct) : List Value := (encC c).toList
theorem ctL_one (c : Ct) : ∀ u ∈ ctL c, u.oneCell' = true := by rw [← List.all_eq_true]; rfl
theorem inC_one (k n : Int) : ∀ u ∈ inC k n, u.oneCell' = true := by rw [← List.all_eq_true]; rfl
theorem info_ct : (Try.prog.info? 57).map (fun i => (i.zero, i.size, i.bytes)) = some (some (.agg (encC zeroC)), 15, 120) := by kernel_rfl
theorem info_in : (Try.prog.info? 66).map (fun i => (i.zero, i.size, i.bytes)) = some (some (.agg (inC 0 0).toArray), 18, 160) := by kernel_rfl

/-! ### Only block g changes -/
structure Grw (g : Nat) (w w' : World) : Prop where
  gr : w.grownBy w' (some g)
section
variable {g : Nat} {w w' w'' : World}
theorem Grw.refl (g : Nat) (w : World) : Grw g w w := ⟨World.grownBy.refl w _⟩
theorem Grw.trans (h : Grw g w w') (k : Grw g w' w'') : Grw g w w'' := ⟨⟨k.gr.os.trans h.gr.os, k.gr.tape.trans h.gr.tape, k.gr.output.trans h.gr.output, Nat.le_trans h.gr.size k.gr.size, fun i hi hn => (k.gr.block i (Nat.lt_of_lt_of_le hi h.gr.size) hn).trans (h.gr.block i hi hn)⟩⟩
theorem Grw.of_below (h : Below w.heap.size w w') : Grw g w w' := ⟨⟨h.os, h.tape, h.output, h.size, fun i hi _ => h.block i hi⟩⟩
theorem Grw.thenB (h : Grw g w w') (k : Below w'.heap.size w' w'') : Grw g w w'' := h.trans (Grw.of_below k)
theorem Grw.drew (h : Grw g w w') : Grw g w w'.drew := h.trans (Grw.of_below ((Below.refl _ _).drew))
theorem Grw.alloc (h : Grw g w w') (o : Obj) : Grw g w (w'.alloc o) := h.thenB ((Below.refl _ _).alloc (Nat.le_refl _) o)
theorem Grw.setCell {p : Addr} (h : Grw g w w') (hp : p.block < g + 1 ∧ g < p.block + 1) (x : Value) : Grw g w (w'.setCell p x) :=
  h.trans ⟨⟨rfl, rfl, rfl, by simp, fun k _ hk => Below.heap_setCell w' p x k (fun e => hk (by rw [e]; congr 1; omega))⟩⟩
theorem Grw.size (h : Grw g w w') : w.heap.size ≤ w'.heap.size := h.gr.size
theorem Grw.below {B : Nat} (h : Grw g w w') (hg : B ≤ g) (hB : B ≤ w.heap.size) : Below B w w' := ⟨h.gr.os, h.gr.tape, h.gr.output, h.gr.size, fun i hi => h.gr.block i (by omega) (by simp; omega)⟩
theorem Grw.blk {b : Nat} {t : TypeId} {cs : Array Value} (h : Grw g w w') (K : Blk w b t cs) (hne : b ≠ g) : Blk w' b t cs := by
  have hl := K.lt
  unfold Blk at *
  rw [h.gr.block b hl (by simpa using hne)]; exact K
/-- What was new before a call is left by what changes g, or is newer. -/
theorem Grw.row {m n : Nat} {V : Value} {ys : List Value} (h : Grw g w w') (r : Av.Row w m V n ys) (hg : g < m) : Av.Row w' m V n ys := by
  refine r.keep h.gr.size fun b i hm hl => ?_
  have e := h.gr.block b hl (by simp; omega)
  unfold World.cell?
  simp [e]
theorem of_new {m n c base : Nat} {A : Option Addr} {ys : List Value} (h : NewAt w base A ys) (hc : n ≤ c) (hb : m ≤ base) : Av.Row w m (.slice A n c) n ys := by
  refine ⟨A, c, rfl, hc, ?_⟩
  rcases h with h | ⟨g, e, hbg, hl, hq⟩
  · exact .inl h
  · exact .inr ⟨g, 0, e, by omega, hl, fun q u hu => by simpa using hq q u hu⟩
end
/-! ### Loads and stores -/
section
variable {P : Program} {ops : Array Oper} {rest : List Oper} {o : Oper} {a : Act} {w : World} {Q : Exit → Act → World → Prop}
theorem wpList_load_row_w (hw : Region.wanted o (yielded ops a.tmps) = true) (ty : TypeId) (x : Operand) (ho : o.op = .load ty x)
    (g : Nat) (hx : a.eval x = .pointer (some ⟨g, 0, none⟩)) (t : TypeId) (cs : Array Value) (fr : Nat × Nat) (d : TypeDesc) (hg : w.heap[g]? = some (.cells cs t fr))
    (hu : P.underlying ty = some d) (hd : (match d with | .struct _ | .array _ _ => true | _ => false) = true) (hi : (P.info? ty).map (·.size) = some cs.size)
    (h : wpList P ops Q rest (a.put o.dst (.agg cs)) w) : wpList P ops Q (o :: rest) a w :=
  BigFrame.wpList_want hw fun K hK => wp_load_row ty x ho g hx t cs fr d hg hu hd hi (hK _ _ h)
/-- A part of a known block. -/
theorem wpList_load_part_w (hw : Region.wanted o (yielded ops a.tmps) = true) (ty : TypeId) (x : Operand) (ho : o.op = .load ty x)
    (g off : Nat) (hx : a.eval x = .pointer (some ⟨g, off, none⟩)) (t : TypeId) (cs vs : Array Value) (fr : Nat × Nat) (d : TypeDesc) (hg : w.heap[g]? = some (.cells cs t fr)) (hv : (cs.toList.drop off).take vs.size = vs.toList)
    (hu : P.underlying ty = some d) (hd : (match d with | .struct _ | .array _ _ => true | _ => false) = true) (hi : (P.info? ty).map (·.size) = some vs.size)
    (h : wpList P ops Q rest (a.put o.dst (.agg vs)) w) : wpList P ops Q (o :: rest) a w :=
  BigFrame.wpList_want hw fun K hK => by
    unfold Oper.wp execOp
    simp only [ho, hx, Instr.loadAt, Instr.sureAddr, Sem.run_bind, Sem.run_pure, Result.andThen_ok, Av.run_loadVar_part w g off t ty cs vs fr d hg hv hu hd hi]
    exact hK _ _ h
/-- A store of one cell into a known block. -/
theorem wpList_set (hgd : o.guard = none) (ty : TypeId) (x y : Operand) (ho : o.op = .store ty x y)
    (g i : Nat) (v : Value) (hx : a.eval x = .pointer (some ⟨g, i, none⟩)) (hy : a.eval y = v) (t : TypeId) (cs : Array Value) (K : Blk w g t cs) (hi : i < cs.size) (hs : (P.info? ty).map (·.size) = some 1) (h1 : v.oneCell' = true)
    (cs' : Array Value) (hc : cs.setIfInBounds i v = cs')
    (h : ∀ w', Blk w' g t cs' → Grw g w w' → wpList P ops Q rest (a.put o.dst undef) w') : wpList P ops Q (o :: rest) a w :=
  Av.wpList_store_cell hgd ty x y ho g i v hx hy t cs K hi hs h1 (h _ (Av.bset K i v hc) ((Grw.refl g w).setCell (p := ⟨g, i, none⟩) ⟨by simp, by simp⟩ v))
/-- A store of a whole block. -/
theorem wpList_setR (hgd : o.guard = none) (ty : TypeId) (x y : Operand) (ho : o.op = .store ty x y)
    (g : Nat) (cells : Array Value) (hx : a.eval x = .pointer (some ⟨g, 0, none⟩)) (hy : a.eval y = .agg cells) (t : TypeId) (old : Array Value) (K : Blk w g t old) (hi : (P.info? ty).map (·.size) = some cells.size) (hold : old.size = cells.size) (h1 : cells.all (·.oneCell') = true)
    (h : ∀ w', Blk w' g t cells → Grw g w w' → wpList P ops Q rest (a.put o.dst undef) w') : wpList P ops Q (o :: rest) a w :=
  wpList_store_row hgd ty x y ho g cells hx hy t old K hi hold h1 (h _ (setRow_heap w g _ cells t (0, 0) K) ⟨⟨rfl, rfl, rfl, by rw [size_setRow]; exact Nat.le_refl _, fun k _ hk => setRow_other w g k cells (fun e => hk (by rw [e]))⟩⟩)
end
end Go.Proofs.Ytpoagepchlfemaa.Pc
