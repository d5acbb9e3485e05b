/- A struct is stored into the middle of a block that is known; two sides in memory. No function is mentioned. -/
import Derived.Test.YtbnfjielnamepaaArqTake
import Derived.Laws.CopyRow
set_option linter.unusedVariables false
set_option linter.unusedSimpArgs false
namespace Go.Proofs.Ytbnfjielnamepaa.Arq
open Go.RowKit Mem Oct Rw Av Dp

theorem run_storeVar_part {P : Program} (w : World) (g off : Nat) (t ty : TypeId) (old vs new : Array Value) (hg : w.heap[g]? = some (.cells old t (0, 0))) (hi : (P.info? ty).map (·.size) = some vs.size)
    (hl : off + vs.size ≤ old.size) (h1 : vs.all (·.oneCell') = true) (hn : (old.toList.take off ++ vs.toList ++ old.toList.drop (off + vs.size)).toArray = new) :
    (storeVar ty ⟨g, off, none⟩ (.agg vs)).run P w = .ok () (w.setRow g new) := by
  have := run_storeCells_at (P := P) g off t vs.toList 0 old w hg (by simpa using hl) (fun v hv => (Array.all_eq_true_iff_forall_mem.1 h1) v (by simpa using hv))
  simp only [Nat.add_zero, Array.length_toList] at this
  rw [hn] at this
  cases hq : P.info? ty with
  | none => simp [hq] at hi
  | some i =>
    have hs : vs.size = i.size := by simp [hq] at hi; omega
    simp [storeVar, sizeOf, typeInfo, hq, Value.cells, hs, this]
theorem wp_store_part {P : Program} {o : Oper} {a : Act} {w : World} {K : Act → World → Prop} {Q : Exit → Act → World → Prop} (ty : TypeId) (x y : Operand) (ho : o.op = .store ty x y)
    (g off : Nat) (vs : Array Value) (hx : a.eval x = .pointer (some ⟨g, off, none⟩)) (hy : a.eval y = .agg vs)
    (t : TypeId) (old new : Array Value) (hg : w.heap[g]? = some (.cells old t (0, 0))) (hi : (P.info? ty).map (·.size) = some vs.size)
    (hl : off + vs.size ≤ old.size) (h1 : vs.all (·.oneCell') = true) (hn : (old.toList.take off ++ vs.toList ++ old.toList.drop (off + vs.size)).toArray = new)
    (h : K (a.put o.dst undef) (w.setRow g new)) : o.wp P a w K Q := by
  unfold Oper.wp execOp
  simp only [ho, hx, hy, Instr.storeAt, Instr.sureAddr, Sem.run_bind, Sem.run_pure, Result.andThen_ok, run_storeVar_part w g off t ty old vs new hg hi hl h1 hn]
  exact h
theorem wpList_store_part {P : Program} {ops : Array Oper} {rest : List Oper} {o : Oper} {a : Act} {w : World} {Q : Exit → Act → World → Prop} (hgd : o.guard = none) (ty : TypeId) (x y : Operand) (ho : o.op = .store ty x y)
    (g off : Nat) (vs : Array Value) (hx : a.eval x = .pointer (some ⟨g, off, none⟩)) (hy : a.eval y = .agg vs)
    (t : TypeId) (old new : Array Value) (hg : w.heap[g]? = some (.cells old t (0, 0))) (hi : (P.info? ty).map (·.size) = some vs.size)
    (hl : off + vs.size ≤ old.size) (h1 : vs.all (·.oneCell') = true) (hn : (old.toList.take off ++ vs.toList ++ old.toList.drop (off + vs.size)).toArray = new)
    (h : wpList P ops Q rest (a.put o.dst undef) (w.setRow g new)) : wpList P ops Q (o :: rest) a w :=
  wpList_plain hgd fun _ hK => wp_store_part ty x y ho g off vs hx hy t old new hg hi hl h1 hn (hK _ _ h)

section
variable {w w' : World} {m o g : Nat} {V V0 V1 V2 V3 V4 V5 : Value} {l0 l1 l2 l3 l4 l5 : List Pm}
end

theorem grow_blk_ne {w w' : World} {b : Nat} {t : TypeId} {cs : Array Value} {V : Value} (h : Blk w b t cs) (hn : V.ownBlock ≠ some b) (hg : w.grownBy w' V.ownBlock) : Blk w' b t cs := by
  have hl := Blk.lt h
  unfold Blk at h ⊢
  rw [hg.block b hl (fun e => hn e.symm)]; exact h

structure EnAt (w : World) (m : Nat) (x : En) (V0 V1 V2 V3 V4 V5 : Value) (l0 l1 l2 l3 l4 l5 : List Pm) : Prop where
  all : All w m m V0 V1 V2 V3 V4 V5 l0 l1 l2 l3 l4 l5
  e0 : l0.map Pm.p = x.a.q
  e1 : l1.map Pm.p = x.b.q
  e2 : l2.map Pm.p = x.qa
  e3 : l3.map Pm.p = x.qb
  e4 : l4.map Pm.p = x.ga
  e5 : l5.map Pm.p = x.gb
theorem qq_one {w : World} {m o : Nat} {V : Value} {l : List Pm} (h : QQ w m o V l) : V.oneCell' = true := by
  obtain ⟨⟨A, c, rfl, _⟩, _⟩ := h; rfl
end Go.Proofs.Ytbnfjielnamepaa.Arq
