/- A struct is stored into the middle of a block that is known; two sides in memory. No function is mentioned. -/
import Derived.Test.YtbnfjielnamepaaArqTake
import Derived.Laws.CopyRow
set_option linter.unusedVariables false
set_option linter.unusedSimpArgs false
namespace Go.Proofs.Ytbnfjielnamepaa.Arq
open Go.RowKit Mem Oct Rw Av Dp

theorem run_storeVar_part {P : Program} (w : World) (g off : Nat) (t ty : TypeId) (old vs new : Array Value) (hg : w.heap[g]? = some (.cells old t (0, 0))) (hi : (P.info? ty).map (·.size) = some vs.size)
    (hl : off + vs.size ≤ old.size) (h1 : vs.all (·.oneCell') = true) (hn : (old.toList.take off ++ vs.toList ++ old.toList.drop (off + vs.size)).toArray = new) :
    (storeVar ty ⟨g, off, none⟩ (.agg vs)).run P w = .ok () (w.setRow g new) := by
  have := run_storeCells_at (P := P) g off t vs.toList 0 old w hg (by simpa using hl) (fun v hv => (Array.all_eq_true_iff_forall_mem.1 h1) v (by simpa using hv))
  simp only [Nat.add_zero, Array.length_toList] at this
  rw [hn] at this
  cases hq : P.info? ty with
  | none => simp [hq] at hi
  | some i =>
    have hs : vs.size = i.size := by simp [hq] at hi; omega
    simp [storeVar, sizeOf, typeInfo, hq, Value.cells, hs, this]
theorem wp_store_part {P : Program} {o : Oper} {a : Act} {w : World} {K : Act → World → Prop} {Q : Exit → Act → World → Prop} (ty : TypeId) (x y : Operand) (ho : o.op = .store ty x y)
    (g off : Nat) (vs : Array Value) (hx : a.eval x = .pointer (some ⟨g, off, none⟩)) (hy : a.eval y = .agg vs)
    (t : TypeId) (old new : Array Value) (hg : w.heap[g]? = some (.cells old t (0, 0))) (hi : (P.info? ty).map (·.size) = some vs.size)
    (hl : off + vs.size ≤ old.size) (h1 : vs.all (·.oneCell') = true) (hn : (old.toList.take off ++ vs.toList ++ old.toList.drop (off + vs.size)).toArray = new)
    (h : K (a.put o.dst undef) (w.setRow g new)) : o.wp P a w K Q := by
  unfold Oper.wp execOp
  simp only [ho, hx, hy, Instr.storeAt, Instr.sureAddr, Sem.run_bind, Sem.run_pure, Result.andThen_ok, run_storeVar_part w g off t ty old vs new hg hi hl h1 hn]
  exact h
theorem wpList_store_part {P : Program} {ops : Array Oper} {rest : List Oper} {o : Oper} {a : Act} {w : World} {Q : Exit → Act → World → Prop} (hgd : o.guard = none) (ty : TypeId) (x y : Operand) (ho : o.op = .store ty x y)
    (g off : Nat) (vs : Array Value) (hx : a.eval x = .pointer (some ⟨g, off, none⟩)) (hy : a.eval y = .agg vs)
    (t : TypeId) (old new : Array Value) (hg : w.heap[g]? = some (.cells old t (0, 0))) (hi : (P.info? ty).map (·.size) = some vs.size)
    (hl : off + vs.size ≤ old.size) (h1 : vs.all (·.oneCell') = true) (hn : (old.toList.take off ++ vs.toList ++ old.toList.drop (off + vs.size)).toArray = new)
    (h : wpList P ops Q rest (a.put o.dst undef) (w.setRow g new)) : wpList P ops Q (o :: rest) a w :=
  wpList_plain hgd fun _ hK => wp_store_part ty x y ho g off vs hx hy t old new hg hi hl h1 hn (hK _ _ h)

/-- A block that none of the queues and rows lies in. -/
structure Nin (g : Nat) (V0 V1 V2 V3 V4 V5 : Value) : Prop where
  h0 : V0.ownBlock ≠ some g
  h1 : V1.ownBlock ≠ some g
  h2 : V2.ownBlock ≠ some g
  h3 : V3.ownBlock ≠ some g
  h4 : V4.ownBlock ≠ some g
  h5 : V5.ownBlock ≠ some g
section
variable {w w' : World} {m o g : Nat} {V V0 V1 V2 V3 V4 V5 : Value} {l0 l1 l2 l3 l4 l5 : List Pm}
theorem All.nin (h : All w m o V0 V1 V2 V3 V4 V5 l0 l1 l2 l3 l4 l5) (hg : w.heap.size ≤ g) : Nin g V0 V1 V2 V3 V4 V5 :=
  ⟨fun e => by have := (h.q0.2.2 _ e).2; omega, fun e => by have := (h.q1.2.2 _ e).2; omega, fun e => by have := (h.r2.lt _ e).2; omega, fun e => by have := (h.r3.lt _ e).2; omega, fun e => by have := (h.r4.lt _ e).2; omega, fun e => by have := (h.r5.lt _ e).2; omega⟩
theorem Nin.set0 {K : Nat} (h : Nin g V0 V1 V2 V3 V4 V5) (hV : ∀ k, V.ownBlock = some k → K ≤ k) (hg : g < K) : Nin g V V1 V2 V3 V4 V5 := ⟨fun e => by have := hV _ e; omega, h.h1, h.h2, h.h3, h.h4, h.h5⟩
theorem Nin.set1 {K : Nat} (h : Nin g V0 V1 V2 V3 V4 V5) (hV : ∀ k, V.ownBlock = some k → K ≤ k) (hg : g < K) : Nin g V0 V V2 V3 V4 V5 := ⟨h.h0, fun e => by have := hV _ e; omega, h.h2, h.h3, h.h4, h.h5⟩
theorem All.step_nin {t : TypeId} (h : All w m o V0 V1 V2 V3 V4 V5 l0 l1 l2 l3 l4 l5) (hs : Stp w w' g t) (hne : 5 ≠ t) (hn : Nin g V0 V1 V2 V3 V4 V5) (hg : o ≤ g) : All w' m o V0 V1 V2 V3 V4 V5 l0 l1 l2 l3 l4 l5 :=
  ⟨h.q0.step_ne hs hne hn.h0 hg, h.q1.step_ne hs hne hn.h1 hg, h.r2.step_ne hs hne hn.h2 hg, h.r3.step_ne hs hne hn.h3 hg, h.r4.step_ne hs hne hn.h4 hg, h.r5.step_ne hs hne hn.h5 hg, h.f02, h.f03, h.f04, h.f05, h.f12, h.f13, h.f14, h.f15, h.f23, h.f24, h.f25, h.f34, h.f35, h.f45⟩
end

theorem grow_blk_ne {w w' : World} {b : Nat} {t : TypeId} {cs : Array Value} {V : Value} (h : Blk w b t cs) (hn : V.ownBlock ≠ some b) (hg : w.grownBy w' V.ownBlock) : Blk w' b t cs := by
  have hl := Blk.lt h
  unfold Blk at h ⊢
  rw [hg.block b hl (fun e => hn e.symm)]; exact h

/-- Two sides' cells. -/
def xcel (x : En) (V0 V1 V2 V3 V4 V5 : Value) : Array Value := #[.int .i64 x.a.sn, .int .i64 x.a.nesn, V0, .bool x.a.op, .bool x.a.em, .int .i64 (x.a.ack : Int), .int .i64 (x.a.tak : Int), .int .i64 x.b.sn, .int .i64 x.b.nesn, V1, .bool x.b.op, .bool x.b.em, .int .i64 (x.b.ack : Int), .int .i64 (x.b.tak : Int), V2, V3, V4, V5]
structure EnAt (w : World) (m : Nat) (x : En) (V0 V1 V2 V3 V4 V5 : Value) (l0 l1 l2 l3 l4 l5 : List Pm) : Prop where
  all : All w m m V0 V1 V2 V3 V4 V5 l0 l1 l2 l3 l4 l5
  e0 : l0.map Pm.p = x.a.q
  e1 : l1.map Pm.p = x.b.q
  e2 : l2.map Pm.p = x.qa
  e3 : l3.map Pm.p = x.qb
  e4 : l4.map Pm.p = x.ga
  e5 : l5.map Pm.p = x.gb
def Moved (w w' : World) (e : Ending) (m : Nat) (x : En) : Prop := ∃ V0 V1 V2 V3 V4 V5 l0 l1 l2 l3 l4 l5, e = .returned (.agg (xcel x V0 V1 V2 V3 V4 V5)) ∧ EnAt w' m x V0 V1 V2 V3 V4 V5 l0 l1 l2 l3 l4 l5 ∧ Below m w w'
theorem thenBm {m : Nat} {w a b : World} (hm : m ≤ w.heap.size) (h : Below m w a) (k : Below a.heap.size a b) : Below m w b := h.trans (k.mono (Nat.le_trans hm h.size))
theorem qq_one {w : World} {m o : Nat} {V : Value} {l : List Pm} (h : QQ w m o V l) : V.oneCell' = true := by
  obtain ⟨⟨A, c, rfl, _⟩, _⟩ := h; rfl
theorem rr_one {w : World} {m o : Nat} {V : Value} {l : List Pm} (h : RR w m o V l) : V.oneCell' = true := qq_one h.qq
end Go.Proofs.Ytbnfjielnamepaa.Arq
