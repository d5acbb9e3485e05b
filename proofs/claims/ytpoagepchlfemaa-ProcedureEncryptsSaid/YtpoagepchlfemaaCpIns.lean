/- A map with integer keys: an entry is laid, a key is looked up; what single operations yield. No function is mentioned. -/
import Derived.MapFrom
import Derived.MapKept
import Derived.Test.YtpoagepchlfemaaCpDraw
set_option linter.unusedVariables false
set_option linter.unusedSimpArgs false
namespace Go.Proofs.Ytpoagepchlfemaa.Draw
open Go.RowKit Mem Rw MapKept
section
variable {P : Program} {w : World} {mty kt et : TypeId} {g : Nat} {es : Array MapEntry} {c : Nat}
theorem run_insert (key : Int) (v : Value) (hm : P.underlying mty = some (.map kt et)) (hd : P.underlying kt = some (.int .i64)) (hb : w.heap[g]? = some (.map es c))
    (h1 : Instr.findNow (.int .i64) (.int .i64 key) es.toList 0 = some none) :
    (Instr.mapUpdate mty (.map (some g)) (.int .i64 key) v).run P w = .ok () { w with heap := w.heap.setIfInBounds g (.map (es.push { key := .int .i64 key, val := v, born := c }) (c + 1)) } := by
  have hk : IsKey (.int .i64) (.int .i64 key) := rfl
  simp [Instr.mapUpdate, run_underlying hm, MapKept.run_getObj_map hb, run_checkKey hd hk, run_findKey hd h1, MapKept.run_setObj_map _ hb, Result.andThen]
theorem run_look_some {key : Int} {j : Nat} {v : Value} (hm : P.underlying mty = some (.map kt et)) (hd : P.underlying kt = some (.int .i64)) (hb : w.heap[g]? = some (.map es c))
    (h1 : Instr.findNow (.int .i64) (.int .i64 key) es.toList 0 = some (some (j, v))) :
    (Instr.lookup mty (.map (some g)) (.int .i64 key) true).run P w = .ok (.tuple #[v, .bool true]) w := by
  have hk : IsKey (.int .i64) (.int .i64 key) := rfl
  simp [Instr.lookup, run_underlying hm, MapKept.run_getObj_map hb, run_checkKey hd hk, run_findKey hd h1, Result.andThen]
theorem run_look_none {key : Int} {z : Value} (hm : P.underlying mty = some (.map kt et)) (hd : P.underlying kt = some (.int .i64)) (hz : (zeroValue et).run P w = .ok z w) (hb : w.heap[g]? = some (.map es c))
    (h1 : Instr.findNow (.int .i64) (.int .i64 key) es.toList 0 = some none) :
    (Instr.lookup mty (.map (some g)) (.int .i64 key) true).run P w = .ok (.tuple #[z, .bool false]) w := by
  have hk : IsKey (.int .i64) (.int .i64 key) := rfl
  simp [Instr.lookup, run_underlying hm, MapKept.run_getObj_map hb, run_checkKey hd hk, run_findKey hd h1, Result.andThen, hz]
end
section
variable {P : Program} {o : Oper} {a : Act} {w w' : World} {K : Act → World → Prop} {Q : Exit → Act → World → Prop}
theorem wp_value {v : Value} (h : (execOp a.eval o).run P w = .ok (.value v) w') (hk : K (a.put o.dst v) w') : o.wp P a w K Q := by
  unfold Oper.wp; rw [h]; exact hk
theorem wp_skip (h : (execOp a.eval o).run P w = .ok .skip w') (hk : K (a.put o.dst undef) w') : o.wp P a w K Q := by
  unfold Oper.wp; rw [h]; exact hk
theorem wp_enter {f : Nat} {xs : Array Value} {R : Value → World → Prop} (h : (execOp a.eval o).run P w = .ok (.enter f xs) w) (hc : Calls P f xs w fun e w' => ∃ v, e = .returned v ∧ R v w')
    (hk : ∀ v w', R v w' → K (a.put o.dst v) w') : o.wp P a w K Q := by
  unfold Oper.wp; rw [h]
  refine Calls.mono hc ?_
  rintro e w' ⟨v, rfl, hr⟩
  exact hk v w' hr
theorem ex_move {x : Operand} (h : o.op = .move x ∨ o.op = .assign x) : (execOp a.eval o).run P w = .ok (.value (a.eval x)) w := by
  unfold execOp; rcases h with h | h <;> simp [h]
theorem ex_extract {x : Operand} {i : Nat} {vs : Array Value} {v : Value} (h : o.op = .extract x i) (hx : a.eval x = .tuple vs) (hv : vs[i]? = some v) : (execOp a.eval o).run P w = .ok (.value v) w := by
  unfold execOp; simp [h, hx, Instr.extract, hv]
theorem ex_makeMap {t : TypeId} (h : o.op = .makeMap t none) : (execOp a.eval o).run P w = .ok (.value (.map (some w.heap.size))) (w.alloc (.map #[] 0)) := by
  unfold execOp; simp [h, run_makeMap]
theorem ex_insert {t : TypeId} {m k x : Operand} (h : o.op = .insert t m k x) (hr : (Instr.mapUpdate t (a.eval m) (a.eval k) (a.eval x)).run P w = .ok () w') : (execOp a.eval o).run P w = .ok .skip w' := by
  unfold execOp; simp [h, hr]
theorem ex_lookup {t : TypeId} {m k : Operand} {v : Value} (h : o.op = .lookup t m k true) (hr : (Instr.lookup t (a.eval m) (a.eval k) true).run P w = .ok v w') : (execOp a.eval o).run P w = .ok (.value v) w' := by
  unfold execOp; simp [h, hr]
theorem ex_load {t ty : TypeId} {x : Operand} {g : Nat} {cs : Array Value} {d : TypeDesc} (h : o.op = .load ty x) (hx : a.eval x = .pointer (some ⟨g, 0, none⟩)) (hb : Blk w g t cs) (hu : P.underlying ty = some d) (hd : (match d with | .struct _ | .array _ _ => true | _ => false) = true) (hi : (P.info? ty).map (·.size) = some cs.size) : (execOp a.eval o).run P w = .ok (.value (.agg cs)) w := by
  have := run_loadVar_row (P := P) w g t ty cs (0, 0) d hb hu hd hi
  unfold execOp; simp [h, hx, Instr.loadAt, this, Instr.sureAddr]
theorem ex_buildSlice {t e : TypeId} {len : Nat} {parts : Array (Nat × Operand)} {cells : Array Value} {ie : TypeInfo} {z : Value} (h : o.op = .buildSlice t len parts)
    (hu : P.underlying t = some (.slice e)) (hie : P.info? e = some ie) (hz : ie.zero = some z) (hsmall : ¬ len * ie.size > 2 ^ 24) (hpos : ¬ len * ie.size = 0)
    (hf : Instr.fill (fun i => some (i * ie.size, ie.size)) ((Array.range (len * ie.size)).map (z.cells[· % z.cells.size]!)) (parts.map fun (i, x) => (i, a.eval x)).toList = some cells) :
    (execOp a.eval o).run P w = .ok (.value (.slice (some ⟨w.heap.size, 0, none⟩) len len)) (w.alloc (.cells cells e)) := by
  unfold execOp; simp only [h, Sem.run_bind, run_buildSlice w t e len _ cells ie z hu hie hz hsmall hpos hf, Result.andThen_ok]; rfl
theorem ex_buildNone {t e : TypeId} {ie : TypeInfo} (h : o.op = .buildSlice t 0 #[]) (hu : P.underlying t = some (.slice e)) (hie : P.info? e = some ie) :
    (execOp a.eval o).run P w = .ok (.value (.slice (some ⟨w.heap.size, 0, none⟩) 0 0)) (w.alloc (.cells #[] e)) := by
  unfold execOp; simp [h, Instr.buildSlice, run_underlying hu, sizeOf, typeInfo, hie, Instr.fill, newRow]
  rw [show Array.range 0 = #[] from Array.eq_empty_of_size_eq_zero (by simp), Array.map_empty]
end
end Go.Proofs.Ytpoagepchlfemaa.Draw
