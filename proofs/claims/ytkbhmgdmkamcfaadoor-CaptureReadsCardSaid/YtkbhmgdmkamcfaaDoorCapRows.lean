/- Rows of transmissions and of bytes, without the program. -/
import Derived.Test.YtkbhmgdmkamcfaaDoorAirMath
import Derived.Test.YtkbhmgdmkamcfaaDoorBase
set_option linter.unusedVariables false
set_option linter.unusedSimpArgs false
namespace Go.Proofs.YtkbhmgdmkamcfaaDoor.Air
open Go.RowKit Mem Rw Base

theorem tx_cells {w : World} {B : Nat} {A : Option Addr} {l : List Tx} (h : TxsAt w B A l) (hl : 0 < l.length) :
    ∃ b off, A = some ⟨b, off, none⟩ ∧ b < B ∧ ∀ (j : Nat) x, l[j]? = some x → w.cell? ⟨b, off + j * 5, none⟩ = some (.int .i64 x.id) ∧ w.cell? ⟨b, off + j * 5 + 1, none⟩ = some (.int .i64 x.frm) ∧ w.cell? ⟨b, off + j * 5 + 2, none⟩ = some (.int .i64 x.ch) ∧ w.cell? ⟨b, off + j * 5 + 3, none⟩ = some (.int .i64 x.st) ∧ w.cell? ⟨b, off + j * 5 + 4, none⟩ = some (.slice x.A x.bs.length x.c) := by
  obtain ⟨b, off, e, hb, hc⟩ := ListAt.open_ h.1 sizT (by decide) hl
  exact ⟨b, off, e, hb, fun j x hj => ⟨hc j x hj 0 _ rfl, hc j x hj 1 _ rfl, hc j x hj 2 _ rfl, hc j x hj 3 _ rfl, hc j x hj 4 _ rfl⟩⟩
theorem One_below {w w' : World} {g o : Nat} {v : Value} (f : w.cell? ⟨g, o, none⟩ = some v) (b : Below w.heap.size w w') : w'.cell? ⟨g, o, none⟩ = some v := (b.cell (p := ⟨g, o, none⟩) (World.block_lt_of_cell? _ _ f)).trans f
theorem cells_ints {k : IntKind} {w : World} {B : Nat} {A : Option Addr} {zs : List Int} (h : Ints k w B A zs) : CellsAt w B A (zs.map (Value.int k)) := by
  rcases h with rfl | ⟨b, off, e, hb, hc⟩
  · exact .inl rfl
  · refine .inr ⟨b, off, e, hb, fun q u hq => ?_⟩
    have hlt : q < zs.length := by
      rcases Nat.lt_or_ge q zs.length with h | h
      · exact h
      · rw [List.getElem?_eq_none (by simpa using h)] at hq; cases hq
    rw [List.getElem?_map, List.getElem?_eq_getElem hlt] at hq
    simp only [Option.map_some, Option.some.injEq] at hq
    rw [hc q hlt, ← hq]
    simp [List.getD, List.getElem?_eq_getElem hlt]
theorem one_ints (zs : List Int) (k : IntKind) : ∀ u ∈ zs.map (Value.int k), u.oneCell' = true := by
  intro u hu
  obtain ⟨z, _, rfl⟩ := List.mem_map.mp hu
  rfl
theorem has {α : Type} {l : List α} {j n : Nat} (hn : l.length = n) (h : j < n) : ∃ x, l[j]? = some x ∧ x ∈ l := ⟨l[j]'(by omega), List.getElem?_eq_getElem (by omega), List.getElem_mem _⟩

theorem drop_at {α : Type} {l : List α} {k : Nat} {x : α} (h : l[k]? = some x) : l.drop k = x :: l.drop (k + 1) := by
  have hk : k < l.length := (List.getElem?_eq_some_iff.1 h).1
  rw [List.drop_eq_getElem_cons hk, (List.getElem?_eq_some_iff.1 h).2]
theorem dB {w W w1 : World} (h : Below w.heap.size w W) (k : Below W.drew.heap.size W.drew w1) : Below w.heap.size w w1 := thenB (h.drew) k
end Go.Proofs.YtkbhmgdmkamcfaaDoor.Air
