/- append onto a slice without room. No program is mentioned. -/
import Derived.Test.YtbnfjielnamepaaRw
set_option linter.unusedVariables false
set_option linter.unusedSimpArgs false
namespace Go.Proofs.Ytbnfjielnamepaa.Rw
open Go.RowKit Mem
variable {P : Program} {w : World}
theorem own_capK {base k : Nat} {e : TypeId} {n c : Nat} {A : Option Addr} {xs : List Value} (h : w.ownsRow base e k (.slice A n c) n xs) : n ≤ c := by
  rcases h.2 with ⟨hv, hn⟩ | ⟨g, cap, cur, hv, hbg, hg, hnc, hcm, hcs, htake⟩
  · injection hv with hA hn' hc; omega
  · injection hv with hA hn' hc; omega
/-- Cells of a new block. -/
def NewAt (w : World) (base : Nat) (A : Option Addr) (xs : List Value) : Prop :=
  xs = [] ∨ ∃ g, A = some ⟨g, 0, none⟩ ∧ base ≤ g ∧ g < w.heap.size ∧ ∀ (q : Nat) u, xs[q]? = some u → w.cell? ⟨g, q, none⟩ = some u
theorem NewAt.at_ {base : Nat} {A : Option Addr} {xs : List Value} (h : NewAt w base A xs) : CellsAt w w.heap.size A xs := by
  rcases h with h | ⟨g, e, _, hg, hc⟩
  · exact .inl h
  · exact .inr ⟨g, 0, e, hg, fun q u hq => by rw [Nat.zero_add]; exact hc q u hq⟩
theorem NewAt.later {w' : World} {base : Nat} {A : Option Addr} {xs : List Value} (h : NewAt w base A xs) (hb : Below w.heap.size w w') : NewAt w' base A xs := by
  rcases h with h | ⟨g, e, hl, hg, hc⟩
  · exact .inl h
  · exact .inr ⟨g, e, hl, Nat.lt_of_lt_of_le hg hb.size, fun q u hq => (hb.cell (p := ⟨g, q, none⟩) hg).trans (hc q u hq)⟩
theorem NewAt.alloc {base : Nat} {A : Option Addr} {xs : List Value} (h : NewAt w base A xs) (o : Obj) : NewAt (w.alloc o) base A xs := h.later ((Below.refl _ w).alloc (Nat.le_refl _) o)
theorem NewAt.own {base k : Nat} {e : TypeId} {n c : Nat} {A : Option Addr} {xs : List Value} (h : w.ownsRow base e k (.slice A n c) n xs) : NewAt w base A xs := by
  rcases h.2 with ⟨hv, hn⟩ | ⟨g, cap, cur, hv, hbg, hg, hnc, hcm, hcs, htake⟩
  · left
    have := h.1
    subst hn
    simp at this
    exact this
  · right
    injection hv with hA hn hc
    subst hA
    have hlt : g < w.heap.size := by
      rcases Nat.lt_or_ge g w.heap.size with hlt | hge
      · exact hlt
      · rw [Array.getElem?_eq_none hge] at hg; cases hg
    refine ⟨g, rfl, hbg, hlt, fun q u hq => ?_⟩
    have := h.cells (g := g) rfl q _ hq
    rwa [plain_add, Nat.zero_add] at this
theorem info_parts2 {P : Program} {e : TypeId} {z : Value} {s b : Nat} (h : (P.info? e).map (fun i => (i.zero, i.size, i.bytes)) = some (some z, s, b)) (hz : z.cells.size = s) : ∃ i, P.info? e = some i ∧ i.zero = some z ∧ i.size = s ∧ i.bytes = b ∧ z.cells.size = s := by
  cases hq : P.info? e with
  | none => rw [hq] at h; cases h
  | some i =>
    rw [hq] at h
    simp only [Option.map_some, Option.some.injEq, Prod.mk.injEq] at h
    exact ⟨i, rfl, h.1, h.2.1, h.2.2, hz⟩
end Go.Proofs.Ytbnfjielnamepaa.Rw
