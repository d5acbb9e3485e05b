/- The statements on the clocks, walked: each returns true. -/
import Derived.Test.YtpoagepchlfemaaClkReal
set_option linter.unusedVariables false
set_option linter.unusedSimpArgs false
namespace Go.Proofs.Ytpoagepchlfemaa.Clk
open Go.RowKit Mem

theorem thenB {w a b : World} (h : Below w.heap.size w a) (k : Below a.heap.size a b) : Below w.heap.size w b := h.trans (k.mono h.size)
theorem pair_below {w w' : World} {g : Nat} {x y : Value} (hs : w.cell? ⟨g, 0, none⟩ = some x ∧ w.cell? ⟨g, 1, none⟩ = some y) (b : Below w.heap.size w w') : w'.cell? ⟨g, 0, none⟩ = some x ∧ w'.cell? ⟨g, 1, none⟩ = some y :=
  ⟨(b.cell (p := ⟨g, 0, none⟩) (World.block_lt_of_cell? _ _ hs.1)).trans hs.1, (b.cell (p := ⟨g, 1, none⟩) (World.block_lt_of_cell? _ _ hs.2)).trans hs.2⟩
theorem okC_yes {p s : Int} (h : -500 ≤ p ∧ p ≤ 500 ∧ 0 ≤ s ∧ s ≤ 1099511627776) : 0 = okC p s := by unfold okC; rw [if_pos h]
theorem okC_no {p s : Int} (h : ¬ (-500 ≤ p ∧ p ≤ 500 ∧ 0 ≤ s ∧ s ≤ 1099511627776)) : 5 = okC p s := by unfold okC; rw [if_neg h]
theorem first_a {r : Int} (h : First (-100) 0 14998 r) : r = 15000 := by
  rcases Int.lt_trichotomy r 15000 with g | g | g
  · have h2 := h.at_ (by omega)
    have := loc_mono (-100) 0 (t := r) (u := 14999) (by omega)
    rw [show loc (-100) 0 14999 = 14997 by decide +kernel] at this
    omega
  · exact g
  · have h1 := h.below 15000 (by omega) g
    rw [show loc (-100) 0 15000 = 14998 by decide +kernel] at h1
    omega
theorem first_b {r : Int} (h : First 0 5 3 r) : r = 0 := by
  rcases Int.lt_or_le 0 r with g | g
  · have h1 := h.below 0 (by omega) g
    rw [show loc 0 5 0 = 5 by decide +kernel] at h1
    omega
  · have := h.lo; omega
theorem first_c {r : Int} (h : First 0 0 1099511627777 r) : r = 1099511627776 := by
  rcases Int.lt_or_le r 1099511627776 with g | g
  · have h2 := h.at_ g
    have h3 := loc_mono 0 0 (t := r) (u := 1099511627776) (by omega)
    rw [show loc 0 0 1099511627776 = 1099511627776 by decide +kernel] at h3
    omega
  · have := h.hi; omega
theorem first_ex (p s l : Int) : ∃ r, First p s l r := by
  have go : ∀ n : Nat, n ≤ 1099511627776 → (∃ r, First p s l r) ∨ ∀ t : Int, 0 ≤ t → t < n → loc p s t < l := by
    intro n
    induction n with
    | zero => intro _; right; intro t h h'; omega
    | succ n ih =>
      intro h
      rcases ih (by omega) with e | e
      · exact .inl e
      · by_cases h1 : l ≤ loc p s n
        · exact .inl ⟨n, by omega, by omega, e, fun _ => h1⟩
        · refine .inr fun t g g' => ?_
          by_cases h2 : t = n
          · subst h2; omega
          · exact e t g (by omega)
  rcases go 1099511627776 (Nat.le_refl _) with e | e
  · exact e
  · exact ⟨1099511627776, by omega, by omega, fun t h h' => e t h (by omega), fun h => by omega⟩
end Go.Proofs.Ytpoagepchlfemaa.Clk
