/- Plain arithmetic: which channels have been visited after some events. No program is mentioned. -/
import Derived.Test.YtmfljplibcodpaaChmMath
set_option linter.unusedVariables false
namespace Go.Proofs.Ytmfljplibcodpaa.Hop
open Chm

theorem add_or (x i : Nat) (h : x.testBit i = false) : x + 2 ^ i = x ||| 2 ^ i := by
  have h2 : x / 2 ^ i % 2 = 0 := by
    rw [Nat.testBit_eq_decide_div_mod_eq] at h
    have := of_decide_eq_false h
    omega
  have hr : x % 2 ^ i < 2 ^ i := Nat.mod_lt _ (Nat.two_pow_pos i)
  have hx := Nat.div_add_mod x (2 ^ i)
  obtain ⟨z, hz⟩ : ∃ z, x / 2 ^ i = 2 * z := ⟨x / 2 ^ i / 2, by omega⟩
  rw [hz] at hx
  have e1 := Nat.two_pow_add_eq_or_of_lt hr (2 * z)
  have e2 := Nat.two_pow_add_eq_or_of_lt hr (2 * z + 1)
  have e3 := Nat.two_pow_add_eq_or_of_lt (i := i + 1) (b := 2 ^ i) (by rw [Nat.pow_succ]; have := Nat.two_pow_pos i; omega) z
  have e4 : 2 ^ (i + 1) * z = 2 ^ i * (2 * z) := by rw [Nat.pow_succ, Nat.mul_assoc]
  have e5 : 2 ^ i * (2 * z + 1) = 2 ^ i * (2 * z) + 2 ^ i := by rw [Nat.mul_add, Nat.mul_one]
  rw [e4] at e3
  generalize x % 2 ^ i = r at *
  rw [show x + 2 ^ i = 2 ^ i * (2 * z + 1) + r by omega, e2, e5, e3, ← hx, e1]
  rw [Nat.or_assoc, Nat.or_comm (2 ^ i) r, ← Nat.or_assoc]
theorem new_lt {V u : Nat} (hV : V < 137438953472) (hu : u < 37) (h : hasN V u = false) : V + 2 ^ u < 137438953472 := by
  have hb : V.testBit u = false := by simpa [hasN, hu] using h
  rw [add_or V u hb]
  exact Nat.or_lt_two_pow (n := 37) hV (Nat.pow_lt_pow_right (by decide) hu)
theorem new_has {V u c : Nat} (hu : u < 37) (h : hasN V u = false) (hc : hasN (V + 2 ^ u) c = true) : hasN V c = true ∨ c = u := by
  have hb : V.testBit u = false := by simpa [hasN, hu] using h
  rw [add_or V u hb] at hc
  simp only [hasN, Nat.testBit_or, Nat.testBit_two_pow, Bool.and_eq_true, Bool.or_eq_true, decide_eq_true_eq] at hc ⊢
  rcases hc.2 with h' | h'
  · exact .inl ⟨hc.1, h'⟩
  · exact .inr h'.symm
/-- No product of two numbers from 1 to 36 is a multiple of 37. -/
theorem prime37 : ∀ a b : Fin 37, a.val ≠ 0 → b.val ≠ 0 → a.val * b.val % 37 ≠ 0 := by decide +kernel
theorem apart37 {d h : Int} (hd : 1 ≤ d ∧ d ≤ 36) (hh : h % 37 ≠ 0) : d * h % 37 ≠ 0 := by
  intro e
  rw [Int.mul_emod] at e
  obtain ⟨x, hx⟩ : ∃ x : Nat, d % 37 = x := ⟨(d % 37).toNat, by omega⟩
  obtain ⟨y, hy⟩ : ∃ y : Nat, h % 37 = y := ⟨(h % 37).toNat, by omega⟩
  rw [hx, hy] at e
  have := prime37 ⟨x, by omega⟩ ⟨y, by omega⟩ (by simp; omega) (by simp; omega)
  apply this
  simp only
  have e2 : ((x * y % 37 : Nat) : Int) = 0 := by push_cast; exact e
  omega
/-- What is known after k events: V the channels visited, S their number, L the last one. -/
structure Vis (good : Prop) (l h : Int) (k S V : Nat) (L : Int) : Prop where
  lt : V < 137438953472
  le : S ≤ k
  on : good → S = k ∧ L % 37 = (l + k * h) % 37 ∧ ∀ c, hasN V c = true → ∃ j : Nat, 1 ≤ j ∧ j ≤ k ∧ (l + j * h) % 37 = c
theorem vis_zero (good : Prop) (l h : Int) : Vis good l h 0 0 0 l :=
  ⟨by decide, Nat.le_refl _, fun _ => ⟨rfl, by simp, fun c hc => by simp [hasN] at hc⟩⟩
theorem vis_step {good : Prop} {l h : Int} {k S V u : Nat} {L : Int} (hv : Vis good l h k S V L) (hk : k < 37) (hu : u < 37) (hn : good → (u : Int) = (L + h) % 37) (hg : good → h % 37 ≠ 0) :
    (hasN V u = true → Vis good l h (k + 1) S V u) ∧ (hasN V u = false → Vis good l h (k + 1) (S + 1) (V + 2 ^ u) u) := by
  obtain ⟨h1, h2, h3⟩ := hv
  have hu37 : (u : Int) % 37 = u := by omega
  have next : good → (u : Int) % 37 = (l + (k + 1 : Nat) * h) % 37 := fun g => by
    obtain ⟨_, e, _⟩ := h3 g
    have e' := hn g
    rw [show ((k + 1 : Nat) : Int) * h = k * h + h by push_cast; rw [Int.add_mul, Int.one_mul]]
    generalize (k : Int) * h = X at *
    omega
  constructor
  · intro hb
    refine ⟨h1, by omega, fun g => ?_⟩
    exfalso
    obtain ⟨_, e, hc⟩ := h3 g
    obtain ⟨j, j1, j2, ej⟩ := hc u hb
    have e' := next g
    have : ((k : Int) + 1 - j) * h % 37 = 0 := by
      rw [show ((k + 1 : Nat) : Int) * h = k * h + h by push_cast; rw [Int.add_mul, Int.one_mul]] at e'
      rw [show ((k : Int) + 1 - j) * h = k * h + h - j * h by rw [Int.sub_mul, Int.add_mul, Int.one_mul]]
      generalize (k : Int) * h = X at *
      generalize (j : Int) * h = Y at *
      omega
    exact apart37 (by omega) (hg g) this
  · intro hb
    refine ⟨new_lt h1 hu hb, by omega, fun g => ?_⟩
    obtain ⟨e0, e, hc⟩ := h3 g
    refine ⟨by omega, next g, fun c hcc => ?_⟩
    rcases new_has hu hb hcc with h' | rfl
    · obtain ⟨j, j1, j2, ej⟩ := hc c h'
      exact ⟨j, j1, by omega, ej⟩
    · exact ⟨k + 1, by omega, Nat.le_refl _, by rw [← next g, hu37]⟩
theorem tmod_zero (h : Int) : (h.tmod 37 == 0) = decide (h % 37 = 0) := by
  have e1 := Int.tmod_add_mul_tdiv h 37
  have h1 : -37 < h.tmod 37 ∧ h.tmod 37 < 37 := ⟨by have := Int.lt_tmod_of_pos h (show (0 : Int) < 37 by decide); omega, Int.tmod_lt_of_pos h (by decide)⟩
  rw [Bool.eq_iff_iff]; simp only [beq_iff_eq, decide_eq_true_eq]
  constructor
  · intro h0; omega
  · intro h0
    rw [← e1] at h0
    have : h.tmod 37 % 37 = 0 := by omega
    by_cases hs : 0 ≤ h
    · have := Int.tmod_eq_emod_of_nonneg (b := 37) hs
      omega
    · have hn : h.tmod 37 ≤ 0 := by
        have := Int.tmod_nonneg (a := -h) 37 (by omega)
        rw [Int.neg_tmod] at this; omega
      omega
end Go.Proofs.Ytmfljplibcodpaa.Hop
