/- The ranges of a map: the longest sequences of consecutive channels. No program is mentioned. -/
import Derived.Test.YtkpjpjjpjpimiaaDoorChmMath
set_option linter.unusedVariables false
namespace Go.Proofs.YtkpjpjjpjpimiaaDoor.Chm

/-- The last channel of the sequence that c stands in, at most k further on. -/
def runE (m : Nat) : Nat → Nat → Nat
  | 0, c => c
  | k + 1, c => if hasN m (c + 1) then runE m k (c + 1) else c
def lastN (m c : Nat) : Nat := runE m 37 c
/-- Whether a channel begins a sequence. -/
def st (m c : Nat) : Bool := c == 0 || !hasN m (c - 1)
def rfil (m : Nat) (pre : List Nat) : List (Nat × Nat) := (pre.filter (st m)).map fun c => (c, lastN m c)
def rngs (m : Nat) : List (Nat × Nat) := rfil m (chans m)
theorem rfil_yes {m x : Nat} (pre : List Nat) (h : st m x = true) : rfil m (pre ++ [x]) = rfil m pre ++ [(x, lastN m x)] := by simp [rfil, List.filter_append, h]
theorem rfil_no {m x : Nat} (pre : List Nat) (h : st m x = false) : rfil m (pre ++ [x]) = rfil m pre := by simp [rfil, List.filter_append, h]
theorem rfil_len (m : Nat) (pre : List Nat) : (rfil m pre).length ≤ pre.length := by
  unfold rfil; rw [List.length_map]; exact List.length_filter_le _ _
theorem runE_step {m k c : Nat} (h : hasN m (c + 1) = true) : runE m (k + 1) c = runE m k (c + 1) := by simp [runE, h]
theorem runE_stop {m k c : Nat} (h : hasN m (c + 1) = false) : runE m k c = c := by cases k <;> simp [runE, h]
theorem runE_le (m : Nat) : ∀ k c, c ≤ runE m k c ∧ runE m k c ≤ c + k := by
  intro k
  induction k with
  | zero => intro c; simp [runE]
  | succ k ih =>
    intro c
    simp only [runE]
    split
    · have := ih (c + 1); omega
    · omega
theorem runE_in (m : Nat) : ∀ k c i, c < i → i ≤ runE m k c → hasN m i = true := by
  intro k
  induction k with
  | zero => intro c i h h'; simp [runE] at h'; omega
  | succ k ih =>
    intro c i h h'
    simp only [runE] at h'
    split at h'
    · rename_i hc
      by_cases e : i = c + 1
      · subst e; exact hc
      · exact ih (c + 1) i (by omega) h'
    · omega
theorem runE_end (m : Nat) : ∀ k c, 37 ≤ k + c → hasN m (runE m k c + 1) = false := by
  intro k
  induction k with
  | zero =>
    intro c h
    simp only [runE]
    have : ¬ c + 1 < 37 := by omega
    simp [hasN, this]
  | succ k ih =>
    intro c h
    simp only [runE]
    split
    · exact ih (c + 1) (by omega)
    · rename_i hc; simpa using hc
theorem last_ge (m c : Nat) : c ≤ lastN m c := (runE_le m 37 c).1
theorem last_in {m c i : Nat} (h : hasN m c = true) (h1 : c ≤ i) (h2 : i ≤ lastN m c) : hasN m i = true := by
  by_cases e : i = c
  · subst e; exact h
  · exact runE_in m 37 c i (by omega) h2
theorem last_end (m c : Nat) : hasN m (lastN m c + 1) = false := runE_end m 37 c (by omega)
theorem last_lt {m c : Nat} (h : hasN m c = true) : lastN m c < 37 := hasN_lt (last_in h (last_ge m c) (Nat.le_refl _))
theorem mem_rngs {m : Nat} {r : Nat × Nat} : r ∈ rngs m ↔ hasN m r.1 = true ∧ st m r.1 = true ∧ r.2 = lastN m r.1 := by
  unfold rngs rfil
  rw [List.mem_map]
  constructor
  · rintro ⟨c, hc, rfl⟩
    rw [List.mem_filter, mem_chans] at hc
    exact ⟨hc.1, hc.2, rfl⟩
  · rintro ⟨h1, h2, h3⟩
    exact ⟨r.1, by rw [List.mem_filter, mem_chans]; exact ⟨h1, h2⟩, by rw [← h3]⟩
theorem cover {m : Nat} : ∀ c, hasN m c = true → ∃ r ∈ rngs m, r.1 ≤ c ∧ c ≤ r.2 := by
  intro c
  induction c with
  | zero => intro h; exact ⟨(0, lastN m 0), mem_rngs.2 ⟨h, by simp [st], rfl⟩, Nat.le_refl _, last_ge m 0⟩
  | succ c ih =>
    intro h
    by_cases hc : hasN m c = true
    · obtain ⟨r, hr, h1, h2⟩ := ih hc
      refine ⟨r, hr, by omega, ?_⟩
      obtain ⟨_, _, h3⟩ := mem_rngs.1 hr
      by_cases e : c = r.2
      · have := last_end m r.1
        rw [← h3, ← e] at this
        rw [this] at h; cases h
      · omega
    · exact ⟨(c + 1, lastN m (c + 1)), mem_rngs.2 ⟨h, by simp [st]; simpa using hc, rfl⟩, Nat.le_refl _, last_ge m (c + 1)⟩
theorem has_rngs {m c : Nat} : hasN m c = true ↔ ∃ r ∈ rngs m, r.1 ≤ c ∧ c ≤ r.2 := by
  refine ⟨cover c, ?_⟩
  rintro ⟨r, hr, h1, h2⟩
  obtain ⟨g1, _, g3⟩ := mem_rngs.1 hr
  exact last_in g1 h1 (by omega)
theorem rng_bd {m : Nat} {r : Nat × Nat} (h : r ∈ rngs m) : r.1 ≤ r.2 ∧ r.2 < 37 := by
  obtain ⟨h1, _, h3⟩ := mem_rngs.1 h
  rw [h3]
  exact ⟨last_ge m r.1, last_lt h1⟩
/-- Sequences begin at channels that do not stand side by side: at most nineteen. -/
theorem alt_count (p : Nat → Bool) (h : ∀ c, p c = true → p (c + 1) = false) : ∀ k, ((List.range (2 * k + 1)).filter p).length ≤ k + 1 := by
  intro k
  induction k with
  | zero => have := List.length_filter_le p (List.range (2 * 0 + 1)); simpa using this
  | succ k ih =>
    rw [show 2 * (k + 1) + 1 = 2 * k + 1 + 1 + 1 by omega, List.range_succ, List.range_succ, List.filter_append, List.filter_append, List.length_append, List.length_append]
    have l1 : ∀ c, (List.filter p [c]).length = if p c = true then 1 else 0 := fun c => by cases h : p c <;> simp [h]
    rw [l1, l1]
    have h1 := h (2 * k + 1)
    cases h2 : p (2 * k + 1) with
    | true => rw [h1 h2]; simp; omega
    | false => by_cases h3 : p (2 * k + 1 + 1) = true <;> simp [h3] <;> omega
theorem rngs_len (m : Nat) : (rngs m).length ≤ 19 := by
  unfold rngs rfil chans
  rw [List.length_map, List.filter_filter]
  refine alt_count (fun c => st m c && hasN m c) (fun c hc => ?_) 18
  simp only [Bool.and_eq_true] at hc
  simp [st, hc.2]
end Go.Proofs.YtkpjpjjpjpimiaaDoor.Chm
