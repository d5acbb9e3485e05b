/- Addresses: kinds, prefixes, random parts, the order: plain arithmetic. No program is mentioned. -/
import Derived.WalkKit
set_option linter.unusedVariables false
namespace Go.Proofs.YtegmknmbgifmjaaDoor.Adr

/-- The prefix of a kind, its random part, the greatest number of its bits. -/
def pre (k : Int) : Int := if k = 2 then 3 else if k = 3 then 1 else 0
def part (k b : Int) : Int := if k = 3 then b % 70368744177664 / 16777216 else b % 70368744177664
def most (k : Int) : Int := if k = 3 then 4194303 else 70368744177663
/-- The random part nearest to a number. -/
def lim (n g : Int) : Int := max 1 (min n (g - 1))
def fit (n g : Int) : Int := if n = 0 then 1 else if n = g then g - 1 else n
theorem lim_fit {n g : Int} (h0 : 0 ≤ n) (h1 : n ≤ g) (hg : 3 ≤ g) : lim n g = fit n g := by unfold lim fit; split <;> (try split) <;> omega
/-- Whether prefix and random part are those of a valid address. -/
def wf (k b : Int) : Bool := decide (b / 70368744177664 = pre k) && decide (part k b = lim (part k b) (most k))
/-- The error of an address, 0 if there is none. -/
def chk (k b : Int) : Int :=
  if k < 1 ∨ 4 < k then 12 else if 281474976710656 ≤ b then 5 else if k = 1 then 0 else if wf k b = true then 0 else 1
theorem part_bd {k b : Int} (hb : 0 ≤ b) : 0 ≤ part k b ∧ part k b ≤ most k := by unfold part most; split <;> omega
theorem most_bd (k : Int) : 3 ≤ most k ∧ most k ≤ 70368744177663 := by unfold most; split <;> omega
theorem part_ok {k b : Int} (hb : 0 ≤ b) : (part k b = lim (part k b) (most k)) ↔ ¬ part k b = 0 ∧ ¬ part k b = most k := by
  have h1 := part_bd (k := k) hb
  have h2 := most_bd k
  rw [lim_fit h1.1 h1.2 h2.1]
  unfold fit
  constructor
  · intro h; split at h
    · omega
    · split at h <;> omega
  · intro h; rw [if_neg h.1, if_neg h.2]
theorem wf_ref {k b : Int} (hb : 0 ≤ b) : (!wf k b) = (decide (b / 70368744177664 ≠ pre k) || decide (part k b = 0) || decide (part k b = most k)) := by
  unfold wf
  have := part_ok (k := k) hb
  by_cases h1 : b / 70368744177664 = pre k
  · by_cases h2 : part k b = 0
    · have : ¬ part k b = lim (part k b) (most k) := fun e => (this.1 e).1 h2
      rw [decide_eq_false this]; simp [h2]
    · by_cases h3 : part k b = most k
      · have : ¬ part k b = lim (part k b) (most k) := fun e => (this.1 e).2 h3
        rw [decide_eq_false this]; simp [h3]
      · rw [decide_eq_true (this.2 ⟨h2, h3⟩)]; simp [h1, h2, h3]
  · simp [h1]
theorem chk_kind {k b : Int} (h : k < 1 ∨ 4 < k) : chk k b = 12 := by unfold chk; rw [if_pos h]
theorem chk_range {k b : Int} (h : 1 ≤ k ∧ k ≤ 4) (hb : 281474976710656 ≤ b) : chk k b = 5 := by unfold chk; rw [if_neg (by omega), if_pos hb]
theorem chk_public {b : Int} (hb : b < 281474976710656) : chk 1 b = 0 := by unfold chk; rw [if_neg (by omega), if_neg (by omega), if_pos rfl]
theorem chk_wf {k b : Int} (h : 2 ≤ k ∧ k ≤ 4) (hb : b < 281474976710656) (hw : wf k b = true) : chk k b = 0 := by unfold chk; rw [if_neg (by omega), if_neg (by omega), if_neg (by omega), if_pos hw]
theorem chk_bad {k b : Int} (h : 2 ≤ k ∧ k ≤ 4) (hb : b < 281474976710656) (hw : wf k b = false) : chk k b = 1 := by unfold chk; rw [if_neg (by omega), if_neg (by omega), if_neg (by omega), if_neg (by rw [hw]; simp)]
theorem chk_ok {k b : Int} (h : chk k b = 0) : (1 ≤ k ∧ k ≤ 4) ∧ b < 281474976710656 := by
  unfold chk at h
  split at h
  · omega
  · split at h <;> omega
theorem chk_bd (k b : Int) : 0 ≤ chk k b ∧ chk k b ≤ 12 := by unfold chk; split <;> (try split) <;> (try split) <;> (try split) <;> omega
/-- The address that is made of a number. -/
def mk (k b : Int) : Int :=
  if k = 1 then b % 281474976710656 else
  if k = 3 then 70368744177664 + fit (b / 16777216 % 4194304) 4194303 * 16777216 + b % 16777216 else
  pre k * 70368744177664 + fit (b % 70368744177664) 70368744177663
theorem fit_bd {n g : Int} (h0 : 0 ≤ n) (h1 : n ≤ g) (hg : 3 ≤ g) : 1 ≤ fit n g ∧ fit n g ≤ g - 1 := by unfold fit; split <;> (try split) <;> omega
theorem mk_bd {k b : Int} (hk : 1 ≤ k ∧ k ≤ 4) : 0 ≤ mk k b ∧ mk k b < 281474976710656 := by
  unfold mk
  split
  · omega
  · split
    · have := fit_bd (n := b / 16777216 % 4194304) (g := 4194303) (by omega) (by omega) (by omega); omega
    · have := fit_bd (n := b % 70368744177664) (g := 70368744177663) (by omega) (by omega) (by omega)
      have hp : 0 ≤ pre k ∧ pre k ≤ 3 := by unfold pre; split <;> (try split) <;> omega
      omega
theorem mk_part {k b : Int} (hk : 2 ≤ k ∧ k ≤ 4) : mk k b / 70368744177664 = pre k ∧ 0 < part k (mk k b) ∧ part k (mk k b) < most k := by
  have hk' : k = 2 ∨ k = 3 ∨ k = 4 := by omega
  rcases hk' with rfl | rfl | rfl
  · have := fit_bd (n := b % 70368744177664) (g := 70368744177663) (by omega) (by omega) (by omega)
    simp only [mk, pre, part, most]; simp; omega
  · have := fit_bd (n := b / 16777216 % 4194304) (g := 4194303) (by omega) (by omega) (by omega)
    simp only [mk, pre, part, most]; simp; omega
  · have := fit_bd (n := b % 70368744177664) (g := 70368744177663) (by omega) (by omega) (by omega)
    simp only [mk, pre, part, most]; simp; omega
theorem chk_mk {k b : Int} (hk : 1 ≤ k ∧ k ≤ 4) : chk k (mk k b) = 0 := by
  have hm := mk_bd (b := b) hk
  by_cases h1 : k = 1
  · subst h1; exact chk_public (by omega)
  · have hp := mk_part (k := k) (b := b) (by omega)
    refine chk_wf (by omega) (by omega) ?_
    unfold wf
    rw [decide_eq_true hp.1, decide_eq_true ((part_ok (by omega)).2 ⟨by omega, by omega⟩)]; rfl
/-- The order of numbers, the order of addresses. -/
def cmpZ (a b : Int) : Int := if a < b then -1 else if b < a then 1 else 0
def orZ (x y : Int) : Int := if x = 0 then y else x
def cmpA (k b k' b' : Int) : Int := orZ (cmpZ k k') (cmpZ b b')
theorem cmpZ_bd (a b : Int) : -1 ≤ cmpZ a b ∧ cmpZ a b ≤ 1 := by unfold cmpZ; split <;> (try split) <;> omega
theorem cmpA_bd (k b k' b' : Int) : -1 ≤ cmpA k b k' b' ∧ cmpA k b k' b' ≤ 1 := by
  have h1 := cmpZ_bd k k'; have h2 := cmpZ_bd b b'; unfold cmpA orZ; split <;> omega
theorem cmpA_neg (k b k' b' : Int) : cmpA k b k' b' = - cmpA k' b' k b := by
  unfold cmpA orZ cmpZ; repeat' split
  all_goals omega
theorem cmpA_zero (k b k' b' : Int) : cmpA k b k' b' = 0 ↔ k = k' ∧ b = b' := by
  unfold cmpA orZ cmpZ; repeat' split
  all_goals omega
theorem cmpA_le_iff (k b k' b' : Int) : cmpA k b k' b' ≤ 0 ↔ k < k' ∨ (k = k' ∧ b ≤ b') := by
  unfold cmpA orZ cmpZ; repeat' split
  all_goals omega
theorem cmpA_lt_iff (k b k' b' : Int) : cmpA k b k' b' < 0 ↔ k < k' ∨ (k = k' ∧ b < b') := by
  unfold cmpA orZ cmpZ; repeat' split
  all_goals omega
theorem cmpA_le (k b k' b' k2 b2 : Int) (h1 : cmpA k b k' b' ≤ 0) (h2 : cmpA k' b' k2 b2 ≤ 0) : cmpA k b k2 b2 ≤ 0 := by
  rw [cmpA_le_iff] at *; omega
theorem cmpA_lt (k b k' b' k2 b2 : Int) (h1 : cmpA k b k' b' < 0) (h2 : cmpA k' b' k2 b2 < 0) : cmpA k b k2 b2 < 0 := by
  rw [cmpA_lt_iff] at *; omega
end Go.Proofs.YtegmknmbgifmjaaDoor.Adr
