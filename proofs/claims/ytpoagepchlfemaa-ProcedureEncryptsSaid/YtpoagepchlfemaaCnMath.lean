/- Plain arithmetic for the layer of connections. No program is mentioned. -/
import Derived.Test.YtpoagepchlfemaaClkMath
set_option linter.unusedVariables false
namespace Go.Proofs.Ytpoagepchlfemaa.Cn
open Clk

def mom (t : Int) : Int := lim t 0 4398046511104
theorem mom_bd (t : Int) : 0 ≤ mom t ∧ mom t ≤ 4398046511104 := lim_bd t 0 4398046511104 (by decide)
/-- The time from an anchor point to the n-th after it. -/
def spn (n i : Int) : Int := lim n 0 65536 * lim i 6 3200 * 1250
theorem spn_bd (n i : Int) : 0 ≤ lim n 0 65536 * lim i 6 3200 ∧ lim n 0 65536 * lim i 6 3200 ≤ 209715200 ∧ 0 ≤ spn n i ∧ spn n i ≤ 262144000000 := by
  have h1 := lim_bd n 0 65536 (by decide)
  have h2 := lim_bd i 6 3200 (by decide)
  have := mul_bd (A := 65536) (B := 3200) h1.1 h1.2 (by omega) h2.2
  have h3 : 0 ≤ lim n 0 65536 * lim i 6 3200 := Int.mul_nonneg (by omega) (by omega)
  unfold spn
  omega
theorem spn_one (n i : Int) : spn (max n 1) i = lim n 1 65536 * (lim i 6 3200 * 1250) := by
  unfold spn
  rw [Int.mul_assoc]
  congr 1
  unfold lim; omega
theorem spn_zero (n i : Int) : spn n i = lim n 0 65536 * (lim i 6 3200 * 1250) := by
  unfold spn
  rw [Int.mul_assoc]
/-- The window that is due some time after an anchor point. -/
def wst (a d z p : Int) : Int := mom a + d - wid p (d + z)
def wen (a d z p : Int) : Int := mom a + d + z + wid p (d + z)
/-- When the first event with new parameters is due. -/
def due (n i o : Int) : Int := spn (max n 1) i + lim o 0 3200 * 1250
theorem due_bd (n i o : Int) : 0 ≤ due n i o ∧ due n i o ≤ 262148000000 := by
  have h1 := spn_bd (max n 1) i
  have h2 := lim_bd o 0 3200 (by decide)
  unfold due; omega
/-- The error of an update. -/
def okU (s o i l t : Int) : Int :=
  if 1 ≤ s ∧ s ≤ 8 ∧ 0 ≤ o ∧ o ≤ 3200 ∧ 6 ≤ i ∧ i ≤ 3200 ∧ 0 ≤ l ∧ l ≤ 499 ∧ 10 ≤ t ∧ t ≤ 3200 then
    (if s < i ∧ o ≤ i ∧ 2 * (l + 1) * i * 1250 < t * 10000 then 0 else 11) else 5
/-- The first that is not 0. -/
def fst0 : List Int → Int
  | [] => 0
  | x :: r => if x ≠ 0 then x else fst0 r
theorem fst0_none {l : List Int} (h : ∀ x ∈ l, x = 0) : fst0 l = 0 := by
  induction l with
  | nil => rfl
  | cons x r ih => unfold fst0; rw [if_neg (by simp [h x])]; exact ih fun y hy => h y (List.mem_cons_of_mem _ hy)
theorem fst0_at {l : List Int} {k : Nat} {x : Int} (h : ∀ y ∈ l.take k, y = 0) (hk : l[k]? = some x) (hx : x ≠ 0) : fst0 l = x := by
  induction l generalizing k with
  | nil => simp at hk
  | cons y r ih =>
    cases k with
    | zero =>
      simp at hk; subst hk
      unfold fst0; rw [if_pos hx]
    | succ k =>
      unfold fst0
      rw [if_neg (by simp [h y (by simp)])]
      exact ih (k := k) (fun z hz => h z (by rw [List.take_succ_cons]; exact List.mem_cons_of_mem _ hz)) (by simpa using hk)
theorem okU_bd (s o i l t : Int) : 0 ≤ okU s o i l t ∧ okU s o i l t ≤ 11 := by unfold okU; split <;> (try split) <;> omega
/-- Products of an update within its ranges. -/
theorem prod_in {l i t : Int} (hl : 0 ≤ l ∧ l ≤ 499) (hi : 6 ≤ i ∧ i ≤ 3200) : 0 ≤ 2 * (l + 1) * i ∧ 2 * (l + 1) * i ≤ 3200000 := by
  have := mul_bd (a := 2 * (l + 1)) (b := i) (A := 1000) (B := 3200) (by omega) (by omega) (by omega) (by omega)
  have h3 : 0 ≤ 2 * (l + 1) * i := Int.mul_nonneg (by omega) (by omega)
  omega
end Go.Proofs.Ytpoagepchlfemaa.Cn
