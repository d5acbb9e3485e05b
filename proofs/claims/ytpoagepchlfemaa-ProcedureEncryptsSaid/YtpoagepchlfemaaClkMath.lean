/- Plain arithmetic for the layer of the clocks. No program is mentioned. -/
import Derived.WalkKit
set_option linter.unusedVariables false
namespace Go.Proofs.Ytpoagepchlfemaa.Clk

/-- The number from lo to hi that is nearest to n. -/
def lim (n lo hi : Int) : Int := max lo (min n hi)
theorem lim_bd (n lo hi : Int) (h : lo ≤ hi) : lo ≤ lim n lo hi ∧ lim n lo hi ≤ hi := by unfold lim; omega
theorem lim_in {n lo hi : Int} (h : lo ≤ n) (h' : n ≤ hi) : lim n lo hi = n := by unfold lim; omega
theorem lim_lt {n lo hi : Int} (h : n < lo) (h' : lo ≤ hi) : lim n lo hi = lo := by unfold lim; omega
theorem lim_gt {n lo hi : Int} (h : hi < n) (h' : lo ≤ hi) : lim n lo hi = hi := by unfold lim; omega
theorem lim_eq {n lo hi : Int} (h : lo ≤ hi) : n = lim n lo hi ↔ lo ≤ n ∧ n ≤ hi := by unfold lim; omega

theorem mul_bd {a b A B : Int} (ha : 0 ≤ a) (ha' : a ≤ A) (hb : -B ≤ b) (hb' : b ≤ B) : -(A * B) ≤ a * b ∧ a * b ≤ A * B := by
  have hB : 0 ≤ B := by omega
  have h1 : a * b ≤ a * B := Int.mul_le_mul_of_nonneg_left hb' ha
  have h2 : a * B ≤ A * B := Int.mul_le_mul_of_nonneg_right ha' hB
  have h3 : a * (-B) ≤ a * b := Int.mul_le_mul_of_nonneg_left hb ha
  have h4 : a * (-B) = -(a * B) := Int.mul_neg a B
  omega

/-- Millionths, rounded towards minus infinity. -/
def dn (n : Int) : Int := n / 1000000
theorem dn_bd {n : Int} (h : -549755813888000 ≤ n ∧ n ≤ 1099511627776000) : -549755814 ≤ dn n ∧ dn n ≤ 1099511628 := by unfold dn; omega
theorem tdiv_pos {n : Int} (h : 0 ≤ n) : n.tdiv 1000000 = n / 1000000 ∧ n.tmod 1000000 = n % 1000000 :=
  ⟨Int.tdiv_eq_ediv_of_nonneg h, Int.tmod_eq_emod_of_nonneg h⟩
theorem tdiv_neg {n : Int} (h : n < 0) : n.tdiv 1000000 = -(-n / 1000000) ∧ n.tmod 1000000 = -(-n % 1000000) := by
  have e : n = -(-n) := by omega
  have h1 := @Int.neg_tdiv (-n) 1000000
  have h2 := @Int.neg_tmod (-n) 1000000
  rw [← e] at h1 h2
  rw [h1, h2, Int.tdiv_eq_ediv_of_nonneg (by omega), Int.tmod_eq_emod_of_nonneg (by omega)]
  exact ⟨rfl, rfl⟩
/-- What the truncated division gives, and how it is mended. -/
theorem dn_code (n : Int) : (n.tmod 1000000 < 0 ∧ n.tdiv 1000000 - 1 = dn n) ∨ (¬ n.tmod 1000000 < 0 ∧ n.tdiv 1000000 = dn n) := by
  unfold dn
  rcases Int.lt_or_le n 0 with h | h
  · obtain ⟨e1, e2⟩ := tdiv_neg h
    rw [e1, e2]; omega
  · obtain ⟨e1, e2⟩ := tdiv_pos h
    rw [e1, e2]; omega
/-- Millionths, rounded towards infinity, of a number that is not negative. -/
def upw (n : Int) : Int := -dn (-n)
theorem up_code {n : Int} (h : 0 ≤ n) : (0 < n.tmod 1000000 ∧ n.tdiv 1000000 + 1 = upw n) ∨ (¬ 0 < n.tmod 1000000 ∧ n.tdiv 1000000 = upw n) := by
  unfold upw dn
  obtain ⟨e1, e2⟩ := tdiv_pos h
  rw [e1, e2]; omega

/-- What a clock shows. -/
def loc (p s t : Int) : Int := lim s 0 1099511627776 + lim t 0 1099511627776 + dn (lim t 0 1099511627776 * lim p (-500) 500)
theorem prod_bd (p t : Int) : -549755813888000 ≤ lim t 0 1099511627776 * lim p (-500) 500 ∧ lim t 0 1099511627776 * lim p (-500) 500 ≤ 549755813888000 := by
  have h1 := lim_bd t 0 1099511627776 (by decide)
  have h2 := lim_bd p (-500) 500 (by decide)
  have := mul_bd (A := 1099511627776) (B := 500) h1.1 h1.2 h2.1 h2.2
  omega
theorem loc_bd (p s t : Int) : -549755814 ≤ loc p s t ∧ loc p s t ≤ 2200123011366 := by
  have h1 := lim_bd t 0 1099511627776 (by decide)
  have h2 := lim_bd s 0 1099511627776 (by decide)
  have h3 := prod_bd p t
  have h4 := dn_bd (n := lim t 0 1099511627776 * lim p (-500) 500) (by omega)
  unfold loc
  omega
/-- How two readings of one clock lie. -/
theorem dn_step {x y d : Int} (h : y = x + d) : dn x + d / 1000000 ≤ dn y ∧ dn y ≤ dn x + d / 1000000 + 1 := by unfold dn; omega
theorem loc_in (p s : Int) {t : Int} (h0 : 0 ≤ t) (h1 : t ≤ 1099511627776) : loc p s t = lim s 0 1099511627776 + t + dn (t * lim p (-500) 500) := by
  unfold loc; rw [lim_in h0 h1]
theorem loc_succ (p s : Int) {t : Int} (h0 : 0 ≤ t) (h1 : t < 1099511627776) : loc p s t ≤ loc p s (t + 1) ∧ loc p s (t + 1) ≤ loc p s t + 2 := by
  rw [loc_in p s h0 (by omega), loc_in p s (by omega : 0 ≤ t + 1) (by omega)]
  have h2 := lim_bd p (-500) 500 (by decide)
  generalize lim p (-500) 500 = q at *
  have e : (t + 1) * q = t * q + q := by rw [Int.add_mul, Int.one_mul]
  have := dn_step e
  omega
theorem loc_mono (p s : Int) {t u : Int} (h : t ≤ u) : loc p s t ≤ loc p s u := by
  have h1 := lim_bd t 0 1099511627776 (by decide)
  have h1' := lim_bd u 0 1099511627776 (by decide)
  have h2 := lim_bd p (-500) 500 (by decide)
  have h3 : lim t 0 1099511627776 ≤ lim u 0 1099511627776 := by unfold lim; omega
  unfold loc
  generalize lim t 0 1099511627776 = a at *
  generalize lim u 0 1099511627776 = b at *
  generalize lim p (-500) 500 = q at *
  have hd := mul_bd (a := b - a) (b := q) (A := b - a) (B := 500) (by omega) (Int.le_refl _) h2.1 h2.2
  have e : b * q = a * q + (b - a) * q := by rw [← Int.add_mul]; congr 1; omega
  have := dn_step e
  omega

/-- The widening. -/
def wid (p n : Int) : Int := upw (lim n 0 1099511627776 * lim p 0 1000) + 32
theorem wprod_bd (p n : Int) : 0 ≤ lim n 0 1099511627776 * lim p 0 1000 ∧ lim n 0 1099511627776 * lim p 0 1000 ≤ 1099511627776000 := by
  have h1 := lim_bd n 0 1099511627776 (by decide)
  have h2 := lim_bd p 0 1000 (by decide)
  have := mul_bd (A := 1099511627776) (B := 1000) h1.1 h1.2 (by omega) h2.2
  have := Int.mul_nonneg h1.1 h2.1
  omega
theorem wid_bd (p n : Int) : 32 ≤ wid p n ∧ wid p n ≤ 1099511660 := by
  have := wprod_bd p n
  unfold wid upw dn
  omega

/-- The first time. -/
structure First (p s l r : Int) : Prop where
  lo : 0 ≤ r
  hi : r ≤ 1099511627776
  below : ∀ t, 0 ≤ t → t < r → loc p s t < l
  at_ : r < 1099511627776 → l ≤ loc p s r
theorem First.unique {p s l r r' : Int} (h : First p s l r) (h' : First p s l r') : r = r' := by
  rcases Int.lt_trichotomy r r' with g | g | g
  · have h1 := h'.below r h.lo g
    have h2 := h.at_ (by have := h'.hi; omega)
    omega
  · exact g
  · have h1 := h.below r' h'.lo g
    have h2 := h'.at_ (by have := h.hi; omega)
    omega

/-- How far two clocks drift apart. -/
theorem drift {pa sa pb sb t u : Int} (ha : -500 ≤ pa ∧ pa ≤ 500) (hb : -500 ≤ pb ∧ pb ≤ 500) (h0 : 0 ≤ t) (h1 : t ≤ u) (h2 : u ≤ 1099511627776) :
    -(wid (max pa (-pa) + max pb (-pb)) (u - t)) ≤ loc pa sa u - loc pa sa t - (loc pb sb u - loc pb sb t) ∧
    loc pa sa u - loc pa sa t - (loc pb sb u - loc pb sb t) ≤ wid (max pa (-pa) + max pb (-pb)) (u - t) := by
  rw [loc_in pa sa h0 (by omega), loc_in pa sa (by omega) h2, loc_in pb sb h0 (by omega), loc_in pb sb (by omega) h2]
  rw [lim_in ha.1 ha.2, lim_in hb.1 hb.2]
  unfold wid
  rw [lim_in (show 0 ≤ u - t by omega) (by omega), lim_in (show 0 ≤ max pa (-pa) + max pb (-pb) by omega) (by omega)]
  have ea : u * pa = t * pa + (u - t) * pa := by rw [← Int.add_mul]; congr 1; omega
  have eb : u * pb = t * pb + (u - t) * pb := by rw [← Int.add_mul]; congr 1; omega
  have ga := dn_step ea
  have gb := dn_step eb
  have k1 : (u - t) * pa ≤ (u - t) * max pa (-pa) := Int.mul_le_mul_of_nonneg_left (by omega) (by omega)
  have k2 : (u - t) * (-pa) ≤ (u - t) * max pa (-pa) := Int.mul_le_mul_of_nonneg_left (by omega) (by omega)
  have k3 : (u - t) * pb ≤ (u - t) * max pb (-pb) := Int.mul_le_mul_of_nonneg_left (by omega) (by omega)
  have k4 : (u - t) * (-pb) ≤ (u - t) * max pb (-pb) := Int.mul_le_mul_of_nonneg_left (by omega) (by omega)
  rw [Int.mul_neg] at k2 k4
  rw [Int.mul_add]
  unfold upw
  generalize (u - t) * max pa (-pa) = A at *
  generalize (u - t) * max pb (-pb) = B at *
  generalize (u - t) * pa = x at *
  generalize (u - t) * pb = y at *
  unfold dn at *
  omega
end Go.Proofs.Ytpoagepchlfemaa.Clk
