/- Two clocks: what the one shows when the other has counted some microseconds. No program is mentioned. -/
import Derived.Test.YtmcpgnmkjebbjaaCnMath
set_option linter.unusedVariables false
namespace Go.Proofs.Ytmcpgnmkjebbjaa.Cn
open Clk

theorem loc_nonneg (p s t : Int) : 0 ≤ loc p s t := by
  have h1 := lim_bd t 0 1099511627776 (by decide)
  have h2 := lim_bd s 0 1099511627776 (by decide)
  have h3 := lim_bd p (-500) 500 (by decide)
  unfold loc
  generalize lim t 0 1099511627776 = T at *
  generalize lim p (-500) 500 = P at *
  have := mul_bd (A := T) (B := 500) h1.1 (Int.le_refl _) (by omega) h3.2
  generalize T * P = x at *
  unfold dn
  omega
theorem mom_loc (p s t : Int) : mom (loc p s t) = loc p s t := lim_in (loc_nonneg p s t) (by have := (loc_bd p s t).2; omega)
/-- A counter of one side that is met within the widening of the other one. -/
theorem meet {pa sa pb sb T r D Z v : Int} (ha : -500 ≤ pa ∧ pa ≤ 500) (hb : -500 ≤ pb ∧ pb ≤ 500) (hT : 0 ≤ T) (hD : 0 < D) (hD2 : D ≤ 40000000) (hZ : D ≤ Z) (hZ2 : Z ≤ 1099511627776)
    (hv : max pa (-pa) + max pb (-pb) ≤ v) (hv2 : v ≤ 1000) (hF : First pa sa (loc pa sa T + D) r) (hr : r < 1099511627776) :
    D - wid v Z ≤ loc pb sb r - loc pb sb T ∧ loc pb sb r - loc pb sb T < D + wid v Z := by
  have h1 := hF.at_ hr
  have hTr : T < r := by
    rcases Int.lt_or_le T r with g | g
    · exact g
    · have := loc_mono pa sa g; omega
  have h2 := hF.below (r - 1) (by omega) (by omega)
  have h3 := (loc_succ pa sa (t := r - 1) (by omega) (by omega)).2
  rw [show r - 1 + 1 = r by omega] at h3
  clear hF
  have e1 := loc_in pa sa (t := r) (by omega) (by omega)
  have e2 := loc_in pa sa (t := T) hT (by omega)
  have e3 := loc_in pb sb (t := r) (by omega) (by omega)
  have e4 := loc_in pb sb (t := T) hT (by omega)
  rw [lim_in ha.1 ha.2] at e1 e2
  rw [lim_in hb.1 hb.2] at e3 e4
  have ea : r * pa = T * pa + (r - T) * pa := by rw [← Int.add_mul]; congr 1; omega
  have eb : r * pb = T * pb + (r - T) * pb := by rw [← Int.add_mul]; congr 1; omega
  have ga := dn_step ea
  have gb := dn_step eb
  obtain ⟨E, hE⟩ : ∃ E, r - T = E := ⟨_, rfl⟩
  rw [hE] at ga gb
  have k1 : E * pa ≤ E * max pa (-pa) := Int.mul_le_mul_of_nonneg_left (by omega) (by omega)
  have k2 : E * (-pa) ≤ E * max pa (-pa) := Int.mul_le_mul_of_nonneg_left (by omega) (by omega)
  have k3 : E * pb ≤ E * max pb (-pb) := Int.mul_le_mul_of_nonneg_left (by omega) (by omega)
  have k4 : E * (-pb) ≤ E * max pb (-pb) := Int.mul_le_mul_of_nonneg_left (by omega) (by omega)
  have k5 : E * max pa (-pa) ≤ E * 500 := Int.mul_le_mul_of_nonneg_left (by omega) (by omega)
  rw [Int.mul_neg] at k2 k4
  have hw : wid v Z = upw (Z * v) + 32 := by unfold wid; rw [lim_in (show 0 ≤ Z by omega) hZ2, lim_in (show 0 ≤ v by omega) hv2]
  rw [hw]
  -- what the drift amounts to over E, by what it amounts to over Z
  have k6 : E * max pa (-pa) + E * max pb (-pb) ≤ E * v := by rw [← Int.mul_add]; exact Int.mul_le_mul_of_nonneg_left hv (by omega)
  have k7 : D * v ≤ Z * v := Int.mul_le_mul_of_nonneg_right hZ (by omega)
  have k8 : E * v = D * v + (E - D) * v := by rw [← Int.add_mul]; congr 1; omega
  have hED : E - D ≤ 20100 := by
    generalize E * max pa (-pa) = A at *
    generalize E * pa = x at *
    generalize dn (T * pa) = d1 at *
    generalize dn (r * pa) = d2 at *
    omega
  have k9 : (E - D) * v ≤ 20100000 := by
    rcases Int.lt_or_le (E - D) 0 with g | g
    · have : (E - D) * v ≤ 0 := Int.mul_nonpos_of_nonpos_of_nonneg (by omega) (by omega)
      omega
    · have := mul_bd (A := 20100) (B := 1000) g hED (show -1000 ≤ v by omega) hv2
      omega
  unfold upw dn at *
  generalize (E - D) * v = F at *
  generalize E * max pa (-pa) = A at *
  generalize E * max pb (-pb) = B at *
  generalize E * pa = x at *
  generalize E * pb = y at *
  generalize E * v = G at *
  generalize D * v = H at *
  generalize Z * v = I at *
  generalize T * pa = t1 at *
  generalize T * pb = t2 at *
  generalize r * pa = t3 at *
  generalize r * pb = t4 at *
  omega
/-- How much both clocks deviate, and more. -/
def dev (pa pb more : Int) : Int := max pa (-pa) + max pb (-pb) + max 0 (min more (1000 - (max pa (-pa) + max pb (-pb))))
theorem dev_bd {pa pb : Int} (more : Int) (ha : -500 ≤ pa ∧ pa ≤ 500) (hb : -500 ≤ pb ∧ pb ≤ 500) : max pa (-pa) + max pb (-pb) ≤ dev pa pb more ∧ dev pa pb more ≤ 1000 := by
  unfold dev; omega
/-- The statement's window of the next packet. -/
theorem meet_window {pa sa pb sb T r n i t more : Int} (ha : -500 ≤ pa ∧ pa ≤ 500) (hb : -500 ≤ pb ∧ pb ≤ 500) (hT : 0 ≤ T) (hn : 1 ≤ n ∧ n ≤ 65536) (hi : 6 ≤ i ∧ i ≤ 3200) (hs : spn n i ≤ lim t 10 3200 * 10000)
    (hF : First pa sa (mom (loc pa sa T) + spn n i) r) (hr : r < 1099511627776) :
    wst (loc pb sb T) (spn (max n 1) i) 0 (dev pa pb more) ≤ loc pb sb r ∧ loc pb sb r < wen (loc pb sb T) (spn (max n 1) i) 0 (dev pa pb more) := by
  have hl := lim_bd t 10 3200 (by decide)
  have hd := dev_bd more ha hb
  rw [mom_loc] at hF
  rw [show max n 1 = n by omega]
  have hp : 7500 ≤ spn n i := by
    unfold spn
    rw [lim_in (by omega) hn.2, lim_in hi.1 hi.2]
    have := Int.mul_le_mul (a := 1) (c := n) (b := 6) (d := i) hn.1 hi.1 (by omega) (by omega)
    omega
  have h := meet ha hb hT (D := spn n i) (Z := spn n i) (v := dev pa pb more) (sb := sb) (by omega) (by omega) (Int.le_refl _) (by omega) hd.1 hd.2 hF hr
  unfold wst wen
  rw [mom_loc, Int.add_zero, Int.add_zero]
  omega
theorem meet_moved {pa sa pb sb T r n i t o s x more : Int} (ha : -500 ≤ pa ∧ pa ≤ 500) (hb : -500 ≤ pb ∧ pb ≤ 500) (hT : 0 ≤ T) (hn : 1 ≤ n ∧ n ≤ 65536) (hi : 6 ≤ i ∧ i ≤ 3200) (hs : spn n i ≤ lim t 10 3200 * 10000)
    (hx : 0 ≤ x ∧ x ≤ lim s 1 8 * 1250) (hF : First pa sa (loc pa sa T + due n i o + x) r) (hr : r < 1099511627776) :
    wst (loc pb sb T) (due n i o) (lim s 1 8 * 1250) (dev pa pb more) ≤ loc pb sb r ∧ loc pb sb r < wen (loc pb sb T) (due n i o) (lim s 1 8 * 1250) (dev pa pb more) := by
  have hl := lim_bd t 10 3200 (by decide)
  have hl2 := lim_bd s 1 8 (by decide)
  have hl3 := lim_bd o 0 3200 (by decide)
  have hd := dev_bd more ha hb
  have hp : 7500 ≤ spn n i := by
    unfold spn
    rw [lim_in (by omega) hn.2, lim_in hi.1 hi.2]
    have := Int.mul_le_mul (a := 1) (c := n) (b := 6) (d := i) hn.1 hi.1 (by omega) (by omega)
    omega
  have hdu : due n i o = spn n i + lim o 0 3200 * 1250 := by unfold due; rw [show max n 1 = n by omega]
  rw [Int.add_assoc] at hF
  have h := meet ha hb hT (D := due n i o + x) (Z := due n i o + lim s 1 8 * 1250) (v := dev pa pb more) (sb := sb) (by omega) (by omega) (by omega) (by omega) hd.1 hd.2 hF hr
  unfold wst wen
  rw [mom_loc]
  omega
end Go.Proofs.Ytmcpgnmkjebbjaa.Cn
