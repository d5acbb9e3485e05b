/- Plain arithmetic for the layer of wrapping counters: powers of two, lowest bits, distances, sums, and the nearest number with given lowest bits. No program is mentioned. -/
import Derived.WalkKit
set_option linter.unusedVariables false
namespace Go.Proofs.Ytpoagepchlfemaa.Ser

/-- A power of two, kept behind a name. -/
def p2 (k : Nat) : Int := 2 ^ k
theorem p2_pos (k : Nat) : 1 ≤ p2 k := by
  have : (0 : Int) < 2 ^ k := Int.pow_pos (by decide)
  unfold p2; omega
theorem p2_succ (k : Nat) : p2 k * 2 = p2 (k + 1) := by unfold p2; rw [Int.pow_succ]
theorem p2_mono (a b : Nat) (h : a ≤ b) : p2 a ≤ p2 b := by
  obtain ⟨d, rfl⟩ := Nat.exists_eq_add_of_le h
  have h1 := p2_pos a
  have h2 := p2_pos d
  unfold p2 at *
  rw [Int.pow_add]
  have : (2 : Int) ^ a * 1 ≤ 2 ^ a * 2 ^ d := Int.mul_le_mul_of_nonneg_left h2 (by omega)
  omega
theorem p2_63 : p2 63 = 9223372036854775808 := by decide
theorem p2_64 : p2 64 = 18446744073709551616 := by decide
theorem p2_le63 (k : Nat) (h : k ≤ 63) : p2 k ≤ 9223372036854775808 := by
  have := p2_mono k 63 h; rw [p2_63] at this; exact this
theorem p2_le62 (k : Nat) (h : k < 63) : p2 k ≤ 4611686018427387904 := by
  have := p2_mono k 62 (by omega); rw [show p2 62 = 4611686018427387904 by decide] at this; exact this
theorem p2_dvd (k : Nat) (h : k ≤ 64) : ∃ c : Int, p2 k * c = 18446744073709551616 := by
  refine ⟨2 ^ (64 - k), ?_⟩
  unfold p2
  rw [← Int.pow_add, show k + (64 - k) = 64 by omega]; decide

/-- How many bits are kept. -/
def keep (b : Int) : Nat := (max 0 (min b 64)).toNat
theorem keep_le (b : Int) : keep b ≤ 64 := by unfold keep; omega
/-- The lowest bits. -/
def lowZ (n b : Int) : Int := n % p2 (keep b)
theorem lowZ_bd (n b : Int) (h0 : 0 ≤ n) (h1 : n ≤ 18446744073709551615) : 0 ≤ lowZ n b ∧ lowZ n b ≤ n := by
  unfold lowZ
  have h := p2_pos (keep b)
  refine ⟨Int.emod_nonneg _ (by omega), ?_⟩
  by_cases hn : n < p2 (keep b)
  · rw [Int.emod_eq_of_lt h0 hn]; omega
  · have := Int.emod_lt_of_pos n (show 0 < p2 (keep b) by omega); omega

theorem and_mask (n : Int) (k : Nat) (hk : k ≤ 64) (h0 : 0 ≤ n) (h1 : n ≤ 18446744073709551615) :
    bits BinOp.and IntKind.u64 n (IntKind.u64.wrap (IntKind.u64.wrap (2 ^ k) - 1)) = n % p2 k := by
  have hp := p2_pos k
  by_cases h : k = 64
  · subst h
    rw [show IntKind.u64.wrap (IntKind.u64.wrap (2 ^ 64) - 1) = 18446744073709551615 by decide, u64_and n _ h0 (by omega) (by decide) (by decide)]
    have e : n.toNat &&& (18446744073709551615 : Int).toNat = n.toNat % 2 ^ 64 := Nat.and_two_pow_sub_one_eq_mod n.toNat 64
    rw [e, p2_64]; omega
  · have hm := p2_le63 k (by omega)
    have e1 : IntKind.u64.wrap (2 ^ k) = p2 k := IntWalk.u64_in _ (by unfold p2 at *; omega)
    have e2 : IntKind.u64.wrap (p2 k - 1) = p2 k - 1 := IntWalk.u64_in _ (by omega)
    rw [e1, e2, u64_and n _ h0 (by omega) (by omega) (by omega)]
    have ep : p2 k = ((2 ^ k : Nat) : Int) := by unfold p2; simp
    have ek : (p2 k - 1).toNat = 2 ^ k - 1 := by rw [ep]; omega
    rw [ek, Nat.and_two_pow_sub_one_eq_mod, ep]
    obtain ⟨m, rfl⟩ := Int.eq_ofNat_of_zero_le h0
    simp

theorem low_code (n b : Int) (h0 : 0 ≤ n) (h1 : n ≤ 18446744073709551615) :
    bits BinOp.and IntKind.u64 n (IntKind.u64.wrap (IntKind.u64.wrap (2 ^ (max 0 (min b 64)).toNat) - 1)) = lowZ n b :=
  and_mask n _ (keep_le b) h0 h1
theorem low_neg (n b : Int) (h : b < 0) : lowZ n b = 0 := by
  unfold lowZ
  rw [show keep b = 0 by unfold keep; omega, show p2 0 = 1 by decide]; omega
theorem low_all (n b : Int) (h : 63 < b) (h0 : 0 ≤ n) (h1 : n ≤ 18446744073709551615) : lowZ n b = n := by
  unfold lowZ
  rw [show keep b = 64 by unfold keep; omega, p2_64]; omega
theorem low_mid (n b : Int) (h : 0 ≤ b) (h' : b ≤ 63) : lowZ n b = n % p2 b.toNat := by
  unfold lowZ
  rw [show keep b = b.toNat by unfold keep; omega]

/-- The distance. -/
def diffZ (a b : Int) : Int := (b - a + 32768) % 65536 - 32768
/-- The sum. -/
def addZ (a n : Int) : Int := (a + n) % 65536
/-- Whether a number is on the way. -/
def betweenB (a b c : Int) : Bool := decide ((c - a) % 65536 ≤ (b - a) % 65536)
def passedB (now inst : Int) : Bool := decide (0 ≤ diffZ inst now)

theorem wrap_u16 (n : Int) : IntKind.u16.wrap n = n % 65536 := by simp [IntKind.wrap, IntKind.bits, IntKind.signed]
theorem wrap_i16 (n : Int) (h : 0 ≤ n ∧ n ≤ 65535) : IntKind.i16.wrap n = (n + 32768) % 65536 - 32768 := by
  simp only [IntKind.wrap, IntKind.bits, IntKind.signed]; simp; split <;> omega
theorem diff_code (a b : Int) (h0 : 0 ≤ a ∧ a ≤ 65535) (h1 : 0 ≤ b ∧ b ≤ 65535) : RowKit.wrap64 (IntKind.i16.wrap (IntKind.u16.wrap (b - a))) = diffZ a b := by
  rw [wrap_u16, wrap_i16 _ (by omega), IntWalk.wrap64_in _ (by omega)]; unfold diffZ; omega
theorem add_code (a n : Int) : IntKind.u16.wrap (a + IntKind.u16.wrap n) = addZ a n := by
  rw [wrap_u16, wrap_u16]; unfold addZ; omega
theorem tmod_bd (n : Int) : -65536 < n.tmod 65536 ∧ n.tmod 65536 < 65536 := by
  have h1 := Int.tmod_lt_of_pos n (show (0 : Int) < 65536 by decide)
  have h2 := Int.lt_tmod_of_pos n (show (0 : Int) < 65536 by decide)
  omega
theorem radd_code (a n : Int) (h : 0 ≤ a) : IntKind.u16.wrap ((a + n.tmod 65536 + 65536) % 65536) = addZ a n := by
  rw [wrap_u16]; unfold addZ
  have h1 := Int.tmod_add_mul_tdiv n 65536
  generalize n.tmod 65536 = m at *
  generalize n.tdiv 65536 = c at *
  omega
theorem between_code (a b c : Int) : decide (IntKind.u16.wrap (c - a) ≤ IntKind.u16.wrap (b - a)) = betweenB a b c := by
  rw [wrap_u16, wrap_u16]; rfl
theorem diffZ_bd (a b : Int) : -32768 ≤ diffZ a b ∧ diffZ a b ≤ 32767 := by unfold diffZ; omega
theorem addZ_bd (a b : Int) : 0 ≤ addZ a b ∧ addZ a b ≤ 65535 := by unfold addZ; omega
theorem add_diff (a b : Int) (h1 : 0 ≤ b ∧ b ≤ 65535) : addZ a (diffZ a b) = b := by unfold addZ diffZ; omega
/-- The distance of two numbers. -/
def dst (x last : Int) : Int := max x last - min x last
theorem dst_hi {x last : Int} (h : last ≤ x) : dst x last = x - last := by unfold dst; omega
theorem dst_lo {x last : Int} (h : x ≤ last) : dst x last = last - x := by unfold dst; omega
theorem dst_comm (x y : Int) : dst x y = dst y x := by unfold dst; omega
/-- Whether n is to be preferred to m as the neighbour of last. -/
def nearB (n m last : Int) : Bool := decide (dst n last < dst m last) || (decide (dst n last = dst m last) && decide (m < n))
theorem near_lt {n m last : Int} (h : dst n last < dst m last) : true = nearB n m last := by unfold nearB; simp [h]
theorem near_eq {n m last : Int} (h : dst n last = dst m last) : decide (m < n) = nearB n m last := by unfold nearB; simp [h]
theorem near_no {n m last : Int} (h : dst m last ≤ dst n last) (h' : ¬ dst n last = dst m last) : false = nearB n m last := by unfold nearB; simp [h']; omega
theorem ret_int {k : IntKind} {a b : Int} (h : a = b) : Ending.returned (.int k a) = .returned (.int k b) := by rw [h]
theorem ret_bool {a b : Bool} (h : a = b) : Ending.returned (.bool a) = .returned (.bool b) := by rw [h]

/-- The nearest number with the lowest bits of low, 2^64 not reached. q: what is above the lowest bits of last; r, l: the lowest bits of last and of low; p: the power. -/
def bestZ (q r l p : Int) : Int :=
  if l ≤ r then (if q + p < 18446744073709551616 ∧ l + p - r ≤ r - l then q + l + p else q + l)
  else (if 0 < q ∧ r - l + p < l - r then q + l - p else q + l)
def kp (b : Int) : Nat := (max 1 (min b 63)).toNat
theorem kp_bd (b : Int) : 1 ≤ kp b ∧ kp b ≤ 63 := by unfold kp; omega
def extZ (last low b : Int) : Int := bestZ (last - last % p2 (kp b)) (last % p2 (kp b)) (low % p2 (kp b)) (p2 (kp b))

/-- What is known of the parts: all linear. -/
structure Parts (last low q r l p : Int) : Prop where
  p2 : 2 ≤ p
  pm : p ≤ 9223372036854775808
  r0 : 0 ≤ r
  rp : r < p
  l0 : 0 ≤ l
  lp : l < p
  q0 : 0 ≤ q
  qp : q = 0 ∨ p ≤ q
  qm : q + p = 18446744073709551616 ∨ q + p + p ≤ 18446744073709551616
  e : last = q + r
theorem parts (last low b : Int) (h0 : 0 ≤ last) (h1 : last ≤ 18446744073709551615) :
    Parts last low (last - last % p2 (kp b)) (last % p2 (kp b)) (low % p2 (kp b)) (p2 (kp b)) := by
  have hk := kp_bd b
  have hp1 : 2 ≤ p2 (kp b) := by have := p2_mono 1 (kp b) hk.1; rw [show p2 1 = 2 by decide] at this; exact this
  have hp2 := p2_le63 (kp b) hk.2
  obtain ⟨c, hc⟩ := p2_dvd (kp b) (by omega)
  generalize p2 (kp b) = p at *
  have hr0 := Int.emod_nonneg last (show p ≠ 0 by omega)
  have hr1 := Int.emod_lt_of_pos last (show 0 < p by omega)
  have hl0 := Int.emod_nonneg low (show p ≠ 0 by omega)
  have hl1 := Int.emod_lt_of_pos low (show 0 < p by omega)
  have hq : last - last % p = p * (last / p) := by have := Int.mul_ediv_add_emod last p; omega
  have hd0 : 0 ≤ last / p := Int.ediv_nonneg h0 (by omega)
  have hdc : last / p < c := by
    refine Int.lt_of_mul_lt_mul_left (a := p) ?_ (by omega)
    omega
  rw [hq]
  generalize hm : last / p = m at *
  have hmp : 0 ≤ p * m := Int.mul_nonneg (by omega) hd0
  refine ⟨hp1, hp2, hr0, hr1, hl0, hl1, hmp, ?_, ?_, by omega⟩
  · by_cases h : m = 0
    · left; rw [h]; simp
    · right
      have : p * 1 ≤ p * m := Int.mul_le_mul_of_nonneg_left (by omega) (by omega)
      omega
  · by_cases h : m + 1 = c
    · left
      have : p * (m + 1) = p * c := by rw [h]
      rw [Int.mul_add] at this; omega
    · right
      have : p * (m + 1 + 1) ≤ p * c := Int.mul_le_mul_of_nonneg_left (by omega) (by omega)
      rw [Int.mul_add, Int.mul_add] at this; omega
theorem best_bd {last low q r l p : Int} (h : Parts last low q r l p) : 0 ≤ bestZ q r l p ∧ bestZ q r l p ≤ 18446744073709551615 := by
  obtain ⟨a1, a2, a3, a4, a5, a6, a7, a8, a9, a10⟩ := h
  unfold bestZ
  split <;> split <;> omega
theorem wrap_u64 (n : Int) : IntKind.u64.wrap n = n % 18446744073709551616 := IntKind.wrap_u64 n
/-- The preferred one of two. -/
def pick (n m last : Int) : Int := if nearB n m last = true then n else m
theorem pick_yes {n m last : Int} (h : nearB n m last = true) : pick n m last = n := by unfold pick; rw [if_pos h]
theorem pick_no {n m last : Int} (h : nearB n m last = false) : pick n m last = m := by unfold pick; rw [if_neg (by rw [h]; decide)]
theorem pick_spec (n m last : Int) : ((dst n last < dst m last ∨ (dst n last = dst m last ∧ m < n)) ∧ pick n m last = n) ∨
    (¬ (dst n last < dst m last ∨ (dst n last = dst m last ∧ m < n)) ∧ pick n m last = m) := by
  cases h : nearB n m last
  · right
    refine ⟨?_, pick_no h⟩
    intro hc
    have : nearB n m last = true := by unfold nearB; simpa using hc
    rw [h] at this; cases this
  · left
    refine ⟨?_, pick_yes h⟩
    unfold nearB at h; simpa using h
theorem pick_all {last q r l p A C : Int} (a1 : 2 ≤ p) (a2 : p ≤ 9223372036854775808) (a3 : 0 ≤ r) (a4 : r < p) (a5 : 0 ≤ l) (a6 : l < p) (a7 : 0 ≤ q) (a8 : q = 0 ∨ p ≤ q)
    (a9 : q + p = 18446744073709551616 ∨ q + p + p ≤ 18446744073709551616) (a10 : last = q + r)
    (hA : (q = 0 ∧ A = 18446744073709551616 + l - p) ∨ (¬ q = 0 ∧ A = q + l - p))
    (hC : (q + p = 18446744073709551616 ∧ C = l) ∨ (¬ q + p = 18446744073709551616 ∧ C = q + l + p)) :
    pick C (pick (q + l) (pick A (q + l) last) last) last = bestZ q r l p := by
  have dS : (l ≤ r ∧ dst (q + l) last = r - l) ∨ (r < l ∧ dst (q + l) last = l - r) := by
    by_cases h : l ≤ r
    · exact .inl ⟨h, by rw [dst_lo (by omega)]; omega⟩
    · exact .inr ⟨by omega, by rw [dst_hi (by omega)]; omega⟩
  have dA : (q = 0 ∧ dst A last = 18446744073709551616 + l - p - r) ∨ (¬ q = 0 ∧ dst A last = r - l + p) := by
    rcases hA with ⟨c1, c2⟩ | ⟨c1, c2⟩
    · exact .inl ⟨c1, by rw [dst_hi (by omega)]; omega⟩
    · exact .inr ⟨c1, by rw [dst_lo (by omega)]; omega⟩
  have dC : (q + p = 18446744073709551616 ∧ dst C last = q + r - l) ∨ (¬ q + p = 18446744073709551616 ∧ dst C last = l + p - r) := by
    rcases hC with ⟨c1, c2⟩ | ⟨c1, c2⟩
    · exact .inl ⟨c1, by rw [dst_lo (by omega)]; omega⟩
    · exact .inr ⟨c1, by rw [dst_hi (by omega)]; omega⟩
  have hb : (l ≤ r ∧ q + p < 18446744073709551616 ∧ l + p - r ≤ r - l ∧ bestZ q r l p = q + l + p) ∨ (l ≤ r ∧ ¬ (q + p < 18446744073709551616 ∧ l + p - r ≤ r - l) ∧ bestZ q r l p = q + l) ∨
      (¬ l ≤ r ∧ 0 < q ∧ r - l + p < l - r ∧ bestZ q r l p = q + l - p) ∨ (¬ l ≤ r ∧ ¬ (0 < q ∧ r - l + p < l - r) ∧ bestZ q r l p = q + l) := by
    unfold bestZ
    by_cases c1 : l ≤ r
    · by_cases c2 : q + p < 18446744073709551616 ∧ l + p - r ≤ r - l
      · left; exact ⟨c1, c2.1, c2.2, by rw [if_pos c1, if_pos c2]⟩
      · right; left; exact ⟨c1, c2, by rw [if_pos c1, if_neg c2]⟩
    · by_cases c2 : 0 < q ∧ r - l + p < l - r
      · right; right; left; exact ⟨c1, c2.1, c2.2, by rw [if_neg c1, if_pos c2]⟩
      · right; right; right; exact ⟨c1, c2, by rw [if_neg c1, if_neg c2]⟩
  generalize bestZ q r l p = y at *
  have k1 := pick_spec A (q + l) last
  have k3 := pick_spec C (pick (q + l) (pick A (q + l) last) last) last
  have k2 := pick_spec (q + l) (pick A (q + l) last) last
  rcases k1 with ⟨e1, e2⟩ | ⟨e1, e2⟩ <;> rw [e2] at k2 k3 ⊢ <;> clear e2 <;> rcases k2 with ⟨f1, f2⟩ | ⟨f1, f2⟩ <;> rw [f2] at k3 ⊢ <;> clear f2 <;> rcases k3 with ⟨g1, g2⟩ | ⟨g1, g2⟩ <;> rw [g2] <;> clear g2 <;>
    generalize dst A last = tA at * <;> generalize dst C last = tC at * <;> generalize dst (q + l) last = tS at * <;> clear a10 <;>
    rcases hb with ⟨b1, b2, b3, b4⟩ | ⟨b1, b2, b4⟩ | ⟨b1, b2, b3, b4⟩ | ⟨b1, b2, b4⟩ <;> omega
/-- What the specification takes: the facts on the three numbers, and on the result. -/
theorem best_facts {last low q r l p C : Int} (h : Parts last low q r l p) (hC : IntKind.u64.wrap (q + l + p) = C) :
    ((l ≤ r ∧ dst (q + l) last = r - l) ∨ (r < l ∧ dst (q + l) last = l - r)) ∧ (q = 0 ∨ dst (q + l - p) last = r - l + p) ∧
    ((q + p = 18446744073709551616 ∧ C = l) ∨ (¬ q + p = 18446744073709551616 ∧ C = q + l + p ∧ dst C last = l + p - r)) ∧
    ((l ≤ r ∧ q + p < 18446744073709551616 ∧ l + p - r ≤ r - l ∧ bestZ q r l p = q + l + p) ∨ (l ≤ r ∧ ¬ (q + p < 18446744073709551616 ∧ l + p - r ≤ r - l) ∧ bestZ q r l p = q + l) ∨
      (¬ l ≤ r ∧ 0 < q ∧ r - l + p < l - r ∧ bestZ q r l p = q + l - p) ∨ (¬ l ≤ r ∧ ¬ (0 < q ∧ r - l + p < l - r) ∧ bestZ q r l p = q + l)) := by
  obtain ⟨a1, a2, a3, a4, a5, a6, a7, a8, a9, a10⟩ := h
  rw [wrap_u64] at hC
  refine ⟨?_, ?_, ?_, ?_⟩
  · by_cases h : l ≤ r
    · exact .inl ⟨h, by rw [dst_lo (by omega)]; omega⟩
    · exact .inr ⟨by omega, by rw [dst_hi (by omega)]; omega⟩
  · by_cases h : q = 0
    · exact .inl h
    · exact .inr (by rw [dst_lo (by omega)]; omega)
  · by_cases h : q + p = 18446744073709551616
    · exact .inl ⟨h, by omega⟩
    · exact .inr ⟨h, by omega, by rw [dst_hi (by omega)]; omega⟩
  · unfold bestZ
    by_cases c1 : l ≤ r
    · by_cases c2 : q + p < 18446744073709551616 ∧ l + p - r ≤ r - l
      · left; exact ⟨c1, c2.1, c2.2, by rw [if_pos c1, if_pos c2]⟩
      · right; left; exact ⟨c1, c2, by rw [if_pos c1, if_neg c2]⟩
    · by_cases c2 : 0 < q ∧ r - l + p < l - r
      · right; right; left; exact ⟨c1, c2.1, c2.2, by rw [if_neg c1, if_pos c2]⟩
      · right; right; right; exact ⟨c1, c2, by rw [if_neg c1, if_neg c2]⟩
theorem pick_code {last low q r l p : Int} (h : Parts last low q r l p) :
    pick (IntKind.u64.wrap (q + l + p)) (pick (q + l) (pick (IntKind.u64.wrap (q + l - p)) (q + l) last) last) last = bestZ q r l p := by
  obtain ⟨a1, a2, a3, a4, a5, a6, a7, a8, a9, a10⟩ := h
  rw [wrap_u64, wrap_u64]
  refine pick_all a1 a2 a3 a4 a5 a6 a7 a8 a9 a10 ?_ ?_
  · omega
  · omega
theorem kp_in (b : Int) (h : 1 ≤ b ∧ b ≤ 63) : kp b = b.toNat := by unfold kp; omega
theorem near_ext {last low n b : Int} (h0 : 0 ≤ last ∧ last ≤ 18446744073709551615) (h1 : 0 ≤ n ∧ n ≤ 18446744073709551615) (hb : 1 ≤ b ∧ b ≤ 63) (hlow : low % p2 (kp b) = n % p2 (kp b))
    (hd : dst n last < p2 (b - 1).toNat) : extZ last low b = n := by
  have hp2 : p2 (b - 1).toNat * 2 = p2 (kp b) := by rw [p2_succ, kp_in b hb]; congr 1; omega
  have hP := parts last low b h0.1 h0.2
  unfold extZ
  rw [hlow] at hP ⊢
  have hn := parts n low b h1.1 h1.2
  obtain ⟨m, hm⟩ : ∃ m, last - last % p2 (kp b) = p2 (kp b) * m := ⟨last / p2 (kp b), by have := Int.mul_ediv_add_emod last (p2 (kp b)); omega⟩
  obtain ⟨k, hk⟩ : ∃ k, n - n % p2 (kp b) = p2 (kp b) * k := ⟨n / p2 (kp b), by have := Int.mul_ediv_add_emod n (p2 (kp b)); omega⟩
  generalize p2 (b - 1).toNat = hf at *
  generalize p2 (kp b) = p at *
  generalize last % p = r at *
  generalize n % p = l at *
  obtain ⟨a1, a2, a3, a4, a5, a6, a7, a8, a9, a10⟩ := hP
  obtain ⟨t, ht⟩ : ∃ t, t = k - m := ⟨_, rfl⟩
  have hkm : p * k = p * m + p * t := by rw [ht, Int.mul_sub]; omega
  have hdd : -hf < n - last ∧ n - last < hf := by
    by_cases h : last ≤ n
    · rw [dst_hi h] at hd; omega
    · rw [dst_lo (by omega)] at hd; omega
  have ht3 : t = -1 ∨ t = 0 ∨ t = 1 := by
    have u1 : t ≤ 1 := by
      by_cases h : t ≤ 1
      · exact h
      · have : p * 2 ≤ p * t := Int.mul_le_mul_of_nonneg_left (by omega) (by omega)
        omega
    have u2 : -1 ≤ t := by
      by_cases h : -1 ≤ t
      · exact h
      · have : p * t ≤ p * (-2) := Int.mul_le_mul_of_nonneg_left (by omega) (by omega)
        omega
    omega
  have hpt : (t = -1 ∧ p * t = -p) ∨ (t = 0 ∧ p * t = 0) ∨ (t = 1 ∧ p * t = p) := by
    rcases ht3 with h | h | h <;> subst h
    · exact .inl ⟨rfl, by omega⟩
    · exact .inr (.inl ⟨rfl, by omega⟩)
    · exact .inr (.inr ⟨rfl, by omega⟩)
  generalize p * t = pt at *
  generalize p * m = pm at *
  generalize p * k = pk at *
  unfold bestZ
  rcases hpt with ⟨_, h⟩ | ⟨_, h⟩ | ⟨_, h⟩
  · rw [if_neg (by omega), if_pos (by omega)]; omega
  · by_cases c : l ≤ r
    · rw [if_pos c, if_neg (by omega)]; omega
    · rw [if_neg c, if_neg (by omega)]; omega
  · rw [if_pos (by omega), if_pos (by omega)]; omega
theorem near_low {last n b : Int} (h0 : 0 ≤ last ∧ last ≤ 18446744073709551615) (h1 : 0 ≤ n ∧ n ≤ 18446744073709551615) (hb : 1 ≤ b ∧ b ≤ 63)
    (hd : dst n last < p2 (b - 1).toNat) : extZ last (lowZ n b) b = n := by
  refine near_ext h0 h1 hb ?_ hd
  have : keep b = kp b := by unfold keep kp; omega
  unfold lowZ; rw [this, Int.emod_emod]
theorem near_self {last n b : Int} (h0 : 0 ≤ last ∧ last ≤ 18446744073709551615) (h1 : 0 ≤ n ∧ n ≤ 18446744073709551615) (hb : 1 ≤ b ∧ b ≤ 63)
    (hd : dst n last < p2 (b - 1).toNat) : extZ last n b = n := near_ext h0 h1 hb rfl hd
theorem instants {e a l : Int} (h0 : 0 ≤ e ∧ e ≤ 65535) (ha : 0 ≤ a ∧ a ≤ 32767) (hl : 0 ≤ l ∧ l ≤ 32767) : passedB (addZ e l) (addZ e a) = decide (a ≤ l) := by
  unfold passedB
  have : (0 ≤ diffZ (addZ e a) (addZ e l)) ↔ a ≤ l := by unfold diffZ addZ; omega
  simp [this]
theorem keep_kp (b : Int) : keep (max 1 (min b 63)) = kp b := by unfold keep kp; omega
theorem lowZ_kp (n b : Int) : lowZ n (max 1 (min b 63)) = n % p2 (kp b) := by unfold lowZ; rw [keep_kp]
theorem shl_kp (b : Int) : IntKind.u64.wrap (2 ^ (max 1 (min b 63)).toNat) = p2 (kp b) := by
  have h1 := kp_bd b
  have h2 := p2_le63 (kp b) h1.2
  have h3 := p2_pos (kp b)
  exact IntWalk.u64_in _ ⟨by unfold p2 kp at *; omega, by unfold p2 kp at *; omega⟩
end Go.Proofs.Ytpoagepchlfemaa.Ser
