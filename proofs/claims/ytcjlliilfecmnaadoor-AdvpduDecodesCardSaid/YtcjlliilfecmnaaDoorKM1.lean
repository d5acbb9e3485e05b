/- Plain arithmetic for the layer of wrapping counters: powers of two, lowest bits, distances, sums, and the nearest number with given lowest bits. No program is mentioned. Words for memory: a slice that reads as a list of integers (nil and empty ones among them), kept over what a call writes elsewhere; append onto a row of the call's own from any such slice. No program is mentioned. Plain arithmetic for the layer of the clocks. No program is mentioned. What each function of the layer of the clocks returns: contracts over the program. What a clock shows, and the first time at which it shows something: contracts over the program. The first time at which a clock shows something: contracts over the program. The statements on the clocks, walked: each returns true. Plain arithmetic for the layer of connections. No program is mentioned. -/
import Derived.WalkKit
import Derived.Laws.AppendOwnNone
import Derived.Laws.BytesArg
import Derived.Deep.RegionLaw
import Derived.Test.YtcjlliilfecmnaaDoorProg
import Derived.Lib.MinMax
import Derived.Lib.Hide
import Derived.BigQuiet
import Derived.Deep.QuietTactic
import Derived.WalkSpells
import Derived.Deep.RegionHeld3
import Derived.Deep.RegionWith
section
set_option linter.unusedVariables false
namespace Go.Proofs.YtcjlliilfecmnaaDoor.Ser

/-- A power of two, kept behind a name. -/
def p2 (k : Nat) : Int := 2 ^ k
theorem p2_pos (k : Nat) : 1 ≤ p2 k := by
  have : (0 : Int) < 2 ^ k := Int.pow_pos (by decide)
  unfold p2; omega
theorem p2_succ (k : Nat) : p2 k * 2 = p2 (k + 1) := by unfold p2; rw [Int.pow_succ]
theorem p2_mono (a b : Nat) (h : a ≤ b) : p2 a ≤ p2 b := by
  obtain ⟨d, rfl⟩ := Nat.exists_eq_add_of_le h
  have h1 := p2_pos a
  have h2 := p2_pos d
  unfold p2 at *
  rw [Int.pow_add]
  have : (2 : Int) ^ a * 1 ≤ 2 ^ a * 2 ^ d := Int.mul_le_mul_of_nonneg_left h2 (by omega)
  omega
theorem p2_63 : p2 63 = 9223372036854775808 := by decide
theorem p2_64 : p2 64 = 18446744073709551616 := by decide
theorem p2_le63 (k : Nat) (h : k ≤ 63) : p2 k ≤ 9223372036854775808 := by
  have := p2_mono k 63 h; rw [p2_63] at this; exact this
theorem p2_le62 (k : Nat) (h : k < 63) : p2 k ≤ 4611686018427387904 := by
  have := p2_mono k 62 (by omega); rw [show p2 62 = 4611686018427387904 by decide] at this; exact this
theorem p2_dvd (k : Nat) (h : k ≤ 64) : ∃ c : Int, p2 k * c = 18446744073709551616 := by
  refine ⟨2 ^ (64 - k), ?_⟩
  unfold p2
  rw [← Int.pow_add, show k + (64 - k) = 64 by omega]; decide

/-- How many bits are kept. -/
def keep (b : Int) : Nat := (max 0 (min b 64)).toNat
theorem keep_le (b : Int) : keep b ≤ 64 := by unfold keep; omega
/-- The lowest bits. -/
def lowZ (n b : Int) : Int := n % p2 (keep b)
theorem lowZ_bd (n b : Int) (h0 : 0 ≤ n) (h1 : n ≤ 18446744073709551615) : 0 ≤ lowZ n b ∧ lowZ n b ≤ n := by
  unfold lowZ
  have h := p2_pos (keep b)
  refine ⟨Int.emod_nonneg _ (by omega), ?_⟩
  by_cases hn : n < p2 (keep b)
  · rw [Int.emod_eq_of_lt h0 hn]; omega
  · have := Int.emod_lt_of_pos n (show 0 < p2 (keep b) by omega); omega

theorem and_mask (n : Int) (k : Nat) (hk : k ≤ 64) (h0 : 0 ≤ n) (h1 : n ≤ 18446744073709551615) :
    bits BinOp.and IntKind.u64 n (IntKind.u64.wrap (IntKind.u64.wrap (2 ^ k) - 1)) = n % p2 k := by
  have hp := p2_pos k
  by_cases h : k = 64
  · subst h
    rw [show IntKind.u64.wrap (IntKind.u64.wrap (2 ^ 64) - 1) = 18446744073709551615 by decide, u64_and n _ h0 (by omega) (by decide) (by decide)]
    have e : n.toNat &&& (18446744073709551615 : Int).toNat = n.toNat % 2 ^ 64 := Nat.and_two_pow_sub_one_eq_mod n.toNat 64
    rw [e, p2_64]; omega
  · have hm := p2_le63 k (by omega)
    have e1 : IntKind.u64.wrap (2 ^ k) = p2 k := IntWalk.u64_in _ (by unfold p2 at *; omega)
    have e2 : IntKind.u64.wrap (p2 k - 1) = p2 k - 1 := IntWalk.u64_in _ (by omega)
    rw [e1, e2, u64_and n _ h0 (by omega) (by omega) (by omega)]
    have ep : p2 k = ((2 ^ k : Nat) : Int) := by unfold p2; simp
    have ek : (p2 k - 1).toNat = 2 ^ k - 1 := by rw [ep]; omega
    rw [ek, Nat.and_two_pow_sub_one_eq_mod, ep]
    obtain ⟨m, rfl⟩ := Int.eq_ofNat_of_zero_le h0
    simp

theorem low_code (n b : Int) (h0 : 0 ≤ n) (h1 : n ≤ 18446744073709551615) :
    bits BinOp.and IntKind.u64 n (IntKind.u64.wrap (IntKind.u64.wrap (2 ^ (max 0 (min b 64)).toNat) - 1)) = lowZ n b :=
  and_mask n _ (keep_le b) h0 h1
theorem low_neg (n b : Int) (h : b < 0) : lowZ n b = 0 := by
  unfold lowZ
  rw [show keep b = 0 by unfold keep; omega, show p2 0 = 1 by decide]; omega
theorem low_all (n b : Int) (h : 63 < b) (h0 : 0 ≤ n) (h1 : n ≤ 18446744073709551615) : lowZ n b = n := by
  unfold lowZ
  rw [show keep b = 64 by unfold keep; omega, p2_64]; omega
theorem low_mid (n b : Int) (h : 0 ≤ b) (h' : b ≤ 63) : lowZ n b = n % p2 b.toNat := by
  unfold lowZ
  rw [show keep b = b.toNat by unfold keep; omega]

/-- The distance. -/
def diffZ (a b : Int) : Int := (b - a + 32768) % 65536 - 32768
/-- The sum. -/
def addZ (a n : Int) : Int := (a + n) % 65536
/-- Whether a number is on the way. -/
def betweenB (a b c : Int) : Bool := decide ((c - a) % 65536 ≤ (b - a) % 65536)
def passedB (now inst : Int) : Bool := decide (0 ≤ diffZ inst now)

theorem wrap_u16 (n : Int) : IntKind.u16.wrap n = n % 65536 := by simp [IntKind.wrap, IntKind.bits, IntKind.signed]
theorem wrap_i16 (n : Int) (h : 0 ≤ n ∧ n ≤ 65535) : IntKind.i16.wrap n = (n + 32768) % 65536 - 32768 := by
  simp only [IntKind.wrap, IntKind.bits, IntKind.signed]; simp; split <;> omega
theorem diff_code (a b : Int) (h0 : 0 ≤ a ∧ a ≤ 65535) (h1 : 0 ≤ b ∧ b ≤ 65535) : RowKit.wrap64 (IntKind.i16.wrap (IntKind.u16.wrap (b - a))) = diffZ a b := by
  rw [wrap_u16, wrap_i16 _ (by omega), IntWalk.wrap64_in _ (by omega)]; unfold diffZ; omega
theorem add_code (a n : Int) : IntKind.u16.wrap (a + IntKind.u16.wrap n) = addZ a n := by
  rw [wrap_u16, wrap_u16]; unfold addZ; omega
theorem tmod_bd (n : Int) : -65536 < n.tmod 65536 ∧ n.tmod 65536 < 65536 := by
  have h1 := Int.tmod_lt_of_pos n (show (0 : Int) < 65536 by decide)
  have h2 := Int.lt_tmod_of_pos n (show (0 : Int) < 65536 by decide)
  omega
theorem radd_code (a n : Int) (h : 0 ≤ a) : IntKind.u16.wrap ((a + n.tmod 65536 + 65536) % 65536) = addZ a n := by
  rw [wrap_u16]; unfold addZ
  have h1 := Int.tmod_add_mul_tdiv n 65536
  generalize n.tmod 65536 = m at *
  generalize n.tdiv 65536 = c at *
  omega
theorem between_code (a b c : Int) : decide (IntKind.u16.wrap (c - a) ≤ IntKind.u16.wrap (b - a)) = betweenB a b c := by
  rw [wrap_u16, wrap_u16]; rfl
theorem diffZ_bd (a b : Int) : -32768 ≤ diffZ a b ∧ diffZ a b ≤ 32767 := by unfold diffZ; omega
theorem addZ_bd (a b : Int) : 0 ≤ addZ a b ∧ addZ a b ≤ 65535 := by unfold addZ; omega
theorem add_diff (a b : Int) (h1 : 0 ≤ b ∧ b ≤ 65535) : addZ a (diffZ a b) = b := by unfold addZ diffZ; omega
/-- The distance of two numbers. -/
def dst (x last : Int) : Int := max x last - min x last
theorem dst_hi {x last : Int} (h : last ≤ x) : dst x last = x - last := by unfold dst; omega
theorem dst_lo {x last : Int} (h : x ≤ last) : dst x last = last - x := by unfold dst; omega
theorem dst_comm (x y : Int) : dst x y = dst y x := by unfold dst; omega
/-- Whether n is to be preferred to m as the neighbour of last. -/
def nearB (n m last : Int) : Bool := decide (dst n last < dst m last) || (decide (dst n last = dst m last) && decide (m < n))
theorem near_lt {n m last : Int} (h : dst n last < dst m last) : true = nearB n m last := by unfold nearB; simp [h]
theorem near_eq {n m last : Int} (h : dst n last = dst m last) : decide (m < n) = nearB n m last := by unfold nearB; simp [h]
theorem near_no {n m last : Int} (h : dst m last ≤ dst n last) (h' : ¬ dst n last = dst m last) : false = nearB n m last := by unfold nearB; simp [h']; omega
theorem ret_int {k : IntKind} {a b : Int} (h : a = b) : Ending.returned (.int k a) = .returned (.int k b) := by rw [h]
theorem ret_bool {a b : Bool} (h : a = b) : Ending.returned (.bool a) = .returned (.bool b) := by rw [h]

/-- The nearest number with the lowest bits of low, 2^64 not reached. q: what is above the lowest bits of last; r, l: the lowest bits of last and of low; p: the power. -/
def bestZ (q r l p : Int) : Int :=
  if l ≤ r then (if q + p < 18446744073709551616 ∧ l + p - r ≤ r - l then q + l + p else q + l)
  else (if 0 < q ∧ r - l + p < l - r then q + l - p else q + l)
def kp (b : Int) : Nat := (max 1 (min b 63)).toNat
theorem kp_bd (b : Int) : 1 ≤ kp b ∧ kp b ≤ 63 := by unfold kp; omega
def extZ (last low b : Int) : Int := bestZ (last - last % p2 (kp b)) (last % p2 (kp b)) (low % p2 (kp b)) (p2 (kp b))

/-- What is known of the parts: all linear. -/
structure Parts (last low q r l p : Int) : Prop where
  p2 : 2 ≤ p
  pm : p ≤ 9223372036854775808
  r0 : 0 ≤ r
  rp : r < p
  l0 : 0 ≤ l
  lp : l < p
  q0 : 0 ≤ q
  qp : q = 0 ∨ p ≤ q
  qm : q + p = 18446744073709551616 ∨ q + p + p ≤ 18446744073709551616
  e : last = q + r
theorem parts (last low b : Int) (h0 : 0 ≤ last) (h1 : last ≤ 18446744073709551615) :
    Parts last low (last - last % p2 (kp b)) (last % p2 (kp b)) (low % p2 (kp b)) (p2 (kp b)) := by
  have hk := kp_bd b
  have hp1 : 2 ≤ p2 (kp b) := by have := p2_mono 1 (kp b) hk.1; rw [show p2 1 = 2 by decide] at this; exact this
  have hp2 := p2_le63 (kp b) hk.2
  obtain ⟨c, hc⟩ := p2_dvd (kp b) (by omega)
  generalize p2 (kp b) = p at *
  have hr0 := Int.emod_nonneg last (show p ≠ 0 by omega)
  have hr1 := Int.emod_lt_of_pos last (show 0 < p by omega)
  have hl0 := Int.emod_nonneg low (show p ≠ 0 by omega)
  have hl1 := Int.emod_lt_of_pos low (show 0 < p by omega)
  have hq : last - last % p = p * (last / p) := by have := Int.mul_ediv_add_emod last p; omega
  have hd0 : 0 ≤ last / p := Int.ediv_nonneg h0 (by omega)
  have hdc : last / p < c := by
    refine Int.lt_of_mul_lt_mul_left (a := p) ?_ (by omega)
    omega
  rw [hq]
  generalize hm : last / p = m at *
  have hmp : 0 ≤ p * m := Int.mul_nonneg (by omega) hd0
  refine ⟨hp1, hp2, hr0, hr1, hl0, hl1, hmp, ?_, ?_, by omega⟩
  · by_cases h : m = 0
    · left; rw [h]; simp
    · right
      have : p * 1 ≤ p * m := Int.mul_le_mul_of_nonneg_left (by omega) (by omega)
      omega
  · by_cases h : m + 1 = c
    · left
      have : p * (m + 1) = p * c := by rw [h]
      rw [Int.mul_add] at this; omega
    · right
      have : p * (m + 1 + 1) ≤ p * c := Int.mul_le_mul_of_nonneg_left (by omega) (by omega)
      rw [Int.mul_add, Int.mul_add] at this; omega
theorem best_bd {last low q r l p : Int} (h : Parts last low q r l p) : 0 ≤ bestZ q r l p ∧ bestZ q r l p ≤ 18446744073709551615 := by
  obtain ⟨a1, a2, a3, a4, a5, a6, a7, a8, a9, a10⟩ := h
  unfold bestZ
  split <;> split <;> omega
theorem wrap_u64 (n : Int) : IntKind.u64.wrap n = n % 18446744073709551616 := IntKind.wrap_u64 n
/-- The preferred one of two. -/
def pick (n m last : Int) : Int := if nearB n m last = true then n else m
theorem pick_yes {n m last : Int} (h : nearB n m last = true) : pick n m last = n := by unfold pick; rw [if_pos h]
theorem pick_no {n m last : Int} (h : nearB n m last = false) : pick n m last = m := by unfold pick; rw [if_neg (by rw [h]; decide)]
theorem pick_spec (n m last : Int) : ((dst n last < dst m last ∨ (dst n last = dst m last ∧ m < n)) ∧ pick n m last = n) ∨
    (¬ (dst n last < dst m last ∨ (dst n last = dst m last ∧ m < n)) ∧ pick n m last = m) := by
  cases h : nearB n m last
  · right
    refine ⟨?_, pick_no h⟩
    intro hc
    have : nearB n m last = true := by unfold nearB; simpa using hc
    rw [h] at this; cases this
  · left
    refine ⟨?_, pick_yes h⟩
    unfold nearB at h; simpa using h
theorem pick_all {last q r l p A C : Int} (a1 : 2 ≤ p) (a2 : p ≤ 9223372036854775808) (a3 : 0 ≤ r) (a4 : r < p) (a5 : 0 ≤ l) (a6 : l < p) (a7 : 0 ≤ q) (a8 : q = 0 ∨ p ≤ q)
    (a9 : q + p = 18446744073709551616 ∨ q + p + p ≤ 18446744073709551616) (a10 : last = q + r)
    (hA : (q = 0 ∧ A = 18446744073709551616 + l - p) ∨ (¬ q = 0 ∧ A = q + l - p))
    (hC : (q + p = 18446744073709551616 ∧ C = l) ∨ (¬ q + p = 18446744073709551616 ∧ C = q + l + p)) :
    pick C (pick (q + l) (pick A (q + l) last) last) last = bestZ q r l p := by
  have dS : (l ≤ r ∧ dst (q + l) last = r - l) ∨ (r < l ∧ dst (q + l) last = l - r) := by
    by_cases h : l ≤ r
    · exact .inl ⟨h, by rw [dst_lo (by omega)]; omega⟩
    · exact .inr ⟨by omega, by rw [dst_hi (by omega)]; omega⟩
  have dA : (q = 0 ∧ dst A last = 18446744073709551616 + l - p - r) ∨ (¬ q = 0 ∧ dst A last = r - l + p) := by
    rcases hA with ⟨c1, c2⟩ | ⟨c1, c2⟩
    · exact .inl ⟨c1, by rw [dst_hi (by omega)]; omega⟩
    · exact .inr ⟨c1, by rw [dst_lo (by omega)]; omega⟩
  have dC : (q + p = 18446744073709551616 ∧ dst C last = q + r - l) ∨ (¬ q + p = 18446744073709551616 ∧ dst C last = l + p - r) := by
    rcases hC with ⟨c1, c2⟩ | ⟨c1, c2⟩
    · exact .inl ⟨c1, by rw [dst_lo (by omega)]; omega⟩
    · exact .inr ⟨c1, by rw [dst_hi (by omega)]; omega⟩
  have hb : (l ≤ r ∧ q + p < 18446744073709551616 ∧ l + p - r ≤ r - l ∧ bestZ q r l p = q + l + p) ∨ (l ≤ r ∧ ¬ (q + p < 18446744073709551616 ∧ l + p - r ≤ r - l) ∧ bestZ q r l p = q + l) ∨
      (¬ l ≤ r ∧ 0 < q ∧ r - l + p < l - r ∧ bestZ q r l p = q + l - p) ∨ (¬ l ≤ r ∧ ¬ (0 < q ∧ r - l + p < l - r) ∧ bestZ q r l p = q + l) := by
    unfold bestZ
    by_cases c1 : l ≤ r
    · by_cases c2 : q + p < 18446744073709551616 ∧ l + p - r ≤ r - l
      · left; exact ⟨c1, c2.1, c2.2, by rw [if_pos c1, if_pos c2]⟩
      · right; left; exact ⟨c1, c2, by rw [if_pos c1, if_neg c2]⟩
    · by_cases c2 : 0 < q ∧ r - l + p < l - r
      · right; right; left; exact ⟨c1, c2.1, c2.2, by rw [if_neg c1, if_pos c2]⟩
      · right; right; right; exact ⟨c1, c2, by rw [if_neg c1, if_neg c2]⟩
  generalize bestZ q r l p = y at *
  have k1 := pick_spec A (q + l) last
  have k3 := pick_spec C (pick (q + l) (pick A (q + l) last) last) last
  have k2 := pick_spec (q + l) (pick A (q + l) last) last
  rcases k1 with ⟨e1, e2⟩ | ⟨e1, e2⟩ <;> rw [e2] at k2 k3 ⊢ <;> clear e2 <;> rcases k2 with ⟨f1, f2⟩ | ⟨f1, f2⟩ <;> rw [f2] at k3 ⊢ <;> clear f2 <;> rcases k3 with ⟨g1, g2⟩ | ⟨g1, g2⟩ <;> rw [g2] <;> clear g2 <;>
    generalize dst A last = tA at * <;> generalize dst C last = tC at * <;> generalize dst (q + l) last = tS at * <;> clear a10 <;>
    rcases hb with ⟨b1, b2, b3, b4⟩ | ⟨b1, b2, b4⟩ | ⟨b1, b2, b3, b4⟩ | ⟨b1, b2, b4⟩ <;> omega
/-- What the specification takes: the facts on the three numbers, and on the result. -/
theorem best_facts {last low q r l p C : Int} (h : Parts last low q r l p) (hC : IntKind.u64.wrap (q + l + p) = C) :
    ((l ≤ r ∧ dst (q + l) last = r - l) ∨ (r < l ∧ dst (q + l) last = l - r)) ∧ (q = 0 ∨ dst (q + l - p) last = r - l + p) ∧
    ((q + p = 18446744073709551616 ∧ C = l) ∨ (¬ q + p = 18446744073709551616 ∧ C = q + l + p ∧ dst C last = l + p - r)) ∧
    ((l ≤ r ∧ q + p < 18446744073709551616 ∧ l + p - r ≤ r - l ∧ bestZ q r l p = q + l + p) ∨ (l ≤ r ∧ ¬ (q + p < 18446744073709551616 ∧ l + p - r ≤ r - l) ∧ bestZ q r l p = q + l) ∨
      (¬ l ≤ r ∧ 0 < q ∧ r - l + p < l - r ∧ bestZ q r l p = q + l - p) ∨ (¬ l ≤ r ∧ ¬ (0 < q ∧ r - l + p < l - r) ∧ bestZ q r l p = q + l)) := by
  obtain ⟨a1, a2, a3, a4, a5, a6, a7, a8, a9, a10⟩ := h
  rw [wrap_u64] at hC
  refine ⟨?_, ?_, ?_, ?_⟩
  · by_cases h : l ≤ r
    · exact .inl ⟨h, by rw [dst_lo (by omega)]; omega⟩
    · exact .inr ⟨by omega, by rw [dst_hi (by omega)]; omega⟩
  · by_cases h : q = 0
    · exact .inl h
    · exact .inr (by rw [dst_lo (by omega)]; omega)
  · by_cases h : q + p = 18446744073709551616
    · exact .inl ⟨h, by omega⟩
    · exact .inr ⟨h, by omega, by rw [dst_hi (by omega)]; omega⟩
  · unfold bestZ
    by_cases c1 : l ≤ r
    · by_cases c2 : q + p < 18446744073709551616 ∧ l + p - r ≤ r - l
      · left; exact ⟨c1, c2.1, c2.2, by rw [if_pos c1, if_pos c2]⟩
      · right; left; exact ⟨c1, c2, by rw [if_pos c1, if_neg c2]⟩
    · by_cases c2 : 0 < q ∧ r - l + p < l - r
      · right; right; left; exact ⟨c1, c2.1, c2.2, by rw [if_neg c1, if_pos c2]⟩
      · right; right; right; exact ⟨c1, c2, by rw [if_neg c1, if_neg c2]⟩
theorem pick_code {last low q r l p : Int} (h : Parts last low q r l p) :
    pick (IntKind.u64.wrap (q + l + p)) (pick (q + l) (pick (IntKind.u64.wrap (q + l - p)) (q + l) last) last) last = bestZ q r l p := by
  obtain ⟨a1, a2, a3, a4, a5, a6, a7, a8, a9, a10⟩ := h
  rw [wrap_u64, wrap_u64]
  refine pick_all a1 a2 a3 a4 a5 a6 a7 a8 a9 a10 ?_ ?_
  · omega
  · omega
theorem kp_in (b : Int) (h : 1 ≤ b ∧ b ≤ 63) : kp b = b.toNat := by unfold kp; omega
theorem near_ext {last low n b : Int} (h0 : 0 ≤ last ∧ last ≤ 18446744073709551615) (h1 : 0 ≤ n ∧ n ≤ 18446744073709551615) (hb : 1 ≤ b ∧ b ≤ 63) (hlow : low % p2 (kp b) = n % p2 (kp b))
    (hd : dst n last < p2 (b - 1).toNat) : extZ last low b = n := by
  have hp2 : p2 (b - 1).toNat * 2 = p2 (kp b) := by rw [p2_succ, kp_in b hb]; congr 1; omega
  have hP := parts last low b h0.1 h0.2
  unfold extZ
  rw [hlow] at hP ⊢
  have hn := parts n low b h1.1 h1.2
  obtain ⟨m, hm⟩ : ∃ m, last - last % p2 (kp b) = p2 (kp b) * m := ⟨last / p2 (kp b), by have := Int.mul_ediv_add_emod last (p2 (kp b)); omega⟩
  obtain ⟨k, hk⟩ : ∃ k, n - n % p2 (kp b) = p2 (kp b) * k := ⟨n / p2 (kp b), by have := Int.mul_ediv_add_emod n (p2 (kp b)); omega⟩
  generalize p2 (b - 1).toNat = hf at *
  generalize p2 (kp b) = p at *
  generalize last % p = r at *
  generalize n % p = l at *
  obtain ⟨a1, a2, a3, a4, a5, a6, a7, a8, a9, a10⟩ := hP
  obtain ⟨t, ht⟩ : ∃ t, t = k - m := ⟨_, rfl⟩
  have hkm : p * k = p * m + p * t := by rw [ht, Int.mul_sub]; omega
  have hdd : -hf < n - last ∧ n - last < hf := by
    by_cases h : last ≤ n
    · rw [dst_hi h] at hd; omega
    · rw [dst_lo (by omega)] at hd; omega
  have ht3 : t = -1 ∨ t = 0 ∨ t = 1 := by
    have u1 : t ≤ 1 := by
      by_cases h : t ≤ 1
      · exact h
      · have : p * 2 ≤ p * t := Int.mul_le_mul_of_nonneg_left (by omega) (by omega)
        omega
    have u2 : -1 ≤ t := by
      by_cases h : -1 ≤ t
      · exact h
      · have : p * t ≤ p * (-2) := Int.mul_le_mul_of_nonneg_left (by omega) (by omega)
        omega
    omega
  have hpt : (t = -1 ∧ p * t = -p) ∨ (t = 0 ∧ p * t = 0) ∨ (t = 1 ∧ p * t = p) := by
    rcases ht3 with h | h | h <;> subst h
    · exact .inl ⟨rfl, by omega⟩
    · exact .inr (.inl ⟨rfl, by omega⟩)
    · exact .inr (.inr ⟨rfl, by omega⟩)
  generalize p * t = pt at *
  generalize p * m = pm at *
  generalize p * k = pk at *
  unfold bestZ
  rcases hpt with ⟨_, h⟩ | ⟨_, h⟩ | ⟨_, h⟩
  · rw [if_neg (by omega), if_pos (by omega)]; omega
  · by_cases c : l ≤ r
    · rw [if_pos c, if_neg (by omega)]; omega
    · rw [if_neg c, if_neg (by omega)]; omega
  · rw [if_pos (by omega), if_pos (by omega)]; omega
theorem near_low {last n b : Int} (h0 : 0 ≤ last ∧ last ≤ 18446744073709551615) (h1 : 0 ≤ n ∧ n ≤ 18446744073709551615) (hb : 1 ≤ b ∧ b ≤ 63)
    (hd : dst n last < p2 (b - 1).toNat) : extZ last (lowZ n b) b = n := by
  refine near_ext h0 h1 hb ?_ hd
  have : keep b = kp b := by unfold keep kp; omega
  unfold lowZ; rw [this, Int.emod_emod]
theorem near_self {last n b : Int} (h0 : 0 ≤ last ∧ last ≤ 18446744073709551615) (h1 : 0 ≤ n ∧ n ≤ 18446744073709551615) (hb : 1 ≤ b ∧ b ≤ 63)
    (hd : dst n last < p2 (b - 1).toNat) : extZ last n b = n := near_ext h0 h1 hb rfl hd
theorem instants {e a l : Int} (h0 : 0 ≤ e ∧ e ≤ 65535) (ha : 0 ≤ a ∧ a ≤ 32767) (hl : 0 ≤ l ∧ l ≤ 32767) : passedB (addZ e l) (addZ e a) = decide (a ≤ l) := by
  unfold passedB
  have : (0 ≤ diffZ (addZ e a) (addZ e l)) ↔ a ≤ l := by unfold diffZ addZ; omega
  simp [this]
theorem keep_kp (b : Int) : keep (max 1 (min b 63)) = kp b := by unfold keep kp; omega
theorem lowZ_kp (n b : Int) : lowZ n (max 1 (min b 63)) = n % p2 (kp b) := by unfold lowZ; rw [keep_kp]
theorem shl_kp (b : Int) : IntKind.u64.wrap (2 ^ (max 1 (min b 63)).toNat) = p2 (kp b) := by
  have h1 := kp_bd b
  have h2 := p2_le63 (kp b) h1.2
  have h3 := p2_pos (kp b)
  exact IntWalk.u64_in _ ⟨by unfold p2 kp at *; omega, by unfold p2 kp at *; omega⟩
end Go.Proofs.YtcjlliilfecmnaaDoor.Ser

end
section
set_option linter.unusedVariables false
set_option linter.unusedSimpArgs false
namespace Go.Proofs.YtcjlliilfecmnaaDoor.Mem
open Go.RowKit

/-- The slice that begins at A reads the integers zs, and lies in a block below B. -/
def Ints (k : IntKind) (w : World) (B : Nat) (A : Option Addr) (zs : List Int) : Prop :=
  zs = [] ∨ ∃ b off, A = some ⟨b, off, none⟩ ∧ b < B ∧ ∀ j, j < zs.length → w.cell? ⟨b, off + j, none⟩ = some (.int k (zs.getD j 0))

section
variable {k : IntKind} {w w' : World} {B B' : Nat} {A : Option Addr} {zs : List Int}
theorem Ints.nil_ (A : Option Addr) : Ints k w B A [] := .inl rfl
theorem Ints.at_ {i : Nat} (h : Ints k w B A zs) (hi : i < zs.length) :
    ∃ b off, A = some ⟨b, off, none⟩ ∧ b < B ∧ ∀ j, j < zs.length → w.cell? ⟨b, off + j, none⟩ = some (.int k (zs.getD j 0)) := by
  rcases h with rfl | h
  · simp at hi
  · exact h
theorem Ints.keep (h : Ints k w B A zs) (hk : ∀ p : Addr, p.block < B → w'.cell? p = w.cell? p) : Ints k w' B A zs := by
  rcases h with rfl | ⟨b, off, e, hb, hc⟩
  · exact .inl rfl
  · exact .inr ⟨b, off, e, hb, fun j hj => (hk _ hb).trans (hc j hj)⟩
theorem Ints.more (h : Ints k w B A zs) (hB : B ≤ B') : Ints k w B' A zs := by
  rcases h with rfl | ⟨b, off, e, hb, hc⟩
  · exact .inl rfl
  · exact .inr ⟨b, off, e, by omega, hc⟩
theorem Ints.below (h : Ints k w B A zs) (hb : Below B w w') : Ints k w' B A zs := h.keep fun _ hp => hb.cell hp
theorem Ints.alloc (h : Ints k w B A zs) (hB : B ≤ w.heap.size) (o : Obj) : Ints k (w.alloc o) B A zs := h.below ((Below.refl _ _).alloc hB o)
theorem Ints.drew (h : Ints k w B A zs) : Ints k w.drew B A zs := h
/-- A cut 's[i:]': the model's address is the old one where nothing is left of the capacity. -/
theorem Ints.cut {c i : Nat} (h : Ints k w B A zs) (hi : i ≤ zs.length) (hc : zs.length ≤ c) :
    Ints k w B (if c = i then A else A.map (·.add i)) (zs.drop i) := by
  rcases h with rfl | ⟨b, off, e, hb, hcell⟩
  · simp [Ints]
  · by_cases hz : zs.length = i
    · left; rw [← hz]; simp
    · right
      rw [if_neg (by omega)]
      refine ⟨b, off + i, ?_, hb, fun j hj => ?_⟩
      · subst e
        show some (Addr.add ⟨b, off, none⟩ i) = _
        unfold Addr.add
        by_cases h0 : i = 0
        · simp [h0]
        · simp [h0]
      · have hj' : i + j < zs.length := by simp at hj; omega
        have := hcell (i + j) hj'
        rw [show off + i + j = off + (i + j) by omega, this]
        simp [List.getD, List.getElem?_drop]
theorem Ints.pre {i : Nat} (h : Ints k w B A zs) : Ints k w B A (zs.take i) := by
  rcases h with rfl | ⟨b, off, e, hb, hcell⟩
  · simp [Ints]
  · right
    refine ⟨b, off, e, hb, fun j hj => ?_⟩
    have hj' : j < zs.length := by simp at hj; omega
    rw [hcell j hj']
    have hji : j < i := by simp at hj; omega
    simp [List.getD, List.getElem?_take, hji]
/-- What the call owns reads so. -/
theorem Ints.own {base : Nat} {e : TypeId} {n c : Nat} (h : w.ownsRow base e 1 (.slice A n c) n (zs.map (Value.int k))) : Ints k w w.heap.size A zs := by
  rcases h.2 with ⟨hv, hn⟩ | ⟨g, cap, cur, hv, hbg, hg, hnc, hcm, hcs, htake⟩
  · left
    have := h.1; simp [hn] at this; exact this
  · by_cases hz : zs = []
    · exact .inl hz
    · right
      injection hv with hA hn hc
      subst hA
      have hlt : g < w.heap.size := by
        rcases Nat.lt_or_ge g w.heap.size with hlt | hge
        · exact hlt
        · rw [Array.getElem?_eq_none hge] at hg; cases hg
      refine ⟨g, 0, rfl, hlt, fun j hj => ?_⟩
      have hcell := h.cells (g := g) rfl j (.int k (zs.getD j 0)) (by simp [List.getD, List.getElem?_map, hj])
      have e : (⟨g, 0, none⟩ : Addr).add j = ⟨g, 0 + j, none⟩ := by
        unfold Addr.add
        by_cases h0 : j = 0
        · simp [h0]
        · simp [h0]
      rw [← e]; exact hcell
theorem own_len {base : Nat} {e : TypeId} {n c : Nat} (h : w.ownsRow base e 1 (.slice A n c) n (zs.map (Value.int k))) : zs.length = n := by
  have := h.1; simp at this; exact this
theorem own_cap {base : Nat} {e : TypeId} {n c : Nat} {xs : List Value} (h : w.ownsRow base e 1 (.slice A n c) n xs) : n ≤ c := by
  rcases h.2 with ⟨hv, hn⟩ | ⟨g, cap, cur, hv, hbg, hg, hnc, hcm, hcs, htake⟩
  · injection hv with hA hn' hc; omega
  · injection hv with hA hn' hc; omega
theorem own_cell {base : Nat} {e : TypeId} {g n c : Nat} (h : w.ownsRow base e 1 (.slice (some ⟨g, 0, none⟩) n c) n (zs.map (Value.int k))) (j : Nat) (hj : j < zs.length) : ∃ z, w.cell? ⟨g, j, none⟩ = some (.int k z) := by
  have := h.cellAt j (by rw [← own_len h]; omega)
  exact ⟨zs[j], by rw [this]; simp [List.getElem?_eq_getElem hj]⟩
/-- Its form. -/
theorem own_form {base : Nat} {e : TypeId} {size n : Nat} {v : Value} {xs : List Value} (h : w.ownsRow base e size v n xs) : ∃ A c, v = .slice A n c := by
  rcases h.2 with ⟨hv, hn⟩ | ⟨g, cap, cur, hv, _⟩
  · exact ⟨none, 0, by rw [hv, hn]⟩
  · exact ⟨_, _, hv⟩
theorem own_base {base base' : Nat} {e : TypeId} {size n : Nat} {v : Value} {xs : List Value} (h : w.ownsRow base e size v n xs) (hb : base' ≤ base) : w.ownsRow base' e size v n xs := by
  refine ⟨h.1, ?_⟩
  rcases h.2 with h' | ⟨g, cap, cur, hv, hbg, r⟩
  · exact .inl h'
  · exact .inr ⟨g, cap, cur, hv, by omega, r⟩
/-- What lies below a bound is kept. -/
theorem own_below {base : Nat} {e : TypeId} {size n : Nat} {v : Value} {xs : List Value} (h : w.ownsRow base e size v n xs) (hb : Below w.heap.size w w') : w'.ownsRow base e size v n xs := by
  refine ⟨h.1, ?_⟩
  rcases h.2 with h' | ⟨g, cap, cur, hv, hbg, hg, r⟩
  · exact .inl h'
  · refine .inr ⟨g, cap, cur, hv, hbg, ?_, r⟩
    have hlt : g < w.heap.size := by
      rcases Nat.lt_or_ge g w.heap.size with hlt | hge
      · exact hlt
      · rw [Array.getElem?_eq_none hge] at hg; cases hg
    rw [hb.block g hlt]; exact hg
end

/-- Block g is known whole. -/
def Blk (w : World) (g : Nat) (t : TypeId) (cs : Array Value) : Prop := w.heap[g]? = some (.cells cs t (0, 0))
section
variable {w w' : World} {g : Nat} {t : TypeId} {cs : Array Value}
theorem Blk.lt (h : Blk w g t cs) : g < w.heap.size := by
  rcases Nat.lt_or_ge g w.heap.size with hlt | hge
  · exact hlt
  · unfold Blk at h
    rw [Array.getElem?_eq_none hge] at h
    cases h
theorem Blk.cell (h : Blk w g t cs) (i : Nat) : w.cell? ⟨g, i, none⟩ = cs[i]? := cell_of_row w g i cs t (0, 0) h
theorem Blk.fresh (w : World) (t : TypeId) (cs : Array Value) : Blk (w.alloc (.cells cs t)) w.heap.size t cs := heap_alloc_new w _
theorem Blk.alloc (h : Blk w g t cs) (o : Obj) : Blk (w.alloc o) g t cs := by
  have hl := h.lt
  unfold Blk at *; rw [Below.heap_alloc w o g hl]; exact h
theorem Blk.below {B : Nat} (h : Blk w g t cs) (hb : Below B w w') (hg : g < B) : Blk w' g t cs := by
  unfold Blk at *; rw [hb.block g hg]; exact h
theorem Blk.drew (h : Blk w g t cs) : Blk w.drew g t cs := h
/-- An append onto a row of another element type leaves it. -/
theorem Blk.grown {base : Nat} {e : TypeId} {size n : Nat} {v : Value} {xs : List Value} (h : Blk w g t cs) (hown : w.ownsRow base e size v n xs) (hne : e ≠ t) (hg : w.grownBy w' v.ownBlock) : Blk w' g t cs := by
  have hb : some g ≠ v.ownBlock := by
    rcases hown.2 with ⟨rfl, _⟩ | ⟨g', cap, cur, rfl, _, hh, _⟩
    · simp [Value.ownBlock]
    · intro he
      have e1 : g = g' := by simpa [Value.ownBlock] using he
      subst e1
      unfold Blk at h
      rw [h] at hh
      injection hh with hh
      injection hh with _ ht
      exact hne ht.symm
  have hl := h.lt
  unfold Blk at *
  rw [hg.block g hl hb]; exact h
end

/-- Of two rows of different element types the one is kept while the other is written. -/
theorem own_other {w w' : World} {b1 b2 : Nat} {e1 e2 : TypeId} {s1 s2 n1 n2 : Nat} {v1 v2 : Value} {xs1 xs2 : List Value} (h1 : w.ownsRow b1 e1 s1 v1 n1 xs1) (h2 : w.ownsRow b2 e2 s2 v2 n2 xs2) (hne : e1 ≠ e2) (hg : w.grownBy w' v2.ownBlock) : w'.ownsRow b1 e1 s1 v1 n1 xs1 := by
  refine h1.kept hg ?_
  rcases h1.2 with ⟨rfl, _⟩ | ⟨g, cap, cur, rfl, _, hh, _⟩
  · left; rfl
  · rcases h2.2 with ⟨rfl, _⟩ | ⟨g', cap', cur', rfl, _, hh', _⟩
    · right; simp [Value.ownBlock]
    · right
      intro he
      have e1' : g = g' := by simpa [Value.ownBlock] using he
      subst e1'
      rw [hh] at hh'
      injection hh' with hh'
      injection hh' with _ ht
      exact hne ht

section
variable {P : Program} {w : World}
/-- append onto a row of the call's own, of a slice that reads as zs: nil and empty ones too. -/
theorem run_append_ints (k : IntKind) (base : Nat) (t ty e : TypeId) (i : TypeInfo) (z : Value) (bytes : Nat) (ht : P.underlying t = some (.slice e)) (hi : P.info? e = some i) (hz : i.zero = some z)
    (hsize : i.size = 1) (hby : i.bytes = bytes) (hzs : z.cells.size = 1)
    (v : Value) (n : Nat) (xs : List Value) (hown : w.ownsRow base e 1 v n xs)
    (B : Nat) (A : Option Addr) (m c : Nat) (zs : List Int) (hm : zs.length = m) (hr : Ints k w B A zs) 
    (h63 : n + m ≤ maxLen) (hbytes : (n + m) * bytes ≤ 140737488355328) (hbase : base ≤ w.heap.size) :
    ∃ v' w', (Builtin.append_ #[t, t] ty #[v, .slice A m c]).run P w = .ok v' w' ∧ w'.ownsRow base e 1 v' (n + m) (xs ++ zs.map (Value.int k)) ∧ w.grownBy w' v.ownBlock := by
  have h1 : ∀ u ∈ zs.map (Value.int k), u.oneCell' = true := ints_oneCell k zs
  have go : ∀ ad : Addr, (∀ j u, (zs.map (Value.int k))[j]? = some u → w.cell? (ad.add j) = some u) →
      ∃ v' w', (Builtin.append_ #[t, t] ty #[v, .slice (some ad) m c]).run P w = .ok v' w' ∧ w'.ownsRow base e 1 v' (n + m) (xs ++ zs.map (Value.int k)) ∧ w.grownBy w' v.ownBlock := fun ad hc => by
    obtain ⟨v', w', h2, h3, h4, _⟩ := run_append_own (P := P) w base t ty e i z 1 bytes ht hi hz hsize hby hzs (by decide) v n xs hown ad m c (zs.map (Value.int k)) (by simp [hm]) hc h1 h63 hbytes hbase
    exact ⟨v', w', h2, h3, h4⟩
  rcases hr with hnil | ⟨b, off, rfl, hb, hcell⟩
  · subst hnil
    have hm0 : m = 0 := by simpa using hm.symm
    subst hm0
    cases A with
    | none =>
      refine ⟨v, w, ?_, by simpa using hown, World.grownBy.refl w _⟩
      rcases hown.2 with ⟨rfl, rfl⟩ | ⟨g, cap, cur, rfl, _, _, hnc, _⟩
      · simp [Builtin.append_, run_underlying ht, sizeOf, typeInfo, hi, Builtin.lenOf, Builtin.firstCells]
      · simp [Builtin.append_, run_underlying ht, sizeOf, typeInfo, hi, Builtin.lenOf, Builtin.firstCells, hnc, storeCells]
    | some ad => exact go ad (by simp)
  · refine go _ fun j u hu => ?_
    have hj : j < zs.length := by
      rcases Nat.lt_or_ge j zs.length with h | h
      · exact h
      · simp [List.getElem?_eq_none h] at hu
    have e1 : (⟨b, off, none⟩ : Addr).add j = ⟨b, off + j, none⟩ := by
      unfold Addr.add
      by_cases h0 : j = 0
      · simp [h0]
      · simp [h0]
    rw [e1, hcell j hj]
    simp [List.getElem?_map, List.getElem?_eq_getElem hj] at hu
    simp [List.getD, List.getElem?_eq_getElem hj, hu]
theorem wpList_append_ints {ops : Array Oper} {rest : List Oper} {o : Oper} {a : Act} {Q : Exit → Act → World → Prop} (hgd : o.guard = none) (s x : Operand) (t : TypeId)
    (ho : o.op = .call { callee := .builtin .append, args := #[s, x], argTypes := #[t, t] })
    (k : IntKind) (base : Nat) (e : TypeId) (i : TypeInfo) (z : Value) (bytes : Nat) (ht : P.underlying t = some (.slice e)) (hi : P.info? e = some i) (hz : i.zero = some z)
    (hsize : i.size = 1) (hby : i.bytes = bytes) (hzs : z.cells.size = 1)
    (v : Value) (n : Nat) (xs : List Value) (hs : a.eval s = v) (hown : w.ownsRow base e 1 v n xs)
    (B : Nat) (A : Option Addr) (m c : Nat) (zs : List Int) (hx : a.eval x = .slice A m c) (hm : zs.length = m) (hr : Ints k w B A zs)
    (h63 : n + m ≤ maxLen) (hbytes : (n + m) * bytes ≤ 140737488355328) (hbase : base ≤ w.heap.size)
    (h : ∀ v' w', w'.ownsRow base e 1 v' (n + m) (xs ++ zs.map (Value.int k)) → Below base w w' → w.grownBy w' v.ownBlock → wpList P ops Q rest (a.put o.dst v') w') : wpList P ops Q (o :: rest) a w := by
  refine wpList_plain hgd fun K hK => ?_
  obtain ⟨v', w', hrun, h2, h3⟩ := run_append_ints (P := P) (w := w) k base t o.type e i z bytes ht hi hz hsize hby hzs v n xs hown B A m c zs hm hr h63 hbytes hbase
  unfold Oper.wp execOp
  simp only [ho, resolve, invoke, builtin, Sem.run_bind, Sem.run_pure, Result.andThen_ok, List.map_toArray, List.map_cons, List.map_nil, hs, hx, hrun]
  exact hK _ _ (h v' w' h2 ((Below.refl base w).grown h3 hbase fun g hg => (hown.lt g hg).1) h3)
/-- The same as one step of a region that draws its order. -/
theorem step_append_ints {ops : Array Oper} {o : Oper} {a : Act} {K : Act → World → Prop} {Q : Exit → Act → World → Prop} {E : Prop} (hgd : o.guard = none) (s x : Operand) (t : TypeId)
    (ho : o.op = .call { callee := .builtin .append, args := #[s, x], argTypes := #[t, t] })
    (k : IntKind) (base : Nat) (e : TypeId) (i : TypeInfo) (z : Value) (bytes : Nat) (ht : P.underlying t = some (.slice e)) (hi : P.info? e = some i) (hz : i.zero = some z)
    (hsize : i.size = 1) (hby : i.bytes = bytes) (hzs : z.cells.size = 1)
    (v : Value) (n : Nat) (xs : List Value) (hs : a.eval s = v) (hown : w.ownsRow base e 1 v n xs)
    (B : Nat) (A : Option Addr) (m c : Nat) (zs : List Int) (hx : a.eval x = .slice A m c) (hm : zs.length = m) (hr : Ints k w B A zs)
    (h63 : n + m ≤ maxLen) (hbytes : (n + m) * bytes ≤ 140737488355328) (hbase : base ≤ w.heap.size)
    (h : ∀ v' w', w'.ownsRow base e 1 v' (n + m) (xs ++ zs.map (Value.int k)) → Below base w w' → w.grownBy w' v.ownBlock → K (a.put o.dst v') w') :
    if Region.wanted o (yielded ops a.tmps) = true then Oper.wp P o a w K Q else E := by
  have hw : Region.wanted o (yielded ops a.tmps) = true := by simp [Region.wanted, hgd]
  rw [if_pos hw]
  obtain ⟨v', w', hrun, h2, h3⟩ := run_append_ints (P := P) (w := w) k base t o.type e i z bytes ht hi hz hsize hby hzs v n xs hown B A m c zs hm hr h63 hbytes hbase
  unfold Oper.wp execOp
  simp only [ho, resolve, invoke, builtin, Sem.run_bind, Sem.run_pure, Result.andThen_ok, List.map_toArray, List.map_cons, List.map_nil, hs, hx, hrun]
  exact h v' w' h2 ((Below.refl base w).grown h3 hbase fun g hg => (hown.lt g hg).1) h3
/-- A new block of some integers, as the model lays it for what is to be appended. -/
theorem Ints.lit (k : IntKind) (w : World) (zs : List Int) (cs : Array Value) (e : TypeId) (h : cs = (zs.map (Value.int k)).toArray) : Ints k (w.alloc (.cells cs e)) (w.heap.size + 1) (some ⟨w.heap.size, 0, none⟩) zs := by
  right
  refine ⟨w.heap.size, 0, rfl, by omega, fun j hj => ?_⟩
  rw [World.cell?_alloc_at _ _ _ _ rfl, h]
  simp [List.getD, List.getElem?_eq_getElem hj]
/-- string(b) of a slice of bytes, nil and empty ones too. -/
theorem run_string_ints (src e : TypeId) (hs : P.underlying src = some (.slice e)) (he : P.underlying e = some (.int .u8)) {dst : TypeId} (hd : P.underlying dst = some .string)
    (B : Nat) (A : Option Addr) (n c : Nat) (zs : List Int) (hz : zs.length = n) (hr : Ints .u8 w B A zs) :
    (convert src dst (.slice A n c)).run P w = .ok (.string (strOfNums zs)) w := by
  rcases hr with rfl | ⟨b, off, rfl, _, hc⟩
  · have hn : n = 0 := by simpa using hz.symm
    subst hn
    cases A with
    | none => exact run_convert_bytes_nil w src e hs he 0 c dst hd
    | some ad =>
      rw [run_convert_bytes_string w src dst e _ 0 c hs he hd, run_bytesToString w ad 0 c [] (by simp [loadCells, loadCellsFrom])]
      rfl
  · exact run_convert_bytes_arg w src e hs he b off n c zs hz (fun i hi => hc i (by omega)) dst hd
/-- Integers that are bytes. -/
def Bytes (zs : List Int) : Prop := ∀ z ∈ zs, 0 ≤ z ∧ z ≤ 255
theorem strOfNums_inj {xs ys : List Int} (hx : Bytes xs) (hy : Bytes ys) : strOfNums xs = strOfNums ys ↔ xs = ys := by
  refine ⟨fun h => ?_, fun h => by rw [h]⟩
  have h1 : xs.map (fun n => UInt8.ofNat n.toNat) = ys.map (fun n => UInt8.ofNat n.toNat) := by
    rw [← strOfNums_data, ← strOfNums_data, h]
  clear h
  induction xs generalizing ys with
  | nil => cases ys with
    | nil => rfl
    | cons y ys => simp at h1
  | cons x xs ih => cases ys with
    | nil => simp at h1
    | cons y ys =>
      simp only [List.map_cons, List.cons.injEq] at h1
      have bx := hx x (by simp)
      have by_ := hy y (by simp)
      have e1 : x.toNat = y.toNat := by
        have := congrArg UInt8.toNat h1.1
        simp at this; omega
      have e2 : x = y := by omega
      rw [e2, ih (fun z hz => hx z (by simp [hz])) (fun z hz => hy z (by simp [hz])) h1.2]
end
end Go.Proofs.YtcjlliilfecmnaaDoor.Mem

end
section
set_option linter.unusedVariables false
namespace Go.Proofs.YtcjlliilfecmnaaDoor.Clk

/-- The number from lo to hi that is nearest to n. -/
def lim (n lo hi : Int) : Int := max lo (min n hi)
theorem lim_bd (n lo hi : Int) (h : lo ≤ hi) : lo ≤ lim n lo hi ∧ lim n lo hi ≤ hi := by unfold lim; omega
theorem lim_in {n lo hi : Int} (h : lo ≤ n) (h' : n ≤ hi) : lim n lo hi = n := by unfold lim; omega
theorem lim_lt {n lo hi : Int} (h : n < lo) (h' : lo ≤ hi) : lim n lo hi = lo := by unfold lim; omega
theorem lim_gt {n lo hi : Int} (h : hi < n) (h' : lo ≤ hi) : lim n lo hi = hi := by unfold lim; omega
theorem lim_eq {n lo hi : Int} (h : lo ≤ hi) : n = lim n lo hi ↔ lo ≤ n ∧ n ≤ hi := by unfold lim; omega

theorem mul_bd {a b A B : Int} (ha : 0 ≤ a) (ha' : a ≤ A) (hb : -B ≤ b) (hb' : b ≤ B) : -(A * B) ≤ a * b ∧ a * b ≤ A * B := by
  have hB : 0 ≤ B := by omega
  have h1 : a * b ≤ a * B := Int.mul_le_mul_of_nonneg_left hb' ha
  have h2 : a * B ≤ A * B := Int.mul_le_mul_of_nonneg_right ha' hB
  have h3 : a * (-B) ≤ a * b := Int.mul_le_mul_of_nonneg_left hb ha
  have h4 : a * (-B) = -(a * B) := Int.mul_neg a B
  omega

/-- Millionths, rounded towards minus infinity. -/
def dn (n : Int) : Int := n / 1000000
theorem dn_bd {n : Int} (h : -549755813888000 ≤ n ∧ n ≤ 1099511627776000) : -549755814 ≤ dn n ∧ dn n ≤ 1099511628 := by unfold dn; omega
theorem tdiv_pos {n : Int} (h : 0 ≤ n) : n.tdiv 1000000 = n / 1000000 ∧ n.tmod 1000000 = n % 1000000 :=
  ⟨Int.tdiv_eq_ediv_of_nonneg h, Int.tmod_eq_emod_of_nonneg h⟩
theorem tdiv_neg {n : Int} (h : n < 0) : n.tdiv 1000000 = -(-n / 1000000) ∧ n.tmod 1000000 = -(-n % 1000000) := by
  have e : n = -(-n) := by omega
  have h1 := @Int.neg_tdiv (-n) 1000000
  have h2 := @Int.neg_tmod (-n) 1000000
  rw [← e] at h1 h2
  rw [h1, h2, Int.tdiv_eq_ediv_of_nonneg (by omega), Int.tmod_eq_emod_of_nonneg (by omega)]
  exact ⟨rfl, rfl⟩
/-- What the truncated division gives, and how it is mended. -/
theorem dn_code (n : Int) : (n.tmod 1000000 < 0 ∧ n.tdiv 1000000 - 1 = dn n) ∨ (¬ n.tmod 1000000 < 0 ∧ n.tdiv 1000000 = dn n) := by
  unfold dn
  rcases Int.lt_or_le n 0 with h | h
  · obtain ⟨e1, e2⟩ := tdiv_neg h
    rw [e1, e2]; omega
  · obtain ⟨e1, e2⟩ := tdiv_pos h
    rw [e1, e2]; omega
/-- Millionths, rounded towards infinity, of a number that is not negative. -/
def upw (n : Int) : Int := -dn (-n)
theorem up_code {n : Int} (h : 0 ≤ n) : (0 < n.tmod 1000000 ∧ n.tdiv 1000000 + 1 = upw n) ∨ (¬ 0 < n.tmod 1000000 ∧ n.tdiv 1000000 = upw n) := by
  unfold upw dn
  obtain ⟨e1, e2⟩ := tdiv_pos h
  rw [e1, e2]; omega

/-- What a clock shows. -/
def loc (p s t : Int) : Int := lim s 0 1099511627776 + lim t 0 1099511627776 + dn (lim t 0 1099511627776 * lim p (-500) 500)
theorem prod_bd (p t : Int) : -549755813888000 ≤ lim t 0 1099511627776 * lim p (-500) 500 ∧ lim t 0 1099511627776 * lim p (-500) 500 ≤ 549755813888000 := by
  have h1 := lim_bd t 0 1099511627776 (by decide)
  have h2 := lim_bd p (-500) 500 (by decide)
  have := mul_bd (A := 1099511627776) (B := 500) h1.1 h1.2 h2.1 h2.2
  omega
theorem loc_bd (p s t : Int) : -549755814 ≤ loc p s t ∧ loc p s t ≤ 2200123011366 := by
  have h1 := lim_bd t 0 1099511627776 (by decide)
  have h2 := lim_bd s 0 1099511627776 (by decide)
  have h3 := prod_bd p t
  have h4 := dn_bd (n := lim t 0 1099511627776 * lim p (-500) 500) (by omega)
  unfold loc
  omega
/-- How two readings of one clock lie. -/
theorem dn_step {x y d : Int} (h : y = x + d) : dn x + d / 1000000 ≤ dn y ∧ dn y ≤ dn x + d / 1000000 + 1 := by unfold dn; omega
theorem loc_in (p s : Int) {t : Int} (h0 : 0 ≤ t) (h1 : t ≤ 1099511627776) : loc p s t = lim s 0 1099511627776 + t + dn (t * lim p (-500) 500) := by
  unfold loc; rw [lim_in h0 h1]
theorem loc_succ (p s : Int) {t : Int} (h0 : 0 ≤ t) (h1 : t < 1099511627776) : loc p s t ≤ loc p s (t + 1) ∧ loc p s (t + 1) ≤ loc p s t + 2 := by
  rw [loc_in p s h0 (by omega), loc_in p s (by omega : 0 ≤ t + 1) (by omega)]
  have h2 := lim_bd p (-500) 500 (by decide)
  generalize lim p (-500) 500 = q at *
  have e : (t + 1) * q = t * q + q := by rw [Int.add_mul, Int.one_mul]
  have := dn_step e
  omega
theorem loc_mono (p s : Int) {t u : Int} (h : t ≤ u) : loc p s t ≤ loc p s u := by
  have h1 := lim_bd t 0 1099511627776 (by decide)
  have h1' := lim_bd u 0 1099511627776 (by decide)
  have h2 := lim_bd p (-500) 500 (by decide)
  have h3 : lim t 0 1099511627776 ≤ lim u 0 1099511627776 := by unfold lim; omega
  unfold loc
  generalize lim t 0 1099511627776 = a at *
  generalize lim u 0 1099511627776 = b at *
  generalize lim p (-500) 500 = q at *
  have hd := mul_bd (a := b - a) (b := q) (A := b - a) (B := 500) (by omega) (Int.le_refl _) h2.1 h2.2
  have e : b * q = a * q + (b - a) * q := by rw [← Int.add_mul]; congr 1; omega
  have := dn_step e
  omega

/-- The widening. -/
def wid (p n : Int) : Int := upw (lim n 0 1099511627776 * lim p 0 1000) + 32
theorem wprod_bd (p n : Int) : 0 ≤ lim n 0 1099511627776 * lim p 0 1000 ∧ lim n 0 1099511627776 * lim p 0 1000 ≤ 1099511627776000 := by
  have h1 := lim_bd n 0 1099511627776 (by decide)
  have h2 := lim_bd p 0 1000 (by decide)
  have := mul_bd (A := 1099511627776) (B := 1000) h1.1 h1.2 (by omega) h2.2
  have := Int.mul_nonneg h1.1 h2.1
  omega
theorem wid_bd (p n : Int) : 32 ≤ wid p n ∧ wid p n ≤ 1099511660 := by
  have := wprod_bd p n
  unfold wid upw dn
  omega

/-- The first time. -/
structure First (p s l r : Int) : Prop where
  lo : 0 ≤ r
  hi : r ≤ 1099511627776
  below : ∀ t, 0 ≤ t → t < r → loc p s t < l
  at_ : r < 1099511627776 → l ≤ loc p s r
theorem First.unique {p s l r r' : Int} (h : First p s l r) (h' : First p s l r') : r = r' := by
  rcases Int.lt_trichotomy r r' with g | g | g
  · have h1 := h'.below r h.lo g
    have h2 := h.at_ (by have := h'.hi; omega)
    omega
  · exact g
  · have h1 := h.below r' h'.lo g
    have h2 := h'.at_ (by have := h.hi; omega)
    omega

/-- How far two clocks drift apart. -/
theorem drift {pa sa pb sb t u : Int} (ha : -500 ≤ pa ∧ pa ≤ 500) (hb : -500 ≤ pb ∧ pb ≤ 500) (h0 : 0 ≤ t) (h1 : t ≤ u) (h2 : u ≤ 1099511627776) :
    -(wid (max pa (-pa) + max pb (-pb)) (u - t)) ≤ loc pa sa u - loc pa sa t - (loc pb sb u - loc pb sb t) ∧
    loc pa sa u - loc pa sa t - (loc pb sb u - loc pb sb t) ≤ wid (max pa (-pa) + max pb (-pb)) (u - t) := by
  rw [loc_in pa sa h0 (by omega), loc_in pa sa (by omega) h2, loc_in pb sb h0 (by omega), loc_in pb sb (by omega) h2]
  rw [lim_in ha.1 ha.2, lim_in hb.1 hb.2]
  unfold wid
  rw [lim_in (show 0 ≤ u - t by omega) (by omega), lim_in (show 0 ≤ max pa (-pa) + max pb (-pb) by omega) (by omega)]
  have ea : u * pa = t * pa + (u - t) * pa := by rw [← Int.add_mul]; congr 1; omega
  have eb : u * pb = t * pb + (u - t) * pb := by rw [← Int.add_mul]; congr 1; omega
  have ga := dn_step ea
  have gb := dn_step eb
  have k1 : (u - t) * pa ≤ (u - t) * max pa (-pa) := Int.mul_le_mul_of_nonneg_left (by omega) (by omega)
  have k2 : (u - t) * (-pa) ≤ (u - t) * max pa (-pa) := Int.mul_le_mul_of_nonneg_left (by omega) (by omega)
  have k3 : (u - t) * pb ≤ (u - t) * max pb (-pb) := Int.mul_le_mul_of_nonneg_left (by omega) (by omega)
  have k4 : (u - t) * (-pb) ≤ (u - t) * max pb (-pb) := Int.mul_le_mul_of_nonneg_left (by omega) (by omega)
  rw [Int.mul_neg] at k2 k4
  rw [Int.mul_add]
  unfold upw
  generalize (u - t) * max pa (-pa) = A at *
  generalize (u - t) * max pb (-pb) = B at *
  generalize (u - t) * pa = x at *
  generalize (u - t) * pb = y at *
  unfold dn at *
  omega
end Go.Proofs.YtcjlliilfecmnaaDoor.Clk

end
section
set_option linter.unusedVariables false
set_option linter.unusedSimpArgs false
namespace Go.Proofs.YtcjlliilfecmnaaDoor.Clk
open Go.RowKit Mem

theorem frz {w : World} {a : Nat} {t : TypeId} {c : Array Value} (h : Mem.Blk w a t c) (j : Nat) : w.frozen? ⟨a, j, none⟩ = false := by
  simp [World.frozen?, show w.heap[a]? = _ from h]
end Go.Proofs.YtcjlliilfecmnaaDoor.Clk

end
section
set_option linter.unusedVariables false
set_option linter.unusedSimpArgs false
namespace Go.Proofs.YtcjlliilfecmnaaDoor.Clk
open Go.RowKit Mem

theorem i64_in (x : Int) (h : -9223372036854775808 ≤ x ∧ x ≤ 9223372036854775807) : IntKind.i64.wrap x = x := by
  simp only [IntKind.wrap, IntKind.bits, IntKind.signed]; simp; split <;> omega
def okC (p s : Int) : Int := if -500 ≤ p ∧ p ≤ 500 ∧ 0 ≤ s ∧ s ≤ 1099511627776 then 0 else 5
theorem okC_eq (p s : Int) : (p == lim p (-500) 500 && s == lim s 0 1099511627776) = decide (-500 ≤ p ∧ p ≤ 500 ∧ 0 ≤ s ∧ s ≤ 1099511627776) := by
  have h1 := lim_eq (n := p) (lo := -500) (hi := 500) (by decide)
  have h2 := lim_eq (n := s) (lo := 0) (hi := 1099511627776) (by decide)
  rw [Bool.eq_iff_iff]
  simp only [Bool.and_eq_true, beq_iff_eq, decide_eq_true_eq, h1, h2, and_assoc]
end Go.Proofs.YtcjlliilfecmnaaDoor.Clk

end
section
set_option linter.unusedVariables false
set_option linter.unusedSimpArgs false
namespace Go.Proofs.YtcjlliilfecmnaaDoor.Clk
open Go.RowKit Mem

end Go.Proofs.YtcjlliilfecmnaaDoor.Clk

end
section
set_option linter.unusedVariables false
set_option linter.unusedSimpArgs false
namespace Go.Proofs.YtcjlliilfecmnaaDoor.Clk
open Go.RowKit Mem

theorem thenB {w a b : World} (h : Below w.heap.size w a) (k : Below a.heap.size a b) : Below w.heap.size w b := h.trans (k.mono h.size)
theorem pair_below {w w' : World} {g : Nat} {x y : Value} (hs : w.cell? ⟨g, 0, none⟩ = some x ∧ w.cell? ⟨g, 1, none⟩ = some y) (b : Below w.heap.size w w') : w'.cell? ⟨g, 0, none⟩ = some x ∧ w'.cell? ⟨g, 1, none⟩ = some y :=
  ⟨(b.cell (p := ⟨g, 0, none⟩) (World.block_lt_of_cell? _ _ hs.1)).trans hs.1, (b.cell (p := ⟨g, 1, none⟩) (World.block_lt_of_cell? _ _ hs.2)).trans hs.2⟩
theorem okC_yes {p s : Int} (h : -500 ≤ p ∧ p ≤ 500 ∧ 0 ≤ s ∧ s ≤ 1099511627776) : 0 = okC p s := by unfold okC; rw [if_pos h]
theorem okC_no {p s : Int} (h : ¬ (-500 ≤ p ∧ p ≤ 500 ∧ 0 ≤ s ∧ s ≤ 1099511627776)) : 5 = okC p s := by unfold okC; rw [if_neg h]
theorem first_a {r : Int} (h : First (-100) 0 14998 r) : r = 15000 := by
  rcases Int.lt_trichotomy r 15000 with g | g | g
  · have h2 := h.at_ (by omega)
    have := loc_mono (-100) 0 (t := r) (u := 14999) (by omega)
    rw [show loc (-100) 0 14999 = 14997 by decide +kernel] at this
    omega
  · exact g
  · have h1 := h.below 15000 (by omega) g
    rw [show loc (-100) 0 15000 = 14998 by decide +kernel] at h1
    omega
theorem first_b {r : Int} (h : First 0 5 3 r) : r = 0 := by
  rcases Int.lt_or_le 0 r with g | g
  · have h1 := h.below 0 (by omega) g
    rw [show loc 0 5 0 = 5 by decide +kernel] at h1
    omega
  · have := h.lo; omega
theorem first_c {r : Int} (h : First 0 0 1099511627777 r) : r = 1099511627776 := by
  rcases Int.lt_or_le r 1099511627776 with g | g
  · have h2 := h.at_ g
    have h3 := loc_mono 0 0 (t := r) (u := 1099511627776) (by omega)
    rw [show loc 0 0 1099511627776 = 1099511627776 by decide +kernel] at h3
    omega
  · have := h.hi; omega
theorem first_ex (p s l : Int) : ∃ r, First p s l r := by
  have go : ∀ n : Nat, n ≤ 1099511627776 → (∃ r, First p s l r) ∨ ∀ t : Int, 0 ≤ t → t < n → loc p s t < l := by
    intro n
    induction n with
    | zero => intro _; right; intro t h h'; omega
    | succ n ih =>
      intro h
      rcases ih (by omega) with e | e
      · exact .inl e
      · by_cases h1 : l ≤ loc p s n
        · exact .inl ⟨n, by omega, by omega, e, fun _ => h1⟩
        · refine .inr fun t g g' => ?_
          by_cases h2 : t = n
          · subst h2; omega
          · exact e t g (by omega)
  rcases go 1099511627776 (Nat.le_refl _) with e | e
  · exact e
  · exact ⟨1099511627776, by omega, by omega, fun t h h' => e t h (by omega), fun h => by omega⟩
end Go.Proofs.YtcjlliilfecmnaaDoor.Clk

end
section
set_option linter.unusedVariables false
namespace Go.Proofs.YtcjlliilfecmnaaDoor.Cn
open Clk

def mom (t : Int) : Int := lim t 0 4398046511104
theorem mom_bd (t : Int) : 0 ≤ mom t ∧ mom t ≤ 4398046511104 := lim_bd t 0 4398046511104 (by decide)
/-- The time from an anchor point to the n-th after it. -/
def spn (n i : Int) : Int := lim n 0 65536 * lim i 6 3200 * 1250
theorem spn_bd (n i : Int) : 0 ≤ lim n 0 65536 * lim i 6 3200 ∧ lim n 0 65536 * lim i 6 3200 ≤ 209715200 ∧ 0 ≤ spn n i ∧ spn n i ≤ 262144000000 := by
  have h1 := lim_bd n 0 65536 (by decide)
  have h2 := lim_bd i 6 3200 (by decide)
  have := mul_bd (A := 65536) (B := 3200) h1.1 h1.2 (by omega) h2.2
  have h3 : 0 ≤ lim n 0 65536 * lim i 6 3200 := Int.mul_nonneg (by omega) (by omega)
  unfold spn
  omega
theorem spn_one (n i : Int) : spn (max n 1) i = lim n 1 65536 * (lim i 6 3200 * 1250) := by
  unfold spn
  rw [Int.mul_assoc]
  congr 1
  unfold lim; omega
theorem spn_zero (n i : Int) : spn n i = lim n 0 65536 * (lim i 6 3200 * 1250) := by
  unfold spn
  rw [Int.mul_assoc]
/-- The window that is due some time after an anchor point. -/
def wst (a d z p : Int) : Int := mom a + d - wid p (d + z)
def wen (a d z p : Int) : Int := mom a + d + z + wid p (d + z)
/-- When the first event with new parameters is due. -/
def due (n i o : Int) : Int := spn (max n 1) i + lim o 0 3200 * 1250
theorem due_bd (n i o : Int) : 0 ≤ due n i o ∧ due n i o ≤ 262148000000 := by
  have h1 := spn_bd (max n 1) i
  have h2 := lim_bd o 0 3200 (by decide)
  unfold due; omega
/-- The error of an update. -/
def okU (s o i l t : Int) : Int :=
  if 1 ≤ s ∧ s ≤ 8 ∧ 0 ≤ o ∧ o ≤ 3200 ∧ 6 ≤ i ∧ i ≤ 3200 ∧ 0 ≤ l ∧ l ≤ 499 ∧ 10 ≤ t ∧ t ≤ 3200 then
    (if s < i ∧ o ≤ i ∧ 2 * (l + 1) * i * 1250 < t * 10000 then 0 else 11) else 5
/-- The first that is not 0. -/
def fst0 : List Int → Int
  | [] => 0
  | x :: r => if x ≠ 0 then x else fst0 r
theorem fst0_none {l : List Int} (h : ∀ x ∈ l, x = 0) : fst0 l = 0 := by
  induction l with
  | nil => rfl
  | cons x r ih => unfold fst0; rw [if_neg (by simp [h x])]; exact ih fun y hy => h y (List.mem_cons_of_mem _ hy)
theorem fst0_at {l : List Int} {k : Nat} {x : Int} (h : ∀ y ∈ l.take k, y = 0) (hk : l[k]? = some x) (hx : x ≠ 0) : fst0 l = x := by
  induction l generalizing k with
  | nil => simp at hk
  | cons y r ih =>
    cases k with
    | zero =>
      simp at hk; subst hk
      unfold fst0; rw [if_pos hx]
    | succ k =>
      unfold fst0
      rw [if_neg (by simp [h y (by simp)])]
      exact ih (k := k) (fun z hz => h z (by rw [List.take_succ_cons]; exact List.mem_cons_of_mem _ hz)) (by simpa using hk)
theorem okU_bd (s o i l t : Int) : 0 ≤ okU s o i l t ∧ okU s o i l t ≤ 11 := by unfold okU; split <;> (try split) <;> omega
/-- Products of an update within its ranges. -/
theorem prod_in {l i t : Int} (hl : 0 ≤ l ∧ l ≤ 499) (hi : 6 ≤ i ∧ i ≤ 3200) : 0 ≤ 2 * (l + 1) * i ∧ 2 * (l + 1) * i ≤ 3200000 := by
  have := mul_bd (a := 2 * (l + 1)) (b := i) (A := 1000) (B := 3200) (by omega) (by omega) (by omega) (by omega)
  have h3 : 0 ≤ 2 * (l + 1) * i := Int.mul_nonneg (by omega) (by omega)
  omega
end Go.Proofs.YtcjlliilfecmnaaDoor.Cn

end
