/- Texts of addresses: digits, letters, what is read back. No program is mentioned. -/
import Derived.Test.YtkbjfmfkpdlogaaDoorOctMath
import Derived.Test.YtkbjfmfkpdlogaaDoorAdrMath
set_option linter.unusedVariables false
namespace Go.Proofs.YtkbjfmfkpdlogaaDoor.Adr
open Go.RowKit Mem Oct

def hexU (d : Int) : Int := if d < 10 then 48 + d else 55 + d
def dgU (c : Int) : Int := if 48 ≤ c ∧ c ≤ 57 then c - 48 else if 65 ≤ c ∧ c ≤ 70 then c - 55 else -1
theorem hexU_bd (d : Int) (h : 0 ≤ d ∧ d < 16) : 0 ≤ hexU d ∧ hexU d ≤ 255 := by unfold hexU; split <;> omega
theorem dgU_bd (c : Int) : -1 ≤ dgU c ∧ dgU c ≤ 15 := by unfold dgU; split <;> (try split) <;> omega
theorem dgU_hexU (d : Int) (h : 0 ≤ d ∧ d < 16) : dgU (hexU d) = d := by unfold dgU hexU; split <;> split <;> (try split) <;> omega
theorem hexU_dgU (c : Int) (h : 0 ≤ dgU c) : hexU (dgU c) = c := by
  unfold dgU at h ⊢; unfold hexU
  by_cases h1 : 48 ≤ c ∧ c ≤ 57
  · rw [if_pos h1, if_pos (by omega)]; omega
  · rw [if_neg h1] at h ⊢
    by_cases h2 : 65 ≤ c ∧ c ≤ 70
    · rw [if_pos h2, if_neg (by omega)]; omega
    · rw [if_neg h2] at h; omega
theorem up_at (d : Int) (h : 0 ≤ d ∧ d < 16) : ((({ data := #[48, 49, 50, 51, 52, 53, 54, 55, 56, 57, 65, 66, 67, 68, 69, 70] } : ByteArray)[d.toNat]'(by show d.toNat < 16; omega)).toNat : Int) = hexU d := by
  obtain ⟨n, rfl⟩ := Int.eq_ofNat_of_zero_le h.1
  have hn : n < 16 := by omega
  match n, hn with
  | 0, _ => rfl
  | 1, _ => rfl
  | 2, _ => rfl
  | 3, _ => rfl
  | 4, _ => rfl
  | 5, _ => rfl
  | 6, _ => rfl
  | 7, _ => rfl
  | 8, _ => rfl
  | 9, _ => rfl
  | 10, _ => rfl
  | 11, _ => rfl
  | 12, _ => rfl
  | 13, _ => rfl
  | 14, _ => rfl
  | 15, _ => rfl
theorem up_at_nat (k : Nat) (h : k < 16) : ((({ data := #[48, 49, 50, 51, 52, 53, 54, 55, 56, 57, 65, 66, 67, 68, 69, 70] } : ByteArray)[k]'(by show k < 16; omega)).toNat : Int) = hexU k := up_at (k : Int) (by omega)
def endZ (i : Nat) : Int := if i < 5 then 58 else 47
theorem endZ_bd (i : Nat) : 0 ≤ endZ i ∧ endZ i ≤ 255 := by unfold endZ; split <;> omega
theorem end_at_nat (k : Nat) (h : k < 6) : ((({ data := #[58, 58, 58, 58, 58, 47] } : ByteArray)[k]'(by show k < 6; omega)).toNat : Int) = endZ k := by
  match k, h with
  | 0, _ => rfl
  | 1, _ => rfl
  | 2, _ => rfl
  | 3, _ => rfl
  | 4, _ => rfl
  | 5, _ => rfl
/-- The letter of a kind, the kind of a letter. -/
def letZ (k : Int) : Int := if k = 1 then 112 else if k = 2 then 115 else if k = 3 then 114 else 97
def kindZ (c : Int) : Int := if c = 112 then 1 else if c = 115 then 2 else if c = 114 then 3 else if c = 97 then 4 else 0
theorem letZ_bd (k : Int) : 0 ≤ letZ k ∧ letZ k ≤ 255 := by unfold letZ; split <;> (try split) <;> (try split) <;> omega
theorem kindZ_bd (c : Int) : 0 ≤ kindZ c ∧ kindZ c ≤ 4 := by unfold kindZ; split <;> (try split) <;> (try split) <;> (try split) <;> omega
theorem kind_let (k : Int) (h : 1 ≤ k ∧ k ≤ 4) : kindZ (letZ k) = k := by
  have : k = 1 ∨ k = 2 ∨ k = 3 ∨ k = 4 := by omega
  rcases this with rfl | rfl | rfl | rfl <;> decide
theorem let_kind (c : Int) (h : kindZ c ≠ 0) : letZ (kindZ c) = c := by
  unfold kindZ at h ⊢
  by_cases h1 : c = 112
  · subst h1; decide
  · by_cases h2 : c = 115
    · subst h2; decide
    · by_cases h3 : c = 114
      · subst h3; decide
      · by_cases h4 : c = 97
        · subst h4; decide
        · rw [if_neg h1, if_neg h2, if_neg h3, if_neg h4] at h; exact absurd rfl h
/-- The byte that is written at a place, the most significant one first. -/
def byt (b : Int) (i : Nat) : Int := b / 2 ^ (8 * (5 - i)) % 256
theorem byt_bd (b : Int) (i : Nat) : 0 ≤ byt b i ∧ byt b i ≤ 255 := by unfold byt; omega
def txtL (b : Int) : Nat → List Int
  | 0 => []
  | i + 1 => txtL b i ++ [hexU (byt b i / 16), hexU (byt b i % 16), endZ i]
theorem txtL_len (b : Int) (i : Nat) : (txtL b i).length = 3 * i := by
  induction i with
  | zero => rfl
  | succ i ih => simp [txtL, ih]; omega
theorem txtL_bytes (b : Int) (i : Nat) : Bytes (txtL b i) := by
  induction i with
  | zero => intro z hz; cases hz
  | succ i ih =>
    have h := byt_bd b i
    refine bytes_append ih ?_
    have h1 := hexU_bd (byt b i / 16) (by omega)
    have h2 := hexU_bd (byt b i % 16) (by omega)
    have h3 := endZ_bd i
    intro z hz
    simp at hz
    rcases hz with rfl | rfl | rfl <;> omega
def textL (k b : Int) : List Int := if chk k b = 0 then txtL b 6 ++ [letZ k] else []
theorem textL_bytes (k b : Int) : Bytes (textL k b) := by
  unfold textL; split
  · refine bytes_append (txtL_bytes b 6) ?_
    have := letZ_bd k
    intro z hz; simp at hz; omega
  · intro z hz; cases hz
/-- As the reference goes: a colon ahead of each byte but the first. -/
def rtL (b : Int) : Nat → List Int
  | 0 => []
  | i + 1 => (if i = 0 then rtL b i else rtL b i ++ [58]) ++ [hexU (byt b i / 16), hexU (byt b i % 16)]
theorem rtL_all (b x : Int) : rtL b 6 ++ [47, x] = txtL b 6 ++ [x] := by simp [rtL, txtL, endZ]
theorem rtL_len (b : Int) (i : Nat) : (rtL b i).length = 3 * i - (if i = 0 then 0 else 1) := by
  induction i with
  | zero => rfl
  | succ i ih =>
    unfold rtL
    by_cases h : i = 0
    · subst h; rfl
    · rw [if_neg h] at ih ⊢; rw [if_neg (by omega)]; simp [ih]; omega
/-- Whether three letters are two digits and what follows them; the number that has been read. -/
def okI (xs : List Int) (i : Nat) : Bool := decide (0 ≤ dgU (xs.getD (3 * i) 0)) && decide (0 ≤ dgU (xs.getD (3 * i + 1) 0)) && decide (xs.getD (3 * i + 2) 0 = endZ i)
def okN (xs : List Int) : Nat → Bool
  | 0 => true
  | i + 1 => okN xs i && okI xs i
def valN (xs : List Int) : Nat → Int
  | 0 => 0
  | i + 1 => valN xs i * 256 + (16 * dgU (xs.getD (3 * i) 0) + dgU (xs.getD (3 * i + 1) 0))
theorem okN_at {xs : List Int} {n i : Nat} (h : okN xs n = true) (hi : i < n) : okI xs i = true := by
  induction n with
  | zero => omega
  | succ n ih =>
    unfold okN at h
    rw [Bool.and_eq_true] at h
    by_cases e : i = n
    · subst e; exact h.2
    · exact ih h.1 (by omega)
theorem okN_no {xs : List Int} {i n : Nat} (h : okI xs i = false) (hi : i < n) : okN xs n = false := by
  cases e : okN xs n with
  | false => rfl
  | true => rw [okN_at e hi] at h; cases h
theorem valN_bd {xs : List Int} {n : Nat} (h : okN xs n = true) : 0 ≤ valN xs n ∧ valN xs n < 256 ^ n := by
  induction n with
  | zero => simp [valN]
  | succ n ih =>
    unfold okN at h
    rw [Bool.and_eq_true] at h
    have h1 := ih h.1
    have h2 := h.2
    unfold okI at h2
    simp only [Bool.and_eq_true, decide_eq_true_eq] at h2
    have h3 := dgU_bd (xs.getD (3 * n) 0)
    have h4 := dgU_bd (xs.getD (3 * n + 1) 0)
    unfold valN
    rw [Int.pow_succ]
    generalize (256 : Int) ^ n = p at *
    omega
def parseR (xs : List Int) : (Int × Int) × Int :=
  if xs.length = 19 ∧ okN xs 6 = true ∧ kindZ (xs.getD 18 0) ≠ 0 then
    (if chk (kindZ (xs.getD 18 0)) (valN xs 6) = 0 then ((kindZ (xs.getD 18 0), valN xs 6), 0) else ((0, 0), chk (kindZ (xs.getD 18 0)) (valN xs 6)))
  else ((0, 0), 2)
theorem parseR_bad {xs : List Int} (h : ¬ (xs.length = 19 ∧ okN xs 6 = true ∧ kindZ (xs.getD 18 0) ≠ 0)) : parseR xs = ((0, 0), 2) := by unfold parseR; rw [if_neg h]
theorem parseR_form {xs : List Int} (h : xs.length = 19 ∧ okN xs 6 = true ∧ kindZ (xs.getD 18 0) ≠ 0) : parseR xs = ((if chk (kindZ (xs.getD 18 0)) (valN xs 6) = 0 then kindZ (xs.getD 18 0) else 0, if chk (kindZ (xs.getD 18 0)) (valN xs 6) = 0 then valN xs 6 else 0), chk (kindZ (xs.getD 18 0)) (valN xs 6)) := by
  unfold parseR; rw [if_pos h]
  by_cases h0 : chk (kindZ (xs.getD 18 0)) (valN xs 6) = 0
  · rw [if_pos h0, if_pos h0, if_pos h0, h0]
  · rw [if_neg h0, if_neg h0, if_neg h0]
theorem val6_bd {xs : List Int} (h : okN xs 6 = true) : 0 ≤ valN xs 6 ∧ valN xs 6 ≤ 281474976710655 := by
  have := valN_bd h
  rw [show (256 : Int) ^ 6 = 281474976710656 by decide] at this; omega
/-- A list of nineteen, letter by letter. -/
theorem nineteen {xs : List Int} (h : xs.length = 19) : ∃ a0 a1 a2 a3 a4 a5 a6 a7 a8 a9 b0 b1 b2 b3 b4 b5 b6 b7 b8, xs = [a0, a1, a2, a3, a4, a5, a6, a7, a8, a9, b0, b1, b2, b3, b4, b5, b6, b7, b8] := by
  match xs, h with
  | [a0, a1, a2, a3, a4, a5, a6, a7, a8, a9, b0, b1, b2, b3, b4, b5, b6, b7, b8], _ => exact ⟨_, _, _, _, _, _, _, _, _, _, _, _, _, _, _, _, _, _, _, rfl⟩
/-- The text of what was read is what was read. -/
theorem text_parse {xs : List Int} (h : (parseR xs).2 = 0) : textL (parseR xs).1.1 (parseR xs).1.2 = xs := by
  by_cases hc : xs.length = 19 ∧ okN xs 6 = true ∧ kindZ (xs.getD 18 0) ≠ 0
  · rw [parseR_form hc] at h ⊢
    simp only at h ⊢
    rw [if_pos h, if_pos h]
    unfold textL
    rw [if_pos h]
    obtain ⟨hl, hok, hk⟩ := hc
    have hlet := let_kind _ hk
    have o0 := okN_at hok (i := 0) (by omega)
    have o1 := okN_at hok (i := 1) (by omega)
    have o2 := okN_at hok (i := 2) (by omega)
    have o3 := okN_at hok (i := 3) (by omega)
    have o4 := okN_at hok (i := 4) (by omega)
    have o5 := okN_at hok (i := 5) (by omega)
    obtain ⟨a0, a1, a2, a3, a4, a5, a6, a7, a8, a9, b0, b1, b2, b3, b4, b5, b6, b7, b8, rfl⟩ := nineteen hl
    rw [hlet]
    clear h hk hlet hl hok
    simp only [okI, Bool.and_eq_true, decide_eq_true_eq] at o0 o1 o2 o3 o4 o5
    simp [endZ] at o0 o1 o2 o3 o4 o5
    have u0 := dgU_bd a0
    have u1 := dgU_bd a1
    have u3 := dgU_bd a3
    have u4 := dgU_bd a4
    have u6 := dgU_bd a6
    have u7 := dgU_bd a7
    have u9 := dgU_bd a9
    have v0 := dgU_bd b0
    have v2 := dgU_bd b2
    have v3 := dgU_bd b3
    have v5 := dgU_bd b5
    have v6 := dgU_bd b6
    have x0 := hexU_dgU a0 o0.1.1
    have x1 := hexU_dgU a1 o0.1.2
    have x3 := hexU_dgU a3 o1.1.1
    have x4 := hexU_dgU a4 o1.1.2
    have x6 := hexU_dgU a6 o2.1.1
    have x7 := hexU_dgU a7 o2.1.2
    have x9 := hexU_dgU a9 o3.1.1
    have y0 := hexU_dgU b0 o3.1.2
    have y2 := hexU_dgU b2 o4.1.1
    have y3 := hexU_dgU b3 o4.1.2
    have y5 := hexU_dgU b5 o5.1.1
    have y6 := hexU_dgU b6 o5.1.2
    have hv : valN [a0, a1, a2, a3, a4, a5, a6, a7, a8, a9, b0, b1, b2, b3, b4, b5, b6, b7, b8] 6 = ((((((16 * dgU a0 + dgU a1) * 256 + (16 * dgU a3 + dgU a4)) * 256 + (16 * dgU a6 + dgU a7)) * 256 + (16 * dgU a9 + dgU b0)) * 256 + (16 * dgU b2 + dgU b3)) * 256 + (16 * dgU b5 + dgU b6)) := by simp [valN]
    rw [hv]
    clear hv
    generalize dgU a0 = d0 at *
    generalize dgU a1 = d1 at *
    generalize dgU a3 = d2 at *
    generalize dgU a4 = d3 at *
    generalize dgU a6 = d4 at *
    generalize dgU a7 = d5 at *
    generalize dgU a9 = d6 at *
    generalize dgU b0 = d7 at *
    generalize dgU b2 = d8 at *
    generalize dgU b3 = d9 at *
    generalize dgU b5 = d10 at *
    generalize dgU b6 = d11 at *
    generalize hV : ((((((16 * d0 + d1) * 256 + (16 * d2 + d3)) * 256 + (16 * d4 + d5)) * 256 + (16 * d6 + d7)) * 256 + (16 * d8 + d9)) * 256 + (16 * d10 + d11)) = V
    have e0 : byt V 0 = 16 * d0 + d1 := by unfold byt; simp; omega
    have e1 : byt V 1 = 16 * d2 + d3 := by unfold byt; simp; omega
    have e2 : byt V 2 = 16 * d4 + d5 := by unfold byt; simp; omega
    have e3 : byt V 3 = 16 * d6 + d7 := by unfold byt; simp; omega
    have e4 : byt V 4 = 16 * d8 + d9 := by unfold byt; simp; omega
    have e5 : byt V 5 = 16 * d10 + d11 := by unfold byt; simp; omega
    have f0 : (16 * d0 + d1) / 16 = d0 ∧ (16 * d0 + d1) % 16 = d1 := by omega
    have f1 : (16 * d2 + d3) / 16 = d2 ∧ (16 * d2 + d3) % 16 = d3 := by omega
    have f2 : (16 * d4 + d5) / 16 = d4 ∧ (16 * d4 + d5) % 16 = d5 := by omega
    have f3 : (16 * d6 + d7) / 16 = d6 ∧ (16 * d6 + d7) % 16 = d7 := by omega
    have f4 : (16 * d8 + d9) / 16 = d8 ∧ (16 * d8 + d9) % 16 = d9 := by omega
    have f5 : (16 * d10 + d11) / 16 = d10 ∧ (16 * d10 + d11) % 16 = d11 := by omega
    simp [txtL, endZ, e0, e1, e2, e3, e4, e5, f0.1, f0.2, f1.1, f1.2, f2.1, f2.2, f3.1, f3.2, f4.1, f4.2, f5.1, f5.2, x0, x1, x3, x4, x6, x7, x9, y0, y2, y3, y5, y6, o0.2, o1.2, o2.2, o3.2, o4.2, o5.2]
  · rw [parseR_bad hc] at h; cases h
/-- What was written is read back. -/
theorem parse_text {k b : Int} (hb : 0 ≤ b) (h : chk k b = 0) : parseR (textL k b) = ((k, b), 0) := by
  have hk := chk_ok h
  have hkd := kind_let k hk.1
  have z0 := byt_bd b 0
  have z1 := byt_bd b 1
  have z2 := byt_bd b 2
  have z3 := byt_bd b 3
  have z4 := byt_bd b 4
  have z5 := byt_bd b 5
  have hv : (((((byt b 0 * 256 + byt b 1) * 256 + byt b 2) * 256 + byt b 3) * 256 + byt b 4) * 256 + byt b 5) = b := by unfold byt; simp; omega
  have ht : textL k b = [hexU (byt b 0 / 16), hexU (byt b 0 % 16), 58, hexU (byt b 1 / 16), hexU (byt b 1 % 16), 58, hexU (byt b 2 / 16), hexU (byt b 2 % 16), 58, hexU (byt b 3 / 16), hexU (byt b 3 % 16), 58, hexU (byt b 4 / 16), hexU (byt b 4 % 16), 58, hexU (byt b 5 / 16), hexU (byt b 5 % 16), 47, letZ k] := by simp [textL, h, txtL, endZ]
  have p0 := dgU_hexU (byt b 0 / 16) (by omega)
  have q0 := dgU_hexU (byt b 0 % 16) (by omega)
  have p1 := dgU_hexU (byt b 1 / 16) (by omega)
  have q1 := dgU_hexU (byt b 1 % 16) (by omega)
  have p2 := dgU_hexU (byt b 2 / 16) (by omega)
  have q2 := dgU_hexU (byt b 2 % 16) (by omega)
  have p3 := dgU_hexU (byt b 3 / 16) (by omega)
  have q3 := dgU_hexU (byt b 3 % 16) (by omega)
  have p4 := dgU_hexU (byt b 4 / 16) (by omega)
  have q4 := dgU_hexU (byt b 4 % 16) (by omega)
  have p5 := dgU_hexU (byt b 5 / 16) (by omega)
  have q5 := dgU_hexU (byt b 5 % 16) (by omega)
  rw [ht]
  clear ht
  generalize byt b 0 = c0 at *
  generalize byt b 1 = c1 at *
  generalize byt b 2 = c2 at *
  generalize byt b 3 = c3 at *
  generalize byt b 4 = c4 at *
  generalize byt b 5 = c5 at *
  have hval : valN [hexU (c0 / 16), hexU (c0 % 16), 58, hexU (c1 / 16), hexU (c1 % 16), 58, hexU (c2 / 16), hexU (c2 % 16), 58, hexU (c3 / 16), hexU (c3 % 16), 58, hexU (c4 / 16), hexU (c4 % 16), 58, hexU (c5 / 16), hexU (c5 % 16), 47, letZ k] 6 = b := by
    simp [valN, p0, q0, p1, q1, p2, q2, p3, q3, p4, q4, p5, q5]; omega
  have hok : okN [hexU (c0 / 16), hexU (c0 % 16), 58, hexU (c1 / 16), hexU (c1 % 16), 58, hexU (c2 / 16), hexU (c2 % 16), 58, hexU (c3 / 16), hexU (c3 % 16), 58, hexU (c4 / 16), hexU (c4 % 16), 58, hexU (c5 / 16), hexU (c5 % 16), 47, letZ k] 6 = true := by
    simp [okN, okI, endZ, p0, q0, p1, q1, p2, q2, p3, q3, p4, q4, p5, q5]; omega
  rw [parseR_form ⟨rfl, hok, by simp [hkd]; omega⟩, hval]
  simp [hkd, h]
end Go.Proofs.YtkbjfmfkpdlogaaDoor.Adr
