/- The text of a map is read back to the map, by the code's way and by the document's: plain lists. -/
import Derived.Test.YtkpjpjjpjpimiaaDoorChmParse3
import Derived.Test.YtkpjpjjpjpimiaaDoorChmCode
set_option linter.unusedVariables false
set_option linter.unusedSimpArgs false
namespace Go.Proofs.YtkpjpjjpjpimiaaDoor.Chm
open Go.RowKit

theorem idx_hit (p r : List UInt8) (c : UInt8) (h : c ∉ p) : Lib.index (p ++ c :: r) [c] = (p.length : Int) := by
  rw [Lib.index_one]
  induction p with
  | nil => simp [Lib.indexByte]
  | cons b p ih =>
    have h1 : (b == c) = false := by simp only [List.mem_cons, not_or] at h; simpa using fun e => h.1 e.symm
    have h2 := ih (fun hm => h (List.mem_cons_of_mem _ hm))
    simp only [List.cons_append, Lib.indexByte, h1, h2]
    have h3 : ((p.length : Int) == -1) = false := by simp
    simp [h3]
theorem idx_miss (p : List UInt8) (c : UInt8) (h : c ∉ p) : Lib.index p [c] = -1 := by
  rw [Lib.index_one]
  induction p with
  | nil => rfl
  | cons b p ih =>
    have h1 : (b == c) = false := by simp only [List.mem_cons, not_or] at h; simpa using fun e => h.1 e.symm
    have h2 := ih (fun hm => h (List.mem_cons_of_mem _ hm))
    simp [Lib.indexByte, h1, h2]
theorem tail_cons (q : List UInt8) (r : List (List UInt8)) : Lib.joinTail [44] (q :: r) = 44 :: (q ++ Lib.joinTail [44] r) := by simp [Lib.joinTail]
theorem splitK_join : ∀ (r : List (List UInt8)) (p : List UInt8), (∀ q ∈ p :: r, (44 : UInt8) ∉ q) → Lib.splitK [44] 0 r.length (p ++ Lib.joinTail [44] r) = p :: r := by
  intro r
  induction r with
  | nil => intro p h; simp [Lib.joinTail, Lib.splitK]
  | cons q r ih =>
    intro p h
    have hp := h p (by simp)
    have h2 := ih q (fun x hx => h x (by simp only [List.mem_cons] at hx ⊢; exact .inr hx))
    rw [tail_cons]
    simp only [List.length_cons, Lib.splitK]
    rw [idx_hit p _ 44 hp]
    have h3 : ((p.length : Int) == -1) = false := by simp
    rw [h3]
    simp only [Bool.false_eq_true, if_false, Int.toNat_natCast, Nat.add_zero, List.length_nil, Nat.zero_add]
    rw [show (p ++ 44 :: (q ++ Lib.joinTail [44] r)).take p.length = p by simp, show (p ++ 44 :: (q ++ Lib.joinTail [44] r)).drop (p.length + 1) = q ++ Lib.joinTail [44] r by simp [List.drop_append]]
    rw [h2]
theorem count_join : ∀ (r : List (List UInt8)), (∀ q ∈ r, (44 : UInt8) ∉ q) → (Lib.joinTail [44] r).count 44 = r.length := by
  intro r
  induction r with
  | nil => intro _; rfl
  | cons q r ih =>
    intro h
    rw [tail_cons, List.count_cons_self, List.count_append, List.count_eq_zero.2 (h q (by simp)), ih (fun x hx => h x (by simp [hx]))]
    simp
theorem parts_join (p : List UInt8) (r : List (List UInt8)) (h : ∀ q ∈ p :: r, (44 : UInt8) ∉ q) : parts ⟨(Lib.join (p :: r) [44]).toArray⟩ = p :: r := by
  unfold parts pieces
  rw [Lib.splitB_data]
  have e : Lib.countB ⟨(Lib.join (p :: r) [44]).toArray⟩ ⟨#[44]⟩ = r.length := by
    show Lib.count (Lib.join (p :: r) [44]) [44] = r.length
    rw [Lib.count_one, Lib.join_cons, List.count_append, List.count_eq_zero.2 (h p (by simp)), count_join r (fun x hx => h x (by simp [hx]))]
    simp
  rw [e]
  show Lib.splitK [44] 0 r.length (Lib.join (p :: r) [44]) = p :: r
  rw [Lib.join_cons]
  exact splitK_join r p h
theorem dec_chan : ∀ u : Fin 37, chanO (Lib.decDigits u.val) = some u.val := by decide +kernel
theorem dec_clean {u : Nat} (h : u < 100) {c : UInt8} (hc : c.toNat < 48) : c ∉ Lib.decDigits u := by
  intro hm
  by_cases h1 : u < 10
  · rw [Lib.decDigits_one h1] at hm
    simp only [List.mem_singleton] at hm
    rw [hm] at hc
    simp at hc
    omega
  · rw [Lib.decDigits_two h1 h] at hm
    simp only [List.mem_cons, List.not_mem_nil, or_false] at hm
    rcases hm with hm | hm
    · rw [hm] at hc; simp at hc; omega
    · rw [hm] at hc; simp at hc; omega
theorem part_clean {r : Nat × Nat} (h1 : r.1 < 100) (h2 : r.2 < 100) : (44 : UInt8) ∉ part r := by
  have c1 := dec_clean h1 (c := 44) (by decide)
  have c2 := dec_clean h2 (c := 44) (by decide)
  unfold part
  split
  · simp only [List.mem_append, List.mem_cons, not_or]
    exact ⟨c1, by decide, c2⟩
  · exact c1
theorem cut_part {r : Nat × Nat} (h1 : r.1 < 100) : Lib.cut (part r) [45] = if r.1 < r.2 then (Lib.decDigits r.1, Lib.decDigits r.2, true) else (Lib.decDigits r.1, [], false) := by
  have c1 := dec_clean h1 (c := 45) (by decide)
  by_cases hlt : r.1 < r.2
  · have e : part r = Lib.decDigits r.1 ++ 45 :: Lib.decDigits r.2 := by unfold part; rw [if_pos hlt]
    rw [if_pos hlt, e]
    unfold Lib.cut
    rw [idx_hit _ _ 45 c1, if_pos (Int.natCast_nonneg _), Int.toNat_natCast]
    rw [show (Lib.decDigits r.1 ++ 45 :: Lib.decDigits r.2).take (Lib.decDigits r.1).length = Lib.decDigits r.1 by simp, show (Lib.decDigits r.1 ++ 45 :: Lib.decDigits r.2).drop ((Lib.decDigits r.1).length + [(45 : UInt8)].length) = Lib.decDigits r.2 by simp [List.drop_append]]
  · have e : part r = Lib.decDigits r.1 := by unfold part; rw [if_neg hlt]
    rw [if_neg hlt, e]
    unfold Lib.cut
    rw [idx_miss _ 45 c1, if_neg (by omega)]
theorem range_part {r : Nat × Nat} (h1 : r.1 ≤ r.2) (h2 : r.2 < 37) : rangeO (part r) = some (orN 0 r.1 (r.2 + 1 - r.1)) := by
  have d1 := dec_chan ⟨r.1, by omega⟩
  have d2 := dec_chan ⟨r.2, h2⟩
  simp only [] at d1 d2
  unfold rangeO
  rw [cut_part (by omega)]
  by_cases hlt : r.1 < r.2
  · rw [if_pos hlt]
    simp only [if_true]
    rw [d1, d2]
  · have he : r.2 = r.1 := by omega
    rw [if_neg hlt]
    simp only [Bool.false_eq_true, if_false]
    rw [d1, he]
theorem bit_or (m f : Nat) : ∀ (n c : Nat), (orN m f n).testBit c = (m.testBit c || (decide (f ≤ c) && decide (c < f + n))) := by
  intro n
  induction n with
  | zero => intro c; by_cases h : f ≤ c <;> simp [orN, h] <;> (intro hc; omega)
  | succ n ih =>
    intro c
    rw [orN, Nat.testBit_or, ih, Nat.testBit_two_pow]
    by_cases h1 : f ≤ c
    · by_cases h2 : c < f + n
      · simp [h1, h2, show c < f + (n + 1) by omega]
      · by_cases h3 : f + n = c
        · simp [h1, h2, h3, show c < f + (n + 1) by omega]
        · simp [h1, h2, h3, show ¬ c < f + (n + 1) by omega]
    · simp [h1, show ¬ f + n = c by omega]
def inR (rs : List (Nat × Nat)) (c : Nat) : Bool := rs.any fun r => decide (r.1 ≤ c) && decide (c ≤ r.2)
theorem pall_bits : ∀ (rs : List (Nat × Nat)) (m : Nat), (∀ r ∈ rs, r.1 ≤ r.2 ∧ r.2 < 37) → ∃ k, pallO (rs.map part) m = some k ∧ ∀ c, k.testBit c = (m.testBit c || inR rs c) := by
  intro rs
  induction rs with
  | nil => intro m _; exact ⟨m, rfl, fun c => by simp [inR]⟩
  | cons r rs ih =>
    intro m h
    have hr := h r (by simp)
    obtain ⟨k, h1, h2⟩ := ih (m ||| orN 0 r.1 (r.2 + 1 - r.1)) (fun x hx => h x (by simp [hx]))
    refine ⟨k, ?_, fun c => ?_⟩
    · rw [List.map_cons, pallO_cons, range_part hr.1 hr.2]; exact h1
    · rw [h2, Nat.testBit_or, bit_or]
      have e : decide (c < r.1 + (r.2 + 1 - r.1)) = decide (c ≤ r.2) := by rw [decide_eq_decide]; omega
      rw [e]
      simp [inR, Bool.or_assoc]
theorem in_rngs {m : Nat} (hm : m < 137438953472) (c : Nat) : inR (rngs m) c = m.testBit c := by
  have h1 : inR (rngs m) c = hasN m c := by
    rw [Bool.eq_iff_iff, has_rngs]
    unfold inR
    rw [List.any_eq_true]
    simp
  rw [h1]
  unfold hasN
  by_cases h : c < 37
  · simp [h]
  · simp only [h, decide_false, Bool.false_and]
    exact (Nat.testBit_lt_two_pow (Nat.lt_of_lt_of_le hm (by have := Nat.pow_le_pow_right (n := 2) (by decide) (show 37 ≤ c by omega); exact this))).symm
theorem code_back {m : Nat} (hm : m < 137438953472) (h0 : rngs m ≠ []) : pallO (parts ⟨(textL m).toArray⟩) 0 = some m := by
  have hb : ∀ r ∈ rngs m, r.1 ≤ r.2 ∧ r.2 < 37 := fun r hr => rng_bd hr
  have e : parts ⟨(textL m).toArray⟩ = (rngs m).map part := by
    unfold textL
    have hc : ∀ q ∈ (rngs m).map part, (44 : UInt8) ∉ q := by
      intro q hq
      obtain ⟨r, hr, rfl⟩ := List.mem_map.1 hq
      have := hb r hr
      exact part_clean (by omega) (by omega)
    cases hl : (rngs m).map part with
    | nil => simp at hl; exact absurd hl h0
    | cons p r => exact parts_join p r (by rw [← hl]; exact hc)
  rw [e]
  obtain ⟨k, h1, h2⟩ := pall_bits (rngs m) 0 hb
  rw [h1]
  congr 1
  apply Nat.eq_of_testBit_eq
  intro c
  rw [h2, in_rngs hm]
  simp
/-- The numbers that the document reads in a text: each with whether it comes after a dash. -/
def numsL : List UInt8 → Nat → Bool → Bool → List (Nat × Bool)
  | [], cur, dig, aft => if dig then [(cur, aft)] else []
  | b :: r, cur, dig, aft => if 48 ≤ b.toNat ∧ b.toNat ≤ 57 then numsL r ((10 * cur + (b.toNat - 48)) % 100) true aft else (if dig then [(cur, aft)] else []) ++ numsL r 0 false (b == 45)
theorem nums_digit {b : UInt8} (r : List UInt8) (cur : Nat) (dig aft : Bool) (h : 48 ≤ b.toNat ∧ b.toNat ≤ 57) : numsL (b :: r) cur dig aft = numsL r ((10 * cur + (b.toNat - 48)) % 100) true aft := by rw [numsL, if_pos h]
theorem nums_other {b : UInt8} (r : List UInt8) (cur : Nat) (dig aft : Bool) (h : ¬ (48 ≤ b.toNat ∧ b.toNat ≤ 57)) : numsL (b :: r) cur dig aft = (if dig then [(cur, aft)] else []) ++ numsL r 0 false (b == 45) := by rw [numsL, if_neg h]
theorem dig_nat {u : Nat} (h : u < 10) : (UInt8.ofNat (48 + u)).toNat = 48 + u := by simp; omega
theorem nums_dec {u : Nat} (h : u < 100) (rest : List UInt8) (a : Bool) : numsL (Lib.decDigits u ++ rest) 0 false a = numsL rest u true a := by
  by_cases h1 : u < 10
  · rw [Lib.decDigits_one h1]
    have e := dig_nat h1
    show numsL (UInt8.ofNat (48 + u) :: rest) 0 false a = _
    rw [nums_digit _ _ _ _ (by rw [e]; omega), e]
    congr 1; omega
  · rw [Lib.decDigits_two h1 h]
    have e1 := dig_nat (u := u / 10) (by omega)
    have e2 := dig_nat (u := u % 10) (by omega)
    show numsL (UInt8.ofNat (48 + u / 10) :: UInt8.ofNat (48 + u % 10) :: rest) 0 false a = _
    rw [nums_digit _ _ _ _ (by rw [e1]; omega), nums_digit _ _ _ _ (by rw [e2]; omega), e1, e2]
    congr 1; omega
def pairsOf : List (Nat × Nat) → List (Nat × Bool)
  | [] => []
  | r :: rs => if r.1 < r.2 then (r.1, false) :: (r.2, true) :: pairsOf rs else (r.1, false) :: pairsOf rs
theorem nums_part {r : Nat × Nat} (h1 : r.1 < 100) (h2 : r.2 < 100) (rest : List UInt8) : numsL (part r ++ rest) 0 false false = if r.1 < r.2 then (r.1, false) :: numsL rest r.2 true true else numsL rest r.1 true false := by
  unfold part
  split
  · rw [List.append_assoc, nums_dec h1, List.cons_append, nums_other _ _ _ _ (by decide)]
    simp only [if_true, List.singleton_append]
    rw [show ((45 : UInt8) == 45) = true by decide, nums_dec h2]
  · rw [nums_dec h1]
theorem nums_tail : ∀ (rs : List (Nat × Nat)) (cur : Nat) (aft : Bool), (∀ r ∈ rs, r.1 < 100 ∧ r.2 < 100) → numsL (Lib.joinTail [44] (rs.map part)) cur true aft = (cur, aft) :: pairsOf rs := by
  intro rs
  induction rs with
  | nil => intro cur aft _; rfl
  | cons r rs ih =>
    intro cur aft h
    have hr := h r (by simp)
    have hrs : ∀ x ∈ rs, x.1 < 100 ∧ x.2 < 100 := fun x hx => h x (by simp [hx])
    rw [List.map_cons, tail_cons, nums_other _ _ _ _ (by decide), show ((44 : UInt8) == 45) = false by decide, nums_part hr.1 hr.2]
    simp only [if_true, List.singleton_append]
    rw [pairsOf]
    split
    · rw [ih _ _ hrs]
    · rw [ih _ _ hrs]
theorem nums_text (m : Nat) : numsL (textL m) 0 false false = pairsOf (rngs m) := by
  have hb : ∀ r ∈ rngs m, r.1 < 100 ∧ r.2 < 100 := fun r hr => by have := rng_bd hr; omega
  unfold textL
  cases hl : rngs m with
  | nil => rfl
  | cons r rs =>
    rw [hl] at hb
    have hr := hb r (by simp)
    have hrs : ∀ x ∈ rs, x.1 < 100 ∧ x.2 < 100 := fun x hx => hb x (by simp [hx])
    rw [List.map_cons, Lib.join_cons, nums_part hr.1 hr.2, pairsOf]
    split
    · rw [nums_tail _ _ _ hrs]
    · rw [nums_tail _ _ _ hrs]
/-- The channels from f to g put in. -/
def fillN (m f g : Nat) : Nat := orN m f (min (g + 1) 37 - f)
/-- The map that the numbers name; before: the number before, if there is one. -/
def foldN : List (Nat × Bool) → Option Nat → Nat → Nat
  | [], _, m => m
  | (n, a) :: r, before, m => foldN r (some n) (fillN m (if a then before.getD n else n) n)
theorem fill_bits (m f g c : Nat) : (fillN m f g).testBit c = (m.testBit c || (decide (f ≤ c) && decide (c ≤ g) && decide (c < 37))) := by
  unfold fillN
  rw [bit_or]
  by_cases h1 : f ≤ c
  · have e : decide (c < f + (min (g + 1) 37 - f)) = (decide (c ≤ g) && decide (c < 37)) := by
      rw [Bool.eq_iff_iff]; simp; omega
    rw [e]; simp [h1]
  · simp [h1]
theorem fold_bits : ∀ (rs : List (Nat × Nat)) (before : Option Nat) (m c : Nat), (∀ r ∈ rs, r.1 ≤ r.2 ∧ r.2 < 37) → (foldN (pairsOf rs) before m).testBit c = (m.testBit c || inR rs c) := by
  intro rs
  induction rs with
  | nil => intro before m c _; simp [pairsOf, foldN, inR]
  | cons r rs ih =>
    intro before m c h
    have hr := h r (by simp)
    have hrs : ∀ x ∈ rs, x.1 ≤ x.2 ∧ x.2 < 37 := fun x hx => h x (by simp [hx])
    rw [pairsOf]
    have e0 : inR (r :: rs) c = ((decide (r.1 ≤ c) && decide (c ≤ r.2)) || inR rs c) := rfl
    rw [e0]
    split
    · rename_i hlt
      simp only [foldN, Bool.false_eq_true, if_false, if_true, Option.getD_some]
      rw [ih _ _ _ hrs, fill_bits, fill_bits]
      have e : (decide (r.1 ≤ c) && decide (c ≤ r.1) && decide (c < 37) || decide (r.1 ≤ c) && decide (c ≤ r.2) && decide (c < 37)) = (decide (r.1 ≤ c) && decide (c ≤ r.2)) := by
        rw [Bool.eq_iff_iff]; simp; omega
      have e2 : ∀ X1 X2 R I M : Bool, (X1 || X2) = R → (((M || X1) || X2) || I) = (M || (R || I)) := by decide
      exact e2 _ _ _ _ _ e
    · rename_i hlt
      simp only [foldN, Bool.false_eq_true, if_false]
      rw [ih _ _ _ hrs, fill_bits]
      have e : (decide (r.1 ≤ c) && decide (c ≤ r.1) && decide (c < 37)) = (decide (r.1 ≤ c) && decide (c ≤ r.2)) := by
        rw [Bool.eq_iff_iff]; simp; omega
      rw [e]
      simp only [Bool.or_assoc]
theorem doc_back {m : Nat} (hm : m < 137438953472) : foldN (numsL (textL m) 0 false false) none 0 = m := by
  rw [nums_text]
  apply Nat.eq_of_testBit_eq
  intro c
  rw [fold_bits _ _ _ _ (fun r hr => rng_bd hr), in_rngs hm]
  simp
/-- What the document's reading returns. -/
def docO (s : ByteArray) : Option Nat :=
  if 120 < s.size then none
  else if textL (foldN (numsL s.data.toList 0 false false) none 0) = s.data.toList ∧ okM (foldN (numsL s.data.toList 0 false false) none 0) = 0 then some (foldN (numsL s.data.toList 0 false false) none 0) else none
theorem rngs_ne {m : Nat} (h : okM m = 0) : rngs m ≠ [] := by
  intro he
  have hc := (okM_bd h).2
  obtain ⟨c, hm⟩ : ∃ c, c ∈ chans m := by
    cases hl : chans m with
    | nil => rw [hl] at hc; simp at hc
    | cons a r => exact ⟨a, by simp⟩
  obtain ⟨r, hr, _⟩ := has_rngs.1 (mem_chans.1 hm)
  rw [he] at hr
  cases hr
theorem parse_same (s : ByteArray) : parseO s = docO s := by
  have key : ∀ m, okM m = 0 → textL m = s.data.toList → parseO s = some m ∧ docO s = some m := by
    intro m h1 h2
    have hb := (okM_bd h1).1
    have hs : s = ⟨(textL m).toArray⟩ := by rw [h2]
    have k1 := code_back hb (rngs_ne h1)
    rw [← hs] at k1
    have k2 := doc_back hb
    rw [h2] at k2
    refine ⟨?_, ?_⟩
    · unfold parseO; rw [k1]; exact if_pos ⟨h1, h2⟩
    · unfold docO
      have hl : ¬ 120 < s.size := by
        have := text_len m
        rw [h2] at this
        show ¬ 120 < s.data.toList.length
        omega
      rw [if_neg hl, k2, if_pos ⟨h2, h1⟩]
  cases hp : parseO s with
  | some m =>
    have : okM m = 0 ∧ textL m = s.data.toList := by
      unfold parseO at hp
      split at hp
      · split at hp
        · rename_i k _ hk; cases hp; exact hk
        · cases hp
      · cases hp
    rw [(key m this.1 this.2).2]
  | none =>
    cases hd : docO s with
    | none => rfl
    | some m =>
      have : okM m = 0 ∧ textL m = s.data.toList := by
        unfold docO at hd
        split at hd
        · cases hd
        · split at hd
          · rename_i hk; cases hd; exact ⟨hk.2, hk.1⟩
          · cases hd
      rw [(key m this.1 this.2).1] at hp
      cases hp
theorem parse_text {m : Nat} (h : okM m = 0) : parseO ⟨(textL m).toArray⟩ = some m := by
  unfold parseO
  rw [code_back (okM_bd h).1 (rngs_ne h)]
  exact if_pos ⟨h, rfl⟩
theorem parse_some {s : ByteArray} {m : Nat} (hp : parseO s = some m) : okM m = 0 ∧ textL m = s.data.toList := by
  unfold parseO at hp
  split at hp
  · split at hp
    · rename_i k _ hk; cases hp; exact hk
    · cases hp
  · cases hp
end Go.Proofs.YtkpjpjjpjpimiaaDoor.Chm
