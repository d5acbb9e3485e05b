/- What a changed byte of a record does to the reading of a file. -/
import Derived.Test.YtkbhmgdmkamcfaaDoorCapLawH2
set_option linter.unusedVariables false
set_option linter.unusedSimpArgs false
namespace Go.Proofs.YtkbhmgdmkamcfaaDoor.Cap
open Go.RowKit Mem Rw Air Base Oct

theorem sum_app (q : Nat) (hq : q < 16777216) {zs : List Int} (bz : Bytes zs) : Crc.sumN q (Crc.appL q zs) = 0 := by
  unfold Crc.appL
  rw [Crc.sumN_append, Crc.sum_tail _ (Crc.sumN_lt _ _ hq bz)]
theorem burst (q : Nat) (hq : q < 16777216) (s out : List Int) (hs : Crc.sumN q s = 0) (hl : out.length = s.length) (h3 : 3 ≤ s.length) (bo : Bytes out) (a p : Nat) (ha : a ≤ 8 * s.length) (hp : p < 2 ^ 24) (hp0 : p ≠ 0) (hn : Crc.num out = Crc.num s ^^^ 2 ^ a * p) : Crc.chkR q out = ([], 10) := by
  refine Crc.chkR_bad (by omega) fun e => ?_
  have h1 : out = Crc.appL q (out.take (out.length - 3)) := by
    unfold Crc.appL
    rw [← e, List.take_append_drop]
  have h2 : Crc.sumN q out = 0 := by
    rw [h1]; exact sum_app q hq (bytes_take bo _)
  rw [Crc.sumN_eq, hl, hn, ← Nat.xor_assoc, Crc.ticks_xor, ← Crc.sumN_eq, hs, Nat.zero_xor] at h2
  have h4 : 8 * s.length = (8 * s.length - a) + a := by omega
  rw [h4, Crc.ticks_add, Crc.ticks_shift] at h2
  exact Crc.ticks_ne _ _ hp hp0 h2
theorem num_flip (l : List Int) (k : Nat) (y : Int) (h : k < l.length) : Crc.num (l.set k (bx (l.getD k 0) y)) = Crc.num l ^^^ 2 ^ (8 * k) * y.toNat := by
  induction l generalizing k with
  | nil => simp at h
  | cons c r ih =>
    cases k with
    | zero =>
      simp only [List.getD_cons_zero, List.set_cons_zero, Crc.num]
      unfold bx
      rw [Int.toNat_natCast, Nat.mul_zero, Nat.pow_zero, Nat.one_mul, Nat.xor_assoc, Nat.xor_comm y.toNat, ← Nat.xor_assoc]
    | succ k =>
      simp only [List.set_cons_succ, List.getD_cons_succ, Crc.num]
      rw [ih k (by simpa using h), Crc.mul256_xor, ← Nat.xor_assoc, show 8 * (k + 1) = 8 + 8 * k by omega, Nat.pow_add, Nat.mul_assoc]
theorem bx_in (x y : Int) (hx : 0 ≤ x ∧ x ≤ 255) (hy : 0 ≤ y ∧ y ≤ 255) : 0 ≤ bx x y ∧ bx x y ≤ 255 := by
  unfold bx
  have h1 : x.toNat < 2 ^ 8 := by omega
  have h2 : y.toNat < 2 ^ 8 := by omega
  have := Nat.xor_lt_two_pow h1 h2
  omega
theorem set_bytes {l : List Int} (h : Bytes l) (k : Nat) (y : Int) (hy : 0 ≤ y ∧ y ≤ 255) : Bytes (l.set k y) := by
  intro z hz
  rcases List.mem_or_eq_of_mem_set hz with hz | rfl
  · exact h z hz
  · exact hy
theorem getD_in {l : List Int} (h : Bytes l) (k : Nat) : 0 ≤ l.getD k 0 ∧ l.getD k 0 ≤ 255 := by
  by_cases hk : k < l.length
  · rw [List.getD_eq_getElem?_getD, List.getElem?_eq_getElem hk]; exact h _ (List.getElem_mem _)
  · rw [List.getD_eq_getElem?_getD, List.getElem?_eq_none (by omega)]; simp
/-- The record with a byte changed. -/
def flipL (r : Tr) (t : Nat) (y : Int) : List Int := (recL r).set t (bx ((recL r).getD t 0) y)
theorem flip_len (r : Tr) (t : Nat) (y : Int) : (flipL r t y).length = 16 + r.bs.length := by unfold flipL; rw [List.length_set, rec_len]
theorem flip_head {r : Tr} (h : rightB r = true) (hl : r.bs.length ≤ 260) (hb : Bytes r.bs) (t : Nat) (y : Int) (ht : t < 16 + r.bs.length) (h11 : t ≠ 11) (h12 : t ≠ 12) (hy : 0 ≤ y ∧ y ≤ 255) (rest : List Int) :
    lenZ ((flipL r t y ++ rest).take 13) = (r.bs.length : Int) := by
  have hrb := rec_bytes h hb
  have hfb : Bytes (flipL r t y) := set_bytes hrb t _ (bx_in _ _ (getD_in hrb t) hy)
  have e1 : (flipL r t y ++ rest).take 13 = (flipL r t y).take 13 := List.take_append_of_le_length (by rw [flip_len]; omega)
  have e0 : (recL r).take 13 = putL (fldsL r) := by
    have := take13_rec r [] (recL r ++ []).length (by rw [List.length_append, rec_len]; omega)
    rw [List.take_length, List.append_nil] at this
    exact this
  have e3 : ((flipL r t y).take 13).drop 11 = ((recL r).take 13).drop 11 := by
    unfold flipL
    by_cases h13 : t < 13
    · rw [List.take_set, List.drop_set_of_lt (by omega)]
    · rw [List.take_set_of_le (by omega)]
  have l0 := len_put h hl
  rw [← e0] at l0
  rw [lenZ_eq (bytes_take hrb _), nm4] at l0
  rw [e1, lenZ_eq (bytes_take hfb _), nm4, e3, l0]
theorem recE_flip {p : Option Int} {r : Tr} (h : rightB r = true) (hl : r.bs.length ≤ 260) (hb : Bytes r.bs) (t : Nat) (y : Int) (ht : t < 16 + r.bs.length) (h11 : t ≠ 11) (h12 : t ≠ 12) (hy : 1 ≤ y ∧ y ≤ 255) (rest : List Int) :
    recE p (flipL r t y ++ rest) = 10 := by
  have hrb := rec_bytes h hb
  have hy' : 0 ≤ y ∧ y ≤ 255 := by omega
  have hfb : Bytes (flipL r t y) := set_bytes hrb t _ (bx_in _ _ (getD_in hrb t) hy')
  have hH := flip_head h hl hb t y ht h11 h12 hy' rest
  have hN : recN (flipL r t y ++ rest) = r.bs.length := by unfold recN; rw [hH]; omega
  have hz : (bodZ (flipL r t y ++ rest)) = ([], 10) := by
    unfold bodZ
    rw [hN, List.take_append_of_le_length (by rw [flip_len]; omega), List.take_of_length_le (by rw [flip_len]; omega)]
    have hs0 : Crc.sumN (Crc.ini 0) (recL r) = 0 := by
      refine sum_app _ (Crc.ini_lt 0) ?_
      have : Bytes (recL r) := hrb
      unfold recL Crc.appL at this
      intro z hz
      exact this z (List.mem_append_left _ hz)
    exact burst (Crc.ini 0) (Crc.ini_lt 0) (recL r) (flipL r t y) hs0 (by rw [flip_len, rec_len]) (by rw [rec_len]; omega) hfb (8 * t) y.toNat (by rw [rec_len]; omega) (by omega) (by omega) (num_flip _ _ _ (by rw [rec_len]; omega))
  have hL : (flipL r t y ++ rest).length = 16 + r.bs.length + rest.length := by rw [List.length_append, flip_len]
  rw [recE_sum (by omega) (by rw [hH]; omega) (by omega) (by rw [hz]; decide), hz]
theorem file_at (l : List Tr) {j : Nat} {r : Tr} (hr : l[j]? = some r) (t : Nat) (ht : t < 16 + r.bs.length) : (sigL ++ bytesL l).getD (4 + offL l j + t) 0 = (recL r).getD t 0 := by
  rw [bytesL_split l hr, List.getD_eq_getElem?_getD, List.getD_eq_getElem?_getD]
  rw [List.getElem?_append_right (by rw [sig_len]; omega), List.getElem?_append_right (by rw [sig_len]; unfold offL; omega), List.getElem?_append_left (by rw [sig_len, rec_len]; unfold offL; omega)]
  rw [sig_len]
  unfold offL
  rw [show 4 + (bytesL (l.take j)).length + t - 4 - (bytesL (l.take j)).length = t by omega]
theorem file_set (l : List Tr) {j : Nat} {r : Tr} (hr : l[j]? = some r) (t : Nat) (ht : t < 16 + r.bs.length) (v : Int) : (sigL ++ bytesL l).set (4 + offL l j + t) v = sigL ++ (bytesL (l.take j) ++ ((recL r).set t v ++ bytesL (l.drop (j + 1)))) := by
  rw [bytesL_split l hr, List.set_append_right _ _ (by rw [sig_len]; omega), List.set_append_right _ _ (by rw [sig_len]; unfold offL; omega), List.set_append_left _ _ (by rw [sig_len, rec_len]; unfold offL; omega)]
  rw [sig_len]
  unfold offL
  rw [show 4 + (bytesL (l.take j)).length + t - 4 - (bytesL (l.take j)).length = t by omega]
/-- The records ahead of a changed byte are read, and the sum is wrong. -/
theorem readA_flip {l : List Tr} (h : okL none l) (hb : ∀ r ∈ l, Bytes r.bs) {j : Nat} {r : Tr} (hr : l[j]? = some r) (t : Nat) (y : Int) (ht : t < 16 + r.bs.length) (h11 : t ≠ 11) (h12 : t ≠ 12) (hy : 1 ≤ y ∧ y ≤ 255) :
    readA ((sigL ++ bytesL l).set (4 + offL l j + t) (bx ((sigL ++ bytesL l).getD (4 + offL l j + t) 0) y)) = (l.take j, 4 + (offL l j : Int), 10) := by
  have hj : j < l.length := (List.getElem?_eq_some_iff.1 hr).1
  obtain ⟨g1, g2, g3⟩ := chk_good (okL_at h hr)
  have hrb := hb r (List.mem_of_getElem? hr)
  rw [file_at l hr t ht, file_set l hr t ht]
  have hF : (recL r).set t (bx ((recL r).getD t 0) y) = flipL r t y := rfl
  rw [hF]
  have hge := offL_ge l j (by omega)
  have hlen : (sigL ++ (bytesL (l.take j) ++ (flipL r t y ++ bytesL (l.drop (j + 1))))).length = 4 + offL l j + 16 + r.bs.length + (bytesL (l.drop (j + 1))).length := by
    simp only [List.length_append, flip_len, sig_len]; unfold offL; omega
  unfold readA
  rw [if_neg (by omega), if_neg (by simp [sigL])]
  have hd : (sigL ++ (bytesL (l.take j) ++ (flipL r t y ++ bytesL (l.drop (j + 1))))).drop 4 = bytesL (l.take j) ++ (flipL r t y ++ bytesL (l.drop (j + 1))) := rfl
  rw [hd]
  obtain ⟨f, hf⟩ : ∃ f, (sigL ++ (bytesL (l.take j) ++ (flipL r t y ++ bytesL (l.drop (j + 1))))).length = f := ⟨_, rfl⟩
  rw [hf] at hlen ⊢
  rw [readF_list (okL_take h j) f _ (by rw [List.length_take]; omega)]
  have hpos : f - (l.take j).length = f - (l.take j).length - 1 + 1 := by rw [List.length_take]; omega
  have hE : ∀ p, recE p (flipL r t y ++ bytesL (l.drop (j + 1))) = 10 := fun p => recE_flip g1 g2 hrb t y ht h11 h12 hy _
  rw [hpos, readF_bad _ _ (by rw [List.length_append, flip_len]; omega) (by rw [hE]; decide), hE]
  simp [offL]
end Go.Proofs.YtkbhmgdmkamcfaaDoor.Cap
