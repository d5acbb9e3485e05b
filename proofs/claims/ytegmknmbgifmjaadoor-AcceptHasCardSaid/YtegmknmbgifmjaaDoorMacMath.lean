/- Plain facts on groups, tags, key streams and sealed bytes, over lists of integers. No program is mentioned. -/
import Derived.Test.YtegmknmbgifmjaaDoorBlkMath
set_option linter.unusedVariables false
set_option linter.unusedSimpArgs false
namespace Go.Proofs.YtegmknmbgifmjaaDoor.Mac
open Mem Oct Blk

/-- A group as a number. -/
def grp (xs : List Int) (j : Nat) : Int := valL ((xs.drop (8 * j)).take 8)
/-- How many groups there are. -/
def ngr (n : Nat) : Nat := (n + 7) / 8
/-- The number that runs over the groups. -/
def tagA (k : Int) (xs : List Int) : Nat → Int
  | 0 => mixZ k xs.length
  | j + 1 => mixZ k (bx (tagA k xs j) (grp xs j))
def tagZ (k : Int) (xs : List Int) : Int := tagA k xs (ngr xs.length)
theorem tagA_zero (k : Int) (xs : List Int) : tagA k xs 0 = mixZ k xs.length := rfl
theorem tagA_succ (k : Int) (xs : List Int) (j : Nat) : tagA k xs (j + 1) = mixZ k (bx (tagA k xs j) (grp xs j)) := rfl
theorem take8_bytes {xs : List Int} (h : Bytes xs) (j : Nat) : Bytes ((xs.drop (8 * j)).take 8) := bytes_take (bytes_drop h _) _
theorem grp_bd {xs : List Int} (h : Bytes xs) (j : Nat) : 0 ≤ grp xs j ∧ grp xs j ≤ 18446744073709551615 := by
  have h1 := valL_bd (take8_bytes h j)
  have h2 := Ser.p2_mono (8 * ((xs.drop (8 * j)).take 8).length) 64 (by rw [List.length_take]; omega)
  rw [Ser.p2_64] at h2
  unfold grp; omega
theorem tagA_bd (k : Int) {xs : List Int} (h : Bytes xs) (hl : xs.length ≤ 140737488355328) (j : Nat) : 0 ≤ tagA k xs j ∧ tagA k xs j ≤ 18446744073709551615 := by
  induction j with
  | zero => exact mixZ_bd _ _ (by omega)
  | succ j ih => exact mixZ_bd _ _ (bx64 _ _ ih (grp_bd h j))
theorem tagZ_bd (k : Int) {xs : List Int} (h : Bytes xs) (hl : xs.length ≤ 140737488355328) : 0 ≤ tagZ k xs ∧ tagZ k xs ≤ 18446744073709551615 := tagA_bd k h hl _
/-- A number of the key stream, and a byte of it. -/
def keyA (k nonce : Int) (j : Nat) : Int := mixZ k ((mixZ k nonce + j) % 18446744073709551616)
theorem keyA_bd (k nonce : Int) (j : Nat) : 0 ≤ keyA k nonce j ∧ keyA k nonce j ≤ 18446744073709551615 := mixZ_bd _ _ (by omega)
def keyB (k nonce : Int) (i : Nat) : Int := keyA k nonce (i / 8) / Ser.p2 (8 * (i % 8)) % 256
theorem keyB_bd (k nonce : Int) (i : Nat) : 0 ≤ keyB k nonce i ∧ keyB k nonce i ≤ 255 := by unfold keyB; omega
def strm (k nonce : Int) (n : Nat) : List Int := (List.range n).map (keyB k nonce)
theorem strm_len (k nonce : Int) (n : Nat) : (strm k nonce n).length = n := by simp [strm]
theorem strm_bytes (k nonce : Int) (n : Nat) : Bytes (strm k nonce n) := by
  intro z hz
  unfold strm at hz
  obtain ⟨i, _, rfl⟩ := List.mem_map.1 hz
  exact keyB_bd _ _ _
theorem strm_snoc (k nonce : Int) (n : Nat) : strm k nonce (n + 1) = strm k nonce n ++ [keyB k nonce n] := by
  unfold strm
  rw [List.range_succ, List.map_append]; rfl
theorem strm_take (k nonce : Int) (n m : Nat) (h : m ≤ n) : (strm k nonce n).take m = strm k nonce m := by
  unfold strm
  rw [← List.map_take, List.take_range, Nat.min_eq_left h]
theorem keyB_at (k nonce : Int) (j i : Nat) (h : i < 8) : keyB k nonce (8 * j + i) = keyA k nonce j / Ser.p2 (8 * i) % 256 := by
  unfold keyB
  rw [show (8 * j + i) / 8 = j by omega, show (8 * j + i) % 8 = i by omega]
/-- A whole number more. -/
theorem strm_num (k nonce : Int) (j i : Nat) (h : i ≤ 8) : strm k nonce (8 * j + i) = strm k nonce (8 * j) ++ numL i (keyA k nonce j) := by
  induction i with
  | zero => simp [numL]
  | succ i ih => rw [← Nat.add_assoc, strm_snoc, ih (by omega), numL_snoc, keyB_at k nonce j i (by omega), List.append_assoc]
/-- What the tag at the end is computed of. -/
def inp (nonce : Int) (h c : List Int) : List Int := numL 8 nonce ++ (numL 4 (h.length : Int) ++ (h ++ c))
theorem inp_len (nonce : Int) (h c : List Int) : (inp nonce h c).length = 12 + h.length + c.length := by
  unfold inp; simp only [List.length_append, numL_len]; omega
theorem inp_bytes (nonce : Int) {h c : List Int} (hh : Bytes h) (hc : Bytes c) : Bytes (inp nonce h c) :=
  bytes_append (numL_bytes _ _) (bytes_append (numL_bytes _ _) (bytes_append hh hc))
/-- The bytes at the end. -/
def endL (k nonce : Int) (h c : List Int) : List Int := numL 4 (tagZ k (inp nonce h c))
theorem endL_len (k nonce : Int) (h c : List Int) : (endL k nonce h c).length = 4 := numL_len _ _
theorem endL_bytes (k nonce : Int) (h c : List Int) : Bytes (endL k nonce h c) := numL_bytes _ _
theorem numL_mod (n : Nat) (v : Int) (m : Nat) (h : n ≤ m) : numL n (v % Ser.p2 (8 * m)) = numL n v := by
  induction n generalizing v m with
  | zero => rfl
  | succ n ih =>
    obtain ⟨m, rfl⟩ : ∃ q, m = q + 1 := ⟨m - 1, by omega⟩
    have hp := Ser.p2_pos (8 * m)
    simp only [numL]
    rw [p2_8]
    have e1 : v % (256 * Ser.p2 (8 * m)) % 256 = v % 256 := Int.emod_emod_of_dvd v ⟨_, rfl⟩
    have e2 : v % (256 * Ser.p2 (8 * m)) / 256 = v / 256 % Ser.p2 (8 * m) := by
      rw [Int.emod_def, Int.emod_def, Int.ediv_ediv_of_nonneg (by decide)]
      rw [Int.mul_assoc, Int.sub_eq_add_neg, ← Int.mul_neg, Int.add_mul_ediv_left _ _ (by decide), Int.sub_eq_add_neg]
    rw [e1, e2, ih (v / 256) m (by omega)]
theorem numL4_mod (v : Int) : numL 4 (v % 4294967296) = numL 4 v := by
  have := numL_mod 4 v 4 (Nat.le_refl _)
  rwa [show Ser.p2 (8 * 4) = 4294967296 by decide] at this
theorem numL4_inj (v w : Int) (hv : 0 ≤ v) (hw : 0 ≤ w) (h : numL 4 v = numL 4 w) : v % 4294967296 = w % 4294967296 := by
  have e : ∀ x : Int, 0 ≤ x → valL (numL 4 (x % 4294967296)) = x % 4294967296 := fun x hx => valL_numL 4 _ (by omega) (by rw [show Ser.p2 (8 * 4) = 4294967296 by decide]; omega)
  rw [← e v hv, ← e w hw, numL4_mod, numL4_mod, h]
/-- What is encrypted, and decrypted. -/
def cry (k nonce : Int) (xs : List Int) : List Int := xorL xs (strm k nonce xs.length)
theorem cry_len (k nonce : Int) (xs : List Int) : (cry k nonce xs).length = xs.length := by unfold cry; rw [xorL_len, strm_len]; omega
theorem cry_bytes (k nonce : Int) {xs : List Int} (h : Bytes xs) : Bytes (cry k nonce xs) := xorL_bytes h (strm_bytes _ _ _)
theorem cry_cry (k nonce : Int) {xs : List Int} (h : Bytes xs) : cry k nonce (cry k nonce xs) = xs := by
  unfold cry
  rw [show (xorL xs (strm k nonce xs.length)).length = xs.length by rw [xorL_len, strm_len]; omega]
  exact xorL_twice (by rw [strm_len]) h
/-- What Seal returns. -/
def sealL (k nonce : Int) (h p : List Int) : List Int := cry k nonce p ++ endL k nonce h (cry k nonce p)
theorem sealL_len (k nonce : Int) (h p : List Int) : (sealL k nonce h p).length = p.length + 4 := by unfold sealL; rw [List.length_append, cry_len, endL_len]
theorem sealL_bytes (k nonce : Int) (h : List Int) {p : List Int} (hp : Bytes p) : Bytes (sealL k nonce h p) := bytes_append (cry_bytes _ _ hp) (endL_bytes _ _ _ _)
/-- What Open returns. -/
def openR (k nonce : Int) (h s : List Int) : List Int × Int :=
  if s.length < 4 then ([], 3) else if s.drop (s.length - 4) = endL k nonce h (s.take (s.length - 4)) then (cry k nonce (s.take (s.length - 4)), 0) else ([], 15)
theorem openR_short (k nonce : Int) (h s : List Int) (hs : s.length < 4) : openR k nonce h s = ([], 3) := by unfold openR; rw [if_pos hs]
theorem openR_bad (k nonce : Int) (h s : List Int) (hs : ¬ s.length < 4) (he : ¬ s.drop (s.length - 4) = endL k nonce h (s.take (s.length - 4))) : openR k nonce h s = ([], 15) := by
  unfold openR; rw [if_neg hs, if_neg he]
theorem openR_good (k nonce : Int) (h s : List Int) (hs : ¬ s.length < 4) (he : s.drop (s.length - 4) = endL k nonce h (s.take (s.length - 4))) : openR k nonce h s = (cry k nonce (s.take (s.length - 4)), 0) := by
  unfold openR; rw [if_neg hs, if_pos he]
/-- Sealed and opened. -/
theorem open_seal (k nonce : Int) (h : List Int) {p : List Int} (hp : Bytes p) : openR k nonce h (sealL k nonce h p) = (p, 0) := by
  have hl := sealL_len k nonce h p
  have e1 : (sealL k nonce h p).take ((sealL k nonce h p).length - 4) = cry k nonce p := by
    rw [hl, Nat.add_sub_cancel]
    unfold sealL
    rw [List.take_append_of_le_length (by rw [cry_len]; omega), List.take_of_length_le (by rw [cry_len]; omega)]
  have e2 : (sealL k nonce h p).drop ((sealL k nonce h p).length - 4) = endL k nonce h (cry k nonce p) := by
    rw [hl, Nat.add_sub_cancel]
    unfold sealL
    rw [List.drop_append_of_le_length (by rw [cry_len]; omega), List.drop_of_length_le (by rw [cry_len]; omega), List.nil_append]
  rw [openR_good _ _ _ _ (by omega) (by rw [e1, e2]), e1, cry_cry k nonce hp]
/-- What is accepted is the seal of what is returned. -/
theorem seal_open (k nonce : Int) (h : List Int) {s : List Int} (hs : Bytes s) (hl : ¬ s.length < 4) (he : s.drop (s.length - 4) = endL k nonce h (s.take (s.length - 4))) : sealL k nonce h (cry k nonce (s.take (s.length - 4))) = s := by
  unfold sealL
  rw [cry_cry k nonce (bytes_take hs _), ← he, List.take_append_drop]

/-- Two strings of bytes of the same length with the same number are the same. -/
theorem valL_inj {xs ys : List Int} (hx : Bytes xs) (hy : Bytes ys) (hl : xs.length = ys.length) (h : valL xs = valL ys) : xs = ys := by
  induction xs generalizing ys with
  | nil => cases ys with
    | nil => rfl
    | cons y r => simp at hl
  | cons x r ih => cases ys with
    | nil => simp at hl
    | cons y q =>
      have bx := hx x (by simp)
      have by_ := hy y (by simp)
      simp only [valL] at h
      have e1 : x = y := by omega
      rw [e1, ih (ys := q) (fun z hz => hx z (by simp [hz])) (fun z hz => hy z (by simp [hz])) (by simpa using hl) (by omega)]
/-- Two strings that differ in exactly one group have different tags. -/
theorem tag_one (k : Int) {xs ys : List Int} (hx : Bytes xs) (hy : Bytes ys) (hl : xs.length = ys.length) (hb : xs.length ≤ 140737488355328) (g : Nat) (hg : g < ngr xs.length) (hsame : ∀ j, j ≠ g → grp xs j = grp ys j) (hne : grp xs g ≠ grp ys g) :
    tagZ k xs ≠ tagZ k ys := by
  have b1 := fun j => tagA_bd k hx hb j
  have b2 := fun j => tagA_bd k hy (hl ▸ hb) j
  have before : ∀ j, j ≤ g → tagA k xs j = tagA k ys j := by
    intro j
    induction j with
    | zero => intro _; rw [tagA_zero, tagA_zero, hl]
    | succ j ih => intro h; rw [tagA_succ, tagA_succ, ih (by omega), hsame j (by omega)]
  have after : ∀ d, tagA k xs (g + 1 + d) ≠ tagA k ys (g + 1 + d) := by
    intro d
    induction d with
    | zero =>
      intro h
      rw [Nat.add_zero, tagA_succ, tagA_succ, before g (Nat.le_refl _)] at h
      have e := mix_inj k (bx64 _ _ (b2 g) (grp_bd hx g)) (bx64 _ _ (b2 g) (grp_bd hy g)) h
      rw [bx_swap, bx_swap (tagA k ys g)] at e
      exact hne (bx_inj _ _ _ (grp_bd hx g).1 (grp_bd hy g).1 e)
    | succ d ih =>
      intro h
      rw [← Nat.add_assoc, tagA_succ, tagA_succ, hsame _ (by omega)] at h
      have e := mix_inj k (bx64 _ _ (b1 _) (grp_bd hy _)) (bx64 _ _ (b2 _) (grp_bd hy _)) h
      exact ih (bx_inj _ _ _ (b1 _).1 (b2 _).1 e)
  unfold tagZ
  rw [← hl]
  have := after (ngr xs.length - (g + 1))
  rwa [show g + 1 + (ngr xs.length - (g + 1)) = ngr xs.length by omega] at this
end Go.Proofs.YtegmknmbgifmjaaDoor.Mac
