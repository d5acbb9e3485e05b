/- Plain facts on bytes, fields, digits and numbers of bytes, over lists of integers. No program is mentioned. -/
import Derived.Test.YtpoagepchlfemaaMem
import Derived.Test.YtpoagepchlfemaaSerMath
set_option linter.unusedVariables false
set_option linter.unusedSimpArgs false
namespace Go.Proofs.Ytpoagepchlfemaa.Oct
open Mem

theorem ret_str {a b : ByteArray} (h : a = b) : Ending.returned (.string a) = .returned (.string b) := by rw [h]
theorem str_eq {xs ys : List Int} (hx : Bytes xs) (hy : Bytes ys) : ((strOfNums xs).toList == (strOfNums ys).toList) = decide (xs = ys) := by
  rw [ByteArray.toList_eq, ByteArray.toList_eq]
  by_cases h : xs = ys
  · subst h; simp
  · rw [decide_eq_false h]
    refine beq_eq_false_iff_ne.2 fun e => h ?_
    refine (strOfNums_inj hx hy).1 ?_
    have : (strOfNums xs).data = (strOfNums ys).data := Array.toList_inj.1 e
    exact congrArg ByteArray.mk this
theorem take_snoc {α : Type} (l : List α) (d : α) (k : Nat) (h : k < l.length) : l.take (k + 1) = l.take k ++ [l.getD k d] := by
  rw [List.take_succ_eq_append_getElem h]; simp [List.getD, List.getElem?_eq_getElem h]
theorem bytes_get {l : List Int} (h : Bytes l) (k : Nat) : 0 ≤ l.getD k 0 ∧ l.getD k 0 ≤ 255 := by
  by_cases hk : k < l.length
  · simp only [List.getD, List.getElem?_eq_getElem hk]
    exact h _ (List.getElem_mem hk)
  · simp [List.getD, List.getElem?_eq_none (Nat.le_of_not_lt hk)]
theorem bytes_take {l : List Int} (h : Bytes l) (k : Nat) : Bytes (l.take k) := fun z hz => h z (List.mem_of_mem_take hz)
theorem bytes_drop {l : List Int} (h : Bytes l) (k : Nat) : Bytes (l.drop k) := fun z hz => h z (List.mem_of_mem_drop hz)
theorem bytes_append {l r : List Int} (h : Bytes l) (h' : Bytes r) : Bytes (l ++ r) := fun z hz => by
  rcases List.mem_append.1 hz with g | g
  · exact h z g
  · exact h' z g

/-- The exclusive or of two bytes. -/
def bx (x y : Int) : Int := ((x.toNat ^^^ y.toNat : Nat) : Int)
theorem bx_code (x y : Int) (hx : 0 ≤ x ∧ x ≤ 255) (hy : 0 ≤ y ∧ y ≤ 255) : bits BinOp.xor IntKind.u8 x y = bx x y := u8_xor x y hx.1 (by omega) hy.1 (by omega)
theorem bx_bd (x y : Int) (hx : 0 ≤ x ∧ x ≤ 255) (hy : 0 ≤ y ∧ y ≤ 255) : 0 ≤ bx x y ∧ bx x y ≤ 255 := by
  have : x.toNat ^^^ y.toNat < 2 ^ 8 := Nat.xor_lt_two_pow (by omega) (by omega)
  unfold bx; omega
theorem bx_bx (x y : Int) (hx : 0 ≤ x) : bx (bx x y) y = x := by
  unfold bx
  rw [Int.toNat_natCast, Nat.xor_assoc, Nat.xor_self, Nat.xor_zero]; omega
def xorL (xs ys : List Int) : List Int := List.zipWith bx xs ys
theorem xorL_len (xs ys : List Int) : (xorL xs ys).length = min xs.length ys.length := by simp [xorL]
theorem xorL_bytes {xs ys : List Int} (hx : Bytes xs) (hy : Bytes ys) : Bytes (xorL xs ys) := by
  intro z hz
  unfold xorL at hz
  rw [List.mem_iff_getElem] at hz
  obtain ⟨i, hi, e⟩ := hz
  simp at hi e
  rw [← e]
  exact bx_bd _ _ (hx _ (List.getElem_mem _)) (hy _ (List.getElem_mem _))
theorem xorL_get (xs ys : List Int) (k : Nat) (hx : k < xs.length) (hy : k < ys.length) : (xorL xs ys).getD k 0 = bx (xs.getD k 0) (ys.getD k 0) := by
  simp [xorL, List.getD, List.getElem?_zipWith, List.getElem?_eq_getElem hx, List.getElem?_eq_getElem hy]
theorem xorL_twice {xs ys : List Int} (h : xs.length = ys.length) (hx : Bytes xs) : xorL (xorL xs ys) ys = xs := by
  unfold xorL
  induction xs generalizing ys with
  | nil => simp
  | cons x xs ih => cases ys with
    | nil => simp at h
    | cons y ys =>
      simp only [List.zipWith_cons_cons]
      rw [bx_bx x y (hx x (by simp)).1, ih (by simpa using h) (fun z hz => hx z (by simp [hz]))]
/-- A row that is filled from the front: the first k are done, the others are zero. -/
def fill (l : List Int) (k : Nat) : List Int := l.take k ++ List.replicate (l.length - k) 0
theorem fill_zero (l : List Int) : fill l 0 = List.replicate l.length 0 := by simp [fill]
theorem fill_all (l : List Int) : fill l l.length = l := by simp [fill]
theorem fill_step (l : List Int) (k : Nat) (h : k < l.length) : (fill l k).set k (l.getD k 0) = fill l (k + 1) := by
  unfold fill
  rw [take_snoc l 0 k h, List.append_assoc]
  have hl : (l.take k).length = k := by simp; omega
  rw [List.set_append_right _ _ (by omega), hl, Nat.sub_self]
  have : l.length - k = (l.length - (k + 1)) + 1 := by omega
  rw [this, List.replicate_succ]; simp
theorem fill_len (l : List Int) (k : Nat) : (fill l k).length = l.length := by simp [fill]; omega
theorem fill_map_step (l : List Int) (k : Nat) (x : Int) (h : k < l.length) (hx : l.getD k 0 = x) : ((fill l k).map (Value.int .u8)).set k (.int .u8 x) = (fill l (k + 1)).map (Value.int .u8) := by
  rw [← fill_step l k h, ← hx, List.map_set]
theorem made_zero (m : Nat) : (madeCells (Value.int .u8 0).cells (m * 1)).toList = (List.replicate m (0 : Int)).map (Value.int .u8) := by
  have : (Value.int .u8 0).cells = #[.int .u8 0] := rfl
  rw [this, Nat.mul_one, toList_madeCells_one, List.map_replicate]
theorem snoc_map (l : List Int) (k : Nat) (x : Int) (h : k < l.length) (hx : l.getD k 0 = x) : (l.take k).map (Value.int .u8) ++ [Value.int .u8 x] = (l.take (k + 1)).map (Value.int .u8) := by
  rw [take_snoc l 0 k h, hx]; simp
/-- The digit of a half. -/
def hexD (d : Int) : Int := if d < 10 then 48 + d else 87 + d
def hexL : List Int → List Int
  | [] => []
  | x :: r => hexD (x / 16) :: hexD (x % 16) :: hexL r
/-- The value of a digit, or -1. -/
def digZ (c : Int) : Int := if 48 ≤ c ∧ c ≤ 57 then c - 48 else if 97 ≤ c ∧ c ≤ 102 then c - 87 else -1
def digB (c : Int) : Bool := decide (0 ≤ digZ c)
def digV (c : Int) : Int := if 0 ≤ digZ c then digZ c else 0
theorem dig_at (d : Int) (h : 0 ≤ d ∧ d < 16) : ((({ data := #[48, 49, 50, 51, 52, 53, 54, 55, 56, 57, 97, 98, 99, 100, 101, 102] } : ByteArray)[d.toNat]'(by show d.toNat < 16; omega)).toNat : Int) = hexD d := by
  obtain ⟨n, rfl⟩ := Int.eq_ofNat_of_zero_le h.1
  have hn : n < 16 := by omega
  match n, hn with
  | 0, _ => rfl
  | 1, _ => rfl
  | 2, _ => rfl
  | 3, _ => rfl
  | 4, _ => rfl
  | 5, _ => rfl
  | 6, _ => rfl
  | 7, _ => rfl
  | 8, _ => rfl
  | 9, _ => rfl
  | 10, _ => rfl
  | 11, _ => rfl
  | 12, _ => rfl
  | 13, _ => rfl
  | 14, _ => rfl
  | 15, _ => rfl
theorem dig_at_nat (k : Nat) (h : k < 16) : ((({ data := #[48, 49, 50, 51, 52, 53, 54, 55, 56, 57, 97, 98, 99, 100, 101, 102] } : ByteArray)[k]'(by show k < 16; omega)).toNat : Int) = hexD k := dig_at (k : Int) (by omega)
theorem and15 (x : Int) (h : 0 ≤ x ∧ x ≤ 255) : bits BinOp.and IntKind.u8 x 15 = x % 16 := by
  rw [u8_and x 15 h.1 (by omega) (by decide) (by decide)]
  have e : x.toNat &&& (15 : Int).toNat = x.toNat % 2 ^ 4 := Nat.and_two_pow_sub_one_eq_mod x.toNat 4
  rw [e]; omega
theorem quo16 (x : Int) (h : 0 ≤ x ∧ x ≤ 255) : IntKind.u8.wrap (x.tdiv 16) = x / 16 := IntWalk.u8_quo x 16 ⟨h.1, h.2, by decide⟩
theorem rem16 (x : Int) (h : 0 ≤ x ∧ x ≤ 255) : x.tmod 16 = x % 16 := Int.tmod_eq_emod_of_nonneg h.1
theorem hexD_bd (d : Int) (h : 0 ≤ d ∧ d < 16) : 0 ≤ hexD d ∧ hexD d ≤ 255 := by unfold hexD; split <;> omega
theorem hexL_len (xs : List Int) : (hexL xs).length = 2 * xs.length := by
  induction xs with
  | nil => rfl
  | cons x r ih => simp [hexL, ih]; omega
theorem hexL_append (xs ys : List Int) : hexL (xs ++ ys) = hexL xs ++ hexL ys := by
  induction xs with
  | nil => rfl
  | cons x r ih => simp [hexL, ih]
theorem hexL_snoc (xs : List Int) (k : Nat) (x : Int) (h : k < xs.length) (hx : xs.getD k 0 = x) : hexL (xs.take (k + 1)) = hexL (xs.take k) ++ [hexD (x / 16), hexD (x % 16)] := by
  rw [take_snoc xs 0 k h, hexL_append, hx]; rfl
theorem hexL_bytes {xs : List Int} (h : Bytes xs) : Bytes (hexL xs) := by
  induction xs with
  | nil => intro z hz; cases hz
  | cons x r ih =>
    have hx := h x (by simp)
    intro z hz
    simp only [hexL, List.mem_cons] at hz
    rcases hz with rfl | rfl | hz
    · exact hexD_bd _ (by omega)
    · exact hexD_bd _ (by omega)
    · exact ih (fun y hy => h y (by simp [hy])) z hz
theorem dig_low {x : Int} (h : 48 ≤ x ∧ x ≤ 57) : digV x = x - 48 ∧ digB x = true := by
  have e : digZ x = x - 48 := by unfold digZ; rw [if_pos h]
  unfold digV digB; rw [e]; exact ⟨by rw [if_pos (by omega)], by simp; omega⟩
theorem dig_high {x : Int} (h : 97 ≤ x ∧ x ≤ 102) : digV x = x - 97 + 10 ∧ digB x = true := by
  have e : digZ x = x - 97 + 10 := by unfold digZ; rw [if_neg (by omega), if_pos h]; omega
  unfold digV digB; rw [e]; exact ⟨by rw [if_pos (by omega)], by simp; omega⟩
theorem dig_none {x : Int} (h : ¬ (48 ≤ x ∧ x ≤ 57)) (h' : ¬ (97 ≤ x ∧ x ≤ 102)) : digV x = 0 ∧ digB x = false := by
  have e : digZ x = -1 := by unfold digZ; rw [if_neg h, if_neg h']
  unfold digV digB; rw [e]; exact ⟨by rw [if_neg (by omega)], by simp⟩
theorem ret_dig {a a' : Int} {b b' : Bool} (h : a = a') (h' : b = b') : Ending.returned (.tuple #[.int .u8 a, .bool b]) = .returned (.tuple #[.int .u8 a', .bool b']) := by rw [h, h']
theorem digZ_hexD (k : Nat) (x : Int) (h : k < 16) (hx : hexD k = x) : digZ x = k := by
  subst hx; unfold digZ hexD; split <;> split <;> (try split) <;> omega
theorem digZ_none (x : Int) (h : ∀ j : Nat, j < 16 → hexD j ≠ x) : digZ x = -1 := by
  unfold digZ
  by_cases c1 : 48 ≤ x ∧ x ≤ 57
  · exfalso
    refine h (x - 48).toNat (by omega) ?_
    unfold hexD; rw [if_pos (by omega)]; omega
  · by_cases c2 : 97 ≤ x ∧ x ≤ 102
    · exfalso
      refine h (x - 87).toNat (by omega) ?_
      unfold hexD; rw [if_neg (by omega)]; omega
    · rw [if_neg c1, if_neg c2]
theorem digV_bd (x : Int) : 0 ≤ digV x ∧ digV x ≤ 15 := by
  unfold digV digZ; split <;> (try split) <;> (try split) <;> omega
theorem digZ_bd (x : Int) : -1 ≤ digZ x ∧ digZ x ≤ 15 := by
  unfold digZ; split <;> (try split) <;> omega
theorem digV_yes {x : Int} (h : digB x = true) : digV x = digZ x ∧ 0 ≤ digZ x := by
  unfold digB at h; have h' : 0 ≤ digZ x := by simpa using h
  unfold digV; rw [if_pos h']; exact ⟨rfl, h'⟩
theorem digB_no {x : Int} (h : digB x = false) : digZ x < 0 := by
  unfold digB at h; simpa using h
/-- The letters of a text. -/
def chL (s : ByteArray) : List Int := s.data.toList.map fun c => (c.toNat : Int)
theorem chL_len (s : ByteArray) : (chL s).length = s.size := by simp [chL]
theorem chL_bytes (s : ByteArray) : Bytes (chL s) := by
  intro z hz
  simp only [chL, List.mem_map] at hz
  obtain ⟨c, _, rfl⟩ := hz
  have := c.toNat_lt; omega
theorem chL_get (s : ByteArray) (i : Nat) (h : i < s.size) : ((s[i]'h).toNat : Int) = (chL s).getD i 0 := by
  have h' : i < s.data.toList.length := by simpa using h
  simp only [chL, List.getD, List.getElem?_map, List.getElem?_eq_getElem h', Option.map_some, Option.getD_some]
  rfl
theorem chL_str (xs : List Int) (h : Bytes xs) : chL (strOfNums xs) = xs := by
  unfold chL
  rw [strOfNums_data, List.map_map]
  conv => rhs; rw [← List.map_id xs]
  apply List.map_congr_left
  intro z hz
  have := h z hz
  simp only [Function.comp, id, UInt8.toNat_ofNat']
  omega
/-- The bytes of digits, two by two. -/
def unL : List Int → List Int
  | a :: b :: r => (16 * digZ a + digZ b) :: unL r
  | _ => []
theorem unL_take (l : List Int) : ∀ (k : Nat), 2 * k + 1 < l.length → unL (l.take (2 * (k + 1))) = unL (l.take (2 * k)) ++ [16 * digZ (l.getD (2 * k) 0) + digZ (l.getD (2 * k + 1) 0)] := by
  match l with
  | [] => intro k h; simp at h
  | [a] => intro k h; simp at h
  | a :: b :: r =>
    intro k h
    cases k with
    | zero => simp [unL]
    | succ k =>
      have ih := unL_take r k (by simp at h; omega)
      rw [show 2 * (k + 1 + 1) = 2 * (k + 1) + 1 + 1 by omega, show 2 * (k + 1) = 2 * k + 1 + 1 by omega]
      simp only [List.take_succ_cons, unL, List.cons_append]
      rw [show 2 * k + 1 + 1 = 2 * (k + 1) by omega, ih]
      have g1 : (a :: b :: r)[2 * (k + 1)]? = r[2 * k]? := by rw [show 2 * (k + 1) = 2 * k + 1 + 1 by omega]; simp
      have g2 : (b :: r)[2 * (k + 1)]? = r[2 * k + 1]? := by rw [show 2 * (k + 1) = 2 * k + 1 + 1 by omega]; simp
      simp [List.getD, g1, g2]
def okL (l : List Int) : Bool := l.all digB
theorem okL_take (l : List Int) (k : Nat) (h : 2 * k + 1 < l.length) : okL (l.take (2 * (k + 1))) = (okL (l.take (2 * k)) && digB (l.getD (2 * k) 0) && digB (l.getD (2 * k + 1) 0)) := by
  rw [show 2 * (k + 1) = 2 * k + 1 + 1 by omega, take_snoc l 0 (2 * k + 1) h, take_snoc l 0 (2 * k) (by omega)]
  simp [okL, List.all_append, Bool.and_assoc]
theorem okL_no (l : List Int) (i : Nat) (h : i < l.length) (hd : digB (l.getD i 0) = false) : okL l = false := by
  cases hk : okL l with
  | false => rfl
  | true =>
    unfold okL at hk
    rw [List.all_eq_true] at hk
    have := hk l[i] (List.getElem_mem h)
    simp [List.getD, List.getElem?_eq_getElem h] at hd
    rw [hd] at this; cases this
theorem unL_len : ∀ (l : List Int), (unL l).length = l.length / 2
  | [] => rfl
  | [a] => by simp [unL]
  | a :: b :: r => by simp [unL, unL_len r]; omega
/-- What Unhex returns: the bytes, and the error. -/
def unhexR (l : List Int) : List Int × Int := if l.length % 2 = 0 ∧ okL l = true then (unL l, 0) else ([], 2)
theorem unhexR_odd (l : List Int) (h : ¬ l.length % 2 = 0) : unhexR l = ([], 2) := by unfold unhexR; rw [if_neg (by omega)]
theorem unhexR_bad (l : List Int) (h : okL l = false) : unhexR l = ([], 2) := by unfold unhexR; rw [if_neg (by rw [h]; simp)]
theorem unhexR_good (l : List Int) (h : l.length % 2 = 0) (h' : okL l = true) : unhexR l = (unL l, 0) := by unfold unhexR; rw [if_pos ⟨h, h'⟩]
theorem unL_bytes {l : List Int} (h : okL l = true) : Bytes (unL l) := by
  match l with
  | [] => intro z hz; cases hz
  | [a] => intro z hz; cases hz
  | a :: b :: r =>
    simp only [okL, List.all_cons, Bool.and_eq_true] at h
    intro z hz
    simp only [unL, List.mem_cons] at hz
    have ha := digV_yes h.1
    have hb := digV_yes h.2.1
    have ba := digZ_bd a
    have bb := digZ_bd b
    rcases hz with rfl | hz
    · omega
    · exact unL_bytes (l := r) h.2.2 z hz
theorem digZ_D (d : Int) (h : 0 ≤ d ∧ d < 16) : digZ (hexD d) = d ∧ digB (hexD d) = true := by
  have e : digZ (hexD d) = d := by
    obtain ⟨n, rfl⟩ := Int.eq_ofNat_of_zero_le h.1
    exact digZ_hexD n _ (by omega) rfl
  exact ⟨e, by unfold digB; rw [e]; simp; omega⟩
theorem unhex_hex {xs : List Int} (h : Bytes xs) : unhexR (hexL xs) = (xs, 0) := by
  have h1 : okL (hexL xs) = true ∧ unL (hexL xs) = xs := by
    induction xs with
    | nil => exact ⟨rfl, rfl⟩
    | cons x r ih =>
      have hx := h x (by simp)
      obtain ⟨i1, i2⟩ := ih fun y hy => h y (by simp [hy])
      have d1 := digZ_D (x / 16) (by omega)
      have d2 := digZ_D (x % 16) (by omega)
      refine ⟨?_, ?_⟩
      · simp only [hexL, okL, List.all_cons, d1.2, d2.2, Bool.true_and]; exact i1
      · simp only [hexL, unL, d1.1, d2.1, i2]
        congr 1; omega
  rw [unhexR_good _ (by rw [hexL_len]; omega) h1.1, h1.2]
/-- The number of bytes, the least significant first. -/
def valL : List Int → Int
  | [] => 0
  | x :: r => x + 256 * valL r
/-- The bytes of a number. -/
def numL : Nat → Int → List Int
  | 0, _ => []
  | n + 1, v => v % 256 :: numL n (v / 256)
theorem p2_8 (k : Nat) : Ser.p2 (8 * (k + 1)) = 256 * Ser.p2 (8 * k) := by
  unfold Ser.p2
  rw [show 8 * (k + 1) = 8 + 8 * k by omega, Int.pow_add]; rfl
theorem valL_append (l r : List Int) : valL (l ++ r) = valL l + Ser.p2 (8 * l.length) * valL r := by
  induction l with
  | nil => simp [valL]; rw [show Ser.p2 0 = 1 by decide]; omega
  | cons x l ih =>
    simp only [List.cons_append, valL, List.length_cons]
    rw [ih, p2_8, Int.mul_add, Int.mul_assoc]; omega
theorem valL_bd {l : List Int} (h : Bytes l) : 0 ≤ valL l ∧ valL l < Ser.p2 (8 * l.length) := by
  induction l with
  | nil => exact ⟨by decide, by decide⟩
  | cons x l ih =>
    have hx := h x (by simp)
    have i := ih fun y hy => h y (by simp [hy])
    simp only [valL, List.length_cons]
    rw [p2_8]; omega
theorem or_code {l : List Int} {k : Nat} {x : Int} (h : Bytes l) (hk : l.length = k) (hk7 : k ≤ 7) (hx : 0 ≤ x ∧ x ≤ 255) :
    bits BinOp.or IntKind.u64 (valL l) (IntKind.u64.wrap (x * 2 ^ (8 * k))) = valL (l ++ [x]) := by
  have hv := valL_bd h
  rw [hk] at hv
  have hm := Ser.p2_mono (8 * k) 56 (by omega)
  rw [show Ser.p2 56 = 72057594037927936 by decide] at hm
  have hp := Ser.p2_pos (8 * k)
  have e0 : x * 2 ^ (8 * k) = Ser.p2 (8 * k) * x := by unfold Ser.p2; rw [Int.mul_comm]
  have hmul : Ser.p2 (8 * k) * x ≤ 72057594037927936 * 255 := Int.mul_le_mul hm hx.2 hx.1 (by decide)
  have hmul0 : 0 ≤ Ser.p2 (8 * k) * x := Int.mul_nonneg (by omega) hx.1
  rw [e0, IntWalk.u64_in _ (by omega), u64_or _ _ hv.1 (by omega) hmul0 (by omega), valL_append, hk]
  have ep : Ser.p2 (8 * k) = ((2 ^ (8 * k) : Nat) : Int) := by unfold Ser.p2; simp
  obtain ⟨m, rfl⟩ := Int.eq_ofNat_of_zero_le hx.1
  have e1 : (Ser.p2 (8 * k) * (m : Int)).toNat = 2 ^ (8 * k) * m := by rw [ep]; exact Int.toNat_natCast (2 ^ (8 * k) * m)
  have hj := nat_join (8 * k) (Ser.p2 (8 * k) * (m : Int)).toNat (valL l).toNat (by rw [e1]; exact Nat.mul_mod_right _ _) (by have := hv.2; rw [ep] at this; omega)
  rw [Nat.or_comm, hj]
  have e2 : valL [(m : Int)] = m := by simp [valL]
  rw [e2]; omega
theorem val_step {xs : List Int} {k : Nat} {x : Int} (h : k < xs.length) (hx : xs.getD k 0 = x) : valL (xs.take k ++ [x]) = valL (xs.take (k + 1)) := by rw [take_snoc xs 0 k h, hx]
theorem drop_val {xs : List Int} {k : Nat} {x : Int} (h : k < xs.length) (hx : xs.getD k 0 = x) : valL (xs.drop k) = x + 256 * valL (xs.drop (k + 1)) := by
  have e : xs.drop k = x :: xs.drop (k + 1) := by
    rw [List.drop_eq_getElem_cons h, ← hx]; simp [List.getD, List.getElem?_eq_getElem h]
  rw [e]; rfl
theorem drop_bd {xs : List Int} (h : Bytes xs) (hl : xs.length ≤ 8) (k : Nat) : 0 ≤ valL (xs.drop k) ∧ valL (xs.drop k) ≤ 18446744073709551615 := by
  have := valL_bd (bytes_drop h k)
  have hm := Ser.p2_mono (8 * (xs.drop k).length) 64 (by rw [List.length_drop]; omega)
  rw [Ser.p2_64] at hm; omega
theorem drop_bd' {xs : List Int} (h : Bytes xs) (hl : xs.length ≤ 8) (k : Nat) (hk : 1 ≤ k) : valL (xs.drop k) ≤ 72057594037927935 := by
  have := valL_bd (bytes_drop h k)
  have hm := Ser.p2_mono (8 * (xs.drop k).length) 56 (by rw [List.length_drop]; omega)
  rw [show Ser.p2 56 = 72057594037927936 by decide] at hm; omega
theorem fits_code (v n : Int) (hv : 0 ≤ v) (hn : 1 ≤ n) : (v / 2 ^ (8 * n).toNat == 0) = decide (v < Ser.p2 (8 * n.toNat)) := by
  have e : (8 * n).toNat = 8 * n.toNat := by omega
  have hp := Ser.p2_pos (8 * n.toNat)
  rw [e]
  show (v / Ser.p2 (8 * n.toNat) == 0) = _
  by_cases h : v < Ser.p2 (8 * n.toNat)
  · rw [Int.ediv_eq_zero_of_lt hv h]; simp [h]
  · have : 1 ≤ v / Ser.p2 (8 * n.toNat) := (Int.le_ediv_iff_mul_le (by omega)).2 (by omega)
    simp [h]; omega
theorem numL_len (n : Nat) (v : Int) : (numL n v).length = n := by
  induction n generalizing v with
  | zero => rfl
  | succ n ih => simp [numL, ih]
theorem numL_snoc (n : Nat) (v : Int) : numL (n + 1) v = numL n v ++ [v / Ser.p2 (8 * n) % 256] := by
  induction n generalizing v with
  | zero => simp [numL]; rw [show Ser.p2 0 = 1 by decide]; simp
  | succ n ih =>
    have e : v / 256 / Ser.p2 (8 * n) = v / Ser.p2 (8 * (n + 1)) := by rw [p2_8, Int.ediv_ediv_of_nonneg (by decide)]
    rw [numL, ih (v / 256), e]; rfl
theorem numL_bytes (n : Nat) (v : Int) : Bytes (numL n v) := by
  induction n generalizing v with
  | zero => intro z hz; cases hz
  | succ n ih =>
    intro z hz
    simp only [numL, List.mem_cons] at hz
    rcases hz with rfl | hz
    · omega
    · exact ih _ z hz
theorem valL_numL (n : Nat) (v : Int) (h0 : 0 ≤ v) (h : v < Ser.p2 (8 * n)) : valL (numL n v) = v := by
  induction n generalizing v with
  | zero => rw [show Ser.p2 (8 * 0) = 1 by decide] at h; simp [numL, valL]; omega
  | succ n ih =>
    rw [p2_8] at h
    simp only [numL, valL]
    rw [ih (v / 256) (by omega) (by omega)]; omega
theorem byte_code (v : Int) (i : Nat) : IntKind.u8.wrap (v / 2 ^ (8 * i)) = v / Ser.p2 (8 * i) % 256 := by
  rw [IntKind.wrap_u8]; rfl
theorem list_ext {xs ys : List Int} (h : xs.length = ys.length) (hj : ∀ j, j < xs.length → xs.getD j 0 = ys.getD j 0) : xs = ys := by
  apply List.ext_getElem h
  intro i h1 h2
  have := hj i h1
  simpa [List.getD, List.getElem?_eq_getElem h1, List.getElem?_eq_getElem h2] using this
/-- Integers of 64 bits. -/
def Sizes (zs : List Int) : Prop := ∀ z ∈ zs, -9223372036854775808 ≤ z ∧ z ≤ 9223372036854775807
theorem sizes_get {l : List Int} (h : Sizes l) (k : Nat) : -9223372036854775808 ≤ l.getD k 0 ∧ l.getD k 0 ≤ 9223372036854775807 := by
  by_cases hk : k < l.length
  · simp only [List.getD, List.getElem?_eq_getElem hk]
    exact h _ (List.getElem_mem hk)
  · simp [List.getD, List.getElem?_eq_none (Nat.le_of_not_lt hk)]
def okZ (zs : List Int) : Bool := zs.all fun z => decide (1 ≤ z ∧ z ≤ 8)
def sumZ : List Int → Int
  | [] => 0
  | z :: r => z + sumZ r
def numsL : List Int → List Int → List Int
  | _, [] => []
  | xs, z :: r => valL (xs.take z.toNat) :: numsL (xs.drop z.toNat) r
def takeR (xs zs : List Int) : List Int × List Int × Int :=
  if okZ zs = true then (if (xs.length : Int) < sumZ zs then ([], [], 3) else (numsL xs zs, xs.drop (sumZ zs).toNat, 0)) else ([], [], 5)
theorem sumZ_append (l r : List Int) : sumZ (l ++ r) = sumZ l + sumZ r := by
  induction l with
  | nil => simp [sumZ]
  | cons z l ih => simp [sumZ, ih]; omega
theorem sumZ_le {l : List Int} (h : okZ l = true) : 0 ≤ sumZ l ∧ sumZ l ≤ 8 * l.length := by
  induction l with
  | nil => simp [sumZ]
  | cons z l ih =>
    simp only [okZ, List.all_cons, Bool.and_eq_true, decide_eq_true_eq] at h
    have := ih h.2
    simp only [sumZ, List.length_cons]; omega
theorem sumZ_snoc {zs : List Int} {k : Nat} {z : Int} (h : k < zs.length) (hz : zs.getD k 0 = z) : sumZ (zs.take (k + 1)) = sumZ (zs.take k) + z := by
  rw [take_snoc zs 0 k h, hz, sumZ_append]; simp [sumZ]
theorem okZ_snoc {zs : List Int} {k : Nat} (ha : okZ (zs.take k) = true) (h : k < zs.length) (hz : decide (1 ≤ zs.getD k 0 ∧ zs.getD k 0 ≤ 8) = true) : okZ (zs.take (k + 1)) = true := by
  unfold okZ at *
  rw [take_snoc zs 0 k h, List.all_append, ha]; simpa using hz
theorem takeR_size (xs : List Int) {zs : List Int} {k : Nat} (h : k < zs.length) (hz : decide (1 ≤ zs.getD k 0 ∧ zs.getD k 0 ≤ 8) = false) : takeR xs zs = ([], [], 5) := by
  unfold takeR
  rw [if_neg]
  intro ha
  unfold okZ at ha
  rw [List.all_eq_true] at ha
  have := ha zs[k] (List.getElem_mem h)
  simp only [List.getD, List.getElem?_eq_getElem h] at hz
  rw [show (some zs[k]).getD 0 = zs[k] from rfl] at hz
  rw [hz] at this; cases this
theorem takeR_short {xs zs : List Int} (h : okZ zs = true) (hl : (xs.length : Int) < sumZ zs) : takeR xs zs = ([], [], 3) := by unfold takeR; rw [if_pos h, if_pos hl]
theorem takeR_good {xs zs : List Int} (h : okZ zs = true) (hl : ¬ (xs.length : Int) < sumZ zs) : takeR xs zs = (numsL xs zs, xs.drop (sumZ zs).toNat, 0) := by unfold takeR; rw [if_pos h, if_neg hl]
theorem numsL_len (xs zs : List Int) : (numsL xs zs).length = zs.length := by
  induction zs generalizing xs with
  | nil => rfl
  | cons z r ih => simp [numsL, ih]
theorem numsL_snoc {zs : List Int} (hok : okZ zs = true) (xs : List Int) (k : Nat) (h : k < zs.length) : numsL xs (zs.take (k + 1)) = numsL xs (zs.take k) ++ [valL ((xs.drop (sumZ (zs.take k)).toNat).take (zs.getD k 0).toNat)] := by
  induction zs generalizing xs k with
  | nil => simp at h
  | cons z r ih =>
    simp only [okZ, List.all_cons, Bool.and_eq_true, decide_eq_true_eq] at hok
    cases k with
    | zero => simp [numsL, sumZ]
    | succ k =>
      have hr : okZ r = true := hok.2
      have hk : k < r.length := by simpa using h
      have hs : okZ (r.take k) = true := by
        unfold okZ at hr ⊢
        rw [List.all_eq_true] at hr ⊢
        intro y hy; exact hr y (List.mem_of_mem_take hy)
      have h0 := sumZ_le hs
      simp only [List.take_succ_cons, numsL, sumZ, List.cons_append]
      rw [ih hr (xs.drop z.toNat) k hk, List.drop_drop]
      rw [show z.toNat + (sumZ (r.take k)).toNat = (z + sumZ (r.take k)).toNat by omega]
      simp [List.getD]
theorem okZ_take {zs : List Int} (h : okZ zs = true) (k : Nat) : okZ (zs.take k) = true := by
  unfold okZ at *
  rw [List.all_eq_true] at *
  intro y hy; exact h y (List.mem_of_mem_take hy)
theorem okZ_get {zs : List Int} (h : okZ zs = true) {k : Nat} (hk : k < zs.length) : 1 ≤ zs.getD k 0 ∧ zs.getD k 0 ≤ 8 := by
  unfold okZ at h
  rw [List.all_eq_true] at h
  have := h zs[k] (List.getElem_mem hk)
  simp only [List.getD, List.getElem?_eq_getElem hk]
  simpa using this
theorem sumZ_take_le {zs : List Int} (h : okZ zs = true) (k : Nat) : 0 ≤ sumZ (zs.take k) ∧ sumZ (zs.take k) ≤ sumZ zs := by
  have h1 := sumZ_le (okZ_take h k)
  have e : sumZ zs = sumZ (zs.take k) + sumZ (zs.drop k) := by rw [← sumZ_append, List.take_append_drop]
  have h2 : okZ (zs.drop k) = true := by
    unfold okZ at *
    rw [List.all_eq_true] at *
    intro y hy; exact h y (List.mem_of_mem_drop hy)
  have h3 := sumZ_le h2
  omega
theorem takeR_bytes {xs : List Int} (h : Bytes xs) (zs : List Int) : Bytes (takeR xs zs).2.1 := by
  unfold takeR
  split
  · split
    · intro z hz; cases hz
    · exact bytes_drop h _
  · intro z hz; cases hz
theorem takeR_len1 (xs zs : List Int) : (takeR xs zs).1.length ≤ zs.length := by
  unfold takeR
  split
  · split
    · simp
    · simp [numsL_len]
  · simp
theorem takeR_len2 (xs zs : List Int) : (takeR xs zs).2.1.length ≤ xs.length := by
  unfold takeR
  split
  · split
    · simp
    · simp
  · simp
theorem join4 (h l : Int) (hh : 0 ≤ h ∧ h ≤ 15) (hl : 0 ≤ l ∧ l ≤ 15) : bits BinOp.or IntKind.u8 (h * 16) l = 16 * h + l := by
  rw [u8_or (h * 16) l (by omega) (by omega) hl.1 (by omega)]
  have e : (h * 16).toNat ||| l.toNat = (h * 16).toNat + l.toNat := nat_join 4 _ _ (by omega) (by omega)
  rw [e]; omega
theorem okL_step {l : List Int} {k : Nat} {x y : Int} (h : 2 * k + 1 < l.length) (hk : okL (l.take (2 * k)) = true) (ex : l.getD (2 * k) 0 = x) (ey : l.getD (2 * k + 1) 0 = y) (dx : digB x = true) (dy : digB y = true) : okL (l.take (2 * (k + 1))) = true := by
  rw [okL_take l k h, hk, ex, ey, dx, dy]; rfl
theorem unL_step {l : List Int} {k : Nat} {x y z : Int} (h : 2 * k + 1 < l.length) (ex : l.getD (2 * k) 0 = x) (ey : l.getD (2 * k + 1) 0 = y) (hz : z = 16 * digZ x + digZ y) : (unL (l.take (2 * (k + 1)))).map (Value.int .u8) = (unL (l.take (2 * k))).map (Value.int .u8) ++ [.int .u8 z] := by
  rw [unL_take l k h, ex, ey, hz]; simp
theorem ret_err {a : Value} {b b' : Int} (h' : b = b') : Ending.returned (.tuple #[a, .int .i64 b]) = .returned (.tuple #[a, .int .i64 b']) := by rw [h']
end Go.Proofs.Ytpoagepchlfemaa.Oct
