/- Plain facts on bytes, fields, digits and numbers of bytes, over lists of integers. No program is mentioned. Small functions that many laws call: copies of bytes, sameness of bytes: contracts over the program. Plain arithmetic for the layer of the channel maps: channels, their number, ranges. No program is mentioned. What the functions of the layer of the channel maps return on one channel, and how many channels there are: contracts over the program. The channels of a map, one after the other: the iterator, the list, an element: contracts over the program. Which maps are valid; whether two lists are the same: contracts over the program. Parameters of a connection in memory, and what is wrong with them. -/
import Derived.Test.YtcbliliinmfnjaaDoorKM1
import Derived.Test.YtcbliliinmfnjaaDoorProg
import Derived.WalkKit
import Derived.Lib.MinMax
import Derived.Lib.Hide
import Derived.BigQuiet
import Derived.Deep.QuietTactic
import Derived.WalkSpells
import Derived.StillTailTactics
import Derived.Lib.SliceRun
import Derived.Deep.RegionHeld3
import Derived.Deep.RegionWith
import Derived.RangeFuncNested
import Derived.RangeFuncBound
import Derived.RangeFuncCalls
import Derived.RangeFuncLeaves
import Derived.RangeFuncBox
import Derived.Shelf.Abstract
import Derived.Shelf.RegionOpen
import Derived.OwnWalkIn
import Derived.TacticsInMore
import Derived.LoopNIn
import Derived.LoopIn
import Derived.Maps.AppendAt
import Derived.Test.YtcbliliinmfnjaaDoorKCnUpd
section
set_option linter.unusedVariables false
set_option linter.unusedSimpArgs false
namespace Go.Proofs.YtcbliliinmfnjaaDoor.Oct
open Mem

theorem str_eq {xs ys : List Int} (hx : Bytes xs) (hy : Bytes ys) : ((strOfNums xs).toList == (strOfNums ys).toList) = decide (xs = ys) := by
  rw [ByteArray.toList_eq, ByteArray.toList_eq]
  by_cases h : xs = ys
  · subst h; simp
  · rw [decide_eq_false h]
    refine beq_eq_false_iff_ne.2 fun e => h ?_
    refine (strOfNums_inj hx hy).1 ?_
    have : (strOfNums xs).data = (strOfNums ys).data := Array.toList_inj.1 e
    exact congrArg ByteArray.mk this
theorem take_snoc {α : Type} (l : List α) (d : α) (k : Nat) (h : k < l.length) : l.take (k + 1) = l.take k ++ [l.getD k d] := by
  rw [List.take_succ_eq_append_getElem h]; simp [List.getD, List.getElem?_eq_getElem h]
theorem bytes_get {l : List Int} (h : Bytes l) (k : Nat) : 0 ≤ l.getD k 0 ∧ l.getD k 0 ≤ 255 := by
  by_cases hk : k < l.length
  · simp only [List.getD, List.getElem?_eq_getElem hk]
    exact h _ (List.getElem_mem hk)
  · simp [List.getD, List.getElem?_eq_none (Nat.le_of_not_lt hk)]
theorem bytes_take {l : List Int} (h : Bytes l) (k : Nat) : Bytes (l.take k) := fun z hz => h z (List.mem_of_mem_take hz)
theorem bytes_drop {l : List Int} (h : Bytes l) (k : Nat) : Bytes (l.drop k) := fun z hz => h z (List.mem_of_mem_drop hz)
theorem bytes_append {l r : List Int} (h : Bytes l) (h' : Bytes r) : Bytes (l ++ r) := fun z hz => by
  rcases List.mem_append.1 hz with g | g
  · exact h z g
  · exact h' z g

/-- The exclusive or of two bytes. -/
def bx (x y : Int) : Int := ((x.toNat ^^^ y.toNat : Nat) : Int)
/-- A row that is filled from the front: the first k are done, the others are zero. -/
def fill (l : List Int) (k : Nat) : List Int := l.take k ++ List.replicate (l.length - k) 0
/-- The letters of a text. -/
def chL (s : ByteArray) : List Int := s.data.toList.map fun c => (c.toNat : Int)
theorem chL_len (s : ByteArray) : (chL s).length = s.size := by simp [chL]
theorem chL_bytes (s : ByteArray) : Bytes (chL s) := by
  intro z hz
  simp only [chL, List.mem_map] at hz
  obtain ⟨c, _, rfl⟩ := hz
  have := c.toNat_lt; omega
/-- The number of bytes, the least significant first. -/
def valL : List Int → Int
  | [] => 0
  | x :: r => x + 256 * valL r
/-- The bytes of a number. -/
def numL : Nat → Int → List Int
  | 0, _ => []
  | n + 1, v => v % 256 :: numL n (v / 256)
theorem p2_8 (k : Nat) : Ser.p2 (8 * (k + 1)) = 256 * Ser.p2 (8 * k) := by
  unfold Ser.p2
  rw [show 8 * (k + 1) = 8 + 8 * k by omega, Int.pow_add]; rfl
theorem valL_append (l r : List Int) : valL (l ++ r) = valL l + Ser.p2 (8 * l.length) * valL r := by
  induction l with
  | nil => simp [valL]; rw [show Ser.p2 0 = 1 by decide]; omega
  | cons x l ih =>
    simp only [List.cons_append, valL, List.length_cons]
    rw [ih, p2_8, Int.mul_add, Int.mul_assoc]; omega
theorem valL_bd {l : List Int} (h : Bytes l) : 0 ≤ valL l ∧ valL l < Ser.p2 (8 * l.length) := by
  induction l with
  | nil => exact ⟨by decide, by decide⟩
  | cons x l ih =>
    have hx := h x (by simp)
    have i := ih fun y hy => h y (by simp [hy])
    simp only [valL, List.length_cons]
    rw [p2_8]; omega
theorem or_code {l : List Int} {k : Nat} {x : Int} (h : Bytes l) (hk : l.length = k) (hk7 : k ≤ 7) (hx : 0 ≤ x ∧ x ≤ 255) :
    bits BinOp.or IntKind.u64 (valL l) (IntKind.u64.wrap (x * 2 ^ (8 * k))) = valL (l ++ [x]) := by
  have hv := valL_bd h
  rw [hk] at hv
  have hm := Ser.p2_mono (8 * k) 56 (by omega)
  rw [show Ser.p2 56 = 72057594037927936 by decide] at hm
  have hp := Ser.p2_pos (8 * k)
  have e0 : x * 2 ^ (8 * k) = Ser.p2 (8 * k) * x := by unfold Ser.p2; rw [Int.mul_comm]
  have hmul : Ser.p2 (8 * k) * x ≤ 72057594037927936 * 255 := Int.mul_le_mul hm hx.2 hx.1 (by decide)
  have hmul0 : 0 ≤ Ser.p2 (8 * k) * x := Int.mul_nonneg (by omega) hx.1
  rw [e0, IntWalk.u64_in _ (by omega), u64_or _ _ hv.1 (by omega) hmul0 (by omega), valL_append, hk]
  have ep : Ser.p2 (8 * k) = ((2 ^ (8 * k) : Nat) : Int) := by unfold Ser.p2; simp
  obtain ⟨m, rfl⟩ := Int.eq_ofNat_of_zero_le hx.1
  have e1 : (Ser.p2 (8 * k) * (m : Int)).toNat = 2 ^ (8 * k) * m := by rw [ep]; exact Int.toNat_natCast (2 ^ (8 * k) * m)
  have hj := nat_join (8 * k) (Ser.p2 (8 * k) * (m : Int)).toNat (valL l).toNat (by rw [e1]; exact Nat.mul_mod_right _ _) (by have := hv.2; rw [ep] at this; omega)
  rw [Nat.or_comm, hj]
  have e2 : valL [(m : Int)] = m := by simp [valL]
  rw [e2]; omega
theorem val_step {xs : List Int} {k : Nat} {x : Int} (h : k < xs.length) (hx : xs.getD k 0 = x) : valL (xs.take k ++ [x]) = valL (xs.take (k + 1)) := by rw [take_snoc xs 0 k h, hx]
theorem drop_val {xs : List Int} {k : Nat} {x : Int} (h : k < xs.length) (hx : xs.getD k 0 = x) : valL (xs.drop k) = x + 256 * valL (xs.drop (k + 1)) := by
  have e : xs.drop k = x :: xs.drop (k + 1) := by
    rw [List.drop_eq_getElem_cons h, ← hx]; simp [List.getD, List.getElem?_eq_getElem h]
  rw [e]; rfl
theorem drop_bd {xs : List Int} (h : Bytes xs) (hl : xs.length ≤ 8) (k : Nat) : 0 ≤ valL (xs.drop k) ∧ valL (xs.drop k) ≤ 18446744073709551615 := by
  have := valL_bd (bytes_drop h k)
  have hm := Ser.p2_mono (8 * (xs.drop k).length) 64 (by rw [List.length_drop]; omega)
  rw [Ser.p2_64] at hm; omega
theorem drop_bd' {xs : List Int} (h : Bytes xs) (hl : xs.length ≤ 8) (k : Nat) (hk : 1 ≤ k) : valL (xs.drop k) ≤ 72057594037927935 := by
  have := valL_bd (bytes_drop h k)
  have hm := Ser.p2_mono (8 * (xs.drop k).length) 56 (by rw [List.length_drop]; omega)
  rw [show Ser.p2 56 = 72057594037927936 by decide] at hm; omega
theorem fits_code (v n : Int) (hv : 0 ≤ v) (hn : 1 ≤ n) : (v / 2 ^ (8 * n).toNat == 0) = decide (v < Ser.p2 (8 * n.toNat)) := by
  have e : (8 * n).toNat = 8 * n.toNat := by omega
  have hp := Ser.p2_pos (8 * n.toNat)
  rw [e]
  show (v / Ser.p2 (8 * n.toNat) == 0) = _
  by_cases h : v < Ser.p2 (8 * n.toNat)
  · rw [Int.ediv_eq_zero_of_lt hv h]; simp [h]
  · have : 1 ≤ v / Ser.p2 (8 * n.toNat) := (Int.le_ediv_iff_mul_le (by omega)).2 (by omega)
    simp [h]; omega
theorem numL_len (n : Nat) (v : Int) : (numL n v).length = n := by
  induction n generalizing v with
  | zero => rfl
  | succ n ih => simp [numL, ih]
theorem numL_snoc (n : Nat) (v : Int) : numL (n + 1) v = numL n v ++ [v / Ser.p2 (8 * n) % 256] := by
  induction n generalizing v with
  | zero => simp [numL]; rw [show Ser.p2 0 = 1 by decide]; simp
  | succ n ih =>
    have e : v / 256 / Ser.p2 (8 * n) = v / Ser.p2 (8 * (n + 1)) := by rw [p2_8, Int.ediv_ediv_of_nonneg (by decide)]
    rw [numL, ih (v / 256), e]; rfl
theorem numL_bytes (n : Nat) (v : Int) : Bytes (numL n v) := by
  induction n generalizing v with
  | zero => intro z hz; cases hz
  | succ n ih =>
    intro z hz
    simp only [numL, List.mem_cons] at hz
    rcases hz with rfl | hz
    · omega
    · exact ih _ z hz
end Go.Proofs.YtcbliliinmfnjaaDoor.Oct

end
section
set_option linter.unusedVariables false
set_option linter.unusedSimpArgs false
namespace Go.Proofs.YtcbliliinmfnjaaDoor.Base
open Go.RowKit Mem Oct

theorem info_u8 : (Tryd.prog.info? 5).map (fun i => (i.zero, i.size, i.bytes)) = some (some (.int .u8 0), 1, 1) := by kernel_rfl
/-- What a call makes of bytes: a row of its own. -/
def Makes (w w' : World) (e : Ending) (zs : List Int) : Prop :=
  ∃ A c, e = .returned (.slice A zs.length c) ∧ w'.ownsRow w.heap.size 5 1 (.slice A zs.length c) zs.length (zs.map (Value.int .u8)) ∧ Below w.heap.size w w'
theorem makes_of {w w' : World} {e : Ending} {v : Value} {n : Nat} {zs : List Int} (he : e = .returned v) (hn : zs.length = n) (h : w'.ownsRow w.heap.size 5 1 v n (zs.map (Value.int .u8))) (hb : Below w.heap.size w w') : Makes w w' e zs := by
  obtain ⟨A, c, hv⟩ := own_form h
  subst hn
  exact ⟨A, c, by rw [he, hv], by rw [← hv]; exact h, hb⟩
theorem same_any (A A' : Option Addr) (n n' c c' : Nat) (xs ys : List Int) (w : World) (hx : xs.length = n) (hy : ys.length = n') (bx : Bytes xs) (by_ : Bytes ys) (hr : Ints .u8 w w.heap.size A xs) (hr' : Ints .u8 w w.heap.size A' ys) :
    Calls Tryd.prog 21 #[.slice A n c, .slice A' n' c'] w fun e w' => e = .returned (.bool (decide (xs = ys))) ∧ w = w' := by
  have k1 := run_string_ints (P := Tryd.prog) 25 5 Tryd.underlying25 Tryd.underlying5 Tryd.underlying9 w.heap.size A n c xs hx hr
  have k2 := run_string_ints (P := Tryd.prog) 25 5 Tryd.underlying25 Tryd.underlying5 Tryd.underlying9 w.heap.size A' n' c' ys hy hr'
  go_enter Tryd.func21, Tryd.ntmps21
  go_wp2
  go_ret
  exact ⟨Ser.ret_bool (str_eq bx by_), rfl⟩
theorem lit1 (k : IntKind) (w : World) (zs : List Int) (cs : Array Value) (e : TypeId) (h : cs = (zs.map (Value.int k)).toArray) : Ints k (w.alloc (.cells cs e)) (w.alloc (.cells cs e)).heap.size (some ⟨w.heap.size, 0, none⟩) zs := by
  have := Ints.lit k w zs cs e h
  simpa using this
theorem alloc1 (w : World) (o : Obj) {w' : World} (h : Below (w.alloc o).heap.size (w.alloc o) w') : Below w.heap.size w w' := ((Below.refl w.heap.size w).alloc (Nat.le_refl _) _).trans (h.mono (by simp))
theorem kept {k : IntKind} {w : World} {A : Option Addr} {zs : List Int} (h : Ints k w w.heap.size A zs) (o : Obj) : Ints k (w.alloc o) (w.alloc o).heap.size A zs := (h.alloc (Nat.le_refl _) o).more (by simp)
/-- What is read in a world is read in a later one. -/
theorem later {k : IntKind} {w w' : World} {A : Option Addr} {zs : List Int} (h : Ints k w w.heap.size A zs) (hb : Below w.heap.size w w') : Ints k w' w'.heap.size A zs := (h.below hb).more hb.size
theorem Makes.len {w w' : World} {e : Ending} {zs : List Int} (h : Makes w w' e zs) {n : Nat} (hn : zs.length = n) : ∃ A c, e = .returned (.slice A n c) ∧ w'.ownsRow w.heap.size 5 1 (.slice A n c) n (zs.map (Value.int .u8)) ∧ Below w.heap.size w w' := by
  subst hn; exact h
/-- A row of bytes with its length, read in the world that made it. -/
theorem Makes.read {w w' : World} {e : Ending} {zs : List Int} (h : Makes w w' e zs) {n : Nat} (hn : zs.length = n) : ∃ A c, e = .returned (.slice A n c) ∧ n ≤ c ∧ Ints .u8 w' w'.heap.size A zs ∧ Below w.heap.size w w' := by
  obtain ⟨A, c, he, ho, hb⟩ := h.len hn
  exact ⟨A, c, he, own_cap ho, Ints.own ho, hb⟩
/-- A later step. -/
theorem thenB {w a b : World} (h : Below w.heap.size w a) (k : Below a.heap.size a b) : Below w.heap.size w b := h.trans (k.mono h.size)
end Go.Proofs.YtcbliliinmfnjaaDoor.Base

end
section
set_option linter.unusedVariables false
namespace Go.Proofs.YtcbliliinmfnjaaDoor.Chm

/-- Whether a data channel is in a map. -/
def hasN (m c : Nat) : Bool := decide (c < 37) && m.testBit c
def chans (m : Nat) : List Nat := (List.range 37).filter (hasN m)
/-- How many of the lowest bits are ones. -/
def cnt : Nat → Nat → Nat
  | 0, _ => 0
  | n + 1, x => x % 2 + cnt n (x / 2)
theorem cnt_add (a b : Nat) : ∀ x, cnt (a + b) x = cnt a x + cnt b (x / 2 ^ a) := by
  induction a with
  | zero => intro x; simp [cnt]
  | succ a ih =>
    intro x
    rw [show a + 1 + b = (a + b) + 1 by omega]
    simp only [cnt]
    rw [ih, Nat.div_div_eq_div_mul, Nat.pow_succ, Nat.mul_comm 2, Nat.add_assoc]
theorem cnt_zero (n : Nat) : cnt n 0 = 0 := by
  induction n with
  | zero => rfl
  | succ n ih => simp [cnt, ih]
theorem cnt_mod (n : Nat) : ∀ x, cnt n (x % 2 ^ n) = cnt n x := by
  induction n with
  | zero => intro x; rfl
  | succ n ih =>
    intro x
    simp only [cnt]
    rw [show x % 2 ^ (n + 1) % 2 = x % 2 by rw [Nat.pow_succ, Nat.mul_comm]; exact Nat.mod_mul_right_mod _ _ _]
    rw [show x % 2 ^ (n + 1) / 2 = x / 2 % 2 ^ n by rw [Nat.pow_succ, Nat.mul_comm]; exact Nat.mod_mul_right_div_self _ _ _, ih]
theorem cnt_le (n : Nat) : ∀ x, cnt n x ≤ n := by
  induction n with
  | zero => intro x; exact Nat.le_refl _
  | succ n ih => intro x; simp only [cnt]; have := ih (x / 2); omega
theorem cnt_range (n : Nat) : ∀ x : Nat, ((List.range n).filter (fun c => x.testBit c)).length = cnt n x := by
  induction n with
  | zero => intro x; rfl
  | succ n ih =>
    intro x
    rw [List.range_succ_eq_map, List.filter_cons, List.filter_map, cnt]
    have e : (fun c => x.testBit c) ∘ Nat.succ = fun c => (x / 2).testBit c := by funext c; simp [Nat.testBit_succ]
    rw [e]
    have h0 : x.testBit 0 = decide (x % 2 = 1) := Nat.testBit_zero x
    rw [h0]
    by_cases h : x % 2 = 1
    · rw [if_pos (by simpa using h), List.length_cons, List.length_map, ih, h]; omega
    · rw [if_neg (by simpa using h), List.length_map, ih]; omega
theorem chans_cnt (m : Nat) : (chans m).length = cnt 37 m := by
  rw [← cnt_range]
  unfold chans
  rw [List.filter_congr (q := fun c => m.testBit c)]
  intro c hc
  rw [List.mem_range] at hc
  simp [hasN, hc]

/-! Counting by bytes -/
def mapB (f : Nat → Nat) : Nat → Nat → Nat
  | 0, _ => 0
  | n + 1, x => f (x % 256) + 256 * mapB f n (x / 256)
def rep (c : Nat) : Nat → Nat
  | 0 => 0
  | n + 1 => c + 256 * rep c n
theorem land_split (a b c d : Nat) (ha : a < 256) (hc : c < 256) : (a + 256 * b) &&& (c + 256 * d) = (a &&& c) + 256 * (b &&& d) := by
  have h1 := @Nat.and_mod_two_pow (a + 256 * b) (c + 256 * d) 8
  have h2 := @Nat.and_div_two_pow (a + 256 * b) (c + 256 * d) 8
  have e : (2 : Nat) ^ 8 = 256 := by decide
  rw [e] at h1 h2
  rw [show (a + 256 * b) % 256 = a by omega, show (c + 256 * d) % 256 = c by omega] at h1
  rw [show (a + 256 * b) / 256 = b by omega, show (c + 256 * d) / 256 = d by omega] at h2
  have := Nat.mod_add_div ((a + 256 * b) &&& (c + 256 * d)) 256
  rw [h1, h2] at this
  exact this.symm
theorem mapB_comp (f g : Nat → Nat) (hf : ∀ a, a < 256 → f a < 256) (n : Nat) : ∀ x, mapB g n (mapB f n x) = mapB (fun a => g (f a)) n x := by
  induction n with
  | zero => intro x; rfl
  | succ n ih =>
    intro x
    have := hf (x % 256) (Nat.mod_lt _ (by decide))
    simp only [mapB]
    rw [show (f (x % 256) + 256 * mapB f n (x / 256)) % 256 = f (x % 256) by omega, show (f (x % 256) + 256 * mapB f n (x / 256)) / 256 = mapB f n (x / 256) by omega, ih]
theorem mapB_congr (f g : Nat → Nat) (h : ∀ a, a < 256 → f a = g a) (n : Nat) : ∀ x, mapB f n x = mapB g n x := by
  induction n with
  | zero => intro x; rfl
  | succ n ih => intro x; simp only [mapB]; rw [ih, h _ (Nat.mod_lt _ (by decide))]
def f1 (a : Nat) : Nat := (a / 2 &&& 85) + (a &&& 85)
def f2 (a : Nat) : Nat := (a / 4 &&& 51) + (a &&& 51)
def f3 (a : Nat) : Nat := a / 16 + a &&& 15
theorem p1 (n : Nat) : ∀ x, (x / 2 &&& rep 85 n) + (x &&& rep 85 n) = mapB f1 n x := by
  have d : ∀ a : Fin 256, ∀ e : Fin 2, (a.val / 2 + 128 * e.val) &&& 85 = a.val / 2 &&& 85 := by decide +kernel
  induction n with
  | zero => intro x; simp [rep, mapB]
  | succ n ih =>
    intro x
    have e1 : x = x % 256 + 256 * (x / 256) := by omega
    have e2 : x / 2 = (x % 256 / 2 + 128 * (x / 256 % 2)) + 256 * (x / 256 / 2) := by omega
    have h1 : x &&& rep 85 (n + 1) = (x % 256 &&& 85) + 256 * (x / 256 &&& rep 85 n) := by
      rw [← land_split _ _ _ _ (Nat.mod_lt _ (by decide)) (by decide), ← e1]; rfl
    have h2 : x / 2 &&& rep 85 (n + 1) = (x % 256 / 2 &&& 85) + 256 * (x / 256 / 2 &&& rep 85 n) := by
      rw [e2]
      show (_ + 256 * (x / 256 / 2)) &&& (85 + 256 * rep 85 n) = _
      rw [land_split _ _ _ _ (by omega) (by decide), d ⟨x % 256, Nat.mod_lt _ (by decide)⟩ ⟨x / 256 % 2, Nat.mod_lt _ (by decide)⟩]
    rw [h1, h2]
    simp only [mapB, f1]
    rw [← ih]
    omega
theorem p2 (n : Nat) : ∀ x, (x / 4 &&& rep 51 n) + (x &&& rep 51 n) = mapB f2 n x := by
  have d : ∀ a : Fin 256, ∀ e : Fin 4, (a.val / 4 + 64 * e.val) &&& 51 = a.val / 4 &&& 51 := by decide +kernel
  induction n with
  | zero => intro x; simp [rep, mapB]
  | succ n ih =>
    intro x
    have e1 : x = x % 256 + 256 * (x / 256) := by omega
    have e2 : x / 4 = (x % 256 / 4 + 64 * (x / 256 % 4)) + 256 * (x / 256 / 4) := by omega
    have h1 : x &&& rep 51 (n + 1) = (x % 256 &&& 51) + 256 * (x / 256 &&& rep 51 n) := by
      rw [← land_split _ _ _ _ (Nat.mod_lt _ (by decide)) (by decide), ← e1]; rfl
    have h2 : x / 4 &&& rep 51 (n + 1) = (x % 256 / 4 &&& 51) + 256 * (x / 256 / 4 &&& rep 51 n) := by
      rw [e2]
      show (_ + 256 * (x / 256 / 4)) &&& (51 + 256 * rep 51 n) = _
      rw [land_split _ _ _ _ (by omega) (by decide), d ⟨x % 256, Nat.mod_lt _ (by decide)⟩ ⟨x / 256 % 4, Nat.mod_lt _ (by decide)⟩]
    rw [h1, h2]
    simp only [mapB, f2]
    rw [← ih]
    omega
/-- Each half of each byte is at most four. -/
def okB : Nat → Nat → Prop
  | 0, x => x = 0
  | n + 1, x => x % 256 / 16 ≤ 4 ∧ x % 16 ≤ 4 ∧ okB n (x / 256)
theorem okB_low {n x : Nat} (h : okB n x) : x % 16 ≤ 4 := by
  cases n with
  | zero => have : x = 0 := h; omega
  | succ n => exact h.2.1
theorem p3 (n : Nat) : ∀ x, okB n x → (x / 16 + x) &&& rep 15 n = mapB f3 n x := by
  have d : ∀ a : Fin 256, ∀ e : Fin 16, (a.val / 16 + 16 * e.val + a.val) &&& 15 = a.val / 16 + a.val &&& 15 := by decide +kernel
  induction n with
  | zero => intro x _; simp [rep, mapB]
  | succ n ih =>
    intro x ⟨k1, k2, k3⟩
    have k4 := okB_low k3
    have e2 : x / 16 + x = (x % 256 / 16 + 16 * (x / 256 % 16) + x % 256) + 256 * (x / 256 / 16 + x / 256) := by omega
    rw [e2]
    show (_ + 256 * (x / 256 / 16 + x / 256)) &&& (15 + 256 * rep 15 n) = _
    rw [land_split _ _ _ _ (by omega) (by decide), d ⟨x % 256, Nat.mod_lt _ (by decide)⟩ ⟨x / 256 % 16, Nat.mod_lt _ (by decide)⟩, ih _ k3]
    rfl
theorem okB_map (f : Nat → Nat) (h : ∀ a, a < 256 → f a < 256 ∧ f a / 16 ≤ 4 ∧ f a % 16 ≤ 4) (n : Nat) : ∀ x, okB n (mapB f n x) := by
  induction n with
  | zero => intro x; rfl
  | succ n ih =>
    intro x
    obtain ⟨h1, h2, h3⟩ := h (x % 256) (Nat.mod_lt _ (by decide))
    refine ⟨?_, ?_, ?_⟩
    · simp only [mapB]; rw [show (f (x % 256) + 256 * mapB f n (x / 256)) % 256 = f (x % 256) by omega]; exact h2
    · simp only [mapB]; rw [show (f (x % 256) + 256 * mapB f n (x / 256)) % 16 = f (x % 256) % 16 by omega]; exact h3
    · simp only [mapB]; rw [show (f (x % 256) + 256 * mapB f n (x / 256)) / 256 = mapB f n (x / 256) by omega]; exact ih _
theorem f1_fin : ∀ a : Fin 256, f1 a.val < 256 := by decide +kernel
theorem f2_fin : ∀ a : Fin 256, f2 (f1 a.val) < 256 ∧ f2 (f1 a.val) / 16 ≤ 4 ∧ f2 (f1 a.val) % 16 ≤ 4 := by decide +kernel
theorem f3_fin : ∀ a : Fin 256, f3 (f2 (f1 a.val)) = cnt 8 a.val := by decide +kernel
/-- The three steps on pairs, fours and bytes. -/
def pop1 (x : Nat) : Nat := (x / 2 &&& 6148914691236517205) + (x &&& 6148914691236517205)
def pop2 (x : Nat) : Nat := (x / 4 &&& 3689348814741910323) + (x &&& 3689348814741910323)
def pop3 (x : Nat) : Nat := (x / 16 + x) &&& 1085102592571150095
theorem pop_bytes (x : Nat) : pop3 (pop2 (pop1 x)) = mapB (cnt 8) 8 x := by
  have h1 : pop1 x = mapB f1 8 x := by rw [← p1]; rfl
  have h2 : pop2 (mapB f1 8 x) = mapB (fun a => f2 (f1 a)) 8 x := by
    rw [← mapB_comp f1 f2 (fun a ha => f1_fin ⟨a, ha⟩), ← p2]; rfl
  have h3 : pop3 (mapB (fun a => f2 (f1 a)) 8 x) = mapB (fun a => f3 (f2 (f1 a))) 8 x := by
    rw [← mapB_comp (fun a => f2 (f1 a)) f3 (fun a ha => (f2_fin ⟨a, ha⟩).1), ← p3 8 _ (okB_map _ (fun a ha => f2_fin ⟨a, ha⟩) 8 x)]; rfl
  rw [h1, h2, h3]
  exact mapB_congr _ _ (fun a ha => f3_fin ⟨a, ha⟩) 8 x
theorem land_le (a b : Nat) : a &&& b ≤ b := Nat.and_le_right
theorem pop1_bd {x : Nat} : pop1 x ≤ 12297829382473034410 := by
  unfold pop1; have := land_le (x / 2) 6148914691236517205; have := land_le x 6148914691236517205; omega
theorem pop2_bd {x : Nat} : pop2 x ≤ 7378697629483820646 := by
  unfold pop2; have := land_le (x / 4) 3689348814741910323; have := land_le x 3689348814741910323; omega
/-- The bytes are added. -/
def tot (x : Nat) : Nat := ((x + x / 256) + (x + x / 256) / 65536 + ((x + x / 256) + (x + x / 256) / 65536) / 4294967296) % 128
theorem tot_sum (x c0 c1 c2 c3 c4 c5 c6 c7 : Nat) (hx : x = c0 + 256 * (c1 + 256 * (c2 + 256 * (c3 + 256 * (c4 + 256 * (c5 + 256 * (c6 + 256 * (c7 + 256 * 0)))))))) (h0 : c0 ≤ 8) (h1 : c1 ≤ 8) (h2 : c2 ≤ 8) (h3 : c3 ≤ 8) (h4 : c4 ≤ 8) (h5 : c5 ≤ 8) (h6 : c6 ≤ 8) (h7 : c7 ≤ 8) :
    tot x = c0 + c1 + c2 + c3 + c4 + c5 + c6 + c7 := by
  unfold tot
  have e1 : x / 256 = c1 + 256 * c2 + 65536 * c3 + 16777216 * c4 + 4294967296 * c5 + 1099511627776 * c6 + 281474976710656 * c7 := by omega
  obtain ⟨y, hy⟩ : ∃ y, y = x + x / 256 := ⟨_, rfl⟩
  rw [← hy]
  have e2 : y = (c0 + c1) + 256 * (c1 + c2) + 65536 * (c2 + c3) + 16777216 * (c3 + c4) + 4294967296 * (c4 + c5) + 1099511627776 * (c5 + c6) + 281474976710656 * (c6 + c7) + 72057594037927936 * c7 := by omega
  clear e1 hx hy
  have e3 : y / 65536 = (c2 + c3) + 256 * (c3 + c4) + 65536 * (c4 + c5) + 16777216 * (c5 + c6) + 4294967296 * (c6 + c7) + 1099511627776 * c7 := by omega
  obtain ⟨z, hz⟩ : ∃ z, z = y + y / 65536 := ⟨_, rfl⟩
  rw [← hz]
  have e4 : z = (c0 + c1 + c2 + c3) + 256 * (c1 + c2 + c3 + c4) + 65536 * (c2 + c3 + c4 + c5) + 16777216 * (c3 + c4 + c5 + c6) + 4294967296 * (c4 + c5 + c6 + c7) + 1099511627776 * (c5 + c6 + c7) + 281474976710656 * (c6 + c7) + 72057594037927936 * c7 := by omega
  clear e2 e3 hz
  have e5 : z / 4294967296 = (c4 + c5 + c6 + c7) + 256 * (c5 + c6 + c7) + 65536 * (c6 + c7) + 16777216 * c7 := by omega
  rw [e5]
  clear e5
  omega
theorem mapB_bd (f : Nat → Nat) (h : ∀ y, f y ≤ 8) (n : Nat) : ∀ x, mapB f n x ≤ rep 8 n := by
  induction n with
  | zero => intro x; exact Nat.le_refl _
  | succ n ih => intro x; have := h (x % 256); have := ih (x / 256); simp only [mapB, rep]; omega
theorem mapB_le (x : Nat) : mapB (cnt 8) 8 x ≤ 578721382704613384 := mapB_bd _ (cnt_le 8) 8 x
theorem cnt_byte (n x : Nat) : cnt (8 + n) x = cnt 8 (x % 256) + cnt n (x / 256) := by
  rw [cnt_add, ← cnt_mod 8 x]
theorem pop_all (x : Nat) : tot (pop3 (pop2 (pop1 x))) = cnt 64 x := by
  rw [pop_bytes]
  simp only [mapB]
  rw [tot_sum _ _ _ _ _ _ _ _ _ rfl (cnt_le _ _) (cnt_le _ _) (cnt_le _ _) (cnt_le _ _) (cnt_le _ _) (cnt_le _ _) (cnt_le _ _) (cnt_le _ _)]
  rw [show (64 : Nat) = 8 + (8 + (8 + (8 + (8 + (8 + (8 + (8 + 0))))))) from rfl]
  rw [cnt_byte, cnt_byte, cnt_byte, cnt_byte, cnt_byte, cnt_byte, cnt_byte, cnt_byte]
  rw [show ∀ y, cnt 0 y = 0 from fun _ => rfl]
  omega
theorem cnt_map (m : Nat) : cnt 64 (m % 137438953472) = (chans m).length := by
  have h : (137438953472 : Nat) = 2 ^ 37 := by decide
  rw [chans_cnt, show (64 : Nat) = 37 + 27 from rfl, cnt_add, h, cnt_mod 37 m, Nat.div_eq_of_lt (Nat.mod_lt _ (by decide)), cnt_zero, Nat.add_zero]
end Go.Proofs.YtcbliliinmfnjaaDoor.Chm

end
section
set_option linter.unusedVariables false
set_option linter.unusedSimpArgs false
namespace Go.Proofs.YtcbliliinmfnjaaDoor.Chm
open Go.RowKit Mem

theorem land64 (a b : Nat) (ha : a ≤ 18446744073709551615) (hb : b ≤ 18446744073709551615) : bits BinOp.and IntKind.u64 (a : Int) (b : Int) = ((a &&& b : Nat) : Int) := by
  rw [u64_and _ _ (by omega) (by omega) (by omega) (by omega), Int.toNat_natCast, Int.toNat_natCast]
theorem pow_le (c : Nat) (hc : c < 64) : 2 ^ c ≤ 9223372036854775808 := Nat.pow_le_pow_right (n := 2) (by decide) (show c ≤ 63 by omega)
theorem u64_nat (q : Nat) (h : q ≤ 18446744073709551615) : IntKind.u64.wrap (q : Int) = (q : Int) := IntWalk.u64_in _ (by omega)
/-- Whether a number is a channel of a map. -/
def hasZ (m : Nat) (c : Int) : Bool := decide (0 ≤ c) && hasN m c.toNat
theorem hasZ_nat (m c : Nat) : hasZ m (c : Int) = hasN m c := by simp [hasZ]
theorem ones_any (x : Nat) (w : World) (hx : x ≤ 18446744073709551615) :
    Calls Tryd.prog 147 #[.int .u64 x] w fun e w' => e = .returned (.int .i64 (cnt 64 x : Nat)) ∧ w = w' := by
  have hl := mapB_le x
  rw [← pop_bytes] at hl
  rw [← pop_all]
  have hA := pop1_bd (x := x)
  have hB := pop2_bd (x := pop1 x)
  have hx2 : x / 2 ≤ 18446744073709551615 := by omega
  have h1 : IntKind.u64.wrap (bits BinOp.and IntKind.u64 ((x : Int) / 2) 6148914691236517205 + bits BinOp.and IntKind.u64 (x : Int) 6148914691236517205) = (pop1 x : Int) := by
    have e1 : bits BinOp.and IntKind.u64 ((x : Int) / 2) 6148914691236517205 = ((x / 2 &&& 6148914691236517205 : Nat) : Int) := land64 (x / 2) 6148914691236517205 hx2 (by decide)
    have e2 : bits BinOp.and IntKind.u64 (x : Int) 6148914691236517205 = ((x &&& 6148914691236517205 : Nat) : Int) := land64 x 6148914691236517205 hx (by decide)
    rw [e1, e2, ← Int.natCast_add]
    exact u64_nat _ (by unfold pop1 at hA; omega)
  obtain ⟨A, hAe⟩ : ∃ A, pop1 x = A := ⟨_, rfl⟩
  rw [hAe] at h1 hA hB hl ⊢
  have h2 : IntKind.u64.wrap (bits BinOp.and IntKind.u64 ((A : Int) / 4) 3689348814741910323 + bits BinOp.and IntKind.u64 (A : Int) 3689348814741910323) = (pop2 A : Int) := by
    have e1 : bits BinOp.and IntKind.u64 ((A : Int) / 4) 3689348814741910323 = ((A / 4 &&& 3689348814741910323 : Nat) : Int) := land64 (A / 4) 3689348814741910323 (by omega) (by decide)
    have e2 : bits BinOp.and IntKind.u64 (A : Int) 3689348814741910323 = ((A &&& 3689348814741910323 : Nat) : Int) := land64 A 3689348814741910323 (by omega) (by decide)
    rw [e1, e2, ← Int.natCast_add]
    exact u64_nat _ (by unfold pop2 at hB; omega)
  obtain ⟨B, hBe⟩ : ∃ B, pop2 A = B := ⟨_, rfl⟩
  rw [hBe] at h2 hB hl ⊢
  have h3 : bits BinOp.and IntKind.u64 (IntKind.u64.wrap ((B : Int) / 16 + B)) 1085102592571150095 = (pop3 B : Int) := by
    rw [show (B : Int) / 16 + B = ((B / 16 + B : Nat) : Int) by omega, u64_nat _ (by omega)]
    exact land64 (B / 16 + B) 1085102592571150095 (by omega) (by decide)
  obtain ⟨C, hCe⟩ : ∃ C, pop3 B = C := ⟨_, rfl⟩
  rw [hCe] at h3 hl ⊢
  have h4 : IntKind.u64.wrap ((C : Int) + C / 256) = ((C + C / 256 : Nat) : Int) := by rw [IntWalk.u64_in _ (by omega)]; omega
  have hT : tot C = ((C + C / 256) + (C + C / 256) / 65536 + ((C + C / 256) + (C + C / 256) / 65536) / 4294967296) % 128 := rfl
  rw [hT]; clear hT
  obtain ⟨D, hDe⟩ : ∃ D, C + C / 256 = D := ⟨_, rfl⟩
  have hD : D ≤ 2000000000000000000 := by omega
  rw [hDe] at h4 ⊢
  have h5 : IntKind.u64.wrap ((D : Int) + D / 65536) = ((D + D / 65536 : Nat) : Int) := by rw [IntWalk.u64_in _ (by omega)]; omega
  obtain ⟨E, hEe⟩ : ∃ E, D + D / 65536 = E := ⟨_, rfl⟩
  have hE : E ≤ 3000000000000000000 := by omega
  rw [hEe] at h5 ⊢
  have h6 : IntKind.u64.wrap ((E : Int) + E / 4294967296) = ((E + E / 4294967296 : Nat) : Int) := by rw [IntWalk.u64_in _ (by omega)]; omega
  obtain ⟨F, hFe⟩ : ∃ F, E + E / 4294967296 = F := ⟨_, rfl⟩
  have hF : F ≤ 4000000000000000000 := by omega
  rw [hFe] at h6 ⊢
  clear hAe hBe hCe hDe hEe hFe hl hA hB hD hE hx2
  go_enter Tryd.func147, Tryd.ntmps147
  go_wp2
  go_ret
  exact ⟨Ser.ret_int (by rw [i64_and127]; omega), rfl⟩
theorem count_any (m : Nat) (w : World) (hm : m ≤ 18446744073709551615) :
    Calls Tryd.prog 142 #[.int .u64 m] w fun e w' => e = .returned (.int .i64 ((chans m).length : Nat)) ∧ w = w' := by
  have e1 := land64 m 137438953471 hm (by decide)
  rw [show m &&& 137438953471 = m % 137438953472 from Nat.and_two_pow_sub_one_eq_mod m 37] at e1
  have h1 := Lib.hid fun w => ones_any (m % 137438953472) w (by omega)
  rw [cnt_map] at h1
  generalize (chans m).length = L at *
  have e2 : bits BinOp.and IntKind.u64 (m : Int) 137438953471 = ((m % 137438953472 : Nat) : Int) := e1
  clear e1
  generalize m % 137438953472 = q at *
  go_enter Tryd.func142, Tryd.ntmps142
  go_wp2_with (go_at_call 147; refine (h1.out _).mono ?_; rintro e w' ⟨rfl, rfl⟩)
  go_ret
  exact ⟨rfl, rfl⟩
end Go.Proofs.YtcbliliinmfnjaaDoor.Chm

end
section
set_option linter.unusedVariables false
set_option linter.unusedSimpArgs false
namespace Go.Proofs.YtcbliliinmfnjaaDoor.Chm
open Go.RowKit Go.Shelf Mem
attribute [local go_sem] Oper.semAt_some

/-- The channels below c. -/
def chb (m c : Nat) : List Nat := (List.range c).filter (hasN m)
theorem chb_yes {m c : Nat} (h : hasN m c = true) : chb m (c + 1) = chb m c ++ [c] := by unfold chb; rw [List.range_succ, List.filter_append]; simp [h]
theorem chb_no {m c : Nat} (h : hasN m c = false) : chb m (c + 1) = chb m c := by unfold chb; rw [List.range_succ, List.filter_append]; simp [h]
theorem chb_len (m c : Nat) : (chb m c).length ≤ c := by
  have := List.length_filter_le (hasN m) (List.range c)
  rwa [List.length_range] at this
theorem boxed_below {W W' : World} {B : Nat} {t : TypeId} {v : Value} (h : Boxed W B t v) (hb : Below W.heap.size W W') : Boxed W' B t v := (hb.block B h.lt).trans h
theorem info_int : (Tryd.prog.info? 3).map (fun i => (i.zero, i.size, i.bytes)) = some (some (.int .i64 0), 1, 8) := by kernel_rfl
/-- What a call makes of integers: a row of its own. -/
def MakesI (w w' : World) (e : Ending) (zs : List Int) : Prop :=
  ∃ A c, e = .returned (.slice A zs.length c) ∧ w'.ownsRow w.heap.size 3 1 (.slice A zs.length c) zs.length (zs.map (Value.int .i64)) ∧ Below w.heap.size w w'
theorem makesI_of {w w' : World} {e : Ending} {v : Value} {n : Nat} {zs : List Int} (he : e = .returned v) (hn : zs.length = n) (h : w'.ownsRow w.heap.size 3 1 v n (zs.map (Value.int .i64))) (hb : Below w.heap.size w w') : MakesI w w' e zs := by
  obtain ⟨A, c, hv⟩ := own_form h
  subst hn
  exact ⟨A, c, by rw [he, hv], by rw [← hv]; exact h, hb⟩
theorem MakesI.read {w w' : World} {e : Ending} {zs : List Int} (h : MakesI w w' e zs) {n : Nat} (hn : zs.length = n) : ∃ A c, e = .returned (.slice A n c) ∧ n ≤ c ∧ Ints .i64 w' w'.heap.size A zs ∧ Below w.heap.size w w' := by
  subst hn
  obtain ⟨A, c, he, ho, hb⟩ := h
  exact ⟨A, c, he, own_cap ho, Ints.own ho, hb⟩
def zs (l : List Nat) : List Int := l.map (fun c : Nat => (c : Int))
theorem zs_len (l : List Nat) : (zs l).length = l.length := by simp [zs]
theorem zs_snoc (l : List Nat) (c : Nat) : zs (l ++ [c]) = zs l ++ [(c : Int)] := by simp [zs]
end Go.Proofs.YtcbliliinmfnjaaDoor.Chm

end
section
set_option linter.unusedVariables false
set_option linter.unusedSimpArgs false
namespace Go.Proofs.YtcbliliinmfnjaaDoor.Chm
open Go.RowKit Mem

theorem high_zero {m : Nat} (hm : m ≤ 18446744073709551615) : m &&& 18446743936270598144 = 0 ↔ m < 137438953472 := by
  have h1 := @Nat.and_div_two_pow m 18446743936270598144 37
  have h2 := @Nat.and_mod_two_pow m 18446743936270598144 37
  have e : (2 : Nat) ^ 37 = 137438953472 := by decide
  rw [e] at h1 h2
  rw [show (18446743936270598144 : Nat) / 137438953472 = 2 ^ 27 - 1 by decide, Nat.and_two_pow_sub_one_eq_mod, show (2 : Nat) ^ 27 = 134217728 by decide] at h1
  rw [show (18446743936270598144 : Nat) % 137438953472 = 0 by decide, Nat.and_zero] at h2
  generalize m &&& 18446743936270598144 = q at *
  omega
/-- The error of a map. -/
def okM (m : Nat) : Int := if 137438953472 ≤ m then 5 else if (chans m).length < 2 then 1 else 0
theorem check_any (m : Nat) (w : World) (hm : m ≤ 18446744073709551615) :
    Calls Tryd.prog 132 #[.int .u64 m] w fun e w' => e = .returned (.int .i64 (okM m)) ∧ w = w' := by
  have HC := Lib.hid fun w => count_any m w hm
  have hz := high_zero hm
  have ha : bits BinOp.andNot IntKind.u64 (m : Int) 137438953471 = ((m &&& 18446743936270598144 : Nat) : Int) := u64_andNot_nat m 137438953471 (by omega) (by decide)
  have hrz : okM m = if 137438953472 ≤ m then 5 else if (chans m).length < 2 then 1 else 0 := rfl
  rw [hrz]
  clear hrz
  generalize m &&& 18446743936270598144 = q at *
  obtain ⟨k, hk⟩ : ∃ k, (chans m).length = k := ⟨_, rfl⟩
  rw [hk] at HC ⊢
  clear hk
  by_cases h0 : q = 0
  · subst h0
    rw [if_neg (by omega)]
    clear hz
    by_cases h2 : k < 2
    · rw [if_pos h2]
      go_enter Tryd.func132, Tryd.ntmps132
      go_wp2_with (go_at_call 142; refine (HC.out _).mono ?_; rintro e w' ⟨rfl, rfl⟩)
      go_ret
      exact ⟨rfl, rfl⟩
    · rw [if_neg h2]
      go_enter Tryd.func132, Tryd.ntmps132
      go_wp2_with (go_at_call 142; refine (HC.out _).mono ?_; rintro e w' ⟨rfl, rfl⟩)
      go_ret
      exact ⟨rfl, rfl⟩
  · rw [if_pos (by omega)]
    have q0 : (((q : Nat) : Int) != 0) = true := by simpa using h0
    clear hz h0
    go_enter Tryd.func132, Tryd.ntmps132
    go_wp2_with fail
    go_ret
    exact ⟨rfl, rfl⟩
end Go.Proofs.YtcbliliinmfnjaaDoor.Chm

end
section
set_option linter.unusedVariables false
set_option linter.unusedSimpArgs false
namespace Go.Proofs.YtcbliliinmfnjaaDoor.Cn
open Go.RowKit Mem Clk

abbrev par (a b s o i l t : Int) (m : Nat) (h d g : Int) : Array Value := #[.int .u32 a, .int .u32 b, .int .i64 s, .int .i64 o, .int .i64 i, .int .i64 l, .int .i64 t, .int .u64 (m : Int), .int .i64 h, .int .i64 d, .int .i64 g]
/-- The parameters in memory. -/
abbrev Elv (w : World) (k : Nat) (a b s o i l t : Int) (m : Nat) (h d g : Int) : Prop := w.cell? ⟨k, 0, none⟩ = some (.int .u32 a) ∧ w.cell? ⟨k, 1, none⟩ = some (.int .u32 b) ∧ w.cell? ⟨k, 2, none⟩ = some (.int .i64 s) ∧ w.cell? ⟨k, 3, none⟩ = some (.int .i64 o) ∧ w.cell? ⟨k, 4, none⟩ = some (.int .i64 i) ∧ w.cell? ⟨k, 5, none⟩ = some (.int .i64 l) ∧ w.cell? ⟨k, 6, none⟩ = some (.int .i64 t) ∧ w.cell? ⟨k, 7, none⟩ = some (.int .u64 (m : Int)) ∧ w.cell? ⟨k, 8, none⟩ = some (.int .i64 h) ∧ w.cell? ⟨k, 9, none⟩ = some (.int .i64 d) ∧ w.cell? ⟨k, 10, none⟩ = some (.int .i64 g)
theorem elv_of {w : World} {k : Nat} {a b s o i l t : Int} {m : Nat} {h d g : Int} {ty : TypeId} (H : Blk w k ty #[.int .u32 a, .int .u32 b, .int .i64 s, .int .i64 o, .int .i64 i, .int .i64 l, .int .i64 t, .int .u64 (m : Int), .int .i64 h, .int .i64 d, .int .i64 g]) : Elv w k a b s o i l t m h d g :=
  ⟨H.cell 0, H.cell 1, H.cell 2, H.cell 3, H.cell 4, H.cell 5, H.cell 6, H.cell 7, H.cell 8, H.cell 9, H.cell 10⟩
theorem elv_below {w w' : World} {k : Nat} {a b s o i l t : Int} {m : Nat} {h d g : Int} (H : Elv w k a b s o i l t m h d g) (x : Below w.heap.size w w') : Elv w' k a b s o i l t m h d g := by
  have hg := World.block_lt_of_cell? _ _ H.1
  obtain ⟨h0, h1, h2, h3, h4, h5, h6, h7, h8, h9, h10⟩ := H
  exact ⟨(x.cell (p := ⟨k, 0, none⟩) hg).trans h0, (x.cell (p := ⟨k, 1, none⟩) hg).trans h1, (x.cell (p := ⟨k, 2, none⟩) hg).trans h2, (x.cell (p := ⟨k, 3, none⟩) hg).trans h3, (x.cell (p := ⟨k, 4, none⟩) hg).trans h4, (x.cell (p := ⟨k, 5, none⟩) hg).trans h5, (x.cell (p := ⟨k, 6, none⟩) hg).trans h6, (x.cell (p := ⟨k, 7, none⟩) hg).trans h7, (x.cell (p := ⟨k, 8, none⟩) hg).trans h8, (x.cell (p := ⟨k, 9, none⟩) hg).trans h9, (x.cell (p := ⟨k, 10, none⟩) hg).trans h10⟩
theorem within_to {n lo hi : Int} {b : Bool} (h : decide (lo ≤ n ∧ n ≤ hi) = b) (k : lo ≤ hi) (w : World) :
    Calls Tryd.prog 133 #[.int .i64 n, .int .i64 lo, .int .i64 hi] w fun e w' => e = .returned (.bool b) ∧ w = w' := by rw [← h]; exact within_any n lo hi w k
/-- The error of parameters. -/
def okP (a b s o i l t : Int) (m : Nat) (h d g : Int) : Int :=
  if a = 0 ∨ a = 2391391958 then 1 else if 16777216 ≤ b then 5 else if okU s o i l t ≠ 0 then okU s o i l t else if Chm.okM m ≠ 0 then Chm.okM m
  else if (5 ≤ h ∧ h ≤ 16) ∧ (0 ≤ d ∧ d ≤ 500) then (if g = 1 ∨ g = 2 then 0 else 12) else 5
theorem okP_code (a b s o i l t : Int) (m : Nat) (h d g : Int) (q : Bool) (hq : q = decide (g = 1 ∨ g = 2)) :
    fst0 [unl 1 [a != 0, a != 2391391958], unl 5 [decide (b ≤ 16777215)], okU s o i l t, Chm.okM m, unl 5 [decide (5 ≤ h ∧ h ≤ 16), decide (0 ≤ d ∧ d ≤ 500)], unl 12 [q]] = okP a b s o i l t m h d g := by
  unfold okP
  by_cases c1 : a = 0 ∨ a = 2391391958
  · rw [if_pos c1]
    have : unl 1 [a != 0, a != 2391391958] = 1 := by unfold unl; rw [if_neg]; rcases c1 with c | c <;> simp [c]
    rw [this]; simp [fst0]
  · rw [if_neg c1]
    have : unl 1 [a != 0, a != 2391391958] = 0 := by unfold unl; rw [if_pos]; simp; omega
    rw [this]
    by_cases c2 : 16777216 ≤ b
    · rw [if_pos c2]
      have : unl 5 [decide (b ≤ 16777215)] = 5 := by unfold unl; rw [if_neg]; simp; omega
      rw [this]; simp [fst0]
    · rw [if_neg c2]
      have : unl 5 [decide (b ≤ 16777215)] = 0 := by unfold unl; rw [if_pos]; simp; omega
      rw [this]
      by_cases c3 : okU s o i l t = 0
      · rw [if_neg (by simpa using c3), c3]
        by_cases c4 : Chm.okM m = 0
        · rw [if_neg (by simpa using c4), c4]
          by_cases c5 : (5 ≤ h ∧ h ≤ 16) ∧ (0 ≤ d ∧ d ≤ 500)
          · rw [if_pos c5]
            have : unl 5 [decide (5 ≤ h ∧ h ≤ 16), decide (0 ≤ d ∧ d ≤ 500)] = 0 := by unfold unl; rw [if_pos]; simp; omega
            rw [this, hq]
            by_cases c6 : g = 1 ∨ g = 2
            · rw [if_pos c6, decide_eq_true c6]; simp [fst0, unl]
            · rw [if_neg c6, decide_eq_false c6]; simp [fst0, unl]
          · rw [if_neg c5]
            have : unl 5 [decide (5 ≤ h ∧ h ≤ 16), decide (0 ≤ d ∧ d ≤ 500)] = 5 := by unfold unl; rw [if_neg]; simp; omega
            rw [this]; simp [fst0]
        · rw [if_pos c4]; simp [fst0, c4]
      · rw [if_pos c3]; simp [fst0, c3]
end Go.Proofs.YtcbliliinmfnjaaDoor.Cn

end
