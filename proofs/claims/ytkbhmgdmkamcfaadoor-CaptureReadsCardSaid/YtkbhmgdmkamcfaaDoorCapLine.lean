/- The text of a record: the layer's answer. -/
import Derived.Test.YtkbhmgdmkamcfaaDoorCapWrite
import Derived.Test.YtkbhmgdmkamcfaaDoorOctHex
import Derived.Test.YtkbhmgdmkamcfaaDoorCapShelf
import Derived.Lib.ItoaLen
import Derived.Lib.AppendIntMem
import Derived.Shelf.Unicode.PredsPay
import Derived.Deep.CutRange
set_option linter.unusedVariables false
set_option linter.unusedSimpArgs false
namespace Go.Proofs.YtkbhmgdmkamcfaaDoor.Cap
open Go.RowKit Mem Rw Air Base Oct

def kindsB : List ByteArray := [(⟨#[110, 111, 110, 101]⟩ : ByteArray), (⟨#[103, 111, 111, 100]⟩ : ByteArray), (⟨#[108, 111, 115, 116]⟩ : ByteArray), (⟨#[106, 97, 109, 109, 101, 100]⟩ : ByteArray), (⟨#[99, 111, 108, 108, 105, 100, 101, 100]⟩ : ByteArray)]
/-- The word of a kind. -/
def wordB (q : Int) : ByteArray := if 0 ≤ q ∧ q < 5 then kindsB.getD q.toNat ⟨#[]⟩ else (⟨#[117, 110, 107, 110, 111, 119, 110]⟩ : ByteArray)
def numB (n : Int) : ByteArray := ⟨(Lib.itoa n).toArray⟩
def digB (bs : List Int) : ByteArray := if bs.length = 0 then (⟨#[45]⟩ : ByteArray) else strOfNums (hexL bs)
def lineB (t h f q : Int) (dg : ByteArray) : ByteArray := ⟨(Lib.join ([numB t, numB h, numB f, wordB q, dg].map (·.data.toList)) [32]).toArray⟩
/-- The tables that the layer reads lie as their initialisers lay them. -/
def Kinds (w : World) : Prop := (0 : Nat) < w.heap.size ∧ ∀ (i : Nat) s, kindsB[i]? = some s → w.cell? ⟨0, i, none⟩ = some (.string s)
theorem Kinds.below {w w' : World} (h : Kinds w) (hb : Below w.heap.size w w') : Kinds w' :=
  ⟨Nat.lt_of_lt_of_le h.1 hb.size, fun i s hs => (hb.cell (p := ⟨0, i, none⟩) h.1).trans (h.2 i s hs)⟩
def Pows (w : World) : Prop := Lib.TabIs Tryd.prog w "internal/strconv.uint64pow10" .u64 Lib.pow10Tab
theorem Pows.below {w w' : World} (h : Pows w) (hb : Below w.heap.size w w') : Pows w' := TabIs_below (g := 2) (by kernel_rfl) h hb
theorem itoa_any (n : Int) (w : World) (hn : -9223372036854775808 ≤ n ∧ n ≤ 9223372036854775807) (hT : Pows w) :
    Calls Tryd.prog 46 #[.int .i64 n] w fun e w' => e = .returned (.string (numB n)) ∧ Below w.heap.size w w' :=
  (Tryd.strconv_Itoa n hn.1 hn.2 w hT).mono fun e w' ⟨h, k, os, hw⟩ => ⟨h, by rw [hw]; exact Lib.below_grow _ w (Nat.le_refl _) k os⟩
theorem word_any (q : Int) (w : World) (hK : Kinds w) : Calls Tryd.prog 47 #[.int .i64 q] w fun e w' => e = .returned (.string (wordB q)) ∧ w = w' := by
  by_cases h0 : q < 0
  · rw [show wordB q = (⟨#[117, 110, 107, 110, 111, 119, 110]⟩ : ByteArray) from if_neg (by omega)]
    go_enter Tryd.func47, Tryd.ntmps47
    go_wp2_with fail
    go_ret
    exact ⟨rfl, rfl⟩
  · by_cases h5 : 5 ≤ q
    · rw [show wordB q = (⟨#[117, 110, 107, 110, 111, 119, 110]⟩ : ByteArray) from if_neg (by omega)]
      go_enter Tryd.func47, Tryd.ntmps47
      go_wp2_with fail
      go_ret
      exact ⟨rfl, rfl⟩
    · obtain ⟨k, rfl⟩ : ∃ k : Nat, q = (k : Int) := ⟨q.toNat, by omega⟩
      have hk : k < 5 := by omega
      have hs : kindsB[k]? = some (wordB (k : Int)) := by
        unfold wordB
        rw [if_pos (by omega), Int.toNat_natCast, List.getD_eq_getElem?_getD, List.getElem?_eq_getElem (by show k < 5; omega)]; rfl
      have hc := hK.2 k _ hs
      have g1 : (0 : Int) ≤ (k : Int) ∧ (k : Int) < 5 ∧ ¬ (5 : Int) ≤ (k : Int) ∧ ¬ 5 ≤ k := by omega
      generalize wordB (k : Int) = s at *
      clear hs hK h0 h5
      go_enter Tryd.func47, Tryd.ntmps47
      go_wp2_with fail
      go_ret
      exact ⟨rfl, rfl⟩
theorem join_len (a b c d e : List UInt8) : (Lib.join [a, b, c, d, e] [32]).length = a.length + b.length + c.length + d.length + e.length + 4 := by
  simp [Lib.join, List.intercalate, List.intersperse]; omega
theorem word_len (q : Int) : (wordB q).data.toList.length ≤ 8 := by
  unfold wordB
  split
  · rename_i h
    obtain ⟨k, rfl⟩ : ∃ k : Nat, q = (k : Int) := ⟨q.toNat, by omega⟩
    rw [Int.toNat_natCast]
    match k, h with
    | 0, _ => decide
    | 1, _ => decide
    | 2, _ => decide
    | 3, _ => decide
    | 4, _ => decide
    | k + 5, h => omega
  · decide
set_option maxRecDepth 100000 in
set_option maxHeartbeats 8000000 in
theorem line_any (t h f q : Int) (bA : Option Addr) (bn bc : Nat) (bs : List Int) (w : World) (hb : bs.length = bn) (hl : bn ≤ 35184372088832) (bb : Bytes bs) (hi : Ints .u8 w w.heap.size bA bs) (it : -9223372036854775808 ≤ t ∧ t ≤ 9223372036854775807) (ih : -9223372036854775808 ≤ h ∧ h ≤ 9223372036854775807) (jf : -9223372036854775808 ≤ f ∧ f ≤ 9223372036854775807) (hK : Kinds w) (hP : Pows w) :
    Calls Tryd.prog 24 #[.agg #[.int .i64 t, .int .i64 h, .int .i64 f, .int .i64 q, .slice bA bn bc]] w fun e w' => e = .returned (.string (lineB t h f q (digB bs))) ∧ Below w.heap.size w w' := by
  have HIt : Hid (∀ (v : Int) (w' : World), (-9223372036854775808 ≤ v ∧ v ≤ 9223372036854775807) → Below w.heap.size w w' → Calls Tryd.prog 46 #[.int .i64 v] w' fun e w2 => e = .returned (.string (numB v)) ∧ Below w'.heap.size w' w2) := Lib.hid fun v w' hv bx => itoa_any v w' hv (hP.below bx)
  have HWd : Hid (∀ (w' : World), Below w.heap.size w w' → Calls Tryd.prog 47 #[.int .i64 q] w' fun e w2 => e = .returned (.string (wordB q)) ∧ Below w'.heap.size w' w2) := Lib.hid fun w' bx => (word_any q w' (hK.below bx)).mono fun e w2 ⟨h1, h2⟩ => ⟨h1, h2 ▸ Below.refl _ _⟩
  have HHx : Hid (∀ (w' : World), Below w.heap.size w w' → Calls Tryd.prog 44 #[.slice bA bn bc] w' fun e w2 => e = .returned (.string (strOfNums (hexL bs))) ∧ Below w'.heap.size w' w2) := Lib.hid fun w' bx => hex_any bA bn bc bs w' hb bb (later hi bx) (by omega)
  have hdl : (digB bs).data.toList.length ≤ 2 * bn + 1 := by
    unfold digB
    split
    · rename_i h0
      show (1 : Nat) ≤ _
      omega
    · rw [strOfNums_data]
      simp only [List.length_map]
      have : ∀ l : List Int, (hexL l).length = 2 * l.length := fun l => by
        induction l with
        | nil => rfl
        | cons x r ih => simp only [hexL, List.length_cons, ih]; omega
      rw [this, hb]; omega
  have hd1 : bn = 0 → digB bs = (⟨#[45]⟩ : ByteArray) := fun h => by unfold digB; rw [if_pos (by omega)]
  have hd2 : bn ≠ 0 → digB bs = strOfNums (hexL bs) := fun h => by unfold digB; rw [if_neg (by omega)]
  generalize digB bs = dg at *
  have HJ : Hid (∀ X : World, Calls Tryd.prog 45 #[.slice (some ⟨X.heap.size, 0, none⟩) 5 5, .string ⟨#[32]⟩] (X.alloc (.cells #[.string (numB t), .string (numB h), .string (numB f), .string (wordB q), .string dg] 9)) fun e w2 => e = .returned (.string (lineB t h f q dg)) ∧ Below (X.alloc (.cells #[.string (numB t), .string (numB h), .string (numB f), .string (wordB q), .string dg] 9)).heap.size (X.alloc (.cells #[.string (numB t), .string (numB h), .string (numB f), .string (wordB q), .string dg] 9)) w2) := Lib.hid fun X => by
    refine Tryd.strings_Join X.heap.size 0 5 [numB t, numB h, numB f, wordB q, dg] ⟨#[32]⟩ (X.alloc (.cells #[.string (numB t), .string (numB h), .string (numB f), .string (wordB q), .string dg] 9)) (fun j x hj => ?_) (by simp) (by simp) (by simp) ?_
    · rw [Nat.zero_add, (Blk.fresh X 9 #[.string (numB t), .string (numB h), .string (numB f), .string (wordB q), .string dg]).cell j]
      match j, hj with
      | 0, hj => simp at hj; subst hj; rfl
      | 1, hj => simp at hj; subst hj; rfl
      | 2, hj => simp at hj; subst hj; rfl
      | 3, hj => simp at hj; subst hj; rfl
      | 4, hj => simp at hj; subst hj; rfl
      | j + 5, hj => simp at hj
    · have h1 := Lib.itoa_length_le t it.1 it.2
      have h2 := Lib.itoa_length_le h ih.1 ih.2
      have h3 := Lib.itoa_length_le f jf.1 jf.2
      have h4 := word_len q
      show (Lib.join [(numB t).data.toList, (numB h).data.toList, (numB f).data.toList, (wordB q).data.toList, dg.data.toList] [32]).length ≤ _
      rw [join_len]
      rw [show (numB t).data.toList = Lib.itoa t from rfl, show (numB h).data.toList = Lib.itoa h from rfl, show (numB f).data.toList = Lib.itoa f from rfl]
      omega
  have B0 : Below w.heap.size w (w.alloc (.cells #[.int .i64 t, .int .i64 h, .int .i64 f, .int .i64 q, .slice bA bn bc] 52)) := (Below.refl _ w).alloc (Nat.le_refl _) _
  have U0 : (w.alloc (.cells #[.int .i64 t, .int .i64 h, .int .i64 f, .int .i64 q, .slice bA bn bc] 52)).cell? ⟨w.heap.size, 0, none⟩ = some (.int .i64 t) ∧ (w.alloc (.cells #[.int .i64 t, .int .i64 h, .int .i64 f, .int .i64 q, .slice bA bn bc] 52)).cell? ⟨w.heap.size, 1, none⟩ = some (.int .i64 h) ∧ (w.alloc (.cells #[.int .i64 t, .int .i64 h, .int .i64 f, .int .i64 q, .slice bA bn bc] 52)).cell? ⟨w.heap.size, 2, none⟩ = some (.int .i64 f) ∧ (w.alloc (.cells #[.int .i64 t, .int .i64 h, .int .i64 f, .int .i64 q, .slice bA bn bc] 52)).cell? ⟨w.heap.size, 3, none⟩ = some (.int .i64 q) ∧ (w.alloc (.cells #[.int .i64 t, .int .i64 h, .int .i64 f, .int .i64 q, .slice bA bn bc] 52)).cell? ⟨w.heap.size, 4, none⟩ = some (.slice bA bn bc) := by
    have T := Blk.fresh w 52 #[.int .i64 t, .int .i64 h, .int .i64 f, .int .i64 q, .slice bA bn bc]
    exact ⟨T.cell 0, T.cell 1, T.cell 2, T.cell 3, T.cell 4⟩
  have HK : Hid (∀ X, Below (w.alloc (.cells #[.int .i64 t, .int .i64 h, .int .i64 f, .int .i64 q, .slice bA bn bc] 52)).heap.size (w.alloc (.cells #[.int .i64 t, .int .i64 h, .int .i64 f, .int .i64 q, .slice bA bn bc] 52)) X → X.cell? ⟨w.heap.size, 0, none⟩ = some (.int .i64 t) ∧ X.cell? ⟨w.heap.size, 1, none⟩ = some (.int .i64 h) ∧ X.cell? ⟨w.heap.size, 2, none⟩ = some (.int .i64 f) ∧ X.cell? ⟨w.heap.size, 3, none⟩ = some (.int .i64 q) ∧ X.cell? ⟨w.heap.size, 4, none⟩ = some (.slice bA bn bc)) := Lib.hid fun X bb => by
    have e : w.heap.size < (w.alloc (.cells #[.int .i64 t, .int .i64 h, .int .i64 f, .int .i64 q, .slice bA bn bc] 52)).heap.size := by simp
    exact ⟨(bb.cell (p := ⟨w.heap.size, 0, none⟩) e).trans U0.1, (bb.cell (p := ⟨w.heap.size, 1, none⟩) e).trans U0.2.1, (bb.cell (p := ⟨w.heap.size, 2, none⟩) e).trans U0.2.2.1, (bb.cell (p := ⟨w.heap.size, 3, none⟩) e).trans U0.2.2.2.1, (bb.cell (p := ⟨w.heap.size, 4, none⟩) e).trans U0.2.2.2.2⟩
  clear hdl bb hi hK hP hb hl
  by_cases hz : bn = 0
  · have hz' : ¬ (0 : Int) < (bn : Int) ∧ ¬ 0 < bn := by omega
    have e := hd1 hz
    subst e
    clear hd1 hd2 HHx hz
    go_enter Tryd.func24, Tryd.ntmps24
    go_wp2_with fail
    generalize w.alloc (.cells #[.int .i64 t, .int .i64 h, .int .i64 f, .int .i64 q, .slice bA bn bc] 52) = W at *
    have BV : Below W.heap.size W W := Below.refl _ _
    refine wp_region_held_drew (S := (fun w' => w'.cell? ⟨w.heap.size, 0, none⟩ = some (.int .i64 t) ∧ w'.cell? ⟨w.heap.size, 1, none⟩ = some (.int .i64 h) ∧ w'.cell? ⟨w.heap.size, 2, none⟩ = some (.int .i64 f) ∧ w'.cell? ⟨w.heap.size, 3, none⟩ = some (.int .i64 q) ∧ w'.cell? ⟨w.heap.size, 4, none⟩ = some (.slice bA bn bc))) (by kernel_rfl) ?_ (fun hHeld => ?_)
    · exact HK.out _ BV.drew
    have BX : Below W.heap.size W W.drew := BV.drew
    generalize W.drew = X0 at *
    refine wpAnyH_take (i := 0) (v := .pointer (some ⟨w.heap.size, 0, none⟩)) rfl (by kernel_rfl) (by kernel_rfl) (by kernel_rfl) (fun _ _ _ h => h) (Or.inl ⟨by first | rfl | go_simp, by intro w9 hSw; (try dsimp only at hSw); go_simp⟩) (by assumption) ?_
    simp only [List.getElem_toArray, List.getElem_cons_zero, List.getElem_cons_succ, Act.put, List.setIfInBounds_toArray, List.set_cons_zero, List.set_cons_succ]
    refine wpAnyH_take (i := 1) (v := .int .i64 t) rfl (by kernel_rfl) (by kernel_rfl) (by kernel_rfl) (fun _ _ _ h => h) (Or.inl ⟨by first | rfl | go_simp, by intro w9 hSw; (try dsimp only at hSw); go_simp⟩) (by assumption) ?_
    simp only [List.getElem_toArray, List.getElem_cons_zero, List.getElem_cons_succ, Act.put, List.setIfInBounds_toArray, List.set_cons_zero, List.set_cons_succ]
    refine wpAnyH_take (i := 3) (v := .pointer (some ⟨w.heap.size, 1, none⟩)) rfl (by kernel_rfl) (by kernel_rfl) (by kernel_rfl) (fun _ _ _ h => h) (Or.inl ⟨by first | rfl | go_simp, by intro w9 hSw; (try dsimp only at hSw); go_simp⟩) (by assumption) ?_
    simp only [List.getElem_toArray, List.getElem_cons_zero, List.getElem_cons_succ, Act.put, List.setIfInBounds_toArray, List.set_cons_zero, List.set_cons_succ]
    refine wpAnyH_take (i := 4) (v := .int .i64 h) rfl (by kernel_rfl) (by kernel_rfl) (by kernel_rfl) (fun _ _ _ h => h) (Or.inl ⟨by first | rfl | go_simp, by intro w9 hSw; (try dsimp only at hSw); go_simp⟩) (by assumption) ?_
    simp only [List.getElem_toArray, List.getElem_cons_zero, List.getElem_cons_succ, Act.put, List.setIfInBounds_toArray, List.set_cons_zero, List.set_cons_succ]
    refine wpAnyH_take (i := 6) (v := .pointer (some ⟨w.heap.size, 2, none⟩)) rfl (by kernel_rfl) (by kernel_rfl) (by kernel_rfl) (fun _ _ _ h => h) (Or.inl ⟨by first | rfl | go_simp, by intro w9 hSw; (try dsimp only at hSw); go_simp⟩) (by assumption) ?_
    simp only [List.getElem_toArray, List.getElem_cons_zero, List.getElem_cons_succ, Act.put, List.setIfInBounds_toArray, List.set_cons_zero, List.set_cons_succ]
    refine wpAnyH_take (i := 7) (v := .int .i64 f) rfl (by kernel_rfl) (by kernel_rfl) (by kernel_rfl) (fun _ _ _ h => h) (Or.inl ⟨by first | rfl | go_simp, by intro w9 hSw; (try dsimp only at hSw); go_simp⟩) (by assumption) ?_
    simp only [List.getElem_toArray, List.getElem_cons_zero, List.getElem_cons_succ, Act.put, List.setIfInBounds_toArray, List.set_cons_zero, List.set_cons_succ]
    refine wpAnyH_take (i := 9) (v := .pointer (some ⟨w.heap.size, 3, none⟩)) rfl (by kernel_rfl) (by kernel_rfl) (by kernel_rfl) (fun _ _ _ h => h) (Or.inl ⟨by first | rfl | go_simp, by intro w9 hSw; (try dsimp only at hSw); go_simp⟩) (by assumption) ?_
    simp only [List.getElem_toArray, List.getElem_cons_zero, List.getElem_cons_succ, Act.put, List.setIfInBounds_toArray, List.set_cons_zero, List.set_cons_succ]
    refine wpAnyH_take (i := 10) (v := .int .i64 q) rfl (by kernel_rfl) (by kernel_rfl) (by kernel_rfl) (fun _ _ _ h => h) (Or.inl ⟨by first | rfl | go_simp, by intro w9 hSw; (try dsimp only at hSw); go_simp⟩) (by assumption) ?_
    simp only [List.getElem_toArray, List.getElem_cons_zero, List.getElem_cons_succ, Act.put, List.setIfInBounds_toArray, List.set_cons_zero, List.set_cons_succ]
    refine wpAnyH_take (i := 12) (v := .string (⟨#[45]⟩ : ByteArray)) rfl (by kernel_rfl) (by kernel_rfl) (by kernel_rfl) (fun _ _ _ h => h) (Or.inl ⟨by first | rfl | go_simp, by intro w9 hSw; (try dsimp only at hSw); go_simp⟩) (by assumption) ?_
    simp only [List.getElem_toArray, List.getElem_cons_zero, List.getElem_cons_succ, Act.put, List.setIfInBounds_toArray, List.set_cons_zero, List.set_cons_succ]
    refine wpAnyH_ready (rs := [2]) (by kernel_rfl) (by simp) ?_
    refine AllReadyH.cons rfl (fun K hK => ?_) (AllReadyH.nil)
    go_simp
    refine (HIt.out t _ (by first | exact it | exact ih | exact jf) (thenB B0 BX)).mono ?_
    rintro e X1 ⟨rfl, b1⟩
    have BX := thenB BX b1
    refine hK.out _ _ (HK.out _ BX) (fun hHeld => ?_)
    clear hK K
    try simp only [List.getElem_toArray, List.getElem_cons_zero, List.getElem_cons_succ, Act.put, List.setIfInBounds_toArray, List.set_cons_zero, List.set_cons_succ]
    refine wpAnyH_ready (rs := [5]) (by kernel_rfl) (by simp) ?_
    refine AllReadyH.cons rfl (fun K hK => ?_) (AllReadyH.nil)
    go_simp
    refine (HIt.out h _ (by first | exact it | exact ih | exact jf) (thenB B0 BX)).mono ?_
    rintro e X2 ⟨rfl, b1⟩
    have BX := thenB BX b1
    refine hK.out _ _ (HK.out _ BX) (fun hHeld => ?_)
    clear hK K
    try simp only [List.getElem_toArray, List.getElem_cons_zero, List.getElem_cons_succ, Act.put, List.setIfInBounds_toArray, List.set_cons_zero, List.set_cons_succ]
    refine wpAnyH_ready (rs := [8]) (by kernel_rfl) (by simp) ?_
    refine AllReadyH.cons rfl (fun K hK => ?_) (AllReadyH.nil)
    go_simp
    refine (HIt.out f _ (by first | exact it | exact ih | exact jf) (thenB B0 BX)).mono ?_
    rintro e X3 ⟨rfl, b1⟩
    have BX := thenB BX b1
    refine hK.out _ _ (HK.out _ BX) (fun hHeld => ?_)
    clear hK K
    try simp only [List.getElem_toArray, List.getElem_cons_zero, List.getElem_cons_succ, Act.put, List.setIfInBounds_toArray, List.set_cons_zero, List.set_cons_succ]
    refine wpAnyH_ready (rs := [11]) (by kernel_rfl) (by simp) ?_
    refine AllReadyH.cons rfl (fun K hK => ?_) (AllReadyH.nil)
    go_simp
    refine (HWd.out _ (thenB B0 BX)).mono ?_
    rintro e X4 ⟨rfl, b1⟩
    have BX := thenB BX b1
    refine hK.out _ _ (HK.out _ BX) (fun hHeld => ?_)
    clear hK K
    try simp only [List.getElem_toArray, List.getElem_cons_zero, List.getElem_cons_succ, Act.put, List.setIfInBounds_toArray, List.set_cons_zero, List.set_cons_succ]
    refine wpAnyH_ready (rs := [13]) (by kernel_rfl) (by simp) ?_
    refine AllReadyH.cons rfl (fun K hK => ?_) (AllReadyH.nil)
    go_simp
    have b1 := (Below.refl _ X4).alloc (Nat.le_refl _) (.cells #[.string (numB t), .string (numB h), .string (numB f), .string (wordB q), .string (⟨#[45]⟩ : ByteArray)] 9)
    have JJ := HJ.out X4
    generalize X4.alloc (.cells #[.string (numB t), .string (numB h), .string (numB f), .string (wordB q), .string (⟨#[45]⟩ : ByteArray)] 9) = X5 at *
    have BX := thenB BX b1
    refine hK.out _ _ (HK.out _ BX) (fun hHeld => ?_)
    clear hK K
    try simp only [List.getElem_toArray, List.getElem_cons_zero, List.getElem_cons_succ, Act.put, List.setIfInBounds_toArray, List.set_cons_zero, List.set_cons_succ]
    refine wpAnyH_ready (rs := [14]) (by kernel_rfl) (by simp) ?_
    refine AllReadyH.cons rfl (fun K hK => ?_) (AllReadyH.nil)
    go_simp
    refine JJ.mono ?_
    rintro e X6 ⟨rfl, b1⟩
    have BX := thenB BX b1
    refine hK.out _ _ (HK.out _ BX) (fun hHeld => ?_)
    clear hK K
    try simp only [List.getElem_toArray, List.getElem_cons_zero, List.getElem_cons_succ, Act.put, List.setIfInBounds_toArray, List.set_cons_zero, List.set_cons_succ]
    refine wpAnyH_take (i := 15) (v := .string (lineB t h f q (⟨#[45]⟩ : ByteArray))) rfl (by kernel_rfl) (by kernel_rfl) (by kernel_rfl) (fun _ _ _ h => h) (Or.inl ⟨by first | rfl | go_simp, by intro w9 hSw; (try dsimp only at hSw); go_simp⟩) (by assumption) ?_
    simp only [List.getElem_toArray, List.getElem_cons_zero, List.getElem_cons_succ, Act.put, List.setIfInBounds_toArray, List.set_cons_zero, List.set_cons_succ]
    refine wpAnyH_done (by kernel_rfl) ?_ _
    go_wp2_with fail
    go_ret
    exact ⟨rfl, thenB B0 BX⟩
  · have hz' : (0 : Int) < (bn : Int) ∧ 0 < bn := by omega
    have e := hd2 hz
    rw [← e] at HHx
    clear hd1 hd2 hz e
    go_enter Tryd.func24, Tryd.ntmps24
    go_wp2_with fail
    generalize w.alloc (.cells #[.int .i64 t, .int .i64 h, .int .i64 f, .int .i64 q, .slice bA bn bc] 52) = W at *
    go_at_call 44
    refine (HHx.out _ B0).mono ?_
    rintro e V ⟨rfl, BV⟩
    have UV := HK.out _ BV
    go_wp2_with fail
    refine wp_region_held_drew (S := (fun w' => w'.cell? ⟨w.heap.size, 0, none⟩ = some (.int .i64 t) ∧ w'.cell? ⟨w.heap.size, 1, none⟩ = some (.int .i64 h) ∧ w'.cell? ⟨w.heap.size, 2, none⟩ = some (.int .i64 f) ∧ w'.cell? ⟨w.heap.size, 3, none⟩ = some (.int .i64 q) ∧ w'.cell? ⟨w.heap.size, 4, none⟩ = some (.slice bA bn bc))) (by kernel_rfl) ?_ (fun hHeld => ?_)
    · exact HK.out _ BV.drew
    have BX : Below W.heap.size W V.drew := BV.drew
    generalize V.drew = X0 at *
    refine wpAnyH_take (i := 0) (v := .pointer (some ⟨w.heap.size, 0, none⟩)) rfl (by kernel_rfl) (by kernel_rfl) (by kernel_rfl) (fun _ _ _ h => h) (Or.inl ⟨by first | rfl | go_simp, by intro w9 hSw; (try dsimp only at hSw); go_simp⟩) (by assumption) ?_
    simp only [List.getElem_toArray, List.getElem_cons_zero, List.getElem_cons_succ, Act.put, List.setIfInBounds_toArray, List.set_cons_zero, List.set_cons_succ]
    refine wpAnyH_take (i := 1) (v := .int .i64 t) rfl (by kernel_rfl) (by kernel_rfl) (by kernel_rfl) (fun _ _ _ h => h) (Or.inl ⟨by first | rfl | go_simp, by intro w9 hSw; (try dsimp only at hSw); go_simp⟩) (by assumption) ?_
    simp only [List.getElem_toArray, List.getElem_cons_zero, List.getElem_cons_succ, Act.put, List.setIfInBounds_toArray, List.set_cons_zero, List.set_cons_succ]
    refine wpAnyH_take (i := 3) (v := .pointer (some ⟨w.heap.size, 1, none⟩)) rfl (by kernel_rfl) (by kernel_rfl) (by kernel_rfl) (fun _ _ _ h => h) (Or.inl ⟨by first | rfl | go_simp, by intro w9 hSw; (try dsimp only at hSw); go_simp⟩) (by assumption) ?_
    simp only [List.getElem_toArray, List.getElem_cons_zero, List.getElem_cons_succ, Act.put, List.setIfInBounds_toArray, List.set_cons_zero, List.set_cons_succ]
    refine wpAnyH_take (i := 4) (v := .int .i64 h) rfl (by kernel_rfl) (by kernel_rfl) (by kernel_rfl) (fun _ _ _ h => h) (Or.inl ⟨by first | rfl | go_simp, by intro w9 hSw; (try dsimp only at hSw); go_simp⟩) (by assumption) ?_
    simp only [List.getElem_toArray, List.getElem_cons_zero, List.getElem_cons_succ, Act.put, List.setIfInBounds_toArray, List.set_cons_zero, List.set_cons_succ]
    refine wpAnyH_take (i := 6) (v := .pointer (some ⟨w.heap.size, 2, none⟩)) rfl (by kernel_rfl) (by kernel_rfl) (by kernel_rfl) (fun _ _ _ h => h) (Or.inl ⟨by first | rfl | go_simp, by intro w9 hSw; (try dsimp only at hSw); go_simp⟩) (by assumption) ?_
    simp only [List.getElem_toArray, List.getElem_cons_zero, List.getElem_cons_succ, Act.put, List.setIfInBounds_toArray, List.set_cons_zero, List.set_cons_succ]
    refine wpAnyH_take (i := 7) (v := .int .i64 f) rfl (by kernel_rfl) (by kernel_rfl) (by kernel_rfl) (fun _ _ _ h => h) (Or.inl ⟨by first | rfl | go_simp, by intro w9 hSw; (try dsimp only at hSw); go_simp⟩) (by assumption) ?_
    simp only [List.getElem_toArray, List.getElem_cons_zero, List.getElem_cons_succ, Act.put, List.setIfInBounds_toArray, List.set_cons_zero, List.set_cons_succ]
    refine wpAnyH_take (i := 9) (v := .pointer (some ⟨w.heap.size, 3, none⟩)) rfl (by kernel_rfl) (by kernel_rfl) (by kernel_rfl) (fun _ _ _ h => h) (Or.inl ⟨by first | rfl | go_simp, by intro w9 hSw; (try dsimp only at hSw); go_simp⟩) (by assumption) ?_
    simp only [List.getElem_toArray, List.getElem_cons_zero, List.getElem_cons_succ, Act.put, List.setIfInBounds_toArray, List.set_cons_zero, List.set_cons_succ]
    refine wpAnyH_take (i := 10) (v := .int .i64 q) rfl (by kernel_rfl) (by kernel_rfl) (by kernel_rfl) (fun _ _ _ h => h) (Or.inl ⟨by first | rfl | go_simp, by intro w9 hSw; (try dsimp only at hSw); go_simp⟩) (by assumption) ?_
    simp only [List.getElem_toArray, List.getElem_cons_zero, List.getElem_cons_succ, Act.put, List.setIfInBounds_toArray, List.set_cons_zero, List.set_cons_succ]
    refine wpAnyH_take (i := 12) (v := .string dg) rfl (by kernel_rfl) (by kernel_rfl) (by kernel_rfl) (fun _ _ _ h => h) (Or.inl ⟨by first | rfl | go_simp, by intro w9 hSw; (try dsimp only at hSw); go_simp⟩) (by assumption) ?_
    simp only [List.getElem_toArray, List.getElem_cons_zero, List.getElem_cons_succ, Act.put, List.setIfInBounds_toArray, List.set_cons_zero, List.set_cons_succ]
    refine wpAnyH_ready (rs := [2]) (by kernel_rfl) (by simp) ?_
    refine AllReadyH.cons rfl (fun K hK => ?_) (AllReadyH.nil)
    go_simp
    refine (HIt.out t _ (by first | exact it | exact ih | exact jf) (thenB B0 BX)).mono ?_
    rintro e X1 ⟨rfl, b1⟩
    have BX := thenB BX b1
    refine hK.out _ _ (HK.out _ BX) (fun hHeld => ?_)
    clear hK K
    try simp only [List.getElem_toArray, List.getElem_cons_zero, List.getElem_cons_succ, Act.put, List.setIfInBounds_toArray, List.set_cons_zero, List.set_cons_succ]
    refine wpAnyH_ready (rs := [5]) (by kernel_rfl) (by simp) ?_
    refine AllReadyH.cons rfl (fun K hK => ?_) (AllReadyH.nil)
    go_simp
    refine (HIt.out h _ (by first | exact it | exact ih | exact jf) (thenB B0 BX)).mono ?_
    rintro e X2 ⟨rfl, b1⟩
    have BX := thenB BX b1
    refine hK.out _ _ (HK.out _ BX) (fun hHeld => ?_)
    clear hK K
    try simp only [List.getElem_toArray, List.getElem_cons_zero, List.getElem_cons_succ, Act.put, List.setIfInBounds_toArray, List.set_cons_zero, List.set_cons_succ]
    refine wpAnyH_ready (rs := [8]) (by kernel_rfl) (by simp) ?_
    refine AllReadyH.cons rfl (fun K hK => ?_) (AllReadyH.nil)
    go_simp
    refine (HIt.out f _ (by first | exact it | exact ih | exact jf) (thenB B0 BX)).mono ?_
    rintro e X3 ⟨rfl, b1⟩
    have BX := thenB BX b1
    refine hK.out _ _ (HK.out _ BX) (fun hHeld => ?_)
    clear hK K
    try simp only [List.getElem_toArray, List.getElem_cons_zero, List.getElem_cons_succ, Act.put, List.setIfInBounds_toArray, List.set_cons_zero, List.set_cons_succ]
    refine wpAnyH_ready (rs := [11]) (by kernel_rfl) (by simp) ?_
    refine AllReadyH.cons rfl (fun K hK => ?_) (AllReadyH.nil)
    go_simp
    refine (HWd.out _ (thenB B0 BX)).mono ?_
    rintro e X4 ⟨rfl, b1⟩
    have BX := thenB BX b1
    refine hK.out _ _ (HK.out _ BX) (fun hHeld => ?_)
    clear hK K
    try simp only [List.getElem_toArray, List.getElem_cons_zero, List.getElem_cons_succ, Act.put, List.setIfInBounds_toArray, List.set_cons_zero, List.set_cons_succ]
    refine wpAnyH_ready (rs := [13]) (by kernel_rfl) (by simp) ?_
    refine AllReadyH.cons rfl (fun K hK => ?_) (AllReadyH.nil)
    go_simp
    have b1 := (Below.refl _ X4).alloc (Nat.le_refl _) (.cells #[.string (numB t), .string (numB h), .string (numB f), .string (wordB q), .string dg] 9)
    have JJ := HJ.out X4
    generalize X4.alloc (.cells #[.string (numB t), .string (numB h), .string (numB f), .string (wordB q), .string dg] 9) = X5 at *
    have BX := thenB BX b1
    refine hK.out _ _ (HK.out _ BX) (fun hHeld => ?_)
    clear hK K
    try simp only [List.getElem_toArray, List.getElem_cons_zero, List.getElem_cons_succ, Act.put, List.setIfInBounds_toArray, List.set_cons_zero, List.set_cons_succ]
    refine wpAnyH_ready (rs := [14]) (by kernel_rfl) (by simp) ?_
    refine AllReadyH.cons rfl (fun K hK => ?_) (AllReadyH.nil)
    go_simp
    refine JJ.mono ?_
    rintro e X6 ⟨rfl, b1⟩
    have BX := thenB BX b1
    refine hK.out _ _ (HK.out _ BX) (fun hHeld => ?_)
    clear hK K
    try simp only [List.getElem_toArray, List.getElem_cons_zero, List.getElem_cons_succ, Act.put, List.setIfInBounds_toArray, List.set_cons_zero, List.set_cons_succ]
    refine wpAnyH_take (i := 15) (v := .string (lineB t h f q dg)) rfl (by kernel_rfl) (by kernel_rfl) (by kernel_rfl) (fun _ _ _ h => h) (Or.inl ⟨by first | rfl | go_simp, by intro w9 hSw; (try dsimp only at hSw); go_simp⟩) (by assumption) ?_
    simp only [List.getElem_toArray, List.getElem_cons_zero, List.getElem_cons_succ, Act.put, List.setIfInBounds_toArray, List.set_cons_zero, List.set_cons_succ]
    refine wpAnyH_done (by kernel_rfl) ?_ _
    go_wp2_with fail
    go_ret
    exact ⟨rfl, thenB B0 BX⟩
end Go.Proofs.YtkbhmgdmkamcfaaDoor.Cap
