/- What the document's function writes as the text of a map: a contract over the program. -/
import Derived.Test.YtkpjpjjpjpimiaaDoorChmBack
import Derived.Test.YtkpjpjjpjpimiaaDoorChmRef
set_option linter.unusedVariables false
set_option linter.unusedSimpArgs false
namespace Go.Proofs.YtkpjpjjpjpimiaaDoor.Chm
open Go.RowKit Mem Oct Base

theorem chr_eq (u : Nat) : UInt8.ofNat ((48 : Int) + (u : Int)).toNat = UInt8.ofNat (48 + u) := by
  congr 1
set_option maxRecDepth 100000 in
theorem rnumber_any (u : Nat) (w : World) (hu : u < 100) :
    Calls Tryd.prog 51 #[.int .i64 u] w fun e w' => e = .returned (.string ⟨(Lib.decDigits u).toArray⟩) ∧ Below w.heap.size w w' := by
  by_cases h1 : u < 10
  · have hr := lit1 .u8 w [48 + (u : Int)] #[.int .u8 (48 + (u : Int))] 5 rfl
    have ks := run_string_ints (P := Tryd.prog) 35 5 Tryd.underlying35 Tryd.underlying5 Tryd.underlying9 _ _ 1 1 _ rfl hr
    have e : Hid (strOfNums [48 + (u : Int)] = ⟨(Lib.decDigits u).toArray⟩) := Lib.hid (by
      rw [Lib.decDigits_one h1]; unfold strOfNums; rw [List.map_cons, List.map_nil, chr_eq])
    have hB : Below w.heap.size w (w.alloc (.cells #[.int .u8 (48 + (u : Int))] 5)) := (Below.refl _ _).alloc (Nat.le_refl _) _
    clear hr
    generalize (⟨(Lib.decDigits u).toArray⟩ : ByteArray) = S at *
    go_enter Tryd.func51, Tryd.ntmps51
    go_wp2_with fail
    go_ret
    exact ⟨by rw [← e.out]; rfl, hB⟩
  · have hr := lit1 .u8 w [48 + (u : Int) / 10, 48 + (u : Int) % 10] #[.int .u8 (48 + (u : Int) / 10), .int .u8 (48 + (u : Int) % 10)] 5 rfl
    have ks := run_string_ints (P := Tryd.prog) 35 5 Tryd.underlying35 Tryd.underlying5 Tryd.underlying9 _ _ 2 2 _ rfl hr
    have e : Hid (strOfNums [48 + (u : Int) / 10, 48 + (u : Int) % 10] = ⟨(Lib.decDigits u).toArray⟩) := Lib.hid (by
      rw [Lib.decDigits_two h1 hu]; unfold strOfNums; rw [List.map_cons, List.map_cons, List.map_nil]
      rw [show (48 : Int) + (u : Int) / 10 = 48 + ((u / 10 : Nat) : Int) by omega, show (48 : Int) + (u : Int) % 10 = 48 + ((u % 10 : Nat) : Int) by omega, chr_eq, chr_eq])
    have hB : Below w.heap.size w (w.alloc (.cells #[.int .u8 (48 + (u : Int) / 10), .int .u8 (48 + (u : Int) % 10)] 5)) := (Below.refl _ _).alloc (Nat.le_refl _) _
    clear hr
    generalize (⟨(Lib.decDigits u).toArray⟩ : ByteArray) = S at *
    go_enter Tryd.func51, Tryd.ntmps51
    go_wp2_with fail
    go_ret
    exact ⟨by rw [← e.out]; rfl, hB⟩
theorem join_snoc (xs : List (List UInt8)) (x : List UInt8) : Lib.join (xs ++ [x]) [44] = if xs = [] then x else Lib.join xs [44] ++ 44 :: x := by
  cases xs with
  | nil => simp [Lib.join_one]
  | cons a r =>
    rw [if_neg (by simp), List.cons_append, Lib.join_cons, Lib.join_cons]
    simp [Lib.joinTail]
/-- The text of the first channels of a map. -/
def textN (m i : Nat) : List UInt8 := Lib.join ((rfil m (chb m i)).map part) [44]
theorem textN_all (m : Nat) : textN m 37 = textL m := rfl
theorem part_ne (r : Nat × Nat) : part r ≠ [] := by
  intro h
  have hd : ∀ u, Lib.decDigits u ≠ [] := fun u e => by
    have := Lib.decDigits_length u
    rw [e] at this
    have h2 : 1 ≤ Lib.nDigits u := by unfold Lib.nDigits; split <;> omega
    simp at this; omega
  unfold part at h
  split at h
  · simp at h
  · exact hd _ h
theorem textN_nil (m i : Nat) : textN m i = [] ↔ rfil m (chb m i) = [] := by
  unfold textN
  cases h : rfil m (chb m i) with
  | nil => simp [Lib.join_nil]
  | cons r rs =>
    rw [List.map_cons, Lib.join_cons]
    simp [part_ne]
theorem textN_no {m i : Nat} (h : hasN m i = false) : textN m (i + 1) = textN m i := by unfold textN; rw [chb_no h]
theorem textN_mid {m i : Nat} (h : hasN m i = true) (hs : st m i = false) : textN m (i + 1) = textN m i := by unfold textN; rw [chb_yes h, rfil_no _ hs]
theorem textN_yes {m i : Nat} (h : hasN m i = true) (hs : st m i = true) : textN m (i + 1) = if textN m i = [] then part (i, lastN m i) else textN m i ++ 44 :: part (i, lastN m i) := by
  have e : textN m (i + 1) = Lib.join ((rfil m (chb m i)).map part ++ [part (i, lastN m i)]) [44] := by unfold textN; rw [chb_yes h, rfil_yes _ hs, List.map_append]; rfl
  rw [e, join_snoc]
  have h2 := textN_nil m i
  by_cases h3 : rfil m (chb m i) = []
  · rw [if_pos (by rw [h3]; rfl), if_pos (h2.2 h3)]
  · rw [if_neg (by simpa using h3), if_neg (fun hh => h3 (h2.1 hh))]; rfl
theorem textN_len (m i : Nat) (hi : i ≤ 37) : (textN m i).length ≤ 300 := by
  have hn := rfil_len m (chb m i)
  have hc := chb_len m i
  have hp : ∀ x ∈ (rfil m (chb m i)).map part, x.length ≤ 5 := by
    intro x hx
    obtain ⟨r, hr, rfl⟩ := List.mem_map.1 hx
    unfold rfil at hr
    obtain ⟨c, hcm, rfl⟩ := List.mem_map.1 hr
    have h1 : hasN m c = true := by
      have := (List.mem_filter.1 hcm).1
      unfold chb at this
      exact (List.mem_filter.1 this).2
    have := hasN_lt h1
    have := last_lt h1
    exact part_len (by show c < 100; omega) (by show lastN m c < 100; omega)
  have hl := lens_le _ 5 hp
  have hk : ((rfil m (chb m i)).map part).length = (rfil m (chb m i)).length := List.length_map _
  unfold textN
  generalize (rfil m (chb m i)).map part = l at *
  cases l with
  | nil => simp [Lib.join_nil]
  | cons x r =>
    rw [Lib.join_length]
    simp only [List.length_cons, List.length_nil] at *
    omega
end Go.Proofs.YtkpjpjjpjpimiaaDoor.Chm
