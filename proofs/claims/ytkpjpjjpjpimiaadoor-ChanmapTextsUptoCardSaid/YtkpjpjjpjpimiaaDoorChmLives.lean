/- The results that the document gives, walked. -/
import Derived.Test.YtkpjpjjpjpimiaaDoorChmParse3
import Derived.Test.YtkpjpjjpjpimiaaDoorChmCode
set_option linter.unusedVariables false
set_option linter.unusedSimpArgs false
namespace Go.Proofs.YtkpjpjjpjpimiaaDoor.Chm
open Go.RowKit Mem Oct Base

theorem text33 : textL 33 = [48, 44, 53] := by
  unfold textL
  rw [show rngs 33 = [(0, 0), (5, 5)] by decide +kernel]
  simp [part, Lib.decDigits_one, Lib.join_cons, Lib.joinTail]
theorem text3 : textL 3 = [48, 45, 49] := by
  unfold textL
  rw [show rngs 3 = [(0, 1)] by decide +kernel]
  simp [part, Lib.decDigits_one, Lib.join_one]
theorem parse3 : parseO ⟨#[48, 45, 49]⟩ = some 3 := by
  have h1 : parts ⟨#[48, 45, 49]⟩ = [[48, 45, 49]] := by
    unfold parts pieces
    rw [Lib.countB_miss _ _ (by decide +kernel : Lib.indexB ⟨#[48, 45, 49]⟩ ⟨#[44]⟩ = -1)]
    rfl
  have h2 : pallO [[48, 45, 49]] 0 = some 3 := by decide +kernel
  unfold parseO
  rw [h1, h2]
  exact if_pos ⟨by decide +kernel, text3⟩
theorem enc33 : encR 33 = ([33, 0, 0, 0, 0], 0) := by decide +kernel
theorem dec33 : decR [33, 0, 0, 0, 0] = (33, 0) := by decide +kernel
theorem gives_read {w w' : World} {e : Ending} {r : List Int × Int} (h : Gives w w' e r) {n : Nat} (hn : r.1.length = n) : ∃ A c, e = .returned (.tuple #[.slice A n c, .int .i64 r.2]) ∧ n ≤ c ∧ Ints .u8 w' w'.heap.size A r.1 ∧ Below w.heap.size w w' := by
  subst hn
  obtain ⟨A, c, he, ho, hb⟩ := h
  exact ⟨A, c, he, own_cap ho, Ints.own ho, hb⟩
set_option maxHeartbeats 2000000 in
set_option maxRecDepth 100000 in
theorem lives_any (w : World) (hE : Errs w) : Calls Tryd.prog 11 #[] w fun e w' => e = .returned (.bool true) ∧ Below w.heap.size w w' := by
  have L1 : Hid (∀ w, Calls Tryd.prog 27 #[.int .u64 33] w fun e w' => ∃ A c, e = .returned (.tuple #[.slice A 5 c, .int .i64 0]) ∧ Ints .u8 w' w'.heap.size A [33, 0, 0, 0, 0] ∧ Below w.heap.size w w') := Lib.hid fun w =>
    (encode_any 33 w (by decide)).mono fun e w' h => by
      rw [enc33] at h
      obtain ⟨A, c, he, _, hi, hb⟩ := gives_read (r := ([33, 0, 0, 0, 0], 0)) h rfl
      exact ⟨A, c, he, hi, hb⟩
  have L2 : Hid (∀ w, Calls Tryd.prog 29 #[.slice (some ⟨w.heap.size, 0, none⟩) 5 5] (w.alloc (.cells #[.int .u8 33, .int .u8 0, .int .u8 0, .int .u8 0, .int .u8 0] 5)) fun e w' => e = .returned (.tuple #[.int .u64 33, .int .i64 0]) ∧ Below w.heap.size w w') := Lib.hid fun w => by
    have h := decode_any (some ⟨w.heap.size, 0, none⟩) 5 5 [33, 0, 0, 0, 0] _ rfl (by omega) (by omega) (bytes_lit _ (by decide)) (lit1 .u8 w [33, 0, 0, 0, 0] #[.int .u8 33, .int .u8 0, .int .u8 0, .int .u8 0, .int .u8 0] 5 rfl)
    rw [dec33] at h
    exact h.mono fun e w' ⟨h1, h2⟩ => ⟨h1, alloc1 w _ h2⟩
  have L3 : Hid (∀ w, Errs w → Calls Tryd.prog 32 #[.string ⟨#[48, 45, 49]⟩] w fun e w' => e = .returned (.tuple #[.int .u64 3, .int .i64 0]) ∧ Below w.heap.size w w') := Lib.hid fun w hE => by
    have h := parse_any ⟨#[48, 45, 49]⟩ w (by decide) hE
    rw [parse3] at h
    exact h
  have L4 : Hid (∀ w, Calls Tryd.prog 12 #[.int .u64 33] w fun e w' => e = .returned (.int .i64 0) ∧ w = w') := Lib.hid fun w => check_to (m := 33) (by decide) (by decide +kernel) w
  have L5 : Hid (∀ w, Calls Tryd.prog 12 #[.int .u64 1] w fun e w' => e = .returned (.int .i64 1) ∧ w = w') := Lib.hid fun w => check_to (m := 1) (by decide) (by decide +kernel) w
  have L6 : Hid (∀ w, Calls Tryd.prog 14 #[.int .u64 33, .int .i64 5] w fun e w' => e = .returned (.bool true) ∧ w = w') := Lib.hid fun w => has_to (m := 33) (c := 5) (by decide) (by decide +kernel) w
  have L7 : Hid (∀ w, Calls Tryd.prog 14 #[.int .u64 33, .int .i64 6] w fun e w' => e = .returned (.bool false) ∧ w = w') := Lib.hid fun w => has_to (m := 33) (c := 6) (by decide) (by decide +kernel) w
  have L8 : Hid (∀ w, Calls Tryd.prog 16 #[.int .u64 33] w fun e w' => e = .returned (.int .i64 2) ∧ w = w') := Lib.hid fun w => by
    have h := count_any 33 w (by decide)
    rw [show (chans 33).length = 2 by decide +kernel] at h
    exact h
  have L9 : Hid (∀ w, Calls Tryd.prog 19 #[.int .u64 33] w fun e w' => ∃ A c, e = .returned (.slice A 2 c) ∧ Ints .i64 w' w'.heap.size A [0, 5] ∧ Below w.heap.size w w') := Lib.hid fun w =>
    (list_any 33 w (by decide)).mono fun e w' h => by
      rw [show zs (chans 33) = [0, 5] by decide +kernel] at h
      obtain ⟨A, c, he, _, hi, hb⟩ := h.read (n := 2) rfl
      exact ⟨A, c, he, hi, hb⟩
  have L10 : Hid (∀ w, Calls Tryd.prog 21 #[.int .u64 33, .int .i64 1] w fun e w' => e = .returned (.int .i64 5) ∧ Below w.heap.size w w') := Lib.hid fun w => by
    have h := nth_any 33 1 w (by decide)
    rwa [show nthZ 33 1 = 5 by decide +kernel] at h
  have L11 : Hid (∀ w, Calls Tryd.prog 21 #[.int .u64 33, .int .i64 2] w fun e w' => e = .returned (.int .i64 (-1)) ∧ Below w.heap.size w w') := Lib.hid fun w => by
    have h := nth_any 33 2 w (by decide)
    rwa [show nthZ 33 2 = -1 by decide +kernel] at h
  have L12 : Hid (∀ w, Calls Tryd.prog 23 #[.int .u64 33, .int .i64 7] w fun e w' => e = .returned (.int .i64 5) ∧ Below w.heap.size w w') := Lib.hid fun w => by
    have h := remap_any 33 7 w (by decide)
    rwa [show remapZ 33 7 = 5 by decide +kernel] at h
  have L13 : Hid (∀ w, Calls Tryd.prog 25 #[.int .i64 11] w fun e w' => e = .returned (.int .i64 2428) ∧ w = w') := Lib.hid fun w => by
    have h := frequency_any 11 w
    rwa [show freqZ 11 = 2428 by decide +kernel] at h
  have L14 : Hid (∀ w, Calls Tryd.prog 34 #[.int .u64 33] w fun e w' => e = .returned (.string ⟨#[48, 44, 53]⟩) ∧ Below w.heap.size w w') := Lib.hid fun w => by
    have h := text_any 33 w (by decide)
    rwa [text33] at h
  have L15 : Hid (∀ w A c, Ints .u8 w w.heap.size A [33, 0, 0, 0, 0] → Calls Tryd.prog 31 #[.slice A 5 c, .slice (some ⟨w.heap.size, 0, none⟩) 5 5] (w.alloc (.cells #[.int .u8 33, .int .u8 0, .int .u8 0, .int .u8 0, .int .u8 0] 5)) fun e w' => e = .returned (.bool true) ∧ Below w.heap.size w w') := Lib.hid fun w A c hi =>
    (same_to (xs := [33, 0, 0, 0, 0]) (ys := [33, 0, 0, 0, 0]) (by decide) rfl rfl (bytes_lit _ (by decide)) (bytes_lit _ (by decide)) (kept hi _) (lit1 .u8 w [33, 0, 0, 0, 0] #[.int .u8 33, .int .u8 0, .int .u8 0, .int .u8 0, .int .u8 0] 5 rfl)).mono fun e w' ⟨h1, h2⟩ => ⟨h1, by rw [h2]; exact (Below.refl _ _).alloc (Nat.le_refl _) _⟩
  have L16 : Hid (∀ w A c, Ints .i64 w w.heap.size A [0, 5] → Calls Tryd.prog 18 #[.slice A 2 c, .slice (some ⟨w.heap.size, 0, none⟩) 2 2] (w.alloc (.cells #[.int .i64 0, .int .i64 5] 3)) fun e w' => e = .returned (.bool true) ∧ Below w.heap.size w w') := Lib.hid fun w A c hi => by
    have h := sameInts_any A (some ⟨w.heap.size, 0, none⟩) 2 2 c 2 [0, 5] [0, 5] _ rfl rfl (kept hi (.cells #[.int .i64 0, .int .i64 5] 3)) (lit1 .i64 w [0, 5] #[.int .i64 0, .int .i64 5] 3 rfl) (by decide) (by decide)
    exact h.mono fun e w' ⟨h1, h2⟩ => ⟨by rw [h1, decide_eq_true rfl], alloc1 w _ h2⟩
  have HE := Lib.hid hE
  clear hE
  go_enter Tryd.func11, Tryd.ntmps11
  go_wp2_with (first
    | (go_at_call 27; refine (L1.out _).mono ?_; clear L1; rintro e w1 ⟨A1, c1, rfl, I1, b1⟩; have B1 := b1)
    | (go_at_call 29; refine (L2.out _).mono ?_; clear L2; rintro e w2 ⟨rfl, b2⟩; have B2 := thenB B1 b2; have I2 := later I1 b2)
    | (go_at_call 32; refine (L3.out _ (HE.out.below B2)).mono ?_; clear L3; rintro e w3 ⟨rfl, b3⟩; have B3 := thenB B2 b3; have I3 := later I2 b3)
    | (go_at_call 12; refine (L4.out _).mono ?_; clear L4; rintro e w' ⟨rfl, rfl⟩)
    | (go_at_call 12; refine (L5.out _).mono ?_; clear L5; rintro e w' ⟨rfl, rfl⟩)
    | (go_at_call 14; refine (L6.out _).mono ?_; clear L6; rintro e w' ⟨rfl, rfl⟩)
    | (go_at_call 14; refine (L7.out _).mono ?_; clear L7; rintro e w' ⟨rfl, rfl⟩)
    | (go_at_call 16; refine (L8.out _).mono ?_; clear L8; rintro e w' ⟨rfl, rfl⟩)
    | (go_at_call 19; refine (L9.out _).mono ?_; clear L9; rintro e w4 ⟨A4, c4, rfl, J4, b4⟩; have B4 := thenB B3 b4; have I4 := later I3 b4)
    | (go_at_call 18; refine (L16.out _ _ _ J4).mono ?_; clear L16; rintro e w5 ⟨rfl, b5⟩; have B5 := thenB B4 b5; have I5 := later I4 b5)
    | (go_at_call 21; refine (L10.out _).mono ?_; clear L10; rintro e w6 ⟨rfl, b6⟩; have B6 := thenB B5 b6; have I6 := later I5 b6)
    | (go_at_call 21; refine (L11.out _).mono ?_; clear L11; rintro e w7 ⟨rfl, b7⟩; have B7 := thenB B6 b7; have I7 := later I6 b7)
    | (go_at_call 23; refine (L12.out _).mono ?_; clear L12; rintro e w8 ⟨rfl, b8⟩; have B8 := thenB B7 b8; have I8 := later I7 b8)
    | (go_at_call 25; refine (L13.out _).mono ?_; clear L13; rintro e w' ⟨rfl, rfl⟩)
    | (go_at_call 31; refine (L15.out _ _ _ I8).mono ?_; clear L15; rintro e w9 ⟨rfl, b9⟩; have B9 := thenB B8 b9)
    | (go_at_call 34; refine (L14.out _).mono ?_; clear L14; rintro e w10 ⟨rfl, b10⟩; have B10 := thenB B9 b10))
  go_ret
  exact ⟨rfl, B10⟩
end Go.Proofs.YtkpjpjjpjpimiaaDoor.Chm
