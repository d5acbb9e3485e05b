/- The statements on records, rates, halves and proposals, walked: each returns true. -/
import Derived.Test.YtngkpnkjapdnaaaAsLives
set_option linter.unusedVariables false
set_option linter.unusedSimpArgs false
namespace Go.Proofs.Ytngkpnkjapdnaaa.As
open Go.RowKit Mem Chm Base

theorem same_to {A A' : Option Addr} {n c c' : Nat} {fs gs : List (Int × Int)} {w : World} (hf : fs.length = n) (e : fs = gs) (hr : PairsAt w w.heap.size A fs) (hr' : PairsAt w w.heap.size A' gs) (hn : n ≤ 8796093022208) :
    Calls Try.prog 10 #[.slice A n c, .slice A' n c'] w fun e w' => e = .returned (.bool true) ∧ Below w.heap.size w w' := by
  subst e
  have := same_any A A' n n c c' fs fs w hf hf hr hr' hn
  rwa [decide_eq_true rfl] at this
set_option maxHeartbeats 1000000 in
theorem law_records (A : Option Addr) (n c : Nat) (fs : List (Int × Int)) (ch : Int) (ok : Bool) (w : World) (hl : fs.length = n) (hc : n ≤ c) (hr : PairsAt w w.heap.size A fs) (hb : Small fs) (hs : c * 16 ≤ 140737488351232) (hch : -9223372036854775808 ≤ ch ∧ ch ≤ 9223372036854775807) :
    Calls Try.prog 3 #[.slice A n c, .int .i64 ch, .bool ok] w fun e w' => e = .returned (.bool true) ∧ Below w.heap.size w w' := by
  have HL := Lib.hid (lives_any w)
  by_cases h0 : 100 < n
  · have g0 : (100 : Int) < (n : Int) := by omega
    go_enter Try.func3, Try.ntmps3
    go_wp2_with (go_at_call 9; refine HL.out.mono ?_; rintro e w1 ⟨rfl, b1⟩)
    go_ret
    exact ⟨rfl, b1⟩
  · have g0 : ¬ (100 : Int) < (n : Int) := by omega
    have H1 : Hid (∀ w, Calls Try.prog 11 #[] w fun e w' => ∃ A c, e = .returned (.slice A 37 c) ∧ PairsAt w' w'.heap.size A (List.replicate 37 (0, 0)) ∧ Below w.heap.size w w') := Lib.hid fun w =>
      (fresh_any w).mono fun e w' h => by
        obtain ⟨A, c, he, _, hi, hb⟩ := h.read (n := 37) (by simp)
        exact ⟨A, c, he, hi, hb⟩
    have H2 : Hid (∀ w, Calls Try.prog 12 #[] w fun e w' => ∃ A c, e = .returned (.slice A 37 c) ∧ PairsAt w' w'.heap.size A (List.replicate 37 (0, 0)) ∧ Below w.heap.size w w') := Lib.hid fun w =>
      (rfresh_any w).mono fun e w' h => by
        obtain ⟨A, c, he, _, hi, hb⟩ := h.read (n := 37) (by simp)
        exact ⟨A, c, he, hi, hb⟩
    have H3 : Hid (∀ A A' c c' w, PairsAt w w.heap.size A (List.replicate 37 (0, 0)) → PairsAt w w.heap.size A' (List.replicate 37 (0, 0)) → Calls Try.prog 10 #[.slice A 37 c, .slice A' 37 c'] w fun e w' => e = .returned (.bool true) ∧ Below w.heap.size w w') := Lib.hid fun A A' c c' w h h' => same_to (by simp) rfl h h' (by decide)
    have H4 : Hid (∀ w, PairsAt w w.heap.size A fs → Calls Try.prog 14 #[.slice A n c] w fun e w' => ∃ A c, e = .returned (.slice A n c) ∧ PairsAt w' w'.heap.size A fs ∧ Below w.heap.size w w') := Lib.hid fun w h =>
      (copied_any A n c fs w hl h (by omega)).mono fun e w' h => by
        obtain ⟨A, c, he, _, hi, hb⟩ := h.read (n := n) hl
        exact ⟨A, c, he, hi, hb⟩
    have H5 : Hid (∀ A c w, PairsAt w w.heap.size A fs → Calls Try.prog 13 #[.slice A n c, .int .i64 ch, .bool ok] w fun e w' => ∃ A c, e = .returned (.slice A n c) ∧ PairsAt w' w'.heap.size A (recL fs ch ok) ∧ Below w.heap.size w w') := Lib.hid fun A c w h =>
      (record_any A n c fs ch ok w hl h (by omega) hb).mono fun e w' h => by
        obtain ⟨A, c, he, _, hi, hb⟩ := h.read (n := n) (by rw [recL_len]; exact hl)
        exact ⟨A, c, he, hi, hb⟩
    have H6 : Hid (∀ w, PairsAt w w.heap.size A fs → Calls Try.prog 15 #[.slice A n c, .int .i64 ch, .bool ok] w fun e w' => ∃ A c, e = .returned (.slice A n c) ∧ PairsAt w' w'.heap.size A (recL fs ch ok) ∧ Below w.heap.size w w') := Lib.hid fun w h =>
      (rrecord_any A n c fs ch ok w hl h (by omega) hb).mono fun e w' h => by
        obtain ⟨A, c, he, _, hi, hb⟩ := h.read (n := n) (by rw [recL_len]; exact hl)
        exact ⟨A, c, he, hi, hb⟩
    have H7 : Hid (∀ A A' c c' w, PairsAt w w.heap.size A (recL fs ch ok) → PairsAt w w.heap.size A' (recL fs ch ok) → Calls Try.prog 10 #[.slice A n c, .slice A' n c'] w fun e w' => e = .returned (.bool true) ∧ Below w.heap.size w w') := Lib.hid fun A A' c c' w h h' => same_to (by rw [recL_len]; exact hl) rfl h h' (by omega)
    generalize recL fs ch ok = gs at *
    clear hb hl hc
    go_enter Try.func3, Try.ntmps3
    go_wp2_with (first
      | (go_at_call 9; refine HL.out.mono ?_; rintro e w1 ⟨rfl, b1⟩; have P1 := hr.later b1)
      | (go_at_call 11; refine (H1.out _).mono ?_; rintro e w2 ⟨A2, c2, rfl, Q2, b2⟩; have B2 := thenB b1 b2; have P2 := P1.later b2)
      | (go_at_call 12; refine (H2.out _).mono ?_; rintro e w3 ⟨A3, c3, rfl, Q3, b3⟩; have B3 := thenB B2 b3; have P3 := P2.later b3; have Q2' := Q2.later b3)
      | (go_at_call 10; refine (H3.out _ _ _ _ _ Q2' Q3).mono ?_; clear H3; rintro e w4 ⟨rfl, b4⟩; have B4 := thenB B3 b4; have P4 := P3.later b4)
      | (go_at_call 14; refine (H4.out _ P4).mono ?_; rintro e w5 ⟨A5, c5, rfl, Q5, b5⟩; have B5 := thenB B4 b5; have P5 := P4.later b5)
      | (go_at_call 13; refine (H5.out _ _ _ Q5).mono ?_; rintro e w6 ⟨A6, c6, rfl, Q6, b6⟩; have B6 := thenB B5 b6; have P6 := P5.later b6)
      | (go_at_call 15; refine (H6.out _ P6).mono ?_; rintro e w7 ⟨A7, c7, rfl, Q7, b7⟩; have B7 := thenB B6 b7; have Q6' := Q6.later b7)
      | (go_at_call 10; refine (H7.out _ _ _ _ _ Q6' Q7).mono ?_; rintro e w8 ⟨rfl, b8⟩; have B8 := thenB B7 b8))
    go_ret
    exact ⟨rfl, B8⟩
set_option maxHeartbeats 1000000 in
theorem law_rates (a b : Int) (w : World) (ha : -9223372036854775808 ≤ a ∧ a ≤ 9223372036854775807) (hb : -9223372036854775808 ≤ b ∧ b ≤ 9223372036854775807) :
    Calls Try.prog 4 #[.agg #[.int .i64 a, .int .i64 b]] w fun e w' => e = .returned (.bool true) ∧ Below w.heap.size w w' := by
  have HL := Lib.hid lives_any
  have H1 := Lib.hid (rate_any a b)
  have H2 := Lib.hid (rrate_any a b)
  have H3 := Lib.hid (bad_any a b)
  have H4 := Lib.hid (rbad_any a b)
  generalize rateZ (a, b) = R at *
  generalize badB (a, b) = D at *
  have B0 : Below w.heap.size w (w.alloc (.cells #[.int .i64 a, .int .i64 b] 30)) := (Below.refl _ w).alloc (Nat.le_refl _) _
  have T0 : Mem.Blk (w.alloc (.cells #[.int .i64 a, .int .i64 b] 30)) w.heap.size 30 #[.int .i64 a, .int .i64 b] := Blk.fresh w _ _
  have K0 : (w.alloc (.cells #[.int .i64 a, .int .i64 b] 30)).cell? ⟨w.heap.size, 0, none⟩ = some (.int .i64 a) ∧ (w.alloc (.cells #[.int .i64 a, .int .i64 b] 30)).cell? ⟨w.heap.size, 1, none⟩ = some (.int .i64 b) := ⟨T0.cell 0, T0.cell 1⟩
  go_enter Try.func4, Try.ntmps4
  go_wp2_with fail
  generalize w.alloc (.cells #[.int .i64 a, .int .i64 b] 30) = W at *
  have B1 := B0.drew
  have K1 : W.drew.cell? ⟨w.heap.size, 0, none⟩ = some (.int .i64 a) ∧ W.drew.cell? ⟨w.heap.size, 1, none⟩ = some (.int .i64 b) := ⟨K0.1, K0.2⟩
  go_region_held3 (fun w' => w'.cell? ⟨w.heap.size, 0, none⟩ = some (.int .i64 a) ∧ w'.cell? ⟨w.heap.size, 1, none⟩ = some (.int .i64 b)) (first | exact K6 | exact K5 | exact K4 | exact K3 | exact K2 | exact K1) (first
    | (go_at_call 9; refine (HL.out _).mono ?_; rintro e w2 ⟨rfl, b2⟩; have B2 := thenB B1 b2; have K2 := cells_below K1 b2)
    | (go_at_call 16; refine (H1.out _).mono ?_; rintro e w3 ⟨rfl, b3⟩; have B3 := thenB B2 b3; have K3 := cells_below K2 b3)
    | (go_at_call 17; refine (H2.out _).mono ?_; rintro e w4 ⟨rfl, b4⟩; have B4 := thenB B3 b4; have K4 := cells_below K3 b4)
    | (go_at_call 18; refine (H3.out _).mono ?_; rintro e w5 ⟨rfl, b5⟩; have B5 := thenB B4 b5; have K5 := cells_below K4 b5)
    | (go_at_call 19; refine (H4.out _).mono ?_; rintro e w6 ⟨rfl, b6⟩; have B6 := thenB B5 b6; have K6 := cells_below K5 b6))
  go_wp2_with fail
  go_ret
  exact ⟨rfl, B6⟩
end Go.Proofs.Ytngkpnkjapdnaaa.As
