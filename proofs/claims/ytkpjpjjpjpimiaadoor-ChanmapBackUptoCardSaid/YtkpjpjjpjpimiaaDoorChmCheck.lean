/- Which maps are valid; whether two lists are the same: contracts over the program. -/
import Derived.Test.YtkpjpjjpjpimiaaDoorChmIter
set_option linter.unusedVariables false
set_option linter.unusedSimpArgs false
namespace Go.Proofs.YtkpjpjjpjpimiaaDoor.Chm
open Go.RowKit Mem

theorem high_zero {m : Nat} (hm : m ≤ 18446744073709551615) : m &&& 18446743936270598144 = 0 ↔ m < 137438953472 := by
  have h1 := @Nat.and_div_two_pow m 18446743936270598144 37
  have h2 := @Nat.and_mod_two_pow m 18446743936270598144 37
  have e : (2 : Nat) ^ 37 = 137438953472 := by decide
  rw [e] at h1 h2
  rw [show (18446743936270598144 : Nat) / 137438953472 = 2 ^ 27 - 1 by decide, Nat.and_two_pow_sub_one_eq_mod, show (2 : Nat) ^ 27 = 134217728 by decide] at h1
  rw [show (18446743936270598144 : Nat) % 137438953472 = 0 by decide, Nat.and_zero] at h2
  generalize m &&& 18446743936270598144 = q at *
  omega
/-- The error of a map. -/
def okM (m : Nat) : Int := if 137438953472 ≤ m then 5 else if (chans m).length < 2 then 1 else 0
theorem check_any (m : Nat) (w : World) (hm : m ≤ 18446744073709551615) :
    Calls Tryd.prog 12 #[.int .u64 m] w fun e w' => e = .returned (.int .i64 (okM m)) ∧ w = w' := by
  have HC := Lib.hid fun w => count_any m w hm
  have hz := high_zero hm
  have ha : bits BinOp.andNot IntKind.u64 (m : Int) 137438953471 = ((m &&& 18446743936270598144 : Nat) : Int) := u64_andNot_nat m 137438953471 (by omega) (by decide)
  have hrz : okM m = if 137438953472 ≤ m then 5 else if (chans m).length < 2 then 1 else 0 := rfl
  rw [hrz]
  clear hrz
  generalize m &&& 18446743936270598144 = q at *
  obtain ⟨k, hk⟩ : ∃ k, (chans m).length = k := ⟨_, rfl⟩
  rw [hk] at HC ⊢
  clear hk
  by_cases h0 : q = 0
  · subst h0
    rw [if_neg (by omega)]
    clear hz
    by_cases h2 : k < 2
    · rw [if_pos h2]
      go_enter Tryd.func12, Tryd.ntmps12
      go_wp2_with (go_at_call 16; refine (HC.out _).mono ?_; rintro e w' ⟨rfl, rfl⟩)
      go_ret
      exact ⟨rfl, rfl⟩
    · rw [if_neg h2]
      go_enter Tryd.func12, Tryd.ntmps12
      go_wp2_with (go_at_call 16; refine (HC.out _).mono ?_; rintro e w' ⟨rfl, rfl⟩)
      go_ret
      exact ⟨rfl, rfl⟩
  · rw [if_pos (by omega)]
    have q0 : (((q : Nat) : Int) != 0) = true := by simpa using h0
    clear hz h0
    go_enter Tryd.func12, Tryd.ntmps12
    go_wp2_with fail
    go_ret
    exact ⟨rfl, rfl⟩
/-- Two lists of integers. -/
theorem sameInts_any (A A' : Option Addr) (n n' c c' : Nat) (xs ys : List Int) (w : World) (hx : xs.length = n) (hy : ys.length = n') (hr : Ints .i64 w w.heap.size A xs) (hr' : Ints .i64 w w.heap.size A' ys) (hn : n ≤ 4611686018427387904) (hn' : n' ≤ 4611686018427387904) :
    Calls Tryd.prog 18 #[.slice A n c, .slice A' n' c'] w fun e w' => e = .returned (.bool (decide (xs = ys))) ∧ Below w.heap.size w w' := by
  by_cases hl : n = n'
  · subst hl
    have q0 : (((n : Nat) : Int) != ((n : Nat) : Int)) = false := by simp
    go_enter Tryd.func18, Tryd.ntmps18
    go_wp2_with fail
    go_loopw [5] (fun i wr => ∃ j : Nat, j ≤ n ∧ i = .int .i64 j ∧ Hid (xs.take j = ys.take j) ∧ Below w.heap.size w wr) (fun i _ => n - (intOf i).toNat)
    case atStart => exact ⟨0, by omega, rfl, Lib.hid (by simp), Below.refl _ _⟩
    case round =>
      obtain ⟨j, hj, rfl, hs, hB⟩ := hrel
      by_cases h1 : j < n
      · obtain ⟨b, off, rfl, hb, hc⟩ := hr.at_ (i := j) (by omega)
        obtain ⟨b', off', rfl, hb', hc'⟩ := hr'.at_ (i := j) (by omega)
        have cx := (hB.cell (p := ⟨b, off + j, none⟩) hb).trans (hc j (by omega))
        have cy := (hB.cell (p := ⟨b', off' + j, none⟩) hb').trans (hc' j (by omega))
        have hjx : j < xs.length := by omega
        have hjy : j < ys.length := by omega
        have HT : Hid (xs.getD j 0 = ys.getD j 0 → xs.take (j + 1) = ys.take (j + 1)) := Lib.hid fun h => by
          rw [List.take_succ_eq_append_getElem hjx, List.take_succ_eq_append_getElem hjy, hs.out]
          simp [List.getD, hjx, hjy] at h
          rw [h]
        have HF : Hid (¬ xs.getD j 0 = ys.getD j 0 → decide (xs = ys) = false) := Lib.hid fun h => by
          simp only [decide_eq_false_iff_not]
          intro e
          exact h (by rw [e])
        generalize xs.getD j 0 = X at *
        generalize ys.getD j 0 = Y at *
        have g1 : (j : Int) < (n : Int) := by omega
        have g0 : (0 : Int) ≤ (j : Int) := by omega
        clear hr hr' hc hc' hs
        by_cases he : X = Y
        · have qe : (X != Y) = false := by simp [he]
          have HT' := Lib.hid (HT.out he)
          clear HT HF he
          go_wp2
          go_region
          all_goals go_wp2
          all_goals go_roundw
          case rel => exact ⟨j + 1, by omega, by go_num, HT', hB.drew⟩
          case measure => simp [intOf]; omega
        · have qe : (X != Y) = true := by simp [he]
          have HD := Lib.hid (HF.out he)
          clear HT HF he
          go_wp2
          go_region
          all_goals go_wp2
          all_goals go_ret
          all_goals exact ⟨Ser.ret_bool HD.out.symm, hB.drew⟩
      · obtain rfl : j = n := by omega
        have HE : Hid (decide (xs = ys) = true) := Lib.hid (by
          have := hs.out
          rw [List.take_of_length_le (by omega), List.take_of_length_le (by omega)] at this
          simpa using this)
        clear hs
        go_wp2
        go_ret
        exact ⟨Ser.ret_bool HE.out.symm, hB⟩
  · have q0 : (((n : Nat) : Int) != ((n' : Nat) : Int)) = true := by simp; omega
    rw [show decide (xs = ys) = false by simp; intro e; subst e; omega]
    go_enter Tryd.func18, Tryd.ntmps18
    go_wp2_with fail
    go_ret
    exact ⟨rfl, Below.refl _ _⟩
end Go.Proofs.YtkpjpjjpjpimiaaDoor.Chm
