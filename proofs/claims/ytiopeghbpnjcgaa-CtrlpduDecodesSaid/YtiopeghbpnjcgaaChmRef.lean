/- What the document's functions return on one channel, and of the list of a map: contracts over the program. -/
import Derived.Test.YtiopeghbpnjcgaaChmCheck
import Derived.Test.YtiopeghbpnjcgaaSerWalks
set_option linter.unusedVariables false
set_option linter.unusedSimpArgs false
namespace Go.Proofs.Ytiopeghbpnjcgaa.Chm
open Go.RowKit Mem Base

theorem rpow_any (k : Nat) (w : World) (hk : k < 64) :
    Calls Try.prog 44 #[.int .i64 k] w fun e w' => e = .returned (.int .u64 ((2 ^ k : Nat) : Int)) ∧ w = w' := by
  have h := Ser.power_any (k : Int) w (by omega) (by omega)
  rw [Int.toNat_natCast] at h
  have e : Ser.p2 k = ((2 ^ k : Nat) : Int) := by unfold Ser.p2; simp
  rw [e] at h
  exact h
theorem rhas_any (m : Nat) (c : Int) (w : World) (hm : m ≤ 18446744073709551615) :
    Calls Try.prog 73 #[.int .u64 m, .int .i64 c] w fun e w' => e = .returned (.bool (hasZ m c)) ∧ w = w' := by
  by_cases h0 : 0 ≤ c
  · by_cases h1 : c < 37
    · obtain ⟨n, rfl⟩ := Int.eq_ofNat_of_zero_le h0
      have hn : n < 37 := by omega
      have hs := Lib.hid fun w => rpow_any n w (by omega)
      have hp := pow_le n (by omega)
      have hpos : 0 < 2 ^ n := Nat.pow_pos (by decide)
      have ht : hasZ m (n : Int) = decide (m / 2 ^ n % 2 = 1) := by
        rw [hasZ_nat]; unfold hasN
        rw [decide_eq_true hn, Bool.true_and, Nat.testBit_eq_decide_div_mod_eq]
      rw [ht]
      have hq := Nat.div_le_self m (2 ^ n)
      have e1 : (m : Int).tdiv ((2 ^ n : Nat) : Int) = ((m / 2 ^ n : Nat) : Int) := rfl
      have e2 : ((m : Int) / ((2 ^ n : Nat) : Int)) = ((m / 2 ^ n : Nat) : Int) := rfl
      have hne : (((2 ^ n : Nat) : Int) == 0) = false := by
        generalize 2 ^ n = q at hpos
        simp; omega
      have hne2 : ¬ ((2 ^ n : Nat) : Int) = 0 := by
        generalize 2 ^ n = q at hpos
        omega
      generalize m / 2 ^ n = Q at *
      clear hp ht
      generalize ((2 ^ n : Nat) : Int) = P at *
      go_enter Try.func73, Try.ntmps73
      go_wp2_with (go_at_call 44; refine (hs.out _).mono ?_; rintro e w' ⟨rfl, rfl⟩)
      go_ret
      refine ⟨Ser.ret_bool ?_, rfl⟩
      rw [Bool.eq_iff_iff]; simp; omega
    · rw [show hasZ m c = false by have : ¬ c.toNat < 37 := by omega
                                   simp [hasZ, hasN, this]]
      go_enter Try.func73, Try.ntmps73
      go_wp2
      go_ret
      exact ⟨rfl, rfl⟩
  · rw [show hasZ m c = false by simp [hasZ, h0]]
    go_enter Try.func73, Try.ntmps73
    go_wp2
    go_ret
    exact ⟨rfl, rfl⟩
theorem grown_below {w W w1 : World} {base : Nat} {e : TypeId} {size n : Nat} {v : Value} {xs : List Value} {o : Obj} (hB : Below base w W) (hrow : W.ownsRow base e size v n xs) (hg : (W.alloc o).grownBy w1 v.ownBlock) (hb : base ≤ w.heap.size := by omega) : Below base w w1 :=
  (hB.alloc (Nat.le_trans hb hB.size) _).grown hg (by have := hB.size; simp; omega) (fun j ej => by
    rcases hrow.2 with ⟨rfl, _⟩ | ⟨g, cap, cur, rfl, hb, _, _⟩
    · simp [Value.ownBlock] at ej
    · obtain rfl : g = j := by simpa [Value.ownBlock] using ej
      exact hb)
theorem rhas_to {m : Nat} {c : Nat} {b : Bool} (hm : m ≤ 18446744073709551615) (hb : hasN m c = b) (w : World) :
    Calls Try.prog 73 #[.int .u64 m, .int .i64 c] w fun e w' => e = .returned (.bool b) ∧ w = w' := by
  rw [← hb, ← hasZ_nat]; exact rhas_any m c w hm
set_option maxRecDepth 100000 in
set_option maxHeartbeats 1000000 in
theorem rlist_any (m : Nat) (w : World) (hm : m ≤ 18446744073709551615) :
    Calls Try.prog 68 #[.int .u64 m] w fun e w' => MakesI w w' e (zs (chans m)) := by
  obtain ⟨i0, hi, hz0, hz1, hz2⟩ := info_parts info_int
  go_enter Try.func68, Try.ntmps68
  go_wp2
  have own0 : (w.alloc (.cells #[] 3)).ownsRow w.heap.size 3 1 (.slice (some ⟨w.heap.size, 0, none⟩) 0 0) 0 [] := World.ownsRow_made _ _ 0 (Nat.le_refl _) (by unfold maxLen; omega) rfl
  have B0 : Below w.heap.size w (w.alloc (.cells #[] 3)) := (Below.refl _ _).alloc (Nat.le_refl _) _
  go_loopw [3, 4] (fun s3 s4 wr => ∃ k : Nat, k ≤ 37 ∧ s4 = .int .i64 (k : Nat) ∧ wr.ownsRow w.heap.size 3 1 s3 (zs (chb m k)).length ((zs (chb m k)).map (Value.int .i64)) ∧ Below w.heap.size w wr) (fun _ s4 _ => 37 - (intOf s4).toNat)
  case atStart => exact ⟨0, by omega, rfl, own0, B0⟩
  case round =>
    obtain ⟨k, hk, rfl, hrow, hB⟩ := hrel
    by_cases h1 : k < 37
    · by_cases hb : hasN m k = true
      · have HH := Lib.hid (rhas_to hm hb)
        have HS : Hid (zs (chb m (k + 1)) = zs (chb m k) ++ [(k : Int)]) := Lib.hid (by rw [chb_yes hb, zs_snoc])
        have hl := zs_len (chb m k)
        have hl2 := chb_len m k
        clear hb
        generalize zs (chb m k) = F at *
        obtain ⟨q, hq⟩ : ∃ q, F.length = q := ⟨_, rfl⟩
        rw [hq] at hrow hl
        have HQ := Lib.hid hq
        clear hq
        go_wp2_with (first
          | (go_at_call 73; refine (HH.out _).mono ?_; rintro e w' ⟨rfl, rfl⟩)
          | (at_builtin; refine wpList_append_own _ rfl _ _ 45 rfl w.heap.size 3 i0 _ 1 8 Try.underlying45 hi hz0 hz1 hz2 rfl (by decide) _ _ _ rfl (hrow.alloc _) ⟨wr.heap.size, 0, none⟩ 1 1 [.int .i64 (k : Nat)] rfl rfl (cell_one_new _ _ _) (by simp [Value.oneCell']) (by unfold maxLen; omega) (by omega) (by have := hB.size; simp; omega) ?_; intro v' w1 hown' hgrow _))
        have B1 := grown_below hB hrow hgrow
        go_roundw
        case rel => exact ⟨k + 1, by omega, by go_num, by rw [HS.out, List.length_append, HQ.out, List.map_append]; exact hown', B1⟩
        case measure => simp [intOf]; omega
      · have hb' : hasN m k = false := by simpa using hb
        have HH := Lib.hid (rhas_to hm hb')
        have HS : Hid (chb m (k + 1) = chb m k) := Lib.hid (chb_no hb')
        clear hb hb'
        go_wp2_with (go_at_call 73; refine (HH.out _).mono ?_; rintro e w' ⟨rfl, rfl⟩)
        go_roundw
        case rel => exact ⟨k + 1, by omega, by go_num, by rw [HS.out]; exact hrow, hB⟩
        case measure => simp [intOf]; omega
    · obtain rfl : k = 37 := by omega
      go_wp2
      go_ret
      exact makesI_of rfl rfl hrow hB
theorem rcount_any (m : Nat) (w : World) (hm : m ≤ 18446744073709551615) :
    Calls Try.prog 45 #[.int .u64 m] w fun e w' => e = .returned (.int .i64 ((chans m).length : Nat)) ∧ Below w.heap.size w w' := by
  have HL : Hid (∀ w, Calls Try.prog 68 #[.int .u64 m] w fun e w' => ∃ A c, e = .returned (.slice A (chans m).length c) ∧ Ints .i64 w' w'.heap.size A (zs (chans m)) ∧ Below w.heap.size w w') := Lib.hid fun w =>
    (rlist_any m w hm).mono fun e w' h => by
      obtain ⟨A, c, he, _, hi, hb⟩ := h.read (zs_len (chans m))
      exact ⟨A, c, he, hi, hb⟩
  generalize (chans m).length = L at *
  go_enter Try.func45, Try.ntmps45
  go_wp2_with (go_at_call 68; refine (HL.out _).mono ?_; rintro e w1 ⟨A, c, rfl, _, hb⟩)
  go_ret
  exact ⟨rfl, hb⟩
theorem has_nonempty {m : Nat} {c : Int} (h : hasZ m c = true) : (chans m).length ≠ 0 := by
  simp only [hasZ, Bool.and_eq_true] at h
  have := (chb_at (hasN_lt h.2) h.2).1
  omega
set_option maxRecDepth 100000 in
theorem rcheck_any (m : Nat) (w : World) (hm : m ≤ 18446744073709551615) :
    Calls Try.prog 23 #[.int .u64 m] w fun e w' => e = .returned (.int .i64 (okM m)) ∧ Below w.heap.size w w' := by
  have HC := Lib.hid fun w => rcount_any m w hm
  have HP : Hid (∀ w, Calls Try.prog 44 #[.int .i64 37] w fun e w' => e = .returned (.int .u64 137438953472) ∧ w = w') := Lib.hid fun w => rpow_any 37 w (by decide)
  have hrz : okM m = if 137438953472 ≤ m then 5 else if (chans m).length < 2 then 1 else 0 := rfl
  rw [hrz]
  clear hrz
  obtain ⟨k, hk⟩ : ∃ k, (chans m).length = k := ⟨_, rfl⟩
  rw [hk] at HC ⊢
  clear hk
  by_cases h0 : 137438953472 ≤ m
  · rw [if_pos h0]
    have q0 : decide ((137438953472 : Int) ≤ (m : Int)) = true := decide_eq_true (by omega)
    clear h0
    go_enter Try.func23, Try.ntmps23
    go_wp2_with (go_at_call 44; refine (HP.out _).mono ?_; rintro e w' ⟨rfl, rfl⟩)
    go_ret
    exact ⟨rfl, Below.refl _ _⟩
  · rw [if_neg h0]
    have q0 : decide ((137438953472 : Int) ≤ (m : Int)) = false := decide_eq_false (by omega)
    clear h0
    by_cases h2 : k < 2
    · rw [if_pos h2]
      go_enter Try.func23, Try.ntmps23
      go_wp2_with (first
        | (go_at_call 44; refine (HP.out _).mono ?_; rintro e w' ⟨rfl, rfl⟩)
        | (go_at_call 45; refine (HC.out _).mono ?_; rintro e w1 ⟨rfl, b1⟩))
      go_ret
      exact ⟨rfl, b1⟩
    · rw [if_neg h2]
      go_enter Try.func23, Try.ntmps23
      go_wp2_with (first
        | (go_at_call 44; refine (HP.out _).mono ?_; rintro e w' ⟨rfl, rfl⟩)
        | (go_at_call 45; refine (HC.out _).mono ?_; rintro e w1 ⟨rfl, b1⟩))
      go_ret
      exact ⟨rfl, b1⟩
end Go.Proofs.Ytiopeghbpnjcgaa.Chm
