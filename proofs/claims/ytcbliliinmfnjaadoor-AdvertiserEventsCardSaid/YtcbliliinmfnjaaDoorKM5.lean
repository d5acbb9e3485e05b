/- What each function of the layer of wrapping counters, and of its specification, returns: contracts over the program. What the document's functions return on one channel, and of the list of a map: contracts over the program. Whether parameters are valid: the document's function. -/
import Derived.Test.YtcbliliinmfnjaaDoorProg
import Derived.WalkKit
import Derived.Lib.MinMax
import Derived.Lib.Hide
import Derived.BigQuiet
import Derived.Deep.QuietTactic
import Derived.Test.YtcbliliinmfnjaaDoorKM1
import Derived.Test.YtcbliliinmfnjaaDoorKM4
import Derived.Test.YtcbliliinmfnjaaDoorKCnRUpd
section
set_option linter.unusedVariables false
namespace Go.Proofs.YtcbliliinmfnjaaDoor.Ser
open Go.RowKit

theorem power_any (b : Int) (w : World) (h0 : 0 ≤ b) (h1 : b ≤ 63) :
    Calls Tryd.prog 118 #[.int .i64 b] w fun e w' => e = .returned (.int .u64 (p2 b.toNat)) ∧ w = w' := by
  obtain ⟨n, rfl⟩ := Int.eq_ofNat_of_zero_le h0
  rw [Int.toNat_natCast]
  go_enter Tryd.func118, Tryd.ntmps118
  go_wp2
  go_loop [3, 4] (fun p i => ∃ k : Nat, k ≤ n ∧ i = .int .i64 k ∧ p = .int .u64 (p2 k)) (fun _ i => n - (intOf i).toNat)
  case atStart => exact ⟨0, Nat.zero_le _, rfl, rfl⟩
  case round =>
    obtain ⟨k, hk, rfl, rfl⟩ := hrel
    by_cases hlt : k < n
    · have hs := p2_le62 k (by omega)
      have hp := p2_pos k
      have H := Lib.hid (p2_succ k)
      go_wp2
      go_round
      case rel => exact ⟨k + 1, by omega, by go_num, by rw [H.out]⟩
      case measure => simp [intOf]; omega
    · have hkn : k = n := by omega
      subst hkn
      go_wp2
      go_ret
      exact ⟨rfl, rfl⟩

set_option linter.unusedSimpArgs false
end Go.Proofs.YtcbliliinmfnjaaDoor.Ser

end
section
set_option linter.unusedVariables false
set_option linter.unusedSimpArgs false
namespace Go.Proofs.YtcbliliinmfnjaaDoor.Chm
open Go.RowKit Mem Base

theorem rpow_any (k : Nat) (w : World) (hk : k < 64) :
    Calls Tryd.prog 118 #[.int .i64 k] w fun e w' => e = .returned (.int .u64 ((2 ^ k : Nat) : Int)) ∧ w = w' := by
  have h := Ser.power_any (k : Int) w (by omega) (by omega)
  rw [Int.toNat_natCast] at h
  have e : Ser.p2 k = ((2 ^ k : Nat) : Int) := by unfold Ser.p2; simp
  rw [e] at h
  exact h
theorem rhas_any (m : Nat) (c : Int) (w : World) (hm : m ≤ 18446744073709551615) :
    Calls Tryd.prog 144 #[.int .u64 m, .int .i64 c] w fun e w' => e = .returned (.bool (hasZ m c)) ∧ w = w' := by
  by_cases h0 : 0 ≤ c
  · by_cases h1 : c < 37
    · obtain ⟨n, rfl⟩ := Int.eq_ofNat_of_zero_le h0
      have hn : n < 37 := by omega
      have hs := Lib.hid fun w => rpow_any n w (by omega)
      have hp := pow_le n (by omega)
      have hpos : 0 < 2 ^ n := Nat.pow_pos (by decide)
      have ht : hasZ m (n : Int) = decide (m / 2 ^ n % 2 = 1) := by
        rw [hasZ_nat]; unfold hasN
        rw [decide_eq_true hn, Bool.true_and, Nat.testBit_eq_decide_div_mod_eq]
      rw [ht]
      have hq := Nat.div_le_self m (2 ^ n)
      have e1 : (m : Int).tdiv ((2 ^ n : Nat) : Int) = ((m / 2 ^ n : Nat) : Int) := rfl
      have e2 : ((m : Int) / ((2 ^ n : Nat) : Int)) = ((m / 2 ^ n : Nat) : Int) := rfl
      have hne : (((2 ^ n : Nat) : Int) == 0) = false := by
        generalize 2 ^ n = q at hpos
        simp; omega
      have hne2 : ¬ ((2 ^ n : Nat) : Int) = 0 := by
        generalize 2 ^ n = q at hpos
        omega
      generalize m / 2 ^ n = Q at *
      clear hp ht
      generalize ((2 ^ n : Nat) : Int) = P at *
      go_enter Tryd.func144, Tryd.ntmps144
      go_wp2_with (go_at_call 118; refine (hs.out _).mono ?_; rintro e w' ⟨rfl, rfl⟩)
      go_ret
      refine ⟨Ser.ret_bool ?_, rfl⟩
      rw [Bool.eq_iff_iff]; simp; omega
    · rw [show hasZ m c = false by have : ¬ c.toNat < 37 := by omega
                                   simp [hasZ, hasN, this]]
      go_enter Tryd.func144, Tryd.ntmps144
      go_wp2
      go_ret
      exact ⟨rfl, rfl⟩
  · rw [show hasZ m c = false by simp [hasZ, h0]]
    go_enter Tryd.func144, Tryd.ntmps144
    go_wp2
    go_ret
    exact ⟨rfl, rfl⟩
theorem grown_below {w W w1 : World} {base : Nat} {e : TypeId} {size n : Nat} {v : Value} {xs : List Value} {o : Obj} (hB : Below base w W) (hrow : W.ownsRow base e size v n xs) (hg : (W.alloc o).grownBy w1 v.ownBlock) (hb : base ≤ w.heap.size := by omega) : Below base w w1 :=
  (hB.alloc (Nat.le_trans hb hB.size) _).grown hg (by have := hB.size; simp; omega) (fun j ej => by
    rcases hrow.2 with ⟨rfl, _⟩ | ⟨g, cap, cur, rfl, hb, _, _⟩
    · simp [Value.ownBlock] at ej
    · obtain rfl : g = j := by simpa [Value.ownBlock] using ej
      exact hb)
theorem rhas_to {m : Nat} {c : Nat} {b : Bool} (hm : m ≤ 18446744073709551615) (hb : hasN m c = b) (w : World) :
    Calls Tryd.prog 144 #[.int .u64 m, .int .i64 c] w fun e w' => e = .returned (.bool b) ∧ w = w' := by
  rw [← hb, ← hasZ_nat]; exact rhas_any m c w hm
set_option maxRecDepth 100000 in
set_option maxHeartbeats 1000000 in
theorem rlist_any (m : Nat) (w : World) (hm : m ≤ 18446744073709551615) :
    Calls Tryd.prog 136 #[.int .u64 m] w fun e w' => MakesI w w' e (zs (chans m)) := by
  obtain ⟨i0, hi, hz0, hz1, hz2⟩ := info_parts info_int
  go_enter Tryd.func136, Tryd.ntmps136
  go_wp2
  have own0 : (w.alloc (.cells #[] 3)).ownsRow w.heap.size 3 1 (.slice (some ⟨w.heap.size, 0, none⟩) 0 0) 0 [] := World.ownsRow_made _ _ 0 (Nat.le_refl _) (by unfold maxLen; omega) rfl
  have B0 : Below w.heap.size w (w.alloc (.cells #[] 3)) := (Below.refl _ _).alloc (Nat.le_refl _) _
  go_loopw [3, 4] (fun s3 s4 wr => ∃ k : Nat, k ≤ 37 ∧ s4 = .int .i64 (k : Nat) ∧ wr.ownsRow w.heap.size 3 1 s3 (zs (chb m k)).length ((zs (chb m k)).map (Value.int .i64)) ∧ Below w.heap.size w wr) (fun _ s4 _ => 37 - (intOf s4).toNat)
  case atStart => exact ⟨0, by omega, rfl, own0, B0⟩
  case round =>
    obtain ⟨k, hk, rfl, hrow, hB⟩ := hrel
    by_cases h1 : k < 37
    · by_cases hb : hasN m k = true
      · have HH := Lib.hid (rhas_to hm hb)
        have HS : Hid (zs (chb m (k + 1)) = zs (chb m k) ++ [(k : Int)]) := Lib.hid (by rw [chb_yes hb, zs_snoc])
        have hl := zs_len (chb m k)
        have hl2 := chb_len m k
        clear hb
        generalize zs (chb m k) = F at *
        obtain ⟨q, hq⟩ : ∃ q, F.length = q := ⟨_, rfl⟩
        rw [hq] at hrow hl
        have HQ := Lib.hid hq
        clear hq
        go_wp2_with (first
          | (go_at_call 144; refine (HH.out _).mono ?_; rintro e w' ⟨rfl, rfl⟩)
          | (at_builtin; refine wpList_append_own _ rfl _ _ 157 rfl w.heap.size 3 i0 _ 1 8 Tryd.underlying157 hi hz0 hz1 hz2 rfl (by decide) _ _ _ rfl (hrow.alloc _) ⟨wr.heap.size, 0, none⟩ 1 1 [.int .i64 (k : Nat)] rfl rfl (cell_one_new _ _ _) (by simp [Value.oneCell']) (by unfold maxLen; omega) (by omega) (by have := hB.size; simp; omega) ?_; intro v' w1 hown' hgrow _))
        have B1 := grown_below hB hrow hgrow
        go_roundw
        case rel => exact ⟨k + 1, by omega, by go_num, by rw [HS.out, List.length_append, HQ.out, List.map_append]; exact hown', B1⟩
        case measure => simp [intOf]; omega
      · have hb' : hasN m k = false := by simpa using hb
        have HH := Lib.hid (rhas_to hm hb')
        have HS : Hid (chb m (k + 1) = chb m k) := Lib.hid (chb_no hb')
        clear hb hb'
        go_wp2_with (go_at_call 144; refine (HH.out _).mono ?_; rintro e w' ⟨rfl, rfl⟩)
        go_roundw
        case rel => exact ⟨k + 1, by omega, by go_num, by rw [HS.out]; exact hrow, hB⟩
        case measure => simp [intOf]; omega
    · obtain rfl : k = 37 := by omega
      go_wp2
      go_ret
      exact makesI_of rfl rfl hrow hB
theorem rcount_any (m : Nat) (w : World) (hm : m ≤ 18446744073709551615) :
    Calls Tryd.prog 119 #[.int .u64 m] w fun e w' => e = .returned (.int .i64 ((chans m).length : Nat)) ∧ Below w.heap.size w w' := by
  have HL : Hid (∀ w, Calls Tryd.prog 136 #[.int .u64 m] w fun e w' => ∃ A c, e = .returned (.slice A (chans m).length c) ∧ Ints .i64 w' w'.heap.size A (zs (chans m)) ∧ Below w.heap.size w w') := Lib.hid fun w =>
    (rlist_any m w hm).mono fun e w' h => by
      obtain ⟨A, c, he, _, hi, hb⟩ := h.read (zs_len (chans m))
      exact ⟨A, c, he, hi, hb⟩
  generalize (chans m).length = L at *
  go_enter Tryd.func119, Tryd.ntmps119
  go_wp2_with (go_at_call 136; refine (HL.out _).mono ?_; rintro e w1 ⟨A, c, rfl, _, hb⟩)
  go_ret
  exact ⟨rfl, hb⟩
set_option maxRecDepth 100000 in
theorem rcheck_any (m : Nat) (w : World) (hm : m ≤ 18446744073709551615) :
    Calls Tryd.prog 101 #[.int .u64 m] w fun e w' => e = .returned (.int .i64 (okM m)) ∧ Below w.heap.size w w' := by
  have HC := Lib.hid fun w => rcount_any m w hm
  have HP : Hid (∀ w, Calls Tryd.prog 118 #[.int .i64 37] w fun e w' => e = .returned (.int .u64 137438953472) ∧ w = w') := Lib.hid fun w => rpow_any 37 w (by decide)
  have hrz : okM m = if 137438953472 ≤ m then 5 else if (chans m).length < 2 then 1 else 0 := rfl
  rw [hrz]
  clear hrz
  obtain ⟨k, hk⟩ : ∃ k, (chans m).length = k := ⟨_, rfl⟩
  rw [hk] at HC ⊢
  clear hk
  by_cases h0 : 137438953472 ≤ m
  · rw [if_pos h0]
    have q0 : decide ((137438953472 : Int) ≤ (m : Int)) = true := decide_eq_true (by omega)
    clear h0
    go_enter Tryd.func101, Tryd.ntmps101
    go_wp2_with (go_at_call 118; refine (HP.out _).mono ?_; rintro e w' ⟨rfl, rfl⟩)
    go_ret
    exact ⟨rfl, Below.refl _ _⟩
  · rw [if_neg h0]
    have q0 : decide ((137438953472 : Int) ≤ (m : Int)) = false := decide_eq_false (by omega)
    clear h0
    by_cases h2 : k < 2
    · rw [if_pos h2]
      go_enter Tryd.func101, Tryd.ntmps101
      go_wp2_with (first
        | (go_at_call 118; refine (HP.out _).mono ?_; rintro e w' ⟨rfl, rfl⟩)
        | (go_at_call 119; refine (HC.out _).mono ?_; rintro e w1 ⟨rfl, b1⟩))
      go_ret
      exact ⟨rfl, b1⟩
    · rw [if_neg h2]
      go_enter Tryd.func101, Tryd.ntmps101
      go_wp2_with (first
        | (go_at_call 118; refine (HP.out _).mono ?_; rintro e w' ⟨rfl, rfl⟩)
        | (go_at_call 119; refine (HC.out _).mono ?_; rintro e w1 ⟨rfl, b1⟩))
      go_ret
      exact ⟨rfl, b1⟩
end Go.Proofs.YtcbliliinmfnjaaDoor.Chm

end
section
set_option linter.unusedVariables false
set_option linter.unusedSimpArgs false
namespace Go.Proofs.YtcbliliinmfnjaaDoor.Cn
open Go.RowKit Mem Clk

set_option maxHeartbeats 4000000 in
theorem rcheck_any (a b s o i l t h d g : Int) (m : Nat) (w : World) (hm : m ≤ 18446744073709551615) :
    Calls Tryd.prog 79 #[.agg (par a b s o i l t m h d g)] w fun e w' => e = .returned (.int .i64 (okP a b s o i l t m h d g)) ∧ Below w.heap.size w w' := by
  have F0 : Mem.Blk (w.alloc (.cells #[.int .u32 a, .int .u32 b, .int .i64 s, .int .i64 o, .int .i64 i, .int .i64 l, .int .i64 t, .int .u64 (m : Int), .int .i64 h, .int .i64 d, .int .i64 g] 50)) w.heap.size 50 _ := Blk.fresh w _ _
  have hbel : Below w.heap.size w (w.alloc (.cells #[.int .u32 a, .int .u32 b, .int .i64 s, .int .i64 o, .int .i64 i, .int .i64 l, .int .i64 t, .int .u64 (m : Int), .int .i64 h, .int .i64 d, .int .i64 g] 50)) := (Below.refl _ w).alloc (Nat.le_refl _) _
  have HU := Lib.hid (rcheckUpdate_any s o i l t)
  have HM := Lib.hid fun w => Chm.rcheck_any m w hm
  obtain ⟨D1, d1⟩ : ∃ D, decide (5 ≤ h ∧ h ≤ 16) = D := ⟨_, rfl⟩
  obtain ⟨D2, d2⟩ : ∃ D, decide (0 ≤ d ∧ d ≤ 500) = D := ⟨_, rfl⟩
  have HW1 := Lib.hid (rwithin_to d1)
  have HW2 := Lib.hid (rwithin_to d2)
  obtain ⟨R, hR⟩ : ∃ R, okP a b s o i l t m h d g = R := ⟨_, rfl⟩
  rw [hR]
  unfold okP at hR
  generalize okU s o i l t = U at *
  generalize Chm.okM m = M at *
  clear hm
  by_cases a1 : a = 0
  · have q1 : (a == 0) = true := by simpa using a1
    rw [if_pos (.inl a1)] at hR
    subst hR
    clear a1 d1 d2
    go_enter Tryd.func79, Tryd.ntmps79
    go_wp2_with fail
    generalize w.alloc (.cells #[.int .u32 a, .int .u32 b, .int .i64 s, .int .i64 o, .int .i64 i, .int .i64 l, .int .i64 t, .int .u64 (m : Int), .int .i64 h, .int .i64 d, .int .i64 g] 50) = W at *
    have T := elv_of F0
    obtain ⟨c0, c1, c2, c3, c4, c5, c6, c7, c8, c9, c10⟩ := elv_of F0
    clear F0
    go_wp2_with (first
      | (go_at_call 100; refine (HU.out _).mono ?_; rintro e w1 ⟨rfl, b1⟩; have B1 := thenB hbel b1; have T1 := elv_below T b1; have h7 := T1.2.2.2.2.2.2.2.1; have h8 := T1.2.2.2.2.2.2.2.2.1; have h9 := T1.2.2.2.2.2.2.2.2.2.1; have h10 := T1.2.2.2.2.2.2.2.2.2.2)
      | (go_at_call 101; refine (HM.out _).mono ?_; rintro e w2 ⟨rfl, b2⟩; have B2 := thenB B1 b2; have T2 := elv_below T1 b2; have k8 := T2.2.2.2.2.2.2.2.2.1; have k9 := T2.2.2.2.2.2.2.2.2.2.1; have k10 := T2.2.2.2.2.2.2.2.2.2.2)
      | (go_at_call_of 102 h; refine (HW1.out _).mono ?_; rintro e w3 ⟨rfl, rfl⟩)
      | (go_at_call_of 102 d; refine (HW2.out _).mono ?_; rintro e w3 ⟨rfl, rfl⟩))
    go_ret
    exact ⟨rfl, hbel⟩
  have q1 : (a == 0) = false := by simpa using a1
  by_cases a2 : a = 2391391958
  · have q2 : (a == 2391391958) = true := by simpa using a2
    rw [if_pos (.inr a2)] at hR
    subst hR
    clear a1 a2 d1 d2
    go_enter Tryd.func79, Tryd.ntmps79
    go_wp2_with fail
    generalize w.alloc (.cells #[.int .u32 a, .int .u32 b, .int .i64 s, .int .i64 o, .int .i64 i, .int .i64 l, .int .i64 t, .int .u64 (m : Int), .int .i64 h, .int .i64 d, .int .i64 g] 50) = W at *
    have T := elv_of F0
    obtain ⟨c0, c1, c2, c3, c4, c5, c6, c7, c8, c9, c10⟩ := elv_of F0
    clear F0
    go_wp2_with (first
      | (go_at_call 100; refine (HU.out _).mono ?_; rintro e w1 ⟨rfl, b1⟩; have B1 := thenB hbel b1; have T1 := elv_below T b1; have h7 := T1.2.2.2.2.2.2.2.1; have h8 := T1.2.2.2.2.2.2.2.2.1; have h9 := T1.2.2.2.2.2.2.2.2.2.1; have h10 := T1.2.2.2.2.2.2.2.2.2.2)
      | (go_at_call 101; refine (HM.out _).mono ?_; rintro e w2 ⟨rfl, b2⟩; have B2 := thenB B1 b2; have T2 := elv_below T1 b2; have k8 := T2.2.2.2.2.2.2.2.2.1; have k9 := T2.2.2.2.2.2.2.2.2.2.1; have k10 := T2.2.2.2.2.2.2.2.2.2.2)
      | (go_at_call_of 102 h; refine (HW1.out _).mono ?_; rintro e w3 ⟨rfl, rfl⟩)
      | (go_at_call_of 102 d; refine (HW2.out _).mono ?_; rintro e w3 ⟨rfl, rfl⟩))
    go_ret
    exact ⟨rfl, hbel⟩
  have q2 : (a == 2391391958) = false := by simpa using a2
  rw [if_neg (by simp [a1, a2])] at hR
  clear a1 a2
  by_cases a3 : 16777216 ≤ b
  · have q3 : decide (16777216 ≤ b) = true := decide_eq_true a3
    rw [if_pos a3] at hR
    subst hR
    clear a3 d1 d2
    go_enter Tryd.func79, Tryd.ntmps79
    go_wp2_with fail
    generalize w.alloc (.cells #[.int .u32 a, .int .u32 b, .int .i64 s, .int .i64 o, .int .i64 i, .int .i64 l, .int .i64 t, .int .u64 (m : Int), .int .i64 h, .int .i64 d, .int .i64 g] 50) = W at *
    have T := elv_of F0
    obtain ⟨c0, c1, c2, c3, c4, c5, c6, c7, c8, c9, c10⟩ := elv_of F0
    clear F0
    go_wp2_with (first
      | (go_at_call 100; refine (HU.out _).mono ?_; rintro e w1 ⟨rfl, b1⟩; have B1 := thenB hbel b1; have T1 := elv_below T b1; have h7 := T1.2.2.2.2.2.2.2.1; have h8 := T1.2.2.2.2.2.2.2.2.1; have h9 := T1.2.2.2.2.2.2.2.2.2.1; have h10 := T1.2.2.2.2.2.2.2.2.2.2)
      | (go_at_call 101; refine (HM.out _).mono ?_; rintro e w2 ⟨rfl, b2⟩; have B2 := thenB B1 b2; have T2 := elv_below T1 b2; have k8 := T2.2.2.2.2.2.2.2.2.1; have k9 := T2.2.2.2.2.2.2.2.2.2.1; have k10 := T2.2.2.2.2.2.2.2.2.2.2)
      | (go_at_call_of 102 h; refine (HW1.out _).mono ?_; rintro e w3 ⟨rfl, rfl⟩)
      | (go_at_call_of 102 d; refine (HW2.out _).mono ?_; rintro e w3 ⟨rfl, rfl⟩))
    go_ret
    exact ⟨rfl, hbel⟩
  have q3 : decide (16777216 ≤ b) = false := decide_eq_false a3
  rw [if_neg a3] at hR
  clear a3
  by_cases a4 : U = 0
  · rw [if_neg (by simpa using a4)] at hR
    have q4 : (U != 0) = false := by simp [a4]
    clear a4
    by_cases a5 : M = 0
    · rw [if_neg (by simpa using a5)] at hR
      have q5 : (M != 0) = false := by simp [a5]
      clear a5
      cases D1
      · rw [if_neg (fun k => (of_decide_eq_false d1) k.1)] at hR
        subst hR
        clear d1 d2
        go_enter Tryd.func79, Tryd.ntmps79
        go_wp2_with fail
        generalize w.alloc (.cells #[.int .u32 a, .int .u32 b, .int .i64 s, .int .i64 o, .int .i64 i, .int .i64 l, .int .i64 t, .int .u64 (m : Int), .int .i64 h, .int .i64 d, .int .i64 g] 50) = W at *
        have T := elv_of F0
        obtain ⟨c0, c1, c2, c3, c4, c5, c6, c7, c8, c9, c10⟩ := elv_of F0
        clear F0
        go_wp2_with (first
          | (go_at_call 100; refine (HU.out _).mono ?_; rintro e w1 ⟨rfl, b1⟩; have B1 := thenB hbel b1; have T1 := elv_below T b1; have h7 := T1.2.2.2.2.2.2.2.1; have h8 := T1.2.2.2.2.2.2.2.2.1; have h9 := T1.2.2.2.2.2.2.2.2.2.1; have h10 := T1.2.2.2.2.2.2.2.2.2.2)
          | (go_at_call 101; refine (HM.out _).mono ?_; rintro e w2 ⟨rfl, b2⟩; have B2 := thenB B1 b2; have T2 := elv_below T1 b2; have k8 := T2.2.2.2.2.2.2.2.2.1; have k9 := T2.2.2.2.2.2.2.2.2.2.1; have k10 := T2.2.2.2.2.2.2.2.2.2.2)
          | (go_at_call_of 102 h; refine (HW1.out _).mono ?_; rintro e w3 ⟨rfl, rfl⟩)
          | (go_at_call_of 102 d; refine (HW2.out _).mono ?_; rintro e w3 ⟨rfl, rfl⟩))
        go_ret
        exact ⟨rfl, B2⟩
      · cases D2
        · rw [if_neg (fun k => (of_decide_eq_false d2) k.2)] at hR
          subst hR
          clear d1 d2
          go_enter Tryd.func79, Tryd.ntmps79
          go_wp2_with fail
          generalize w.alloc (.cells #[.int .u32 a, .int .u32 b, .int .i64 s, .int .i64 o, .int .i64 i, .int .i64 l, .int .i64 t, .int .u64 (m : Int), .int .i64 h, .int .i64 d, .int .i64 g] 50) = W at *
          have T := elv_of F0
          obtain ⟨c0, c1, c2, c3, c4, c5, c6, c7, c8, c9, c10⟩ := elv_of F0
          clear F0
          go_wp2_with (first
            | (go_at_call 100; refine (HU.out _).mono ?_; rintro e w1 ⟨rfl, b1⟩; have B1 := thenB hbel b1; have T1 := elv_below T b1; have h7 := T1.2.2.2.2.2.2.2.1; have h8 := T1.2.2.2.2.2.2.2.2.1; have h9 := T1.2.2.2.2.2.2.2.2.2.1; have h10 := T1.2.2.2.2.2.2.2.2.2.2)
            | (go_at_call 101; refine (HM.out _).mono ?_; rintro e w2 ⟨rfl, b2⟩; have B2 := thenB B1 b2; have T2 := elv_below T1 b2; have k8 := T2.2.2.2.2.2.2.2.2.1; have k9 := T2.2.2.2.2.2.2.2.2.2.1; have k10 := T2.2.2.2.2.2.2.2.2.2.2)
            | (go_at_call_of 102 h; refine (HW1.out _).mono ?_; rintro e w3 ⟨rfl, rfl⟩)
            | (go_at_call_of 102 d; refine (HW2.out _).mono ?_; rintro e w3 ⟨rfl, rfl⟩))
          go_ret
          exact ⟨rfl, B2⟩
        · rw [if_pos ⟨of_decide_eq_true d1, of_decide_eq_true d2⟩] at hR
          clear d1 d2
          by_cases g1 : g = 1
          · have q6 : (g != 1) = false := by simp [g1]
            rw [if_pos (.inl g1)] at hR
            subst hR
            clear g1
            go_enter Tryd.func79, Tryd.ntmps79
            go_wp2_with fail
            generalize w.alloc (.cells #[.int .u32 a, .int .u32 b, .int .i64 s, .int .i64 o, .int .i64 i, .int .i64 l, .int .i64 t, .int .u64 (m : Int), .int .i64 h, .int .i64 d, .int .i64 g] 50) = W at *
            have T := elv_of F0
            obtain ⟨c0, c1, c2, c3, c4, c5, c6, c7, c8, c9, c10⟩ := elv_of F0
            clear F0
            go_wp2_with (first
              | (go_at_call 100; refine (HU.out _).mono ?_; rintro e w1 ⟨rfl, b1⟩; have B1 := thenB hbel b1; have T1 := elv_below T b1; have h7 := T1.2.2.2.2.2.2.2.1; have h8 := T1.2.2.2.2.2.2.2.2.1; have h9 := T1.2.2.2.2.2.2.2.2.2.1; have h10 := T1.2.2.2.2.2.2.2.2.2.2)
              | (go_at_call 101; refine (HM.out _).mono ?_; rintro e w2 ⟨rfl, b2⟩; have B2 := thenB B1 b2; have T2 := elv_below T1 b2; have k8 := T2.2.2.2.2.2.2.2.2.1; have k9 := T2.2.2.2.2.2.2.2.2.2.1; have k10 := T2.2.2.2.2.2.2.2.2.2.2)
              | (go_at_call_of 102 h; refine (HW1.out _).mono ?_; rintro e w3 ⟨rfl, rfl⟩)
              | (go_at_call_of 102 d; refine (HW2.out _).mono ?_; rintro e w3 ⟨rfl, rfl⟩))
            go_ret
            exact ⟨rfl, B2⟩
          have q6 : (g != 1) = true := by simp [g1]
          by_cases g2 : g = 2
          · have q7 : (g != 2) = false := by simp [g2]
            rw [if_pos (.inr g2)] at hR
            subst hR
            clear g1 g2
            go_enter Tryd.func79, Tryd.ntmps79
            go_wp2_with fail
            generalize w.alloc (.cells #[.int .u32 a, .int .u32 b, .int .i64 s, .int .i64 o, .int .i64 i, .int .i64 l, .int .i64 t, .int .u64 (m : Int), .int .i64 h, .int .i64 d, .int .i64 g] 50) = W at *
            have T := elv_of F0
            obtain ⟨c0, c1, c2, c3, c4, c5, c6, c7, c8, c9, c10⟩ := elv_of F0
            clear F0
            go_wp2_with (first
              | (go_at_call 100; refine (HU.out _).mono ?_; rintro e w1 ⟨rfl, b1⟩; have B1 := thenB hbel b1; have T1 := elv_below T b1; have h7 := T1.2.2.2.2.2.2.2.1; have h8 := T1.2.2.2.2.2.2.2.2.1; have h9 := T1.2.2.2.2.2.2.2.2.2.1; have h10 := T1.2.2.2.2.2.2.2.2.2.2)
              | (go_at_call 101; refine (HM.out _).mono ?_; rintro e w2 ⟨rfl, b2⟩; have B2 := thenB B1 b2; have T2 := elv_below T1 b2; have k8 := T2.2.2.2.2.2.2.2.2.1; have k9 := T2.2.2.2.2.2.2.2.2.2.1; have k10 := T2.2.2.2.2.2.2.2.2.2.2)
              | (go_at_call_of 102 h; refine (HW1.out _).mono ?_; rintro e w3 ⟨rfl, rfl⟩)
              | (go_at_call_of 102 d; refine (HW2.out _).mono ?_; rintro e w3 ⟨rfl, rfl⟩))
            go_ret
            exact ⟨rfl, B2⟩
          have q7 : (g != 2) = true := by simp [g2]
          rw [if_neg (by simp [g1, g2])] at hR
          subst hR
          clear g1 g2
          go_enter Tryd.func79, Tryd.ntmps79
          go_wp2_with fail
          generalize w.alloc (.cells #[.int .u32 a, .int .u32 b, .int .i64 s, .int .i64 o, .int .i64 i, .int .i64 l, .int .i64 t, .int .u64 (m : Int), .int .i64 h, .int .i64 d, .int .i64 g] 50) = W at *
          have T := elv_of F0
          obtain ⟨c0, c1, c2, c3, c4, c5, c6, c7, c8, c9, c10⟩ := elv_of F0
          clear F0
          go_wp2_with (first
            | (go_at_call 100; refine (HU.out _).mono ?_; rintro e w1 ⟨rfl, b1⟩; have B1 := thenB hbel b1; have T1 := elv_below T b1; have h7 := T1.2.2.2.2.2.2.2.1; have h8 := T1.2.2.2.2.2.2.2.2.1; have h9 := T1.2.2.2.2.2.2.2.2.2.1; have h10 := T1.2.2.2.2.2.2.2.2.2.2)
            | (go_at_call 101; refine (HM.out _).mono ?_; rintro e w2 ⟨rfl, b2⟩; have B2 := thenB B1 b2; have T2 := elv_below T1 b2; have k8 := T2.2.2.2.2.2.2.2.2.1; have k9 := T2.2.2.2.2.2.2.2.2.2.1; have k10 := T2.2.2.2.2.2.2.2.2.2.2)
            | (go_at_call_of 102 h; refine (HW1.out _).mono ?_; rintro e w3 ⟨rfl, rfl⟩)
            | (go_at_call_of 102 d; refine (HW2.out _).mono ?_; rintro e w3 ⟨rfl, rfl⟩))
          go_ret
          exact ⟨rfl, B2⟩
    · rw [if_pos a5] at hR
      subst hR
      have q5 : (M != 0) = true := by simp [a5]
      clear a5 d1 d2
      go_enter Tryd.func79, Tryd.ntmps79
      go_wp2_with fail
      generalize w.alloc (.cells #[.int .u32 a, .int .u32 b, .int .i64 s, .int .i64 o, .int .i64 i, .int .i64 l, .int .i64 t, .int .u64 (m : Int), .int .i64 h, .int .i64 d, .int .i64 g] 50) = W at *
      have T := elv_of F0
      obtain ⟨c0, c1, c2, c3, c4, c5, c6, c7, c8, c9, c10⟩ := elv_of F0
      clear F0
      go_wp2_with (first
        | (go_at_call 100; refine (HU.out _).mono ?_; rintro e w1 ⟨rfl, b1⟩; have B1 := thenB hbel b1; have T1 := elv_below T b1; have h7 := T1.2.2.2.2.2.2.2.1; have h8 := T1.2.2.2.2.2.2.2.2.1; have h9 := T1.2.2.2.2.2.2.2.2.2.1; have h10 := T1.2.2.2.2.2.2.2.2.2.2)
        | (go_at_call 101; refine (HM.out _).mono ?_; rintro e w2 ⟨rfl, b2⟩; have B2 := thenB B1 b2; have T2 := elv_below T1 b2; have k8 := T2.2.2.2.2.2.2.2.2.1; have k9 := T2.2.2.2.2.2.2.2.2.2.1; have k10 := T2.2.2.2.2.2.2.2.2.2.2)
        | (go_at_call_of 102 h; refine (HW1.out _).mono ?_; rintro e w3 ⟨rfl, rfl⟩)
        | (go_at_call_of 102 d; refine (HW2.out _).mono ?_; rintro e w3 ⟨rfl, rfl⟩))
      go_ret
      exact ⟨rfl, B2⟩
  · rw [if_pos a4] at hR
    subst hR
    have q4 : (U != 0) = true := by simp [a4]
    clear a4 d1 d2
    go_enter Tryd.func79, Tryd.ntmps79
    go_wp2_with fail
    generalize w.alloc (.cells #[.int .u32 a, .int .u32 b, .int .i64 s, .int .i64 o, .int .i64 i, .int .i64 l, .int .i64 t, .int .u64 (m : Int), .int .i64 h, .int .i64 d, .int .i64 g] 50) = W at *
    have T := elv_of F0
    obtain ⟨c0, c1, c2, c3, c4, c5, c6, c7, c8, c9, c10⟩ := elv_of F0
    clear F0
    go_wp2_with (first
      | (go_at_call 100; refine (HU.out _).mono ?_; rintro e w1 ⟨rfl, b1⟩; have B1 := thenB hbel b1; have T1 := elv_below T b1; have h7 := T1.2.2.2.2.2.2.2.1; have h8 := T1.2.2.2.2.2.2.2.2.1; have h9 := T1.2.2.2.2.2.2.2.2.2.1; have h10 := T1.2.2.2.2.2.2.2.2.2.2)
      | (go_at_call 101; refine (HM.out _).mono ?_; rintro e w2 ⟨rfl, b2⟩; have B2 := thenB B1 b2; have T2 := elv_below T1 b2; have k8 := T2.2.2.2.2.2.2.2.2.1; have k9 := T2.2.2.2.2.2.2.2.2.2.1; have k10 := T2.2.2.2.2.2.2.2.2.2.2)
      | (go_at_call_of 102 h; refine (HW1.out _).mono ?_; rintro e w3 ⟨rfl, rfl⟩)
      | (go_at_call_of 102 d; refine (HW2.out _).mono ?_; rintro e w3 ⟨rfl, rfl⟩))
    go_ret
    exact ⟨rfl, B1⟩
end Go.Proofs.YtcbliliinmfnjaaDoor.Cn

end
