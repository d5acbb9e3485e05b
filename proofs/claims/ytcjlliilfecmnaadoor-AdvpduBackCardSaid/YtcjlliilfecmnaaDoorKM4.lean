/- What each function of the layer of wrapping counters, and of its specification, returns: contracts over the program. What the document's functions return on one channel, and of the list of a map: contracts over the program. Whether parameters are valid: the document's function. What each function of the layer of bytes and fields, and of its specification, returns: contracts over the program. Joining parts, cloning bytes, sizes and numbers of bytes: what the functions of the layer of bytes, and of its specification, return: contracts over the program. Hexadecimal text: what the functions of the layer of bytes, and of its specification, return: contracts over the program. Reading hexadecimal text: what the functions of the layer of bytes, and of its specification, return: contracts over the program. -/
import Derived.Test.YtcjlliilfecmnaaDoorProg
import Derived.WalkKit
import Derived.Lib.MinMax
import Derived.Lib.Hide
import Derived.BigQuiet
import Derived.Deep.QuietTactic
import Derived.Test.YtcjlliilfecmnaaDoorKM1
import Derived.Test.YtcjlliilfecmnaaDoorKM3
import Derived.Test.YtcjlliilfecmnaaDoorKCnRUpd
import Derived.WalkSpells
import Derived.StillTailTactics
import Derived.Lib.SliceRun
section
set_option linter.unusedVariables false
namespace Go.Proofs.YtcjlliilfecmnaaDoor.Ser
open Go.RowKit

theorem power_any (b : Int) (w : World) (h0 : 0 ≤ b) (h1 : b ≤ 63) :
    Calls Tryd.prog 70 #[.int .i64 b] w fun e w' => e = .returned (.int .u64 (p2 b.toNat)) ∧ w = w' := by
  obtain ⟨n, rfl⟩ := Int.eq_ofNat_of_zero_le h0
  rw [Int.toNat_natCast]
  go_enter Tryd.func70, Tryd.ntmps70
  go_wp2
  go_loop [3, 4] (fun p i => ∃ k : Nat, k ≤ n ∧ i = .int .i64 k ∧ p = .int .u64 (p2 k)) (fun _ i => n - (intOf i).toNat)
  case atStart => exact ⟨0, Nat.zero_le _, rfl, rfl⟩
  case round =>
    obtain ⟨k, hk, rfl, rfl⟩ := hrel
    by_cases hlt : k < n
    · have hs := p2_le62 k (by omega)
      have hp := p2_pos k
      have H := Lib.hid (p2_succ k)
      go_wp2
      go_round
      case rel => exact ⟨k + 1, by omega, by go_num, by rw [H.out]⟩
      case measure => simp [intOf]; omega
    · have hkn : k = n := by omega
      subst hkn
      go_wp2
      go_ret
      exact ⟨rfl, rfl⟩

theorem rlow_any (n b : Int) (w : World) (h0 : 0 ≤ n) (h1 : n ≤ 18446744073709551615) (hb : -9223372036854775808 ≤ b ∧ b ≤ 9223372036854775807) :
    Calls Tryd.prog 73 #[.int .u64 n, .int .i64 b] w fun e w' => e = .returned (.int .u64 (lowZ n b)) ∧ w = w' := by
  by_cases h2 : b < 0
  · have H := Lib.hid (low_neg n b h2)
    go_enter Tryd.func73, Tryd.ntmps73
    go_wp2_with fail
    go_ret
    exact ⟨ret_int H.out.symm, rfl⟩
  · by_cases h3 : 63 < b
    · have H := Lib.hid (low_all n b h3 h0 h1)
      go_enter Tryd.func73, Tryd.ntmps73
      go_wp2_with fail
      go_ret
      exact ⟨ret_int H.out.symm, rfl⟩
    · have H := Lib.hid (low_mid n b (by omega) (by omega))
      have hp := p2_pos b.toNat
      have hnz : (p2 b.toNat == 0) = false := by simp; omega
      go_enter Tryd.func73, Tryd.ntmps73
      go_wp2_with (go_at_call 70; refine (power_any _ _ (by omega) (by omega)).mono ?_; rintro e w' ⟨rfl, rfl⟩)
      go_ret
      exact ⟨ret_int H.out.symm, rfl⟩
set_option linter.unusedSimpArgs false
end Go.Proofs.YtcjlliilfecmnaaDoor.Ser

end
section
set_option linter.unusedVariables false
set_option linter.unusedSimpArgs false
namespace Go.Proofs.YtcjlliilfecmnaaDoor.Chm
open Go.RowKit Mem Base

theorem rpow_any (k : Nat) (w : World) (hk : k < 64) :
    Calls Tryd.prog 70 #[.int .i64 k] w fun e w' => e = .returned (.int .u64 ((2 ^ k : Nat) : Int)) ∧ w = w' := by
  have h := Ser.power_any (k : Int) w (by omega) (by omega)
  rw [Int.toNat_natCast] at h
  have e : Ser.p2 k = ((2 ^ k : Nat) : Int) := by unfold Ser.p2; simp
  rw [e] at h
  exact h
theorem rhas_any (m : Nat) (c : Int) (w : World) (hm : m ≤ 18446744073709551615) :
    Calls Tryd.prog 84 #[.int .u64 m, .int .i64 c] w fun e w' => e = .returned (.bool (hasZ m c)) ∧ w = w' := by
  by_cases h0 : 0 ≤ c
  · by_cases h1 : c < 37
    · obtain ⟨n, rfl⟩ := Int.eq_ofNat_of_zero_le h0
      have hn : n < 37 := by omega
      have hs := Lib.hid fun w => rpow_any n w (by omega)
      have hp := pow_le n (by omega)
      have hpos : 0 < 2 ^ n := Nat.pow_pos (by decide)
      have ht : hasZ m (n : Int) = decide (m / 2 ^ n % 2 = 1) := by
        rw [hasZ_nat]; unfold hasN
        rw [decide_eq_true hn, Bool.true_and, Nat.testBit_eq_decide_div_mod_eq]
      rw [ht]
      have hq := Nat.div_le_self m (2 ^ n)
      have e1 : (m : Int).tdiv ((2 ^ n : Nat) : Int) = ((m / 2 ^ n : Nat) : Int) := rfl
      have e2 : ((m : Int) / ((2 ^ n : Nat) : Int)) = ((m / 2 ^ n : Nat) : Int) := rfl
      have hne : (((2 ^ n : Nat) : Int) == 0) = false := by
        generalize 2 ^ n = q at hpos
        simp; omega
      have hne2 : ¬ ((2 ^ n : Nat) : Int) = 0 := by
        generalize 2 ^ n = q at hpos
        omega
      generalize m / 2 ^ n = Q at *
      clear hp ht
      generalize ((2 ^ n : Nat) : Int) = P at *
      go_enter Tryd.func84, Tryd.ntmps84
      go_wp2_with (go_at_call 70; refine (hs.out _).mono ?_; rintro e w' ⟨rfl, rfl⟩)
      go_ret
      refine ⟨Ser.ret_bool ?_, rfl⟩
      rw [Bool.eq_iff_iff]; simp; omega
    · rw [show hasZ m c = false by have : ¬ c.toNat < 37 := by omega
                                   simp [hasZ, hasN, this]]
      go_enter Tryd.func84, Tryd.ntmps84
      go_wp2
      go_ret
      exact ⟨rfl, rfl⟩
  · rw [show hasZ m c = false by simp [hasZ, h0]]
    go_enter Tryd.func84, Tryd.ntmps84
    go_wp2
    go_ret
    exact ⟨rfl, rfl⟩
theorem grown_below {w W w1 : World} {base : Nat} {e : TypeId} {size n : Nat} {v : Value} {xs : List Value} {o : Obj} (hB : Below base w W) (hrow : W.ownsRow base e size v n xs) (hg : (W.alloc o).grownBy w1 v.ownBlock) (hb : base ≤ w.heap.size := by omega) : Below base w w1 :=
  (hB.alloc (Nat.le_trans hb hB.size) _).grown hg (by have := hB.size; simp; omega) (fun j ej => by
    rcases hrow.2 with ⟨rfl, _⟩ | ⟨g, cap, cur, rfl, hb, _, _⟩
    · simp [Value.ownBlock] at ej
    · obtain rfl : g = j := by simpa [Value.ownBlock] using ej
      exact hb)
theorem rhas_to {m : Nat} {c : Nat} {b : Bool} (hm : m ≤ 18446744073709551615) (hb : hasN m c = b) (w : World) :
    Calls Tryd.prog 84 #[.int .u64 m, .int .i64 c] w fun e w' => e = .returned (.bool b) ∧ w = w' := by
  rw [← hb, ← hasZ_nat]; exact rhas_any m c w hm
set_option maxRecDepth 100000 in
set_option maxHeartbeats 1000000 in
theorem rlist_any (m : Nat) (w : World) (hm : m ≤ 18446744073709551615) :
    Calls Tryd.prog 80 #[.int .u64 m] w fun e w' => MakesI w w' e (zs (chans m)) := by
  obtain ⟨i0, hi, hz0, hz1, hz2⟩ := info_parts info_int
  go_enter Tryd.func80, Tryd.ntmps80
  go_wp2
  have own0 : (w.alloc (.cells #[] 3)).ownsRow w.heap.size 3 1 (.slice (some ⟨w.heap.size, 0, none⟩) 0 0) 0 [] := World.ownsRow_made _ _ 0 (Nat.le_refl _) (by unfold maxLen; omega) rfl
  have B0 : Below w.heap.size w (w.alloc (.cells #[] 3)) := (Below.refl _ _).alloc (Nat.le_refl _) _
  go_loopw [3, 4] (fun s3 s4 wr => ∃ k : Nat, k ≤ 37 ∧ s4 = .int .i64 (k : Nat) ∧ wr.ownsRow w.heap.size 3 1 s3 (zs (chb m k)).length ((zs (chb m k)).map (Value.int .i64)) ∧ Below w.heap.size w wr) (fun _ s4 _ => 37 - (intOf s4).toNat)
  case atStart => exact ⟨0, by omega, rfl, own0, B0⟩
  case round =>
    obtain ⟨k, hk, rfl, hrow, hB⟩ := hrel
    by_cases h1 : k < 37
    · by_cases hb : hasN m k = true
      · have HH := Lib.hid (rhas_to hm hb)
        have HS : Hid (zs (chb m (k + 1)) = zs (chb m k) ++ [(k : Int)]) := Lib.hid (by rw [chb_yes hb, zs_snoc])
        have hl := zs_len (chb m k)
        have hl2 := chb_len m k
        clear hb
        generalize zs (chb m k) = F at *
        obtain ⟨q, hq⟩ : ∃ q, F.length = q := ⟨_, rfl⟩
        rw [hq] at hrow hl
        have HQ := Lib.hid hq
        clear hq
        go_wp2_with (first
          | (go_at_call 84; refine (HH.out _).mono ?_; rintro e w' ⟨rfl, rfl⟩)
          | (at_builtin; refine wpList_append_own _ rfl _ _ 86 rfl w.heap.size 3 i0 _ 1 8 Tryd.underlying86 hi hz0 hz1 hz2 rfl (by decide) _ _ _ rfl (hrow.alloc _) ⟨wr.heap.size, 0, none⟩ 1 1 [.int .i64 (k : Nat)] rfl rfl (cell_one_new _ _ _) (by simp [Value.oneCell']) (by unfold maxLen; omega) (by omega) (by have := hB.size; simp; omega) ?_; intro v' w1 hown' hgrow _))
        have B1 := grown_below hB hrow hgrow
        go_roundw
        case rel => exact ⟨k + 1, by omega, by go_num, by rw [HS.out, List.length_append, HQ.out, List.map_append]; exact hown', B1⟩
        case measure => simp [intOf]; omega
      · have hb' : hasN m k = false := by simpa using hb
        have HH := Lib.hid (rhas_to hm hb')
        have HS : Hid (chb m (k + 1) = chb m k) := Lib.hid (chb_no hb')
        clear hb hb'
        go_wp2_with (go_at_call 84; refine (HH.out _).mono ?_; rintro e w' ⟨rfl, rfl⟩)
        go_roundw
        case rel => exact ⟨k + 1, by omega, by go_num, by rw [HS.out]; exact hrow, hB⟩
        case measure => simp [intOf]; omega
    · obtain rfl : k = 37 := by omega
      go_wp2
      go_ret
      exact makesI_of rfl rfl hrow hB
theorem rcount_any (m : Nat) (w : World) (hm : m ≤ 18446744073709551615) :
    Calls Tryd.prog 71 #[.int .u64 m] w fun e w' => e = .returned (.int .i64 ((chans m).length : Nat)) ∧ Below w.heap.size w w' := by
  have HL : Hid (∀ w, Calls Tryd.prog 80 #[.int .u64 m] w fun e w' => ∃ A c, e = .returned (.slice A (chans m).length c) ∧ Ints .i64 w' w'.heap.size A (zs (chans m)) ∧ Below w.heap.size w w') := Lib.hid fun w =>
    (rlist_any m w hm).mono fun e w' h => by
      obtain ⟨A, c, he, _, hi, hb⟩ := h.read (zs_len (chans m))
      exact ⟨A, c, he, hi, hb⟩
  generalize (chans m).length = L at *
  go_enter Tryd.func71, Tryd.ntmps71
  go_wp2_with (go_at_call 80; refine (HL.out _).mono ?_; rintro e w1 ⟨A, c, rfl, _, hb⟩)
  go_ret
  exact ⟨rfl, hb⟩
theorem has_nonempty {m : Nat} {c : Int} (h : hasZ m c = true) : (chans m).length ≠ 0 := by
  simp only [hasZ, Bool.and_eq_true] at h
  have := (chb_at (hasN_lt h.2) h.2).1
  omega
set_option maxRecDepth 100000 in
theorem rcheck_any (m : Nat) (w : World) (hm : m ≤ 18446744073709551615) :
    Calls Tryd.prog 51 #[.int .u64 m] w fun e w' => e = .returned (.int .i64 (okM m)) ∧ Below w.heap.size w w' := by
  have HC := Lib.hid fun w => rcount_any m w hm
  have HP : Hid (∀ w, Calls Tryd.prog 70 #[.int .i64 37] w fun e w' => e = .returned (.int .u64 137438953472) ∧ w = w') := Lib.hid fun w => rpow_any 37 w (by decide)
  have hrz : okM m = if 137438953472 ≤ m then 5 else if (chans m).length < 2 then 1 else 0 := rfl
  rw [hrz]
  clear hrz
  obtain ⟨k, hk⟩ : ∃ k, (chans m).length = k := ⟨_, rfl⟩
  rw [hk] at HC ⊢
  clear hk
  by_cases h0 : 137438953472 ≤ m
  · rw [if_pos h0]
    have q0 : decide ((137438953472 : Int) ≤ (m : Int)) = true := decide_eq_true (by omega)
    clear h0
    go_enter Tryd.func51, Tryd.ntmps51
    go_wp2_with (go_at_call 70; refine (HP.out _).mono ?_; rintro e w' ⟨rfl, rfl⟩)
    go_ret
    exact ⟨rfl, Below.refl _ _⟩
  · rw [if_neg h0]
    have q0 : decide ((137438953472 : Int) ≤ (m : Int)) = false := decide_eq_false (by omega)
    clear h0
    by_cases h2 : k < 2
    · rw [if_pos h2]
      go_enter Tryd.func51, Tryd.ntmps51
      go_wp2_with (first
        | (go_at_call 70; refine (HP.out _).mono ?_; rintro e w' ⟨rfl, rfl⟩)
        | (go_at_call 71; refine (HC.out _).mono ?_; rintro e w1 ⟨rfl, b1⟩))
      go_ret
      exact ⟨rfl, b1⟩
    · rw [if_neg h2]
      go_enter Tryd.func51, Tryd.ntmps51
      go_wp2_with (first
        | (go_at_call 70; refine (HP.out _).mono ?_; rintro e w' ⟨rfl, rfl⟩)
        | (go_at_call 71; refine (HC.out _).mono ?_; rintro e w1 ⟨rfl, b1⟩))
      go_ret
      exact ⟨rfl, b1⟩
end Go.Proofs.YtcjlliilfecmnaaDoor.Chm

end
section
set_option linter.unusedVariables false
set_option linter.unusedSimpArgs false
namespace Go.Proofs.YtcjlliilfecmnaaDoor.Cn
open Go.RowKit Mem Clk

set_option maxHeartbeats 4000000 in
theorem rcheck_any (a b s o i l t h d g : Int) (m : Nat) (w : World) (hm : m ≤ 18446744073709551615) :
    Calls Tryd.prog 33 #[.agg (par a b s o i l t m h d g)] w fun e w' => e = .returned (.int .i64 (okP a b s o i l t m h d g)) ∧ Below w.heap.size w w' := by
  have F0 : Mem.Blk (w.alloc (.cells #[.int .u32 a, .int .u32 b, .int .i64 s, .int .i64 o, .int .i64 i, .int .i64 l, .int .i64 t, .int .u64 (m : Int), .int .i64 h, .int .i64 d, .int .i64 g] 31)) w.heap.size 31 _ := Blk.fresh w _ _
  have hbel : Below w.heap.size w (w.alloc (.cells #[.int .u32 a, .int .u32 b, .int .i64 s, .int .i64 o, .int .i64 i, .int .i64 l, .int .i64 t, .int .u64 (m : Int), .int .i64 h, .int .i64 d, .int .i64 g] 31)) := (Below.refl _ w).alloc (Nat.le_refl _) _
  have HU := Lib.hid (rcheckUpdate_any s o i l t)
  have HM := Lib.hid fun w => Chm.rcheck_any m w hm
  obtain ⟨D1, d1⟩ : ∃ D, decide (5 ≤ h ∧ h ≤ 16) = D := ⟨_, rfl⟩
  obtain ⟨D2, d2⟩ : ∃ D, decide (0 ≤ d ∧ d ≤ 500) = D := ⟨_, rfl⟩
  have HW1 := Lib.hid (rwithin_to d1)
  have HW2 := Lib.hid (rwithin_to d2)
  obtain ⟨R, hR⟩ : ∃ R, okP a b s o i l t m h d g = R := ⟨_, rfl⟩
  rw [hR]
  unfold okP at hR
  generalize okU s o i l t = U at *
  generalize Chm.okM m = M at *
  clear hm
  by_cases a1 : a = 0
  · have q1 : (a == 0) = true := by simpa using a1
    rw [if_pos (.inl a1)] at hR
    subst hR
    clear a1 d1 d2
    go_enter Tryd.func33, Tryd.ntmps33
    go_wp2_with fail
    generalize w.alloc (.cells #[.int .u32 a, .int .u32 b, .int .i64 s, .int .i64 o, .int .i64 i, .int .i64 l, .int .i64 t, .int .u64 (m : Int), .int .i64 h, .int .i64 d, .int .i64 g] 31) = W at *
    have T := elv_of F0
    obtain ⟨c0, c1, c2, c3, c4, c5, c6, c7, c8, c9, c10⟩ := elv_of F0
    clear F0
    go_wp2_with (first
      | (go_at_call 50; refine (HU.out _).mono ?_; rintro e w1 ⟨rfl, b1⟩; have B1 := thenB hbel b1; have T1 := elv_below T b1; have h7 := T1.2.2.2.2.2.2.2.1; have h8 := T1.2.2.2.2.2.2.2.2.1; have h9 := T1.2.2.2.2.2.2.2.2.2.1; have h10 := T1.2.2.2.2.2.2.2.2.2.2)
      | (go_at_call 51; refine (HM.out _).mono ?_; rintro e w2 ⟨rfl, b2⟩; have B2 := thenB B1 b2; have T2 := elv_below T1 b2; have k8 := T2.2.2.2.2.2.2.2.2.1; have k9 := T2.2.2.2.2.2.2.2.2.2.1; have k10 := T2.2.2.2.2.2.2.2.2.2.2)
      | (go_at_call_of 52 h; refine (HW1.out _).mono ?_; rintro e w3 ⟨rfl, rfl⟩)
      | (go_at_call_of 52 d; refine (HW2.out _).mono ?_; rintro e w3 ⟨rfl, rfl⟩))
    go_ret
    exact ⟨rfl, hbel⟩
  have q1 : (a == 0) = false := by simpa using a1
  by_cases a2 : a = 2391391958
  · have q2 : (a == 2391391958) = true := by simpa using a2
    rw [if_pos (.inr a2)] at hR
    subst hR
    clear a1 a2 d1 d2
    go_enter Tryd.func33, Tryd.ntmps33
    go_wp2_with fail
    generalize w.alloc (.cells #[.int .u32 a, .int .u32 b, .int .i64 s, .int .i64 o, .int .i64 i, .int .i64 l, .int .i64 t, .int .u64 (m : Int), .int .i64 h, .int .i64 d, .int .i64 g] 31) = W at *
    have T := elv_of F0
    obtain ⟨c0, c1, c2, c3, c4, c5, c6, c7, c8, c9, c10⟩ := elv_of F0
    clear F0
    go_wp2_with (first
      | (go_at_call 50; refine (HU.out _).mono ?_; rintro e w1 ⟨rfl, b1⟩; have B1 := thenB hbel b1; have T1 := elv_below T b1; have h7 := T1.2.2.2.2.2.2.2.1; have h8 := T1.2.2.2.2.2.2.2.2.1; have h9 := T1.2.2.2.2.2.2.2.2.2.1; have h10 := T1.2.2.2.2.2.2.2.2.2.2)
      | (go_at_call 51; refine (HM.out _).mono ?_; rintro e w2 ⟨rfl, b2⟩; have B2 := thenB B1 b2; have T2 := elv_below T1 b2; have k8 := T2.2.2.2.2.2.2.2.2.1; have k9 := T2.2.2.2.2.2.2.2.2.2.1; have k10 := T2.2.2.2.2.2.2.2.2.2.2)
      | (go_at_call_of 52 h; refine (HW1.out _).mono ?_; rintro e w3 ⟨rfl, rfl⟩)
      | (go_at_call_of 52 d; refine (HW2.out _).mono ?_; rintro e w3 ⟨rfl, rfl⟩))
    go_ret
    exact ⟨rfl, hbel⟩
  have q2 : (a == 2391391958) = false := by simpa using a2
  rw [if_neg (by simp [a1, a2])] at hR
  clear a1 a2
  by_cases a3 : 16777216 ≤ b
  · have q3 : decide (16777216 ≤ b) = true := decide_eq_true a3
    rw [if_pos a3] at hR
    subst hR
    clear a3 d1 d2
    go_enter Tryd.func33, Tryd.ntmps33
    go_wp2_with fail
    generalize w.alloc (.cells #[.int .u32 a, .int .u32 b, .int .i64 s, .int .i64 o, .int .i64 i, .int .i64 l, .int .i64 t, .int .u64 (m : Int), .int .i64 h, .int .i64 d, .int .i64 g] 31) = W at *
    have T := elv_of F0
    obtain ⟨c0, c1, c2, c3, c4, c5, c6, c7, c8, c9, c10⟩ := elv_of F0
    clear F0
    go_wp2_with (first
      | (go_at_call 50; refine (HU.out _).mono ?_; rintro e w1 ⟨rfl, b1⟩; have B1 := thenB hbel b1; have T1 := elv_below T b1; have h7 := T1.2.2.2.2.2.2.2.1; have h8 := T1.2.2.2.2.2.2.2.2.1; have h9 := T1.2.2.2.2.2.2.2.2.2.1; have h10 := T1.2.2.2.2.2.2.2.2.2.2)
      | (go_at_call 51; refine (HM.out _).mono ?_; rintro e w2 ⟨rfl, b2⟩; have B2 := thenB B1 b2; have T2 := elv_below T1 b2; have k8 := T2.2.2.2.2.2.2.2.2.1; have k9 := T2.2.2.2.2.2.2.2.2.2.1; have k10 := T2.2.2.2.2.2.2.2.2.2.2)
      | (go_at_call_of 52 h; refine (HW1.out _).mono ?_; rintro e w3 ⟨rfl, rfl⟩)
      | (go_at_call_of 52 d; refine (HW2.out _).mono ?_; rintro e w3 ⟨rfl, rfl⟩))
    go_ret
    exact ⟨rfl, hbel⟩
  have q3 : decide (16777216 ≤ b) = false := decide_eq_false a3
  rw [if_neg a3] at hR
  clear a3
  by_cases a4 : U = 0
  · rw [if_neg (by simpa using a4)] at hR
    have q4 : (U != 0) = false := by simp [a4]
    clear a4
    by_cases a5 : M = 0
    · rw [if_neg (by simpa using a5)] at hR
      have q5 : (M != 0) = false := by simp [a5]
      clear a5
      cases D1
      · rw [if_neg (fun k => (of_decide_eq_false d1) k.1)] at hR
        subst hR
        clear d1 d2
        go_enter Tryd.func33, Tryd.ntmps33
        go_wp2_with fail
        generalize w.alloc (.cells #[.int .u32 a, .int .u32 b, .int .i64 s, .int .i64 o, .int .i64 i, .int .i64 l, .int .i64 t, .int .u64 (m : Int), .int .i64 h, .int .i64 d, .int .i64 g] 31) = W at *
        have T := elv_of F0
        obtain ⟨c0, c1, c2, c3, c4, c5, c6, c7, c8, c9, c10⟩ := elv_of F0
        clear F0
        go_wp2_with (first
          | (go_at_call 50; refine (HU.out _).mono ?_; rintro e w1 ⟨rfl, b1⟩; have B1 := thenB hbel b1; have T1 := elv_below T b1; have h7 := T1.2.2.2.2.2.2.2.1; have h8 := T1.2.2.2.2.2.2.2.2.1; have h9 := T1.2.2.2.2.2.2.2.2.2.1; have h10 := T1.2.2.2.2.2.2.2.2.2.2)
          | (go_at_call 51; refine (HM.out _).mono ?_; rintro e w2 ⟨rfl, b2⟩; have B2 := thenB B1 b2; have T2 := elv_below T1 b2; have k8 := T2.2.2.2.2.2.2.2.2.1; have k9 := T2.2.2.2.2.2.2.2.2.2.1; have k10 := T2.2.2.2.2.2.2.2.2.2.2)
          | (go_at_call_of 52 h; refine (HW1.out _).mono ?_; rintro e w3 ⟨rfl, rfl⟩)
          | (go_at_call_of 52 d; refine (HW2.out _).mono ?_; rintro e w3 ⟨rfl, rfl⟩))
        go_ret
        exact ⟨rfl, B2⟩
      · cases D2
        · rw [if_neg (fun k => (of_decide_eq_false d2) k.2)] at hR
          subst hR
          clear d1 d2
          go_enter Tryd.func33, Tryd.ntmps33
          go_wp2_with fail
          generalize w.alloc (.cells #[.int .u32 a, .int .u32 b, .int .i64 s, .int .i64 o, .int .i64 i, .int .i64 l, .int .i64 t, .int .u64 (m : Int), .int .i64 h, .int .i64 d, .int .i64 g] 31) = W at *
          have T := elv_of F0
          obtain ⟨c0, c1, c2, c3, c4, c5, c6, c7, c8, c9, c10⟩ := elv_of F0
          clear F0
          go_wp2_with (first
            | (go_at_call 50; refine (HU.out _).mono ?_; rintro e w1 ⟨rfl, b1⟩; have B1 := thenB hbel b1; have T1 := elv_below T b1; have h7 := T1.2.2.2.2.2.2.2.1; have h8 := T1.2.2.2.2.2.2.2.2.1; have h9 := T1.2.2.2.2.2.2.2.2.2.1; have h10 := T1.2.2.2.2.2.2.2.2.2.2)
            | (go_at_call 51; refine (HM.out _).mono ?_; rintro e w2 ⟨rfl, b2⟩; have B2 := thenB B1 b2; have T2 := elv_below T1 b2; have k8 := T2.2.2.2.2.2.2.2.2.1; have k9 := T2.2.2.2.2.2.2.2.2.2.1; have k10 := T2.2.2.2.2.2.2.2.2.2.2)
            | (go_at_call_of 52 h; refine (HW1.out _).mono ?_; rintro e w3 ⟨rfl, rfl⟩)
            | (go_at_call_of 52 d; refine (HW2.out _).mono ?_; rintro e w3 ⟨rfl, rfl⟩))
          go_ret
          exact ⟨rfl, B2⟩
        · rw [if_pos ⟨of_decide_eq_true d1, of_decide_eq_true d2⟩] at hR
          clear d1 d2
          by_cases g1 : g = 1
          · have q6 : (g != 1) = false := by simp [g1]
            rw [if_pos (.inl g1)] at hR
            subst hR
            clear g1
            go_enter Tryd.func33, Tryd.ntmps33
            go_wp2_with fail
            generalize w.alloc (.cells #[.int .u32 a, .int .u32 b, .int .i64 s, .int .i64 o, .int .i64 i, .int .i64 l, .int .i64 t, .int .u64 (m : Int), .int .i64 h, .int .i64 d, .int .i64 g] 31) = W at *
            have T := elv_of F0
            obtain ⟨c0, c1, c2, c3, c4, c5, c6, c7, c8, c9, c10⟩ := elv_of F0
            clear F0
            go_wp2_with (first
              | (go_at_call 50; refine (HU.out _).mono ?_; rintro e w1 ⟨rfl, b1⟩; have B1 := thenB hbel b1; have T1 := elv_below T b1; have h7 := T1.2.2.2.2.2.2.2.1; have h8 := T1.2.2.2.2.2.2.2.2.1; have h9 := T1.2.2.2.2.2.2.2.2.2.1; have h10 := T1.2.2.2.2.2.2.2.2.2.2)
              | (go_at_call 51; refine (HM.out _).mono ?_; rintro e w2 ⟨rfl, b2⟩; have B2 := thenB B1 b2; have T2 := elv_below T1 b2; have k8 := T2.2.2.2.2.2.2.2.2.1; have k9 := T2.2.2.2.2.2.2.2.2.2.1; have k10 := T2.2.2.2.2.2.2.2.2.2.2)
              | (go_at_call_of 52 h; refine (HW1.out _).mono ?_; rintro e w3 ⟨rfl, rfl⟩)
              | (go_at_call_of 52 d; refine (HW2.out _).mono ?_; rintro e w3 ⟨rfl, rfl⟩))
            go_ret
            exact ⟨rfl, B2⟩
          have q6 : (g != 1) = true := by simp [g1]
          by_cases g2 : g = 2
          · have q7 : (g != 2) = false := by simp [g2]
            rw [if_pos (.inr g2)] at hR
            subst hR
            clear g1 g2
            go_enter Tryd.func33, Tryd.ntmps33
            go_wp2_with fail
            generalize w.alloc (.cells #[.int .u32 a, .int .u32 b, .int .i64 s, .int .i64 o, .int .i64 i, .int .i64 l, .int .i64 t, .int .u64 (m : Int), .int .i64 h, .int .i64 d, .int .i64 g] 31) = W at *
            have T := elv_of F0
            obtain ⟨c0, c1, c2, c3, c4, c5, c6, c7, c8, c9, c10⟩ := elv_of F0
            clear F0
            go_wp2_with (first
              | (go_at_call 50; refine (HU.out _).mono ?_; rintro e w1 ⟨rfl, b1⟩; have B1 := thenB hbel b1; have T1 := elv_below T b1; have h7 := T1.2.2.2.2.2.2.2.1; have h8 := T1.2.2.2.2.2.2.2.2.1; have h9 := T1.2.2.2.2.2.2.2.2.2.1; have h10 := T1.2.2.2.2.2.2.2.2.2.2)
              | (go_at_call 51; refine (HM.out _).mono ?_; rintro e w2 ⟨rfl, b2⟩; have B2 := thenB B1 b2; have T2 := elv_below T1 b2; have k8 := T2.2.2.2.2.2.2.2.2.1; have k9 := T2.2.2.2.2.2.2.2.2.2.1; have k10 := T2.2.2.2.2.2.2.2.2.2.2)
              | (go_at_call_of 52 h; refine (HW1.out _).mono ?_; rintro e w3 ⟨rfl, rfl⟩)
              | (go_at_call_of 52 d; refine (HW2.out _).mono ?_; rintro e w3 ⟨rfl, rfl⟩))
            go_ret
            exact ⟨rfl, B2⟩
          have q7 : (g != 2) = true := by simp [g2]
          rw [if_neg (by simp [g1, g2])] at hR
          subst hR
          clear g1 g2
          go_enter Tryd.func33, Tryd.ntmps33
          go_wp2_with fail
          generalize w.alloc (.cells #[.int .u32 a, .int .u32 b, .int .i64 s, .int .i64 o, .int .i64 i, .int .i64 l, .int .i64 t, .int .u64 (m : Int), .int .i64 h, .int .i64 d, .int .i64 g] 31) = W at *
          have T := elv_of F0
          obtain ⟨c0, c1, c2, c3, c4, c5, c6, c7, c8, c9, c10⟩ := elv_of F0
          clear F0
          go_wp2_with (first
            | (go_at_call 50; refine (HU.out _).mono ?_; rintro e w1 ⟨rfl, b1⟩; have B1 := thenB hbel b1; have T1 := elv_below T b1; have h7 := T1.2.2.2.2.2.2.2.1; have h8 := T1.2.2.2.2.2.2.2.2.1; have h9 := T1.2.2.2.2.2.2.2.2.2.1; have h10 := T1.2.2.2.2.2.2.2.2.2.2)
            | (go_at_call 51; refine (HM.out _).mono ?_; rintro e w2 ⟨rfl, b2⟩; have B2 := thenB B1 b2; have T2 := elv_below T1 b2; have k8 := T2.2.2.2.2.2.2.2.2.1; have k9 := T2.2.2.2.2.2.2.2.2.2.1; have k10 := T2.2.2.2.2.2.2.2.2.2.2)
            | (go_at_call_of 52 h; refine (HW1.out _).mono ?_; rintro e w3 ⟨rfl, rfl⟩)
            | (go_at_call_of 52 d; refine (HW2.out _).mono ?_; rintro e w3 ⟨rfl, rfl⟩))
          go_ret
          exact ⟨rfl, B2⟩
    · rw [if_pos a5] at hR
      subst hR
      have q5 : (M != 0) = true := by simp [a5]
      clear a5 d1 d2
      go_enter Tryd.func33, Tryd.ntmps33
      go_wp2_with fail
      generalize w.alloc (.cells #[.int .u32 a, .int .u32 b, .int .i64 s, .int .i64 o, .int .i64 i, .int .i64 l, .int .i64 t, .int .u64 (m : Int), .int .i64 h, .int .i64 d, .int .i64 g] 31) = W at *
      have T := elv_of F0
      obtain ⟨c0, c1, c2, c3, c4, c5, c6, c7, c8, c9, c10⟩ := elv_of F0
      clear F0
      go_wp2_with (first
        | (go_at_call 50; refine (HU.out _).mono ?_; rintro e w1 ⟨rfl, b1⟩; have B1 := thenB hbel b1; have T1 := elv_below T b1; have h7 := T1.2.2.2.2.2.2.2.1; have h8 := T1.2.2.2.2.2.2.2.2.1; have h9 := T1.2.2.2.2.2.2.2.2.2.1; have h10 := T1.2.2.2.2.2.2.2.2.2.2)
        | (go_at_call 51; refine (HM.out _).mono ?_; rintro e w2 ⟨rfl, b2⟩; have B2 := thenB B1 b2; have T2 := elv_below T1 b2; have k8 := T2.2.2.2.2.2.2.2.2.1; have k9 := T2.2.2.2.2.2.2.2.2.2.1; have k10 := T2.2.2.2.2.2.2.2.2.2.2)
        | (go_at_call_of 52 h; refine (HW1.out _).mono ?_; rintro e w3 ⟨rfl, rfl⟩)
        | (go_at_call_of 52 d; refine (HW2.out _).mono ?_; rintro e w3 ⟨rfl, rfl⟩))
      go_ret
      exact ⟨rfl, B2⟩
  · rw [if_pos a4] at hR
    subst hR
    have q4 : (U != 0) = true := by simp [a4]
    clear a4 d1 d2
    go_enter Tryd.func33, Tryd.ntmps33
    go_wp2_with fail
    generalize w.alloc (.cells #[.int .u32 a, .int .u32 b, .int .i64 s, .int .i64 o, .int .i64 i, .int .i64 l, .int .i64 t, .int .u64 (m : Int), .int .i64 h, .int .i64 d, .int .i64 g] 31) = W at *
    have T := elv_of F0
    obtain ⟨c0, c1, c2, c3, c4, c5, c6, c7, c8, c9, c10⟩ := elv_of F0
    clear F0
    go_wp2_with (first
      | (go_at_call 50; refine (HU.out _).mono ?_; rintro e w1 ⟨rfl, b1⟩; have B1 := thenB hbel b1; have T1 := elv_below T b1; have h7 := T1.2.2.2.2.2.2.2.1; have h8 := T1.2.2.2.2.2.2.2.2.1; have h9 := T1.2.2.2.2.2.2.2.2.2.1; have h10 := T1.2.2.2.2.2.2.2.2.2.2)
      | (go_at_call 51; refine (HM.out _).mono ?_; rintro e w2 ⟨rfl, b2⟩; have B2 := thenB B1 b2; have T2 := elv_below T1 b2; have k8 := T2.2.2.2.2.2.2.2.2.1; have k9 := T2.2.2.2.2.2.2.2.2.2.1; have k10 := T2.2.2.2.2.2.2.2.2.2.2)
      | (go_at_call_of 52 h; refine (HW1.out _).mono ?_; rintro e w3 ⟨rfl, rfl⟩)
      | (go_at_call_of 52 d; refine (HW2.out _).mono ?_; rintro e w3 ⟨rfl, rfl⟩))
    go_ret
    exact ⟨rfl, B1⟩
end Go.Proofs.YtcjlliilfecmnaaDoor.Cn

end
section
set_option linter.unusedVariables false
set_option linter.unusedSimpArgs false
namespace Go.Proofs.YtcjlliilfecmnaaDoor.Oct
open Go.RowKit Mem

theorem info_u8 : (Tryd.prog.info? 5).map (fun i => (i.zero, i.size, i.bytes)) = some (some (.int .u8 0), 1, 1) := by kernel_rfl

theorem same_any (A A' : Option Addr) (n n' c c' : Nat) (xs ys : List Int) (w : World) (hx : xs.length = n) (hy : ys.length = n') (bx : Bytes xs) (by_ : Bytes ys) (hr : Ints .u8 w w.heap.size A xs) (hr' : Ints .u8 w w.heap.size A' ys) :
    Calls Tryd.prog 15 #[.slice A n c, .slice A' n' c'] w fun e w' => e = .returned (.bool (decide (xs = ys))) ∧ w = w' := by
  have k1 := run_string_ints (P := Tryd.prog) 25 5 Tryd.underlying25 Tryd.underlying5 Tryd.underlying9 w.heap.size A n c xs hx hr
  have k2 := run_string_ints (P := Tryd.prog) 25 5 Tryd.underlying25 Tryd.underlying5 Tryd.underlying9 w.heap.size A' n' c' ys hy hr'
  go_enter Tryd.func15, Tryd.ntmps15
  go_wp2
  go_ret
  exact ⟨Ser.ret_bool (str_eq bx by_), rfl⟩
/-- What a call makes of bytes: a row of its own. -/
def Makes (w w' : World) (e : Ending) (zs : List Int) : Prop :=
  ∃ A c, e = .returned (.slice A zs.length c) ∧ w'.ownsRow w.heap.size 5 1 (.slice A zs.length c) zs.length (zs.map (Value.int .u8)) ∧ Below w.heap.size w w'
theorem makes_of {w w' : World} {e : Ending} {v : Value} {n : Nat} {zs : List Int} (he : e = .returned v) (hn : zs.length = n) (h : w'.ownsRow w.heap.size 5 1 v n (zs.map (Value.int .u8))) (hb : Below w.heap.size w w') : Makes w w' e zs := by
  obtain ⟨A, c, hv⟩ := own_form h
  subst hn
  exact ⟨A, c, by rw [he, hv], by rw [← hv]; exact h, hb⟩
end Go.Proofs.YtcjlliilfecmnaaDoor.Oct

end
section
set_option linter.unusedVariables false
set_option linter.unusedSimpArgs false
namespace Go.Proofs.YtcjlliilfecmnaaDoor.Oct
open Go.RowKit Mem

/-- A part: where it begins, its capacity, its bytes. -/
def PartsAt (w : World) (B : Nat) (A : Option Addr) (ps : List (Option Addr × Nat × List Int)) : Prop :=
  ps = [] ∨ ∃ b off, A = some ⟨b, off, none⟩ ∧ b < B ∧ ∀ j p, ps[j]? = some p → w.cell? ⟨b, off + j, none⟩ = some (.slice p.1 p.2.2.length p.2.1) ∧ Ints .u8 w B p.1 p.2.2
theorem PartsAt.below {w w' : World} {B : Nat} {A : Option Addr} {ps : List (Option Addr × Nat × List Int)} (h : PartsAt w B A ps) (hb : Below B w w') : PartsAt w' B A ps := by
  rcases h with h | ⟨b, off, e, hlt, hc⟩
  · exact .inl h
  · exact .inr ⟨b, off, e, hlt, fun j p hj => ⟨(hb.cell (p := ⟨b, off + j, none⟩) hlt).trans (hc j p hj).1, (hc j p hj).2.below hb⟩⟩
/-- Parts that were just laid side by side. -/
theorem parts_lit (w : World) (ps : List (Option Addr × Nat × List Int)) (cs : Array Value) (e : TypeId) (g : Nat) (hg : g = w.heap.size) (h : cs = (ps.map fun p => Value.slice p.1 p.2.2.length p.2.1).toArray) (hi : ∀ p ∈ ps, Ints .u8 w w.heap.size p.1 p.2.2) :
    PartsAt (w.alloc (.cells cs e)) (w.alloc (.cells cs e)).heap.size (some ⟨g, 0, none⟩) ps := by
  subst hg
  refine .inr ⟨w.heap.size, 0, rfl, by simp, fun j p hj => ⟨?_, ?_⟩⟩
  · rw [World.cell?_alloc_at _ _ _ _ rfl, h]
    simp [List.getElem?_map, hj]
  · exact ((hi p (List.mem_of_getElem? hj)).alloc (Nat.le_refl _) _).more (by simp)
def joinL (ps : List (Option Addr × Nat × List Int)) : List Int := (ps.map fun p => p.2.2).flatten
theorem joinL_snoc (ps : List (Option Addr × Nat × List Int)) (k : Nat) (p : Option Addr × Nat × List Int) (h : ps[k]? = some p) : joinL (ps.take (k + 1)) = joinL (ps.take k) ++ p.2.2 := by
  have hk : k < ps.length := by
    rcases Nat.lt_or_ge k ps.length with g | g
    · exact g
    · rw [List.getElem?_eq_none g] at h; cases h
  rw [List.getElem?_eq_getElem hk] at h
  injection h with h
  unfold joinL
  rw [List.take_succ_eq_append_getElem hk, List.map_append, List.flatten_append, h]; simp
theorem joinL_take_le (ps : List (Option Addr × Nat × List Int)) (k : Nat) : (joinL (ps.take k)).length ≤ (joinL ps).length := by
  conv => rhs; rw [← List.take_append_drop k ps]
  unfold joinL
  rw [List.map_append, List.flatten_append, List.length_append]; omega
theorem join_any (A : Option Addr) (n c : Nat) (ps : List (Option Addr × Nat × List Int)) (w : World) (hp : ps.length = n) (hn : n ≤ 1048576) (hr : PartsAt w w.heap.size A ps) (ht : (joinL ps).length ≤ 140737488351232) :
    Calls Tryd.prog 35 #[.slice A n c] w fun e w' => Makes w w' e (joinL ps) := by
  obtain ⟨i0, hi, hz0, hz1, hz2⟩ := info_parts info_u8
  have Hp := Lib.hid hp
  clear hp
  go_enter Tryd.func35, Tryd.ntmps35
  go_wp2_with fail
  go_loopw [3, 8] (fun v i wr => ∃ k : Nat, k ≤ n ∧ i = .int .i64 k ∧ wr.ownsRow w.heap.size 5 1 v (joinL (ps.take k)).length ((joinL (ps.take k)).map (Value.int .u8)) ∧ Below w.heap.size w wr) (fun _ i _ => n - (intOf i).toNat)
  case atStart => exact ⟨0, by omega, rfl, World.ownsRow_nil _ _ _ _, Below.refl _ _⟩
  case round =>
    obtain ⟨k, hk, rfl, hown, hbel⟩ := hrel
    by_cases c1 : k < n
    · obtain ⟨p, hpk⟩ : ∃ p, ps[k]? = some p := ⟨ps[k]'(by rw [Hp.out]; omega), List.getElem?_eq_getElem _⟩
      rcases hr.below hbel with h | ⟨b, off, rfl, hlt, hc⟩
      · exfalso; rw [h] at hpk; simp at hpk
      obtain ⟨f1, f2⟩ := hc k p hpk
      clear hc
      have HJ := Lib.hid (joinL_snoc ps k p hpk)
      have hle := joinL_take_le ps (k + 1)
      rw [HJ.out, List.length_append] at hle
      obtain ⟨pa, pc, pz⟩ := p
      simp only at f1 f2 hle
      clear hpk
      go_wp2_with (at_builtin; refine wpList_append_ints rfl _ _ 25 rfl .u8 w.heap.size 5 i0 _ 1 Tryd.underlying25 hi hz0 hz1 hz2 rfl _ _ _ rfl hown w.heap.size pa pz.length pc pz rfl rfl ?c1 ?c2 ?c3 ?c4 ?_; (case c1 => exact f2); (case c2 => unfold maxLen; omega); (case c3 => omega); (case c4 => exact hbel.size); intro v2 w2 hown2 hb2 _)
      go_roundw
      case rel => exact ⟨k + 1, by omega, by go_num, by rw [HJ.out, List.length_append, List.map_append]; exact hown2, hbel.trans hb2⟩
      case measure => simp [intOf]; omega
    · have hkn : k = n := by omega
      rw [List.take_of_length_le (by rw [Hp.out]; omega)] at hown
      clear hkn
      go_wp2_with fail
      go_ret
      exact makes_of rfl rfl hown hbel
theorem clone_any (A : Option Addr) (n c : Nat) (zs : List Int) (w : World) (hz : zs.length = n) (hr : Ints .u8 w w.heap.size A zs) (hn : n ≤ 140737488351232) (hnil : A = none → n = 0) :
    Calls Tryd.prog 82 #[.slice A n c] w fun e w' => Makes w w' e zs := by
  obtain ⟨i0, hi, hz0, hz1, hz2⟩ := info_parts info_u8
  cases A with
  | none =>
    obtain rfl : n = 0 := hnil rfl
    have hzs : zs = [] := List.eq_nil_of_length_eq_zero (by omega)
    have H := Lib.hid hzs
    clear hzs hz hr hn hnil
    have hq := Lib.run_eql_slice_nil (P := Tryd.prog) w 25 5 none 0 c 0 0 Tryd.underlying25
    go_enter Tryd.func82, Tryd.ntmps82
    go_wp2_with fail
    go_ret
    rw [H.out]
    exact makes_of rfl rfl (World.ownsRow_nil _ _ _ _) (Below.refl _ _)
  | some ad =>
    have hq := Lib.run_eql_slice_nil (P := Tryd.prog) w 25 5 (some ad) n c 0 0 Tryd.underlying25
    go_enter Tryd.func82, Tryd.ntmps82
    go_wp2_with (at_builtin; refine wpList_append_ints rfl _ _ 25 rfl .u8 w.heap.size 5 i0 _ 1 Tryd.underlying25 hi hz0 hz1 hz2 rfl (.slice (some ⟨w.heap.size, 0, none⟩) 0 0) 0 [] rfl (World.ownsRow_made _ _ 0 (Nat.le_refl _) (by unfold maxLen; omega) rfl) w.heap.size (some ad) n c zs rfl hz ?c1 ?c2 ?c3 ?c4 ?_; (case c1 => exact hr.alloc (Nat.le_refl _) _); (case c2 => unfold maxLen; omega); (case c3 => omega); (case c4 => simp); intro v' w1 hown1 hb1 _)
    go_ret
    exact makes_of rfl hz (by simpa using hown1) (((Below.refl _ _).alloc (Nat.le_refl _) _).trans hb1)
theorem valid_any (n : Int) (w : World) (hn : -9223372036854775808 ≤ n ∧ n ≤ 9223372036854775807) :
    Calls Tryd.prog 62 #[.int .i64 n] w fun e w' => e = .returned (.bool (decide (1 ≤ n ∧ n ≤ 8))) ∧ w = w' := by
  go_enter Tryd.func62, Tryd.ntmps62
  go_wp2
  all_goals
    go_ret
    refine ⟨Ser.ret_bool ?_, rfl⟩
    by_cases h1 : 1 ≤ n
    · by_cases h2 : n ≤ 8
      · simp [h1, h2] <;> omega
      · simp [h1, h2] <;> omega
    · simp [h1] <;> omega
theorem fits_any (v n : Int) (w : World) (hv : 0 ≤ v ∧ v ≤ 18446744073709551615) (hn : 1 ≤ n ∧ n ≤ 8) :
    Calls Tryd.prog 63 #[.int .u64 v, .int .i64 n] w fun e w' => e = .returned (.bool (decide (v < Ser.p2 (8 * n.toNat)))) ∧ w = w' := by
  go_enter Tryd.func63, Tryd.ntmps63
  have H := Lib.hid (fits_code v n hv.1 hn.1)
  go_wp2
  go_ret
  exact ⟨Ser.ret_bool H.out, rfl⟩
theorem number_any (A : Option Addr) (n c : Nat) (xs : List Int) (w : World) (hx : xs.length = n) (bxs : Bytes xs) (hr : Ints .u8 w w.heap.size A xs) (hn : n ≤ 8) :
    Calls Tryd.prog 81 #[.slice A n c] w fun e w' => e = .returned (.int .u64 (valL xs)) ∧ w = w' := by
  have Hx := Lib.hid hx
  clear hx
  go_enter Tryd.func81, Tryd.ntmps81
  go_wp2_with fail
  go_loop [3, 8] (fun v i => ∃ k : Nat, k ≤ n ∧ i = .int .i64 k ∧ v = .int .u64 (valL (xs.take k))) (fun _ i => n - (intOf i).toNat)
  case atStart => exact ⟨0, by omega, rfl, rfl⟩
  case round =>
    obtain ⟨k, hk, rfl, rfl⟩ := hrel
    by_cases c1 : k < n
    · obtain ⟨b, off, rfl, hb, hc⟩ := hr.at_ (i := k) (by rw [Hx.out]; omega)
      have f1 := hc k (by rw [Hx.out]; omega)
      clear hc
      have bk := bytes_get bxs k
      obtain ⟨x, hxk⟩ : ∃ x, xs.getD k 0 = x := ⟨_, rfl⟩
      rw [hxk] at f1 bk
      have HXK := Lib.hid hxk
      clear hxk
      have HC : Hid (bits BinOp.or IntKind.u64 (valL (xs.take k)) (IntKind.u64.wrap (x * 2 ^ (8 * k))) = valL (xs.take (k + 1))) := by
        refine Lib.hid ?_
        rw [or_code (bytes_take bxs k) (by rw [List.length_take, Hx.out]; omega) (by omega) bk, val_step (by rw [Hx.out]; omega) HXK.out]
      go_wp2_with fail
      go_round
      case rel => exact ⟨k + 1, by omega, by go_num, by rw [HC.out]⟩
      case measure => simp [intOf]; omega
    · have hkn : k = n := by omega
      have HT : Hid (xs.take k = xs) := Lib.hid (List.take_of_length_le (by rw [Hx.out]; omega))
      clear hkn
      go_wp2_with fail
      go_ret
      exact ⟨Ser.ret_int (by rw [HT.out]), rfl⟩
theorem value_any (A : Option Addr) (n c : Nat) (xs : List Int) (w : World) (hx : xs.length = n) (bxs : Bytes xs) (hr : Ints .u8 w w.heap.size A xs) (hn : n ≤ 8) :
    Calls Tryd.prog 76 #[.slice A n c] w fun e w' => e = .returned (.int .u64 (valL xs)) ∧ w = w' := by
  have Hx := Lib.hid hx
  clear hx
  go_enter Tryd.func76, Tryd.ntmps76
  go_wp2_with fail
  go_loop [3, 4] (fun v i => (i = .int .i64 (-1) ∧ v = .int .u64 (valL xs)) ∨ ∃ k : Nat, k < n ∧ i = .int .i64 k ∧ v = .int .u64 (valL (xs.drop (k + 1)))) (fun _ i => (intOf i + 1).toNat)
  case atStart =>
    rcases n with _ | n
    · exact .inl ⟨rfl, by rw [List.eq_nil_of_length_eq_zero Hx.out]; rfl⟩
    · exact .inr ⟨n, by omega, by go_num, by rw [List.drop_of_length_le (by rw [Hx.out]; omega)]; rfl⟩
  case round =>
    rcases hrel with ⟨rfl, rfl⟩ | ⟨k, hk, rfl, rfl⟩
    · go_wp2_with fail
      go_ret
      exact ⟨rfl, rfl⟩
    · obtain ⟨b, off, rfl, hb, hc⟩ := hr.at_ (i := k) (by rw [Hx.out]; omega)
      have f1 := hc k (by rw [Hx.out]; omega)
      clear hc
      have bk := bytes_get bxs k
      obtain ⟨x, hxk⟩ : ∃ x, xs.getD k 0 = x := ⟨_, rfl⟩
      rw [hxk] at f1 bk
      have HD := Lib.hid (drop_val (by rw [Hx.out]; omega) hxk)
      clear hxk
      have b1 := drop_bd' bxs (by rw [Hx.out]; omega) (k + 1) (by omega)
      have b2 := (drop_bd bxs (by rw [Hx.out]; omega) (k + 1)).1
      go_wp2_with fail
      go_round
      case rel =>
        rcases k with _ | k
        · exact .inl ⟨rfl, by rw [show valL xs = valL (xs.drop 0) from rfl, HD.out] <;> go_num⟩
        · exact .inr ⟨k, by omega, by go_num, by rw [HD.out] <;> go_num⟩
      case measure => simp [intOf] <;> omega
end Go.Proofs.YtcjlliilfecmnaaDoor.Oct

end
section
set_option linter.unusedVariables false
set_option linter.unusedSimpArgs false
namespace Go.Proofs.YtcjlliilfecmnaaDoor.Oct
open Go.RowKit Mem

end Go.Proofs.YtcjlliilfecmnaaDoor.Oct

end
section
set_option linter.unusedVariables false
set_option linter.unusedSimpArgs false
namespace Go.Proofs.YtcjlliilfecmnaaDoor.Oct
open Go.RowKit Mem

/-- Bytes of the call's own and an error. -/
def Gives (w w' : World) (e : Ending) (r : List Int × Int) : Prop :=
  ∃ A c, e = .returned (.tuple #[.slice A r.1.length c, .int .i64 r.2]) ∧ w'.ownsRow w.heap.size 5 1 (.slice A r.1.length c) r.1.length (r.1.map (Value.int .u8)) ∧ Below w.heap.size w w'
theorem gives_of {w w' : World} {e : Ending} {v : Value} {n : Nat} {x : Int} {r : List Int × Int} {zs : List Int} (hr : r = (zs, x)) (he : e = .returned (.tuple #[v, .int .i64 x])) (hn : zs.length = n) (h : w'.ownsRow w.heap.size 5 1 v n (zs.map (Value.int .u8))) (hb : Below w.heap.size w w') : Gives w w' e r := by
  obtain ⟨A, c, hv⟩ := own_form h
  subst hn hr
  exact ⟨A, c, by rw [he, hv], by rw [← hv]; exact h, hb⟩
end Go.Proofs.YtcjlliilfecmnaaDoor.Oct

end
