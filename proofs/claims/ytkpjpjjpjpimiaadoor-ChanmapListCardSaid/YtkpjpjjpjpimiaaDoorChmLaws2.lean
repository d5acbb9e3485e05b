/- The statement on the list of a map, walked: it returns true. -/
import Derived.Test.YtkpjpjjpjpimiaaDoorChmLaws
set_option linter.unusedVariables false
set_option linter.unusedSimpArgs false
namespace Go.Proofs.YtkpjpjjpjpimiaaDoor.Chm
open Go.RowKit Mem Oct Base

theorem has_toZ {m : Nat} {c : Int} {b : Bool} (hm : m ≤ 18446744073709551615) (hb : hasZ m c = b) (w : World) :
    Calls Tryd.prog 14 #[.int .u64 m, .int .i64 c] w fun e w' => e = .returned (.bool b) ∧ w = w' := by
  rw [← hb]; exact has_any m c w hm
theorem nth_to {m : Nat} {i v : Int} (hm : m ≤ 18446744073709551615) (h : nthZ m i = v) (w : World) :
    Calls Tryd.prog 21 #[.int .u64 m, .int .i64 i] w fun e w' => e = .returned (.int .i64 v) ∧ Below w.heap.size w w' := by
  rw [← h]; exact nth_any m i w hm
theorem remap_to {m : Nat} {i v : Int} (hm : m ≤ 18446744073709551615) (h : remapZ m i = v) (w : World) :
    Calls Tryd.prog 23 #[.int .u64 m, .int .i64 i] w fun e w' => e = .returned (.int .i64 v) ∧ Below w.heap.size w w' := by
  rw [← h]; exact remap_any m i w hm
theorem nth_has {m : Nat} {i : Int} (h0 : 0 ≤ i) (h1 : i < (chans m).length) : hasZ m (nthZ m i) = true := by
  have hi : i.toNat < (chans m).length := by omega
  unfold nthZ
  rw [if_pos ⟨h0, hi⟩, hasZ_nat]
  apply mem_chans.1
  rw [List.getD_eq_getElem?_getD, List.getElem?_eq_getElem hi]
  exact List.getElem_mem hi
theorem remap_has {m : Nat} {c : Int} (h : (chans m).length ≠ 0) : hasZ m (remapZ m c) = true := by
  unfold remapZ
  rw [if_neg h]
  split
  · assumption
  · have h0 : 0 ≤ limC c := by unfold limC; omega
    exact nth_has (Int.emod_nonneg _ (by omega)) (Int.emod_lt_of_pos _ (by omega))
theorem remap_same {m c : Nat} (h : hasN m c = true) : remapZ m c = c := by
  have hc := hasN_lt h
  have hl : limC (c : Int) = c := by unfold limC; omega
  unfold remapZ
  rw [hl, hasZ_nat, h]
  have : (chans m).length ≠ 0 := by
    have := (chb_at hc h).1
    omega
  rw [if_neg this]; rfl
theorem chb_all (m : Nat) : chb m 37 = chans m := rfl
set_option maxHeartbeats 2000000 in
theorem law_list (m : Nat) (x : Int) (w : World) (hm : m ≤ 18446744073709551615) (hx : -9223372036854775808 ≤ x ∧ x ≤ 9223372036854775807) (hE : Errs w) :
    Calls Tryd.prog 8 #[.int .u64 m, .int .i64 x] w fun e w' => e = .returned (.bool true) ∧ Below w.heap.size w w' := by
  have HL := Lib.hid (lives_any w hE)
  have hle := chans_le m
  have HLs : Hid (∀ w, Calls Tryd.prog 19 #[.int .u64 m] w fun e w' => ∃ A c, e = .returned (.slice A (chans m).length c) ∧ Ints .i64 w' w'.heap.size A (zs (chans m)) ∧ Below w.heap.size w w') := Lib.hid fun w =>
    (list_any m w hm).mono fun e w' h => by
      obtain ⟨A, c, he, _, hi, hb⟩ := h.read (zs_len (chans m))
      exact ⟨A, c, he, hi, hb⟩
  have HC := Lib.hid fun w => count_any m w hm
  have HRm := Lib.hid fun w => remap_any m x w hm
  have hrh : Hid ((chans m).length ≠ 0 → hasZ m (remapZ m x) = true) := Lib.hid fun h => remap_has h
  have hr0 : Hid ((chans m).length = 0 → remapZ m x = -1) := Lib.hid fun h => by unfold remapZ; rw [if_pos h]
  have hzl := zs_len (chans m)
  have hat : Hid (∀ k, k < 37 → hasN m k = true → (chb m k).length < (chans m).length ∧ (zs (chans m)).getD (chb m k).length 0 = (k : Int) ∧ nthZ m ((chb m k).length : Nat) = (k : Int) ∧ remapZ m (k : Int) = (k : Int)) := Lib.hid fun k hk h => by
    obtain ⟨h1, h2⟩ := chb_at hk h
    refine ⟨h1, ?_, ?_, remap_same h⟩
    · unfold zs
      rw [List.getD_eq_getElem?_getD, List.getElem?_map, List.getElem?_eq_getElem h1]
      rw [List.getD_eq_getElem?_getD, List.getElem?_eq_getElem h1] at h2
      simp at h2 ⊢; rw [h2]
    · unfold nthZ
      rw [if_pos ⟨by omega, by simpa using h1⟩, Int.toNat_natCast, h2]
  have hend : Hid ((chb m 37).length = (chans m).length) := Lib.hid rfl
  generalize zs (chans m) = Z at *
  generalize remapZ m x = R at *
  obtain ⟨L, hL⟩ : ∃ L, (chans m).length = L := ⟨_, rfl⟩
  rw [hL] at hle HLs HC hrh hr0 hzl hend
  rw [hL] at hat
  clear hL hE
  go_enter Tryd.func8, Tryd.ntmps8
  go_wp2_with (first
    | (go_at_call 11; refine HL.out.mono ?_; rintro e w1 ⟨rfl, b1⟩)
    | (go_at_call 19; refine (HLs.out _).mono ?_; rintro e W ⟨A, c, rfl, I2, b2⟩; have B2 := thenB b1 b2))
  go_loopw [6, 7] (fun s6 s7 wr => ∃ k : Nat, k ≤ 37 ∧ s6 = .int .i64 ((chb m k).length : Nat) ∧ s7 = .int .i64 (k : Nat) ∧ Below W.heap.size W wr) (fun _ s7 _ => 37 - (intOf s7).toNat)
  case atStart => exact ⟨0, by omega, rfl, rfl, Below.refl _ _⟩
  case round =>
    obtain ⟨k, hk, rfl, rfl, hB⟩ := hrel
    by_cases h1 : k < 37
    · by_cases hb : hasN m k = true
      · obtain ⟨p1, p2, p3, p4⟩ := hat.out k h1 hb
        have HH := Lib.hid (has_to hm hb)
        have HN := Lib.hid (nth_to hm p3)
        have HR := Lib.hid (remap_to hm p4)
        have HY : Hid ((chb m (k + 1)).length = (chb m k).length + 1) := Lib.hid (by rw [chb_yes hb]; simp)
        clear hb p3 p4
        obtain ⟨q, hq⟩ : ∃ q, (chb m k).length = q := ⟨_, rfl⟩
        rw [hq] at p1 p2 HN HY ⊢
        clear hq
        obtain ⟨g, off, rfl, hg, hcell⟩ := I2.at_ (i := q) (by omega)
        have hc := (hB.cell (p := ⟨g, off + q, none⟩) hg).trans (hcell q (by omega))
        rw [p2] at hc
        clear hcell p2
        have g1 : (0 : Int) ≤ (q : Int) := by omega
        have g2 : (q : Int) < (L : Int) := by omega
        have g3 : decide ((L : Int) ≤ (q : Int)) = false := by simp; omega
        go_wp2_with (first
          | (go_at_call 14; refine (HH.out _).mono ?_; rintro e w' ⟨rfl, rfl⟩)
          | (go_at_call 21; refine (HN.out _).mono ?_; rintro e w5 ⟨rfl, b5⟩; have B5 := hB.trans (b5.mono hB.size))
          | (go_at_call 23; refine (HR.out _).mono ?_; rintro e w6 ⟨rfl, b6⟩; have B6 := B5.trans (b6.mono B5.size)))
        go_roundw
        case rel => exact ⟨k + 1, by omega, by rw [HY.out]; go_num, by go_num, B6⟩
        case measure => simp [intOf]; omega
      · have hb' : hasN m k = false := by simpa using hb
        have HH := Lib.hid (has_to hm hb')
        have HY : Hid ((chb m (k + 1)).length = (chb m k).length) := Lib.hid (by rw [chb_no hb'])
        clear hb hb'
        obtain ⟨q, hq⟩ : ∃ q, (chb m k).length = q := ⟨_, rfl⟩
        rw [hq] at HY ⊢
        go_wp2_with (go_at_call 14; refine (HH.out _).mono ?_; rintro e w' ⟨rfl, rfl⟩)
        go_roundw
        case rel => exact ⟨k + 1, by omega, by rw [HY.out], by go_num, hB⟩
        case measure => simp [intOf]; omega
    · obtain rfl : k = 37 := by omega
      rw [hend.out]
      have BW := B2.trans (hB.mono B2.size)
      by_cases h0 : L = 0
      · have hr := hr0.out h0
        subst h0
        rw [hr] at HRm
        clear hr hat
        go_wp2_with (first
          | (go_at_call 16; refine (HC.out _).mono ?_; rintro e w' ⟨rfl, rfl⟩)
          | (go_at_call 23; refine (HRm.out _).mono ?_; rintro e w6 ⟨rfl, b6⟩; have B6 := thenB BW b6))
        go_ret
        exact ⟨rfl, B6⟩
      · have HZ := Lib.hid (has_toZ hm (hrh.out h0))
        have q0 : (((L : Nat) : Int) == 0) = false := by simpa using h0
        have q1 : (0 : Int) < (L : Int) := by omega
        clear hat
        go_wp2_with (first
          | (go_at_call 16; refine (HC.out _).mono ?_; rintro e w' ⟨rfl, rfl⟩)
          | (go_at_call 23; refine (HRm.out _).mono ?_; rintro e w6 ⟨rfl, b6⟩; have B6 := thenB BW b6)
          | (go_at_call 14; refine (HZ.out _).mono ?_; rintro e w' ⟨rfl, rfl⟩))
        go_ret
        exact ⟨rfl, B6⟩
end Go.Proofs.YtkpjpjjpjpimiaaDoor.Chm
