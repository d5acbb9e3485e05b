/- The statements on checksums, walked: sums, shifts, appending, continuing. -/
import Derived.Test.YthpbnipjopjfeaaDoorCrcLaws
set_option linter.unusedVariables false
set_option linter.unusedSimpArgs false
namespace Go.Proofs.YthpbnipjopjfeaaDoor.Crc
open Go.RowKit Mem Oct Base

theorem law_shifts (a0 a1 : Int) (w : World) (w0 : 0 ≤ a0 ∧ a0 ≤ 4294967295) (u1 : -9223372036854775808 ≤ a1 ∧ a1 ≤ 9223372036854775807) (hT : Tab w) :
    Calls Tryd.prog 4 #[.int .u32 a0, .int .i64 a1] w fun e w' => e = .returned (.bool true) ∧ Below w.heap.size w w' := by
  obtain ⟨v, hv⟩ : ∃ v : Int, ((ticks (8 * lim a1) (ini a0) : Nat) : Int) = v := ⟨_, rfl⟩
  have HV := Lib.hid hv
  clear hv
  go_enter Tryd.func4, Tryd.ntmps4
  go_wp2_with (first | (go_at_call 10; refine (lives_any _ hT).mono ?_; rintro e w1 ⟨rfl, hb⟩; have T1 := hT.below hb) | (go_at_call 14; refine (shift_to w0 u1 T1 HV.out).mono ?_; rintro e w' ⟨rfl, rfl⟩) | (go_at_call 15; refine (rshift_to w0 u1 HV.out).mono ?_; rintro e w' ⟨rfl, rfl⟩))
  go_ret
  exact ⟨rfl, hb⟩
theorem law_sums (a0 : Int) (A1 : Option Addr) (n1 c1 : Nat) (x1 : List Int) (w : World) (w0 : 0 ≤ a0 ∧ a0 ≤ 4294967295)
    (hx1 : x1.length = n1) (hc1 : n1 ≤ c1) (hi1 : Ints .u8 w w.heap.size A1 x1) (hb1 : Bytes x1) (hs1 : c1 * 1 ≤ 140737488351232) (hT : Tab w) :
    Calls Tryd.prog 3 #[.int .u32 a0, .slice A1 n1 c1] w fun e w' => e = .returned (.bool true) ∧ Below w.heap.size w w' := by
  obtain ⟨v, hv⟩ : ∃ v : Int, ((sumN (ini a0) x1 : Nat) : Int) = v := ⟨_, rfl⟩
  have HV := Lib.hid hv
  have HX := Lib.hid hx1
  clear hv hx1
  by_cases hbig : 65536 < n1
  · go_enter Tryd.func3, Tryd.ntmps3
    go_wp2_with (first | (go_at_call 10; refine (lives_any _ hT).mono ?_; rintro e w1 ⟨rfl, hb⟩))
    go_ret
    exact ⟨rfl, hb⟩
  · have hbig' : decide ((65536 : Int) < (n1 : Int)) = false := by simp; omega
    go_enter Tryd.func3, Tryd.ntmps3
    go_wp2_with (first | (go_at_call 10; refine (lives_any _ hT).mono ?_; rintro e w1 ⟨rfl, hb⟩; have T1 := hT.below hb; have i1 := later hi1 hb) | (go_at_call 12; refine (copied3_any _ _ _ x1 _ HX.out i1 (by omega)).mono ?_; intro e w2 m2; obtain ⟨A2, c2, rfl, k2, j2, b2⟩ := m2.read HX.out; clear m2; have T2 := T1.below b2; have i2 := later i1 b2) | (go_at_call 11; refine (sum_to x1 w0 HX.out hb1 j2 (by omega) T2 HV.out).mono ?_; rintro e w3 ⟨rfl, rfl⟩) | (go_at_call 13; refine (rsum_to x1 w0 HX.out hb1 i2 (by omega) HV.out).mono ?_; rintro e w3 ⟨rfl, rfl⟩))
    go_ret
    exact ⟨rfl, thenB hb b2⟩
theorem chkR_bytes {q : Nat} {zs : List Int} (h : Bytes zs) : Bytes (chkR q zs).1 := by
  unfold chkR
  split
  · intro z hz; cases hz
  · split
    · exact bytes_take h _
    · intro z hz; cases hz
theorem law_appends (a0 : Int) (A1 : Option Addr) (n1 c1 : Nat) (x1 : List Int) (w : World) (w0 : 0 ≤ a0 ∧ a0 ≤ 4294967295)
    (hx1 : x1.length = n1) (hc1 : n1 ≤ c1) (hi1 : Ints .u8 w w.heap.size A1 x1) (hb1 : Bytes x1) (hs1 : c1 * 1 ≤ 140737488351232) (hT : Tab w) :
    Calls Tryd.prog 5 #[.int .u32 a0, .slice A1 n1 c1] w fun e w' => e = .returned (.bool true) ∧ Below w.heap.size w w' := by
  have hcb := chkR_bytes (q := ini a0) hb1
  obtain ⟨r, hr⟩ : ∃ r, chkR (ini a0) x1 = r := ⟨_, rfl⟩
  rw [hr] at hcb
  have HR := Lib.hid hr
  have HX := Lib.hid hx1
  have HA : Hid ((appL (ini a0) x1).length = n1 + 3) := Lib.hid (by rw [appL_len, hx1])
  have hab := appL_bytes (ini_lt a0) hb1
  clear hx1 hr
  obtain ⟨rl, re⟩ := r
  obtain ⟨m, hm⟩ : ∃ m, rl.length = m := ⟨_, rfl⟩
  have HM := Lib.hid hm
  clear hm
  simp only at hcb
  by_cases hbig : 65536 < n1
  · go_enter Tryd.func5, Tryd.ntmps5
    go_wp2_with (first | (go_at_call 10; refine (lives_any _ hT).mono ?_; rintro e w1 ⟨rfl, hb⟩))
    go_ret
    exact ⟨rfl, hb⟩
  · have hbig' : decide ((65536 : Int) < (n1 : Int)) = false := by simp; omega
    go_enter Tryd.func5, Tryd.ntmps5
    go_wp2_with fail
    refine (lives_any _ hT).mono ?_
    rintro e w1 ⟨rfl, hb⟩
    have T1 := hT.below hb
    have i1 := later hi1 hb
    go_wp2_with fail
    refine (copied3_any _ _ _ x1 _ HX.out i1 (by omega)).mono ?_
    intro e w2 m2
    obtain ⟨A2, c2, rfl, k2, j2, b2⟩ := m2.read HX.out
    have T2 := T1.below b2
    have i2 := later i1 b2
    clear m2 i1 T1
    go_wp2_with fail
    refine (check_any a0 _ n1 _ x1 _ w0 HX.out k2 hb1 j2 (by omega) T2).mono ?_
    intro e w3 m3
    obtain ⟨A3, c3, rfl, j3, b3⟩ := m3.get HR.out HM.out
    have T3 := T2.below b3
    have i3 := later i2 b3
    have h3 := thenB (thenB hb b2) b3
    clear m3 i2 T2 j2 b3 b2 hb
    go_wp2_with fail
    refine (rcheck_any a0 _ n1 _ x1 _ w0 HX.out hc1 hb1 i3 (by omega)).mono ?_
    intro e w4 m4
    obtain ⟨A4, c4, rfl, j4, b4⟩ := m4.get HR.out HM.out
    have T4 := T3.below b4
    have i4 := later i3 b4
    have h4 := thenB h3 b4
    have j3 := later j3 b4
    clear m4 i3 T3 b4 h3
    go_wp2_with fail
    refine (copied3_any _ _ _ x1 _ HX.out i4 (by omega)).mono ?_
    intro e w5 m5
    obtain ⟨A5, c5, rfl, k5, j5, b5⟩ := m5.read HX.out
    have T5 := T4.below b5
    have i5 := later i4 b5
    have h5 := thenB h4 b5
    have j3 := later j3 b5
    have j4 := later j4 b5
    clear m5 i4 T4 b5 h4
    go_wp2_with fail
    refine (append_any a0 _ n1 _ x1 _ w0 HX.out hb1 j5 (by omega) T5).mono ?_
    intro e w6 m6
    obtain ⟨A6, c6, rfl, k6, j6, b6⟩ := m6.read HA.out
    have i6 := later i5 b6
    have h6 := thenB h5 b6
    have j3 := later j3 b6
    have j4 := later j4 b6
    clear m6 i5 T5 b6 h5 j5
    go_wp2_with fail
    refine (rappend_any a0 _ n1 _ x1 _ w0 HX.out hb1 i6 (by omega)).mono ?_
    intro e w7 m7
    obtain ⟨A7, c7, rfl, k7, j7, b7⟩ := m7.read HA.out
    have h7 := thenB h6 b7
    have j3 := later j3 b7
    have j4 := later j4 b7
    have j6 := later j6 b7
    clear m7 i6 b7 h6
    go_wp2_with fail
    refine (same_to (b := true) (by simp) HA.out HA.out hab hab j6 j7).mono ?_
    rintro e w8 ⟨rfl, rfl⟩
    go_wp2_with fail
    refine (same_to (b := true) (by simp) HM.out HM.out hcb hcb j3 j4).mono ?_
    rintro e w9 ⟨rfl, rfl⟩
    go_wp2_with fail
    go_ret
    exact ⟨rfl, h7⟩
end Go.Proofs.YthpbnipjopjfeaaDoor.Crc
