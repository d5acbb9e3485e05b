/- The statement that sums are continued, walked. -/
import Derived.Test.YthpbnipjopjfeaaDoorCrcLaws
set_option linter.unusedVariables false
set_option linter.unusedSimpArgs false
namespace Go.Proofs.YthpbnipjopjfeaaDoor.Crc
open Go.RowKit Mem Oct Base

theorem ini_nat (s : Nat) (h : s < 16777216) : ini (s : Int) = s := by unfold ini; omega
theorem sum_app (q : Nat) (hq : q < 16777216) {zs : List Int} (bz : Bytes zs) : sumN q (appL q zs) = 0 := by
  unfold appL
  rw [sumN_append, sum_tail _ (sumN_lt _ _ hq bz)]
theorem chk_app (q : Nat) (zs : List Int) : chkR q (appL q zs) = (zs, 0) := by
  have hl := appL_len q zs
  have h3 : (appL q zs).length - 3 = zs.length := by omega
  have ht : (appL q zs).take zs.length = zs := by simp [appL]
  have hd : (appL q zs).drop zs.length = tailL (sumN q zs) := by simp [appL]
  have := chkR_good (q := q) (zs := appL q zs) (by omega) (by rw [h3, hd, ht])
  rw [this, h3, ht]
theorem law_continues (a0 : Int) (A1 : Option Addr) (n1 c1 : Nat) (x1 : List Int) (A2 : Option Addr) (n2 c2 : Nat) (x2 : List Int) (w : World) (w0 : 0 ≤ a0 ∧ a0 ≤ 4294967295)
    (hx1 : x1.length = n1) (hc1 : n1 ≤ c1) (hi1 : Ints .u8 w w.heap.size A1 x1) (hb1 : Bytes x1) (hs1 : c1 * 1 ≤ 140737488351232)
    (hx2 : x2.length = n2) (hc2 : n2 ≤ c2) (hi2 : Ints .u8 w w.heap.size A2 x2) (hb2 : Bytes x2) (hs2 : c2 * 1 ≤ 140737488351232) (hT : Tab w) :
    Calls Tryd.prog 6 #[.int .u32 a0, .slice A1 n1 c1, .slice A2 n2 c2] w fun e w' => e = .returned (.bool true) ∧ Below w.heap.size w w' := by
  obtain ⟨i0, hi0, hz0, hz1, hz2⟩ := info_parts info_u8
  have hq := ini_lt a0
  have hsl : sumN (ini a0) x1 < 16777216 := sumN_lt _ _ hq hb1
  obtain ⟨v, hv⟩ : ∃ v : Int, ((sumN (ini a0) x1 : Nat) : Int) = v := ⟨_, rfl⟩
  have HV := Lib.hid hv
  have bv : 0 ≤ v ∧ v ≤ 4294967295 := by omega
  obtain ⟨u, hu⟩ : ∃ u : Int, ((sumN (ini a0) (x1 ++ x2) : Nat) : Int) = u := ⟨_, rfl⟩
  have HU := Lib.hid hu
  have HU2 : Hid (((sumN (ini v) x2 : Nat) : Int) = u) := Lib.hid (by rw [← hu, sumN_append, ← hv, ini_nat _ hsl])
  have HZ : Hid (((sumN (ini a0) (appL (ini a0) x1) : Nat) : Int) = 0) := Lib.hid (by rw [sum_app _ hq hb1]; rfl)
  have HC := Lib.hid (chk_app (ini a0) x1)
  have HX := Lib.hid hx1
  have HY := Lib.hid hx2
  have HW : Hid ((x1 ++ x2).length = n1 + n2) := Lib.hid (by rw [List.length_append, hx1, hx2])
  have hbw := bytes_append hb1 hb2
  have HA : Hid ((appL (ini a0) x1).length = n1 + 3) := Lib.hid (by rw [appL_len, hx1])
  have hab := appL_bytes hq hb1
  clear hv hu hx1 hx2 hsl hq
  by_cases hbig : 32768 < n1
  · go_enter Tryd.func6, Tryd.ntmps6
    go_wp2_with (first | (go_at_call 10; refine (lives_any _ hT).mono ?_; rintro e w1 ⟨rfl, hb⟩))
    go_ret
    exact ⟨rfl, hb⟩
  have hbig' : decide ((32768 : Int) < (n1 : Int)) = false := by simp; omega
  by_cases hbig2 : 32768 < n2
  · go_enter Tryd.func6, Tryd.ntmps6
    go_wp2_with (first | (go_at_call 10; refine (lives_any _ hT).mono ?_; rintro e w1 ⟨rfl, hb⟩))
    go_ret
    exact ⟨rfl, hb⟩
  have hbig2' : decide ((32768 : Int) < (n2 : Int)) = false := by simp; omega
  go_enter Tryd.func6, Tryd.ntmps6
  go_wp2_with fail
  refine (lives_any _ hT).mono ?_
  rintro e w1 ⟨rfl, h1⟩
  have T1 := hT.below h1
  have p1 := later hi1 h1
  have q1 := later hi2 h1
  clear hT hi1 hi2
  go_wp2_with fail
  refine (copied3_any _ _ _ x1 _ HX.out p1 (by omega)).mono ?_
  intro e w2 m2
  obtain ⟨B2, d2, rfl, o2, b2⟩ := m2.len HX.out
  have q2 := later q1 b2
  have z2 := b2.size
  clear m2
  go_wp2_with (at_builtin; refine wpList_append_ints rfl _ _ 23 rfl .u8 w1.heap.size 5 i0 _ 1 Tryd.underlying23 hi0 hz0 hz1 hz2 rfl _ n1 _ rfl o2 w2.heap.size A2 n2 c2 x2 rfl HY.out ?c1 ?c2 ?c3 ?c4 ?_; (case c1 => exact q2); (case c2 => unfold maxLen; omega); (case c3 => omega); (case c4 => exact z2); intro v3 w3 o3 b3' g3; obtain ⟨B3, d3, rfl⟩ := own_form o3)
  rw [← List.map_append] at o3
  have j3 := Ints.own o3
  have b3 := b2.trans b3'
  have T3 := T1.below b3
  have p3 := later p1 b3
  have q3 := later q1 b3
  have h3 := thenB h1 b3
  clear T1 p1 q1 q2 o2 b2 b3' g3 o3 z2 h1 b3
  have e12 : (n1 : Int) + (n2 : Int) = ((n1 + n2 : Nat) : Int) := by omega
  go_wp2_with fail
  refine (copied3_any _ _ _ x1 _ HX.out p3 (by omega)).mono ?_
  intro e w4 m4
  obtain ⟨B4, d4, rfl, k4, j4, b4⟩ := m4.read HX.out
  have T4 := T3.below b4
  have p4 := later p3 b4
  have q4 := later q3 b4
  have j3 := later j3 b4
  have h4 := thenB h3 b4
  clear m4 T3 p3 q3 b4 h3
  go_wp2_with fail
  refine (append_any a0 _ n1 _ x1 _ w0 HX.out hb1 j4 (by omega) T4).mono ?_
  intro e w5 m5
  obtain ⟨B5, d5, rfl, k5, j5, b5⟩ := m5.read HA.out
  have T5 := T4.below b5
  have p5 := later p4 b5
  have q5 := later q4 b5
  have j3 := later j3 b5
  have h5 := thenB h4 b5
  clear m5 T4 p4 q4 b5 h4 j4
  have e3 : (n1 : Int) + 3 = ((n1 + 3 : Nat) : Int) := by omega
  go_wp2_with fail
  refine (copied3_any _ _ _ (appL (ini a0) x1) _ HA.out j5 (by omega)).mono ?_
  intro e w6 m6
  obtain ⟨B6, d6, rfl, k6, j6, b6⟩ := m6.read HA.out
  have T6 := T5.below b6
  have p6 := later p5 b6
  have q6 := later q5 b6
  have j3 := later j3 b6
  have j5 := later j5 b6
  have h6 := thenB h5 b6
  clear m6 T5 p5 q5 b6 h5
  go_wp2_with fail
  refine (check_any a0 _ (n1 + 3) _ (appL (ini a0) x1) _ w0 HA.out k6 hab j6 (by omega) T6).mono ?_
  intro e w7 m7
  obtain ⟨B7, d7, rfl, j7, b7⟩ := m7.get HC.out HX.out
  have T7 := T6.below b7
  have p7 := later p6 b7
  have q7 := later q6 b7
  have j3 := later j3 b7
  have j5 := later j5 b7
  have h7 := thenB h6 b7
  clear m7 T6 p6 q6 b7 h6 j6
  go_wp2_with fail
  refine (copied3_any _ _ _ x1 _ HX.out p7 (by omega)).mono ?_
  intro e w8 m8
  obtain ⟨B8, d8, rfl, k8, j8, b8⟩ := m8.read HX.out
  have T8 := T7.below b8
  have p8 := later p7 b8
  have q8 := later q7 b8
  have j3 := later j3 b8
  have j5 := later j5 b8
  have j7 := later j7 b8
  have h8 := thenB h7 b8
  clear m8 T7 p7 q7 b8 h7
  go_wp2_with fail
  refine (sum_to x1 w0 HX.out hb1 j8 (by omega) T8 HV.out).mono ?_
  rintro e w9 ⟨rfl, rfl⟩
  go_wp2_with fail
  refine (copied3_any _ _ _ x2 _ HY.out q8 (by omega)).mono ?_
  intro e w9 m9
  obtain ⟨B9, d9, rfl, k9, j9, b9⟩ := m9.read HY.out
  have T9 := T8.below b9
  have p9 := later p8 b9
  have j3 := later j3 b9
  have j5 := later j5 b9
  have j7 := later j7 b9
  have h9 := thenB h8 b9
  clear m9 T8 p8 q8 b9 h8 j8
  go_wp2_with fail
  refine (sum_to x2 bv HY.out hb2 j9 (by omega) T9 HU2.out).mono ?_
  rintro e w10 ⟨rfl, rfl⟩
  go_wp2_with fail
  refine (sum_to (x1 ++ x2) w0 HW.out hbw j3 (by omega) T9 HU.out).mono ?_
  rintro e w10 ⟨rfl, rfl⟩
  go_wp2_with fail
  refine (sum_to (appL (ini a0) x1) w0 HA.out hab j5 (by omega) T9 HZ.out).mono ?_
  rintro e w10 ⟨rfl, rfl⟩
  go_wp2_with fail
  refine (same_to (b := true) (by simp) HX.out HX.out hb1 hb1 j7 p9).mono ?_
  rintro e w10 ⟨rfl, rfl⟩
  go_wp2_with fail
  go_ret
  exact ⟨rfl, h9⟩
end Go.Proofs.YthpbnipjopjfeaaDoor.Crc
