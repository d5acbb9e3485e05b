/- The statement that bursts are detected, walked. -/
import Derived.Test.YthpbnipjopjfeaaDoorCrcLaws3
set_option linter.unusedVariables false
set_option linter.unusedSimpArgs false
namespace Go.Proofs.YthpbnipjopjfeaaDoor.Crc
open Go.RowKit Mem Oct Base

/-- A burst is detected. -/
theorem burst (q : Nat) (hq : q < 16777216) (s out : List Int) (hs : sumN q s = 0) (hl : out.length = s.length) (h3 : 3 ≤ s.length) (bo : Bytes out) (a p : Nat) (ha : a ≤ 8 * s.length) (hp : p < 2 ^ 24) (hp0 : p ≠ 0) (hn : num out = num s ^^^ 2 ^ a * p) : chkR q out = ([], 10) := by
  refine chkR_bad (by omega) fun e => ?_
  have h1 : out = appL q (out.take (out.length - 3)) := by
    unfold appL
    rw [← e, List.take_append_drop]
  have h2 : sumN q out = 0 := by
    rw [h1]; exact sum_app q hq (bytes_take bo _)
  rw [sumN_eq, hl, hn, ← Nat.xor_assoc, ticks_xor, ← sumN_eq, hs, Nat.zero_xor] at h2
  have h4 : 8 * s.length = (8 * s.length - a) + a := by omega
  rw [h4, ticks_add, ticks_shift] at h2
  exact ticks_ne _ _ hp hp0 h2
theorem law_detects (A0 : Option Addr) (n0 c0 : Nat) (x0 : List Int) (a1 a2 : Int) (w : World)
    (hx0 : x0.length = n0) (hc0 : n0 ≤ c0) (hi0 : Ints .u8 w w.heap.size A0 x0) (hb0 : Bytes x0) (hs0 : c0 * 1 ≤ 140737488351232)
    (u1 : -9223372036854775808 ≤ a1 ∧ a1 ≤ 9223372036854775807) (u2 : 0 ≤ a2 ∧ a2 ≤ 4294967295) (hT : Tab w) :
    Calls Tryd.prog 8 #[.slice A0 n0 c0, .int .i64 a1, .int .u32 a2] w fun e w' => e = .returned (.bool true) ∧ Below w.heap.size w w' := by
  obtain ⟨p, hp⟩ : ∃ p : Nat, a2 % 16777216 = (p : Int) := ⟨(a2 % 16777216).toNat, by omega⟩
  have hp24 : p < 16777216 := by omega
  have hq := ini_lt 5592405
  have HS := Lib.hid (sum_app (ini 5592405) hq hb0)
  have HX := Lib.hid hx0
  have HA : Hid ((appL (ini 5592405) x0).length = n0 + 3) := Lib.hid (by rw [appL_len, hx0])
  have hab := appL_bytes hq hb0
  generalize hgq : ini 5592405 = q at *
  have HQ := Lib.hid hgq
  clear hx0 hgq
  by_cases hbig : 4096 < n0
  · go_enter Tryd.func8, Tryd.ntmps8
    go_wp2_with (first | (go_at_call 10; refine (lives_any _ hT).mono ?_; rintro e w1 ⟨rfl, hb⟩))
    go_ret
    exact ⟨rfl, hb⟩
  have hbig' : decide ((4096 : Int) < (n0 : Int)) = false := by simp; omega
  by_cases hp0 : p = 0
  · have hz : (a2 % 16777216 == 0) = true := by simp; omega
    go_enter Tryd.func8, Tryd.ntmps8
    go_wp2_with (first | (go_at_call 10; refine (lives_any _ hT).mono ?_; rintro e w1 ⟨rfl, hb⟩))
    go_ret
    exact ⟨rfl, hb⟩
  have hz : (a2 % 16777216 == 0) = false := by simp; omega
  go_enter Tryd.func8, Tryd.ntmps8
  go_wp2_with fail
  refine (lives_any _ hT).mono ?_
  rintro e w1 ⟨rfl, h1⟩
  have T1 := hT.below h1
  have p1 := later hi0 h1
  clear hT hi0
  go_wp2_with fail
  generalize a2 % 16777216 = P at *
  subst hp
  refine (copied3_any _ _ _ x0 _ HX.out p1 (by omega)).mono ?_
  intro e w2 m2
  obtain ⟨A2, c2, rfl, k2, j2, b2⟩ := m2.read HX.out
  have T2 := T1.below b2
  have h2 := thenB h1 b2
  clear m2 T1 p1 b2 h1
  go_wp2_with fail
  refine (append_any 5592405 _ n0 _ x0 _ (by omega) HX.out hb0 j2 (by omega) T2).mono ?_
  rw [HQ.out]
  intro e w3 m3
  obtain ⟨A3, c3, rfl, k3, j3, b3⟩ := m3.read HA.out
  have T3 := T2.below b3
  have h3 := thenB h2 b3
  clear m3 T2 j2 b3 h2
  go_wp2_with fail
  refine (flip_any _ (n0 + 3) _ (appL q x0) a1 p _ HA.out hab j3 (by omega) u1 (by omega)).mono ?_
  rintro e w4 ⟨b4, (rfl | ⟨A4, c4, out, rfl, k4, l4, by4, j4, g1, g2, g3⟩)⟩
  · have h4 := thenB h3 b4
    go_wp2_with fail
    go_ret
    exact ⟨rfl, h4⟩
  · have T4 := T3.below b4
    have h4 := thenB h3 b4
    have l5 := l4.trans HA.out
    rw [HA.out] at k4 ⊢
    have HR : Hid (chkR q out = ([], 10)) := Lib.hid (burst q hq (appL q x0) out HS.out l4 (by rw [HA.out]; omega) by4 a1.toNat p g2 hp24 hp0 (by rw [g3, Nat.mod_eq_of_lt hp24]))
    clear T3 j3 b4 h3 l4 g1 g2 g3
    go_wp2_with fail
    refine (check_any 5592405 _ (n0 + 3) _ out _ (by omega) l5 k4 by4 j4 (by omega) T4).mono ?_
    rw [HQ.out]
    intro e w5 m5
    obtain ⟨A5, c5, rfl, j5, b5⟩ := m5.get HR.out (n := 0) rfl
    go_wp2_with fail
    go_ret
    exact ⟨rfl, thenB h4 b5⟩
end Go.Proofs.YthpbnipjopjfeaaDoor.Crc
