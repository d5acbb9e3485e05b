/- The statement that whitening twice gives the bytes back, walked: it returns true. -/
import Derived.Test.YthpbnipjopjfeaaWhRef
import Derived.Deep.RegionHeld3
set_option linter.unusedVariables false
set_option linter.unusedSimpArgs false
namespace Go.Proofs.Ythpbnipjopjfeaa.Wh
open Go.RowKit Mem Oct Base

theorem law_inverse (a0 : Int) (A1 : Option Addr) (n1 c1 : Nat) (x1 : List Int) (a2 : Int) (w : World) (w0 : -9223372036854775808 ≤ a0 ∧ a0 ≤ 9223372036854775807)
    (hx1 : x1.length = n1) (hc1 : n1 ≤ c1) (hi1 : Ints .u8 w w.heap.size A1 x1) (hb1 : Bytes x1) (hs1 : c1 * 1 ≤ 140737488351232) (w2 : -9223372036854775808 ≤ a2 ∧ a2 ≤ 9223372036854775807) :
    Calls Try.prog 6 #[.int .i64 a0, .slice A1 n1 c1, .int .i64 a2] w fun e w' => e = .returned (.bool true) ∧ Below w.heap.size w w' := by
  have HX := Lib.hid hx1
  have HL : Hid ((appL a0 x1).length = n1) := Lib.hid (by rw [appL_len, hx1])
  have hbs := appL_bytes a0 hb1
  have HT := Lib.hid (appL_twice a0 hb1)
  obtain ⟨m, hm⟩ : ∃ m : Nat, max 0 (min a2 (n1 : Int)) = (m : Int) := ⟨(max 0 (min a2 (n1 : Int))).toNat, by omega⟩
  have hmn : m ≤ n1 := by omega
  have HP := Lib.hid (appL_take a0 x1 m (by omega))
  have HM : Hid ((x1.take m).length = m) := Lib.hid (by rw [List.length_take]; omega)
  have HM2 : Hid (((appL a0 x1).take m).length = m) := Lib.hid (by rw [List.length_take, appL_len]; omega)
  clear hx1
  by_cases hbig : 65536 < n1
  · go_enter Try.func6, Try.ntmps6
    go_wp2_with (first | (go_at_call 8; refine (lives_any _).mono ?_; rintro e w1 ⟨rfl, hb⟩))
    go_ret
    exact ⟨rfl, hb⟩
  · have hbig' : decide ((65536 : Int) < (n1 : Int)) = false := by simp; omega
    go_enter Try.func6, Try.ntmps6
    go_wp2_with (first | (go_at_call 8; refine (lives_any _).mono ?_; rintro e w1 ⟨rfl, hb⟩) | (go_at_call 15; refine (copied4_any _ _ _ x1 _ HX.out (later hi1 hb) (by omega)).mono ?_; intro e w2 m2; obtain ⟨A2, c2, rfl, k2, j2, b2⟩ := m2.read HX.out; clear m2) | (go_at_call 14; refine (apply_any _ _ _ _ x1 _ (by omega) HX.out hb1 j2 (by omega)).mono ?_; intro e w3 m3; obtain ⟨A3, c3, rfl, k3, j3, b3⟩ := m3.read HL.out; clear m3))
    have h2 := hb.trans (b2.mono hb.size)
    have h3 := h2.trans (b3.mono h2.size)
    have i3 : Ints .u8 w3.drew w3.drew.heap.size A1 x1 := (later hi1 h3).drew
    have j3 : Ints .u8 w3.drew w3.drew.heap.size A3 (appL a0 x1) := j3.drew
    have h3 : Below w.heap.size w w3.drew := h3.drew
    clear j2 b2 b3 hb h2
    generalize max 0 (min a2 (n1 : Int)) = M at *
    subst hm
    have g1 : (0 : Int) ≤ (m : Int) := by omega
    have g2 : (m : Int) ≤ (c1 : Int) := by omega
    have g3 : (m : Int) ≤ (c3 : Int) := by omega
    go_region_held3 (fun w' => True) (trivial) (first
      | (go_at_call 11; refine (same_to (A := A7) (b := true) (by simp) HM2.out HM2.out (bytes_take hbs m) (bytes_take hbs m) (by exact j7) (by exact (later (later (later (later j3 b4) b5) b6) b7).pre)).mono ?_; rintro e w7' ⟨rfl, rfl⟩)
      | (go_at_call 14; refine (apply_any a0 A6 m c6 (x1.take m) _ (by omega) HM.out (bytes_take hb1 m) (by exact j6) (by omega)).mono ?_; rw [HP.out]; intro e w7 m7; obtain ⟨A7, c7, rfl, k7, j7, b7⟩ := m7.read HM2.out; clear m7)
      | (go_at_call 15; refine (copied4_any A1 m c1 (x1.take m) _ HM.out (by exact (later (later i3 b4) b5).pre) (by omega)).mono ?_; intro e w6 m6; obtain ⟨A6, c6, rfl, k6, j6, b6⟩ := m6.read HM.out; clear m6)
      | (go_at_call 11; refine (same_to (A := A5) (b := true) (by simp) HX.out HX.out hb1 hb1 (by exact j5) (by exact later (later i3 b4) b5)).mono ?_; rintro e w5' ⟨rfl, rfl⟩)
      | (go_at_call 14; refine (apply_any a0 A4 n1 c4 (appL a0 x1) _ (by omega) HL.out hbs (by exact j4) (by omega)).mono ?_; rw [HT.out]; intro e w5 m5; obtain ⟨A5, c5, rfl, k5, j5, b5⟩ := m5.read HX.out; clear m5)
      | (go_at_call 15; refine (copied4_any A3 n1 c3 (appL a0 x1) _ HL.out (by exact j3) (by omega)).mono ?_; intro e w4 m4; obtain ⟨A4, c4, rfl, k4, j4, b4⟩ := m4.read HL.out; clear m4))
    all_goals go_wp2
    go_ret
    exact ⟨rfl, thenB (thenB (thenB (thenB h3 b4) b5) b6) b7⟩
end Go.Proofs.Ythpbnipjopjfeaa.Wh
