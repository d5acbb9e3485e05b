/- Small tests of the layer of the medium; comparisons by the library. -/
import Derived.Test.YtocmcjbhmjbmhaaAirRange
set_option linter.unusedVariables false
set_option linter.unusedSimpArgs false
namespace Go.Proofs.Ytocmcjbhmjbmhaa.Air
open Go.RowKit Mem Rw Base

def okDev (D z : Int) : Bool := decide (0 ≤ z) && decide (z < D)
def okCh (z : Int) : Bool := decide (0 ≤ z) && decide (z < 40)
def cmpI (a b : Int) : Int := if a < b then -1 else if b < a then 1 else 0
def orL : List Int → Int
  | [] => 0
  | x :: r => if x = 0 then orL r else x

theorem isdevice_any (D z : Int) (X Y Z : Value) (w : World) :
    Calls Try.prog 37 #[.agg #[.int .i64 D, X, Y, Z], .int .i64 z] w fun e w' => e = .returned (.bool (okDev D z)) ∧ Below w.heap.size w w' := by
  have B0 : Below w.heap.size w (w.alloc (.cells #[.int .i64 D, X, Y, Z] 34)) := (Below.refl _ w).alloc (Nat.le_refl _) _
  by_cases h : 0 ≤ z
  · have e : okDev D z = decide (z < D) := by unfold okDev; simp [h]
    rw [e]
    go_enter Try.func37, Try.ntmps37
    go_wp2_with fail
    go_ret
    exact ⟨rfl, B0⟩
  · have e : okDev D z = false := by unfold okDev; simp [h]
    rw [e]
    go_enter Try.func37, Try.ntmps37
    go_wp2_with fail
    go_ret
    exact ⟨rfl, B0⟩
theorem ischannel_any (z : Int) (w : World) :
    Calls Try.prog 57 #[.int .i64 z] w fun e w' => e = .returned (.bool (okCh z)) ∧ w = w' := by
  by_cases h : 0 ≤ z
  · have e : okCh z = decide (z < 40) := by unfold okCh; simp [h]
    rw [e]
    go_enter Try.func57, Try.ntmps57
    go_wp2_with fail
    go_ret
    exact ⟨rfl, rfl⟩
  · have e : okCh z = false := by unfold okCh; simp [h]
    rw [e]
    go_enter Try.func57, Try.ntmps57
    go_wp2_with fail
    go_ret
    exact ⟨rfl, rfl⟩
theorem isnan_any (z : Int) (w : World) :
    Calls Try.prog 65 #[.int .i64 z] w fun e w' => e = .returned (.bool false) ∧ w = w' := by
  go_enter Try.func65, Try.ntmps65
  go_wp2_with fail
  go_ret
  exact ⟨by simp, rfl⟩
theorem compare_any (a b : Int) (w : World) :
    Calls Try.prog 62 #[.int .i64 a, .int .i64 b] w fun e w' => e = .returned (.int .i64 (cmpI a b)) ∧ w = w' := by
  have HN := Lib.hid (fun z w => isnan_any z w)
  unfold cmpI
  by_cases h1 : a < b
  · rw [if_pos h1]
    go_enter Try.func62, Try.ntmps62
    go_wp2_with (go_at_call 65; refine (HN.out _ _).mono ?_; rintro e w' ⟨rfl, rfl⟩)
    go_ret
    exact ⟨rfl, rfl⟩
  · rw [if_neg h1]
    by_cases h2 : b < a
    · rw [if_pos h2]
      go_enter Try.func62, Try.ntmps62
      go_wp2_with (go_at_call 65; refine (HN.out _ _).mono ?_; rintro e w' ⟨rfl, rfl⟩)
      go_ret
      exact ⟨rfl, rfl⟩
    · rw [if_neg h2]
      go_enter Try.func62, Try.ntmps62
      go_wp2_with (go_at_call 65; refine (HN.out _ _).mono ?_; rintro e w' ⟨rfl, rfl⟩)
      go_ret
      exact ⟨rfl, rfl⟩
theorem or_any (A : Option Addr) (n c : Nat) (zs : List Int) (w : World) (hz : zs.length = n) (hr : Ints .i64 w w.heap.size A zs) (hn : n ≤ 1000) :
    Calls Try.prog 61 #[.slice A n c] w fun e w' => e = .returned (.int .i64 (orL zs)) ∧ w = w' := by
  have HN : Hid (∀ j, j < n → ∃ z, zs[j]? = some z ∧ zs.getD j 0 = z) := Lib.hid fun j h => by
    obtain ⟨z, h1, _⟩ := has hz h
    exact ⟨z, h1, by simp [List.getD, h1]⟩
  have HE : Hid (∀ j, n ≤ j → zs.drop j = []) := Lib.hid fun j h => List.drop_eq_nil_of_le (by omega)
  have HO : Hid (0 < n → ∃ b off, A = some ⟨b, off, none⟩ ∧ ∀ j, j < n → w.cell? ⟨b, off + j, none⟩ = some (.int .i64 (zs.getD j 0))) := Lib.hid fun h0 => by
    obtain ⟨b, off, e, _, hc⟩ := hr.at_ (i := 0) (by omega)
    exact ⟨b, off, e, fun j hj => hc j (by omega)⟩
  have HS : Hid (∀ (j : Nat) z r, zs[j]? = some z → orL (zs.drop j) = r → (z ≠ 0 → r = z) ∧ (z = 0 → orL (zs.drop (j + 1)) = r)) := Lib.hid fun j z r h he => by
    rw [drop_at h, orL] at he
    exact ⟨fun h0 => by rw [if_neg h0] at he; exact he.symm, fun h0 => by rw [if_pos h0] at he; exact he⟩
  generalize hr0 : orL zs = r at *
  have hr1 : Hid (orL (zs.drop 0) = r) := Lib.hid (by rw [List.drop_zero]; exact hr0)
  clear hz hr hr0
  go_enter Try.func61, Try.ntmps61
  go_wp2_with fail
  go_loopw [5, 8] (fun _ s8 wr => ∃ j : Nat, j ≤ n ∧ s8 = .int .i64 j ∧ Hid (orL (zs.drop j) = r) ∧ w = wr) (fun _ s8 _ => n - (intOf s8).toNat)
  case atStart => exact ⟨0, by omega, rfl, hr1, rfl⟩
  case round =>
    obtain ⟨j, hj, rfl, hno, rfl⟩ := hrel
    clear hr1
    by_cases c1 : j < n
    · obtain ⟨z, hzj, hzd⟩ := HN.out j c1
      have hst := HS.out j z r hzj hno.out
      obtain ⟨b, off, rfl, hc⟩ := HO.out (by omega)
      have h0 := hc j c1
      rw [hzd] at h0
      clear hc HN HE HS HO hzj hzd
      have g1 : (0 : Int) ≤ (j : Int) ∧ (j : Int) < (n : Int) := by omega
      by_cases e0 : z = 0
      · have e := Lib.hid (hst.2 e0)
        clear hst
        subst e0
        go_wp2_with fail
        go_round
        case measure => simp [intOf]; omega
        case rel => exact ⟨j + 1, by omega, by go_num, e, trivial⟩
      · have e := Lib.hid (hst.1 e0)
        clear hst
        have e0' : (z != 0) = true := by simpa using e0
        go_wp2_with fail
        go_ret
        exact ⟨Ser.ret_int e.out.symm, rfl⟩
    · have e : Hid (r = 0) := Lib.hid (by have := hno.out; rw [HE.out j (by omega)] at this; exact this.symm)
      clear HN HE HS HO
      have : ¬ ((j : Int) < (n : Int)) := by omega
      go_wp2_with fail
      go_ret
      exact ⟨Ser.ret_int e.out.symm, rfl⟩
end Go.Proofs.Ytocmcjbhmjbmhaa.Air
