/- Searching a letter in the reference: contracts over the program. -/
import Derived.Test.YtchjopgcbpopcaaDoorAdrParse
set_option linter.unusedVariables false
set_option linter.unusedSimpArgs false
namespace Go.Proofs.YtchjopgcbpopcaaDoor.Adr
open Go.RowKit Mem Oct Base

theorem dgU_up (n : Nat) (c : Int) (h : n < 16) (e : hexU n = c) : dgU c = n := by rw [← e]; exact dgU_hexU n (by omega)
theorem dgU_none (c : Int) (h : ∀ j : Nat, j < 16 → hexU j ≠ c) : dgU c = -1 := by
  unfold dgU
  by_cases c1 : 48 ≤ c ∧ c ≤ 57
  · exfalso
    refine h (c - 48).toNat (by omega) ?_
    unfold hexU; rw [if_pos (by omega)]; omega
  · by_cases c2 : 65 ≤ c ∧ c ≤ 70
    · exfalso
      refine h (c - 55).toNat (by omega) ?_
      unfold hexU; rw [if_neg (by omega)]; omega
    · rw [if_neg c1, if_neg c2]
theorem finddig_any (x : Int) (w : World) (hx : 0 ≤ x ∧ x ≤ 255) :
    Calls Tryd.prog 40 #[.string { data := #[48, 49, 50, 51, 52, 53, 54, 55, 56, 57, 65, 66, 67, 68, 69, 70] }, .int .u8 x] w fun e w' => e = .returned (.int .i64 (dgU x)) ∧ w = w' := by
  go_enter Tryd.func40, Tryd.ntmps40
  go_wp2
  go_loop [5] (fun i => ∃ k : Nat, k ≤ 16 ∧ i = .int .i64 k ∧ ∀ j : Nat, j < k → hexU j ≠ x) (fun i => 16 - (intOf i).toNat)
  case atStart => exact ⟨0, by omega, rfl, fun j hj => by omega⟩
  case round =>
    obtain ⟨k, hk, rfl, hno⟩ := hrel
    have HN := Lib.hid hno
    clear hno
    by_cases c1 : k < 16
    · have g1 := up_at_nat k c1
      have g2 : 0 ≤ (k : Int) ∧ (k : Int) < 16 := by omega
      by_cases c2 : hexU k = x
      · have c3 : (hexU k == x) = true := by simpa using c2
        have HD := Lib.hid (dgU_up k x c1 c2)
        clear c2
        go_wp2
        go_ret
        exact ⟨Ser.ret_int HD.out.symm, rfl⟩
      · have c3 : (hexU k == x) = false := by simpa using c2
        have HC := Lib.hid c2
        clear c2
        go_wp2
        go_round
        case rel => exact ⟨k + 1, by omega, by go_num, fun j hj => by
          by_cases e : j = k
          · subst e; exact HC.out
          · exact HN.out j (by omega)⟩
        case measure => simp [intOf]; omega
    · have hkn : k = 16 := by omega
      subst hkn
      have HD := Lib.hid (dgU_none x HN.out)
      go_wp2
      go_ret
      exact ⟨Ser.ret_int HD.out.symm, rfl⟩
theorem psr_at (k : Nat) (h : k < 4) : ((({ data := #[112, 115, 114, 97] } : ByteArray)[k]'(by show k < 4; omega)).toNat : Int) = letZ (k + 1) := by
  match k, h with
  | 0, _ => rfl
  | 1, _ => rfl
  | 2, _ => rfl
  | 3, _ => rfl
theorem kind_up (n : Nat) (x : Int) (h : n < 4) (e : letZ ((n : Int) + 1) = x) : kindZ x - 1 = n := by rw [← e, kind_let _ (by omega)]; omega
theorem kind_none (x : Int) (h : ∀ j : Nat, j < 4 → letZ ((j : Int) + 1) ≠ x) : kindZ x - 1 = -1 := by
  have h0 := h 0 (by omega)
  have h1 := h 1 (by omega)
  have h2 := h 2 (by omega)
  have h3 := h 3 (by omega)
  simp [letZ] at h0 h1 h2 h3
  unfold kindZ; rw [if_neg (by omega), if_neg (by omega), if_neg (by omega), if_neg (by omega)]; rfl
theorem letU_bd (k : Nat) : 0 ≤ letZ ((k : Int) + 1) ∧ letZ ((k : Int) + 1) ≤ 255 := letZ_bd _
theorem findlet_any (x : Int) (w : World) (hx : 0 ≤ x ∧ x ≤ 255) :
    Calls Tryd.prog 40 #[.string { data := #[112, 115, 114, 97] }, .int .u8 x] w fun e w' => e = .returned (.int .i64 (kindZ x - 1)) ∧ w = w' := by
  go_enter Tryd.func40, Tryd.ntmps40
  go_wp2
  go_loop [5] (fun i => ∃ k : Nat, k ≤ 4 ∧ i = .int .i64 k ∧ ∀ j : Nat, j < k → letZ ((j : Int) + 1) ≠ x) (fun i => 4 - (intOf i).toNat)
  case atStart => exact ⟨0, by omega, rfl, fun j hj => by omega⟩
  case round =>
    obtain ⟨k, hk, rfl, hno⟩ := hrel
    have HN := Lib.hid hno
    clear hno
    by_cases c1 : k < 4
    · have g1 := psr_at k c1
      have g2 : 0 ≤ (k : Int) ∧ (k : Int) < 4 := by omega
      by_cases c2 : letZ ((k : Int) + 1) = x
      · have c3 : (letZ ((k : Int) + 1) == x) = true := by simpa using c2
        have HD := Lib.hid (kind_up k x c1 c2)
        clear c2
        go_wp2
        go_ret
        exact ⟨Ser.ret_int HD.out.symm, rfl⟩
      · have c3 : (letZ ((k : Int) + 1) == x) = false := by simpa using c2
        have HC := Lib.hid c2
        clear c2
        go_wp2
        go_round
        case rel => exact ⟨k + 1, by omega, by go_num, fun j hj => by
          by_cases e : j = k
          · subst e; exact HC.out
          · exact HN.out j (by omega)⟩
        case measure => simp [intOf]; omega
    · have hkn : k = 4 := by omega
      subst hkn
      have HD := Lib.hid (kind_none x HN.out)
      go_wp2
      go_ret
      exact ⟨Ser.ret_int HD.out.symm, rfl⟩
end Go.Proofs.YtchjopgcbpopcaaDoor.Adr
