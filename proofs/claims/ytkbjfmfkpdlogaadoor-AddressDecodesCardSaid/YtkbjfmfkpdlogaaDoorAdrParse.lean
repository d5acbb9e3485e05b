/- Reading a text: digits, letters of kinds: contracts over the program. -/
import Derived.Test.YtkbjfmfkpdlogaaDoorAdrMake2
import Derived.Test.YtkbjfmfkpdlogaaDoorAdrTxt
import Derived.Lib.Bytealg
set_option linter.unusedVariables false
set_option linter.unusedSimpArgs false
namespace Go.Proofs.YtkbjfmfkpdlogaaDoor.Adr
open Go.RowKit Mem Oct Base

theorem index_up (c : Int) (hc : 0 ≤ c ∧ c ≤ 255) : Lib.indexByte [48, 49, 50, 51, 52, 53, 54, 55, 56, 57, 65, 66, 67, 68, 69, 70] c.toNat.toUInt8 = dgU c := by
  obtain ⟨n, rfl⟩ := Int.eq_ofNat_of_zero_le hc.1
  have hn : n < 256 := by omega
  have key : ∀ m : Fin 256, Lib.indexByte [48, 49, 50, 51, 52, 53, 54, 55, 56, 57, 65, 66, 67, 68, 69, 70] m.val.toUInt8 = dgU (m.val : Int) := by decide +kernel
  exact key ⟨n, hn⟩
theorem sidx_any (s : ByteArray) (c : Int) (w : World) :
    Calls Tryd.prog 68 #[.string s, .int .u8 c] w fun e w' => e = .returned (.int .i64 (Lib.indexByte s.data.toList c.toNat.toUInt8)) ∧ w = w' := by
  go_enter Tryd.func68, Tryd.ntmps68
  go_wp2
  rw [run_callFunc_extern Tryd.func72 (by kernel_rfl) (by kernel_rfl) (by kernel_rfl) (e := Extern.BytealgIndexByte.indexByte) (by kernel_rfl), Lib.run_indexByteString]
  simp only [Result.andThen]
  rw [Oper.upon_value]
  go_wp2
  go_ret
  exact ⟨rfl, rfl⟩
theorem idx_any (s : ByteArray) (c : Int) (w : World) :
    Calls Tryd.prog 60 #[.string s, .int .u8 c] w fun e w' => e = .returned (.int .i64 (Lib.indexByte s.data.toList c.toNat.toUInt8)) ∧ w = w' := by
  go_enter Tryd.func60, Tryd.ntmps60
  go_wp2_with (go_at_call 68; refine (sidx_any _ _ _).mono ?_; rintro e w' ⟨rfl, rfl⟩)
  go_ret
  exact ⟨rfl, rfl⟩
theorem digit_any (c : Int) (w : World) (hc : 0 ≤ c ∧ c ≤ 255) :
    Calls Tryd.prog 44 #[.int .u8 c] w fun e w' => e = .returned (.int .i64 (dgU c)) ∧ w = w' := by
  have H := Lib.hid (index_up c hc)
  go_enter Tryd.func44, Tryd.ntmps44
  go_wp2_with (go_at_call 60; refine (idx_any _ _ _).mono ?_; rintro e w' ⟨rfl, rfl⟩)
  go_ret
  exact ⟨Ser.ret_int H.out, rfl⟩
theorem kindOf_any (c : Int) (w : World) (hc : 0 ≤ c ∧ c ≤ 255) (hT : Tab w) :
    Calls Tryd.prog 45 #[.int .u8 c] w fun e w' => e = .returned (.int .i64 (kindZ c)) ∧ w = w' := by
  have t1 : w.cell? ⟨2, 1, none⟩ = some (.int .u8 112) := hT.2.2.2 1 (by decide)
  have t2 : w.cell? ⟨2, 2, none⟩ = some (.int .u8 115) := hT.2.2.2 2 (by decide)
  have t3 : w.cell? ⟨2, 3, none⟩ = some (.int .u8 114) := hT.2.2.2 3 (by decide)
  have t4 : w.cell? ⟨2, 4, none⟩ = some (.int .u8 97) := hT.2.2.2 4 (by decide)
  have hk : c = 112 ∨ c = 115 ∨ c = 114 ∨ c = 97 ∨ (¬ c = 112 ∧ ¬ c = 115 ∧ ¬ c = 114 ∧ ¬ c = 97) := by omega
  go_enter Tryd.func45, Tryd.ntmps45
  go_wp2
  go_loop [3] (fun i => ∃ k : Nat, 1 ≤ k ∧ k ≤ 5 ∧ i = .int .i64 k ∧ (2 ≤ k → ¬ c = 112) ∧ (3 ≤ k → ¬ c = 115) ∧ (4 ≤ k → ¬ c = 114) ∧ (5 ≤ k → ¬ c = 97)) (fun i => 5 - (intOf i).toNat)
  case atStart => exact ⟨1, by omega, by omega, rfl, by omega, by omega, by omega, by omega⟩
  case round =>
    obtain ⟨k, hk1, hk5, rfl, h1, h2, h3, h4⟩ := hrel
    have hkk : k = 1 ∨ k = 2 ∨ k = 3 ∨ k = 4 ∨ k = 5 := by omega
    clear hk
    have H1 := Lib.hid h1
    have H2 := Lib.hid h2
    have H3 := Lib.hid h3
    have H4 := Lib.hid h4
    clear h1 h2 h3 h4
    rcases hkk with rfl | rfl | rfl | rfl | rfl
    · by_cases e : c = 112
      · subst e
        go_wp2
        go_ret
        exact ⟨rfl, rfl⟩
      · have E := Lib.hid e
        have e' : ((112 : Int) == c) = false := by simp; omega
        clear e
        go_wp2
        go_round
        case rel => exact ⟨2, by omega, by omega, by go_num, fun _ => E.out, by omega, by omega, by omega⟩
        case measure => simp [intOf]
    · by_cases e : c = 115
      · subst e
        go_wp2
        go_ret
        exact ⟨rfl, rfl⟩
      · have E := Lib.hid e
        have e' : ((115 : Int) == c) = false := by simp; omega
        clear e
        go_wp2
        go_round
        case rel => exact ⟨3, by omega, by omega, by go_num, fun _ => H1.out (by omega), fun _ => E.out, by omega, by omega⟩
        case measure => simp [intOf]
    · by_cases e : c = 114
      · subst e
        go_wp2
        go_ret
        exact ⟨rfl, rfl⟩
      · have E := Lib.hid e
        have e' : ((114 : Int) == c) = false := by simp; omega
        clear e
        go_wp2
        go_round
        case rel => exact ⟨4, by omega, by omega, by go_num, fun _ => H1.out (by omega), fun _ => H2.out (by omega), fun _ => E.out, by omega⟩
        case measure => simp [intOf]
    · by_cases e : c = 97
      · subst e
        go_wp2
        go_ret
        exact ⟨rfl, rfl⟩
      · have E := Lib.hid e
        have e' : ((97 : Int) == c) = false := by simp; omega
        clear e
        go_wp2
        go_round
        case rel => exact ⟨5, by omega, by omega, by go_num, fun _ => H1.out (by omega), fun _ => H2.out (by omega), fun _ => H3.out (by omega), fun _ => E.out⟩
        case measure => simp [intOf]
    · have HX : Hid (kindZ c = 0) := Lib.hid (by unfold kindZ; rw [if_neg (H1.out (by omega)), if_neg (H2.out (by omega)), if_neg (H3.out (by omega)), if_neg (H4.out (by omega))])
      go_wp2
      go_ret
      exact ⟨Ser.ret_int HX.out.symm, rfl⟩
end Go.Proofs.YtkbjfmfkpdlogaaDoor.Adr
