/- Data PDUs: the PDU of bytes, by the layer and the document: contracts over the program. -/
import Derived.Test.YtakfjemkgajehaaDpEnc
import Derived.Laws.Tables
import Derived.Laws.Rows
set_option linter.unusedVariables false
set_option linter.unusedSimpArgs false
namespace Go.Proofs.Ytakfjemkgajehaa.Dp
open Go.RowKit Mem Oct Rw
open Base (thenB)

theorem and_3 : ∀ h : Fin 256, bits BinOp.and IntKind.u8 (h.val : Int) 3 = (h.val : Int) % 4 := by decide +kernel
theorem and_e0 : ∀ h : Fin 256, (bits BinOp.and IntKind.u8 (h.val : Int) 224 != 0) = decide (32 ≤ (h.val : Int)) := by decide +kernel
theorem and_1a : ∀ h : Fin 256, bits BinOp.and IntKind.u8 ((h.val : Int) / 8) 1 = (h.val : Int) / 8 % 2 := by decide +kernel
theorem and_1b : ∀ h : Fin 256, bits BinOp.and IntKind.u8 ((h.val : Int) / 4) 1 = (h.val : Int) / 4 % 2 := by decide +kernel
theorem and_1c : ∀ h : Fin 256, bits BinOp.and IntKind.u8 ((h.val : Int) / 16) 1 = (h.val : Int) / 16 % 2 := by decide +kernel
theorem two_of {xs : List Int} {n : Nat} (hx : xs.length = n) (hn : ¬ n < 2) : ∃ h z r, xs = h :: z :: r ∧ r.length + 2 = n := by
  match xs, hx with
  | h :: z :: r, hx => exact ⟨h, z, r, rfl, by simpa using hx⟩
  | [x], hx => simp at hx; omega
  | [], hx => simp at hx; omega
theorem form_short {xs : List Int} (h : xs.length < 2) : formR xs = 3 := by
  match xs, h with
  | [], _ => rfl
  | [x], _ => rfl
  | _ :: _ :: _, h => simp at h; omega
theorem fN1 {h z : Int} {n : Nat} (a : 32 ≤ h) : formN h z n = 2 := by unfold formN; rw [if_pos a]
theorem fN2 {h z : Int} {n : Nat} (a : ¬ 32 ≤ h) (b : h % 4 = 0) : formN h z n = 12 := by unfold formN; rw [if_neg a, if_pos b]
theorem fN3 {h z : Int} {n : Nat} (a : ¬ 32 ≤ h) (b : ¬ h % 4 = 0) (c : z = 0 ∧ h % 4 ≠ 1) : formN h z n = 1 := by unfold formN; rw [if_neg a, if_neg b, if_pos c]
theorem fN4 {h z : Int} {n : Nat} (a : ¬ 32 ≤ h) (b : ¬ h % 4 = 0) (c : ¬ (z = 0 ∧ h % 4 ≠ 1)) (d : (n : Int) < z) : formN h z n = 3 := by unfold formN; rw [if_neg a, if_neg b, if_neg c, if_pos d]
theorem fN5 {h z : Int} {n : Nat} (a : ¬ 32 ≤ h) (b : ¬ h % 4 = 0) (c : ¬ (z = 0 ∧ h % 4 ≠ 1)) (d : ¬ (n : Int) < z) (e : z < n) : formN h z n = 2 := by unfold formN; rw [if_neg a, if_neg b, if_neg c, if_neg d, if_pos e]
theorem fN6 {h z : Int} {n : Nat} (a : ¬ 32 ≤ h) (b : ¬ h % 4 = 0) (c : ¬ (z = 0 ∧ h % 4 ≠ 1)) (d : ¬ (n : Int) < z) (e : ¬ z < n) : formN h z n = 0 := by unfold formN; rw [if_neg a, if_neg b, if_neg c, if_neg d, if_neg e]
set_option maxHeartbeats 4000000 in
theorem form_any (A : Option Addr) (n c : Nat) (xs : List Int) (w : World) (hx : xs.length = n) (hn : n ≤ 140737488351232) (bx : Bytes xs) (hr : Ints .u8 w w.heap.size A xs) :
    Calls Try.prog 48 #[.slice A n c] w fun e w' => e = .returned (.int .i64 (formR xs)) ∧ Below w.heap.size w w' := by
  have BD : Below w.heap.size w w.drew := (Below.refl _ _).drew
  by_cases hs : n < 2
  · have HF : Hid (formR xs = 3) := Lib.hid (form_short (by omega))
    rw [HF.out]
    have g1 : (n : Int) < 2 := by omega
    clear hr hx bx
    go_enter Try.func48, Try.ntmps48
    go_wp2_with fail
    go_ret
    exact ⟨rfl, Below.refl _ _⟩
  · obtain ⟨h, z, r, rfl, hrl⟩ := two_of hx hs
    obtain ⟨b, off, rfl, hb, hc⟩ := hr.at_ (i := 0) (by simp)
    have c0 := hc 0 (by simp)
    have c1 := hc 1 (by simp)
    have bh := bx h (by simp)
    have bz := bx z (by simp)
    obtain ⟨y, hy⟩ : ∃ y : Fin 256, (y.val : Int) = h := of_fin (by omega)
    have q1 := and_3 y
    have q2 := and_e0 y
    rw [hy] at q1 q2
    simp only [List.getD_cons_zero, List.getD_cons_succ, Nat.add_zero] at c0 c1
    have g0 : ¬ (n : Int) < 2 := by omega
    have g1 : (0 : Int) < (n : Int) ∧ (1 : Int) < (n : Int) ∧ 0 < n ∧ 1 < n := by omega
    have e2 : IntKind.i64.wrap (2 + z) = 2 + z := by rw [IntWalk.i64_in _ (by omega)]
    show Calls _ _ _ _ fun e w' => e = .returned (.int .i64 (formN h z r.length)) ∧ _
    obtain ⟨m, hm⟩ : ∃ m, r.length = m := ⟨_, rfl⟩
    rw [hm]
    by_cases k1 : 32 ≤ h
    · rw [fN1 k1]
      rw [decide_eq_true k1] at q2
      clear hc hr hx bx hy y hrl
      go_enter Try.func48, Try.ntmps48
      go_wp2_with fail
      go_region
      all_goals
        go_wp2_with fail
        go_ret
        exact ⟨rfl, BD⟩
    · rw [decide_eq_false k1] at q2
      by_cases k2 : h % 4 = 0
      · rw [fN2 k1 k2]
        rw [k2] at q1
        clear hc hr hx bx hy y hrl k1 k2
        go_enter Try.func48, Try.ntmps48
        go_wp2_with fail
        go_region
        all_goals
          go_wp2_with fail
          go_ret
          exact ⟨rfl, BD⟩
      · by_cases k3 : z = 0 ∧ h % 4 ≠ 1
        · rw [fN3 k1 k2 k3]
          have p1 : (h % 4 == 0) = false := by simpa using k2
          have p2 : (z == 0) = true := by simpa using k3.1
          have p3 : (h % 4 != 1) = true := by simpa using k3.2
          generalize h % 4 = t at *
          clear hc hr hx bx hy y hrl k1 k2 k3
          go_enter Try.func48, Try.ntmps48
          go_wp2_with fail
          go_region
          all_goals
            go_wp2_with fail
            go_ret
            exact ⟨rfl, BD⟩
        · have p1 : (h % 4 == 0) = false := by simpa using k2
          have p2 : (z == 0) = false ∨ (z == 0) = true ∧ (h % 4 != 1) = false := by
            by_cases hz : z = 0
            · right
              refine ⟨by simpa using hz, ?_⟩
              rcases Decidable.em (h % 4 = 1) with g | g
              · simp [g]
              · exact absurd ⟨hz, g⟩ k3
            · left; simpa using hz
          have d1 : (n : Int) = (m : Int) + 2 := by omega
          by_cases k4 : (m : Int) < z
          · rw [fN4 k1 k2 k3 k4]
            have p4 : (n : Int) < 2 + z := by omega
            generalize h % 4 = t at *
            clear hc hr hx bx hy y hrl k1 k2 k3 d1 k4
            rcases p2 with p2 | ⟨p2, p3⟩ <;>
            · go_enter Try.func48, Try.ntmps48
              go_wp2_with fail
              go_region
              all_goals
                go_wp2_with fail
                go_ret
                exact ⟨rfl, BD⟩
          · have p4 : ¬ (n : Int) < 2 + z := by omega
            by_cases k5 : z < (m : Int)
            · rw [fN5 k1 k2 k3 k4 k5]
              have p5 : 2 + z < (n : Int) := by omega
              generalize h % 4 = t at *
              clear hc hr hx bx hy y hrl k1 k2 k3 d1 k4 k5
              rcases p2 with p2 | ⟨p2, p3⟩ <;>
              · go_enter Try.func48, Try.ntmps48
                go_wp2_with fail
                go_region
                all_goals
                  go_wp2_with fail
                  go_ret
                  exact ⟨rfl, BD⟩
            · rw [fN6 k1 k2 k3 k4 k5]
              have p5 : ¬ 2 + z < (n : Int) := by omega
              generalize h % 4 = t at *
              clear hc hr hx bx hy y hrl k1 k2 k3 d1 k4 k5
              rcases p2 with p2 | ⟨p2, p3⟩ <;>
              · go_enter Try.func48, Try.ntmps48
                go_wp2_with fail
                go_region
                all_goals
                  go_wp2_with fail
                  go_ret
                  exact ⟨rfl, BD⟩
end Go.Proofs.Ytakfjemkgajehaa.Dp
