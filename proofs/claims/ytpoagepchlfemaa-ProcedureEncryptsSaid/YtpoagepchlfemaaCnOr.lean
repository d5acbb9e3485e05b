/- The first error that is not OK; an error unless all conditions hold; numbers in a range. -/
import Derived.Test.YtpoagepchlfemaaCnTimes4
set_option linter.unusedVariables false
set_option linter.unusedSimpArgs false
namespace Go.Proofs.Ytpoagepchlfemaa.Cn
open Go.RowKit Mem Clk

def unl (x : Int) (bs : List Bool) : Int := if bs.all id = true then 0 else x
theorem unl_no {x : Int} {bs : List Bool} {k : Nat} (h : bs[k]? = some false) : unl x bs = x := by
  unfold unl
  rw [if_neg]
  intro ha
  rw [List.all_eq_true] at ha
  have := ha false (List.mem_of_getElem? h)
  simp at this
theorem unl_yes {x : Int} {bs : List Bool} (h : ∀ j, j < bs.length → bs[j]? = some true) : unl x bs = 0 := by
  unfold unl
  rw [if_pos]
  rw [List.all_eq_true]
  intro b hb
  obtain ⟨j, hj, he⟩ := List.getElem_of_mem hb
  have := h j hj
  rw [List.getElem?_eq_getElem hj, he] at this
  simpa using this
theorem unless_any (x : Int) (g n : Nat) (bs : List Bool) (w : World) (hn : bs.length = n) (hl : n ≤ 1000) (hc : ∀ j b, bs[j]? = some b → w.cell? ⟨g, j, none⟩ = some (.bool b)) :
    Calls Try.prog 101 #[.int .i64 x, .slice (some ⟨g, 0, none⟩) n n] w fun e w' => e = .returned (.int .i64 (unl x bs)) ∧ w = w' := by
  have HN := Lib.hid hn
  have HC := Lib.hid hc
  clear hn hc
  go_enter Try.func101, Try.ntmps101
  go_wp2_with fail
  go_loop [9] (fun i => ∃ k : Nat, k ≤ n ∧ i = .int .i64 k ∧ Hid (∀ j, j < k → bs[j]? = some true)) (fun i => n - (intOf i).toNat)
  case atStart => exact ⟨0, by omega, rfl, Lib.hid fun j h => by omega⟩
  case round =>
    obtain ⟨k, hk, rfl, H⟩ := hrel
    by_cases c1 : k < n
    · obtain ⟨b, hb⟩ : ∃ b, bs[k]? = some b := ⟨_, List.getElem?_eq_getElem (by rw [HN.out]; exact c1)⟩
      have f1 := HC.out k b hb
      have HB := Lib.hid hb
      clear hb
      cases b
      · have HR : Hid (unl x bs = x) := Lib.hid (unl_no HB.out)
        go_wp2_with fail
        go_ret
        exact ⟨by rw [HR.out]; rfl, rfl⟩
      · have H2 : Hid (∀ j, j < k + 1 → bs[j]? = some true) := Lib.hid fun j hj => by
          by_cases e : j = k
          · rw [e]; exact HB.out
          · exact H.out j (by omega)
        go_wp2_with fail
        go_round
        case rel => exact ⟨k + 1, by omega, by go_num, H2⟩
        case measure => simp [intOf]; omega
    · have HR : Hid (unl x bs = 0) := Lib.hid (unl_yes fun j hj => H.out j (by have := HN.out; omega))
      go_wp2_with fail
      go_ret
      exact ⟨by rw [HR.out]; rfl, rfl⟩
theorem or_any (g n : Nat) (xs : List Int) (w : World) (hn : xs.length = n) (hl : n ≤ 1000) (hc : ∀ j x, xs[j]? = some x → w.cell? ⟨g, j, none⟩ = some (.int .i64 x)) :
    Calls Try.prog 100 #[.slice (some ⟨g, 0, none⟩) n n] w fun e w' => e = .returned (.int .i64 (fst0 xs)) ∧ w = w' := by
  have HN := Lib.hid hn
  have HC := Lib.hid hc
  clear hn hc
  go_enter Try.func100, Try.ntmps100
  go_wp2_with fail
  go_loop [8] (fun i => ∃ k : Nat, k ≤ n ∧ i = .int .i64 k ∧ Hid (∀ y ∈ xs.take k, y = 0)) (fun i => n - (intOf i).toNat)
  case atStart => exact ⟨0, by omega, rfl, Lib.hid fun j h => by simp at h⟩
  case round =>
    obtain ⟨k, hk, rfl, H⟩ := hrel
    by_cases c1 : k < n
    · obtain ⟨x, hx⟩ : ∃ x, xs[k]? = some x := ⟨_, List.getElem?_eq_getElem (by rw [HN.out]; exact c1)⟩
      have f1 := HC.out k x hx
      have HX := Lib.hid hx
      clear hx
      by_cases h0 : x = 0
      · have q0 : (x != 0) = false := by simp [h0]
        have H2 : Hid (∀ y ∈ xs.take (k + 1), y = 0) := Lib.hid fun y hy => by
          have hlt : k < xs.length := by rw [HN.out]; exact c1
          rw [List.take_succ_eq_append_getElem hlt, List.mem_append] at hy
          rcases hy with hy | hy
          · exact H.out y hy
          · have := HX.out
            rw [List.getElem?_eq_getElem hlt] at this
            simp at this hy
            rw [hy, this, h0]
        clear h0
        go_wp2_with fail
        go_round
        case rel => exact ⟨k + 1, by omega, by go_num, H2⟩
        case measure => simp [intOf]; omega
      · have q0 : (x != 0) = true := by simp [h0]
        have HR : Hid (fst0 xs = x) := Lib.hid (fst0_at H.out HX.out h0)
        clear h0
        go_wp2_with fail
        go_ret
        exact ⟨by rw [HR.out]; rfl, rfl⟩
    · have HR : Hid (fst0 xs = 0) := Lib.hid (fst0_none fun y hy => H.out y (by rw [List.take_of_length_le (by have := HN.out; omega)]; exact hy))
      go_wp2_with fail
      go_ret
      exact ⟨by rw [HR.out]; rfl, rfl⟩
end Go.Proofs.Ytpoagepchlfemaa.Cn
