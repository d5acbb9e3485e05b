/- Opening: what the program's function returns: a contract over the program. -/
import Derived.Test.YtpdaeggjahcogaaMacWalks
set_option linter.unusedVariables false
set_option linter.unusedSimpArgs false
namespace Go.Proofs.Ytpdaeggjahcogaa.Mac
open Go.RowKit Mem Oct Blk Base

theorem open_any (k nonce : Int) (A A' : Option Addr) (n c n' c' : Nat) (hs ss : List Int) (w : World) (hk : 0 ≤ k ∧ k ≤ 18446744073709551615) (hx : 0 ≤ nonce ∧ nonce ≤ 18446744073709551615)
    (hl : hs.length = n) (bh : Bytes hs) (hr : Ints .u8 w w.heap.size A hs) (hn : n ≤ 35184372088832) (hl' : ss.length = n') (bs : Bytes ss) (hr' : Ints .u8 w w.heap.size A' ss) (hn' : n' ≤ 35184372088832) (hc' : n' ≤ c') (hcm : c' ≤ 9223372036854775807) :
    Calls Try.prog 22 #[.int .u64 k, .int .u64 nonce, .slice A n c, .slice A' n' c'] w fun e w' => Gives w w' e (openR k nonce hs ss) := by
  by_cases h4 : n' < 4
  · have HR := Lib.hid (openR_short k nonce hs ss (by omega))
    go_enter Try.func22, Try.ntmps22
    go_wp2_with fail
    go_ret2
    exact gives_of HR.out rfl rfl (World.ownsRow_nil _ _ _ _) (Below.refl _ _)
  obtain ⟨m, rfl⟩ : ∃ m, n' = m + 4 := ⟨n' - 4, by omega⟩
  have h4' : decide (((m + 4 : Nat) : Int) < 4) = false := by simp; omega
  have e4 : ((m + 4 : Nat) : Int) - 4 = (m : Int) := by omega
  have HT : Hid ((ss.take m).length = m) := Lib.hid (by rw [List.length_take]; omega)
  have HD : Hid ((ss.drop m).length = 4) := Lib.hid (by rw [List.length_drop]; omega)
  have bt := bytes_take bs m
  have bd := bytes_drop bs m
  have HE := Lib.hid (endL_len k nonce hs (ss.take m))
  have bE := endL_bytes k nonce hs (ss.take m)
  have hcut := hr'.cut (c := c') (i := m) (by omega) (by omega)
  have hne : ¬ c' = m := by omega
  rw [if_neg hne] at hcut
  have hpre : Ints .u8 w w.heap.size A' (ss.take m) := hr'.pre
  have g1 : (m : Int) ≤ (c' : Int) := by omega
  have g2 : (m : Int) ≤ ((m + 4 : Nat) : Int) := by omega
  have g0 : (0 : Int) ≤ (m : Int) := by omega
  have g3 : (m : Int) ≤ (m : Int) + 4 := by omega
  have g4 : ((m + 4 : Nat) : Int) ≤ (c' : Int) := by omega
  have g5 : (m : Int) + 4 ≤ (c' : Int) := by omega
  have hm0 : ss.length - 4 = m := by omega
  cases hq : decide (ss.drop m = endL k nonce hs (ss.take m))
  · have HR : Hid (openR k nonce hs ss = ([], 15)) := Lib.hid (openR_bad k nonce hs ss (by omega) (by rw [hm0]; exact of_decide_eq_false hq))
    have HQ := Lib.hid hq
    clear hq
    go_enter Try.func22, Try.ntmps22
    go_wp2_with fail
    have i1 : Ints .u8 w.drew w.drew.heap.size A hs := hr.drew
    have i2 : Ints .u8 w.drew w.drew.heap.size A' (ss.take m) := hpre.drew
    have i3 : Ints .u8 w.drew w.drew.heap.size (A'.map (·.add m)) (ss.drop m) := hcut.drew
    go_region_held3 (fun w' => True) (trivial) (first
      | (go_at_call 39; refine (equal_to HQ.out (by have := HD.out; omega) HE.out bd bE (by exact later i3 b1) j1).mono ?_; rintro e w' ⟨rfl, rfl⟩)
      | (go_at_call 36; refine (end_any k nonce A A' n c m c' hs (ss.take m) _ hk hx hl bh (by exact i1) hn HT.out bt (by exact i2) (by omega)).mono ?_; intro e w1 m1; obtain ⟨A1, c1, rfl, k1, x1, j1, b1⟩ := readm m1 HE.out; clear m1))
    all_goals go_wp2_with fail
    all_goals
      go_ret2
      exact gives_of HR.out rfl rfl (World.ownsRow_nil _ _ _ _) ((Below.refl w.heap.size w).drew.trans (b1.mono (by simp)))
  · have HR : Hid (openR k nonce hs ss = (cry k nonce (ss.take m), 0)) := Lib.hid (by rw [openR_good k nonce hs ss (by omega) (by rw [hm0]; exact of_decide_eq_true hq), hm0])
    have HL : Hid ((cry k nonce (ss.take m)).length = m) := Lib.hid (by rw [cry_len, HT.out])
    have HQ := Lib.hid hq
    clear hq
    go_enter Try.func22, Try.ntmps22
    go_wp2_with fail
    have i1 : Ints .u8 w.drew w.drew.heap.size A hs := hr.drew
    have i2 : Ints .u8 w.drew w.drew.heap.size A' (ss.take m) := hpre.drew
    have i3 : Ints .u8 w.drew w.drew.heap.size (A'.map (·.add m)) (ss.drop m) := hcut.drew
    go_region_held3 (fun w' => True) (trivial) (first
      | (go_at_call 39; refine (equal_to HQ.out (by have := HD.out; omega) HE.out bd bE (by exact later i3 b1) j1).mono ?_; rintro e w' ⟨rfl, rfl⟩)
      | (go_at_call 36; refine (end_any k nonce A A' n c m c' hs (ss.take m) _ hk hx hl bh (by exact i1) hn HT.out bt (by exact i2) (by omega)).mono ?_; intro e w1 m1; obtain ⟨A1, c1, rfl, k1, x1, j1, b1⟩ := readm m1 HE.out; clear m1))
    all_goals
      go_wp2_with (go_at_call 35; refine (crypt_any k nonce A' m c' (ss.take m) _ hk hx HT.out bt (by exact later i2 b1) (by omega)).mono ?_; intro e w2 m2; obtain ⟨A2, c2, rfl, o2, b2⟩ := m2.len HL.out; clear m2)
      go_ret2
      exact gives_of HR.out rfl HL.out (own_base o2 (by have := b1.size; simpa using this)) (((Below.refl w.heap.size w).drew.trans (b1.mono (by simp))).trans (b2.mono (by have := b1.size; simpa using this)))
end Go.Proofs.Ytpdaeggjahcogaa.Mac
