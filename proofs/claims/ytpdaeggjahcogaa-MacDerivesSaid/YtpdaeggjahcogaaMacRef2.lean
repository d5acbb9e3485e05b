/- The specification of opening; keys that are derived, by the program and by the specification: contracts over the program. -/
import Derived.Test.YtpdaeggjahcogaaMacRef
import Derived.Test.YtpdaeggjahcogaaMacOpen
import Derived.Test.YtpdaeggjahcogaaMacFlds
import Derived.Lib.ConvBytes
set_option linter.unusedVariables false
set_option linter.unusedSimpArgs false
namespace Go.Proofs.Ytpdaeggjahcogaa.Mac
open Go.RowKit Mem Oct Blk Base

theorem ropen_any (k nonce : Int) (A A' : Option Addr) (n c n' c' : Nat) (hs ss : List Int) (w : World) (hk : 0 ≤ k ∧ k ≤ 18446744073709551615) (hx : 0 ≤ nonce ∧ nonce ≤ 18446744073709551615)
    (hl : hs.length = n) (bh : Bytes hs) (hr : Ints .u8 w w.heap.size A hs) (hn : n ≤ 35184372088832) (hl' : ss.length = n') (bs : Bytes ss) (hr' : Ints .u8 w w.heap.size A' ss) (hn' : n' ≤ 35184372088832) (hc' : n' ≤ c') (hcm : c' ≤ 9223372036854775807) :
    Calls Try.prog 23 #[.int .u64 k, .int .u64 nonce, .slice A n c, .slice A' n' c'] w fun e w' => Gives w w' e (openR k nonce hs ss) := by
  by_cases h4 : n' < 4
  · have HR := Lib.hid (openR_short k nonce hs ss (by omega))
    go_enter Try.func23, Try.ntmps23
    go_wp2_with fail
    go_ret2
    exact gives_of HR.out rfl rfl (World.ownsRow_nil _ _ _ _) (Below.refl _ _)
  obtain ⟨m, rfl⟩ : ∃ m, n' = m + 4 := ⟨n' - 4, by omega⟩
  have e4 : ((m + 4 : Nat) : Int) - 4 = (m : Int) := by omega
  have HT : Hid ((ss.take m).length = m) := Lib.hid (by rw [List.length_take]; omega)
  have HD : Hid ((ss.drop m).length = 4) := Lib.hid (by rw [List.length_drop]; omega)
  have bt := bytes_take bs m
  have bd := bytes_drop bs m
  have HE := Lib.hid (endL_len k nonce hs (ss.take m))
  have bE := endL_bytes k nonce hs (ss.take m)
  have hcut := hr'.cut (c := c') (i := m) (by omega) (by omega)
  have hne : ¬ c' = m := by omega
  rw [if_neg hne] at hcut
  have hpre : Ints .u8 w w.heap.size A' (ss.take m) := hr'.pre
  have g0 : (0 : Int) ≤ (m : Int) := by omega
  have g1 : (m : Int) ≤ (c' : Int) := by omega
  have g2 : (m : Int) ≤ ((m + 4 : Nat) : Int) := by omega
  have g3 : (m : Int) ≤ (m : Int) + 4 := by omega
  have g4 : ((m + 4 : Nat) : Int) ≤ (c' : Int) := by omega
  have g5 : (m : Int) + 4 ≤ (c' : Int) := by omega
  have hm0 : ss.length - 4 = m := by omega
  cases hq : decide (endL k nonce hs (ss.take m) = ss.drop m)
  · have HR : Hid (openR k nonce hs ss = ([], 15)) := Lib.hid (openR_bad k nonce hs ss (by omega) (by rw [hm0]; exact fun h => of_decide_eq_false hq h.symm))
    have HQ := Lib.hid hq
    clear hq
    go_enter Try.func23, Try.ntmps23
    go_wp2_with fail
    have i1 : Ints .u8 w.drew w.drew.heap.size A hs := hr.drew
    have i2 : Ints .u8 w.drew w.drew.heap.size A' (ss.take m) := hpre.drew
    have i3 : Ints .u8 w.drew w.drew.heap.size (A'.map (·.add m)) (ss.drop m) := hcut.drew
    go_region_held3 (fun w' => True) (trivial) (first
      | (go_at_call 17; refine (same_to HQ.out HE.out (by have := HD.out; omega) bE bd j1 (by exact later i3 b1)).mono ?_; rintro e w' ⟨rfl, rfl⟩)
      | (go_at_call 38; refine (rend_any k nonce A A' n c m c' hs (ss.take m) _ hk hx hl bh (by exact i1) hn HT.out bt (by exact i2) (by omega)).mono ?_; intro e w1 m1; obtain ⟨A1, c1, rfl, k1, x1, j1, b1⟩ := readm m1 HE.out; clear m1))
    all_goals go_wp2_with fail
    all_goals
      go_ret2
      exact gives_of HR.out rfl rfl (World.ownsRow_nil _ _ _ _) ((Below.refl w.heap.size w).drew.trans (b1.mono (by simp)))
  · have HR : Hid (openR k nonce hs ss = (cry k nonce (ss.take m), 0)) := Lib.hid (by rw [openR_good k nonce hs ss (by omega) (by rw [hm0]; exact (of_decide_eq_true hq).symm), hm0])
    have HL : Hid ((cry k nonce (ss.take m)).length = m) := Lib.hid (by rw [cry_len, HT.out])
    have HS := Lib.hid (strm_len k nonce m)
    have bS := strm_bytes k nonce m
    have HX : Hid (xorL (ss.take m) (strm k nonce m) = cry k nonce (ss.take m)) := Lib.hid (by unfold cry; rw [HT.out])
    have HQ := Lib.hid hq
    clear hq
    go_enter Try.func23, Try.ntmps23
    go_wp2_with fail
    have i1 : Ints .u8 w.drew w.drew.heap.size A hs := hr.drew
    have i2 : Ints .u8 w.drew w.drew.heap.size A' (ss.take m) := hpre.drew
    have i3 : Ints .u8 w.drew w.drew.heap.size (A'.map (·.add m)) (ss.drop m) := hcut.drew
    go_region_held3 (fun w' => True) (trivial) (first
      | (go_at_call 17; refine (same_to HQ.out HE.out (by have := HD.out; omega) bE bd j1 (by exact later i3 b1)).mono ?_; rintro e w' ⟨rfl, rfl⟩)
      | (go_at_call 38; refine (rend_any k nonce A A' n c m c' hs (ss.take m) _ hk hx hl bh (by exact i1) hn HT.out bt (by exact i2) (by omega)).mono ?_; intro e w1 m1; obtain ⟨A1, c1, rfl, k1, x1, j1, b1⟩ := readm m1 HE.out; clear m1))
    all_goals
      go_wp2_with (first
        | (go_at_call 34; refine (rstream_any k nonce m _ hk hx (by omega)).mono ?_; intro e w2 m2; obtain ⟨A2, c2, rfl, k2, x2, j2, b2⟩ := readm m2 HS.out; clear m2)
        | (go_at_call 37; refine (rxor_any A' A2 m m c' c2 (ss.take m) _ _ HT.out HS.out bt bS (later (later i2 b1) b2) j2 (by omega) (by omega)).mono ?_; rw [HX.out]; intro e w3 m3; obtain ⟨A3, c3, rfl, o3, b3⟩ := m3.len HL.out; clear m3))
      go_ret2
      have h2 := thenB b1 b2
      have hsz : w.heap.size ≤ w.drew.heap.size := Nat.le_refl _
      exact gives_of HR.out rfl HL.out (own_base o3 (Nat.le_trans hsz h2.size)) (((Below.refl w.heap.size w).drew.trans (h2.mono hsz)).trans (b3.mono (Nat.le_trans hsz h2.size)))
end Go.Proofs.Ytpdaeggjahcogaa.Mac
