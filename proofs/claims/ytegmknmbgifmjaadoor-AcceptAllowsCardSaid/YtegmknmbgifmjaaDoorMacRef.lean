/- The specification of tags, key streams and sealing: what its functions return: contracts over the program. -/
import Derived.Test.YtegmknmbgifmjaaDoorMacWalks
import Derived.Test.YtegmknmbgifmjaaDoorBlkRef
set_option linter.unusedVariables false
set_option linter.unusedSimpArgs false
namespace Go.Proofs.YtegmknmbgifmjaaDoor.Mac
open Go.RowKit Mem Oct Blk Base

theorem rmix_to {k x v : Int} (w : World) (hk : 0 ≤ k ∧ k ≤ 18446744073709551615) (hx : 0 ≤ x ∧ x ≤ 18446744073709551615) (hv : mixZ k x = v) :
    Calls Tryd.prog 52 #[.int .u64 k, .int .u64 x] w fun e w' => e = .returned (.int .u64 v) ∧ Below w.heap.size w w' := by
  rw [← hv]; exact rmix_any k x w hk hx
theorem value_to {A : Option Addr} {n c : Nat} {v : Int} (xs : List Int) (w : World) (hx : xs.length = n) (bxs : Bytes xs) (hr : Ints .u8 w w.heap.size A xs) (hn : n ≤ 8) (hv : valL xs = v) :
    Calls Tryd.prog 53 #[.slice A n c] w fun e w' => e = .returned (.int .u64 v) ∧ w = w' := by
  rw [← hv]; exact value_any A n c xs w hx bxs hr hn
theorem rtag_any (k : Int) (A : Option Addr) (n c : Nat) (xs : List Int) (w : World) (hk : 0 ≤ k ∧ k ≤ 18446744073709551615) (hx : xs.length = n) (bxs : Bytes xs) (hnc : n ≤ c) (hc : c ≤ 9223372036854775807) (hn : n ≤ 140737488351232) (hI : Ints .u8 w w.heap.size A xs) :
    Calls Tryd.prog 48 #[.int .u64 k, .slice A n c] w fun e w' => e = .returned (.int .u64 (tagZ k xs)) ∧ Below w.heap.size w w' := by
  have HZ : Hid (mixZ k n = tagA k xs 0) := Lib.hid (by rw [← hx]; rfl)
  have HT : Hid (tagA k xs (ngr n) = tagZ k xs) := Lib.hid (by rw [← hx]; rfl)
  have hb := fun j => tagA_bd k bxs (by omega) j
  have HS : Hid (∀ j, mixZ k (bx (tagA k xs j) (grp xs j)) = tagA k xs (j + 1)) := Lib.hid fun j => rfl
  have hg := grp_bd bxs
  have HX := Lib.hid hx
  clear hx
  go_enter Tryd.func48, Tryd.ntmps48
  go_wp2_with (go_at_call 52; refine (rmix_to _ hk (by omega) HZ.out).mono ?_; clear HZ; rintro e w1 ⟨rfl, hb1⟩)
  go_loopw [5, 6] (fun x i wr => ∃ j : Nat, j ≤ ngr n ∧ i = .int .i64 (8 * j : Nat) ∧ x = .int .u64 (tagA k xs j) ∧ Below w.heap.size w wr) (fun _ i _ => n + 8 - (intOf i).toNat)
  case atStart => exact ⟨0, by omega, rfl, rfl, hb1⟩
  case round =>
    obtain ⟨j, hj, rfl, rfl, hbel⟩ := hrel
    by_cases c1 : 8 * j < n
    · obtain ⟨s, hs⟩ : ∃ s : Nat, min (8 * j + 8) n = s := ⟨_, rfl⟩
      have hmin : min ((8 * j : Nat) + 8 : Int) (n : Int) = (s : Int) := by omega
      have hmin2 : min (8 * (j : Int) + 8) (n : Int) = (s : Int) := by omega
      have hs1 : 8 * j < s := by omega
      have hs8 : s ≤ 8 * j + 8 := by omega
      have hsn : s ≤ n := by omega
      have hjn : j + 1 ≤ ngr n := by unfold ngr; omega
      have HD : Hid ((xs.drop (8 * j)).length = n - 8 * j) := Lib.hid (by rw [List.length_drop, HX.out])
      have HL : Hid (((xs.drop (8 * j)).take (s - 8 * j)).length = s - 8 * j) := Lib.hid (by rw [List.length_take, HD.out]; omega)
      have HV : Hid (valL ((xs.drop (8 * j)).take (s - 8 * j)) = grp xs j) := Lib.hid (by
        unfold grp
        by_cases h8 : s = 8 * j + 8
        · rw [show s - 8 * j = 8 by omega]
        · rw [List.take_of_length_le (by rw [HD.out]; omega), List.take_of_length_le (i := 8) (by rw [HD.out]; omega)])
      have hcut := ((later hI hbel).cut (c := c) (i := 8 * j) (by rw [HX.out]; omega) (by rw [HX.out]; omega)).pre (i := s - 8 * j)
      have hne : ¬ c = 8 * j := by omega
      rw [if_neg hne] at hcut
      have bt : Bytes ((xs.drop (8 * j)).take (s - 8 * j)) := bytes_take (bytes_drop bxs _) _
      have b1 := hb j
      have b2 := hg j
      have e1 := bx64_code _ _ b1 b2
      have b3 := bx64 _ _ b1 b2
      have HS1 := Lib.hid (HS.out j)
      clear hs
      generalize tagA k xs j = T at *
      generalize hT' : tagA k xs (j + 1) = T' at *
      have HT' := Lib.hid hT'
      clear hT'
      generalize (xs.drop (8 * j)).take (s - 8 * j) = Y at *
      generalize grp xs j = G at *
      generalize bx T G = M at *
      have g1 : (8 : Int) * (j : Int) < (n : Int) := by omega
      have g2 : (8 : Int) * (j : Int) ≤ (s : Int) := by omega
      have g3 : (s : Int) ≤ (c : Int) := by omega
      have g4 : (s : Int) ≤ (n : Int) := by omega
      go_wp2_with (first
        | (go_at_call 53; refine (value_to Y _ (by first | exact HL.out | (have := HL.out; omega)) bt hcut (by omega) HV.out).mono ?_; rintro e w' ⟨rfl, rfl⟩)
        | (go_at_call 52; refine (rmix_to _ hk b3 HS1.out).mono ?_; rintro e w2 ⟨rfl, hb2⟩))
      go_roundw
      case rel => exact ⟨j + 1, hjn, by go_num, by rw [HT'.out], hbel.trans (hb2.mono hbel.size)⟩
      case measure => simp [intOf]; omega
    · have hjn : j = ngr n := by unfold ngr at *; omega
      subst hjn
      have g1 : decide ((8 : Int) * (ngr n : Int) < (n : Int)) = false := by simp; omega
      go_wp2_with fail
      go_ret
      exact ⟨Ser.ret_int HT.out, hbel⟩
/-- The beginning of a row. -/
theorem own_pre {w : World} {base : Nat} {e : TypeId} {A : Option Addr} {m n c : Nat} {xs : List Value} (h : w.ownsRow base e 1 (.slice A m c) m xs) (hn : n ≤ m) : w.ownsRow base e 1 (.slice A n c) n (xs.take n) := by
  have hl := h.1
  refine ⟨by rw [List.length_take]; omega, ?_⟩
  rcases h.2 with ⟨hv, h0⟩ | ⟨g, cap, cur, hv, hbg, hg, hnc, hcm, hcs, htake⟩
  · injection hv with hA hm hc
    exact .inl ⟨by rw [hA, hc, show n = 0 by omega], by omega⟩
  · injection hv with hA hm hc
    exact .inr ⟨g, cap, cur, by rw [hA, hc], hbg, hg, by omega, hcm, hcs, by rw [← htake, List.take_take]; congr 1; omega⟩
end Go.Proofs.YtegmknmbgifmjaaDoor.Mac
