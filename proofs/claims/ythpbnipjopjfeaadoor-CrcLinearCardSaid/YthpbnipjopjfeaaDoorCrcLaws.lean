/- The statements on checksums, walked: the first of them. -/
import Derived.Test.YthpbnipjopjfeaaDoorCrcCheck
import Derived.Test.YthpbnipjopjfeaaDoorCrcFlip
set_option linter.unusedVariables false
set_option linter.unusedSimpArgs false
namespace Go.Proofs.YthpbnipjopjfeaaDoor.Crc
open Go.RowKit Mem Oct Base

theorem Gives.get {w w' : World} {e : Ending} {r : List Int × Int} (h : Gives w w' e r) {l : List Int} {n : Nat} {k : Int} (hr : r = (l, k)) (hl : l.length = n) : ∃ A c, e = .returned (.tuple #[.slice A n c, .int .i64 k]) ∧ Ints .u8 w' w'.heap.size A l ∧ Below w.heap.size w w' := by
  subst hr; subst hl; exact h
theorem f1 : chkR (ini 0) [128, 0, 96, 218] = ([128], 0) := by decide +kernel
theorem f2 : chkR (ini 0) [128, 0, 96, 219] = ([], 10) := by decide +kernel
theorem f3 : sumN (ini 5592405) [] = 5592405 ∧ sumN (ini 16777216) [] = 0 ∧ sumN (ini 0) [128] = 14311424 ∧ sumN (ini 0) [1] = 111808 ∧ ticks (8 * lim 1) (ini 1) = 111808 := by decide +kernel
theorem f4 : appL (ini 0) [128] = [128, 0, 96, 218] := by decide +kernel
theorem sum_to {v : Int} {r : Int} {A : Option Addr} {n c : Nat} {w : World} (zs : List Int) (hr : 0 ≤ r ∧ r ≤ 4294967295) (hz : zs.length = n) (bz : Bytes zs) (hi : Ints .u8 w w.heap.size A zs) (hn : n ≤ 140737488351232) (hT : Tab w) (hv : ((sumN (ini r) zs : Nat) : Int) = v) :
    Calls Tryd.prog 11 #[.int .u32 r, .slice A n c] w fun e w' => e = .returned (.int .u32 v) ∧ w = w' := by
  rw [← hv]; exact (sum_any r A n c zs w hr hz bz hi hn hT).mono fun e w' h => h
theorem rsum_to {v : Int} {r : Int} {A : Option Addr} {n c : Nat} {w : World} (zs : List Int) (hr : 0 ≤ r ∧ r ≤ 4294967295) (hz : zs.length = n) (bz : Bytes zs) (hi : Ints .u8 w w.heap.size A zs) (hn : n ≤ 140737488351232) (hv : ((sumN (ini r) zs : Nat) : Int) = v) :
    Calls Tryd.prog 13 #[.int .u32 r, .slice A n c] w fun e w' => e = .returned (.int .u32 v) ∧ w = w' := by
  rw [← hv]; exact (rsum_any r A n c zs w hr hz bz hi hn).mono fun e w' h => h
theorem shift_to {v : Int} {r n : Int} {w : World} (hr : 0 ≤ r ∧ r ≤ 4294967295) (hn : -9223372036854775808 ≤ n ∧ n ≤ 9223372036854775807) (hT : Tab w) (hv : ((ticks (8 * lim n) (ini r) : Nat) : Int) = v) :
    Calls Tryd.prog 14 #[.int .u32 r, .int .i64 n] w fun e w' => e = .returned (.int .u32 v) ∧ w = w' := by
  rw [← hv]; exact (shift_any r n w hr hn hT).mono fun e w' h => h
theorem rshift_to {v : Int} {r n : Int} {w : World} (hr : 0 ≤ r ∧ r ≤ 4294967295) (hn : -9223372036854775808 ≤ n ∧ n ≤ 9223372036854775807) (hv : ((ticks (8 * lim n) (ini r) : Nat) : Int) = v) :
    Calls Tryd.prog 15 #[.int .u32 r, .int .i64 n] w fun e w' => e = .returned (.int .u32 v) ∧ w = w' := by
  rw [← hv]; exact (rshift_any r n w hr hn).mono fun e w' h => h
theorem lives_any (w : World) (hT : Tab w) : Calls Tryd.prog 10 #[] w fun e w' => e = .returned (.bool true) ∧ Below w.heap.size w w' := by
  obtain ⟨s1, s2, s3, s4, s5⟩ := f3
  have S1 := Lib.hid s1
  have S2 := Lib.hid s2
  have S3 := Lib.hid s3
  have S4 := Lib.hid s4
  have S5 := Lib.hid s5
  clear s1 s2 s3 s4 s5
  go_enter Tryd.func10, Tryd.ntmps10
  go_wp2_with fail
  refine (check_any 0 _ 4 4 [128, 0, 96, 218] _ (by omega) rfl (by omega) (bytes_lit _ (by decide)) (by exact lit1 .u8 _ [128, 0, 96, 218] _ _ rfl) (by omega) (hT.alloc _)).mono ?_
  intro e w1 m1
  obtain ⟨A1, c1, rfl, j1, b1⟩ := m1.get f1 rfl
  have hb1 := alloc1 _ _ b1
  have T1 := hT.below hb1
  clear m1 b1 hT
  go_wp2_with fail
  refine (check_any 0 _ 4 4 [128, 0, 96, 219] _ (by omega) rfl (by omega) (bytes_lit _ (by decide)) (by exact lit1 .u8 _ [128, 0, 96, 219] _ _ rfl) (by omega) (T1.alloc _)).mono ?_
  intro e w2 m2
  obtain ⟨A2, c2, rfl, j2, b2⟩ := m2.get f2 rfl
  have k2 := alloc1 _ _ b2
  have T2 := T1.below k2
  have hb2 := thenB hb1 k2
  have j1 := later j1 k2
  clear m2 b2 j2 k2 hb1 T1
  go_wp2_with fail
  refine (sum_to (v := 5592405) (r := 5592405) [] (by omega) rfl (bytes_lit _ (by decide)) (Ints.nil_ _) (by decide) T2 (by rw [S1.out]; rfl)).mono ?_
  rintro e w3 ⟨rfl, rfl⟩
  go_wp2_with fail
  refine (sum_to (v := 0) (r := 16777216) [] (by omega) rfl (bytes_lit _ (by decide)) (Ints.nil_ _) (by decide) T2 (by rw [S2.out]; rfl)).mono ?_
  rintro e w3 ⟨rfl, rfl⟩
  go_wp2_with fail
  refine (sum_to (v := 14311424) (r := 0) [128] (by omega) rfl (bytes_lit _ (by decide)) (by exact lit1 .u8 _ [128] _ _ rfl) (by decide) (T2.alloc _) (by rw [S3.out]; rfl)).mono ?_
  rintro e w3 ⟨rfl, rfl⟩
  have T3 := T2.alloc (.cells #[.int .u8 128] 5)
  have k3 := (Below.refl w2.heap.size w2).alloc (Nat.le_refl _) (.cells #[.int .u8 128] 5)
  generalize w2.alloc (.cells #[.int .u8 128] 5) = w3 at *
  have hb3 := thenB hb2 k3
  have j1 := later j1 k3
  clear k3 hb2 T2
  go_wp2_with fail
  refine (sum_to (v := 111808) (r := 0) [1] (by omega) rfl (bytes_lit _ (by decide)) (by exact lit1 .u8 _ [1] _ _ rfl) (by decide) (T3.alloc _) (by rw [S4.out]; rfl)).mono ?_
  rintro e w4 ⟨rfl, rfl⟩
  have T4 := T3.alloc (.cells #[.int .u8 1] 5)
  have k4 := (Below.refl w3.heap.size w3).alloc (Nat.le_refl _) (.cells #[.int .u8 1] 5)
  generalize w3.alloc (.cells #[.int .u8 1] 5) = w4 at *
  have hb4 := thenB hb3 k4
  have j1 := later j1 k4
  clear k4 hb3 T3
  go_wp2_with fail
  refine (shift_to (v := 111808) (r := 1) (n := 1) (by omega) (by omega) T4 (by rw [S5.out]; rfl)).mono ?_
  rintro e w5 ⟨rfl, rfl⟩
  go_wp2_with fail
  refine (append_any 0 _ 1 _ [128] _ (by omega) rfl (bytes_lit _ (by decide)) (by exact lit1 .u8 _ [128] _ _ rfl) (by omega) (T4.alloc _)).mono ?_
  rw [f4]
  intro e w5 m5
  obtain ⟨A5, c5, rfl, k5, j5, b5⟩ := m5.read (n := 4) rfl
  have b5 := alloc1 _ _ b5
  have hb5 := thenB hb4 b5
  have j1 := later j1 b5
  clear m5 b5 hb4 T4
  go_wp2_with fail
  refine (same_to (b := true) (xs := [128, 0, 96, 218]) (ys := [128, 0, 96, 218]) (by decide) rfl rfl (bytes_lit _ (by decide)) (bytes_lit _ (by decide)) (by exact kept j5 _) (by exact lit1 .u8 _ [128, 0, 96, 218] _ _ rfl)).mono ?_
  rintro e w6 ⟨rfl, rfl⟩
  have k6 := (Below.refl w5.heap.size w5).alloc (Nat.le_refl _) (.cells #[.int .u8 128, .int .u8 0, .int .u8 96, .int .u8 218] 5)
  generalize w5.alloc (.cells #[.int .u8 128, .int .u8 0, .int .u8 96, .int .u8 218] 5) = w6 at *
  have hb6 := thenB hb5 k6
  have j1 := later j1 k6
  clear k6 hb5 j5
  go_wp2_with fail
  refine (same_to (b := true) (xs := [128]) (ys := [128]) (by decide) rfl rfl (bytes_lit _ (by decide)) (bytes_lit _ (by decide)) (by exact kept j1 _) (by exact lit1 .u8 _ [128] _ _ rfl)).mono ?_
  rintro e w7 ⟨rfl, rfl⟩
  have hb7 := hb6.alloc hb6.size (.cells #[.int .u8 128] 5)
  clear hb6 j1
  go_wp2_with fail
  go_ret
  exact ⟨rfl, hb7⟩
end Go.Proofs.YthpbnipjopjfeaaDoor.Crc
