/- The statement that sums are linear, walked. -/
import Derived.Test.YthpbnipjopjfeaaDoorCrcLaws3
set_option linter.unusedVariables false
set_option linter.unusedSimpArgs false
namespace Go.Proofs.YthpbnipjopjfeaaDoor.Crc
open Go.RowKit Mem Oct Base

theorem num_xorL (a b : List Int) (h : a.length = b.length) : num (xorL a b) = num a ^^^ num b := by
  induction a generalizing b with
  | nil => cases b with
    | nil => rfl
    | cons y b => simp at h
  | cons x a ih => cases b with
    | nil => simp at h
    | cons y b =>
      have e : xorL (x :: a) (y :: b) = bx x y :: xorL a b := rfl
      rw [e, num, num, num, ih b (by simpa using h), mul256_xor]
      unfold bx
      rw [Int.toNat_natCast, xor4]
theorem sum_lin (p q : Nat) (a b : List Int) (h : a.length = b.length) : sumN p a ^^^ sumN q b = sumN (p ^^^ q) (xorL a b) := by
  have hl : (xorL a b).length = a.length := by rw [xorL_len]; omega
  rw [sumN_eq, sumN_eq, sumN_eq, hl, ← h, ← ticks_xor, num_xorL a b h, xor4]
theorem sum_apart (p : Nat) (a : List Int) : ticks (8 * a.length) p ^^^ sumN 0 a = sumN p a := by
  rw [sumN_eq, sumN_eq, ← ticks_xor, Nat.zero_xor]
theorem ini_xor (x y : Int) (hx : 0 ≤ x ∧ x ≤ 4294967295) (hy : 0 ≤ y ∧ y ≤ 4294967295) : ini (bits BinOp.xor IntKind.u32 x y) = ini x ^^^ ini y := by
  rw [u32_xor x y hx.1 (by omega) hy.1 (by omega)]
  unfold ini
  rw [Int.toNat_natCast]
  exact Nat.xor_mod_two_pow (n := 24)
theorem xor_u32 (x y : Int) (hx : 0 ≤ x ∧ x ≤ 4294967295) (hy : 0 ≤ y ∧ y ≤ 4294967295) : 0 ≤ bits BinOp.xor IntKind.u32 x y ∧ bits BinOp.xor IntKind.u32 x y ≤ 4294967295 := by
  rw [u32_xor x y hx.1 (by omega) hy.1 (by omega)]
  have : x.toNat ^^^ y.toNat < 2 ^ 32 := Nat.xor_lt_two_pow (by omega) (by omega)
  omega
theorem lim_of (n : Nat) (h : n ≤ 65536) : lim (n : Int) = n := by unfold lim; omega
theorem law_linear (A0 : Option Addr) (n0 c0 : Nat) (x0 : List Int) (A1 : Option Addr) (n1 c1 : Nat) (x1 : List Int) (s t : Int) (w : World)
    (hx0 : x0.length = n0) (hc0 : n0 ≤ c0) (hi0 : Ints .u8 w w.heap.size A0 x0) (hb0 : Bytes x0) (hs0 : c0 * 1 ≤ 140737488351232)
    (hx1 : x1.length = n1) (hc1 : n1 ≤ c1) (hi1 : Ints .u8 w w.heap.size A1 x1) (hb1 : Bytes x1) (hs1 : c1 * 1 ≤ 140737488351232)
    (us : 0 ≤ s ∧ s ≤ 4294967295) (ut : 0 ≤ t ∧ t ≤ 4294967295) (hT : Tab w) :
    Calls Tryd.prog 7 #[.slice A0 n0 c0, .slice A1 n1 c1, .agg #[.int .u32 s, .int .u32 t]] w fun e w' => e = .returned (.bool true) ∧ Below w.heap.size w w' := by
  obtain ⟨i0, hi0', hz0, hz1, hz2⟩ := info_parts info_u8
  obtain ⟨m, hm⟩ : ∃ m : Nat, min (n0 : Int) (n1 : Int) = (m : Int) := ⟨(min (n0 : Int) (n1 : Int)).toNat, by omega⟩
  have hm0 : m ≤ n0 := by omega
  have hm1 : m ≤ n1 := by omega
  have a0 := Lib.hid (show (x0.take m).length = m by rw [List.length_take]; omega)
  have a1 := Lib.hid (show (x1.take m).length = m by rw [List.length_take]; omega)
  have p0 : Ints .u8 w w.heap.size A0 (x0.take m) := hi0.pre
  have p1 : Ints .u8 w w.heap.size A1 (x1.take m) := hi1.pre
  have d0 := bytes_take hb0 m
  have d1 := bytes_take hb1 m
  have ge0 := fun (k : Nat) (hk : k < m) => xorL_get (x0.take m) (x1.take m) k (by rw [a0.out]; exact hk) (by rw [a1.out]; exact hk)
  generalize x0.take m = y0 at *
  generalize x1.take m = y1 at *
  have hxl : (xorL y0 y1).length = m := by rw [xorL_len, a0.out, a1.out]; omega
  have bxy := xorL_bytes d0 d1
  obtain ⟨X, hX⟩ : ∃ X : Nat, sumN (ini s) y0 = X := ⟨_, rfl⟩
  obtain ⟨Y, hY⟩ : ∃ Y : Nat, sumN (ini t) y1 = Y := ⟨_, rfl⟩
  have bX : X < 16777216 := by rw [← hX]; exact sumN_lt _ _ (ini_lt2 s) d0
  have bY : Y < 16777216 := by rw [← hY]; exact sumN_lt _ _ (ini_lt2 t) d1
  have HX := Lib.hid (congrArg (Nat.cast (R := Int)) hX)
  have HY := Lib.hid (congrArg (Nat.cast (R := Int)) hY)
  have HXY := u32_xor_nat X Y (by omega) (by omega)
  have ust := xor_u32 s t us ut
  have HB : Hid (((sumN (ini (bits BinOp.xor IntKind.u32 s t)) (xorL y0 y1) : Nat) : Int) = ((X ^^^ Y : Nat) : Int)) := Lib.hid (by
    rw [ini_xor s t us ut, ← sum_lin _ _ _ _ (by rw [a0.out, a1.out]), hX, hY])
  generalize hst : bits BinOp.xor IntKind.u32 s t = st at *
  obtain ⟨Sh, hSh⟩ : ∃ Sh : Nat, ticks (8 * m) (ini s) = Sh := ⟨_, rfl⟩
  obtain ⟨Z, hZ⟩ : ∃ Z : Nat, sumN 0 y0 = Z := ⟨_, rfl⟩
  have bSh : Sh < 16777216 := by rw [← hSh]; exact ticks_lt _ _ (ini_lt2 s)
  have bZ : Z < 16777216 := by rw [← hZ]; exact sumN_lt _ _ (by decide) d0
  have HSZ : bits BinOp.xor IntKind.u32 (Sh : Int) (Z : Int) = (X : Int) := by
    rw [u32_xor_nat Sh Z (by omega) (by omega), ← hSh, ← hZ, ← hX]
    have := sum_apart (ini s) y0
    rw [a0.out] at this
    rw [this]
  have HZ : Hid (((sumN (ini 0) y0 : Nat) : Int) = (Z : Int)) := Lib.hid (by rw [show ini 0 = 0 from rfl, hZ])
  clear hX hY hZ
  by_cases hbig : 4096 < m
  · have hbig' : (4096 : Int) < (m : Int) := by omega
    go_enter Tryd.func7, Tryd.ntmps7
    go_wp2_with (first | (go_at_call 10; refine (lives_any _ (hT.alloc _)).mono ?_; rintro e w1 ⟨rfl, hb⟩))
    go_ret
    exact ⟨rfl, alloc1 _ _ hb⟩
  have HSS : Hid (((ticks (8 * lim (m : Int)) (ini s) : Nat) : Int) = (Sh : Int)) := Lib.hid (by rw [lim_of m (by omega), hSh])
  have hbig' : decide ((4096 : Int) < (m : Int)) = false := by simp; omega
  go_enter Tryd.func7, Tryd.ntmps7
  go_wp2_with fail
  refine (lives_any _ (hT.alloc _)).mono ?_
  rintro e w1 ⟨rfl, h1'⟩
  have h1 := alloc1 _ _ h1'
  have f0 : w1.cell? ⟨w.heap.size, 0, none⟩ = some (.int .u32 s) := by
    rw [h1'.cell (by simp)]; simp [World.cell?_alloc_at]
  have f1 : w1.cell? ⟨w.heap.size, 1, none⟩ = some (.int .u32 t) := by
    rw [h1'.cell (by simp)]; simp [World.cell?_alloc_at]
  have hg : w.heap.size < w1.heap.size := by have := h1'.size; simp at this; omega
  have T1 := hT.below h1
  have q0 := later p0 h1
  have q1 := later p1 h1
  clear hT h1' p0 p1
  have g0 : (0 : Int) ≤ (m : Int) := by omega
  have g1 : (m : Int) ≤ (c0 : Int) := by omega
  have g2 : (m : Int) ≤ (c1 : Int) := by omega
  go_wp2_with fail
  go_quiet (fail)
  have hbn : Below w1.heap.size w1 (w1.drewN nq) := ⟨rfl, rfl, rfl, Nat.le_refl _, fun _ _ => rfl⟩
  have h2 := thenB h1 hbn
  have f0 : (w1.drewN nq).cell? ⟨w.heap.size, 0, none⟩ = some (.int .u32 s) := f0
  have f1 : (w1.drewN nq).cell? ⟨w.heap.size, 1, none⟩ = some (.int .u32 t) := f1
  have hg : w.heap.size < (w1.drewN nq).heap.size := hg
  have T2 := T1.below hbn
  have q0 := later q0 hbn
  have q1 := later q1 hbn
  generalize w1.drewN nq = w2 at *
  generalize hgw0 : w.heap.size = g at *
  have HG0 := Lib.hid hgw0
  clear hgw0
  clear T1 h1 hbn
  go_wp2_with fail
  have hb0 := (Below.refl w2.heap.size w2).alloc (Nat.le_refl _) (.cells #[] 5)
  have HL := Lib.hid hxl
  have HG := Lib.hid ge0
  clear hxl ge0
  go_loopw [8, 9] (fun v i wr => ∃ k : Nat, k ≤ m ∧ i = .int .i64 k ∧ wr.ownsRow w2.heap.size 5 1 v k (((xorL y0 y1).take k).map (Value.int .u8)) ∧ Below w2.heap.size w2 wr) (fun _ i _ => m - (intOf i).toNat)
  case atStart => exact ⟨0, by omega, rfl, World.ownsRow_made _ _ 0 (Nat.le_refl _) (by unfold maxLen; omega) rfl, hb0⟩
  case round =>
    obtain ⟨k, hk, rfl, hown, hbel⟩ := hrel
    by_cases ck : k < m
    · obtain ⟨b, off, rfl, hb, hcl⟩ := (q0.below hbel).at_ (i := k) (by rw [a0.out]; omega)
      obtain ⟨b', off', rfl, hb', hcl'⟩ := (q1.below hbel).at_ (i := k) (by rw [a1.out]; omega)
      have e1 := hcl k (by rw [a0.out]; omega)
      have e2 := hcl' k (by rw [a1.out]; omega)
      clear hcl hcl'
      have fx := bx_code _ _ (bytes_get d0 k) (bytes_get d1 k)
      have fs := snoc_map (xorL y0 y1) k _ (by rw [HL.out]; exact ck) (HG.out k ck)
      have HF := Lib.hid fs
      clear fs
      generalize y0.getD k 0 = u at *
      generalize y1.getD k 0 = v at *
      have bs := (hown.alloc (.cells #[.int .u8 (bx u v)] 5)).drew
      go_wp2_with fail
      go_region_law (refine step_append_ints rfl (.tmp 33) (.tmp 43) 23 rfl .u8 w2.heap.size 5 i0 _ 1 Tryd.underlying23 hi0' hz0 hz1 hz2 rfl _ k _ rfl bs (wr.heap.size + 1) _ 1 1 [bx u v] rfl rfl (Ints.drew (Ints.lit .u8 wr [bx u v] _ _ rfl)) (by unfold maxLen; omega) (by omega) (by simp; have := hbel.size; omega) ?_; intro v3 w3 hown3 hb3 _)
      all_goals
        have HS : Hid (w3.ownsRow w2.heap.size 5 1 v3 (k + 1) (((xorL y0 y1).take (k + 1)).map (Value.int .u8))) := Lib.hid (by rw [← HF.out]; exact hown3)
        have HBE := Lib.hid (((hbel.alloc hbel.size (.cells #[.int .u8 (bx u v)] 5)).drew).trans hb3)
        clear hown3 hb3 bs
        go_wp2
        go_roundw
        case rel => exact ⟨k + 1, by omega, by go_num, HS.out, HBE.out⟩
        case measure => simp [intOf]; omega
    · obtain rfl : k = m := by omega
      rw [List.take_of_length_le (by rw [HL.out]; omega)] at hown
      obtain ⟨B, d, rfl⟩ := own_form hown
      have j3 := Ints.own hown
      have h3 := h2.trans (hbel.mono (by have := h2.size; omega))
      have f0 : wr.cell? ⟨g, 0, none⟩ = some (.int .u32 s) := (hbel.cell hg).trans f0
      have f1 : wr.cell? ⟨g, 1, none⟩ = some (.int .u32 t) := (hbel.cell hg).trans f1
      have hg3 : g < wr.heap.size := by have := hbel.size; omega
      have T3 := T2.below hbel
      have q0 := later q0 hbel
      have q1 := later q1 hbel
      clear h2 hown hbel T2
      go_wp2_with fail
      have q0 : Ints .u8 wr.drew wr.drew.heap.size A0 y0 := q0.drew
      have q1 : Ints .u8 wr.drew wr.drew.heap.size A1 y1 := q1.drew
      have j3 : Ints .u8 wr.drew wr.drew.heap.size B (xorL y0 y1) := j3.drew
      have T3 : Tab wr.drew := T3
      have h3 : Below g w wr.drew := h3.drew
      have hg3 : g < wr.drew.heap.size := hg3
      have f0 : wr.drew.cell? ⟨g, 0, none⟩ = some (.int .u32 s) := f0
      have f1 : wr.drew.cell? ⟨g, 1, none⟩ = some (.int .u32 t) := f1
      go_region_held3 (fun w' => w'.cell? ⟨g, 0, none⟩ = some (.int .u32 s) ∧ w'.cell? ⟨g, 1, none⟩ = some (.int .u32 t)) (first | exact ⟨f05, f15⟩ | exact ⟨f04, f14⟩ | exact ⟨f0, f1⟩) (first
        | (go_at_call 11; refine (sum_to y1 ut a1.out d1 j5 (by omega) T5 HY.out).mono ?_; rintro e w6 ⟨rfl, rfl⟩)
        | (go_at_call 12; refine (copied3_any A1 k c1 y1 _ a1.out (by exact later q1 b4) (by omega)).mono ?_; intro e w5 m5; obtain ⟨A5, e5, rfl, k5, j5, b5⟩ := m5.read a1.out; clear m5; have T5 := T4.below b5; have f05 := (b5.cell hg4).trans f04; have f15 := (b5.cell hg4).trans f14; have hg5 := Nat.lt_of_lt_of_le hg4 b5.size)
        | (go_at_call 11; refine (sum_to y0 us a0.out d0 j4 (by omega) T4 HX.out).mono ?_; rintro e w5 ⟨rfl, rfl⟩)
        | (go_at_call 12; refine (copied3_any A0 k c0 y0 _ a0.out (by exact q0) (by omega)).mono ?_; intro e w4 m4; obtain ⟨A4, e4, rfl, k4, j4, b4⟩ := m4.read a0.out; clear m4; have T4 := T3.below b4; have f04 := (b4.cell hg3).trans f0; have f14 := (b4.cell hg3).trans f1; have hg4 := Nat.lt_of_lt_of_le hg3 b4.size))
      have j5' := later (later j3 b4) b5
      have q5 := later (later q0 b4) b5
      have h5 := (h3.trans (b4.mono (by omega))).trans (b5.mono (by omega))
      have hgw : g ≤ wr.drew.heap.size := by omega
      clear q0 q1 j3 T3 h3 f0 f1 hg3 T4 f04 f14 j4 j5 b4 b5
      go_wp2_with fail
      refine (sum_to (v := ((X ^^^ Y : Nat) : Int)) (xorL y0 y1) ust HL.out bxy j5' (by omega) T5 HB.out).mono ?_
      rintro e w6 ⟨rfl, rfl⟩
      go_wp2_with fail
      refine (shift_to (v := (Sh : Int)) us (by omega) T5 HSS.out).mono ?_
      rintro e w6 ⟨rfl, rfl⟩
      go_wp2_with fail
      refine (copied3_any A0 k c0 y0 _ a0.out q5 (by omega)).mono ?_
      intro e w6 m6
      obtain ⟨A6, e6, rfl, k6, j6, b6⟩ := m6.read a0.out
      clear m6
      have T6 := T5.below b6
      go_wp2_with fail
      refine (sum_to (v := (Z : Int)) y0 (by omega) a0.out d0 j6 (by omega) T6 HZ.out).mono ?_
      rintro e w7 ⟨rfl, rfl⟩
      go_wp2_with fail
      go_ret
      exact ⟨rfl, by rw [HG0.out]; exact h5.trans (b6.mono (by omega))⟩
end Go.Proofs.YthpbnipjopjfeaaDoor.Crc
