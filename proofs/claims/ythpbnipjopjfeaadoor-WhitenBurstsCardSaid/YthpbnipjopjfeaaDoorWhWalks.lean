/- What each function of the layer of whitening returns: contracts over the program. -/
import Derived.Test.YthpbnipjopjfeaaDoorBase
import Derived.Test.YthpbnipjopjfeaaDoorWhMath
set_option linter.unusedVariables false
set_option linter.unusedSimpArgs false
namespace Go.Proofs.YthpbnipjopjfeaaDoor.Wh
open Go.RowKit Mem Oct Base

theorem ret_two {a a' b b' : Int} {k k' : IntKind} (h : a = a') (h' : b = b') : Ending.returned (.tuple #[.int k a, .int k' b]) = .returned (.tuple #[.int k a', .int k' b']) := by rw [h, h']
theorem first_any (ch : Int) (w : World) (hc : -9223372036854775808 ≤ ch ∧ ch ≤ 9223372036854775807) :
    Calls Tryd.prog 36 #[.int .i64 ch] w fun e w' => e = .returned (.int .i64 (fst ch)) ∧ w = w' := by
  go_enter Tryd.func36, Tryd.ntmps36
  go_wp2
  go_ret
  exact ⟨rfl, rfl⟩
theorem step_any (r : Int) (w : World) (hr : 0 ≤ r ∧ r ≤ 127) :
    Calls Tryd.prog 37 #[.int .i64 r] w fun e w' => e = .returned (.tuple #[.int .i64 (r / 64), .int .i64 (stp r)]) ∧ w = w' := by
  by_cases h : r < 64
  · have H := Lib.hid (step_lo r hr.1 h)
    have h1 : (r / 64 == 1) = false := by simp; omega
    go_enter Tryd.func37, Tryd.ntmps37
    go_wp2_with fail
    go_ret2
    exact ⟨ret_two rfl H.out, rfl⟩
  · have H := Lib.hid (step_hi r (by omega) hr.2)
    have h1 : (r / 64 == 1) = true := by simp; omega
    go_enter Tryd.func37, Tryd.ntmps37
    go_wp2_with fail
    go_ret2
    exact ⟨ret_two rfl H.out, rfl⟩
theorem octet_any (r : Int) (w : World) (hr : 0 ≤ r ∧ r ≤ 127) :
    Calls Tryd.prog 38 #[.int .i64 r] w fun e w' => e = .returned (.tuple #[.int .u8 (octB r), .int .i64 (it 8 r)]) ∧ w = w' := by
  go_enter Tryd.func38, Tryd.ntmps38
  go_wp2_with fail
  go_loop [0, 4, 7] (fun v c i => ∃ k : Nat, k ≤ 8 ∧ i = .int .i64 k ∧ v = .int .i64 (it k r) ∧ c = .int .i64 (val k r)) (fun _ _ i => 8 - (intOf i).toNat)
  case atStart => exact ⟨0, by omega, rfl, rfl, rfl⟩
  case round =>
    obtain ⟨k, hk, rfl, rfl, rfl⟩ := hrel
    by_cases c1 : k < 8
    · have hb := it_bd k r hr
      have H := Lib.hid (or_val k c1 r hr)
      have HS := Lib.hid (it_succ k r)
      go_wp2_with (go_at_call 37; refine (step_any _ _ hb).mono ?_; rintro e w' ⟨rfl, rfl⟩)
      go_round
      case rel => exact ⟨k + 1, by omega, by go_num, by rw [HS.out], by rw [← H.out]⟩
      case measure => simp [intOf]; omega
    · obtain rfl : k = 8 := by omega
      have hb := octB_bd r hr
      have H : Hid (IntKind.u8.wrap (val 8 r) = octB r) := Lib.hid (by rw [IntKind.wrap_u8']; unfold octB at *; omega)
      go_wp2_with fail
      go_ret2
      exact ⟨ret_two H.out rfl, rfl⟩
theorem state_any (ch n : Int) (w : World) (hc : -9223372036854775808 ≤ ch ∧ ch ≤ 9223372036854775807) (hn : -9223372036854775808 ≤ n ∧ n ≤ 9223372036854775807) :
    Calls Tryd.prog 32 #[.int .i64 ch, .int .i64 n] w fun e w' => e = .returned (.int .i64 (stateZ ch n)) ∧ w = w' := by
  obtain ⟨m, hm⟩ : ∃ m : Nat, max 0 (min n 524288) % 127 = (m : Int) := ⟨((max 0 (min n 524288)) % 127).toNat, by omega⟩
  have hm1 : m < 127 := by omega
  have H : Hid (it m (fst ch) = stateZ ch n) := Lib.hid (by rw [← state_code ch n, hm]; rfl)
  have hf := fst_bd ch
  go_enter Tryd.func32, Tryd.ntmps32
  go_wp2_with (go_at_call 36; refine (first_any _ _ (by omega)).mono ?_; rintro e w' ⟨rfl, rfl⟩)
  generalize max 0 (min n 524288) % 127 = M at *
  subst hm
  go_loop [5, 12] (fun v i => ∃ k : Nat, k ≤ m ∧ i = .int .i64 k ∧ v = .int .i64 (it k (fst ch))) (fun _ i => m - (intOf i).toNat)
  case atStart => exact ⟨0, by omega, rfl, rfl⟩
  case round =>
    obtain ⟨k, hk, rfl, rfl⟩ := hrel
    by_cases c1 : k < m
    · have hb := it_bd k (fst ch) (by omega)
      have HS := Lib.hid (it_succ k (fst ch))
      go_wp2_with (go_at_call 37; refine (step_any _ _ hb).mono ?_; rintro e w' ⟨rfl, rfl⟩)
      go_round
      case rel => exact ⟨k + 1, by omega, by go_num, by rw [HS.out]⟩
      case measure => simp [intOf]; omega
    · obtain rfl : k = m := by omega
      go_wp2_with fail
      go_ret
      exact ⟨Ser.ret_int H.out, rfl⟩
theorem sequence_any (ch : Int) (n : Nat) (w : World) (hc : -9223372036854775808 ≤ ch ∧ ch ≤ 9223372036854775807) (hn : n ≤ 140737488351232) :
    Calls Tryd.prog 34 #[.int .i64 ch, .int .i64 n] w fun e w' => Makes w w' e (seqL (fst ch) n) := by
  obtain ⟨i0, hi, hz0, hz1, hz2⟩ := info_parts info_u8
  have hf := fst_in ch
  have hml := seqL_len (fst ch) n
  go_enter Tryd.func34, Tryd.ntmps34
  go_wp2_with (first | (go_at_call 36; refine (first_any _ _ (by omega)).mono ?_; rintro e w' ⟨rfl, rfl⟩) | (at_make; refine wpList_make_full _ rfl _ _ 23 rfl w.heap.size 5 i0 _ 1 Tryd.underlying23 hi hz0 hz1 _ _ _ _ n rfl rfl (by omega) (by omega) ?c1 ?c2 ?c3 ?_; (case c1 => rw [hz2]; omega); (case c2 => unfold maxLen; omega); (case c3 => omega); intro w1 hown1 hg1))
  generalize hg : w.heap.size = g at *
  have hg1' : g < w1.heap.size := by have := hg1.size; have := hown1.lt g rfl; omega
  have hb1 : Below g w w1 := ⟨hg1.os, hg1.tape, hg1.output, hg1.size, fun j hj => hg1.block j (by omega) (by simp)⟩
  have H := Lib.hid hml
  have Hg := Lib.hid hg
  clear hml hg hg1
  go_loopw [5, 13] (fun v i wr => ∃ k : Nat, k ≤ n ∧ i = .int .i64 k ∧ v = .int .i64 (it (8 * k) (fst ch)) ∧ wr.ownsRow g 5 1 (.slice (some ⟨g, 0, none⟩) n n) n ((fill (seqL (fst ch) n) k).map (Value.int .u8)) ∧ Below g w wr) (fun _ i _ => n - (intOf i).toNat)
  case atStart =>
    refine ⟨0, by omega, rfl, rfl, ?_, hb1⟩
    rw [fill_zero, H.out, ← made_zero]
    exact hown1
  case round =>
    obtain ⟨k, hk, rfl, rfl, hown, hbel⟩ := hrel
    by_cases c1 : k < n
    · have hb := it_bd (8 * k) (fst ch) hf
      have HS := Lib.hid (it_8 k (fst ch))
      have f3 := hown.frozenAt k
      obtain ⟨z, f4⟩ : ∃ z, wr.cell? ⟨g, k, none⟩ = some (.int .u8 z) := own_cell hown k (by rw [fill_len, H.out]; omega)
      have hst := hown.stored k (.int .u8 (octB (it (8 * k) (fst ch))))
      have HB := Lib.hid (hbel.setCell (p := ⟨g, k, none⟩) (Nat.le_refl _) (.int .u8 (octB (it (8 * k) (fst ch)))))
      rw [fill_map_step _ _ _ (by rw [H.out]; omega) (by rw [seqL_get _ _ _ c1])] at hst
      have HST := Lib.hid hst.1
      clear hst
      go_wp2_with (go_at_call 38; refine (octet_any _ _ hb).mono ?_; rintro e w' ⟨rfl, rfl⟩)
      go_roundw
      case rel => exact ⟨k + 1, by omega, by go_num, by rw [HS.out], HST.out, HB.out⟩
      case measure => simp [intOf]; omega
    · obtain rfl : k = n := by omega
      go_wp2_with fail
      go_ret
      have hw : (fill (seqL (fst ch) k) k) = seqL (fst ch) k := by have := fill_all (seqL (fst ch) k); rw [H.out] at this; exact this
      rw [hw] at hown
      rw [← Hg.out] at hown hbel
      exact makes_of (by rw [Hg.out]; rfl) H.out hown hbel
/-- How many bytes Stream returns. -/
def lim2 (n : Int) : Nat := (max 0 (min n 65536)).toNat
theorem stream_any (ch n : Int) (w : World) (hc : -9223372036854775808 ≤ ch ∧ ch ≤ 9223372036854775807) (hn : -9223372036854775808 ≤ n ∧ n ≤ 9223372036854775807) :
    Calls Tryd.prog 33 #[.int .i64 ch, .int .i64 n] w fun e w' => Makes w w' e (seqL (fst ch) (lim2 n)) := by
  obtain ⟨m, hm⟩ : ∃ m : Nat, max 0 (min n 65536) = (m : Int) := ⟨(max 0 (min n 65536)).toNat, by omega⟩
  have hm1 : lim2 n = m := by unfold lim2; omega
  rw [hm1]
  go_enter Tryd.func33, Tryd.ntmps33
  go_wp2_with (go_at_call 34; (try rw [hm]); refine (sequence_any _ m _ (by omega) (by omega)).mono ?_; rintro e w1 ⟨A, c, rfl, hown, hb⟩)
  go_ret
  exact makes_of rfl rfl hown hb
theorem apply_any (ch : Int) (A : Option Addr) (n c : Nat) (xs : List Int) (w : World) (hc : -9223372036854775808 ≤ ch ∧ ch ≤ 9223372036854775807) (hx : xs.length = n) (bxs : Bytes xs) (hr : Ints .u8 w w.heap.size A xs) (hn : n ≤ 140737488351232) :
    Calls Tryd.prog 23 #[.int .i64 ch, .slice A n c] w fun e w' => Makes w w' e (appL ch xs) := by
  have hla : (appL ch xs).length = n := by rw [appL_len, hx]
  have hls : (seqL (fst ch) n).length = n := seqL_len _ _
  have bs := seqL_bytes (fst ch) (fst_in ch) n
  have hget := appL_get ch xs
  rw [hx] at hget
  go_enter Tryd.func23, Tryd.ntmps23
  go_wp2_with (go_at_call 34; refine (sequence_any _ n _ (by omega) (by omega)).mono ?_; rintro e w1 ⟨S, cs, rfl, hown1, hb1⟩)
  rw [hls] at hown1
  have Hx := Lib.hid hx
  have HA := Lib.hid hla
  have HL := Lib.hid hls
  have HG := Lib.hid hget
  clear hx hla hls hget
  go_loopw [14] (fun i wr => ∃ k : Nat, k ≤ n ∧ i = .int .i64 k ∧ wr.ownsRow w.heap.size 5 1 (.slice S n cs) n ((mix (appL ch xs) (seqL (fst ch) n) k).map (Value.int .u8)) ∧ Below w.heap.size w wr) (fun i _ => n - (intOf i).toNat)
  case atStart =>
    refine ⟨0, by omega, rfl, ?_, hb1⟩
    rw [mix_zero]
    exact hown1
  case round =>
    obtain ⟨k, hk, rfl, hown, hbel⟩ := hrel
    by_cases c1 : k < n
    · obtain ⟨g, rfl, hg, hgl⟩ := own_block hown (by omega)
      obtain ⟨b, off, rfl, hb, hcl⟩ := (hr.below hbel).at_ (i := k) (by rw [Hx.out]; omega)
      have f1 := hcl k (by rw [Hx.out]; omega)
      clear hcl
      have fx := bx_code _ _ (bytes_get bs k) (bytes_get bxs k)
      have fg := HG.out k c1
      have f3 := hown.frozenAt k
      have f4 : wr.cell? ⟨g, k, none⟩ = some (.int .u8 ((seqL (fst ch) n).getD k 0)) := by
        rw [hown.cellAt k (by omega), List.getElem?_map, ← mix_get (appL ch xs) (seqL (fst ch) n) k (by rw [HA.out, HL.out]) (by rw [HL.out]; exact c1)]
        rw [List.getD, List.getElem?_eq_getElem (by rw [mix_len _ _ _ (by rw [HA.out, HL.out]), HL.out]; exact c1)]; rfl
      have hst := hown.stored k (.int .u8 ((appL ch xs).getD k 0))
      have HB := Lib.hid (hbel.setCell (p := ⟨g, k, none⟩) hg (.int .u8 ((appL ch xs).getD k 0)))
      rw [mix_step _ _ _ _ (by rw [HA.out, HL.out]) (by rw [HL.out]; exact c1) rfl] at hst
      have HS := Lib.hid hst.1
      clear hst
      rw [fg] at HB HS
      clear fg
      generalize (seqL (fst ch) n).getD k 0 = sk at *
      generalize xs.getD k 0 = xk at *
      go_wp2_with fail
      go_roundw
      case rel => exact ⟨k + 1, by omega, by go_num, HS.out, HB.out⟩
      case measure => simp [intOf]; omega
    · obtain rfl : k = n := by omega
      go_wp2_with fail
      go_ret
      rw [mix_all _ _ _ HA.out HL.out] at hown
      exact makes_of rfl HA.out hown hbel
theorem f_states : stateZ 0 8 = 35 ∧ stateZ 0 (-1) = 64 ∧ stateZ 37 1 = 91 ∧ stateZ 99 0 = 103 := by decide +kernel
theorem f_stream : seqL (fst 0) (lim2 2) = [201, 242] := by decide +kernel
theorem f_none : seqL (fst 0) (lim2 (-3)) = [] := by decide +kernel
theorem f_apply : appL 0 [0, 255] = [201, 13] := by decide +kernel
theorem lives_any (w : World) : Calls Tryd.prog 22 #[] w fun e w' => e = .returned (.bool true) ∧ Below w.heap.size w w' := by
  obtain ⟨s1, s2, s3, s4⟩ := f_states
  have H1 := Lib.hid f_stream
  have H2 := Lib.hid f_none
  have H3 := Lib.hid f_apply
  go_enter Tryd.func22, Tryd.ntmps22
  go_wp2_with (first | (go_at_call 32; refine (state_any _ _ _ (by omega) (by omega)).mono ?_; rintro e w' ⟨rfl, rfl⟩))
  refine (stream_any _ _ _ (by omega) (by omega)).mono ?_
  rw [H1.out]
  intro e w1 m1
  obtain ⟨A1, c1, rfl, k1, j1, b1⟩ := m1.read (n := 2) rfl
  clear m1
  go_wp2_with fail
  refine (same_to (b := true) (xs := [201, 242]) (ys := [201, 242]) (by decide) rfl rfl (bytes_lit _ (by decide)) (bytes_lit _ (by decide)) (by exact kept j1 _) (by exact lit1 .u8 _ [201, 242] _ _ rfl)).mono ?_
  rintro e w2 ⟨rfl, rfl⟩
  have hb2 := b1.alloc b1.size (.cells #[.int .u8 201, .int .u8 242] 5)
  clear j1 b1
  go_wp2_with fail
  refine (stream_any _ _ _ (by omega) (by omega)).mono ?_
  rw [H2.out]
  intro e w3 m3
  obtain ⟨A3, c3, rfl, k3, j3, b3⟩ := m3.read (n := 0) rfl
  have hb3 := hb2.trans (b3.mono (by simpa using hb2.size))
  clear m3 j3 b3 hb2
  go_wp2_with fail
  refine (apply_any _ _ 2 _ [0, 255] _ (by omega) rfl (bytes_lit _ (by decide)) (by exact lit1 .u8 _ [0, 255] _ _ rfl) (by omega)).mono ?_
  rw [H3.out]
  intro e w4 m4
  obtain ⟨A4, c4, rfl, k4, j4, b4⟩ := m4.read (n := 2) rfl
  have hb4 := hb3.trans ((alloc1 _ _ b4).mono hb3.size)
  clear m4 b4 hb3
  go_wp2_with fail
  refine (same_to (b := true) (xs := [201, 13]) (ys := [201, 13]) (by decide) rfl rfl (bytes_lit _ (by decide)) (bytes_lit _ (by decide)) (by exact kept j4 _) (by exact lit1 .u8 _ [201, 13] _ _ rfl)).mono ?_
  rintro e w5 ⟨rfl, rfl⟩
  have hb5 := hb4.alloc hb4.size (.cells #[.int .u8 201, .int .u8 13] 5)
  clear hb4
  go_wp2_with fail
  go_ret
  exact ⟨rfl, hb5⟩
end Go.Proofs.YthpbnipjopjfeaaDoor.Wh
