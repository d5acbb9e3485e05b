/- The statement on strings that differ in one group, walked: it returns true. -/
import Derived.Test.YtpdaeggjahcogaaMacLaws
set_option linter.unusedVariables false
set_option linter.unusedSimpArgs false
namespace Go.Proofs.Ytpdaeggjahcogaa.Mac
open Go.RowKit Mem Oct Blk Base

theorem getD_chunk (l : List Int) (j i : Nat) (h : i < 8) : ((l.drop (8 * j)).take 8).getD i 0 = l.getD (8 * j + i) 0 := by
  simp [List.getD, List.getElem?_take, List.getElem?_drop, h]
theorem chunk_len (l : List Int) (j : Nat) : ((l.drop (8 * j)).take 8).length = min 8 (l.length - 8 * j) := by simp
theorem chunk_eq {xs ys : List Int} (hl : xs.length = ys.length) (j : Nat) (h : ∀ i, 8 * j ≤ i → i < 8 * j + 8 → xs.getD i 0 = ys.getD i 0) : (xs.drop (8 * j)).take 8 = (ys.drop (8 * j)).take 8 := by
  refine list_ext (by rw [chunk_len, chunk_len, hl]) fun i hi => ?_
  rw [chunk_len] at hi
  rw [getD_chunk _ _ _ (by omega), getD_chunk _ _ _ (by omega)]
  exact h _ (by omega) (by omega)
/-- Two strings that agree outside of a group are the same, or have different tags. -/
theorem one_group (k : Int) {xs ys : List Int} (hx : Bytes xs) (hy : Bytes ys) (hl : xs.length = ys.length) (hb : xs.length ≤ 140737488355328) (g : Nat) (hg : g < ngr xs.length) (h : ∀ i, ¬ (8 * g ≤ i ∧ i < 8 * g + 8) → xs.getD i 0 = ys.getD i 0) (hne : xs ≠ ys) : tagZ k xs ≠ tagZ k ys := by
  refine tag_one k hx hy hl hb g hg (fun j hj => ?_) (fun e => hne ?_)
  · unfold grp
    rw [chunk_eq hl j fun i h1 h2 => h i (by omega)]
  · have hc := valL_inj (take8_bytes hx g) (take8_bytes hy g) (by rw [chunk_len, chunk_len, hl]) e
    refine list_ext hl fun i hi => ?_
    by_cases hin : 8 * g ≤ i ∧ i < 8 * g + 8
    · have h1 := getD_chunk xs g (i - 8 * g) (by omega)
      have h2 := getD_chunk ys g (i - 8 * g) (by omega)
      rw [show 8 * g + (i - 8 * g) = i by omega] at h1 h2
      rw [← h1, ← h2, hc]
    · exact h i hin
theorem bytes_set {l : List Int} (h : Bytes l) (k : Nat) (x : Int) (hx : 0 ≤ x ∧ x ≤ 255) : Bytes (l.set k x) := by
  intro z hz
  rcases List.mem_or_eq_of_mem_set hz with g | rfl
  · exact h z g
  · exact hx
theorem getD_set_ne (l : List Int) (k i : Nat) (x : Int) (h : k ≠ i) : (l.set k x).getD i 0 = l.getD i 0 := by
  simp [List.getD, List.getElem?_set_ne h]
theorem law_onegroup (a0 : Int) (A1 : Option Addr) (n1 c1 : Nat) (x1 : List Int) (a2 a3 : Int) (w : World) (u0 : 0 ≤ a0 ∧ a0 ≤ 18446744073709551615)
    (hx1 : x1.length = n1) (hc1 : n1 ≤ c1) (hi1 : Ints .u8 w w.heap.size A1 x1) (hb1 : Bytes x1) (hs1 : c1 * 1 ≤ 140737488351232)
    (u2 : -9223372036854775808 ≤ a2 ∧ a2 ≤ 9223372036854775807) (u3 : 0 ≤ a3 ∧ a3 ≤ 18446744073709551615) :
    Calls Try.prog 10 #[.int .u64 a0, .slice A1 n1 c1, .int .i64 a2, .int .u64 a3] w fun e w' => e = .returned (.bool true) ∧ Below w.heap.size w w' := by
  obtain ⟨i0, hi, hz0, hz1, hz2⟩ := info_parts info_u8
  by_cases h1 : n1 = 0
  · have d1 : ((n1 : Int) == 0) = true := by simp; omega
    go_enter Try.func10, Try.ntmps10
    go_wp2_with (go_at_call 12; refine (lives_any _).mono ?_; rintro e w1 ⟨rfl, b1⟩)
    go_ret
    exact ⟨rfl, b1⟩
  have d1 : ((n1 : Int) == 0) = false := by simp; omega
  by_cases h2 : 300 < n1
  · have d2 : decide ((300 : Int) < (n1 : Int)) = true := by simp; omega
    go_enter Try.func10, Try.ntmps10
    go_wp2_with (go_at_call 12; refine (lives_any _).mono ?_; rintro e w1 ⟨rfl, b1⟩)
    go_ret
    exact ⟨rfl, b1⟩
  have d2 : decide ((300 : Int) < (n1 : Int)) = false := by simp; omega
  by_cases h3 : a2 < 0
  · have d3 : decide (a2 < 0) = true := by simp; omega
    go_enter Try.func10, Try.ntmps10
    go_wp2_with (go_at_call 12; refine (lives_any _).mono ?_; rintro e w1 ⟨rfl, b1⟩)
    go_ret
    exact ⟨rfl, b1⟩
  have d3 : decide (a2 < 0) = false := by simp; omega
  by_cases h4 : (n1 : Int) ≤ a2
  · have d4 : decide ((n1 : Int) ≤ a2) = true := by simp; omega
    go_enter Try.func10, Try.ntmps10
    go_wp2_with (go_at_call 12; refine (lives_any _).mono ?_; rintro e w1 ⟨rfl, b1⟩)
    go_ret
    exact ⟨rfl, b1⟩
  have d4 : decide ((n1 : Int) ≤ a2) = false := by simp; omega
  obtain ⟨t, rfl⟩ := Int.eq_ofNat_of_zero_le (show 0 ≤ a2 by omega)
  obtain ⟨q, hq⟩ : ∃ q, t / 8 = q := ⟨_, rfl⟩
  have e8 : (t : Int) / 8 = (q : Int) := by omega
  have htq : 8 * q ≤ t ∧ t < 8 * q + 8 := by omega
  have HX := Lib.hid hx1
  have HG : Hid (q < ngr n1) := Lib.hid (by unfold ngr; omega)
  clear hq hx1
  go_enter Try.func10, Try.ntmps10
  go_wp2_with (at_builtin; refine wpList_append_ints rfl _ _ 24 rfl .u8 w.heap.size 5 i0 _ 1 Try.underlying24 hi hz0 hz1 hz2 rfl (.slice (some ⟨w.heap.size, 0, none⟩) 0 0) 0 [] rfl (World.ownsRow_made _ _ 0 (Nat.le_refl _) (by unfold maxLen; omega) rfl) w.heap.size A1 n1 c1 x1 rfl HX.out ?c1 ?c2 ?c3 ?c4 ?_; (case c1 => exact hi1.alloc (Nat.le_refl _) _); (case c2 => unfold maxLen; omega); (case c3 => omega); (case c4 => simp); intro v2 w2 o2 b2' _; obtain ⟨A2, c2, rfl⟩ := own_form o2; simp only [Nat.zero_add, List.nil_append] at o2; have b2 : Below w.heap.size w w2 := ((Below.refl _ _).alloc (Nat.le_refl _) _).trans b2'; clear b2')
  obtain ⟨g, rfl, hg, hgl⟩ := own_block o2 (by omega)
  go_loopw [3, 10] (fun u i wr => ∃ j : Nat, ∃ y : Int, ∃ ys : List Int, 8 * q ≤ j ∧ i = .int .i64 j ∧ u = .int .u64 y ∧ 0 ≤ y ∧ y ≤ 18446744073709551615 ∧ ys.length = n1 ∧ Bytes ys ∧ wr.ownsRow w.heap.size 5 1 (.slice (some ⟨g, 0, none⟩) n1 c2) n1 (ys.map (Value.int .u8)) ∧ Below w.heap.size w wr ∧ ∀ i, ¬ (8 * q ≤ i ∧ i < 8 * q + 8) → x1.getD i 0 = ys.getD i 0) (fun _ i _ => n1 - (intOf i).toNat)
  case atStart => exact ⟨8 * q, a3, x1, Nat.le_refl _, by go_num, rfl, u3.1, u3.2, HX.out, hb1, o2, b2, fun _ _ => rfl⟩
  case round =>
    obtain ⟨j, y, ys, hj, rfl, rfl, y0, y1, hly, hby, hown, hbel, hsame⟩ := hrel
    have HY := Lib.hid hly
    have HA := Lib.hid hsame
    clear hly hsame o2 b2
    by_cases cin : j < n1 ∧ j < 8 * q + 8
    · obtain ⟨c3, c4⟩ := cin
      have k1 : decide ((j : Int) < (n1 : Int)) = true := by simp; omega
      obtain ⟨x, hx⟩ : ∃ x, ys.getD j 0 = x := ⟨_, rfl⟩
      have bo := bytes_get hby j
      rw [hx] at bo
      have f3 := hown.frozenAt j
      have f4 : wr.cell? ⟨g, j, none⟩ = some (.int .u8 x) := by
        rw [hown.cellAt _ (by omega), List.getElem?_map, ← hx, List.getD, List.getElem?_eq_getElem (by rw [HY.out]; exact c3)]; rfl
      obtain ⟨z, hz⟩ : ∃ z, y % 256 = z := ⟨_, rfl⟩
      have ez : IntKind.u8.wrap z = z := by rw [IntKind.wrap_u8]; omega
      have bz : 0 ≤ z ∧ z ≤ 255 := by omega
      have ex : bits BinOp.xor IntKind.u8 x z = bx x z := bx_code _ _ bo bz
      have bxb := bx_bd x z bo bz
      have hst := hown.stored j (.int .u8 (bx x z))
      have HS : Hid ((wr.setCell ⟨g, j, none⟩ (.int .u8 (bx x z))).ownsRow w.heap.size 5 1 (.slice (some ⟨g, 0, none⟩) n1 c2) n1 ((ys.set j (bx x z)).map (Value.int .u8))) := Lib.hid (by rw [List.map_set]; exact hst.1)
      have HB := Lib.hid (hbel.setCell (p := ⟨g, j, none⟩) hg (.int .u8 (bx x z)))
      have HZ := Lib.hid (bytes_set hby j _ bxb)
      have HL : Hid ((ys.set j (bx x z)).length = n1) := Lib.hid (by rw [List.length_set, HY.out])
      have HA2 : Hid (∀ i, ¬ (8 * q ≤ i ∧ i < 8 * q + 8) → x1.getD i 0 = (ys.set j (bx x z)).getD i 0) := Lib.hid fun i h => by rw [getD_set_ne _ _ _ _ (by omega)]; exact HA.out i h
      have g1 : (0 : Int) ≤ (j : Int) := by omega
      have g2 : (j : Int) < (n1 : Int) := by omega
      clear hst hx bxb hown
      go_wp2_with fail
      go_roundw
      case rel => exact ⟨j + 1, y / 256, ys.set j (bx x z), by omega, by go_num, by go_num, by omega, by omega, HL.out, HZ.out, HS.out, HB.out, HA2.out⟩
      case measure => simp [intOf]; omega
    · have hj2 : ¬ (j < n1) ∨ ¬ (j < 8 * q + 8) := by omega
      have j2 := Ints.own hown
      obtain ⟨T1, hT1⟩ : ∃ T1, tagZ a0 x1 = T1 := ⟨_, rfl⟩
      obtain ⟨T2, hT2⟩ : ∃ T2, tagZ a0 ys = T2 := ⟨_, rfl⟩
      by_cases heq : x1 = ys
      · have HE : Hid (decide (x1 = ys) = true) := Lib.hid (by simp [heq])
        clear hT1 hT2 heq
        rcases hj2 with c3 | c3
        all_goals
          go_wp2_with (first
          | (go_at_call 12; refine (lives_any _).mono ?_; rintro e w3 ⟨rfl, b3⟩; have h3 := thenB hbel b3)
          | (go_at_call 17; refine (same_to HE.out HX.out HY.out hb1 hby (later hi1 h3) (later j2 b3)).mono ?_; rintro e w4 ⟨rfl, rfl⟩))
          all_goals go_ret
          all_goals exact ⟨rfl, h3⟩
      · have hne : T1 ≠ T2 := by rw [← hT1, ← hT2]; exact one_group a0 hb1 hby (by rw [HX.out, HY.out]) (by rw [HX.out]; omega) q (by rw [HX.out]; exact HG.out) HA.out heq
        have n1' : (T1 != T2) = true := by simp [hne]
        have HT1 := Lib.hid hT1
        have HT2 := Lib.hid hT2
        have HE : Hid (decide (x1 = ys) = false) := Lib.hid (by simp [heq])
        clear hT1 hT2 heq
        rcases hj2 with c3 | c3
        all_goals
          go_wp2_with (first
          | (go_at_call 12; refine (lives_any _).mono ?_; rintro e w3 ⟨rfl, b3⟩; have h3 := thenB hbel b3)
          | (go_at_call 17; refine (same_to HE.out HX.out HY.out hb1 hby (later hi1 h3) (later j2 b3)).mono ?_; rintro e w4 ⟨rfl, rfl⟩)
          | (go_at_call 13; have h0 := HT1.out; clear HT1; refine (tag_any a0 A1 n1 c1 x1 _ u0 HX.out hb1 hc1 (by omega) (by omega) (later hi1 h3)).mono ?_; rw [h0]; clear h0; rintro e w5 ⟨rfl, b5⟩; have h5 := thenB h3 b5)
          | (go_at_call 13; have h0 := HT2.out; clear HT2; refine (tag_any a0 _ n1 c2 ys _ u0 HY.out hby (own_cap hown) (own_max hown) (by omega) (later (later j2 b3) b5)).mono ?_; rw [h0]; clear h0; rintro e w6 ⟨rfl, b6⟩; have h6 := thenB h5 b6))
          all_goals go_ret
          all_goals exact ⟨rfl, h6⟩
end Go.Proofs.Ytpdaeggjahcogaa.Mac
