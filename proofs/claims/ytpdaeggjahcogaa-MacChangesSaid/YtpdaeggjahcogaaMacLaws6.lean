/- The statement on changes of what is sealed, walked: it returns true. -/
import Derived.Test.YtpdaeggjahcogaaMacLaws5
set_option linter.unusedVariables false
set_option linter.unusedSimpArgs false
namespace Go.Proofs.Ytpdaeggjahcogaa.Mac
open Go.RowKit Mem Oct Blk Base

theorem bx_ne (s x : Int) (hs : 0 ≤ s) (hx : 1 ≤ x) : bx s x ≠ s := by
  intro h
  have e0 : bx 0 s = s := by unfold bx; simp; omega
  have := bx_inj x 0 s (by omega) (by omega) (by rw [bx_swap, h, e0])
  omega
/-- One changed octet of what is sealed: it is refused, or it lies in the ciphertext and the tags agree in their low halves. -/
theorem changed (k nonce : Int) {h p : List Int} (hh : Bytes h) (hp : Bytes p) (hl : 12 + h.length + p.length ≤ 140737488355328) (n t : Nat) (hn : p.length = n) (x s : Int) (hx : 1 ≤ x ∧ x ≤ 255) (ht : t < n + 4) (hs : (sealL k nonce h p).getD t 0 = s) :
    openR k nonce h ((sealL k nonce h p).set t (bx s x)) = ([], 15) ∨ (∃ zs, openR k nonce h ((sealL k nonce h p).set t (bx s x)) = (zs, 0) ∧ zs.length = n ∧ t < n ∧
      tagZ k (inp nonce h ((sealL k nonce h p).take n)) % 4294967296 = tagZ k (inp nonce h (((sealL k nonce h p).set t (bx s x)).take n)) % 4294967296) := by
  have bS := sealL_bytes k nonce h hp
  have hlS : (sealL k nonce h p).length = n + 4 := by rw [sealL_len, hn]
  have e1 : (sealL k nonce h p).take n = cry k nonce p := by
    unfold sealL
    rw [List.take_append_of_le_length (by rw [cry_len]; omega), List.take_of_length_le (by rw [cry_len]; omega)]
  have e2 : (sealL k nonce h p).drop n = endL k nonce h (cry k nonce p) := by
    unfold sealL
    rw [List.drop_append_of_le_length (by rw [cry_len]; omega), List.drop_of_length_le (by rw [cry_len]; omega), List.nil_append]
  have bc := cry_bytes k nonce hp
  have lc := cry_len k nonce p
  have hs0 : 0 ≤ s := by rw [← hs]; exact (bytes_get bS t).1
  generalize hC : cry k nonce p = C at *
  generalize hS : sealL k nonce h p = S at *
  obtain ⟨O, hO⟩ : ∃ O, S.set t (bx s x) = O := ⟨_, rfl⟩
  have hlO : O.length = n + 4 := by rw [← hO, List.length_set, hlS]
  rw [hO]
  by_cases he : O.drop (O.length - 4) = endL k nonce h (O.take (O.length - 4))
  · right
    have he' := he
    rw [hlO, Nat.add_sub_cancel] at he
    by_cases hin : t < n
    · refine ⟨_, openR_good _ _ _ _ (by omega) he', by rw [cry_len, List.length_take]; omega, hin, ?_⟩
      have e3 : O.drop n = S.drop n := by rw [← hO, List.drop_set_of_lt hin]
      rw [e3, e2] at he
      rw [e1]
      have lT : (O.take n).length = n := by rw [List.length_take]; omega
      have bO : Bytes (O.take n) := by
        intro z hz
        rw [← hO] at hz
        have hz := List.mem_of_mem_take hz
        rcases List.mem_or_eq_of_mem_set hz with g | rfl
        · exact bS z g
        · exact bx_bd _ _ (by rw [← hs]; exact bytes_get bS t) ⟨by omega, hx.2⟩
      exact numL4_inj _ _ (tagZ_bd k (inp_bytes nonce hh bc) (by rw [inp_len, lc, hn]; omega)).1 (tagZ_bd k (inp_bytes nonce hh bO) (by rw [inp_len, lT]; omega)).1 he
    · exfalso
      have e3 : O.take n = S.take n := by rw [← hO, List.take_set_of_le (by omega)]
      rw [e3, e1, ← e2] at he
      have e4 : O = S := by rw [← List.take_append_drop n O, he, e3, List.take_append_drop]
      have e5 : O.getD t 0 = bx s x := by rw [← hO]; simp [List.getD, List.getElem?_set_self (show t < S.length by omega)]
      rw [e4, hs] at e5
      exact bx_ne s x hs0 hx.1 e5.symm
  · exact .inl (openR_bad _ _ _ _ (by omega) he)
theorem law_changes (a0 : Int) (A1 : Option Addr) (n1 c1 : Nat) (x1 : List Int) (A2 : Option Addr) (n2 c2 : Nat) (x2 : List Int) (a3 a4 : Int) (w : World) (u0 : 0 ≤ a0 ∧ a0 ≤ 18446744073709551615)
    (hx1 : x1.length = n1) (hc1 : n1 ≤ c1) (hi1 : Ints .u8 w w.heap.size A1 x1) (hb1 : Bytes x1) (hs1 : c1 * 1 ≤ 140737488351232)
    (hx2 : x2.length = n2) (hc2 : n2 ≤ c2) (hi2 : Ints .u8 w w.heap.size A2 x2) (hb2 : Bytes x2) (hs2 : c2 * 1 ≤ 140737488351232)
    (u3 : -9223372036854775808 ≤ a3 ∧ a3 ≤ 9223372036854775807) (u4 : 0 ≤ a4 ∧ a4 ≤ 255) :
    Calls Try.prog 11 #[.int .u64 a0, .slice A1 n1 c1, .slice A2 n2 c2, .int .i64 a3, .int .u8 a4] w fun e w' => e = .returned (.bool true) ∧ Below w.heap.size w w' := by
  obtain ⟨i0, hi, hz0, hz1, hz2⟩ := info_parts info_u8
  by_cases h1 : 200 < n1
  · have d1 : decide ((200 : Int) < (n1 : Int)) = true := by simp; omega
    go_enter Try.func11, Try.ntmps11
    go_wp2_with (go_at_call 12; refine (lives_any _).mono ?_; rintro e w1 ⟨rfl, b1⟩)
    go_ret
    exact ⟨rfl, b1⟩
  have d1 : decide ((200 : Int) < (n1 : Int)) = false := by simp; omega
  by_cases h2 : 200 < n2
  · have d2 : decide ((200 : Int) < (n2 : Int)) = true := by simp; omega
    go_enter Try.func11, Try.ntmps11
    go_wp2_with (go_at_call 12; refine (lives_any _).mono ?_; rintro e w1 ⟨rfl, b1⟩)
    go_ret
    exact ⟨rfl, b1⟩
  have d2 : decide ((200 : Int) < (n2 : Int)) = false := by simp; omega
  by_cases h3 : a3 < 0
  · have d3 : decide (a3 < 0) = true := by simp; omega
    go_enter Try.func11, Try.ntmps11
    go_wp2_with (go_at_call 12; refine (lives_any _).mono ?_; rintro e w1 ⟨rfl, b1⟩)
    go_ret
    exact ⟨rfl, b1⟩
  have d3 : decide (a3 < 0) = false := by simp; omega
  by_cases h4 : (n2 : Int) + 4 ≤ a3
  · have d4 : decide ((n2 : Int) + 4 ≤ a3) = true := by simp; omega
    go_enter Try.func11, Try.ntmps11
    go_wp2_with (go_at_call 12; refine (lives_any _).mono ?_; rintro e w1 ⟨rfl, b1⟩)
    go_ret
    exact ⟨rfl, b1⟩
  have d4 : decide ((n2 : Int) + 4 ≤ a3) = false := by simp; omega
  by_cases h5 : a4 = 0
  · have d5 : (a4 == 0) = true := by simp; omega
    go_enter Try.func11, Try.ntmps11
    go_wp2_with (go_at_call 12; refine (lives_any _).mono ?_; rintro e w1 ⟨rfl, b1⟩)
    go_ret
    exact ⟨rfl, b1⟩
  have d5 : (a4 == 0) = false := by simp; omega
  obtain ⟨t, rfl⟩ := Int.eq_ofNat_of_zero_le (show 0 ≤ a3 by omega)
  obtain ⟨m, hm⟩ : ∃ m, n2 + 4 = m := ⟨_, rfl⟩
  have htm : t < m := by omega
  obtain ⟨S, hS⟩ : ∃ S, sealL a0 7 x1 x2 = S := ⟨_, rfl⟩
  obtain ⟨s, hs⟩ : ∃ s, S.getD t 0 = s := ⟨_, rfl⟩
  obtain ⟨O, hO⟩ : ∃ O, S.set t (bx s a4) = O := ⟨_, rfl⟩
  have hch := changed a0 7 hb1 hb2 (by omega) n2 t hx2 a4 s (by omega) (by omega) (by rw [hS]; exact hs)
  have bS := sealL_bytes a0 7 x1 hb2
  have hlS : S.length = m := by rw [← hS, sealL_len, hx2, hm]
  rw [hS] at hch bS
  rw [hO] at hch
  have bs : 0 ≤ s ∧ s ≤ 255 := by rw [← hs]; exact bytes_get bS t
  have ex : bits BinOp.xor IntKind.u8 s a4 = bx s a4 := bx_code _ _ bs u4
  have bxb := bx_bd s a4 bs u4
  have bO : Bytes O := by rw [← hO]; exact bytes_set bS t _ bxb
  have HLO : Hid (O.length = m) := Lib.hid (by rw [← hO, List.length_set, hlS])
  have HLS := Lib.hid hlS
  have HS := Lib.hid hS
  have HO := Lib.hid hO
  have HGET : Hid (S[t]? = some s) := Lib.hid (by rw [← hs, List.getD, List.getElem?_eq_getElem (by omega)]; rfl)
  have dm : ((m : Int) == (n2 : Int) + 4) = true := by simp; omega
  have dm' : ((m : Int) != (n2 : Int) + 4) = false := by simp; omega
  have g1 : (0 : Int) ≤ (t : Int) := by omega
  have g2 : (t : Int) < (m : Int) := by omega
  have HMM := Lib.hid hm
  have hmb : 4 ≤ m ∧ m ≤ 204 := by omega
  have hnm : n2 ≤ m := by omega
  obtain ⟨y, hy⟩ : ∃ y, bx s a4 = y := ⟨_, rfl⟩
  rw [hy] at ex bxb hO
  have HO := Lib.hid hO
  clear hS hs hlS hm hy hO
  rcases hch with hR | ⟨zs, hR, hzl, htn, hT⟩
  · have HR := Lib.hid hR
    clear hR
    go_enter Try.func11, Try.ntmps11
    go_wp2_with (first
      | (go_at_call 20; refine (seal_any a0 7 A1 A2 n1 c1 n2 c2 x1 x2 _ u0 (by decide) hx1 hb1 hi1 (by omega) hx2 hb2 hi2 (by omega)).mono ?_; rw [HS.out]; intro e w5 m5; obtain ⟨B5, d5, rfl, k5, q5, j5, b5⟩ := readm m5 HLS.out; clear m5)
      | (at_builtin; refine wpList_append_ints rfl _ _ 24 rfl .u8 w5.heap.size 5 i0 _ 1 Try.underlying24 hi hz0 hz1 hz2 rfl (.slice (some ⟨w5.heap.size, 0, none⟩) 0 0) 0 [] rfl (World.ownsRow_made _ _ 0 (Nat.le_refl _) (by unfold maxLen; omega) rfl) w5.heap.size B5 m d5 S rfl HLS.out ?c1 ?c2 ?c3 ?c4 ?_; (case c1 => exact j5.alloc (Nat.le_refl _) _); (case c2 => unfold maxLen; omega); (case c3 => omega); (case c4 => simp); intro v6 w6 o6 b6' _; obtain ⟨B6, d6, rfl⟩ := own_form o6; simp only [Nat.zero_add, List.nil_append] at o6; have b6 : Below w5.heap.size w5 w6 := ((Below.refl _ _).alloc (Nat.le_refl _) _).trans b6'; clear b6'; obtain ⟨g, rfl, hg, hgl⟩ := own_block o6 (by omega); have f3 := o6.frozenAt t; have f4 : w6.cell? ⟨g, t, none⟩ = some (.int .u8 s) := (by rw [o6.cellAt _ (by omega), List.getElem?_map, HGET.out]; rfl); have hst := o6.stored t (.int .u8 y); have o7 : (w6.setCell ⟨g, t, none⟩ (.int .u8 y)).ownsRow w5.heap.size 5 1 (.slice (some ⟨g, 0, none⟩) m d6) m (O.map (Value.int .u8)) := (by rw [← HO.out, List.map_set]; exact hst.1); have b7 := b6.setCell (p := ⟨g, t, none⟩) hg (.int .u8 y); have B7 := thenB b5 b7; have j7 := Ints.own o7; have k7 := own_cap o7; have q7 := own_max o7; clear hst)
      | (go_at_call 22; refine (open_any a0 7 A1 _ n1 c1 m d6 x1 O _ u0 (by decide) hx1 hb1 (later hi1 B7) (by omega) HLO.out bO j7 (by omega) k7 q7).mono ?_; rw [HR.out]; rintro e w8 ⟨A8, c8, rfl, o8, b8⟩; have B8 := thenB B7 b8; clear o8)
      | (go_at_call 12; refine (lives_any _).mono ?_; rintro e w9 ⟨rfl, b9⟩))
    all_goals go_ret
    all_goals exact ⟨rfl, thenB B8 b9⟩
  · have HR := Lib.hid hR
    have HZ := Lib.hid hzl
    have dt : decide ((t : Int) < (n2 : Int)) = true := by simp; omega
    have HTS : Hid ((S.take n2).length = n2) := Lib.hid (by rw [List.length_take, HLS.out]; omega)
    have HTO : Hid ((O.take n2).length = n2) := Lib.hid (by rw [List.length_take, HLO.out]; omega)
    obtain ⟨L, hL⟩ : ∃ L, 12 + n1 + n2 = L := ⟨_, rfl⟩
    obtain ⟨I1, hI1⟩ : ∃ I, inp 7 x1 (S.take n2) = I := ⟨_, rfl⟩
    obtain ⟨I2, hI2⟩ : ∃ I, inp 7 x1 (O.take n2) = I := ⟨_, rfl⟩
    rw [hI1, hI2] at hT
    have HL1 : Hid (I1.length = L) := Lib.hid (by rw [← hI1, inp_len, HTS.out, hx1, hL])
    have HL2 : Hid (I2.length = L) := Lib.hid (by rw [← hI2, inp_len, HTO.out, hx1, hL])
    have bI1 : Bytes I1 := by rw [← hI1]; exact inp_bytes 7 hb1 (bytes_take bS _)
    have bI2 : Bytes I2 := by rw [← hI2]; exact inp_bytes 7 hb1 (bytes_take bO _)
    have tb1 := tagZ_bd a0 bI1 (by rw [HL1.out]; omega)
    have tb2 := tagZ_bd a0 bI2 (by rw [HL2.out]; omega)
    obtain ⟨T1, hT1⟩ : ∃ T, tagZ a0 I1 = T := ⟨_, rfl⟩
    obtain ⟨T2, hT2⟩ : ∃ T, tagZ a0 I2 = T := ⟨_, rfl⟩
    rw [hT1, hT2] at hT
    rw [hT1] at tb1
    rw [hT2] at tb2
    have dT : (T1 % 4294967296 == T2 % 4294967296) = true := by simp [hT]
    have HT1 := Lib.hid hT1
    have HT2 := Lib.hid hT2
    have HI1 := Lib.hid hI1
    have HI2 := Lib.hid hI2
    have g3 : (0 : Int) ≤ (n2 : Int) := by omega
    have HLB : Hid (L ≤ 412) := Lib.hid (by omega)
    clear hR hzl hL hI1 hI2 hT1 hT2 hT
    go_enter Try.func11, Try.ntmps11
    go_wp2_with (first
      | (go_at_call 20; refine (seal_any a0 7 A1 A2 n1 c1 n2 c2 x1 x2 _ u0 (by decide) hx1 hb1 hi1 (by omega) hx2 hb2 hi2 (by omega)).mono ?_; rw [HS.out]; intro e w5 m5; obtain ⟨B5, d5, rfl, k5, q5, j5, b5⟩ := readm m5 HLS.out; clear m5)
      | (at_builtin; refine wpList_append_ints rfl _ _ 24 rfl .u8 w5.heap.size 5 i0 _ 1 Try.underlying24 hi hz0 hz1 hz2 rfl (.slice (some ⟨w5.heap.size, 0, none⟩) 0 0) 0 [] rfl (World.ownsRow_made _ _ 0 (Nat.le_refl _) (by unfold maxLen; omega) rfl) w5.heap.size B5 m d5 S rfl HLS.out ?c1 ?c2 ?c3 ?c4 ?_; (case c1 => exact j5.alloc (Nat.le_refl _) _); (case c2 => unfold maxLen; omega); (case c3 => omega); (case c4 => simp); intro v6 w6 o6 b6' _; obtain ⟨B6, d6, rfl⟩ := own_form o6; simp only [Nat.zero_add, List.nil_append] at o6; have b6 : Below w5.heap.size w5 w6 := ((Below.refl _ _).alloc (Nat.le_refl _) _).trans b6'; clear b6'; obtain ⟨g, rfl, hg, hgl⟩ := own_block o6 (by omega); have f3 := o6.frozenAt t; have f4 : w6.cell? ⟨g, t, none⟩ = some (.int .u8 s) := (by rw [o6.cellAt _ (by omega), List.getElem?_map, HGET.out]; rfl); have hst := o6.stored t (.int .u8 y); have o7 : (w6.setCell ⟨g, t, none⟩ (.int .u8 y)).ownsRow w5.heap.size 5 1 (.slice (some ⟨g, 0, none⟩) m d6) m (O.map (Value.int .u8)) := (by rw [← HO.out, List.map_set]; exact hst.1); have b7 := b6.setCell (p := ⟨g, t, none⟩) hg (.int .u8 y); have B7 := thenB b5 b7; have j7 := Ints.own o7; have k7 := own_cap o7; have q7 := own_max o7; clear hst)
      | (go_at_call 22; refine (open_any a0 7 A1 _ n1 c1 m d6 x1 O _ u0 (by decide) hx1 hb1 (later hi1 B7) (by omega) HLO.out bO j7 (by omega) k7 q7).mono ?_; rw [HR.out]; rintro e w8 ⟨A8, c8, rfl, o8, b8⟩; have B8 := thenB B7 b8; clear o8; have g4 : (n2 : Int) ≤ (d5 : Int) := (by omega); have g5 : (n2 : Int) ≤ (d6 : Int) := (by omega); have p8 := (later (later j5 b7) b8).pre (i := n2); have r8 := (later j7 b8).pre (i := n2))
      | (go_at_call 26; have h0 := HI1.out; clear HI1; refine (rinput_any 7 A1 B5 n1 c1 n2 _ x1 (S.take n2) _ (by decide) hx1 hb1 (later hi1 B8) (by omega) HTS.out (bytes_take bS _) p8 (by omega)).mono ?_; rw [h0]; clear h0; intro e w9 m9; obtain ⟨A9, d9, rfl, k9, q9, j9, b9⟩ := readm m9 HL1.out; clear m9; have B9 := thenB B8 b9; have r9 := later r8 b9)
      | (go_at_call 13; have h0 := HT1.out; clear HT1; refine (tag_any a0 A9 L d9 I1 _ u0 HL1.out bI1 k9 q9 (by have := HLB.out; omega) j9).mono ?_; rw [h0]; clear h0; rintro e w10 ⟨rfl, b10⟩; have B10 := thenB B9 b10; have r10 := later r9 b10)
      | (go_at_call 26; have h0 := HI2.out; clear HI2; refine (rinput_any 7 A1 _ n1 c1 n2 _ x1 (O.take n2) _ (by decide) hx1 hb1 (later hi1 B10) (by omega) HTO.out (bytes_take bO _) r10 (by omega)).mono ?_; rw [h0]; clear h0; intro e w11 m11; obtain ⟨A11, d11, rfl, k11, q11, j11, b11⟩ := readm m11 HL2.out; clear m11; have B11 := thenB B10 b11)
      | (go_at_call 13; have h0 := HT2.out; clear HT2; refine (tag_any a0 A11 L d11 I2 _ u0 HL2.out bI2 k11 q11 (by have := HLB.out; omega) j11).mono ?_; rw [h0]; clear h0; rintro e w12 ⟨rfl, b12⟩; have B12 := thenB B11 b12)
      | (go_at_call 12; refine (lives_any _).mono ?_; rintro e w13 ⟨rfl, b13⟩))
    all_goals go_ret
    all_goals exact ⟨rfl, thenB B12 b13⟩
end Go.Proofs.Ytpdaeggjahcogaa.Mac
