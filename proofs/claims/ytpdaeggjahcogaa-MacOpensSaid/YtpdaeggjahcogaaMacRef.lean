/- The specification of tags, key streams and sealing: what its functions return: contracts over the program. -/
import Derived.Test.YtpdaeggjahcogaaMacWalks
import Derived.Test.YtpdaeggjahcogaaBlkRef
set_option linter.unusedVariables false
set_option linter.unusedSimpArgs false
namespace Go.Proofs.Ytpdaeggjahcogaa.Mac
open Go.RowKit Mem Oct Blk Base

theorem rmix_to {k x v : Int} (w : World) (hk : 0 ≤ k ∧ k ≤ 18446744073709551615) (hx : 0 ≤ x ∧ x ≤ 18446744073709551615) (hv : mixZ k x = v) :
    Calls Try.prog 28 #[.int .u64 k, .int .u64 x] w fun e w' => e = .returned (.int .u64 v) ∧ Below w.heap.size w w' := by
  rw [← hv]; exact rmix_any k x w hk hx
theorem value_to {A : Option Addr} {n c : Nat} {v : Int} (xs : List Int) (w : World) (hx : xs.length = n) (bxs : Bytes xs) (hr : Ints .u8 w w.heap.size A xs) (hn : n ≤ 8) (hv : valL xs = v) :
    Calls Try.prog 29 #[.slice A n c] w fun e w' => e = .returned (.int .u64 v) ∧ w = w' := by
  rw [← hv]; exact value_any A n c xs w hx bxs hr hn
theorem rtag_any (k : Int) (A : Option Addr) (n c : Nat) (xs : List Int) (w : World) (hk : 0 ≤ k ∧ k ≤ 18446744073709551615) (hx : xs.length = n) (bxs : Bytes xs) (hnc : n ≤ c) (hc : c ≤ 9223372036854775807) (hn : n ≤ 140737488351232) (hI : Ints .u8 w w.heap.size A xs) :
    Calls Try.prog 14 #[.int .u64 k, .slice A n c] w fun e w' => e = .returned (.int .u64 (tagZ k xs)) ∧ Below w.heap.size w w' := by
  have HZ : Hid (mixZ k n = tagA k xs 0) := Lib.hid (by rw [← hx]; rfl)
  have HT : Hid (tagA k xs (ngr n) = tagZ k xs) := Lib.hid (by rw [← hx]; rfl)
  have hb := fun j => tagA_bd k bxs (by omega) j
  have HS : Hid (∀ j, mixZ k (bx (tagA k xs j) (grp xs j)) = tagA k xs (j + 1)) := Lib.hid fun j => rfl
  have hg := grp_bd bxs
  have HX := Lib.hid hx
  clear hx
  go_enter Try.func14, Try.ntmps14
  go_wp2_with (go_at_call 28; refine (rmix_to _ hk (by omega) HZ.out).mono ?_; clear HZ; rintro e w1 ⟨rfl, hb1⟩)
  go_loopw [5, 6] (fun x i wr => ∃ j : Nat, j ≤ ngr n ∧ i = .int .i64 (8 * j : Nat) ∧ x = .int .u64 (tagA k xs j) ∧ Below w.heap.size w wr) (fun _ i _ => n + 8 - (intOf i).toNat)
  case atStart => exact ⟨0, by omega, rfl, rfl, hb1⟩
  case round =>
    obtain ⟨j, hj, rfl, rfl, hbel⟩ := hrel
    by_cases c1 : 8 * j < n
    · obtain ⟨s, hs⟩ : ∃ s : Nat, min (8 * j + 8) n = s := ⟨_, rfl⟩
      have hmin : min ((8 * j : Nat) + 8 : Int) (n : Int) = (s : Int) := by omega
      have hmin2 : min (8 * (j : Int) + 8) (n : Int) = (s : Int) := by omega
      have hs1 : 8 * j < s := by omega
      have hs8 : s ≤ 8 * j + 8 := by omega
      have hsn : s ≤ n := by omega
      have hjn : j + 1 ≤ ngr n := by unfold ngr; omega
      have HD : Hid ((xs.drop (8 * j)).length = n - 8 * j) := Lib.hid (by rw [List.length_drop, HX.out])
      have HL : Hid (((xs.drop (8 * j)).take (s - 8 * j)).length = s - 8 * j) := Lib.hid (by rw [List.length_take, HD.out]; omega)
      have HV : Hid (valL ((xs.drop (8 * j)).take (s - 8 * j)) = grp xs j) := Lib.hid (by
        unfold grp
        by_cases h8 : s = 8 * j + 8
        · rw [show s - 8 * j = 8 by omega]
        · rw [List.take_of_length_le (by rw [HD.out]; omega), List.take_of_length_le (i := 8) (by rw [HD.out]; omega)])
      have hcut := ((later hI hbel).cut (c := c) (i := 8 * j) (by rw [HX.out]; omega) (by rw [HX.out]; omega)).pre (i := s - 8 * j)
      have hne : ¬ c = 8 * j := by omega
      rw [if_neg hne] at hcut
      have bt : Bytes ((xs.drop (8 * j)).take (s - 8 * j)) := bytes_take (bytes_drop bxs _) _
      have b1 := hb j
      have b2 := hg j
      have e1 := bx64_code _ _ b1 b2
      have b3 := bx64 _ _ b1 b2
      have HS1 := Lib.hid (HS.out j)
      clear hs
      generalize tagA k xs j = T at *
      generalize hT' : tagA k xs (j + 1) = T' at *
      have HT' := Lib.hid hT'
      clear hT'
      generalize (xs.drop (8 * j)).take (s - 8 * j) = Y at *
      generalize grp xs j = G at *
      generalize bx T G = M at *
      have g1 : (8 : Int) * (j : Int) < (n : Int) := by omega
      have g2 : (8 : Int) * (j : Int) ≤ (s : Int) := by omega
      have g3 : (s : Int) ≤ (c : Int) := by omega
      have g4 : (s : Int) ≤ (n : Int) := by omega
      go_wp2_with (first
        | (go_at_call 29; refine (value_to Y _ (by first | exact HL.out | (have := HL.out; omega)) bt hcut (by omega) HV.out).mono ?_; rintro e w' ⟨rfl, rfl⟩)
        | (go_at_call 28; refine (rmix_to _ hk b3 HS1.out).mono ?_; rintro e w2 ⟨rfl, hb2⟩))
      go_roundw
      case rel => exact ⟨j + 1, hjn, by go_num, by rw [HT'.out], hbel.trans (hb2.mono hbel.size)⟩
      case measure => simp [intOf]; omega
    · have hjn : j = ngr n := by unfold ngr at *; omega
      subst hjn
      have g1 : decide ((8 : Int) * (ngr n : Int) < (n : Int)) = false := by simp; omega
      go_wp2_with fail
      go_ret
      exact ⟨Ser.ret_int HT.out, hbel⟩
/-- The beginning of a row. -/
theorem own_pre {w : World} {base : Nat} {e : TypeId} {A : Option Addr} {m n c : Nat} {xs : List Value} (h : w.ownsRow base e 1 (.slice A m c) m xs) (hn : n ≤ m) : w.ownsRow base e 1 (.slice A n c) n (xs.take n) := by
  have hl := h.1
  refine ⟨by rw [List.length_take]; omega, ?_⟩
  rcases h.2 with ⟨hv, h0⟩ | ⟨g, cap, cur, hv, hbg, hg, hnc, hcm, hcs, htake⟩
  · injection hv with hA hm hc
    exact .inl ⟨by rw [hA, hc, show n = 0 by omega], by omega⟩
  · injection hv with hA hm hc
    exact .inr ⟨g, cap, cur, by rw [hA, hc], hbg, hg, by omega, hcm, hcs, by rw [← htake, List.take_take]; congr 1; omega⟩
theorem rstream_any (k nonce : Int) (n : Nat) (w : World) (hk : 0 ≤ k ∧ k ≤ 18446744073709551615) (hx : 0 ≤ nonce ∧ nonce ≤ 18446744073709551615) (hn : n ≤ 140737488351232) :
    Calls Try.prog 34 #[.int .u64 k, .int .u64 nonce, .int .i64 n] w fun e w' => Makes w w' e (strm k nonce n) := by
  obtain ⟨i0, hi, hz0, hz1, hz2⟩ := info_parts info_u8
  have hF := mixZ_bd k nonce hx
  have hA : ∀ j : Nat, mixZ k ((mixZ k nonce + j) % 18446744073709551616) = keyA k nonce j := fun _ => rfl
  obtain ⟨F, hFe⟩ : ∃ F, mixZ k nonce = F := ⟨_, rfl⟩
  rw [hFe] at hF hA
  have HF := Lib.hid hFe
  have HA := Lib.hid hA
  clear hFe hA
  go_enter Try.func34, Try.ntmps34
  go_wp2_with (go_at_call 28; refine (rmix_to _ hk hx HF.out).mono ?_; rintro e w1 ⟨rfl, hb1⟩)
  have hB1 := alloc1 _ _ hb1
  have hown0 : w1.ownsRow w.heap.size 5 1 (.slice (some ⟨w.heap.size, 0, none⟩) 0 0) 0 [] := own_below (World.ownsRow_made _ _ 0 (Nat.le_refl _) (by unfold maxLen; omega) rfl) hb1
  go_loopw [7, 9] (fun v i wr => ∃ (j : Nat) (A : Option Addr) (c : Nat), 8 * j < n + 8 ∧ i = .int .i64 j ∧ v = .slice A (8 * j) c ∧ wr.ownsRow w.heap.size 5 1 (.slice A (8 * j) c) (8 * j) ((strm k nonce (8 * j)).map (Value.int .u8)) ∧ Below w.heap.size w wr) (fun _ i _ => n + 8 - 8 * (intOf i).toNat)
  case atStart => exact ⟨0, _, _, by omega, rfl, rfl, hown0, hB1⟩
  case round =>
    obtain ⟨j, A, c, hj, rfl, rfl, hown, hbel⟩ := hrel
    by_cases c1 : 8 * j < n
    · have g1 : ((8 : Int) * (j : Int)) < (n : Int) := by omega
      have e1 : IntKind.u64.wrap (F + (j : Int)) = (F + j) % 18446744073709551616 := by rw [IntKind.wrap_u64]
      obtain ⟨X, hX⟩ : ∃ X, (F + (j : Int)) % 18446744073709551616 = X := ⟨_, rfl⟩
      have bX : 0 ≤ X ∧ X ≤ 18446744073709551615 := by omega
      have HX : Hid (mixZ k X = keyA k nonce j) := Lib.hid (by rw [← hX]; exact HA.out j)
      have HN : Hid (strm k nonce (8 * (j + 1)) = strm k nonce (8 * j) ++ numL 8 (keyA k nonce j)) := Lib.hid (strm_num k nonce j 8 (Nat.le_refl _))
      have bA := keyA_bd k nonce j
      have HL : Hid ((numL 8 (keyA k nonce j)).length = 8) := Lib.hid (numL_len _ _)
      rw [hX] at e1
      clear hX
      generalize keyA k nonce j = Y at *
      go_wp2_with (first
        | (go_at_call 28; refine (rmix_to _ hk bX HX.out).mono ?_; rintro e w2 ⟨rfl, hb2⟩; have o2 := own_below hown hb2; have hB2 := thenB hbel hb2)
        | (go_at_call 32; refine (rnum_any 8 Y _ (by omega) bA).mono ?_; intro e w3 m3; obtain ⟨A3, c3, rfl, k3, x3, j3, b3⟩ := readm m3 HL.out; clear m3; have o3 := own_below o2 b3; have hB3 := thenB hB2 b3)
        | (at_builtin; refine wpList_append_ints rfl _ _ 24 rfl .u8 w.heap.size 5 i0 _ 1 Try.underlying24 hi hz0 hz1 hz2 rfl _ (8 * j) _ rfl o3 w3.heap.size A3 8 c3 (numL 8 Y) rfl HL.out j3 ?c2 ?c3 ?c4 ?_; (case c2 => unfold maxLen; omega); (case c3 => omega); (case c4 => exact hB3.size); intro v4 w4 o4 b4 _; obtain ⟨A4, c4, rfl⟩ := own_form o4))
      go_roundw
      case rel => exact ⟨j + 1, A4, c4, by omega, by go_num, by first | rfl | (congr 1; omega), by rw [HN.out, List.map_append]; exact o4, hB3.trans b4⟩
      case measure => simp [intOf]; omega
    · have g1 : decide ((8 : Int) * (j : Int) < (n : Int)) = false := by simp; omega
      have hnc := own_cap hown
      have g2 : (n : Int) ≤ (c : Int) := by omega
      have HT := Lib.hid (strm_take k nonce (8 * j) n (by omega))
      have hp := own_pre hown (show n ≤ 8 * j by omega)
      rw [← List.map_take, HT.out] at hp
      clear hj
      go_wp2_with fail
      go_ret
      exact makes_of rfl (strm_len _ _ _) hp hbel
theorem rStream_any (k nonce m : Int) (w : World) (hk : 0 ≤ k ∧ k ≤ 18446744073709551615) (hx : 0 ≤ nonce ∧ nonce ≤ 18446744073709551615) (hm : -9223372036854775808 ≤ m ∧ m ≤ 9223372036854775807) :
    Calls Try.prog 19 #[.int .u64 k, .int .u64 nonce, .int .i64 m] w fun e w' => Makes w w' e (strm k nonce (max 0 (min m 65536)).toNat) := by
  obtain ⟨n, hn⟩ : ∃ n : Nat, max 0 (min m 65536) = (n : Int) := ⟨(max 0 (min m 65536)).toNat, by omega⟩
  have hn1 : n ≤ 65536 := by omega
  have HS : Hid ((max 0 (min m 65536)).toNat = n) := Lib.hid (by omega)
  rw [HS.out]
  go_enter Try.func19, Try.ntmps19
  go_wp2_with (go_at_call 34; (try rw [hn]); refine (rstream_any k nonce n _ hk hx (by omega)).mono ?_; rintro e w1 ⟨A, c, rfl, hown, hb⟩)
  go_ret
  exact makes_of rfl rfl hown hb
theorem rinput_any (nonce : Int) (A A' : Option Addr) (n c n' c' : Nat) (hs cs : List Int) (w : World) (hx : 0 ≤ nonce ∧ nonce ≤ 18446744073709551615)
    (hl : hs.length = n) (bh : Bytes hs) (hr : Ints .u8 w w.heap.size A hs) (hn : n ≤ 35184372088832) (hl' : cs.length = n') (bc : Bytes cs) (hr' : Ints .u8 w w.heap.size A' cs) (hn' : n' ≤ 35184372088832) :
    Calls Try.prog 26 #[.int .u64 nonce, .slice A n c, .slice A' n' c'] w fun e w' => Makes w w' e (inp nonce hs cs) := by
  obtain ⟨i0, hi, hz0, hz1, hz2⟩ := info_parts info_u8
  have HA : Hid ((numL 8 nonce).length = 8) := Lib.hid (numL_len _ _)
  have HB : Hid ((numL 4 (n : Int)).length = 4) := Lib.hid (numL_len _ _)
  have HI : Hid ((inp nonce hs cs).map (Value.int .u8) = (((numL 8 nonce).map (Value.int .u8) ++ (numL 4 (n : Int)).map (Value.int .u8)) ++ hs.map (Value.int .u8)) ++ cs.map (Value.int .u8)) := Lib.hid (by simp [inp, hl])
  have HL : Hid ((inp nonce hs cs).length = 12 + n + n') := Lib.hid (by rw [inp_len, hl, hl'])
  have HH := Lib.hid hl
  have HC := Lib.hid hl'
  clear hl hl'
  go_enter Try.func26, Try.ntmps26
  go_wp2_with (first
    | (go_at_call 32; have h0 := HA.out; clear HA; refine (rnum_any 8 nonce _ (by omega) hx).mono ?_; intro e w1 m1; obtain ⟨A1, c1, rfl, o1, b1⟩ := m1.len h0; clear m1 h0)
    | (go_at_call 32; refine (rnum_any 4 n _ (by omega) (by omega)).mono ?_; intro e w2 m2; obtain ⟨A2, c2, rfl, k2, x2, j2, b2⟩ := readm m2 HB.out; clear m2; have o1 := own_below o1 b2; have b2 := thenB b1 b2)
    | (at_builtin; have h0 := HB.out; clear HB; refine wpList_append_ints rfl _ _ 24 rfl .u8 w.heap.size 5 i0 _ 1 Try.underlying24 hi hz0 hz1 hz2 rfl _ 8 _ rfl o1 w2.heap.size A2 4 c2 (numL 4 (n : Int)) rfl h0 j2 ?c2 ?c3 ?c4 ?_; clear h0; (case c2 => unfold maxLen; omega); (case c3 => omega); (case c4 => exact b2.size); intro v3 w3 o3 b3' _; obtain ⟨A3, c3, rfl⟩ := own_form o3; have b3 := b2.trans b3')
    | (at_builtin; have h0 := HH.out; clear HH; refine wpList_append_ints rfl _ _ 24 rfl .u8 w.heap.size 5 i0 _ 1 Try.underlying24 hi hz0 hz1 hz2 rfl _ (8 + 4) _ rfl o3 w3.heap.size A n c hs rfl h0 (later hr b3) ?c2 ?c3 ?c4 ?_; clear h0; (case c2 => unfold maxLen; omega); (case c3 => omega); (case c4 => exact b3.size); intro v4 w4 o4 b4' _; obtain ⟨A4, c4, rfl⟩ := own_form o4; have b4 := b3.trans b4')
    | (at_builtin; have h0 := HC.out; clear HC; refine wpList_append_ints rfl _ _ 24 rfl .u8 w.heap.size 5 i0 _ 1 Try.underlying24 hi hz0 hz1 hz2 rfl _ (8 + 4 + n) _ rfl o4 w4.heap.size A' n' c' cs rfl h0 (later hr' b4) ?c2 ?c3 ?c4 ?_; clear h0; (case c2 => unfold maxLen; omega); (case c3 => omega); (case c4 => exact b4.size); intro v5 w5 o5 b5' _; obtain ⟨A5, c5, rfl⟩ := own_form o5; have b5 := b4.trans b5'))
  go_ret
  have o5 : w5.ownsRow w.heap.size 5 1 (.slice A5 (12 + n + n') c5) (12 + n + n') ((inp nonce hs cs).map (Value.int .u8)) := by rw [HI.out]; exact o5
  exact makes_of rfl HL.out o5 b5
theorem rend_any (k nonce : Int) (A A' : Option Addr) (n c n' c' : Nat) (hs cs : List Int) (w : World) (hk : 0 ≤ k ∧ k ≤ 18446744073709551615) (hx : 0 ≤ nonce ∧ nonce ≤ 18446744073709551615)
    (hl : hs.length = n) (bh : Bytes hs) (hr : Ints .u8 w w.heap.size A hs) (hn : n ≤ 35184372088832) (hl' : cs.length = n') (bc : Bytes cs) (hr' : Ints .u8 w w.heap.size A' cs) (hn' : n' ≤ 35184372088832) :
    Calls Try.prog 38 #[.int .u64 k, .int .u64 nonce, .slice A n c, .slice A' n' c'] w fun e w' => Makes w w' e (endL k nonce hs cs) := by
  have HI : Hid ((inp nonce hs cs).length = 12 + n + n') := Lib.hid (by rw [inp_len, hl, hl'])
  have bI := inp_bytes nonce bh bc
  have bT := tagZ_bd k bI (by rw [HI.out]; omega)
  have HE : Hid (numL 4 (tagZ k (inp nonce hs cs)) = endL k nonce hs cs) := Lib.hid rfl
  have HL := Lib.hid (endL_len k nonce hs cs)
  go_enter Try.func38, Try.ntmps38
  go_wp2_with (first
    | (go_at_call 26; refine (rinput_any nonce A A' n c n' c' hs cs _ hx hl bh hr hn hl' bc hr' hn').mono ?_; intro e w1 m1; obtain ⟨A1, c1, rfl, k1, x1, j1, b1⟩ := readm m1 HI.out; clear m1)
    | (go_at_call 14; refine (rtag_any k A1 _ c1 (inp nonce hs cs) _ hk HI.out bI k1 x1 (by omega) j1).mono ?_; rintro e w2 ⟨rfl, b2⟩)
    | (go_at_call 32; refine (rnum_any 4 _ _ (by omega) bT).mono ?_; rw [show (4 : Int).toNat = 4 from rfl, HE.out]; intro e w3 m3; obtain ⟨A3, c3, rfl, o3, b3⟩ := m3.len HL.out; clear m3))
  go_ret
  have h2 := thenB b1 b2
  exact makes_of rfl HL.out (own_base o3 h2.size) (thenB h2 b3)
theorem rseal_any (k nonce : Int) (A A' : Option Addr) (n c n' c' : Nat) (hs ps : List Int) (w : World) (hk : 0 ≤ k ∧ k ≤ 18446744073709551615) (hx : 0 ≤ nonce ∧ nonce ≤ 18446744073709551615)
    (hl : hs.length = n) (bh : Bytes hs) (hr : Ints .u8 w w.heap.size A hs) (hn : n ≤ 35184372088832) (hl' : ps.length = n') (bp : Bytes ps) (hr' : Ints .u8 w w.heap.size A' ps) (hn' : n' ≤ 35184372088832) :
    Calls Try.prog 21 #[.int .u64 k, .int .u64 nonce, .slice A n c, .slice A' n' c'] w fun e w' => Makes w w' e (sealL k nonce hs ps) := by
  obtain ⟨i0, hi, hz0, hz1, hz2⟩ := info_parts info_u8
  have HS := Lib.hid (strm_len k nonce n')
  have bs := strm_bytes k nonce n'
  have HX : Hid (xorL ps (strm k nonce n') = cry k nonce ps) := Lib.hid (by unfold cry; rw [hl'])
  have HC : Hid ((cry k nonce ps).length = n') := Lib.hid (by rw [cry_len, hl'])
  have bc := cry_bytes k nonce bp
  have HE := Lib.hid (endL_len k nonce hs (cry k nonce ps))
  have HM : Hid ((sealL k nonce hs ps).map (Value.int .u8) = (cry k nonce ps).map (Value.int .u8) ++ (endL k nonce hs (cry k nonce ps)).map (Value.int .u8)) := Lib.hid (by simp [sealL])
  have HL : Hid ((sealL k nonce hs ps).length = n' + 4) := Lib.hid (by rw [sealL_len, hl'])
  go_enter Try.func21, Try.ntmps21
  go_wp2_with (first
    | (go_at_call 34; refine (rstream_any k nonce n' _ hk hx (by omega)).mono ?_; intro e w1 m1; obtain ⟨A1, c1, rfl, k1, x1, j1, b1⟩ := readm m1 HS.out; clear m1)
    | (go_at_call 37; refine (rxor_any A' A1 n' n' c' c1 ps _ _ hl' HS.out bp bs (later hr' b1) j1 (by omega) (by omega)).mono ?_; rw [HX.out]; intro e w2 m2; obtain ⟨A2, c2, rfl, o2, b2⟩ := m2.len HC.out; clear m2; have j2 := Ints.own o2; have h2 := thenB b1 b2)
    | (go_at_call 38; refine (rend_any k nonce A A2 n c n' c2 hs (cry k nonce ps) _ hk hx hl bh (later hr h2) hn HC.out bc j2 hn').mono ?_; intro e w3 m3; obtain ⟨A3, c3, rfl, k3, x3, j3, b3⟩ := readm m3 HE.out; clear m3; have o3 := own_below o2 b3; have h3 := thenB h2 b3)
    | (at_builtin; refine wpList_append_ints rfl _ _ 24 rfl .u8 w1.heap.size 5 i0 _ 1 Try.underlying24 hi hz0 hz1 hz2 rfl _ n' _ rfl o3 w3.heap.size A3 4 c3 (endL k nonce hs (cry k nonce ps)) rfl HE.out j3 ?c2 ?c3 ?c4 ?_; (case c2 => unfold maxLen; omega); (case c3 => omega); (case c4 => exact Nat.le_trans b2.size b3.size); intro v4 w4 o4 b4 _; obtain ⟨A4, c4, rfl⟩ := own_form o4))
  go_ret
  rw [← HM.out] at o4
  exact makes_of rfl HL.out (own_base o4 b1.size) (h3.trans (b4.mono b1.size))
end Go.Proofs.Ytpdaeggjahcogaa.Mac
