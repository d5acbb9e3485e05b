/- Three more statements on the layer of bytes, walked: each returns true. -/
import Derived.Test.YtljgpkiakggmkaaOctLaws
set_option linter.unusedVariables false
set_option linter.unusedSimpArgs false
namespace Go.Proofs.Ytljgpkiakggmkaa.Oct
open Go.RowKit Mem

theorem putL_all {fs : List (Int × Int)} (h : fs.all okF = true) : (putL fs).length ≤ 8 * fs.length := by
  have := putL_len_le fs fs.length (by rw [List.take_of_length_le (Nat.le_refl _)]; exact h)
  rw [List.take_of_length_le (Nat.le_refl _)] at this; exact this
theorem putL_bytes (fs : List (Int × Int)) : Bytes (putL fs) := by
  induction fs with
  | nil => intro z hz; cases hz
  | cons f r ih => exact bytes_append (numL_bytes _ _) ih
theorem take_put {fs : List (Int × Int)} (hf : Fields fs) (h : fs.all okF = true) (r : List Int) : takeR (putL fs ++ r) (fs.map (·.1)) = (fs.map (·.2), r, 0) := by
  have key : okZ (fs.map (·.1)) = true ∧ sumZ (fs.map (·.1)) = (putL fs).length ∧ numsL (putL fs ++ r) (fs.map (·.1)) = fs.map (·.2) := by
    induction fs with
    | nil => exact ⟨rfl, rfl, rfl⟩
    | cons f fs ih =>
      simp only [List.all_cons, Bool.and_eq_true] at h
      obtain ⟨i1, i2, i3⟩ := ih (fun g hg => hf g (by simp [hg])) h.2
      have hff := hf f (by simp)
      have h1 := h.1
      unfold okF at h1
      simp only [Bool.and_eq_true, decide_eq_true_eq] at h1
      have hn := numL_len f.1.toNat f.2
      refine ⟨?_, ?_, ?_⟩
      · unfold okZ at i1 ⊢
        simp only [List.map_cons, List.all_cons, Bool.and_eq_true, decide_eq_true_eq]
        exact ⟨h1.1, i1⟩
      · simp only [List.map_cons, sumZ, putL, List.length_append, hn]
        rw [i2]; omega
      · simp only [List.map_cons, numsL, putL, List.append_assoc]
        rw [List.take_left' hn, List.drop_left' hn, i3, valL_numL _ _ hff.2.1 h1.2]
  unfold takeR
  rw [if_pos key.1, if_neg (by rw [key.2.1, List.length_append]; omega), key.2.2, key.2.1]
  rw [Int.toNat_natCast, List.drop_left]
theorem rxor_to {xs ys zs : List Int} (hr : xorL xs ys = zs) {A A' : Option Addr} {n n' c c' : Nat} {w : World} (hx : xs.length = n) (hy : ys.length = n') (bxs : Bytes xs) (bys : Bytes ys) (h : Ints .u8 w w.heap.size A xs) (h' : Ints .u8 w w.heap.size A' ys) (hn : n ≤ 140737488351232) (hn' : n' ≤ 140737488351232) :
    Calls Try.prog 39 #[.slice A n c, .slice A' n' c'] w fun e w' => Makes w w' e zs := by
  rw [← hr]; exact rxor_any A A' n n' c c' xs ys w hx hy bxs bys h h' hn hn'
theorem law_joins (A0 : Option Addr) (n0 c0 : Nat) (x0 : List Int) (A1 : Option Addr) (n1 c1 : Nat) (x1 : List Int) (A2 : Option Addr) (n2 c2 : Nat) (x2 : List Int) (w : World)
    (hx0 : x0.length = n0) (hc0 : n0 ≤ c0) (hi0 : Ints .u8 w w.heap.size A0 x0) (hb0 : Bytes x0) (hs0 : c0 ≤ 1048576)
    (hx1 : x1.length = n1) (hc1 : n1 ≤ c1) (hi1 : Ints .u8 w w.heap.size A1 x1) (hb1 : Bytes x1) (hs1 : c1 ≤ 1048576)
    (hx2 : x2.length = n2) (hc2 : n2 ≤ c2) (hi2 : Ints .u8 w w.heap.size A2 x2) (hb2 : Bytes x2) (hs2 : c2 ≤ 1048576) :
    Calls Try.prog 11 #[.slice A0 n0 c0, .slice A1 n1 c1, .slice A2 n2 c2] w fun e w' => e = .returned (.bool true) ∧ Below w.heap.size w w' := by
  obtain ⟨i0, hi, hz0, hz1, hz2⟩ := info_parts info_u8
  have Hx0 := Lib.hid hx0
  have Hx1 := Lib.hid hx1
  have Hx2 := Lib.hid hx2
  clear hx0 hx1 hx2
  have HB01 := Lib.hid (bytes_append hb0 hb1)
  have HB := Lib.hid (bytes_append (bytes_append hb0 hb1) hb2)
  have HLX := Lib.hid (show (x0 ++ x1 ++ x2).length = n0 + n1 + n2 by rw [List.length_append, List.length_append, Hx0.out, Hx1.out, Hx2.out])
  have HXB := Lib.hid (xorL_bytes hb0 hb1)
  go_enter Try.func11, Try.ntmps11
  go_wp2_with fail
  refine (copied_any A0 n0 c0 x0 w Hx0.out hi0 (by omega)).mono ?_
  rintro e w1 ⟨B1, d1, rfl, o1, kb1⟩
  have j1 := hi1.below kb1
  have z1 := kb1.size
  go_wp2_with (first
    | (at_builtin; refine wpList_append_ints rfl (.tmp 9) (.tmp 10) 37 rfl .u8 w.heap.size 5 i0 _ 1 Try.underlying37 hi hz0 hz1 hz2 rfl (.slice B1 n0 d1) n0 _ rfl o1 w.heap.size A1 n1 c1 x1 rfl Hx1.out ?c1 ?c2 ?c3 ?c4 ?_; (case c1 => exact j1); (case c2 => unfold maxLen; omega); (case c3 => omega); (case c4 => exact z1); intro v2 w2 o2 kb2 _; have kb12 := kb1.trans kb2; have j2 := hi2.below kb12; have z2 := kb12.size)
    | (at_builtin; refine wpList_append_ints rfl (.tmp 11) (.tmp 12) 37 rfl .u8 w.heap.size 5 i0 _ 1 Try.underlying37 hi hz0 hz1 hz2 rfl v2 (n0 + n1) _ rfl o2 w.heap.size A2 n2 c2 x2 rfl Hx2.out ?c1 ?c2 ?c3 ?c4 ?_; (case c1 => exact j2); (case c2 => unfold maxLen; omega); (case c3 => omega); (case c4 => exact z2); intro v3 w3 o3 kb3 _; obtain ⟨B3, d3, rfl⟩ := own_form o3))
  have hb3 := kb12.trans kb3
  have o3' : w3.ownsRow w.heap.size 5 1 (.slice B3 (n0 + n1 + n2) d3) (n0 + n1 + n2) ((x0 ++ x1 ++ x2).map (Value.int .u8)) := by simpa using o3
  have j3 := Ints.own o3'
  clear o1 o2 o3 o3' kb1 kb2 kb3 kb12 j1 j2 z1 z2
  refine (lives2_any w3).mono ?_
  rintro e w4 ⟨rfl, b4⟩
  have hb4 := hb3.trans (b4.mono hb3.size)
  have j3 := later j3 b4
  clear b4 hb3
  go_wp2_with fail
  refine (copied_any A0 n0 c0 x0 w4 Hx0.out (later hi0 hb4) (by omega)).mono ?_
  rintro e w5 ⟨B5, d5, rfl, o5, b5⟩
  have hb5 := hb4.trans (b5.mono hb4.size)
  have j3 := later j3 b5
  have j5 := Ints.own o5
  clear b5 hb4 o5
  go_wp2_with fail
  refine (copied_any A1 n1 c1 x1 w5 Hx1.out (later hi1 hb5) (by omega)).mono ?_
  rintro e w6 ⟨B6, d6, rfl, o6, b6⟩
  have hb6 := hb5.trans (b6.mono hb5.size)
  have j3 := later j3 b6
  have j5 := later j5 b6
  have j6 := Ints.own o6
  clear b6 hb5 o6
  go_wp2_with fail
  refine (copied_any A2 n2 c2 x2 w6 Hx2.out (later hi2 hb6) (by omega)).mono ?_
  rintro e w7 ⟨B7, d7, rfl, o7, b7⟩
  have hb7 := hb6.trans (b7.mono hb6.size)
  have j3 := later j3 b7
  have j5 := later j5 b7
  have j6 := later j6 b7
  have j7 := Ints.own o7
  clear b7 hb6 o7
  go_wp2_with fail
  refine (join_to (ps := [(B5, d5, x0), (B6, d6, x1), (B7, d7, x2)]) (zs := x0 ++ x1 ++ x2) (by simp [joinL]) rfl (show 3 ≤ 1048576 by decide) (by exact parts_lit _ _ _ _ _ (by simp) (by simp [Hx0.out, Hx1.out, Hx2.out]) (fun p hp => by
    simp only [List.mem_cons, List.not_mem_nil, or_false] at hp
    rcases hp with rfl | rfl | rfl
    · exact j5
    · exact j6
    · exact j7)) (by rw [HLX.out]; omega)).mono ?_
  rintro e w8 ⟨B8, d8, rfl, o8, b8⟩
  have k8 := alloc1 _ _ b8
  have hb8 := hb7.trans (k8.mono hb7.size)
  have j8 := Ints.own o8
  have j3 := later j3 k8
  clear b8 k8 hb7 o8 j5 j6 j7
  go_wp2_with fail
  refine (same_to (b := true) (xs := x0 ++ x1 ++ x2) (ys := x0 ++ x1 ++ x2) (by simp) (by simp) HLX.out HB.out HB.out j8 j3).mono ?_
  rintro e w9 ⟨rfl, b9⟩
  have hb9 := hb8.trans (b9.mono hb8.size)
  clear b9 hb8 j8 j3
  go_wp2_with fail
  refine (copied_any A0 n0 c0 x0 w9 Hx0.out (later hi0 hb9) (by omega)).mono ?_
  rintro e w10 ⟨B10, d10, rfl, o10, b10⟩
  have hb10 := hb9.trans (b10.mono hb9.size)
  have j10 := Ints.own o10
  clear b10 hb9 o10
  go_wp2_with fail
  refine (copied_any A1 n1 c1 x1 w10 Hx1.out (later hi1 hb10) (by omega)).mono ?_
  rintro e w11 ⟨B11, d11, rfl, o11, b11⟩
  have hb11 := hb10.trans (b11.mono hb10.size)
  have j10 := later j10 b11
  have j11 := Ints.own o11
  clear b11 hb10 o11
  obtain ⟨xr, hxr⟩ : ∃ xr, xorL x0 x1 = xr := ⟨_, rfl⟩
  have HXR := Lib.hid hxr
  rw [hxr] at HXB
  clear hxr
  go_wp2_with fail
  refine (xor_to HXR.out Hx0.out Hx1.out hb0 hb1 j10 j11 (by omega) (by omega)).mono ?_
  rintro e w12 ⟨B12, d12, rfl, o12, b12⟩
  have hb12 := hb11.trans (b12.mono hb11.size)
  have j12 := Ints.own o12
  clear b12 hb11 o12 j10 j11
  go_wp2_with fail
  refine (rxor_to HXR.out Hx0.out Hx1.out hb0 hb1 (later hi0 hb12) (later hi1 hb12) (by omega) (by omega)).mono ?_
  rintro e w13 ⟨B13, d13, rfl, o13, b13⟩
  have hb13 := hb12.trans (b13.mono hb12.size)
  have j13 := Ints.own o13
  have j12 := later j12 b13
  clear b13 hb12 o13
  go_wp2_with fail
  refine (same_to (b := true) (xs := xr) (ys := xr) (by simp) rfl rfl HXB.out HXB.out j12 j13).mono ?_
  rintro e w14 ⟨rfl, b14⟩
  have hb14 := hb13.trans (b14.mono hb13.size)
  clear b14 hb13 j12 j13
  go_wp2_with fail
  refine (join_to (ps := []) (zs := []) rfl rfl (by decide) (.inl rfl) (by decide)).mono ?_
  rintro e w15 ⟨B15, d15, rfl, o15, b15⟩
  have hb15 := hb14.trans (b15.mono hb14.size)
  clear b15 hb14 o15
  go_wp2_with fail
  go_ret
  exact ⟨rfl, hb15⟩
theorem law_back (A0 : Option Addr) (n0 c0 : Nat) (x0 : List (Int × Int)) (A1 : Option Addr) (n1 c1 : Nat) (x1 : List Int) (w : World)
    (hx0 : x0.length = n0) (hc0 : n0 ≤ c0) (hi0 : FldsAt w w.heap.size A0 x0) (hb0 : Fields x0) (hs0 : c0 ≤ 1048576)
    (hx1 : x1.length = n1) (hc1 : n1 ≤ c1) (hi1 : Ints .u8 w w.heap.size A1 x1) (hb1 : Bytes x1) (hs1 : c1 ≤ 1048576) :
    Calls Try.prog 13 #[.slice A0 n0 c0, .slice A1 n1 c1] w fun e w' => e = .returned (.bool true) ∧ Below w.heap.size w w' := by
  obtain ⟨i0, hi, hz0, hz1, hz2⟩ := info_parts info_fld
  have Hx0 := Lib.hid hx0
  have Hx1 := Lib.hid hx1
  clear hx0 hx1
  go_enter Try.func13, Try.ntmps13
  go_wp2_with fail
  refine (lives2_any w).mono ?_
  rintro e w1 ⟨rfl, kb1⟩
  have z1 := kb1.size
  have h1 := hi0.below kb1
  cases hall : x0.all okF
  · have HR : Hid (putR x0 = ([], 5)) := Lib.hid (by unfold putR; rw [if_neg (by rw [hall]; decide)])
    go_wp2_with (at_builtin; refine wpList_append_flds rfl _ _ 36 rfl w1.heap.size 59 i0 _ 16 Try.underlying36 hi hz0 hz1 hz2 rfl (.slice (some ⟨w1.heap.size, 0, none⟩) 0 0) 0 [] rfl (World.ownsRow_made _ _ 0 (Nat.le_refl _) (by unfold maxLen; omega) rfl) w.heap.size A0 n0 c0 x0 rfl Hx0.out ?c1 ?c2 ?c3 ?c4 ?_; (case c1 => exact h1.below ((Below.refl _ _).alloc z1 _)); (case c2 => unfold maxLen; omega); (case c3 => omega); (case c4 => simp); intro v2 w2 o2 b2; obtain ⟨A2, c2, rfl⟩ := own_form o2)
    simp only [Nat.zero_add, List.nil_append] at o2
    have hb2 : Below w.heap.size w w2 := kb1.trans ((((Below.refl w1.heap.size w1).alloc (Nat.le_refl _) _).trans b2).mono z1)
    have j2 := (FldsAt.own o2).1
    clear b2 o2
    refine (put_to HR.out hb0 Hx0.out (by omega) j2).mono ?_
    rintro e w3 ⟨A3, c3, rfl, o3, b3⟩
    have hb3 := hb2.trans (b3.mono hb2.size)
    clear o3 b3 hb2 j2
    go_wp2_with fail
    go_ret
    exact ⟨rfl, hb3⟩
  · have HR : Hid (putR x0 = (putL x0, 0)) := Lib.hid (putR_good hall)
    have HLP := Lib.hid (putL_all hall)
    go_wp2_with (at_builtin; refine wpList_append_flds rfl _ _ 36 rfl w1.heap.size 59 i0 _ 16 Try.underlying36 hi hz0 hz1 hz2 rfl (.slice (some ⟨w1.heap.size, 0, none⟩) 0 0) 0 [] rfl (World.ownsRow_made _ _ 0 (Nat.le_refl _) (by unfold maxLen; omega) rfl) w.heap.size A0 n0 c0 x0 rfl Hx0.out ?c1 ?c2 ?c3 ?c4 ?_; (case c1 => exact h1.below ((Below.refl _ _).alloc z1 _)); (case c2 => unfold maxLen; omega); (case c3 => omega); (case c4 => simp); intro v2 w2 o2 b2; obtain ⟨A2, c2, rfl⟩ := own_form o2)
    simp only [Nat.zero_add, List.nil_append] at o2
    have hb2 : Below w.heap.size w w2 := kb1.trans ((((Below.refl w1.heap.size w1).alloc (Nat.le_refl _) _).trans b2).mono z1)
    have j2 := (FldsAt.own o2).1
    clear b2 o2
    refine (put_to HR.out hb0 Hx0.out (by omega) j2).mono ?_
    rintro e w3 ⟨A3, c3, rfl, o3, b3⟩
    have hb3 := hb2.trans (b3.mono hb2.size)
    have j3 := Ints.own o3
    clear o3 b3 hb2 j2 h1 kb1 z1
    obtain ⟨i1, hi', hz0', hz1', hz2'⟩ := info_parts info_int
    obtain ⟨i2, hi'', hz0'', hz1'', hz2''⟩ := info_parts info_u64
    go_wp2_with fail
    have hbA : Below w3.heap.size w3 ((w3.alloc (.cells #[] 3)).alloc (.cells #[] 22)) := ((Below.refl _ _).alloc (Nat.le_refl _) _).alloc (by simp) _
    obtain ⟨ss, hss⟩ : ∃ ss, x0.map (·.1) = ss := ⟨_, rfl⟩
    obtain ⟨vv, hvv⟩ : ∃ vv, x0.map (·.2) = vv := ⟨_, rfl⟩
    have HSS := Lib.hid hss
    have HVV := Lib.hid hvv
    have HSL := Lib.hid (show ss.length = n0 by rw [← hss, List.length_map, Hx0.out])
    have HVL := Lib.hid (show vv.length = n0 by rw [← hvv, List.length_map, Hx0.out])
    clear hss hvv
    go_loopw [7, 8, 9] (fun a b i wr => ∃ k : Nat, k ≤ n0 ∧ i = .int .i64 k ∧ wr.ownsRow w3.heap.size 3 1 a k ((ss.take k).map (Value.int .i64)) ∧ wr.ownsRow w3.heap.size 22 1 b k ((vv.take k).map (Value.int .u64)) ∧ Below w3.heap.size w3 wr) (fun _ _ i _ => n0 - (intOf i).toNat)
    case atStart => exact ⟨0, by omega, rfl, (World.ownsRow_made _ _ 0 (Nat.le_refl _) (by unfold maxLen; omega) rfl).alloc _, by simpa using World.ownsRow_made (base := w3.heap.size) (e := 22) (size := 1) (w3.alloc (.cells #[] 3)) #[] 0 (by simp) (by unfold maxLen; omega) rfl, hbA⟩
    case round =>
      obtain ⟨k, hk, rfl, oa, ob, kb⟩ := hrel
      by_cases d1 : k < n0
      · obtain ⟨f, hfk⟩ : ∃ f, x0[k]? = some f := ⟨x0[k]'(by rw [Hx0.out]; omega), List.getElem?_eq_getElem _⟩
        have hbw := hb3.trans (kb.mono hb3.size)
        rcases hi0.below hbw with h | ⟨b, off, rfl, hlt, hc⟩
        · exfalso; rw [h] at hfk; simp at hfk
        have f1 := (hc k f hfk).1
        have f2 := (hc k f hfk).2
        clear hc
        obtain ⟨s, v⟩ := f
        simp only at f1 f2
        have HS1 := Lib.hid (show (ss.take (k + 1)).map (Value.int .i64) = (ss.take k).map (Value.int .i64) ++ [.int .i64 s] by rw [take_snoc ss 0 k (by rw [HSL.out]; omega), ← HSS.out]; simp [List.getD, hfk])
        have HV1 := Lib.hid (show (vv.take (k + 1)).map (Value.int .u64) = (vv.take k).map (Value.int .u64) ++ [.int .u64 v] by rw [take_snoc vv 0 k (by rw [HVL.out]; omega), ← HVV.out]; simp [List.getD, hfk])
        clear hfk
        have hz3 := hb3.size
        have hzk := kb.size
        go_wp2_with (first
          | (at_builtin; refine wpList_append_ints rfl (.tmp 37) (.tmp 43) 44 rfl .i64 w3.heap.size 3 i1 _ 8 Try.underlying44 hi' hz0' hz1' hz2' rfl _ k _ rfl (oa.alloc _) (wr.heap.size + 1) _ 1 1 [s] rfl rfl ?c1 ?c2 ?c3 ?c4 ?_; (case c1 => exact Ints.lit _ _ _ _ _ rfl); (case c2 => unfold maxLen; omega); (case c3 => omega); (case c4 => simp; omega); intro v4 w4 o4 b4 g4; have ob4 := own_other (ob.alloc (.cells #[.int .i64 s] 3)) (oa.alloc (.cells #[.int .i64 s] 3)) (by decide) g4; have kb4 := ((Below.refl w3.heap.size wr).alloc hzk (.cells #[.int .i64 s] 3)).trans b4; have f4 := (kb4.cell (p := ⟨b, off + k * 2 + 1, none⟩) (Nat.lt_of_lt_of_le hlt hz3)).trans f2; have hz4 := kb4.size; clear g4)
          | (at_builtin; refine wpList_append_ints rfl (.tmp 45) (.tmp 51) 45 rfl .u64 w3.heap.size 22 i2 _ 8 Try.underlying45 hi'' hz0'' hz1'' hz2'' rfl _ k _ rfl (ob4.alloc _) (w4.heap.size + 1) _ 1 1 [v] rfl rfl ?c1 ?c2 ?c3 ?c4 ?_; (case c1 => exact Ints.lit _ _ _ _ _ rfl); (case c2 => unfold maxLen; omega); (case c3 => omega); (case c4 => simp; omega); intro v5 w5 o5 b5 g5; have oa5 := own_other (o4.alloc (.cells #[.int .u64 v] 22)) (ob4.alloc (.cells #[.int .u64 v] 22)) (by decide) g5; clear g5))
        go_roundw
        case rel => exact ⟨k + 1, by omega, by go_num, by rw [HS1.out]; simpa using oa5, by rw [HV1.out]; simpa using o5, kb.trans (kb4.trans (((Below.refl w3.heap.size w4).alloc (Nat.le_trans hzk hz4) _).trans b5))⟩
        case measure => simp [intOf]; omega
      · have hkn : k = n0 := by omega
        rw [List.take_of_length_le (by rw [HSL.out]; omega)] at oa
        rw [List.take_of_length_le (by rw [HVL.out]; omega)] at ob
        have HTP := Lib.hid (take_put hb0 hall x1)
        rw [HSS.out, HVV.out] at HTP
        have HLP2 : Hid ((putL x0).length ≤ 8 * n0) := Lib.hid (by rw [← Hx0.out]; exact HLP.out)
        have lP := HLP2.out
        have hbw := hb3.trans (kb.mono hb3.size)
        obtain ⟨Aa, ca, rfl⟩ := own_form oa
        obtain ⟨Ab, cb, rfl⟩ := own_form ob
        have ja := Ints.own oa
        have jb := Ints.own ob
        have j3 := later j3 kb
        subst hkn
        have BP : Bytes (putL x0) := putL_bytes x0
        have BS : Sizes ss := by rw [← HSS.out]; intro z hz; obtain ⟨f, hf, rfl⟩ := List.mem_map.1 hz; exact (hb0 f hf).1
        clear oa ob kb
        go_wp2_with fail
        refine (join_to (ps := [(A3, c3, putL x0), (A1, c1, x1)]) (zs := putL x0 ++ x1) (by simp [joinL]) rfl (show 2 ≤ 1048576 by decide) (by exact parts_lit _ _ _ _ _ rfl (by simp [Hx1.out]) (fun p hp => by
          simp only [List.mem_cons, List.not_mem_nil, or_false] at hp
          rcases hp with rfl | rfl
          · exact j3
          · exact later hi1 hbw)) (by rw [List.length_append, Hx1.out]; omega)).mono ?_
        rintro e w6 ⟨A6, c6, rfl, o6, b6⟩
        have k6 := alloc1 _ _ b6
        have hb6 := hbw.trans (k6.mono hbw.size)
        have j6 := Ints.own o6
        have q6 := own_cap o6
        have j3 := later j3 k6
        have ja := later ja k6
        have jb := later jb k6
        clear b6 k6 o6 hbw hb3
        go_wp2_with fail
        refine (take_to HTP.out (by simp) HSL.out (by simpa using q6) (by have := Hx1.out; omega) (by omega) (bytes_append BP hb1) BS j6 ja).mono ?_
        rintro e w7 ⟨A7, c7, A8, c8, rfl, o7, o8, b7⟩
        have hb7 := hb6.trans (b7.mono hb6.size)
        have j7 := Ints.own o7
        have j8 := Ints.own o8
        have j3 := later j3 b7
        have jb := later jb b7
        clear b7 hb6 o7 o8 j6 ja q6
        go_wp2_with fail
        refine (hex_any A3 (putL x0).length c3 (putL x0) w7 rfl BP j3 (by omega)).mono ?_
        rintro e w8 ⟨rfl, b8⟩
        have hb8 := hb7.trans (b8.mono hb7.size)
        have j3 := later j3 b8
        have jb := later jb b8
        have j7 := later j7 b8
        have j8 := later j8 b8
        clear b8 hb7
        have HUH := Lib.hid (show unhexR (chL (strOfNums (hexL (putL x0)))) = (putL x0, 0) by rw [chL_str _ (hexL_bytes BP), unhex_hex BP])
        have HSZ := Lib.hid (show (strOfNums (hexL (putL x0))).size ≤ 140737488355328 by rw [strOfNums_size, hexL_len]; omega)
        go_wp2_with fail
        refine (unhex_to HUH.out HSZ.out).mono ?_
        rintro e w9 ⟨A9, c9, rfl, o9, b9⟩
        have hb9 := hb8.trans (b9.mono hb8.size)
        have j9 := Ints.own o9
        have j3 := later j3 b9
        have jb := later jb b9
        have j7 := later j7 b9
        have j8 := later j8 b9
        clear b9 hb8 o9
        go_wp2_with fail
        refine (samenum_to (b := true) (xs := vv) (ys := vv) (by simp) rfl HVL.out (by rw [HVL.out]; omega) (by omega) j7 jb).mono ?_
        rintro e w10 ⟨rfl, b10⟩
        have hb10 := hb9.trans (b10.mono hb9.size)
        have j3 := later j3 b10
        have j8 := later j8 b10
        have j9 := later j9 b10
        clear b10 hb9 j7 jb
        go_wp2_with fail
        refine (same_to (b := true) (xs := x1) (ys := x1) (by simp) rfl Hx1.out hb1 hb1 j8 (later hi1 hb10)).mono ?_
        rintro e w11 ⟨rfl, b11⟩
        have hb11 := hb10.trans (b11.mono hb10.size)
        have j3 := later j3 b11
        have j9 := later j9 b11
        clear b11 hb10 j8
        go_wp2_with fail
        refine (same_to (b := true) (xs := putL x0) (ys := putL x0) (by simp) rfl rfl BP BP j9 j3).mono ?_
        rintro e w12 ⟨rfl, b12⟩
        have hb12 := hb11.trans (b12.mono hb11.size)
        have j3 := later j3 b12
        have j9 := later j9 b12
        clear b12 hb11
        have BX : Bytes (xorL (putL x0) (putL x0)) := xorL_bytes BP BP
        have HXL := Lib.hid (show (xorL (putL x0) (putL x0)).length = (putL x0).length by rw [xorL_len]; omega)
        have HXT := Lib.hid (xorL_twice (xs := putL x0) (ys := putL x0) rfl BP)
        obtain ⟨xr, hxr⟩ : ∃ xr, xorL (putL x0) (putL x0) = xr := ⟨_, rfl⟩
        have HXR := Lib.hid hxr
        rw [hxr] at BX HXL HXT
        clear hxr
        go_wp2_with fail
        refine (xor_to HXR.out rfl rfl BP BP j3 j9 (by omega) (by omega)).mono ?_
        rintro e w13 ⟨A13, c13, rfl, o13, b13⟩
        have hb13 := hb12.trans (b13.mono hb12.size)
        have j13 := Ints.own o13
        have j3 := later j3 b13
        have j9 := later j9 b13
        clear b13 hb12 o13
        go_wp2_with fail
        refine (xor_to HXT.out rfl rfl BX BP j13 j9 (by rw [HXL.out]; omega) (by omega)).mono ?_
        rintro e w14 ⟨A14, c14, rfl, o14, b14⟩
        have hb14 := hb13.trans (b14.mono hb13.size)
        have j14 := Ints.own o14
        have j3 := later j3 b14
        clear b14 hb13 o14 j13 j9
        go_wp2_with fail
        refine (same_to (b := true) (xs := putL x0) (ys := putL x0) (by simp) rfl rfl BP BP j14 j3).mono ?_
        rintro e w15 ⟨rfl, b15⟩
        have hb15 := hb14.trans (b15.mono hb14.size)
        clear b15 hb14 j14 j3
        go_wp2_with fail
        go_ret
        exact ⟨rfl, hb15⟩
end Go.Proofs.Ytljgpkiakggmkaa.Oct
