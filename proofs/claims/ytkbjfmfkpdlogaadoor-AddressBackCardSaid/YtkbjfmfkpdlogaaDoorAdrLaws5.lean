/- The statement that a valid address is read back, walked: it returns true. -/
import Derived.Test.YtkbjfmfkpdlogaaDoorAdrLaws4
set_option linter.unusedVariables false
set_option linter.unusedSimpArgs false
namespace Go.Proofs.YtkbjfmfkpdlogaaDoor.Adr
open Go.RowKit Mem Oct Base

theorem back_none (k b : Int) (A : Option Addr) (n c : Nat) (w : World) (hk : -9223372036854775808 ≤ k ∧ k ≤ 9223372036854775807) (h : k < 1 ∨ 4 < k) (hT : Tab w) :
    Calls Tryd.prog 4 #[.int .i64 k, .int .u64 b, .slice A n c] w fun e w' => e = .returned (.bool true) ∧ Below w.heap.size w w' := by
  have H1 : Hid (∀ w, Calls Tryd.prog 17 #[.int .i64 k, .int .u64 b] w fun e w' => e = .returned (.agg #[.int .i64 0, .int .u64 0]) ∧ Below w.heap.size w w') := Lib.hid fun w => random_none k b w hk h
  have H2 : Hid (∀ w, Tab w → Calls Tryd.prog 18 #[.agg #[.int .i64 0, .int .u64 0]] w fun e w' => e = .returned (.int .i64 12) ∧ Below w.heap.size w w') := Lib.hid fun w hT => by
    have := check_any 0 0 w (by decide) (by decide) hT
    rwa [show chk 0 0 = 12 from chk_kind (.inl (by decide))] at this
  clear h
  go_enter Tryd.func4, Tryd.ntmps4
  go_wp2_with fail
  refine (H1.out _).mono ?_
  rintro e w1 ⟨rfl, b1⟩
  have F1 := box_new w1 0 0
  have c0 := F1.c0
  have c1 := F1.c1
  have B1 := b1.alloc b1.size (.cells #[.int .i64 0, .int .u64 0] 26)
  have T1 := (hT.below b1).alloc (.cells #[.int .i64 0, .int .u64 0] 26)
  go_wp2_with fail
  refine (H2.out _ T1).mono ?_
  rintro e w2 ⟨rfl, b2⟩
  have T2 := T1.below b2
  have B2 := thenB B1 b2
  go_wp2_with (go_at_call 12; refine (lives_any _ T2).mono ?_; rintro e w3 ⟨rfl, b3⟩)
  go_ret
  exact ⟨rfl, thenB B2 b3⟩
theorem back_long (k b M : Int) (A : Option Addr) (n c : Nat) (w : World) (hbig : 200 < n)
    (H1 : Hid (∀ w, Tab w → Calls Tryd.prog 17 #[.int .i64 k, .int .u64 b] w fun e w' => e = .returned (.agg #[.int .i64 k, .int .u64 M]) ∧ Below w.heap.size w w'))
    (H2 : Hid (∀ w, Tab w → Calls Tryd.prog 18 #[.agg #[.int .i64 k, .int .u64 M]] w fun e w' => e = .returned (.int .i64 0) ∧ Below w.heap.size w w')) (hT : Tab w) :
    Calls Tryd.prog 4 #[.int .i64 k, .int .u64 b, .slice A n c] w fun e w' => e = .returned (.bool true) ∧ Below w.heap.size w w' := by
  have g1 : (200 : Int) < (n : Int) := by omega
  go_enter Tryd.func4, Tryd.ntmps4
  go_wp2_with fail
  refine (H1.out _ hT).mono ?_
  rintro e w1 ⟨rfl, b1⟩
  have F1 := box_new w1 k M
  have c0 := F1.c0
  have c1 := F1.c1
  have B1 := b1.alloc b1.size (.cells #[.int .i64 k, .int .u64 M] 26)
  have T1 := (hT.below b1).alloc (.cells #[.int .i64 k, .int .u64 M] 26)
  go_wp2_with fail
  refine (H2.out _ T1).mono ?_
  rintro e w2 ⟨rfl, b2⟩
  have T2 := T1.below b2
  have B2 := thenB B1 b2
  go_wp2_with (go_at_call 12; refine (lives_any _ T2).mono ?_; rintro e w3 ⟨rfl, b3⟩)
  go_ret
  exact ⟨rfl, thenB B2 b3⟩
set_option maxHeartbeats 4000000 in
theorem back_good (k b M : Int) (A : Option Addr) (n c : Nat) (xs E : List Int) (s : ByteArray) (w : World) (hn : n ≤ 200) (hnc : n ≤ c) (hx : xs.length = n) (hE : E.length = 7) (bx : Bytes xs) (hr : Ints .u8 w w.heap.size A xs)
    (H1 : Hid (∀ w, Tab w → Calls Tryd.prog 17 #[.int .i64 k, .int .u64 b] w fun e w' => e = .returned (.agg #[.int .i64 k, .int .u64 M]) ∧ Below w.heap.size w w'))
    (H2 : Hid (∀ w, Tab w → Calls Tryd.prog 18 #[.agg #[.int .i64 k, .int .u64 M]] w fun e w' => e = .returned (.int .i64 0) ∧ Below w.heap.size w w'))
    (H3 : Hid (∀ w, Tab w → Calls Tryd.prog 16 #[.agg #[.int .i64 k, .int .u64 M]] w fun e w' => ∃ A' c', e = .returned (.tuple #[.slice A' 7 c', .int .i64 0]) ∧ w'.ownsRow w.heap.size 5 1 (.slice A' 7 c') 7 (E.map (Value.int .u8)) ∧ Below w.heap.size w w'))
    (H4 : Hid (∀ (w : World) (A : Option Addr) (c : Nat), 7 + n ≤ c → Ints .u8 w w.heap.size A (E ++ xs) → Tab w → Calls Tryd.prog 13 #[.slice A (7 + n) c] w fun e w' => ∃ A' c', e = .returned (.tuple #[.agg #[.int .i64 k, .int .u64 M], .slice A' n c', .int .i64 0]) ∧ n ≤ c' ∧ Ints .u8 w' w'.heap.size A' xs ∧ Below w.heap.size w w'))
    (H5 : Hid (∀ w, Tab w → Calls Tryd.prog 20 #[.agg #[.int .i64 k, .int .u64 M]] w fun e w' => e = .returned (.string s) ∧ Below w.heap.size w w'))
    (H6 : Hid (∀ w, Tab w → Calls Tryd.prog 19 #[.string s] w fun e w' => e = .returned (.tuple #[.agg #[.int .i64 k, .int .u64 M], .int .i64 0]) ∧ Below w.heap.size w w'))
    (hT : Tab w) :
    Calls Tryd.prog 4 #[.int .i64 k, .int .u64 b, .slice A n c] w fun e w' => e = .returned (.bool true) ∧ Below w.heap.size w w' := by
  obtain ⟨i0, hi, hz0, hz1, hz2⟩ := info_parts info_u8
  have g1 : decide ((200 : Int) < (n : Int)) = false := decide_eq_false (by omega)
  have q1 := adr_eq k M
  have q2 := adr_guard k M k M
  have Hx := Lib.hid hx
  clear hx
  go_enter Tryd.func4, Tryd.ntmps4
  go_wp2_with fail
  refine (H1.out _ hT).mono ?_
  rintro e w1 ⟨rfl, b1⟩
  have F1 := box_new w1 k M
  have c0 := F1.c0
  have c1 := F1.c1
  have B1 := b1.alloc b1.size (.cells #[.int .i64 k, .int .u64 M] 26)
  have T1 := (hT.below b1).alloc (.cells #[.int .i64 k, .int .u64 M] 26)
  have i1 := kept (later hr b1) (.cells #[.int .i64 k, .int .u64 M] 26)
  clear b1 hr hT
  go_wp2_with fail
  generalize w1.alloc (.cells #[.int .i64 k, .int .u64 M] 26) = W1 at *
  generalize w1.heap.size = ga at *
  refine (H2.out _ T1).mono ?_
  rintro e w2 ⟨rfl, b2⟩
  have F2 := F1.below b2
  have T2 := T1.below b2
  have B2 := thenB B1 b2
  have i2 := later i1 b2
  clear c0 c1 F1 T1 B1 i1 b2
  have c0 := F2.c0
  have c1 := F2.c1
  go_wp2_with fail
  refine (H3.out _ T2).mono ?_
  rintro e w3 ⟨A3, c3, rfl, own3, b3⟩
  clear c0 c1
  have i3 := later i2 b3
  have h23 := b3.size
  go_wp2_with (at_builtin; refine wpList_append_ints rfl _ _ 22 rfl .u8 w2.heap.size 5 i0 _ 1 Tryd.underlying22 hi hz0 hz1 hz2 rfl _ 7 _ rfl own3 w3.heap.size A n c xs rfl Hx.out ?c1 ?c2 ?c3 ?c4 ?_; (case c1 => exact i3); (case c2 => unfold maxLen; omega); (case c3 => omega); (case c4 => exact h23); intro v4 w4 own4 b4 _; obtain ⟨A4, c4, rfl⟩ := own_form own4)
  have BW := b3.trans b4
  have F4 := F2.below BW
  have T4 := T2.below BW
  have B4 := thenB B2 BW
  have i4 := later i2 BW
  have own5 : w4.ownsRow w2.heap.size 5 1 (.slice A4 (7 + n) c4) (7 + n) ((E ++ xs).map (Value.int .u8)) := by simpa using own4
  have hcap := own_cap own5
  have j4 := Ints.own own5
  clear own3 own4 own5 b3 b4 i3 h23 F2 T2 B2 i2 BW
  refine (H4.out _ A4 c4 hcap j4 T4).mono ?_
  rintro e w5 ⟨A5, c5, rfl, k5, m5, b5⟩
  have F5 := (F4.below b5).below ((Below.refl w5.heap.size w5).alloc (Nat.le_refl _) (.cells #[.int .i64 k, .int .u64 M] 26))
  have G5 := box_new w5 k M
  have B5 := (thenB B4 b5).alloc (thenB B4 b5).size (.cells #[.int .i64 k, .int .u64 M] 26)
  have T5 := (T4.below b5).alloc (.cells #[.int .i64 k, .int .u64 M] 26)
  have i5 := kept (later i4 b5) (.cells #[.int .i64 k, .int .u64 M] 26)
  have m6 := kept m5 (.cells #[.int .i64 k, .int .u64 M] 26)
  have c0 := F5.c0
  have c1 := F5.c1
  clear F4 T4 B4 i4 j4 b5 m5
  go_wp2_with fail
  generalize w5.alloc (.cells #[.int .i64 k, .int .u64 M] 26) = W5 at *
  generalize w5.heap.size = gc at *
  refine (H5.out _ T5).mono ?_
  rintro e w6 ⟨rfl, b6⟩
  have F6 := F5.below b6
  have G6 := G5.below b6
  have B6 := thenB B5 b6
  have T6 := T5.below b6
  have i6 := later i5 b6
  have m7 := later m6 b6
  clear c0 c1 F5 G5 B5 T5 i5 m6 b6
  go_wp2_with fail
  refine (H6.out _ T6).mono ?_
  rintro e w7 ⟨rfl, b7⟩
  have F7 := (F6.below b7).below ((Below.refl w7.heap.size w7).alloc (Nat.le_refl _) (.cells #[.int .i64 k, .int .u64 M] 26))
  have G7 := (G6.below b7).below ((Below.refl w7.heap.size w7).alloc (Nat.le_refl _) (.cells #[.int .i64 k, .int .u64 M] 26))
  have D7 := box_new w7 k M
  have B7 := (thenB B6 b7).alloc (thenB B6 b7).size (.cells #[.int .i64 k, .int .u64 M] 26)
  have T7 := (T6.below b7).alloc (.cells #[.int .i64 k, .int .u64 M] 26)
  have i7 := kept (later i6 b7) (.cells #[.int .i64 k, .int .u64 M] 26)
  have m8 := kept (later m7 b7) (.cells #[.int .i64 k, .int .u64 M] 26)
  clear F6 G6 B6 T6 i6 m7 b7
  go_wp2_with fail
  generalize w7.alloc (.cells #[.int .i64 k, .int .u64 M] 26) = W7 at *
  generalize w7.heap.size = gd at *
  refine (lives_any _ T7).mono ?_
  rintro e w8 ⟨rfl, b8⟩
  have F8 := F7.below b8
  have G8 := G7.below b8
  have D8 := D7.below b8
  have B8 := thenB B7 b8
  have i8 := later i7 b8
  have m9 := later m8 b8
  have c0 := F8.c0
  have c1 := F8.c1
  have d0 := G8.c0
  have d1 := G8.c1
  have e0 := D8.c0
  have e1 := D8.c1
  clear F7 G7 D7 B7 T7 i7 m8 b8 F8 G8 D8
  go_wp2_with (go_at_call 15; refine (same_to (b := true) (xs := xs) (ys := xs) (by simp) Hx.out Hx.out bx bx m9 i8).mono ?_; rintro e w' ⟨rfl, rfl⟩)
  go_ret
  exact ⟨rfl, B8⟩
theorem law_back (k b : Int) (A : Option Addr) (n c : Nat) (xs : List Int) (w : World) (hk : -9223372036854775808 ≤ k ∧ k ≤ 9223372036854775807) (hb : 0 ≤ b ∧ b ≤ 18446744073709551615)
    (hx : xs.length = n) (hnc : n ≤ c) (hr : Ints .u8 w w.heap.size A xs) (bx : Bytes xs) (hs : c * 1 ≤ 140737488351232) (hT : Tab w) :
    Calls Tryd.prog 4 #[.int .i64 k, .int .u64 b, .slice A n c] w fun e w' => e = .returned (.bool true) ∧ Below w.heap.size w w' := by
  by_cases hk4 : 1 ≤ k ∧ k ≤ 4
  · have bm := mk_bd (b := b) hk4
    have hc := chk_mk (b := b) hk4
    have H1 : Hid (∀ w, Tab w → Calls Tryd.prog 17 #[.int .i64 k, .int .u64 b] w fun e w' => e = .returned (.agg #[.int .i64 k, .int .u64 (mk k b)]) ∧ Below w.heap.size w w') := Lib.hid fun w hT => random_any k b w hk4 hb hT
    generalize mk k b = M at *
    have H2 : Hid (∀ w, Tab w → Calls Tryd.prog 18 #[.agg #[.int .i64 k, .int .u64 M]] w fun e w' => e = .returned (.int .i64 0) ∧ Below w.heap.size w w') := Lib.hid fun w hT => by
      have := check_any k M w hk (by omega) hT
      rwa [hc] at this
    by_cases hbig : 200 < n
    · exact back_long k b M A n c w hbig H1 H2 hT
    · have hEl : (k :: numL 6 M).length = 7 := by simp [numL_len]
      have bE : Bytes (k :: numL 6 M) := by
        intro z hz
        rcases List.mem_cons.1 hz with rfl | hz
        · omega
        · exact numL_bytes 6 M z hz
      refine back_good k b M A n c xs (k :: numL 6 M) (strOfNums (textL k M)) w (by omega) hnc hx hEl bx hr H1 H2 ?_ ?_ ?_ ?_ hT
      · exact Lib.hid fun w hT => by
          have := encode_any k M w hk (by omega) hT
          refine this.mono ?_
          rintro e w' ⟨A', c', he, ho, hb⟩
          have hR : encR k M = (k :: numL 6 M, 0) := by unfold encR; rw [if_pos hc]
          rw [hR] at he ho
          simp only [hEl] at he ho
          exact ⟨A', c', he, ho, hb⟩
      · exact Lib.hid fun w A c hcap h hT => by
          have e0 : ((k :: numL 6 M) ++ xs).getD 0 0 = k := rfl
          have e1 : (((k :: numL 6 M) ++ xs).drop 1).take 6 = numL 6 M := by
            show ((numL 6 M) ++ xs).take 6 = numL 6 M
            rw [List.take_append_of_le_length (by rw [numL_len]; omega), List.take_of_length_le (by rw [numL_len]; omega)]
          have e2 : valL (numL 6 M) = M := valL_numL 6 M (by omega) (by rw [show Ser.p2 (8 * 6) = 281474976710656 by decide]; omega)
          have e3 : ((k :: numL 6 M) ++ xs).drop 7 = xs := by
            show ((numL 6 M) ++ xs).drop 6 = xs
            rw [List.drop_append_of_le_length (by rw [numL_len]; omega), List.drop_of_length_le (by rw [numL_len]; omega)]; rfl
          have := decode_ok A (7 + n) c ((k :: numL 6 M) ++ xs) w (by rw [List.length_append, hEl, hx]) hcap (by omega) (by omega) (bytes_append bE bx) h hT (by rw [e0, e1, e2]; exact hc)
          rw [e0, e1, e2, e3, show 7 + n - 7 = n by omega] at this
          exact this
      · exact Lib.hid fun w hT => text_any k M w hk (by omega) hT
      · exact Lib.hid fun w hT => by
          have ht := parse_text (k := k) (b := M) (by omega) hc
          have hs : (strOfNums (textL k M)).size ≤ 140737488351232 := by
            have h1 := chL_len (strOfNums (textL k M))
            rw [chL_str _ (textL_bytes k M)] at h1
            by_cases h19 : (textL k M).length = 19
            · omega
            · rw [parseR_bad (fun hh => h19 hh.1)] at ht; simp at ht
          have := parse_any (strOfNums (textL k M)) w hs hT
          rw [chL_str _ (textL_bytes k M), ht] at this
          exact this
  · exact back_none k b A n c w hk (by omega) hT
end Go.Proofs.YtkbjfmfkpdlogaaDoor.Adr
