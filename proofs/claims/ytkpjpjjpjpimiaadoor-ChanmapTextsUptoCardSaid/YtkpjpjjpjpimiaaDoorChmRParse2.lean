/- The document's function that reads a text, walked: it returns what the code's function returns. -/
import Derived.Test.YtkpjpjjpjpimiaaDoorChmRParse
set_option linter.unusedVariables false
set_option linter.unusedSimpArgs false
namespace Go.Proofs.YtkpjpjjpjpimiaaDoor.Chm
open Go.RowKit Mem Oct Base

theorem or_step {m f n : Nat} : orN m f (n + 1) = orN m f n ||| 2 ^ (f + n) := rfl
theorem or_had {m f n : Nat} (h : (orN m f n).testBit (f + n) = true) : orN m f (n + 1) = orN m f n := by
  rw [or_step]
  apply Nat.eq_of_testBit_eq
  intro c
  rw [Nat.testBit_or, Nat.testBit_two_pow]
  by_cases e : f + n = c
  · subst e; rw [h]; simp
  · simp [e]
theorem or_new {m f n : Nat} (h : (orN m f n).testBit (f + n) = false) : orN m f (n + 1) = orN m f n + 2 ^ (f + n) := by rw [or_step, add_or _ _ h]
theorem str_no {a b : ByteArray} (h : ¬ a = b) : (a.toList == b.toList) = false := by
  rw [ByteArray.toList_eq, ByteArray.toList_eq]
  exact beq_eq_false_iff_ne.2 fun e => h (WideShapes.bytes_inj e)
theorem has_bit {x c : Nat} (h : c < 37) : hasN x c = x.testBit c := by simp [hasN, h]
set_option maxRecDepth 100000 in
set_option maxHeartbeats 4000000 in
theorem rparse_any (s : ByteArray) (w : World) (hs : s.size ≤ 140737488351232) :
    Calls Tryd.prog 33 #[.string s] w fun e w' => e = .returned (.tuple #[.int .u64 (oN (docO s)), .int .i64 (eN (docO s))]) ∧ Below w.heap.size w w' := by
  by_cases h120 : 120 < s.size
  · rw [show docO s = none by unfold docO; rw [if_pos h120]]
    go_enter Tryd.func33, Tryd.ntmps33
    go_wp2_with fail
    go_ret2
    exact ⟨rfl, Below.refl _ _⟩
  · have HN := Lib.hid fun w => numbers_any s w (by omega)
    have hlt := nums_lt s.data.toList 0 false false (by omega)
    have hlen := nums_len s.data.toList 0 false false
    rw [show s.data.toList.length = s.size from rfl] at hlen
    simp only [Bool.false_eq_true, if_false] at hlen
    have hM := fold_lt (numsL s.data.toList 0 false false) none 0 (by decide)
    have hdoc : docO s = if textL (foldN (numsL s.data.toList 0 false false) none 0) = s.data.toList ∧ okM (foldN (numsL s.data.toList 0 false false) none 0) = 0 then some (foldN (numsL s.data.toList 0 false false) none 0) else none := by unfold docO; rw [if_neg h120]
    have hst : (⟨(textL (foldN (numsL s.data.toList 0 false false) none 0)).toArray⟩ : ByteArray) = s ↔ textL (foldN (numsL s.data.toList 0 false false) none 0) = s.data.toList := by
      constructor
      · intro h; exact congrArg (fun b : ByteArray => b.data.toList) h
      · intro h; rw [h]
    generalize numsL s.data.toList 0 false false = P at *
    obtain ⟨M, hMe⟩ : ∃ M, foldN P none 0 = M := ⟨_, rfl⟩
    have HM := Lib.hid hMe
    rw [hMe] at hM hdoc hst
    obtain ⟨O, hO0⟩ : ∃ O, docO s = O := ⟨_, rfl⟩
    rw [hO0] at hdoc ⊢
    clear hO0
    obtain ⟨L, hL⟩ : ∃ L, P.length = L := ⟨_, rfl⟩
    have HL := Lib.hid hL
    rw [hL] at hlen
    clear hMe hL
    go_enter Tryd.func33, Tryd.ntmps33
    go_wp2_with (go_at_call 46; refine (HN.out _).mono ?_; intro e w1 m1; obtain ⟨A4, c4, A5, c5, he, o4, o5, b1⟩ := m1; rw [HL.out] at he o4 o5; subst he)
    have r4 := Rd.of o4
    have r5 := Rd.of o5
    clear o4 o5
    go_loopw [6, 7, 8, 9] (fun s6 s7 _ _ wr => ∃ k m : Nat, k ≤ L ∧ s7 = .int .i64 (k : Nat) ∧ s6 = .int .u64 (m : Nat) ∧ m < 137438953472 ∧ foldN (P.drop k) (prevN P k) m = M ∧ Below w1.heap.size w1 wr) (fun _ s7 _ _ _ => 300 - (intOf s7).toNat)
    case atStart => exact ⟨0, 0, by omega, rfl, rfl, by omega, HM.out, Below.refl _ _⟩
    case round =>
      obtain ⟨k, m, hk, rfl, rfl, hm, hf, hB⟩ := hrel
      by_cases h1 : k < L
      · obtain ⟨⟨N, a⟩, hp⟩ : ∃ p, P[k]? = some p := ⟨P[k]'(by rw [HL.out]; exact h1), List.getElem?_eq_getElem _⟩
        have hN : N < 100 := hlt _ (List.mem_of_getElem? hp)
        obtain ⟨g4, hA4, l4, q4⟩ := (r4.below hB) k (.int .i64 N) (by simp [numV, hp])
        obtain ⟨g5, hA5, l5, q5⟩ := (r5.below hB) k (.bool a) (by simp [runV, hp])
        rw [fold_at hp] at hf
        subst hA4
        subst hA5
        rcases Bool.eq_false_or_eq_true a with rfl | rfl
        · by_cases hk0 : k = 0
          · have e0 : prevN P k = none := by rw [hk0]; rfl
            simp only [if_true, e0, Option.getD_none] at hf
            have HF := Lib.hid hf
            clear hf
            have g0 : decide ((0 : Int) < (k : Int)) = false := by simp; omega
            have g1 : ¬ (0 : Int) < (k : Int) := by omega
            clear hk0
            go_wp2_with fail
            go_loopw [6, 9] (fun s6 s9 wr => ∃ n : Nat, n ≤ min (N + 1) 37 - N ∧ s9 = .int .i64 (N + n : Nat) ∧ s6 = .int .u64 (orN m N n : Nat) ∧ Below w1.heap.size w1 wr) (fun _ s9 _ => 300 - (intOf s9).toNat)
            case atStart => exact ⟨0, by omega, rfl, rfl, hB⟩
            case round =>
              obtain ⟨n, hn, rfl, rfl, hB2⟩ := hrel
              have hm2 : orN m N n < 137438953472 := by
                by_cases h0 : n = 0
                · subst h0; exact hm
                · exact orN_lt hm n (by omega)
              obtain ⟨g4', hA4', l4', q4'⟩ := (r4.below hB2) k (.int .i64 N) (by simp [numV, hp])
              obtain rfl : g4 = g4' := by simpa using hA4'
              by_cases hnn : n < min (N + 1) 37 - N
              · by_cases hb : (orN m N n).testBit (N + n) = true
                · have HH := Lib.hid (rhas_to (m := orN m N n) (c := N + n) (b := true) (by omega) (by rw [has_bit (by omega)]; exact hb))
                  have HO := Lib.hid (or_had hb)
                  clear hb
                  generalize orN m N n = Y at *
                  generalize hc : N + n = C at *
                  go_wp2_with (go_at_call 15; refine (HH.out _).mono ?_; rintro e w' ⟨rfl, rfl⟩)
                  go_roundw
                  case rel => exact ⟨n + 1, by omega, congrArg (Value.int .i64) (by omega), by rw [HO.out], hB2⟩
                  case measure => simp [intOf]; omega
                · have hb' : (orN m N n).testBit (N + n) = false := by simpa using hb
                  have HH := Lib.hid (rhas_to (m := orN m N n) (c := N + n) (b := false) (by omega) (by rw [has_bit (by omega)]; exact hb'))
                  have HO := Lib.hid (or_new hb')
                  have hpw : 2 ^ (N + n) ≤ 68719476736 := by
                    have := Nat.pow_le_pow_right (n := 2) (by decide) (show N + n ≤ 36 by omega)
                    omega
                  have HOf := Lib.hid fun g w => rof_any g (N + n) w (by omega)
                  have cl := (Blk.fresh wr 3 #[.int .i64 (N + n : Nat)]).cell 0
                  have bl : Below w1.heap.size w1 (wr.alloc (.cells #[.int .i64 (N + n : Nat)] 3)) := hB2.alloc hB2.size _
                  clear hb hb'
                  generalize orN m N n = Y at *
                  generalize 2 ^ (N + n) = Q at *
                  generalize hc : N + n = C at *
                  go_wp2_with (first
                    | (go_at_call 15; refine (HH.out _).mono ?_; clear HH; rintro e w' ⟨rfl, rfl⟩)
                    | (go_at_call 47; refine (HOf.out _ _ cl).mono ?_; rintro e w' ⟨rfl, rfl⟩))
                  go_roundw
                  case rel => exact ⟨n + 1, by omega, congrArg (Value.int .i64) (by omega), by rw [HO.out]; go_num, bl⟩
                  case measure => simp [intOf]; omega
              · have hne : n = min (N + 1) 37 - N := by omega
                have HY : Hid (orN m N n = fillN m N N) := Lib.hid (by rw [hne]; rfl)
                generalize orN m N n = Y at *
                by_cases hNN : N + n ≤ N
                · have h36 : 36 < N + n := by omega
                  generalize hc : N + n = C at *
                  go_wp2_with fail
                  go_roundw
                  case rel => exact ⟨k + 1, Y, by omega, by go_num, rfl, hm2, by rw [HY.out]; exact HF.out, hB2⟩
                  case measure => simp [intOf]; omega
                · generalize hc : N + n = C at *
                  go_wp2_with fail
                  go_roundw
                  case rel => exact ⟨k + 1, Y, by omega, by go_num, rfl, hm2, by rw [HY.out]; exact HF.out, hB2⟩
                  case measure => simp [intOf]; omega

          · obtain ⟨N', hp'⟩ : ∃ p, P[k - 1]? = some p := ⟨P[k - 1]'(by rw [HL.out]; omega), List.getElem?_eq_getElem _⟩
            obtain ⟨F, a'⟩ := N'
            have hF : F < 100 := hlt _ (List.mem_of_getElem? hp')
            obtain ⟨g3, hA3, l3, q3⟩ := (r4.below hB) (k - 1) (.int .i64 F) (by simp [numV, hp'])
            obtain rfl : g4 = g3 := by simpa using hA3
            have e0 : prevN P k = some F := by
              rw [show k = (k - 1) + 1 by omega, prevN, hp']; rfl
            simp only [if_true, e0, Option.getD_some] at hf
            have HF := Lib.hid hf
            clear hf
            have g1 : (0 : Int) < (k : Int) := by omega
            go_wp2_with fail
            go_loopw [6, 9] (fun s6 s9 wr => ∃ n : Nat, n ≤ min (N + 1) 37 - F ∧ s9 = .int .i64 (F + n : Nat) ∧ s6 = .int .u64 (orN m F n : Nat) ∧ Below w1.heap.size w1 wr) (fun _ s9 _ => 300 - (intOf s9).toNat)
            case atStart => exact ⟨0, by omega, rfl, rfl, hB⟩
            case round =>
              obtain ⟨n, hn, rfl, rfl, hB2⟩ := hrel
              have hm2 : orN m F n < 137438953472 := by
                by_cases h0 : n = 0
                · subst h0; exact hm
                · exact orN_lt hm n (by omega)
              obtain ⟨g4', hA4', l4', q4'⟩ := (r4.below hB2) k (.int .i64 N) (by simp [numV, hp])
              obtain rfl : g4 = g4' := by simpa using hA4'
              by_cases hnn : n < min (N + 1) 37 - F
              · by_cases hb : (orN m F n).testBit (F + n) = true
                · have HH := Lib.hid (rhas_to (m := orN m F n) (c := F + n) (b := true) (by omega) (by rw [has_bit (by omega)]; exact hb))
                  have HO := Lib.hid (or_had hb)
                  clear hb
                  generalize orN m F n = Y at *
                  generalize hc : F + n = C at *
                  go_wp2_with (go_at_call 15; refine (HH.out _).mono ?_; rintro e w' ⟨rfl, rfl⟩)
                  go_roundw
                  case rel => exact ⟨n + 1, by omega, congrArg (Value.int .i64) (by omega), by rw [HO.out], hB2⟩
                  case measure => simp [intOf]; omega
                · have hb' : (orN m F n).testBit (F + n) = false := by simpa using hb
                  have HH := Lib.hid (rhas_to (m := orN m F n) (c := F + n) (b := false) (by omega) (by rw [has_bit (by omega)]; exact hb'))
                  have HO := Lib.hid (or_new hb')
                  have hpw : 2 ^ (F + n) ≤ 68719476736 := by
                    have := Nat.pow_le_pow_right (n := 2) (by decide) (show F + n ≤ 36 by omega)
                    omega
                  have HOf := Lib.hid fun g w => rof_any g (F + n) w (by omega)
                  have cl := (Blk.fresh wr 3 #[.int .i64 (F + n : Nat)]).cell 0
                  have bl : Below w1.heap.size w1 (wr.alloc (.cells #[.int .i64 (F + n : Nat)] 3)) := hB2.alloc hB2.size _
                  clear hb hb'
                  generalize orN m F n = Y at *
                  generalize 2 ^ (F + n) = Q at *
                  generalize hc : F + n = C at *
                  go_wp2_with (first
                    | (go_at_call 15; refine (HH.out _).mono ?_; clear HH; rintro e w' ⟨rfl, rfl⟩)
                    | (go_at_call 47; refine (HOf.out _ _ cl).mono ?_; rintro e w' ⟨rfl, rfl⟩))
                  go_roundw
                  case rel => exact ⟨n + 1, by omega, congrArg (Value.int .i64) (by omega), by rw [HO.out]; go_num, bl⟩
                  case measure => simp [intOf]; omega
              · have hne : n = min (N + 1) 37 - F := by omega
                have HY : Hid (orN m F n = fillN m F N) := Lib.hid (by rw [hne]; rfl)
                generalize orN m F n = Y at *
                by_cases hNN : F + n ≤ N
                · have h36 : 36 < F + n := by omega
                  generalize hc : F + n = C at *
                  go_wp2_with fail
                  go_roundw
                  case rel => exact ⟨k + 1, Y, by omega, by go_num, rfl, hm2, by rw [HY.out]; exact HF.out, hB2⟩
                  case measure => simp [intOf]; omega
                · generalize hc : F + n = C at *
                  go_wp2_with fail
                  go_roundw
                  case rel => exact ⟨k + 1, Y, by omega, by go_num, rfl, hm2, by rw [HY.out]; exact HF.out, hB2⟩
                  case measure => simp [intOf]; omega

        · simp only [Bool.false_eq_true, if_false] at hf
          have HF := Lib.hid hf
          clear hf
          go_wp2_with fail
          go_loopw [6, 9] (fun s6 s9 wr => ∃ n : Nat, n ≤ min (N + 1) 37 - N ∧ s9 = .int .i64 (N + n : Nat) ∧ s6 = .int .u64 (orN m N n : Nat) ∧ Below w1.heap.size w1 wr) (fun _ s9 _ => 300 - (intOf s9).toNat)
          case atStart => exact ⟨0, by omega, rfl, rfl, hB⟩
          case round =>
            obtain ⟨n, hn, rfl, rfl, hB2⟩ := hrel
            have hm2 : orN m N n < 137438953472 := by
              by_cases h0 : n = 0
              · subst h0; exact hm
              · exact orN_lt hm n (by omega)
            obtain ⟨g4', hA4', l4', q4'⟩ := (r4.below hB2) k (.int .i64 N) (by simp [numV, hp])
            obtain rfl : g4 = g4' := by simpa using hA4'
            by_cases hnn : n < min (N + 1) 37 - N
            · by_cases hb : (orN m N n).testBit (N + n) = true
              · have HH := Lib.hid (rhas_to (m := orN m N n) (c := N + n) (b := true) (by omega) (by rw [has_bit (by omega)]; exact hb))
                have HO := Lib.hid (or_had hb)
                clear hb
                generalize orN m N n = Y at *
                generalize hc : N + n = C at *
                go_wp2_with (go_at_call 15; refine (HH.out _).mono ?_; rintro e w' ⟨rfl, rfl⟩)
                go_roundw
                case rel => exact ⟨n + 1, by omega, congrArg (Value.int .i64) (by omega), by rw [HO.out], hB2⟩
                case measure => simp [intOf]; omega
              · have hb' : (orN m N n).testBit (N + n) = false := by simpa using hb
                have HH := Lib.hid (rhas_to (m := orN m N n) (c := N + n) (b := false) (by omega) (by rw [has_bit (by omega)]; exact hb'))
                have HO := Lib.hid (or_new hb')
                have hpw : 2 ^ (N + n) ≤ 68719476736 := by
                  have := Nat.pow_le_pow_right (n := 2) (by decide) (show N + n ≤ 36 by omega)
                  omega
                have HOf := Lib.hid fun g w => rof_any g (N + n) w (by omega)
                have cl := (Blk.fresh wr 3 #[.int .i64 (N + n : Nat)]).cell 0
                have bl : Below w1.heap.size w1 (wr.alloc (.cells #[.int .i64 (N + n : Nat)] 3)) := hB2.alloc hB2.size _
                clear hb hb'
                generalize orN m N n = Y at *
                generalize 2 ^ (N + n) = Q at *
                generalize hc : N + n = C at *
                go_wp2_with (first
                  | (go_at_call 15; refine (HH.out _).mono ?_; clear HH; rintro e w' ⟨rfl, rfl⟩)
                  | (go_at_call 47; refine (HOf.out _ _ cl).mono ?_; rintro e w' ⟨rfl, rfl⟩))
                go_roundw
                case rel => exact ⟨n + 1, by omega, congrArg (Value.int .i64) (by omega), by rw [HO.out]; go_num, bl⟩
                case measure => simp [intOf]; omega
            · have hne : n = min (N + 1) 37 - N := by omega
              have HY : Hid (orN m N n = fillN m N N) := Lib.hid (by rw [hne]; rfl)
              generalize orN m N n = Y at *
              by_cases hNN : N + n ≤ N
              · have h36 : 36 < N + n := by omega
                generalize hc : N + n = C at *
                go_wp2_with fail
                go_roundw
                case rel => exact ⟨k + 1, Y, by omega, by go_num, rfl, hm2, by rw [HY.out]; exact HF.out, hB2⟩
                case measure => simp [intOf]; omega
              · generalize hc : N + n = C at *
                go_wp2_with fail
                go_roundw
                case rel => exact ⟨k + 1, Y, by omega, by go_num, rfl, hm2, by rw [HY.out]; exact HF.out, hB2⟩
                case measure => simp [intOf]; omega

      · obtain rfl : k = L := by omega
        have hmM : m = M := by
          have := hf
          rw [List.drop_of_length_le (by rw [HL.out]; omega)] at this
          exact this
        subst hmM
        have HT := Lib.hid fun w => rtext_any m w (by omega)
        have HC := Lib.hid fun w => rcheck_any m w (by omega)
        have HK : Hid (∀ w, Calls Tryd.prog 13 #[.int .u64 m] w fun e w' => e = .returned (.int .i64 (okM m)) ∧ Below w.heap.size w w') := HC
        generalize (⟨(textL m).toArray⟩ : ByteArray) = TT at *
        by_cases hTT : TT = s
        · subst hTT
          by_cases hok : okM m = 0
          · have hO : O = some m := by rw [hdoc, if_pos ⟨hst.1 rfl, hok⟩]
            subst hO
            rw [hok] at HK
            clear HC hdoc hst
            go_wp2_with (first
              | (go_at_call 35; refine (HT.out _).mono ?_; rintro e w2 ⟨rfl, b2⟩)
              | (go_at_call 13; refine (HK.out _).mono ?_; rintro e w3 ⟨rfl, b3⟩))
            go_ret2
            exact ⟨rfl, thenB (thenB (thenB b1 hB) b2) b3⟩
          · have hO : O = none := by rw [hdoc, if_neg (fun h => hok h.2)]
            subst hO
            have hne : (okM m != 0) = true := by simpa using hok
            clear HC hdoc hst hok
            generalize okM m = V at *
            go_wp2_with (first
              | (go_at_call 35; refine (HT.out _).mono ?_; rintro e w2 ⟨rfl, b2⟩)
              | (go_at_call 13; refine (HK.out _).mono ?_; rintro e w3 ⟨rfl, b3⟩))
            go_ret2
            exact ⟨rfl, thenB (thenB (thenB b1 hB) b2) b3⟩
        · have hO : O = none := by rw [hdoc, if_neg (fun h => hTT (hst.2 h.1))]
          subst hO
          have hne := str_no hTT
          clear HC HK hdoc hst
          go_wp2_with (go_at_call 35; refine (HT.out _).mono ?_; rintro e w2 ⟨rfl, b2⟩)
          go_ret2
          exact ⟨rfl, thenB (thenB b1 hB) b2⟩
end Go.Proofs.YtkpjpjjpjpimiaaDoor.Chm
