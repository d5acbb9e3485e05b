/- The statements on texts and on the order of addresses, walked: each returns true. -/
import Derived.Test.YtchjopgcbpopcaaDoorAdrLives
import Derived.Test.YtchjopgcbpopcaaDoorAdrRText
set_option linter.unusedVariables false
set_option linter.unusedSimpArgs false
namespace Go.Proofs.YtchjopgcbpopcaaDoor.Adr
open Go.RowKit Mem Oct Base

theorem rtext_any (k b : Int) (w : World) (hk : -9223372036854775808 ≤ k ∧ k ≤ 9223372036854775807) (hb : 0 ≤ b ∧ b ≤ 18446744073709551615) :
    Calls Tryd.prog 22 #[.agg #[.int .i64 k, .int .u64 b]] w fun e w' => e = .returned (.string (strOfNums (textL k b))) ∧ Below w.heap.size w w' := by
  by_cases h : chk k b = 0
  · rw [show textL k b = txtL b 6 ++ [letZ k] by unfold textL; rw [if_pos h]]; exact rtext_good k b w hb h
  · rw [show textL k b = [] by unfold textL; rw [if_neg h]]; exact rtext_bad k b w hk hb h
/-- Texts of valid addresses tell them apart. -/
theorem text_apart {k b k' b' : Int} (hb : 0 ≤ b) (hb' : 0 ≤ b') (h : chk k b = 0) : (textL k b = textL k' b') ↔ (k = k' ∧ b = b') := by
  constructor
  · intro e
    by_cases h' : chk k' b' = 0
    · have p1 := parse_text hb h
      have p2 := parse_text hb' h'
      rw [e, p2] at p1
      simp at p1
      exact ⟨p1.1.symm, p1.2.symm⟩
    · have : textL k b = txtL b 6 ++ [letZ k] := by unfold textL; rw [if_pos h]
      rw [this, show textL k' b' = [] by unfold textL; rw [if_neg h']] at e
      have := congrArg List.length e
      simp at this
  · rintro ⟨rfl, rfl⟩; rfl
theorem nil_str : (strOfNums ([] : List Int)).toList = [] := by rw [ByteArray.toList_eq]; rfl
theorem empty_of {l : List UInt8} {b : Bool} (h : (l == []) = b) : l.isEmpty = b := by cases l <;> simpa using h
theorem textL_ne {k b : Int} (h : chk k b = 0) : textL k b ≠ [] := by
  unfold textL; rw [if_pos h]; simp
set_option maxHeartbeats 1000000 in
theorem law_texts (k b k' b' : Int) (w : World) (hk : -9223372036854775808 ≤ k ∧ k ≤ 9223372036854775807) (hb : 0 ≤ b ∧ b ≤ 18446744073709551615) (hk' : -9223372036854775808 ≤ k' ∧ k' ≤ 9223372036854775807) (hb' : 0 ≤ b' ∧ b' ≤ 18446744073709551615) (hT : Tab w) :
    Calls Tryd.prog 7 #[.agg #[.int .i64 k, .int .u64 b], .agg #[.int .i64 k', .int .u64 b']] w fun e w' => e = .returned (.bool true) ∧ Below w.heap.size w w' := by
  have hB : Below w.heap.size w ((w.alloc (.cells #[.int .i64 k, .int .u64 b] 24)).alloc (.cells #[.int .i64 k', .int .u64 b'] 24)) := ((Below.refl _ _).alloc (Nat.le_refl _) _).alloc (by simp) _
  have F := (box_new w k b).below ((Below.refl (w.alloc (.cells #[.int .i64 k, .int .u64 b] 24)).heap.size _).alloc (Nat.le_refl _) (.cells #[.int .i64 k', .int .u64 b'] 24))
  have G := box_new (w.alloc (.cells #[.int .i64 k, .int .u64 b] 24)) k' b'
  rw [World.size_alloc] at G
  have T1 := hT.below hB
  have bx := textL_bytes k b
  have by_ := textL_bytes k' b'
  have H1 : Hid (∀ w, Tab w → Calls Tryd.prog 21 #[.agg #[.int .i64 k, .int .u64 b]] w fun e w' => e = .returned (.string (strOfNums (textL k b))) ∧ Below w.heap.size w w') := Lib.hid fun w hT => text_any k b w hk hb hT
  have H2 : Hid (∀ w, Calls Tryd.prog 22 #[.agg #[.int .i64 k, .int .u64 b]] w fun e w' => e = .returned (.string (strOfNums (textL k b))) ∧ Below w.heap.size w w') := Lib.hid fun w => rtext_any k b w hk hb
  have H3 : Hid (∀ w, Tab w → Calls Tryd.prog 21 #[.agg #[.int .i64 k', .int .u64 b']] w fun e w' => e = .returned (.string (strOfNums (textL k' b'))) ∧ Below w.heap.size w w') := Lib.hid fun w hT => text_any k' b' w hk' hb' hT
  have hE : Hid (((strOfNums (textL k b)).toList == (strOfNums ([] : List Int)).toList) = decide (textL k b = [])) := Lib.hid (str_eq bx (by intro z hz; cases hz))
  have hQ : Hid (((strOfNums (textL k b)).toList == (strOfNums (textL k' b')).toList) = decide (textL k b = textL k' b')) := Lib.hid (str_eq bx by_)
  go_enter Tryd.func7, Tryd.ntmps7
  go_wp2_with fail
  generalize (w.alloc (.cells #[.int .i64 k, .int .u64 b] 24)).alloc (.cells #[.int .i64 k', .int .u64 b'] 24) = W at *
  have s0 : W.cell? ⟨w.heap.size, 0, none⟩ = some (.int .i64 k) ∧ W.cell? ⟨w.heap.size, 1, none⟩ = some (.int .u64 b) ∧ W.cell? ⟨w.heap.size + 1, 0, none⟩ = some (.int .i64 k') ∧ W.cell? ⟨w.heap.size + 1, 1, none⟩ = some (.int .u64 b') := ⟨F.c0, F.c1, G.c0, G.c1⟩
  refine (H1.out _ T1).mono ?_
  rintro e w1 ⟨rfl, b1⟩
  have s1 := cells_below s0 b1
  have T2 := T1.below b1
  have B1 := thenB hB b1
  have u0 := s1.1
  have u1 := s1.2.1
  go_wp2_with fail
  refine (H2.out _).mono ?_
  rintro e w2 ⟨rfl, b2⟩
  have s2 := cells_below s1 b2
  have T3 := T2.below b2
  have B2 := thenB B1 b2
  go_wp2_with fail
  have s3 : w2.drew.cell? ⟨w.heap.size, 0, none⟩ = some (.int .i64 k) ∧ w2.drew.cell? ⟨w.heap.size, 1, none⟩ = some (.int .u64 b) ∧ w2.drew.cell? ⟨w.heap.size + 1, 0, none⟩ = some (.int .i64 k') ∧ w2.drew.cell? ⟨w.heap.size + 1, 1, none⟩ = some (.int .u64 b') := s2
  have T4 : Tab w2.drew := T3
  have B3 : Below w.heap.size w w2.drew := B2.drew
  clear s0 s1 s2 T1 T2 T3 B1 B2 b1 b2 u0 u1 H1 H2 F G
  by_cases h0 : chk k b = 0
  · have HA : Hid ((textL k b = textL k' b') ↔ (k = k' ∧ b = b')) := Lib.hid (text_apart hb.1 hb'.1 h0)
    have D1 : (strOfNums (textL k b)).toList.isEmpty = false := empty_of (by
      have := hE.out
      rw [decide_eq_false (textL_ne h0), nil_str] at this
      exact this)
    have HX : Hid (decide (textL k b = textL k' b') = (decide (k = k') && decide (b = b'))) := Lib.hid (by rw [← Bool.decide_and]; congr 1; exact propext HA.out)
    clear HA
    by_cases e1 : k = k'
    · by_cases e2 : b = b'
      · have HV : Hid (((strOfNums (textL k b)).toList == (strOfNums (textL k' b')).toList) = true) := Lib.hid (by rw [hQ.out, HX.out, decide_eq_true e1, decide_eq_true e2]; rfl)
        have E1 : (k == k') = true := by simpa using e1
        have E2 : (b == b') = true := by simpa using e2
        clear e1 e2 hQ hE HX
        go_region_held3 (fun w' => w'.cell? ⟨w.heap.size, 0, none⟩ = some (.int .i64 k) ∧ w'.cell? ⟨w.heap.size, 1, none⟩ = some (.int .u64 b) ∧ w'.cell? ⟨w.heap.size + 1, 0, none⟩ = some (.int .i64 k') ∧ w'.cell? ⟨w.heap.size + 1, 1, none⟩ = some (.int .u64 b')) (first | exact s3 | exact s4 | exact s5) (first
          | (go_at_call 11; refine (lives_any _ T4).mono ?_; rintro e v1 ⟨rfl, c1⟩; have s4 := cells_below s3 c1; have T5 := T4.below c1; have B4 := thenB B3 c1)
          | (go_at_call 21; refine (H3.out _ T5).mono ?_; rintro e v2 ⟨rfl, c2⟩; have s5 := cells_below s4 c2; have B5 := thenB B4 c2))
        all_goals go_wp2_with fail
        all_goals go_ret
        all_goals exact ⟨Ser.ret_bool (by simp [HV.out]), B5⟩
      · have HV : Hid (((strOfNums (textL k b)).toList == (strOfNums (textL k' b')).toList) = false) := Lib.hid (by rw [hQ.out, HX.out, decide_eq_false e2, Bool.and_false])
        have E1 : (k == k') = true := by simpa using e1
        have E2 : (b == b') = false := by simpa using e2
        clear e1 e2 hQ hE HX
        go_region_held3 (fun w' => w'.cell? ⟨w.heap.size, 0, none⟩ = some (.int .i64 k) ∧ w'.cell? ⟨w.heap.size, 1, none⟩ = some (.int .u64 b) ∧ w'.cell? ⟨w.heap.size + 1, 0, none⟩ = some (.int .i64 k') ∧ w'.cell? ⟨w.heap.size + 1, 1, none⟩ = some (.int .u64 b')) (first | exact s3 | exact s4 | exact s5) (first
          | (go_at_call 11; refine (lives_any _ T4).mono ?_; rintro e v1 ⟨rfl, c1⟩; have s4 := cells_below s3 c1; have T5 := T4.below c1; have B4 := thenB B3 c1)
          | (go_at_call 21; refine (H3.out _ T5).mono ?_; rintro e v2 ⟨rfl, c2⟩; have s5 := cells_below s4 c2; have B5 := thenB B4 c2))
        all_goals go_wp2_with fail
        all_goals go_ret
        all_goals exact ⟨Ser.ret_bool (by simp [HV.out]), B5⟩
    · have HV : Hid (((strOfNums (textL k b)).toList == (strOfNums (textL k' b')).toList) = false) := Lib.hid (by rw [hQ.out, HX.out, decide_eq_false e1, Bool.false_and])
      have E1 : (k == k') = false := by simpa using e1
      clear e1 hQ hE HX
      go_region_held3 (fun w' => w'.cell? ⟨w.heap.size, 0, none⟩ = some (.int .i64 k) ∧ w'.cell? ⟨w.heap.size, 1, none⟩ = some (.int .u64 b) ∧ w'.cell? ⟨w.heap.size + 1, 0, none⟩ = some (.int .i64 k') ∧ w'.cell? ⟨w.heap.size + 1, 1, none⟩ = some (.int .u64 b')) (first | exact s3 | exact s4 | exact s5) (first
        | (go_at_call 11; refine (lives_any _ T4).mono ?_; rintro e v1 ⟨rfl, c1⟩; have s4 := cells_below s3 c1; have T5 := T4.below c1; have B4 := thenB B3 c1)
        | (go_at_call 21; refine (H3.out _ T5).mono ?_; rintro e v2 ⟨rfl, c2⟩; have s5 := cells_below s4 c2; have B5 := thenB B4 c2))
      all_goals go_wp2_with fail
      all_goals go_ret
      all_goals exact ⟨Ser.ret_bool (by simp [HV.out]), B5⟩
  · have e0 : textL k b = [] := by unfold textL; rw [if_neg h0]
    have D1 : (strOfNums (textL k b)).toList.isEmpty = true := by rw [e0, nil_str]; rfl
    clear e0 hE hQ
    generalize strOfNums (textL k b) = S at *
    refine wp_region_any (by kernel_rfl) ?_
    change wpAny _ _ _ _ _ _ _ (World.drew _)
    refine wpAny_ready (rs := [0]) (by kernel_rfl) (by simp) ?_
    refine AllReady.cons rfl (fun K hK => ?_) AllReady.nil
    go_simp
    go_wp2_with (go_at_call 11; refine (lives_any _ T4).mono ?_; rintro e v1 ⟨rfl, c1⟩; have s4 := cells_below s3 c1; have B4 := thenB B3 c1)
    refine wpAny_take (i := 1) (v := .bool true) rfl (by kernel_rfl) (by kernel_rfl) (by kernel_rfl) (fun _ _ _ h => h) (Or.inl ⟨by rfl, by intro w; go_simp⟩) ?_
    refine wpAny_take (i := 2) (v := .string S) rfl (by kernel_rfl) (by kernel_rfl) (by kernel_rfl) (fun _ _ _ h => h) (Or.inl ⟨by rfl, by intro w; go_simp⟩) ?_
    refine wpAny_take (i := 3) (v := .bool true) rfl (by kernel_rfl) (by kernel_rfl) (by kernel_rfl) (fun _ _ _ h => h) (Or.inl ⟨by rfl, by intro w; go_simp⟩) ?_
    refine wpAny_take (i := 4) (v := .bool true) rfl (by kernel_rfl) (by kernel_rfl) (by kernel_rfl) (fun _ _ _ h => h) (Or.inl ⟨by rfl, by intro w; go_simp⟩) ?_
    refine wpAny_take (i := 5) (v := undef) rfl (by kernel_rfl) (by kernel_rfl) (by kernel_rfl) (fun _ _ _ h => h) (Or.inr ⟨by go_simp, rfl⟩) ?_
    refine wpAny_take (i := 6) (v := undef) rfl (by kernel_rfl) (by kernel_rfl) (by kernel_rfl) (fun _ _ _ h => h) (Or.inr ⟨by go_simp, rfl⟩) ?_
    refine wpAny_take (i := 7) (v := undef) rfl (by kernel_rfl) (by kernel_rfl) (by kernel_rfl) (fun _ _ _ h => h) (Or.inr ⟨by go_simp, rfl⟩) ?_
    refine wpAny_take (i := 8) (v := undef) rfl (by kernel_rfl) (by kernel_rfl) (by kernel_rfl) (fun _ _ _ h => h) (Or.inr ⟨by go_simp, rfl⟩) ?_
    refine wpAny_take (i := 9) (v := undef) rfl (by kernel_rfl) (by kernel_rfl) (by kernel_rfl) (fun _ _ _ h => h) (Or.inr ⟨by go_simp, rfl⟩) ?_
    refine wpAny_take (i := 10) (v := undef) rfl (by kernel_rfl) (by kernel_rfl) (by kernel_rfl) (fun _ _ _ h => h) (Or.inr ⟨by go_simp, rfl⟩) ?_
    refine wpAny_take (i := 11) (v := undef) rfl (by kernel_rfl) (by kernel_rfl) (by kernel_rfl) (fun _ _ _ h => h) (Or.inr ⟨by go_simp, rfl⟩) ?_
    refine wpAny_take (i := 12) (v := undef) rfl (by kernel_rfl) (by kernel_rfl) (by kernel_rfl) (fun _ _ _ h => h) (Or.inr ⟨by go_simp, rfl⟩) ?_
    refine wpAny_take (i := 13) (v := .bool true) rfl (by kernel_rfl) (by kernel_rfl) (by kernel_rfl) (fun _ _ _ h => h) (Or.inl ⟨by go_simp, by intro w; go_simp⟩) ?_
    refine wpAny_take (i := 14) (v := .bool true) rfl (by kernel_rfl) (by kernel_rfl) (by kernel_rfl) (fun _ _ _ h => h) (Or.inl ⟨by go_simp, by intro w; go_simp⟩) ?_
    refine wpAny_take (i := 15) (v := .bool true) rfl (by kernel_rfl) (by kernel_rfl) (by kernel_rfl) (fun _ _ _ h => h) (Or.inl ⟨by go_simp, by intro w; go_simp⟩) ?_
    refine wpAny_done (by kernel_rfl) ?_ _
    go_simp
    all_goals go_wp2_with fail
    all_goals go_ret
    all_goals exact ⟨rfl, B4⟩
end Go.Proofs.YtchjopgcbpopcaaDoor.Adr
