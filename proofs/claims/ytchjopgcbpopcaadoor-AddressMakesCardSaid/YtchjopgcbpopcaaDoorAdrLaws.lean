/- The statements on checking, making and encoding addresses, walked: each returns true. -/
import Derived.Test.YtchjopgcbpopcaaDoorAdrLives
import Derived.Test.YtchjopgcbpopcaaDoorAdrRefAll
import Derived.Test.YtchjopgcbpopcaaDoorAdrCode
set_option linter.unusedVariables false
set_option linter.unusedSimpArgs false
namespace Go.Proofs.YtchjopgcbpopcaaDoor.Adr
open Go.RowKit Mem Oct Base

theorem pair_below {w w' : World} {g : Nat} {x y : Value} (hs : w.cell? ⟨g, 0, none⟩ = some x ∧ w.cell? ⟨g, 1, none⟩ = some y) (b : Below w.heap.size w w') : w'.cell? ⟨g, 0, none⟩ = some x ∧ w'.cell? ⟨g, 1, none⟩ = some y :=
  ⟨(b.cell (p := ⟨g, 0, none⟩) (cell_lt hs.1)).trans hs.1, (b.cell (p := ⟨g, 1, none⟩) (cell_lt hs.2)).trans hs.2⟩
set_option maxHeartbeats 1000000 in
theorem law_checks (k b : Int) (w : World) (hk : -9223372036854775808 ≤ k ∧ k ≤ 9223372036854775807) (hb : 0 ≤ b ∧ b ≤ 18446744073709551615) (hT : Tab w) :
    Calls Tryd.prog 3 #[.agg #[.int .i64 k, .int .u64 b]] w fun e w' => e = .returned (.bool true) ∧ Below w.heap.size w w' := by
  have hB : Below w.heap.size w (w.alloc (.cells #[.int .i64 k, .int .u64 b] 24)) := (Below.refl _ _).alloc (Nat.le_refl _) _
  have T1 := hT.below hB
  have F := box_new w k b
  have H1 : Hid (∀ w, Tab w → Calls Tryd.prog 12 #[.agg #[.int .i64 k, .int .u64 b]] w fun e w' => e = .returned (.int .i64 (chk k b)) ∧ Below w.heap.size w w') := Lib.hid fun w hT => check_any k b w hk hb hT
  have H2 : Hid (∀ w, Calls Tryd.prog 13 #[.agg #[.int .i64 k, .int .u64 b]] w fun e w' => e = .returned (.int .i64 (chk k b)) ∧ Below w.heap.size w w') := Lib.hid fun w => rcheck_any k b w hk hb
  generalize chk k b = c at *
  go_enter Tryd.func3, Tryd.ntmps3
  go_wp2_with fail
  generalize w.alloc (.cells #[.int .i64 k, .int .u64 b] 24) = W at *
  have s0 : W.drew.cell? ⟨w.heap.size, 0, none⟩ = some (.int .i64 k) ∧ W.drew.cell? ⟨w.heap.size, 1, none⟩ = some (.int .u64 b) := ⟨F.c0, F.c1⟩
  have T4 : Tab W.drew := T1
  have B3 : Below w.heap.size w W.drew := hB.drew
  go_region_held3 (fun w' => w'.cell? ⟨w.heap.size, 0, none⟩ = some (.int .i64 k) ∧ w'.cell? ⟨w.heap.size, 1, none⟩ = some (.int .u64 b)) (first | exact s0 | exact s1 | exact s2 | exact s3) (first
    | (go_at_call 11; refine (lives_any _ T4).mono ?_; rintro e v1 ⟨rfl, b1⟩; have s1 := pair_below s0 b1; have T5 := T4.below b1; have B4 := thenB B3 b1)
    | (go_at_call 12; refine (H1.out _ T5).mono ?_; rintro e v2 ⟨rfl, b2⟩; have s2 := pair_below s1 b2; have B5 := thenB B4 b2)
    | (go_at_call 13; refine (H2.out _).mono ?_; rintro e v3 ⟨rfl, b3⟩; have s3 := pair_below s2 b3; have B6 := thenB B5 b3))
  all_goals go_wp2_with fail
  all_goals go_ret
  all_goals exact ⟨rfl, B6⟩
set_option maxHeartbeats 1000000 in
theorem law_makes (k b : Int) (w : World) (hk : -9223372036854775808 ≤ k ∧ k ≤ 9223372036854775807) (hb : 0 ≤ b ∧ b ≤ 18446744073709551615) (hT : Tab w) :
    Calls Tryd.prog 4 #[.int .i64 k, .int .u64 b] w fun e w' => e = .returned (.bool true) ∧ Below w.heap.size w w' := by
  by_cases h : 1 ≤ k ∧ k ≤ 4
  · have bm := mk_bd (b := b) h
    have H1 : Hid (∀ w, Tab w → Calls Tryd.prog 14 #[.int .i64 k, .int .u64 b] w fun e w' => e = .returned (.agg #[.int .i64 k, .int .u64 (mk k b)]) ∧ Below w.heap.size w w') := Lib.hid fun w hT => random_any k b w h hb hT
    have H2 : Hid (∀ w, Calls Tryd.prog 15 #[.int .i64 k, .int .u64 b] w fun e w' => e = .returned (.agg #[.int .i64 k, .int .u64 (mk k b)]) ∧ Below w.heap.size w w') := Lib.hid fun w => rrandom_any k b w h hb
    have H3 : Hid (∀ w, Tab w → Calls Tryd.prog 12 #[.agg #[.int .i64 k, .int .u64 (mk k b)]] w fun e w' => e = .returned (.int .i64 0) ∧ Below w.heap.size w w') := Lib.hid fun w hT => by
      have := check_any k (mk k b) w hk (by omega) hT
      rwa [chk_mk h] at this
    generalize mk k b = M at *
    go_enter Tryd.func4, Tryd.ntmps4
    go_wp2_with fail
    refine (H1.out _ hT).mono ?_
    rintro e w1 ⟨rfl, b1⟩
    have T1 := hT.below b1
    have F := box_new w1 k M
    have T2 := T1.alloc (.cells #[.int .i64 k, .int .u64 M] 24)
    have hB := thenB b1 ((Below.refl w1.heap.size w1).alloc (Nat.le_refl _) (.cells #[.int .i64 k, .int .u64 M] 24))
    go_wp2_with fail
    generalize w1.alloc (.cells #[.int .i64 k, .int .u64 M] 24) = W at *
    have s0 : W.drew.cell? ⟨w1.heap.size, 0, none⟩ = some (.int .i64 k) ∧ W.drew.cell? ⟨w1.heap.size, 1, none⟩ = some (.int .u64 M) := ⟨F.c0, F.c1⟩
    have T4 : Tab W.drew := T2
    have B3 : Below w.heap.size w W.drew := hB.drew
    go_region_held3 (fun w' => w'.cell? ⟨w1.heap.size, 0, none⟩ = some (.int .i64 k) ∧ w'.cell? ⟨w1.heap.size, 1, none⟩ = some (.int .u64 M)) (first | exact s0 | exact s1 | exact s2 | exact s3) (first
      | (go_at_call 11; refine (lives_any _ T4).mono ?_; rintro e v1 ⟨rfl, c1⟩; have s1 := pair_below s0 c1; have T5 := T4.below c1; have B4 := thenB B3 c1)
      | (go_at_call 15; refine (H2.out _).mono ?_; rintro e v2 ⟨rfl, c2⟩; have s2 := pair_below s1 c2; have T6 := T5.below c2; have B5 := thenB B4 c2)
      | (go_at_call 12; refine (H3.out _ T6).mono ?_; rintro e v3 ⟨rfl, c3⟩; have s3 := pair_below s2 c3; have B6 := thenB B5 c3))
    all_goals go_wp2_with fail
    all_goals go_ret
    all_goals exact ⟨rfl, B6⟩
  · have H1 : Hid (∀ w, Calls Tryd.prog 14 #[.int .i64 k, .int .u64 b] w fun e w' => e = .returned (.agg #[.int .i64 0, .int .u64 0]) ∧ Below w.heap.size w w') := Lib.hid fun w => random_none k b w hk (by omega)
    by_cases h0 : k < 1
    · go_enter Tryd.func4, Tryd.ntmps4
      go_wp2_with fail
      refine (H1.out _).mono ?_
      rintro e w1 ⟨rfl, b1⟩
      have T2 := (hT.below b1).alloc (.cells #[.int .i64 0, .int .u64 0] 24)
      have F := box_new w1 0 0
      have hB := thenB b1 ((Below.refl w1.heap.size w1).alloc (Nat.le_refl _) (.cells #[.int .i64 0, .int .u64 0] 24))
      go_wp2_with fail
      refine (lives_any _ T2).mono ?_
      rintro e v1 ⟨rfl, c1⟩
      have s1 := pair_below ⟨F.c0, F.c1⟩ c1
      have s1a := s1.1
      have s1b := s1.2
      go_wp2_with fail
      go_ret
      exact ⟨rfl, thenB hB c1⟩
    · have h4 : 4 < k := by omega
      go_enter Tryd.func4, Tryd.ntmps4
      go_wp2_with fail
      refine (H1.out _).mono ?_
      rintro e w1 ⟨rfl, b1⟩
      have T2 := (hT.below b1).alloc (.cells #[.int .i64 0, .int .u64 0] 24)
      have F := box_new w1 0 0
      have hB := thenB b1 ((Below.refl w1.heap.size w1).alloc (Nat.le_refl _) (.cells #[.int .i64 0, .int .u64 0] 24))
      go_wp2_with fail
      refine (lives_any _ T2).mono ?_
      rintro e v1 ⟨rfl, c1⟩
      have s1 := pair_below ⟨F.c0, F.c1⟩ c1
      have s1a := s1.1
      have s1b := s1.2
      go_wp2_with fail
      go_ret
      exact ⟨rfl, thenB hB c1⟩
theorem encR_bytes {k b : Int} : Bytes (encR k b).1 := by
  unfold encR
  by_cases h : chk k b = 0
  · rw [if_pos h]
    have hk := chk_ok h
    intro z hz
    rcases List.mem_cons.1 hz with rfl | hz
    · omega
    · exact numL_bytes 6 b z hz
  · rw [if_neg h]; intro z hz; cases hz
theorem encR_len (k b : Int) : (encR k b).1.length ≤ 7 := by unfold encR; split <;> simp [numL_len]
set_option maxHeartbeats 1000000 in
theorem law_encodes (k b : Int) (w : World) (hk : -9223372036854775808 ≤ k ∧ k ≤ 9223372036854775807) (hb : 0 ≤ b ∧ b ≤ 18446744073709551615) (hT : Tab w) :
    Calls Tryd.prog 5 #[.agg #[.int .i64 k, .int .u64 b]] w fun e w' => e = .returned (.bool true) ∧ Below w.heap.size w w' := by
  have hB : Below w.heap.size w (w.alloc (.cells #[.int .i64 k, .int .u64 b] 24)) := (Below.refl _ _).alloc (Nat.le_refl _) _
  have T1 := hT.below hB
  have F := box_new w k b
  have c0 := F.c0
  have c1 := F.c1
  have bb := encR_bytes (k := k) (b := b)
  have H1 : Hid (∀ w, Tab w → Calls Tryd.prog 16 #[.agg #[.int .i64 k, .int .u64 b]] w fun e w' => Gives w w' e (encR k b)) := Lib.hid fun w hT => encode_any k b w hk hb hT
  have H2 : Hid (∀ w, Calls Tryd.prog 17 #[.agg #[.int .i64 k, .int .u64 b]] w fun e w' => Gives w w' e (encR k b)) := Lib.hid fun w => rencode_any k b w hk hb
  generalize encR k b = r at *
  go_enter Tryd.func5, Tryd.ntmps5
  go_wp2_with fail
  refine (H1.out _ T1).mono ?_
  rintro e w1 ⟨A1, n1, rfl, own1, b1⟩
  have i1 := Ints.own own1
  have s1 := pair_below ⟨c0, c1⟩ b1
  have d0 := s1.1
  have d1 := s1.2
  have T2 := T1.below b1
  have B1 := thenB hB b1
  clear own1
  go_wp2_with fail
  refine (H2.out _).mono ?_
  rintro e w2 ⟨A2, n2, rfl, own2, b2⟩
  have i2 := Ints.own own2
  have j1 := i1.below b2
  have T3 := T2.below b2
  have B2 := thenB B1 b2
  clear own2
  go_wp2_with fail
  refine (lives_any _ T3).mono ?_
  rintro e w3 ⟨rfl, b3⟩
  have k1 := (j1.more b2.size).below b3
  have k2 := i2.below b3
  have B3 := thenB B2 b3
  go_wp2_with fail
  refine (same_any A1 A2 _ _ n1 n2 r.1 r.1 _ rfl rfl bb bb (k1.more b3.size) (k2.more b3.size)).mono ?_
  rintro e w4 ⟨rfl, rfl⟩
  go_wp2_with fail
  go_ret
  exact ⟨by simp, B3⟩
end Go.Proofs.YtchjopgcbpopcaaDoor.Adr
