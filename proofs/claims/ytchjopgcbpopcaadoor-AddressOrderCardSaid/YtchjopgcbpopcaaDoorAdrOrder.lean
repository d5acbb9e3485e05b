/- The statement on the order of addresses, walked: it returns true. -/
import Derived.Test.YtchjopgcbpopcaaDoorAdrLives
set_option linter.unusedVariables false
set_option linter.unusedSimpArgs false
namespace Go.Proofs.YtchjopgcbpopcaaDoor.Adr
open Go.RowKit Mem Oct Base

theorem cmp_lo {k b k' b' : Int} (h : k < k' ∨ (k = k' ∧ b < b')) : cmpA k b k' b' = -1 := by
  have h1 := (cmpA_lt_iff k b k' b').2 h
  have h2 := cmpA_bd k b k' b'
  omega
theorem cmp_hi {k b k' b' : Int} (h : ¬ (k < k' ∨ (k = k' ∧ b ≤ b'))) : cmpA k b k' b' = 1 := by
  have h1 := mt (cmpA_le_iff k b k' b').1 h
  have h2 := cmpA_bd k b k' b'
  omega
set_option maxHeartbeats 1000000 in
theorem rcompare_any (k b k' b' : Int) (w : World) (hk : -9223372036854775808 ≤ k ∧ k ≤ 9223372036854775807) (hb : 0 ≤ b ∧ b ≤ 18446744073709551615) (hk' : -9223372036854775808 ≤ k' ∧ k' ≤ 9223372036854775807) (hb' : 0 ≤ b' ∧ b' ≤ 18446744073709551615) :
    Calls Tryd.prog 26 #[.agg #[.int .i64 k, .int .u64 b], .agg #[.int .i64 k', .int .u64 b']] w fun e w' => e = .returned (.int .i64 (cmpA k b k' b')) ∧ Below w.heap.size w w' := by
  have hB : Below w.heap.size w ((w.alloc (.cells #[.int .i64 k, .int .u64 b] 24)).alloc (.cells #[.int .i64 k', .int .u64 b'] 24)) := ((Below.refl _ _).alloc (Nat.le_refl _) _).alloc (by simp) _
  by_cases e1 : k = k'
  · subst e1
    by_cases e2 : b = b'
    · subst e2
      have HX : Hid (cmpA k b k b = 0) := Lib.hid ((cmpA_zero _ _ _ _).2 ⟨rfl, rfl⟩)
      go_enter Tryd.func26, Tryd.ntmps26
      go_wp2_with fail
      go_ret
      exact ⟨Ser.ret_int HX.out.symm, hB⟩
    · have E2 : (b == b') = false := by simpa using e2
      by_cases e3 : b < b'
      · have HX : Hid (cmpA k b k b' = -1) := Lib.hid (cmp_lo (by omega))
        go_enter Tryd.func26, Tryd.ntmps26
        go_wp2_with fail
        go_ret
        exact ⟨Ser.ret_int HX.out.symm, hB⟩
      · have HX : Hid (cmpA k b k b' = 1) := Lib.hid (cmp_hi (by omega))
        go_enter Tryd.func26, Tryd.ntmps26
        go_wp2_with fail
        go_ret
        exact ⟨Ser.ret_int HX.out.symm, hB⟩
  · have E1 : (k == k') = false := by simpa using e1
    by_cases e3 : k < k'
    · have HX : Hid (cmpA k b k' b' = -1) := Lib.hid (cmp_lo (by omega))
      go_enter Tryd.func26, Tryd.ntmps26
      go_wp2_with fail
      go_ret
      exact ⟨Ser.ret_int HX.out.symm, hB⟩
    · have HX : Hid (cmpA k b k' b' = 1) := Lib.hid (cmp_hi (by omega))
      go_enter Tryd.func26, Tryd.ntmps26
      go_wp2_with fail
      go_ret
      exact ⟨Ser.ret_int HX.out.symm, hB⟩
/-- Three boxes are kept by what writes above. -/
theorem six_below {w w' : World} {g h l : Nat} {x y u v p q : Value} (hs : w.cell? ⟨g, 0, none⟩ = some x ∧ w.cell? ⟨g, 1, none⟩ = some y ∧ w.cell? ⟨h, 0, none⟩ = some u ∧ w.cell? ⟨h, 1, none⟩ = some v ∧ w.cell? ⟨l, 0, none⟩ = some p ∧ w.cell? ⟨l, 1, none⟩ = some q) (b : Below w.heap.size w w') :
    w'.cell? ⟨g, 0, none⟩ = some x ∧ w'.cell? ⟨g, 1, none⟩ = some y ∧ w'.cell? ⟨h, 0, none⟩ = some u ∧ w'.cell? ⟨h, 1, none⟩ = some v ∧ w'.cell? ⟨l, 0, none⟩ = some p ∧ w'.cell? ⟨l, 1, none⟩ = some q := by
  obtain ⟨a1, a2, a3, a4, a5, a6⟩ := hs
  exact ⟨(b.cell (p := ⟨g, 0, none⟩) (cell_lt a1)).trans a1, (b.cell (p := ⟨g, 1, none⟩) (cell_lt a2)).trans a2, (b.cell (p := ⟨h, 0, none⟩) (cell_lt a3)).trans a3, (b.cell (p := ⟨h, 1, none⟩) (cell_lt a4)).trans a4, (b.cell (p := ⟨l, 0, none⟩) (cell_lt a5)).trans a5, (b.cell (p := ⟨l, 1, none⟩) (cell_lt a6)).trans a6⟩
set_option maxHeartbeats 4000000 in
theorem law_order (k b k' b' k2 b2 : Int) (w : World) (hk : -9223372036854775808 ≤ k ∧ k ≤ 9223372036854775807) (hb : 0 ≤ b ∧ b ≤ 18446744073709551615) (hk' : -9223372036854775808 ≤ k' ∧ k' ≤ 9223372036854775807) (hb' : 0 ≤ b' ∧ b' ≤ 18446744073709551615) (hk2 : -9223372036854775808 ≤ k2 ∧ k2 ≤ 9223372036854775807) (hb2 : 0 ≤ b2 ∧ b2 ≤ 18446744073709551615) (hT : Tab w) :
    Calls Tryd.prog 10 #[.agg #[.int .i64 k, .int .u64 b], .agg #[.int .i64 k', .int .u64 b'], .agg #[.int .i64 k2, .int .u64 b2]] w fun e w' => e = .returned (.bool true) ∧ Below w.heap.size w w' := by
  obtain ⟨W, hW⟩ : ∃ W, ((w.alloc (.cells #[.int .i64 k, .int .u64 b] 24)).alloc (.cells #[.int .i64 k', .int .u64 b'] 24)).alloc (.cells #[.int .i64 k2, .int .u64 b2] 24) = W := ⟨_, rfl⟩
  have hB : Below w.heap.size w W := by rw [← hW]; exact (((Below.refl _ _).alloc (Nat.le_refl _) _).alloc (by simp) _).alloc (by simp; omega) _
  have s0 : W.cell? ⟨w.heap.size, 0, none⟩ = some (.int .i64 k) ∧ W.cell? ⟨w.heap.size, 1, none⟩ = some (.int .u64 b) ∧ W.cell? ⟨w.heap.size + 1, 0, none⟩ = some (.int .i64 k') ∧ W.cell? ⟨w.heap.size + 1, 1, none⟩ = some (.int .u64 b') ∧ W.cell? ⟨w.heap.size + 2, 0, none⟩ = some (.int .i64 k2) ∧ W.cell? ⟨w.heap.size + 2, 1, none⟩ = some (.int .u64 b2) := by
    have F := ((Blk.fresh w 24 #[.int .i64 k, .int .u64 b]).alloc (.cells #[.int .i64 k', .int .u64 b'] 24)).alloc (.cells #[.int .i64 k2, .int .u64 b2] 24)
    have G := (Blk.fresh (w.alloc (.cells #[.int .i64 k, .int .u64 b] 24)) 24 #[.int .i64 k', .int .u64 b']).alloc (.cells #[.int .i64 k2, .int .u64 b2] 24)
    have L := Blk.fresh ((w.alloc (.cells #[.int .i64 k, .int .u64 b] 24)).alloc (.cells #[.int .i64 k', .int .u64 b'] 24)) 24 #[.int .i64 k2, .int .u64 b2]
    rw [hW] at F G L
    rw [World.size_alloc] at G
    rw [World.size_alloc, World.size_alloc] at L
    exact ⟨F.cell 0, F.cell 1, G.cell 0, G.cell 1, L.cell 0, L.cell 1⟩
  have T1 := hT.below hB
  obtain ⟨x, hx⟩ : ∃ x, cmpA k b k' b' = x := ⟨_, rfl⟩
  obtain ⟨y, hy⟩ : ∃ y, cmpA k' b' k2 b2 = y := ⟨_, rfl⟩
  obtain ⟨z, hz⟩ : ∃ z, cmpA k b k2 b2 = z := ⟨_, rfl⟩
  have bx := cmpA_bd k b k' b'
  have by_ := cmpA_bd k' b' k2 b2
  have bz := cmpA_bd k b k2 b2
  have hle := cmpA_le k b k' b' k2 b2
  have hlt := cmpA_lt k b k' b' k2 b2
  have hng := cmpA_neg k' b' k b
  have hze := cmpA_zero k b k' b'
  rw [hx] at bx hle hlt hng hze
  rw [hy] at by_ hle hlt
  rw [hz] at bz hle hlt
  have C1 : Hid (∀ w, Calls Tryd.prog 25 #[.agg #[.int .i64 k, .int .u64 b], .agg #[.int .i64 k', .int .u64 b']] w fun e w' => e = .returned (.int .i64 x) ∧ Below w.heap.size w w') := Lib.hid fun w => by rw [← hx]; exact compare_any k b k' b' w hk hb hk' hb'
  have C2 : Hid (∀ w, Calls Tryd.prog 25 #[.agg #[.int .i64 k', .int .u64 b'], .agg #[.int .i64 k2, .int .u64 b2]] w fun e w' => e = .returned (.int .i64 y) ∧ Below w.heap.size w w') := Lib.hid fun w => by rw [← hy]; exact compare_any k' b' k2 b2 w hk' hb' hk2 hb2
  have C3 : Hid (∀ w, Calls Tryd.prog 25 #[.agg #[.int .i64 k, .int .u64 b], .agg #[.int .i64 k2, .int .u64 b2]] w fun e w' => e = .returned (.int .i64 z) ∧ Below w.heap.size w w') := Lib.hid fun w => by rw [← hz]; exact compare_any k b k2 b2 w hk hb hk2 hb2
  have C4 : Hid (∀ w, Calls Tryd.prog 25 #[.agg #[.int .i64 k', .int .u64 b'], .agg #[.int .i64 k, .int .u64 b]] w fun e w' => e = .returned (.int .i64 (-x)) ∧ Below w.heap.size w w') := Lib.hid fun w => by rw [← hng]; exact compare_any k' b' k b w hk' hb' hk hb
  have C5 : Hid (∀ w, Calls Tryd.prog 26 #[.agg #[.int .i64 k, .int .u64 b], .agg #[.int .i64 k', .int .u64 b']] w fun e w' => e = .returned (.int .i64 x) ∧ Below w.heap.size w w') := Lib.hid fun w => by rw [← hx]; exact rcompare_any k b k' b' w hk hb hk' hb'
  have HLE := Lib.hid hle
  have HLT := Lib.hid hlt
  have HZE := Lib.hid hze
  clear hx hy hz hle hlt hng hze
  go_enter Tryd.func10, Tryd.ntmps10
  go_wp2_with fail
  clear hW
  have s1 : W.drew.cell? ⟨w.heap.size, 0, none⟩ = some (.int .i64 k) ∧ W.drew.cell? ⟨w.heap.size, 1, none⟩ = some (.int .u64 b) ∧ W.drew.cell? ⟨w.heap.size + 1, 0, none⟩ = some (.int .i64 k') ∧ W.drew.cell? ⟨w.heap.size + 1, 1, none⟩ = some (.int .u64 b') ∧ W.drew.cell? ⟨w.heap.size + 2, 0, none⟩ = some (.int .i64 k2) ∧ W.drew.cell? ⟨w.heap.size + 2, 1, none⟩ = some (.int .u64 b2) := s0
  have T2 : Tab W.drew := T1
  have B1 : Below w.heap.size w W.drew := hB.drew
  clear s0 T1 hB hT
  go_region_held3 (fun w' => w'.cell? ⟨w.heap.size, 0, none⟩ = some (.int .i64 k) ∧ w'.cell? ⟨w.heap.size, 1, none⟩ = some (.int .u64 b) ∧ w'.cell? ⟨w.heap.size + 1, 0, none⟩ = some (.int .i64 k') ∧ w'.cell? ⟨w.heap.size + 1, 1, none⟩ = some (.int .u64 b') ∧ w'.cell? ⟨w.heap.size + 2, 0, none⟩ = some (.int .i64 k2) ∧ w'.cell? ⟨w.heap.size + 2, 1, none⟩ = some (.int .u64 b2)) (first | exact s1 | exact s2 | exact s3 | exact s4) (first
    | (go_at_call 25; have h0 := C1.out; clear C1; refine (h0 _).mono ?_; rintro e v1 ⟨rfl, c1⟩; have s2 := six_below s1 c1; have T3 := T2.below c1; have B2 := thenB B1 c1)
    | (go_at_call 25; have h0 := C2.out; clear C2; refine (h0 _).mono ?_; rintro e v2 ⟨rfl, c2⟩; have s3 := six_below s2 c2; have T4 := T3.below c2; have B3 := thenB B2 c2)
    | (go_at_call 25; have h0 := C3.out; clear C3; refine (h0 _).mono ?_; rintro e v3 ⟨rfl, c3⟩; have s4 := six_below s3 c3; have T5 := T4.below c3; have B4 := thenB B3 c3))
  all_goals
    have hx3 : x = 1 ∨ x = 0 ∨ x = -1 := by omega
    have hy3 : y = 1 ∨ y = 0 ∨ y = -1 := by omega
    have hE : (k = k' ∧ b = b') ∨ ¬ k = k' ∨ (k = k' ∧ ¬ b = b') := by omega
    rcases hE with ⟨e1, e2⟩ | e1 | ⟨e1, e2⟩
    · have hx0 := HZE.out.2 ⟨e1, e2⟩
      subst hx0
      have E1 : (k == k') = true := by simpa using e1
      have E2 : (b == b') = true := by simpa using e2
      clear hx3 e1 e2 HZE HLT
      rcases hy3 with rfl | hy
      · clear HLE
        have D := s4
        obtain ⟨p1, p2, p3, p4, p5, p6⟩ := s4
        go_wp2_with (first
          | (go_at_call 26; refine (C5.out _).mono ?_; rintro e v4 ⟨rfl, c4⟩; have D4 := six_below D c4; have T6 := T5.below c4; have B5 := thenB B4 c4; obtain ⟨q1, q2, q3, q4, q5, q6⟩ := six_below D c4)
          | (go_at_call 25; refine (C4.out _).mono ?_; rintro e v5 ⟨rfl, c5⟩; have T7 := T6.below c5; have B6 := thenB B5 c5; obtain ⟨r1, r2, r3, r4, r5, r6⟩ := six_below D4 c5)
          | (go_at_call 11; refine (lives_any _ T7).mono ?_; rintro e v6 ⟨rfl, c6⟩; have B7 := thenB B6 c6))
        go_ret
        exact ⟨rfl, B7⟩
      · have hz0 : z ≤ 0 := HLE.out (by omega) (by omega)
        have hy0 : y ≤ 0 := by omega
        clear HLE hy
        have D := s4
        obtain ⟨p1, p2, p3, p4, p5, p6⟩ := s4
        go_wp2_with (first
          | (go_at_call 26; refine (C5.out _).mono ?_; rintro e v4 ⟨rfl, c4⟩; have D4 := six_below D c4; have T6 := T5.below c4; have B5 := thenB B4 c4; obtain ⟨q1, q2, q3, q4, q5, q6⟩ := six_below D c4)
          | (go_at_call 25; refine (C4.out _).mono ?_; rintro e v5 ⟨rfl, c5⟩; have T7 := T6.below c5; have B6 := thenB B5 c5; obtain ⟨r1, r2, r3, r4, r5, r6⟩ := six_below D4 c5)
          | (go_at_call 11; refine (lives_any _ T7).mono ?_; rintro e v6 ⟨rfl, c6⟩; have B7 := thenB B6 c6))
        go_ret
        exact ⟨rfl, B7⟩
    · have hx0 : ¬ x = 0 := fun e => by have := HZE.out.1 e; omega
      have E1 : (k == k') = false := by simpa using e1
      clear e1 HZE
      rcases hx3 with rfl | rfl | rfl
      · clear HLE HLT hy3 hx0
        have D := s4
        obtain ⟨p1, p2, p3, p4, p5, p6⟩ := s4
        go_wp2_with (first
          | (go_at_call 26; refine (C5.out _).mono ?_; rintro e v4 ⟨rfl, c4⟩; have D4 := six_below D c4; have T6 := T5.below c4; have B5 := thenB B4 c4; obtain ⟨q1, q2, q3, q4, q5, q6⟩ := six_below D c4)
          | (go_at_call 25; refine (C4.out _).mono ?_; rintro e v5 ⟨rfl, c5⟩; have T7 := T6.below c5; have B6 := thenB B5 c5; obtain ⟨r1, r2, r3, r4, r5, r6⟩ := six_below D4 c5)
          | (go_at_call 11; refine (lives_any _ T7).mono ?_; rintro e v6 ⟨rfl, c6⟩; have B7 := thenB B6 c6))
        go_ret
        exact ⟨rfl, B7⟩
      · exact absurd rfl hx0
      · rcases hy3 with rfl | rfl | rfl
        · clear HLE HLT hx0
          have D := s4
          obtain ⟨p1, p2, p3, p4, p5, p6⟩ := s4
          go_wp2_with (first
            | (go_at_call 26; refine (C5.out _).mono ?_; rintro e v4 ⟨rfl, c4⟩; have D4 := six_below D c4; have T6 := T5.below c4; have B5 := thenB B4 c4; obtain ⟨q1, q2, q3, q4, q5, q6⟩ := six_below D c4)
            | (go_at_call 25; refine (C4.out _).mono ?_; rintro e v5 ⟨rfl, c5⟩; have T7 := T6.below c5; have B6 := thenB B5 c5; obtain ⟨r1, r2, r3, r4, r5, r6⟩ := six_below D4 c5)
            | (go_at_call 11; refine (lives_any _ T7).mono ?_; rintro e v6 ⟨rfl, c6⟩; have B7 := thenB B6 c6))
          go_ret
          exact ⟨rfl, B7⟩
        · have hz0 : z ≤ 0 := HLE.out (by omega) (by omega)
          clear HLE HLT hx0
          have D := s4
          obtain ⟨p1, p2, p3, p4, p5, p6⟩ := s4
          go_wp2_with (first
            | (go_at_call 26; refine (C5.out _).mono ?_; rintro e v4 ⟨rfl, c4⟩; have D4 := six_below D c4; have T6 := T5.below c4; have B5 := thenB B4 c4; obtain ⟨q1, q2, q3, q4, q5, q6⟩ := six_below D c4)
            | (go_at_call 25; refine (C4.out _).mono ?_; rintro e v5 ⟨rfl, c5⟩; have T7 := T6.below c5; have B6 := thenB B5 c5; obtain ⟨r1, r2, r3, r4, r5, r6⟩ := six_below D4 c5)
            | (go_at_call 11; refine (lives_any _ T7).mono ?_; rintro e v6 ⟨rfl, c6⟩; have B7 := thenB B6 c6))
          go_ret
          exact ⟨rfl, B7⟩
        · have hz0 : z < 0 := HLT.out (by omega) (by omega)
          clear HLE HLT hx0
          have D := s4
          obtain ⟨p1, p2, p3, p4, p5, p6⟩ := s4
          go_wp2_with (first
            | (go_at_call 26; refine (C5.out _).mono ?_; rintro e v4 ⟨rfl, c4⟩; have D4 := six_below D c4; have T6 := T5.below c4; have B5 := thenB B4 c4; obtain ⟨q1, q2, q3, q4, q5, q6⟩ := six_below D c4)
            | (go_at_call 25; refine (C4.out _).mono ?_; rintro e v5 ⟨rfl, c5⟩; have T7 := T6.below c5; have B6 := thenB B5 c5; obtain ⟨r1, r2, r3, r4, r5, r6⟩ := six_below D4 c5)
            | (go_at_call 11; refine (lives_any _ T7).mono ?_; rintro e v6 ⟨rfl, c6⟩; have B7 := thenB B6 c6))
          go_ret
          exact ⟨rfl, B7⟩
    · have hx0 : ¬ x = 0 := fun e => by have := HZE.out.1 e; omega
      have E1 : (k == k') = true := by simpa using e1
      have E2 : (b == b') = false := by simpa using e2
      clear e1 e2 HZE
      rcases hx3 with rfl | rfl | rfl
      · clear HLE HLT hy3 hx0
        have D := s4
        obtain ⟨p1, p2, p3, p4, p5, p6⟩ := s4
        go_wp2_with (first
          | (go_at_call 26; refine (C5.out _).mono ?_; rintro e v4 ⟨rfl, c4⟩; have D4 := six_below D c4; have T6 := T5.below c4; have B5 := thenB B4 c4; obtain ⟨q1, q2, q3, q4, q5, q6⟩ := six_below D c4)
          | (go_at_call 25; refine (C4.out _).mono ?_; rintro e v5 ⟨rfl, c5⟩; have T7 := T6.below c5; have B6 := thenB B5 c5; obtain ⟨r1, r2, r3, r4, r5, r6⟩ := six_below D4 c5)
          | (go_at_call 11; refine (lives_any _ T7).mono ?_; rintro e v6 ⟨rfl, c6⟩; have B7 := thenB B6 c6))
        go_ret
        exact ⟨rfl, B7⟩
      · exact absurd rfl hx0
      · rcases hy3 with rfl | rfl | rfl
        · clear HLE HLT hx0
          have D := s4
          obtain ⟨p1, p2, p3, p4, p5, p6⟩ := s4
          go_wp2_with (first
            | (go_at_call 26; refine (C5.out _).mono ?_; rintro e v4 ⟨rfl, c4⟩; have D4 := six_below D c4; have T6 := T5.below c4; have B5 := thenB B4 c4; obtain ⟨q1, q2, q3, q4, q5, q6⟩ := six_below D c4)
            | (go_at_call 25; refine (C4.out _).mono ?_; rintro e v5 ⟨rfl, c5⟩; have T7 := T6.below c5; have B6 := thenB B5 c5; obtain ⟨r1, r2, r3, r4, r5, r6⟩ := six_below D4 c5)
            | (go_at_call 11; refine (lives_any _ T7).mono ?_; rintro e v6 ⟨rfl, c6⟩; have B7 := thenB B6 c6))
          go_ret
          exact ⟨rfl, B7⟩
        · have hz0 : z ≤ 0 := HLE.out (by omega) (by omega)
          clear HLE HLT hx0
          have D := s4
          obtain ⟨p1, p2, p3, p4, p5, p6⟩ := s4
          go_wp2_with (first
            | (go_at_call 26; refine (C5.out _).mono ?_; rintro e v4 ⟨rfl, c4⟩; have D4 := six_below D c4; have T6 := T5.below c4; have B5 := thenB B4 c4; obtain ⟨q1, q2, q3, q4, q5, q6⟩ := six_below D c4)
            | (go_at_call 25; refine (C4.out _).mono ?_; rintro e v5 ⟨rfl, c5⟩; have T7 := T6.below c5; have B6 := thenB B5 c5; obtain ⟨r1, r2, r3, r4, r5, r6⟩ := six_below D4 c5)
            | (go_at_call 11; refine (lives_any _ T7).mono ?_; rintro e v6 ⟨rfl, c6⟩; have B7 := thenB B6 c6))
          go_ret
          exact ⟨rfl, B7⟩
        · have hz0 : z < 0 := HLT.out (by omega) (by omega)
          clear HLE HLT hx0
          have D := s4
          obtain ⟨p1, p2, p3, p4, p5, p6⟩ := s4
          go_wp2_with (first
            | (go_at_call 26; refine (C5.out _).mono ?_; rintro e v4 ⟨rfl, c4⟩; have D4 := six_below D c4; have T6 := T5.below c4; have B5 := thenB B4 c4; obtain ⟨q1, q2, q3, q4, q5, q6⟩ := six_below D c4)
            | (go_at_call 25; refine (C4.out _).mono ?_; rintro e v5 ⟨rfl, c5⟩; have T7 := T6.below c5; have B6 := thenB B5 c5; obtain ⟨r1, r2, r3, r4, r5, r6⟩ := six_below D4 c5)
            | (go_at_call 11; refine (lives_any _ T7).mono ?_; rintro e v6 ⟨rfl, c6⟩; have B7 := thenB B6 c6))
          go_ret
          exact ⟨rfl, B7⟩
end Go.Proofs.YtchjopgcbpopcaaDoor.Adr
