/- The statements on making, resolving and searching private addresses, walked: each returns true. -/
import Derived.Test.YtkbjfmfkpdlogaaDoorPrvLaws
set_option linter.unusedVariables false
set_option linter.unusedSimpArgs false
namespace Go.Proofs.YtkbjfmfkpdlogaaDoor.Prv
open Go.RowKit Mem Oct Blk Base Mac Arg

set_option maxHeartbeats 1000000 in
theorem law_makes (irk p : Int) (w : World) (hi : 0 ≤ irk ∧ irk ≤ 18446744073709551615) (hp : 0 ≤ p ∧ p ≤ 4294967295) (hT : Adr.Tab w) :
    Calls Tryd.prog 5 #[.int .u64 irk, .int .u32 p] w fun e w' => e = .returned (.bool true) ∧ Below w.heap.size w w' := by
  have H1 : Hid (∀ w, Adr.Tab w → Calls Tryd.prog 21 #[.int .u64 irk, .int .u32 p] w fun e w' => e = .returned (.tuple #[.agg #[.int .i64 (mkK irk p), .int .u64 (mkV irk p)], .int .i64 (mkE irk p)]) ∧ Below w.heap.size w w') := Lib.hid fun w hT => make_any irk p w hi hp hT
  have H2 : Hid (∀ w, Calls Tryd.prog 22 #[.int .u64 irk, .int .u32 p] w fun e w' => e = .returned (.tuple #[.agg #[.int .i64 (mkK irk p), .int .u64 (mkV irk p)], .int .i64 (mkE irk p)]) ∧ Below w.heap.size w w') := Lib.hid fun w => rmake_any irk p w hi hp
  generalize mkK irk p = K at *
  generalize mkV irk p = V at *
  generalize mkE irk p = C at *
  have q1 := adr_eq K V
  have q2 := adr_guard K V K V
  go_enter Tryd.func5, Tryd.ntmps5
  go_wp2_with fail
  refine (H1.out _ hT).mono ?_
  rintro e w1 ⟨rfl, b1⟩
  have F1 := Adr.box_new w1 K V
  have B1 := b1.alloc b1.size (.cells #[.int .i64 K, .int .u64 V] 26)
  have T1 := (hT.below b1).alloc (.cells #[.int .i64 K, .int .u64 V] 26)
  clear b1
  go_wp2_with fail
  generalize w1.alloc (.cells #[.int .i64 K, .int .u64 V] 26) = W1 at *
  generalize w1.heap.size = g1 at *
  refine (H2.out _).mono ?_
  rintro e w2 ⟨rfl, b2⟩
  have F2 := (F1.below b2).below ((Below.refl w2.heap.size w2).alloc (Nat.le_refl _) (.cells #[.int .i64 K, .int .u64 V] 26))
  have G2 := Adr.box_new w2 K V
  have B2 := (thenB B1 b2).alloc (thenB B1 b2).size (.cells #[.int .i64 K, .int .u64 V] 26)
  have T2 := (T1.below b2).alloc (.cells #[.int .i64 K, .int .u64 V] 26)
  clear F1 B1 T1 b2
  go_wp2_with fail
  generalize w2.alloc (.cells #[.int .i64 K, .int .u64 V] 26) = W2 at *
  generalize w2.heap.size = g2 at *
  refine (lives_any _ T2).mono ?_
  rintro e w3 ⟨rfl, b3⟩
  have F3 := F2.below b3
  have G3 := G2.below b3
  have c0 := F3.c0
  have c1 := F3.c1
  have d0 := G3.c0
  have d1 := G3.c1
  have B3 := thenB B2 b3
  clear F2 G2 b3 T2
  go_wp2_with fail
  go_ret
  exact ⟨rfl, B3⟩
set_option maxHeartbeats 1000000 in
theorem law_resolves (irk k b : Int) (w : World) (hi : 0 ≤ irk ∧ irk ≤ 18446744073709551615) (hk : -9223372036854775808 ≤ k ∧ k ≤ 9223372036854775807) (hb : 0 ≤ b ∧ b ≤ 18446744073709551615) (hT : Adr.Tab w) :
    Calls Tryd.prog 6 #[.int .u64 irk, .agg #[.int .i64 k, .int .u64 b]] w fun e w' => e = .returned (.bool true) ∧ Below w.heap.size w w' := by
  have H1 : Hid (∀ w, Adr.Tab w → Calls Tryd.prog 24 #[.int .u64 irk, .agg #[.int .i64 k, .int .u64 b]] w fun e w' => e = .returned (.bool (rsvZ irk k b)) ∧ Below w.heap.size w w') := Lib.hid fun w hT => resolves_any irk k b w hi hk hb hT
  have H2 : Hid (∀ w, Calls Tryd.prog 25 #[.int .u64 irk, .agg #[.int .i64 k, .int .u64 b]] w fun e w' => e = .returned (.bool (rsvZ irk k b)) ∧ Below w.heap.size w w') := Lib.hid fun w => rresolves_any irk k b w hi hk hb
  generalize rsvZ irk k b = Q at *
  have hq : (Q == Q) = true := by simp
  have F := Adr.box_new w k b
  have A0 : Below w.heap.size w (w.alloc (.cells #[.int .i64 k, .int .u64 b] 26)) := (Below.refl _ _).alloc (Nat.le_refl _) _
  have T0 := hT.below A0
  go_enter Tryd.func6, Tryd.ntmps6
  go_wp2_with fail
  generalize w.alloc (.cells #[.int .i64 k, .int .u64 b] 26) = W at *
  have s0 : W.drew.cell? ⟨w.heap.size, 0, none⟩ = some (.int .i64 k) ∧ W.drew.cell? ⟨w.heap.size, 1, none⟩ = some (.int .u64 b) := ⟨F.c0, F.c1⟩
  have T1 : Adr.Tab W.drew := T0
  have B0 : Below w.heap.size w W.drew := A0.drew
  go_region_held3 (fun w' => w'.cell? ⟨w.heap.size, 0, none⟩ = some (.int .i64 k) ∧ w'.cell? ⟨w.heap.size, 1, none⟩ = some (.int .u64 b)) (first | exact s0 | exact s1 | exact s2 | exact s3) (first
    | (go_at_call 23; refine (lives_any _ T1).mono ?_; rintro e v1 ⟨rfl, c1⟩; have s1 := pair_below s0 c1; have T2 := T1.below c1; have B1 := thenB B0 c1)
    | (go_at_call 24; refine (H1.out _ T2).mono ?_; rintro e v2 ⟨rfl, c2⟩; have s2 := pair_below s1 c2; have B2 := thenB B1 c2)
    | (go_at_call 25; refine (H2.out _).mono ?_; rintro e v3 ⟨rfl, c3⟩; have s3 := pair_below s2 c3; have B3 := thenB B2 c3))
  all_goals go_wp2_with fail
  all_goals go_ret
  all_goals exact ⟨by simp, B3⟩
set_option maxHeartbeats 1000000 in
theorem law_searches (A : Option Addr) (n c : Nat) (fs : List (Int × Int × Int)) (k b : Int) (w : World) (hf : fs.length = n) (hnc : n ≤ c) (hA : TriplesAt w A fs) (hI : Idents fs) (hs : c * 24 ≤ 140737488351232)
    (hk : -9223372036854775808 ≤ k ∧ k ≤ 9223372036854775807) (hb : 0 ≤ b ∧ b ≤ 18446744073709551615) (hT : Adr.Tab w) :
    Calls Tryd.prog 8 #[.slice A n c, .agg #[.int .i64 k, .int .u64 b]] w fun e w' => e = .returned (.bool true) ∧ Below w.heap.size w w' := by
  have F := Adr.box_new w k b
  have A0 : Below w.heap.size w (w.alloc (.cells #[.int .i64 k, .int .u64 b] 26)) := (Below.refl _ _).alloc (Nat.le_refl _) _
  have T0 := hT.below A0
  by_cases hbig : 60 < n
  · have hbig' : (60 : Int) < (n : Int) := by omega
    go_enter Tryd.func8, Tryd.ntmps8
    go_wp2_with (go_at_call 23; refine (lives_any _ T0).mono ?_; rintro e w1 ⟨rfl, b1⟩)
    go_ret
    exact ⟨rfl, thenB A0 b1⟩
  · have hbig' : ¬ (60 : Int) < (n : Int) := by omega
    have hA0 := triples_below hA A0
    have H1 : Hid (∀ w, TriplesAt w A fs → Adr.Tab w → Calls Tryd.prog 26 #[.slice A n c, .agg #[.int .i64 k, .int .u64 b]] w fun e w' => e = .returned (.int .i64 (findZ k b fs)) ∧ Below w.heap.size w w') := Lib.hid fun w hA hT => find_any k b A n c fs w hf hnc (by omega) hA hI hk hb hT
    have H2 : Hid (∀ w, TriplesAt w A fs → Calls Tryd.prog 27 #[.slice A n c, .agg #[.int .i64 k, .int .u64 b]] w fun e w' => e = .returned (.int .i64 (findZ k b fs)) ∧ Below w.heap.size w w') := Lib.hid fun w hA => rfind_any k b A n c fs w hf hnc (by omega) hA hI hk hb
    generalize findZ k b fs = R at *
    clear hI hf
    go_enter Tryd.func8, Tryd.ntmps8
    go_wp2_with fail
    generalize w.alloc (.cells #[.int .i64 k, .int .u64 b] 26) = W at *
    have s0 : W.drew.cell? ⟨w.heap.size, 0, none⟩ = some (.int .i64 k) ∧ W.drew.cell? ⟨w.heap.size, 1, none⟩ = some (.int .u64 b) := ⟨F.c0, F.c1⟩
    have T1 : Adr.Tab W.drew := T0
    have B0 : Below w.heap.size w W.drew := A0.drew
    have hA1 : TriplesAt W.drew A fs := hA0
    go_region_held3 (fun w' => w'.cell? ⟨w.heap.size, 0, none⟩ = some (.int .i64 k) ∧ w'.cell? ⟨w.heap.size, 1, none⟩ = some (.int .u64 b)) (first | exact s0 | exact s1 | exact s2 | exact s3) (first
      | (go_at_call 23; refine (lives_any _ T1).mono ?_; rintro e v1 ⟨rfl, c1⟩; have s1 := pair_below s0 c1; have T2 := T1.below c1; have B1 := thenB B0 c1; have hA2 := triples_below hA1 c1)
      | (go_at_call 26; refine (H1.out _ hA2 T2).mono ?_; rintro e v2 ⟨rfl, c2⟩; have s2 := pair_below s1 c2; have B2 := thenB B1 c2; have hA3 := triples_below hA2 c2)
      | (go_at_call 27; refine (H2.out _ hA3).mono ?_; rintro e v3 ⟨rfl, c3⟩; have s3 := pair_below s2 c3; have B3 := thenB B2 c3))
    all_goals go_wp2_with fail
    all_goals go_ret
    all_goals exact ⟨by simp, B3⟩
set_option maxHeartbeats 1000000 in
theorem law_own (irk p : Int) (w : World) (hi : 0 ≤ irk ∧ irk ≤ 18446744073709551615) (hp : 0 ≤ p ∧ p ≤ 4294967295) (hT : Adr.Tab w) :
    Calls Tryd.prog 7 #[.int .u64 irk, .int .u32 p] w fun e w' => e = .returned (.bool true) ∧ Below w.heap.size w w' := by
  by_cases h : irk ≠ 0 ∧ 1 ≤ p ∧ p ≤ 4194302
  · obtain ⟨h0, hp'⟩ := h
    have bV := rpa_bd irk p hp'
    have H1 : Hid (∀ w, Adr.Tab w → Calls Tryd.prog 21 #[.int .u64 irk, .int .u32 p] w fun e w' => e = .returned (.tuple #[.agg #[.int .i64 3, .int .u64 (rpaZ irk p)], .int .i64 0]) ∧ Below w.heap.size w w') := Lib.hid fun w hT => make_good irk p w hi h0 hp' hT
    have H2 : Hid (∀ w, Adr.Tab w → Calls Tryd.prog 18 #[.agg #[.int .i64 3, .int .u64 (rpaZ irk p)]] w fun e w' => e = .returned (.int .i64 0) ∧ Below w.heap.size w w') := Lib.hid fun w hT => by
      have := Adr.check_any 3 (rpaZ irk p) w (by decide) bV hT
      rwa [rpa_chk irk p hp'] at this
    have H3 : Hid (∀ w, Adr.Tab w → Calls Tryd.prog 24 #[.int .u64 irk, .agg #[.int .i64 3, .int .u64 (rpaZ irk p)]] w fun e w' => e = .returned (.bool true) ∧ Below w.heap.size w w') := Lib.hid fun w hT => by
      have := resolves_any irk 3 (rpaZ irk p) w hi (by decide) bV hT
      rwa [rpa_rsv irk p h0 hp'] at this
    generalize rpaZ irk p = V at *
    go_enter Tryd.func7, Tryd.ntmps7
    go_wp2_with fail
    refine (H1.out _ hT).mono ?_
    rintro e w1 ⟨rfl, b1⟩
    have F1 := Adr.box_new w1 3 V
    have B1 := b1.alloc b1.size (.cells #[.int .i64 3, .int .u64 V] 26)
    have T1 := (hT.below b1).alloc (.cells #[.int .i64 3, .int .u64 V] 26)
    clear b1
    go_wp2_with fail
    generalize w1.alloc (.cells #[.int .i64 3, .int .u64 V] 26) = W1 at *
    generalize w1.heap.size = g1 at *
    refine (lives_any _ T1).mono ?_
    rintro e w2 ⟨rfl, b2⟩
    have F2 := F1.below b2
    have c0 := F2.c0
    have c1 := F2.c1
    have B2 := thenB B1 b2
    have T2 := T1.below b2
    clear F1 B1 T1 b2
    go_wp2_with fail
    refine (H2.out _ T2).mono ?_
    rintro e w3 ⟨rfl, b3⟩
    have F3 := F2.below b3
    have d0 := F3.c0
    have d1 := F3.c1
    have B3 := thenB B2 b3
    have T3 := T2.below b3
    clear c0 c1
    go_wp2_with (go_at_call 24; refine (H3.out _ T3).mono ?_; rintro e w4 ⟨rfl, b4⟩)
    go_ret
    exact ⟨rfl, thenB B3 b4⟩
  · have hk0 : mkK irk p = 0 := by unfold mkK; split; rfl; rw [if_pos (by omega)]
    have hv0 : mkV irk p = 0 := by unfold mkV; split; rfl; rw [if_pos (by omega)]
    have hE : (mkE irk p != 0) = true := by
      have : ¬ mkE irk p = 0 := by
        unfold mkE; split
        · decide
        · rw [if_pos (by omega)]; decide
      simpa using this
    have H1 : Hid (∀ w, Adr.Tab w → Calls Tryd.prog 21 #[.int .u64 irk, .int .u32 p] w fun e w' => e = .returned (.tuple #[.agg #[.int .i64 0, .int .u64 0], .int .i64 (mkE irk p)]) ∧ Below w.heap.size w w') := Lib.hid fun w hT => by
      have := make_any irk p w hi hp hT
      rwa [hk0, hv0] at this
    have H3 : Hid (∀ w, Adr.Tab w → Calls Tryd.prog 24 #[.int .u64 irk, .agg #[.int .i64 0, .int .u64 0]] w fun e w' => e = .returned (.bool false) ∧ Below w.heap.size w w') := Lib.hid fun w hT => by
      have := resolves_any irk 0 0 w hi (by decide) (by decide) hT
      rwa [show rsvZ irk 0 0 = false by unfold rsvZ; rw [if_pos (.inr (.inl (by decide)))]] at this
    generalize mkE irk p = C at *
    have go_ : ∀ (h : irk = 0 ∨ (¬ irk = 0 ∧ p < 1) ∨ (¬ irk = 0 ∧ ¬ p < 1 ∧ 4194302 < p)), Calls Tryd.prog 7 #[.int .u64 irk, .int .u32 p] w fun e w' => e = .returned (.bool true) ∧ Below w.heap.size w w' := by
      intro h
      go_enter Tryd.func7, Tryd.ntmps7
      go_wp2_with fail
      refine (H1.out _ hT).mono ?_
      rintro e w1 ⟨rfl, b1⟩
      have F1 := Adr.box_new w1 0 0
      have B1 := b1.alloc b1.size (.cells #[.int .i64 0, .int .u64 0] 26)
      have T1 := (hT.below b1).alloc (.cells #[.int .i64 0, .int .u64 0] 26)
      clear b1
      go_wp2_with fail
      generalize w1.alloc (.cells #[.int .i64 0, .int .u64 0] 26) = W1 at *
      generalize w1.heap.size = g1 at *
      refine (lives_any _ T1).mono ?_
      rintro e w2 ⟨rfl, b2⟩
      have F2 := F1.below b2
      have c0 := F2.c0
      have c1 := F2.c1
      have B2 := thenB B1 b2
      have T2 := T1.below b2
      clear F1 B1 T1 b2
      rcases h with h | ⟨h, h'⟩ | ⟨h, h', h''⟩
      · have g0 : (irk == 0) = true := by simpa using h
        clear h
        go_wp2_with (go_at_call 24; refine (H3.out _ T2).mono ?_; rintro e w4 ⟨rfl, b4⟩)
        go_ret
        exact ⟨rfl, thenB B2 b4⟩
      · have g0 : (irk == 0) = false := by simpa using h
        go_wp2_with (go_at_call 24; refine (H3.out _ T2).mono ?_; rintro e w4 ⟨rfl, b4⟩)
        go_ret
        exact ⟨rfl, thenB B2 b4⟩
      · have g0 : (irk == 0) = false := by simpa using h
        go_wp2_with (go_at_call 24; refine (H3.out _ T2).mono ?_; rintro e w4 ⟨rfl, b4⟩)
        go_ret
        exact ⟨rfl, thenB B2 b4⟩
    exact go_ (by omega)
end Go.Proofs.YtkbjfmfkpdlogaaDoor.Prv
