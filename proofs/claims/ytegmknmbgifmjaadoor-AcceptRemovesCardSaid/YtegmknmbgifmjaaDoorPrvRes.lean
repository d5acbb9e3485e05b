/- Whether a key resolves an address: what the function and its specification return: contracts over the program. -/
import Derived.Test.YtegmknmbgifmjaaDoorPrvWalks2
set_option linter.unusedVariables false
set_option linter.unusedSimpArgs false
namespace Go.Proofs.YtegmknmbgifmjaaDoor.Prv
open Go.RowKit Mem Oct Blk Base Mac

def chk3 (b : Int) : Int := Adr.chk 3 b
/-- Whether a key resolves an address. -/
def rsvZ (irk k b : Int) : Bool := if irk = 0 ∨ k ≠ 3 ∨ Adr.chk 3 b ≠ 0 then false else (b % 16777216 == hshZ irk (b / 16777216 % 4194304))
theorem resolves_zero (k b : Int) (w : World) (hk : -9223372036854775808 ≤ k ∧ k ≤ 9223372036854775807) (hb : 0 ≤ b ∧ b ≤ 18446744073709551615) :
    Calls Tryd.prog 35 #[.int .u64 0, .agg #[.int .i64 k, .int .u64 b]] w fun e w' => e = .returned (.bool false) ∧ Below w.heap.size w w' := by
  have F := Adr.box_new w k b
  have A0 : Below w.heap.size w (w.alloc (.cells #[.int .i64 k, .int .u64 b] 25)) := (Below.refl _ _).alloc (Nat.le_refl _) _
  have c0 := F.c0
  have c1 := F.c1
  go_enter Tryd.func35, Tryd.ntmps35
  go_wp2_with fail
  go_ret
  exact ⟨rfl, A0⟩
theorem resolves_kind (irk k b : Int) (w : World) (h0 : ¬ irk = 0) (h3 : ¬ k = 3) (hi : 0 ≤ irk ∧ irk ≤ 18446744073709551615) (hk : -9223372036854775808 ≤ k ∧ k ≤ 9223372036854775807) (hb : 0 ≤ b ∧ b ≤ 18446744073709551615) :
    Calls Tryd.prog 35 #[.int .u64 irk, .agg #[.int .i64 k, .int .u64 b]] w fun e w' => e = .returned (.bool false) ∧ Below w.heap.size w w' := by
  have g0 : (irk == 0) = false := by simpa using h0
  have g3 : (k != 3) = true := by simpa using h3
  have F := Adr.box_new w k b
  have A0 : Below w.heap.size w (w.alloc (.cells #[.int .i64 k, .int .u64 b] 25)) := (Below.refl _ _).alloc (Nat.le_refl _) _
  have c0 := F.c0
  have c1 := F.c1
  go_enter Tryd.func35, Tryd.ntmps35
  go_wp2_with fail
  go_ret
  exact ⟨rfl, A0⟩
theorem resolves_bad (irk b : Int) (w : World) (h0 : ¬ irk = 0) (hc : ¬ chk3 b = 0) (hi : 0 ≤ irk ∧ irk ≤ 18446744073709551615) (hb : 0 ≤ b ∧ b ≤ 18446744073709551615) (hT : Adr.Tab w) :
    Calls Tryd.prog 35 #[.int .u64 irk, .agg #[.int .i64 3, .int .u64 b]] w fun e w' => e = .returned (.bool false) ∧ Below w.heap.size w w' := by
  have g0 : (irk == 0) = false := by simpa using h0
  have HC : Hid (∀ w, Adr.Tab w → Calls Tryd.prog 24 #[.agg #[.int .i64 3, .int .u64 b]] w fun e w' => e = .returned (.int .i64 (chk3 b)) ∧ Below w.heap.size w w') := Lib.hid fun w hT => Adr.check_any 3 b w (by decide) hb hT
  generalize chk3 b = C at *
  have gc : (C != 0) = true := by simpa using hc
  have F := Adr.box_new w 3 b
  have A0 : Below w.heap.size w (w.alloc (.cells #[.int .i64 3, .int .u64 b] 25)) := (Below.refl _ _).alloc (Nat.le_refl _) _
  have c0 := F.c0
  have c1 := F.c1
  have T0 := hT.below A0
  go_enter Tryd.func35, Tryd.ntmps35
  go_wp2_with fail
  refine (HC.out _ T0).mono ?_
  rintro e w1 ⟨rfl, b1⟩
  have B1 := thenB A0 b1
  go_wp2_with fail
  go_ret
  exact ⟨rfl, B1⟩
set_option maxHeartbeats 1000000 in
theorem resolves_good (irk b : Int) (w : World) (h0 : ¬ irk = 0) (hc : chk3 b = 0) (hi : 0 ≤ irk ∧ irk ≤ 18446744073709551615) (hb : 0 ≤ b ∧ b ≤ 18446744073709551615) (hT : Adr.Tab w) :
    Calls Tryd.prog 35 #[.int .u64 irk, .agg #[.int .i64 3, .int .u64 b]] w fun e w' => e = .returned (.bool (b % 16777216 == hshZ irk (b / 16777216 % 4194304))) ∧ Below w.heap.size w w' := by
  have g0 : (irk == 0) = false := by simpa using h0
  have HC : Hid (∀ w, Adr.Tab w → Calls Tryd.prog 24 #[.agg #[.int .i64 3, .int .u64 b]] w fun e w' => e = .returned (.int .i64 0) ∧ Below w.heap.size w w') := Lib.hid fun w hT => by
    have := Adr.check_any 3 b w (by decide) hb hT
    rwa [show Adr.chk 3 b = 0 from hc] at this
  have HH : Hid (∀ w, Calls Tryd.prog 40 #[.int .u64 irk, .int .u64 (b / 16777216 % 4194304)] w fun e w' => e = .returned (.int .u64 (hshZ irk (b / 16777216 % 4194304))) ∧ Below w.heap.size w w') := Lib.hid fun w => hash_any irk _ w hi (by omega)
  have e1 : b.tmod 16777216 = b % 16777216 := Int.tmod_eq_emod_of_nonneg hb.1
  have e2 : IntKind.u64.wrap (b.tdiv 16777216) = b / 16777216 := by rw [Int.tdiv_eq_ediv_of_nonneg hb.1, IntKind.wrap_u64]; omega
  have bq : 0 ≤ b / 16777216 := by omega
  generalize hshZ irk (b / 16777216 % 4194304) = X at *
  have e3 : (b / 16777216).tmod 4194304 = b / 16777216 % 4194304 := Int.tmod_eq_emod_of_nonneg bq
  generalize b % 16777216 = L at *
  generalize b / 16777216 % 4194304 = N at *
  generalize b / 16777216 = Q at *
  clear hc
  have F := Adr.box_new w 3 b
  have A0 : Below w.heap.size w (w.alloc (.cells #[.int .i64 3, .int .u64 b] 25)) := (Below.refl _ _).alloc (Nat.le_refl _) _
  have c0 := F.c0
  have c1 := F.c1
  have T0 := hT.below A0
  go_enter Tryd.func35, Tryd.ntmps35
  go_wp2_with fail
  refine (HC.out _ T0).mono ?_
  rintro e w1 ⟨rfl, b1⟩
  have B1 := thenB A0 b1
  have F1 := F.below b1
  go_wp2_with fail
  have s0 : w1.drew.cell? ⟨w.heap.size, 1, none⟩ = some (.int .u64 b) := F1.c1
  have B2 : Below w.heap.size w w1.drew := B1.drew
  go_region_held3 (fun w' => w'.cell? ⟨w.heap.size, 1, none⟩ = some (.int .u64 b)) (first | exact s0 | exact s1) (first
    | (go_at_call 40; refine (HH.out _).mono ?_; rintro e w2 ⟨rfl, b2⟩; have s1 := (b2.cell (p := ⟨w.heap.size, 1, none⟩) F1.lt).trans s0; have B3 := thenB B2 b2))
  all_goals go_wp2_with fail
  all_goals go_ret
  all_goals exact ⟨rfl, B3⟩
theorem resolves_any (irk k b : Int) (w : World) (hi : 0 ≤ irk ∧ irk ≤ 18446744073709551615) (hk : -9223372036854775808 ≤ k ∧ k ≤ 9223372036854775807) (hb : 0 ≤ b ∧ b ≤ 18446744073709551615) (hT : Adr.Tab w) :
    Calls Tryd.prog 35 #[.int .u64 irk, .agg #[.int .i64 k, .int .u64 b]] w fun e w' => e = .returned (.bool (rsvZ irk k b)) ∧ Below w.heap.size w w' := by
  by_cases h0 : irk = 0
  · subst h0
    rw [show rsvZ 0 k b = false by unfold rsvZ; rw [if_pos (.inl rfl)]]
    exact resolves_zero k b w hk hb
  · by_cases h3 : k = 3
    · subst h3
      by_cases hc : chk3 b = 0
      · rw [show rsvZ irk 3 b = (b % 16777216 == hshZ irk (b / 16777216 % 4194304)) by unfold rsvZ; rw [if_neg (by simp only [ne_eq, not_true_eq_false, false_or]; intro h; rcases h with h | h; exact h0 h; exact h hc)]]
        exact resolves_good irk b w h0 hc hi hb hT
      · rw [show rsvZ irk 3 b = false by unfold rsvZ; rw [if_pos (.inr (.inr hc))]]
        exact resolves_bad irk b w h0 hc hi hb hT
    · rw [show rsvZ irk k b = false by unfold rsvZ; rw [if_pos (.inr (.inl h3))]]
      exact resolves_kind irk k b w h0 h3 hi hk hb
theorem rresolves_zero (k b : Int) (w : World) (hk : -9223372036854775808 ≤ k ∧ k ≤ 9223372036854775807) (hb : 0 ≤ b ∧ b ≤ 18446744073709551615) :
    Calls Tryd.prog 37 #[.int .u64 0, .agg #[.int .i64 k, .int .u64 b]] w fun e w' => e = .returned (.bool false) ∧ Below w.heap.size w w' := by
  have F := Adr.box_new w k b
  have A0 : Below w.heap.size w (w.alloc (.cells #[.int .i64 k, .int .u64 b] 25)) := (Below.refl _ _).alloc (Nat.le_refl _) _
  have c0 := F.c0
  have c1 := F.c1
  go_enter Tryd.func37, Tryd.ntmps37
  go_wp2_with fail
  go_ret
  exact ⟨rfl, A0⟩
theorem rresolves_kind (irk k b : Int) (w : World) (h0 : ¬ irk = 0) (h3 : ¬ k = 3) (hi : 0 ≤ irk ∧ irk ≤ 18446744073709551615) (hk : -9223372036854775808 ≤ k ∧ k ≤ 9223372036854775807) (hb : 0 ≤ b ∧ b ≤ 18446744073709551615) :
    Calls Tryd.prog 37 #[.int .u64 irk, .agg #[.int .i64 k, .int .u64 b]] w fun e w' => e = .returned (.bool false) ∧ Below w.heap.size w w' := by
  have g0 : (irk == 0) = false := by simpa using h0
  have g3 : (k != 3) = true := by simpa using h3
  have F := Adr.box_new w k b
  have A0 : Below w.heap.size w (w.alloc (.cells #[.int .i64 k, .int .u64 b] 25)) := (Below.refl _ _).alloc (Nat.le_refl _) _
  have c0 := F.c0
  have c1 := F.c1
  go_enter Tryd.func37, Tryd.ntmps37
  go_wp2_with fail
  go_ret
  exact ⟨rfl, A0⟩
theorem rresolves_bad (irk b : Int) (w : World) (h0 : ¬ irk = 0) (hc : ¬ chk3 b = 0) (hi : 0 ≤ irk ∧ irk ≤ 18446744073709551615) (hb : 0 ≤ b ∧ b ≤ 18446744073709551615) :
    Calls Tryd.prog 37 #[.int .u64 irk, .agg #[.int .i64 3, .int .u64 b]] w fun e w' => e = .returned (.bool false) ∧ Below w.heap.size w w' := by
  have g0 : (irk == 0) = false := by simpa using h0
  have HC : Hid (∀ w, Calls Tryd.prog 26 #[.agg #[.int .i64 3, .int .u64 b]] w fun e w' => e = .returned (.int .i64 (chk3 b)) ∧ Below w.heap.size w w') := Lib.hid fun w => Adr.rcheck_any 3 b w (by decide) hb
  generalize chk3 b = C at *
  have gc : (C != 0) = true := by simpa using hc
  have F := Adr.box_new w 3 b
  have A0 : Below w.heap.size w (w.alloc (.cells #[.int .i64 3, .int .u64 b] 25)) := (Below.refl _ _).alloc (Nat.le_refl _) _
  have c0 := F.c0
  have c1 := F.c1
  go_enter Tryd.func37, Tryd.ntmps37
  go_wp2_with fail
  refine (HC.out _).mono ?_
  rintro e w1 ⟨rfl, b1⟩
  have B1 := thenB A0 b1
  go_wp2_with fail
  go_ret
  exact ⟨rfl, B1⟩
set_option maxHeartbeats 1000000 in
theorem rresolves_good (irk b : Int) (w : World) (h0 : ¬ irk = 0) (hc : chk3 b = 0) (hi : 0 ≤ irk ∧ irk ≤ 18446744073709551615) (hb : 0 ≤ b ∧ b ≤ 18446744073709551615) :
    Calls Tryd.prog 37 #[.int .u64 irk, .agg #[.int .i64 3, .int .u64 b]] w fun e w' => e = .returned (.bool (b % 16777216 == hshZ irk (b / 16777216 % 4194304))) ∧ Below w.heap.size w w' := by
  have g0 : (irk == 0) = false := by simpa using h0
  have HC : Hid (∀ w, Calls Tryd.prog 26 #[.agg #[.int .i64 3, .int .u64 b]] w fun e w' => e = .returned (.int .i64 0) ∧ Below w.heap.size w w') := Lib.hid fun w => by
    have := Adr.rcheck_any 3 b w (by decide) hb
    rwa [show Adr.chk 3 b = 0 from hc] at this
  have HH : Hid (∀ w, Calls Tryd.prog 41 #[.int .u64 irk, .int .u64 (b / 16777216 % 4194304)] w fun e w' => e = .returned (.int .u64 (hshZ irk (b / 16777216 % 4194304))) ∧ Below w.heap.size w w') := Lib.hid fun w => rhash_any irk _ w hi (by omega)
  have e1 : b.tmod 16777216 = b % 16777216 := Int.tmod_eq_emod_of_nonneg hb.1
  have e2 : IntKind.u64.wrap (b.tdiv 16777216) = b / 16777216 := by rw [Int.tdiv_eq_ediv_of_nonneg hb.1, IntKind.wrap_u64]; omega
  have bq : 0 ≤ b / 16777216 := by omega
  generalize hshZ irk (b / 16777216 % 4194304) = X at *
  have e3 : (b / 16777216).tmod 4194304 = b / 16777216 % 4194304 := Int.tmod_eq_emod_of_nonneg bq
  generalize b % 16777216 = L at *
  generalize b / 16777216 % 4194304 = N at *
  generalize b / 16777216 = Q at *
  clear hc
  have F := Adr.box_new w 3 b
  have A0 : Below w.heap.size w (w.alloc (.cells #[.int .i64 3, .int .u64 b] 25)) := (Below.refl _ _).alloc (Nat.le_refl _) _
  have c0 := F.c0
  have c1 := F.c1
  go_enter Tryd.func37, Tryd.ntmps37
  go_wp2_with fail
  refine (HC.out _).mono ?_
  rintro e w1 ⟨rfl, b1⟩
  have B1 := thenB A0 b1
  have F1 := F.below b1
  go_wp2_with fail
  have s0 : w1.drew.cell? ⟨w.heap.size, 1, none⟩ = some (.int .u64 b) := F1.c1
  have B2 : Below w.heap.size w w1.drew := B1.drew
  go_region_held3 (fun w' => w'.cell? ⟨w.heap.size, 1, none⟩ = some (.int .u64 b)) (first | exact s0 | exact s1) (first
    | (go_at_call 41; refine (HH.out _).mono ?_; rintro e w2 ⟨rfl, b2⟩; have s1 := (b2.cell (p := ⟨w.heap.size, 1, none⟩) F1.lt).trans s0; have B3 := thenB B2 b2))
  all_goals go_wp2_with fail
  all_goals go_ret
  all_goals exact ⟨rfl, B3⟩
theorem rresolves_any (irk k b : Int) (w : World) (hi : 0 ≤ irk ∧ irk ≤ 18446744073709551615) (hk : -9223372036854775808 ≤ k ∧ k ≤ 9223372036854775807) (hb : 0 ≤ b ∧ b ≤ 18446744073709551615) :
    Calls Tryd.prog 37 #[.int .u64 irk, .agg #[.int .i64 k, .int .u64 b]] w fun e w' => e = .returned (.bool (rsvZ irk k b)) ∧ Below w.heap.size w w' := by
  by_cases h0 : irk = 0
  · subst h0
    rw [show rsvZ 0 k b = false by unfold rsvZ; rw [if_pos (.inl rfl)]]
    exact rresolves_zero k b w hk hb
  · by_cases h3 : k = 3
    · subst h3
      by_cases hc : chk3 b = 0
      · rw [show rsvZ irk 3 b = (b % 16777216 == hshZ irk (b / 16777216 % 4194304)) by unfold rsvZ; rw [if_neg (by simp only [ne_eq, not_true_eq_false, false_or]; intro h; rcases h with h | h; exact h0 h; exact h hc)]]
        exact rresolves_good irk b w h0 hc hi hb
      · rw [show rsvZ irk 3 b = false by unfold rsvZ; rw [if_pos (.inr (.inr hc))]]
        exact rresolves_bad irk b w h0 hc hi hb
    · rw [show rsvZ irk k b = false by unfold rsvZ; rw [if_pos (.inr (.inl h3))]]
      exact rresolves_kind irk k b w h0 h3 hi hk hb
end Go.Proofs.YtegmknmbgifmjaaDoor.Prv
