/- The statement on periods, walked: it returns true. -/
import Derived.Test.YtkbjfmfkpdlogaaDoorPrvLaws
set_option linter.unusedVariables false
set_option linter.unusedSimpArgs false
namespace Go.Proofs.YtkbjfmfkpdlogaaDoor.Prv
open Go.RowKit Mem Oct Blk Base Mac Arg

theorem adr_neq (k b : Int) (w : World) : (binOp .neq 26 (.agg #[.int .i64 k, .int .u64 b]) (.agg #[.int .i64 k, .int .u64 b])).run Tryd.prog w = .ok (.bool false) w := by
  go_simp
theorem adr_nguard (k b k' b' : Int) (w : World) (x y : Operand) : (eqGuard .neq 26 x y (.agg #[.int .i64 k, .int .u64 b]) (.agg #[.int .i64 k', .int .u64 b'])).run Tryd.prog w = .ok () w := by
  go_simp
theorem three_below {w w' : World} {g : Nat} {x y z : Value} (hs : w.cell? ⟨g, 0, none⟩ = some x ∧ w.cell? ⟨g, 1, none⟩ = some y ∧ w.cell? ⟨g, 2, none⟩ = some z) (b : Below w.heap.size w w') :
    w'.cell? ⟨g, 0, none⟩ = some x ∧ w'.cell? ⟨g, 1, none⟩ = some y ∧ w'.cell? ⟨g, 2, none⟩ = some z :=
  ⟨(b.cell (p := ⟨g, 0, none⟩) (cell_lt hs.1)).trans hs.1, (b.cell (p := ⟨g, 1, none⟩) (cell_lt hs.1)).trans hs.2.1, (b.cell (p := ⟨g, 2, none⟩) (cell_lt hs.1)).trans hs.2.2⟩
set_option maxHeartbeats 2000000 in
theorem law_periods (k b irk : Int) (pv : Bool) (ep l p : Int) (w : World) (hk : -9223372036854775808 ≤ k ∧ k ≤ 9223372036854775807) (hb : 0 ≤ b ∧ b ≤ 18446744073709551615) (hi : 0 ≤ irk ∧ irk ≤ 18446744073709551615)
    (he : -9223372036854775808 ≤ ep ∧ ep ≤ 9223372036854775807) (hl : -9223372036854775808 ≤ l ∧ l ≤ 9223372036854775807) (hp : -9223372036854775808 ≤ p ∧ p ≤ 9223372036854775807) (hT : Adr.Tab w) :
    Calls Tryd.prog 9 #[.agg #[.int .i64 k, .int .u64 b, .int .u64 irk], .bool pv, .int .i64 ep, .int .i64 l, .int .i64 p] w fun e w' => e = .returned (.bool true) ∧ Below w.heap.size w w' := by
  have H1 : Hid (∀ w, Calls Tryd.prog 28 #[.int .i64 l, .int .i64 p] w fun e w' => e = .returned (.int .i64 (epZ l p)) ∧ w = w') := Lib.hid fun w => epoch_any l p w hl hp
  have H2 : Hid (∀ w, Calls Tryd.prog 29 #[.int .i64 l, .int .i64 p] w fun e w' => e = .returned (.int .i64 (epZ l p)) ∧ w = w') := Lib.hid fun w => repoch_any l p w hl hp
  have H3 : Hid (∀ w, Adr.Tab w → Calls Tryd.prog 30 #[.int .u64 irk, .int .i64 ep] w fun e w' => e = .returned (.agg #[.int .i64 (mkK irk (prZ irk ep)), .int .u64 (mkV irk (prZ irk ep))]) ∧ Below w.heap.size w w') := Lib.hid fun w hT => at_any irk ep w hi he hT
  have H4 : Hid (∀ w, Calls Tryd.prog 31 #[.int .u64 irk, .int .i64 ep] w fun e w' => e = .returned (.agg #[.int .i64 (mkK irk (prZ irk ep)), .int .u64 (mkV irk (prZ irk ep))]) ∧ Below w.heap.size w w') := Lib.hid fun w => rat_any irk ep w hi he
  have H5 : Hid (∀ w, Adr.Tab w → Calls Tryd.prog 32 #[.agg #[.int .i64 k, .int .u64 b, .int .u64 irk], .bool pv, .int .i64 l, .int .i64 p] w fun e w' => e = .returned (.agg #[.int .i64 (curK k irk l p pv), .int .u64 (curV b irk l p pv)]) ∧ Below w.heap.size w w') := Lib.hid fun w hT => current_any k b irk l p pv w hk hb hi hl hp hT
  have H6 : Hid (∀ w, Calls Tryd.prog 33 #[.agg #[.int .i64 k, .int .u64 b, .int .u64 irk], .bool pv, .int .i64 l, .int .i64 p] w fun e w' => e = .returned (.agg #[.int .i64 (curK k irk l p pv), .int .u64 (curV b irk l p pv)]) ∧ Below w.heap.size w w') := Lib.hid fun w => rcurrent_any k b irk l p pv w hk hb hi hl hp
  generalize epZ l p = E at *
  generalize mkK irk (prZ irk ep) = K at *
  generalize mkV irk (prZ irk ep) = V at *
  generalize curK k irk l p pv = K2 at *
  generalize curV b irk l p pv = V2 at *
  have q1 := adr_neq K V
  have q2 := adr_nguard K V K V
  have q3 := adr_eq K2 V2
  have q4 := adr_guard K2 V2 K2 V2
  have F := Blk.fresh w 49 #[.int .i64 k, .int .u64 b, .int .u64 irk]
  have A0 : Below w.heap.size w (w.alloc (.cells #[.int .i64 k, .int .u64 b, .int .u64 irk] 49)) := (Below.refl _ _).alloc (Nat.le_refl _) _
  have T0 := hT.below A0
  go_enter Tryd.func9, Tryd.ntmps9
  go_wp2_with fail
  generalize w.alloc (.cells #[.int .i64 k, .int .u64 b, .int .u64 irk] 49) = W at *
  have s0 : W.drew.cell? ⟨w.heap.size, 0, none⟩ = some (.int .i64 k) ∧ W.drew.cell? ⟨w.heap.size, 1, none⟩ = some (.int .u64 b) ∧ W.drew.cell? ⟨w.heap.size, 2, none⟩ = some (.int .u64 irk) := ⟨F.cell 0, F.cell 1, F.cell 2⟩
  have T1 : Adr.Tab W.drew := T0
  have B0 : Below w.heap.size w W.drew := A0.drew
  go_region_held3 (fun w' => w'.cell? ⟨w.heap.size, 0, none⟩ = some (.int .i64 k) ∧ w'.cell? ⟨w.heap.size, 1, none⟩ = some (.int .u64 b) ∧ w'.cell? ⟨w.heap.size, 2, none⟩ = some (.int .u64 irk)) (first | exact s0 | exact s1 | exact s2) (first
    | (go_at_call 28; refine (H1.out _).mono ?_; rintro e w' ⟨rfl, rfl⟩)
    | (go_at_call 29; refine (H2.out _).mono ?_; rintro e w' ⟨rfl, rfl⟩)
    | (go_at_call 30; refine (H3.out _ T1).mono ?_; rintro e v1 ⟨rfl, c1⟩; have s1 := three_below s0 c1; have T2 := T1.below c1; have B1 := thenB B0 c1)
    | (go_at_call 31; refine (H4.out _).mono ?_; rintro e v2 ⟨rfl, c2⟩; have s2 := three_below s1 c2; have T3 := T2.below c2; have B2 := thenB B1 c2))
  all_goals go_wp2_with fail
  all_goals
    have s3 : v2.drew.cell? ⟨w.heap.size, 0, none⟩ = some (.int .i64 k) ∧ v2.drew.cell? ⟨w.heap.size, 1, none⟩ = some (.int .u64 b) ∧ v2.drew.cell? ⟨w.heap.size, 2, none⟩ = some (.int .u64 irk) := s2
    have T4 : Adr.Tab v2.drew := T3
    have B3 : Below w.heap.size w v2.drew := B2.drew
    clear s0 s1 T1 T2 T3 B0 B1
    go_region_held3 (fun w' => w'.cell? ⟨w.heap.size, 0, none⟩ = some (.int .i64 k) ∧ w'.cell? ⟨w.heap.size, 1, none⟩ = some (.int .u64 b) ∧ w'.cell? ⟨w.heap.size, 2, none⟩ = some (.int .u64 irk)) (first | exact s3 | exact s4 | exact s5 | exact s6) (first
      | (go_at_call 23; refine (lives_any _ T4).mono ?_; rintro e v3 ⟨rfl, c3⟩; have s4 := three_below s3 c3; have T5 := T4.below c3; have B4 := thenB B3 c3)
      | (go_at_call 32; refine (H5.out _ T5).mono ?_; rintro e v4 ⟨rfl, c4⟩; have s5 := three_below s4 c4; have T6 := T5.below c4; have B5 := thenB B4 c4)
      | (go_at_call 33; refine (H6.out _).mono ?_; rintro e v5 ⟨rfl, c5⟩; have s6 := three_below s5 c5; have B6 := thenB B5 c5))
    all_goals go_wp2_with fail
    all_goals go_ret
    all_goals exact ⟨rfl, B6⟩
end Go.Proofs.YtkbjfmfkpdlogaaDoor.Prv
