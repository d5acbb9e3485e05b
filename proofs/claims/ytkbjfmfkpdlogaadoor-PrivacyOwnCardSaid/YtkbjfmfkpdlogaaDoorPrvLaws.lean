/- The statements on private addresses, walked: what the document gives; each of the first ones returns true. -/
import Derived.Test.YtkbjfmfkpdlogaaDoorPrvFind2
set_option linter.unusedVariables false
set_option linter.unusedSimpArgs false
namespace Go.Proofs.YtkbjfmfkpdlogaaDoor.Prv
open Go.RowKit Mem Oct Blk Base Mac Arg

theorem pair_below {w w' : World} {g : Nat} {x y : Value} (hs : w.cell? ⟨g, 0, none⟩ = some x ∧ w.cell? ⟨g, 1, none⟩ = some y) (b : Below w.heap.size w w') : w'.cell? ⟨g, 0, none⟩ = some x ∧ w'.cell? ⟨g, 1, none⟩ = some y :=
  ⟨(b.cell (p := ⟨g, 0, none⟩) (cell_lt hs.1)).trans hs.1, (b.cell (p := ⟨g, 1, none⟩) (cell_lt hs.1)).trans hs.2⟩
theorem rpa_chk (irk p : Int) (hp : 1 ≤ p ∧ p ≤ 4194302) : Adr.chk 3 (rpaZ irk p) = 0 := by
  rw [← mk_rpa irk p hp]; exact Adr.chk_mk (by decide)
theorem rpa_bd (irk p : Int) (hp : 1 ≤ p ∧ p ≤ 4194302) : 0 ≤ rpaZ irk p ∧ rpaZ irk p ≤ 18446744073709551615 := by
  have := hshZ_bd irk p
  unfold rpaZ; omega
theorem rpa_rsv (irk p : Int) (h0 : irk ≠ 0) (hp : 1 ≤ p ∧ p ≤ 4194302) : rsvZ irk 3 (rpaZ irk p) = true := by
  have hc := rpa_chk irk p hp
  have hb := hshZ_bd irk p
  have e1 : rpaZ irk p % 16777216 = hshZ irk p := by unfold rpaZ; omega
  have e2 : rpaZ irk p / 16777216 % 4194304 = p := by unfold rpaZ; omega
  unfold rsvZ
  rw [if_neg (by rw [hc]; simp [h0]), e1, e2]; simp
theorem l_make1 (w : World) (hT : Adr.Tab w) : Calls Tryd.prog 21 #[.int .u64 5, .int .u32 77] w fun e w' => e = .returned (.tuple #[.agg #[.int .i64 3, .int .u64 (rpaZ 5 77)], .int .i64 0]) ∧ Below w.heap.size w w' :=
  make_good 5 77 w (by decide) (by decide) (by decide) hT
theorem l_make2 (w : World) : Calls Tryd.prog 21 #[.int .u64 5, .int .u32 4194303] w fun e w' => e = .returned (.tuple #[.agg #[.int .i64 0, .int .u64 0], .int .i64 5]) ∧ Below w.heap.size w w' :=
  make_range 5 4194303 w (by decide) (by decide) (by decide) (.inr (by decide))
theorem l_make3 (w : World) : Calls Tryd.prog 21 #[.int .u64 0, .int .u32 5] w fun e w' => e = .returned (.tuple #[.agg #[.int .i64 0, .int .u64 0], .int .i64 17]) ∧ Below w.heap.size w w' :=
  make_zero 5 w (by decide)
theorem l_find : findZ 3 (rpaZ 5 77) [(0, 0, 5)] = 0 := by
  have h := rpa_rsv 5 77 (by decide) (by decide)
  have hc := rpa_chk 5 77 (by decide)
  unfold findZ
  rw [if_pos hc]
  exact fst_at (j := 0) (by decide) (by show belB 3 (rpaZ 5 77) (0, 0, 5) = true; unfold belB; rw [h]; simp) (fun i hi => absurd hi (Nat.not_lt_zero i))
theorem trip1 (w : World) (t : TypeId) (k b i : Int) : TriplesAt (w.alloc (.cells #[.int .i64 k, .int .u64 b, .int .u64 i] t)) (some ⟨w.heap.size, 0, none⟩) [(k, b, i)] := by
  have F := Blk.fresh w t #[.int .i64 k, .int .u64 b, .int .u64 i]
  refine .inr ⟨w.heap.size, 0, rfl, F.lt, fun j f hj => ?_⟩
  match j, hj with
  | 0, hj => cases hj; exact ⟨F.cell 0, F.cell 1, F.cell 2⟩
  | j + 1, hj => simp at hj
set_option maxHeartbeats 2000000 in
theorem lives_any (w : World) (hT : Adr.Tab w) : Calls Tryd.prog 23 #[] w fun e w' => e = .returned (.bool true) ∧ Below w.heap.size w w' := by
  have bV := rpa_bd 5 77 (by decide)
  have hd : (rpaZ 5 77).tdiv 16777216 = 4194381 := by
    have := hshZ_bd 5 77
    rw [Int.tdiv_eq_ediv_of_nonneg bV.1]; unfold rpaZ; omega
  have H1 := Lib.hid l_make1
  have H2 := Lib.hid l_make2
  have H3 := Lib.hid l_make3
  have H4 : Hid (∀ w, Adr.Tab w → Calls Tryd.prog 24 #[.int .u64 5, .agg #[.int .i64 3, .int .u64 (rpaZ 5 77)]] w fun e w' => e = .returned (.bool true) ∧ Below w.heap.size w w') := Lib.hid fun w hT => by
    have := resolves_any 5 3 (rpaZ 5 77) w (by decide) (by decide) bV hT
    rwa [rpa_rsv 5 77 (by decide) (by decide)] at this
  have H5 : Hid (∀ (w : World) (A : Option Addr), TriplesAt w A [(0, 0, 5)] → Adr.Tab w → Calls Tryd.prog 26 #[.slice A 1 1, .agg #[.int .i64 3, .int .u64 (rpaZ 5 77)]] w fun e w' => e = .returned (.int .i64 0) ∧ Below w.heap.size w w') := Lib.hid fun w A hA hT => by
    have := find_any 3 (rpaZ 5 77) A 1 1 [(0, 0, 5)] w rfl (by decide) (by decide) hA (by intro f hf; simp at hf; subst hf; decide) (by decide) bV hT
    rwa [l_find] at this
  have H6 : Hid (∀ w, Calls Tryd.prog 28 #[.int .i64 2500, .int .i64 1000] w fun e w' => e = .returned (.int .i64 2) ∧ w = w') := Lib.hid fun w => epoch_any 2500 1000 w (by decide) (by decide)
  generalize rpaZ 5 77 = V at *
  go_enter Tryd.func23, Tryd.ntmps23
  go_wp2_with fail
  refine (H1.out _ hT).mono ?_
  rintro e w1 ⟨rfl, b1⟩
  have T1 := hT.below b1
  have F1 := Adr.box_new w1 3 V
  have B1 := b1.alloc b1.size (.cells #[.int .i64 3, .int .u64 V] 26)
  have hg := b1.size
  clear b1
  have T2 := T1.alloc (.cells #[.int .i64 3, .int .u64 V] 26)
  go_wp2_with fail
  generalize w1.alloc (.cells #[.int .i64 3, .int .u64 V] 26) = W1 at *
  generalize w1.heap.size = g at *
  clear T1
  refine (H2.out _).mono ?_
  rintro e w2 ⟨rfl, b2⟩
  have F2 := F1.below b2
  have B2 := thenB B1 b2
  have T3 := T2.below b2
  have F3 := F2.below ((Below.refl w2.heap.size w2).alloc (Nat.le_refl _) (.cells #[.int .i64 0, .int .u64 0] 26))
  have B3 := B2.alloc B2.size (.cells #[.int .i64 0, .int .u64 0] 26)
  have T4 := T3.alloc (.cells #[.int .i64 0, .int .u64 0] 26)
  clear F1 b2 T2 F2 B2 T3 B1
  go_wp2_with fail
  generalize w2.alloc (.cells #[.int .i64 0, .int .u64 0] 26) = W2 at *
  refine (H3.out _).mono ?_
  rintro e w3 ⟨rfl, b3⟩
  have F4 := F3.below b3
  have B4 := thenB B3 b3
  have T5 := T4.below b3
  have F5 := F4.below ((Below.refl w3.heap.size w3).alloc (Nat.le_refl _) (.cells #[.int .i64 0, .int .u64 0] 26))
  have B5 := B4.alloc B4.size (.cells #[.int .i64 0, .int .u64 0] 26)
  have T6 := T5.alloc (.cells #[.int .i64 0, .int .u64 0] 26)
  have c0 := F5.c0
  have c1 := F5.c1
  have hgl := F5.lt
  clear F3 b3 T4 F4 B4 T5 B3
  go_wp2_with fail
  generalize w3.alloc (.cells #[.int .i64 0, .int .u64 0] 26) = W3 at *
  refine (H4.out _ T6).mono ?_
  rintro e w4 ⟨rfl, b4⟩
  have F6 := F5.below b4
  have B6 := thenB B5 b4
  have T7 := T6.below b4
  have F7 := F6.below ((Below.refl w4.heap.size w4).alloc (Nat.le_refl _) (.cells #[.int .i64 0, .int .u64 0, .int .u64 5] 49))
  have B7 := B6.alloc B6.size (.cells #[.int .i64 0, .int .u64 0, .int .u64 5] 49)
  have T8 := T7.alloc (.cells #[.int .i64 0, .int .u64 0, .int .u64 5] 49)
  have A8 := trip1 w4 49 0 0 5
  have d0 := F7.c0
  have d1 := F7.c1
  have d2 := F6.c0
  have d3 := F6.c1
  have hgl4 := F6.lt
  clear F5 b4 T6 B5 c0 c1 T7 B6
  go_wp2_with (first
    | (go_at_call 26; refine (H5.out _ _ A8 T8).mono ?_; rintro e w5 ⟨rfl, b5⟩; have B8 := thenB B7 b5)
    | (go_at_call 28; refine (H6.out _).mono ?_; rintro e w' ⟨rfl, rfl⟩))
  go_ret
  exact ⟨rfl, B8⟩
end Go.Proofs.YtkbjfmfkpdlogaaDoor.Prv
