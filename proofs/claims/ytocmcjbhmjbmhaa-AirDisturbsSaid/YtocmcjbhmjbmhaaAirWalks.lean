/- Durations, ends and overlaps of transmissions, those of the program and those of the document. -/
import Derived.Test.YtocmcjbhmjbmhaaAirMath
import Derived.Test.YtocmcjbhmjbmhaaBase
import Derived.Deep.RegionHeld3
import Derived.Deep.RegionWith
set_option linter.unusedVariables false
set_option linter.unusedSimpArgs false
namespace Go.Proofs.Ytocmcjbhmjbmhaa.Air
open Go.RowKit Mem Rw Base

theorem airtime_int (n : Int) (w : World) (hn : n ≤ 1125899906842624) :
    Calls Try.prog 11 #[.int .i64 n] w fun e w' => e = .returned (.int .i64 (airT n)) ∧ w = w' := by
  have h1 : max 0 n ≤ 1125899906842624 := by omega
  have h2 : 0 ≤ max 0 n := by omega
  unfold airT
  generalize hm : max 0 n = m at *
  go_enter Try.func11, Try.ntmps11
  go_wp2_with fail
  go_ret
  exact ⟨rfl, rfl⟩
theorem rairtime_int (n : Int) (w : World) (hn : n ≤ 1125899906842624) :
    Calls Try.prog 12 #[.int .i64 n] w fun e w' => e = .returned (.int .i64 (airT n)) ∧ w = w' := by
  have h1 : max 0 n ≤ 1125899906842624 := by omega
  have h2 : 0 ≤ max 0 n := by omega
  unfold airT
  generalize hm : max 0 n = m at *
  go_enter Try.func12, Try.ntmps12
  go_wp2_with fail
  go_ret
  exact ⟨rfl, rfl⟩
/-- A transmission as a value. -/
abbrev tv (x : Tx) : Value := .agg #[.int .i64 x.id, .int .i64 x.frm, .int .i64 x.ch, .int .i64 x.st, .slice x.A x.bs.length x.c]
theorem airtime_any (i f h s : Int) (A : Option Addr) (n c : Nat) (w : World) (hn : n ≤ 140737488351232) :
    Calls Try.prog 33 #[.agg #[.int .i64 i, .int .i64 f, .int .i64 h, .int .i64 s, .slice A n c]] w fun e w' => e = .returned (.int .i64 (8 * ((n : Int) + 10))) ∧ Below w.heap.size w w' := by
  have HA := Lib.hid (fun w => airtime_int n w (by omega))
  rw [airT_len] at HA
  generalize 8 * ((n : Int) + 10) = d at *
  go_enter Try.func33, Try.ntmps33
  go_wp2_with (go_at_call 11; refine (HA.out _).mono ?_; rintro e w' ⟨rfl, rfl⟩)
  go_ret
  exact ⟨rfl, (Below.refl _ w).alloc (Nat.le_refl _) _⟩
/-- The cells of a boxed transmission. -/
abbrev Five (w : World) (g : Nat) (i f h s : Int) (v : Value) : Prop := w.cell? ⟨g, 0, none⟩ = some (.int .i64 i) ∧ w.cell? ⟨g, 1, none⟩ = some (.int .i64 f) ∧ w.cell? ⟨g, 2, none⟩ = some (.int .i64 h) ∧ w.cell? ⟨g, 3, none⟩ = some (.int .i64 s) ∧ w.cell? ⟨g, 4, none⟩ = some v
theorem five_of {w : World} {g : Nat} {t : TypeId} {i f h s : Int} {v : Value} (b : Blk w g t #[.int .i64 i, .int .i64 f, .int .i64 h, .int .i64 s, v]) : Five w g i f h s v := ⟨b.cell 0, b.cell 1, b.cell 2, b.cell 3, b.cell 4⟩
theorem Five.below {w w' : World} {g : Nat} {i f h s : Int} {v : Value} (x : Five w g i f h s v) (b : Below w.heap.size w w') : Five w' g i f h s v :=
  have hg := World.block_lt_of_cell? _ _ x.1
  ⟨(b.cell (p := ⟨g, 0, none⟩) hg).trans x.1, (b.cell (p := ⟨g, 1, none⟩) hg).trans x.2.1, (b.cell (p := ⟨g, 2, none⟩) hg).trans x.2.2.1, (b.cell (p := ⟨g, 3, none⟩) hg).trans x.2.2.2.1, (b.cell (p := ⟨g, 4, none⟩) hg).trans x.2.2.2.2⟩
theorem dB {w W w1 : World} (h : Below w.heap.size w W) (k : Below W.drew.heap.size W.drew w1) : Below w.heap.size w w1 := thenB (h.drew) k
theorem Five.dr {w w' : World} {g : Nat} {i f h s : Int} {v : Value} (x : Five w g i f h s v) (b : Below w.drew.heap.size w.drew w') : Five w' g i f h s v := Five.below (w := w.drew) x b
theorem end_any (i f h s : Int) (A : Option Addr) (n c : Nat) (w : World) (hn : n ≤ 140737488351232) (hs : -1099511627776 ≤ s ∧ s ≤ 1099511627776) :
    Calls Try.prog 13 #[.agg #[.int .i64 i, .int .i64 f, .int .i64 h, .int .i64 s, .slice A n c]] w fun e w' => e = .returned (.int .i64 (s + 8 * ((n : Int) + 10))) ∧ Below w.heap.size w w' := by
  have HA := Lib.hid (fun w => airtime_any i f h s A n c w hn)
  have hd : 0 ≤ 8 * ((n : Int) + 10) ∧ 8 * ((n : Int) + 10) ≤ 1125899906842624 := by omega
  generalize 8 * ((n : Int) + 10) = d at *
  have B0 : Below w.heap.size w (w.alloc (.cells #[.int .i64 i, .int .i64 f, .int .i64 h, .int .i64 s, .slice A n c] 24)) := (Below.refl _ w).alloc (Nat.le_refl _) _
  have T0 := five_of (Blk.fresh w 24 #[.int .i64 i, .int .i64 f, .int .i64 h, .int .i64 s, .slice A n c])
  have hw : IntKind.i64.wrap (s + d) = s + d := by rw [IntKind.wrap_i64]; omega
  go_enter Try.func13, Try.ntmps13
  go_wp2_with fail
  generalize w.alloc (.cells #[.int .i64 i, .int .i64 f, .int .i64 h, .int .i64 s, .slice A n c] 24) = W at *
  go_region_held3 (fun w' => Five w' w.heap.size i f h s (.slice A n c)) (first | exact T1 | exact T0) (first
    | (go_at_call 33; refine (HA.out _).mono ?_; rintro e w1 ⟨rfl, b1⟩; have T1 := T0.dr b1; have B1 := dB B0 b1))
  go_wp2_with fail
  go_ret
  exact ⟨rfl, B1⟩
theorem rend_any (i f h s : Int) (A : Option Addr) (n c : Nat) (w : World) (hn : n ≤ 140737488351232) (hs : -1099511627776 ≤ s ∧ s ≤ 1099511627776) :
    Calls Try.prog 14 #[.agg #[.int .i64 i, .int .i64 f, .int .i64 h, .int .i64 s, .slice A n c]] w fun e w' => e = .returned (.int .i64 (s + 8 * ((n : Int) + 10))) ∧ Below w.heap.size w w' := by
  have HA := Lib.hid (fun w => rairtime_int n w (by omega))
  rw [airT_len] at HA
  have hd : 0 ≤ 8 * ((n : Int) + 10) ∧ 8 * ((n : Int) + 10) ≤ 1125899906842624 := by omega
  generalize 8 * ((n : Int) + 10) = d at *
  have B0 : Below w.heap.size w (w.alloc (.cells #[.int .i64 i, .int .i64 f, .int .i64 h, .int .i64 s, .slice A n c] 24)) := (Below.refl _ w).alloc (Nat.le_refl _) _
  have T0 := five_of (Blk.fresh w 24 #[.int .i64 i, .int .i64 f, .int .i64 h, .int .i64 s, .slice A n c])
  have hw : IntKind.i64.wrap (s + d) = s + d := by rw [IntKind.wrap_i64]; omega
  go_enter Try.func14, Try.ntmps14
  go_wp2_with fail
  generalize w.alloc (.cells #[.int .i64 i, .int .i64 f, .int .i64 h, .int .i64 s, .slice A n c] 24) = W at *
  go_region_held3 (fun w' => Five w' w.heap.size i f h s (.slice A n c)) (exact T0) (first
    | (go_at_call 12; refine (HA.out _).mono ?_; rintro e w1 ⟨rfl, rfl⟩))
  go_wp2_with fail
  go_ret
  exact ⟨by simp [hw], B0.drew⟩
theorem two_below (w : World) (o o' : Obj) : Below w.heap.size w ((w.alloc o).alloc o') := ((Below.refl _ w).alloc (Nat.le_refl _) _).alloc (by simp) _
theorem u64_gap (a b : Int) (h : 0 ≤ a - b ∧ a - b ≤ 4398046511104) : IntKind.u64.wrap (IntKind.u64.wrap a - IntKind.u64.wrap b) = a - b := by
  simp only [IntKind.wrap_u64]
  omega
theorem meet_any (i f h s i' f' h' s' : Int) (A A' : Option Addr) (n c n' c' : Nat) (w : World) (hn : n ≤ 140737488351232) (hn' : n' ≤ 140737488351232) (hs : -1099511627776 ≤ s ∧ s ≤ 1099511627776) (hs' : -1099511627776 ≤ s' ∧ s' ≤ 1099511627776) :
    Calls Try.prog 34 #[.agg #[.int .i64 i, .int .i64 f, .int .i64 h, .int .i64 s, .slice A n c], .agg #[.int .i64 i', .int .i64 f', .int .i64 h', .int .i64 s', .slice A' n' c']] w fun e w' =>
      e = .returned (.bool (decide (s < s' + 8 * ((n' : Int) + 10)) && decide (s' < s + 8 * ((n : Int) + 10)))) ∧ Below w.heap.size w w' := by
  by_cases hg : s' < s
  · have e1 : (decide (s < s' + 8 * ((n' : Int) + 10)) && decide (s' < s + 8 * ((n : Int) + 10))) = decide (s - s' < 8 * ((n' : Int) + 10)) := by
      rw [decide_eq_true (show s' < s + 8 * ((n : Int) + 10) by omega), Bool.and_true]
      exact decide_eq_decide.mpr (by omega)
    rw [e1]
    have HA := Lib.hid (fun w => airtime_any i' f' h' s' A' n' c' w hn')
    have hd : 0 ≤ 8 * ((n' : Int) + 10) ∧ 8 * ((n' : Int) + 10) ≤ 1125899906842624 := by omega
    generalize 8 * ((n' : Int) + 10) = d at *
    have B0 := two_below w (.cells #[.int .i64 i', .int .i64 f', .int .i64 h', .int .i64 s', .slice A' n' c'] 24) (.cells #[.int .i64 i, .int .i64 f, .int .i64 h, .int .i64 s, .slice A n c] 24)
    have T0 := five_of (((Blk.fresh w 24 #[.int .i64 i', .int .i64 f', .int .i64 h', .int .i64 s', .slice A' n' c'])).alloc (.cells #[.int .i64 i, .int .i64 f, .int .i64 h, .int .i64 s, .slice A n c] 24))
    have T1 := five_of (Blk.fresh (w.alloc (.cells #[.int .i64 i', .int .i64 f', .int .i64 h', .int .i64 s', .slice A' n' c'] 24)) 24 #[.int .i64 i, .int .i64 f, .int .i64 h, .int .i64 s, .slice A n c])
    rw [show (w.alloc (.cells #[.int .i64 i', .int .i64 f', .int .i64 h', .int .i64 s', .slice A' n' c'] 24)).heap.size = w.heap.size + 1 by simp] at T1
    have e2 : IntKind.u64.wrap (IntKind.u64.wrap s - IntKind.u64.wrap s') = s - s' := u64_gap _ _ (by omega)
    have e3 : IntKind.u64.wrap d = d := by rw [IntKind.wrap_u64]; omega
    go_enter Try.func34, Try.ntmps34
    go_wp2_with fail
    generalize ((w.alloc (.cells #[.int .i64 i', .int .i64 f', .int .i64 h', .int .i64 s', .slice A' n' c'] 24)).alloc (.cells #[.int .i64 i, .int .i64 f, .int .i64 h, .int .i64 s, .slice A n c] 24)) = W at *
    go_region_held3 (fun w' => Five w' w.heap.size i' f' h' s' (.slice A' n' c') ∧ w'.cell? ⟨w.heap.size + 1, 3, none⟩ = some (.int .i64 s)) (first | exact ⟨U0, U1.2.2.2.1⟩ | exact ⟨T0, T1.2.2.2.1⟩) (first
      | (go_at_call 33; refine (HA.out _).mono ?_; rintro e w1 ⟨rfl, b1⟩; have U0 := T0.dr b1; have U1 := T1.dr b1; have B1 := dB B0 b1))
    go_wp2_with fail
    go_ret
    exact ⟨by simp [e2, e3], B1⟩
  · have e1 : (decide (s < s' + 8 * ((n' : Int) + 10)) && decide (s' < s + 8 * ((n : Int) + 10))) = decide (s' - s < 8 * ((n : Int) + 10)) := by
      rw [decide_eq_true (show s < s' + 8 * ((n' : Int) + 10) by omega), Bool.true_and]
      exact decide_eq_decide.mpr (by omega)
    rw [e1]
    have HA := Lib.hid (fun w => airtime_any i f h s A n c w hn)
    have hd : 0 ≤ 8 * ((n : Int) + 10) ∧ 8 * ((n : Int) + 10) ≤ 1125899906842624 := by omega
    generalize 8 * ((n : Int) + 10) = d at *
    have B0 := two_below w (.cells #[.int .i64 i, .int .i64 f, .int .i64 h, .int .i64 s, .slice A n c] 24) (.cells #[.int .i64 i', .int .i64 f', .int .i64 h', .int .i64 s', .slice A' n' c'] 24)
    have T0 := five_of (((Blk.fresh w 24 #[.int .i64 i, .int .i64 f, .int .i64 h, .int .i64 s, .slice A n c])).alloc (.cells #[.int .i64 i', .int .i64 f', .int .i64 h', .int .i64 s', .slice A' n' c'] 24))
    have T1 := five_of (Blk.fresh (w.alloc (.cells #[.int .i64 i, .int .i64 f, .int .i64 h, .int .i64 s, .slice A n c] 24)) 24 #[.int .i64 i', .int .i64 f', .int .i64 h', .int .i64 s', .slice A' n' c'])
    rw [show (w.alloc (.cells #[.int .i64 i, .int .i64 f, .int .i64 h, .int .i64 s, .slice A n c] 24)).heap.size = w.heap.size + 1 by simp] at T1
    have e2 : IntKind.u64.wrap (IntKind.u64.wrap s' - IntKind.u64.wrap s) = s' - s := u64_gap _ _ (by omega)
    have e3 : IntKind.u64.wrap d = d := by rw [IntKind.wrap_u64]; omega
    go_enter Try.func34, Try.ntmps34
    go_wp2_with fail
    generalize ((w.alloc (.cells #[.int .i64 i, .int .i64 f, .int .i64 h, .int .i64 s, .slice A n c] 24)).alloc (.cells #[.int .i64 i', .int .i64 f', .int .i64 h', .int .i64 s', .slice A' n' c'] 24)) = W at *
    go_region_held3 (fun w' => Five w' w.heap.size i f h s (.slice A n c) ∧ w'.cell? ⟨w.heap.size + 1, 3, none⟩ = some (.int .i64 s')) (first | exact ⟨U0, U1.2.2.2.1⟩ | exact ⟨T0, T1.2.2.2.1⟩) (first
      | (go_at_call 33; refine (HA.out _).mono ?_; rintro e w1 ⟨rfl, b1⟩; have U0 := T0.dr b1; have U1 := T1.dr b1; have B1 := dB B0 b1))
    go_wp2_with fail
    go_ret
    exact ⟨by simp [e2, e3], B1⟩
end Go.Proofs.Ytocmcjbhmjbmhaa.Air
