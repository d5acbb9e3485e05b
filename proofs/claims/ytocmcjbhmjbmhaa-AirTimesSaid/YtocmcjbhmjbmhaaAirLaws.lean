/- The statements on durations, ends and overlaps, and on checks, walked: each returns true. -/
import Derived.Test.YtocmcjbhmjbmhaaAirLives
import Derived.Test.YtocmcjbhmjbmhaaAirArgs
import Derived.Test.YtocmcjbhmjbmhaaAirRCheck
import Derived.Test.YtocmcjbhmjbmhaaAirCopy
set_option linter.unusedVariables false
set_option linter.unusedSimpArgs false
namespace Go.Proofs.Ytocmcjbhmjbmhaa.Air
open Go.RowKit Mem Rw Base Rd

set_option maxHeartbeats 8000000 in
theorem times_law (x y : Tx) (n : Int) (w : World) (gx : GoodT w x) (gy : GoodT w y) (hn : -9223372036854775808 ≤ n ∧ n ≤ 9223372036854775807) :
    Calls Try.prog 3 #[tv x, tv y, .int .i64 n] w fun e w' => e = .returned (.bool true) ∧ Below w.heap.size w w' := by
  obtain ⟨⟨_, _, _, ix⟩, ox, _⟩ := gx
  obtain ⟨⟨_, _, _, iy⟩, oy, _⟩ := gy
  have o1 := ox.2.1
  have o1' := oy.2.1
  obtain ⟨i, f, h, s, A, c, bs⟩ := x
  obtain ⟨i', f', h', s', A', c', bs'⟩ := y
  simp only at o1 o1' ix iy
  clear ox oy
  have HL := Lib.hid lives_any
  have B0 := two_below w (.cells #[.int .i64 i, .int .i64 f, .int .i64 h, .int .i64 s, .slice A bs.length c] 24) (.cells #[.int .i64 i', .int .i64 f', .int .i64 h', .int .i64 s', .slice A' bs'.length c'] 24)
  have T0 := five_of (((Blk.fresh w 24 #[.int .i64 i, .int .i64 f, .int .i64 h, .int .i64 s, .slice A bs.length c])).alloc (.cells #[.int .i64 i', .int .i64 f', .int .i64 h', .int .i64 s', .slice A' bs'.length c'] 24))
  have T1 := five_of (Blk.fresh (w.alloc (.cells #[.int .i64 i, .int .i64 f, .int .i64 h, .int .i64 s, .slice A bs.length c] 24)) 24 #[.int .i64 i', .int .i64 f', .int .i64 h', .int .i64 s', .slice A' bs'.length c'])
  rw [show (w.alloc (.cells #[.int .i64 i, .int .i64 f, .int .i64 h, .int .i64 s, .slice A bs.length c] 24)).heap.size = w.heap.size + 1 by simp] at T1
  by_cases c0 : 1099511627776 < n
  · go_enter Try.func3, Try.ntmps3
    go_wp2_with (go_at_call 10; refine (HL.out _).mono ?_; rintro e w1 ⟨rfl, b1⟩; have T0 := T0.below b1; have T1 := T1.below b1; have B1 := thenB B0 b1)
    go_ret
    exact ⟨rfl, B1⟩
  by_cases c1 : s < -1099511627776
  · go_enter Try.func3, Try.ntmps3
    go_wp2_with (go_at_call 10; refine (HL.out _).mono ?_; rintro e w1 ⟨rfl, b1⟩; have T0 := T0.below b1; have T1 := T1.below b1; have B1 := thenB B0 b1)
    go_ret
    exact ⟨rfl, B1⟩
  by_cases c2 : 1099511627776 < s
  · go_enter Try.func3, Try.ntmps3
    go_wp2_with (go_at_call 10; refine (HL.out _).mono ?_; rintro e w1 ⟨rfl, b1⟩; have T0 := T0.below b1; have T1 := T1.below b1; have B1 := thenB B0 b1)
    go_ret
    exact ⟨rfl, B1⟩
  by_cases c3 : s' < -1099511627776
  · go_enter Try.func3, Try.ntmps3
    go_wp2_with (go_at_call 10; refine (HL.out _).mono ?_; rintro e w1 ⟨rfl, b1⟩; have T0 := T0.below b1; have T1 := T1.below b1; have B1 := thenB B0 b1)
    go_ret
    exact ⟨rfl, B1⟩
  by_cases c4 : 1099511627776 < s'
  · go_enter Try.func3, Try.ntmps3
    go_wp2_with (go_at_call 10; refine (HL.out _).mono ?_; rintro e w1 ⟨rfl, b1⟩; have T0 := T0.below b1; have T1 := T1.below b1; have B1 := thenB B0 b1)
    go_ret
    exact ⟨rfl, B1⟩
  have hs : -1099511627776 ≤ s ∧ s ≤ 1099511627776 := by omega
  have hs' : -1099511627776 ≤ s' ∧ s' ≤ 1099511627776 := by omega
  have H1 := Lib.hid (fun w' => airtime_int n w' (by omega))
  have H2 := Lib.hid (fun w' => rairtime_int n w' (by omega))
  have H3 := Lib.hid (fun w' => end_any i f h s A bs.length c w' o1 hs)
  have H4 := Lib.hid (fun w' => rend_any i f h s A bs.length c w' o1 hs)
  have H5 : Hid (∀ (v1 v2 : Value) (w' : World), ((v1 = .agg #[.int .i64 i, .int .i64 f, .int .i64 h, .int .i64 s, .slice A bs.length c] ∧ v2 = .agg #[.int .i64 i', .int .i64 f', .int .i64 h', .int .i64 s', .slice A' bs'.length c']) ∨ (v1 = .agg #[.int .i64 i', .int .i64 f', .int .i64 h', .int .i64 s', .slice A' bs'.length c'] ∧ v2 = .agg #[.int .i64 i, .int .i64 f, .int .i64 h, .int .i64 s, .slice A bs.length c])) → Calls Try.prog 15 #[v1, v2] w' fun e w2 => e = .returned (.bool (overB ⟨i, f, h, s, bs⟩ ⟨i', f', h', s', bs'⟩)) ∧ Below w'.heap.size w' w2) := Lib.hid fun v1 v2 w' hv => by
    rcases hv with ⟨rfl, rfl⟩ | ⟨rfl, rfl⟩
    · exact over_any i f h s i' f' h' s' A A' bs.length c bs'.length c' w' o1 o1' hs hs'
    · rw [overB_comm]
      exact over_any i' f' h' s' i f h s A' A bs'.length c' bs.length c w' o1' o1 hs' hs
  have H6 : Hid (∀ w' : World, Calls Try.prog 16 #[.agg #[.int .i64 i, .int .i64 f, .int .i64 h, .int .i64 s, .slice A bs.length c], .agg #[.int .i64 i', .int .i64 f', .int .i64 h', .int .i64 s', .slice A' bs'.length c']] w' fun e w2 => e = .returned (.bool (overB ⟨i, f, h, s, bs⟩ ⟨i', f', h', s', bs'⟩)) ∧ Below w'.heap.size w' w2) := Lib.hid fun w' => rover_any i f h s i' f' h' s' A A' bs.length c bs'.length c' w' o1 o1' hs hs'
  generalize airT n = a at *
  generalize s + 8 * ((bs.length : Int) + 10) = d at *
  generalize overB ⟨i, f, h, s, bs⟩ ⟨i', f', h', s', bs'⟩ = o at *
  go_enter Try.func3, Try.ntmps3
  go_wp2_with (go_at_call 10; refine (HL.out _).mono ?_; rintro e w1 ⟨rfl, b1⟩; have U0 : Five w1 w.heap.size i f h s (.slice A bs.length c) ∧ Five w1 (w.heap.size + 1) i' f' h' s' (.slice A' bs'.length c') := ⟨T0.below b1, T1.below b1⟩; have B := thenB B0 b1)
  clear T0 T1 B0 HL c0 c1 c2 c3 c4 hs hs' o1 o1'
  go_region_held3 (fun w' => Five w' w.heap.size i f h s (.slice A bs.length c) ∧ Five w' (w.heap.size + 1) i' f' h' s' (.slice A' bs'.length c')) (first | exact ⟨U0.1.below BW, U0.2.below BW⟩ | exact U0) (first
    | (go_at_call 11; refine (H1.out _).mono ?_; rintro e w2 ⟨rfl, rfl⟩)
    | (go_at_call 12; refine (H2.out _).mono ?_; rintro e w2 ⟨rfl, rfl⟩)
    | (go_at_call 13; refine (H3.out _).mono ?_; rintro e w2 ⟨rfl, b2⟩; have BW : Below w1.heap.size w1 w2 := dB (Below.refl _ _) b2)
    | (go_at_call 14; refine (H4.out _).mono ?_; rintro e w3 ⟨rfl, b3⟩; have BW := thenB BW b3)
    | (go_at_call 15; refine (H5.out _ _ _ (by first | exact .inl ⟨rfl, rfl⟩ | exact .inr ⟨rfl, rfl⟩)).mono ?_; rintro e w4 ⟨rfl, b4⟩; have BW := thenB BW b4)
    | (go_at_call 16; refine (H6.out _).mono ?_; rintro e w6 ⟨rfl, b6⟩; have BW := thenB BW b6))
  all_goals
    go_wp2_with fail
    go_ret
    exact ⟨by simp, thenB B BW⟩
end Go.Proofs.Ytocmcjbhmjbmhaa.Air
