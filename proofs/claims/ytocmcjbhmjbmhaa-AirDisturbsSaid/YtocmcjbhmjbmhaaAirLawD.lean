/- The statement on what happens to transmissions, walked: it returns true. -/
import Derived.Test.YtocmcjbhmjbmhaaAirRDist3
set_option linter.unusedVariables false
set_option linter.unusedSimpArgs false
namespace Go.Proofs.Ytocmcjbhmjbmhaa.Air
open Go.RowKit Mem Rw Base Rd

set_option maxRecDepth 100000 in
set_option maxHeartbeats 16000000 in
theorem disturbs_law (m : Med) (q : Pl) (A : Option Addr) (c : Nat) (xs : List Tx) (w : World) (ga : GoodA w (m, q)) (ta : TxsAt w w.heap.size A xs) (g : ∀ x ∈ xs, GoodT w x) (hc : xs.length ≤ c) (hb : c * 56 ≤ 140737488351232) :
    Calls Try.prog 5 #[mv m q, .slice A xs.length c] w fun e w' => e = .returned (.bool true) ∧ Below w.heap.size w w' := by
  have hM : MedAt w w.heap.size q m := ga.2.1
  have hjb : m.jams.length ≤ 5864062014805 := ga.2.2.2.2.2.2.2.2
  have HL := Lib.hid lives_any
  have HOwn : Hid (∀ w' : World, MedAt w' w'.heap.size q m → Calls Try.prog 18 #[.agg #[.int .i64 m.dev, .slice q.A m.links.length q.ac, .slice q.J m.jams.length q.jc, .slice q.S m.loss.length q.sc]] w' fun e w2 => ∃ p' : Pl, e = .returned (mv m p') ∧ MedAt w2 w2.heap.size p' m ∧ Below w'.heap.size w' w2) := Lib.hid fun w' h => own_m m q w' h hjb
  have HCp : Hid (∀ w' : World, TxsAt w' w'.heap.size A xs → Calls Try.prog 19 #[.slice A xs.length c] w' fun e w2 => ∃ A' c', ∃ l' : List Tx, e = .returned (.slice A' xs.length c') ∧ l'.length = xs.length ∧ l'.map Tx.tr = xs.map Tx.tr ∧ TxsAt w2 w2.heap.size A' l' ∧ Below w'.heap.size w' w2) := Lib.hid fun w' h => copy_m A c xs w' (by omega) h
  have HFew : Hid (∀ w' : World, Calls Try.prog 23 #[.agg #[.int .i64 m.dev, .slice q.A m.links.length q.ac, .slice q.J m.jams.length q.jc, .slice q.S m.loss.length q.sc], .slice A xs.length c] w' fun e w2 => e = .returned (.bool (decide (fewP m xs.length))) ∧ Below w'.heap.size w' w2) := Lib.hid fun w' => few_any m q A xs.length c w'
  have HRc : Hid (∀ (w' : World), MedAt w' w'.heap.size q m → TxsAt w' w'.heap.size A xs → Calls Try.prog 20 #[.agg #[.int .i64 m.dev, .slice q.A m.links.length q.ac, .slice q.J m.jams.length q.jc, .slice q.S m.loss.length q.sc], .slice A xs.length c] w' fun e w2 => e = .returned (.int .i64 (chk m (xs.map Tx.tr))) ∧ Below w'.heap.size w' w2) := Lib.hid fun w' h3 h4 => rcheck_any m q A c xs w' (by omega) h3 h4
  have B0 : Below w.heap.size w (w.alloc (.cells #[.int .i64 m.dev, .slice q.A m.links.length q.ac, .slice q.J m.jams.length q.jc, .slice q.S m.loss.length q.sc] 34)) := (Below.refl _ w).alloc (Nat.le_refl _) _
  have U0 := four_of (Blk.fresh w 34 #[.int .i64 m.dev, .slice q.A m.links.length q.ac, .slice q.J m.jams.length q.jc, .slice q.S m.loss.length q.sc])
  have hnb : xs.length ≤ 8796093022208 := by omega
  rw [show mv m q = .agg #[.int .i64 m.dev, .slice q.A m.links.length q.ac, .slice q.J m.jams.length q.jc, .slice q.S m.loss.length q.sc] from rfl]
  by_cases hf : fewP m xs.length
  · rw [decide_eq_true hf] at HFew
    by_cases hz : chk m (xs.map Tx.tr) = 0
    · have near := chk_near hz
      obtain ⟨hD0, hD8, _⟩ := chk_ok hz
      have hn64 : xs.length ≤ 64 := hf.2.2.2
      rw [hz] at HRc
      have HDis : Hid (∀ (z y : Int) (w' : World) (p : Pl) (A' : Option Addr) (c' : Nat) (l' : List Tx), l'.length = xs.length → l'.map Tx.tr = xs.map Tx.tr → MedAt w' w'.heap.size p m → TxsAt w' w'.heap.size A' l' → Calls Try.prog 24 #[mv m p, .slice A' xs.length c', .int .i64 z, .int .i64 y] w' fun e w2 => e = .returned (.int .i64 (disZ m (xs.map Tx.tr) z y)) ∧ Below w'.heap.size w' w2) := Lib.hid fun z y w' p A' c' l' h1 h2 h3 h4 => dist_z m p A' c' xs.length l' _ z y w' h1 h2 (by omega) near h3 h4
      have HRd : Hid (∀ (z y : Int) (w' : World), MedAt w' w'.heap.size q m → TxsAt w' w'.heap.size A xs → Calls Try.prog 25 #[.agg #[.int .i64 m.dev, .slice q.A m.links.length q.ac, .slice q.J m.jams.length q.jc, .slice q.S m.loss.length q.sc], .slice A xs.length c, .int .i64 z, .int .i64 y] w' fun e w2 => e = .returned (.int .i64 (disZ m (xs.map Tx.tr) z y)) ∧ Below w'.heap.size w' w2) := Lib.hid fun z y w' h3 h4 => rdist_m m q A c xs.length xs _ z y w' rfl rfl (by omega) near h3 h4
      clear ga g hb hjb hc hz hf near
      generalize hts : xs.map Tx.tr = ts at *
      generalize hnn : xs.length = n at *
      go_enter Try.func5, Try.ntmps5
      go_wp2_with fail
      generalize w.alloc (.cells #[.int .i64 m.dev, .slice q.A m.links.length q.ac, .slice q.J m.jams.length q.jc, .slice q.S m.loss.length q.sc] 34) = W at *
      go_wp2_with (first
        | (go_at_call 10; refine (HL.out _).mono ?_; rintro e w1 ⟨rfl, BW⟩; have U1 := U0.below BW)
        | (go_at_call 23; refine (HFew.out _).mono ?_; rintro e w2 ⟨rfl, b2⟩; have BW := thenB BW b2; have U1 := U0.below BW)
        | (go_at_call 20; refine (HRc.out _ (hM.later (thenB B0 BW)) (ta.later (thenB B0 BW))).mono ?_; rintro e w5 ⟨rfl, b5⟩; have BW := thenB BW b5; have U1 := U0.below BW))
      clear HL HRc HFew U1
      go_loopw [5, 6] (fun s5 s6 wr => ∃ z : Int, -1 ≤ z ∧ z ≤ (n : Int) + 1 ∧ s5 = .int .i64 z ∧ Below W.heap.size W wr) (fun s5 _ _ => ((n : Int) + 1 - intOf s5).toNat)
      case atStart => exact ⟨-1, by omega, by omega, rfl, BW⟩
      case round =>
        clear BW
        obtain ⟨z, hz0, hz1, rfl, BR⟩ := hrel
        by_cases c1 : z ≤ (n : Int)
        · have U2 := U0.below BR
          have hw1 : IntKind.i64.wrap (z + 1) = z + 1 := by rw [IntKind.wrap_i64]; omega
          go_wp2_with fail
          go_loopw [6] (fun s6 wr2 => ∃ y : Int, -1 ≤ y ∧ y ≤ m.dev + 1 ∧ s6 = .int .i64 y ∧ Below W.heap.size W wr2) (fun s6 _ => (m.dev + 1 - intOf s6).toNat)
          case atStart => exact ⟨-1, by omega, by omega, rfl, BR⟩
          case round =>
            obtain ⟨y, hy0, hy1, rfl, BR3⟩ := hrel
            have U3 := U0.below BR3
            by_cases c3 : y ≤ m.dev
            · have hw2 : IntKind.i64.wrap (y + 1) = y + 1 := by rw [IntKind.wrap_i64]; omega
              have HDz := Lib.hid (HDis.out z y)
              have HRz := Lib.hid (HRd.out z y)
              clear HDis HRd
              generalize disZ m ts z y = r at *
              go_wp2_with fail
              go_region_held3 (fun w' => Four w' w.heap.size m.dev (.slice q.A m.links.length q.ac) (.slice q.J m.jams.length q.jc) (.slice q.S m.loss.length q.sc)) (first | exact U0.below BX | exact U3) (first
                | (go_at_call 18; refine (HOwn.out _ (hM.later (thenB B0 BR3.drew))).mono ?_; rintro e v2 ⟨p, rfl, MO, b2⟩; have BX : Below W.heap.size W v2 := thenB BR3.drew b2)
                | (go_at_call 19; refine (HCp.out _ (ta.later (thenB B0 BX))).mono ?_; rintro e v3 ⟨A3, c3', l3, rfl, q1, q2, T3, b3⟩; have BX := thenB BX b3; have MO := MO.later b3)
                | (go_at_call 24; refine (HDz.out _ _ _ _ _ q1 q2 MO T3).mono ?_; rintro e v4 ⟨rfl, b4⟩; have BX := thenB BX b4)
                | (go_at_call 25; refine (HRz.out _ (hM.later (thenB B0 BX)) (ta.later (thenB B0 BX))).mono ?_; rintro e v5 ⟨rfl, b5⟩; have BX := thenB BX b5))
              all_goals
                have hrr : (r == r) = true := by simp
                go_wp2_with fail
                go_roundw
                case measure => simp [intOf]; omega
                case rel => exact ⟨y + 1, by omega, by omega, by first | rfl | simp [hw2], BX⟩
            · clear HDis HRd HOwn HCp
              go_wp2_with fail
              go_roundw
              case measure => simp [intOf]; omega
              case rel => exact ⟨z + 1, by omega, by omega, by first | rfl | simp [hw1], BR3⟩
        · clear HDis HRd HOwn HCp
          go_wp2_with fail
          go_ret
          exact ⟨rfl, thenB B0 BR⟩
    · have hz' : (chk m (xs.map Tx.tr) == 0) = false := by simpa using hz
      generalize chk m (xs.map Tx.tr) = z at *
      clear hf ga g hc hb hjb
      generalize hnn : xs.length = n at *
      go_enter Try.func5, Try.ntmps5
      go_wp2_with fail
      generalize w.alloc (.cells #[.int .i64 m.dev, .slice q.A m.links.length q.ac, .slice q.J m.jams.length q.jc, .slice q.S m.loss.length q.sc] 34) = W at *
      go_wp2_with (first
        | (go_at_call 10; refine (HL.out _).mono ?_; rintro e w1 ⟨rfl, BW⟩; have U1 := U0.below BW)
        | (go_at_call 23; refine (HFew.out _).mono ?_; rintro e w2 ⟨rfl, b2⟩; have BW := thenB BW b2; have U1 := U0.below BW)
        | (go_at_call 20; refine (HRc.out _ (hM.later (thenB B0 BW)) (ta.later (thenB B0 BW))).mono ?_; rintro e w5 ⟨rfl, b5⟩; have BW := thenB BW b5; have U1 := U0.below BW))
      go_ret
      exact ⟨rfl, thenB B0 BW⟩
  · rw [decide_eq_false hf] at HFew
    clear hf ga g hc hb hjb
    generalize hnn : xs.length = n at *
    go_enter Try.func5, Try.ntmps5
    go_wp2_with fail
    generalize w.alloc (.cells #[.int .i64 m.dev, .slice q.A m.links.length q.ac, .slice q.J m.jams.length q.jc, .slice q.S m.loss.length q.sc] 34) = W at *
    go_wp2_with (first
      | (go_at_call 10; refine (HL.out _).mono ?_; rintro e w1 ⟨rfl, BW⟩; have U1 := U0.below BW)
      | (go_at_call 23; refine (HFew.out _).mono ?_; rintro e w2 ⟨rfl, b2⟩; have BW := thenB BW b2; have U1 := U0.below BW)
      | (go_at_call 20; refine (HRc.out _ (hM.later (thenB B0 BW)) (ta.later (thenB B0 BW))).mono ?_; rintro e w5 ⟨rfl, b5⟩; have BW := thenB BW b5; have U1 := U0.below BW))
    go_ret
    exact ⟨rfl, thenB B0 BW⟩
end Go.Proofs.Ytocmcjbhmjbmhaa.Air
