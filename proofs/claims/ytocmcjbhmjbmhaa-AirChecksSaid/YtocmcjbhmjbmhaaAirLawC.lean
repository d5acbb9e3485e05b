/- The statement on checks, walked: it returns true. -/
import Derived.Test.YtocmcjbhmjbmhaaAirForms
set_option linter.unusedVariables false
set_option linter.unusedSimpArgs false
namespace Go.Proofs.Ytocmcjbhmjbmhaa.Air
open Go.RowKit Mem Rw Base Rd

set_option maxHeartbeats 8000000 in
theorem checks_law (m : Med) (q : Pl) (A : Option Addr) (c : Nat) (xs : List Tx) (x y : Int) (w : World) (ga : GoodA w (m, q)) (ta : TxsAt w w.heap.size A xs) (g : ∀ x ∈ xs, GoodT w x) (hc : xs.length ≤ c) (hb : c * 56 ≤ 140737488351232)
    (hx : -9223372036854775808 ≤ x ∧ x ≤ 9223372036854775807) (hy : -9223372036854775808 ≤ y ∧ y ≤ 9223372036854775807) :
    Calls Try.prog 4 #[mv m q, .slice A xs.length c, .int .i64 x, .int .i64 y] w fun e w' => e = .returned (.bool true) ∧ Below w.heap.size w w' := by
  have hM : MedAt w w.heap.size q m := ga.2.1
  have hjb : m.jams.length ≤ 5864062014805 := ga.2.2.2.2.2.2.2.2
  have HL := Lib.hid lives_any
  have HOwn : Hid (∀ w' : World, MedAt w' w'.heap.size q m → Calls Try.prog 18 #[.agg #[.int .i64 m.dev, .slice q.A m.links.length q.ac, .slice q.J m.jams.length q.jc, .slice q.S m.loss.length q.sc]] w' fun e w2 => ∃ p' : Pl, e = .returned (mv m p') ∧ MedAt w2 w2.heap.size p' m ∧ Below w'.heap.size w' w2) := Lib.hid fun w' h => own_m m q w' h hjb
  have HCp : Hid (∀ w' : World, TxsAt w' w'.heap.size A xs → Calls Try.prog 19 #[.slice A xs.length c] w' fun e w2 => ∃ A' c', ∃ l' : List Tx, e = .returned (.slice A' xs.length c') ∧ l'.length = xs.length ∧ l'.map Tx.tr = xs.map Tx.tr ∧ TxsAt w2 w2.heap.size A' l' ∧ Below w'.heap.size w' w2) := Lib.hid fun w' h => copy_m A c xs w' (by omega) h
  have HCk : Hid (∀ (w' : World) (p : Pl) (A' : Option Addr) (c' : Nat) (l' : List Tx), l'.length = xs.length → l'.map Tx.tr = xs.map Tx.tr → MedAt w' w'.heap.size p m → TxsAt w' w'.heap.size A' l' → Calls Try.prog 17 #[mv m p, .slice A' xs.length c'] w' fun e w2 => e = .returned (.int .i64 (chk m (xs.map Tx.tr))) ∧ Below w'.heap.size w' w2) := Lib.hid fun w' p A' c' l' h1 h2 h3 h4 => check_m m p A' c' xs.length l' _ w' h1 h2 (by omega) h3 h4
  have HRc : Hid (∀ (w' : World), MedAt w' w'.heap.size q m → TxsAt w' w'.heap.size A xs → Calls Try.prog 20 #[.agg #[.int .i64 m.dev, .slice q.A m.links.length q.ac, .slice q.J m.jams.length q.jc, .slice q.S m.loss.length q.sc], .slice A xs.length c] w' fun e w2 => e = .returned (.int .i64 (chk m (xs.map Tx.tr))) ∧ Below w'.heap.size w' w2) := Lib.hid fun w' h3 h4 => rcheck_any m q A c xs w' (by omega) h3 h4
  have HIn : Hid (∀ (w' : World) (p : Pl), MedAt w' w'.heap.size p m → Calls Try.prog 21 #[mv m p, .int .i64 x, .int .i64 y] w' fun e w2 => e = .returned (.bool (inR m.links x y)) ∧ Below w'.heap.size w' w2) := Lib.hid fun w' p h => inrange_m m p x y w' h
  have HRi : Hid (∀ (w' : World), MedAt w' w'.heap.size q m → Calls Try.prog 22 #[.agg #[.int .i64 m.dev, .slice q.A m.links.length q.ac, .slice q.J m.jams.length q.jc, .slice q.S m.loss.length q.sc], .int .i64 x, .int .i64 y] w' fun e w2 => e = .returned (.bool (inR m.links x y)) ∧ Below w'.heap.size w' w2) := Lib.hid fun w' h => rinrange_m m q x y w' h
  generalize chk m (xs.map Tx.tr) = z at *
  generalize inR m.links x y = r at *
  have B0 : Below w.heap.size w (w.alloc (.cells #[.int .i64 m.dev, .slice q.A m.links.length q.ac, .slice q.J m.jams.length q.jc, .slice q.S m.loss.length q.sc] 34)) := (Below.refl _ w).alloc (Nat.le_refl _) _
  have U0 := four_of (Blk.fresh w 34 #[.int .i64 m.dev, .slice q.A m.links.length q.ac, .slice q.J m.jams.length q.jc, .slice q.S m.loss.length q.sc])
  clear ga g hc hb hjb
  rw [show mv m q = .agg #[.int .i64 m.dev, .slice q.A m.links.length q.ac, .slice q.J m.jams.length q.jc, .slice q.S m.loss.length q.sc] from rfl]
  go_enter Try.func4, Try.ntmps4
  go_wp2_with fail
  generalize w.alloc (.cells #[.int .i64 m.dev, .slice q.A m.links.length q.ac, .slice q.J m.jams.length q.jc, .slice q.S m.loss.length q.sc] 34) = W at *
  go_region_held3 (fun w' => Four w' w.heap.size m.dev (.slice q.A m.links.length q.ac) (.slice q.J m.jams.length q.jc) (.slice q.S m.loss.length q.sc)) (first | exact U0.below BW | exact U0) (first
    | (go_at_call 10; refine (HL.out _).mono ?_; rintro e w1 ⟨rfl, b1⟩; have BW : Below W.heap.size W w1 := dB (Below.refl _ _) b1)
    | (go_at_call 18; refine (HOwn.out _ (hM.later (thenB B0 BW))).mono ?_; rintro e w2 ⟨p, rfl, MO, b2⟩; have BW := thenB BW b2)
    | (go_at_call 19; refine (HCp.out _ (ta.later (thenB B0 BW))).mono ?_; rintro e w3 ⟨A3, c3, l3, rfl, q1, q2, T3, b3⟩; have BW := thenB BW b3; have MO := MO.later b3)
    | (go_at_call 17; refine (HCk.out _ _ _ _ _ q1 q2 MO T3).mono ?_; rintro e w4 ⟨rfl, b4⟩; have BW := thenB BW b4)
    | (go_at_call 20; refine (HRc.out _ (hM.later (thenB B0 BW)) (ta.later (thenB B0 BW))).mono ?_; rintro e w5 ⟨rfl, b5⟩; have BW := thenB BW b5)
    | (go_at_call 21; refine (HIn.out _ _ MO).mono ?_; rintro e w6 ⟨rfl, b6⟩; have BW := thenB BW b6)
    | (go_at_call 22; refine (HRi.out _ (hM.later (thenB B0 BW))).mono ?_; rintro e w7 ⟨rfl, b7⟩; have BW := thenB BW b7))
  all_goals
    go_wp2_with fail
    go_ret
    exact ⟨by simp, thenB B0 BW⟩
end Go.Proofs.Ytocmcjbhmjbmhaa.Air
