/- The contracts of the medium's functions on media and lists by value; whether they are few. -/
import Derived.Test.YtocmcjbhmjbmhaaAirLives
import Derived.Test.YtocmcjbhmjbmhaaAirArgs
import Derived.Test.YtocmcjbhmjbmhaaAirRCheck
import Derived.Test.YtocmcjbhmjbmhaaAirCopy
import Derived.Test.YtocmcjbhmjbmhaaAirOwn
set_option linter.unusedVariables false
set_option linter.unusedSimpArgs false
namespace Go.Proofs.Ytocmcjbhmjbmhaa.Air
open Go.RowKit Mem Rw Base Rd

theorem own_m (m : Med) (p : Pl) (w : World) (h : MedAt w w.heap.size p m) (hj : m.jams.length ≤ 5864062014805) :
    Calls Try.prog 18 #[mv m p] w fun e w' => ∃ p' : Pl, e = .returned (mv m p') ∧ MedAt w' w'.heap.size p' m ∧ Below w.heap.size w w' := by
  refine (own_any m.dev p.A p.J p.S m.links.length p.ac m.jams.length p.jc m.loss.length p.sc m.links m.jams m.loss w rfl rfl rfl h.a h.j h.s h.ab hj h.sb).mono ?_
  rintro e w' ⟨A1, c1, A2, c2, A3, c3, rfl, _, _, _, r1, r2, r3, b⟩
  exact ⟨⟨A1, c1, A2, c2, A3, c3⟩, rfl, ⟨r1, r2, r3, h.ab, h.jb, h.sb⟩, b⟩
theorem copy_m (L : Option Addr) (kc : Nat) (l : List Tx) (w : World) (hk : l.length * 56 ≤ 140737488351232) (hr : TxsAt w w.heap.size L l) :
    Calls Try.prog 19 #[.slice L l.length kc] w fun e w' => ∃ A c, ∃ l' : List Tx, e = .returned (.slice A l.length c) ∧ l'.length = l.length ∧ l'.map Tx.tr = l.map Tx.tr ∧ TxsAt w' w'.heap.size A l' ∧ Below w.heap.size w w' := by
  refine (copy_any L l.length kc l w rfl hk hr).mono ?_
  rintro e w' ⟨A, c, l', rfl, _, h1, h2, h3, b⟩
  exact ⟨A, c, l', rfl, h1, h2, h3, b⟩
theorem check_m (m : Med) (p : Pl) (L : Option Addr) (kc k : Nat) (l : List Tx) (ts : List Tr) (w : World) (hl : l.length = k) (ht : l.map Tx.tr = ts) (hk : k ≤ 8796093022208) (hm : MedAt w w.heap.size p m) (hr : TxsAt w w.heap.size L l) :
    Calls Try.prog 17 #[mv m p, .slice L k kc] w fun e w' => e = .returned (.int .i64 (chk m ts)) ∧ Below w.heap.size w w' := by
  subst hl; subst ht
  exact check_any m p L kc l w hk hm hr
theorem inrange_m (m : Med) (p : Pl) (x y : Int) (w : World) (hm : MedAt w w.heap.size p m) :
    Calls Try.prog 21 #[mv m p, .int .i64 x, .int .i64 y] w fun e w' => e = .returned (.bool (inR m.links x y)) ∧ Below w.heap.size w w' :=
  inrange_any m.dev x y p.A p.J p.S m.links.length p.ac m.jams.length p.jc m.loss.length p.sc m.links w rfl hm.ab hm.a
theorem rinrange_m (m : Med) (p : Pl) (x y : Int) (w : World) (hm : MedAt w w.heap.size p m) :
    Calls Try.prog 22 #[mv m p, .int .i64 x, .int .i64 y] w fun e w' => e = .returned (.bool (inR m.links x y)) ∧ Below w.heap.size w w' :=
  rinrange_any m.dev x y p.A p.J p.S m.links.length p.ac m.jams.length p.jc m.loss.length p.sc m.links w rfl hm.ab hm.a
/-- Neither many links, jams and losses nor many transmissions. -/
def fewP (m : Med) (k : Nat) : Prop := m.links.length ≤ 64 ∧ m.jams.length ≤ 64 ∧ m.loss.length ≤ 64 ∧ k ≤ 64
instance (m : Med) (k : Nat) : Decidable (fewP m k) := by unfold fewP; infer_instance
theorem few_any (m : Med) (p : Pl) (L : Option Addr) (k kc : Nat) (w : World) :
    Calls Try.prog 23 #[mv m p, .slice L k kc] w fun e w' => e = .returned (.bool (decide (fewP m k))) ∧ Below w.heap.size w w' := by
  have B0 : Below w.heap.size w (w.alloc (.cells #[.int .i64 m.dev, .slice p.A m.links.length p.ac, .slice p.J m.jams.length p.jc, .slice p.S m.loss.length p.sc] 34)) := (Below.refl _ w).alloc (Nat.le_refl _) _
  have e : fewP m k = (m.links.length ≤ 64 ∧ m.jams.length ≤ 64 ∧ m.loss.length ≤ 64 ∧ k ≤ 64) := rfl
  unfold mv
  by_cases c1 : m.links.length ≤ 64
  · by_cases c2 : m.jams.length ≤ 64
    · by_cases c3 : m.loss.length ≤ 64
      · by_cases c4 : k ≤ 64
        · have q : fewP m k := ⟨c1, c2, c3, c4⟩
          rw [decide_eq_true q]
          clear q e
          generalize m.links.length = n1 at *
          generalize m.jams.length = n2 at *
          generalize m.loss.length = n3 at *
          have d1 : (n1 : Int) ≤ 64 := by omega
          have d2 : (n2 : Int) ≤ 64 := by omega
          have d3 : (n3 : Int) ≤ 64 := by omega
          have d4 : (k : Int) ≤ 64 := by omega
          go_enter Try.func23, Try.ntmps23
          go_wp2_with fail
          go_ret
          exact ⟨rfl, B0⟩
        · have q : ¬ fewP m k := fun h => c4 h.2.2.2
          rw [decide_eq_false q]
          clear q e
          generalize m.links.length = n1 at *
          generalize m.jams.length = n2 at *
          generalize m.loss.length = n3 at *
          have d1 : (n1 : Int) ≤ 64 := by omega
          have d2 : (n2 : Int) ≤ 64 := by omega
          have d3 : (n3 : Int) ≤ 64 := by omega
          have d4 : ¬ (k : Int) ≤ 64 := by omega
          go_enter Try.func23, Try.ntmps23
          go_wp2_with fail
          go_ret
          exact ⟨by simp [d4, c4], B0⟩
      · have q : ¬ fewP m k := fun h => c3 h.2.2.1
        rw [decide_eq_false q]
        clear q e
        generalize m.links.length = n1 at *
        generalize m.jams.length = n2 at *
        generalize m.loss.length = n3 at *
        have d1 : (n1 : Int) ≤ 64 := by omega
        have d2 : (n2 : Int) ≤ 64 := by omega
        have d3 : ¬ (n3 : Int) ≤ 64 := by omega
        go_enter Try.func23, Try.ntmps23
        go_wp2_with fail
        go_ret
        exact ⟨rfl, B0⟩
    · have q : ¬ fewP m k := fun h => c2 h.2.1
      rw [decide_eq_false q]
      clear q e
      generalize m.links.length = n1 at *
      generalize m.jams.length = n2 at *
      generalize m.loss.length = n3 at *
      have d1 : (n1 : Int) ≤ 64 := by omega
      have d2 : ¬ (n2 : Int) ≤ 64 := by omega
      go_enter Try.func23, Try.ntmps23
      go_wp2_with fail
      go_ret
      exact ⟨rfl, B0⟩
  · have q : ¬ fewP m k := fun h => c1 h.1
    rw [decide_eq_false q]
    clear q e
    generalize m.links.length = n1 at *
    generalize m.jams.length = n2 at *
    generalize m.loss.length = n3 at *
    have d1 : ¬ (n1 : Int) ≤ 64 := by omega
    go_enter Try.func23, Try.ntmps23
    go_wp2_with fail
    go_ret
    exact ⟨rfl, B0⟩
end Go.Proofs.Ytocmcjbhmjbmhaa.Air
