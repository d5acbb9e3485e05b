/- The channels of a map, one after the other: the iterator, the list, an element: contracts over the program. -/
import Derived.RangeFuncNested
import Derived.RangeFuncBound
import Derived.RangeFuncCalls
import Derived.RangeFuncLeaves
import Derived.RangeFuncBox
import Derived.Shelf.Abstract
import Derived.Shelf.RegionOpen
import Derived.WalkKit
import Derived.OwnWalkIn
import Derived.TacticsInMore
import Derived.LoopNIn
import Derived.LoopIn
import Derived.Maps.AppendAt
import Derived.Test.YtpoagepchlfemaaBase
import Derived.Test.YtpoagepchlfemaaChmWalks
set_option linter.unusedVariables false
set_option linter.unusedSimpArgs false
namespace Go.Proofs.Ytpoagepchlfemaa.Chm
open Go.RowKit Go.Shelf Mem
attribute [local go_sem] Oper.semAt_some

/-- The channels below c. -/
def chb (m c : Nat) : List Nat := (List.range c).filter (hasN m)
theorem chb_yes {m c : Nat} (h : hasN m c = true) : chb m (c + 1) = chb m c ++ [c] := by unfold chb; rw [List.range_succ, List.filter_append]; simp [h]
theorem chb_no {m c : Nat} (h : hasN m c = false) : chb m (c + 1) = chb m c := by unfold chb; rw [List.range_succ, List.filter_append]; simp [h]
theorem chb_len (m c : Nat) : (chb m c).length ≤ c := by
  have := List.length_filter_le (hasN m) (List.range c)
  rwa [List.length_range] at this
theorem boxed_below {W W' : World} {B : Nat} {t : TypeId} {v : Value} (h : Boxed W B t v) (hb : Below W.heap.size W W') : Boxed W' B t v := (hb.block B h.lt).trans h
theorem info_int : (Try.prog.info? 3).map (fun i => (i.zero, i.size, i.bytes)) = some (some (.int .i64 0), 1, 8) := by kernel_rfl
/-- What a call makes of integers: a row of its own. -/
def MakesI (w w' : World) (e : Ending) (zs : List Int) : Prop :=
  ∃ A c, e = .returned (.slice A zs.length c) ∧ w'.ownsRow w.heap.size 3 1 (.slice A zs.length c) zs.length (zs.map (Value.int .i64)) ∧ Below w.heap.size w w'
theorem makesI_of {w w' : World} {e : Ending} {v : Value} {n : Nat} {zs : List Int} (he : e = .returned v) (hn : zs.length = n) (h : w'.ownsRow w.heap.size 3 1 v n (zs.map (Value.int .i64))) (hb : Below w.heap.size w w') : MakesI w w' e zs := by
  obtain ⟨A, c, hv⟩ := own_form h
  subst hn
  exact ⟨A, c, by rw [he, hv], by rw [← hv]; exact h, hb⟩
theorem MakesI.read {w w' : World} {e : Ending} {zs : List Int} (h : MakesI w w' e zs) {n : Nat} (hn : zs.length = n) : ∃ A c, e = .returned (.slice A n c) ∧ n ≤ c ∧ Ints .i64 w' w'.heap.size A zs ∧ Below w.heap.size w w' := by
  subst hn
  obtain ⟨A, c, he, ho, hb⟩ := h
  exact ⟨A, c, he, own_cap ho, Ints.own ho, hb⟩
def zs (l : List Nat) : List Int := l.map (fun c : Nat => (c : Int))
theorem zs_len (l : List Nat) : (zs l).length = l.length := by simp [zs]
theorem zs_snoc (l : List Nat) (c : Nat) : zs (l ++ [c]) = zs l ++ [(c : Int)] := by simp [zs]
/-- Element i of the list, or -1. -/
def nthZ (m : Nat) (i : Int) : Int := if 0 ≤ i ∧ i.toNat < (chans m).length then ((chans m).getD i.toNat 0 : Nat) else -1
theorem chb_at {m c : Nat} (hc : c < 37) (h : hasN m c = true) : (chb m c).length < (chans m).length ∧ (chans m).getD (chb m c).length 0 = c := by
  have e : chans m = chb m c ++ (c :: ((List.range' (c + 1) (36 - c)).filter (hasN m))) := by
    unfold chans chb
    have : List.range 37 = List.range c ++ (c :: List.range' (c + 1) (36 - c)) := by
      rw [List.range_eq_range', List.range_eq_range', ← List.range'_succ]
      rw [show 36 - c + 1 = 37 - c by omega]
      have := List.range'_append_1 (s := 0) (m := c) (n := 37 - c)
      rw [Nat.zero_add] at this
      rw [this]
      congr 1; omega
    rw [this, List.filter_append, List.filter_cons, if_pos h]
  rw [e]
  refine ⟨by simp, ?_⟩
  simp [List.getD]
/-- What takes the place of a channel. -/
def limC (c : Int) : Int := max 0 (min c 36)
def remapZ (m : Nat) (c : Int) : Int := if (chans m).length = 0 then -1 else if hasZ m (limC c) then limC c else nthZ m (limC c % ((chans m).length : Nat))
end Go.Proofs.Ytpoagepchlfemaa.Chm
