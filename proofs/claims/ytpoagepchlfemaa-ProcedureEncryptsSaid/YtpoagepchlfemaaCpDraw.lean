/- A region that draws its order, by an invariant: whichever operation comes up next keeps it. No program is mentioned. -/
import Derived.OrdersHeld
import Derived.WalkKit
import Derived.Great.BuildSlice
import Derived.Test.YtpoagepchlfemaaAvRow
set_option linter.unusedVariables false
set_option linter.unusedSimpArgs false
namespace Go.Proofs.Ytpoagepchlfemaa.Draw
open Go.RowKit Mem Rw

/-- How many operations have not come up yet. -/
def left (listed : Array Bool) : Nat := listed.toList.countP (fun b => !b)
theorem countP_set : ∀ (l : List Bool) (i : Nat), l[i]? = some false → (l.set i true).countP (fun b => !b) + 1 = l.countP (fun b => !b)
  | [], i, h => by simp at h
  | b :: r, 0, h => by
    simp at h; subst h
    simp
  | b :: r, i + 1, h => by
    have := countP_set r i (by simpa using h)
    simp only [List.set_cons_succ, List.countP_cons]
    omega
theorem left_set {listed : Array Bool} {i : Nat} (h : listed.getD i true = false) : left (listed.setIfInBounds i true) + 1 = left listed := by
  have h' : listed.toList[i]? = some false := by
    rcases Nat.lt_or_ge i listed.size with hi | hi
    · simp [hi] at h
      simp [hi, h]
    · simp [Array.getD, Nat.not_lt.mpr hi] at h
  unfold left
  rw [Array.toList_setIfInBounds]
  exact countP_set _ _ h'
theorem left_pos {listed : Array Bool} {i : Nat} (h : listed.getD i true = false) : 0 < left listed := by
  have := left_set h
  omega
theorem left_new (n : Nat) : left (Array.replicate n false) = n := by
  unfold left
  rw [Array.toList_replicate]
  induction n with
  | zero => rfl
  | succ n ih => rw [List.replicate_succ, List.countP_cons, ih]; simp
section
variable {P : Program} {ops : Array Oper} {Q : Exit → Act → World → Prop} {md : Region.Mode}
theorem wpAny_inv (Inv : Array Bool → Act → World → Prop)
    (step : ∀ listed a w i, Inv listed a w → i ∈ Region.ready md ops listed → wpOp P ops Q i (fun a' w' => Inv (listed.setIfInBounds i true) a' w') a w)
    (done : ∀ listed a w, Inv listed a w → Region.ready md ops listed = [] → Q .normal a w) :
    ∀ (fuel : Nat) (listed : Array Bool) (a : Act) (w : World), left listed ≤ fuel → Inv listed a w → wpAny P md ops Q fuel listed a w
  | 0, listed, a, w, hf, h => by
    have hr : Region.ready md ops listed = [] := by
      cases hr : Region.ready md ops listed with
      | nil => rfl
      | cons i r =>
        have := left_pos (mem_ready.1 (hr ▸ List.mem_cons_self : i ∈ Region.ready md ops listed)).1
        omega
    exact ⟨hr, done _ _ _ h hr⟩
  | fuel + 1, listed, a, w, hf, h => by
    refine ⟨done _ _ _ h, fun i hi => wpOp_mono (fun a' w' h' => wpAny_inv Inv step done fuel _ a' w' ?_ h') (step _ _ _ i h hi)⟩
    have := left_set (mem_ready.1 hi).1
    omega
theorem wp_region_inv {id : Nat} {a : Act} {w : World} (hm : P.follows .mixedOrders = true) (Inv : Array Bool → Act → World → Prop)
    (start : Inv (Array.replicate ops.size false) a w.drew)
    (step : ∀ listed a w i, Inv listed a w → i ∈ Region.ready .any ops listed → wpOp P ops Q i (fun a' w' => Inv (listed.setIfInBounds i true) a' w') a w)
    (done : ∀ listed a w, Inv listed a w → Region.ready .any ops listed = [] → Q .normal a w) : (Code.region id ops true).wp P Q a w :=
  wp_region_any hm (wpAny_inv Inv step done _ _ _ _ (by rw [left_new]; exact Nat.le_refl _) start)
theorem wpOp_of {i : Nat} {o : Oper} {a : Act} {w : World} {K : Act → World → Prop} (hi : ops[i]? = some o) (hg : o.guard = none) (h : o.wp P a w K Q) : wpOp P ops Q i K a w := by
  unfold wpOp
  rw [hi]
  have : Region.wanted o (yielded ops a.tmps) = true := by simp [Region.wanted, hg]
  simp only [this, if_true]
  exact .inl h
/-- All have come up, if the edges lead back. -/
theorem all_done {listed : Array Bool} (hn : listed.size = ops.size) (hb : ∀ i o, ops[i]? = some o → ∀ e ∈ o.after, Region.binds md e = true → e.on < i) (h : Region.ready md ops listed = []) : ∀ i, i < ops.size → listed.getD i false = true := by
  intro i
  induction i using Nat.strongRecOn with
  | _ i ih =>
    intro hi
    cases hl : listed.getD i false with
    | true => rfl
    | false =>
      exfalso
      have hm : i ∈ Region.ready md ops listed := mem_ready.2 ⟨by
          have : i < listed.size := by omega
          simp [this] at hl ⊢
          exact hl, ops[i], by simp [hi], fun e he hbi => by
          have := hb i ops[i] (by simp [hi]) e he hbi
          exact ih e.on this (by omega)⟩
      rw [h] at hm
      cases hm
end
end Go.Proofs.Ytpoagepchlfemaa.Draw
