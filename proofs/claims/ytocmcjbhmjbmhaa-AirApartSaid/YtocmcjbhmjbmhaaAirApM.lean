/- What a receiver gets does not depend on a transmission of another device on another channel: the mathematics; parts of rows. -/
import Derived.Test.YtocmcjbhmjbmhaaAirValid
set_option linter.unusedVariables false
set_option linter.unusedSimpArgs false
namespace Go.Proofs.Ytocmcjbhmjbmhaa.Air
open Go.RowKit Mem Rw Base

theorem bst_append {P : Tr → Bool} : ∀ (a b : List Tr) (j : Nat) (o : Option (Nat × Tr)), bst P (a ++ b) j o = bst P b (j + a.length) (bst P a j o)
  | [], b, j, o => by simp [bst]
  | x :: r, b, j, o => by
    rw [List.cons_append, bst, bst, bst_append r b (j + 1)]
    congr 1
    simp only [List.length_cons]; omega
/-- The place of a transmission behind one that is put in at k. -/
def sh (k : Nat) (x : Nat × Tr) : Nat × Tr := (if x.1 < k then x.1 else x.1 + 1, x.2)
theorem upd_sh {P : Tr → Bool} (k j : Nat) (h : k ≤ j) (o : Option (Nat × Tr)) (t : Tr) : upd P (o.map (sh k)) (j + 1) t = (upd P o j t).map (sh k) := by
  unfold upd
  have e : sh k (j, t) = (j + 1, t) := by unfold sh; simp only; rw [if_neg (by omega)]
  split
  · cases o with
    | none => simp [e]
    | some q =>
      obtain ⟨b, u⟩ := q
      simp only [Option.map_some]
      show (if t.st < u.st then some (j + 1, t) else some (sh k (b, u))) = _
      split
      · simp [e]
      · rfl
  · rfl
theorem bst_sh {P : Tr → Bool} (k : Nat) : ∀ (l : List Tr) (j : Nat) (o : Option (Nat × Tr)), k ≤ j → bst P l (j + 1) (o.map (sh k)) = (bst P l j o).map (sh k)
  | [], j, o, _ => rfl
  | t :: r, j, o, h => by
    rw [bst, bst, upd_sh k j h o t, bst_sh k r (j + 1) _ (by omega)]
/-- What is found has a place ahead of the end, and fits. -/
theorem bst_fit {P : Tr → Bool} : ∀ (l : List Tr) (j : Nat) (o : Option (Nat × Tr)) (b : Nat) (t : Tr), bst P l j o = some (b, t) → o = some (b, t) ∨ (P t = true ∧ j ≤ b ∧ b < j + l.length ∧ l[b - j]? = some t)
  | [], j, o, b, t, h => .inl h
  | x :: r, j, o, b, t, h => by
    rw [bst] at h
    rcases bst_fit r (j + 1) _ b t h with h1 | ⟨h1, h2, h3, h4⟩
    · unfold upd at h1
      have fresh : some (j, x) = some (b, t) → P x = true → P t = true ∧ j ≤ b ∧ b < j + (x :: r).length ∧ (x :: r)[b - j]? = some t := fun e hp => by
        injection e with e; injection e with e1 e2; subst e1; subst e2
        exact ⟨hp, Nat.le_refl _, by simp, by simp⟩
      split at h1
      · rename_i hp
        cases o with
        | none => exact .inr (fresh h1 hp)
        | some q =>
          obtain ⟨c, u⟩ := q
          simp only at h1
          split at h1
          · exact .inr (fresh h1 hp)
          · exact .inl h1
      · exact .inl h1
    · refine .inr ⟨h1, by omega, by simp only [List.length_cons]; omega, ?_⟩
      rw [show b - j = (b - (j + 1)) + 1 by omega, List.getElem?_cons_succ]; exact h4
theorem bst_low {P : Tr → Bool} (l : List Tr) (k : Nat) (hk : l.length ≤ k) : (bst P l 0 none).map (sh k) = bst P l 0 none := by
  cases h : bst P l 0 none with
  | none => rfl
  | some q =>
    obtain ⟨b, t⟩ := q
    rcases bst_fit l 0 none b t h with h1 | ⟨_, _, h3, _⟩
    · cases h1
    · simp only [Option.map_some]
      unfold sh
      rw [if_pos (by simp only; omega)]
theorem anyI_append {α : Type} {P : Nat → α → Bool} : ∀ (a b : List α) (j : Nat), anyI P (a ++ b) j = (anyI P a j || anyI P b (j + a.length))
  | [], b, j => by simp [anyI]
  | x :: r, b, j => by
    rw [List.cons_append, anyI, anyI, anyI_append r b (j + 1), Bool.or_assoc]
    congr 3
    simp only [List.length_cons]; omega
theorem anyI_eq {α : Type} {P Q : Nat → α → Bool} : ∀ (l : List α) (i j : Nat), (∀ d x, d < l.length → P (i + d) x = Q (j + d) x) → anyI P l i = anyI Q l j
  | [], _, _, _ => rfl
  | x :: r, i, j, h => by
    rw [anyI, anyI, anyI_eq r (i + 1) (j + 1) (fun d x hd => by
      have := h (d + 1) x (by simp only [List.length_cons]; omega)
      rw [show i + 1 + d = i + (d + 1) by omega, show j + 1 + d = j + (d + 1) by omega]; exact this)]
    have := h 0 x (by simp)
    rw [Nat.add_zero, Nat.add_zero] at this
    rw [this]
/-- What a receiver gets with and without a transmission of another device on another channel. -/
theorem apart_math (m : Med) (l1 l2 : List Tr) (u : Tr) (q : Ln) (hf : u.frm ≠ q.dev) (hc : u.ch ≠ q.ch) :
    (hearR m (l1 ++ l2) q = none → hearR m (l1 ++ u :: l2) q = none) ∧
    ∀ b t, hearR m (l1 ++ l2) q = some (b, t) → ∃ b2, hearR m (l1 ++ u :: l2) q = some (b2, t) ∧ disT m (l1 ++ u :: l2) t b2 q.dev = disT m (l1 ++ l2) t b q.dev := by
  have hu : reachB m.links q u = false := by
    unfold reachB
    have : (u.ch == q.ch) = false := by simpa using hc
    rw [this]; simp
  have key : hearR m (l1 ++ u :: l2) q = (hearR m (l1 ++ l2) q).map (sh l1.length) := by
    unfold hearR
    rw [bst_append, bst_append, bst]
    have e : upd (reachB m.links q) (bst (reachB m.links q) l1 0 none) (0 + l1.length) u = (bst (reachB m.links q) l1 0 none).map (sh l1.length) := by
      rw [bst_low l1 l1.length (Nat.le_refl _)]; unfold upd; rw [hu]; rfl
    rw [e, bst_sh l1.length l2 (0 + l1.length) _ (by omega)]
  refine ⟨fun h => by rw [key, h]; rfl, fun b t h => ?_⟩
  refine ⟨(sh l1.length (b, t)).1, by rw [key, h]; rfl, ?_⟩
  have ht : t.ch = q.ch := by
    rcases bst_fit _ 0 none b t h with h1 | ⟨h1, _⟩
    · cases h1
    · unfold reachB at h1
      simp only [Bool.and_eq_true, beq_iff_eq] at h1
      exact h1.1.1.1
  have ha : anyI (colB m.links t (sh l1.length (b, t)).1 q.dev) (l1 ++ u :: l2) 0 = anyI (colB m.links t b q.dev) (l1 ++ l2) 0 := by
    rw [anyI_append, anyI_append, anyI]
    have h0 : colB m.links t (sh l1.length (b, t)).1 q.dev (0 + l1.length) u = false := by
      unfold colB overB
      have e1 : (u.frm == q.dev) = false := by simpa using hf
      have e2 : decide (u.ch = t.ch) = false := decide_eq_false (by rw [ht]; exact hc)
      rw [e1, e2]; simp
    rw [h0, Bool.false_or]
    congr 1
    · apply anyI_eq
      intro d x hd
      unfold colB
      congr 1
      unfold sh
      simp only
      split <;> rw [decide_eq_decide] <;> omega
    · apply anyI_eq
      intro d x hd
      unfold colB
      congr 1
      unfold sh
      simp only
      split <;> rw [decide_eq_decide] <;> omega
  unfold disT
  rw [ha]
theorem flat_take {l : List Tx} {w : World} {B : Nat} {A : Option Addr} (h : TxsAt w B A l) (k : Nat) : TxsAt w B A (l.take k) := by
  refine ⟨?_, fun x hx => h.2 x (List.mem_of_mem_take hx)⟩
  rcases h.1 with h1 | ⟨b, off, e, hlt, hc⟩
  · left
    have h2 : l = [] := by
      cases l with
      | nil => rfl
      | cons x r => simp [encT] at h1
    rw [h2]; simp
  · right
    refine ⟨b, off, e, hlt, fun q u hq => hc q u ?_⟩
    have e2 : l.flatMap encT = (l.take k).flatMap encT ++ (l.drop k).flatMap encT := by rw [← List.flatMap_append, List.take_append_drop]
    rw [e2, List.getElem?_append_left (by
      rcases Nat.lt_or_ge q ((l.take k).flatMap encT).length with g | g
      · exact g
      · rw [List.getElem?_eq_none g] at hq; cases hq)]
    exact hq
theorem flat_drop {l : List Tx} {w : World} {B b off c : Nat} (h : TxsAt w B (some ⟨b, off, none⟩) l) (k : Nat) (hk : k ≤ l.length) (hc : l.length ≤ c) :
    TxsAt w B (if c = k then some ⟨b, off, none⟩ else some ⟨b, off + k * 5, none⟩) (l.drop k) := by
  refine ⟨?_, fun x hx => h.2 x (List.mem_of_mem_drop hx)⟩
  by_cases hck : c = k
  · have : l.drop k = [] := List.drop_eq_nil_of_le (by omega)
    rw [this]; exact .inl rfl
  · rw [if_neg hck]
    rcases h.1 with h1 | ⟨b', off', e, hlt, hcc⟩
    · left
      have h2 : l = [] := by
        cases l with
        | nil => rfl
        | cons x r => simp [encT] at h1
      rw [h2]; simp
    · right
      injection e with e; injection e with e1 e2 _
      subst e1; subst e2
      refine ⟨b, off + k * 5, rfl, hlt, fun q u hq => ?_⟩
      have e2 : l.flatMap encT = (l.take k).flatMap encT ++ (l.drop k).flatMap encT := by rw [← List.flatMap_append, List.take_append_drop]
      have hl : ((l.take k).flatMap encT).length = k * 5 := by rw [flat_len sizT, List.length_take, Nat.min_eq_left hk]
      have := hcc (k * 5 + q) u (by rw [e2, List.getElem?_append_right (by omega), hl, show k * 5 + q - k * 5 = q by omega]; exact hq)
      rw [Nat.add_assoc]; exact this
end Go.Proofs.Ytocmcjbhmjbmhaa.Air
