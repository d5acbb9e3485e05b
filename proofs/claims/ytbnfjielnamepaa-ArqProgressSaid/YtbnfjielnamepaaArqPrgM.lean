/- Acknowledgement: without losses every exchange brings one packet over: plain mathematics. No program is mentioned. -/
import Derived.Test.YtbnfjielnamepaaArqMath
set_option linter.unusedVariables false
set_option linter.unusedSimpArgs false
namespace Go.Proofs.Ytbnfjielnamepaa.Arq
open Dp
/-- After packets were queued on the first side. -/
def Wt (x : En) (j : Nat) : Prop := ∃ q : List Pk, (∀ y ∈ q, canW y = true) ∧ q.length ≤ j ∧ x = ⟨⟨0, 0, q, false, false, 0, 0⟩, new0, q, [], [], []⟩
theorem wt_new : Wt en0 0 := ⟨[], by simp, Nat.le_refl _, rfl⟩
theorem wt_step {x : En} {j : Nat} (h : Wt x j) (p : Pk) : Wt (moveR x 0 false p) (j + 1) := by
  obtain ⟨q, hc, hl, rfl⟩ := h
  unfold moveR queueR
  rw [if_pos rfl]
  by_cases hk : canW p = true
  · by_cases h64 : 64 ≤ q.length
    · simp only [if_pos hk, if_pos h64]
      exact ⟨q, hc, by omega, rfl⟩
    · simp only [if_pos hk, if_neg h64]
      refine ⟨q ++ [p], ?_, by simp; omega, rfl⟩
      intro y hy
      rcases List.mem_append.mp hy with hy | hy
      · exact hc y hy
      · rw [List.mem_singleton.mp hy]; exact hk
  · simp only [if_neg hk]
    exact ⟨q, hc, by omega, rfl⟩
/-- After i exchanges. -/
def Pg (Q : List Pk) (i : Nat) (x : En) : Prop := ∃ (v s : Int) (o : Bool), (v = 0 ∨ v = 1) ∧ ((o = false ∧ s = v) ∨ (o = true ∧ s = 1 - v)) ∧ x = ⟨⟨v, v, Q.drop i, false, false, i, 0⟩, ⟨s, v, [], o, o, 0, i⟩, Q, [], [], Q.take i⟩
theorem pg_new {x : En} {j : Nat} (h : Wt x j) : ∃ Q : List Pk, Pg Q 0 x ∧ (∀ y ∈ Q, canW y = true) ∧ Q.length ≤ j := by
  obtain ⟨q, hc, hl, rfl⟩ := h
  exact ⟨q, ⟨0, 0, false, .inl rfl, .inl ⟨rfl, rfl⟩, rfl⟩, hc, hl⟩
theorem pg_step {Q : List Pk} {i : Nat} {x : En} (h : Pg Q i x) (hc : ∀ y ∈ Q, canW y = true) (hi : i < Q.length) (p p' : Pk) : Pg Q (i + 1) (moveR (moveR x 2 false p) 3 false p') := by
  obtain ⟨v, s, o, hv, hs, rfl⟩ := h
  obtain ⟨y, r, hd⟩ : ∃ y r, Q.drop i = y :: r := by
    cases h : Q.drop i with
    | nil => rw [List.drop_eq_nil_iff] at h; omega
    | cons y r => exact ⟨y, r, rfl⟩
  have hy : Q[i]? = some y := by
    have h2 : (Q.drop i)[0]? = some y := by rw [hd]; rfl
    simpa using h2
  have hb : blankB y.1 y.2.length = false := (can_chk (hc y (List.mem_of_getElem? hy))).2.1
  have hr : r = Q.drop (i + 1) := by rw [← List.tail_drop, hd]; rfl
  have ht : Q.take i ++ [y] = Q.take (i + 1) := by rw [List.take_add_one, hy]; rfl
  have hblk : blankB (1 : Int) 0 = true := by decide
  have e1 : moveR (⟨⟨v, v, Q.drop i, false, false, i, 0⟩, ⟨s, v, [], o, o, 0, i⟩, Q, [], [], Q.take i⟩ : En) 2 false p = ⟨⟨v, v, y :: r, true, false, i, 0⟩, ⟨v, 1 - v, [], false, false, 0, i + 1⟩, Q, [], [], Q.take (i + 1)⟩ := by
    rw [hd]
    rcases hs with ⟨rfl, rfl⟩ | ⟨rfl, rfl⟩
    · simp [moveR, openR, pduR, takeS, tk1, tk2, ackB, ackd, newB, freshB, blankP, hb, hblk, blk, ht]
    · have h1 : v ≠ 1 - v := by omega
      simp [moveR, openR, pduR, takeS, tk1, tk2, ackB, ackd, newB, freshB, blankP, hb, hblk, blk, ht, h1]
      omega
  rw [e1]
  refine ⟨1 - v, v, true, bit_flip hv, .inr ⟨rfl, by omega⟩, ?_⟩
  have h1 : ¬ (1 - v = v) := by omega
  rw [← hr]
  simp [moveR, openR, pduR, takeS, tk1, tk2, ackB, ackd, newB, freshB, blankP, hb, hblk, blk, h1]
theorem pg_end {Q : List Pk} {x : En} (h : Pg Q Q.length x) : x.gb = x.qa ∧ x.a.q = [] ∧ x.a.op = false ∧ x.ga = [] := by
  obtain ⟨v, s, o, hv, hs, rfl⟩ := h
  exact ⟨List.take_length, List.drop_length, rfl, rfl⟩
theorem pg_qa {Q : List Pk} {i : Nat} {x : En} (h : Pg Q i x) : x.qa = Q := by
  obtain ⟨v, s, o, hv, hs, rfl⟩ := h
  rfl
end Go.Proofs.Ytbnfjielnamepaa.Arq
