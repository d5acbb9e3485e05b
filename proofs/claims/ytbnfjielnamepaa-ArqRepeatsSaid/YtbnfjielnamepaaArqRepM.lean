/- Acknowledgement: what is sent again: mathematics. -/
import Derived.Test.YtbnfjielnamepaaArqMath
set_option linter.unusedVariables false
set_option linter.unusedSimpArgs false
namespace Go.Proofs.Ytbnfjielnamepaa.Arq
open Go.RowKit Mem Oct Dp

/-! ### Repetition -/
theorem queue_keeps (s : Sd) (p : Pk) : (queueR s p).1.sn = s.sn ∧ (queueR s p).1.nesn = s.nesn ∧ (queueR s p).1.op = s.op ∧ (queueR s p).1.em = s.em ∧ ∃ m, (queueR s p).1.q = s.q ++ m := by
  unfold queueR
  split
  · split
    · exact ⟨rfl, rfl, rfl, rfl, [], by simp⟩
    · exact ⟨rfl, rfl, rfl, rfl, [p], rfl⟩
  · exact ⟨rfl, rfl, rfl, rfl, [], by simp⟩
/-- Of a later state of an open side the same is sent. -/
def Later (s t : Sd) : Prop := t.sn = s.sn ∧ t.nesn = s.nesn ∧ t.op = s.op ∧ t.em = s.em ∧ ∃ m, t.q = s.q ++ m
theorem later_refl (s : Sd) : Later s s := ⟨rfl, rfl, rfl, rfl, [], by simp⟩
theorem later_queue {s t : Sd} (h : Later s t) (p : Pk) : Later s (queueR t p).1 := by
  obtain ⟨h1, h2, h3, h4, m, h5⟩ := h
  obtain ⟨g1, g2, g3, g4, m', g5⟩ := queue_keeps t p
  exact ⟨g1.trans h1, g2.trans h2, g3.trans h3, g4.trans h4, m ++ m', by rw [g5, h5, List.append_assoc]⟩
theorem later_same {s t : Sd} (h : Later s t) (ho : s.op = true) (hq : s.em = false → s.q ≠ []) :
    (pduR (openR t)).sn = (pduR s).sn ∧ (pduR (openR t)).nesn = (pduR s).nesn ∧ (pduR (openR t)).pk = (pduR s).pk ∧ (pduR s).md ≤ (pduR (openR t)).md := by
  obtain ⟨h1, h2, h3, h4, m, h5⟩ := h
  have e : openR t = t := by unfold openR; rw [if_pos (h3.trans ho)]
  rw [e]
  refine ⟨by rw [(pdu_bits t).1, (pdu_bits s).1, h1], by rw [(pdu_bits t).2.1, (pdu_bits s).2.1, h2], ?_, ?_⟩
  · unfold pduR
    cases he : s.em with
    | true => rw [h4, he]
    | false =>
      have := hq he
      cases hs : s.q with
      | nil => exact absurd hs this
      | cons x r => rw [h4, he, h5, hs]; rfl
  · unfold pduR
    cases he : s.em with
    | true =>
      rw [h4, he, h5]
      simp only
      by_cases hs : s.q = []
      · rw [if_pos hs]; split <;> decide
      · rw [if_neg hs, if_neg (by simp [hs])]; decide
    | false =>
      have := hq he
      cases hs : s.q with
      | nil => exact absurd hs this
      | cons x r =>
        rw [h4, he, h5, hs]
        simp only [List.cons_append]
        by_cases hr : r = []
        · rw [if_pos hr]; split <;> decide
        · rw [if_neg hr, if_neg (by simp [hr])]; decide
end Go.Proofs.Ytbnfjielnamepaa.Arq
