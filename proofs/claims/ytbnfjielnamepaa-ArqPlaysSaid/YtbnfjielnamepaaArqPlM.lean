/- Acknowledgement: what any sequence of calls keeps of a side: plain mathematics. No program is mentioned. -/
import Derived.Test.YtbnfjielnamepaaArqMath
set_option linter.unusedVariables false
set_option linter.unusedSimpArgs false
namespace Go.Proofs.Ytbnfjielnamepaa.Arq
open Dp
/-- After j calls. -/
structure Jn (s : Sd) (j : Nat) : Prop where
  bit : Bit s
  ack : s.ack ≤ j
  tak : s.tak ≤ j
  len : s.q.length ≤ j
theorem jn_new : Jn new0 0 := ⟨⟨.inl rfl, .inl rfl⟩, Nat.le_refl _, Nat.le_refl _, Nat.le_refl _⟩
theorem jn_more {s : Sd} {j : Nat} (h : Jn s j) : Jn s (j + 1) := ⟨h.bit, Nat.le_succ_of_le h.ack, Nat.le_succ_of_le h.tak, Nat.le_succ_of_le h.len⟩
theorem jn_queue {s : Sd} {j : Nat} (h : Jn s j) (p : Pk) : Jn (queueR s p).1 (j + 1) := by
  unfold queueR
  split
  · split
    · exact jn_more h
    · refine ⟨h.bit, Nat.le_succ_of_le h.ack, Nat.le_succ_of_le h.tak, ?_⟩
      have := h.len
      simp; omega
  · exact jn_more h
theorem jn_open {s : Sd} {j : Nat} (h : Jn s j) : Jn (openR s) (j + 1) := by
  unfold openR
  split
  · exact jn_more h
  · exact ⟨h.bit, Nat.le_succ_of_le h.ack, Nat.le_succ_of_le h.tak, Nat.le_succ_of_le h.len⟩
theorem jn_tk1 {s : Sd} {j : Nat} (h : Jn s j) (p : Pd) : Bit (tk1 s p) ∧ (tk1 s p).ack ≤ j + 1 ∧ (tk1 s p).tak ≤ j ∧ (tk1 s p).q.length ≤ j := by
  obtain ⟨hb, ha, ht, hl⟩ := h
  unfold tk1
  split
  · unfold ackd
    split
    · rename_i x r he hq
      refine ⟨⟨bit_flip hb.1, hb.2⟩, by show s.ack + 1 ≤ _; omega, ht, ?_⟩
      rw [hq] at hl
      simp at hl
      show r.length ≤ _
      omega
    · exact ⟨⟨bit_flip hb.1, hb.2⟩, by show s.ack ≤ _; omega, ht, hl⟩
  · exact ⟨hb, by omega, ht, hl⟩
theorem jn_take {s : Sd} {j : Nat} (h : Jn s j) (p : Pd) : Jn (takeR s p).1 (j + 1) := by
  obtain ⟨hb, ha, ht, hl⟩ := jn_tk1 h p
  unfold takeR
  split
  · exact jn_more h
  · show Jn (takeS s p) (j + 1)
    unfold takeS
    split
    · refine ⟨⟨hb.1, bit_flip hb.2⟩, ha, ?_, Nat.le_succ_of_le hl⟩
      show (if freshB s p = true then (tk1 s p).tak + 1 else (tk1 s p).tak) ≤ _
      split <;> omega
    · exact ⟨hb, ha, Nat.le_succ_of_le ht, Nat.le_succ_of_le hl⟩
end Go.Proofs.Ytbnfjielnamepaa.Arq
