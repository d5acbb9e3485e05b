/- Acknowledgement by sequence bits: sides, what they send and take, and what two of them keep: plain mathematics. No program is mentioned. -/
import Derived.Test.YtbnfjielnamepaaDpMath
set_option linter.unusedVariables false
set_option linter.unusedSimpArgs false
namespace Go.Proofs.Ytbnfjielnamepaa.Arq
open Dp

structure Sd where
  sn : Int
  nesn : Int
  q : List Pk
  op : Bool
  em : Bool
  ack : Nat
  tak : Nat
def new0 : Sd := ⟨0, 0, [], false, false, 0, 0⟩
/-- A packet may wait in a queue. -/
def canB (k : Int) (n : Nat) : Bool := !blankB k n && decide (n ≤ 251) && decide (chkK k n = 0)
def canW (p : Pk) : Bool := canB p.1 p.2.length
def queueR (a : Sd) (p : Pk) : Sd × Int := if canW p = true then (if 64 ≤ a.q.length then (a, 8) else (⟨a.sn, a.nesn, a.q ++ [p], a.op, a.em, a.ack, a.tak⟩, 0)) else (a, 1)
def openR (a : Sd) : Sd := if a.op = true then a else ⟨a.sn, a.nesn, a.q, true, decide (a.q = []), a.ack, a.tak⟩
/-- What an opened side sends. -/
def blk : Pk := (1, [])
def pduR (a : Sd) : Pd := match a.em, a.q with
  | false, x :: r => ⟨a.sn, a.nesn, if r = [] then 0 else 1, x⟩
  | _, q => ⟨a.sn, a.nesn, if q = [] then 0 else 1, blk⟩
def ackB (a : Sd) (p : Pd) : Bool := a.op && decide (p.nesn ≠ a.sn)
def ackd (a : Sd) : Sd := match a.em, a.q with
  | false, _ :: r => ⟨1 - a.sn, a.nesn, r, false, false, a.ack + 1, a.tak⟩
  | _, q => ⟨1 - a.sn, a.nesn, q, false, false, a.ack, a.tak⟩
def tk1 (a : Sd) (p : Pd) : Sd := if ackB a p = true then ackd a else a
def blankP (p : Pk) : Bool := blankB p.1 p.2.length
def newB (a : Sd) (p : Pd) : Bool := decide (p.sn = (tk1 a p).nesn)
def freshB (a : Sd) (p : Pd) : Bool := newB a p && !blankP p.pk
def tk2 (b : Sd) (f : Bool) : Sd := ⟨b.sn, 1 - b.nesn, b.q, b.op, b.em, b.ack, if f = true then b.tak + 1 else b.tak⟩
/-- A side that took a PDU which is valid; the packet, whether it is new, whether the open one is acknowledged. -/
def takeS (a : Sd) (p : Pd) : Sd := if newB a p = true then tk2 (tk1 a p) (freshB a p) else tk1 a p
def zeroK : Pk := (0, [])
def takeR (a : Sd) (p : Pd) : Sd × Pk × Bool × Bool :=
  if chk p ≠ 0 then (a, zeroK, false, false) else (takeS a p, if freshB a p = true then p.pk else zeroK, freshB a p, ackB a p)

theorem nesn1 (a : Sd) (p : Pd) : (tk1 a p).nesn = a.nesn := by
  unfold tk1; split
  · unfold ackd; split <;> rfl
  · rfl
theorem tak1 (a : Sd) (p : Pd) : (tk1 a p).tak = a.tak := by
  unfold tk1; split
  · unfold ackd; split <;> rfl
  · rfl
/-- The numbers of a side are bits. -/
def Bit (a : Sd) : Prop := (a.sn = 0 ∨ a.sn = 1) ∧ (a.nesn = 0 ∨ a.nesn = 1)
/-- One side sends, the other receives: what was queued, what was got. -/
structure Rel (s r : Sd) (Q G : List Pk) : Prop where
  bs : Bit s
  br : Bit r
  le : s.ack ≤ Q.length
  q : s.q = Q.drop s.ack
  tl : r.tak ≤ Q.length
  g : G = Q.take r.tak
  can : ∀ x ∈ Q, canW x = true
  op : s.op = true → s.em = false → s.q ≠ []
  st : (r.nesn = s.sn ∧ r.tak = s.ack) ∨ (r.nesn ≠ s.sn ∧ s.op = true ∧ (s.em = true ∧ r.tak = s.ack ∨ s.em = false ∧ r.tak = s.ack + 1))
theorem rel_new : Rel new0 new0 [] [] := ⟨⟨.inl rfl, .inl rfl⟩, ⟨.inl rfl, .inl rfl⟩, Nat.le_refl _, rfl, Nat.le_refl _, rfl, by simp, by simp [new0], .inl ⟨rfl, rfl⟩⟩
theorem rel_len {s r : Sd} {Q G : List Pk} (h : Rel s r Q G) : G.length = r.tak := by rw [h.g, List.length_take]; have := h.tl; omega
theorem rel_near {s r : Sd} {Q G : List Pk} (h : Rel s r Q G) : r.tak = s.ack ∨ r.tak = s.ack + 1 := by
  rcases h.st with h | h
  · exact .inl h.2
  · rcases h.2.2 with h | h
    · exact .inl h.2
    · exact .inr h.2
/-- A packet is queued on the sender. -/
theorem rel_queue {s r : Sd} {Q G : List Pk} (h : Rel s r Q G) (p : Pk) : Rel (queueR s p).1 r (if (queueR s p).2 = 0 then Q ++ [p] else Q) G := by
  unfold queueR
  by_cases hc : canW p = true
  · rw [if_pos hc]
    by_cases hl : 64 ≤ s.q.length
    · rw [if_pos hl]; simpa using h
    · rw [if_neg hl]
      simp only [if_true]
      have hle := h.le; have htl := h.tl
      refine ⟨h.bs, h.br, by simp; omega, ?_, by simp; omega, ?_, ?_, ?_, h.st⟩
      · show s.q ++ [p] = _
        rw [h.q, List.drop_append_of_le_length hle]
      · rw [h.g, List.take_append_of_le_length htl]
      · intro x hx
        rcases List.mem_append.mp hx with hx | hx
        · exact h.can x hx
        · rw [List.mem_singleton.mp hx]; exact hc
      · intro h1 h2; simp
  · rw [if_neg hc]; simpa using h
theorem rel_queue_r {s r : Sd} {Q G : List Pk} (h : Rel s r Q G) (p : Pk) : Rel s (queueR r p).1 Q G := by
  unfold queueR
  split
  · split
    · exact h
    · exact ⟨h.bs, h.br, h.le, h.q, h.tl, h.g, h.can, h.op, h.st⟩
  · exact h
/-- The sender opens a packet. -/
theorem rel_open {s r : Sd} {Q G : List Pk} (h : Rel s r Q G) : Rel (openR s) r Q G := by
  unfold openR
  by_cases ho : s.op = true
  · rw [if_pos ho]; exact h
  · rw [if_neg ho]
    refine ⟨h.bs, h.br, h.le, h.q, h.tl, h.g, h.can, ?_, ?_⟩
    · intro _ he; simpa using he
    · rcases h.st with g | g
      · exact .inl g
      · exact absurd g.2.1 ho
theorem rel_open_r {s r : Sd} {Q G : List Pk} (h : Rel s r Q G) : Rel s (openR r) Q G := by
  unfold openR
  split
  · exact h
  · exact ⟨h.bs, h.br, h.le, h.q, h.tl, h.g, h.can, h.op, h.st⟩
theorem open_op (s : Sd) : (openR s).op = true := by
  unfold openR; split
  · assumption
  · rfl
theorem pdu_bits (s : Sd) : (pduR s).sn = s.sn ∧ (pduR s).nesn = s.nesn ∧ ((pduR s).md = 0 ∨ (pduR s).md = 1) := by
  unfold pduR
  split
  · refine ⟨rfl, rfl, ?_⟩
    simp only; split <;> simp
  · refine ⟨rfl, rfl, ?_⟩
    simp only; split <;> simp
theorem can_chk {k : Int} {n : Nat} (h : canB k n = true) : chkK k n = 0 ∧ blankB k n = false ∧ n ≤ 251 := by
  unfold canB at h
  simp only [Bool.and_eq_true, decide_eq_true_eq, Bool.not_eq_true'] at h
  exact ⟨h.2, h.1.1, h.1.2⟩
/-- What a side of two sends is valid. -/
theorem pdu_ok {s r : Sd} {Q G : List Pk} (h : Rel s r Q G) : chk (pduR s) = 0 := by
  obtain ⟨h1, h2, h3⟩ := pdu_bits s
  refine chkN_of (by rw [h1]; exact h.bs.1) (by rw [h2]; exact h.bs.2) h3 ?_
  unfold pduR
  split
  · rename_i x r' he hq
    have : x ∈ Q := List.mem_of_mem_drop (by rw [← h.q, hq]; simp)
    exact (can_chk (h.can x this)).1
  · rfl
/-- What is sent is the packet with the number that is acknowledged next, or nothing. -/
theorem pdu_pk {s r : Sd} {Q G : List Pk} (h : Rel s r Q G) (ho : s.op = true) : (s.em = true ∧ (pduR s).pk = blk) ∨ (s.em = false ∧ Q[s.ack]? = some (pduR s).pk) := by
  cases he : s.em with
  | true => left; exact ⟨rfl, by unfold pduR; rw [he]⟩
  | false =>
    right
    refine ⟨rfl, ?_⟩
    have hq := h.op ho he
    cases hs : s.q with
    | nil => exact absurd hs hq
    | cons x r' =>
      have e : (pduR s).pk = x := by unfold pduR; rw [he, hs]
      rw [e]
      have := h.q
      rw [hs] at this
      have h2 : (Q.drop s.ack)[0]? = some x := by rw [← this]; rfl
      simpa using h2
theorem bit_flip {x : Int} (h : x = 0 ∨ x = 1) : 1 - x = 0 ∨ 1 - x = 1 := by omega
/-- The receiver takes what the sender (which has opened it) sends. -/
theorem rel_take {s r : Sd} {Q G : List Pk} (h : Rel s r Q G) (ho : s.op = true) :
    Rel s (takeS r (pduR s)) Q (if freshB r (pduR s) = true then G ++ [(pduR s).pk] else G) := by
  obtain ⟨h1, h2, h3⟩ := pdu_bits s
  have hb1 : Bit (tk1 r (pduR s)) := by
    refine ⟨?_, by rw [nesn1]; exact h.br.2⟩
    unfold tk1; split
    · unfold ackd; split <;> exact bit_flip h.br.1
    · exact h.br.1
  have hn := nesn1 r (pduR s)
  have ht := tak1 r (pduR s)
  by_cases hnew : newB r (pduR s) = true
  · have hnew2 : s.sn = r.nesn := by
      unfold newB at hnew
      rw [hn, h1] at hnew
      simpa using hnew
    have hst : r.tak = s.ack := by
      rcases h.st with g | g
      · exact g.2
      · exact absurd hnew2.symm g.1
    have hfl : 1 - r.nesn ≠ s.sn := by have := h.br.2; omega
    unfold takeS
    rw [if_pos hnew]
    rcases pdu_pk h ho with ⟨he, hp⟩ | ⟨he, hp⟩
    · have hf : freshB r (pduR s) = false := by
        unfold freshB; rw [hp]; simp [blankP, blk, blankB]
      rw [hf]
      refine ⟨h.bs, ⟨hb1.1, bit_flip hb1.2⟩, h.le, h.q, by show (tk1 r (pduR s)).tak ≤ _; rw [ht]; exact h.tl, by show G = Q.take (tk1 r (pduR s)).tak; rw [ht]; exact h.g, h.can, h.op, .inr ⟨?_, ho, .inl ⟨he, ?_⟩⟩⟩
      · show 1 - (tk1 r (pduR s)).nesn ≠ _
        rw [hn]; exact hfl
      · show (tk1 r (pduR s)).tak = _
        rw [ht]; exact hst
    · have hlt : s.ack < Q.length := (List.getElem?_eq_some_iff.1 hp).1
      have hmem : (pduR s).pk ∈ Q := List.mem_of_getElem? hp
      have hf : freshB r (pduR s) = true := by
        unfold freshB
        rw [hnew]
        have := (can_chk (h.can _ hmem)).2.1
        unfold blankP
        rw [this]; rfl
      rw [hf]
      simp only [if_true]
      refine ⟨h.bs, ⟨hb1.1, bit_flip hb1.2⟩, h.le, h.q, ?_, ?_, h.can, h.op, .inr ⟨?_, ho, .inr ⟨he, ?_⟩⟩⟩
      · show (tk1 r (pduR s)).tak + 1 ≤ _
        rw [ht, hst]; omega
      · show _ = Q.take ((tk1 r (pduR s)).tak + 1)
        rw [ht, h.g, hst, List.take_add_one, hp]; rfl
      · show 1 - (tk1 r (pduR s)).nesn ≠ _
        rw [hn]; exact hfl
      · show (tk1 r (pduR s)).tak + 1 = _
        rw [ht, hst]
  · have hf : freshB r (pduR s) = false := by
      unfold freshB
      simp at hnew
      rw [hnew]; rfl
    rw [hf]
    unfold takeS
    rw [if_neg hnew]
    refine ⟨h.bs, hb1, h.le, h.q, by rw [ht]; exact h.tl, by rw [ht]; exact h.g, h.can, h.op, ?_⟩
    rw [hn, ht]
    exact h.st
/-- A side that takes a PDU of the other one, as a sender: p tells the other's next number. -/
theorem rel_acked {s r : Sd} {Q G : List Pk} (h : Rel s r Q G) (p : Pd) (hp : p.nesn = r.nesn) : Rel (takeS s p) r Q G := by
  have key : Rel (tk1 s p) r Q G := by
    unfold tk1
    by_cases ha : ackB s p = true
    · rw [if_pos ha]
      unfold ackB at ha
      simp only [Bool.and_eq_true, decide_eq_true_eq] at ha
      rw [hp] at ha
      rcases h.st with g | g
      · exact absurd g.1 ha.2
      · have hsn : r.nesn = 1 - s.sn := by have := h.br.2; have := h.bs.1; omega
        rcases g.2.2 with ⟨he, ht⟩ | ⟨he, ht⟩
        · have e : ackd s = ⟨1 - s.sn, s.nesn, s.q, false, false, s.ack, s.tak⟩ := by unfold ackd; rw [he]
          rw [e]
          exact ⟨⟨bit_flip h.bs.1, h.bs.2⟩, h.br, h.le, h.q, h.tl, h.g, h.can, (fun h => by cases h), .inl ⟨hsn, ht⟩⟩
        · have hq := h.op ha.1 he
          cases hs : s.q with
          | nil => exact absurd hs hq
          | cons x r' =>
            have e : ackd s = ⟨1 - s.sn, s.nesn, r', false, false, s.ack + 1, s.tak⟩ := by unfold ackd; rw [he, hs]
            rw [e]
            have htl := h.tl
            refine ⟨⟨bit_flip h.bs.1, h.bs.2⟩, h.br, by show s.ack + 1 ≤ _; omega, ?_, h.tl, h.g, h.can, (fun h => by cases h), .inl ⟨hsn, ht⟩⟩
            show r' = Q.drop (s.ack + 1)
            have := h.q
            rw [hs] at this
            rw [← List.tail_drop, ← this]; rfl
    · rw [if_neg ha]; exact h
  unfold takeS
  split
  · refine ⟨⟨key.bs.1, bit_flip key.bs.2⟩, key.br, key.le, key.q, key.tl, key.g, key.can, key.op, key.st⟩
  · exact key

/-! ### Two sides -/
structure En where
  a : Sd
  b : Sd
  qa : List Pk
  qb : List Pk
  ga : List Pk
  gb : List Pk
/-- A step: what is done, whether it is lost, a packet. -/
def moveR (x : En) (d : Int) (lost : Bool) (p : Pk) : En :=
  if d = 0 then ⟨(queueR x.a p).1, x.b, if (queueR x.a p).2 = 0 then x.qa ++ [p] else x.qa, x.qb, x.ga, x.gb⟩
  else if d = 1 then ⟨x.a, (queueR x.b p).1, x.qa, if (queueR x.b p).2 = 0 then x.qb ++ [p] else x.qb, x.ga, x.gb⟩
  else if d = 2 then (if lost = true then ⟨openR x.a, x.b, x.qa, x.qb, x.ga, x.gb⟩ else ⟨openR x.a, takeS x.b (pduR (openR x.a)), x.qa, x.qb, x.ga, if freshB x.b (pduR (openR x.a)) = true then x.gb ++ [(pduR (openR x.a)).pk] else x.gb⟩)
  else if d = 3 then (if lost = true then ⟨x.a, openR x.b, x.qa, x.qb, x.ga, x.gb⟩ else ⟨takeS x.a (pduR (openR x.b)), openR x.b, x.qa, x.qb, if freshB x.a (pduR (openR x.b)) = true then x.ga ++ [(pduR (openR x.b)).pk] else x.ga, x.gb⟩)
  else x
structure Inv (x : En) (j : Nat) : Prop where
  ab : Rel x.a x.b x.qa x.gb
  ba : Rel x.b x.a x.qb x.ga
  la : x.qa.length ≤ j
  lb : x.qb.length ≤ j
def en0 : En := ⟨new0, new0, [], [], [], []⟩
theorem inv_new (j : Nat) : Inv en0 j := ⟨rel_new, rel_new, Nat.zero_le _, Nat.zero_le _⟩
theorem inv_move {x : En} {j : Nat} (h : Inv x j) (d : Int) (lost : Bool) (p : Pk) : Inv (moveR x d lost p) (j + 1) := by
  have la := h.la; have lb := h.lb
  unfold moveR
  split
  · refine ⟨rel_queue h.ab p, rel_queue_r h.ba p, ?_, by simp only; omega⟩
    simp only; split
    · simp; omega
    · omega
  · split
    · refine ⟨rel_queue_r h.ab p, rel_queue h.ba p, by simp only; omega, ?_⟩
      simp only; split
      · simp; omega
      · omega
    · split
      · split
        · exact ⟨rel_open h.ab, rel_open_r h.ba, by simp only; omega, by simp only; omega⟩
        · refine ⟨rel_take (rel_open h.ab) (open_op _), rel_acked (rel_open_r h.ba) _ (pdu_bits _).2.1, by simp only; omega, by simp only; omega⟩
      · split
        · split
          · exact ⟨rel_open_r h.ab, rel_open h.ba, by simp only; omega, by simp only; omega⟩
          · refine ⟨rel_acked (rel_open_r h.ab) _ (pdu_bits _).2.1, rel_take (rel_open h.ba) (open_op _), by simp only; omega, by simp only; omega⟩
        · exact ⟨h.ab, h.ba, by omega, by omega⟩

/-! ### Repetition -/
end Go.Proofs.Ytbnfjielnamepaa.Arq
