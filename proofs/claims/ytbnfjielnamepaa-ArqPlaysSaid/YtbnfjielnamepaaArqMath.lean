/- Acknowledgement by sequence bits: sides, what they send and take, and what two of them keep: plain mathematics. No program is mentioned. -/
import Derived.Test.YtbnfjielnamepaaDpMath
set_option linter.unusedVariables false
set_option linter.unusedSimpArgs false
namespace Go.Proofs.Ytbnfjielnamepaa.Arq
open Dp

structure Sd where
  sn : Int
  nesn : Int
  q : List Pk
  op : Bool
  em : Bool
  ack : Nat
  tak : Nat
def new0 : Sd := ⟨0, 0, [], false, false, 0, 0⟩
/-- A packet may wait in a queue. -/
def canB (k : Int) (n : Nat) : Bool := !blankB k n && decide (n ≤ 251) && decide (chkK k n = 0)
def canW (p : Pk) : Bool := canB p.1 p.2.length
def queueR (a : Sd) (p : Pk) : Sd × Int := if canW p = true then (if 64 ≤ a.q.length then (a, 8) else (⟨a.sn, a.nesn, a.q ++ [p], a.op, a.em, a.ack, a.tak⟩, 0)) else (a, 1)
def openR (a : Sd) : Sd := if a.op = true then a else ⟨a.sn, a.nesn, a.q, true, decide (a.q = []), a.ack, a.tak⟩
/-- What an opened side sends. -/
def blk : Pk := (1, [])
def pduR (a : Sd) : Pd := match a.em, a.q with
  | false, x :: r => ⟨a.sn, a.nesn, if r = [] then 0 else 1, x⟩
  | _, q => ⟨a.sn, a.nesn, if q = [] then 0 else 1, blk⟩
def ackB (a : Sd) (p : Pd) : Bool := a.op && decide (p.nesn ≠ a.sn)
def ackd (a : Sd) : Sd := match a.em, a.q with
  | false, _ :: r => ⟨1 - a.sn, a.nesn, r, false, false, a.ack + 1, a.tak⟩
  | _, q => ⟨1 - a.sn, a.nesn, q, false, false, a.ack, a.tak⟩
def tk1 (a : Sd) (p : Pd) : Sd := if ackB a p = true then ackd a else a
def blankP (p : Pk) : Bool := blankB p.1 p.2.length
def newB (a : Sd) (p : Pd) : Bool := decide (p.sn = (tk1 a p).nesn)
def freshB (a : Sd) (p : Pd) : Bool := newB a p && !blankP p.pk
def tk2 (b : Sd) (f : Bool) : Sd := ⟨b.sn, 1 - b.nesn, b.q, b.op, b.em, b.ack, if f = true then b.tak + 1 else b.tak⟩
/-- A side that took a PDU which is valid; the packet, whether it is new, whether the open one is acknowledged. -/
def takeS (a : Sd) (p : Pd) : Sd := if newB a p = true then tk2 (tk1 a p) (freshB a p) else tk1 a p
def zeroK : Pk := (0, [])
def takeR (a : Sd) (p : Pd) : Sd × Pk × Bool × Bool :=
  if chk p ≠ 0 then (a, zeroK, false, false) else (takeS a p, if freshB a p = true then p.pk else zeroK, freshB a p, ackB a p)

/-- The numbers of a side are bits. -/
def Bit (a : Sd) : Prop := (a.sn = 0 ∨ a.sn = 1) ∧ (a.nesn = 0 ∨ a.nesn = 1)
theorem pdu_bits (s : Sd) : (pduR s).sn = s.sn ∧ (pduR s).nesn = s.nesn ∧ ((pduR s).md = 0 ∨ (pduR s).md = 1) := by
  unfold pduR
  split
  · refine ⟨rfl, rfl, ?_⟩
    simp only; split <;> simp
  · refine ⟨rfl, rfl, ?_⟩
    simp only; split <;> simp
theorem bit_flip {x : Int} (h : x = 0 ∨ x = 1) : 1 - x = 0 ∨ 1 - x = 1 := by omega
/-! ### Two sides -/
structure En where
  a : Sd
  b : Sd
  qa : List Pk
  qb : List Pk
  ga : List Pk
  gb : List Pk
/-! ### Repetition -/
end Go.Proofs.Ytbnfjielnamepaa.Arq
