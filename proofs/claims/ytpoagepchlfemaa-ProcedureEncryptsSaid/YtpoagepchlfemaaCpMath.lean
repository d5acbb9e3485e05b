/- Control PDUs: plain mathematics. No program is mentioned. -/
import Derived.Test.YtpoagepchlfemaaOctMath
import Derived.Test.YtpoagepchlfemaaCnMath
import Derived.Test.YtpoagepchlfemaaChmCheck
set_option linter.unusedVariables false
set_option linter.unusedSimpArgs false
namespace Go.Proofs.Ytpoagepchlfemaa.Cp
open Go.RowKit
open Cn Chm
/-- A control PDU. -/
structure Ct where
  k : Int
  ws : Int
  wo : Int
  it : Int
  la : Int
  ti : Int
  m : Nat
  ins : Int
  rs : Int
  rj : Int
  st : Int
  mr : Int
  ft : Int
  vs : Int
  ln : Int
def zeroC : Ct := ⟨0, 0, 0, 0, 0, 0, 0, 0, 0, 0, 0, 0, 0, 0, 0⟩
def onlyK (k : Int) : Ct := { zeroC with k := k }
inductive Pt where
  | up | im | ch | rs | rj | vs | ln | sa | mk | fe
deriving DecidableEq
def u (n : Int) : Int := IntKind.u64.wrap n
def s (n : Int) : Int := IntKind.i64.wrap n
/-- The numbers of a part. -/
def getP : Pt → Ct → List Int
  | .up, c => [u c.ws, u c.wo, u c.it, u c.la, u c.ti]
  | .im, c => [u c.ins]
  | .ch, c => [(c.m : Int)]
  | .rs, c => [u c.rs]
  | .rj, c => [u c.rj]
  | .vs, c => [u c.vs]
  | .ln, c => [u c.ln]
  | .sa, c => [c.st]
  | .mk, c => [c.mr]
  | .fe, c => [c.ft]
/-- A part set. -/
def setP : Pt → Ct → List Int → Ct
  | .up, c, n => { c with ws := s (n.getD 0 0), wo := s (n.getD 1 0), it := s (n.getD 2 0), la := s (n.getD 3 0), ti := s (n.getD 4 0) }
  | .im, c, n => { c with ins := IntKind.u16.wrap (n.getD 0 0) }
  | .ch, c, n => { c with m := (n.getD 0 0).toNat }
  | .rs, c, n => { c with rs := s (n.getD 0 0) }
  | .rj, c, n => { c with rj := s (n.getD 0 0) }
  | .vs, c, n => { c with vs := s (n.getD 0 0) }
  | .ln, c, n => { c with ln := s (n.getD 0 0) }
  | .sa, c, n => { c with st := n.getD 0 0 }
  | .mk, c, n => { c with mr := n.getD 0 0 }
  | .fe, c, n => { c with ft := n.getD 0 0 }
/-- The sizes of a part's numbers. -/
def szP : Pt → List Int
  | .up => [1, 2, 2, 2, 2]
  | .im => [2]
  | .ch => [5]
  | .rs => [1]
  | .rj => [1]
  | .vs => [1]
  | .ln => [1]
  | .sa => [8]
  | .mk => [8]
  | .fe => [8]
def inB (lo hi n : Int) : Int := if lo ≤ n ∧ n ≤ hi then 0 else 5
def okM' (m : Nat) : Int := Chm.okM m
/-- What is wrong with a part. -/
def chkP : Pt → Ct → Int
  | .up, c => okU c.ws c.wo c.it c.la c.ti
  | .ch, c => Chm.okM c.m
  | .rs, c => inB 0 255 c.rs
  | .rj, c => inB 0 255 c.rj
  | .vs, c => inB 0 255 c.vs
  | .ln, c => inB 27 251 c.ln
  | _, _ => 0
def ptsL : List (Int × List Pt) := [(0, [.up, .im]), (1, [.ch, .im]), (2, [.rs]), (3, [.sa, .mk]), (4, [.sa]), (5, []), (6, []), (7, [.rj]), (8, [.fe]), (9, [.fe]), (12, [.vs]), (13, [.rs, .rj]), (15, [.up]), (18, []), (19, []), (20, [.ln]), (21, [.ln])]
/-- The parts of a kind. -/
def ptsK (k : Int) : Option (List Pt) := ptsL.lookup k
theorem szP_len (p : Pt) (c : Ct) : (getP p c).length = (szP p).length := by cases p <;> rfl
end Go.Proofs.Ytpoagepchlfemaa.Cp
