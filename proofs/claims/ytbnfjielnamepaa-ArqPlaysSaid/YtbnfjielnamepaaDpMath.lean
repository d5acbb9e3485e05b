/- Data PDUs: their errors, bytes and forms: plain mathematics. No program is mentioned. -/
import Derived.Test.YtbnfjielnamepaaOctMath
set_option linter.unusedVariables false
set_option linter.unusedSimpArgs false
namespace Go.Proofs.Ytbnfjielnamepaa.Dp

/-- A packet: its LLID and its payload. -/
abbrev Pk := Int × List Int
structure Pd where
  sn : Int
  nesn : Int
  md : Int
  pk : Pk
def bitB (n : Int) : Bool := decide (n = 0) || decide (n = 1)
def blankB (k : Int) (n : Nat) : Bool := decide (k = 1) && decide (n = 0)
def chkK (k : Int) (n : Nat) : Int := if k < 1 ∨ 3 < k then 12 else if n = 0 ∧ k ≠ 1 then 1 else if 255 < n then 4 else 0
def chkN (sn nesn md k : Int) (n : Nat) : Int := if (bitB sn && bitB nesn && bitB md) = true then chkK k n else 5
def chk (p : Pd) : Int := chkN p.sn p.nesn p.md p.pk.1 p.pk.2.length
/-! ### Bytes -/
end Go.Proofs.Ytbnfjielnamepaa.Dp
