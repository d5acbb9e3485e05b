/- Plain facts on bytes, fields, digits and numbers of bytes, over lists of integers. No program is mentioned. -/
import Derived.Test.YtbnfjielnamepaaMem
import Derived.Test.YtbnfjielnamepaaSerMath
set_option linter.unusedVariables false
set_option linter.unusedSimpArgs false
namespace Go.Proofs.Ytbnfjielnamepaa.Oct
open Mem

theorem str_eq {xs ys : List Int} (hx : Bytes xs) (hy : Bytes ys) : ((strOfNums xs).toList == (strOfNums ys).toList) = decide (xs = ys) := by
  rw [ByteArray.toList_eq, ByteArray.toList_eq]
  by_cases h : xs = ys
  · subst h; simp
  · rw [decide_eq_false h]
    refine beq_eq_false_iff_ne.2 fun e => h ?_
    refine (strOfNums_inj hx hy).1 ?_
    have : (strOfNums xs).data = (strOfNums ys).data := Array.toList_inj.1 e
    exact congrArg ByteArray.mk this
/-- The exclusive or of two bytes. -/
def bx (x y : Int) : Int := ((x.toNat ^^^ y.toNat : Nat) : Int)
/-- The number of bytes, the least significant first. -/
def valL : List Int → Int
  | [] => 0
  | x :: r => x + 256 * valL r
def okZ (zs : List Int) : Bool := zs.all fun z => decide (1 ≤ z ∧ z ≤ 8)
def sumZ : List Int → Int
  | [] => 0
  | z :: r => z + sumZ r
def numsL : List Int → List Int → List Int
  | _, [] => []
  | xs, z :: r => valL (xs.take z.toNat) :: numsL (xs.drop z.toNat) r
def takeR (xs zs : List Int) : List Int × List Int × Int :=
  if okZ zs = true then (if (xs.length : Int) < sumZ zs then ([], [], 3) else (numsL xs zs, xs.drop (sumZ zs).toNat, 0)) else ([], [], 5)
end Go.Proofs.Ytbnfjielnamepaa.Oct
