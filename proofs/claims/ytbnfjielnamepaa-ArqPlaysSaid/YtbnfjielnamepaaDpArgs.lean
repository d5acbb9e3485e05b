/- How arguments read: data PDUs and packets. No function is mentioned. -/
import Derived.Test.YtbnfjielnamepaaPart
import Derived.Test.YtbnfjielnamepaaDpMath
import Derived.Test.YtbnfjielnamepaaProg
set_option maxRecDepth 100000
set_option linter.unusedVariables false
set_option linter.unusedSimpArgs false
namespace Go.Proofs.Ytbnfjielnamepaa.Dp
open Go.RowKit Mem Rw Oct
/-- A packet in memory: its LLID, its payload and where that lies. -/
structure Pm where
  k : Int
  A : Option Addr
  c : Nat
  v : List Int
def Pm.p (x : Pm) : Pk := (x.k, x.v)
def encK (x : Pm) : List Value := [.int .i64 x.k, .slice x.A x.v.length x.c]
theorem sizK : Sized encK 2 := fun x => ⟨rfl, fun u hu => by simp [encK] at hu; rcases hu with rfl | rfl <;> rfl⟩
/-- Its payload is read in a world, below a bound. -/
def GoodK (w : World) (B : Nat) (x : Pm) : Prop := (-9223372036854775808 ≤ x.k ∧ x.k ≤ 9223372036854775807) ∧ x.v.length ≤ x.c ∧ x.c ≤ 140737488351232 ∧ Bytes x.v ∧ Ints .u8 w B x.A x.v
theorem GoodK.below {w w' : World} {B : Nat} {x : Pm} (h : GoodK w B x) (hb : Below B w w') : GoodK w' B x := ⟨h.1, h.2.1, h.2.2.1, h.2.2.2.1, h.2.2.2.2.below hb⟩
theorem GoodK.more {w : World} {B B' : Nat} {x : Pm} (h : GoodK w B x) (hB : B ≤ B') : GoodK w B' x := ⟨h.1, h.2.1, h.2.2.1, h.2.2.2.1, h.2.2.2.2.more hB⟩
theorem GoodK.later {w w' : World} {x : Pm} (h : GoodK w w.heap.size x) (hb : Below w.heap.size w w') : GoodK w' w'.heap.size x := (h.below hb).more hb.size
/-- A PDU with its packet in memory. -/
structure Dm where
  sn : Int
  nesn : Int
  md : Int
  x : Pm
def Dm.p (q : Dm) : Pd := ⟨q.sn, q.nesn, q.md, q.x.p⟩
def B64 (n : Int) : Prop := -9223372036854775808 ≤ n ∧ n ≤ 9223372036854775807
end Go.Proofs.Ytbnfjielnamepaa.Dp
namespace Go.Proofs.Ytbnfjielnamepaa.Rd
open Go.ChangeShapes Go.WideShapes Go.ChangeAt Go.RowKit Go.Deep Mem Rw Oct Dp
section
variable {H : Type} {enc : TypeId × Value → H} {w : World} {base b0 : Nat} {v : Value} {d : DataW H} {p : List MemPlace}
theorem elK : ∀ fuel cs y, DataW.trod enc Try.prog w base (fun _ => true) true fuel 24 cs = some y → cs.length = 2 → Light Try.prog 24 y.1 → ∃ x : Pm, cs = encK x ∧ GoodK w w.heap.size x := by
  intro fuel cs y h hlen hl
  obtain ⟨c0, c1, rfl⟩ := cells2 hlen
  obtain ⟨n, hat⟩ := trod_slot Try.underlying24 (by kernel_rfl) h hl
  obtain ⟨z0, h0, _⟩ := hat 0 _ c0 rfl rfl
  obtain ⟨z1, h1, l1⟩ := hat 1 _ c1 rfl rfl
  obtain ⟨n0, rfl, w0⟩ := slot_int (by exact Try.underlying3) h0
  obtain ⟨A, m, c, zs, rfl, rfl, hmc, hi, hw, hz⟩ := trod_ints (by exact Try.underlying22) Try.underlying5 (by kernel_rfl) h1 l1
  rw [show Try.prog.bytesOf 5 = 1 by kernel_rfl] at hz
  exact ⟨⟨n0, A, c, zs⟩, rfl, bounds_i64 w0, hmc, by simp only; omega, fun z hz => bounds_u8 (hw z hz), hi⟩
end
end Go.Proofs.Ytbnfjielnamepaa.Rd
