/- How arguments read: data PDUs and packets. No function is mentioned. -/
import Derived.Test.YtbnfjielnamepaaPart
import Derived.Test.YtbnfjielnamepaaDpMath
import Derived.Test.YtbnfjielnamepaaProg
set_option maxRecDepth 100000
set_option linter.unusedVariables false
set_option linter.unusedSimpArgs false
namespace Go.Proofs.Ytbnfjielnamepaa.Dp
open Go.RowKit Mem Rw Oct
/-- A packet in memory: its LLID, its payload and where that lies. -/
structure Pm where
  k : Int
  A : Option Addr
  c : Nat
  v : List Int
def Pm.p (x : Pm) : Pk := (x.k, x.v)
def encK (x : Pm) : List Value := [.int .i64 x.k, .slice x.A x.v.length x.c]
theorem sizK : Sized encK 2 := fun x => ⟨rfl, fun u hu => by simp [encK] at hu; rcases hu with rfl | rfl <;> rfl⟩
/-- Its payload is read in a world, below a bound. -/
def GoodK (w : World) (B : Nat) (x : Pm) : Prop := (-9223372036854775808 ≤ x.k ∧ x.k ≤ 9223372036854775807) ∧ x.v.length ≤ x.c ∧ x.c ≤ 140737488351232 ∧ Bytes x.v ∧ Ints .u8 w B x.A x.v
theorem GoodK.below {w w' : World} {B : Nat} {x : Pm} (h : GoodK w B x) (hb : Below B w w') : GoodK w' B x := ⟨h.1, h.2.1, h.2.2.1, h.2.2.2.1, h.2.2.2.2.below hb⟩
theorem GoodK.more {w : World} {B B' : Nat} {x : Pm} (h : GoodK w B x) (hB : B ≤ B') : GoodK w B' x := ⟨h.1, h.2.1, h.2.2.1, h.2.2.2.1, h.2.2.2.2.more hB⟩
theorem GoodK.later {w w' : World} {x : Pm} (h : GoodK w w.heap.size x) (hb : Below w.heap.size w w') : GoodK w' w'.heap.size x := (h.below hb).more hb.size
/-- A PDU with its packet in memory. -/
structure Dm where
  sn : Int
  nesn : Int
  md : Int
  x : Pm
def Dm.p (q : Dm) : Pd := ⟨q.sn, q.nesn, q.md, q.x.p⟩
def B64 (n : Int) : Prop := -9223372036854775808 ≤ n ∧ n ≤ 9223372036854775807
/-- A step of two sides. -/
structure Sm where
  d : Int
  lost : Bool
  x : Pm
def encS (o : Sm) : List Value := .int .i64 o.d :: .bool o.lost :: encK o.x
theorem sizS : Sized encS 4 := fun x => ⟨rfl, fun u hu => by simp [encS, encK] at hu; rcases hu with rfl | rfl | rfl | rfl <;> rfl⟩
end Go.Proofs.Ytbnfjielnamepaa.Dp
namespace Go.Proofs.Ytbnfjielnamepaa.Rd
open Go.ChangeShapes Go.WideShapes Go.ChangeAt Go.RowKit Go.Deep Mem Rw Oct Dp
section
variable {H : Type} {enc : TypeId × Value → H} {w : World} {base b0 : Nat} {v : Value} {d : DataW H} {p : List MemPlace}
theorem elK : ∀ fuel cs y, DataW.trod enc Try.prog w base (fun _ => true) true fuel 24 cs = some y → cs.length = 2 → Light Try.prog 24 y.1 → ∃ x : Pm, cs = encK x ∧ GoodK w w.heap.size x := by
  intro fuel cs y h hlen hl
  obtain ⟨c0, c1, rfl⟩ := cells2 hlen
  obtain ⟨n, hat⟩ := trod_slot Try.underlying24 (by kernel_rfl) h hl
  obtain ⟨z0, h0, _⟩ := hat 0 _ c0 rfl rfl
  obtain ⟨z1, h1, l1⟩ := hat 1 _ c1 rfl rfl
  obtain ⟨n0, rfl, w0⟩ := slot_int (by exact Try.underlying3) h0
  obtain ⟨A, m, c, zs, rfl, rfl, hmc, hi, hw, hz⟩ := trod_ints (by exact Try.underlying22) Try.underlying5 (by kernel_rfl) h1 l1
  rw [show Try.prog.bytesOf 5 = 1 by kernel_rfl] at hz
  exact ⟨⟨n0, A, c, zs⟩, rfl, bounds_i64 w0, hmc, by simp only; omega, fun z hz => bounds_u8 (hw z hz), hi⟩
theorem elS : ∀ fuel cs y, DataW.trod enc Try.prog w base (fun _ => true) true fuel 65 cs = some y → cs.length = 4 → Light Try.prog 65 y.1 → ∃ x : Sm, cs = encS x ∧ (B64 x.d ∧ GoodK w w.heap.size x.x) := by
  intro fuel cs y h hlen hl
  obtain ⟨c0, c1, c2, c3, rfl⟩ := cells4 hlen
  obtain ⟨n, hat⟩ := trod_part Try.underlying65 h hl
  obtain ⟨z0, h0, _⟩ := hat 0 _ 0 1 rfl rfl (by kernel_rfl)
  obtain ⟨z1, h1, _⟩ := hat 1 _ 1 1 rfl rfl (by kernel_rfl)
  obtain ⟨z2, h2, l2⟩ := hat 2 _ 2 2 rfl rfl (by kernel_rfl)
  obtain ⟨a, rfl, wa⟩ := slot_int (by exact Try.underlying3) h0
  obtain ⟨b, rfl⟩ := slot_bool (by exact Try.underlying4) h1
  obtain ⟨x, e, hx⟩ := elK _ _ _ h2 rfl l2
  simp only [List.drop_succ_cons, List.drop_zero, encK] at e
  injection e with e1 e2
  injection e2 with e2 _
  subst e1; subst e2
  exact ⟨⟨a, b, x⟩, rfl, bounds_i64 wa, hx⟩
theorem steps24_open (hv : Value.okWide Try.prog w .any b0 58 v) (h : DataW.Trod enc Try.prog w base (fun _ => true) true 58 v d p) (hl : Light Try.prog 58 d) :
    ∃ A c, ∃ xs : List Sm, v = .slice A xs.length c ∧ ListAt encS w w.heap.size A xs ∧ (∀ x ∈ xs, B64 x.d ∧ GoodK w w.heap.size x.x) ∧ xs.length ≤ c ∧ c * 48 ≤ 140737488351232 := by
  obtain ⟨A, n, c, rfl⟩ := okWide_slice Try.underlying58 hv
  obtain ⟨fuel, hf⟩ := h
  obtain ⟨A', n', c', xs, e, h1, h2, h3, h4, h5⟩ := trod_rows sizS (by omega) Try.underlying58 (by kernel_rfl) elS (by simpa [Value.cells] using hf) hl
  injection e with e1 e2 e3
  subst e1; subst e2; subst e3; subst h1
  rw [show Try.prog.bytesOf 65 = 48 by kernel_rfl] at h5
  exact ⟨A, c, xs, rfl, h3, h4, h2, h5⟩
end
end Go.Proofs.Ytbnfjielnamepaa.Rd
