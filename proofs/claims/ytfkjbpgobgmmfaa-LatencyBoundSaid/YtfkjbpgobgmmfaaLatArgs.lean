/- How arguments read: states and turns of the latency. No function is mentioned. -/
import Derived.Test.YtfkjbpgobgmmfaaPart
import Derived.Test.YtfkjbpgobgmmfaaAirOwn0
import Derived.Test.YtfkjbpgobgmmfaaAvRow
import Derived.Test.YtfkjbpgobgmmfaaBase
import Derived.Test.YtfkjbpgobgmmfaaProg
set_option linter.unusedVariables false
set_option linter.unusedSimpArgs false
namespace Go.Proofs.Ytfkjbpgobgmmfaa.Lat
open Go.RowKit Mem Rw
open Base (thenB)

def B64 (n : Int) : Prop := -9223372036854775808 ≤ n ∧ n ≤ 9223372036854775807
/-- A state of the latency. -/
structure Lm where
  a : Int
  s : Int
  f : Bool
def encL (x : Lm) : List Value := [.int .i64 x.a, .int .i64 x.s, .bool x.f]
theorem sizL : Sized encL 3 := fun x => ⟨rfl, fun u hu => by simp [encL] at hu; rcases hu with rfl | rfl | rfl <;> rfl⟩
/-- A turn. -/
structure Tm where
  d : Int
  a : Bool
  l : Int
def encT (x : Tm) : List Value := [.int .i64 x.d, .bool x.a, .int .i64 x.l]
theorem sizT : Sized encT 3 := fun x => ⟨rfl, fun u hu => by simp [encT] at hu; rcases hu with rfl | rfl | rfl <;> rfl⟩
end Go.Proofs.Ytfkjbpgobgmmfaa.Lat
namespace Go.Proofs.Ytfkjbpgobgmmfaa.Rd
open Go.ChangeShapes Go.WideShapes Go.ChangeAt Go.RowKit Go.Deep Mem Rw Lat
section
variable {H : Type} {enc : TypeId × Value → H} {w : World} {base b0 : Nat} {v : Value} {d : DataW H} {p : List MemPlace}
theorem elL : ∀ fuel cs y, DataW.trod enc Try.prog w base (fun _ => true) true fuel 23 cs = some y → cs.length = 3 → Light Try.prog 23 y.1 → ∃ x : Lm, cs = encL x ∧ (B64 x.a ∧ B64 x.s) := by
  intro fuel cs y h hlen hl
  obtain ⟨c0, c1, c2, rfl⟩ := cells3 hlen
  obtain ⟨n, hat⟩ := trod_slot Try.underlying23 (by kernel_rfl) h hl
  obtain ⟨z0, h0, _⟩ := hat 0 _ c0 rfl rfl
  obtain ⟨z1, h1, _⟩ := hat 1 _ c1 rfl rfl
  obtain ⟨z2, h2, _⟩ := hat 2 _ c2 rfl rfl
  obtain ⟨n0, rfl, w0⟩ := slot_int (by exact Try.underlying3) h0
  obtain ⟨n1, rfl, w1⟩ := slot_int (by exact Try.underlying3) h1
  obtain ⟨b2, rfl⟩ := slot_bool (by exact Try.underlying4) h2
  exact ⟨⟨n0, n1, b2⟩, rfl, bounds_i64 w0, bounds_i64 w1⟩
theorem elT : ∀ fuel cs y, DataW.trod enc Try.prog w base (fun _ => true) true fuel 35 cs = some y → cs.length = 3 → Light Try.prog 35 y.1 → ∃ x : Tm, cs = encT x ∧ True := by
  intro fuel cs y h hlen hl
  obtain ⟨c0, c1, c2, rfl⟩ := cells3 hlen
  obtain ⟨n, hat⟩ := trod_slot Try.underlying35 (by kernel_rfl) h hl
  obtain ⟨z0, h0, _⟩ := hat 0 _ c0 rfl rfl
  obtain ⟨z1, h1, _⟩ := hat 1 _ c1 rfl rfl
  obtain ⟨z2, h2, _⟩ := hat 2 _ c2 rfl rfl
  obtain ⟨n0, rfl, w0⟩ := slot_int (by exact Try.underlying3) h0
  obtain ⟨b1, rfl⟩ := slot_bool (by exact Try.underlying4) h1
  obtain ⟨n2, rfl, w2⟩ := slot_int (by exact Try.underlying3) h2
  exact ⟨⟨n0, b1, n2⟩, rfl, trivial⟩
theorem lis_open (hv : Value.okWide Try.prog w .any b0 23 v) (h : DataW.Trod enc Try.prog w base (fun _ => true) true 23 v d p) (hl : Light Try.prog 23 d) :
    ∃ a s f, v = .agg #[.int .i64 a, .int .i64 s, .bool f] ∧ B64 a ∧ B64 s := by
  obtain ⟨x, e, g⟩ := open_struct (en := encL) (K := 3) Try.underlying23 (by kernel_rfl) elL hv h hl
  exact ⟨x.a, x.s, x.f, e, g.1, g.2⟩
theorem turns_open (hv : Value.okWide Try.prog w .any b0 33 v) (h : DataW.Trod enc Try.prog w base (fun _ => true) true 33 v d p) (hl : Light Try.prog 33 d) :
    ∃ A c, ∃ xs : List Tm, v = .slice A xs.length c ∧ ListAt encT w w.heap.size A xs ∧ xs.length ≤ c ∧ c * 24 ≤ 140737488351232 := by
  obtain ⟨A, n, c, rfl⟩ := okWide_slice Try.underlying33 hv
  obtain ⟨fuel, hf⟩ := h
  obtain ⟨A', n', c', xs, e, h1, h2, h3, h4, h5⟩ := trod_rows sizT (by omega) Try.underlying33 (by kernel_rfl) elT (by simpa [Value.cells] using hf) hl
  injection e with e1 e2 e3
  subst e1; subst e2; subst e3; subst h1
  rw [show Try.prog.bytesOf 35 = 24 by kernel_rfl] at h5
  exact ⟨A, c, xs, rfl, h3, h2, h5⟩
end
end Go.Proofs.Ytfkjbpgobgmmfaa.Rd
