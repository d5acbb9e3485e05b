/- How arguments read: slices of addresses and of changes, a request under a policy. No function is mentioned. -/
import Derived.Test.YtegmknmbgifmjaaDoorPart
import Derived.Test.YtegmknmbgifmjaaDoorAccMath
set_option maxRecDepth 100000
set_option linter.unusedVariables false
set_option linter.unusedSimpArgs false
namespace Go.Proofs.YtegmknmbgifmjaaDoor.Rd
open Go.ChangeShapes Go.WideShapes Go.ChangeAt Go.RowKit Go.Deep Mem Rw Ace

def GoodA (x : Int × Int) : Prop := (-9223372036854775808 ≤ x.1 ∧ x.1 ≤ 9223372036854775807) ∧ 0 ≤ x.2 ∧ x.2 ≤ 18446744073709551615
def encS (x : Bool × Int × Int) : List Value := [.bool x.1, .int .i64 x.2.1, .int .u64 x.2.2]
theorem sizS : Sized encS 3 := fun x => ⟨rfl, by intro u hu; simp [encS] at hu; rcases hu with rfl | rfl | rfl <;> rfl⟩
def encK (x : Int × Int × Int × Int) : List Value := [.int .i64 x.1, .int .i64 x.2.1, .int .i64 x.2.2.1, .int .u64 x.2.2.2]
section
variable {H : Type} {enc : TypeId × Value → H} {w : World} {base b0 : Nat} {v : Value} {d : DataW H} {p : List MemPlace}
theorem elA : ∀ fuel cs y, DataW.trod enc Tryd.prog w base (fun _ => true) true fuel 25 cs = some y → cs.length = 2 → Light Tryd.prog 25 y.1 → ∃ x : Int × Int, cs = encA x ∧ GoodA x := by
  intro fuel cs y h hlen hl
  obtain ⟨c0, c1, rfl⟩ := cells2 hlen
  obtain ⟨n, hat⟩ := trod_slot Tryd.underlying25 (by kernel_rfl) h hl
  obtain ⟨z0, h0, _⟩ := hat 0 _ c0 rfl rfl
  obtain ⟨z1, h1, _⟩ := hat 1 _ c1 rfl rfl
  obtain ⟨n0, rfl, w0⟩ := slot_int (by exact Tryd.underlying3) h0
  obtain ⟨n1, rfl, w1⟩ := slot_int (by exact Tryd.underlying23) h1
  exact ⟨(n0, n1), rfl, bounds_i64 w0, bounds_u64 w1⟩
theorem elS : ∀ fuel cs y, DataW.trod enc Tryd.prog w base (fun _ => true) true fuel 42 cs = some y → cs.length = 3 → Light Tryd.prog 42 y.1 → ∃ x : Bool × Int × Int, cs = encS x ∧ GoodA x.2 := by
  intro fuel cs y h hlen hl
  obtain ⟨c0, c1, c2, rfl⟩ := cells3 hlen
  obtain ⟨n, hat⟩ := trod_part Tryd.underlying42 h hl
  obtain ⟨z0, h0, _⟩ := hat 0 _ 0 1 rfl rfl (by kernel_rfl)
  obtain ⟨z1, h1, l1⟩ := hat 1 _ 1 2 rfl rfl (by kernel_rfl)
  obtain ⟨b, rfl⟩ := slot_bool (by exact Tryd.underlying4) h0
  obtain ⟨x, e, g⟩ := elA _ _ _ h1 rfl l1
  exact ⟨(b, x), by simpa [encS, encA] using e, g⟩
theorem elK : ∀ fuel cs y, DataW.trod enc Tryd.prog w base (fun _ => true) true fuel 37 cs = some y → cs.length = 4 → Light Tryd.prog 37 y.1 → ∃ x : Int × Int × Int × Int, cs = encK x ∧ ((-9223372036854775808 ≤ x.1 ∧ x.1 ≤ 9223372036854775807) ∧ (-9223372036854775808 ≤ x.2.1 ∧ x.2.1 ≤ 9223372036854775807) ∧ GoodA x.2.2) := by
  intro fuel cs y h hlen hl
  obtain ⟨c0, c1, c2, c3, rfl⟩ := cells4 hlen
  obtain ⟨n, hat⟩ := trod_part Tryd.underlying37 h hl
  obtain ⟨z0, h0, _⟩ := hat 0 _ 0 1 rfl rfl (by kernel_rfl)
  obtain ⟨z1, h1, _⟩ := hat 1 _ 1 1 rfl rfl (by kernel_rfl)
  obtain ⟨z2, h2, l2⟩ := hat 2 _ 2 2 rfl rfl (by kernel_rfl)
  obtain ⟨n0, rfl, w0⟩ := slot_int (by exact Tryd.underlying3) h0
  obtain ⟨n1, rfl, w1⟩ := slot_int (by exact Tryd.underlying3) h1
  obtain ⟨x, e, g⟩ := elA _ _ _ h2 rfl l2
  exact ⟨(n0, n1, x), by simpa [encK, encA] using e, bounds_i64 w0, bounds_i64 w1, g⟩
theorem addrs_open (hv : Value.okWide Tryd.prog w .any b0 22 v) (h : DataW.Trod enc Tryd.prog w base (fun _ => true) true 22 v d p) (hl : Light Tryd.prog 22 d) :
    ∃ A c, ∃ xs : List (Int × Int), v = .slice A xs.length c ∧ ListAt encA w w.heap.size A xs ∧ (∀ x ∈ xs, GoodA x) ∧ xs.length ≤ c ∧ c * 16 ≤ 140737488351232 := by
  obtain ⟨A, n, c, rfl⟩ := okWide_slice Tryd.underlying22 hv
  obtain ⟨fuel, hf⟩ := h
  obtain ⟨A', n', c', xs, e, h1, h2, h3, h4, h5⟩ := trod_rows sizA (by omega) Tryd.underlying22 (by kernel_rfl) elA (by simpa [Value.cells] using hf) hl
  injection e with e1 e2 e3
  subst e1; subst e2; subst e3; subst h1
  rw [show Tryd.prog.bytesOf 25 = 16 by kernel_rfl] at h5
  exact ⟨A, c, xs, rfl, h3, h4, h2, h5⟩
theorem steps_open (hv : Value.okWide Tryd.prog w .any b0 40 v) (h : DataW.Trod enc Tryd.prog w base (fun _ => true) true 40 v d p) (hl : Light Tryd.prog 40 d) :
    ∃ A c, ∃ xs : List (Bool × Int × Int), v = .slice A xs.length c ∧ ListAt encS w w.heap.size A xs ∧ (∀ x ∈ xs, GoodA x.2) ∧ xs.length ≤ c ∧ c * 24 ≤ 140737488351232 := by
  obtain ⟨A, n, c, rfl⟩ := okWide_slice Tryd.underlying40 hv
  obtain ⟨fuel, hf⟩ := h
  obtain ⟨A', n', c', xs, e, h1, h2, h3, h4, h5⟩ := trod_rows sizS (by omega) Tryd.underlying40 (by kernel_rfl) elS (by simpa [Value.cells] using hf) hl
  injection e with e1 e2 e3
  subst e1; subst e2; subst e3; subst h1
  rw [show Tryd.prog.bytesOf 42 = 24 by kernel_rfl] at h5
  exact ⟨A, c, xs, rfl, h3, h4, h2, h5⟩
theorem ask_open (hv : Value.okWide Tryd.prog w .any b0 37 v) (h : DataW.Trod enc Tryd.prog w base (fun _ => true) true 37 v d p) (hl : Light Tryd.prog 37 d) :
    ∃ x : Int × Int × Int × Int, v = .agg #[.int .i64 x.1, .int .i64 x.2.1, .int .i64 x.2.2.1, .int .u64 x.2.2.2] ∧ ((-9223372036854775808 ≤ x.1 ∧ x.1 ≤ 9223372036854775807) ∧ (-9223372036854775808 ≤ x.2.1 ∧ x.2.1 ≤ 9223372036854775807) ∧ GoodA x.2.2) :=
  open_struct (en := encK) (K := 4) Tryd.underlying37 (by kernel_rfl) elK hv h hl
end
end Go.Proofs.YtegmknmbgifmjaaDoor.Rd
