/- How slices of calls read. -/
import Derived.Test.YtbnfjielnamepaaDpArgs
set_option linter.unusedVariables false
set_option linter.unusedSimpArgs false
namespace Go.Proofs.Ytbnfjielnamepaa.Dp
open Go.RowKit Mem Rw Oct
def encD (q : Dm) : List Value := [.int .i64 q.sn, .int .i64 q.nesn, .int .i64 q.md, .int .i64 q.x.k, .slice q.x.A q.x.v.length q.x.c]
def GoodD (w : World) (q : Dm) : Prop := B64 q.sn ∧ B64 q.nesn ∧ B64 q.md ∧ GoodK w w.heap.size q.x
/-- A call of one side. -/
structure Om where
  d : Int
  q : Dm
def encO (o : Om) : List Value := .int .i64 o.d :: encD o.q
theorem sizO : Sized encO 6 := fun x => ⟨rfl, fun u hu => by simp [encO, encD] at hu; rcases hu with rfl | rfl | rfl | rfl | rfl | rfl <;> rfl⟩
end Go.Proofs.Ytbnfjielnamepaa.Dp
namespace Go.Proofs.Ytbnfjielnamepaa.Rd
open Go.ChangeShapes Go.WideShapes Go.ChangeAt Go.RowKit Go.Deep Mem Rw Oct Dp
theorem cells5 {α : Type} {cs : List α} (h : cs.length = 5) : ∃ c0 c1 c2 c3 c4, cs = [c0, c1, c2, c3, c4] := by
  match cs, h with
  | [c0, c1, c2, c3, c4], _ => exact ⟨c0, c1, c2, c3, c4, rfl⟩
theorem cells6 {α : Type} {cs : List α} (h : cs.length = 6) : ∃ c0 c1 c2 c3 c4 c5, cs = [c0, c1, c2, c3, c4, c5] := by
  match cs, h with
  | [c0, c1, c2, c3, c4, c5], _ => exact ⟨c0, c1, c2, c3, c4, c5, rfl⟩
section
variable {H : Type} {enc : TypeId × Value → H} {w : World} {base b0 : Nat} {v : Value} {d : DataW H} {p : List MemPlace}
theorem elD : ∀ fuel cs y, DataW.trod enc Try.prog w base (fun _ => true) true fuel 26 cs = some y → cs.length = 5 → Light Try.prog 26 y.1 → ∃ x : Dm, cs = encD x ∧ GoodD w x := by
  intro fuel cs y h hlen hl
  obtain ⟨c0, c1, c2, c3, c4, rfl⟩ := cells5 hlen
  obtain ⟨n, hat⟩ := trod_part Try.underlying26 h hl
  obtain ⟨z0, h0, _⟩ := hat 0 _ 0 1 rfl rfl (by kernel_rfl)
  obtain ⟨z1, h1, _⟩ := hat 1 _ 1 1 rfl rfl (by kernel_rfl)
  obtain ⟨z2, h2, _⟩ := hat 2 _ 2 1 rfl rfl (by kernel_rfl)
  obtain ⟨z3, h3, l3⟩ := hat 3 _ 3 2 rfl rfl (by kernel_rfl)
  obtain ⟨a, rfl, wa⟩ := slot_int (by exact Try.underlying3) h0
  obtain ⟨b, rfl, wb⟩ := slot_int (by exact Try.underlying3) h1
  obtain ⟨c, rfl, wc⟩ := slot_int (by exact Try.underlying3) h2
  obtain ⟨x, e, hx⟩ := elK _ _ _ h3 rfl l3
  simp only [List.drop_succ_cons, List.drop_zero, encK] at e
  injection e with e1 e2
  injection e2 with e2 _
  subst e1; subst e2
  exact ⟨⟨a, b, c, x⟩, rfl, bounds_i64 wa, bounds_i64 wb, bounds_i64 wc, hx⟩
theorem elO : ∀ fuel cs y, DataW.trod enc Try.prog w base (fun _ => true) true fuel 46 cs = some y → cs.length = 6 → Light Try.prog 46 y.1 → ∃ x : Om, cs = encO x ∧ (B64 x.d ∧ GoodD w x.q) := by
  intro fuel cs y h hlen hl
  obtain ⟨c0, c1, c2, c3, c4, c5, rfl⟩ := cells6 hlen
  obtain ⟨n, hat⟩ := trod_part Try.underlying46 h hl
  obtain ⟨z0, h0, _⟩ := hat 0 _ 0 1 rfl rfl (by kernel_rfl)
  obtain ⟨z1, h1, l1⟩ := hat 1 _ 1 5 rfl rfl (by kernel_rfl)
  obtain ⟨a, rfl, wa⟩ := slot_int (by exact Try.underlying3) h0
  obtain ⟨x, e, hx⟩ := elD _ _ _ h1 rfl l1
  simp only [List.drop_succ_cons, List.drop_zero, encD, List.take_succ_cons, List.take_zero] at e
  injection e with e1 e
  injection e with e2 e
  injection e with e3 e
  injection e with e4 e
  injection e with e5 _
  subst e1; subst e2; subst e3; subst e4; subst e5
  exact ⟨⟨a, x⟩, rfl, bounds_i64 wa, hx⟩
theorem ops_open (hv : Value.okWide Try.prog w .any b0 40 v) (h : DataW.Trod enc Try.prog w base (fun _ => true) true 40 v d p) (hl : Light Try.prog 40 d) :
    ∃ A c, ∃ xs : List Om, v = .slice A xs.length c ∧ ListAt encO w w.heap.size A xs ∧ (∀ x ∈ xs, B64 x.d ∧ GoodD w x.q) ∧ xs.length ≤ c ∧ c * 64 ≤ 140737488351232 := by
  obtain ⟨A, n, c, rfl⟩ := okWide_slice Try.underlying40 hv
  obtain ⟨fuel, hf⟩ := h
  obtain ⟨A', n', c', xs, e, h1, h2, h3, h4, h5⟩ := trod_rows sizO (by omega) Try.underlying40 (by kernel_rfl) elO (by simpa [Value.cells] using hf) hl
  injection e with e1 e2 e3
  subst e1; subst e2; subst e3; subst h1
  rw [show Try.prog.bytesOf 46 = 64 by kernel_rfl] at h5
  exact ⟨A, c, xs, rfl, h3, h4, h2, h5⟩
end
end Go.Proofs.Ytbnfjielnamepaa.Rd
