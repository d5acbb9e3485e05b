/- How arguments read: changes and slices of changes. No function is mentioned. -/
import Derived.Test.YtejojcanmlgegaaPart
import Derived.Test.YtejojcanmlgegaaInMath
import Derived.Test.YtejojcanmlgegaaProg
set_option maxRecDepth 100000
set_option linter.unusedVariables false
set_option linter.unusedSimpArgs false
namespace Go.Proofs.Ytejojcanmlgegaa.Rd
open Go.ChangeShapes Go.WideShapes Go.ChangeAt Go.RowKit Go.Deep Mem Rw Nst
theorem cells8 {α : Type} {cs : List α} (h : cs.length = 8) : ∃ c0 c1 c2 c3 c4 c5 c6 c7, cs = [c0, c1, c2, c3, c4, c5, c6, c7] := by
  match cs, h with
  | [c0, c1, c2, c3, c4, c5, c6, c7], _ => exact ⟨c0, c1, c2, c3, c4, c5, c6, c7, rfl⟩
section
variable {H : Type} {enc : TypeId × Value → H} {w : World} {base b0 : Nat} {v : Value} {d : DataW H} {p : List MemPlace}
theorem elU : ∀ fuel cs y, DataW.trod enc Try.prog w base (fun _ => true) true fuel 27 cs = some y → cs.length = 5 → Light Try.prog 27 y.1 → ∃ a b c e f : Int, cs = [.int .i64 a, .int .i64 b, .int .i64 c, .int .i64 e, .int .i64 f] := by
  intro fuel cs y h hlen hl
  obtain ⟨c0, c1, c2, c3, c4, rfl⟩ : ∃ c0 c1 c2 c3 c4, cs = [c0, c1, c2, c3, c4] := by
    match cs, hlen with
    | [c0, c1, c2, c3, c4], _ => exact ⟨c0, c1, c2, c3, c4, rfl⟩
  obtain ⟨n, hat⟩ := trod_slot Try.underlying27 (by kernel_rfl) h hl
  obtain ⟨z0, h0, _⟩ := hat 0 _ c0 rfl rfl
  obtain ⟨z1, h1, _⟩ := hat 1 _ c1 rfl rfl
  obtain ⟨z2, h2, _⟩ := hat 2 _ c2 rfl rfl
  obtain ⟨z3, h3, _⟩ := hat 3 _ c3 rfl rfl
  obtain ⟨z4, h4, _⟩ := hat 4 _ c4 rfl rfl
  obtain ⟨n0, rfl, w0⟩ := slot_int (by exact Try.underlying3) h0
  obtain ⟨n1, rfl, w1⟩ := slot_int (by exact Try.underlying3) h1
  obtain ⟨n2, rfl, w2⟩ := slot_int (by exact Try.underlying3) h2
  obtain ⟨n3, rfl, w3⟩ := slot_int (by exact Try.underlying3) h3
  obtain ⟨n4, rfl, w4⟩ := slot_int (by exact Try.underlying3) h4
  exact ⟨n0, n1, n2, n3, n4, rfl⟩
theorem elH : ∀ fuel cs y, DataW.trod enc Try.prog w base (fun _ => true) true fuel 31 cs = some y → cs.length = 8 → Light Try.prog 31 y.1 → ∃ x : Ch, cs = encH x ∧ GoodI x := by
  intro fuel cs y h hlen hl
  obtain ⟨c0, c1, c2, c3, c4, c5, c6, c7, rfl⟩ := cells8 hlen
  obtain ⟨n, hat⟩ := trod_part Try.underlying31 h hl
  obtain ⟨z0, h0, l0⟩ := hat 0 _ 0 1 rfl rfl (by kernel_rfl)
  obtain ⟨z1, h1, l1⟩ := hat 1 _ 1 1 rfl rfl (by kernel_rfl)
  obtain ⟨z2, h2, l2⟩ := hat 2 _ 2 5 rfl rfl (by kernel_rfl)
  obtain ⟨z3, h3, l3⟩ := hat 3 _ 7 1 rfl rfl (by kernel_rfl)
  obtain ⟨n0, rfl, w0⟩ := slot_int (by exact Try.underlying3) h0
  obtain ⟨n1, rfl, w1⟩ := slot_int (by exact Try.underlying22) h1
  obtain ⟨ua, ub, uc, ue, uf, eU⟩ := elU _ _ _ h2 rfl l2
  obtain ⟨n3, rfl, w3⟩ := slot_int (by exact Try.underlying29) h3
  simp only [List.drop_succ_cons, List.drop_zero, List.take_succ_cons, List.take_zero] at eU
  injection eU with e1 eU
  injection eU with e2 eU
  injection eU with e3 eU
  injection eU with e4 eU
  injection eU with e5 _
  subst e1; subst e2; subst e3; subst e4; subst e5
  exact ⟨⟨n0, n1, ua, ub, uc, ue, uf, n3⟩, rfl, bounds_u16 w1⟩
theorem cg_open (hv : Value.okWide Try.prog w .any b0 31 v) (h : DataW.Trod enc Try.prog w base (fun _ => true) true 31 v d p) (hl : Light Try.prog 31 d) :
    ∃ x : Ch, v = .agg (encX x) ∧ GoodI x := by
  obtain ⟨x, e, g⟩ := open_struct (en := encH) (K := 8) Try.underlying31 (by kernel_rfl) elH hv h hl
  exact ⟨x, e, g⟩
theorem cgs_open (hv : Value.okWide Try.prog w .any b0 35 v) (h : DataW.Trod enc Try.prog w base (fun _ => true) true 35 v d p) (hl : Light Try.prog 35 d) :
    ∃ A c, ∃ xs : List Ch, v = .slice A xs.length c ∧ ListAt encH w w.heap.size A xs ∧ (∀ x ∈ xs, GoodI x) ∧ xs.length ≤ c ∧ c * 64 ≤ 140737488351232 := by
  obtain ⟨A, n, c, rfl⟩ := okWide_slice Try.underlying35 hv
  obtain ⟨fuel, hf⟩ := h
  obtain ⟨A', n', c', xs, e, h1, h2, h3, h4, h5⟩ := trod_rows sizH (by omega) Try.underlying35 (by kernel_rfl) elH (by simpa [Value.cells] using hf) hl
  injection e with e1 e2 e3
  subst e1; subst e2; subst e3; subst h1
  rw [show Try.prog.bytesOf 31 = 64 by kernel_rfl] at h5
  exact ⟨A, c, xs, rfl, h3, h4, h2, h5⟩
end
end Go.Proofs.Ytejojcanmlgegaa.Rd
