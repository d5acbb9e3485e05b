/- How arguments read: the parameters of a connection, by value. -/
import Derived.Test.YtmcpgnmkjebbjaaRows
import Derived.ProofKit
import Derived.OpenShut
import Derived.Lib.SmallJoins
set_option linter.unusedVariables false
set_option linter.unusedSimpArgs false
namespace Go.Proofs.Ytmcpgnmkjebbjaa.Arg
open Go.ChangeShapes Go.WideShapes Go.ChangeAt Go.RowKit Go.Deep Go.Joins

section
variable {H : Type} {enc : TypeId × Value → H} {P : Program} {w : World} {base b0 : Nat} {spare : Nat → Bool} {held : Bool}
theorem list5 {α : Type} {xs : List α} (h : xs.length = 5) : ∃ c0 c1 c2 c3 c4, xs = [c0, c1, c2, c3, c4] := by
  match xs, h with
  | [c0, c1, c2, c3, c4], _ => exact ⟨c0, c1, c2, c3, c4, rfl⟩
theorem list7 {α : Type} {xs : List α} (h : xs.length = 7) : ∃ c0 c1 c2 c3 c4 c5 c6, xs = [c0, c1, c2, c3, c4, c5, c6] := by
  match xs, h with
  | [c0, c1, c2, c3, c4, c5, c6], _ => exact ⟨c0, c1, c2, c3, c4, c5, c6, rfl⟩
theorem array11 {α : Type} {cs : Array α} (h : cs.size = 11) : ∃ c0 c1 c2 c3 c4 c5 c6 c7 c8 c9 c10, cs = #[c0, c1, c2, c3, c4, c5, c6, c7, c8, c9, c10] := by
  obtain ⟨l⟩ := cs
  match l, h with
  | [c0, c1, c2, c3, c4, c5, c6, c7, c8, c9, c10], _ => exact ⟨c0, c1, c2, c3, c4, c5, c6, c7, c8, c9, c10, rfl⟩
/-- Five cells that read as a struct of five integers. -/
theorem trod_five {t : TypeId} {g0 g1 g2 g3 g4 : Field} {k : IntKind} {fuel : Nat} {c0 c1 c2 c3 c4 : Value} {y : DataW H × List MemPlace} (hs : P.underlying t = some (.struct #[g0, g1, g2, g3, g4])) (hone : oneCellFields P #[g0, g1, g2, g3, g4] = true)
    (h0 : P.underlying g0.type = some (.int k)) (h1 : P.underlying g1.type = some (.int k)) (h2 : P.underlying g2.type = some (.int k)) (h3 : P.underlying g3.type = some (.int k)) (h4 : P.underlying g4.type = some (.int k))
    (h : DataW.trod enc P w base spare held fuel t [c0, c1, c2, c3, c4] = some y) :
    ∃ n0 n1 n2 n3 n4 : Int, c0 = .int k n0 ∧ c1 = .int k n1 ∧ c2 = .int k n2 ∧ c3 = .int k n3 ∧ c4 = .int k n4 := by
  obtain ⟨xs, n, _, _, _, hlen, hat⟩ := DataW.trod_struct hs h
  obtain ⟨y0, y1, y2, y3, y4, rfl⟩ := list5 hlen
  obtain ⟨o0, s0⟩ := hone_of hone 0 g0 rfl
  obtain ⟨o1, s1⟩ := hone_of hone 1 g1 rfl
  obtain ⟨o2, s2⟩ := hone_of hone 2 g2 rfl
  obtain ⟨o3, s3⟩ := hone_of hone 3 g3 rfl
  obtain ⟨o4, s4⟩ := hone_of hone 4 g4 rfl
  have q0 : DataW.trod enc P w base spare held n g0.type [c0] = some y0 := by simpa [Value.cells, o0, s0] using hat 0 g0 rfl
  have q1 : DataW.trod enc P w base spare held n g1.type [c1] = some y1 := by simpa [Value.cells, o1, s1] using hat 1 g1 rfl
  have q2 : DataW.trod enc P w base spare held n g2.type [c2] = some y2 := by simpa [Value.cells, o2, s2] using hat 2 g2 rfl
  have q3 : DataW.trod enc P w base spare held n g3.type [c3] = some y3 := by simpa [Value.cells, o3, s3] using hat 3 g3 rfl
  have q4 : DataW.trod enc P w base spare held n g4.type [c4] = some y4 := by simpa [Value.cells, o4, s4] using hat 4 g4 rfl
  obtain ⟨n0, e0, _, _⟩ := DataW.trod_int h0 q0
  obtain ⟨n1, e1, _, _⟩ := DataW.trod_int h1 q1
  obtain ⟨n2, e2, _, _⟩ := DataW.trod_int h2 q2
  obtain ⟨n3, e3, _, _⟩ := DataW.trod_int h3 q3
  obtain ⟨n4, e4, _, _⟩ := DataW.trod_int h4 q4
  simp at e0 e1 e2 e3 e4
  exact ⟨n0, n1, n2, n3, n4, e0, e1, e2, e3, e4⟩
theorem open_params {t : TypeId} {f0 f1 f2 f3 f4 f5 f6 g0 g1 g2 g3 g4 : Field} {v : Value} {d : DataW H} {p : List MemPlace} (hs : P.underlying t = some (.struct #[f0, f1, f2, f3, f4, f5, f6])) (hC : P.cellsOf t = 11)
    (ho : [f0.offset, f1.offset, f2.offset, f3.offset, f4.offset, f5.offset, f6.offset] = [0, 1, 2, 7, 8, 9, 10])
    (hc : [P.cellsOf f0.type, P.cellsOf f1.type, P.cellsOf f2.type, P.cellsOf f3.type, P.cellsOf f4.type, P.cellsOf f5.type, P.cellsOf f6.type] = [1, 1, 5, 1, 1, 1, 1])
    (hu : P.underlying f2.type = some (.struct #[g0, g1, g2, g3, g4])) (hone : oneCellFields P #[g0, g1, g2, g3, g4] = true)
    (i0 : P.underlying g0.type = some (.int .i64)) (i1 : P.underlying g1.type = some (.int .i64)) (i2 : P.underlying g2.type = some (.int .i64)) (i3 : P.underlying g3.type = some (.int .i64)) (i4 : P.underlying g4.type = some (.int .i64))
    (h0 : P.underlying f0.type = some (.int .u32)) (h1 : P.underlying f1.type = some (.int .u32)) (h3 : P.underlying f3.type = some (.int .u64)) (h4 : P.underlying f4.type = some (.int .i64)) (h5 : P.underlying f5.type = some (.int .i64)) (h6 : P.underlying f6.type = some (.int .i64))
    (hv : Value.okWide P w .any b0 t v) (h : DataW.Trod enc P w base spare held t v d p) :
    ∃ a b u0 u1 u2 u3 u4 m hh dd g : Int, v = .agg #[.int .u32 a, .int .u32 b, .int .i64 u0, .int .i64 u1, .int .i64 u2, .int .i64 u3, .int .i64 u4, .int .u64 m, .int .i64 hh, .int .i64 dd, .int .i64 g] ∧ (Lit.int .u32 a).wf = true ∧ (Lit.int .u64 m).wf = true ∧ (Lit.int .i64 hh).wf = true := by
  simp only [List.cons.injEq, and_true] at ho hc
  obtain ⟨o0, o1, o2, o3, o4, o5, o6⟩ := ho
  obtain ⟨k0, k1, k2, k3, k4, k5, k6⟩ := hc
  obtain ⟨cs, rfl, hsz⟩ := okWide_struct hs hv
  obtain ⟨c0, c1, c2, c3, c4, c5, c6, c7, c8, c9, c10, rfl⟩ := array11 (hsz.trans hC)
  obtain ⟨fuel, hf⟩ := h
  obtain ⟨xs, n, _, _, _, hlen, hat⟩ := DataW.trod_struct hs hf
  obtain ⟨y0, y1, y2, y3, y4, y5, y6, rfl⟩ := list7 hlen
  have q0 : DataW.trod enc P w base spare held n f0.type [c0] = some y0 := by simpa [Value.cells, o0, k0] using hat 0 f0 rfl
  have q1 : DataW.trod enc P w base spare held n f1.type [c1] = some y1 := by simpa [Value.cells, o1, k1] using hat 1 f1 rfl
  have q2 : DataW.trod enc P w base spare held n f2.type [c2, c3, c4, c5, c6] = some y2 := by simpa [Value.cells, o2, k2] using hat 2 f2 rfl
  have q3 : DataW.trod enc P w base spare held n f3.type [c7] = some y3 := by simpa [Value.cells, o3, k3] using hat 3 f3 rfl
  have q4 : DataW.trod enc P w base spare held n f4.type [c8] = some y4 := by simpa [Value.cells, o4, k4] using hat 4 f4 rfl
  have q5 : DataW.trod enc P w base spare held n f5.type [c9] = some y5 := by simpa [Value.cells, o5, k5] using hat 5 f5 rfl
  have q6 : DataW.trod enc P w base spare held n f6.type [c10] = some y6 := by simpa [Value.cells, o6, k6] using hat 6 f6 rfl
  obtain ⟨n0, e0, _, w0⟩ := DataW.trod_int h0 q0
  obtain ⟨n1, e1, _, w1⟩ := DataW.trod_int h1 q1
  obtain ⟨n3, e3, _, w3⟩ := DataW.trod_int h3 q3
  obtain ⟨n4, e4, _, w4⟩ := DataW.trod_int h4 q4
  obtain ⟨n5, e5, _, w5⟩ := DataW.trod_int h5 q5
  obtain ⟨n6, e6, _, w6⟩ := DataW.trod_int h6 q6
  obtain ⟨z0, z1, z2, z3, z4, rfl, rfl, rfl, rfl, rfl⟩ := trod_five hu hone i0 i1 i2 i3 i4 q2
  simp at e0 e1 e3 e4 e5 e6
  subst e0; subst e1; subst e3; subst e4; subst e5; subst e6
  exact ⟨n0, n1, z0, z1, z2, z3, z4, n3, n4, n5, n6, rfl, w0, w3, w4⟩
theorem open_params2 {t : TypeId} {f0 f1 f2 f3 f4 f5 f6 g0 g1 g2 g3 g4 : Field} {v : Value} {d : DataW H} {p : List MemPlace} (hs : P.underlying t = some (.struct #[f0, f1, f2, f3, f4, f5, f6])) (hC : P.cellsOf t = 11)
    (ho : [f0.offset, f1.offset, f2.offset, f3.offset, f4.offset, f5.offset, f6.offset] = [0, 1, 2, 7, 8, 9, 10])
    (hc : [P.cellsOf f0.type, P.cellsOf f1.type, P.cellsOf f2.type, P.cellsOf f3.type, P.cellsOf f4.type, P.cellsOf f5.type, P.cellsOf f6.type] = [1, 1, 5, 1, 1, 1, 1])
    (hu : P.underlying f2.type = some (.struct #[g0, g1, g2, g3, g4])) (hone : oneCellFields P #[g0, g1, g2, g3, g4] = true)
    (i0 : P.underlying g0.type = some (.int .i64)) (i1 : P.underlying g1.type = some (.int .i64)) (i2 : P.underlying g2.type = some (.int .i64)) (i3 : P.underlying g3.type = some (.int .i64)) (i4 : P.underlying g4.type = some (.int .i64))
    (h0 : P.underlying f0.type = some (.int .u32)) (h1 : P.underlying f1.type = some (.int .u32)) (h3 : P.underlying f3.type = some (.int .u64)) (h4 : P.underlying f4.type = some (.int .i64)) (h5 : P.underlying f5.type = some (.int .i64)) (h6 : P.underlying f6.type = some (.int .i64))
    (hv : Value.okWide P w .any b0 t v) (h : DataW.Trod enc P w base spare held t v d p) :
    ∃ a b u0 u1 u2 u3 u4 m hh dd g : Int, v = .agg #[.int .u32 a, .int .u32 b, .int .i64 u0, .int .i64 u1, .int .i64 u2, .int .i64 u3, .int .i64 u4, .int .u64 m, .int .i64 hh, .int .i64 dd, .int .i64 g] ∧ ((Lit.int .u32 a).wf = true ∧ (Lit.int .u32 b).wf = true ∧ (Lit.int .u64 m).wf = true) := by
  simp only [List.cons.injEq, and_true] at ho hc
  obtain ⟨o0, o1, o2, o3, o4, o5, o6⟩ := ho
  obtain ⟨k0, k1, k2, k3, k4, k5, k6⟩ := hc
  obtain ⟨cs, rfl, hsz⟩ := okWide_struct hs hv
  obtain ⟨c0, c1, c2, c3, c4, c5, c6, c7, c8, c9, c10, rfl⟩ := array11 (hsz.trans hC)
  obtain ⟨fuel, hf⟩ := h
  obtain ⟨xs, n, _, _, _, hlen, hat⟩ := DataW.trod_struct hs hf
  obtain ⟨y0, y1, y2, y3, y4, y5, y6, rfl⟩ := list7 hlen
  have q0 : DataW.trod enc P w base spare held n f0.type [c0] = some y0 := by simpa [Value.cells, o0, k0] using hat 0 f0 rfl
  have q1 : DataW.trod enc P w base spare held n f1.type [c1] = some y1 := by simpa [Value.cells, o1, k1] using hat 1 f1 rfl
  have q2 : DataW.trod enc P w base spare held n f2.type [c2, c3, c4, c5, c6] = some y2 := by simpa [Value.cells, o2, k2] using hat 2 f2 rfl
  have q3 : DataW.trod enc P w base spare held n f3.type [c7] = some y3 := by simpa [Value.cells, o3, k3] using hat 3 f3 rfl
  have q4 : DataW.trod enc P w base spare held n f4.type [c8] = some y4 := by simpa [Value.cells, o4, k4] using hat 4 f4 rfl
  have q5 : DataW.trod enc P w base spare held n f5.type [c9] = some y5 := by simpa [Value.cells, o5, k5] using hat 5 f5 rfl
  have q6 : DataW.trod enc P w base spare held n f6.type [c10] = some y6 := by simpa [Value.cells, o6, k6] using hat 6 f6 rfl
  obtain ⟨n0, e0, _, w0⟩ := DataW.trod_int h0 q0
  obtain ⟨n1, e1, _, w1⟩ := DataW.trod_int h1 q1
  obtain ⟨n3, e3, _, w3⟩ := DataW.trod_int h3 q3
  obtain ⟨n4, e4, _, w4⟩ := DataW.trod_int h4 q4
  obtain ⟨n5, e5, _, w5⟩ := DataW.trod_int h5 q5
  obtain ⟨n6, e6, _, w6⟩ := DataW.trod_int h6 q6
  obtain ⟨z0, z1, z2, z3, z4, rfl, rfl, rfl, rfl, rfl⟩ := trod_five hu hone i0 i1 i2 i3 i4 q2
  simp at e0 e1 e3 e4 e5 e6
  subst e0; subst e1; subst e3; subst e4; subst e5; subst e6
  exact ⟨n0, n1, z0, z1, z2, z3, z4, n3, n4, n5, n6, rfl, w0, w1, w3⟩
end
end Go.Proofs.Ytmcpgnmkjebbjaa.Arg
