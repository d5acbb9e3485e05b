/- Control procedures: the statement on encryption, as the last text wants it; how an array of two integers reads as an argument. -/
import Derived.Test.YtpoagepchlfemaaRows
import Derived.ProofKit
import Derived.OpenShut
import Derived.Lib.SmallJoins
import Derived.Test.YtpoagepchlfemaaPcEncN
import Derived.Test.YtpoagepchlfemaaPcEncY
set_option linter.unusedVariables false
set_option linter.unusedSimpArgs false
namespace Go.Proofs.Ytpoagepchlfemaa.Arg
open Go.ChangeShapes Go.WideShapes Go.ChangeAt Go.RowKit Go.Deep Go.Joins

section
variable {H : Type} {enc : TypeId × Value → H} {P : Program} {w : World} {base b0 : Nat} {spare : Nat → Bool} {held : Bool}
theorem two {α : Type} {cs : Array α} (h : cs.size = 2) : ∃ a b, cs = #[a, b] := by
  obtain ⟨l⟩ := cs
  match l, h with
  | [a, b], _ => exact ⟨a, b, rfl⟩
theorem open_arr2 {t e : TypeId} {k : IntKind} {v : Value} {d : DataW H} {p : List MemPlace} (ht : P.underlying t = some (.array 2 e)) (he : P.underlying e = some (.int k)) (hce : P.cellsOf e = 1) (hct : P.cellsOf t = 2)
    (hv : Value.okWide P w .any b0 t v) (h : DataW.Trod enc P w base spare held t v d p) :
    ∃ i j : Int, v = .agg #[.int k i, .int k j] ∧ (Lit.int k i).wf = true ∧ (Lit.int k j).wf = true := by
  simp only [Value.okWide, ht] at hv
  obtain ⟨cs, rfl, hsz, _⟩ := hv
  obtain ⟨c0, c1, rfl⟩ := two (hsz.trans hct)
  obtain ⟨fuel, hf⟩ := h
  obtain ⟨xs, m, rfl, hx, hlen, hxl, hat⟩ := DataW.trod_array ht hf
  match xs, hxl, hat with
  | [y0, y1], _, hat =>
    have h0 := hat 0 (by decide)
    have h1 := hat 1 (by decide)
    rw [hce] at h0 h1
    simp [Value.cells] at h0 h1
    obtain ⟨n0, e0, _, w0⟩ := DataW.trod_int he h0
    obtain ⟨n1, e1, _, w1⟩ := DataW.trod_int he h1
    simp at e0 e1
    subst e0; subst e1
    exact ⟨n0, n1, rfl, w0, w1⟩
theorem open_struct2 {t : TypeId} {f0 f1 : Field} {k0 k1 : IntKind} {v : Value} {d : DataW H} {p : List MemPlace} (hs : P.underlying t = some (.struct #[f0, f1])) (hone : oneCellFields P #[f0, f1] = true) (hC : P.cellsOf t = 2)
    (h0 : P.underlying f0.type = some (.int k0)) (h1 : P.underlying f1.type = some (.int k1))
    (hv : Value.okWide P w .any b0 t v) (h : DataW.Trod enc P w base spare held t v d p) :
    ∃ i j : Int, v = .agg #[.int k0 i, .int k1 j] ∧ (Lit.int k0 i).wf = true ∧ (Lit.int k1 j).wf = true := by
  obtain ⟨v0, v1, y0, y1, n, rfl, _, _, g0, g1⟩ := open_agg2 hs hone hC hv h
  obtain ⟨n0, e0, _, w0⟩ := DataW.trod_int h0 g0
  obtain ⟨n1, e1, _, w1⟩ := DataW.trod_int h1 g1
  simp at e0 e1
  subst e0; subst e1
  exact ⟨n0, n1, rfl, w0, w1⟩
end
end Go.Proofs.Ytpoagepchlfemaa.Arg
namespace Go.Proofs.Ytpoagepchlfemaa.Pc
open Go.RowKit Mem Rw Cp
theorem enc_fin (s u k : Int) (b : Bool) (w : World) (h0 : 0 ≤ s ∧ s ≤ 18446744073709551615) (h1 : 0 ≤ u ∧ u ≤ 18446744073709551615) (h2 : 0 ≤ k ∧ k ≤ 18446744073709551615) : Calls Try.prog 7 #[.agg #[.int .u64 s, .int .u64 u], .int .u64 k, .bool b] w fun e w' => e = .returned (.bool true) ∧ Below w.heap.size w w' := by
  cases b with
  | false => exact enc_no s u k h0 h1 h2 w
  | true => exact enc_yes s u k h0 h1 h2 w
end Go.Proofs.Ytpoagepchlfemaa.Pc
