/- How arguments read: an identity (an address and a key), by value; a slice of identities. -/
import Derived.Test.YtegmknmbgifmjaaDoorRows
import Derived.ProofKit
import Derived.OpenShut
import Derived.Lib.SmallJoins
import Derived.Test.YtegmknmbgifmjaaDoorOpen
set_option linter.unusedVariables false
set_option linter.unusedSimpArgs false
namespace Go.Proofs.YtegmknmbgifmjaaDoor.Arg
open Go.ChangeShapes Go.WideShapes Go.ChangeAt Go.RowKit Go.Deep Go.Joins

section
variable {H : Type} {enc : TypeId × Value → H} {P : Program} {w : World} {base b0 : Nat}
theorem list3 {α : Type} {xs : List α} (h : xs.length = 3) : ∃ c0 c1 c2, xs = [c0, c1, c2] := by
  match xs, h with
  | [c0, c1, c2], _ => exact ⟨c0, c1, c2, rfl⟩
/-- Three cells that read as an identity. -/
theorem trod_ident {spare : Nat → Bool} {held : Bool} {t : TypeId} {f0 f1 g0 g1 : Field} {fuel : Nat} {cs : List Value} {y : DataW H × List MemPlace} (hs : P.underlying t = some (.struct #[f0, f1])) (hC : P.cellsOf t = 3) (hF : f0.offset = 0 ∧ f1.offset = 2 ∧ P.cellsOf f0.type = 2 ∧ P.cellsOf f1.type = 1)
    (ha : P.underlying f0.type = some (.struct #[g0, g1])) (hone : oneCellFields P #[g0, g1] = true) (h0 : P.underlying g0.type = some (.int .i64)) (h1 : P.underlying g1.type = some (.int .u64)) (h2 : P.underlying f1.type = some (.int .u64))
    (h : DataW.trod enc P w base spare held fuel t cs = some y) :
    ∃ i b k : Int, cs = [.int .i64 i, .int .u64 b, .int .u64 k] ∧ (Lit.int .i64 i).wf = true ∧ (Lit.int .u64 b).wf = true ∧ (Lit.int .u64 k).wf = true := by
  obtain ⟨hf0, hf1, hc0, hc1⟩ := hF
  obtain ⟨y0, y1, n, _, hl, q0, q1⟩ := trod_struct2 hs h
  obtain ⟨c0, c1, c2, rfl⟩ := list3 (hl.trans hC)
  rw [hf0, hc0] at q0
  rw [hf1, hc1] at q1
  replace q0 : DataW.trod enc P w base spare held n f0.type [c0, c1] = some y0 := q0
  replace q1 : DataW.trod enc P w base spare held n f1.type [c2] = some y1 := q1
  obtain ⟨z0, z1, m, _, _, r0, r1⟩ := trod_struct2 ha q0
  obtain ⟨o0, s0⟩ := hone_of hone 0 g0 rfl
  obtain ⟨o1, s1⟩ := hone_of hone 1 g1 rfl
  rw [o0, s0] at r0
  rw [o1, s1] at r1
  obtain ⟨i, e0, _, w0⟩ := DataW.trod_int h0 r0
  obtain ⟨b, e1, _, w1⟩ := DataW.trod_int h1 r1
  obtain ⟨k, e2, _, w2⟩ := DataW.trod_int h2 q1
  simp at e0 e1 e2
  subst e0; subst e1; subst e2
  exact ⟨i, b, k, rfl, w0, w1, w2⟩
theorem open_ident {spare : Nat → Bool} {held : Bool} {t : TypeId} {f0 f1 g0 g1 : Field} {v : Value} {d : DataW H} {p : List MemPlace} (hs : P.underlying t = some (.struct #[f0, f1])) (hC : P.cellsOf t = 3) (hF : f0.offset = 0 ∧ f1.offset = 2 ∧ P.cellsOf f0.type = 2 ∧ P.cellsOf f1.type = 1)
    (ha : P.underlying f0.type = some (.struct #[g0, g1])) (hone : oneCellFields P #[g0, g1] = true) (h0 : P.underlying g0.type = some (.int .i64)) (h1 : P.underlying g1.type = some (.int .u64)) (h2 : P.underlying f1.type = some (.int .u64))
    (hv : Value.okWide P w .any b0 t v) (h : DataW.Trod enc P w base spare held t v d p) :
    ∃ i b k : Int, v = .agg #[.int .i64 i, .int .u64 b, .int .u64 k] ∧ (Lit.int .i64 i).wf = true ∧ (Lit.int .u64 b).wf = true ∧ (Lit.int .u64 k).wf = true := by
  obtain ⟨cs, rfl, hsz⟩ := okWide_struct hs hv
  obtain ⟨fuel, hf⟩ := h
  obtain ⟨i, b, k, hcs, w0, w1, w2⟩ := trod_ident hs hC hF ha hone h0 h1 h2 hf
  obtain ⟨l⟩ := cs
  simp [Value.cells] at hcs
  subst hcs
  exact ⟨i, b, k, rfl, w0, w1, w2⟩
/-- Rows of three integers each. -/
def TriplesAt (w : World) (A : Option Addr) (fs : List (Int × Int × Int)) : Prop :=
  fs = [] ∨ ∃ b off, A = some ⟨b, off, none⟩ ∧ b < w.heap.size ∧ ∀ j f, fs[j]? = some f → w.cell? ⟨b, off + j * 3, none⟩ = some (.int .i64 f.1) ∧ w.cell? ⟨b, off + j * 3 + 1, none⟩ = some (.int .u64 f.2.1) ∧ w.cell? ⟨b, off + j * 3 + 2, none⟩ = some (.int .u64 f.2.2)
/-- A slice of identities. -/
theorem read_idents {t e : TypeId} {f0 f1 g0 g1 : Field} {A : Option Addr} {n c : Nat} {d : DataW H} {p : List MemPlace} (ht : P.underlying t = some (.slice e)) (hs : P.underlying e = some (.struct #[f0, f1])) (hC : P.cellsOf e = 3) (hF : f0.offset = 0 ∧ f1.offset = 2 ∧ P.cellsOf f0.type = 2 ∧ P.cellsOf f1.type = 1)
    (ha : P.underlying f0.type = some (.struct #[g0, g1])) (hone : oneCellFields P #[g0, g1] = true) (h0 : P.underlying g0.type = some (.int .i64)) (h1 : P.underlying g1.type = some (.int .u64)) (h2 : P.underlying f1.type = some (.int .u64))
    (h : DataW.Trod enc P w base (fun _ => true) true t (.slice A n c) d p) :
    ∃ fs : List (Int × Int × Int), fs.length = n ∧ n ≤ c ∧ TriplesAt w A fs ∧
      (∀ f ∈ fs, (Lit.int .i64 f.1).wf = true ∧ (Lit.int .u64 f.2.1).wf = true ∧ (Lit.int .u64 f.2.2).wf = true) ∧ ((d = .nil ∧ c = 0) ∨ ∃ elems spare, d = .slice elems spare ∧ elems.length + spare.length = c) := by
  obtain ⟨fuel, hf⟩ := h
  rcases open_slice ht hf with ⟨hcs, hx⟩ | ⟨a, len, cap, m, fl, D, Pl, hcs, _, hl, hm, hmm, hx, hi⟩
  · simp [Value.cells] at hcs
    obtain ⟨rfl, rfl, rfl⟩ := hcs
    simp only [Prod.mk.injEq] at hx
    exact ⟨[], rfl, Nat.le_refl _, .inl rfl, by simp, .inl ⟨hx.1, rfl⟩⟩
  · simp [Value.cells] at hcs
    obtain ⟨rfl, rfl, rfl⟩ := hcs
    simp only [if_true] at hmm
    subst hmm
    simp only [Prod.mk.injEq] at hx
    have each : ∀ i, i < m → ∃ x y z : Int, w.cell? (a.add (i * 3)) = some (.int .i64 x) ∧ w.cell? (a.add (i * 3 + 1)) = some (.int .u64 y) ∧ w.cell? (a.add (i * 3 + 2)) = some (.int .u64 z) ∧ (Lit.int .i64 x).wf = true ∧ (Lit.int .u64 y).wf = true ∧ (Lit.int .u64 z).wf = true := by
      intro i hlt
      obtain ⟨cs, hcs, htr⟩ := hi i hlt
      rw [hC] at hcs
      obtain ⟨_, hlen, hat⟩ := World.cells?_some hcs
      obtain ⟨x, y, z, rfl, wx, wy, wz⟩ := trod_ident hs hC hF ha hone h0 h1 h2 htr
      have a0 := hat 0 (by omega)
      have a1 := hat 1 (by omega)
      have a2 := hat 2 (by omega)
      have e0 : (a.add (i * 3)).add 0 = a.add (i * 3) := by unfold Addr.add; simp
      rw [e0] at a0
      rw [Go.Deep.add_add] at a1 a2
      exact ⟨x, y, z, by simpa using a0, by simpa using a1, by simpa using a2, wx, wy, wz⟩
    have hex : ∃ fs : List (Int × Int × Int), fs.length = n ∧ ∀ j f, fs[j]? = some f → w.cell? (a.add (j * 3)) = some (.int .i64 f.1) ∧ w.cell? (a.add (j * 3 + 1)) = some (.int .u64 f.2.1) ∧ w.cell? (a.add (j * 3 + 2)) = some (.int .u64 f.2.2) ∧ (Lit.int .i64 f.1).wf = true ∧ (Lit.int .u64 f.2.1).wf = true ∧ (Lit.int .u64 f.2.2).wf = true := by
      have : ∀ q, q ≤ n → ∃ fs : List (Int × Int × Int), fs.length = q ∧ ∀ j f, fs[j]? = some f → w.cell? (a.add (j * 3)) = some (.int .i64 f.1) ∧ w.cell? (a.add (j * 3 + 1)) = some (.int .u64 f.2.1) ∧ w.cell? (a.add (j * 3 + 2)) = some (.int .u64 f.2.2) ∧ (Lit.int .i64 f.1).wf = true ∧ (Lit.int .u64 f.2.1).wf = true ∧ (Lit.int .u64 f.2.2).wf = true := by
        intro q
        induction q with
        | zero => intro _; exact ⟨[], rfl, by simp⟩
        | succ q ih =>
          intro hq
          obtain ⟨fs, hfl, hfs⟩ := ih (by omega)
          obtain ⟨x, y, z, hx, hy, hz, wx, wy, wz⟩ := each q (by omega)
          refine ⟨fs ++ [(x, y, z)], by simp [hfl], fun j f hj => ?_⟩
          by_cases hjq : j < fs.length
          · rw [List.getElem?_append_left hjq] at hj; exact hfs j f hj
          · rw [List.getElem?_append_right (by omega)] at hj
            have hj0 : j = q := by
              rcases Nat.lt_or_ge (j - fs.length) 1 with g | g
              · omega
              · rw [List.getElem?_eq_none (by simpa using g)] at hj; cases hj
            subst hj0
            rw [hfl, Nat.sub_self] at hj
            simp at hj
            subst hj
            exact ⟨hx, hy, hz, wx, wy, wz⟩
      exact this n (Nat.le_refl _)
    obtain ⟨fs, hfl, hfs⟩ := hex
    refine ⟨fs, hfl, hl, ?_, fun f hfm => ?_, .inr ⟨_, _, hx.1, ?_⟩⟩
    · cases hfe : fs with
      | nil => exact .inl rfl
      | cons f fr =>
        right
        have h00 := (hfs 0 f (by rw [hfe]; rfl)).1
        have hblk := block_lt_of_cell h00
        have hspot := World.cell?_spot h00
        obtain ⟨b, off, spot⟩ := a
        have hs : spot = none := by
          have : (Addr.add ⟨b, off, spot⟩ (0 * 3)).spot = spot := by unfold Addr.add; simp
          rw [this] at hspot; exact hspot
        subst hs
        refine ⟨b, off, rfl, by simpa [add_plain] using hblk, fun j g hj => ?_⟩
        rw [← hfe] at hj
        have := hfs j g hj
        rw [add_plain, add_plain, add_plain] at this
        exact ⟨this.1, by rw [Nat.add_assoc]; exact this.2.1, by rw [Nat.add_assoc]; exact this.2.2.1⟩
    · obtain ⟨j, hj⟩ := List.getElem?_of_mem hfm
      exact ⟨(hfs j f hj).2.2.2.1, (hfs j f hj).2.2.2.2.1, (hfs j f hj).2.2.2.2.2⟩
    · simp; omega
end
end Go.Proofs.YtegmknmbgifmjaaDoor.Arg
