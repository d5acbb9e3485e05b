/- How arguments read: transmissions, a medium, a listen, by value and in slices. No program is mentioned. -/
import Derived.Test.YtkbhmgdmkamcfaaDoorRead
import Derived.Test.YtkbhmgdmkamcfaaDoorAirMath
set_option linter.unusedVariables false
set_option linter.unusedSimpArgs false
set_option maxRecDepth 100000
namespace Go.Proofs.YtkbhmgdmkamcfaaDoor.Rd
open Go.ChangeShapes Go.WideShapes Go.ChangeAt Go.RowKit Go.Deep Mem Rw Air

section
variable {H : Type} {enc : TypeId × Value → H} {P : Program} {w : World} {base : Nat}
def GoodT (w : World) (x : Tx) : Prop := (I64 x.id ∧ I64 x.frm ∧ I64 x.ch ∧ I64 x.st) ∧ Own w w.heap.size x ∧ ∀ z ∈ x.bs, 0 ≤ z ∧ z ≤ 255
def GoodP (p : Int × Int) : Prop := I64 p.1 ∧ I64 p.2
def GoodJ (j : Jm) : Prop := I64 j.ch ∧ I64 j.st ∧ I64 j.en
def GoodL (l : Ln) : Prop := I64 l.dev ∧ I64 l.ch ∧ I64 l.st ∧ I64 l.en
theorem l2 {α : Type} {cs : List α} (h : cs.length = 2) : ∃ c0 c1, cs = [c0, c1] := by
  match cs, h with
  | [c0, c1], _ => exact ⟨c0, c1, rfl⟩
theorem l3 {α : Type} {cs : List α} (h : cs.length = 3) : ∃ c0 c1 c2, cs = [c0, c1, c2] := by
  match cs, h with
  | [c0, c1, c2], _ => exact ⟨c0, c1, c2, rfl⟩
theorem l4 {α : Type} {cs : List α} (h : cs.length = 4) : ∃ c0 c1 c2 c3, cs = [c0, c1, c2, c3] := by
  match cs, h with
  | [c0, c1, c2, c3], _ => exact ⟨c0, c1, c2, c3, rfl⟩
theorem l5 {α : Type} {cs : List α} (h : cs.length = 5) : ∃ c0 c1 c2 c3 c4, cs = [c0, c1, c2, c3, c4] := by
  match cs, h with
  | [c0, c1, c2, c3, c4], _ => exact ⟨c0, c1, c2, c3, c4, rfl⟩
theorem pair_elem {t : TypeId} {f0 f1 : Field} (hs : P.underlying t = some (.struct #[f0, f1])) (hone : oneCellFields P #[f0, f1] = true) (i0 : P.underlying f0.type = some (.int .i64)) (i1 : P.underlying f1.type = some (.int .i64)) :
    ∀ fuel cs y, DataW.trod enc P w base (fun _ => true) true fuel t cs = some y → cs.length = 2 → Light P t y.1 → ∃ x : Int × Int, cs = encP x ∧ GoodP x := by
  intro fuel cs y h hlen hl
  obtain ⟨c0, c1, rfl⟩ := l2 hlen
  obtain ⟨n, hat⟩ := trod_slot hs hone h hl
  obtain ⟨z0, h0, _⟩ := hat 0 f0 c0 rfl rfl
  obtain ⟨z1, h1, _⟩ := hat 1 f1 c1 rfl rfl
  obtain ⟨n0, rfl, w0⟩ := slot_int i0 h0
  obtain ⟨n1, rfl, w1⟩ := slot_int i1 h1
  exact ⟨(n0, n1), rfl, bounds_i64 w0, bounds_i64 w1⟩
theorem jam_elem {t : TypeId} {f0 f1 f2 : Field} (hs : P.underlying t = some (.struct #[f0, f1, f2])) (hone : oneCellFields P #[f0, f1, f2] = true) (i0 : P.underlying f0.type = some (.int .i64)) (i1 : P.underlying f1.type = some (.int .i64)) (i2 : P.underlying f2.type = some (.int .i64)) :
    ∀ fuel cs y, DataW.trod enc P w base (fun _ => true) true fuel t cs = some y → cs.length = 3 → Light P t y.1 → ∃ x : Jm, cs = encJ x ∧ GoodJ x := by
  intro fuel cs y h hlen hl
  obtain ⟨c0, c1, c2, rfl⟩ := l3 hlen
  obtain ⟨n, hat⟩ := trod_slot hs hone h hl
  obtain ⟨z0, h0, _⟩ := hat 0 f0 c0 rfl rfl
  obtain ⟨z1, h1, _⟩ := hat 1 f1 c1 rfl rfl
  obtain ⟨z2, h2, _⟩ := hat 2 f2 c2 rfl rfl
  obtain ⟨n0, rfl, w0⟩ := slot_int i0 h0
  obtain ⟨n1, rfl, w1⟩ := slot_int i1 h1
  obtain ⟨n2, rfl, w2⟩ := slot_int i2 h2
  exact ⟨⟨n0, n1, n2⟩, rfl, bounds_i64 w0, bounds_i64 w1, bounds_i64 w2⟩
theorem listen_elem {t : TypeId} {f0 f1 f2 f3 : Field} (hs : P.underlying t = some (.struct #[f0, f1, f2, f3])) (hone : oneCellFields P #[f0, f1, f2, f3] = true) (i0 : P.underlying f0.type = some (.int .i64)) (i1 : P.underlying f1.type = some (.int .i64)) (i2 : P.underlying f2.type = some (.int .i64)) (i3 : P.underlying f3.type = some (.int .i64)) :
    ∀ fuel cs y, DataW.trod enc P w base (fun _ => true) true fuel t cs = some y → cs.length = 4 → Light P t y.1 → ∃ x : Ln, cs = encL x ∧ GoodL x := by
  intro fuel cs y h hlen hl
  obtain ⟨c0, c1, c2, c3, rfl⟩ := l4 hlen
  obtain ⟨n, hat⟩ := trod_slot hs hone h hl
  obtain ⟨z0, h0, _⟩ := hat 0 f0 c0 rfl rfl
  obtain ⟨z1, h1, _⟩ := hat 1 f1 c1 rfl rfl
  obtain ⟨z2, h2, _⟩ := hat 2 f2 c2 rfl rfl
  obtain ⟨z3, h3, _⟩ := hat 3 f3 c3 rfl rfl
  obtain ⟨n0, rfl, w0⟩ := slot_int i0 h0
  obtain ⟨n1, rfl, w1⟩ := slot_int i1 h1
  obtain ⟨n2, rfl, w2⟩ := slot_int i2 h2
  obtain ⟨n3, rfl, w3⟩ := slot_int i3 h3
  exact ⟨⟨n0, n1, n2, n3⟩, rfl, bounds_i64 w0, bounds_i64 w1, bounds_i64 w2, bounds_i64 w3⟩
theorem tx_elem {t e : TypeId} {f0 f1 f2 f3 f4 : Field} (hs : P.underlying t = some (.struct #[f0, f1, f2, f3, f4])) (hone : oneCellFields P #[f0, f1, f2, f3, f4] = true) (i0 : P.underlying f0.type = some (.int .i64)) (i1 : P.underlying f1.type = some (.int .i64)) (i2 : P.underlying f2.type = some (.int .i64)) (i3 : P.underlying f3.type = some (.int .i64))
    (i4 : P.underlying f4.type = some (.slice e)) (he : P.underlying e = some (.int .u8)) (hc : P.cellsOf e = 1) (hb : P.bytesOf e = 1) :
    ∀ fuel cs y, DataW.trod enc P w base (fun _ => true) true fuel t cs = some y → cs.length = 5 → Light P t y.1 → ∃ x : Tx, cs = encT x ∧ GoodT w x := by
  intro fuel cs y h hlen hl
  obtain ⟨c0, c1, c2, c3, c4, rfl⟩ := l5 hlen
  obtain ⟨n, hat⟩ := trod_slot hs hone h hl
  obtain ⟨z0, h0, _⟩ := hat 0 f0 c0 rfl rfl
  obtain ⟨z1, h1, _⟩ := hat 1 f1 c1 rfl rfl
  obtain ⟨z2, h2, _⟩ := hat 2 f2 c2 rfl rfl
  obtain ⟨z3, h3, _⟩ := hat 3 f3 c3 rfl rfl
  obtain ⟨z4, h4, l4⟩ := hat 4 f4 c4 rfl rfl
  obtain ⟨n0, rfl, w0⟩ := slot_int i0 h0
  obtain ⟨n1, rfl, w1⟩ := slot_int i1 h1
  obtain ⟨n2, rfl, w2⟩ := slot_int i2 h2
  obtain ⟨n3, rfl, w3⟩ := slot_int i3 h3
  obtain ⟨A, m, c, zs, rfl, rfl, hmc, hi, hw, hz⟩ := trod_ints i4 he hc h4 l4
  rw [hb] at hz
  exact ⟨⟨n0, n1, n2, n3, A, c, zs⟩, rfl, ⟨bounds_i64 w0, bounds_i64 w1, bounds_i64 w2, bounds_i64 w3⟩, ⟨hmc, by simp only; omega, hi⟩, fun z hz => bounds_u8 (hw z hz)⟩
/-- A medium with its places. -/
def encA (x : Med × Pl) : List Value := [.int .i64 x.1.dev, .slice x.2.A x.1.links.length x.2.ac, .slice x.2.J x.1.jams.length x.2.jc, .slice x.2.S x.1.loss.length x.2.sc]
def GoodA (w : World) (x : Med × Pl) : Prop := I64 x.1.dev ∧ MedAt w w.heap.size x.2 x.1 ∧ (∀ p ∈ x.1.links, GoodP p) ∧ (∀ p ∈ x.1.jams, GoodJ p) ∧ (∀ p ∈ x.1.loss, GoodP p) ∧ x.1.links.length ≤ x.2.ac ∧ x.1.jams.length ≤ x.2.jc ∧ x.1.loss.length ≤ x.2.sc ∧ x.1.jams.length ≤ 5864062014805
theorem air_elem {t a j s : TypeId} {f0 f1 f2 f3 : Field} (hs : P.underlying t = some (.struct #[f0, f1, f2, f3])) (hone : oneCellFields P #[f0, f1, f2, f3] = true) (i0 : P.underlying f0.type = some (.int .i64))
    (i1 : P.underlying f1.type = some (.slice a)) (i2 : P.underlying f2.type = some (.slice j)) (i3 : P.underlying f3.type = some (.slice s)) (ca : P.cellsOf a = 2) (cj : P.cellsOf j = 3) (cs : P.cellsOf s = 2) (ba : P.bytesOf a = 16) (bj : P.bytesOf j = 24) (bs : P.bytesOf s = 16)
    (ea : ∀ fuel cs y, DataW.trod enc P w base (fun _ => true) true fuel a cs = some y → cs.length = 2 → Light P a y.1 → ∃ x : Int × Int, cs = encP x ∧ GoodP x)
    (ej : ∀ fuel cs y, DataW.trod enc P w base (fun _ => true) true fuel j cs = some y → cs.length = 3 → Light P j y.1 → ∃ x : Jm, cs = encJ x ∧ GoodJ x)
    (es : ∀ fuel cs y, DataW.trod enc P w base (fun _ => true) true fuel s cs = some y → cs.length = 2 → Light P s y.1 → ∃ x : Int × Int, cs = encP x ∧ GoodP x) :
    ∀ fuel cs y, DataW.trod enc P w base (fun _ => true) true fuel t cs = some y → cs.length = 4 → Light P t y.1 → ∃ x : Med × Pl, cs = encA x ∧ GoodA w x := by
  intro fuel cs y h hlen hl
  obtain ⟨c0, c1, c2, c3, rfl⟩ := l4 hlen
  obtain ⟨n, hat⟩ := trod_slot hs hone h hl
  obtain ⟨z0, h0, _⟩ := hat 0 f0 c0 rfl rfl
  obtain ⟨z1, h1, g1⟩ := hat 1 f1 c1 rfl rfl
  obtain ⟨z2, h2, g2⟩ := hat 2 f2 c2 rfl rfl
  obtain ⟨z3, h3, g3⟩ := hat 3 f3 c3 rfl rfl
  obtain ⟨n0, rfl, w0⟩ := slot_int i0 h0
  obtain ⟨A, k, kc, links, rfl, rfl, q1, r1, w1, b1⟩ := trod_rows sizP (by omega) i1 ca ea h1 g1
  obtain ⟨J, l, lc, jams, rfl, rfl, q2, r2, w2, b2⟩ := trod_rows sizJ (by omega) i2 cj ej h2 g2
  obtain ⟨S, m, mc, loss, rfl, rfl, q3, r3, w3, b3⟩ := trod_rows sizP (by omega) i3 cs es h3 g3
  rw [ba] at b1; rw [bj] at b2; rw [bs] at b3
  exact ⟨(⟨n0, links, jams, loss⟩, ⟨A, kc, J, lc, S, mc⟩), rfl, bounds_i64 w0, ⟨r1, r2, r3, by simp only; omega, by simp only; omega, by simp only; omega⟩, w1, w2, w3, q1, q2, q3, by simp only; omega⟩
end
section
variable {H : Type} {enc : TypeId × Value → H} {w : World} {base b0 : Nat} {d : DataW H} {p : List MemPlace} {v : Value}
theorem txE : ∀ fuel cs y, DataW.trod enc Tryd.prog w base (fun _ => true) true fuel 64 cs = some y → cs.length = 5 → Light Tryd.prog 64 y.1 → ∃ x : Tx, cs = encT x ∧ GoodT w x :=
  tx_elem Tryd.underlying64 (by kernel_rfl) (by exact Tryd.underlying3) (by exact Tryd.underlying3) (by exact Tryd.underlying3) (by exact Tryd.underlying3) (by exact Tryd.underlying32) Tryd.underlying5 (by kernel_rfl) (by kernel_rfl)
theorem tx_open (hv : Value.okWide Tryd.prog w .any b0 64 v) (h : DataW.Trod enc Tryd.prog w base (fun _ => true) true 64 v d p) (hl : Light Tryd.prog 64 d) :
    ∃ x : Tx, v = .agg #[.int .i64 x.id, .int .i64 x.frm, .int .i64 x.ch, .int .i64 x.st, .slice x.A x.bs.length x.c] ∧ GoodT w x := by
  obtain ⟨x, rfl, hg⟩ := open_struct Tryd.underlying64 (K := 5) (by kernel_rfl) txE hv h hl
  exact ⟨x, rfl, hg⟩
theorem txs_open (hv : Value.okWide Tryd.prog w .any b0 27 v) (h : DataW.Trod enc Tryd.prog w base (fun _ => true) true 27 v d p) (hl : Light Tryd.prog 27 d) :
    ∃ A c, ∃ xs : List Tx, v = .slice A xs.length c ∧ TxsAt w w.heap.size A xs ∧ (∀ x ∈ xs, GoodT w x) ∧ xs.length ≤ c ∧ c * 56 ≤ 140737488351232 := by
  obtain ⟨A, n, c, rfl⟩ := okWide_slice Tryd.underlying27 hv
  obtain ⟨fuel, hf⟩ := h
  obtain ⟨A', n', c', xs, e, h1, h2, h3, h4, h5⟩ := trod_rows sizT (by omega) Tryd.underlying27 (by kernel_rfl) txE (by simpa [Value.cells] using hf) hl
  injection e with e1 e2 e3
  subst e1; subst e2; subst e3; subst h1
  rw [show Tryd.prog.bytesOf 64 = 56 by kernel_rfl] at h5
  exact ⟨A, c, xs, rfl, ⟨h3, fun x hx => (h4 x hx).2.1⟩, h4, h2, h5⟩
theorem pairE : ∀ fuel cs y, DataW.trod enc Tryd.prog w base (fun _ => true) true fuel 58 cs = some y → cs.length = 2 → Light Tryd.prog 58 y.1 → ∃ x : Int × Int, cs = encP x ∧ GoodP x :=
  pair_elem Tryd.underlying58 (by kernel_rfl) (by exact Tryd.underlying3) (by exact Tryd.underlying3)
theorem lossE : ∀ fuel cs y, DataW.trod enc Tryd.prog w base (fun _ => true) true fuel 62 cs = some y → cs.length = 2 → Light Tryd.prog 62 y.1 → ∃ x : Int × Int, cs = encP x ∧ GoodP x :=
  pair_elem Tryd.underlying62 (by kernel_rfl) (by exact Tryd.underlying3) (by exact Tryd.underlying3)
theorem jamE : ∀ fuel cs y, DataW.trod enc Tryd.prog w base (fun _ => true) true fuel 60 cs = some y → cs.length = 3 → Light Tryd.prog 60 y.1 → ∃ x : Jm, cs = encJ x ∧ GoodJ x :=
  jam_elem Tryd.underlying60 (by kernel_rfl) (by exact Tryd.underlying3) (by exact Tryd.underlying3) (by exact Tryd.underlying3)
theorem air_open (hv : Value.okWide Tryd.prog w .any b0 26 v) (h : DataW.Trod enc Tryd.prog w base (fun _ => true) true 26 v d p) (hl : Light Tryd.prog 26 d) :
    ∃ (m : Med) (q : Pl), v = mv m q ∧ GoodA w (m, q) := by
  obtain ⟨⟨m, q⟩, rfl, hg⟩ := open_struct Tryd.underlying26 (K := 4) (by kernel_rfl) (air_elem Tryd.underlying26 (by kernel_rfl) (by exact Tryd.underlying3) (by exact Tryd.underlying22) (by exact Tryd.underlying23) (by exact Tryd.underlying24) (by kernel_rfl) (by kernel_rfl) (by kernel_rfl) (by kernel_rfl) (by kernel_rfl) (by kernel_rfl) pairE jamE lossE) hv h hl
  exact ⟨m, q, rfl, hg⟩
end
end Go.Proofs.YtkbhmgdmkamcfaaDoor.Rd
