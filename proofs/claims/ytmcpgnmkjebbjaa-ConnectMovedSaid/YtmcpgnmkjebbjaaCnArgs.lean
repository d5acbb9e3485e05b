/- How the arguments of the statements on connections read. No function is mentioned. -/
import Derived.Test.YtmcpgnmkjebbjaaRead
import Derived.Test.YtmcpgnmkjebbjaaParArgs
set_option maxRecDepth 100000
set_option linter.unusedVariables false
set_option linter.unusedSimpArgs false
namespace Go.Proofs.Ytmcpgnmkjebbjaa.Rd
open Go.ChangeShapes Go.WideShapes Go.ChangeAt Go.RowKit Go.Deep Mem Rw

theorem arr3 {α : Type} {cs : Array α} (h : cs.size = 3) : ∃ c0 c1 c2, cs = #[c0, c1, c2] := by
  obtain ⟨l⟩ := cs
  match l, h with
  | [c0, c1, c2], _ => exact ⟨c0, c1, c2, rfl⟩
theorem arr4 {α : Type} {cs : Array α} (h : cs.size = 4) : ∃ c0 c1 c2 c3, cs = #[c0, c1, c2, c3] := by
  obtain ⟨l⟩ := cs
  match l, h with
  | [c0, c1, c2, c3], _ => exact ⟨c0, c1, c2, c3, rfl⟩
theorem arr5 {α : Type} {cs : Array α} (h : cs.size = 5) : ∃ c0 c1 c2 c3 c4, cs = #[c0, c1, c2, c3, c4] := by
  obtain ⟨l⟩ := cs
  match l, h with
  | [c0, c1, c2, c3, c4], _ => exact ⟨c0, c1, c2, c3, c4, rfl⟩
theorem arr10 {α : Type} {cs : Array α} (h : cs.size = 10) : ∃ c0 c1 c2 c3 c4 c5 c6 c7 c8 c9, cs = #[c0, c1, c2, c3, c4, c5, c6, c7, c8, c9] := by
  obtain ⟨l⟩ := cs
  match l, h with
  | [c0, c1, c2, c3, c4, c5, c6, c7, c8, c9], _ => exact ⟨c0, c1, c2, c3, c4, c5, c6, c7, c8, c9, rfl⟩
section
variable {H : Type} {enc : TypeId × Value → H} {w : World} {base b0 : Nat} {v : Value} {d : DataW H} {p : List MemPlace}
theorem upd_open (hv : Value.okWide Try.prog w .any b0 23 v) (h : DataW.Trod enc Try.prog w base (fun _ => true) true 23 v d p) (hl : Light Try.prog 23 d) :
    ∃ s o i l t : Int, v = .agg #[.int .i64 s, .int .i64 o, .int .i64 i, .int .i64 l, .int .i64 t] ∧ (Lit.int .i64 s).wf = true ∧ (Lit.int .i64 o).wf = true ∧ (Lit.int .i64 i).wf = true ∧ (Lit.int .i64 l).wf = true ∧ (Lit.int .i64 t).wf = true := by
  obtain ⟨cs, rfl, hsz⟩ := okWide_struct Try.underlying23 hv
  obtain ⟨c0, c1, c2, c3, c4, rfl⟩ := arr5 (hsz.trans (by kernel_rfl : Try.prog.cellsOf 23 = 5))
  obtain ⟨fuel, hf⟩ := h
  obtain ⟨n, hat⟩ := trod_slot (cs := [c0, c1, c2, c3, c4]) Try.underlying23 (by kernel_rfl) (by simpa [Value.cells] using hf) hl
  obtain ⟨z0, h0, _⟩ := hat 0 _ c0 rfl rfl
  obtain ⟨n0, rfl, w0⟩ := slot_int (by exact Try.underlying3) h0
  obtain ⟨z1, h1, _⟩ := hat 1 _ c1 rfl rfl
  obtain ⟨n1, rfl, w1⟩ := slot_int (by exact Try.underlying3) h1
  obtain ⟨z2, h2, _⟩ := hat 2 _ c2 rfl rfl
  obtain ⟨n2, rfl, w2⟩ := slot_int (by exact Try.underlying3) h2
  obtain ⟨z3, h3, _⟩ := hat 3 _ c3 rfl rfl
  obtain ⟨n3, rfl, w3⟩ := slot_int (by exact Try.underlying3) h3
  obtain ⟨z4, h4, _⟩ := hat 4 _ c4 rfl rfl
  obtain ⟨n4, rfl, w4⟩ := slot_int (by exact Try.underlying3) h4
  exact ⟨n0, n1, n2, n3, n4, rfl, w0, w1, w2, w3, w4⟩
theorem wait_open (hv : Value.okWide Try.prog w .any b0 48 v) (h : DataW.Trod enc Try.prog w base (fun _ => true) true 48 v d p) (hl : Light Try.prog 48 d) :
    ∃ x n q : Int, v = .agg #[.int .i64 x, .int .i64 n, .int .i64 q] ∧ (Lit.int .i64 x).wf = true ∧ (Lit.int .i64 n).wf = true ∧ (Lit.int .i64 q).wf = true := by
  obtain ⟨cs, rfl, hsz⟩ := okWide_struct Try.underlying48 hv
  obtain ⟨c0, c1, c2, rfl⟩ := arr3 (hsz.trans (by kernel_rfl : Try.prog.cellsOf 48 = 3))
  obtain ⟨fuel, hf⟩ := h
  obtain ⟨n, hat⟩ := trod_slot (cs := [c0, c1, c2]) Try.underlying48 (by kernel_rfl) (by simpa [Value.cells] using hf) hl
  obtain ⟨z0, h0, _⟩ := hat 0 _ c0 rfl rfl
  obtain ⟨n0, rfl, w0⟩ := slot_int (by exact Try.underlying3) h0
  obtain ⟨z1, h1, _⟩ := hat 1 _ c1 rfl rfl
  obtain ⟨n1, rfl, w1⟩ := slot_int (by exact Try.underlying3) h1
  obtain ⟨z2, h2, _⟩ := hat 2 _ c2 rfl rfl
  obtain ⟨n2, rfl, w2⟩ := slot_int (by exact Try.underlying3) h2
  exact ⟨n0, n1, n2, rfl, w0, w1, w2⟩
theorem beat_open (hv : Value.okWide Try.prog w .any b0 58 v) (h : DataW.Trod enc Try.prog w base (fun _ => true) true 58 v d p) (hl : Light Try.prog 58 d) :
    ∃ x n q r : Int, v = .agg #[.int .i64 x, .int .i64 n, .int .i64 q, .int .i64 r] ∧ (Lit.int .i64 x).wf = true ∧ (Lit.int .i64 n).wf = true ∧ (Lit.int .i64 q).wf = true ∧ (Lit.int .i64 r).wf = true := by
  obtain ⟨cs, rfl, hsz⟩ := okWide_struct Try.underlying58 hv
  obtain ⟨c0, c1, c2, c3, rfl⟩ := arr4 (hsz.trans (by kernel_rfl : Try.prog.cellsOf 58 = 4))
  obtain ⟨fuel, hf⟩ := h
  obtain ⟨n, hat⟩ := trod_slot (cs := [c0, c1, c2, c3]) Try.underlying58 (by kernel_rfl) (by simpa [Value.cells] using hf) hl
  obtain ⟨z0, h0, _⟩ := hat 0 _ c0 rfl rfl
  obtain ⟨n0, rfl, w0⟩ := slot_int (by exact Try.underlying3) h0
  obtain ⟨z1, h1, _⟩ := hat 1 _ c1 rfl rfl
  obtain ⟨n1, rfl, w1⟩ := slot_int (by exact Try.underlying3) h1
  obtain ⟨z2, h2, _⟩ := hat 2 _ c2 rfl rfl
  obtain ⟨n2, rfl, w2⟩ := slot_int (by exact Try.underlying3) h2
  obtain ⟨z3, h3, _⟩ := hat 3 _ c3 rfl rfl
  obtain ⟨n3, rfl, w3⟩ := slot_int (by exact Try.underlying3) h3
  exact ⟨n0, n1, n2, n3, rfl, w0, w1, w2, w3⟩
theorem par_open (hv : Value.okWide Try.prog w .any b0 28 v) (h : DataW.Trod enc Try.prog w base (fun _ => true) true 28 v d p) (hl : Light Try.prog 28 d) :
    ∃ a b s o i l t m hh dd g : Int, v = .agg #[.int .u32 a, .int .u32 b, .int .i64 s, .int .i64 o, .int .i64 i, .int .i64 l, .int .i64 t, .int .u64 m, .int .i64 hh, .int .i64 dd, .int .i64 g] ∧ ((Lit.int .u32 a).wf = true ∧ (Lit.int .u32 b).wf = true ∧ (Lit.int .u64 m).wf = true) :=
  Arg.open_params2 Try.underlying28 (by kernel_rfl) (by kernel_rfl) (by kernel_rfl) (by exact Try.underlying23) (by kernel_rfl) (by exact Try.underlying3) (by exact Try.underlying3) (by exact Try.underlying3) (by exact Try.underlying3) (by exact Try.underlying3) (by exact Try.underlying24) (by exact Try.underlying24) (by exact Try.underlying26) (by exact Try.underlying3) (by exact Try.underlying3) (by exact Try.underlying3) hv h
theorem clk_cells {n : Nat} {c0 c1 : Value} {y : DataW H × List MemPlace} (h : DataW.trod enc Try.prog w base (fun _ => true) true n 54 [c0, c1] = some y) : ∃ a b : Int, c0 = .int .i64 a ∧ c1 = .int .i64 b := by
  obtain ⟨xs, n, _, rfl, _, hlen, hat⟩ := DataW.trod_struct Try.underlying54 h
  have hci : Try.prog.cellsOf 3 = 1 := by kernel_rfl
  obtain ⟨y0, hy0⟩ : ∃ y, xs[0]? = some y := ⟨_, List.getElem?_eq_getElem (by rw [hlen]; decide)⟩
  obtain ⟨y1, hy1⟩ : ∃ y, xs[1]? = some y := ⟨_, List.getElem?_eq_getElem (by rw [hlen]; decide)⟩
  have q0 : DataW.trod enc Try.prog w base (fun _ => true) true n 3 [c0] = some y0 := by
    have := hat 0 _ rfl
    simpa [Value.cells, hci, hy0] using this
  have q1 : DataW.trod enc Try.prog w base (fun _ => true) true n 3 [c1] = some y1 := by
    have := hat 1 _ rfl
    simpa [Value.cells, hci, hy1] using this
  obtain ⟨a, rfl, _⟩ := slot_int (by exact Try.underlying3) q0
  obtain ⟨b, rfl, _⟩ := slot_int (by exact Try.underlying3) q1
  exact ⟨a, b, rfl, rfl⟩
theorem two_open (hv : Value.okWide Try.prog w .any b0 56 v) (h : DataW.Trod enc Try.prog w base (fun _ => true) true 56 v d p) (hl : Light Try.prog 56 d) :
    ∃ pa sa pb sb : Int, v = .agg #[.int .i64 pa, .int .i64 sa, .int .i64 pb, .int .i64 sb] ∧ True := by
  obtain ⟨cs, rfl, hsz⟩ := okWide_struct Try.underlying56 hv
  obtain ⟨c0, c1, c2, c3, rfl⟩ := arr4 (hsz.trans (by kernel_rfl : Try.prog.cellsOf 56 = 4))
  obtain ⟨fuel, hf⟩ := h
  obtain ⟨xs, n, _, _, _, hlen, hat⟩ := DataW.trod_struct Try.underlying56 hf
  have hcl : Try.prog.cellsOf 54 = 2 := by kernel_rfl
  obtain ⟨y0, hy0⟩ : ∃ y, xs[0]? = some y := ⟨_, List.getElem?_eq_getElem (by rw [hlen]; decide)⟩
  obtain ⟨y1, hy1⟩ : ∃ y, xs[1]? = some y := ⟨_, List.getElem?_eq_getElem (by rw [hlen]; decide)⟩
  have q0 : DataW.trod enc Try.prog w base (fun _ => true) true n 54 [c0, c1] = some y0 := by
    have := hat 0 _ rfl
    simpa [Value.cells, hcl, hy0] using this
  have q1 : DataW.trod enc Try.prog w base (fun _ => true) true n 54 [c2, c3] = some y1 := by
    have := hat 1 _ rfl
    simpa [Value.cells, hcl, hy1] using this
  obtain ⟨n0, n1, rfl, rfl⟩ := clk_cells q0
  obtain ⟨n2, n3, rfl, rfl⟩ := clk_cells q1
  exact ⟨n0, n1, n2, n3, rfl, trivial⟩
theorem change_open (hv : Value.okWide Try.prog w .any b0 63 v) (h : DataW.Trod enc Try.prog w base (fun _ => true) true 63 v d p) (hl : Light Try.prog 63 d) :
    ∃ s o i l t s2 o2 i2 l2 t2 : Int, v = .agg #[.int .i64 s, .int .i64 o, .int .i64 i, .int .i64 l, .int .i64 t, .int .i64 s2, .int .i64 o2, .int .i64 i2, .int .i64 l2, .int .i64 t2] ∧ True := by
  simp only [Value.okWide, Try.underlying63] at hv
  obtain ⟨cs, rfl, hsz, _⟩ := hv
  obtain ⟨c0, c1, c2, c3, c4, c5, c6, c7, c8, c9, rfl⟩ := arr10 (hsz.trans (by kernel_rfl : Try.prog.cellsOf 63 = 10))
  obtain ⟨fuel, hf⟩ := h
  obtain ⟨xs, m, rfl, hx, hlen, hxl, hat⟩ := DataW.trod_array Try.underlying63 hf
  have hcu : Try.prog.cellsOf 23 = 5 := by kernel_rfl
  match xs, hxl, hat with
  | [y0, y1], _, hat =>
    have h0 := hat 0 (by decide)
    have h1 := hat 1 (by decide)
    rw [hcu] at h0 h1
    simp [Value.cells] at h0 h1
    obtain ⟨n0, n1, n2, n3, n4, rfl, rfl, rfl, rfl, rfl⟩ := Arg.trod_five Try.underlying23 (by kernel_rfl) (by exact Try.underlying3) (by exact Try.underlying3) (by exact Try.underlying3) (by exact Try.underlying3) (by exact Try.underlying3) h0
    obtain ⟨m0, m1, m2, m3, m4, rfl, rfl, rfl, rfl, rfl⟩ := Arg.trod_five Try.underlying23 (by kernel_rfl) (by exact Try.underlying3) (by exact Try.underlying3) (by exact Try.underlying3) (by exact Try.underlying3) (by exact Try.underlying3) h1
    exact ⟨n0, n1, n2, n3, n4, m0, m1, m2, m3, m4, rfl, trivial⟩
end
end Go.Proofs.Ytmcpgnmkjebbjaa.Rd
