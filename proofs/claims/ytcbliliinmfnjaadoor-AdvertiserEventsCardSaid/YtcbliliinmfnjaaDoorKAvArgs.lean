/- How arguments read: the settings of an advertiser by value, a PDU that is heard, calls one after another. No function is mentioned. -/
import Derived.Test.YtcbliliinmfnjaaDoorKApArgs
import Derived.Test.YtcbliliinmfnjaaDoorKAccArgs
import Derived.Test.YtcbliliinmfnjaaDoorKM15
set_option maxRecDepth 100000
set_option linter.unusedVariables false
set_option linter.unusedSimpArgs false
namespace Go.Proofs.YtcbliliinmfnjaaDoor.Rd
open Go.ChangeShapes Go.WideShapes Go.ChangeAt Go.RowKit Go.Deep Mem Rw Ap Ace Av

theorem cells12 {α : Type} {cs : List α} (h : cs.length = 12) : ∃ c0 c1 c2 c3 c4 c5 c6 c7 c8 c9 c10 c11, cs = [c0, c1, c2, c3, c4, c5, c6, c7, c8, c9, c10, c11] := by
  match cs, h with
  | [c0, c1, c2, c3, c4, c5, c6, c7, c8, c9, c10, c11], _ => exact ⟨c0, c1, c2, c3, c4, c5, c6, c7, c8, c9, c10, c11, rfl⟩
def GoodI (x : Int × Int × Int) : Prop := (-9223372036854775808 ≤ x.1 ∧ x.1 ≤ 9223372036854775807) ∧ (0 ≤ x.2.1 ∧ x.2.1 ≤ 18446744073709551615) ∧ 0 ≤ x.2.2 ∧ x.2.2 ≤ 18446744073709551615
abbrev QA := Pm × Value × Value × Value × Value
def encQ (x : QA) : List Value := (pcel x.1 x.2.1 x.2.2.1 x.2.2.2.1 x.2.2.2.2).toList
def GoodQ (w : World) (x : QA) : Prop := PW x.1 ∧ Has w 0 x.1 x.2.1 x.2.2.1 x.2.2.2.1 x.2.2.2.2
section
variable {H : Type} {enc : TypeId × Value → H} {w : World} {base b0 : Nat} {v : Value} {d : DataW H} {p : List MemPlace}
theorem elI : ∀ fuel cs y, DataW.trod enc Tryd.prog w base (fun _ => true) true fuel 122 cs = some y → cs.length = 3 → Light Tryd.prog 122 y.1 → ∃ x : Int × Int × Int, cs = encI x ∧ GoodI x := by
  intro fuel cs y h hlen hl
  obtain ⟨c0, c1, c2, rfl⟩ := cells3 hlen
  obtain ⟨n, hat⟩ := trod_part Tryd.underlying122 h hl
  obtain ⟨z0, h0, l0⟩ := hat 0 _ 0 2 rfl rfl (by kernel_rfl)
  obtain ⟨z1, h1, _⟩ := hat 1 _ 2 1 rfl rfl (by kernel_rfl)
  obtain ⟨x, e, g⟩ := elA _ _ _ h0 rfl l0
  obtain ⟨n1, rfl, w1⟩ := slot_int (by exact Tryd.underlying101) h1
  obtain ⟨x1, x2⟩ := x
  simp only [encA] at e
  injection e with e1 e2
  injection e2 with e2 e3
  subst e1; subst e2
  exact ⟨(x1, x2, n1), rfl, g.1, g.2, bounds_u64 w1⟩
theorem addrs_part {v : Value} {fuel : Nat} {y : DataW H × List MemPlace} (h : DataW.trod enc Tryd.prog w base (fun _ => true) true fuel 26 [v] = some y) (hl : Light Tryd.prog 26 y.1) :
    ∃ xs : List (Int × Int), Row w 0 v xs.length (xs.flatMap encA) ∧ (∀ x ∈ xs, GoodA x) ∧ xs.length ≤ 8796093022200 := by
  obtain ⟨A, n, c, xs, rfl, rfl, h2, h3, h4, h5⟩ := trod_rows sizA (by omega) Tryd.underlying26 (by kernel_rfl) elA h hl
  rw [show Tryd.prog.bytesOf 24 = 16 by kernel_rfl] at h5
  exact ⟨xs, Row.of_cells h2 h3, h4, by omega⟩
theorem idents_part {v : Value} {fuel : Nat} {y : DataW H × List MemPlace} (h : DataW.trod enc Tryd.prog w base (fun _ => true) true fuel 27 [v] = some y) (hl : Light Tryd.prog 27 y.1) :
    ∃ xs : List (Int × Int × Int), Row w 0 v xs.length (xs.flatMap encI) ∧ Prv.Idents xs ∧ xs.length ≤ 5864062014800 := by
  obtain ⟨A, n, c, xs, rfl, rfl, h2, h3, h4, h5⟩ := trod_rows sizI (by omega) Tryd.underlying27 (by kernel_rfl) elI h hl
  rw [show Tryd.prog.bytesOf 122 = 24 by kernel_rfl] at h5
  exact ⟨xs, Row.of_cells h2 h3, h4, by omega⟩
theorem bytes_part {v : Value} {fuel : Nat} {y : DataW H × List MemPlace} (h : DataW.trod enc Tryd.prog w base (fun _ => true) true fuel 25 [v] = some y) (hl : Light Tryd.prog 25 y.1) :
    ∃ zs : List Int, Row w 0 v zs.length (zs.map (Value.int .u8)) ∧ Bytes zs ∧ zs.length ≤ 140737488351232 := by
  obtain ⟨A, m, c, zs, rfl, rfl, hmc, hi, hw, hz⟩ := trod_ints (by exact Tryd.underlying25) Tryd.underlying5 (by kernel_rfl) h hl
  rw [show Tryd.prog.bytesOf 5 = 1 by kernel_rfl] at hz
  exact ⟨zs, Row.of_cells hmc (of_ints hi), fun z hz => bounds_u8 (hw z hz), by omega⟩
theorem elQ : ∀ fuel cs y, DataW.trod enc Tryd.prog w base (fun _ => true) true fuel 29 cs = some y → cs.length = 12 → Light Tryd.prog 29 y.1 → ∃ x : QA, cs = encQ x ∧ GoodQ w x := by
  intro fuel cs y h hlen hl
  obtain ⟨c0, c1, c2, c3, c4, c5, c6, c7, c8, c9, c10, c11, rfl⟩ := cells12 hlen
  obtain ⟨n, hat⟩ := trod_part Tryd.underlying29 h hl
  obtain ⟨z0, h0, _⟩ := hat 0 _ 0 1 rfl rfl (by kernel_rfl)
  obtain ⟨z1, h1, _⟩ := hat 1 _ 1 1 rfl rfl (by kernel_rfl)
  obtain ⟨z2, h2, l2⟩ := hat 2 _ 2 2 rfl rfl (by kernel_rfl)
  obtain ⟨z3, h3, l3⟩ := hat 3 _ 4 2 rfl rfl (by kernel_rfl)
  obtain ⟨z4, h4, l4⟩ := hat 4 _ 6 1 rfl rfl (by kernel_rfl)
  obtain ⟨z5, h5, l5⟩ := hat 5 _ 7 1 rfl rfl (by kernel_rfl)
  obtain ⟨z6, h6, _⟩ := hat 6 _ 8 1 rfl rfl (by kernel_rfl)
  obtain ⟨z7, h7, l7⟩ := hat 7 _ 9 1 rfl rfl (by kernel_rfl)
  obtain ⟨z8, h8, l8⟩ := hat 8 _ 10 1 rfl rfl (by kernel_rfl)
  obtain ⟨z9, h9, _⟩ := hat 9 _ 11 1 rfl rfl (by kernel_rfl)
  obtain ⟨k, rfl, w0⟩ := slot_int (by exact Tryd.underlying3) h0
  obtain ⟨it, rfl, w1⟩ := slot_int (by exact Tryd.underlying3) h1
  obtain ⟨x2, e2, g2⟩ := elA _ _ _ h2 rfl l2
  obtain ⟨x3, e3, g3⟩ := elA _ _ _ h3 rfl l3
  obtain ⟨ds, rd, bd, nd⟩ := bytes_part h4 l4
  obtain ⟨sc, rs, bs, ns⟩ := bytes_part h5 l5
  obtain ⟨po, rfl, w6⟩ := slot_int (by exact Tryd.underlying3) h6
  obtain ⟨ac, ra, ga, na⟩ := addrs_part h7 l7
  obtain ⟨ids, ri, gi, ni⟩ := idents_part h8 l8
  obtain ⟨sd, rfl, w9⟩ := slot_int (by exact Tryd.underlying22) h9
  obtain ⟨ok, ob⟩ := x2
  obtain ⟨tk, tb⟩ := x3
  simp only [encA] at e2 e3
  have e2 : [c2, c3] = [.int .i64 ok, .int .u64 ob] := e2
  have e3 : [c4, c5] = [.int .i64 tk, .int .u64 tb] := e3
  injection e2 with e20 e21
  injection e21 with e21 _
  injection e3 with e30 e31
  injection e31 with e31 _
  subst e20; subst e21; subst e30; subst e31
  exact ⟨(⟨k, it, ok, ob, tk, tb, ds, sc, po, ac, ids, sd⟩, c6, c7, c9, c10), rfl, ⟨bounds_i64 w0, bounds_i64 w1, g2.1, g2.2, g3.1, g3.2, bd, bs, bounds_i64 w6, gi, bounds_u64 w9, nd, ns, na, ni⟩, ⟨rd, rs, ra, ri⟩⟩
theorem adv_open (hv : Value.okWide Tryd.prog w .any b0 29 v) (h : DataW.Trod enc Tryd.prog w base (fun _ => true) true 29 v d p) (hl : Light Tryd.prog 29 d) :
    ∃ (x : Pm) (VD VS VA VI : Value), v = .agg (pcel x VD VS VA VI) ∧ PW x ∧ Has w 0 x VD VS VA VI := by
  obtain ⟨x, e, g⟩ := open_struct (en := encQ) (K := 12) Tryd.underlying29 (by kernel_rfl) elQ hv h hl
  exact ⟨x.1, x.2.1, x.2.2.1, x.2.2.2.1, x.2.2.2.2, e, g⟩
end
end Go.Proofs.YtcbliliinmfnjaaDoor.Rd
