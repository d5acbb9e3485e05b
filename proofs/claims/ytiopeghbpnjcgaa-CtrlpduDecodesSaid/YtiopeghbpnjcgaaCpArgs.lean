/- How arguments read: control PDUs. No function is mentioned. -/
import Derived.Test.YtiopeghbpnjcgaaPart
import Derived.Test.YtiopeghbpnjcgaaCpChk
set_option maxRecDepth 100000
set_option linter.unusedVariables false
set_option linter.unusedSimpArgs false
namespace Go.Proofs.Ytiopeghbpnjcgaa.Rd
open Go.ChangeShapes Go.WideShapes Go.ChangeAt Go.RowKit Go.Deep Mem Rw Oct Cp
theorem cells15 {α : Type} {cs : List α} (h : cs.length = 15) : ∃ c0 c1 c2 c3 c4 c5 c6 c7 c8 c9 c10 c11 c12 c13 c14, cs = [c0, c1, c2, c3, c4, c5, c6, c7, c8, c9, c10, c11, c12, c13, c14] := by
  match cs, h with
  | [c0, c1, c2, c3, c4, c5, c6, c7, c8, c9, c10, c11, c12, c13, c14], _ => exact ⟨c0, c1, c2, c3, c4, c5, c6, c7, c8, c9, c10, c11, c12, c13, c14, rfl⟩
section
variable {H : Type} {enc : TypeId × Value → H} {w : World} {base b0 : Nat} {v : Value} {d : DataW H} {p : List MemPlace}
theorem elU : ∀ fuel cs y, DataW.trod enc Try.prog w base (fun _ => true) true fuel 23 cs = some y → cs.length = 5 → Light Try.prog 23 y.1 → ∃ a b c e f : Int, cs = [.int .i64 a, .int .i64 b, .int .i64 c, .int .i64 e, .int .i64 f] ∧ (-9223372036854775808 ≤ a ∧ a ≤ 9223372036854775807) ∧ (-9223372036854775808 ≤ b ∧ b ≤ 9223372036854775807) ∧ (-9223372036854775808 ≤ c ∧ c ≤ 9223372036854775807) ∧ (-9223372036854775808 ≤ e ∧ e ≤ 9223372036854775807) ∧ (-9223372036854775808 ≤ f ∧ f ≤ 9223372036854775807) := by
  intro fuel cs y h hlen hl
  obtain ⟨c0, c1, c2, c3, c4, rfl⟩ : ∃ c0 c1 c2 c3 c4, cs = [c0, c1, c2, c3, c4] := by
    match cs, hlen with
    | [c0, c1, c2, c3, c4], _ => exact ⟨c0, c1, c2, c3, c4, rfl⟩
  obtain ⟨n, hat⟩ := trod_slot Try.underlying23 (by kernel_rfl) h hl
  obtain ⟨z0, h0, _⟩ := hat 0 _ c0 rfl rfl
  obtain ⟨z1, h1, _⟩ := hat 1 _ c1 rfl rfl
  obtain ⟨z2, h2, _⟩ := hat 2 _ c2 rfl rfl
  obtain ⟨z3, h3, _⟩ := hat 3 _ c3 rfl rfl
  obtain ⟨z4, h4, _⟩ := hat 4 _ c4 rfl rfl
  obtain ⟨n0, rfl, w0⟩ := slot_int (by exact Try.underlying3) h0
  obtain ⟨n1, rfl, w1⟩ := slot_int (by exact Try.underlying3) h1
  obtain ⟨n2, rfl, w2⟩ := slot_int (by exact Try.underlying3) h2
  obtain ⟨n3, rfl, w3⟩ := slot_int (by exact Try.underlying3) h3
  obtain ⟨n4, rfl, w4⟩ := slot_int (by exact Try.underlying3) h4
  exact ⟨n0, n1, n2, n3, n4, rfl, bounds_i64 w0, bounds_i64 w1, bounds_i64 w2, bounds_i64 w3, bounds_i64 w4⟩
theorem elC : ∀ fuel cs y, DataW.trod enc Try.prog w base (fun _ => true) true fuel 28 cs = some y → cs.length = 15 → Light Try.prog 28 y.1 → ∃ x : Ct, cs = (encC x).toList ∧ GoodC x := by
  intro fuel cs y h hlen hl
  obtain ⟨c0, c1, c2, c3, c4, c5, c6, c7, c8, c9, c10, c11, c12, c13, c14, rfl⟩ := cells15 hlen
  obtain ⟨n, hat⟩ := trod_part Try.underlying28 h hl
  obtain ⟨z0, h0, l0⟩ := hat 0 _ 0 1 rfl rfl (by kernel_rfl)
  obtain ⟨z1, h1, l1⟩ := hat 1 _ 1 5 rfl rfl (by kernel_rfl)
  obtain ⟨z2, h2, l2⟩ := hat 2 _ 6 1 rfl rfl (by kernel_rfl)
  obtain ⟨z3, h3, l3⟩ := hat 3 _ 7 1 rfl rfl (by kernel_rfl)
  obtain ⟨z4, h4, l4⟩ := hat 4 _ 8 1 rfl rfl (by kernel_rfl)
  obtain ⟨z5, h5, l5⟩ := hat 5 _ 9 1 rfl rfl (by kernel_rfl)
  obtain ⟨z6, h6, l6⟩ := hat 6 _ 10 1 rfl rfl (by kernel_rfl)
  obtain ⟨z7, h7, l7⟩ := hat 7 _ 11 1 rfl rfl (by kernel_rfl)
  obtain ⟨z8, h8, l8⟩ := hat 8 _ 12 1 rfl rfl (by kernel_rfl)
  obtain ⟨z9, h9, l9⟩ := hat 9 _ 13 1 rfl rfl (by kernel_rfl)
  obtain ⟨z10, h10, l10⟩ := hat 10 _ 14 1 rfl rfl (by kernel_rfl)
  obtain ⟨n0, rfl, w0⟩ := slot_int (by exact Try.underlying3) h0
  obtain ⟨ua, ub, uc, ue, uf, eU, wa, wb, wc, we, wf⟩ := elU _ _ _ h1 rfl l1
  obtain ⟨n2, rfl, w2⟩ := slot_int (by exact Try.underlying25) h2
  obtain ⟨n3, rfl, w3⟩ := slot_int (by exact Try.underlying26) h3
  obtain ⟨n4, rfl, w4⟩ := slot_int (by exact Try.underlying3) h4
  obtain ⟨n5, rfl, w5⟩ := slot_int (by exact Try.underlying3) h5
  obtain ⟨n6, rfl, w6⟩ := slot_int (by exact Try.underlying24) h6
  obtain ⟨n7, rfl, w7⟩ := slot_int (by exact Try.underlying24) h7
  obtain ⟨n8, rfl, w8⟩ := slot_int (by exact Try.underlying24) h8
  obtain ⟨n9, rfl, w9⟩ := slot_int (by exact Try.underlying3) h9
  obtain ⟨n10, rfl, w10⟩ := slot_int (by exact Try.underlying3) h10
  simp only [List.drop_succ_cons, List.drop_zero, List.take_succ_cons, List.take_zero] at eU
  injection eU with e1 eU
  injection eU with e2 eU
  injection eU with e3 eU
  injection eU with e4 eU
  injection eU with e5 _
  subst e1; subst e2; subst e3; subst e4; subst e5
  have hm := bounds_u64 w2
  obtain ⟨m, rfl⟩ := Int.eq_ofNat_of_zero_le hm.1
  exact ⟨⟨n0, ua, ub, uc, ue, uf, m, n3, n4, n5, n6, n7, n8, n9, n10⟩, rfl, (by show m ≤ 18446744073709551615; omega), bounds_i64 w0, wa, wb, wc, we, wf, bounds_u16 w3, bounds_i64 w4, bounds_i64 w5, bounds_u64 w6, bounds_u64 w7, bounds_u64 w8, bounds_i64 w9, bounds_i64 w10⟩
theorem ctrl_open (hv : Value.okWide Try.prog w .any b0 28 v) (h : DataW.Trod enc Try.prog w base (fun _ => true) true 28 v d p) (hl : Light Try.prog 28 d) :
    ∃ x : Ct, v = .agg (encC x) ∧ GoodC x := by
  obtain ⟨x, e, g⟩ := open_struct (en := fun x => (encC x).toList) (K := 15) Try.underlying28 (by kernel_rfl) elC hv h hl
  exact ⟨x, e, g⟩
end
end Go.Proofs.Ytiopeghbpnjcgaa.Rd
