/- Two captures that are equal, few records, times in order: the document's answers. -/
import Derived.Test.YtkbhmgdmkamcfaaDoorCapCopy
import Derived.Test.YtkbhmgdmkamcfaaDoorOctMath
import Derived.Deep.RegionHeld3
import Derived.WalkLawsBesides
set_option linter.unusedVariables false
set_option linter.unusedSimpArgs false
set_option maxRecDepth 100000
namespace Go.Proofs.YtkbhmgdmkamcfaaDoor.Cap
open Go.RowKit Mem Rw Air Base

set_option maxHeartbeats 8000000 in
theorem same_any (A A' : Option Addr) (n c c' : Nat) (xs ys : List Tx) (w : World) (hx : xs.length = n) (hy : ys.length = n) (hn : n ≤ 140737488351232) (he : xs.map Tx.tr = ys.map Tx.tr) (ta : TxsAt w w.heap.size A xs) (tb : TxsAt w w.heap.size A' ys) :
    Calls Tryd.prog 13 #[.slice A n c, .slice A' n c'] w fun e w' => e = .returned (.bool true) ∧ Below w.heap.size w w' := by
  have h0 : ((n : Int) != (n : Int)) = false := by simp
  have Hx := Lib.hid hx
  have Hy := Lib.hid hy
  have HE := Lib.hid he
  clear hx hy he
  go_enter Tryd.func13, Tryd.ntmps13
  go_wp2_with fail
  go_loopw [5] (fun i wr => ∃ k : Nat, k ≤ n ∧ i = .int .i64 k ∧ Below w.heap.size w wr) (fun i _ => n - (intOf i).toNat)
  case atStart => exact ⟨0, by omega, rfl, Below.refl _ _⟩
  case round =>
    obtain ⟨k, hk, rfl, hbel⟩ := hrel
    by_cases c1 : k < n
    · obtain ⟨x, hxk, hxm⟩ := has Hx.out c1
      obtain ⟨y, hyk, hym⟩ := has Hy.out c1
      have hxy : x.tr = y.tr := by
        have e1 : (xs.map Tx.tr)[k]? = some x.tr := by rw [List.getElem?_map, hxk]; rfl
        have e2 : (ys.map Tx.tr)[k]? = some y.tr := by rw [List.getElem?_map, hyk]; rfl
        rw [HE.out, e2] at e1
        exact (Option.some.inj e1).symm
      obtain ⟨b, off, rfl, hb, hc⟩ := tx_cells (ta.later hbel) (by rw [Hx.out]; omega)
      obtain ⟨b', off', rfl, hb', hc'⟩ := tx_cells (tb.later hbel) (by rw [Hy.out]; omega)
      obtain ⟨f0, f1, f2, f3, f4⟩ := hc k x hxk
      obtain ⟨q0, q1, q2, q3, q4⟩ := hc' k y hyk
      have ox := (ta.later hbel).2 x hxm
      have oy := (tb.later hbel).2 y hym
      clear hc hc' hxk hyk hxm hym ta tb
      obtain ⟨x0, x1, x2, x3, xA, xc, xb⟩ := x
      obtain ⟨y0, y1, y2, y3, yA, yc, yb⟩ := y
      simp only [Tx.tr, Tr.mk.injEq] at hxy
      obtain ⟨rfl, rfl, rfl, rfl, rfl⟩ := hxy
      have k1 := run_string_ints (P := Tryd.prog) 32 5 Tryd.underlying32 Tryd.underlying5 Tryd.underlying9 wr.drew.heap.size xA xb.length xc xb rfl (w := wr.drew) ox.2.2
      have k2 := run_string_ints (P := Tryd.prog) 32 5 Tryd.underlying32 Tryd.underlying5 Tryd.underlying9 wr.drew.heap.size yA xb.length yc xb rfl (w := wr.drew) oy.2.2
      simp only at f0 f1 f2 f3 f4 q0 q1 q2 q3 q4
      clear ox oy hb hb'
      have HH : (wr.drew.cell? ⟨b, off + k * 5, none⟩ = some (.int .i64 x0) ∧ wr.drew.cell? ⟨b, off + k * 5 + 1, none⟩ = some (.int .i64 x1) ∧ wr.drew.cell? ⟨b, off + k * 5 + 2, none⟩ = some (.int .i64 x2) ∧ wr.drew.cell? ⟨b, off + k * 5 + 3, none⟩ = some (.int .i64 x3) ∧ wr.drew.cell? ⟨b, off + k * 5 + 4, none⟩ = some (.slice xA xb.length xc)) ∧ (wr.drew.cell? ⟨b', off' + k * 5, none⟩ = some (.int .i64 x0) ∧ wr.drew.cell? ⟨b', off' + k * 5 + 1, none⟩ = some (.int .i64 x1) ∧ wr.drew.cell? ⟨b', off' + k * 5 + 2, none⟩ = some (.int .i64 x2) ∧ wr.drew.cell? ⟨b', off' + k * 5 + 3, none⟩ = some (.int .i64 x3) ∧ wr.drew.cell? ⟨b', off' + k * 5 + 4, none⟩ = some (.slice yA xb.length yc)) ∧ (convert 32 9 (.slice xA xb.length xc)).run Tryd.prog wr.drew = .ok (.string (strOfNums xb)) wr.drew ∧ (convert 32 9 (.slice yA xb.length yc)).run Tryd.prog wr.drew = .ok (.string (strOfNums xb)) wr.drew := ⟨⟨f0, f1, f2, f3, f4⟩, ⟨q0, q1, q2, q3, q4⟩, k1, k2⟩
      go_wp2_with fail
      simp only [List.append_eq, List.cons_append, List.nil_append]
      go_region
      go_wp2_with fail
      go_roundw
      case rel => exact ⟨k + 1, by omega, by go_num, hbel.drew⟩
      case measure => simp [intOf]; omega
    · have hle : ¬ ((k : Int) < (n : Int)) := by omega
      go_wp2_with fail
      go_ret
      exact ⟨rfl, hbel⟩
theorem few_any (A : Option Addr) (n c : Nat) (w : World) : Calls Tryd.prog 16 #[.slice A n c] w fun e w' => e = .returned (.bool (decide ((n : Int) ≤ 64))) ∧ w = w' := by
  go_enter Tryd.func16, Tryd.ntmps16
  go_wp2_with fail
  go_ret
  exact ⟨rfl, rfl⟩
/-- Times do not decrease. -/
def ordB : List Tr → Bool
  | [] => true
  | [_] => true
  | x :: y :: l => decide (x.id ≤ y.id) && ordB (y :: l)
end Go.Proofs.YtkbhmgdmkamcfaaDoor.Cap
