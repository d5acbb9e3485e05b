/- From the condition on the listed variables to what the walks ask; the door's own heap meets it. -/
import Derived.Test.YtkpjpjjpjpimiaaDoorRows
import Derived.Test.YtkpjpjjpjpimiaaDoorChmParse
import Derived.LaidMore
import Derived.LaidLaws
import Derived.Lay
import Derived.ProofKit
set_option linter.unusedVariables false
namespace Go.Proofs.YtkpjpjjpjpimiaaDoor.Door
open Go.RowKit Chm

theorem gS : Tryd.prog.globalNamed "strconv.ErrSyntax" = some 4 := by kernel_rfl
theorem gR : Tryd.prog.globalNamed "strconv.ErrRange" = some 5 := by kernel_rfl
theorem tS : (Tryd.prog.globals[4]?).map (·.type) = some 89 := by kernel_rfl
theorem tR : (Tryd.prog.globals[5]?).map (·.type) = some 89 := by kernel_rfl
def laid7 : List (String × DataW Unit) := Rows.chanmapChecksRow.laid
/-- A world laid from the rows' own words meets the condition. -/
theorem door_met (os : Os) (args : Array Value) : laidMetH Tryd.prog laid7 ((World.laidAll Tryd.prog os laid7).forCall (fun _ _ => 0) ⟨#[], args, []⟩).memory := by
  rw [MakeChecks.laidMetH_plain _ _ _ (by kernel_rfl)]
  exact laidMet_laidAll _ (by kernel_rfl) (by kernel_rfl)
theorem laidMet_tail {P : Program} {x : String × DataW Unit} {rest : List (String × DataW Unit)} {W : World} (h : laidMet P (x :: rest) W) : laidMet P rest W := by
  obtain ⟨ps, ⟨g', t', cs, fuel, p, q, hg', ht', hvar, hd, hr, hp⟩, hn, hc⟩ := h
  subst hp
  exact ⟨q, hr, (List.nodup_append.1 hn).2.1, fun b off hm => hc b off (List.mem_append_right _ hm)⟩
theorem iface_head {P : Program} {name nm : String} {d : DataW Unit} {rest : List (String × DataW Unit)} {W : World} {g : Nat} {t : TypeId} {ms : Array (String × TypeId)} (hg : P.globalNamed name = some g) (ht : (P.globals[g]?).map (·.type) = some t)
    (hi : P.underlying t = some (.interface ms)) (h : laidMet P ((name, .iface nm d) :: rest) W) : ∃ u v, W.cell? ⟨g, 0, none⟩ = some (.iface u v) := by
  obtain ⟨ps, ⟨g', t', cs, fuel, p, q, hg', ht', hvar, hd, hr, hp⟩, hn, hc⟩ := h
  obtain rfl := Option.some.inj (hg.symm.trans hg')
  obtain rfl := Option.some.inj (ht.symm.trans ht')
  obtain ⟨_, u, v, hcs, _, _⟩ := iface_of_trod hi hd
  have := World.var?_cell hg hvar 0
  rw [Array.eq_one_of_toList hcs] at this
  exact ⟨u, v, by simpa using this⟩
theorem errs_of {W : World} (h : laidMetH Tryd.prog laid7 W) : Errs W := by
  rw [MakeChecks.laidMetH_plain _ _ _ (by kernel_rfl)] at h
  have h5 := laidMet_tail (laidMet_tail (laidMet_tail (laidMet_tail h)))
  have h6 := laidMet_tail h5
  exact ⟨iface_head gS tS Tryd.underlying89 h6, iface_head gR tR Tryd.underlying89 h5⟩
end Go.Proofs.YtkpjpjjpjpimiaaDoor.Door
