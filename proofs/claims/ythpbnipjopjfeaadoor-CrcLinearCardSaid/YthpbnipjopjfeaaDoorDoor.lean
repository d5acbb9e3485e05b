/- From the condition on the listed variable to what the walks ask; the door's own heap meets it. -/
import Derived.Test.YthpbnipjopjfeaaDoorRows
import Derived.Test.YthpbnipjopjfeaaDoorCrcWalks
import Derived.LaidMore
import Derived.Lib.LaidTab
import Derived.ProofKit
set_option linter.unusedVariables false
namespace Go.Proofs.YthpbnipjopjfeaaDoor.Door
open Go.RowKit Crc

theorem gHalves : Tryd.prog.globalNamed "wireless/crc.halves" = some 0 := by kernel_rfl
theorem tHalves : (Tryd.prog.globals[0]?).map (·.type) = some 57 := by kernel_rfl
theorem cArr : Tryd.prog.cellsOf 57 = 16 := by kernel_rfl
theorem cEl : Tryd.prog.cellsOf 22 = 1 := by kernel_rfl
def laid1 : List (String × DataW Unit) := [("wireless/crc.halves", Rows.laid_wireless_crc_halves)]
/-- The door's own heap meets the condition. -/
theorem door_met (os : Os) (args : Array Value) : laidMetH Tryd.prog laid1 ((World.doorLaid Tryd.prog 400 os).forCall (fun _ _ => 0) ⟨#[], args, []⟩).memory :=
  laidMetH_of_parts3 (fuel := 8) (laidMet_of_run' 8 (by kernel_rfl) (by kernel_rfl)) (by kernel_rfl) (by kernel_rfl)
theorem tab_of {W : World} (h : laidMetH Tryd.prog laid1 W) : Tab W := by
  rw [MakeChecks.laidMetH_plain _ _ _ (by kernel_rfl)] at h
  have hT := Lib.tabIs_of_head (k := .u32) (zs := halves) (rest := []) gHalves tHalves Tryd.underlying57 Tryd.underlying22 cEl cArr h
  have hc : ∀ i : Nat, i < 16 → W.cell? ⟨0, i, none⟩ = some (.int .u32 (halves.getD i 0)) := fun i hi => hT.cell gHalves i hi
  refine ⟨?_, hc⟩
  have h0 := hc 0 (by decide)
  rcases Nat.lt_or_ge 0 W.heap.size with hlt | hge
  · exact hlt
  · exfalso
    have : W.heap[(0 : Nat)]? = none := Array.getElem?_eq_none hge
    simp [World.cell?, this] at h0
end Go.Proofs.YthpbnipjopjfeaaDoor.Door
