/- From the condition on the listed variables to what the walks ask; the door's own heap meets it. -/
import Derived.Test.YtegmknmbgifmjaaDoorRows
import Derived.Test.YtegmknmbgifmjaaDoorAdqWalks
import Derived.LaidMore
import Derived.Lib.LaidTab
import Derived.ProofKit
set_option linter.unusedVariables false
namespace Go.Proofs.YtegmknmbgifmjaaDoor.Door
open Go.RowKit Adr

theorem gA : Tryd.prog.globalNamed "wireless/address.randomAt" = some 0 := by kernel_rfl
theorem gP : Tryd.prog.globalNamed "wireless/address.prefixes" = some 1 := by kernel_rfl
theorem tA : (Tryd.prog.globals[0]?).map (·.type) = some 62 := by kernel_rfl
theorem tP : (Tryd.prog.globals[1]?).map (·.type) = some 63 := by kernel_rfl
def laid2 : List (String × DataW Unit) := [("wireless/address.prefixes", Rows.laid_wireless_address_prefixes), ("wireless/address.randomAt", Rows.laid_wireless_address_randomAt)]
/-- The door's own heap meets the condition. -/
theorem door_met (os : Os) (args : Array Value) : laidMetH Tryd.prog laid2 ((World.doorLaid Tryd.prog 400 os).forCall (fun _ _ => 0) ⟨#[], args, []⟩).memory :=
  laidMetH_of_parts3 (fuel := 8) (laidMet_of_run' 8 (by kernel_rfl) (by kernel_rfl)) (by kernel_rfl) (by kernel_rfl)
theorem laidMet_tail {P : Program} {x : String × DataW Unit} {rest : List (String × DataW Unit)} {W : World} (h : laidMet P (x :: rest) W) : laidMet P rest W := by
  obtain ⟨ps, ⟨g', t', cs, fuel, p, q, hg', ht', hvar, hd, hr, hp⟩, hn, hc⟩ := h
  subst hp
  exact ⟨q, hr, (List.nodup_append.1 hn).2.1, fun b off hm => hc b off (List.mem_append_right _ hm)⟩
theorem tab_of {W : World} (h : laidMetH Tryd.prog laid2 W) : Tab W := by
  rw [MakeChecks.laidMetH_plain _ _ _ (by kernel_rfl)] at h
  have hP := Lib.tabIs_of_head (k := .u64) (zs := pres) gP tP Tryd.underlying63 Tryd.underlying23 (by kernel_rfl) (by kernel_rfl) h
  have h3 := laidMet_tail h
  have hA := Lib.tabIs_of_head (k := .i64) (zs := ats) gA tA Tryd.underlying62 Tryd.underlying3 (by kernel_rfl) (by kernel_rfl) h3
  have cP : ∀ i : Nat, i < 5 → W.cell? ⟨1, i, none⟩ = some (.int .u64 (pres.getD i 0)) := fun i hi => hP.cell gP i hi
  have cA : ∀ i : Nat, i < 5 → W.cell? ⟨0, i, none⟩ = some (.int .i64 (ats.getD i 0)) := fun i hi => hA.cell gA i hi
  have lt : ∀ (g : Nat) (v : Value), W.cell? ⟨g, 0, none⟩ = some v → g < W.heap.size := fun g v hv => by
    rcases Nat.lt_or_ge g W.heap.size with hlt | hge
    · exact hlt
    · exfalso
      have : W.heap[g]? = none := Array.getElem?_eq_none hge
      simp [World.cell?, this] at hv
  have lP := lt _ _ (cP 0 (by decide))
  have lA := lt _ _ (cA 0 (by decide))
  exact ⟨by omega, cA, cP⟩
end Go.Proofs.YtegmknmbgifmjaaDoor.Door
