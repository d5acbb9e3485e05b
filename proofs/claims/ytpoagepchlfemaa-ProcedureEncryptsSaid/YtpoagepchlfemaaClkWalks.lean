/- What each function of the layer of the clocks returns: contracts over the program. -/
import Derived.Test.YtpoagepchlfemaaProg
import Derived.WalkKit
import Derived.Lib.MinMax
import Derived.Lib.Hide
import Derived.BigQuiet
import Derived.Deep.QuietTactic
import Derived.WalkSpells
import Derived.Deep.RegionHeld3
import Derived.Deep.RegionWith
import Derived.Test.YtpoagepchlfemaaSerMath
import Derived.Test.YtpoagepchlfemaaMem
import Derived.Test.YtpoagepchlfemaaClkMath
set_option linter.unusedVariables false
set_option linter.unusedSimpArgs false
namespace Go.Proofs.Ytpoagepchlfemaa.Clk
open Go.RowKit Mem

theorem frz {w : World} {a : Nat} {t : TypeId} {c : Array Value} (h : Mem.Blk w a t c) (j : Nat) : w.frozen? ⟨a, j, none⟩ = false := by
  simp [World.frozen?, show w.heap[a]? = _ from h]
end Go.Proofs.Ytpoagepchlfemaa.Clk
