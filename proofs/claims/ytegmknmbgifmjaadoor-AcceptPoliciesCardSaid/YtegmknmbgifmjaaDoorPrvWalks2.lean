/- The address of a period, the current address: what the functions and their specification return: contracts over the program. -/
import Derived.Test.YtegmknmbgifmjaaDoorPrvWalks
set_option linter.unusedVariables false
set_option linter.unusedSimpArgs false
namespace Go.Proofs.YtegmknmbgifmjaaDoor.Prv
open Go.RowKit Mem Oct Blk Base Mac

/-- The current address of an identity. -/
def curK (k irk l p : Int) (pv : Bool) : Int := if pv = true ∧ irk ≠ 0 then mkK irk (prZ irk (epZ l p)) else k
def curV (b irk l p : Int) (pv : Bool) : Int := if pv = true ∧ irk ≠ 0 then mkV irk (prZ irk (epZ l p)) else b
end Go.Proofs.YtegmknmbgifmjaaDoor.Prv
