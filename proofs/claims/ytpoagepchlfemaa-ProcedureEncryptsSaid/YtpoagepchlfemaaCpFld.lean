/- Control PDUs: the functions that give the address of a field: contracts over the program. -/
import Derived.Test.YtpoagepchlfemaaCpMath
import Derived.Test.YtpoagepchlfemaaBase
import Derived.Test.YtpoagepchlfemaaAvRow
import Derived.Test.YtpoagepchlfemaaAirOwn0
import Derived.Deep.Cut
set_option linter.unusedVariables false
set_option linter.unusedSimpArgs false
namespace Go.Proofs.Ytpoagepchlfemaa.Cp
open Go.RowKit Mem Oct Rw Av
/-- A control PDU as it lies in memory. -/
def encC (c : Ct) : Array Value := #[.int .i64 c.k, .int .i64 c.ws, .int .i64 c.wo, .int .i64 c.it, .int .i64 c.la, .int .i64 c.ti, .int .u64 (c.m : Int), .int .u16 c.ins, .int .i64 c.rs, .int .i64 c.rj, .int .u64 c.st, .int .u64 c.mr, .int .u64 c.ft, .int .i64 c.vs, .int .i64 c.ln]
/-- A function that gives the address of the field at off. -/
def Fld (ff off : Nat) : Prop := (∀ (a : Value) (w : World), (callFunc ff #[a]).run Try.prog w = .ok (.enter ff #[a]) w) ∧ ∀ (g : Nat) (w : World), Calls Try.prog ff #[.pointer (some ⟨g, 0, none⟩)] w fun e w' => e = .returned (.pointer (some ⟨g, off, none⟩)) ∧ w = w'
theorem fld_rs : Fld 63 8 := ⟨fun a w => by go_simp, fun g w => by
  go_enter Try.func63, Try.ntmps63
  go_wp2_with fail
  go_ret
  exact ⟨rfl, rfl⟩⟩
theorem fld_rj : Fld 64 9 := ⟨fun a w => by go_simp, fun g w => by
  go_enter Try.func64, Try.ntmps64
  go_wp2_with fail
  go_ret
  exact ⟨rfl, rfl⟩⟩
theorem fld_vs : Fld 65 13 := ⟨fun a w => by go_simp, fun g w => by
  go_enter Try.func65, Try.ntmps65
  go_wp2_with fail
  go_ret
  exact ⟨rfl, rfl⟩⟩
theorem fld_ln : Fld 66 14 := ⟨fun a w => by go_simp, fun g w => by
  go_enter Try.func66, Try.ntmps66
  go_wp2_with fail
  go_ret
  exact ⟨rfl, rfl⟩⟩
theorem fld_sa : Fld 68 10 := ⟨fun a w => by go_simp, fun g w => by
  go_enter Try.func68, Try.ntmps68
  go_wp2_with fail
  go_ret
  exact ⟨rfl, rfl⟩⟩
theorem fld_mk : Fld 69 11 := ⟨fun a w => by go_simp, fun g w => by
  go_enter Try.func69, Try.ntmps69
  go_wp2_with fail
  go_ret
  exact ⟨rfl, rfl⟩⟩
theorem fld_fe : Fld 70 12 := ⟨fun a w => by go_simp, fun g w => by
  go_enter Try.func70, Try.ntmps70
  go_wp2_with fail
  go_ret
  exact ⟨rfl, rfl⟩⟩
end Go.Proofs.Ytpoagepchlfemaa.Cp
