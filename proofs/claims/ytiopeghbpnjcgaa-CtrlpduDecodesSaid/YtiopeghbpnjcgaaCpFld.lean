/- Control PDUs: the functions that give the address of a field: contracts over the program. -/
import Derived.Test.YtiopeghbpnjcgaaCpMath
import Derived.Test.YtiopeghbpnjcgaaBase
import Derived.Test.YtiopeghbpnjcgaaAvRow
import Derived.Test.YtiopeghbpnjcgaaAirOwn0
import Derived.Deep.Cut
set_option linter.unusedVariables false
set_option linter.unusedSimpArgs false
namespace Go.Proofs.Ytiopeghbpnjcgaa.Cp
open Go.RowKit Mem Oct Rw Av
/-- A control PDU as it lies in memory. -/
def encC (c : Ct) : Array Value := #[.int .i64 c.k, .int .i64 c.ws, .int .i64 c.wo, .int .i64 c.it, .int .i64 c.la, .int .i64 c.ti, .int .u64 (c.m : Int), .int .u16 c.ins, .int .i64 c.rs, .int .i64 c.rj, .int .u64 c.st, .int .u64 c.mr, .int .u64 c.ft, .int .i64 c.vs, .int .i64 c.ln]
/-- A function that gives the address of the field at off. -/
def Fld (ff off : Nat) : Prop := (∀ (a : Value) (w : World), (callFunc ff #[a]).run Try.prog w = .ok (.enter ff #[a]) w) ∧ ∀ (g : Nat) (w : World), Calls Try.prog ff #[.pointer (some ⟨g, 0, none⟩)] w fun e w' => e = .returned (.pointer (some ⟨g, off, none⟩)) ∧ w = w'
theorem fld_rs : Fld 32 8 := ⟨fun a w => by go_simp, fun g w => by
  go_enter Try.func32, Try.ntmps32
  go_wp2_with fail
  go_ret
  exact ⟨rfl, rfl⟩⟩
theorem fld_rj : Fld 33 9 := ⟨fun a w => by go_simp, fun g w => by
  go_enter Try.func33, Try.ntmps33
  go_wp2_with fail
  go_ret
  exact ⟨rfl, rfl⟩⟩
theorem fld_vs : Fld 34 13 := ⟨fun a w => by go_simp, fun g w => by
  go_enter Try.func34, Try.ntmps34
  go_wp2_with fail
  go_ret
  exact ⟨rfl, rfl⟩⟩
theorem fld_ln : Fld 35 14 := ⟨fun a w => by go_simp, fun g w => by
  go_enter Try.func35, Try.ntmps35
  go_wp2_with fail
  go_ret
  exact ⟨rfl, rfl⟩⟩
theorem fld_sa : Fld 37 10 := ⟨fun a w => by go_simp, fun g w => by
  go_enter Try.func37, Try.ntmps37
  go_wp2_with fail
  go_ret
  exact ⟨rfl, rfl⟩⟩
theorem fld_mk : Fld 38 11 := ⟨fun a w => by go_simp, fun g w => by
  go_enter Try.func38, Try.ntmps38
  go_wp2_with fail
  go_ret
  exact ⟨rfl, rfl⟩⟩
theorem fld_fe : Fld 39 12 := ⟨fun a w => by go_simp, fun g w => by
  go_enter Try.func39, Try.ntmps39
  go_wp2_with fail
  go_ret
  exact ⟨rfl, rfl⟩⟩
end Go.Proofs.Ytiopeghbpnjcgaa.Cp
