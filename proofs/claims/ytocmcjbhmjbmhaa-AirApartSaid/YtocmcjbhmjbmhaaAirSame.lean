/- Two receptions that say the same: the document's answer. -/
import Derived.Test.YtocmcjbhmjbmhaaAirHear2
import Derived.Test.YtocmcjbhmjbmhaaOctMath
set_option linter.unusedVariables false
set_option linter.unusedSimpArgs false
namespace Go.Proofs.Ytocmcjbhmjbmhaa.Air
open Go.RowKit Mem Rw Base

abbrev Six (w : World) (g : Nat) (a b c d e : Int) (v : Value) : Prop := w.cell? ⟨g, 0, none⟩ = some (.int .i64 a) ∧ w.cell? ⟨g, 1, none⟩ = some (.int .i64 b) ∧ w.cell? ⟨g, 2, none⟩ = some (.int .i64 c) ∧ w.cell? ⟨g, 3, none⟩ = some (.int .i64 d) ∧ w.cell? ⟨g, 4, none⟩ = some (.int .i64 e) ∧ w.cell? ⟨g, 5, none⟩ = some v
theorem six_of {w : World} {g : Nat} {t : TypeId} {a b c d e : Int} {v : Value} (x : Blk w g t #[.int .i64 a, .int .i64 b, .int .i64 c, .int .i64 d, .int .i64 e, v]) : Six w g a b c d e v := ⟨x.cell 0, x.cell 1, x.cell 2, x.cell 3, x.cell 4, x.cell 5⟩
theorem Six.below {w w' : World} {g : Nat} {a b c d e : Int} {v : Value} (x : Six w g a b c d e v) (bb : Below w.heap.size w w') : Six w' g a b c d e v :=
  ⟨One_below x.1 bb, One_below x.2.1 bb, One_below x.2.2.1 bb, One_below x.2.2.2.1 bb, One_below x.2.2.2.2.1 bb, One_below x.2.2.2.2.2 bb⟩
theorem same_yes (i t k s en : Int) (A A' : Option Addr) (c c' : Nat) (bs : List Int) (w : World) (hr : Ints .u8 w w.heap.size A bs) (hr' : Ints .u8 w w.heap.size A' bs) :
    Calls Try.prog 28 #[.agg #[.int .i64 i, .int .i64 t, .int .i64 k, .int .i64 s, .int .i64 en, .slice A bs.length c], .agg #[.int .i64 i, .int .i64 t, .int .i64 k, .int .i64 s, .int .i64 en, .slice A' bs.length c']] w fun e w' => e = .returned (.bool true) ∧ Below w.heap.size w w' := by
  have B0 := two_below w (.cells #[.int .i64 i, .int .i64 t, .int .i64 k, .int .i64 s, .int .i64 en, .slice A bs.length c] 46) (.cells #[.int .i64 i, .int .i64 t, .int .i64 k, .int .i64 s, .int .i64 en, .slice A' bs.length c'] 46)
  have S0 := six_of ((Blk.fresh w 46 #[.int .i64 i, .int .i64 t, .int .i64 k, .int .i64 s, .int .i64 en, .slice A bs.length c]).alloc (.cells #[.int .i64 i, .int .i64 t, .int .i64 k, .int .i64 s, .int .i64 en, .slice A' bs.length c'] 46))
  have S1 : Six ((w.alloc (.cells #[.int .i64 i, .int .i64 t, .int .i64 k, .int .i64 s, .int .i64 en, .slice A bs.length c] 46)).alloc (.cells #[.int .i64 i, .int .i64 t, .int .i64 k, .int .i64 s, .int .i64 en, .slice A' bs.length c'] 46)) (w.heap.size + 1) i t k s en (.slice A' bs.length c') := by
    have := six_of (Blk.fresh (w.alloc (.cells #[.int .i64 i, .int .i64 t, .int .i64 k, .int .i64 s, .int .i64 en, .slice A bs.length c] 46)) 46 #[.int .i64 i, .int .i64 t, .int .i64 k, .int .i64 s, .int .i64 en, .slice A' bs.length c'])
    simpa using this
  have i1 := later hr B0
  have i2 := later hr' B0
  go_enter Try.func28, Try.ntmps28
  go_upto_region 1 with fail
  generalize ((w.alloc (.cells #[.int .i64 i, .int .i64 t, .int .i64 k, .int .i64 s, .int .i64 en, .slice A bs.length c] 46)).alloc (.cells #[.int .i64 i, .int .i64 t, .int .i64 k, .int .i64 s, .int .i64 en, .slice A' bs.length c'] 46)) = W at *
  have k1 := run_string_ints (P := Try.prog) 22 5 Try.underlying22 Try.underlying5 Try.underlying9 W.heap.size A bs.length c bs rfl i1
  have k2 := run_string_ints (P := Try.prog) 22 5 Try.underlying22 Try.underlying5 Try.underlying9 W.heap.size A' bs.length c' bs rfl i2
  go_wp2_with fail
  go_ret
  exact ⟨by simp, B0⟩
end Go.Proofs.Ytocmcjbhmjbmhaa.Air
