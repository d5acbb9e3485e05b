/- Data PDUs: sameness by the document; the chapter's examples: contracts over the program. -/
import Derived.Test.YtbnfjielnamepaaDpRDec
set_option linter.unusedVariables false
set_option linter.unusedSimpArgs false
namespace Go.Proofs.Ytbnfjielnamepaa.Dp
open Go.RowKit Mem Oct Rw Av
open Base (thenB)

theorem samepk24_yes (k : Int) (A A' : Option Addr) (n c c' : Nat) (xs : List Int) (w : World) (hx : xs.length = n) (bx : Bytes xs) (h : Ints .u8 w w.heap.size A xs) (h' : Ints .u8 w w.heap.size A' xs) :
    Calls Try.prog 35 #[.agg #[.int .i64 k, .slice A n c], .agg #[.int .i64 k, .slice A' n c']] w fun e w' => e = .returned (.bool true) ∧ Below w.heap.size w w' := by
  have B0 : Below w.heap.size w ((w.alloc (.cells #[.int .i64 k, .slice A n c] 24)).alloc (.cells #[.int .i64 k, .slice A' n c'] 24)) := ((Below.refl _ _).alloc (Nat.le_refl _) _).alloc (by simp) _
  have HS : Hid (∀ X, Below w.heap.size w X → Calls Try.prog 59 #[.slice A n c, .slice A' n c'] X fun e X' => e = .returned (.bool true) ∧ X = X') := Lib.hid fun X b => (Base.same_to (by simp) hx hx bx bx (Base.later h b) (Base.later h' b)).mono fun e w' ⟨h1, h2⟩ => ⟨h1, h2.symm⟩
  clear h h' bx hx
  go_enter Try.func35, Try.ntmps35
  go_wp2_with (go_at_call 59; refine (HS.out _ B0).mono ?_; rintro e X' ⟨rfl, rfl⟩)
  go_ret
  exact ⟨rfl, B0⟩
set_option maxHeartbeats 1000000 in
theorem samepd24_yes (sn nesn md k : Int) (A A' : Option Addr) (n c c' : Nat) (xs : List Int) (w : World) (hx : xs.length = n) (bx : Bytes xs) (h : Ints .u8 w w.heap.size A xs) (h' : Ints .u8 w w.heap.size A' xs) :
    Calls Try.prog 32 #[.agg #[.int .i64 sn, .int .i64 nesn, .int .i64 md, .int .i64 k, .slice A n c], .agg #[.int .i64 sn, .int .i64 nesn, .int .i64 md, .int .i64 k, .slice A' n c']] w fun e w' => e = .returned (.bool true) ∧ Below w.heap.size w w' := by
  have B0 : Below w.heap.size w ((w.alloc (.cells #[.int .i64 sn, .int .i64 nesn, .int .i64 md, .int .i64 k, .slice A n c] 26)).alloc (.cells #[.int .i64 sn, .int .i64 nesn, .int .i64 md, .int .i64 k, .slice A' n c'] 26)) := ((Below.refl _ _).alloc (Nat.le_refl _) _).alloc (by simp) _
  have HS : Hid (∀ X, Below w.heap.size w X → Calls Try.prog 35 #[.agg #[.int .i64 k, .slice A n c], .agg #[.int .i64 k, .slice A' n c']] X fun e X' => e = .returned (.bool true) ∧ Below X.heap.size X X') := Lib.hid fun X b => samepk24_yes k A A' n c c' xs X hx bx (Base.later h b) (Base.later h' b)
  clear h h' bx hx
  go_enter Try.func32, Try.ntmps32
  go_wp2_with (go_at_call 35; refine (HS.out _ B0).mono ?_; rintro e X' ⟨rfl, b2⟩)
  go_ret
  exact ⟨rfl, thenB B0 b2⟩
end Go.Proofs.Ytbnfjielnamepaa.Dp
