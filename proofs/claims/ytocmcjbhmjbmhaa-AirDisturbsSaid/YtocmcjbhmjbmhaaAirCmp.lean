/- Links in order; jams and losses that are wrong: by the layer. -/
import Derived.Test.YtocmcjbhmjbmhaaAirSmall
set_option linter.unusedVariables false
set_option linter.unusedSimpArgs false
namespace Go.Proofs.Ytocmcjbhmjbmhaa.Air
open Go.RowKit Mem Rw Base

abbrev Two (w : World) (g : Nat) (a b : Int) : Prop := w.cell? ⟨g, 0, none⟩ = some (.int .i64 a) ∧ w.cell? ⟨g, 1, none⟩ = some (.int .i64 b)
theorem two_of {w : World} {g : Nat} {t : TypeId} {a b : Int} (x : Blk w g t #[.int .i64 a, .int .i64 b]) : Two w g a b := ⟨x.cell 0, x.cell 1⟩
theorem Two.below {w w' : World} {g : Nat} {a c : Int} (x : Two w g a c) (b : Below w.heap.size w w') : Two w' g a c :=
  have hg := World.block_lt_of_cell? _ _ x.1
  ⟨(b.cell (p := ⟨g, 0, none⟩) hg).trans x.1, (b.cell (p := ⟨g, 1, none⟩) hg).trans x.2⟩
theorem cmppairs_any (a b c d : Int) (w : World) :
    Calls Try.prog 55 #[.agg #[.int .i64 a, .int .i64 b], .agg #[.int .i64 c, .int .i64 d]] w fun e w' => e = .returned (.int .i64 (orL [cmpI a c, cmpI b d])) ∧ Below w.heap.size w w' := by
  have H1 := Lib.hid (fun w => compare_any a c w)
  have H2 := Lib.hid (fun w => compare_any b d w)
  have HR : Hid (∀ W : World, Calls Try.prog 61 #[.slice (some ⟨W.heap.size, 0, none⟩) 2 2] (W.alloc (.cells #[.int .i64 (cmpI a c), .int .i64 (cmpI b d)] 3)).drew fun e w' => e = .returned (.int .i64 (orL [cmpI a c, cmpI b d])) ∧ (W.alloc (.cells #[.int .i64 (cmpI a c), .int .i64 (cmpI b d)] 3)).drew = w') := Lib.hid fun W =>
    or_any _ 2 2 [cmpI a c, cmpI b d] _ rfl (lit1 .i64 W [cmpI a c, cmpI b d] _ 3 rfl).drew (by decide)
  generalize orL [cmpI a c, cmpI b d] = r at *
  generalize cmpI a c = x at *
  generalize cmpI b d = y at *
  have B0 := two_below w (.cells #[.int .i64 a, .int .i64 b] 70) (.cells #[.int .i64 c, .int .i64 d] 70)
  have T0 := two_of (((Blk.fresh w 70 #[.int .i64 a, .int .i64 b])).alloc (.cells #[.int .i64 c, .int .i64 d] 70))
  have T1 := two_of (Blk.fresh (w.alloc (.cells #[.int .i64 a, .int .i64 b] 70)) 70 #[.int .i64 c, .int .i64 d])
  rw [show (w.alloc (.cells #[.int .i64 a, .int .i64 b] 70)).heap.size = w.heap.size + 1 by simp] at T1
  go_enter Try.func55, Try.ntmps55
  go_wp2_with fail
  generalize ((w.alloc (.cells #[.int .i64 a, .int .i64 b] 70)).alloc (.cells #[.int .i64 c, .int .i64 d] 70)) = W at *
  have U0 := T0.below ((Below.refl _ W).alloc (Nat.le_refl _) (.cells #[.int .i64 x, .int .i64 y] 3))
  have U1 := T1.below ((Below.refl _ W).alloc (Nat.le_refl _) (.cells #[.int .i64 x, .int .i64 y] 3))
  go_region_held3 (fun w' => Two w' w.heap.size a b ∧ Two w' (w.heap.size + 1) c d) (first | exact ⟨U0, U1⟩ | exact ⟨T0, T1⟩) (first
    | (go_at_call_of 62 a; refine (H1.out _).mono ?_; rintro e w1 ⟨rfl, rfl⟩)
    | (go_at_call_of 62 b; refine (H2.out _).mono ?_; rintro e w1 ⟨rfl, rfl⟩)
    | (go_at_call 61; refine (HR.out _).mono ?_; rintro e w1 ⟨rfl, rfl⟩))
  go_wp2_with fail
  go_ret
  exact ⟨rfl, (B0.alloc B0.size _).drew⟩
end Go.Proofs.Ytocmcjbhmjbmhaa.Air
