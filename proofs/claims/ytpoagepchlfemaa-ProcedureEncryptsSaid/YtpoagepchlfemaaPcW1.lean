/- Control procedures: small functions: contracts over the program. -/
import Derived.Test.YtpoagepchlfemaaPcMem
import Derived.Deep.QuietTactic
import Derived.BigQuiet
import Derived.Deep.CutRange
import Derived.Lib.MinMax
set_option linter.unusedVariables false
set_option linter.unusedSimpArgs false
namespace Go.Proofs.Ytpoagepchlfemaa.Pc
open Go.RowKit Mem Rw Cp
open Base (thenB)

theorem new0_any (role f lim : Int) (w : World) (h : ¬ role = 1) : Calls Try.prog 9 #[.int .i64 role, .int .u64 f, .int .i64 lim] w fun e w' => e = .returned (.agg #[.int .i64 0, .int .i64 (-1), .int .i64 0, .slice none 0 0, .int .i64 (-1), .int .i64 0, .slice none 0 0, .bool false, .int .u64 f, .int .u64 0, .bool false, .bool false, .int .i64 (-1), .int .i64 27, .int .i64 (max 27 (min lim 251)), .int .u64 0, .int .u64 0, .int .u64 0, .int .i64 0, .int .i64 0]) ∧ Below w.heap.size w w' := by
  have B0 : Below w.heap.size w (w.alloc (.cells #[.int .i64 0, .int .i64 0, .int .i64 0, .slice none 0 0, .int .i64 0, .int .i64 0, .slice none 0 0, .bool false, .int .u64 0, .int .u64 0, .bool false, .bool false, .int .i64 0, .int .i64 0, .int .i64 0, .int .u64 0, .int .u64 0, .int .u64 0, .int .i64 0, .int .i64 0] 27)) := (Below.refl _ _).alloc (Nat.le_refl _) _
  have K := Blk.fresh w 27 #[.int .i64 0, .int .i64 0, .int .i64 0, .slice none 0 0, .int .i64 0, .int .i64 0, .slice none 0 0, .bool false, .int .u64 0, .int .u64 0, .bool false, .bool false, .int .i64 0, .int .i64 0, .int .i64 0, .int .u64 0, .int .u64 0, .int .u64 0, .int .i64 0, .int .i64 0]
  have H1 : (#[.int .i64 0, .int .i64 (-1), .int .i64 0, .slice none 0 0, .int .i64 (-1), .int .i64 0, .slice none 0 0, .bool false, .int .u64 f, .int .u64 0, .bool false, .bool false, .int .i64 (-1), .int .i64 27, .int .i64 (max 27 (min lim 251)), .int .u64 0, .int .u64 0, .int .u64 0, .int .i64 0, .int .i64 0] : Array Value).all (·.oneCell') = true := by rw [← Array.all_toList]; rfl
  have g1 : (role != 1) = true := by simpa using h
  go_enter Try.func9, Try.ntmps9
  go_upto_region 1 with (fail)
  generalize w.alloc (.cells #[.int .i64 0, .int .i64 0, .int .i64 0, .slice none 0 0, .int .i64 0, .int .i64 0, .slice none 0 0, .bool false, .int .u64 0, .int .u64 0, .bool false, .bool false, .int .i64 0, .int .i64 0, .int .i64 0, .int .u64 0, .int .u64 0, .int .u64 0, .int .i64 0, .int .i64 0] 27) = W0 at *
  go_wp2_with (refine wpList_setR rfl 27 (.tmp 6) _ rfl w.heap.size #[.int .i64 0, .int .i64 (-1), .int .i64 0, .slice none 0 0, .int .i64 (-1), .int .i64 0, .slice none 0 0, .bool false, .int .u64 f, .int .u64 0, .bool false, .bool false, .int .i64 (-1), .int .i64 27, .int .i64 (max 27 (min lim 251)), .int .u64 0, .int .u64 0, .int .u64 0, .int .i64 0, .int .i64 0] rfl rfl 27 _ K (by kernel_rfl) rfl H1 ?_; intro Y KR GR)
  refine bodyPost_ret (v := .agg #[.int .i64 0, .int .i64 (-1), .int .i64 0, .slice none 0 0, .int .i64 (-1), .int .i64 0, .slice none 0 0, .bool false, .int .u64 f, .int .u64 0, .bool false, .bool false, .int .i64 (-1), .int .i64 27, .int .i64 (max 27 (min lim 251)), .int .u64 0, .int .u64 0, .int .u64 0, .int .i64 0, .int .i64 0]) ?_ rfl ⟨rfl, B0.trans (GR.below (Nat.le_refl _) B0.size)⟩
  have HL := run_loadVar_row (P := Try.prog) Y (w.heap.size) 27 27 #[.int .i64 0, .int .i64 (-1), .int .i64 0, .slice none 0 0, .int .i64 (-1), .int .i64 0, .slice none 0 0, .bool false, .int .u64 f, .int .u64 0, .bool false, .bool false, .int .i64 (-1), .int .i64 27, .int .i64 (max 27 (min lim 251)), .int .u64 0, .int .u64 0, .int .u64 0, .int .i64 0, .int .i64 0] (0, 0) _ KR Try.underlying27 rfl (by kernel_rfl)
  generalize (#[.int .i64 0, .int .i64 (-1), .int .i64 0, .slice none 0 0, .int .i64 (-1), .int .i64 0, .slice none 0 0, .bool false, .int .u64 f, .int .u64 0, .bool false, .bool false, .int .i64 (-1), .int .i64 27, .int .i64 (max 27 (min lim 251)), .int .u64 0, .int .u64 0, .int .u64 0, .int .i64 0, .int .i64 0] : Array Value) = CS at *
  simp [results, show (Try.f9).results = #[.cell 6 27] from rfl, asAddr, HL, Act.put]
theorem new1_any (role f lim : Int) (w : World) (h : role = 1) : Calls Try.prog 9 #[.int .i64 role, .int .u64 f, .int .i64 lim] w fun e w' => e = .returned (.agg #[.int .i64 1, .int .i64 (-1), .int .i64 0, .slice none 0 0, .int .i64 (-1), .int .i64 0, .slice none 0 0, .bool false, .int .u64 f, .int .u64 0, .bool false, .bool false, .int .i64 (-1), .int .i64 27, .int .i64 (max 27 (min lim 251)), .int .u64 0, .int .u64 0, .int .u64 0, .int .i64 0, .int .i64 0]) ∧ Below w.heap.size w w' := by
  have B0 : Below w.heap.size w (w.alloc (.cells #[.int .i64 0, .int .i64 0, .int .i64 0, .slice none 0 0, .int .i64 0, .int .i64 0, .slice none 0 0, .bool false, .int .u64 0, .int .u64 0, .bool false, .bool false, .int .i64 0, .int .i64 0, .int .i64 0, .int .u64 0, .int .u64 0, .int .u64 0, .int .i64 0, .int .i64 0] 27)) := (Below.refl _ _).alloc (Nat.le_refl _) _
  have K := Blk.fresh w 27 #[.int .i64 0, .int .i64 0, .int .i64 0, .slice none 0 0, .int .i64 0, .int .i64 0, .slice none 0 0, .bool false, .int .u64 0, .int .u64 0, .bool false, .bool false, .int .i64 0, .int .i64 0, .int .i64 0, .int .u64 0, .int .u64 0, .int .u64 0, .int .i64 0, .int .i64 0]
  have H1 : (#[.int .i64 1, .int .i64 (-1), .int .i64 0, .slice none 0 0, .int .i64 (-1), .int .i64 0, .slice none 0 0, .bool false, .int .u64 f, .int .u64 0, .bool false, .bool false, .int .i64 (-1), .int .i64 27, .int .i64 (max 27 (min lim 251)), .int .u64 0, .int .u64 0, .int .u64 0, .int .i64 0, .int .i64 0] : Array Value).all (·.oneCell') = true := by rw [← Array.all_toList]; rfl
  subst h
  go_enter Try.func9, Try.ntmps9
  go_upto_region 1 with (fail)
  generalize w.alloc (.cells #[.int .i64 0, .int .i64 0, .int .i64 0, .slice none 0 0, .int .i64 0, .int .i64 0, .slice none 0 0, .bool false, .int .u64 0, .int .u64 0, .bool false, .bool false, .int .i64 0, .int .i64 0, .int .i64 0, .int .u64 0, .int .u64 0, .int .u64 0, .int .i64 0, .int .i64 0] 27) = W0 at *
  go_wp2_with (refine wpList_setR rfl 27 (.tmp 6) _ rfl w.heap.size #[.int .i64 1, .int .i64 (-1), .int .i64 0, .slice none 0 0, .int .i64 (-1), .int .i64 0, .slice none 0 0, .bool false, .int .u64 f, .int .u64 0, .bool false, .bool false, .int .i64 (-1), .int .i64 27, .int .i64 (max 27 (min lim 251)), .int .u64 0, .int .u64 0, .int .u64 0, .int .i64 0, .int .i64 0] rfl rfl 27 _ K (by kernel_rfl) rfl H1 ?_; intro Y KR GR)
  refine bodyPost_ret (v := .agg #[.int .i64 1, .int .i64 (-1), .int .i64 0, .slice none 0 0, .int .i64 (-1), .int .i64 0, .slice none 0 0, .bool false, .int .u64 f, .int .u64 0, .bool false, .bool false, .int .i64 (-1), .int .i64 27, .int .i64 (max 27 (min lim 251)), .int .u64 0, .int .u64 0, .int .u64 0, .int .i64 0, .int .i64 0]) ?_ rfl ⟨rfl, B0.trans (GR.below (Nat.le_refl _) B0.size)⟩
  have HL := run_loadVar_row (P := Try.prog) Y (w.heap.size) 27 27 #[.int .i64 1, .int .i64 (-1), .int .i64 0, .slice none 0 0, .int .i64 (-1), .int .i64 0, .slice none 0 0, .bool false, .int .u64 f, .int .u64 0, .bool false, .bool false, .int .i64 (-1), .int .i64 27, .int .i64 (max 27 (min lim 251)), .int .u64 0, .int .u64 0, .int .u64 0, .int .i64 0, .int .i64 0] (0, 0) _ KR Try.underlying27 rfl (by kernel_rfl)
  generalize (#[.int .i64 1, .int .i64 (-1), .int .i64 0, .slice none 0 0, .int .i64 (-1), .int .i64 0, .slice none 0 0, .bool false, .int .u64 f, .int .u64 0, .bool false, .bool false, .int .i64 (-1), .int .i64 27, .int .i64 (max 27 (min lim 251)), .int .u64 0, .int .u64 0, .int .u64 0, .int .i64 0, .int .i64 0] : Array Value) = CS at *
  simp [results, show (Try.f9).results = #[.cell 6 27] from rfl, asAddr, HL, Act.put]
theorem isch_any (k : Int) (w : World) : Calls Try.prog 41 #[.int .i64 k] w fun e w' => e = .returned (.bool (decide (k = 0 ∨ k = 1))) ∧ w = w' := by
  by_cases h0 : k = 0
  · subst h0
    go_enter Try.func41, Try.ntmps41
    go_wp2_with fail
    go_ret
    exact ⟨rfl, rfl⟩
  by_cases h1 : k = 1
  · subst h1
    go_enter Try.func41, Try.ntmps41
    go_wp2_with fail
    go_ret
    exact ⟨rfl, rfl⟩
  rw [decide_eq_false (by omega)]
  have g0 : (k == 0) = false := by simpa using h0
  have g1 : (k == 1) = false := by simpa using h1
  go_enter Try.func41, Try.ntmps41
  go_wp2_with fail
  go_ret
  exact ⟨rfl, rfl⟩
theorem cent_any (g : Nat) (x : Pr) (ev now : Int) (Q R : Value) (w : World) (K1 : Blk w g 80 (sdC x ev now Q R)) : Calls Try.prog 74 #[.pointer (some ⟨g, 0, none⟩)] w fun e w' => e = .returned (.bool (x.r == 0)) ∧ w = w' := by
  obtain ⟨xr, xo, xs, V1, xq, xt, V2, xd, xf, xc, xk, xw, xv, xl, xm, xa, xp, xy, xz, xn⟩ := x
  dsimp only [sdC] at *
  have k0 := K1.cell 0
  have hg := K1.lt
  go_enter Try.func74, Try.ntmps74
  go_wp2_with fail
  go_ret
  exact ⟨rfl, rfl⟩
set_option maxRecDepth 100000 in
set_option maxHeartbeats 8000000 in
theorem joins_any (g : Nat) (x : Pr) (ev now k : Int) (Q R : Value) (w : World) (K1 : Blk w g 80 (sdC x ev now Q R)) : Calls Try.prog 75 #[.pointer (some ⟨g, 0, none⟩), .int .i64 k] w fun e w' => e = .returned (.tuple #[]) ∧ Blk w' g 80 (sdC { x with q := k, t := now } ev now Q R) ∧ Grw g w w' := by
  obtain ⟨xr, xo, xs, V1, xq, xt, V2, xd, xf, xc, xk, xw, xv, xl, xm, xa, xp, xy, xz, xn⟩ := x
  dsimp only [sdC] at *
  have k21 := K1.cell 21
  have hg := K1.lt
  go_enter Try.func75, Try.ntmps75
  go_wp2_with (first
    | (refine wpList_set rfl _ _ _ rfl g 4 (.int .i64 k) rfl rfl 80 _ K1 (by show 4 < 24; decide) (by kernel_rfl) rfl #[.int .i64 xr, .int .i64 xo, .int .i64 xs, V1, .int .i64 k, .int .i64 xt, V2, .bool xd, .int .u64 xf, .int .u64 xc, .bool xk, .bool xw, .int .i64 xv, .int .i64 xl, .int .i64 xm, .int .u64 xa, .int .u64 xp, .int .u64 xy, .int .i64 xz, .int .i64 xn, .int .u16 ev, .int .i64 now, Q, R] rfl ?_; intro X2 K2 G2)
    | (refine wpList_set rfl _ _ _ rfl g 5 (.int .i64 now) rfl rfl 80 _ K2 (by show 5 < 24; decide) (by kernel_rfl) rfl #[.int .i64 xr, .int .i64 xo, .int .i64 xs, V1, .int .i64 k, .int .i64 now, V2, .bool xd, .int .u64 xf, .int .u64 xc, .bool xk, .bool xw, .int .i64 xv, .int .i64 xl, .int .i64 xm, .int .u64 xa, .int .u64 xp, .int .u64 xy, .int .i64 xz, .int .i64 xn, .int .u16 ev, .int .i64 now, Q, R] rfl ?_; intro X3 K3 G3))
  go_end0
  exact ⟨rfl, K3, G2.trans G3⟩
end Go.Proofs.Ytpoagepchlfemaa.Pc
