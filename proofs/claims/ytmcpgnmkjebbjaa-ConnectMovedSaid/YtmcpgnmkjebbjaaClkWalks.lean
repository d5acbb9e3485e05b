/- What each function of the layer of the clocks returns: contracts over the program. -/
import Derived.Test.YtmcpgnmkjebbjaaProg
import Derived.WalkKit
import Derived.Lib.MinMax
import Derived.Lib.Hide
import Derived.BigQuiet
import Derived.Deep.QuietTactic
import Derived.WalkSpells
import Derived.Deep.RegionHeld3
import Derived.Deep.RegionWith
import Derived.Test.YtmcpgnmkjebbjaaSerMath
import Derived.Test.YtmcpgnmkjebbjaaMem
import Derived.Test.YtmcpgnmkjebbjaaClkMath
set_option linter.unusedVariables false
set_option linter.unusedSimpArgs false
namespace Go.Proofs.Ytmcpgnmkjebbjaa.Clk
open Go.RowKit Mem

theorem limit_any (n lo hi : Int) (w : World) :
    Calls Try.prog 62 #[.int .i64 n, .int .i64 lo, .int .i64 hi] w fun e w' => e = .returned (.int .i64 (lim n lo hi)) ∧ w = w' := by
  go_enter Try.func62, Try.ntmps62
  go_wp2
  go_ret
  exact ⟨rfl, rfl⟩
theorem rlimited_any (n lo hi : Int) (w : World) (h : lo ≤ hi) :
    Calls Try.prog 76 #[.int .i64 n, .int .i64 lo, .int .i64 hi] w fun e w' => e = .returned (.int .i64 (lim n lo hi)) ∧ w = w' := by
  by_cases h1 : n < lo
  · go_enter Try.func76, Try.ntmps76
    go_wp2
    go_ret
    exact ⟨Ser.ret_int (lim_lt h1 h).symm, rfl⟩
  · by_cases h2 : hi < n
    · go_enter Try.func76, Try.ntmps76
      go_wp2
      go_ret
      exact ⟨Ser.ret_int (lim_gt h2 h).symm, rfl⟩
    · go_enter Try.func76, Try.ntmps76
      go_wp2
      go_ret
      exact ⟨Ser.ret_int (lim_in (by omega) (by omega)).symm, rfl⟩
theorem down_any (n : Int) (w : World) (hn : -1099511627776000 ≤ n ∧ n ≤ 1099511627776000) :
    Calls Try.prog 63 #[.int .i64 n] w fun e w' => e = .returned (.int .i64 (dn n)) ∧ w = w' := by
  have hd : -1099511628 ≤ n.tdiv 1000000 ∧ n.tdiv 1000000 ≤ 1099511628 := by
    have h1 : dn n = n / 1000000 := rfl
    rcases dn_code n with ⟨_, h⟩ | ⟨_, h⟩ <;> omega
  have e0 := IntWalk.wrap64_in (n.tdiv 1000000) (by omega)
  have e1 := IntWalk.wrap64_in (n.tdiv 1000000 - 1) (by omega)
  rcases dn_code n with ⟨h1, h2⟩ | ⟨h1, h2⟩
  · rw [← h2]; clear h2
    go_enter Try.func63, Try.ntmps63
    go_wp2
    go_ret
    exact ⟨rfl, rfl⟩
  · rw [← h2]; clear h2
    go_enter Try.func63, Try.ntmps63
    go_wp2
    go_ret
    exact ⟨rfl, rfl⟩
theorem up_any (n : Int) (w : World) (hn : 0 ≤ n ∧ n ≤ 1099511627776000) :
    Calls Try.prog 80 #[.int .i64 n] w fun e w' => e = .returned (.int .i64 (upw n)) ∧ w = w' := by
  have hd : -1099511628 ≤ dn (-n) ∧ dn (-n) ≤ 0 := by unfold dn; omega
  have e0 := IntWalk.wrap64_in (-n) (by omega)
  have e1 := IntWalk.wrap64_in (-dn (-n)) (by omega)
  unfold upw
  go_enter Try.func80, Try.ntmps80
  go_wp2_with (go_at_call 63; refine (down_any (-n) _ (by omega)).mono ?_; rintro e w' ⟨rfl, rfl⟩)
  go_ret
  exact ⟨rfl, rfl⟩
theorem widening_any (p n : Int) (w : World) :
    Calls Try.prog 75 #[.int .i64 p, .int .i64 n] w fun e w' => e = .returned (.int .i64 (wid p n)) ∧ w = w' := by
  have hp := wprod_bd p n
  have hw := wid_bd p n
  have hu : wid p n = upw (lim n 0 1099511627776 * lim p 0 1000) + 32 := rfl
  rw [hu] at hw ⊢
  go_enter Try.func75, Try.ntmps75
  go_wp2_with (first
    | (go_at_call_of 62 p; refine (limit_any _ _ _ _).mono ?_; rintro e w' ⟨rfl, rfl⟩)
    | (go_at_call_of 62 n; refine (limit_any _ _ _ _).mono ?_; rintro e w' ⟨rfl, rfl⟩)
    | (go_at_call 80; refine (up_any _ _ (by omega)).mono ?_; rintro e w' ⟨rfl, rfl⟩))
  go_ret
  exact ⟨rfl, rfl⟩
theorem frz {w : World} {a : Nat} {t : TypeId} {c : Array Value} (h : Mem.Blk w a t c) (j : Nat) : w.frozen? ⟨a, j, none⟩ = false := by
  simp [World.frozen?, show w.heap[a]? = _ from h]
theorem limited_any (p s : Int) (w : World) :
    Calls Try.prog 61 #[.agg #[.int .i64 p, .int .i64 s]] w fun e w' => e = .returned (.agg #[.int .i64 (lim p (-500) 500), .int .i64 (lim s 0 1099511627776)]) ∧ Below w.heap.size w w' := by
  have F0 : Mem.Blk ((w.alloc (.cells #[.int .i64 p, .int .i64 s] 54)).alloc (.cells #[.int .i64 0, .int .i64 0] 54)) w.heap.size 54 #[.int .i64 p, .int .i64 s] := (Blk.fresh w _ #[.int .i64 p, .int .i64 s]).alloc _
  have G0 : Mem.Blk ((w.alloc (.cells #[.int .i64 p, .int .i64 s] 54)).alloc (.cells #[.int .i64 0, .int .i64 0] 54)) (w.heap.size + 1) 54 #[.int .i64 0, .int .i64 0] := by
    have := Blk.fresh (w.alloc (.cells #[.int .i64 p, .int .i64 s] 54)) 54 #[.int .i64 0, .int .i64 0]
    rwa [World.size_alloc] at this
  have hbel : Below w.heap.size w ((w.alloc (.cells #[.int .i64 p, .int .i64 s] 54)).alloc (.cells #[.int .i64 0, .int .i64 0] 54)) := ((Below.refl _ w).alloc (Nat.le_refl _) _).alloc (by simp) _
  go_enter Try.func61, Try.ntmps61
  go_wp2_with fail
  generalize (w.alloc (.cells #[.int .i64 p, .int .i64 s] 54)).alloc (.cells #[.int .i64 0, .int .i64 0] 54) = W at *
  have f0 : W.drew.cell? ⟨w.heap.size, 0, none⟩ = some (.int .i64 p) := F0.cell 0
  have f1 : W.drew.cell? ⟨w.heap.size, 1, none⟩ = some (.int .i64 s) := F0.cell 1
  have c0 : W.cell? ⟨w.heap.size + 1, 0, none⟩ = some (.int .i64 0) := G0.cell 0
  have c1 : W.cell? ⟨w.heap.size + 1, 1, none⟩ = some (.int .i64 0) := G0.cell 1
  have z0 : W.frozen? ⟨w.heap.size + 1, 0, none⟩ = false := frz G0 0
  have z1 : W.frozen? ⟨w.heap.size + 1, 1, none⟩ = false := frz G0 1
  have hg := G0.lt
  have hb2 : Below w.heap.size w ((W.drew.setCell ⟨w.heap.size + 1, 0, none⟩ (.int .i64 (lim p (-500) 500))).setCell ⟨w.heap.size + 1, 1, none⟩ (.int .i64 (lim s 0 1099511627776))) :=
    (hbel.drew.setCell (p := ⟨w.heap.size + 1, 0, none⟩) (by show w.heap.size ≤ w.heap.size + 1; omega) _).setCell (p := ⟨w.heap.size + 1, 1, none⟩) (by show w.heap.size ≤ w.heap.size + 1; omega) _
  have r0 : ((W.setCell ⟨w.heap.size + 1, 0, none⟩ (.int .i64 (lim p (-500) 500))).setCell ⟨w.heap.size + 1, 1, none⟩ (.int .i64 (lim s 0 1099511627776))).cell? ⟨w.heap.size + 1, 0, none⟩ = some (.int .i64 (lim p (-500) 500)) :=
    (World.cell?_setCell_other _ _ _ _ (by simp)).trans (World.cell?_setCell_same' _ _ _ (by rw [c0]; rfl))
  have r1 : ((W.setCell ⟨w.heap.size + 1, 0, none⟩ (.int .i64 (lim p (-500) 500))).setCell ⟨w.heap.size + 1, 1, none⟩ (.int .i64 (lim s 0 1099511627776))).cell? ⟨w.heap.size + 1, 1, none⟩ = some (.int .i64 (lim s 0 1099511627776)) :=
    World.cell?_setCell_same' _ _ _ (by rw [World.cell?_setCell_other _ _ _ _ (by simp), c1]; rfl)
  have y0 := (World.cell?_setCell_other (W.setCell ⟨w.heap.size + 1, 0, none⟩ (.int .i64 (lim p (-500) 500))) ⟨w.heap.size + 1, 1, none⟩ ⟨w.heap.size, 0, none⟩ (.int .i64 (lim s 0 1099511627776)) (by simp)).trans ((World.cell?_setCell_other W ⟨w.heap.size + 1, 0, none⟩ ⟨w.heap.size, 0, none⟩ (.int .i64 (lim p (-500) 500)) (by simp)).trans f0)
  have y1 := (World.cell?_setCell_other (W.setCell ⟨w.heap.size + 1, 0, none⟩ (.int .i64 (lim p (-500) 500))) ⟨w.heap.size + 1, 1, none⟩ ⟨w.heap.size, 1, none⟩ (.int .i64 (lim s 0 1099511627776)) (by simp)).trans ((World.cell?_setCell_other W ⟨w.heap.size + 1, 0, none⟩ ⟨w.heap.size, 1, none⟩ (.int .i64 (lim p (-500) 500)) (by simp)).trans f1)
  go_region_held3 (fun w' => w'.cell? ⟨w.heap.size, 0, none⟩ = some (.int .i64 p) ∧ w'.cell? ⟨w.heap.size, 1, none⟩ = some (.int .i64 s)) (first | exact ⟨y0, y1⟩ | exact ⟨f0, f1⟩) (first
    | (go_at_call_of 62 p; refine (limit_any _ _ _ _).mono ?_; rintro e w1 ⟨rfl, rfl⟩)
    | (go_at_call_of 62 s; refine (limit_any _ _ _ _).mono ?_; rintro e w1 ⟨rfl, rfl⟩))
  go_wp2_with fail
  refine bodyPost_ret (v := .agg #[.int .i64 (lim p (-500) 500), .int .i64 (lim s 0 1099511627776)]) ?_ rfl ⟨rfl, hb2⟩
  simp [results, Try.f61, go_sem, r0, r1]
end Go.Proofs.Ytmcpgnmkjebbjaa.Clk
