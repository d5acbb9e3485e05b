/- What a clock shows, and the first time at which it shows something: contracts over the program. -/
import Derived.Test.YtmcpgnmkjebbjaaClkWalks
set_option linter.unusedVariables false
set_option linter.unusedSimpArgs false
namespace Go.Proofs.Ytmcpgnmkjebbjaa.Clk
open Go.RowKit Mem

theorem i64_in (x : Int) (h : -9223372036854775808 ≤ x ∧ x ≤ 9223372036854775807) : IntKind.i64.wrap x = x := by
  simp only [IntKind.wrap, IntKind.bits, IntKind.signed]; simp; split <;> omega
theorem local_any (p s t : Int) (w : World) :
    Calls Try.prog 33 #[.agg #[.int .i64 p, .int .i64 s], .int .i64 t] w fun e w' => e = .returned (.int .i64 (loc p s t)) ∧ Below w.heap.size w w' := by
  have hp := prod_bd p t
  have hl := loc_bd p s t
  have hS := lim_bd s 0 1099511627776 (by decide)
  have hT := lim_bd t 0 1099511627776 (by decide)
  have hd := dn_bd (n := lim t 0 1099511627776 * lim p (-500) 500) (by omega)
  have hL : loc p s t = lim s 0 1099511627776 + lim t 0 1099511627776 + dn (lim t 0 1099511627776 * lim p (-500) 500) := rfl
  have HL := Lib.hid (limited_any p s)
  have HT := Lib.hid (limit_any t 0 1099511627776)
  have HD := Lib.hid fun w => down_any (lim t 0 1099511627776 * lim p (-500) 500) w (by omega)
  rw [hL] at hl ⊢
  clear hL
  generalize lim s 0 1099511627776 = S at *
  generalize lim t 0 1099511627776 = T at *
  generalize lim p (-500) 500 = P at *
  have e1 := i64_in (S + T) (by omega)
  have e2 := i64_in (T * P) (by omega)
  have e3 := i64_in (S + T + dn (T * P)) (by omega)
  generalize dn (T * P) = D at *
  clear hp hl hS hT hd
  have F0 : Mem.Blk (w.alloc (.cells #[.int .i64 p, .int .i64 s] 54)) w.heap.size 54 #[.int .i64 p, .int .i64 s] := Blk.fresh w _ #[.int .i64 p, .int .i64 s]
  have hbel : Below w.heap.size w (w.alloc (.cells #[.int .i64 p, .int .i64 s] 54)) := (Below.refl _ w).alloc (Nat.le_refl _) _
  go_enter Try.func33, Try.ntmps33
  go_wp2_with fail
  generalize w.alloc (.cells #[.int .i64 p, .int .i64 s] 54) = W at *
  have f0 : W.cell? ⟨w.heap.size, 0, none⟩ = some (.int .i64 p) := F0.cell 0
  have f1 : W.cell? ⟨w.heap.size, 1, none⟩ = some (.int .i64 s) := F0.cell 1
  have hW : w.heap.size < W.heap.size := F0.lt
  go_wp2_with (first
    | (go_at_call 61; refine (HL.out _).mono ?_; rintro e w1 ⟨rfl, b1⟩; have c0 := (b1.cell (p := ⟨w.heap.size, 0, none⟩) hW).trans f0; have c1 := (b1.cell (p := ⟨w.heap.size, 1, none⟩) hW).trans f1; have z0 := (b1.frozen (p := ⟨w.heap.size, 0, none⟩) hW).trans (frz F0 0); have z1 := (b1.frozen (p := ⟨w.heap.size, 1, none⟩) hW).trans (frz F0 1))
    | (go_at_call 62; refine (HT.out _).mono ?_; rintro e w' ⟨rfl, rfl⟩))
  have B2 : Below w.heap.size w ((w1.setCell ⟨w.heap.size, 0, none⟩ (.int .i64 P)).setCell ⟨w.heap.size, 1, none⟩ (.int .i64 S)) :=
    ((hbel.trans (b1.mono (by omega))).setCell (p := ⟨w.heap.size, 0, none⟩) (Nat.le_refl _) _).setCell (p := ⟨w.heap.size, 1, none⟩) (Nat.le_refl _) _
  have r0 : ((w1.setCell ⟨w.heap.size, 0, none⟩ (.int .i64 P)).setCell ⟨w.heap.size, 1, none⟩ (.int .i64 S)).cell? ⟨w.heap.size, 0, none⟩ = some (.int .i64 P) :=
    (World.cell?_setCell_other _ _ _ _ (by simp)).trans (World.cell?_setCell_same' _ _ _ (by rw [c0]; rfl))
  have r1 : ((w1.setCell ⟨w.heap.size, 0, none⟩ (.int .i64 P)).setCell ⟨w.heap.size, 1, none⟩ (.int .i64 S)).cell? ⟨w.heap.size, 1, none⟩ = some (.int .i64 S) :=
    World.cell?_setCell_same' _ _ _ (by rw [World.cell?_setCell_other _ _ _ _ (by simp), c1]; rfl)
  generalize (w1.setCell ⟨w.heap.size, 0, none⟩ (.int .i64 P)).setCell ⟨w.heap.size, 1, none⟩ (.int .i64 S) = V at *
  have B3 := B2.drew
  have q0 : V.drew.cell? ⟨w.heap.size, 0, none⟩ = some (.int .i64 P) := r0
  have q1 : V.drew.cell? ⟨w.heap.size, 1, none⟩ = some (.int .i64 S) := r1
  clear c0 c1 z0 z1 f0 f1 F0 b1 hW hbel r0 r1
  go_region_held3 (fun w' => w'.cell? ⟨w.heap.size, 0, none⟩ = some (.int .i64 P) ∧ w'.cell? ⟨w.heap.size, 1, none⟩ = some (.int .i64 S)) (exact ⟨q0, q1⟩) (first
    | (go_at_call 63; refine (HD.out _).mono ?_; rintro e w2 ⟨rfl, rfl⟩))
  go_wp2
  go_ret
  exact ⟨rfl, B3⟩
/-- Two structs of two numbers, compared. -/
theorem clk_ne (a b c d : Int) (w : World) : (binOp .neq 54 (.agg #[.int .i64 a, .int .i64 b]) (.agg #[.int .i64 c, .int .i64 d])).run Try.prog w = .ok (.bool (!(a == c && b == d))) w := by
  go_simp
  by_cases h1 : a = c
  · by_cases h2 : b = d <;> simp [h1, h2]
  · simp [h1]
theorem clk_guard (a b c d : Int) (w : World) (x y : Operand) : (eqGuard .neq 54 x y (.agg #[.int .i64 a, .int .i64 b]) (.agg #[.int .i64 c, .int .i64 d])).run Try.prog w = .ok () w := by
  go_simp
def okC (p s : Int) : Int := if -500 ≤ p ∧ p ≤ 500 ∧ 0 ≤ s ∧ s ≤ 1099511627776 then 0 else 5
theorem okC_eq (p s : Int) : (p == lim p (-500) 500 && s == lim s 0 1099511627776) = decide (-500 ≤ p ∧ p ≤ 500 ∧ 0 ≤ s ∧ s ≤ 1099511627776) := by
  have h1 := lim_eq (n := p) (lo := -500) (hi := 500) (by decide)
  have h2 := lim_eq (n := s) (lo := 0) (hi := 1099511627776) (by decide)
  rw [Bool.eq_iff_iff]
  simp only [Bool.and_eq_true, beq_iff_eq, decide_eq_true_eq, h1, h2, and_assoc]
end Go.Proofs.Ytmcpgnmkjebbjaa.Clk
