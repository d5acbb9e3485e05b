/- Parameters of a connection in memory, and what is wrong with them. -/
import Derived.Test.YtmcpgnmkjebbjaaCnUpd
import Derived.Test.YtmcpgnmkjebbjaaChmCheck
set_option linter.unusedVariables false
set_option linter.unusedSimpArgs false
namespace Go.Proofs.Ytmcpgnmkjebbjaa.Cn
open Go.RowKit Mem Clk

abbrev par (a b s o i l t : Int) (m : Nat) (h d g : Int) : Array Value := #[.int .u32 a, .int .u32 b, .int .i64 s, .int .i64 o, .int .i64 i, .int .i64 l, .int .i64 t, .int .u64 (m : Int), .int .i64 h, .int .i64 d, .int .i64 g]
/-- The parameters in memory. -/
abbrev Elv (w : World) (k : Nat) (a b s o i l t : Int) (m : Nat) (h d g : Int) : Prop := w.cell? ⟨k, 0, none⟩ = some (.int .u32 a) ∧ w.cell? ⟨k, 1, none⟩ = some (.int .u32 b) ∧ w.cell? ⟨k, 2, none⟩ = some (.int .i64 s) ∧ w.cell? ⟨k, 3, none⟩ = some (.int .i64 o) ∧ w.cell? ⟨k, 4, none⟩ = some (.int .i64 i) ∧ w.cell? ⟨k, 5, none⟩ = some (.int .i64 l) ∧ w.cell? ⟨k, 6, none⟩ = some (.int .i64 t) ∧ w.cell? ⟨k, 7, none⟩ = some (.int .u64 (m : Int)) ∧ w.cell? ⟨k, 8, none⟩ = some (.int .i64 h) ∧ w.cell? ⟨k, 9, none⟩ = some (.int .i64 d) ∧ w.cell? ⟨k, 10, none⟩ = some (.int .i64 g)
theorem elv_of {w : World} {k : Nat} {a b s o i l t : Int} {m : Nat} {h d g : Int} {ty : TypeId} (H : Blk w k ty #[.int .u32 a, .int .u32 b, .int .i64 s, .int .i64 o, .int .i64 i, .int .i64 l, .int .i64 t, .int .u64 (m : Int), .int .i64 h, .int .i64 d, .int .i64 g]) : Elv w k a b s o i l t m h d g :=
  ⟨H.cell 0, H.cell 1, H.cell 2, H.cell 3, H.cell 4, H.cell 5, H.cell 6, H.cell 7, H.cell 8, H.cell 9, H.cell 10⟩
theorem elv_below {w w' : World} {k : Nat} {a b s o i l t : Int} {m : Nat} {h d g : Int} (H : Elv w k a b s o i l t m h d g) (x : Below w.heap.size w w') : Elv w' k a b s o i l t m h d g := by
  have hg := World.block_lt_of_cell? _ _ H.1
  obtain ⟨h0, h1, h2, h3, h4, h5, h6, h7, h8, h9, h10⟩ := H
  exact ⟨(x.cell (p := ⟨k, 0, none⟩) hg).trans h0, (x.cell (p := ⟨k, 1, none⟩) hg).trans h1, (x.cell (p := ⟨k, 2, none⟩) hg).trans h2, (x.cell (p := ⟨k, 3, none⟩) hg).trans h3, (x.cell (p := ⟨k, 4, none⟩) hg).trans h4, (x.cell (p := ⟨k, 5, none⟩) hg).trans h5, (x.cell (p := ⟨k, 6, none⟩) hg).trans h6, (x.cell (p := ⟨k, 7, none⟩) hg).trans h7, (x.cell (p := ⟨k, 8, none⟩) hg).trans h8, (x.cell (p := ⟨k, 9, none⟩) hg).trans h9, (x.cell (p := ⟨k, 10, none⟩) hg).trans h10⟩
theorem within_to {n lo hi : Int} {b : Bool} (h : decide (lo ≤ n ∧ n ≤ hi) = b) (k : lo ≤ hi) (w : World) :
    Calls Try.prog 41 #[.int .i64 n, .int .i64 lo, .int .i64 hi] w fun e w' => e = .returned (.bool b) ∧ w = w' := by rw [← h]; exact within_any n lo hi w k
/-- The error of parameters. -/
def okP (a b s o i l t : Int) (m : Nat) (h d g : Int) : Int :=
  if a = 0 ∨ a = 2391391958 then 1 else if 16777216 ≤ b then 5 else if okU s o i l t ≠ 0 then okU s o i l t else if Chm.okM m ≠ 0 then Chm.okM m
  else if (5 ≤ h ∧ h ≤ 16) ∧ (0 ≤ d ∧ d ≤ 500) then (if g = 1 ∨ g = 2 then 0 else 12) else 5
theorem okP_code (a b s o i l t : Int) (m : Nat) (h d g : Int) (q : Bool) (hq : q = decide (g = 1 ∨ g = 2)) :
    fst0 [unl 1 [a != 0, a != 2391391958], unl 5 [decide (b ≤ 16777215)], okU s o i l t, Chm.okM m, unl 5 [decide (5 ≤ h ∧ h ≤ 16), decide (0 ≤ d ∧ d ≤ 500)], unl 12 [q]] = okP a b s o i l t m h d g := by
  unfold okP
  by_cases c1 : a = 0 ∨ a = 2391391958
  · rw [if_pos c1]
    have : unl 1 [a != 0, a != 2391391958] = 1 := by unfold unl; rw [if_neg]; rcases c1 with c | c <;> simp [c]
    rw [this]; simp [fst0]
  · rw [if_neg c1]
    have : unl 1 [a != 0, a != 2391391958] = 0 := by unfold unl; rw [if_pos]; simp; omega
    rw [this]
    by_cases c2 : 16777216 ≤ b
    · rw [if_pos c2]
      have : unl 5 [decide (b ≤ 16777215)] = 5 := by unfold unl; rw [if_neg]; simp; omega
      rw [this]; simp [fst0]
    · rw [if_neg c2]
      have : unl 5 [decide (b ≤ 16777215)] = 0 := by unfold unl; rw [if_pos]; simp; omega
      rw [this]
      by_cases c3 : okU s o i l t = 0
      · rw [if_neg (by simpa using c3), c3]
        by_cases c4 : Chm.okM m = 0
        · rw [if_neg (by simpa using c4), c4]
          by_cases c5 : (5 ≤ h ∧ h ≤ 16) ∧ (0 ≤ d ∧ d ≤ 500)
          · rw [if_pos c5]
            have : unl 5 [decide (5 ≤ h ∧ h ≤ 16), decide (0 ≤ d ∧ d ≤ 500)] = 0 := by unfold unl; rw [if_pos]; simp; omega
            rw [this, hq]
            by_cases c6 : g = 1 ∨ g = 2
            · rw [if_pos c6, decide_eq_true c6]; simp [fst0, unl]
            · rw [if_neg c6, decide_eq_false c6]; simp [fst0, unl]
          · rw [if_neg c5]
            have : unl 5 [decide (5 ≤ h ∧ h ≤ 16), decide (0 ≤ d ∧ d ≤ 500)] = 5 := by unfold unl; rw [if_neg]; simp; omega
            rw [this]; simp [fst0]
        · rw [if_pos c4]; simp [fst0, c4]
      · rw [if_pos c3]; simp [fst0, c3]
end Go.Proofs.Ytmcpgnmkjebbjaa.Cn
