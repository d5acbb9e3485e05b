/- What each function of the layer of addresses returns that asks for numbers alone: contracts over the program. -/
import Derived.Test.YtegmknmbgifmjaaDoorBase
import Derived.Test.YtegmknmbgifmjaaDoorAdrMath
import Derived.Deep.RegionHeld3
set_option linter.unusedVariables false
set_option linter.unusedSimpArgs false
namespace Go.Proofs.YtegmknmbgifmjaaDoor.Adr
open Go.RowKit Mem Oct Base

def ats : List Int := [0, 0, 0, 24, 0]
def pres : List Int := [0, 0, 3, 1, 0]
def lets : List Int := [0, 112, 115, 114, 97]
/-- The tables lie as their initialisers lay them. -/
def Tab (w : World) : Prop := 2 ≤ w.heap.size ∧ (∀ i : Nat, i < 5 → w.cell? ⟨0, i, none⟩ = some (.int .i64 (ats.getD i 0))) ∧ (∀ i : Nat, i < 5 → w.cell? ⟨1, i, none⟩ = some (.int .u64 (pres.getD i 0)))
theorem Tab.below {w w' : World} (h : Tab w) (hb : Below w.heap.size w w') : Tab w' := by
  have h3 := h.1
  refine ⟨Nat.le_trans h.1 hb.size, fun i hi => ?_, fun i hi => ?_⟩
  · rw [hb.cell (by show (0 : Nat) < w.heap.size; omega)]; exact h.2.1 i hi
  · rw [hb.cell (by show (1 : Nat) < w.heap.size; omega)]; exact h.2.2 i hi
theorem Tab.drew {w : World} (h : Tab w) : Tab w.drew := h
theorem Tab.alloc {w : World} (h : Tab w) (o : Obj) : Tab (w.alloc o) := h.below ((Below.refl _ _).alloc (Nat.le_refl _) o)

theorem low_to (n : Int) (k : Nat) (r : Int) (hn : 0 ≤ n ∧ n ≤ 18446744073709551615) (hk : k ≤ 64) (hr : n % Ser.p2 k = r) :
    Hid (∀ w, Calls Tryd.prog 38 #[.int .u64 n, .int .i64 k] w fun e w' => e = .returned (.int .u64 r) ∧ w = w') := Lib.hid fun w => by
  have H := Ser.and_mask n k hk hn.1 hn.2
  rw [hr] at H
  have HH := Lib.hid H
  clear H hr
  go_enter Tryd.func38, Tryd.ntmps38
  go_wp2
  go_ret
  exact ⟨Ser.ret_int (by simpa using HH.out), rfl⟩
theorem low_toI (n k r : Int) (hn : 0 ≤ n ∧ n ≤ 18446744073709551615) (hk : 0 ≤ k ∧ k ≤ 64) (hr : n % Ser.p2 k.toNat = r) :
    Hid (∀ w, Calls Tryd.prog 38 #[.int .u64 n, .int .i64 k] w fun e w' => e = .returned (.int .u64 r) ∧ w = w') := by
  obtain ⟨m, rfl⟩ := Int.eq_ofNat_of_zero_le hk.1
  exact low_to n m r hn (by omega) (by simpa using hr)
theorem limit_any (n k : Int) (w : World) (hn : 0 ≤ n ∧ n ≤ 18446744073709551615) (hk : 2 ≤ k ∧ k ≤ 4) (hT : Tab w) :
    Calls Tryd.prog 39 #[.int .u64 n, .int .i64 k] w fun e w' => e = .returned (.int .u64 (lim n (most k))) ∧ w = w' := by
  have hk' : k = 2 ∨ k = 3 ∨ k = 4 := by omega
  have L1 := low_toI 18446744073709551615 46 70368744177663 (by omega) (by omega) (by decide)
  have L2 := low_toI 18446744073709551615 22 4194303 (by omega) (by omega) (by decide)
  rcases hk' with rfl | rfl | rfl
  · have f : w.cell? ⟨0, 2, none⟩ = some (.int .i64 0) := hT.2.1 2 (by decide)
    go_enter Tryd.func39, Tryd.ntmps39
    go_wp2_with (go_at_call 38; refine (L1.out _).mono ?_; rintro e w' ⟨rfl, rfl⟩)
    go_ret
    exact ⟨rfl, rfl⟩
  · have f : w.cell? ⟨0, 3, none⟩ = some (.int .i64 24) := hT.2.1 3 (by decide)
    go_enter Tryd.func39, Tryd.ntmps39
    go_wp2_with (go_at_call 38; refine (L2.out _).mono ?_; rintro e w' ⟨rfl, rfl⟩)
    go_ret
    exact ⟨rfl, rfl⟩
  · have f : w.cell? ⟨0, 4, none⟩ = some (.int .i64 0) := hT.2.1 4 (by decide)
    go_enter Tryd.func39, Tryd.ntmps39
    go_wp2_with (go_at_call 38; refine (L1.out _).mono ?_; rintro e w' ⟨rfl, rfl⟩)
    go_ret
    exact ⟨rfl, rfl⟩
theorem known_any (k : Int) (w : World) (hk : -9223372036854775808 ≤ k ∧ k ≤ 9223372036854775807) :
    Calls Tryd.prog 31 #[.int .i64 k] w fun e w' => e = .returned (.bool (decide (1 ≤ k ∧ k ≤ 4))) ∧ w = w' := by
  by_cases h : 0 < k
  · have e1 : Hid (decide (k < 5) = decide (1 ≤ k ∧ k ≤ 4)) := Lib.hid (by congr 1; apply propext; omega)
    go_enter Tryd.func31, Tryd.ntmps31
    go_wp2
    go_ret
    exact ⟨Ser.ret_bool e1.out, rfl⟩
  · have e1 : Hid (false = decide (1 ≤ k ∧ k ≤ 4)) := Lib.hid (by symm; apply decide_eq_false; omega)
    go_enter Tryd.func31, Tryd.ntmps31
    go_wp2
    go_ret
    exact ⟨congrArg (fun b => Ending.returned (.bool b)) (by have := e1.out; rwa [Bool.decide_and] at this), rfl⟩
/-- A number of a kind that has been boxed. -/
def boxed (w : World) (k b : Int) : World := w.alloc (.cells #[.int .i64 k, .int .u64 b] 25)
structure Box (w : World) (g : Nat) (k b : Int) : Prop where
  c0 : w.cell? ⟨g, 0, none⟩ = some (.int .i64 k)
  c1 : w.cell? ⟨g, 1, none⟩ = some (.int .u64 b)
  lt : g < w.heap.size
theorem box_new (w : World) (k b : Int) : Box (w.alloc (.cells #[.int .i64 k, .int .u64 b] 25)) w.heap.size k b :=
  ⟨(Blk.fresh w 25 #[.int .i64 k, .int .u64 b]).cell 0, (Blk.fresh w 25 #[.int .i64 k, .int .u64 b]).cell 1, by simp⟩
theorem Box.below {w w' : World} {g : Nat} {k b : Int} (h : Box w g k b) (hb : Below w.heap.size w w') : Box w' g k b :=
  ⟨(hb.cell (p := ⟨g, 0, none⟩) h.lt).trans h.c0, (hb.cell (p := ⟨g, 1, none⟩) h.lt).trans h.c1, Nat.lt_of_lt_of_le h.lt hb.size⟩
/-- Where the random part of a kind begins. -/
def atZ (k : Int) : Int := if k = 3 then 24 else 0
theorem atZ_bd (k : Int) : 0 ≤ atZ k ∧ atZ k ≤ 24 := by unfold atZ; split <;> omega
theorem part_at (k b : Int) : b % 70368744177664 / 2 ^ (atZ k).toNat = part k b := by
  unfold atZ part; split
  · rfl
  · show _ / 2 ^ 0 = _; omega
/-- The tables at the places of a kind. -/
structure At (w : World) (k : Int) : Prop where
  c : w.cell? ⟨0, k.toNat, none⟩ = some (.int .i64 (atZ k))
  p : w.cell? ⟨1, k.toNat, none⟩ = some (.int .u64 (pre k))
theorem Tab.at_ {w : World} (h : Tab w) (k : Int) (hk : 2 ≤ k ∧ k ≤ 4) : At w k := by
  have hk' : k = 2 ∨ k = 3 ∨ k = 4 := by omega
  rcases hk' with rfl | rfl | rfl
  · exact ⟨h.2.1 2 (by decide), h.2.2 2 (by decide)⟩
  · exact ⟨h.2.1 3 (by decide), h.2.2 3 (by decide)⟩
  · exact ⟨h.2.1 4 (by decide), h.2.2 4 (by decide)⟩
theorem pre_bd (k : Int) : 0 ≤ pre k ∧ pre k ≤ 3 := by unfold pre; split <;> (try split) <;> omega
theorem well_any (k b : Int) (w : World) (hk : 2 ≤ k ∧ k ≤ 4) (hb : 0 ≤ b ∧ b ≤ 281474976710655) (hT : Tab w) :
    Calls Tryd.prog 32 #[.agg #[.int .i64 k, .int .u64 b]] w fun e w' => e = .returned (.bool (wf k b)) ∧ Below w.heap.size w w' := by
  have hW0 := box_new w k b
  have hB : Below w.heap.size w (w.alloc (.cells #[.int .i64 k, .int .u64 b] 25)) := (Below.refl _ _).alloc (Nat.le_refl _) _
  have T1 := hT.below hB
  have A1 := T1.at_ k hk
  have L := low_toI b 46 (b % 70368744177664) (by omega) (by omega) (by rw [show Ser.p2 (46 : Int).toNat = 70368744177664 by decide])
  have bp := part_bd (k := k) hb.1
  have bm := most_bd k
  have bt := atZ_bd k
  have br := pre_bd k
  have hp := part_at k b
  obtain ⟨ℓ, hl⟩ : ∃ ℓ, lim (part k b) (most k) = ℓ := ⟨_, rfl⟩
  have Lm : Hid (∀ w, Tab w → Calls Tryd.prog 39 #[.int .u64 (b % 70368744177664 / 2 ^ (atZ k).toNat), .int .i64 k] w fun e w' => e = .returned (.int .u64 ℓ) ∧ w = w') := Lib.hid fun w hT => by
    rw [hp, ← hl]; exact limit_any _ _ w (by omega) hk hT
  have HW : Hid (wf k b = (decide (b / 70368744177664 = pre k) && decide (b % 70368744177664 / 2 ^ (atZ k).toNat = ℓ))) := Lib.hid (by rw [hp, ← hl]; rfl)
  have p0 := A1.p
  clear hl hp bp
  generalize hQ : pre k = Q at *
  clear hQ
  have hcase : b / 70368744177664 = Q ∨ ¬ b / 70368744177664 = Q := by omega
  go_enter Tryd.func32, Tryd.ntmps32
  go_wp2_with fail
  generalize w.alloc (.cells #[.int .i64 k, .int .u64 b] 25) = W at *
  have c0 : W.drew.cell? ⟨w.heap.size, 0, none⟩ = some (.int .i64 k) := hW0.c0
  have c1 : W.drew.cell? ⟨w.heap.size, 1, none⟩ = some (.int .u64 b) := hW0.c1
  have a0 : W.drew.cell? ⟨0, k.toNat, none⟩ = some (.int .i64 (atZ k)) := A1.c
  have g1 : (0 : Int) ≤ k := by omega
  have g2 : k < 5 := by omega
  generalize atZ k = t at *
  go_region_held3 (fun w' => w'.cell? ⟨w.heap.size, 0, none⟩ = some (.int .i64 k) ∧ w'.cell? ⟨w.heap.size, 1, none⟩ = some (.int .u64 b) ∧ w'.cell? ⟨0, k.toNat, none⟩ = some (.int .i64 t)) (exact ⟨c0, c1, a0⟩) (first
    | (go_at_call 38; refine (L.out _).mono ?_; rintro e w' ⟨rfl, rfl⟩))
  go_wp2_with fail
  have c0' : W.drew.drew.cell? ⟨w.heap.size, 0, none⟩ = some (.int .i64 k) := hW0.c0
  have c1' : W.drew.drew.cell? ⟨w.heap.size, 1, none⟩ = some (.int .u64 b) := hW0.c1
  have p0' : W.drew.drew.cell? ⟨1, k.toNat, none⟩ = some (.int .u64 Q) := p0
  have T2 : Tab W.drew.drew := T1
  have hB2 : Below w.heap.size w W.drew.drew := hB.drew.drew
  rcases hcase with h1 | h1
  · have hd : (b / 70368744177664 == Q) = true := by simpa using h1
    have HX : Hid (wf k b = (b % 70368744177664 / 2 ^ t.toNat == ℓ)) := Lib.hid (by rw [HW.out, decide_eq_true h1]; simp only [Bool.true_and]; exact (Bool.beq_eq_decide_eq ..).symm)
    go_region_held3 (fun w' => w'.cell? ⟨w.heap.size, 0, none⟩ = some (.int .i64 k) ∧ w'.cell? ⟨w.heap.size, 1, none⟩ = some (.int .u64 b) ∧ w'.cell? ⟨1, k.toNat, none⟩ = some (.int .u64 Q)) (exact ⟨c0', c1', p0'⟩) (first
      | (go_at_call 39; refine (Lm.out _ T2).mono ?_; rintro e w' ⟨rfl, rfl⟩))
    go_wp2_with fail
    go_ret
    exact ⟨Ser.ret_bool HX.out.symm, hB2⟩
  · have hd : (b / 70368744177664 == Q) = false := by simpa using h1
    have HX : Hid (wf k b = false) := Lib.hid (by rw [HW.out, decide_eq_false h1]; rfl)
    clear h1 Lm HW
    go_region
    go_wp2_with fail
    go_ret
    exact ⟨Ser.ret_bool HX.out.symm, hB2⟩
end Go.Proofs.YtegmknmbgifmjaaDoor.Adr
