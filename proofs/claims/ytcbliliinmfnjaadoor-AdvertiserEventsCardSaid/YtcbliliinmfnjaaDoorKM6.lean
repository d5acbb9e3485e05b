/- Addresses: kinds, prefixes, random parts, the order: plain arithmetic. No program is mentioned. Advertising PDUs: their parts, what is wrong with them, their bytes: plain mathematics. No function is mentioned. What each function of the layer of addresses returns that asks for numbers alone: contracts over the program. Checking an address: the program's and the reference's: contracts over the program. -/
import Derived.WalkKit
import Derived.Test.YtcbliliinmfnjaaDoorKM5
import Derived.Test.YtcbliliinmfnjaaDoorKM4
import Derived.Deep.RegionHeld3
section
set_option linter.unusedVariables false
namespace Go.Proofs.YtcbliliinmfnjaaDoor.Adr

/-- The prefix of a kind, its random part, the greatest number of its bits. -/
def pre (k : Int) : Int := if k = 2 then 3 else if k = 3 then 1 else 0
def part (k b : Int) : Int := if k = 3 then b % 70368744177664 / 16777216 else b % 70368744177664
def most (k : Int) : Int := if k = 3 then 4194303 else 70368744177663
/-- The random part nearest to a number. -/
def lim (n g : Int) : Int := max 1 (min n (g - 1))
def fit (n g : Int) : Int := if n = 0 then 1 else if n = g then g - 1 else n
theorem lim_fit {n g : Int} (h0 : 0 ≤ n) (h1 : n ≤ g) (hg : 3 ≤ g) : lim n g = fit n g := by unfold lim fit; split <;> (try split) <;> omega
/-- Whether prefix and random part are those of a valid address. -/
def wf (k b : Int) : Bool := decide (b / 70368744177664 = pre k) && decide (part k b = lim (part k b) (most k))
/-- The error of an address, 0 if there is none. -/
def chk (k b : Int) : Int :=
  if k < 1 ∨ 4 < k then 12 else if 281474976710656 ≤ b then 5 else if k = 1 then 0 else if wf k b = true then 0 else 1
theorem part_bd {k b : Int} (hb : 0 ≤ b) : 0 ≤ part k b ∧ part k b ≤ most k := by unfold part most; split <;> omega
theorem most_bd (k : Int) : 3 ≤ most k ∧ most k ≤ 70368744177663 := by unfold most; split <;> omega
theorem part_ok {k b : Int} (hb : 0 ≤ b) : (part k b = lim (part k b) (most k)) ↔ ¬ part k b = 0 ∧ ¬ part k b = most k := by
  have h1 := part_bd (k := k) hb
  have h2 := most_bd k
  rw [lim_fit h1.1 h1.2 h2.1]
  unfold fit
  constructor
  · intro h; split at h
    · omega
    · split at h <;> omega
  · intro h; rw [if_neg h.1, if_neg h.2]
theorem wf_ref {k b : Int} (hb : 0 ≤ b) : (!wf k b) = (decide (b / 70368744177664 ≠ pre k) || decide (part k b = 0) || decide (part k b = most k)) := by
  unfold wf
  have := part_ok (k := k) hb
  by_cases h1 : b / 70368744177664 = pre k
  · by_cases h2 : part k b = 0
    · have : ¬ part k b = lim (part k b) (most k) := fun e => (this.1 e).1 h2
      rw [decide_eq_false this]; simp [h2]
    · by_cases h3 : part k b = most k
      · have : ¬ part k b = lim (part k b) (most k) := fun e => (this.1 e).2 h3
        rw [decide_eq_false this]; simp [h3]
      · rw [decide_eq_true (this.2 ⟨h2, h3⟩)]; simp [h1, h2, h3]
  · simp [h1]
theorem chk_kind {k b : Int} (h : k < 1 ∨ 4 < k) : chk k b = 12 := by unfold chk; rw [if_pos h]
theorem chk_range {k b : Int} (h : 1 ≤ k ∧ k ≤ 4) (hb : 281474976710656 ≤ b) : chk k b = 5 := by unfold chk; rw [if_neg (by omega), if_pos hb]
theorem chk_public {b : Int} (hb : b < 281474976710656) : chk 1 b = 0 := by unfold chk; rw [if_neg (by omega), if_neg (by omega), if_pos rfl]
theorem chk_wf {k b : Int} (h : 2 ≤ k ∧ k ≤ 4) (hb : b < 281474976710656) (hw : wf k b = true) : chk k b = 0 := by unfold chk; rw [if_neg (by omega), if_neg (by omega), if_neg (by omega), if_pos hw]
theorem chk_bad {k b : Int} (h : 2 ≤ k ∧ k ≤ 4) (hb : b < 281474976710656) (hw : wf k b = false) : chk k b = 1 := by unfold chk; rw [if_neg (by omega), if_neg (by omega), if_neg (by omega), if_neg (by rw [hw]; simp)]
/-- The address that is made of a number. -/
def mk (k b : Int) : Int :=
  if k = 1 then b % 281474976710656 else
  if k = 3 then 70368744177664 + fit (b / 16777216 % 4194304) 4194303 * 16777216 + b % 16777216 else
  pre k * 70368744177664 + fit (b % 70368744177664) 70368744177663
end Go.Proofs.YtcbliliinmfnjaaDoor.Adr

end
section
set_option linter.unusedVariables false
set_option linter.unusedSimpArgs false
namespace Go.Proofs.YtcbliliinmfnjaaDoor.Ap
open Go.RowKit Mem Oct

/-- A PDU. -/
structure Pd where
  k : Int
  sk : Int
  sb : Int
  tk : Int
  tb : Int
  ds : List Int
  a : Int
  b : Int
  s : Int
  o : Int
  i : Int
  l : Int
  t : Int
  m : Nat
  h : Int
  d : Int
  g : Int
def tgtB (k : Int) : Bool := k == 1 || (k == 3 || k == 5)
def datB (k : Int) : Bool := k == 0 || (k == 2 || (k == 4 || k == 6))
def conB (k : Int) : Bool := k == 5
def knoB (k : Int) : Bool := decide (0 ≤ k ∧ k ≤ 6)
def tE (T : Bool) (k b : Int) : Int := if T = true then Adr.chk k b else if k = 0 ∧ b = 0 then 0 else 1
def dE (D : Bool) (n : Nat) : Int := if D = true then (if 31 < n then 4 else 0) else if 0 < n then 1 else 0
/-- Parameters that are zero. -/
def zerC (p : Pd) : Bool := decide (p.a = 0 ∧ p.b = 0 ∧ p.s = 0 ∧ p.o = 0 ∧ p.i = 0 ∧ p.l = 0 ∧ p.t = 0 ∧ p.m = 0 ∧ p.h = 0 ∧ p.d = 0 ∧ p.g = 0)
def okC (p : Pd) : Int := Cn.okP p.a p.b p.s p.o p.i p.l p.t p.m p.h p.d p.g
def cE (C : Bool) (p : Pd) : Int := if C = true then okC p else if zerC p = true then 0 else 1
/-- The error of a PDU. -/
def chkP (p : Pd) : Int := if knoB p.k = true then Cn.fst0 [Adr.chk p.sk p.sb, tE (tgtB p.k) p.tk p.tb, dE (datB p.k) p.ds.length, cE (conB p.k) p] else 12
theorem kinds {k : Int} (h : knoB k = true) : k = 0 ∨ k = 1 ∨ k = 2 ∨ k = 3 ∨ k = 4 ∨ k = 5 ∨ k = 6 := by
  unfold knoB at h; simp at h; omega
theorem kind_no {k : Int} (h : knoB k = false) : ¬ (0 ≤ k ∧ k ≤ 6) := by unfold knoB at h; simpa using h
end Go.Proofs.YtcbliliinmfnjaaDoor.Ap

end
section
set_option linter.unusedVariables false
set_option linter.unusedSimpArgs false
namespace Go.Proofs.YtcbliliinmfnjaaDoor.Adr
open Go.RowKit Mem Oct Base

def ats : List Int := [0, 0, 0, 24, 0]
def pres : List Int := [0, 0, 3, 1, 0]
/-- The tables lie as their initialisers lay them. -/
def Tab (w : World) : Prop := 2 ≤ w.heap.size ∧ (∀ i : Nat, i < 5 → w.cell? ⟨0, i, none⟩ = some (.int .i64 (ats.getD i 0))) ∧ (∀ i : Nat, i < 5 → w.cell? ⟨1, i, none⟩ = some (.int .u64 (pres.getD i 0)))
theorem Tab.below {w w' : World} (h : Tab w) (hb : Below w.heap.size w w') : Tab w' := by
  have h3 := h.1
  refine ⟨Nat.le_trans h.1 hb.size, fun i hi => ?_, fun i hi => ?_⟩
  · rw [hb.cell (by show (0 : Nat) < w.heap.size; omega)]; exact h.2.1 i hi
  · rw [hb.cell (by show (1 : Nat) < w.heap.size; omega)]; exact h.2.2 i hi
theorem Tab.drew {w : World} (h : Tab w) : Tab w.drew := h
theorem Tab.alloc {w : World} (h : Tab w) (o : Obj) : Tab (w.alloc o) := h.below ((Below.refl _ _).alloc (Nat.le_refl _) o)

theorem low_to (n : Int) (k : Nat) (r : Int) (hn : 0 ≤ n ∧ n ≤ 18446744073709551615) (hk : k ≤ 64) (hr : n % Ser.p2 k = r) :
    Hid (∀ w, Calls Tryd.prog 128 #[.int .u64 n, .int .i64 k] w fun e w' => e = .returned (.int .u64 r) ∧ w = w') := Lib.hid fun w => by
  have H := Ser.and_mask n k hk hn.1 hn.2
  rw [hr] at H
  have HH := Lib.hid H
  clear H hr
  go_enter Tryd.func128, Tryd.ntmps128
  go_wp2
  go_ret
  exact ⟨Ser.ret_int (by simpa using HH.out), rfl⟩
theorem low_toI (n k r : Int) (hn : 0 ≤ n ∧ n ≤ 18446744073709551615) (hk : 0 ≤ k ∧ k ≤ 64) (hr : n % Ser.p2 k.toNat = r) :
    Hid (∀ w, Calls Tryd.prog 128 #[.int .u64 n, .int .i64 k] w fun e w' => e = .returned (.int .u64 r) ∧ w = w') := by
  obtain ⟨m, rfl⟩ := Int.eq_ofNat_of_zero_le hk.1
  exact low_to n m r hn (by omega) (by simpa using hr)
theorem limit_any (n k : Int) (w : World) (hn : 0 ≤ n ∧ n ≤ 18446744073709551615) (hk : 2 ≤ k ∧ k ≤ 4) (hT : Tab w) :
    Calls Tryd.prog 129 #[.int .u64 n, .int .i64 k] w fun e w' => e = .returned (.int .u64 (lim n (most k))) ∧ w = w' := by
  have hk' : k = 2 ∨ k = 3 ∨ k = 4 := by omega
  have L1 := low_toI 18446744073709551615 46 70368744177663 (by omega) (by omega) (by decide)
  have L2 := low_toI 18446744073709551615 22 4194303 (by omega) (by omega) (by decide)
  rcases hk' with rfl | rfl | rfl
  · have f : w.cell? ⟨0, 2, none⟩ = some (.int .i64 0) := hT.2.1 2 (by decide)
    go_enter Tryd.func129, Tryd.ntmps129
    go_wp2_with (go_at_call 128; refine (L1.out _).mono ?_; rintro e w' ⟨rfl, rfl⟩)
    go_ret
    exact ⟨rfl, rfl⟩
  · have f : w.cell? ⟨0, 3, none⟩ = some (.int .i64 24) := hT.2.1 3 (by decide)
    go_enter Tryd.func129, Tryd.ntmps129
    go_wp2_with (go_at_call 128; refine (L2.out _).mono ?_; rintro e w' ⟨rfl, rfl⟩)
    go_ret
    exact ⟨rfl, rfl⟩
  · have f : w.cell? ⟨0, 4, none⟩ = some (.int .i64 0) := hT.2.1 4 (by decide)
    go_enter Tryd.func129, Tryd.ntmps129
    go_wp2_with (go_at_call 128; refine (L1.out _).mono ?_; rintro e w' ⟨rfl, rfl⟩)
    go_ret
    exact ⟨rfl, rfl⟩
theorem known_any (k : Int) (w : World) (hk : -9223372036854775808 ≤ k ∧ k ≤ 9223372036854775807) :
    Calls Tryd.prog 108 #[.int .i64 k] w fun e w' => e = .returned (.bool (decide (1 ≤ k ∧ k ≤ 4))) ∧ w = w' := by
  by_cases h : 0 < k
  · have e1 : Hid (decide (k < 5) = decide (1 ≤ k ∧ k ≤ 4)) := Lib.hid (by congr 1; apply propext; omega)
    go_enter Tryd.func108, Tryd.ntmps108
    go_wp2
    go_ret
    exact ⟨Ser.ret_bool e1.out, rfl⟩
  · have e1 : Hid (false = decide (1 ≤ k ∧ k ≤ 4)) := Lib.hid (by symm; apply decide_eq_false; omega)
    go_enter Tryd.func108, Tryd.ntmps108
    go_wp2
    go_ret
    exact ⟨congrArg (fun b => Ending.returned (.bool b)) (by have := e1.out; rwa [Bool.decide_and] at this), rfl⟩
structure Box (w : World) (g : Nat) (k b : Int) : Prop where
  c0 : w.cell? ⟨g, 0, none⟩ = some (.int .i64 k)
  c1 : w.cell? ⟨g, 1, none⟩ = some (.int .u64 b)
  lt : g < w.heap.size
theorem box_new (w : World) (k b : Int) : Box (w.alloc (.cells #[.int .i64 k, .int .u64 b] 24)) w.heap.size k b :=
  ⟨(Blk.fresh w 24 #[.int .i64 k, .int .u64 b]).cell 0, (Blk.fresh w 24 #[.int .i64 k, .int .u64 b]).cell 1, by simp⟩
theorem Box.below {w w' : World} {g : Nat} {k b : Int} (h : Box w g k b) (hb : Below w.heap.size w w') : Box w' g k b :=
  ⟨(hb.cell (p := ⟨g, 0, none⟩) h.lt).trans h.c0, (hb.cell (p := ⟨g, 1, none⟩) h.lt).trans h.c1, Nat.lt_of_lt_of_le h.lt hb.size⟩
/-- Where the random part of a kind begins. -/
def atZ (k : Int) : Int := if k = 3 then 24 else 0
theorem atZ_bd (k : Int) : 0 ≤ atZ k ∧ atZ k ≤ 24 := by unfold atZ; split <;> omega
theorem part_at (k b : Int) : b % 70368744177664 / 2 ^ (atZ k).toNat = part k b := by
  unfold atZ part; split
  · rfl
  · show _ / 2 ^ 0 = _; omega
/-- The tables at the places of a kind. -/
structure At (w : World) (k : Int) : Prop where
  c : w.cell? ⟨0, k.toNat, none⟩ = some (.int .i64 (atZ k))
  p : w.cell? ⟨1, k.toNat, none⟩ = some (.int .u64 (pre k))
theorem Tab.at_ {w : World} (h : Tab w) (k : Int) (hk : 2 ≤ k ∧ k ≤ 4) : At w k := by
  have hk' : k = 2 ∨ k = 3 ∨ k = 4 := by omega
  rcases hk' with rfl | rfl | rfl
  · exact ⟨h.2.1 2 (by decide), h.2.2 2 (by decide)⟩
  · exact ⟨h.2.1 3 (by decide), h.2.2 3 (by decide)⟩
  · exact ⟨h.2.1 4 (by decide), h.2.2 4 (by decide)⟩
theorem pre_bd (k : Int) : 0 ≤ pre k ∧ pre k ≤ 3 := by unfold pre; split <;> (try split) <;> omega
theorem well_any (k b : Int) (w : World) (hk : 2 ≤ k ∧ k ≤ 4) (hb : 0 ≤ b ∧ b ≤ 281474976710655) (hT : Tab w) :
    Calls Tryd.prog 109 #[.agg #[.int .i64 k, .int .u64 b]] w fun e w' => e = .returned (.bool (wf k b)) ∧ Below w.heap.size w w' := by
  have hW0 := box_new w k b
  have hB : Below w.heap.size w (w.alloc (.cells #[.int .i64 k, .int .u64 b] 24)) := (Below.refl _ _).alloc (Nat.le_refl _) _
  have T1 := hT.below hB
  have A1 := T1.at_ k hk
  have L := low_toI b 46 (b % 70368744177664) (by omega) (by omega) (by rw [show Ser.p2 (46 : Int).toNat = 70368744177664 by decide])
  have bp := part_bd (k := k) hb.1
  have bm := most_bd k
  have bt := atZ_bd k
  have br := pre_bd k
  have hp := part_at k b
  obtain ⟨ℓ, hl⟩ : ∃ ℓ, lim (part k b) (most k) = ℓ := ⟨_, rfl⟩
  have Lm : Hid (∀ w, Tab w → Calls Tryd.prog 129 #[.int .u64 (b % 70368744177664 / 2 ^ (atZ k).toNat), .int .i64 k] w fun e w' => e = .returned (.int .u64 ℓ) ∧ w = w') := Lib.hid fun w hT => by
    rw [hp, ← hl]; exact limit_any _ _ w (by omega) hk hT
  have HW : Hid (wf k b = (decide (b / 70368744177664 = pre k) && decide (b % 70368744177664 / 2 ^ (atZ k).toNat = ℓ))) := Lib.hid (by rw [hp, ← hl]; rfl)
  have p0 := A1.p
  clear hl hp bp
  generalize hQ : pre k = Q at *
  clear hQ
  have hcase : b / 70368744177664 = Q ∨ ¬ b / 70368744177664 = Q := by omega
  go_enter Tryd.func109, Tryd.ntmps109
  go_wp2_with fail
  generalize w.alloc (.cells #[.int .i64 k, .int .u64 b] 24) = W at *
  have c0 : W.drew.cell? ⟨w.heap.size, 0, none⟩ = some (.int .i64 k) := hW0.c0
  have c1 : W.drew.cell? ⟨w.heap.size, 1, none⟩ = some (.int .u64 b) := hW0.c1
  have a0 : W.drew.cell? ⟨0, k.toNat, none⟩ = some (.int .i64 (atZ k)) := A1.c
  have g1 : (0 : Int) ≤ k := by omega
  have g2 : k < 5 := by omega
  generalize atZ k = t at *
  go_region_held3 (fun w' => w'.cell? ⟨w.heap.size, 0, none⟩ = some (.int .i64 k) ∧ w'.cell? ⟨w.heap.size, 1, none⟩ = some (.int .u64 b) ∧ w'.cell? ⟨0, k.toNat, none⟩ = some (.int .i64 t)) (exact ⟨c0, c1, a0⟩) (first
    | (go_at_call 128; refine (L.out _).mono ?_; rintro e w' ⟨rfl, rfl⟩))
  go_wp2_with fail
  have c0' : W.drew.drew.cell? ⟨w.heap.size, 0, none⟩ = some (.int .i64 k) := hW0.c0
  have c1' : W.drew.drew.cell? ⟨w.heap.size, 1, none⟩ = some (.int .u64 b) := hW0.c1
  have p0' : W.drew.drew.cell? ⟨1, k.toNat, none⟩ = some (.int .u64 Q) := p0
  have T2 : Tab W.drew.drew := T1
  have hB2 : Below w.heap.size w W.drew.drew := hB.drew.drew
  rcases hcase with h1 | h1
  · have hd : (b / 70368744177664 == Q) = true := by simpa using h1
    have HX : Hid (wf k b = (b % 70368744177664 / 2 ^ t.toNat == ℓ)) := Lib.hid (by rw [HW.out, decide_eq_true h1]; simp only [Bool.true_and]; exact (Bool.beq_eq_decide_eq ..).symm)
    go_region_held3 (fun w' => w'.cell? ⟨w.heap.size, 0, none⟩ = some (.int .i64 k) ∧ w'.cell? ⟨w.heap.size, 1, none⟩ = some (.int .u64 b) ∧ w'.cell? ⟨1, k.toNat, none⟩ = some (.int .u64 Q)) (exact ⟨c0', c1', p0'⟩) (first
      | (go_at_call 129; refine (Lm.out _ T2).mono ?_; rintro e w' ⟨rfl, rfl⟩))
    go_wp2_with fail
    go_ret
    exact ⟨Ser.ret_bool HX.out.symm, hB2⟩
  · have hd : (b / 70368744177664 == Q) = false := by simpa using h1
    have HX : Hid (wf k b = false) := Lib.hid (by rw [HW.out, decide_eq_false h1]; rfl)
    clear h1 Lm HW
    go_region
    go_wp2_with fail
    go_ret
    exact ⟨Ser.ret_bool HX.out.symm, hB2⟩
end Go.Proofs.YtcbliliinmfnjaaDoor.Adr

end
section
set_option linter.unusedVariables false
set_option linter.unusedSimpArgs false
namespace Go.Proofs.YtcbliliinmfnjaaDoor.Adr
open Go.RowKit Mem Oct Base

theorem check_any (k b : Int) (w : World) (hk : -9223372036854775808 ≤ k ∧ k ≤ 9223372036854775807) (hb : 0 ≤ b ∧ b ≤ 18446744073709551615) (hT : Tab w) :
    Calls Tryd.prog 87 #[.agg #[.int .i64 k, .int .u64 b]] w fun e w' => e = .returned (.int .i64 (chk k b)) ∧ Below w.heap.size w w' := by
  have hW0 := box_new w k b
  have hB : Below w.heap.size w (w.alloc (.cells #[.int .i64 k, .int .u64 b] 24)) := (Below.refl _ _).alloc (Nat.le_refl _) _
  have T1 := hT.below hB
  have c0 := hW0.c0
  have c1 := hW0.c1
  by_cases h1 : 1 ≤ k ∧ k ≤ 4
  · have hn : (decide (1 ≤ k ∧ k ≤ 4)) = true := decide_eq_true h1
    by_cases h2 : b < 281474976710656
    · have g2 : b / 281474976710656 = 0 := by omega
      by_cases h3 : k = 1
      · have HX := Lib.hid (chk_public h2)
        subst h3
        go_enter Tryd.func87, Tryd.ntmps87
        go_wp2_with (go_at_call 108; refine (known_any _ _ (by omega)).mono ?_; rw [hn]; rintro e w' ⟨rfl, rfl⟩)
        go_ret
        exact ⟨Ser.ret_int HX.out.symm, hB⟩
      · have g3 : (k != 1) = true := by simpa using h3
        have hw := well_any k b (w.alloc (.cells #[.int .i64 k, .int .u64 b] 24)) (by omega) (by omega) T1
        cases hf : wf k b with
        | true =>
          have HX := Lib.hid (chk_wf (by omega) h2 hf)
          rw [hf] at hw
          go_enter Tryd.func87, Tryd.ntmps87
          go_wp2_with (first
            | (go_at_call 108; refine (known_any _ _ (by omega)).mono ?_; rw [hn]; rintro e w' ⟨rfl, rfl⟩)
            | (go_at_call 109; refine hw.mono ?_; rintro e w' ⟨rfl, hb1⟩))
          go_ret
          exact ⟨Ser.ret_int HX.out.symm, thenB hB hb1⟩
        | false =>
          have HX := Lib.hid (chk_bad (by omega) h2 hf)
          rw [hf] at hw
          go_enter Tryd.func87, Tryd.ntmps87
          go_wp2_with (first
            | (go_at_call 108; refine (known_any _ _ (by omega)).mono ?_; rw [hn]; rintro e w' ⟨rfl, rfl⟩)
            | (go_at_call 109; refine hw.mono ?_; rintro e w' ⟨rfl, hb1⟩))
          go_ret
          exact ⟨Ser.ret_int HX.out.symm, thenB hB hb1⟩
    · have HX := Lib.hid (chk_range h1 (show 281474976710656 ≤ b by omega))
      have g2 : ¬ b / 281474976710656 = 0 := by omega
      go_enter Tryd.func87, Tryd.ntmps87
      go_wp2_with (go_at_call 108; refine (known_any _ _ (by omega)).mono ?_; rw [hn]; rintro e w' ⟨rfl, rfl⟩)
      go_ret
      exact ⟨Ser.ret_int HX.out.symm, hB⟩
  · have HX := Lib.hid (chk_kind (b := b) (show k < 1 ∨ 4 < k by omega))
    have hn : (decide (1 ≤ k ∧ k ≤ 4)) = false := decide_eq_false h1
    go_enter Tryd.func87, Tryd.ntmps87
    go_wp2_with (go_at_call 108; refine (known_any _ _ (by omega)).mono ?_; rw [hn]; rintro e w' ⟨rfl, rfl⟩)
    go_ret
    exact ⟨Ser.ret_int HX.out.symm, hB⟩
theorem rprefix_any (k : Int) (w : World) (hk : -9223372036854775808 ≤ k ∧ k ≤ 9223372036854775807) :
    Calls Tryd.prog 95 #[.int .i64 k] w fun e w' => e = .returned (.int .u64 (pre k)) ∧ w = w' := by
  by_cases h2 : k = 2
  · subst h2
    go_enter Tryd.func95, Tryd.ntmps95
    go_wp2
    go_ret
    exact ⟨rfl, rfl⟩
  · by_cases h3 : k = 3
    · subst h3
      go_enter Tryd.func95, Tryd.ntmps95
      go_wp2
      go_ret
      exact ⟨rfl, rfl⟩
    · have HX : Hid (pre k = 0) := Lib.hid (by unfold pre; rw [if_neg h2, if_neg h3])
      go_enter Tryd.func95, Tryd.ntmps95
      go_wp2
      go_ret
      exact ⟨Ser.ret_int HX.out.symm, rfl⟩
end Go.Proofs.YtcbliliinmfnjaaDoor.Adr

end
