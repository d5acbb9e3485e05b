/- What each function of the layer of the block function returns: contracts over the program. Plain facts on groups, tags, key streams and sealed bytes, over lists of integers. No program is mentioned. Groups and tags: what the program's functions return: contracts over the program. -/
import Derived.Test.YtcbliliinmfnjaaDoorProg
import Derived.WalkKit
import Derived.Lib.MinMax
import Derived.Lib.Hide
import Derived.BigQuiet
import Derived.Deep.QuietTactic
import Derived.WalkSpells
import Derived.Deep.RegionHeld3
import Derived.Test.YtcbliliinmfnjaaDoorKM9
import Derived.RangeFuncNested
import Derived.RangeFuncBound
import Derived.RangeFuncCalls
import Derived.RangeFuncLeaves
import Derived.RangeFuncBox
import Derived.Shelf.Abstract
import Derived.Shelf.RegionOpen
import Derived.OwnWalkIn
import Derived.TacticsInMore
import Derived.LoopNIn
import Derived.LoopIn
import Derived.Maps.AppendAt
section
set_option linter.unusedVariables false
set_option linter.unusedSimpArgs false
namespace Go.Proofs.YtcbliliinmfnjaaDoor.Blk
open Go.RowKit Mem Oct

theorem and63 (i : Int) : bits BinOp.and IntKind.u64 (IntKind.u64.wrap i) 63 = ((i % 64).toNat : Int) := by
  rw [IntKind.wrap_u64, u64_and _ _ (by omega) (by omega) (by decide) (by decide)]
  have e := Nat.and_two_pow_sub_one_eq_mod (i % 18446744073709551616).toNat 6
  rw [show (63 : Int).toNat = 2 ^ 6 - 1 by decide, e]
  omega
theorem and31 (i : Int) : bits BinOp.and IntKind.u64 (IntKind.u64.wrap i) 31 = ((i % 32).toNat : Int) := by
  rw [IntKind.wrap_u64, u64_and _ _ (by omega) (by omega) (by decide) (by decide)]
  have e := Nat.and_two_pow_sub_one_eq_mod (i % 18446744073709551616).toNat 5
  rw [show (31 : Int).toNat = 2 ^ 5 - 1 by decide, e]
  omega
theorem shl_code (b : Nat) (x : Int) (s : Nat) (hx : 0 ≤ x) : x * 2 ^ s % ((2 ^ b : Nat) : Int) = ((x.toNat * 2 ^ s % 2 ^ b : Nat) : Int) := by
  obtain ⟨n, rfl⟩ := Int.eq_ofNat_of_zero_le hx
  rw [Int.toNat_natCast]
  push_cast
  rfl
theorem shr_code (x : Int) (s : Nat) (hx : 0 ≤ x) : x / 2 ^ s = ((x.toNat / 2 ^ s : Nat) : Int) := by
  obtain ⟨n, rfl⟩ := Int.eq_ofNat_of_zero_le hx
  rw [Int.toNat_natCast]
  push_cast
  rfl
theorem rot64_code (x : Int) (s : Nat) (hx : 0 ≤ x ∧ x ≤ 18446744073709551615) : bits BinOp.or IntKind.u64 (IntKind.u64.wrap (x * 2 ^ s)) (x / 2 ^ (64 - s)) = rotZ 64 x s := by
  have h1 := shl_code 64 x s hx.1
  have h2 := shr_code x (64 - s) hx.1
  have h3 : x.toNat * 2 ^ s % 2 ^ 64 < 2 ^ 64 := Nat.mod_lt _ (Nat.two_pow_pos 64)
  have h4 : x.toNat / 2 ^ (64 - s) ≤ x.toNat := Nat.div_le_self _ _
  rw [IntKind.wrap_u64, h2, show (18446744073709551616 : Int) = ((2 ^ 64 : Nat) : Int) by decide, h1, u64_or _ _ (Int.natCast_nonneg _) (by omega) (Int.natCast_nonneg _) (by omega), Int.toNat_natCast, Int.toNat_natCast]
  rfl
theorem rot32_code (x : Int) (s : Nat) (hx : 0 ≤ x ∧ x ≤ 4294967295) : bits BinOp.or IntKind.u32 (IntKind.u32.wrap (x * 2 ^ s)) (x / 2 ^ (32 - s)) = rotZ 32 x s := by
  have h1 := shl_code 32 x s hx.1
  have h2 := shr_code x (32 - s) hx.1
  have h3 : x.toNat * 2 ^ s % 2 ^ 32 < 2 ^ 32 := Nat.mod_lt _ (Nat.two_pow_pos 32)
  have h4 : x.toNat / 2 ^ (32 - s) ≤ x.toNat := Nat.div_le_self _ _
  rw [IntKind.wrap_u32, h2, show (4294967296 : Int) = ((2 ^ 32 : Nat) : Int) by decide, h1, u32_or _ _ (Int.natCast_nonneg _) (by omega) (Int.natCast_nonneg _) (by omega), Int.toNat_natCast, Int.toNat_natCast]
  rfl
theorem low32_any (n : Int) (w : World) (h : 0 ≤ n ∧ n ≤ 18446744073709551615) :
    Calls Tryd.prog 137 #[.int .u64 n, .int .i64 32] w fun e w' => e = .returned (.int .u64 (loH n)) ∧ w = w' := by
  have H : Hid (bits BinOp.and IntKind.u64 n 4294967295 = loH n) := Lib.hid (by
    have := Ser.and_mask n 32 (by omega) h.1 h.2
    rw [show IntKind.u64.wrap (IntKind.u64.wrap (2 ^ 32) - 1) = 4294967295 by decide] at this
    rw [this, show Ser.p2 32 = 4294967296 by decide]; rfl)
  go_enter Tryd.func137, Tryd.ntmps137
  go_wp2
  go_ret
  exact ⟨Ser.ret_int H.out, rfl⟩
theorem rotl64_any (x i : Int) (w : World) (hx : 0 ≤ x ∧ x ≤ 18446744073709551615) (hi : -9223372036854775808 ≤ i ∧ i ≤ 9223372036854775807) :
    Calls Tryd.prog 145 #[.int .u64 x, .int .i64 i] w fun e w' => e = .returned (.int .u64 (rotZ 64 x (i % 64).toNat)) ∧ w = w' := by
  have H1 := and63 i
  obtain ⟨s, hs⟩ : ∃ s, (i % 64).toNat = s := ⟨_, rfl⟩
  have hs1 : s < 64 := by omega
  rw [hs] at H1 ⊢
  have H2 := Lib.hid (rot64_code x s hx)
  clear hs
  go_enter Tryd.func145, Tryd.ntmps145
  go_wp2
  go_ret
  exact ⟨Ser.ret_int H2.out, rfl⟩
theorem rotl64_to {x i R : Int} {t : Nat} (w : World) (hx : 0 ≤ x ∧ x ≤ 18446744073709551615) (hi : -9223372036854775808 ≤ i ∧ i ≤ 9223372036854775807) (ht : (i % 64).toNat = t) (hR : rotZ 64 x t = R) :
    Calls Tryd.prog 145 #[.int .u64 x, .int .i64 i] w fun e w' => e = .returned (.int .u64 R) ∧ w = w' := by
  rw [← hR, ← ht]; exact rotl64_any x i w hx hi
theorem rotl32_any (x i : Int) (w : World) (hx : 0 ≤ x ∧ x ≤ 4294967295) (hi : -9223372036854775808 ≤ i ∧ i ≤ 9223372036854775807) :
    Calls Tryd.prog 146 #[.int .u32 x, .int .i64 i] w fun e w' => e = .returned (.int .u32 (rotZ 32 x (i % 32).toNat)) ∧ w = w' := by
  have H1 := and31 i
  obtain ⟨s, hs⟩ : ∃ s, (i % 32).toNat = s := ⟨_, rfl⟩
  have hs1 : s < 32 := by omega
  rw [hs] at H1 ⊢
  have H2 := Lib.hid (rot32_code x s hx)
  clear hs
  go_enter Tryd.func146, Tryd.ntmps146
  go_wp2
  go_ret
  exact ⟨Ser.ret_int H2.out, rfl⟩
theorem rotl32_to {x i R : Int} {t : Nat} (w : World) (hx : 0 ≤ x ∧ x ≤ 4294967295) (hi : -9223372036854775808 ≤ i ∧ i ≤ 9223372036854775807) (ht : (i % 32).toNat = t) (hR : rotZ 32 x t = R) :
    Calls Tryd.prog 146 #[.int .u32 x, .int .i64 i] w fun e w' => e = .returned (.int .u32 R) ∧ w = w' := by
  rw [← hR, ← ht]; exact rotl32_any x i w hx hi
/-- Two halves, as the program has them. -/
def two (p : Int × Int) : Value := .agg #[.int .u32 p.1, .int .u32 p.2]
theorem wrap32_in (x : Int) (hx : 0 ≤ x ∧ x ≤ 4294967295) : IntKind.u32.wrap x = x := by rw [IntKind.wrap_u32]; omega
theorem halves_any (x : Int) (w : World) (hx : 0 ≤ x ∧ x ≤ 18446744073709551615) :
    Calls Tryd.prog 120 #[.int .u64 x] w fun e w' => e = .returned (.agg #[.int .u32 (hiH x), .int .u32 (loH x)]) ∧ Below w.heap.size w w' := by
  have b1 := hiH_bd x hx
  have b2 := loH_bd x
  have H1 : IntKind.u32.wrap (x / 4294967296) = hiH x := wrap32_in _ b1
  have H2 : IntKind.u32.wrap (loH x) = loH x := wrap32_in _ b2
  go_enter Tryd.func120, Tryd.ntmps120
  go_wp2_with (go_at_call 137; refine (low32_any _ _ (by omega)).mono ?_; rintro e w' ⟨rfl, rfl⟩)
  refine bodyPost_ret (v := .agg #[.int .u32 (hiH x), .int .u32 (loH x)]) ?_ rfl ⟨rfl, (Below.refl _ _).alloc (Nat.le_refl _) _⟩
  simp [results, Tryd.f120, go_sem]
theorem idx_lo (a b : Int) : ∀ w : World, (Instr.index 165 (.agg #[.int .u32 a, .int .u32 b]) (.int .i64 1)).run Tryd.prog w = .ok (.int .u32 b) w := fun _ => by kernel_rfl
theorem mul11 (i : Int) : (IntKind.i64.wrap (11 * i) % 64).toNat = trn i := by
  unfold trn; simp only [IntKind.wrap, IntKind.bits, IntKind.signed]; simp; split <;> omega
theorem wrap64_bd (i : Int) : -9223372036854775808 ≤ IntKind.i64.wrap i ∧ IntKind.i64.wrap i ≤ 9223372036854775807 := by
  simp only [IntKind.wrap, IntKind.bits, IntKind.signed]; simp; split <;> omega
theorem halves_to {x a b : Int} (w : World) (hx : 0 ≤ x ∧ x ≤ 18446744073709551615) (ha : hiH x = a) (hb : loH x = b) :
    Calls Tryd.prog 120 #[.int .u64 x] w fun e w' => e = .returned (.agg #[.int .u32 a, .int .u32 b]) ∧ Below w.heap.size w w' := by
  rw [← ha, ← hb]; exact halves_any x w hx
theorem round_any (k i h : Int) (w : World) (hk : 0 ≤ k ∧ k ≤ 18446744073709551615) (hi : -9223372036854775808 ≤ i ∧ i ≤ 9223372036854775807) (hh : 0 ≤ h ∧ h ≤ 4294967295) :
    Calls Tryd.prog 138 #[.int .u64 k, .int .i64 i, .int .u32 h] w fun e w' => e = .returned (.int .u32 (rnd k i h)) ∧ Below w.heap.size w w' := by
  have b1 := rot64_bd k (trn i) hk
  have b2 := lowK_bd k i
  have b3 := sumK_bd k i h
  have b4 := rot32_bd (sumK k i h) 7 b3
  have b5 := rot32_bd (lowK k i) 16 b2
  have bi := wrap64_bd (11 * i)
  obtain ⟨M, hM⟩ : ∃ M, IntKind.i64.wrap (11 * i) = M := ⟨_, rfl⟩
  have h1 : Hid ((M % 64).toNat = trn i) := Lib.hid (by rw [← hM]; exact mul11 i)
  obtain ⟨R, hR⟩ : ∃ R, rotZ 64 k (trn i) = R := ⟨_, rfl⟩
  have h2 : Hid (loH R = lowK k i) := Lib.hid (by rw [← hR]; rfl)
  have e3 : IntKind.u32.wrap (h + lowK k i) = sumK k i h := by rw [IntKind.wrap_u32]; rfl
  obtain ⟨T, hT⟩ : ∃ T, rotZ 32 (sumK k i h) 7 = T := ⟨_, rfl⟩
  obtain ⟨U, hU⟩ : ∃ U, rotZ 32 (lowK k i) 16 = U := ⟨_, rfl⟩
  obtain ⟨V, hV⟩ : ∃ V, T * 2654435761 % 4294967296 = V := ⟨_, rfl⟩
  have e4 : IntKind.u32.wrap (T * 2654435761) = V := by rw [IntKind.wrap_u32, hV]
  have bV : 0 ≤ V ∧ V ≤ 4294967295 := by omega
  rw [hR] at b1
  rw [hT] at b4
  rw [hU] at b5
  rw [hM] at bi
  have e5 := bx32_code V U bV b5
  have H : Hid (bx V U = rnd k i h) := Lib.hid (by rw [← hV, ← hU, ← hT]; rfl)
  obtain ⟨Q, hQ⟩ : ∃ Q, hiH R = Q := ⟨_, rfl⟩
  have ix := idx_lo Q (lowK k i)
  have HQ := Lib.hid hQ
  have HR := Lib.hid hR
  have HT := Lib.hid hT
  have HU := Lib.hid hU
  clear hR hT hU hV hQ
  generalize lowK k i = L at *
  generalize sumK k i h = S at *
  go_enter Tryd.func138, Tryd.ntmps138
  go_wp2_with (first
    | (go_at_call 145; refine (rotl64_to _ (by omega) (by omega) h1.out HR.out).mono ?_; rintro e w' ⟨rfl, rfl⟩)
    | (go_at_call 146; refine (rotl32_to (t := 7) _ (by omega) (by omega) (by decide) HT.out).mono ?_; clear HT; rintro e w' ⟨rfl, rfl⟩)
    | (go_at_call 146; refine (rotl32_to (t := 16) _ (by omega) (by omega) (by decide) HU.out).mono ?_; rintro e w' ⟨rfl, rfl⟩)
    | (go_at_call 120; refine (halves_to _ (by omega) HQ.out h2.out).mono ?_; rintro e w1 ⟨rfl, hb1⟩))
  go_ret
  exact ⟨Ser.ret_int H.out, hb1⟩
theorem frz {w : World} {g : Nat} {t : TypeId} {cs : Array Value} (h : Mem.Blk w g t cs) (i : Nat) : w.frozen? ⟨g, i, none⟩ = false := frozen_of_row w g i cs t h
/-- What is known when two numbers are laid into the second of two pairs. -/
theorem shut2 {w W w1 : World} {g : Nat} {a b c d x y : Int} {t : TypeId} (hbel : Below g w W) (hb1 : Below W.heap.size W w1) (F : Mem.Blk W g t #[.int .u32 a, .int .u32 b]) (G : Mem.Blk W (g + 1) t #[.int .u32 c, .int .u32 d]) :
    w1.cell? ⟨g, 0, none⟩ = some (.int .u32 a) ∧ w1.cell? ⟨g, 1, none⟩ = some (.int .u32 b) ∧ w1.cell? ⟨g + 1, 0, none⟩ = some (.int .u32 c) ∧ w1.cell? ⟨g + 1, 1, none⟩ = some (.int .u32 d) ∧
    w1.frozen? ⟨g + 1, 0, none⟩ = false ∧ w1.frozen? ⟨g + 1, 1, none⟩ = false ∧
    ((w1.setCell ⟨g + 1, 0, none⟩ (.int .u32 x)).setCell ⟨g + 1, 1, none⟩ (.int .u32 y)).cell? ⟨g, 0, none⟩ = some (.int .u32 a) ∧ ((w1.setCell ⟨g + 1, 0, none⟩ (.int .u32 x)).setCell ⟨g + 1, 1, none⟩ (.int .u32 y)).cell? ⟨g, 1, none⟩ = some (.int .u32 b) ∧
    ((w1.setCell ⟨g + 1, 0, none⟩ (.int .u32 x)).setCell ⟨g + 1, 1, none⟩ (.int .u32 y)).cell? ⟨g + 1, 0, none⟩ = some (.int .u32 x) ∧ ((w1.setCell ⟨g + 1, 0, none⟩ (.int .u32 x)).setCell ⟨g + 1, 1, none⟩ (.int .u32 y)).cell? ⟨g + 1, 1, none⟩ = some (.int .u32 y) ∧
    Below g w ((w1.setCell ⟨g + 1, 0, none⟩ (.int .u32 x)).setCell ⟨g + 1, 1, none⟩ (.int .u32 y)) := by
  have F1 := F.below hb1 F.lt
  have G1 := G.below hb1 G.lt
  have h0 : w1.cell? ⟨g, 0, none⟩ = some (.int .u32 a) := F1.cell 0
  have h1 : w1.cell? ⟨g, 1, none⟩ = some (.int .u32 b) := F1.cell 1
  have g0 : w1.cell? ⟨g + 1, 0, none⟩ = some (.int .u32 c) := G1.cell 0
  have g1 : w1.cell? ⟨g + 1, 1, none⟩ = some (.int .u32 d) := G1.cell 1
  have hB : Below (g + 1) w1 ((w1.setCell ⟨g + 1, 0, none⟩ (.int .u32 x)).setCell ⟨g + 1, 1, none⟩ (.int .u32 y)) := ((Below.refl (g + 1) w1).setCell (p := ⟨g + 1, 0, none⟩) (Nat.le_refl _) _).setCell (p := ⟨g + 1, 1, none⟩) (Nat.le_refl _) _
  have e0 : (w1.setCell ⟨g + 1, 0, none⟩ (.int .u32 x)).cell? ⟨g + 1, 0, none⟩ = some (.int .u32 x) := World.cell?_setCell_same' _ _ _ (by rw [g0]; rfl)
  have e1 : (w1.setCell ⟨g + 1, 0, none⟩ (.int .u32 x)).cell? ⟨g + 1, 1, none⟩ = some (.int .u32 d) := (World.cell?_setCell_other _ _ _ _ (by simp)).trans g1
  exact ⟨h0, h1, g0, g1, frz G1 0, frz G1 1, (hB.cell (p := ⟨g, 0, none⟩) (Nat.lt_succ_self g)).trans h0, (hB.cell (p := ⟨g, 1, none⟩) (Nat.lt_succ_self g)).trans h1,
    (World.cell?_setCell_other _ _ _ _ (by simp)).trans e0, World.cell?_setCell_same' _ _ _ (by rw [e1]; rfl), (hbel.trans (hb1.mono (Nat.le_of_lt F.lt))).trans (hB.mono (Nat.le_succ g))⟩
theorem forward_any (k i a b : Int) (w : World) (hk : 0 ≤ k ∧ k ≤ 18446744073709551615) (hi : -9223372036854775808 ≤ i ∧ i ≤ 9223372036854775807) (ha : 0 ≤ a ∧ a ≤ 4294967295) (hb : 0 ≤ b ∧ b ≤ 4294967295) :
    Calls Tryd.prog 121 #[.int .u64 k, .int .i64 i, .agg #[.int .u32 a, .int .u32 b]] w fun e w' => e = .returned (.agg #[.int .u32 b, .int .u32 (bx a (rnd k i b))]) ∧ Below w.heap.size w w' := by
  have b1 := rnd_bd k i b
  have e1 := bx32_code a (rnd k i b) ha b1
  have F0 : Mem.Blk ((w.alloc (.cells #[.int .u32 a, .int .u32 b] 165)).alloc (.cells #[.int .u32 0, .int .u32 0] 165)) w.heap.size 165 #[.int .u32 a, .int .u32 b] := (Blk.fresh w _ #[.int .u32 a, .int .u32 b]).alloc _
  have G0 : Mem.Blk ((w.alloc (.cells #[.int .u32 a, .int .u32 b] 165)).alloc (.cells #[.int .u32 0, .int .u32 0] 165)) (w.heap.size + 1) 165 #[.int .u32 0, .int .u32 0] := by
    have := Blk.fresh (w.alloc (.cells #[.int .u32 a, .int .u32 b] 165)) 165 #[.int .u32 0, .int .u32 0]
    rwa [World.size_alloc] at this
  have hbel : Below w.heap.size w ((w.alloc (.cells #[.int .u32 a, .int .u32 b] 165)).alloc (.cells #[.int .u32 0, .int .u32 0] 165)) := ((Below.refl _ w).alloc (Nat.le_refl _) _).alloc (by simp) _
  go_enter Tryd.func121, Tryd.ntmps121
  go_wp2_with fail
  generalize (w.alloc (.cells #[.int .u32 a, .int .u32 b] 165)).alloc (.cells #[.int .u32 0, .int .u32 0] 165) = W at *
  have F0 : Mem.Blk W.drew w.heap.size 165 #[.int .u32 a, .int .u32 b] := F0
  have G0 : Mem.Blk W.drew (w.heap.size + 1) 165 #[.int .u32 0, .int .u32 0] := G0
  have hbel := hbel.drew
  have f0 : W.drew.cell? ⟨w.heap.size, 0, none⟩ = some (.int .u32 a) := F0.cell 0
  have f1 : W.drew.cell? ⟨w.heap.size, 1, none⟩ = some (.int .u32 b) := F0.cell 1
  have hg := G0.lt
  go_region_held3 (fun w' => w'.cell? ⟨w.heap.size, 0, none⟩ = some (.int .u32 a) ∧ w'.cell? ⟨w.heap.size, 1, none⟩ = some (.int .u32 b)) (first | exact ⟨y0, y1⟩ | exact ⟨h0, h1⟩ | exact ⟨f0, f1⟩) (first
    | (go_at_call 138; refine (round_any _ _ _ _ (by omega) (by omega) (by omega)).mono ?_; rintro e w1 ⟨rfl, hb1⟩; obtain ⟨h0, h1, g0, g1, z0, z1, y0, y1, r0, r1, hb2⟩ := shut2 (x := b) (y := bx a (rnd k i b)) hbel hb1 F0 G0))
  go_wp2_with fail
  refine bodyPost_ret (v := .agg #[.int .u32 b, .int .u32 (bx a (rnd k i b))]) ?_ rfl ⟨rfl, hb2⟩
  simp [results, Tryd.f121, go_sem, r0, r1]
/-- A pair of numbers in memory that may be written. -/
structure Two (w : World) (g : Nat) (a b : Int) : Prop where
  c0 : w.cell? ⟨g, 0, none⟩ = some (.int .u32 a)
  c1 : w.cell? ⟨g, 1, none⟩ = some (.int .u32 b)
  z0 : w.frozen? ⟨g, 0, none⟩ = false
  z1 : w.frozen? ⟨g, 1, none⟩ = false
  lt : g < w.heap.size
theorem Two.blk {w : World} {g : Nat} {t : TypeId} {a b : Int} (h : Mem.Blk w g t #[.int .u32 a, .int .u32 b]) : Two w g a b := ⟨h.cell 0, h.cell 1, frz h 0, frz h 1, h.lt⟩
theorem Two.below {w w' : World} {g : Nat} {a b : Int} (h : Two w g a b) (hb : Below w.heap.size w w') : Two w' g a b :=
  ⟨(hb.cell (p := ⟨g, 0, none⟩) h.lt).trans h.c0, (hb.cell (p := ⟨g, 1, none⟩) h.lt).trans h.c1, (hb.frozen (p := ⟨g, 0, none⟩) h.lt).trans h.z0, (hb.frozen (p := ⟨g, 1, none⟩) h.lt).trans h.z1, Nat.lt_of_lt_of_le h.lt hb.size⟩
theorem Two.set {w : World} {g : Nat} {a b : Int} (h : Two w g a b) (x y : Int) : Two ((w.setCell ⟨g, 0, none⟩ (.int .u32 x)).setCell ⟨g, 1, none⟩ (.int .u32 y)) g x y := by
  have e0 : (w.setCell ⟨g, 0, none⟩ (.int .u32 x)).cell? ⟨g, 0, none⟩ = some (.int .u32 x) := World.cell?_setCell_same' _ _ _ (by rw [h.c0]; rfl)
  have e1 : (w.setCell ⟨g, 0, none⟩ (.int .u32 x)).cell? ⟨g, 1, none⟩ = some (.int .u32 b) := (World.cell?_setCell_other _ _ _ _ (by simp)).trans h.c1
  have hB : Below g w ((w.setCell ⟨g, 0, none⟩ (.int .u32 x)).setCell ⟨g, 1, none⟩ (.int .u32 y)) := ((Below.refl g w).setCell (p := ⟨g, 0, none⟩) (Nat.le_refl _) _).setCell (p := ⟨g, 1, none⟩) (Nat.le_refl _) _
  exact ⟨(World.cell?_setCell_other _ _ _ _ (by simp)).trans e0, World.cell?_setCell_same' _ _ _ (by rw [e1]; rfl), by rw [World.frozen?_setCell, World.frozen?_setCell]; exact h.z0, by rw [World.frozen?_setCell, World.frozen?_setCell]; exact h.z1, Nat.lt_of_lt_of_le h.lt hB.size⟩
theorem Two.put {w0 w : World} {B g : Nat} (h : Below B w0 w) (hg : B ≤ g) (x y : Int) : Below B w0 ((w.setCell ⟨g, 0, none⟩ (.int .u32 x)).setCell ⟨g, 1, none⟩ (.int .u32 y)) :=
  (h.setCell (p := ⟨g, 0, none⟩) hg _).setCell (p := ⟨g, 1, none⟩) hg _
theorem whole_any (a b : Int) (w : World) (ha : 0 ≤ a ∧ a ≤ 4294967295) (hb : 0 ≤ b ∧ b ≤ 4294967295) :
    Calls Tryd.prog 122 #[.agg #[.int .u32 a, .int .u32 b]] w fun e w' => e = .returned (.int .u64 (whl (a, b))) ∧ Below w.heap.size w w' := by
  go_enter Tryd.func122, Tryd.ntmps122
  go_wp2_with fail
  go_ret
  refine ⟨Ser.ret_int ?_, (Below.refl _ _).alloc (Nat.le_refl _) _⟩
  rw [u64_or _ _ (by omega) (by omega) (by omega) (by omega), nat_join 32 _ _ (by omega) (by omega)]
  show ((((a * 4294967296).toNat + b.toNat : Nat)) : Int) = a * 4294967296 + b
  omega
theorem mix_any (k x : Int) (w : World) (hk : 0 ≤ k ∧ k ≤ 18446744073709551615) (hx : 0 ≤ x ∧ x ≤ 18446744073709551615) :
    Calls Tryd.prog 103 #[.int .u64 k, .int .u64 x] w fun e w' => e = .returned (.int .u64 (mixZ k x)) ∧ Below w.heap.size w w' := by
  have hf : ∀ n : Nat, Half (fws k n (hlv x)) := fun n => fws_half k n (half_hlv x hx)
  have hs : ∀ n : Nat, fws k (n + 1) (hlv x) = fw k n (fws k n (hlv x)) := fun n => rfl
  have hz : fws k 0 (hlv x) = (hiH x, loH x) := rfl
  have hm : whl (fws k 8 (hlv x)) = mixZ k x := rfl
  have hiB := hiH_bd x hx
  have loB := loH_bd x
  generalize fws k = F at *
  have HF := Lib.hid hf
  have HS := Lib.hid hs
  have HZ := Lib.hid hz
  have HM := Lib.hid hm
  clear hf hs hz hm
  go_enter Tryd.func103, Tryd.ntmps103
  go_wp2_with (go_at_call 120; refine (halves_any _ _ (by omega)).mono ?_; rintro e w1 ⟨rfl, hb1⟩)
  have T0 : Two (w1.alloc (.cells #[.int .u32 (hiH x), .int .u32 (loH x)] 165)) w1.heap.size (hiH x) (loH x) := Two.blk (Blk.fresh w1 _ _)
  have hB0 := hb1.alloc hb1.size (.cells #[.int .u32 (hiH x), .int .u32 (loH x)] 165)
  generalize w1.alloc (.cells #[.int .u32 (hiH x), .int .u32 (loH x)] 165) = W at *
  have hg := hb1.size
  generalize w1.heap.size = g at *
  clear hb1
  go_loopw [9] (fun i wr => ∃ n : Nat, ∃ a b : Int, n ≤ 8 ∧ i = .int .i64 n ∧ F n (hlv x) = (a, b) ∧ Two wr g a b ∧ Below w.heap.size w wr) (fun i _ => 8 - (intOf i).toNat)
  case atStart => exact ⟨0, _, _, by omega, rfl, HZ.out, T0, hB0⟩
  case round =>
    obtain ⟨n, a, b, hn, rfl, hab, ht, hbel⟩ := hrel
    have hh := HF.out n
    rw [hab] at hh
    obtain ⟨ha, hb⟩ := hh
    simp only at ha hb
    have c0 := ht.c0
    have c1 := ht.c1
    have z0 := ht.z0
    have z1 := ht.z1
    by_cases hlt : n < 8
    · have HN : Hid (F (n + 1) (hlv x) = (b, bx a (rnd k n b))) := Lib.hid (by rw [HS.out, hab]; rfl)
      have HA := Lib.hid hab
      clear hab
      go_wp2_with (go_at_call 121; refine (forward_any _ _ _ _ _ (by omega) (by omega) (by omega) (by omega)).mono ?_; rintro e w2 ⟨rfl, hb2⟩; have T2 := ht.below hb2; have d0 := T2.c0; have d1 := T2.c1; have y0 := T2.z0; have y1 := T2.z1)
      go_roundw
      case rel => exact ⟨n + 1, _, _, by omega, by go_num, HN.out, T2.set _ _, Two.put (hbel.trans (hb2.mono hbel.size)) hg _ _⟩
      case measure => simp [intOf]; omega
    · obtain rfl : n = 8 := by omega
      have HW : Hid (whl (a, b) = mixZ k x) := Lib.hid (by rw [← hab]; exact HM.out)
      clear hab
      go_wp2_with (go_at_call 122; refine (whole_any _ _ _ (by omega) (by omega)).mono ?_; rintro e w2 ⟨rfl, hb2⟩)
      go_ret
      exact ⟨Ser.ret_int HW.out, hbel.trans (hb2.mono hbel.size)⟩
end Go.Proofs.YtcbliliinmfnjaaDoor.Blk

end
section
set_option linter.unusedVariables false
set_option linter.unusedSimpArgs false
namespace Go.Proofs.YtcbliliinmfnjaaDoor.Mac
open Mem Oct Blk

/-- A group as a number. -/
def grp (xs : List Int) (j : Nat) : Int := valL ((xs.drop (8 * j)).take 8)
/-- How many groups there are. -/
def ngr (n : Nat) : Nat := (n + 7) / 8
/-- The number that runs over the groups. -/
def tagA (k : Int) (xs : List Int) : Nat → Int
  | 0 => mixZ k xs.length
  | j + 1 => mixZ k (bx (tagA k xs j) (grp xs j))
def tagZ (k : Int) (xs : List Int) : Int := tagA k xs (ngr xs.length)
theorem take8_bytes {xs : List Int} (h : Bytes xs) (j : Nat) : Bytes ((xs.drop (8 * j)).take 8) := bytes_take (bytes_drop h _) _
theorem grp_bd {xs : List Int} (h : Bytes xs) (j : Nat) : 0 ≤ grp xs j ∧ grp xs j ≤ 18446744073709551615 := by
  have h1 := valL_bd (take8_bytes h j)
  have h2 := Ser.p2_mono (8 * ((xs.drop (8 * j)).take 8).length) 64 (by rw [List.length_take]; omega)
  rw [Ser.p2_64] at h2
  unfold grp; omega
theorem tagA_bd (k : Int) {xs : List Int} (h : Bytes xs) (hl : xs.length ≤ 140737488355328) (j : Nat) : 0 ≤ tagA k xs j ∧ tagA k xs j ≤ 18446744073709551615 := by
  induction j with
  | zero => exact mixZ_bd _ _ (by omega)
  | succ j ih => exact mixZ_bd _ _ (bx64 _ _ ih (grp_bd h j))
theorem tagZ_bd (k : Int) {xs : List Int} (h : Bytes xs) (hl : xs.length ≤ 140737488355328) : 0 ≤ tagZ k xs ∧ tagZ k xs ≤ 18446744073709551615 := tagA_bd k h hl _
end Go.Proofs.YtcbliliinmfnjaaDoor.Mac

end
section
set_option linter.unusedVariables false
set_option linter.unusedSimpArgs false
namespace Go.Proofs.YtcbliliinmfnjaaDoor.Mac
open Go.RowKit Go.Shelf Mem Oct Blk Base
attribute [local go_sem] Oper.semAt_some

/-- How long a slice is. -/
def slen : Value → Nat
  | .slice _ n _ => n
  | _ => 0
theorem mnumber_to {A : Option Addr} {n c : Nat} {v : Int} (xs : List Int) (w : World) (hx : xs.length = n) (bxs : Bytes xs) (hr : Ints .u8 w w.heap.size A xs) (hn : n ≤ 8) (hv : valL xs = v) :
    Calls Tryd.prog 124 #[.slice A n c] w fun e w' => e = .returned (.int .u64 v) ∧ w = w' := by
  rw [← hv]; exact mnumber_any A n c xs w hx bxs hr hn
theorem groups_any (A : Option Addr) (n c : Nat) (w : World) :
    Calls Tryd.prog 104 #[.slice A n c] w fun e w' => e = .returned (.func (.func 123) #[] #[.pointer (some ⟨w.heap.size, 0, none⟩)]) ∧ w' = w.alloc (.cells #[.slice A n c] 25) := by
  have hmf : ∀ (fn : Fn) (first cap : Array Value) (w : World), (Instr.makeFunc fn first cap).run Tryd.prog w = .ok (.func fn first cap) w := fun _ _ _ _ => rfl
  go_enter Tryd.func104, Tryd.ntmps104
  go_wp2
  go_ret
  exact ⟨rfl, rfl⟩
theorem groups1_in (n : Nat) (hn : 1 ≤ n) (l Bs n₀ : Nat) (A : Option Addr) (len cap : Nat) (xs : List Int) (hx : xs.length = len) (bxs : Bytes xs) (hcap : len ≤ cap) (hmax : cap ≤ 9223372036854775807) (hlen : len ≤ 140737488351232) (J Jx : List Nat → World → Prop)
    (hY : ∀ pre j W, J pre W → pre.length < ngr len → YieldAt Fence.wide (n - 1) Tryd.prog l #[.int .u64 (grp xs j)] W fun e W' =>
      (e = .returned (.bool true) ∧ J (pre ++ [j]) W' ∧ Below n₀ W W') ∨ (e = .returned (.bool false) ∧ Jx (pre ++ [j]) W'))
    (W : World) (hn₀ : n₀ ≤ W.heap.size) (hBs : W.cell? ⟨Bs, 0, none⟩ = some (.slice A len cap)) (hI : Ints .u8 W n₀ A xs) (h0 : J [] W) :
    CallsIn Fence.wide n Tryd.prog 123 #[.func (.yield l) #[] #[], .pointer (some ⟨Bs, 0, none⟩)] W fun e W' => (∃ v, e = .returned v) ∧
      ((∃ ys, ys = List.range (ngr len) ∧ J ys W') ∨ (∃ pre, True ∧ Jx pre W')) := by
  refine callsIn_of_wp Tryd.func123 rfl trivial ?_ rfl
  simp only [Tryd.ntmps123, List.size_toArray, List.length_cons, List.length_nil, Nat.reduceAdd, Nat.reduceSub, Array.replicate_succ, Array.replicate_zero, List.push_toArray, List.append_toArray, List.nil_append, List.cons_append]
  gi_wp2
  gi_loopw [3] (fun p wr => ∃ (j q : Nat) (A' : Option Addr) (c' : Nat), p = .slice A' q c' ∧ q = len - 8 * j ∧ q ≤ c' ∧ c' ≤ 9223372036854775807 ∧ j ≤ ngr len ∧ Ints .u8 wr n₀ A' (xs.drop (8 * j)) ∧ J (List.range j) wr ∧ Below n₀ W wr) (fun p _ => slen p)
  case atStart => exact ⟨0, len, A, cap, rfl, by omega, hcap, hmax, by unfold ngr; omega, hI, h0, Below.refl _ _⟩
  case round =>
    obtain ⟨j, q, A', c', rfl, hq, hqc, hc', hj, hi, hJs, hbel⟩ := hrel
    have HQ := Lib.hid hq
    have HD : Hid ((xs.drop (8 * j)).length = q) := Lib.hid (by rw [List.length_drop, hx, hq])
    have hwr : n₀ ≤ wr.heap.size := Nat.le_trans hn₀ hbel.size
    by_cases h0q : 0 < q
    · obtain ⟨s, hs⟩ : ∃ s : Nat, min 8 q = s := ⟨_, rfl⟩
      have hmin : min (8 : Int) (q : Int) = (s : Int) := by omega
      have hs1 : 1 ≤ s := by omega
      have hs8 : s ≤ 8 := by omega
      have hsq : s ≤ q := by omega
      have hjn : j + 1 ≤ ngr len := by unfold ngr; omega
      have HV : Hid (valL ((xs.drop (8 * j)).take s) = grp xs j) := Lib.hid (by
        unfold grp
        by_cases h8 : s = 8
        · rw [h8]
        · rw [List.take_of_length_le (by rw [HD.out]; omega), List.take_of_length_le (i := 8) (by rw [HD.out]; omega)])
      have HL : Hid (((xs.drop (8 * j)).take s).length = s) := Lib.hid (by rw [List.length_take, HD.out]; omega)
      have HE : Hid (xs.drop (8 * j + s) = xs.drop (8 * (j + 1)) ∧ q - s = len - 8 * (j + 1)) := Lib.hid (by
        by_cases h8 : s = 8
        · rw [h8]; exact ⟨by congr 1, by omega⟩
        · exact ⟨by rw [List.drop_of_length_le (by omega), List.drop_of_length_le (by omega)], by omega⟩)
      have hcut := hi.cut (c := c') (i := s) (by rw [HD.out]; exact hsq) (by rw [HD.out]; exact hqc)
      rw [List.drop_drop, HE.out.1] at hcut
      have g1 : (s : Int) ≤ (c' : Int) := by omega
      have g2 : (s : Int) ≤ (q : Int) := by omega
      obtain ⟨fn, tmps, assign, body, hy, hR⟩ := hY (List.range j) j wr hJs (by rw [List.length_range]; omega)
      clear hq hs
      gi_wp2_with (refine ⟨trivial, ?_⟩; gi_at_call 124; refine (callsIn_wide.2 (mnumber_to ((xs.drop (8 * j)).take s) _ HL.out (bytes_take (bytes_drop bxs _) _) (hi.pre.more hwr) hs8 HV.out)).mono ?_; rintro e w' ⟨rfl, rfl⟩)
      refine hR.mono ?_
      rintro e W3 (⟨rfl, hJ3, hk3⟩ | ⟨rfl, hJx3⟩)
      · gi_wp2
        go_roundw
        case rel => exact ⟨j + 1, _, _, _, rfl, HE.out.2, by omega, by omega, hjn, hcut.below hk3, by rw [List.range_succ]; exact hJ3, hbel.trans hk3⟩
        case measure => simp [slen]; omega
      · gi_wp2
        refine bodyPost_ret (results_none rfl _ _ _) rfl ?_
        exact ⟨⟨_, rfl⟩, .inr ⟨_, trivial, hJx3⟩⟩
    · have hjn : j = ngr len := by unfold ngr at *; omega
      have h0 : decide ((0 : Int) < (q : Int)) = false := by simp; omega
      clear hq
      gi_wp2
      go_end0
      exact ⟨⟨_, rfl⟩, .inl ⟨_, by rw [hjn], hJs⟩⟩
theorem groups_stops (n : Nat) (hn : 1 ≤ n) (Bs n₀ : Nat) (A : Option Addr) (len cap : Nat) (xs : List Int) (hx : xs.length = len) (bxs : Bytes xs) (hcap : len ≤ cap) (hmax : cap ≤ 9223372036854775807) (hlen : len ≤ 140737488351232) (w : World) (hBs : Bs < w.heap.size) (hn₀ : n₀ ≤ w.heap.size)
    (hc : w.cell? ⟨Bs, 0, none⟩ = some (.slice A len cap)) (hI : Ints .u8 w n₀ A xs) :
    SeqStopsK Fence.wide n Tryd.prog 123 #[.pointer (some ⟨Bs, 0, none⟩)] (fun j : Nat => #[Value.int .u64 (grp xs j)]) (Below n₀) (fun ys => ys = List.range (ngr len)) (fun _ => True) (ngr len) w := fun l J Jx W hW _ _ hY h0 =>
  groups1_in n hn l Bs n₀ A len cap xs hx bxs hcap hmax hlen J Jx hY W (Nat.le_trans hn₀ hW.size) ((hW.cell (p := ⟨Bs, 0, none⟩) hBs).trans hc) (hI.below (hW.mono hn₀)) h0
theorem grown_of {w w' : World} (h : Below w.heap.size w w') : w.grownBy w' none := ⟨h.os, h.tape, h.output, h.size, fun k hk _ => h.block k hk⟩
theorem boxed_below {W W' : World} {B : Nat} {t : TypeId} {v : Value} (h : Boxed W B t v) (hb : Below W.heap.size W W') : Boxed W' B t v := (hb.block B h.lt).trans h
theorem keeps_of {B : Nat} {W W' : World} (h : Below W.heap.size W W') : KeepsFrom B W W' := KeepsFrom.of_grownBy (grown_of h) (fun j e => by cases e)
/-- The number after some groups. -/
def tagF (k : Int) (xs : List Int) (pre : List Nat) : Int := pre.foldl (fun a j => mixZ k (bx a (grp xs j))) (mixZ k xs.length)
theorem tagF_snoc (k : Int) (xs : List Int) (pre : List Nat) (j : Nat) : tagF k xs (pre ++ [j]) = mixZ k (bx (tagF k xs pre) (grp xs j)) := by simp [tagF]
theorem tagF_range (k : Int) (xs : List Int) (n : Nat) : tagF k xs (List.range n) = tagA k xs n := by
  induction n with
  | zero => rfl
  | succ n ih => rw [List.range_succ, tagF_snoc, ih]; rfl
theorem tagF_bd (k : Int) {xs : List Int} (h : Bytes xs) (hl : xs.length ≤ 140737488355328) (pre : List Nat) : 0 ≤ tagF k xs pre ∧ tagF k xs pre ≤ 18446744073709551615 := by
  have go : ∀ (pre : List Nat) (a : Int), 0 ≤ a ∧ a ≤ 18446744073709551615 → 0 ≤ pre.foldl (fun a j => mixZ k (bx a (grp xs j))) a ∧ pre.foldl (fun a j => mixZ k (bx a (grp xs j))) a ≤ 18446744073709551615 := by
    intro pre
    induction pre with
    | nil => intro a ha; exact ha
    | cons j pre ih => intro a ha; exact ih _ (mixZ_bd _ _ (bx64 _ _ ha (grp_bd h j)))
  exact go pre _ (mixZ_bd _ _ (by omega))
set_option maxRecDepth 100000 in
set_option maxHeartbeats 2000000 in
theorem tag_any (k : Int) (A : Option Addr) (n c : Nat) (xs : List Int) (w : World) (hk : 0 ≤ k ∧ k ≤ 18446744073709551615) (hx : xs.length = n) (bxs : Bytes xs) (hnc : n ≤ c) (hc : c ≤ 9223372036854775807) (hn : n ≤ 140737488351232) (hI : Ints .u8 w w.heap.size A xs) :
    Calls Tryd.prog 80 #[.int .u64 k, .slice A n c] w fun e w' => e = .returned (.int .u64 (tagZ k xs)) ∧ Below w.heap.size w w' := by
  refine (callsIn_wide (n := 3)).1 ?_
  refine callsIn_of_wp_marks Tryd.func80 rfl trivial ?_ rfl
  simp only [Tryd.ntmps80, List.size_toArray, List.length_cons, List.length_nil, Nat.reduceAdd, Nat.reduceSub, Array.replicate_succ, Array.replicate_zero, List.push_toArray, List.append_toArray, List.nil_append, List.cons_append]
  gi_wp2_with (first
    | (refine ⟨trivial, ?_⟩; gi_at_call 103; refine (callsIn_wide.2 (mix_any k n _ hk (by omega))).mono ?_; rintro e w1 ⟨rfl, hb1⟩)
    | (refine ⟨trivial, ?_⟩; gi_at_call 104; refine (callsIn_wide.2 (groups_any _ _ _ _)).mono ?_; rintro e w2 ⟨rfl, rfl⟩))
  have bK0 := boxed_below (Boxed.new w 101 (.int .u64 k)) hb1
  have bX0 := Boxed.new w1 22 (.int .u64 (mixZ k n))
  have bB0 := Boxed.new (w1.alloc (.cells #[.int .u64 (mixZ k n)] 22)) 25 (.slice A n c)
  rw [World.size_alloc] at bB0
  have hs1 : w.heap.size + 1 ≤ w1.heap.size := by have := hb1.size; rwa [World.size_alloc] at this
  have hw1 : Below w.heap.size w w1 := ((Below.refl _ w).alloc (Nat.le_refl _) _).trans (hb1.mono (by simp))
  have hB0 : Below w.heap.size w ((w1.alloc (.cells #[.int .u64 (mixZ k n)] 22)).alloc (.cells #[.slice A n c] 25)) := (hw1.alloc (by omega) _).alloc (by simp; omega) _
  have hF := tagF_bd k bxs (by omega)
  have hG := grp_bd bxs
  refine wpIn_rangeFunc_ownG rfl (by omega) (gf := 123) (lb := #[.pointer (some ⟨w1.heap.size + 1, 0, none⟩)]) rfl trivial (enters_of Tryd.func123 (by kernel_rfl) rfl)
    (groups_stops (3 - 1) (by omega) (w1.heap.size + 1) w.heap.size A n c xs hx bxs hnc hc hn _ (by simp) (by simp; omega) bB0.cell (hI.below hB0)) belowK_t (belowK_b (by simp; omega)) (Below.refl _ _) (fun _ => rfl)
    (fun pre W => (Boxed W w.heap.size 101 (.int .u64 k) ∧ Boxed W w1.heap.size 22 (.int .u64 (tagF k xs pre))) ∧ Below w.heap.size w W)
    (fun _ _ _ => False)
    (OwnFrom.and (OwnFrom.and (Own.from (boxed_own _ _ _) _) (Own.from (boxed_own _ _ _) _)) (ownFrom_below (Nat.le_refl _) (by simp; omega)))
    (fun _ _ _ _ _ hs _ _ => hs)
    ⟨⟨(bK0.alloc _).alloc _, by rw [show tagF k xs [] = mixZ k n by rw [← hx]; rfl]; exact bX0.alloc _⟩, hB0⟩
    (fun j => { tmps := #[.int .u64 k, .slice A n c, .pointer (some ⟨w.heap.size, 0, none⟩), undef, .int .u64 0, .pointer (some ⟨w1.heap.size, 0, none⟩), .int .u64 (grp xs j), .int .u64 k, .slice A n c, .int .i64 n, .int .u64 n, .int .u64 (mixZ k n), .slice A n c, .func (.func 123) #[] #[.pointer (some ⟨w1.heap.size + 1, 0, none⟩)], .int .u64 (grp xs j), undef, undef, undef, undef, undef, undef], defers := [] }) ?assign ?body ?done ?stop
  case assign =>
    intro l x W K hK
    gi_wp2
    exact hK
  case body =>
    rintro l pre x W ⟨⟨bK, bX⟩, hB⟩ _
    have cK := bK.cell
    have cX := bX.cell
    have h1 := hF pre
    have h2 := hG x
    have e1 := bx64_code _ _ h1 h2
    have b1 := bx64 _ _ h1 h2
    have HS : Hid (tagF k xs (pre ++ [x]) = mixZ k (bx (tagF k xs pre) (grp xs x))) := Lib.hid (tagF_snoc k xs pre x)
    generalize tagF k xs pre = T at *
    generalize grp xs x = G at *
    generalize bx T G = M at *
    gi_wp2_with (refine ⟨trivial, ?_⟩; gi_at_call 103; refine (CallsIn.inRound l (callsIn_wide.2 (mix_any k M _ hk b1))).mono ?_; rintro e W1 ⟨rfl, hb2⟩; have bK1 := boxed_below bK hb2; have bX1 := boxed_below bX hb2; have cX1 := bX1.cell; have fX1 := bX1.frozen)
    have hKp : Below w.heap.size W W1 := hb2.mono hB.size
    exact ⟨(keeps_of hb2).trans ((KeepsOthers.setCell _ _ _).from _), hKp.setCell (p := ⟨w1.heap.size, 0, none⟩) (by show w.heap.size ≤ w1.heap.size; omega) _, ⟨bK1.other (by omega) _, by rw [HS.out]; exact bX1.set _⟩, (hB.trans hKp).setCell (p := ⟨w1.heap.size, 0, none⟩) (by show w.heap.size ≤ w1.heap.size; omega) _⟩
  case done =>
    rintro D ys W hD rfl ⟨⟨bK, bX⟩, hB⟩ hK
    rw [tagF_range] at bX
    have cX := bX.cell
    gi_wp2
    refine ⟨by simp, .inl ⟨_, _, rfl, run_takeDeferred hK, ?_⟩⟩
    exact ⟨_, results_tmp rfl _ _ _, by rw [← hx]; rfl, hB.trans (belowK_b (w := w) (Nat.le_refl _) W D _ _ (by simp at hD; omega) hK rfl rfl)⟩
  case stop =>
    rintro D c pre W _ _ h _
    exact h.elim
end Go.Proofs.YtcbliliinmfnjaaDoor.Mac

end
