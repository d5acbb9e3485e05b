/- What each function of the layer of the block function returns: contracts over the program. -/
import Derived.Test.YtegmknmbgifmjaaDoorProg
import Derived.WalkKit
import Derived.Lib.MinMax
import Derived.Lib.Hide
import Derived.BigQuiet
import Derived.Deep.QuietTactic
import Derived.WalkSpells
import Derived.Deep.RegionHeld3
import Derived.Test.YtegmknmbgifmjaaDoorBlkMath
set_option linter.unusedVariables false
set_option linter.unusedSimpArgs false
namespace Go.Proofs.YtegmknmbgifmjaaDoor.Blk
open Go.RowKit Mem Oct

theorem and63 (i : Int) : bits BinOp.and IntKind.u64 (IntKind.u64.wrap i) 63 = ((i % 64).toNat : Int) := by
  rw [IntKind.wrap_u64, u64_and _ _ (by omega) (by omega) (by decide) (by decide)]
  have e := Nat.and_two_pow_sub_one_eq_mod (i % 18446744073709551616).toNat 6
  rw [show (63 : Int).toNat = 2 ^ 6 - 1 by decide, e]
  omega
theorem and31 (i : Int) : bits BinOp.and IntKind.u64 (IntKind.u64.wrap i) 31 = ((i % 32).toNat : Int) := by
  rw [IntKind.wrap_u64, u64_and _ _ (by omega) (by omega) (by decide) (by decide)]
  have e := Nat.and_two_pow_sub_one_eq_mod (i % 18446744073709551616).toNat 5
  rw [show (31 : Int).toNat = 2 ^ 5 - 1 by decide, e]
  omega
theorem shl_code (b : Nat) (x : Int) (s : Nat) (hx : 0 ≤ x) : x * 2 ^ s % ((2 ^ b : Nat) : Int) = ((x.toNat * 2 ^ s % 2 ^ b : Nat) : Int) := by
  obtain ⟨n, rfl⟩ := Int.eq_ofNat_of_zero_le hx
  rw [Int.toNat_natCast]
  push_cast
  rfl
theorem shr_code (x : Int) (s : Nat) (hx : 0 ≤ x) : x / 2 ^ s = ((x.toNat / 2 ^ s : Nat) : Int) := by
  obtain ⟨n, rfl⟩ := Int.eq_ofNat_of_zero_le hx
  rw [Int.toNat_natCast]
  push_cast
  rfl
theorem rot64_code (x : Int) (s : Nat) (hx : 0 ≤ x ∧ x ≤ 18446744073709551615) : bits BinOp.or IntKind.u64 (IntKind.u64.wrap (x * 2 ^ s)) (x / 2 ^ (64 - s)) = rotZ 64 x s := by
  have h1 := shl_code 64 x s hx.1
  have h2 := shr_code x (64 - s) hx.1
  have h3 : x.toNat * 2 ^ s % 2 ^ 64 < 2 ^ 64 := Nat.mod_lt _ (Nat.two_pow_pos 64)
  have h4 : x.toNat / 2 ^ (64 - s) ≤ x.toNat := Nat.div_le_self _ _
  rw [IntKind.wrap_u64, h2, show (18446744073709551616 : Int) = ((2 ^ 64 : Nat) : Int) by decide, h1, u64_or _ _ (Int.natCast_nonneg _) (by omega) (Int.natCast_nonneg _) (by omega), Int.toNat_natCast, Int.toNat_natCast]
  rfl
theorem rot32_code (x : Int) (s : Nat) (hx : 0 ≤ x ∧ x ≤ 4294967295) : bits BinOp.or IntKind.u32 (IntKind.u32.wrap (x * 2 ^ s)) (x / 2 ^ (32 - s)) = rotZ 32 x s := by
  have h1 := shl_code 32 x s hx.1
  have h2 := shr_code x (32 - s) hx.1
  have h3 : x.toNat * 2 ^ s % 2 ^ 32 < 2 ^ 32 := Nat.mod_lt _ (Nat.two_pow_pos 32)
  have h4 : x.toNat / 2 ^ (32 - s) ≤ x.toNat := Nat.div_le_self _ _
  rw [IntKind.wrap_u32, h2, show (4294967296 : Int) = ((2 ^ 32 : Nat) : Int) by decide, h1, u32_or _ _ (Int.natCast_nonneg _) (by omega) (Int.natCast_nonneg _) (by omega), Int.toNat_natCast, Int.toNat_natCast]
  rfl
theorem low32_any (n : Int) (w : World) (h : 0 ≤ n ∧ n ≤ 18446744073709551615) :
    Calls Tryd.prog 62 #[.int .u64 n, .int .i64 32] w fun e w' => e = .returned (.int .u64 (loH n)) ∧ w = w' := by
  have H : Hid (bits BinOp.and IntKind.u64 n 4294967295 = loH n) := Lib.hid (by
    have := Ser.and_mask n 32 (by omega) h.1 h.2
    rw [show IntKind.u64.wrap (IntKind.u64.wrap (2 ^ 32) - 1) = 4294967295 by decide] at this
    rw [this, show Ser.p2 32 = 4294967296 by decide]; rfl)
  go_enter Tryd.func62, Tryd.ntmps62
  go_wp2
  go_ret
  exact ⟨Ser.ret_int H.out, rfl⟩
theorem rotl64_any (x i : Int) (w : World) (hx : 0 ≤ x ∧ x ≤ 18446744073709551615) (hi : -9223372036854775808 ≤ i ∧ i ≤ 9223372036854775807) :
    Calls Tryd.prog 66 #[.int .u64 x, .int .i64 i] w fun e w' => e = .returned (.int .u64 (rotZ 64 x (i % 64).toNat)) ∧ w = w' := by
  have H1 := and63 i
  obtain ⟨s, hs⟩ : ∃ s, (i % 64).toNat = s := ⟨_, rfl⟩
  have hs1 : s < 64 := by omega
  rw [hs] at H1 ⊢
  have H2 := Lib.hid (rot64_code x s hx)
  clear hs
  go_enter Tryd.func66, Tryd.ntmps66
  go_wp2
  go_ret
  exact ⟨Ser.ret_int H2.out, rfl⟩
theorem rotl64_to {x i R : Int} {t : Nat} (w : World) (hx : 0 ≤ x ∧ x ≤ 18446744073709551615) (hi : -9223372036854775808 ≤ i ∧ i ≤ 9223372036854775807) (ht : (i % 64).toNat = t) (hR : rotZ 64 x t = R) :
    Calls Tryd.prog 66 #[.int .u64 x, .int .i64 i] w fun e w' => e = .returned (.int .u64 R) ∧ w = w' := by
  rw [← hR, ← ht]; exact rotl64_any x i w hx hi
theorem rotl32_any (x i : Int) (w : World) (hx : 0 ≤ x ∧ x ≤ 4294967295) (hi : -9223372036854775808 ≤ i ∧ i ≤ 9223372036854775807) :
    Calls Tryd.prog 67 #[.int .u32 x, .int .i64 i] w fun e w' => e = .returned (.int .u32 (rotZ 32 x (i % 32).toNat)) ∧ w = w' := by
  have H1 := and31 i
  obtain ⟨s, hs⟩ : ∃ s, (i % 32).toNat = s := ⟨_, rfl⟩
  have hs1 : s < 32 := by omega
  rw [hs] at H1 ⊢
  have H2 := Lib.hid (rot32_code x s hx)
  clear hs
  go_enter Tryd.func67, Tryd.ntmps67
  go_wp2
  go_ret
  exact ⟨Ser.ret_int H2.out, rfl⟩
theorem rotl32_to {x i R : Int} {t : Nat} (w : World) (hx : 0 ≤ x ∧ x ≤ 4294967295) (hi : -9223372036854775808 ≤ i ∧ i ≤ 9223372036854775807) (ht : (i % 32).toNat = t) (hR : rotZ 32 x t = R) :
    Calls Tryd.prog 67 #[.int .u32 x, .int .i64 i] w fun e w' => e = .returned (.int .u32 R) ∧ w = w' := by
  rw [← hR, ← ht]; exact rotl32_any x i w hx hi
/-- Two halves, as the program has them. -/
def two (p : Int × Int) : Value := .agg #[.int .u32 p.1, .int .u32 p.2]
theorem two_mk (a b : Int) : Value.agg #[.int .u32 a, .int .u32 b] = two (a, b) := rfl
theorem wrap32_in (x : Int) (hx : 0 ≤ x ∧ x ≤ 4294967295) : IntKind.u32.wrap x = x := by rw [IntKind.wrap_u32]; omega
theorem halves_any (x : Int) (w : World) (hx : 0 ≤ x ∧ x ≤ 18446744073709551615) :
    Calls Tryd.prog 54 #[.int .u64 x] w fun e w' => e = .returned (.agg #[.int .u32 (hiH x), .int .u32 (loH x)]) ∧ Below w.heap.size w w' := by
  have b1 := hiH_bd x hx
  have b2 := loH_bd x
  have H1 : IntKind.u32.wrap (x / 4294967296) = hiH x := wrap32_in _ b1
  have H2 : IntKind.u32.wrap (loH x) = loH x := wrap32_in _ b2
  go_enter Tryd.func54, Tryd.ntmps54
  go_wp2_with (go_at_call 62; refine (low32_any _ _ (by omega)).mono ?_; rintro e w' ⟨rfl, rfl⟩)
  refine bodyPost_ret (v := .agg #[.int .u32 (hiH x), .int .u32 (loH x)]) ?_ rfl ⟨rfl, (Below.refl _ _).alloc (Nat.le_refl _) _⟩
  simp [results, Tryd.f54, go_sem]
theorem idx_lo (a b : Int) : ∀ w : World, (Instr.index 84 (.agg #[.int .u32 a, .int .u32 b]) (.int .i64 1)).run Tryd.prog w = .ok (.int .u32 b) w := fun _ => by kernel_rfl
theorem mul11 (i : Int) : (IntKind.i64.wrap (11 * i) % 64).toNat = trn i := by
  unfold trn; simp only [IntKind.wrap, IntKind.bits, IntKind.signed]; simp; split <;> omega
theorem wrap64_bd (i : Int) : -9223372036854775808 ≤ IntKind.i64.wrap i ∧ IntKind.i64.wrap i ≤ 9223372036854775807 := by
  simp only [IntKind.wrap, IntKind.bits, IntKind.signed]; simp; split <;> omega
theorem halves_to {x a b : Int} (w : World) (hx : 0 ≤ x ∧ x ≤ 18446744073709551615) (ha : hiH x = a) (hb : loH x = b) :
    Calls Tryd.prog 54 #[.int .u64 x] w fun e w' => e = .returned (.agg #[.int .u32 a, .int .u32 b]) ∧ Below w.heap.size w w' := by
  rw [← ha, ← hb]; exact halves_any x w hx
theorem round_any (k i h : Int) (w : World) (hk : 0 ≤ k ∧ k ≤ 18446744073709551615) (hi : -9223372036854775808 ≤ i ∧ i ≤ 9223372036854775807) (hh : 0 ≤ h ∧ h ≤ 4294967295) :
    Calls Tryd.prog 63 #[.int .u64 k, .int .i64 i, .int .u32 h] w fun e w' => e = .returned (.int .u32 (rnd k i h)) ∧ Below w.heap.size w w' := by
  have b1 := rot64_bd k (trn i) hk
  have b2 := lowK_bd k i
  have b3 := sumK_bd k i h
  have b4 := rot32_bd (sumK k i h) 7 b3
  have b5 := rot32_bd (lowK k i) 16 b2
  have bi := wrap64_bd (11 * i)
  obtain ⟨M, hM⟩ : ∃ M, IntKind.i64.wrap (11 * i) = M := ⟨_, rfl⟩
  have h1 : Hid ((M % 64).toNat = trn i) := Lib.hid (by rw [← hM]; exact mul11 i)
  obtain ⟨R, hR⟩ : ∃ R, rotZ 64 k (trn i) = R := ⟨_, rfl⟩
  have h2 : Hid (loH R = lowK k i) := Lib.hid (by rw [← hR]; rfl)
  have e3 : IntKind.u32.wrap (h + lowK k i) = sumK k i h := by rw [IntKind.wrap_u32]; rfl
  obtain ⟨T, hT⟩ : ∃ T, rotZ 32 (sumK k i h) 7 = T := ⟨_, rfl⟩
  obtain ⟨U, hU⟩ : ∃ U, rotZ 32 (lowK k i) 16 = U := ⟨_, rfl⟩
  obtain ⟨V, hV⟩ : ∃ V, T * 2654435761 % 4294967296 = V := ⟨_, rfl⟩
  have e4 : IntKind.u32.wrap (T * 2654435761) = V := by rw [IntKind.wrap_u32, hV]
  have bV : 0 ≤ V ∧ V ≤ 4294967295 := by omega
  rw [hR] at b1
  rw [hT] at b4
  rw [hU] at b5
  rw [hM] at bi
  have e5 := bx32_code V U bV b5
  have H : Hid (bx V U = rnd k i h) := Lib.hid (by rw [← hV, ← hU, ← hT]; rfl)
  obtain ⟨Q, hQ⟩ : ∃ Q, hiH R = Q := ⟨_, rfl⟩
  have ix := idx_lo Q (lowK k i)
  have HQ := Lib.hid hQ
  have HR := Lib.hid hR
  have HT := Lib.hid hT
  have HU := Lib.hid hU
  clear hR hT hU hV hQ
  generalize lowK k i = L at *
  generalize sumK k i h = S at *
  go_enter Tryd.func63, Tryd.ntmps63
  go_wp2_with (first
    | (go_at_call 66; refine (rotl64_to _ (by omega) (by omega) h1.out HR.out).mono ?_; rintro e w' ⟨rfl, rfl⟩)
    | (go_at_call 67; refine (rotl32_to (t := 7) _ (by omega) (by omega) (by decide) HT.out).mono ?_; clear HT; rintro e w' ⟨rfl, rfl⟩)
    | (go_at_call 67; refine (rotl32_to (t := 16) _ (by omega) (by omega) (by decide) HU.out).mono ?_; rintro e w' ⟨rfl, rfl⟩)
    | (go_at_call 54; refine (halves_to _ (by omega) HQ.out h2.out).mono ?_; rintro e w1 ⟨rfl, hb1⟩))
  go_ret
  exact ⟨Ser.ret_int H.out, hb1⟩
theorem frz {w : World} {g : Nat} {t : TypeId} {cs : Array Value} (h : Mem.Blk w g t cs) (i : Nat) : w.frozen? ⟨g, i, none⟩ = false := frozen_of_row w g i cs t h
/-- What is known when two numbers are laid into the second of two pairs. -/
theorem shut2 {w W w1 : World} {g : Nat} {a b c d x y : Int} {t : TypeId} (hbel : Below g w W) (hb1 : Below W.heap.size W w1) (F : Mem.Blk W g t #[.int .u32 a, .int .u32 b]) (G : Mem.Blk W (g + 1) t #[.int .u32 c, .int .u32 d]) :
    w1.cell? ⟨g, 0, none⟩ = some (.int .u32 a) ∧ w1.cell? ⟨g, 1, none⟩ = some (.int .u32 b) ∧ w1.cell? ⟨g + 1, 0, none⟩ = some (.int .u32 c) ∧ w1.cell? ⟨g + 1, 1, none⟩ = some (.int .u32 d) ∧
    w1.frozen? ⟨g + 1, 0, none⟩ = false ∧ w1.frozen? ⟨g + 1, 1, none⟩ = false ∧
    ((w1.setCell ⟨g + 1, 0, none⟩ (.int .u32 x)).setCell ⟨g + 1, 1, none⟩ (.int .u32 y)).cell? ⟨g, 0, none⟩ = some (.int .u32 a) ∧ ((w1.setCell ⟨g + 1, 0, none⟩ (.int .u32 x)).setCell ⟨g + 1, 1, none⟩ (.int .u32 y)).cell? ⟨g, 1, none⟩ = some (.int .u32 b) ∧
    ((w1.setCell ⟨g + 1, 0, none⟩ (.int .u32 x)).setCell ⟨g + 1, 1, none⟩ (.int .u32 y)).cell? ⟨g + 1, 0, none⟩ = some (.int .u32 x) ∧ ((w1.setCell ⟨g + 1, 0, none⟩ (.int .u32 x)).setCell ⟨g + 1, 1, none⟩ (.int .u32 y)).cell? ⟨g + 1, 1, none⟩ = some (.int .u32 y) ∧
    Below g w ((w1.setCell ⟨g + 1, 0, none⟩ (.int .u32 x)).setCell ⟨g + 1, 1, none⟩ (.int .u32 y)) := by
  have F1 := F.below hb1 F.lt
  have G1 := G.below hb1 G.lt
  have h0 : w1.cell? ⟨g, 0, none⟩ = some (.int .u32 a) := F1.cell 0
  have h1 : w1.cell? ⟨g, 1, none⟩ = some (.int .u32 b) := F1.cell 1
  have g0 : w1.cell? ⟨g + 1, 0, none⟩ = some (.int .u32 c) := G1.cell 0
  have g1 : w1.cell? ⟨g + 1, 1, none⟩ = some (.int .u32 d) := G1.cell 1
  have hB : Below (g + 1) w1 ((w1.setCell ⟨g + 1, 0, none⟩ (.int .u32 x)).setCell ⟨g + 1, 1, none⟩ (.int .u32 y)) := ((Below.refl (g + 1) w1).setCell (p := ⟨g + 1, 0, none⟩) (Nat.le_refl _) _).setCell (p := ⟨g + 1, 1, none⟩) (Nat.le_refl _) _
  have e0 : (w1.setCell ⟨g + 1, 0, none⟩ (.int .u32 x)).cell? ⟨g + 1, 0, none⟩ = some (.int .u32 x) := World.cell?_setCell_same' _ _ _ (by rw [g0]; rfl)
  have e1 : (w1.setCell ⟨g + 1, 0, none⟩ (.int .u32 x)).cell? ⟨g + 1, 1, none⟩ = some (.int .u32 d) := (World.cell?_setCell_other _ _ _ _ (by simp)).trans g1
  exact ⟨h0, h1, g0, g1, frz G1 0, frz G1 1, (hB.cell (p := ⟨g, 0, none⟩) (Nat.lt_succ_self g)).trans h0, (hB.cell (p := ⟨g, 1, none⟩) (Nat.lt_succ_self g)).trans h1,
    (World.cell?_setCell_other _ _ _ _ (by simp)).trans e0, World.cell?_setCell_same' _ _ _ (by rw [e1]; rfl), (hbel.trans (hb1.mono (Nat.le_of_lt F.lt))).trans (hB.mono (Nat.le_succ g))⟩
theorem forward_any (k i a b : Int) (w : World) (hk : 0 ≤ k ∧ k ≤ 18446744073709551615) (hi : -9223372036854775808 ≤ i ∧ i ≤ 9223372036854775807) (ha : 0 ≤ a ∧ a ≤ 4294967295) (hb : 0 ≤ b ∧ b ≤ 4294967295) :
    Calls Tryd.prog 55 #[.int .u64 k, .int .i64 i, .agg #[.int .u32 a, .int .u32 b]] w fun e w' => e = .returned (.agg #[.int .u32 b, .int .u32 (bx a (rnd k i b))]) ∧ Below w.heap.size w w' := by
  have b1 := rnd_bd k i b
  have e1 := bx32_code a (rnd k i b) ha b1
  have F0 : Mem.Blk ((w.alloc (.cells #[.int .u32 a, .int .u32 b] 84)).alloc (.cells #[.int .u32 0, .int .u32 0] 84)) w.heap.size 84 #[.int .u32 a, .int .u32 b] := (Blk.fresh w _ #[.int .u32 a, .int .u32 b]).alloc _
  have G0 : Mem.Blk ((w.alloc (.cells #[.int .u32 a, .int .u32 b] 84)).alloc (.cells #[.int .u32 0, .int .u32 0] 84)) (w.heap.size + 1) 84 #[.int .u32 0, .int .u32 0] := by
    have := Blk.fresh (w.alloc (.cells #[.int .u32 a, .int .u32 b] 84)) 84 #[.int .u32 0, .int .u32 0]
    rwa [World.size_alloc] at this
  have hbel : Below w.heap.size w ((w.alloc (.cells #[.int .u32 a, .int .u32 b] 84)).alloc (.cells #[.int .u32 0, .int .u32 0] 84)) := ((Below.refl _ w).alloc (Nat.le_refl _) _).alloc (by simp) _
  go_enter Tryd.func55, Tryd.ntmps55
  go_wp2_with fail
  generalize (w.alloc (.cells #[.int .u32 a, .int .u32 b] 84)).alloc (.cells #[.int .u32 0, .int .u32 0] 84) = W at *
  have F0 : Mem.Blk W.drew w.heap.size 84 #[.int .u32 a, .int .u32 b] := F0
  have G0 : Mem.Blk W.drew (w.heap.size + 1) 84 #[.int .u32 0, .int .u32 0] := G0
  have hbel := hbel.drew
  have f0 : W.drew.cell? ⟨w.heap.size, 0, none⟩ = some (.int .u32 a) := F0.cell 0
  have f1 : W.drew.cell? ⟨w.heap.size, 1, none⟩ = some (.int .u32 b) := F0.cell 1
  have hg := G0.lt
  go_region_held3 (fun w' => w'.cell? ⟨w.heap.size, 0, none⟩ = some (.int .u32 a) ∧ w'.cell? ⟨w.heap.size, 1, none⟩ = some (.int .u32 b)) (first | exact ⟨y0, y1⟩ | exact ⟨h0, h1⟩ | exact ⟨f0, f1⟩) (first
    | (go_at_call 63; refine (round_any _ _ _ _ (by omega) (by omega) (by omega)).mono ?_; rintro e w1 ⟨rfl, hb1⟩; obtain ⟨h0, h1, g0, g1, z0, z1, y0, y1, r0, r1, hb2⟩ := shut2 (x := b) (y := bx a (rnd k i b)) hbel hb1 F0 G0))
  go_wp2_with fail
  refine bodyPost_ret (v := .agg #[.int .u32 b, .int .u32 (bx a (rnd k i b))]) ?_ rfl ⟨rfl, hb2⟩
  simp [results, Tryd.f55, go_sem, r0, r1]
/-- A pair of numbers in memory that may be written. -/
structure Two (w : World) (g : Nat) (a b : Int) : Prop where
  c0 : w.cell? ⟨g, 0, none⟩ = some (.int .u32 a)
  c1 : w.cell? ⟨g, 1, none⟩ = some (.int .u32 b)
  z0 : w.frozen? ⟨g, 0, none⟩ = false
  z1 : w.frozen? ⟨g, 1, none⟩ = false
  lt : g < w.heap.size
theorem Two.blk {w : World} {g : Nat} {t : TypeId} {a b : Int} (h : Mem.Blk w g t #[.int .u32 a, .int .u32 b]) : Two w g a b := ⟨h.cell 0, h.cell 1, frz h 0, frz h 1, h.lt⟩
theorem Two.below {w w' : World} {g : Nat} {a b : Int} (h : Two w g a b) (hb : Below w.heap.size w w') : Two w' g a b :=
  ⟨(hb.cell (p := ⟨g, 0, none⟩) h.lt).trans h.c0, (hb.cell (p := ⟨g, 1, none⟩) h.lt).trans h.c1, (hb.frozen (p := ⟨g, 0, none⟩) h.lt).trans h.z0, (hb.frozen (p := ⟨g, 1, none⟩) h.lt).trans h.z1, Nat.lt_of_lt_of_le h.lt hb.size⟩
theorem Two.set {w : World} {g : Nat} {a b : Int} (h : Two w g a b) (x y : Int) : Two ((w.setCell ⟨g, 0, none⟩ (.int .u32 x)).setCell ⟨g, 1, none⟩ (.int .u32 y)) g x y := by
  have e0 : (w.setCell ⟨g, 0, none⟩ (.int .u32 x)).cell? ⟨g, 0, none⟩ = some (.int .u32 x) := World.cell?_setCell_same' _ _ _ (by rw [h.c0]; rfl)
  have e1 : (w.setCell ⟨g, 0, none⟩ (.int .u32 x)).cell? ⟨g, 1, none⟩ = some (.int .u32 b) := (World.cell?_setCell_other _ _ _ _ (by simp)).trans h.c1
  have hB : Below g w ((w.setCell ⟨g, 0, none⟩ (.int .u32 x)).setCell ⟨g, 1, none⟩ (.int .u32 y)) := ((Below.refl g w).setCell (p := ⟨g, 0, none⟩) (Nat.le_refl _) _).setCell (p := ⟨g, 1, none⟩) (Nat.le_refl _) _
  exact ⟨(World.cell?_setCell_other _ _ _ _ (by simp)).trans e0, World.cell?_setCell_same' _ _ _ (by rw [e1]; rfl), by rw [World.frozen?_setCell, World.frozen?_setCell]; exact h.z0, by rw [World.frozen?_setCell, World.frozen?_setCell]; exact h.z1, Nat.lt_of_lt_of_le h.lt hB.size⟩
theorem Two.put {w0 w : World} {B g : Nat} (h : Below B w0 w) (hg : B ≤ g) (x y : Int) : Below B w0 ((w.setCell ⟨g, 0, none⟩ (.int .u32 x)).setCell ⟨g, 1, none⟩ (.int .u32 y)) :=
  (h.setCell (p := ⟨g, 0, none⟩) hg _).setCell (p := ⟨g, 1, none⟩) hg _
theorem whole_any (a b : Int) (w : World) (ha : 0 ≤ a ∧ a ≤ 4294967295) (hb : 0 ≤ b ∧ b ≤ 4294967295) :
    Calls Tryd.prog 56 #[.agg #[.int .u32 a, .int .u32 b]] w fun e w' => e = .returned (.int .u64 (whl (a, b))) ∧ Below w.heap.size w w' := by
  go_enter Tryd.func56, Tryd.ntmps56
  go_wp2_with fail
  go_ret
  refine ⟨Ser.ret_int ?_, (Below.refl _ _).alloc (Nat.le_refl _) _⟩
  rw [u64_or _ _ (by omega) (by omega) (by omega) (by omega), nat_join 32 _ _ (by omega) (by omega)]
  show ((((a * 4294967296).toNat + b.toNat : Nat)) : Int) = a * 4294967296 + b
  omega
theorem mix_any (k x : Int) (w : World) (hk : 0 ≤ k ∧ k ≤ 18446744073709551615) (hx : 0 ≤ x ∧ x ≤ 18446744073709551615) :
    Calls Tryd.prog 49 #[.int .u64 k, .int .u64 x] w fun e w' => e = .returned (.int .u64 (mixZ k x)) ∧ Below w.heap.size w w' := by
  have hf : ∀ n : Nat, Half (fws k n (hlv x)) := fun n => fws_half k n (half_hlv x hx)
  have hs : ∀ n : Nat, fws k (n + 1) (hlv x) = fw k n (fws k n (hlv x)) := fun n => rfl
  have hz : fws k 0 (hlv x) = (hiH x, loH x) := rfl
  have hm : whl (fws k 8 (hlv x)) = mixZ k x := rfl
  have hiB := hiH_bd x hx
  have loB := loH_bd x
  generalize fws k = F at *
  have HF := Lib.hid hf
  have HS := Lib.hid hs
  have HZ := Lib.hid hz
  have HM := Lib.hid hm
  clear hf hs hz hm
  go_enter Tryd.func49, Tryd.ntmps49
  go_wp2_with (go_at_call 54; refine (halves_any _ _ (by omega)).mono ?_; rintro e w1 ⟨rfl, hb1⟩)
  have T0 : Two (w1.alloc (.cells #[.int .u32 (hiH x), .int .u32 (loH x)] 84)) w1.heap.size (hiH x) (loH x) := Two.blk (Blk.fresh w1 _ _)
  have hB0 := hb1.alloc hb1.size (.cells #[.int .u32 (hiH x), .int .u32 (loH x)] 84)
  generalize w1.alloc (.cells #[.int .u32 (hiH x), .int .u32 (loH x)] 84) = W at *
  have hg := hb1.size
  generalize w1.heap.size = g at *
  clear hb1
  go_loopw [9] (fun i wr => ∃ n : Nat, ∃ a b : Int, n ≤ 8 ∧ i = .int .i64 n ∧ F n (hlv x) = (a, b) ∧ Two wr g a b ∧ Below w.heap.size w wr) (fun i _ => 8 - (intOf i).toNat)
  case atStart => exact ⟨0, _, _, by omega, rfl, HZ.out, T0, hB0⟩
  case round =>
    obtain ⟨n, a, b, hn, rfl, hab, ht, hbel⟩ := hrel
    have hh := HF.out n
    rw [hab] at hh
    obtain ⟨ha, hb⟩ := hh
    simp only at ha hb
    have c0 := ht.c0
    have c1 := ht.c1
    have z0 := ht.z0
    have z1 := ht.z1
    by_cases hlt : n < 8
    · have HN : Hid (F (n + 1) (hlv x) = (b, bx a (rnd k n b))) := Lib.hid (by rw [HS.out, hab]; rfl)
      have HA := Lib.hid hab
      clear hab
      go_wp2_with (go_at_call 55; refine (forward_any _ _ _ _ _ (by omega) (by omega) (by omega) (by omega)).mono ?_; rintro e w2 ⟨rfl, hb2⟩; have T2 := ht.below hb2; have d0 := T2.c0; have d1 := T2.c1; have y0 := T2.z0; have y1 := T2.z1)
      go_roundw
      case rel => exact ⟨n + 1, _, _, by omega, by go_num, HN.out, T2.set _ _, Two.put (hbel.trans (hb2.mono hbel.size)) hg _ _⟩
      case measure => simp [intOf]; omega
    · obtain rfl : n = 8 := by omega
      have HW : Hid (whl (a, b) = mixZ k x) := Lib.hid (by rw [← hab]; exact HM.out)
      clear hab
      go_wp2_with (go_at_call 56; refine (whole_any _ _ _ (by omega) (by omega)).mono ?_; rintro e w2 ⟨rfl, hb2⟩)
      go_ret
      exact ⟨Ser.ret_int HW.out, hbel.trans (hb2.mono hbel.size)⟩
end Go.Proofs.YtegmknmbgifmjaaDoor.Blk
