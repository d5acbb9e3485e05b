/- Making an address of a number: contracts over the program. -/
import Derived.Test.YtkbjfmfkpdlogaaDoorAdrCheck
set_option linter.unusedVariables false
set_option linter.unusedSimpArgs false
namespace Go.Proofs.YtkbjfmfkpdlogaaDoor.Adr
open Go.RowKit Mem Oct Base

/-- What is known when two numbers are laid into a box. -/
theorem wrote {w W : World} {B g : Nat} {x y u v : Value} {t : TypeId} (hbel : Below B w W) (hg : B ≤ g) (F : Mem.Blk W g t #[u, v]) :
    W.cell? ⟨g, 0, none⟩ = some u ∧ W.cell? ⟨g, 1, none⟩ = some v ∧ W.frozen? ⟨g, 0, none⟩ = false ∧ W.frozen? ⟨g, 1, none⟩ = false ∧
    ((W.setCell ⟨g, 0, none⟩ x).setCell ⟨g, 1, none⟩ y).cell? ⟨g, 0, none⟩ = some x ∧ ((W.setCell ⟨g, 0, none⟩ x).setCell ⟨g, 1, none⟩ y).cell? ⟨g, 1, none⟩ = some y ∧
    Below B w ((W.setCell ⟨g, 0, none⟩ x).setCell ⟨g, 1, none⟩ y) := by
  have h0 : W.cell? ⟨g, 0, none⟩ = some u := F.cell 0
  have h1 : W.cell? ⟨g, 1, none⟩ = some v := F.cell 1
  have e0 : (W.setCell ⟨g, 0, none⟩ x).cell? ⟨g, 0, none⟩ = some x := World.cell?_setCell_same' _ _ _ (by rw [h0]; rfl)
  have e1 : (W.setCell ⟨g, 0, none⟩ x).cell? ⟨g, 1, none⟩ = some v := (World.cell?_setCell_other _ _ _ _ (by simp)).trans h1
  exact ⟨h0, h1, frozen_of_row W g 0 _ t F, frozen_of_row W g 1 _ t F, (World.cell?_setCell_other _ _ _ _ (by simp)).trans e0, World.cell?_setCell_same' _ _ _ (by rw [e1]; rfl),
    hbel.trans ((((Below.refl B W).setCell (p := ⟨g, 0, none⟩) hg _).setCell (p := ⟨g, 1, none⟩) hg _))⟩
theorem random_none (k b : Int) (w : World) (hk : -9223372036854775808 ≤ k ∧ k ≤ 9223372036854775807) (h : k < 1 ∨ 4 < k) :
    Calls Tryd.prog 17 #[.int .i64 k, .int .u64 b] w fun e w' => e = .returned (.agg #[.int .i64 0, .int .u64 0]) ∧ Below w.heap.size w w' := by
  have hn : (decide (1 ≤ k ∧ k ≤ 4)) = false := decide_eq_false (by omega)
  have hB : Below w.heap.size w (w.alloc (.cells #[.int .i64 0, .int .u64 0] 26)) := (Below.refl _ _).alloc (Nat.le_refl _) _
  go_enter Tryd.func17, Tryd.ntmps17
  go_wp2_with (go_at_call 40; refine (known_any _ _ (by omega)).mono ?_; rw [hn]; rintro e w' ⟨rfl, rfl⟩)
  refine bodyPost_ret (v := .agg #[.int .i64 0, .int .u64 0]) ?_ rfl ⟨rfl, (Below.refl _ _).alloc (Nat.le_refl _) _⟩
  simp [results, Tryd.f17, go_sem]
theorem random_public (b : Int) (w : World) (hb : 0 ≤ b ∧ b ≤ 18446744073709551615) :
    Calls Tryd.prog 17 #[.int .i64 1, .int .u64 b] w fun e w' => e = .returned (.agg #[.int .i64 1, .int .u64 (b % 281474976710656)]) ∧ Below w.heap.size w w' := by
  have L := low_toI b 48 (b % 281474976710656) hb (by omega) (by rw [show Ser.p2 (48 : Int).toNat = 281474976710656 by decide])
  have hB : Below w.heap.size w (w.alloc (.cells #[.int .i64 0, .int .u64 0] 26)) := (Below.refl _ _).alloc (Nat.le_refl _) _
  go_enter Tryd.func17, Tryd.ntmps17
  go_wp2_with (first
    | (go_at_call 40; refine (known_any _ _ (by omega)).mono ?_; rintro e w' ⟨rfl, rfl⟩)
    | (go_at_call 41; refine (L.out _).mono ?_; rintro e w' ⟨rfl, rfl⟩))
  refine bodyPost_ret (v := .agg #[.int .i64 1, .int .u64 (b % 281474976710656)]) ?_ rfl ⟨rfl, (Below.refl _ _).alloc (Nat.le_refl _) _⟩
  simp [results, Tryd.f17, go_sem]
/-- Joining lower bits to a number that has none. -/
theorem or_add (k : Nat) (x y : Int) (hx : 0 ≤ x) (hm : x + y ≤ 18446744073709551615) (hy : 0 ≤ y) (hy' : y < 2 ^ k) (hd : x % 2 ^ k = 0) : bits BinOp.or IntKind.u64 x y = x + y := by
  obtain ⟨m, rfl⟩ := Int.eq_ofNat_of_zero_le hx
  obtain ⟨n, rfl⟩ := Int.eq_ofNat_of_zero_le hy
  rw [u64_or _ _ (by omega) (by omega) (by omega) (by omega), Int.toNat_natCast, Int.toNat_natCast]
  have hn : n < 2 ^ k := by have : ((n : Nat) : Int) < ((2 ^ k : Nat) : Int) := by push_cast; exact hy'
                            omega
  have hd' : m % 2 ^ k = 0 := by
    have : ((m % 2 ^ k : Nat) : Int) = 0 := by push_cast; exact hd
    omega
  have h := Nat.div_add_mod m (2 ^ k)
  rw [hd', Nat.add_zero] at h
  have e := Nat.two_pow_add_eq_or_of_lt hn (m / 2 ^ k)
  rw [h] at e
  rw [← e]; simp
set_option maxHeartbeats 1000000 in
theorem random_two (b : Int) (w : World) (hb : 0 ≤ b ∧ b ≤ 18446744073709551615) (hT : Tab w) :
    Calls Tryd.prog 17 #[.int .i64 2, .int .u64 b] w fun e w' => e = .returned (.agg #[.int .i64 2, .int .u64 (mk 2 b)]) ∧ Below w.heap.size w w' := by
  have L1 := low_toI b 46 (b % 70368744177664) hb (by omega) (by rw [show Ser.p2 (46 : Int).toNat = 70368744177664 by decide])
  have L2 := low_toI b 0 (0) hb (by omega) (by rw [show Ser.p2 (0 : Int).toNat = 1 by decide]; omega)
  have hB : Below w.heap.size w (w.alloc (.cells #[.int .i64 0, .int .u64 0] 26)) := (Below.refl _ _).alloc (Nat.le_refl _) _
  have T1 := hT.below hB
  have A1 := T1.at_ 2 (by omega)
  have a0 : (w.alloc (.cells #[.int .i64 0, .int .u64 0] 26)).cell? ⟨0, 2, none⟩ = some (.int .i64 0) := A1.c
  have a1 : (w.alloc (.cells #[.int .i64 0, .int .u64 0] 26)).cell? ⟨1, 2, none⟩ = some (.int .u64 3) := A1.p
  have F := Blk.fresh w 26 #[.int .i64 0, .int .u64 0]
  have bR := fit_bd (n := b % 70368744177664) (g := 70368744177663) (by omega) (by omega) (by omega)
  have hm : mk 2 b = 3 * 70368744177664 + fit (b % 70368744177664) 70368744177663 := by simp only [mk, pre]; simp
  obtain ⟨R, hR⟩ : ∃ R, fit (b % 70368744177664) 70368744177663 = R := ⟨_, rfl⟩
  have hl : lim (b % 70368744177664) 70368744177663 = R := by rw [lim_fit (by omega) (by omega) (by omega), hR]
  have Lm : Hid (∀ w, Tab w → Calls Tryd.prog 42 #[.int .u64 (b % 70368744177664), .int .i64 2] w fun e w' => e = .returned (.int .u64 R) ∧ w = w') := Lib.hid fun w hT => by
    rw [← hl]; exact limit_any _ 2 w (by omega) (by omega) hT
  rw [hR] at bR hm
  obtain ⟨M, hM⟩ : ∃ M, mk 2 b = M := ⟨_, rfl⟩
  rw [hM] at hm ⊢
  have e1 : IntKind.u64.wrap 211106232532992 = 211106232532992 := by decide
  have e2 : IntKind.u64.wrap R = R := by rw [IntKind.wrap_u64]; omega
  have e3 : bits BinOp.or IntKind.u64 211106232532992 R = M := by rw [or_add 46 211106232532992 R (by omega) (by omega) (by omega) (by omega) (by decide)]; omega
  have e4 : bits BinOp.or IntKind.u64 M 0 = M := by rw [or_add 0 M 0 (by omega) (by omega) (by omega) (by decide) (by omega)]; omega
  clear hR hl hM hm
  go_enter Tryd.func17, Tryd.ntmps17
  go_wp2_with (first
    | (go_at_call 40; refine (known_any _ _ (by omega)).mono ?_; rintro e w' ⟨rfl, rfl⟩)
    | (go_at_call 42; refine (Lm.out _ T1).mono ?_; rintro e w' ⟨rfl, rfl⟩)
    | (go_at_call 41; refine (L1.out _).mono ?_; rintro e w' ⟨rfl, rfl⟩))
  generalize w.alloc (.cells #[.int .i64 0, .int .u64 0] 26) = W at *
  have a1' : W.drew.cell? ⟨1, 2, none⟩ = some (.int .u64 3) := a1
  obtain ⟨h0, h1, f0, f1, r0, r1, hB2⟩ := wrote (x := .int .i64 2) (y := .int .u64 M) hB (Nat.le_refl _) F
  have hg := F.lt
  have a2' : ((W.setCell ⟨w.heap.size, 0, none⟩ (.int .i64 2)).setCell ⟨w.heap.size, 1, none⟩ (.int .u64 M)).drew.cell? ⟨1, 2, none⟩ = some (.int .u64 3) := (hB2.drew.cell (p := ⟨1, 2, none⟩) (by show (1 : Nat) < w.heap.size; have := hT.1; omega)).trans (hT.at_ 2 (by omega)).p
  go_region_held3 (fun w' => w'.cell? ⟨1, 2, none⟩ = some (.int .u64 3)) (first | exact a1' | exact a2') (first
    | (go_at_call 41; refine (L2.out _).mono ?_; rintro e w' ⟨rfl, rfl⟩))
  go_wp2_with fail
  refine bodyPost_ret (v := .agg #[.int .i64 2, .int .u64 M]) ?_ rfl ⟨rfl, hB2.drew⟩
  simp [results, Tryd.f17, go_sem, r0, r1]
set_option maxHeartbeats 1000000 in
theorem random_four (b : Int) (w : World) (hb : 0 ≤ b ∧ b ≤ 18446744073709551615) (hT : Tab w) :
    Calls Tryd.prog 17 #[.int .i64 4, .int .u64 b] w fun e w' => e = .returned (.agg #[.int .i64 4, .int .u64 (mk 4 b)]) ∧ Below w.heap.size w w' := by
  have L1 := low_toI b 46 (b % 70368744177664) hb (by omega) (by rw [show Ser.p2 (46 : Int).toNat = 70368744177664 by decide])
  have L2 := low_toI b 0 (0) hb (by omega) (by rw [show Ser.p2 (0 : Int).toNat = 1 by decide]; omega)
  have hB : Below w.heap.size w (w.alloc (.cells #[.int .i64 0, .int .u64 0] 26)) := (Below.refl _ _).alloc (Nat.le_refl _) _
  have T1 := hT.below hB
  have A1 := T1.at_ 4 (by omega)
  have a0 : (w.alloc (.cells #[.int .i64 0, .int .u64 0] 26)).cell? ⟨0, 4, none⟩ = some (.int .i64 0) := A1.c
  have a1 : (w.alloc (.cells #[.int .i64 0, .int .u64 0] 26)).cell? ⟨1, 4, none⟩ = some (.int .u64 0) := A1.p
  have F := Blk.fresh w 26 #[.int .i64 0, .int .u64 0]
  have bR := fit_bd (n := b % 70368744177664) (g := 70368744177663) (by omega) (by omega) (by omega)
  have hm : mk 4 b = 0 * 70368744177664 + fit (b % 70368744177664) 70368744177663 := by simp only [mk, pre]; simp
  obtain ⟨R, hR⟩ : ∃ R, fit (b % 70368744177664) 70368744177663 = R := ⟨_, rfl⟩
  have hl : lim (b % 70368744177664) 70368744177663 = R := by rw [lim_fit (by omega) (by omega) (by omega), hR]
  have Lm : Hid (∀ w, Tab w → Calls Tryd.prog 42 #[.int .u64 (b % 70368744177664), .int .i64 4] w fun e w' => e = .returned (.int .u64 R) ∧ w = w') := Lib.hid fun w hT => by
    rw [← hl]; exact limit_any _ 4 w (by omega) (by omega) hT
  rw [hR] at bR hm
  obtain ⟨M, hM⟩ : ∃ M, mk 4 b = M := ⟨_, rfl⟩
  rw [hM] at hm ⊢
  have e1 : IntKind.u64.wrap 0 = 0 := by decide
  have e2 : IntKind.u64.wrap R = R := by rw [IntKind.wrap_u64]; omega
  have e3 : bits BinOp.or IntKind.u64 0 R = M := by rw [or_add 46 0 R (by omega) (by omega) (by omega) (by omega) (by decide)]; omega
  have e4 : bits BinOp.or IntKind.u64 M 0 = M := by rw [or_add 0 M 0 (by omega) (by omega) (by omega) (by decide) (by omega)]; omega
  clear hR hl hM hm
  go_enter Tryd.func17, Tryd.ntmps17
  go_wp2_with (first
    | (go_at_call 40; refine (known_any _ _ (by omega)).mono ?_; rintro e w' ⟨rfl, rfl⟩)
    | (go_at_call 42; refine (Lm.out _ T1).mono ?_; rintro e w' ⟨rfl, rfl⟩)
    | (go_at_call 41; refine (L1.out _).mono ?_; rintro e w' ⟨rfl, rfl⟩))
  generalize w.alloc (.cells #[.int .i64 0, .int .u64 0] 26) = W at *
  have a1' : W.drew.cell? ⟨1, 4, none⟩ = some (.int .u64 0) := a1
  obtain ⟨h0, h1, f0, f1, r0, r1, hB2⟩ := wrote (x := .int .i64 4) (y := .int .u64 M) hB (Nat.le_refl _) F
  have hg := F.lt
  have a2' : ((W.setCell ⟨w.heap.size, 0, none⟩ (.int .i64 4)).setCell ⟨w.heap.size, 1, none⟩ (.int .u64 M)).drew.cell? ⟨1, 4, none⟩ = some (.int .u64 0) := (hB2.drew.cell (p := ⟨1, 4, none⟩) (by show (1 : Nat) < w.heap.size; have := hT.1; omega)).trans (hT.at_ 4 (by omega)).p
  go_region_held3 (fun w' => w'.cell? ⟨1, 4, none⟩ = some (.int .u64 0)) (first | exact a1' | exact a2') (first
    | (go_at_call 41; refine (L2.out _).mono ?_; rintro e w' ⟨rfl, rfl⟩))
  go_wp2_with fail
  refine bodyPost_ret (v := .agg #[.int .i64 4, .int .u64 M]) ?_ rfl ⟨rfl, hB2.drew⟩
  simp [results, Tryd.f17, go_sem, r0, r1]
set_option maxHeartbeats 1000000 in
theorem random_three (b : Int) (w : World) (hb : 0 ≤ b ∧ b ≤ 18446744073709551615) (hT : Tab w) :
    Calls Tryd.prog 17 #[.int .i64 3, .int .u64 b] w fun e w' => e = .returned (.agg #[.int .i64 3, .int .u64 (mk 3 b)]) ∧ Below w.heap.size w w' := by
  have L1 := low_toI b 46 (b % 70368744177664) hb (by omega) (by rw [show Ser.p2 (46 : Int).toNat = 70368744177664 by decide])
  have L2 := low_toI b 24 (b % 16777216) hb (by omega) (by rw [show Ser.p2 (24 : Int).toNat = 16777216 by decide])
  have hB : Below w.heap.size w (w.alloc (.cells #[.int .i64 0, .int .u64 0] 26)) := (Below.refl _ _).alloc (Nat.le_refl _) _
  have T1 := hT.below hB
  have A1 := T1.at_ 3 (by omega)
  have a0 : (w.alloc (.cells #[.int .i64 0, .int .u64 0] 26)).cell? ⟨0, 3, none⟩ = some (.int .i64 24) := A1.c
  have a1 : (w.alloc (.cells #[.int .i64 0, .int .u64 0] 26)).cell? ⟨1, 3, none⟩ = some (.int .u64 1) := A1.p
  have F := Blk.fresh w 26 #[.int .i64 0, .int .u64 0]
  have bR := fit_bd (n := b % 70368744177664 / 16777216) (g := 4194303) (by omega) (by omega) (by omega)
  have hm : mk 3 b = 1 * 70368744177664 + fit (b % 70368744177664 / 16777216) 4194303 * 16777216 + b % 16777216 := by rw [show b % 70368744177664 / 16777216 = b / 16777216 % 4194304 by omega]; simp [mk]
  obtain ⟨R, hR⟩ : ∃ R, fit (b % 70368744177664 / 16777216) 4194303 = R := ⟨_, rfl⟩
  have hl : lim (b % 70368744177664 / 16777216) 4194303 = R := by rw [lim_fit (by omega) (by omega) (by omega), hR]
  have Lm : Hid (∀ w, Tab w → Calls Tryd.prog 42 #[.int .u64 (b % 70368744177664 / 16777216), .int .i64 3] w fun e w' => e = .returned (.int .u64 R) ∧ w = w') := Lib.hid fun w hT => by
    rw [← hl]; exact limit_any _ 3 w (by omega) (by omega) hT
  rw [hR] at bR hm
  obtain ⟨M, hM⟩ : ∃ M, mk 3 b = M := ⟨_, rfl⟩
  rw [hM] at hm ⊢
  have e1 : IntKind.u64.wrap 70368744177664 = 70368744177664 := by decide
  have e2 : IntKind.u64.wrap (R * 16777216) = R * 16777216 := by rw [IntKind.wrap_u64]; omega
  have e3 : bits BinOp.or IntKind.u64 70368744177664 (R * 16777216) = 70368744177664 + R * 16777216 := or_add 46 _ _ (by omega) (by omega) (by omega) (by omega) (by decide)
  have e4 : bits BinOp.or IntKind.u64 (70368744177664 + R * 16777216) (b % 16777216) = M := by rw [or_add 24 _ _ (by omega) (by omega) (by omega) (by omega) (by omega)]; omega
  clear hR hl hM hm
  go_enter Tryd.func17, Tryd.ntmps17
  go_wp2_with (first
    | (go_at_call 40; refine (known_any _ _ (by omega)).mono ?_; rintro e w' ⟨rfl, rfl⟩)
    | (go_at_call 42; refine (Lm.out _ T1).mono ?_; rintro e w' ⟨rfl, rfl⟩)
    | (go_at_call 41; refine (L1.out _).mono ?_; rintro e w' ⟨rfl, rfl⟩))
  generalize w.alloc (.cells #[.int .i64 0, .int .u64 0] 26) = W at *
  have a1' : W.drew.cell? ⟨1, 3, none⟩ = some (.int .u64 1) := a1
  obtain ⟨h0, h1, f0, f1, r0, r1, hB2⟩ := wrote (x := .int .i64 3) (y := .int .u64 M) hB (Nat.le_refl _) F
  have hg := F.lt
  have a2' : ((W.setCell ⟨w.heap.size, 0, none⟩ (.int .i64 3)).setCell ⟨w.heap.size, 1, none⟩ (.int .u64 M)).drew.cell? ⟨1, 3, none⟩ = some (.int .u64 1) := (hB2.drew.cell (p := ⟨1, 3, none⟩) (by show (1 : Nat) < w.heap.size; have := hT.1; omega)).trans (hT.at_ 3 (by omega)).p
  go_region_held3 (fun w' => w'.cell? ⟨1, 3, none⟩ = some (.int .u64 1)) (first | exact a1' | exact a2') (first
    | (go_at_call 41; refine (L2.out _).mono ?_; rintro e w' ⟨rfl, rfl⟩))
  go_wp2_with fail
  refine bodyPost_ret (v := .agg #[.int .i64 3, .int .u64 M]) ?_ rfl ⟨rfl, hB2.drew⟩
  simp [results, Tryd.f17, go_sem, r0, r1]
end Go.Proofs.YtkbjfmfkpdlogaaDoor.Adr
