/- The address of a period, the current address: what the functions and their specification return: contracts over the program. -/
import Derived.Test.YtkbjfmfkpdlogaaDoorPrvWalks
set_option linter.unusedVariables false
set_option linter.unusedSimpArgs false
namespace Go.Proofs.YtkbjfmfkpdlogaaDoor.Prv
open Go.RowKit Mem Oct Blk Base Mac

theorem at_any (irk e : Int) (w : World) (hk : 0 ≤ irk ∧ irk ≤ 18446744073709551615) (he : -9223372036854775808 ≤ e ∧ e ≤ 9223372036854775807) (hT : Adr.Tab w) :
    Calls Tryd.prog 30 #[.int .u64 irk, .int .i64 e] w fun e' w' => e' = .returned (.agg #[.int .i64 (mkK irk (prZ irk e)), .int .u64 (mkV irk (prZ irk e))]) ∧ Below w.heap.size w w' := by
  have bt := epoT_bd irk e
  have bp := prZ_bd irk e
  have hp : Hid (1 + epoT irk e % 4194302 = prZ irk e) := Lib.hid rfl
  have ew : IntKind.u64.wrap e = e % 18446744073709551616 := by rw [IntKind.wrap_u64]
  have be : 0 ≤ e % 18446744073709551616 ∧ e % 18446744073709551616 ≤ 18446744073709551615 := by omega
  have HD : Hid (∀ (w : World) (A : Option Addr), Ints .u64 w w.heap.size A [e % 18446744073709551616] → Calls Tryd.prog 50 #[.int .u64 irk, .string sEpo, .slice A 1 1] w fun e' w' => e' = .returned (.int .u64 (epoT irk e)) ∧ Below w.heap.size w w') :=
    Lib.hid fun w A hr => derive_any irk sEpo A 1 1 [e % 18446744073709551616] w hk (by decide) rfl (words1 be) hr (by decide)
  have HM : Hid (∀ w, Adr.Tab w → Calls Tryd.prog 21 #[.int .u64 irk, .int .u32 (prZ irk e)] w fun e' w' => e' = .returned (.tuple #[.agg #[.int .i64 (mkK irk (prZ irk e)), .int .u64 (mkV irk (prZ irk e))], .int .i64 (mkE irk (prZ irk e))]) ∧ Below w.heap.size w w') := Lib.hid fun w hT => make_any irk (prZ irk e) w hk (by omega) hT
  generalize mkK irk (prZ irk e) = K at *
  generalize mkV irk (prZ irk e) = V at *
  generalize mkE irk (prZ irk e) = C at *
  generalize e % 18446744073709551616 = I at *
  generalize epoT irk e = T at *
  generalize prZ irk e = p at *
  have e1 : T.tmod 4194302 = T % 4194302 := Int.tmod_eq_emod_of_nonneg bt.1
  have e2 : IntKind.u64.wrap (T % 4194302) = T % 4194302 := by rw [IntKind.wrap_u64]; omega
  have e3 : IntKind.u64.wrap (1 + T % 4194302) = p := by rw [IntKind.wrap_u64, ← hp.out]; omega
  have e4 : 1 + T % 4194302 = p := hp.out
  have e5 : IntKind.u32.wrap p = p := by rw [IntKind.wrap_u32]; omega
  have F := (Blk.fresh w 26 #[.int .i64 0, .int .u64 0]).alloc (.cells #[.int .u64 I] 24)
  have b0 : Below w.heap.size w ((w.alloc (.cells #[.int .i64 0, .int .u64 0] 26)).alloc (.cells #[.int .u64 I] 24)) := ((Below.refl _ _).alloc (Nat.le_refl _) _).alloc (by simp) _
  go_enter Tryd.func30, Tryd.ntmps30
  go_wp2_with fail
  have L := litg .u64 (w.alloc (.cells #[.int .i64 0, .int .u64 0] 26)) [I] #[.int .u64 I] 24 (w.heap.size + 1) (by simp) rfl
  refine (HD.out _ _ L).mono ?_
  clear L
  rintro e' w1 ⟨rfl, b1⟩
  have F1 := F.below b1 F.lt
  have B1 := thenB b0 b1
  have T1 := hT.below B1
  clear b1 b0 F
  go_wp2_with fail
  refine (HM.out _ T1).mono ?_
  rintro e' w2 ⟨rfl, b2⟩
  have F2 := F1.below b2 F1.lt
  have hl : w.heap.size < w2.heap.size := F2.lt
  have B2 := thenB B1 b2
  have G := Blk.fresh w2 26 #[.int .i64 K, .int .u64 V]
  have g0 := G.cell 0
  have g1 := G.cell 1
  obtain ⟨x0, x1, f0, f1, r0, r1, hB2⟩ := Adr.wrote2 (x := .int .i64 K) (y := .int .u64 V) B2 (Nat.le_refl _) F2
  have hs : w2.heap.size ≤ ((w2.setCell ⟨w.heap.size, 0, none⟩ (.int .i64 K)).setCell ⟨w.heap.size, 1, none⟩ (.int .u64 V)).heap.size := by simp
  have bz := (Below.refl w2.heap.size ((w2.setCell ⟨w.heap.size, 0, none⟩ (.int .i64 K)).setCell ⟨w.heap.size, 1, none⟩ (.int .u64 V))).alloc hs (.cells #[.int .i64 K, .int .u64 V] 26)
  have q0 := (bz.cell (p := ⟨w.heap.size, 0, none⟩) hl).trans r0
  have q1 := (bz.cell (p := ⟨w.heap.size, 1, none⟩) hl).trans r1
  have B4 := hB2.alloc (Nat.le_trans (Nat.le_of_lt hl) hs) (.cells #[.int .i64 K, .int .u64 V] 26)
  go_wp2_with fail
  refine bodyPost_ret (v := .agg #[.int .i64 K, .int .u64 V]) ?_ rfl ⟨rfl, B4⟩
  simp [results, Tryd.f30, go_sem, q0, q1]
theorem rat_any (irk e : Int) (w : World) (hk : 0 ≤ irk ∧ irk ≤ 18446744073709551615) (he : -9223372036854775808 ≤ e ∧ e ≤ 9223372036854775807) :
    Calls Tryd.prog 31 #[.int .u64 irk, .int .i64 e] w fun e' w' => e' = .returned (.agg #[.int .i64 (mkK irk (prZ irk e)), .int .u64 (mkV irk (prZ irk e))]) ∧ Below w.heap.size w w' := by
  have bt := epoT_bd irk e
  have bp := prZ_bd irk e
  have hp : Hid (1 + epoT irk e % 4194302 = prZ irk e) := Lib.hid rfl
  have ew : IntKind.u64.wrap e = e % 18446744073709551616 := by rw [IntKind.wrap_u64]
  have be : 0 ≤ e % 18446744073709551616 ∧ e % 18446744073709551616 ≤ 18446744073709551615 := by omega
  have HD : Hid (∀ (w : World) (A : Option Addr), Ints .u64 w w.heap.size A [e % 18446744073709551616] → Calls Tryd.prog 51 #[.int .u64 irk, .string sEpo, .slice A 1 1] w fun e' w' => e' = .returned (.int .u64 (epoT irk e)) ∧ Below w.heap.size w w') :=
    Lib.hid fun w A hr => rderive_any irk sEpo A 1 1 [e % 18446744073709551616] w hk (by decide) rfl (words1 be) hr (by decide)
  have HM : Hid (∀ w, Calls Tryd.prog 22 #[.int .u64 irk, .int .u32 (prZ irk e)] w fun e' w' => e' = .returned (.tuple #[.agg #[.int .i64 (mkK irk (prZ irk e)), .int .u64 (mkV irk (prZ irk e))], .int .i64 (mkE irk (prZ irk e))]) ∧ Below w.heap.size w w') := Lib.hid fun w => rmake_any irk (prZ irk e) w hk (by omega)
  generalize mkK irk (prZ irk e) = K at *
  generalize mkV irk (prZ irk e) = V at *
  generalize mkE irk (prZ irk e) = C at *
  generalize e % 18446744073709551616 = I at *
  generalize epoT irk e = T at *
  generalize prZ irk e = p at *
  have e1 : T.tmod 4194302 = T % 4194302 := Int.tmod_eq_emod_of_nonneg bt.1
  have e2 : IntKind.u64.wrap (T % 4194302) = T % 4194302 := by rw [IntKind.wrap_u64]; omega
  have e3 : IntKind.u64.wrap (1 + T % 4194302) = p := by rw [IntKind.wrap_u64, ← hp.out]; omega
  have e4 : 1 + T % 4194302 = p := hp.out
  have e5 : IntKind.u32.wrap p = p := by rw [IntKind.wrap_u32]; omega
  have F := (Blk.fresh w 26 #[.int .i64 0, .int .u64 0]).alloc (.cells #[.int .u64 I] 24)
  have b0 : Below w.heap.size w ((w.alloc (.cells #[.int .i64 0, .int .u64 0] 26)).alloc (.cells #[.int .u64 I] 24)) := ((Below.refl _ _).alloc (Nat.le_refl _) _).alloc (by simp) _
  go_enter Tryd.func31, Tryd.ntmps31
  go_wp2_with fail
  have L := litg .u64 (w.alloc (.cells #[.int .i64 0, .int .u64 0] 26)) [I] #[.int .u64 I] 24 (w.heap.size + 1) (by simp) rfl
  refine (HD.out _ _ L).mono ?_
  clear L
  rintro e' w1 ⟨rfl, b1⟩
  have F1 := F.below b1 F.lt
  have B1 := thenB b0 b1
  clear b1 b0 F
  go_wp2_with fail
  refine (HM.out _).mono ?_
  rintro e' w2 ⟨rfl, b2⟩
  have F2 := F1.below b2 F1.lt
  have hl : w.heap.size < w2.heap.size := F2.lt
  have B2 := thenB B1 b2
  have G := Blk.fresh w2 26 #[.int .i64 K, .int .u64 V]
  have g0 := G.cell 0
  have g1 := G.cell 1
  obtain ⟨x0, x1, f0, f1, r0, r1, hB2⟩ := Adr.wrote2 (x := .int .i64 K) (y := .int .u64 V) B2 (Nat.le_refl _) F2
  have hs : w2.heap.size ≤ ((w2.setCell ⟨w.heap.size, 0, none⟩ (.int .i64 K)).setCell ⟨w.heap.size, 1, none⟩ (.int .u64 V)).heap.size := by simp
  have bz := (Below.refl w2.heap.size ((w2.setCell ⟨w.heap.size, 0, none⟩ (.int .i64 K)).setCell ⟨w.heap.size, 1, none⟩ (.int .u64 V))).alloc hs (.cells #[.int .i64 K, .int .u64 V] 26)
  have q0 := (bz.cell (p := ⟨w.heap.size, 0, none⟩) hl).trans r0
  have q1 := (bz.cell (p := ⟨w.heap.size, 1, none⟩) hl).trans r1
  have B4 := hB2.alloc (Nat.le_trans (Nat.le_of_lt hl) hs) (.cells #[.int .i64 K, .int .u64 V] 26)
  go_wp2_with fail
  refine bodyPost_ret (v := .agg #[.int .i64 K, .int .u64 V]) ?_ rfl ⟨rfl, B4⟩
  simp [results, Tryd.f31, go_sem, q0, q1]
/-- The current address of an identity. -/
def curK (k irk l p : Int) (pv : Bool) : Int := if pv = true ∧ irk ≠ 0 then mkK irk (prZ irk (epZ l p)) else k
def curV (b irk l p : Int) (pv : Bool) : Int := if pv = true ∧ irk ≠ 0 then mkV irk (prZ irk (epZ l p)) else b
theorem cur_open (k b irk l p : Int) (w : World) (hk : -9223372036854775808 ≤ k ∧ k ≤ 9223372036854775807) (hb : 0 ≤ b ∧ b ≤ 18446744073709551615) (hi : 0 ≤ irk ∧ irk ≤ 18446744073709551615) (hl : -9223372036854775808 ≤ l ∧ l ≤ 9223372036854775807) (hp : -9223372036854775808 ≤ p ∧ p ≤ 9223372036854775807) :
    Calls Tryd.prog 32 #[.agg #[.int .i64 k, .int .u64 b, .int .u64 irk], .bool false, .int .i64 l, .int .i64 p] w fun e' w' => e' = .returned (.agg #[.int .i64 k, .int .u64 b]) ∧ Below w.heap.size w w' := by
  have A0 : Below w.heap.size w ((w.alloc (.cells #[.int .i64 k, .int .u64 b, .int .u64 irk] 49)).alloc (.cells #[.int .i64 0, .int .u64 0] 26)) := ((Below.refl _ _).alloc (Nat.le_refl _) _).alloc (by simp) _
  have F := (Blk.fresh w 49 #[.int .i64 k, .int .u64 b, .int .u64 irk]).alloc (.cells #[.int .i64 0, .int .u64 0] 26)
  have G : Mem.Blk ((w.alloc (.cells #[.int .i64 k, .int .u64 b, .int .u64 irk] 49)).alloc (.cells #[.int .i64 0, .int .u64 0] 26)) (w.heap.size + 1) 26 #[.int .i64 0, .int .u64 0] := by
    have := Blk.fresh (w.alloc (.cells #[.int .i64 k, .int .u64 b, .int .u64 irk] 49)) 26 #[.int .i64 0, .int .u64 0]
    rwa [World.size_alloc] at this
  have c0 := F.cell 0
  have c1 := F.cell 1
  have c2 := F.cell 2
  go_enter Tryd.func32, Tryd.ntmps32
  go_wp2_with fail
  refine bodyPost_ret (v := .agg #[.int .i64 k, .int .u64 b]) ?_ rfl ⟨rfl, ((Below.refl _ _).alloc (Nat.le_refl _) _).alloc (by simp) _⟩
  simp [results, Tryd.f32, go_sem]
theorem cur_zero (k b irk l p : Int) (w : World) (h0 : irk = 0) (hk : -9223372036854775808 ≤ k ∧ k ≤ 9223372036854775807) (hb : 0 ≤ b ∧ b ≤ 18446744073709551615) (hi : 0 ≤ irk ∧ irk ≤ 18446744073709551615) (hl : -9223372036854775808 ≤ l ∧ l ≤ 9223372036854775807) (hp : -9223372036854775808 ≤ p ∧ p ≤ 9223372036854775807) :
    Calls Tryd.prog 32 #[.agg #[.int .i64 k, .int .u64 b, .int .u64 irk], .bool true, .int .i64 l, .int .i64 p] w fun e' w' => e' = .returned (.agg #[.int .i64 k, .int .u64 b]) ∧ Below w.heap.size w w' := by
  subst h0
  have A0 : Below w.heap.size w ((w.alloc (.cells #[.int .i64 k, .int .u64 b, .int .u64 0] 49)).alloc (.cells #[.int .i64 0, .int .u64 0] 26)) := ((Below.refl _ _).alloc (Nat.le_refl _) _).alloc (by simp) _
  have F := (Blk.fresh w 49 #[.int .i64 k, .int .u64 b, .int .u64 0]).alloc (.cells #[.int .i64 0, .int .u64 0] 26)
  have G : Mem.Blk ((w.alloc (.cells #[.int .i64 k, .int .u64 b, .int .u64 0] 49)).alloc (.cells #[.int .i64 0, .int .u64 0] 26)) (w.heap.size + 1) 26 #[.int .i64 0, .int .u64 0] := by
    have := Blk.fresh (w.alloc (.cells #[.int .i64 k, .int .u64 b, .int .u64 0] 49)) 26 #[.int .i64 0, .int .u64 0]
    rwa [World.size_alloc] at this
  have c0 := F.cell 0
  have c1 := F.cell 1
  have c2 := F.cell 2
  go_enter Tryd.func32, Tryd.ntmps32
  go_wp2_with fail
  refine bodyPost_ret (v := .agg #[.int .i64 k, .int .u64 b]) ?_ rfl ⟨rfl, ((Below.refl _ _).alloc (Nat.le_refl _) _).alloc (by simp) _⟩
  simp [results, Tryd.f32, go_sem]
set_option maxHeartbeats 1000000 in
theorem cur_good (k b irk l p : Int) (w : World) (h0 : ¬ irk = 0) (hk : -9223372036854775808 ≤ k ∧ k ≤ 9223372036854775807) (hb : 0 ≤ b ∧ b ≤ 18446744073709551615) (hi : 0 ≤ irk ∧ irk ≤ 18446744073709551615) (hl : -9223372036854775808 ≤ l ∧ l ≤ 9223372036854775807) (hp : -9223372036854775808 ≤ p ∧ p ≤ 9223372036854775807) (hT : Adr.Tab w) :
    Calls Tryd.prog 32 #[.agg #[.int .i64 k, .int .u64 b, .int .u64 irk], .bool true, .int .i64 l, .int .i64 p] w fun e' w' => e' = .returned (.agg #[.int .i64 (mkK irk (prZ irk (epZ l p))), .int .u64 (mkV irk (prZ irk (epZ l p)))]) ∧ Below w.heap.size w w' := by
  have g0 : (irk != 0) = true := by simpa using h0
  have be := epZ_bd (p := p) hl
  have HE : Hid (∀ w, Calls Tryd.prog 28 #[.int .i64 l, .int .i64 p] w fun e w' => e = .returned (.int .i64 (epZ l p)) ∧ w = w') := Lib.hid fun w => epoch_any l p w hl hp
  have HA : Hid (∀ w, Adr.Tab w → Calls Tryd.prog 30 #[.int .u64 irk, .int .i64 (epZ l p)] w fun e w' => e = .returned (.agg #[.int .i64 (mkK irk (prZ irk (epZ l p))), .int .u64 (mkV irk (prZ irk (epZ l p)))]) ∧ Below w.heap.size w w') := Lib.hid fun w hT => at_any irk (epZ l p) w hi (by omega) hT
  generalize mkK irk (prZ irk (epZ l p)) = K at *
  generalize mkV irk (prZ irk (epZ l p)) = V at *
  generalize epZ l p = E at *
  have A0 : Below w.heap.size w ((w.alloc (.cells #[.int .i64 k, .int .u64 b, .int .u64 irk] 49)).alloc (.cells #[.int .i64 0, .int .u64 0] 26)) := ((Below.refl _ _).alloc (Nat.le_refl _) _).alloc (by simp) _
  have F := (Blk.fresh w 49 #[.int .i64 k, .int .u64 b, .int .u64 irk]).alloc (.cells #[.int .i64 0, .int .u64 0] 26)
  have G : Mem.Blk ((w.alloc (.cells #[.int .i64 k, .int .u64 b, .int .u64 irk] 49)).alloc (.cells #[.int .i64 0, .int .u64 0] 26)) (w.heap.size + 1) 26 #[.int .i64 0, .int .u64 0] := by
    have := Blk.fresh (w.alloc (.cells #[.int .i64 k, .int .u64 b, .int .u64 irk] 49)) 26 #[.int .i64 0, .int .u64 0]
    rwa [World.size_alloc] at this
  have c0 := F.cell 0
  have c1 := F.cell 1
  have c2 := F.cell 2
  have T0 := hT.below A0
  go_enter Tryd.func32, Tryd.ntmps32
  go_wp2_with fail
  clear c0 c1
  generalize (w.alloc (.cells #[.int .i64 k, .int .u64 b, .int .u64 irk] 49)).alloc (.cells #[.int .i64 0, .int .u64 0] 26) = W at *
  have s0 : W.drew.cell? ⟨w.heap.size, 2, none⟩ = some (.int .u64 irk) := c2
  have A1 : Below w.heap.size w W.drew := A0.drew
  have T1 : Adr.Tab W.drew := T0
  have G1 : Mem.Blk W.drew (w.heap.size + 1) 26 #[.int .i64 0, .int .u64 0] := G
  go_region_held3 (fun w' => w'.cell? ⟨w.heap.size, 2, none⟩ = some (.int .u64 irk)) (first | exact s0 | exact s1 | exact s2) (first
    | (go_at_call 28; refine (HE.out _).mono ?_; rintro e w' ⟨rfl, rfl⟩)
    | (go_at_call 30; refine (HA.out _ T1).mono ?_; rintro e w2 ⟨rfl, b2⟩; have s1 := (b2.cell (p := ⟨w.heap.size, 2, none⟩) F.lt).trans s0; have G2 := G1.below b2 G1.lt; obtain ⟨x0, x1, f0, f1, r0, r1, hB2⟩ := Adr.wrote2 (x := .int .i64 K) (y := .int .u64 V) (thenB A1 b2) (show w.heap.size ≤ w.heap.size + 1 by omega) G2; have hg := G2.lt; have hq := (((Below.refl (w.heap.size + 1) w2).setCell (p := ⟨w.heap.size + 1, 0, none⟩) (Nat.le_refl _) (.int .i64 K)).setCell (p := ⟨w.heap.size + 1, 1, none⟩) (Nat.le_refl _) (.int .u64 V)); have s2 := (hq.cell (p := ⟨w.heap.size, 2, none⟩) (Nat.lt_succ_self _)).trans s1))
  all_goals go_wp2_with fail
  all_goals refine bodyPost_ret (v := .agg #[.int .i64 K, .int .u64 V]) ?_ rfl ⟨rfl, hB2⟩
  all_goals simp [results, Tryd.f32, go_sem, r0, r1]
theorem current_any (k b irk l p : Int) (pv : Bool) (w : World) (hk : -9223372036854775808 ≤ k ∧ k ≤ 9223372036854775807) (hb : 0 ≤ b ∧ b ≤ 18446744073709551615) (hi : 0 ≤ irk ∧ irk ≤ 18446744073709551615) (hl : -9223372036854775808 ≤ l ∧ l ≤ 9223372036854775807) (hp : -9223372036854775808 ≤ p ∧ p ≤ 9223372036854775807) (hT : Adr.Tab w) :
    Calls Tryd.prog 32 #[.agg #[.int .i64 k, .int .u64 b, .int .u64 irk], .bool pv, .int .i64 l, .int .i64 p] w fun e' w' => e' = .returned (.agg #[.int .i64 (curK k irk l p pv), .int .u64 (curV b irk l p pv)]) ∧ Below w.heap.size w w' := by
  cases pv with
  | false => exact cur_open k b irk l p w hk hb hi hl hp
  | true =>
    by_cases h0 : irk = 0
    · have := cur_zero k b irk l p w h0 hk hb hi hl hp
      unfold curK curV
      rw [if_neg (by simp [h0]), if_neg (by simp [h0])]
      exact this
    · unfold curK curV
      rw [if_pos ⟨rfl, h0⟩, if_pos ⟨rfl, h0⟩]
      exact cur_good k b irk l p w h0 hk hb hi hl hp hT
theorem rcur_open (k b irk l p : Int) (w : World) (hk : -9223372036854775808 ≤ k ∧ k ≤ 9223372036854775807) (hb : 0 ≤ b ∧ b ≤ 18446744073709551615) (hi : 0 ≤ irk ∧ irk ≤ 18446744073709551615) (hl : -9223372036854775808 ≤ l ∧ l ≤ 9223372036854775807) (hp : -9223372036854775808 ≤ p ∧ p ≤ 9223372036854775807) :
    Calls Tryd.prog 33 #[.agg #[.int .i64 k, .int .u64 b, .int .u64 irk], .bool false, .int .i64 l, .int .i64 p] w fun e' w' => e' = .returned (.agg #[.int .i64 k, .int .u64 b]) ∧ Below w.heap.size w w' := by
  have A0 : Below w.heap.size w ((w.alloc (.cells #[.int .i64 k, .int .u64 b, .int .u64 irk] 49)).alloc (.cells #[.int .i64 0, .int .u64 0] 26)) := ((Below.refl _ _).alloc (Nat.le_refl _) _).alloc (by simp) _
  have F := (Blk.fresh w 49 #[.int .i64 k, .int .u64 b, .int .u64 irk]).alloc (.cells #[.int .i64 0, .int .u64 0] 26)
  have G : Mem.Blk ((w.alloc (.cells #[.int .i64 k, .int .u64 b, .int .u64 irk] 49)).alloc (.cells #[.int .i64 0, .int .u64 0] 26)) (w.heap.size + 1) 26 #[.int .i64 0, .int .u64 0] := by
    have := Blk.fresh (w.alloc (.cells #[.int .i64 k, .int .u64 b, .int .u64 irk] 49)) 26 #[.int .i64 0, .int .u64 0]
    rwa [World.size_alloc] at this
  have c0 := F.cell 0
  have c1 := F.cell 1
  have c2 := F.cell 2
  go_enter Tryd.func33, Tryd.ntmps33
  go_wp2_with fail
  refine bodyPost_ret (v := .agg #[.int .i64 k, .int .u64 b]) ?_ rfl ⟨rfl, ((Below.refl _ _).alloc (Nat.le_refl _) _).alloc (by simp) _⟩
  simp [results, Tryd.f33, go_sem]
theorem rcur_zero (k b irk l p : Int) (w : World) (h0 : irk = 0) (hk : -9223372036854775808 ≤ k ∧ k ≤ 9223372036854775807) (hb : 0 ≤ b ∧ b ≤ 18446744073709551615) (hi : 0 ≤ irk ∧ irk ≤ 18446744073709551615) (hl : -9223372036854775808 ≤ l ∧ l ≤ 9223372036854775807) (hp : -9223372036854775808 ≤ p ∧ p ≤ 9223372036854775807) :
    Calls Tryd.prog 33 #[.agg #[.int .i64 k, .int .u64 b, .int .u64 irk], .bool true, .int .i64 l, .int .i64 p] w fun e' w' => e' = .returned (.agg #[.int .i64 k, .int .u64 b]) ∧ Below w.heap.size w w' := by
  subst h0
  have A0 : Below w.heap.size w ((w.alloc (.cells #[.int .i64 k, .int .u64 b, .int .u64 0] 49)).alloc (.cells #[.int .i64 0, .int .u64 0] 26)) := ((Below.refl _ _).alloc (Nat.le_refl _) _).alloc (by simp) _
  have F := (Blk.fresh w 49 #[.int .i64 k, .int .u64 b, .int .u64 0]).alloc (.cells #[.int .i64 0, .int .u64 0] 26)
  have G : Mem.Blk ((w.alloc (.cells #[.int .i64 k, .int .u64 b, .int .u64 0] 49)).alloc (.cells #[.int .i64 0, .int .u64 0] 26)) (w.heap.size + 1) 26 #[.int .i64 0, .int .u64 0] := by
    have := Blk.fresh (w.alloc (.cells #[.int .i64 k, .int .u64 b, .int .u64 0] 49)) 26 #[.int .i64 0, .int .u64 0]
    rwa [World.size_alloc] at this
  have c0 := F.cell 0
  have c1 := F.cell 1
  have c2 := F.cell 2
  go_enter Tryd.func33, Tryd.ntmps33
  go_wp2_with fail
  refine bodyPost_ret (v := .agg #[.int .i64 k, .int .u64 b]) ?_ rfl ⟨rfl, ((Below.refl _ _).alloc (Nat.le_refl _) _).alloc (by simp) _⟩
  simp [results, Tryd.f33, go_sem]
set_option maxHeartbeats 1000000 in
theorem rcur_good (k b irk l p : Int) (w : World) (h0 : ¬ irk = 0) (hk : -9223372036854775808 ≤ k ∧ k ≤ 9223372036854775807) (hb : 0 ≤ b ∧ b ≤ 18446744073709551615) (hi : 0 ≤ irk ∧ irk ≤ 18446744073709551615) (hl : -9223372036854775808 ≤ l ∧ l ≤ 9223372036854775807) (hp : -9223372036854775808 ≤ p ∧ p ≤ 9223372036854775807) :
    Calls Tryd.prog 33 #[.agg #[.int .i64 k, .int .u64 b, .int .u64 irk], .bool true, .int .i64 l, .int .i64 p] w fun e' w' => e' = .returned (.agg #[.int .i64 (mkK irk (prZ irk (epZ l p))), .int .u64 (mkV irk (prZ irk (epZ l p)))]) ∧ Below w.heap.size w w' := by
  have g0 : (irk != 0) = true := by simpa using h0
  have be := epZ_bd (p := p) hl
  have HE : Hid (∀ w, Calls Tryd.prog 29 #[.int .i64 l, .int .i64 p] w fun e w' => e = .returned (.int .i64 (epZ l p)) ∧ w = w') := Lib.hid fun w => repoch_any l p w hl hp
  have HA : Hid (∀ w, Calls Tryd.prog 31 #[.int .u64 irk, .int .i64 (epZ l p)] w fun e w' => e = .returned (.agg #[.int .i64 (mkK irk (prZ irk (epZ l p))), .int .u64 (mkV irk (prZ irk (epZ l p)))]) ∧ Below w.heap.size w w') := Lib.hid fun w => rat_any irk (epZ l p) w hi (by omega)
  generalize mkK irk (prZ irk (epZ l p)) = K at *
  generalize mkV irk (prZ irk (epZ l p)) = V at *
  generalize epZ l p = E at *
  have A0 : Below w.heap.size w ((w.alloc (.cells #[.int .i64 k, .int .u64 b, .int .u64 irk] 49)).alloc (.cells #[.int .i64 0, .int .u64 0] 26)) := ((Below.refl _ _).alloc (Nat.le_refl _) _).alloc (by simp) _
  have F := (Blk.fresh w 49 #[.int .i64 k, .int .u64 b, .int .u64 irk]).alloc (.cells #[.int .i64 0, .int .u64 0] 26)
  have G : Mem.Blk ((w.alloc (.cells #[.int .i64 k, .int .u64 b, .int .u64 irk] 49)).alloc (.cells #[.int .i64 0, .int .u64 0] 26)) (w.heap.size + 1) 26 #[.int .i64 0, .int .u64 0] := by
    have := Blk.fresh (w.alloc (.cells #[.int .i64 k, .int .u64 b, .int .u64 irk] 49)) 26 #[.int .i64 0, .int .u64 0]
    rwa [World.size_alloc] at this
  have c0 := F.cell 0
  have c1 := F.cell 1
  have c2 := F.cell 2
  go_enter Tryd.func33, Tryd.ntmps33
  go_wp2_with fail
  clear c0 c1
  generalize (w.alloc (.cells #[.int .i64 k, .int .u64 b, .int .u64 irk] 49)).alloc (.cells #[.int .i64 0, .int .u64 0] 26) = W at *
  have s0 : W.drew.cell? ⟨w.heap.size, 2, none⟩ = some (.int .u64 irk) := c2
  have A1 : Below w.heap.size w W.drew := A0.drew
  have G1 : Mem.Blk W.drew (w.heap.size + 1) 26 #[.int .i64 0, .int .u64 0] := G
  go_region_held3 (fun w' => w'.cell? ⟨w.heap.size, 2, none⟩ = some (.int .u64 irk)) (first | exact s0 | exact s1 | exact s2) (first
    | (go_at_call 29; refine (HE.out _).mono ?_; rintro e w' ⟨rfl, rfl⟩)
    | (go_at_call 31; refine (HA.out _).mono ?_; rintro e w2 ⟨rfl, b2⟩; have s1 := (b2.cell (p := ⟨w.heap.size, 2, none⟩) F.lt).trans s0; have G2 := G1.below b2 G1.lt; obtain ⟨x0, x1, f0, f1, r0, r1, hB2⟩ := Adr.wrote2 (x := .int .i64 K) (y := .int .u64 V) (thenB A1 b2) (show w.heap.size ≤ w.heap.size + 1 by omega) G2; have hg := G2.lt; have hq := (((Below.refl (w.heap.size + 1) w2).setCell (p := ⟨w.heap.size + 1, 0, none⟩) (Nat.le_refl _) (.int .i64 K)).setCell (p := ⟨w.heap.size + 1, 1, none⟩) (Nat.le_refl _) (.int .u64 V)); have s2 := (hq.cell (p := ⟨w.heap.size, 2, none⟩) (Nat.lt_succ_self _)).trans s1))
  all_goals go_wp2_with fail
  all_goals refine bodyPost_ret (v := .agg #[.int .i64 K, .int .u64 V]) ?_ rfl ⟨rfl, hB2⟩
  all_goals simp [results, Tryd.f33, go_sem, r0, r1]
theorem rcurrent_any (k b irk l p : Int) (pv : Bool) (w : World) (hk : -9223372036854775808 ≤ k ∧ k ≤ 9223372036854775807) (hb : 0 ≤ b ∧ b ≤ 18446744073709551615) (hi : 0 ≤ irk ∧ irk ≤ 18446744073709551615) (hl : -9223372036854775808 ≤ l ∧ l ≤ 9223372036854775807) (hp : -9223372036854775808 ≤ p ∧ p ≤ 9223372036854775807) :
    Calls Tryd.prog 33 #[.agg #[.int .i64 k, .int .u64 b, .int .u64 irk], .bool pv, .int .i64 l, .int .i64 p] w fun e' w' => e' = .returned (.agg #[.int .i64 (curK k irk l p pv), .int .u64 (curV b irk l p pv)]) ∧ Below w.heap.size w w' := by
  cases pv with
  | false => exact rcur_open k b irk l p w hk hb hi hl hp
  | true =>
    by_cases h0 : irk = 0
    · have := rcur_zero k b irk l p w h0 hk hb hi hl hp
      unfold curK curV
      rw [if_neg (by simp [h0]), if_neg (by simp [h0])]
      exact this
    · unfold curK curV
      rw [if_pos ⟨rfl, h0⟩, if_pos ⟨rfl, h0⟩]
      exact rcur_good k b irk l p w h0 hk hb hi hl hp
end Go.Proofs.YtkbjfmfkpdlogaaDoor.Prv
