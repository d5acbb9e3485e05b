/- Bytes of addresses: contracts over the program. -/
import Derived.Test.YtchjopgcbpopcaaDoorAdrMake2
import Derived.Test.YtchjopgcbpopcaaDoorAdrRefAll
import Derived.Test.YtchjopgcbpopcaaDoorAdrOct
import Derived.Laws.OwnMore
set_option linter.unusedVariables false
set_option linter.unusedSimpArgs false
namespace Go.Proofs.YtchjopgcbpopcaaDoor.Adr
open Go.RowKit Mem Oct Base

/-- What Encode returns: the bytes, the error. -/
def encR (k b : Int) : List Int × Int := if chk k b = 0 then (k :: numL 6 b, 0) else ([], chk k b)
theorem enc_put {k b : Int} (h : chk k b = 0) (hb : 0 ≤ b) : putR [(1, k), (6, b)] = (k :: numL 6 b, 0) := by
  have hk := chk_ok h
  have o1 : okF (1, k) = true := by
    unfold okF; rw [show Ser.p2 (8 * (1 : Int).toNat) = 256 by decide]; simp; omega
  have o2 : okF (6, b) = true := by
    unfold okF; rw [show Ser.p2 (8 * (6 : Int).toNat) = 281474976710656 by decide]; simp; omega
  rw [putR_good (by simp [o1, o2])]
  have e1 : numL 1 k = [k] := by simp [numL]; omega
  show (numL 1 k ++ (numL 6 b ++ []), (0 : Int)) = _
  rw [e1]; simp
theorem encode_bad (k b : Int) (w : World) (hk : -9223372036854775808 ≤ k ∧ k ≤ 9223372036854775807) (hb : 0 ≤ b ∧ b ≤ 18446744073709551615) (hT : Tab w) (h : ¬ chk k b = 0) :
    Calls Tryd.prog 16 #[.agg #[.int .i64 k, .int .u64 b]] w fun e w' => Gives w w' e (encR k b) := by
  have hR : Hid (encR k b = ([], chk k b)) := Lib.hid (by unfold encR; rw [if_neg h])
  have hB : Below w.heap.size w (w.alloc (.cells #[.int .i64 k, .int .u64 b] 24)) := (Below.refl _ _).alloc (Nat.le_refl _) _
  have T1 := hT.below hB
  have hc := check_any k b (w.alloc (.cells #[.int .i64 k, .int .u64 b] 24)) hk hb T1
  have F := box_new w k b
  have c0 := F.c0
  have c1 := F.c1
  generalize chk k b = c at *
  have hne : (c != 0) = true := by simpa using h
  go_enter Tryd.func16, Tryd.ntmps16
  go_wp2_with (go_at_call 12; refine hc.mono ?_; rintro e w1 ⟨rfl, hb1⟩)
  go_ret2
  exact gives_of hR.out rfl rfl (World.ownsRow_nil _ _ _ _) (thenB hB hb1)
theorem encode_good (k b : Int) (w : World) (hb : 0 ≤ b ∧ b ≤ 18446744073709551615) (hT : Tab w) (h : chk k b = 0) :
    Calls Tryd.prog 16 #[.agg #[.int .i64 k, .int .u64 b]] w fun e w' => Gives w w' e (encR k b) := by
  have hk := (chk_ok h).1
  have hR : Hid (encR k b = putR [(1, k), (6, b)]) := Lib.hid (by unfold encR; rw [if_pos h, enc_put h hb.1])
  obtain ⟨r, hr⟩ : ∃ r, encR k b = r := ⟨_, rfl⟩
  rw [hr] at hR ⊢
  clear hr
  have hB : Below w.heap.size w (w.alloc (.cells #[.int .i64 k, .int .u64 b] 24)) := (Below.refl _ _).alloc (Nat.le_refl _) _
  have T1 := hT.below hB
  have hc := check_any k b (w.alloc (.cells #[.int .i64 k, .int .u64 b] 24)) (by omega) hb T1
  have F := box_new w k b
  have c0 := F.c0
  have c1 := F.c1
  rw [h] at hc
  go_enter Tryd.func16, Tryd.ntmps16
  go_wp2_with fail
  refine hc.mono ?_
  rintro e w1 ⟨rfl, hb1⟩
  have F1 := F.below hb1
  have d0 := F1.c0
  have d1 := F1.c1
  have hB1 := thenB hB hb1
  go_wp2_with fail
  have hF : FldsAt (w1.alloc (.cells #[.int .i64 1, .int .u64 k, .int .i64 6, .int .u64 b] 55)) (w1.alloc (.cells #[.int .i64 1, .int .u64 k, .int .i64 6, .int .u64 b] 55)).heap.size (some ⟨w1.heap.size, 0, none⟩) [(1, k), (6, b)] := by
    refine .inr ⟨w1.heap.size, 0, rfl, by simp, fun j f hj => ?_⟩
    have B := Blk.fresh w1 55 #[.int .i64 1, .int .u64 k, .int .i64 6, .int .u64 b]
    match j, hj with
    | 0, hj => cases hj; exact ⟨B.cell 0, B.cell 1⟩
    | 1, hj => cases hj; exact ⟨B.cell 2, B.cell 3⟩
    | j + 2, hj => simp at hj
  have hfs : Fields [(1, k), (6, b)] := by
    intro f hf; simp at hf
    rcases hf with rfl | rfl
    · exact ⟨by simp, by simp; omega⟩
    · exact ⟨by simp, by simp; omega⟩
  refine (put_any _ 2 2 [(1, k), (6, b)] _ hfs rfl (by omega) hF).mono ?_
  intro e w2 m2
  rw [← hR.out] at m2
  obtain ⟨A2, c2, rfl, own2, b2⟩ := m2
  have hB2 := thenB hB1 (((Below.refl w1.heap.size w1).alloc (Nat.le_refl _) (.cells #[.int .i64 1, .int .u64 k, .int .i64 6, .int .u64 b] 55)).trans (b2.mono (by simp)))
  have own3 := own_base own2 (base' := w.heap.size) (by have := hB1.size; simp; omega)
  clear hR
  go_wp2_with fail
  go_ret2
  exact ⟨A2, c2, rfl, own3, hB2⟩
theorem encode_any (k b : Int) (w : World) (hk : -9223372036854775808 ≤ k ∧ k ≤ 9223372036854775807) (hb : 0 ≤ b ∧ b ≤ 18446744073709551615) (hT : Tab w) :
    Calls Tryd.prog 16 #[.agg #[.int .i64 k, .int .u64 b]] w fun e w' => Gives w w' e (encR k b) := by
  by_cases h : chk k b = 0
  · exact encode_good k b w hb hT h
  · exact encode_bad k b w hk hb hT h
theorem rencode_bad (k b : Int) (w : World) (hk : -9223372036854775808 ≤ k ∧ k ≤ 9223372036854775807) (hb : 0 ≤ b ∧ b ≤ 18446744073709551615) (h : ¬ chk k b = 0) :
    Calls Tryd.prog 17 #[.agg #[.int .i64 k, .int .u64 b]] w fun e w' => Gives w w' e (encR k b) := by
  have hR : Hid (encR k b = ([], chk k b)) := Lib.hid (by unfold encR; rw [if_neg h])
  have hB : Below w.heap.size w (w.alloc (.cells #[.int .i64 k, .int .u64 b] 24)) := (Below.refl _ _).alloc (Nat.le_refl _) _
  have hc := rcheck_any k b (w.alloc (.cells #[.int .i64 k, .int .u64 b] 24)) hk hb
  have F := box_new w k b
  have c0 := F.c0
  have c1 := F.c1
  generalize chk k b = c at *
  have hne : (c != 0) = true := by simpa using h
  go_enter Tryd.func17, Tryd.ntmps17
  go_wp2_with (go_at_call 13; refine hc.mono ?_; rintro e w1 ⟨rfl, hb1⟩)
  go_ret2
  exact gives_of hR.out rfl rfl (World.ownsRow_nil _ _ _ _) (thenB hB hb1)
set_option maxHeartbeats 4000000 in
theorem rencode_good (k b : Int) (w : World) (hb : 0 ≤ b ∧ b ≤ 18446744073709551615) (h : chk k b = 0) :
    Calls Tryd.prog 17 #[.agg #[.int .i64 k, .int .u64 b]] w fun e w' => Gives w w' e (encR k b) := by
  obtain ⟨i0, hi, hz0, hz1, hz2⟩ := info_parts info_u8
  have hk := (chk_ok h).1
  have hR : Hid (encR k b = (k :: numL 6 b, 0)) := Lib.hid (by unfold encR; rw [if_pos h])
  have hB : Below w.heap.size w (w.alloc (.cells #[.int .i64 k, .int .u64 b] 24)) := (Below.refl _ _).alloc (Nat.le_refl _) _
  have hc := rcheck_any k b (w.alloc (.cells #[.int .i64 k, .int .u64 b] 24)) (by omega) hb
  have F := box_new w k b
  have c0 := F.c0
  have c1 := F.c1
  have ek : IntKind.u8.wrap k = k := by rw [IntKind.wrap_u8]; omega
  have HN : Hid (∀ w, Calls Tryd.prog 34 #[.int .i64 6, .int .u64 b] w fun e w' => Makes w w' e (numL 6 b)) := Lib.hid fun w => rnum_any 6 b w (by omega) hb
  rw [h] at hc
  go_enter Tryd.func17, Tryd.ntmps17
  go_wp2_with fail
  refine hc.mono ?_
  rintro e W ⟨rfl, hb1⟩
  have F1 := F.below hb1
  have hB1 := thenB hB hb1
  have d0' := F1.c0
  have d1' := F1.c1
  clear c0 c1 F hc
  go_wp2_with fail
  have d0 : W.drew.cell? ⟨w.heap.size, 0, none⟩ = some (.int .i64 k) := F1.c0
  have d1 : W.drew.cell? ⟨w.heap.size, 1, none⟩ = some (.int .u64 b) := F1.c1
  have hl : w.heap.size < W.heap.size := F1.lt
  have s0 : (W.drew.alloc (.cells #[.int .u8 k] 5)).cell? ⟨w.heap.size, 0, none⟩ = some (.int .i64 k) := (((Below.refl W.drew.heap.size W.drew).alloc (Nat.le_refl _) _).cell (p := ⟨w.heap.size, 0, none⟩) hl).trans d0
  have s1 : (W.drew.alloc (.cells #[.int .u8 k] 5)).cell? ⟨w.heap.size, 1, none⟩ = some (.int .u64 b) := (((Below.refl W.drew.heap.size W.drew).alloc (Nat.le_refl _) _).cell (p := ⟨w.heap.size, 1, none⟩) hl).trans d1
  have hBa : Below W.heap.size W (W.drew.alloc (.cells #[.int .u8 k] 5)) := ((Below.refl W.heap.size W).drew).alloc (Nat.le_refl _) _
  have hBd : Below W.heap.size W W.drew := (Below.refl W.heap.size W).drew
  have lit1 : (W.drew.alloc (.cells #[.int .u8 k] 5)).ownsRow W.heap.size 5 1 (.slice (some ⟨W.heap.size, 0, none⟩) 1 1) 1 [.int .u8 k] := World.ownsRow_lit (base := W.heap.size) W.drew #[.int .u8 k] 1 (Nat.le_refl _) (by unfold maxLen; omega) rfl
  go_region_held3 (fun w' => w'.cell? ⟨w.heap.size, 0, none⟩ = some (.int .i64 k) ∧ w'.cell? ⟨w.heap.size, 1, none⟩ = some (.int .u64 b)) (first | exact ⟨d0, d1⟩ | exact ⟨s0, s1⟩ | exact hS5 | exact hS5a | exact hS6) (first
    | (go_at_call 34; refine (HN.out _).mono ?_; intro e w5 m5; obtain ⟨A5, c5, rfl, own5, b5⟩ := m5; rw [numL_len] at own5 ⊢; have hS5 : w5.cell? ⟨w.heap.size, 0, none⟩ = some (.int .i64 k) ∧ w5.cell? ⟨w.heap.size, 1, none⟩ = some (.int .u64 b) := (by first | exact ⟨(b5.cell (p := ⟨w.heap.size, 0, none⟩) hl).trans d0, (b5.cell (p := ⟨w.heap.size, 1, none⟩) hl).trans d1⟩ | exact ⟨(b5.cell (p := ⟨w.heap.size, 0, none⟩) (by simp; omega)).trans s0, (b5.cell (p := ⟨w.heap.size, 1, none⟩) (by simp; omega)).trans s1⟩); have hBw5 : Below W.heap.size W w5 := (by first | exact hBd.trans (b5.mono (Nat.le_refl _)) | exact hBa.trans (b5.mono (by simp))); have hS5a : (w5.alloc (.cells #[.int .u8 k] 5)).cell? ⟨w.heap.size, 0, none⟩ = some (.int .i64 k) ∧ (w5.alloc (.cells #[.int .u8 k] 5)).cell? ⟨w.heap.size, 1, none⟩ = some (.int .u64 b) := ⟨(((Below.refl w5.heap.size w5).alloc (Nat.le_refl _) _).cell (p := ⟨w.heap.size, 0, none⟩) (by have := hBw5.size; show w.heap.size < w5.heap.size; omega)).trans hS5.1, (((Below.refl w5.heap.size w5).alloc (Nat.le_refl _) _).cell (p := ⟨w.heap.size, 1, none⟩) (by have := hBw5.size; show w.heap.size < w5.heap.size; omega)).trans hS5.2⟩)
    | (refine step_append_ints rfl (.tmp 13) (.tmp 16) 31 rfl .u8 W.heap.size 5 i0 _ 1 Tryd.underlying31 hi hz0 hz1 hz2 rfl _ 1 [.int .u8 k] rfl (own_below lit1 b5) w5.heap.size A5 6 c5 (numL 6 b) rfl (numL_len _ _) (Ints.own own5) (by unfold maxLen; omega) (by omega) hBw5.size ?_; intro v6 w6 own6 b6 _; have hS6 : w6.cell? ⟨w.heap.size, 0, none⟩ = some (.int .i64 k) ∧ w6.cell? ⟨w.heap.size, 1, none⟩ = some (.int .u64 b) := ⟨(b6.cell (p := ⟨w.heap.size, 0, none⟩) hl).trans hS5.1, (b6.cell (p := ⟨w.heap.size, 1, none⟩) hl).trans hS5.2⟩; have hB6 : Below w.heap.size w w6 := thenB hB1 (hBw5.trans b6))
    | (refine step_append_ints rfl (.tmp 13) (.tmp 16) 31 rfl .u8 W.heap.size 5 i0 _ 1 Tryd.underlying31 hi hz0 hz1 hz2 rfl _ 1 [.int .u8 k] rfl (World.ownsRow_lit (base := W.heap.size) w5 #[.int .u8 k] 1 hBw5.size (by unfold maxLen; omega) rfl) w5.heap.size A5 6 c5 (numL 6 b) rfl (numL_len _ _) ((Ints.own own5).alloc (Nat.le_refl _) _) (by unfold maxLen; omega) (by omega) (by have := hBw5.size; simp; omega) ?_; intro v6 w6 own6 b6 _; have hS6 : w6.cell? ⟨w.heap.size, 0, none⟩ = some (.int .i64 k) ∧ w6.cell? ⟨w.heap.size, 1, none⟩ = some (.int .u64 b) := ⟨(b6.cell (p := ⟨w.heap.size, 0, none⟩) hl).trans hS5a.1, (b6.cell (p := ⟨w.heap.size, 1, none⟩) hl).trans hS5a.2⟩; have hB6 : Below w.heap.size w w6 := thenB hB1 ((hBw5.alloc hBw5.size _).trans b6)))
  all_goals go_wp2_with fail
  all_goals go_ret2
  all_goals exact gives_of hR.out rfl (by simp [numL_len]) (own_base own6 (by omega)) hB6
theorem rencode_any (k b : Int) (w : World) (hk : -9223372036854775808 ≤ k ∧ k ≤ 9223372036854775807) (hb : 0 ≤ b ∧ b ≤ 18446744073709551615) :
    Calls Tryd.prog 17 #[.agg #[.int .i64 k, .int .u64 b]] w fun e w' => Gives w w' e (encR k b) := by
  by_cases h : chk k b = 0
  · exact rencode_good k b w hb h
  · exact rencode_bad k b w hk hb h
end Go.Proofs.YtchjopgcbpopcaaDoor.Adr
