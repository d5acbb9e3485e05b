/- Bytes of addresses: contracts over the program. -/
import Derived.Test.YtkbjfmfkpdlogaaDoorAdrMake2
import Derived.Test.YtkbjfmfkpdlogaaDoorAdrRefAll
import Derived.Test.YtkbjfmfkpdlogaaDoorAdrOct
import Derived.Laws.OwnMore
set_option linter.unusedVariables false
set_option linter.unusedSimpArgs false
namespace Go.Proofs.YtkbjfmfkpdlogaaDoor.Adr
open Go.RowKit Mem Oct Base

/-- What Encode returns: the bytes, the error. -/
def encR (k b : Int) : List Int × Int := if chk k b = 0 then (k :: numL 6 b, 0) else ([], chk k b)
theorem enc_put {k b : Int} (h : chk k b = 0) (hb : 0 ≤ b) : putR [(1, k), (6, b)] = (k :: numL 6 b, 0) := by
  have hk := chk_ok h
  have o1 : okF (1, k) = true := by
    unfold okF; rw [show Ser.p2 (8 * (1 : Int).toNat) = 256 by decide]; simp; omega
  have o2 : okF (6, b) = true := by
    unfold okF; rw [show Ser.p2 (8 * (6 : Int).toNat) = 281474976710656 by decide]; simp; omega
  rw [putR_good (by simp [o1, o2])]
  have e1 : numL 1 k = [k] := by simp [numL]; omega
  show (numL 1 k ++ (numL 6 b ++ []), (0 : Int)) = _
  rw [e1]; simp
theorem encode_bad (k b : Int) (w : World) (hk : -9223372036854775808 ≤ k ∧ k ≤ 9223372036854775807) (hb : 0 ≤ b ∧ b ≤ 18446744073709551615) (hT : Tab w) (h : ¬ chk k b = 0) :
    Calls Tryd.prog 16 #[.agg #[.int .i64 k, .int .u64 b]] w fun e w' => Gives w w' e (encR k b) := by
  have hR : Hid (encR k b = ([], chk k b)) := Lib.hid (by unfold encR; rw [if_neg h])
  have hB : Below w.heap.size w (w.alloc (.cells #[.int .i64 k, .int .u64 b] 26)) := (Below.refl _ _).alloc (Nat.le_refl _) _
  have T1 := hT.below hB
  have hc := check_any k b (w.alloc (.cells #[.int .i64 k, .int .u64 b] 26)) hk hb T1
  have F := box_new w k b
  have c0 := F.c0
  have c1 := F.c1
  generalize chk k b = c at *
  have hne : (c != 0) = true := by simpa using h
  go_enter Tryd.func16, Tryd.ntmps16
  go_wp2_with (go_at_call 18; refine hc.mono ?_; rintro e w1 ⟨rfl, hb1⟩)
  go_ret2
  exact gives_of hR.out rfl rfl (World.ownsRow_nil _ _ _ _) (thenB hB hb1)
theorem encode_good (k b : Int) (w : World) (hb : 0 ≤ b ∧ b ≤ 18446744073709551615) (hT : Tab w) (h : chk k b = 0) :
    Calls Tryd.prog 16 #[.agg #[.int .i64 k, .int .u64 b]] w fun e w' => Gives w w' e (encR k b) := by
  have hk := (chk_ok h).1
  have hR : Hid (encR k b = putR [(1, k), (6, b)]) := Lib.hid (by unfold encR; rw [if_pos h, enc_put h hb.1])
  obtain ⟨r, hr⟩ : ∃ r, encR k b = r := ⟨_, rfl⟩
  rw [hr] at hR ⊢
  clear hr
  have hB : Below w.heap.size w (w.alloc (.cells #[.int .i64 k, .int .u64 b] 26)) := (Below.refl _ _).alloc (Nat.le_refl _) _
  have T1 := hT.below hB
  have hc := check_any k b (w.alloc (.cells #[.int .i64 k, .int .u64 b] 26)) (by omega) hb T1
  have F := box_new w k b
  have c0 := F.c0
  have c1 := F.c1
  rw [h] at hc
  go_enter Tryd.func16, Tryd.ntmps16
  go_wp2_with fail
  refine hc.mono ?_
  rintro e w1 ⟨rfl, hb1⟩
  have F1 := F.below hb1
  have d0 := F1.c0
  have d1 := F1.c1
  have hB1 := thenB hB hb1
  go_wp2_with fail
  have hF : FldsAt (w1.alloc (.cells #[.int .i64 1, .int .u64 k, .int .i64 6, .int .u64 b] 63)) (w1.alloc (.cells #[.int .i64 1, .int .u64 k, .int .i64 6, .int .u64 b] 63)).heap.size (some ⟨w1.heap.size, 0, none⟩) [(1, k), (6, b)] := by
    refine .inr ⟨w1.heap.size, 0, rfl, by simp, fun j f hj => ?_⟩
    have B := Blk.fresh w1 63 #[.int .i64 1, .int .u64 k, .int .i64 6, .int .u64 b]
    match j, hj with
    | 0, hj => cases hj; exact ⟨B.cell 0, B.cell 1⟩
    | 1, hj => cases hj; exact ⟨B.cell 2, B.cell 3⟩
    | j + 2, hj => simp at hj
  have hfs : Fields [(1, k), (6, b)] := by
    intro f hf; simp at hf
    rcases hf with rfl | rfl
    · exact ⟨by simp, by simp; omega⟩
    · exact ⟨by simp, by simp; omega⟩
  refine (put_any _ 2 2 [(1, k), (6, b)] _ hfs rfl (by omega) hF).mono ?_
  intro e w2 m2
  rw [← hR.out] at m2
  obtain ⟨A2, c2, rfl, own2, b2⟩ := m2
  have hB2 := thenB hB1 (((Below.refl w1.heap.size w1).alloc (Nat.le_refl _) (.cells #[.int .i64 1, .int .u64 k, .int .i64 6, .int .u64 b] 63)).trans (b2.mono (by simp)))
  have own3 := own_base own2 (base' := w.heap.size) (by have := hB1.size; simp; omega)
  clear hR
  go_wp2_with fail
  go_ret2
  exact ⟨A2, c2, rfl, own3, hB2⟩
theorem encode_any (k b : Int) (w : World) (hk : -9223372036854775808 ≤ k ∧ k ≤ 9223372036854775807) (hb : 0 ≤ b ∧ b ≤ 18446744073709551615) (hT : Tab w) :
    Calls Tryd.prog 16 #[.agg #[.int .i64 k, .int .u64 b]] w fun e w' => Gives w w' e (encR k b) := by
  by_cases h : chk k b = 0
  · exact encode_good k b w hb hT h
  · exact encode_bad k b w hk hb hT h
end Go.Proofs.YtkbjfmfkpdlogaaDoor.Adr
