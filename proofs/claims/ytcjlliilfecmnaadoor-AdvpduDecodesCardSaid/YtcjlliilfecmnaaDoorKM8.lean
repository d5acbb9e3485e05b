/- Checking an address in the reference, any address: a contract over the program. Bytes of addresses: contracts over the program. Advertising PDUs: their parts, what is wrong with them, their bytes: plain mathematics. No function is mentioned. -/
import Derived.Test.YtcjlliilfecmnaaDoorKAdqRef
import Derived.Test.YtcjlliilfecmnaaDoorKAdqRef3
import Derived.Test.YtcjlliilfecmnaaDoorKM7
import Derived.Test.YtcjlliilfecmnaaDoorKM5
import Derived.Laws.OwnMore
import Derived.Test.YtcjlliilfecmnaaDoorKM6
section
set_option linter.unusedVariables false
set_option linter.unusedSimpArgs false
namespace Go.Proofs.YtcjlliilfecmnaaDoor.Adr
open Go.RowKit Mem Oct Base

theorem rcheck_any (k b : Int) (w : World) (hk : -9223372036854775808 ≤ k ∧ k ≤ 9223372036854775807) (hb : 0 ≤ b ∧ b ≤ 18446744073709551615) :
    Calls Tryd.prog 30 #[.agg #[.int .i64 k, .int .u64 b]] w fun e w' => e = .returned (.int .i64 (chk k b)) ∧ Below w.heap.size w w' := by
  have hW0 := box_new w k b
  have hB : Below w.heap.size w (w.alloc (.cells #[.int .i64 k, .int .u64 b] 24)) := (Below.refl _ _).alloc (Nat.le_refl _) _
  have c0 := hW0.c0
  have c1 := hW0.c1
  by_cases h1 : 1 ≤ k ∧ k ≤ 4
  · by_cases h2 : b < 281474976710656
    · by_cases h3 : k = 1
      · have HX := Lib.hid (chk_public h2)
        subst h3
        go_enter Tryd.func30, Tryd.ntmps30
        go_wp2_with fail
        go_ret
        exact ⟨Ser.ret_int HX.out.symm, hB⟩
      · by_cases h4 : k = 3
        · exact rcheck_three k b w (by omega) h4 ⟨hb.1, h2⟩
        · exact rcheck_plain k b w (by omega) h4 ⟨hb.1, h2⟩
    · have HX := Lib.hid (chk_range h1 (show 281474976710656 ≤ b by omega))
      go_enter Tryd.func30, Tryd.ntmps30
      go_wp2_with fail
      go_ret
      exact ⟨Ser.ret_int HX.out.symm, hB⟩
  · have HX := Lib.hid (chk_kind (b := b) (show k < 1 ∨ 4 < k by omega))
    by_cases h0 : k < 1
    · go_enter Tryd.func30, Tryd.ntmps30
      go_wp2_with fail
      go_ret
      exact ⟨Ser.ret_int HX.out.symm, hB⟩
    · have h4 : 4 < k := by omega
      go_enter Tryd.func30, Tryd.ntmps30
      go_wp2_with fail
      go_ret
      exact ⟨Ser.ret_int HX.out.symm, hB⟩
end Go.Proofs.YtcjlliilfecmnaaDoor.Adr

end
section
set_option linter.unusedVariables false
set_option linter.unusedSimpArgs false
namespace Go.Proofs.YtcjlliilfecmnaaDoor.Adr
open Go.RowKit Mem Oct Base

/-- What Encode returns: the bytes, the error. -/
def encR (k b : Int) : List Int × Int := if chk k b = 0 then (k :: numL 6 b, 0) else ([], chk k b)
theorem enc_put {k b : Int} (h : chk k b = 0) (hb : 0 ≤ b) : putR [(1, k), (6, b)] = (k :: numL 6 b, 0) := by
  have hk := chk_ok h
  have o1 : okF (1, k) = true := by
    unfold okF; rw [show Ser.p2 (8 * (1 : Int).toNat) = 256 by decide]; simp; omega
  have o2 : okF (6, b) = true := by
    unfold okF; rw [show Ser.p2 (8 * (6 : Int).toNat) = 281474976710656 by decide]; simp; omega
  rw [putR_good (by simp [o1, o2])]
  have e1 : numL 1 k = [k] := by simp [numL]; omega
  show (numL 1 k ++ (numL 6 b ++ []), (0 : Int)) = _
  rw [e1]; simp
theorem encode_bad (k b : Int) (w : World) (hk : -9223372036854775808 ≤ k ∧ k ≤ 9223372036854775807) (hb : 0 ≤ b ∧ b ≤ 18446744073709551615) (hT : Tab w) (h : ¬ chk k b = 0) :
    Calls Tryd.prog 23 #[.agg #[.int .i64 k, .int .u64 b]] w fun e w' => Gives w w' e (encR k b) := by
  have hR : Hid (encR k b = ([], chk k b)) := Lib.hid (by unfold encR; rw [if_neg h])
  have hB : Below w.heap.size w (w.alloc (.cells #[.int .i64 k, .int .u64 b] 24)) := (Below.refl _ _).alloc (Nat.le_refl _) _
  have T1 := hT.below hB
  have hc := check_any k b (w.alloc (.cells #[.int .i64 k, .int .u64 b] 24)) hk hb T1
  have F := box_new w k b
  have c0 := F.c0
  have c1 := F.c1
  generalize chk k b = c at *
  have hne : (c != 0) = true := by simpa using h
  go_enter Tryd.func23, Tryd.ntmps23
  go_wp2_with (go_at_call 26; refine hc.mono ?_; rintro e w1 ⟨rfl, hb1⟩)
  go_ret2
  exact gives_of hR.out rfl rfl (World.ownsRow_nil _ _ _ _) (thenB hB hb1)
theorem encode_good (k b : Int) (w : World) (hb : 0 ≤ b ∧ b ≤ 18446744073709551615) (hT : Tab w) (h : chk k b = 0) :
    Calls Tryd.prog 23 #[.agg #[.int .i64 k, .int .u64 b]] w fun e w' => Gives w w' e (encR k b) := by
  have hk := (chk_ok h).1
  have hR : Hid (encR k b = putR [(1, k), (6, b)]) := Lib.hid (by unfold encR; rw [if_pos h, enc_put h hb.1])
  obtain ⟨r, hr⟩ : ∃ r, encR k b = r := ⟨_, rfl⟩
  rw [hr] at hR ⊢
  clear hr
  have hB : Below w.heap.size w (w.alloc (.cells #[.int .i64 k, .int .u64 b] 24)) := (Below.refl _ _).alloc (Nat.le_refl _) _
  have T1 := hT.below hB
  have hc := check_any k b (w.alloc (.cells #[.int .i64 k, .int .u64 b] 24)) (by omega) hb T1
  have F := box_new w k b
  have c0 := F.c0
  have c1 := F.c1
  rw [h] at hc
  go_enter Tryd.func23, Tryd.ntmps23
  go_wp2_with fail
  refine hc.mono ?_
  rintro e w1 ⟨rfl, hb1⟩
  have F1 := F.below hb1
  have d0 := F1.c0
  have d1 := F1.c1
  have hB1 := thenB hB hb1
  go_wp2_with fail
  have hF : FldsAt (w1.alloc (.cells #[.int .i64 1, .int .u64 k, .int .i64 6, .int .u64 b] 67)) (w1.alloc (.cells #[.int .i64 1, .int .u64 k, .int .i64 6, .int .u64 b] 67)).heap.size (some ⟨w1.heap.size, 0, none⟩) [(1, k), (6, b)] := by
    refine .inr ⟨w1.heap.size, 0, rfl, by simp, fun j f hj => ?_⟩
    have B := Blk.fresh w1 67 #[.int .i64 1, .int .u64 k, .int .i64 6, .int .u64 b]
    match j, hj with
    | 0, hj => cases hj; exact ⟨B.cell 0, B.cell 1⟩
    | 1, hj => cases hj; exact ⟨B.cell 2, B.cell 3⟩
    | j + 2, hj => simp at hj
  have hfs : Fields [(1, k), (6, b)] := by
    intro f hf; simp at hf
    rcases hf with rfl | rfl
    · exact ⟨by simp, by simp; omega⟩
    · exact ⟨by simp, by simp; omega⟩
  refine (put_any _ 2 2 [(1, k), (6, b)] _ hfs rfl (by omega) hF).mono ?_
  intro e w2 m2
  rw [← hR.out] at m2
  obtain ⟨A2, c2, rfl, own2, b2⟩ := m2
  have hB2 := thenB hB1 (((Below.refl w1.heap.size w1).alloc (Nat.le_refl _) (.cells #[.int .i64 1, .int .u64 k, .int .i64 6, .int .u64 b] 67)).trans (b2.mono (by simp)))
  have own3 := own_base own2 (base' := w.heap.size) (by have := hB1.size; simp; omega)
  clear hR
  go_wp2_with fail
  go_ret2
  exact ⟨A2, c2, rfl, own3, hB2⟩
theorem encode_any (k b : Int) (w : World) (hk : -9223372036854775808 ≤ k ∧ k ≤ 9223372036854775807) (hb : 0 ≤ b ∧ b ≤ 18446744073709551615) (hT : Tab w) :
    Calls Tryd.prog 23 #[.agg #[.int .i64 k, .int .u64 b]] w fun e w' => Gives w w' e (encR k b) := by
  by_cases h : chk k b = 0
  · exact encode_good k b w hb hT h
  · exact encode_bad k b w hk hb hT h
theorem rencode_bad (k b : Int) (w : World) (hk : -9223372036854775808 ≤ k ∧ k ≤ 9223372036854775807) (hb : 0 ≤ b ∧ b ≤ 18446744073709551615) (h : ¬ chk k b = 0) :
    Calls Tryd.prog 37 #[.agg #[.int .i64 k, .int .u64 b]] w fun e w' => Gives w w' e (encR k b) := by
  have hR : Hid (encR k b = ([], chk k b)) := Lib.hid (by unfold encR; rw [if_neg h])
  have hB : Below w.heap.size w (w.alloc (.cells #[.int .i64 k, .int .u64 b] 24)) := (Below.refl _ _).alloc (Nat.le_refl _) _
  have hc := rcheck_any k b (w.alloc (.cells #[.int .i64 k, .int .u64 b] 24)) hk hb
  have F := box_new w k b
  have c0 := F.c0
  have c1 := F.c1
  generalize chk k b = c at *
  have hne : (c != 0) = true := by simpa using h
  go_enter Tryd.func37, Tryd.ntmps37
  go_wp2_with (go_at_call 30; refine hc.mono ?_; rintro e w1 ⟨rfl, hb1⟩)
  go_ret2
  exact gives_of hR.out rfl rfl (World.ownsRow_nil _ _ _ _) (thenB hB hb1)
set_option maxHeartbeats 4000000 in
theorem rencode_good (k b : Int) (w : World) (hb : 0 ≤ b ∧ b ≤ 18446744073709551615) (h : chk k b = 0) :
    Calls Tryd.prog 37 #[.agg #[.int .i64 k, .int .u64 b]] w fun e w' => Gives w w' e (encR k b) := by
  obtain ⟨i0, hi, hz0, hz1, hz2⟩ := info_parts Base.info_u8
  have hk := (chk_ok h).1
  have hR : Hid (encR k b = (k :: numL 6 b, 0)) := Lib.hid (by unfold encR; rw [if_pos h])
  have hB : Below w.heap.size w (w.alloc (.cells #[.int .i64 k, .int .u64 b] 24)) := (Below.refl _ _).alloc (Nat.le_refl _) _
  have hc := rcheck_any k b (w.alloc (.cells #[.int .i64 k, .int .u64 b] 24)) (by omega) hb
  have F := box_new w k b
  have c0 := F.c0
  have c1 := F.c1
  have ek : IntKind.u8.wrap k = k := by rw [IntKind.wrap_u8]; omega
  have HN : Hid (∀ w, Calls Tryd.prog 55 #[.int .i64 6, .int .u64 b] w fun e w' => Base.Makes w w' e (numL 6 b)) := Lib.hid fun w => rnum_any 6 b w (by omega) hb
  rw [h] at hc
  go_enter Tryd.func37, Tryd.ntmps37
  go_wp2_with fail
  refine hc.mono ?_
  rintro e W ⟨rfl, hb1⟩
  have F1 := F.below hb1
  have hB1 := thenB hB hb1
  have d0' := F1.c0
  have d1' := F1.c1
  clear c0 c1 F hc
  go_wp2_with fail
  have d0 : W.drew.cell? ⟨w.heap.size, 0, none⟩ = some (.int .i64 k) := F1.c0
  have d1 : W.drew.cell? ⟨w.heap.size, 1, none⟩ = some (.int .u64 b) := F1.c1
  have hl : w.heap.size < W.heap.size := F1.lt
  have s0 : (W.drew.alloc (.cells #[.int .u8 k] 5)).cell? ⟨w.heap.size, 0, none⟩ = some (.int .i64 k) := (((Below.refl W.drew.heap.size W.drew).alloc (Nat.le_refl _) _).cell (p := ⟨w.heap.size, 0, none⟩) hl).trans d0
  have s1 : (W.drew.alloc (.cells #[.int .u8 k] 5)).cell? ⟨w.heap.size, 1, none⟩ = some (.int .u64 b) := (((Below.refl W.drew.heap.size W.drew).alloc (Nat.le_refl _) _).cell (p := ⟨w.heap.size, 1, none⟩) hl).trans d1
  have hBa : Below W.heap.size W (W.drew.alloc (.cells #[.int .u8 k] 5)) := ((Below.refl W.heap.size W).drew).alloc (Nat.le_refl _) _
  have hBd : Below W.heap.size W W.drew := (Below.refl W.heap.size W).drew
  have lit1 : (W.drew.alloc (.cells #[.int .u8 k] 5)).ownsRow W.heap.size 5 1 (.slice (some ⟨W.heap.size, 0, none⟩) 1 1) 1 [.int .u8 k] := World.ownsRow_lit (base := W.heap.size) W.drew #[.int .u8 k] 1 (Nat.le_refl _) (by unfold maxLen; omega) rfl
  go_region_held3 (fun w' => w'.cell? ⟨w.heap.size, 0, none⟩ = some (.int .i64 k) ∧ w'.cell? ⟨w.heap.size, 1, none⟩ = some (.int .u64 b)) (first | exact ⟨d0, d1⟩ | exact ⟨s0, s1⟩ | exact hS5 | exact hS5a | exact hS6) (first
    | (go_at_call 55; refine (HN.out _).mono ?_; intro e w5 m5; obtain ⟨A5, c5, rfl, own5, b5⟩ := m5; rw [numL_len] at own5 ⊢; have hS5 : w5.cell? ⟨w.heap.size, 0, none⟩ = some (.int .i64 k) ∧ w5.cell? ⟨w.heap.size, 1, none⟩ = some (.int .u64 b) := (by first | exact ⟨(b5.cell (p := ⟨w.heap.size, 0, none⟩) hl).trans d0, (b5.cell (p := ⟨w.heap.size, 1, none⟩) hl).trans d1⟩ | exact ⟨(b5.cell (p := ⟨w.heap.size, 0, none⟩) (by simp; omega)).trans s0, (b5.cell (p := ⟨w.heap.size, 1, none⟩) (by simp; omega)).trans s1⟩); have hBw5 : Below W.heap.size W w5 := (by first | exact hBd.trans (b5.mono (Nat.le_refl _)) | exact hBa.trans (b5.mono (by simp))); have hS5a : (w5.alloc (.cells #[.int .u8 k] 5)).cell? ⟨w.heap.size, 0, none⟩ = some (.int .i64 k) ∧ (w5.alloc (.cells #[.int .u8 k] 5)).cell? ⟨w.heap.size, 1, none⟩ = some (.int .u64 b) := ⟨(((Below.refl w5.heap.size w5).alloc (Nat.le_refl _) _).cell (p := ⟨w.heap.size, 0, none⟩) (by have := hBw5.size; show w.heap.size < w5.heap.size; omega)).trans hS5.1, (((Below.refl w5.heap.size w5).alloc (Nat.le_refl _) _).cell (p := ⟨w.heap.size, 1, none⟩) (by have := hBw5.size; show w.heap.size < w5.heap.size; omega)).trans hS5.2⟩)
    | (refine step_append_ints rfl (.tmp 13) (.tmp 16) 25 rfl .u8 W.heap.size 5 i0 _ 1 Tryd.underlying25 hi hz0 hz1 hz2 rfl _ 1 [.int .u8 k] rfl (own_below lit1 b5) w5.heap.size A5 6 c5 (numL 6 b) rfl (numL_len _ _) (Ints.own own5) (by unfold maxLen; omega) (by omega) hBw5.size ?_; intro v6 w6 own6 b6 _; have hS6 : w6.cell? ⟨w.heap.size, 0, none⟩ = some (.int .i64 k) ∧ w6.cell? ⟨w.heap.size, 1, none⟩ = some (.int .u64 b) := ⟨(b6.cell (p := ⟨w.heap.size, 0, none⟩) hl).trans hS5.1, (b6.cell (p := ⟨w.heap.size, 1, none⟩) hl).trans hS5.2⟩; have hB6 : Below w.heap.size w w6 := thenB hB1 (hBw5.trans b6))
    | (refine step_append_ints rfl (.tmp 13) (.tmp 16) 25 rfl .u8 W.heap.size 5 i0 _ 1 Tryd.underlying25 hi hz0 hz1 hz2 rfl _ 1 [.int .u8 k] rfl (World.ownsRow_lit (base := W.heap.size) w5 #[.int .u8 k] 1 hBw5.size (by unfold maxLen; omega) rfl) w5.heap.size A5 6 c5 (numL 6 b) rfl (numL_len _ _) ((Ints.own own5).alloc (Nat.le_refl _) _) (by unfold maxLen; omega) (by omega) (by have := hBw5.size; simp; omega) ?_; intro v6 w6 own6 b6 _; have hS6 : w6.cell? ⟨w.heap.size, 0, none⟩ = some (.int .i64 k) ∧ w6.cell? ⟨w.heap.size, 1, none⟩ = some (.int .u64 b) := ⟨(b6.cell (p := ⟨w.heap.size, 0, none⟩) hl).trans hS5a.1, (b6.cell (p := ⟨w.heap.size, 1, none⟩) hl).trans hS5a.2⟩; have hB6 : Below w.heap.size w w6 := thenB hB1 ((hBw5.alloc hBw5.size _).trans b6)))
  all_goals go_wp2_with fail
  all_goals go_ret2
  all_goals exact gives_of hR.out rfl (by simp [numL_len]) (own_base own6 (by omega)) hB6
theorem rencode_any (k b : Int) (w : World) (hk : -9223372036854775808 ≤ k ∧ k ≤ 9223372036854775807) (hb : 0 ≤ b ∧ b ≤ 18446744073709551615) :
    Calls Tryd.prog 37 #[.agg #[.int .i64 k, .int .u64 b]] w fun e w' => Gives w w' e (encR k b) := by
  by_cases h : chk k b = 0
  · exact rencode_good k b w hb h
  · exact rencode_bad k b w hk hb h
end Go.Proofs.YtcjlliilfecmnaaDoor.Adr

end
section
set_option linter.unusedVariables false
set_option linter.unusedSimpArgs false
namespace Go.Proofs.YtcjlliilfecmnaaDoor.Ap
open Go.RowKit Mem Oct

/-- A PDU. -/
structure Pd where
  k : Int
  sk : Int
  sb : Int
  tk : Int
  tb : Int
  ds : List Int
  a : Int
  b : Int
  s : Int
  o : Int
  i : Int
  l : Int
  t : Int
  m : Nat
  h : Int
  d : Int
  g : Int
def tgtB (k : Int) : Bool := k == 1 || (k == 3 || k == 5)
def datB (k : Int) : Bool := k == 0 || (k == 2 || (k == 4 || k == 6))
def conB (k : Int) : Bool := k == 5
def knoB (k : Int) : Bool := decide (0 ≤ k ∧ k ≤ 6)
def tE (T : Bool) (k b : Int) : Int := if T = true then Adr.chk k b else if k = 0 ∧ b = 0 then 0 else 1
def dE (D : Bool) (n : Nat) : Int := if D = true then (if 31 < n then 4 else 0) else if 0 < n then 1 else 0
/-- Parameters that are zero. -/
def zerC (p : Pd) : Bool := decide (p.a = 0 ∧ p.b = 0 ∧ p.s = 0 ∧ p.o = 0 ∧ p.i = 0 ∧ p.l = 0 ∧ p.t = 0 ∧ p.m = 0 ∧ p.h = 0 ∧ p.d = 0 ∧ p.g = 0)
def okC (p : Pd) : Int := Cn.okP p.a p.b p.s p.o p.i p.l p.t p.m p.h p.d p.g
def cE (C : Bool) (p : Pd) : Int := if C = true then okC p else if zerC p = true then 0 else 1
/-- The error of a PDU. -/
def chkP (p : Pd) : Int := if knoB p.k = true then Cn.fst0 [Adr.chk p.sk p.sb, tE (tgtB p.k) p.tk p.tb, dE (datB p.k) p.ds.length, cE (conB p.k) p] else 12
/-- The first byte: whether an address that is there is not public. -/
def npB (k : Int) : Bool := k != 0 && k != 1
def fstB (p : Pd) : Int := p.k + (if npB p.sk = true then 64 else 0) + (if npB p.tk = true then 128 else 0)
theorem kinds {k : Int} (h : knoB k = true) : k = 0 ∨ k = 1 ∨ k = 2 ∨ k = 3 ∨ k = 4 ∨ k = 5 ∨ k = 6 := by
  unfold knoB at h; simp at h; omega
theorem kind_no {k : Int} (h : knoB k = false) : ¬ (0 ≤ k ∧ k ≤ 6) := by unfold knoB at h; simpa using h
end Go.Proofs.YtcjlliilfecmnaaDoor.Ap

end
