import Derived.Test.YtiopeghbpnjcgaaKcRest
import Derived.Test.YtiopeghbpnjcgaaOctPut
import Derived.Test.YtiopeghbpnjcgaaKcRest
import Derived.Test.YtiopeghbpnjcgaaKcChk
import Derived.Test.YtiopeghbpnjcgaaCpEx
import Derived.Test.YtiopeghbpnjcgaaCpArgs
/- Control PDUs: bytes of numbers and of parameters, by the document: contracts over the program. -/
set_option linter.unusedVariables false
set_option linter.unusedSimpArgs false
namespace Go.Proofs.Ytiopeghbpnjcgaa.Cp
open Go.RowKit Mem Oct Rw Av
open Base (thenB)
set_option maxRecDepth 100000 in
set_option maxHeartbeats 4000000 in
theorem rput_any (n v : Int) (w : World) (hn : 1 ≤ n ∧ n ≤ 8) (hv : 0 ≤ v ∧ v ≤ 18446744073709551615) :
    Calls Try.prog 27 #[.int .u64 v, .int .i64 n] w fun e w' => Oct.Makes w w' e (numL n.toNat v) := by
  obtain ⟨i0, hi, hz0, hz1, hz2⟩ := info_parts info_u8
  obtain ⟨m, rfl⟩ := Int.eq_ofNat_of_zero_le (show 0 ≤ n by omega)
  rw [Int.toNat_natCast]
  go_enter Try.func27, Try.ntmps27
  go_wp2_with fail
  go_loopw [0, 5, 6] (fun x b i wr => ∃ k : Nat, k ≤ m ∧ i = .int .i64 k ∧ x = .int .u64 (v / Ser.p2 (8 * k)) ∧ wr.ownsRow w.heap.size 5 1 b k ((numL k v).map (Value.int .u8)) ∧ Below w.heap.size w wr) (fun _ _ i _ => m - (intOf i).toNat)
  case atStart => exact ⟨0, by omega, rfl, by rw [show Ser.p2 (8 * 0) = 1 by decide]; go_num, World.ownsRow_nil _ _ _ _, Below.refl _ _⟩
  case round =>
    obtain ⟨k, hk, rfl, rfl, hown, hbel⟩ := hrel
    by_cases c1 : k < m
    · have hp := Ser.p2_pos (8 * k)
      have hx0 : 0 ≤ v / Ser.p2 (8 * k) := Int.ediv_nonneg hv.1 (by omega)
      have hx1 : v / Ser.p2 (8 * k) ≤ v := Int.ediv_le_self _ hv.1
      have HS := Lib.hid (numL_snoc k v)
      have HD : Hid (v / Ser.p2 (8 * k) / 256 = v / Ser.p2 (8 * (k + 1))) := Lib.hid (by rw [p2_8, Int.ediv_ediv_of_nonneg (by omega), Int.mul_comm])
      generalize v / Ser.p2 (8 * k) = x at *
      go_wp2_with (at_builtin; refine wpList_append_ints rfl _ _ 33 rfl .u8 w.heap.size 5 i0 _ 1 Try.underlying33 hi hz0 hz1 hz2 rfl _ k _ rfl (own_below hown ((Below.refl _ _).alloc (Nat.le_refl _) _)) (wr.heap.size + 1) _ 1 1 [x % 256] rfl rfl ?c1 ?c2 ?c3 ?c4 ?_; (case c1 => exact Ints.lit _ _ _ _ _ rfl); (case c2 => unfold maxLen; omega); (case c3 => omega); (case c4 => have := hbel.size; simp; omega); intro v2 w2 hown2 hb2 _)
      go_roundw
      case rel => exact ⟨k + 1, by omega, by go_num, by rw [HD.out], by rw [HS.out, List.map_append]; exact hown2, (hbel.alloc hbel.size _).trans hb2⟩
      case measure => simp [intOf]; omega
    · have hkm : k = m := by omega
      subst hkm
      go_wp2_with fail
      go_ret
      exact makes_of rfl (numL_len _ _) hown hbel
theorem makes_len {w w' : World} {e : Ending} {zs : List Int} (h : Oct.Makes w w' e zs) {n : Nat} (hn : zs.length = n) : ∃ A c, e = .returned (.slice A n c) ∧ w'.ownsRow w.heap.size 5 1 (.slice A n c) n (zs.map (Value.int .u8)) ∧ Below w.heap.size w w' := by
  subst hn; exact h
set_option maxRecDepth 100000 in
set_option maxHeartbeats 4000000 in
theorem putup_any (ws wo it la ti : Int) (w : World) : Calls Try.prog 26 #[.agg #[.int .i64 ws, .int .i64 wo, .int .i64 it, .int .i64 la, .int .i64 ti]] w fun e w' => Oct.Makes w w' e (numL 1 (u ws) ++ numL 2 (u wo) ++ numL 2 (u it) ++ numL 2 (u la) ++ numL 2 (u ti)) := by
  obtain ⟨i0, hi, hz0, hz1, hz2⟩ := info_parts info_u8
  have hu : ∀ n, 0 ≤ u n ∧ u n ≤ 18446744073709551615 := fun n => by unfold u; simp only [IntKind.wrap, IntKind.signed, IntKind.bits]; simp; omega
  have BX : Below w.heap.size w (w.alloc (.cells #[.int .i64 ws, .int .i64 wo, .int .i64 it, .int .i64 la, .int .i64 ti] 23)) := (Below.refl _ _).alloc (Nat.le_refl _) _
  have K1 : Blk (w.alloc (.cells #[.int .i64 ws, .int .i64 wo, .int .i64 it, .int .i64 la, .int .i64 ti] 23)) w.heap.size 23 #[.int .i64 ws, .int .i64 wo, .int .i64 it, .int .i64 la, .int .i64 ti] := Blk.fresh w 23 _
  have H0 := Lib.hid fun w => rput_any 1 (u ws) w (by decide) (hu ws)
  have N0 := Lib.hid (numL_len 1 (u ws))
  have H1 := Lib.hid fun w => rput_any 2 (u wo) w (by decide) (hu wo)
  have N1 := Lib.hid (numL_len 2 (u wo))
  have H2 := Lib.hid fun w => rput_any 2 (u it) w (by decide) (hu it)
  have N2 := Lib.hid (numL_len 2 (u it))
  have H3 := Lib.hid fun w => rput_any 2 (u la) w (by decide) (hu la)
  have N3 := Lib.hid (numL_len 2 (u la))
  have H4 := Lib.hid fun w => rput_any 2 (u ti) w (by decide) (hu ti)
  have N4 := Lib.hid (numL_len 2 (u ti))
  have eu : ∀ n, IntKind.u64.wrap n = u n := fun _ => rfl
  clear hu
  go_enter Try.func26, Try.ntmps26
  go_upto_region 1 with (fail)
  have hB : w.heap.size < (w.alloc (.cells #[.int .i64 ws, .int .i64 wo, .int .i64 it, .int .i64 la, .int .i64 ti] 23)).heap.size := K1.lt
  generalize w.alloc (.cells #[.int .i64 ws, .int .i64 wo, .int .i64 it, .int .i64 la, .int .i64 ti] 23) = W0 at *
  obtain ⟨B, eB⟩ : ∃ B, W0.heap.size = B := ⟨_, rfl⟩
  have k0 := K1.cell 0
  go_upto_region 2 with (go_at_call 27; refine (H0.out _).mono ?_; intro e w1 m1; obtain ⟨A1, c1, rfl, own, b1⟩ := makes_len m1 N0.out)
  clear k0 m1
  rw [eB] at own hB
  replace K1 := K1.below b1 K1.lt
  have hBs : B ≤ w1.heap.size := by rw [← eB]; exact b1.size
  replace BX := thenB BX b1
  clear b1 eB
  have k1 := K1.cell 1
  go_upto_region 3 with (first | (go_at_call 27; refine (H1.out _).mono ?_; intro e v1 m1; obtain ⟨A1, d1, rfl, ownx, b1⟩ := makes_len m1 N1.out; have Ix := Ints.own ownx; replace own := own_below own b1; replace K1 := K1.below b1 K1.lt; have hBs' : B ≤ v1.heap.size := Nat.le_trans hBs b1.size; replace BX := thenB BX b1; clear m1 b1 ownx) | (at_builtin; refine wpList_append_ints rfl _ _ 33 rfl .u8 B 5 i0 _ 1 Try.underlying33 hi hz0 hz1 hz2 rfl _ 1 _ rfl own _ A1 2 d1 (numL 2 (u wo)) rfl N1.out Ix ?c1 ?c2 ?c3 ?_; (case c1 => unfold maxLen; omega); (case c2 => omega); (case c3 => exact hBs'); intro V1 w2 own9 b9 _))
  replace own : w2.ownsRow B 5 1 V1 3 ((numL 1 (u ws) ++ numL 2 (u wo)).map (Value.int .u8)) := by rw [List.map_append]; exact own9
  clear k1 Ix own9
  replace K1 := K1.below b9 hB
  have hBs2 := Nat.le_trans hBs' b9.size
  replace BX := BX.trans (b9.mono (Nat.le_of_lt hB))
  clear b9 hBs hBs'
  have hBs := hBs2
  clear hBs2
  have k2 := K1.cell 2
  go_upto_region 4 with (first | (go_at_call 27; refine (H2.out _).mono ?_; intro e v2 m1; obtain ⟨A2, d2, rfl, ownx, b1⟩ := makes_len m1 N2.out; have Ix := Ints.own ownx; replace own := own_below own b1; replace K1 := K1.below b1 K1.lt; have hBs' : B ≤ v2.heap.size := Nat.le_trans hBs b1.size; replace BX := thenB BX b1; clear m1 b1 ownx) | (at_builtin; refine wpList_append_ints rfl _ _ 33 rfl .u8 B 5 i0 _ 1 Try.underlying33 hi hz0 hz1 hz2 rfl _ 3 _ rfl own _ A2 2 d2 (numL 2 (u it)) rfl N2.out Ix ?c1 ?c2 ?c3 ?_; (case c1 => unfold maxLen; omega); (case c2 => omega); (case c3 => exact hBs'); intro V2 w3 own9 b9 _))
  replace own : w3.ownsRow B 5 1 V2 5 ((numL 1 (u ws) ++ numL 2 (u wo) ++ numL 2 (u it)).map (Value.int .u8)) := by rw [List.map_append]; exact own9
  clear k2 Ix own9
  replace K1 := K1.below b9 hB
  have hBs2 := Nat.le_trans hBs' b9.size
  replace BX := BX.trans (b9.mono (Nat.le_of_lt hB))
  clear b9 hBs hBs'
  have hBs := hBs2
  clear hBs2
  have k3 := K1.cell 3
  go_upto_region 5 with (first | (go_at_call 27; refine (H3.out _).mono ?_; intro e v3 m1; obtain ⟨A3, d3, rfl, ownx, b1⟩ := makes_len m1 N3.out; have Ix := Ints.own ownx; replace own := own_below own b1; replace K1 := K1.below b1 K1.lt; have hBs' : B ≤ v3.heap.size := Nat.le_trans hBs b1.size; replace BX := thenB BX b1; clear m1 b1 ownx) | (at_builtin; refine wpList_append_ints rfl _ _ 33 rfl .u8 B 5 i0 _ 1 Try.underlying33 hi hz0 hz1 hz2 rfl _ 5 _ rfl own _ A3 2 d3 (numL 2 (u la)) rfl N3.out Ix ?c1 ?c2 ?c3 ?_; (case c1 => unfold maxLen; omega); (case c2 => omega); (case c3 => exact hBs'); intro V3 w4 own9 b9 _))
  replace own : w4.ownsRow B 5 1 V3 7 ((numL 1 (u ws) ++ numL 2 (u wo) ++ numL 2 (u it) ++ numL 2 (u la)).map (Value.int .u8)) := by rw [List.map_append]; exact own9
  clear k3 Ix own9
  replace K1 := K1.below b9 hB
  have hBs2 := Nat.le_trans hBs' b9.size
  replace BX := BX.trans (b9.mono (Nat.le_of_lt hB))
  clear b9 hBs hBs'
  have hBs := hBs2
  clear hBs2
  have k4 := K1.cell 4
  go_wp2_with (first | (go_at_call 27; refine (H4.out _).mono ?_; intro e v4 m1; obtain ⟨A4, d4, rfl, ownx, b1⟩ := makes_len m1 N4.out; have Ix := Ints.own ownx; replace own := own_below own b1; replace K1 := K1.below b1 K1.lt; have hBs' : B ≤ v4.heap.size := Nat.le_trans hBs b1.size; replace BX := thenB BX b1; clear m1 b1 ownx) | (at_builtin; refine wpList_append_ints rfl _ _ 33 rfl .u8 B 5 i0 _ 1 Try.underlying33 hi hz0 hz1 hz2 rfl _ 7 _ rfl own _ A4 2 d4 (numL 2 (u ti)) rfl N4.out Ix ?c1 ?c2 ?c3 ?_; (case c1 => unfold maxLen; omega); (case c2 => omega); (case c3 => exact hBs'); intro V4 w5 own9 b9 _))
  replace own : w5.ownsRow B 5 1 V4 9 ((numL 1 (u ws) ++ numL 2 (u wo) ++ numL 2 (u it) ++ numL 2 (u la) ++ numL 2 (u ti)).map (Value.int .u8)) := by rw [List.map_append]; exact own9
  have BE := BX.trans (b9.mono (Nat.le_of_lt hB))
  go_ret
  exact makes_of rfl (by simp [numL_len]) (own_base own (Nat.le_of_lt hB)) BE
end Go.Proofs.Ytiopeghbpnjcgaa.Cp

/- Control PDUs: what the Encode of the document returns: contracts over the program. -/
set_option linter.unusedVariables false
set_option linter.unusedSimpArgs false
namespace Go.Proofs.Ytiopeghbpnjcgaa.Cp
open Go.RowKit Mem Oct Rw Av
open Base (thenB)
theorem u8u (x : Int) : u x % 256 = x % 256 := by unfold u; simp only [IntKind.wrap, IntKind.signed, IntKind.bits]; simp
theorem num1 (x : Int) : numL 1 (u x) = [x % 256] := by rw [← u8u]; rfl
theorem u64_b (x : Int) : 0 ≤ u x ∧ u x ≤ 18446744073709551615 := by unfold u; simp only [IntKind.wrap, IntKind.signed, IntKind.bits]; simp; omega
set_option maxRecDepth 100000 in
set_option maxHeartbeats 4000000 in
theorem renc_up_im (c : Ct) (w : World) (hg : GoodC c) (hp : ptsK c.k = some [.up, .im]) (h0 : chkC c = 0) : Calls Try.prog 13 #[.agg (encC c)] w fun e w' => Gives w w' e ([c.k % 256] ++ (numL 1 (u c.ws) ++ numL 2 (u c.wo) ++ numL 2 (u c.it) ++ numL 2 (u c.la) ++ numL 2 (u c.ti)) ++ numL 2 (u c.ins), 0) := by
  obtain ⟨i0, hi, hz0, hz1, hz2⟩ := info_parts info_u8
  have BX : Below w.heap.size w (w.alloc (.cells (encC c) 28)) := (Below.refl _ _).alloc (Nat.le_refl _) _
  have K1 : Blk (w.alloc (.cells (encC c) 28)) w.heap.size 28 (encC c) := Blk.fresh w 28 (encC c)
  have HSZ : (Try.prog.info? 28).map (·.size) = some (encC c).size := by kernel_rfl
  have HCk : Hid (∀ w, Calls Try.prog 10 #[.agg (encC c)] w fun e w' => e = .returned (.int .i64 0) ∧ Below w.heap.size w w') := Lib.hid fun w => by have := rchk_any c w hg; rw [h0] at this; exact this
  have HF : Hid (∀ w, Calls Try.prog 20 #[.int .i64 c.k] w fun e w' => e = .returned (.agg #[.bool true, .bool true, .bool false, .bool true, .bool false, .bool false, .bool false, .bool false, .bool false, .bool false, .bool false]) ∧ Below w.heap.size w w') := Lib.hid fun w => by have := fields_k c.k w; rw [hp] at this; exact this
  have Hup := Lib.hid (putup_any c.ws c.wo c.it c.la c.ti)
  have Nup : Hid ((numL 1 (u c.ws) ++ numL 2 (u c.wo) ++ numL 2 (u c.it) ++ numL 2 (u c.la) ++ numL 2 (u c.ti)).length = 9) := Lib.hid (by simp [numL_len])
  have Him : Hid (∀ w, Calls Try.prog 27 #[.int .u64 (u c.ins), .int .i64 2] w fun e w' => Oct.Makes w w' e (numL 2 (u c.ins))) := Lib.hid fun w => rput_any 2 (u c.ins) w (by decide) (u64_b _)
  have Nim := Lib.hid (numL_len 2 (u c.ins))
  clear hp h0 hg
  have hC1 : (encC c)[1]? = some (.int .i64 c.ws) := rfl
  have hC2 : (encC c)[2]? = some (.int .i64 c.wo) := rfl
  have hC3 : (encC c)[3]? = some (.int .i64 c.it) := rfl
  have hC4 : (encC c)[4]? = some (.int .i64 c.la) := rfl
  have hC5 : (encC c)[5]? = some (.int .i64 c.ti) := rfl
  have hC6 : (encC c)[6]? = some (.int .u64 (c.m : Int)) := rfl
  have hC7 : (encC c)[7]? = some (.int .u16 c.ins) := rfl
  have hC8 : (encC c)[8]? = some (.int .i64 c.rs) := rfl
  have hC9 : (encC c)[9]? = some (.int .i64 c.rj) := rfl
  have hC10 : (encC c)[10]? = some (.int .u64 c.st) := rfl
  have hC11 : (encC c)[11]? = some (.int .u64 c.mr) := rfl
  have hC12 : (encC c)[12]? = some (.int .u64 c.ft) := rfl
  have hC13 : (encC c)[13]? = some (.int .i64 c.vs) := rfl
  have hC14 : (encC c)[14]? = some (.int .i64 c.ln) := rfl
  have hC0 : (encC c)[0]? = some (.int .i64 c.k) := rfl
  obtain ⟨C, hC⟩ : ∃ C, encC c = C := ⟨_, rfl⟩
  rw [hC] at BX K1 HSZ HCk hC0 hC1 hC2 hC3 hC4 hC5 hC6 hC7 hC8 hC9 hC10 hC11 hC12 hC13 hC14 ⊢
  clear hC
  go_enter Try.func13, Try.ntmps13
  go_upto_region 2 with (first | (refine wpList_load_row rfl 28 (.tmp 1) rfl w.heap.size rfl 28 _ (0, 0) _ K1 Try.underlying28 rfl HSZ ?_) | (go_at_call 10; refine (HCk.out _).mono ?_; rintro e w1 ⟨rfl, b1⟩))
  replace K1 := K1.below b1 K1.lt
  replace BX := thenB BX b1
  clear b1
  have k0 := (K1.cell 0).trans hC0
  go_upto_region 5 with (go_at_call 20; refine (HF.out _).mono ?_; rintro e w2 ⟨rfl, b1⟩)
  clear k0
  replace K1 := K1.below b1 K1.lt
  replace BX := thenB BX b1
  clear b1
  have b9 : Below w2.heap.size w2 (w2.alloc (.cells #[.bool true, .bool true, .bool false, .bool true, .bool false, .bool false, .bool false, .bool false, .bool false, .bool false, .bool false] 53)) := (Below.refl _ _).alloc (Nat.le_refl _) _
  have K3 : Blk (w2.alloc (.cells #[.bool true, .bool true, .bool false, .bool true, .bool false, .bool false, .bool false, .bool false, .bool false, .bool false, .bool false] 53)) w2.heap.size 53 #[.bool true, .bool true, .bool false, .bool true, .bool false, .bool false, .bool false, .bool false, .bool false, .bool false, .bool false] := Blk.fresh w2 53 #[.bool true, .bool true, .bool false, .bool true, .bool false, .bool false, .bool false, .bool false, .bool false, .bool false, .bool false]
  have hk1 := K1.lt
  replace K1 := K1.below b9 K1.lt
  replace BX := thenB BX b9
  clear b9
  generalize w2.alloc (.cells #[.bool true, .bool true, .bool false, .bool true, .bool false, .bool false, .bool false, .bool false, .bool false, .bool false, .bool false] 53) = X0 at *
  obtain ⟨g3, e3⟩ : ∃ g, w2.heap.size = g := ⟨_, rfl⟩
  rw [e3] at K3 hk1
  try simp only [e3]
  clear e3
  have k0 := (K1.cell 0).trans hC0
  go_upto_region 6 with (fail)
  clear k0
  have hB := K1.lt
  have hB3 := K3.lt
  have own : (X0.alloc (.cells #[.int .u8 (c.k % 256)] 5)).ownsRow X0.heap.size 5 1 (.slice (some ⟨X0.heap.size, 0, none⟩) 1 1) 1 ([c.k % 256].map (Value.int .u8)) := World.ownsRow_lit X0 #[.int .u8 (c.k % 256)] 1 (Nat.le_refl _) (by unfold maxLen; omega) rfl
  have hBs : X0.heap.size ≤ (X0.alloc (.cells #[.int .u8 (c.k % 256)] 5)).heap.size := by simp
  replace K1 := K1.alloc (.cells #[.int .u8 (c.k % 256)] 5)
  replace K3 := K3.alloc (.cells #[.int .u8 (c.k % 256)] 5)
  replace BX := BX.alloc BX.size (.cells #[.int .u8 (c.k % 256)] 5)
  generalize X0.alloc (.cells #[.int .u8 (c.k % 256)] 5) = X1 at *
  obtain ⟨B, eB⟩ : ∃ g, X0.heap.size = g := ⟨_, rfl⟩
  rw [eB] at own hB hB3 hBs
  try simp only [eB]
  clear eB
  have y1 := K3.cell 1
  have y2 := K3.cell 2
  have y3 := K3.cell 3
  have y4 := K3.cell 4
  have y5 := K3.cell 5
  have y6 := K3.cell 6
  have y7 := K3.cell 7
  have y8 := K3.cell 8
  have y9 := K3.cell 9
  have y10 := K3.cell 10
  go_upto_region 7 with (fail)
  clear y1 y2 y3 y4 y5 y6 y7 y8 y9 y10
  have k1 := (K1.cell 1).trans hC1
  have k2 := (K1.cell 2).trans hC2
  have k3 := (K1.cell 3).trans hC3
  have k4 := (K1.cell 4).trans hC4
  have k5 := (K1.cell 5).trans hC5
  go_upto_region 8 with (first | (go_at_call 26; refine (Hup.out _).mono ?_; intro e v2 m1; obtain ⟨A2, d2, rfl, ownx, b1⟩ := makes_len m1 Nup.out; have Ix := Ints.own ownx; replace own := own_below own b1; replace K1 := K1.below b1 K1.lt; replace K3 := K3.below b1 K3.lt; have hBs' : B ≤ v2.heap.size := Nat.le_trans hBs b1.size; replace BX := thenB BX b1; clear m1 b1 ownx) | (at_builtin; refine wpList_append_ints rfl _ _ 33 rfl .u8 B 5 i0 _ 1 Try.underlying33 hi hz0 hz1 hz2 rfl _ 1 _ rfl own _ A2 9 d2 (numL 1 (u c.ws) ++ numL 2 (u c.wo) ++ numL 2 (u c.it) ++ numL 2 (u c.la) ++ numL 2 (u c.ti)) rfl Nup.out Ix ?c1 ?c2 ?c3 ?_; (case c1 => unfold maxLen; omega); (case c2 => omega); (case c3 => exact hBs'); intro V2 X2 own9 b9 _))
  clear k1 k2 k3 k4 k5
  have hBs2 : B ≤ X2.heap.size := Nat.le_trans hBs' b9.size
  replace K1 := K1.below b9 hB
  replace K3 := K3.below b9 hB3
  replace BX := BX.trans (b9.mono (Nat.le_of_lt hB))
  clear hBs' Ix
  clear own
  have own : X2.ownsRow B 5 1 V2 10 (([c.k % 256] ++ (numL 1 (u c.ws) ++ numL 2 (u c.wo) ++ numL 2 (u c.it) ++ numL 2 (u c.la) ++ numL 2 (u c.ti))).map (Value.int .u8)) := by rw [List.map_append]; exact own9
  clear own9 b9 hBs
  have hBs := hBs2
  clear hBs2
  have y1 := K3.cell 1
  have y2 := K3.cell 2
  have y3 := K3.cell 3
  have y4 := K3.cell 4
  have y5 := K3.cell 5
  have y6 := K3.cell 6
  have y7 := K3.cell 7
  have y8 := K3.cell 8
  have y9 := K3.cell 9
  have y10 := K3.cell 10
  go_upto_region 11 with (fail)
  clear y1 y2 y3 y4 y5 y6 y7 y8 y9 y10
  have k7 := (K1.cell 7).trans hC7
  go_upto_region 12 with (first | (go_at_call 27; refine (Him.out _).mono ?_; intro e v3 m1; obtain ⟨A3, d3, rfl, ownx, b1⟩ := makes_len m1 Nim.out; have Ix := Ints.own ownx; replace own := own_below own b1; replace K1 := K1.below b1 K1.lt; replace K3 := K3.below b1 K3.lt; have hBs' : B ≤ v3.heap.size := Nat.le_trans hBs b1.size; replace BX := thenB BX b1; clear m1 b1 ownx) | (at_builtin; refine wpList_append_ints rfl _ _ 33 rfl .u8 B 5 i0 _ 1 Try.underlying33 hi hz0 hz1 hz2 rfl _ 10 _ rfl own _ A3 2 d3 (numL 2 (u c.ins)) rfl Nim.out Ix ?c1 ?c2 ?c3 ?_; (case c1 => unfold maxLen; omega); (case c2 => omega); (case c3 => exact hBs'); intro V3 X3 own9 b9 _))
  clear k7
  have hBs2 : B ≤ X3.heap.size := Nat.le_trans hBs' b9.size
  replace K1 := K1.below b9 hB
  replace K3 := K3.below b9 hB3
  replace BX := BX.trans (b9.mono (Nat.le_of_lt hB))
  clear hBs' Ix
  clear own
  have own : X3.ownsRow B 5 1 V3 12 (([c.k % 256] ++ (numL 1 (u c.ws) ++ numL 2 (u c.wo) ++ numL 2 (u c.it) ++ numL 2 (u c.la) ++ numL 2 (u c.ti)) ++ numL 2 (u c.ins)).map (Value.int .u8)) := by rw [List.map_append]; exact own9
  clear own9 b9 hBs
  have hBs := hBs2
  clear hBs2
  have y1 := K3.cell 1
  have y2 := K3.cell 2
  have y3 := K3.cell 3
  have y4 := K3.cell 4
  have y5 := K3.cell 5
  have y6 := K3.cell 6
  have y7 := K3.cell 7
  have y8 := K3.cell 8
  have y9 := K3.cell 9
  have y10 := K3.cell 10
  go_upto_region 26 with (fail)
  clear y1 y2 y3 y4 y5 y6 y7 y8 y9 y10
  go_wp2_with fail
  refine bodyPost_ret (results_tmp2 rfl _ _ _) rfl ?_
  exact gives_of rfl rfl (by simp [numL_len]) (own_base own (Nat.le_of_lt hB)) BX
set_option maxRecDepth 100000 in
set_option maxHeartbeats 4000000 in
theorem renc_ch_im (c : Ct) (w : World) (hg : GoodC c) (hp : ptsK c.k = some [.ch, .im]) (h0 : chkC c = 0) : Calls Try.prog 13 #[.agg (encC c)] w fun e w' => Gives w w' e ([c.k % 256] ++ numL 5 (c.m : Int) ++ numL 2 (u c.ins), 0) := by
  obtain ⟨i0, hi, hz0, hz1, hz2⟩ := info_parts info_u8
  have BX : Below w.heap.size w (w.alloc (.cells (encC c) 28)) := (Below.refl _ _).alloc (Nat.le_refl _) _
  have K1 : Blk (w.alloc (.cells (encC c) 28)) w.heap.size 28 (encC c) := Blk.fresh w 28 (encC c)
  have HSZ : (Try.prog.info? 28).map (·.size) = some (encC c).size := by kernel_rfl
  have HCk : Hid (∀ w, Calls Try.prog 10 #[.agg (encC c)] w fun e w' => e = .returned (.int .i64 0) ∧ Below w.heap.size w w') := Lib.hid fun w => by have := rchk_any c w hg; rw [h0] at this; exact this
  have HF : Hid (∀ w, Calls Try.prog 20 #[.int .i64 c.k] w fun e w' => e = .returned (.agg #[.bool true, .bool false, .bool true, .bool true, .bool false, .bool false, .bool false, .bool false, .bool false, .bool false, .bool false]) ∧ Below w.heap.size w w') := Lib.hid fun w => by have := fields_k c.k w; rw [hp] at this; exact this
  have Hch : Hid (∀ w, Calls Try.prog 27 #[.int .u64 (c.m : Int), .int .i64 5] w fun e w' => Oct.Makes w w' e (numL 5 (c.m : Int))) := Lib.hid fun w => rput_any 5 (c.m : Int) w (by decide) (⟨by omega, by have := hg.1; omega⟩)
  have Nch := Lib.hid (numL_len 5 (c.m : Int))
  have Him : Hid (∀ w, Calls Try.prog 27 #[.int .u64 (u c.ins), .int .i64 2] w fun e w' => Oct.Makes w w' e (numL 2 (u c.ins))) := Lib.hid fun w => rput_any 2 (u c.ins) w (by decide) (u64_b _)
  have Nim := Lib.hid (numL_len 2 (u c.ins))
  clear hp h0 hg
  have hC1 : (encC c)[1]? = some (.int .i64 c.ws) := rfl
  have hC2 : (encC c)[2]? = some (.int .i64 c.wo) := rfl
  have hC3 : (encC c)[3]? = some (.int .i64 c.it) := rfl
  have hC4 : (encC c)[4]? = some (.int .i64 c.la) := rfl
  have hC5 : (encC c)[5]? = some (.int .i64 c.ti) := rfl
  have hC6 : (encC c)[6]? = some (.int .u64 (c.m : Int)) := rfl
  have hC7 : (encC c)[7]? = some (.int .u16 c.ins) := rfl
  have hC8 : (encC c)[8]? = some (.int .i64 c.rs) := rfl
  have hC9 : (encC c)[9]? = some (.int .i64 c.rj) := rfl
  have hC10 : (encC c)[10]? = some (.int .u64 c.st) := rfl
  have hC11 : (encC c)[11]? = some (.int .u64 c.mr) := rfl
  have hC12 : (encC c)[12]? = some (.int .u64 c.ft) := rfl
  have hC13 : (encC c)[13]? = some (.int .i64 c.vs) := rfl
  have hC14 : (encC c)[14]? = some (.int .i64 c.ln) := rfl
  have hC0 : (encC c)[0]? = some (.int .i64 c.k) := rfl
  obtain ⟨C, hC⟩ : ∃ C, encC c = C := ⟨_, rfl⟩
  rw [hC] at BX K1 HSZ HCk hC0 hC1 hC2 hC3 hC4 hC5 hC6 hC7 hC8 hC9 hC10 hC11 hC12 hC13 hC14 ⊢
  clear hC
  go_enter Try.func13, Try.ntmps13
  go_upto_region 2 with (first | (refine wpList_load_row rfl 28 (.tmp 1) rfl w.heap.size rfl 28 _ (0, 0) _ K1 Try.underlying28 rfl HSZ ?_) | (go_at_call 10; refine (HCk.out _).mono ?_; rintro e w1 ⟨rfl, b1⟩))
  replace K1 := K1.below b1 K1.lt
  replace BX := thenB BX b1
  clear b1
  have k0 := (K1.cell 0).trans hC0
  go_upto_region 5 with (go_at_call 20; refine (HF.out _).mono ?_; rintro e w2 ⟨rfl, b1⟩)
  clear k0
  replace K1 := K1.below b1 K1.lt
  replace BX := thenB BX b1
  clear b1
  have b9 : Below w2.heap.size w2 (w2.alloc (.cells #[.bool true, .bool false, .bool true, .bool true, .bool false, .bool false, .bool false, .bool false, .bool false, .bool false, .bool false] 53)) := (Below.refl _ _).alloc (Nat.le_refl _) _
  have K3 : Blk (w2.alloc (.cells #[.bool true, .bool false, .bool true, .bool true, .bool false, .bool false, .bool false, .bool false, .bool false, .bool false, .bool false] 53)) w2.heap.size 53 #[.bool true, .bool false, .bool true, .bool true, .bool false, .bool false, .bool false, .bool false, .bool false, .bool false, .bool false] := Blk.fresh w2 53 #[.bool true, .bool false, .bool true, .bool true, .bool false, .bool false, .bool false, .bool false, .bool false, .bool false, .bool false]
  have hk1 := K1.lt
  replace K1 := K1.below b9 K1.lt
  replace BX := thenB BX b9
  clear b9
  generalize w2.alloc (.cells #[.bool true, .bool false, .bool true, .bool true, .bool false, .bool false, .bool false, .bool false, .bool false, .bool false, .bool false] 53) = X0 at *
  obtain ⟨g3, e3⟩ : ∃ g, w2.heap.size = g := ⟨_, rfl⟩
  rw [e3] at K3 hk1
  try simp only [e3]
  clear e3
  have k0 := (K1.cell 0).trans hC0
  go_upto_region 6 with (fail)
  clear k0
  have hB := K1.lt
  have hB3 := K3.lt
  have own : (X0.alloc (.cells #[.int .u8 (c.k % 256)] 5)).ownsRow X0.heap.size 5 1 (.slice (some ⟨X0.heap.size, 0, none⟩) 1 1) 1 ([c.k % 256].map (Value.int .u8)) := World.ownsRow_lit X0 #[.int .u8 (c.k % 256)] 1 (Nat.le_refl _) (by unfold maxLen; omega) rfl
  have hBs : X0.heap.size ≤ (X0.alloc (.cells #[.int .u8 (c.k % 256)] 5)).heap.size := by simp
  replace K1 := K1.alloc (.cells #[.int .u8 (c.k % 256)] 5)
  replace K3 := K3.alloc (.cells #[.int .u8 (c.k % 256)] 5)
  replace BX := BX.alloc BX.size (.cells #[.int .u8 (c.k % 256)] 5)
  generalize X0.alloc (.cells #[.int .u8 (c.k % 256)] 5) = X1 at *
  obtain ⟨B, eB⟩ : ∃ g, X0.heap.size = g := ⟨_, rfl⟩
  rw [eB] at own hB hB3 hBs
  try simp only [eB]
  clear eB
  have y1 := K3.cell 1
  have y2 := K3.cell 2
  have y3 := K3.cell 3
  have y4 := K3.cell 4
  have y5 := K3.cell 5
  have y6 := K3.cell 6
  have y7 := K3.cell 7
  have y8 := K3.cell 8
  have y9 := K3.cell 9
  have y10 := K3.cell 10
  go_upto_region 9 with (fail)
  clear y1 y2 y3 y4 y5 y6 y7 y8 y9 y10
  have k6 := (K1.cell 6).trans hC6
  go_upto_region 10 with (first | (go_at_call 27; refine (Hch.out _).mono ?_; intro e v2 m1; obtain ⟨A2, d2, rfl, ownx, b1⟩ := makes_len m1 Nch.out; have Ix := Ints.own ownx; replace own := own_below own b1; replace K1 := K1.below b1 K1.lt; replace K3 := K3.below b1 K3.lt; have hBs' : B ≤ v2.heap.size := Nat.le_trans hBs b1.size; replace BX := thenB BX b1; clear m1 b1 ownx) | (at_builtin; refine wpList_append_ints rfl _ _ 33 rfl .u8 B 5 i0 _ 1 Try.underlying33 hi hz0 hz1 hz2 rfl _ 1 _ rfl own _ A2 5 d2 (numL 5 (c.m : Int)) rfl Nch.out Ix ?c1 ?c2 ?c3 ?_; (case c1 => unfold maxLen; omega); (case c2 => omega); (case c3 => exact hBs'); intro V2 X2 own9 b9 _))
  clear k6
  have hBs2 : B ≤ X2.heap.size := Nat.le_trans hBs' b9.size
  replace K1 := K1.below b9 hB
  replace K3 := K3.below b9 hB3
  replace BX := BX.trans (b9.mono (Nat.le_of_lt hB))
  clear hBs' Ix
  clear own
  have own : X2.ownsRow B 5 1 V2 6 (([c.k % 256] ++ numL 5 (c.m : Int)).map (Value.int .u8)) := by rw [List.map_append]; exact own9
  clear own9 b9 hBs
  have hBs := hBs2
  clear hBs2
  have y1 := K3.cell 1
  have y2 := K3.cell 2
  have y3 := K3.cell 3
  have y4 := K3.cell 4
  have y5 := K3.cell 5
  have y6 := K3.cell 6
  have y7 := K3.cell 7
  have y8 := K3.cell 8
  have y9 := K3.cell 9
  have y10 := K3.cell 10
  go_upto_region 11 with (fail)
  clear y1 y2 y3 y4 y5 y6 y7 y8 y9 y10
  have k7 := (K1.cell 7).trans hC7
  go_upto_region 12 with (first | (go_at_call 27; refine (Him.out _).mono ?_; intro e v3 m1; obtain ⟨A3, d3, rfl, ownx, b1⟩ := makes_len m1 Nim.out; have Ix := Ints.own ownx; replace own := own_below own b1; replace K1 := K1.below b1 K1.lt; replace K3 := K3.below b1 K3.lt; have hBs' : B ≤ v3.heap.size := Nat.le_trans hBs b1.size; replace BX := thenB BX b1; clear m1 b1 ownx) | (at_builtin; refine wpList_append_ints rfl _ _ 33 rfl .u8 B 5 i0 _ 1 Try.underlying33 hi hz0 hz1 hz2 rfl _ 6 _ rfl own _ A3 2 d3 (numL 2 (u c.ins)) rfl Nim.out Ix ?c1 ?c2 ?c3 ?_; (case c1 => unfold maxLen; omega); (case c2 => omega); (case c3 => exact hBs'); intro V3 X3 own9 b9 _))
  clear k7
  have hBs2 : B ≤ X3.heap.size := Nat.le_trans hBs' b9.size
  replace K1 := K1.below b9 hB
  replace K3 := K3.below b9 hB3
  replace BX := BX.trans (b9.mono (Nat.le_of_lt hB))
  clear hBs' Ix
  clear own
  have own : X3.ownsRow B 5 1 V3 8 (([c.k % 256] ++ numL 5 (c.m : Int) ++ numL 2 (u c.ins)).map (Value.int .u8)) := by rw [List.map_append]; exact own9
  clear own9 b9 hBs
  have hBs := hBs2
  clear hBs2
  have y1 := K3.cell 1
  have y2 := K3.cell 2
  have y3 := K3.cell 3
  have y4 := K3.cell 4
  have y5 := K3.cell 5
  have y6 := K3.cell 6
  have y7 := K3.cell 7
  have y8 := K3.cell 8
  have y9 := K3.cell 9
  have y10 := K3.cell 10
  go_upto_region 26 with (fail)
  clear y1 y2 y3 y4 y5 y6 y7 y8 y9 y10
  go_wp2_with fail
  refine bodyPost_ret (results_tmp2 rfl _ _ _) rfl ?_
  exact gives_of rfl rfl (by simp [numL_len]) (own_base own (Nat.le_of_lt hB)) BX
set_option maxRecDepth 100000 in
set_option maxHeartbeats 4000000 in
theorem renc_rs (c : Ct) (w : World) (hg : GoodC c) (hp : ptsK c.k = some [.rs]) (h0 : chkC c = 0) : Calls Try.prog 13 #[.agg (encC c)] w fun e w' => Gives w w' e ([c.k % 256] ++ [c.rs % 256], 0) := by
  obtain ⟨i0, hi, hz0, hz1, hz2⟩ := info_parts info_u8
  have BX : Below w.heap.size w (w.alloc (.cells (encC c) 28)) := (Below.refl _ _).alloc (Nat.le_refl _) _
  have K1 : Blk (w.alloc (.cells (encC c) 28)) w.heap.size 28 (encC c) := Blk.fresh w 28 (encC c)
  have HSZ : (Try.prog.info? 28).map (·.size) = some (encC c).size := by kernel_rfl
  have HCk : Hid (∀ w, Calls Try.prog 10 #[.agg (encC c)] w fun e w' => e = .returned (.int .i64 0) ∧ Below w.heap.size w w') := Lib.hid fun w => by have := rchk_any c w hg; rw [h0] at this; exact this
  have HF : Hid (∀ w, Calls Try.prog 20 #[.int .i64 c.k] w fun e w' => e = .returned (.agg #[.bool true, .bool false, .bool false, .bool false, .bool true, .bool false, .bool false, .bool false, .bool false, .bool false, .bool false]) ∧ Below w.heap.size w w') := Lib.hid fun w => by have := fields_k c.k w; rw [hp] at this; exact this
  clear hp h0 hg
  have hC1 : (encC c)[1]? = some (.int .i64 c.ws) := rfl
  have hC2 : (encC c)[2]? = some (.int .i64 c.wo) := rfl
  have hC3 : (encC c)[3]? = some (.int .i64 c.it) := rfl
  have hC4 : (encC c)[4]? = some (.int .i64 c.la) := rfl
  have hC5 : (encC c)[5]? = some (.int .i64 c.ti) := rfl
  have hC6 : (encC c)[6]? = some (.int .u64 (c.m : Int)) := rfl
  have hC7 : (encC c)[7]? = some (.int .u16 c.ins) := rfl
  have hC8 : (encC c)[8]? = some (.int .i64 c.rs) := rfl
  have hC9 : (encC c)[9]? = some (.int .i64 c.rj) := rfl
  have hC10 : (encC c)[10]? = some (.int .u64 c.st) := rfl
  have hC11 : (encC c)[11]? = some (.int .u64 c.mr) := rfl
  have hC12 : (encC c)[12]? = some (.int .u64 c.ft) := rfl
  have hC13 : (encC c)[13]? = some (.int .i64 c.vs) := rfl
  have hC14 : (encC c)[14]? = some (.int .i64 c.ln) := rfl
  have hC0 : (encC c)[0]? = some (.int .i64 c.k) := rfl
  obtain ⟨C, hC⟩ : ∃ C, encC c = C := ⟨_, rfl⟩
  rw [hC] at BX K1 HSZ HCk hC0 hC1 hC2 hC3 hC4 hC5 hC6 hC7 hC8 hC9 hC10 hC11 hC12 hC13 hC14 ⊢
  clear hC
  go_enter Try.func13, Try.ntmps13
  go_upto_region 2 with (first | (refine wpList_load_row rfl 28 (.tmp 1) rfl w.heap.size rfl 28 _ (0, 0) _ K1 Try.underlying28 rfl HSZ ?_) | (go_at_call 10; refine (HCk.out _).mono ?_; rintro e w1 ⟨rfl, b1⟩))
  replace K1 := K1.below b1 K1.lt
  replace BX := thenB BX b1
  clear b1
  have k0 := (K1.cell 0).trans hC0
  go_upto_region 5 with (go_at_call 20; refine (HF.out _).mono ?_; rintro e w2 ⟨rfl, b1⟩)
  clear k0
  replace K1 := K1.below b1 K1.lt
  replace BX := thenB BX b1
  clear b1
  have b9 : Below w2.heap.size w2 (w2.alloc (.cells #[.bool true, .bool false, .bool false, .bool false, .bool true, .bool false, .bool false, .bool false, .bool false, .bool false, .bool false] 53)) := (Below.refl _ _).alloc (Nat.le_refl _) _
  have K3 : Blk (w2.alloc (.cells #[.bool true, .bool false, .bool false, .bool false, .bool true, .bool false, .bool false, .bool false, .bool false, .bool false, .bool false] 53)) w2.heap.size 53 #[.bool true, .bool false, .bool false, .bool false, .bool true, .bool false, .bool false, .bool false, .bool false, .bool false, .bool false] := Blk.fresh w2 53 #[.bool true, .bool false, .bool false, .bool false, .bool true, .bool false, .bool false, .bool false, .bool false, .bool false, .bool false]
  have hk1 := K1.lt
  replace K1 := K1.below b9 K1.lt
  replace BX := thenB BX b9
  clear b9
  generalize w2.alloc (.cells #[.bool true, .bool false, .bool false, .bool false, .bool true, .bool false, .bool false, .bool false, .bool false, .bool false, .bool false] 53) = X0 at *
  obtain ⟨g3, e3⟩ : ∃ g, w2.heap.size = g := ⟨_, rfl⟩
  rw [e3] at K3 hk1
  try simp only [e3]
  clear e3
  have k0 := (K1.cell 0).trans hC0
  go_upto_region 6 with (fail)
  clear k0
  have hB := K1.lt
  have hB3 := K3.lt
  have own : (X0.alloc (.cells #[.int .u8 (c.k % 256)] 5)).ownsRow X0.heap.size 5 1 (.slice (some ⟨X0.heap.size, 0, none⟩) 1 1) 1 ([c.k % 256].map (Value.int .u8)) := World.ownsRow_lit X0 #[.int .u8 (c.k % 256)] 1 (Nat.le_refl _) (by unfold maxLen; omega) rfl
  have hBs : X0.heap.size ≤ (X0.alloc (.cells #[.int .u8 (c.k % 256)] 5)).heap.size := by simp
  replace K1 := K1.alloc (.cells #[.int .u8 (c.k % 256)] 5)
  replace K3 := K3.alloc (.cells #[.int .u8 (c.k % 256)] 5)
  replace BX := BX.alloc BX.size (.cells #[.int .u8 (c.k % 256)] 5)
  generalize X0.alloc (.cells #[.int .u8 (c.k % 256)] 5) = X1 at *
  obtain ⟨B, eB⟩ : ∃ g, X0.heap.size = g := ⟨_, rfl⟩
  rw [eB] at own hB hB3 hBs
  try simp only [eB]
  clear eB
  have y1 := K3.cell 1
  have y2 := K3.cell 2
  have y3 := K3.cell 3
  have y4 := K3.cell 4
  have y5 := K3.cell 5
  have y6 := K3.cell 6
  have y7 := K3.cell 7
  have y8 := K3.cell 8
  have y9 := K3.cell 9
  have y10 := K3.cell 10
  go_upto_region 13 with (fail)
  clear y1 y2 y3 y4 y5 y6 y7 y8 y9 y10
  have k8 := (K1.cell 8).trans hC8
  go_upto_region 14 with (at_builtin; refine wpList_append_ints rfl _ _ 33 rfl .u8 B 5 i0 _ 1 Try.underlying33 hi hz0 hz1 hz2 rfl _ 1 _ rfl (own_below own ((Below.refl _ _).alloc (Nat.le_refl _) _)) (X1.heap.size + 1) _ 1 1 [c.rs % 256] rfl rfl ?c1 ?c2 ?c3 ?c4 ?_; (case c1 => exact Ints.lit _ _ _ _ _ rfl); (case c2 => unfold maxLen; omega); (case c3 => omega); (case c4 => have := hBs; simp; omega); intro V2 X2 own9 b9 _)
  clear k8
  have hBs2 : B ≤ X2.heap.size := Nat.le_trans (by have := hBs; simp; omega) b9.size
  replace K1 := (K1.alloc _).below b9 hB
  replace K3 := (K3.alloc _).below b9 hB3
  replace BX := (BX.alloc BX.size _).trans (b9.mono (Nat.le_of_lt hB))
  clear own
  have own : X2.ownsRow B 5 1 V2 2 (([c.k % 256] ++ [c.rs % 256]).map (Value.int .u8)) := by rw [List.map_append]; exact own9
  clear own9 b9 hBs
  have hBs := hBs2
  clear hBs2
  have y1 := K3.cell 1
  have y2 := K3.cell 2
  have y3 := K3.cell 3
  have y4 := K3.cell 4
  have y5 := K3.cell 5
  have y6 := K3.cell 6
  have y7 := K3.cell 7
  have y8 := K3.cell 8
  have y9 := K3.cell 9
  have y10 := K3.cell 10
  go_upto_region 26 with (fail)
  clear y1 y2 y3 y4 y5 y6 y7 y8 y9 y10
  go_wp2_with fail
  refine bodyPost_ret (results_tmp2 rfl _ _ _) rfl ?_
  exact gives_of rfl rfl (by simp) (own_base own (Nat.le_of_lt hB)) BX
set_option maxRecDepth 100000 in
set_option maxHeartbeats 4000000 in
theorem renc_sa_mk (c : Ct) (w : World) (hg : GoodC c) (hp : ptsK c.k = some [.sa, .mk]) (h0 : chkC c = 0) : Calls Try.prog 13 #[.agg (encC c)] w fun e w' => Gives w w' e ([c.k % 256] ++ numL 8 c.st ++ numL 8 c.mr, 0) := by
  obtain ⟨i0, hi, hz0, hz1, hz2⟩ := info_parts info_u8
  have BX : Below w.heap.size w (w.alloc (.cells (encC c) 28)) := (Below.refl _ _).alloc (Nat.le_refl _) _
  have K1 : Blk (w.alloc (.cells (encC c) 28)) w.heap.size 28 (encC c) := Blk.fresh w 28 (encC c)
  have HSZ : (Try.prog.info? 28).map (·.size) = some (encC c).size := by kernel_rfl
  have HCk : Hid (∀ w, Calls Try.prog 10 #[.agg (encC c)] w fun e w' => e = .returned (.int .i64 0) ∧ Below w.heap.size w w') := Lib.hid fun w => by have := rchk_any c w hg; rw [h0] at this; exact this
  have HF : Hid (∀ w, Calls Try.prog 20 #[.int .i64 c.k] w fun e w' => e = .returned (.agg #[.bool true, .bool false, .bool false, .bool false, .bool false, .bool false, .bool true, .bool true, .bool false, .bool false, .bool false]) ∧ Below w.heap.size w w') := Lib.hid fun w => by have := fields_k c.k w; rw [hp] at this; exact this
  have Hsa : Hid (∀ w, Calls Try.prog 27 #[.int .u64 c.st, .int .i64 8] w fun e w' => Oct.Makes w w' e (numL 8 c.st)) := Lib.hid fun w => rput_any 8 c.st w (by decide) (hg.2.2.2.2.2.2.2.2.2.2.1)
  have Nsa := Lib.hid (numL_len 8 c.st)
  have Hmk : Hid (∀ w, Calls Try.prog 27 #[.int .u64 c.mr, .int .i64 8] w fun e w' => Oct.Makes w w' e (numL 8 c.mr)) := Lib.hid fun w => rput_any 8 c.mr w (by decide) (hg.2.2.2.2.2.2.2.2.2.2.2.1)
  have Nmk := Lib.hid (numL_len 8 c.mr)
  clear hp h0 hg
  have hC1 : (encC c)[1]? = some (.int .i64 c.ws) := rfl
  have hC2 : (encC c)[2]? = some (.int .i64 c.wo) := rfl
  have hC3 : (encC c)[3]? = some (.int .i64 c.it) := rfl
  have hC4 : (encC c)[4]? = some (.int .i64 c.la) := rfl
  have hC5 : (encC c)[5]? = some (.int .i64 c.ti) := rfl
  have hC6 : (encC c)[6]? = some (.int .u64 (c.m : Int)) := rfl
  have hC7 : (encC c)[7]? = some (.int .u16 c.ins) := rfl
  have hC8 : (encC c)[8]? = some (.int .i64 c.rs) := rfl
  have hC9 : (encC c)[9]? = some (.int .i64 c.rj) := rfl
  have hC10 : (encC c)[10]? = some (.int .u64 c.st) := rfl
  have hC11 : (encC c)[11]? = some (.int .u64 c.mr) := rfl
  have hC12 : (encC c)[12]? = some (.int .u64 c.ft) := rfl
  have hC13 : (encC c)[13]? = some (.int .i64 c.vs) := rfl
  have hC14 : (encC c)[14]? = some (.int .i64 c.ln) := rfl
  have hC0 : (encC c)[0]? = some (.int .i64 c.k) := rfl
  obtain ⟨C, hC⟩ : ∃ C, encC c = C := ⟨_, rfl⟩
  rw [hC] at BX K1 HSZ HCk hC0 hC1 hC2 hC3 hC4 hC5 hC6 hC7 hC8 hC9 hC10 hC11 hC12 hC13 hC14 ⊢
  clear hC
  go_enter Try.func13, Try.ntmps13
  go_upto_region 2 with (first | (refine wpList_load_row rfl 28 (.tmp 1) rfl w.heap.size rfl 28 _ (0, 0) _ K1 Try.underlying28 rfl HSZ ?_) | (go_at_call 10; refine (HCk.out _).mono ?_; rintro e w1 ⟨rfl, b1⟩))
  replace K1 := K1.below b1 K1.lt
  replace BX := thenB BX b1
  clear b1
  have k0 := (K1.cell 0).trans hC0
  go_upto_region 5 with (go_at_call 20; refine (HF.out _).mono ?_; rintro e w2 ⟨rfl, b1⟩)
  clear k0
  replace K1 := K1.below b1 K1.lt
  replace BX := thenB BX b1
  clear b1
  have b9 : Below w2.heap.size w2 (w2.alloc (.cells #[.bool true, .bool false, .bool false, .bool false, .bool false, .bool false, .bool true, .bool true, .bool false, .bool false, .bool false] 53)) := (Below.refl _ _).alloc (Nat.le_refl _) _
  have K3 : Blk (w2.alloc (.cells #[.bool true, .bool false, .bool false, .bool false, .bool false, .bool false, .bool true, .bool true, .bool false, .bool false, .bool false] 53)) w2.heap.size 53 #[.bool true, .bool false, .bool false, .bool false, .bool false, .bool false, .bool true, .bool true, .bool false, .bool false, .bool false] := Blk.fresh w2 53 #[.bool true, .bool false, .bool false, .bool false, .bool false, .bool false, .bool true, .bool true, .bool false, .bool false, .bool false]
  have hk1 := K1.lt
  replace K1 := K1.below b9 K1.lt
  replace BX := thenB BX b9
  clear b9
  generalize w2.alloc (.cells #[.bool true, .bool false, .bool false, .bool false, .bool false, .bool false, .bool true, .bool true, .bool false, .bool false, .bool false] 53) = X0 at *
  obtain ⟨g3, e3⟩ : ∃ g, w2.heap.size = g := ⟨_, rfl⟩
  rw [e3] at K3 hk1
  try simp only [e3]
  clear e3
  have k0 := (K1.cell 0).trans hC0
  go_upto_region 6 with (fail)
  clear k0
  have hB := K1.lt
  have hB3 := K3.lt
  have own : (X0.alloc (.cells #[.int .u8 (c.k % 256)] 5)).ownsRow X0.heap.size 5 1 (.slice (some ⟨X0.heap.size, 0, none⟩) 1 1) 1 ([c.k % 256].map (Value.int .u8)) := World.ownsRow_lit X0 #[.int .u8 (c.k % 256)] 1 (Nat.le_refl _) (by unfold maxLen; omega) rfl
  have hBs : X0.heap.size ≤ (X0.alloc (.cells #[.int .u8 (c.k % 256)] 5)).heap.size := by simp
  replace K1 := K1.alloc (.cells #[.int .u8 (c.k % 256)] 5)
  replace K3 := K3.alloc (.cells #[.int .u8 (c.k % 256)] 5)
  replace BX := BX.alloc BX.size (.cells #[.int .u8 (c.k % 256)] 5)
  generalize X0.alloc (.cells #[.int .u8 (c.k % 256)] 5) = X1 at *
  obtain ⟨B, eB⟩ : ∃ g, X0.heap.size = g := ⟨_, rfl⟩
  rw [eB] at own hB hB3 hBs
  try simp only [eB]
  clear eB
  have y1 := K3.cell 1
  have y2 := K3.cell 2
  have y3 := K3.cell 3
  have y4 := K3.cell 4
  have y5 := K3.cell 5
  have y6 := K3.cell 6
  have y7 := K3.cell 7
  have y8 := K3.cell 8
  have y9 := K3.cell 9
  have y10 := K3.cell 10
  go_upto_region 17 with (fail)
  clear y1 y2 y3 y4 y5 y6 y7 y8 y9 y10
  have k10 := (K1.cell 10).trans hC10
  go_upto_region 18 with (first | (go_at_call 27; refine (Hsa.out _).mono ?_; intro e v2 m1; obtain ⟨A2, d2, rfl, ownx, b1⟩ := makes_len m1 Nsa.out; have Ix := Ints.own ownx; replace own := own_below own b1; replace K1 := K1.below b1 K1.lt; replace K3 := K3.below b1 K3.lt; have hBs' : B ≤ v2.heap.size := Nat.le_trans hBs b1.size; replace BX := thenB BX b1; clear m1 b1 ownx) | (at_builtin; refine wpList_append_ints rfl _ _ 33 rfl .u8 B 5 i0 _ 1 Try.underlying33 hi hz0 hz1 hz2 rfl _ 1 _ rfl own _ A2 8 d2 (numL 8 c.st) rfl Nsa.out Ix ?c1 ?c2 ?c3 ?_; (case c1 => unfold maxLen; omega); (case c2 => omega); (case c3 => exact hBs'); intro V2 X2 own9 b9 _))
  clear k10
  have hBs2 : B ≤ X2.heap.size := Nat.le_trans hBs' b9.size
  replace K1 := K1.below b9 hB
  replace K3 := K3.below b9 hB3
  replace BX := BX.trans (b9.mono (Nat.le_of_lt hB))
  clear hBs' Ix
  clear own
  have own : X2.ownsRow B 5 1 V2 9 (([c.k % 256] ++ numL 8 c.st).map (Value.int .u8)) := by rw [List.map_append]; exact own9
  clear own9 b9 hBs
  have hBs := hBs2
  clear hBs2
  have y1 := K3.cell 1
  have y2 := K3.cell 2
  have y3 := K3.cell 3
  have y4 := K3.cell 4
  have y5 := K3.cell 5
  have y6 := K3.cell 6
  have y7 := K3.cell 7
  have y8 := K3.cell 8
  have y9 := K3.cell 9
  have y10 := K3.cell 10
  go_upto_region 19 with (fail)
  clear y1 y2 y3 y4 y5 y6 y7 y8 y9 y10
  have k11 := (K1.cell 11).trans hC11
  go_upto_region 20 with (first | (go_at_call 27; refine (Hmk.out _).mono ?_; intro e v3 m1; obtain ⟨A3, d3, rfl, ownx, b1⟩ := makes_len m1 Nmk.out; have Ix := Ints.own ownx; replace own := own_below own b1; replace K1 := K1.below b1 K1.lt; replace K3 := K3.below b1 K3.lt; have hBs' : B ≤ v3.heap.size := Nat.le_trans hBs b1.size; replace BX := thenB BX b1; clear m1 b1 ownx) | (at_builtin; refine wpList_append_ints rfl _ _ 33 rfl .u8 B 5 i0 _ 1 Try.underlying33 hi hz0 hz1 hz2 rfl _ 9 _ rfl own _ A3 8 d3 (numL 8 c.mr) rfl Nmk.out Ix ?c1 ?c2 ?c3 ?_; (case c1 => unfold maxLen; omega); (case c2 => omega); (case c3 => exact hBs'); intro V3 X3 own9 b9 _))
  clear k11
  have hBs2 : B ≤ X3.heap.size := Nat.le_trans hBs' b9.size
  replace K1 := K1.below b9 hB
  replace K3 := K3.below b9 hB3
  replace BX := BX.trans (b9.mono (Nat.le_of_lt hB))
  clear hBs' Ix
  clear own
  have own : X3.ownsRow B 5 1 V3 17 (([c.k % 256] ++ numL 8 c.st ++ numL 8 c.mr).map (Value.int .u8)) := by rw [List.map_append]; exact own9
  clear own9 b9 hBs
  have hBs := hBs2
  clear hBs2
  have y1 := K3.cell 1
  have y2 := K3.cell 2
  have y3 := K3.cell 3
  have y4 := K3.cell 4
  have y5 := K3.cell 5
  have y6 := K3.cell 6
  have y7 := K3.cell 7
  have y8 := K3.cell 8
  have y9 := K3.cell 9
  have y10 := K3.cell 10
  go_upto_region 26 with (fail)
  clear y1 y2 y3 y4 y5 y6 y7 y8 y9 y10
  go_wp2_with fail
  refine bodyPost_ret (results_tmp2 rfl _ _ _) rfl ?_
  exact gives_of rfl rfl (by simp [numL_len]) (own_base own (Nat.le_of_lt hB)) BX
set_option maxRecDepth 100000 in
set_option maxHeartbeats 4000000 in
theorem renc_sa (c : Ct) (w : World) (hg : GoodC c) (hp : ptsK c.k = some [.sa]) (h0 : chkC c = 0) : Calls Try.prog 13 #[.agg (encC c)] w fun e w' => Gives w w' e ([c.k % 256] ++ numL 8 c.st, 0) := by
  obtain ⟨i0, hi, hz0, hz1, hz2⟩ := info_parts info_u8
  have BX : Below w.heap.size w (w.alloc (.cells (encC c) 28)) := (Below.refl _ _).alloc (Nat.le_refl _) _
  have K1 : Blk (w.alloc (.cells (encC c) 28)) w.heap.size 28 (encC c) := Blk.fresh w 28 (encC c)
  have HSZ : (Try.prog.info? 28).map (·.size) = some (encC c).size := by kernel_rfl
  have HCk : Hid (∀ w, Calls Try.prog 10 #[.agg (encC c)] w fun e w' => e = .returned (.int .i64 0) ∧ Below w.heap.size w w') := Lib.hid fun w => by have := rchk_any c w hg; rw [h0] at this; exact this
  have HF : Hid (∀ w, Calls Try.prog 20 #[.int .i64 c.k] w fun e w' => e = .returned (.agg #[.bool true, .bool false, .bool false, .bool false, .bool false, .bool false, .bool true, .bool false, .bool false, .bool false, .bool false]) ∧ Below w.heap.size w w') := Lib.hid fun w => by have := fields_k c.k w; rw [hp] at this; exact this
  have Hsa : Hid (∀ w, Calls Try.prog 27 #[.int .u64 c.st, .int .i64 8] w fun e w' => Oct.Makes w w' e (numL 8 c.st)) := Lib.hid fun w => rput_any 8 c.st w (by decide) (hg.2.2.2.2.2.2.2.2.2.2.1)
  have Nsa := Lib.hid (numL_len 8 c.st)
  clear hp h0 hg
  have hC1 : (encC c)[1]? = some (.int .i64 c.ws) := rfl
  have hC2 : (encC c)[2]? = some (.int .i64 c.wo) := rfl
  have hC3 : (encC c)[3]? = some (.int .i64 c.it) := rfl
  have hC4 : (encC c)[4]? = some (.int .i64 c.la) := rfl
  have hC5 : (encC c)[5]? = some (.int .i64 c.ti) := rfl
  have hC6 : (encC c)[6]? = some (.int .u64 (c.m : Int)) := rfl
  have hC7 : (encC c)[7]? = some (.int .u16 c.ins) := rfl
  have hC8 : (encC c)[8]? = some (.int .i64 c.rs) := rfl
  have hC9 : (encC c)[9]? = some (.int .i64 c.rj) := rfl
  have hC10 : (encC c)[10]? = some (.int .u64 c.st) := rfl
  have hC11 : (encC c)[11]? = some (.int .u64 c.mr) := rfl
  have hC12 : (encC c)[12]? = some (.int .u64 c.ft) := rfl
  have hC13 : (encC c)[13]? = some (.int .i64 c.vs) := rfl
  have hC14 : (encC c)[14]? = some (.int .i64 c.ln) := rfl
  have hC0 : (encC c)[0]? = some (.int .i64 c.k) := rfl
  obtain ⟨C, hC⟩ : ∃ C, encC c = C := ⟨_, rfl⟩
  rw [hC] at BX K1 HSZ HCk hC0 hC1 hC2 hC3 hC4 hC5 hC6 hC7 hC8 hC9 hC10 hC11 hC12 hC13 hC14 ⊢
  clear hC
  go_enter Try.func13, Try.ntmps13
  go_upto_region 2 with (first | (refine wpList_load_row rfl 28 (.tmp 1) rfl w.heap.size rfl 28 _ (0, 0) _ K1 Try.underlying28 rfl HSZ ?_) | (go_at_call 10; refine (HCk.out _).mono ?_; rintro e w1 ⟨rfl, b1⟩))
  replace K1 := K1.below b1 K1.lt
  replace BX := thenB BX b1
  clear b1
  have k0 := (K1.cell 0).trans hC0
  go_upto_region 5 with (go_at_call 20; refine (HF.out _).mono ?_; rintro e w2 ⟨rfl, b1⟩)
  clear k0
  replace K1 := K1.below b1 K1.lt
  replace BX := thenB BX b1
  clear b1
  have b9 : Below w2.heap.size w2 (w2.alloc (.cells #[.bool true, .bool false, .bool false, .bool false, .bool false, .bool false, .bool true, .bool false, .bool false, .bool false, .bool false] 53)) := (Below.refl _ _).alloc (Nat.le_refl _) _
  have K3 : Blk (w2.alloc (.cells #[.bool true, .bool false, .bool false, .bool false, .bool false, .bool false, .bool true, .bool false, .bool false, .bool false, .bool false] 53)) w2.heap.size 53 #[.bool true, .bool false, .bool false, .bool false, .bool false, .bool false, .bool true, .bool false, .bool false, .bool false, .bool false] := Blk.fresh w2 53 #[.bool true, .bool false, .bool false, .bool false, .bool false, .bool false, .bool true, .bool false, .bool false, .bool false, .bool false]
  have hk1 := K1.lt
  replace K1 := K1.below b9 K1.lt
  replace BX := thenB BX b9
  clear b9
  generalize w2.alloc (.cells #[.bool true, .bool false, .bool false, .bool false, .bool false, .bool false, .bool true, .bool false, .bool false, .bool false, .bool false] 53) = X0 at *
  obtain ⟨g3, e3⟩ : ∃ g, w2.heap.size = g := ⟨_, rfl⟩
  rw [e3] at K3 hk1
  try simp only [e3]
  clear e3
  have k0 := (K1.cell 0).trans hC0
  go_upto_region 6 with (fail)
  clear k0
  have hB := K1.lt
  have hB3 := K3.lt
  have own : (X0.alloc (.cells #[.int .u8 (c.k % 256)] 5)).ownsRow X0.heap.size 5 1 (.slice (some ⟨X0.heap.size, 0, none⟩) 1 1) 1 ([c.k % 256].map (Value.int .u8)) := World.ownsRow_lit X0 #[.int .u8 (c.k % 256)] 1 (Nat.le_refl _) (by unfold maxLen; omega) rfl
  have hBs : X0.heap.size ≤ (X0.alloc (.cells #[.int .u8 (c.k % 256)] 5)).heap.size := by simp
  replace K1 := K1.alloc (.cells #[.int .u8 (c.k % 256)] 5)
  replace K3 := K3.alloc (.cells #[.int .u8 (c.k % 256)] 5)
  replace BX := BX.alloc BX.size (.cells #[.int .u8 (c.k % 256)] 5)
  generalize X0.alloc (.cells #[.int .u8 (c.k % 256)] 5) = X1 at *
  obtain ⟨B, eB⟩ : ∃ g, X0.heap.size = g := ⟨_, rfl⟩
  rw [eB] at own hB hB3 hBs
  try simp only [eB]
  clear eB
  have y1 := K3.cell 1
  have y2 := K3.cell 2
  have y3 := K3.cell 3
  have y4 := K3.cell 4
  have y5 := K3.cell 5
  have y6 := K3.cell 6
  have y7 := K3.cell 7
  have y8 := K3.cell 8
  have y9 := K3.cell 9
  have y10 := K3.cell 10
  go_upto_region 17 with (fail)
  clear y1 y2 y3 y4 y5 y6 y7 y8 y9 y10
  have k10 := (K1.cell 10).trans hC10
  go_upto_region 18 with (first | (go_at_call 27; refine (Hsa.out _).mono ?_; intro e v2 m1; obtain ⟨A2, d2, rfl, ownx, b1⟩ := makes_len m1 Nsa.out; have Ix := Ints.own ownx; replace own := own_below own b1; replace K1 := K1.below b1 K1.lt; replace K3 := K3.below b1 K3.lt; have hBs' : B ≤ v2.heap.size := Nat.le_trans hBs b1.size; replace BX := thenB BX b1; clear m1 b1 ownx) | (at_builtin; refine wpList_append_ints rfl _ _ 33 rfl .u8 B 5 i0 _ 1 Try.underlying33 hi hz0 hz1 hz2 rfl _ 1 _ rfl own _ A2 8 d2 (numL 8 c.st) rfl Nsa.out Ix ?c1 ?c2 ?c3 ?_; (case c1 => unfold maxLen; omega); (case c2 => omega); (case c3 => exact hBs'); intro V2 X2 own9 b9 _))
  clear k10
  have hBs2 : B ≤ X2.heap.size := Nat.le_trans hBs' b9.size
  replace K1 := K1.below b9 hB
  replace K3 := K3.below b9 hB3
  replace BX := BX.trans (b9.mono (Nat.le_of_lt hB))
  clear hBs' Ix
  clear own
  have own : X2.ownsRow B 5 1 V2 9 (([c.k % 256] ++ numL 8 c.st).map (Value.int .u8)) := by rw [List.map_append]; exact own9
  clear own9 b9 hBs
  have hBs := hBs2
  clear hBs2
  have y1 := K3.cell 1
  have y2 := K3.cell 2
  have y3 := K3.cell 3
  have y4 := K3.cell 4
  have y5 := K3.cell 5
  have y6 := K3.cell 6
  have y7 := K3.cell 7
  have y8 := K3.cell 8
  have y9 := K3.cell 9
  have y10 := K3.cell 10
  go_upto_region 26 with (fail)
  clear y1 y2 y3 y4 y5 y6 y7 y8 y9 y10
  go_wp2_with fail
  refine bodyPost_ret (results_tmp2 rfl _ _ _) rfl ?_
  exact gives_of rfl rfl (by simp [numL_len]) (own_base own (Nat.le_of_lt hB)) BX
set_option maxRecDepth 100000 in
set_option maxHeartbeats 4000000 in
theorem renc_no (c : Ct) (w : World) (hg : GoodC c) (hp : ptsK c.k = some []) (h0 : chkC c = 0) : Calls Try.prog 13 #[.agg (encC c)] w fun e w' => Gives w w' e ([c.k % 256], 0) := by
  obtain ⟨i0, hi, hz0, hz1, hz2⟩ := info_parts info_u8
  have BX : Below w.heap.size w (w.alloc (.cells (encC c) 28)) := (Below.refl _ _).alloc (Nat.le_refl _) _
  have K1 : Blk (w.alloc (.cells (encC c) 28)) w.heap.size 28 (encC c) := Blk.fresh w 28 (encC c)
  have HSZ : (Try.prog.info? 28).map (·.size) = some (encC c).size := by kernel_rfl
  have HCk : Hid (∀ w, Calls Try.prog 10 #[.agg (encC c)] w fun e w' => e = .returned (.int .i64 0) ∧ Below w.heap.size w w') := Lib.hid fun w => by have := rchk_any c w hg; rw [h0] at this; exact this
  have HF : Hid (∀ w, Calls Try.prog 20 #[.int .i64 c.k] w fun e w' => e = .returned (.agg #[.bool true, .bool false, .bool false, .bool false, .bool false, .bool false, .bool false, .bool false, .bool false, .bool false, .bool false]) ∧ Below w.heap.size w w') := Lib.hid fun w => by have := fields_k c.k w; rw [hp] at this; exact this
  clear hp h0 hg
  have hC1 : (encC c)[1]? = some (.int .i64 c.ws) := rfl
  have hC2 : (encC c)[2]? = some (.int .i64 c.wo) := rfl
  have hC3 : (encC c)[3]? = some (.int .i64 c.it) := rfl
  have hC4 : (encC c)[4]? = some (.int .i64 c.la) := rfl
  have hC5 : (encC c)[5]? = some (.int .i64 c.ti) := rfl
  have hC6 : (encC c)[6]? = some (.int .u64 (c.m : Int)) := rfl
  have hC7 : (encC c)[7]? = some (.int .u16 c.ins) := rfl
  have hC8 : (encC c)[8]? = some (.int .i64 c.rs) := rfl
  have hC9 : (encC c)[9]? = some (.int .i64 c.rj) := rfl
  have hC10 : (encC c)[10]? = some (.int .u64 c.st) := rfl
  have hC11 : (encC c)[11]? = some (.int .u64 c.mr) := rfl
  have hC12 : (encC c)[12]? = some (.int .u64 c.ft) := rfl
  have hC13 : (encC c)[13]? = some (.int .i64 c.vs) := rfl
  have hC14 : (encC c)[14]? = some (.int .i64 c.ln) := rfl
  have hC0 : (encC c)[0]? = some (.int .i64 c.k) := rfl
  obtain ⟨C, hC⟩ : ∃ C, encC c = C := ⟨_, rfl⟩
  rw [hC] at BX K1 HSZ HCk hC0 hC1 hC2 hC3 hC4 hC5 hC6 hC7 hC8 hC9 hC10 hC11 hC12 hC13 hC14 ⊢
  clear hC
  go_enter Try.func13, Try.ntmps13
  go_upto_region 2 with (first | (refine wpList_load_row rfl 28 (.tmp 1) rfl w.heap.size rfl 28 _ (0, 0) _ K1 Try.underlying28 rfl HSZ ?_) | (go_at_call 10; refine (HCk.out _).mono ?_; rintro e w1 ⟨rfl, b1⟩))
  replace K1 := K1.below b1 K1.lt
  replace BX := thenB BX b1
  clear b1
  have k0 := (K1.cell 0).trans hC0
  go_upto_region 5 with (go_at_call 20; refine (HF.out _).mono ?_; rintro e w2 ⟨rfl, b1⟩)
  clear k0
  replace K1 := K1.below b1 K1.lt
  replace BX := thenB BX b1
  clear b1
  have b9 : Below w2.heap.size w2 (w2.alloc (.cells #[.bool true, .bool false, .bool false, .bool false, .bool false, .bool false, .bool false, .bool false, .bool false, .bool false, .bool false] 53)) := (Below.refl _ _).alloc (Nat.le_refl _) _
  have K3 : Blk (w2.alloc (.cells #[.bool true, .bool false, .bool false, .bool false, .bool false, .bool false, .bool false, .bool false, .bool false, .bool false, .bool false] 53)) w2.heap.size 53 #[.bool true, .bool false, .bool false, .bool false, .bool false, .bool false, .bool false, .bool false, .bool false, .bool false, .bool false] := Blk.fresh w2 53 #[.bool true, .bool false, .bool false, .bool false, .bool false, .bool false, .bool false, .bool false, .bool false, .bool false, .bool false]
  have hk1 := K1.lt
  replace K1 := K1.below b9 K1.lt
  replace BX := thenB BX b9
  clear b9
  generalize w2.alloc (.cells #[.bool true, .bool false, .bool false, .bool false, .bool false, .bool false, .bool false, .bool false, .bool false, .bool false, .bool false] 53) = X0 at *
  obtain ⟨g3, e3⟩ : ∃ g, w2.heap.size = g := ⟨_, rfl⟩
  rw [e3] at K3 hk1
  try simp only [e3]
  clear e3
  have k0 := (K1.cell 0).trans hC0
  go_upto_region 6 with (fail)
  clear k0
  have hB := K1.lt
  have hB3 := K3.lt
  have own : (X0.alloc (.cells #[.int .u8 (c.k % 256)] 5)).ownsRow X0.heap.size 5 1 (.slice (some ⟨X0.heap.size, 0, none⟩) 1 1) 1 ([c.k % 256].map (Value.int .u8)) := World.ownsRow_lit X0 #[.int .u8 (c.k % 256)] 1 (Nat.le_refl _) (by unfold maxLen; omega) rfl
  have hBs : X0.heap.size ≤ (X0.alloc (.cells #[.int .u8 (c.k % 256)] 5)).heap.size := by simp
  replace K1 := K1.alloc (.cells #[.int .u8 (c.k % 256)] 5)
  replace K3 := K3.alloc (.cells #[.int .u8 (c.k % 256)] 5)
  replace BX := BX.alloc BX.size (.cells #[.int .u8 (c.k % 256)] 5)
  generalize X0.alloc (.cells #[.int .u8 (c.k % 256)] 5) = X1 at *
  obtain ⟨B, eB⟩ : ∃ g, X0.heap.size = g := ⟨_, rfl⟩
  rw [eB] at own hB hB3 hBs
  try simp only [eB]
  clear eB
  have y1 := K3.cell 1
  have y2 := K3.cell 2
  have y3 := K3.cell 3
  have y4 := K3.cell 4
  have y5 := K3.cell 5
  have y6 := K3.cell 6
  have y7 := K3.cell 7
  have y8 := K3.cell 8
  have y9 := K3.cell 9
  have y10 := K3.cell 10
  go_upto_region 26 with (fail)
  clear y1 y2 y3 y4 y5 y6 y7 y8 y9 y10
  go_wp2_with fail
  refine bodyPost_ret (results_tmp2 rfl _ _ _) rfl ?_
  exact gives_of rfl rfl (by simp) (own_base own (Nat.le_of_lt hB)) BX
set_option maxRecDepth 100000 in
set_option maxHeartbeats 4000000 in
theorem renc_rj (c : Ct) (w : World) (hg : GoodC c) (hp : ptsK c.k = some [.rj]) (h0 : chkC c = 0) : Calls Try.prog 13 #[.agg (encC c)] w fun e w' => Gives w w' e ([c.k % 256] ++ [c.rj % 256], 0) := by
  obtain ⟨i0, hi, hz0, hz1, hz2⟩ := info_parts info_u8
  have BX : Below w.heap.size w (w.alloc (.cells (encC c) 28)) := (Below.refl _ _).alloc (Nat.le_refl _) _
  have K1 : Blk (w.alloc (.cells (encC c) 28)) w.heap.size 28 (encC c) := Blk.fresh w 28 (encC c)
  have HSZ : (Try.prog.info? 28).map (·.size) = some (encC c).size := by kernel_rfl
  have HCk : Hid (∀ w, Calls Try.prog 10 #[.agg (encC c)] w fun e w' => e = .returned (.int .i64 0) ∧ Below w.heap.size w w') := Lib.hid fun w => by have := rchk_any c w hg; rw [h0] at this; exact this
  have HF : Hid (∀ w, Calls Try.prog 20 #[.int .i64 c.k] w fun e w' => e = .returned (.agg #[.bool true, .bool false, .bool false, .bool false, .bool false, .bool true, .bool false, .bool false, .bool false, .bool false, .bool false]) ∧ Below w.heap.size w w') := Lib.hid fun w => by have := fields_k c.k w; rw [hp] at this; exact this
  clear hp h0 hg
  have hC1 : (encC c)[1]? = some (.int .i64 c.ws) := rfl
  have hC2 : (encC c)[2]? = some (.int .i64 c.wo) := rfl
  have hC3 : (encC c)[3]? = some (.int .i64 c.it) := rfl
  have hC4 : (encC c)[4]? = some (.int .i64 c.la) := rfl
  have hC5 : (encC c)[5]? = some (.int .i64 c.ti) := rfl
  have hC6 : (encC c)[6]? = some (.int .u64 (c.m : Int)) := rfl
  have hC7 : (encC c)[7]? = some (.int .u16 c.ins) := rfl
  have hC8 : (encC c)[8]? = some (.int .i64 c.rs) := rfl
  have hC9 : (encC c)[9]? = some (.int .i64 c.rj) := rfl
  have hC10 : (encC c)[10]? = some (.int .u64 c.st) := rfl
  have hC11 : (encC c)[11]? = some (.int .u64 c.mr) := rfl
  have hC12 : (encC c)[12]? = some (.int .u64 c.ft) := rfl
  have hC13 : (encC c)[13]? = some (.int .i64 c.vs) := rfl
  have hC14 : (encC c)[14]? = some (.int .i64 c.ln) := rfl
  have hC0 : (encC c)[0]? = some (.int .i64 c.k) := rfl
  obtain ⟨C, hC⟩ : ∃ C, encC c = C := ⟨_, rfl⟩
  rw [hC] at BX K1 HSZ HCk hC0 hC1 hC2 hC3 hC4 hC5 hC6 hC7 hC8 hC9 hC10 hC11 hC12 hC13 hC14 ⊢
  clear hC
  go_enter Try.func13, Try.ntmps13
  go_upto_region 2 with (first | (refine wpList_load_row rfl 28 (.tmp 1) rfl w.heap.size rfl 28 _ (0, 0) _ K1 Try.underlying28 rfl HSZ ?_) | (go_at_call 10; refine (HCk.out _).mono ?_; rintro e w1 ⟨rfl, b1⟩))
  replace K1 := K1.below b1 K1.lt
  replace BX := thenB BX b1
  clear b1
  have k0 := (K1.cell 0).trans hC0
  go_upto_region 5 with (go_at_call 20; refine (HF.out _).mono ?_; rintro e w2 ⟨rfl, b1⟩)
  clear k0
  replace K1 := K1.below b1 K1.lt
  replace BX := thenB BX b1
  clear b1
  have b9 : Below w2.heap.size w2 (w2.alloc (.cells #[.bool true, .bool false, .bool false, .bool false, .bool false, .bool true, .bool false, .bool false, .bool false, .bool false, .bool false] 53)) := (Below.refl _ _).alloc (Nat.le_refl _) _
  have K3 : Blk (w2.alloc (.cells #[.bool true, .bool false, .bool false, .bool false, .bool false, .bool true, .bool false, .bool false, .bool false, .bool false, .bool false] 53)) w2.heap.size 53 #[.bool true, .bool false, .bool false, .bool false, .bool false, .bool true, .bool false, .bool false, .bool false, .bool false, .bool false] := Blk.fresh w2 53 #[.bool true, .bool false, .bool false, .bool false, .bool false, .bool true, .bool false, .bool false, .bool false, .bool false, .bool false]
  have hk1 := K1.lt
  replace K1 := K1.below b9 K1.lt
  replace BX := thenB BX b9
  clear b9
  generalize w2.alloc (.cells #[.bool true, .bool false, .bool false, .bool false, .bool false, .bool true, .bool false, .bool false, .bool false, .bool false, .bool false] 53) = X0 at *
  obtain ⟨g3, e3⟩ : ∃ g, w2.heap.size = g := ⟨_, rfl⟩
  rw [e3] at K3 hk1
  try simp only [e3]
  clear e3
  have k0 := (K1.cell 0).trans hC0
  go_upto_region 6 with (fail)
  clear k0
  have hB := K1.lt
  have hB3 := K3.lt
  have own : (X0.alloc (.cells #[.int .u8 (c.k % 256)] 5)).ownsRow X0.heap.size 5 1 (.slice (some ⟨X0.heap.size, 0, none⟩) 1 1) 1 ([c.k % 256].map (Value.int .u8)) := World.ownsRow_lit X0 #[.int .u8 (c.k % 256)] 1 (Nat.le_refl _) (by unfold maxLen; omega) rfl
  have hBs : X0.heap.size ≤ (X0.alloc (.cells #[.int .u8 (c.k % 256)] 5)).heap.size := by simp
  replace K1 := K1.alloc (.cells #[.int .u8 (c.k % 256)] 5)
  replace K3 := K3.alloc (.cells #[.int .u8 (c.k % 256)] 5)
  replace BX := BX.alloc BX.size (.cells #[.int .u8 (c.k % 256)] 5)
  generalize X0.alloc (.cells #[.int .u8 (c.k % 256)] 5) = X1 at *
  obtain ⟨B, eB⟩ : ∃ g, X0.heap.size = g := ⟨_, rfl⟩
  rw [eB] at own hB hB3 hBs
  try simp only [eB]
  clear eB
  have y1 := K3.cell 1
  have y2 := K3.cell 2
  have y3 := K3.cell 3
  have y4 := K3.cell 4
  have y5 := K3.cell 5
  have y6 := K3.cell 6
  have y7 := K3.cell 7
  have y8 := K3.cell 8
  have y9 := K3.cell 9
  have y10 := K3.cell 10
  go_upto_region 15 with (fail)
  clear y1 y2 y3 y4 y5 y6 y7 y8 y9 y10
  have k9 := (K1.cell 9).trans hC9
  go_upto_region 16 with (at_builtin; refine wpList_append_ints rfl _ _ 33 rfl .u8 B 5 i0 _ 1 Try.underlying33 hi hz0 hz1 hz2 rfl _ 1 _ rfl (own_below own ((Below.refl _ _).alloc (Nat.le_refl _) _)) (X1.heap.size + 1) _ 1 1 [c.rj % 256] rfl rfl ?c1 ?c2 ?c3 ?c4 ?_; (case c1 => exact Ints.lit _ _ _ _ _ rfl); (case c2 => unfold maxLen; omega); (case c3 => omega); (case c4 => have := hBs; simp; omega); intro V2 X2 own9 b9 _)
  clear k9
  have hBs2 : B ≤ X2.heap.size := Nat.le_trans (by have := hBs; simp; omega) b9.size
  replace K1 := (K1.alloc _).below b9 hB
  replace K3 := (K3.alloc _).below b9 hB3
  replace BX := (BX.alloc BX.size _).trans (b9.mono (Nat.le_of_lt hB))
  clear own
  have own : X2.ownsRow B 5 1 V2 2 (([c.k % 256] ++ [c.rj % 256]).map (Value.int .u8)) := by rw [List.map_append]; exact own9
  clear own9 b9 hBs
  have hBs := hBs2
  clear hBs2
  have y1 := K3.cell 1
  have y2 := K3.cell 2
  have y3 := K3.cell 3
  have y4 := K3.cell 4
  have y5 := K3.cell 5
  have y6 := K3.cell 6
  have y7 := K3.cell 7
  have y8 := K3.cell 8
  have y9 := K3.cell 9
  have y10 := K3.cell 10
  go_upto_region 26 with (fail)
  clear y1 y2 y3 y4 y5 y6 y7 y8 y9 y10
  go_wp2_with fail
  refine bodyPost_ret (results_tmp2 rfl _ _ _) rfl ?_
  exact gives_of rfl rfl (by simp) (own_base own (Nat.le_of_lt hB)) BX
set_option maxRecDepth 100000 in
set_option maxHeartbeats 4000000 in
theorem renc_fe (c : Ct) (w : World) (hg : GoodC c) (hp : ptsK c.k = some [.fe]) (h0 : chkC c = 0) : Calls Try.prog 13 #[.agg (encC c)] w fun e w' => Gives w w' e ([c.k % 256] ++ numL 8 c.ft, 0) := by
  obtain ⟨i0, hi, hz0, hz1, hz2⟩ := info_parts info_u8
  have BX : Below w.heap.size w (w.alloc (.cells (encC c) 28)) := (Below.refl _ _).alloc (Nat.le_refl _) _
  have K1 : Blk (w.alloc (.cells (encC c) 28)) w.heap.size 28 (encC c) := Blk.fresh w 28 (encC c)
  have HSZ : (Try.prog.info? 28).map (·.size) = some (encC c).size := by kernel_rfl
  have HCk : Hid (∀ w, Calls Try.prog 10 #[.agg (encC c)] w fun e w' => e = .returned (.int .i64 0) ∧ Below w.heap.size w w') := Lib.hid fun w => by have := rchk_any c w hg; rw [h0] at this; exact this
  have HF : Hid (∀ w, Calls Try.prog 20 #[.int .i64 c.k] w fun e w' => e = .returned (.agg #[.bool true, .bool false, .bool false, .bool false, .bool false, .bool false, .bool false, .bool false, .bool true, .bool false, .bool false]) ∧ Below w.heap.size w w') := Lib.hid fun w => by have := fields_k c.k w; rw [hp] at this; exact this
  have Hfe : Hid (∀ w, Calls Try.prog 27 #[.int .u64 c.ft, .int .i64 8] w fun e w' => Oct.Makes w w' e (numL 8 c.ft)) := Lib.hid fun w => rput_any 8 c.ft w (by decide) (hg.2.2.2.2.2.2.2.2.2.2.2.2.1)
  have Nfe := Lib.hid (numL_len 8 c.ft)
  clear hp h0 hg
  have hC1 : (encC c)[1]? = some (.int .i64 c.ws) := rfl
  have hC2 : (encC c)[2]? = some (.int .i64 c.wo) := rfl
  have hC3 : (encC c)[3]? = some (.int .i64 c.it) := rfl
  have hC4 : (encC c)[4]? = some (.int .i64 c.la) := rfl
  have hC5 : (encC c)[5]? = some (.int .i64 c.ti) := rfl
  have hC6 : (encC c)[6]? = some (.int .u64 (c.m : Int)) := rfl
  have hC7 : (encC c)[7]? = some (.int .u16 c.ins) := rfl
  have hC8 : (encC c)[8]? = some (.int .i64 c.rs) := rfl
  have hC9 : (encC c)[9]? = some (.int .i64 c.rj) := rfl
  have hC10 : (encC c)[10]? = some (.int .u64 c.st) := rfl
  have hC11 : (encC c)[11]? = some (.int .u64 c.mr) := rfl
  have hC12 : (encC c)[12]? = some (.int .u64 c.ft) := rfl
  have hC13 : (encC c)[13]? = some (.int .i64 c.vs) := rfl
  have hC14 : (encC c)[14]? = some (.int .i64 c.ln) := rfl
  have hC0 : (encC c)[0]? = some (.int .i64 c.k) := rfl
  obtain ⟨C, hC⟩ : ∃ C, encC c = C := ⟨_, rfl⟩
  rw [hC] at BX K1 HSZ HCk hC0 hC1 hC2 hC3 hC4 hC5 hC6 hC7 hC8 hC9 hC10 hC11 hC12 hC13 hC14 ⊢
  clear hC
  go_enter Try.func13, Try.ntmps13
  go_upto_region 2 with (first | (refine wpList_load_row rfl 28 (.tmp 1) rfl w.heap.size rfl 28 _ (0, 0) _ K1 Try.underlying28 rfl HSZ ?_) | (go_at_call 10; refine (HCk.out _).mono ?_; rintro e w1 ⟨rfl, b1⟩))
  replace K1 := K1.below b1 K1.lt
  replace BX := thenB BX b1
  clear b1
  have k0 := (K1.cell 0).trans hC0
  go_upto_region 5 with (go_at_call 20; refine (HF.out _).mono ?_; rintro e w2 ⟨rfl, b1⟩)
  clear k0
  replace K1 := K1.below b1 K1.lt
  replace BX := thenB BX b1
  clear b1
  have b9 : Below w2.heap.size w2 (w2.alloc (.cells #[.bool true, .bool false, .bool false, .bool false, .bool false, .bool false, .bool false, .bool false, .bool true, .bool false, .bool false] 53)) := (Below.refl _ _).alloc (Nat.le_refl _) _
  have K3 : Blk (w2.alloc (.cells #[.bool true, .bool false, .bool false, .bool false, .bool false, .bool false, .bool false, .bool false, .bool true, .bool false, .bool false] 53)) w2.heap.size 53 #[.bool true, .bool false, .bool false, .bool false, .bool false, .bool false, .bool false, .bool false, .bool true, .bool false, .bool false] := Blk.fresh w2 53 #[.bool true, .bool false, .bool false, .bool false, .bool false, .bool false, .bool false, .bool false, .bool true, .bool false, .bool false]
  have hk1 := K1.lt
  replace K1 := K1.below b9 K1.lt
  replace BX := thenB BX b9
  clear b9
  generalize w2.alloc (.cells #[.bool true, .bool false, .bool false, .bool false, .bool false, .bool false, .bool false, .bool false, .bool true, .bool false, .bool false] 53) = X0 at *
  obtain ⟨g3, e3⟩ : ∃ g, w2.heap.size = g := ⟨_, rfl⟩
  rw [e3] at K3 hk1
  try simp only [e3]
  clear e3
  have k0 := (K1.cell 0).trans hC0
  go_upto_region 6 with (fail)
  clear k0
  have hB := K1.lt
  have hB3 := K3.lt
  have own : (X0.alloc (.cells #[.int .u8 (c.k % 256)] 5)).ownsRow X0.heap.size 5 1 (.slice (some ⟨X0.heap.size, 0, none⟩) 1 1) 1 ([c.k % 256].map (Value.int .u8)) := World.ownsRow_lit X0 #[.int .u8 (c.k % 256)] 1 (Nat.le_refl _) (by unfold maxLen; omega) rfl
  have hBs : X0.heap.size ≤ (X0.alloc (.cells #[.int .u8 (c.k % 256)] 5)).heap.size := by simp
  replace K1 := K1.alloc (.cells #[.int .u8 (c.k % 256)] 5)
  replace K3 := K3.alloc (.cells #[.int .u8 (c.k % 256)] 5)
  replace BX := BX.alloc BX.size (.cells #[.int .u8 (c.k % 256)] 5)
  generalize X0.alloc (.cells #[.int .u8 (c.k % 256)] 5) = X1 at *
  obtain ⟨B, eB⟩ : ∃ g, X0.heap.size = g := ⟨_, rfl⟩
  rw [eB] at own hB hB3 hBs
  try simp only [eB]
  clear eB
  have y1 := K3.cell 1
  have y2 := K3.cell 2
  have y3 := K3.cell 3
  have y4 := K3.cell 4
  have y5 := K3.cell 5
  have y6 := K3.cell 6
  have y7 := K3.cell 7
  have y8 := K3.cell 8
  have y9 := K3.cell 9
  have y10 := K3.cell 10
  go_upto_region 21 with (fail)
  clear y1 y2 y3 y4 y5 y6 y7 y8 y9 y10
  have k12 := (K1.cell 12).trans hC12
  go_upto_region 22 with (first | (go_at_call 27; refine (Hfe.out _).mono ?_; intro e v2 m1; obtain ⟨A2, d2, rfl, ownx, b1⟩ := makes_len m1 Nfe.out; have Ix := Ints.own ownx; replace own := own_below own b1; replace K1 := K1.below b1 K1.lt; replace K3 := K3.below b1 K3.lt; have hBs' : B ≤ v2.heap.size := Nat.le_trans hBs b1.size; replace BX := thenB BX b1; clear m1 b1 ownx) | (at_builtin; refine wpList_append_ints rfl _ _ 33 rfl .u8 B 5 i0 _ 1 Try.underlying33 hi hz0 hz1 hz2 rfl _ 1 _ rfl own _ A2 8 d2 (numL 8 c.ft) rfl Nfe.out Ix ?c1 ?c2 ?c3 ?_; (case c1 => unfold maxLen; omega); (case c2 => omega); (case c3 => exact hBs'); intro V2 X2 own9 b9 _))
  clear k12
  have hBs2 : B ≤ X2.heap.size := Nat.le_trans hBs' b9.size
  replace K1 := K1.below b9 hB
  replace K3 := K3.below b9 hB3
  replace BX := BX.trans (b9.mono (Nat.le_of_lt hB))
  clear hBs' Ix
  clear own
  have own : X2.ownsRow B 5 1 V2 9 (([c.k % 256] ++ numL 8 c.ft).map (Value.int .u8)) := by rw [List.map_append]; exact own9
  clear own9 b9 hBs
  have hBs := hBs2
  clear hBs2
  have y1 := K3.cell 1
  have y2 := K3.cell 2
  have y3 := K3.cell 3
  have y4 := K3.cell 4
  have y5 := K3.cell 5
  have y6 := K3.cell 6
  have y7 := K3.cell 7
  have y8 := K3.cell 8
  have y9 := K3.cell 9
  have y10 := K3.cell 10
  go_upto_region 26 with (fail)
  clear y1 y2 y3 y4 y5 y6 y7 y8 y9 y10
  go_wp2_with fail
  refine bodyPost_ret (results_tmp2 rfl _ _ _) rfl ?_
  exact gives_of rfl rfl (by simp [numL_len]) (own_base own (Nat.le_of_lt hB)) BX
set_option maxRecDepth 100000 in
set_option maxHeartbeats 4000000 in
theorem renc_vs (c : Ct) (w : World) (hg : GoodC c) (hp : ptsK c.k = some [.vs]) (h0 : chkC c = 0) : Calls Try.prog 13 #[.agg (encC c)] w fun e w' => Gives w w' e ([c.k % 256] ++ [c.vs % 256], 0) := by
  obtain ⟨i0, hi, hz0, hz1, hz2⟩ := info_parts info_u8
  have BX : Below w.heap.size w (w.alloc (.cells (encC c) 28)) := (Below.refl _ _).alloc (Nat.le_refl _) _
  have K1 : Blk (w.alloc (.cells (encC c) 28)) w.heap.size 28 (encC c) := Blk.fresh w 28 (encC c)
  have HSZ : (Try.prog.info? 28).map (·.size) = some (encC c).size := by kernel_rfl
  have HCk : Hid (∀ w, Calls Try.prog 10 #[.agg (encC c)] w fun e w' => e = .returned (.int .i64 0) ∧ Below w.heap.size w w') := Lib.hid fun w => by have := rchk_any c w hg; rw [h0] at this; exact this
  have HF : Hid (∀ w, Calls Try.prog 20 #[.int .i64 c.k] w fun e w' => e = .returned (.agg #[.bool true, .bool false, .bool false, .bool false, .bool false, .bool false, .bool false, .bool false, .bool false, .bool true, .bool false]) ∧ Below w.heap.size w w') := Lib.hid fun w => by have := fields_k c.k w; rw [hp] at this; exact this
  clear hp h0 hg
  have hC1 : (encC c)[1]? = some (.int .i64 c.ws) := rfl
  have hC2 : (encC c)[2]? = some (.int .i64 c.wo) := rfl
  have hC3 : (encC c)[3]? = some (.int .i64 c.it) := rfl
  have hC4 : (encC c)[4]? = some (.int .i64 c.la) := rfl
  have hC5 : (encC c)[5]? = some (.int .i64 c.ti) := rfl
  have hC6 : (encC c)[6]? = some (.int .u64 (c.m : Int)) := rfl
  have hC7 : (encC c)[7]? = some (.int .u16 c.ins) := rfl
  have hC8 : (encC c)[8]? = some (.int .i64 c.rs) := rfl
  have hC9 : (encC c)[9]? = some (.int .i64 c.rj) := rfl
  have hC10 : (encC c)[10]? = some (.int .u64 c.st) := rfl
  have hC11 : (encC c)[11]? = some (.int .u64 c.mr) := rfl
  have hC12 : (encC c)[12]? = some (.int .u64 c.ft) := rfl
  have hC13 : (encC c)[13]? = some (.int .i64 c.vs) := rfl
  have hC14 : (encC c)[14]? = some (.int .i64 c.ln) := rfl
  have hC0 : (encC c)[0]? = some (.int .i64 c.k) := rfl
  obtain ⟨C, hC⟩ : ∃ C, encC c = C := ⟨_, rfl⟩
  rw [hC] at BX K1 HSZ HCk hC0 hC1 hC2 hC3 hC4 hC5 hC6 hC7 hC8 hC9 hC10 hC11 hC12 hC13 hC14 ⊢
  clear hC
  go_enter Try.func13, Try.ntmps13
  go_upto_region 2 with (first | (refine wpList_load_row rfl 28 (.tmp 1) rfl w.heap.size rfl 28 _ (0, 0) _ K1 Try.underlying28 rfl HSZ ?_) | (go_at_call 10; refine (HCk.out _).mono ?_; rintro e w1 ⟨rfl, b1⟩))
  replace K1 := K1.below b1 K1.lt
  replace BX := thenB BX b1
  clear b1
  have k0 := (K1.cell 0).trans hC0
  go_upto_region 5 with (go_at_call 20; refine (HF.out _).mono ?_; rintro e w2 ⟨rfl, b1⟩)
  clear k0
  replace K1 := K1.below b1 K1.lt
  replace BX := thenB BX b1
  clear b1
  have b9 : Below w2.heap.size w2 (w2.alloc (.cells #[.bool true, .bool false, .bool false, .bool false, .bool false, .bool false, .bool false, .bool false, .bool false, .bool true, .bool false] 53)) := (Below.refl _ _).alloc (Nat.le_refl _) _
  have K3 : Blk (w2.alloc (.cells #[.bool true, .bool false, .bool false, .bool false, .bool false, .bool false, .bool false, .bool false, .bool false, .bool true, .bool false] 53)) w2.heap.size 53 #[.bool true, .bool false, .bool false, .bool false, .bool false, .bool false, .bool false, .bool false, .bool false, .bool true, .bool false] := Blk.fresh w2 53 #[.bool true, .bool false, .bool false, .bool false, .bool false, .bool false, .bool false, .bool false, .bool false, .bool true, .bool false]
  have hk1 := K1.lt
  replace K1 := K1.below b9 K1.lt
  replace BX := thenB BX b9
  clear b9
  generalize w2.alloc (.cells #[.bool true, .bool false, .bool false, .bool false, .bool false, .bool false, .bool false, .bool false, .bool false, .bool true, .bool false] 53) = X0 at *
  obtain ⟨g3, e3⟩ : ∃ g, w2.heap.size = g := ⟨_, rfl⟩
  rw [e3] at K3 hk1
  try simp only [e3]
  clear e3
  have k0 := (K1.cell 0).trans hC0
  go_upto_region 6 with (fail)
  clear k0
  have hB := K1.lt
  have hB3 := K3.lt
  have own : (X0.alloc (.cells #[.int .u8 (c.k % 256)] 5)).ownsRow X0.heap.size 5 1 (.slice (some ⟨X0.heap.size, 0, none⟩) 1 1) 1 ([c.k % 256].map (Value.int .u8)) := World.ownsRow_lit X0 #[.int .u8 (c.k % 256)] 1 (Nat.le_refl _) (by unfold maxLen; omega) rfl
  have hBs : X0.heap.size ≤ (X0.alloc (.cells #[.int .u8 (c.k % 256)] 5)).heap.size := by simp
  replace K1 := K1.alloc (.cells #[.int .u8 (c.k % 256)] 5)
  replace K3 := K3.alloc (.cells #[.int .u8 (c.k % 256)] 5)
  replace BX := BX.alloc BX.size (.cells #[.int .u8 (c.k % 256)] 5)
  generalize X0.alloc (.cells #[.int .u8 (c.k % 256)] 5) = X1 at *
  obtain ⟨B, eB⟩ : ∃ g, X0.heap.size = g := ⟨_, rfl⟩
  rw [eB] at own hB hB3 hBs
  try simp only [eB]
  clear eB
  have y1 := K3.cell 1
  have y2 := K3.cell 2
  have y3 := K3.cell 3
  have y4 := K3.cell 4
  have y5 := K3.cell 5
  have y6 := K3.cell 6
  have y7 := K3.cell 7
  have y8 := K3.cell 8
  have y9 := K3.cell 9
  have y10 := K3.cell 10
  go_upto_region 23 with (fail)
  clear y1 y2 y3 y4 y5 y6 y7 y8 y9 y10
  have k13 := (K1.cell 13).trans hC13
  go_upto_region 24 with (at_builtin; refine wpList_append_ints rfl _ _ 33 rfl .u8 B 5 i0 _ 1 Try.underlying33 hi hz0 hz1 hz2 rfl _ 1 _ rfl (own_below own ((Below.refl _ _).alloc (Nat.le_refl _) _)) (X1.heap.size + 1) _ 1 1 [c.vs % 256] rfl rfl ?c1 ?c2 ?c3 ?c4 ?_; (case c1 => exact Ints.lit _ _ _ _ _ rfl); (case c2 => unfold maxLen; omega); (case c3 => omega); (case c4 => have := hBs; simp; omega); intro V2 X2 own9 b9 _)
  clear k13
  have hBs2 : B ≤ X2.heap.size := Nat.le_trans (by have := hBs; simp; omega) b9.size
  replace K1 := (K1.alloc _).below b9 hB
  replace K3 := (K3.alloc _).below b9 hB3
  replace BX := (BX.alloc BX.size _).trans (b9.mono (Nat.le_of_lt hB))
  clear own
  have own : X2.ownsRow B 5 1 V2 2 (([c.k % 256] ++ [c.vs % 256]).map (Value.int .u8)) := by rw [List.map_append]; exact own9
  clear own9 b9 hBs
  have hBs := hBs2
  clear hBs2
  have y1 := K3.cell 1
  have y2 := K3.cell 2
  have y3 := K3.cell 3
  have y4 := K3.cell 4
  have y5 := K3.cell 5
  have y6 := K3.cell 6
  have y7 := K3.cell 7
  have y8 := K3.cell 8
  have y9 := K3.cell 9
  have y10 := K3.cell 10
  go_upto_region 26 with (fail)
  clear y1 y2 y3 y4 y5 y6 y7 y8 y9 y10
  go_wp2_with fail
  refine bodyPost_ret (results_tmp2 rfl _ _ _) rfl ?_
  exact gives_of rfl rfl (by simp) (own_base own (Nat.le_of_lt hB)) BX
set_option maxRecDepth 100000 in
set_option maxHeartbeats 4000000 in
theorem renc_rs_rj (c : Ct) (w : World) (hg : GoodC c) (hp : ptsK c.k = some [.rs, .rj]) (h0 : chkC c = 0) : Calls Try.prog 13 #[.agg (encC c)] w fun e w' => Gives w w' e ([c.k % 256] ++ [c.rs % 256] ++ [c.rj % 256], 0) := by
  obtain ⟨i0, hi, hz0, hz1, hz2⟩ := info_parts info_u8
  have BX : Below w.heap.size w (w.alloc (.cells (encC c) 28)) := (Below.refl _ _).alloc (Nat.le_refl _) _
  have K1 : Blk (w.alloc (.cells (encC c) 28)) w.heap.size 28 (encC c) := Blk.fresh w 28 (encC c)
  have HSZ : (Try.prog.info? 28).map (·.size) = some (encC c).size := by kernel_rfl
  have HCk : Hid (∀ w, Calls Try.prog 10 #[.agg (encC c)] w fun e w' => e = .returned (.int .i64 0) ∧ Below w.heap.size w w') := Lib.hid fun w => by have := rchk_any c w hg; rw [h0] at this; exact this
  have HF : Hid (∀ w, Calls Try.prog 20 #[.int .i64 c.k] w fun e w' => e = .returned (.agg #[.bool true, .bool false, .bool false, .bool false, .bool true, .bool true, .bool false, .bool false, .bool false, .bool false, .bool false]) ∧ Below w.heap.size w w') := Lib.hid fun w => by have := fields_k c.k w; rw [hp] at this; exact this
  clear hp h0 hg
  have hC1 : (encC c)[1]? = some (.int .i64 c.ws) := rfl
  have hC2 : (encC c)[2]? = some (.int .i64 c.wo) := rfl
  have hC3 : (encC c)[3]? = some (.int .i64 c.it) := rfl
  have hC4 : (encC c)[4]? = some (.int .i64 c.la) := rfl
  have hC5 : (encC c)[5]? = some (.int .i64 c.ti) := rfl
  have hC6 : (encC c)[6]? = some (.int .u64 (c.m : Int)) := rfl
  have hC7 : (encC c)[7]? = some (.int .u16 c.ins) := rfl
  have hC8 : (encC c)[8]? = some (.int .i64 c.rs) := rfl
  have hC9 : (encC c)[9]? = some (.int .i64 c.rj) := rfl
  have hC10 : (encC c)[10]? = some (.int .u64 c.st) := rfl
  have hC11 : (encC c)[11]? = some (.int .u64 c.mr) := rfl
  have hC12 : (encC c)[12]? = some (.int .u64 c.ft) := rfl
  have hC13 : (encC c)[13]? = some (.int .i64 c.vs) := rfl
  have hC14 : (encC c)[14]? = some (.int .i64 c.ln) := rfl
  have hC0 : (encC c)[0]? = some (.int .i64 c.k) := rfl
  obtain ⟨C, hC⟩ : ∃ C, encC c = C := ⟨_, rfl⟩
  rw [hC] at BX K1 HSZ HCk hC0 hC1 hC2 hC3 hC4 hC5 hC6 hC7 hC8 hC9 hC10 hC11 hC12 hC13 hC14 ⊢
  clear hC
  go_enter Try.func13, Try.ntmps13
  go_upto_region 2 with (first | (refine wpList_load_row rfl 28 (.tmp 1) rfl w.heap.size rfl 28 _ (0, 0) _ K1 Try.underlying28 rfl HSZ ?_) | (go_at_call 10; refine (HCk.out _).mono ?_; rintro e w1 ⟨rfl, b1⟩))
  replace K1 := K1.below b1 K1.lt
  replace BX := thenB BX b1
  clear b1
  have k0 := (K1.cell 0).trans hC0
  go_upto_region 5 with (go_at_call 20; refine (HF.out _).mono ?_; rintro e w2 ⟨rfl, b1⟩)
  clear k0
  replace K1 := K1.below b1 K1.lt
  replace BX := thenB BX b1
  clear b1
  have b9 : Below w2.heap.size w2 (w2.alloc (.cells #[.bool true, .bool false, .bool false, .bool false, .bool true, .bool true, .bool false, .bool false, .bool false, .bool false, .bool false] 53)) := (Below.refl _ _).alloc (Nat.le_refl _) _
  have K3 : Blk (w2.alloc (.cells #[.bool true, .bool false, .bool false, .bool false, .bool true, .bool true, .bool false, .bool false, .bool false, .bool false, .bool false] 53)) w2.heap.size 53 #[.bool true, .bool false, .bool false, .bool false, .bool true, .bool true, .bool false, .bool false, .bool false, .bool false, .bool false] := Blk.fresh w2 53 #[.bool true, .bool false, .bool false, .bool false, .bool true, .bool true, .bool false, .bool false, .bool false, .bool false, .bool false]
  have hk1 := K1.lt
  replace K1 := K1.below b9 K1.lt
  replace BX := thenB BX b9
  clear b9
  generalize w2.alloc (.cells #[.bool true, .bool false, .bool false, .bool false, .bool true, .bool true, .bool false, .bool false, .bool false, .bool false, .bool false] 53) = X0 at *
  obtain ⟨g3, e3⟩ : ∃ g, w2.heap.size = g := ⟨_, rfl⟩
  rw [e3] at K3 hk1
  try simp only [e3]
  clear e3
  have k0 := (K1.cell 0).trans hC0
  go_upto_region 6 with (fail)
  clear k0
  have hB := K1.lt
  have hB3 := K3.lt
  have own : (X0.alloc (.cells #[.int .u8 (c.k % 256)] 5)).ownsRow X0.heap.size 5 1 (.slice (some ⟨X0.heap.size, 0, none⟩) 1 1) 1 ([c.k % 256].map (Value.int .u8)) := World.ownsRow_lit X0 #[.int .u8 (c.k % 256)] 1 (Nat.le_refl _) (by unfold maxLen; omega) rfl
  have hBs : X0.heap.size ≤ (X0.alloc (.cells #[.int .u8 (c.k % 256)] 5)).heap.size := by simp
  replace K1 := K1.alloc (.cells #[.int .u8 (c.k % 256)] 5)
  replace K3 := K3.alloc (.cells #[.int .u8 (c.k % 256)] 5)
  replace BX := BX.alloc BX.size (.cells #[.int .u8 (c.k % 256)] 5)
  generalize X0.alloc (.cells #[.int .u8 (c.k % 256)] 5) = X1 at *
  obtain ⟨B, eB⟩ : ∃ g, X0.heap.size = g := ⟨_, rfl⟩
  rw [eB] at own hB hB3 hBs
  try simp only [eB]
  clear eB
  have y1 := K3.cell 1
  have y2 := K3.cell 2
  have y3 := K3.cell 3
  have y4 := K3.cell 4
  have y5 := K3.cell 5
  have y6 := K3.cell 6
  have y7 := K3.cell 7
  have y8 := K3.cell 8
  have y9 := K3.cell 9
  have y10 := K3.cell 10
  go_upto_region 13 with (fail)
  clear y1 y2 y3 y4 y5 y6 y7 y8 y9 y10
  have k8 := (K1.cell 8).trans hC8
  go_upto_region 14 with (at_builtin; refine wpList_append_ints rfl _ _ 33 rfl .u8 B 5 i0 _ 1 Try.underlying33 hi hz0 hz1 hz2 rfl _ 1 _ rfl (own_below own ((Below.refl _ _).alloc (Nat.le_refl _) _)) (X1.heap.size + 1) _ 1 1 [c.rs % 256] rfl rfl ?c1 ?c2 ?c3 ?c4 ?_; (case c1 => exact Ints.lit _ _ _ _ _ rfl); (case c2 => unfold maxLen; omega); (case c3 => omega); (case c4 => have := hBs; simp; omega); intro V2 X2 own9 b9 _)
  clear k8
  have hBs2 : B ≤ X2.heap.size := Nat.le_trans (by have := hBs; simp; omega) b9.size
  replace K1 := (K1.alloc _).below b9 hB
  replace K3 := (K3.alloc _).below b9 hB3
  replace BX := (BX.alloc BX.size _).trans (b9.mono (Nat.le_of_lt hB))
  clear own
  have own : X2.ownsRow B 5 1 V2 2 (([c.k % 256] ++ [c.rs % 256]).map (Value.int .u8)) := by rw [List.map_append]; exact own9
  clear own9 b9 hBs
  have hBs := hBs2
  clear hBs2
  have y1 := K3.cell 1
  have y2 := K3.cell 2
  have y3 := K3.cell 3
  have y4 := K3.cell 4
  have y5 := K3.cell 5
  have y6 := K3.cell 6
  have y7 := K3.cell 7
  have y8 := K3.cell 8
  have y9 := K3.cell 9
  have y10 := K3.cell 10
  go_upto_region 15 with (fail)
  clear y1 y2 y3 y4 y5 y6 y7 y8 y9 y10
  have k9 := (K1.cell 9).trans hC9
  go_upto_region 16 with (at_builtin; refine wpList_append_ints rfl _ _ 33 rfl .u8 B 5 i0 _ 1 Try.underlying33 hi hz0 hz1 hz2 rfl _ 2 _ rfl (own_below own ((Below.refl _ _).alloc (Nat.le_refl _) _)) (X2.heap.size + 1) _ 1 1 [c.rj % 256] rfl rfl ?c1 ?c2 ?c3 ?c4 ?_; (case c1 => exact Ints.lit _ _ _ _ _ rfl); (case c2 => unfold maxLen; omega); (case c3 => omega); (case c4 => have := hBs; simp; omega); intro V3 X3 own9 b9 _)
  clear k9
  have hBs2 : B ≤ X3.heap.size := Nat.le_trans (by have := hBs; simp; omega) b9.size
  replace K1 := (K1.alloc _).below b9 hB
  replace K3 := (K3.alloc _).below b9 hB3
  replace BX := (BX.alloc BX.size _).trans (b9.mono (Nat.le_of_lt hB))
  clear own
  have own : X3.ownsRow B 5 1 V3 3 (([c.k % 256] ++ [c.rs % 256] ++ [c.rj % 256]).map (Value.int .u8)) := by rw [List.map_append]; exact own9
  clear own9 b9 hBs
  have hBs := hBs2
  clear hBs2
  have y1 := K3.cell 1
  have y2 := K3.cell 2
  have y3 := K3.cell 3
  have y4 := K3.cell 4
  have y5 := K3.cell 5
  have y6 := K3.cell 6
  have y7 := K3.cell 7
  have y8 := K3.cell 8
  have y9 := K3.cell 9
  have y10 := K3.cell 10
  go_upto_region 26 with (fail)
  clear y1 y2 y3 y4 y5 y6 y7 y8 y9 y10
  go_wp2_with fail
  refine bodyPost_ret (results_tmp2 rfl _ _ _) rfl ?_
  exact gives_of rfl rfl (by simp) (own_base own (Nat.le_of_lt hB)) BX
set_option maxRecDepth 100000 in
set_option maxHeartbeats 4000000 in
theorem renc_up (c : Ct) (w : World) (hg : GoodC c) (hp : ptsK c.k = some [.up]) (h0 : chkC c = 0) : Calls Try.prog 13 #[.agg (encC c)] w fun e w' => Gives w w' e ([c.k % 256] ++ (numL 1 (u c.ws) ++ numL 2 (u c.wo) ++ numL 2 (u c.it) ++ numL 2 (u c.la) ++ numL 2 (u c.ti)), 0) := by
  obtain ⟨i0, hi, hz0, hz1, hz2⟩ := info_parts info_u8
  have BX : Below w.heap.size w (w.alloc (.cells (encC c) 28)) := (Below.refl _ _).alloc (Nat.le_refl _) _
  have K1 : Blk (w.alloc (.cells (encC c) 28)) w.heap.size 28 (encC c) := Blk.fresh w 28 (encC c)
  have HSZ : (Try.prog.info? 28).map (·.size) = some (encC c).size := by kernel_rfl
  have HCk : Hid (∀ w, Calls Try.prog 10 #[.agg (encC c)] w fun e w' => e = .returned (.int .i64 0) ∧ Below w.heap.size w w') := Lib.hid fun w => by have := rchk_any c w hg; rw [h0] at this; exact this
  have HF : Hid (∀ w, Calls Try.prog 20 #[.int .i64 c.k] w fun e w' => e = .returned (.agg #[.bool true, .bool true, .bool false, .bool false, .bool false, .bool false, .bool false, .bool false, .bool false, .bool false, .bool false]) ∧ Below w.heap.size w w') := Lib.hid fun w => by have := fields_k c.k w; rw [hp] at this; exact this
  have Hup := Lib.hid (putup_any c.ws c.wo c.it c.la c.ti)
  have Nup : Hid ((numL 1 (u c.ws) ++ numL 2 (u c.wo) ++ numL 2 (u c.it) ++ numL 2 (u c.la) ++ numL 2 (u c.ti)).length = 9) := Lib.hid (by simp [numL_len])
  clear hp h0 hg
  have hC1 : (encC c)[1]? = some (.int .i64 c.ws) := rfl
  have hC2 : (encC c)[2]? = some (.int .i64 c.wo) := rfl
  have hC3 : (encC c)[3]? = some (.int .i64 c.it) := rfl
  have hC4 : (encC c)[4]? = some (.int .i64 c.la) := rfl
  have hC5 : (encC c)[5]? = some (.int .i64 c.ti) := rfl
  have hC6 : (encC c)[6]? = some (.int .u64 (c.m : Int)) := rfl
  have hC7 : (encC c)[7]? = some (.int .u16 c.ins) := rfl
  have hC8 : (encC c)[8]? = some (.int .i64 c.rs) := rfl
  have hC9 : (encC c)[9]? = some (.int .i64 c.rj) := rfl
  have hC10 : (encC c)[10]? = some (.int .u64 c.st) := rfl
  have hC11 : (encC c)[11]? = some (.int .u64 c.mr) := rfl
  have hC12 : (encC c)[12]? = some (.int .u64 c.ft) := rfl
  have hC13 : (encC c)[13]? = some (.int .i64 c.vs) := rfl
  have hC14 : (encC c)[14]? = some (.int .i64 c.ln) := rfl
  have hC0 : (encC c)[0]? = some (.int .i64 c.k) := rfl
  obtain ⟨C, hC⟩ : ∃ C, encC c = C := ⟨_, rfl⟩
  rw [hC] at BX K1 HSZ HCk hC0 hC1 hC2 hC3 hC4 hC5 hC6 hC7 hC8 hC9 hC10 hC11 hC12 hC13 hC14 ⊢
  clear hC
  go_enter Try.func13, Try.ntmps13
  go_upto_region 2 with (first | (refine wpList_load_row rfl 28 (.tmp 1) rfl w.heap.size rfl 28 _ (0, 0) _ K1 Try.underlying28 rfl HSZ ?_) | (go_at_call 10; refine (HCk.out _).mono ?_; rintro e w1 ⟨rfl, b1⟩))
  replace K1 := K1.below b1 K1.lt
  replace BX := thenB BX b1
  clear b1
  have k0 := (K1.cell 0).trans hC0
  go_upto_region 5 with (go_at_call 20; refine (HF.out _).mono ?_; rintro e w2 ⟨rfl, b1⟩)
  clear k0
  replace K1 := K1.below b1 K1.lt
  replace BX := thenB BX b1
  clear b1
  have b9 : Below w2.heap.size w2 (w2.alloc (.cells #[.bool true, .bool true, .bool false, .bool false, .bool false, .bool false, .bool false, .bool false, .bool false, .bool false, .bool false] 53)) := (Below.refl _ _).alloc (Nat.le_refl _) _
  have K3 : Blk (w2.alloc (.cells #[.bool true, .bool true, .bool false, .bool false, .bool false, .bool false, .bool false, .bool false, .bool false, .bool false, .bool false] 53)) w2.heap.size 53 #[.bool true, .bool true, .bool false, .bool false, .bool false, .bool false, .bool false, .bool false, .bool false, .bool false, .bool false] := Blk.fresh w2 53 #[.bool true, .bool true, .bool false, .bool false, .bool false, .bool false, .bool false, .bool false, .bool false, .bool false, .bool false]
  have hk1 := K1.lt
  replace K1 := K1.below b9 K1.lt
  replace BX := thenB BX b9
  clear b9
  generalize w2.alloc (.cells #[.bool true, .bool true, .bool false, .bool false, .bool false, .bool false, .bool false, .bool false, .bool false, .bool false, .bool false] 53) = X0 at *
  obtain ⟨g3, e3⟩ : ∃ g, w2.heap.size = g := ⟨_, rfl⟩
  rw [e3] at K3 hk1
  try simp only [e3]
  clear e3
  have k0 := (K1.cell 0).trans hC0
  go_upto_region 6 with (fail)
  clear k0
  have hB := K1.lt
  have hB3 := K3.lt
  have own : (X0.alloc (.cells #[.int .u8 (c.k % 256)] 5)).ownsRow X0.heap.size 5 1 (.slice (some ⟨X0.heap.size, 0, none⟩) 1 1) 1 ([c.k % 256].map (Value.int .u8)) := World.ownsRow_lit X0 #[.int .u8 (c.k % 256)] 1 (Nat.le_refl _) (by unfold maxLen; omega) rfl
  have hBs : X0.heap.size ≤ (X0.alloc (.cells #[.int .u8 (c.k % 256)] 5)).heap.size := by simp
  replace K1 := K1.alloc (.cells #[.int .u8 (c.k % 256)] 5)
  replace K3 := K3.alloc (.cells #[.int .u8 (c.k % 256)] 5)
  replace BX := BX.alloc BX.size (.cells #[.int .u8 (c.k % 256)] 5)
  generalize X0.alloc (.cells #[.int .u8 (c.k % 256)] 5) = X1 at *
  obtain ⟨B, eB⟩ : ∃ g, X0.heap.size = g := ⟨_, rfl⟩
  rw [eB] at own hB hB3 hBs
  try simp only [eB]
  clear eB
  have y1 := K3.cell 1
  have y2 := K3.cell 2
  have y3 := K3.cell 3
  have y4 := K3.cell 4
  have y5 := K3.cell 5
  have y6 := K3.cell 6
  have y7 := K3.cell 7
  have y8 := K3.cell 8
  have y9 := K3.cell 9
  have y10 := K3.cell 10
  go_upto_region 7 with (fail)
  clear y1 y2 y3 y4 y5 y6 y7 y8 y9 y10
  have k1 := (K1.cell 1).trans hC1
  have k2 := (K1.cell 2).trans hC2
  have k3 := (K1.cell 3).trans hC3
  have k4 := (K1.cell 4).trans hC4
  have k5 := (K1.cell 5).trans hC5
  go_upto_region 8 with (first | (go_at_call 26; refine (Hup.out _).mono ?_; intro e v2 m1; obtain ⟨A2, d2, rfl, ownx, b1⟩ := makes_len m1 Nup.out; have Ix := Ints.own ownx; replace own := own_below own b1; replace K1 := K1.below b1 K1.lt; replace K3 := K3.below b1 K3.lt; have hBs' : B ≤ v2.heap.size := Nat.le_trans hBs b1.size; replace BX := thenB BX b1; clear m1 b1 ownx) | (at_builtin; refine wpList_append_ints rfl _ _ 33 rfl .u8 B 5 i0 _ 1 Try.underlying33 hi hz0 hz1 hz2 rfl _ 1 _ rfl own _ A2 9 d2 (numL 1 (u c.ws) ++ numL 2 (u c.wo) ++ numL 2 (u c.it) ++ numL 2 (u c.la) ++ numL 2 (u c.ti)) rfl Nup.out Ix ?c1 ?c2 ?c3 ?_; (case c1 => unfold maxLen; omega); (case c2 => omega); (case c3 => exact hBs'); intro V2 X2 own9 b9 _))
  clear k1 k2 k3 k4 k5
  have hBs2 : B ≤ X2.heap.size := Nat.le_trans hBs' b9.size
  replace K1 := K1.below b9 hB
  replace K3 := K3.below b9 hB3
  replace BX := BX.trans (b9.mono (Nat.le_of_lt hB))
  clear hBs' Ix
  clear own
  have own : X2.ownsRow B 5 1 V2 10 (([c.k % 256] ++ (numL 1 (u c.ws) ++ numL 2 (u c.wo) ++ numL 2 (u c.it) ++ numL 2 (u c.la) ++ numL 2 (u c.ti))).map (Value.int .u8)) := by rw [List.map_append]; exact own9
  clear own9 b9 hBs
  have hBs := hBs2
  clear hBs2
  have y1 := K3.cell 1
  have y2 := K3.cell 2
  have y3 := K3.cell 3
  have y4 := K3.cell 4
  have y5 := K3.cell 5
  have y6 := K3.cell 6
  have y7 := K3.cell 7
  have y8 := K3.cell 8
  have y9 := K3.cell 9
  have y10 := K3.cell 10
  go_upto_region 26 with (fail)
  clear y1 y2 y3 y4 y5 y6 y7 y8 y9 y10
  go_wp2_with fail
  refine bodyPost_ret (results_tmp2 rfl _ _ _) rfl ?_
  exact gives_of rfl rfl (by simp [numL_len]) (own_base own (Nat.le_of_lt hB)) BX
set_option maxRecDepth 100000 in
set_option maxHeartbeats 4000000 in
theorem renc_ln (c : Ct) (w : World) (hg : GoodC c) (hp : ptsK c.k = some [.ln]) (h0 : chkC c = 0) : Calls Try.prog 13 #[.agg (encC c)] w fun e w' => Gives w w' e ([c.k % 256] ++ [c.ln % 256], 0) := by
  obtain ⟨i0, hi, hz0, hz1, hz2⟩ := info_parts info_u8
  have BX : Below w.heap.size w (w.alloc (.cells (encC c) 28)) := (Below.refl _ _).alloc (Nat.le_refl _) _
  have K1 : Blk (w.alloc (.cells (encC c) 28)) w.heap.size 28 (encC c) := Blk.fresh w 28 (encC c)
  have HSZ : (Try.prog.info? 28).map (·.size) = some (encC c).size := by kernel_rfl
  have HCk : Hid (∀ w, Calls Try.prog 10 #[.agg (encC c)] w fun e w' => e = .returned (.int .i64 0) ∧ Below w.heap.size w w') := Lib.hid fun w => by have := rchk_any c w hg; rw [h0] at this; exact this
  have HF : Hid (∀ w, Calls Try.prog 20 #[.int .i64 c.k] w fun e w' => e = .returned (.agg #[.bool true, .bool false, .bool false, .bool false, .bool false, .bool false, .bool false, .bool false, .bool false, .bool false, .bool true]) ∧ Below w.heap.size w w') := Lib.hid fun w => by have := fields_k c.k w; rw [hp] at this; exact this
  clear hp h0 hg
  have hC1 : (encC c)[1]? = some (.int .i64 c.ws) := rfl
  have hC2 : (encC c)[2]? = some (.int .i64 c.wo) := rfl
  have hC3 : (encC c)[3]? = some (.int .i64 c.it) := rfl
  have hC4 : (encC c)[4]? = some (.int .i64 c.la) := rfl
  have hC5 : (encC c)[5]? = some (.int .i64 c.ti) := rfl
  have hC6 : (encC c)[6]? = some (.int .u64 (c.m : Int)) := rfl
  have hC7 : (encC c)[7]? = some (.int .u16 c.ins) := rfl
  have hC8 : (encC c)[8]? = some (.int .i64 c.rs) := rfl
  have hC9 : (encC c)[9]? = some (.int .i64 c.rj) := rfl
  have hC10 : (encC c)[10]? = some (.int .u64 c.st) := rfl
  have hC11 : (encC c)[11]? = some (.int .u64 c.mr) := rfl
  have hC12 : (encC c)[12]? = some (.int .u64 c.ft) := rfl
  have hC13 : (encC c)[13]? = some (.int .i64 c.vs) := rfl
  have hC14 : (encC c)[14]? = some (.int .i64 c.ln) := rfl
  have hC0 : (encC c)[0]? = some (.int .i64 c.k) := rfl
  obtain ⟨C, hC⟩ : ∃ C, encC c = C := ⟨_, rfl⟩
  rw [hC] at BX K1 HSZ HCk hC0 hC1 hC2 hC3 hC4 hC5 hC6 hC7 hC8 hC9 hC10 hC11 hC12 hC13 hC14 ⊢
  clear hC
  go_enter Try.func13, Try.ntmps13
  go_upto_region 2 with (first | (refine wpList_load_row rfl 28 (.tmp 1) rfl w.heap.size rfl 28 _ (0, 0) _ K1 Try.underlying28 rfl HSZ ?_) | (go_at_call 10; refine (HCk.out _).mono ?_; rintro e w1 ⟨rfl, b1⟩))
  replace K1 := K1.below b1 K1.lt
  replace BX := thenB BX b1
  clear b1
  have k0 := (K1.cell 0).trans hC0
  go_upto_region 5 with (go_at_call 20; refine (HF.out _).mono ?_; rintro e w2 ⟨rfl, b1⟩)
  clear k0
  replace K1 := K1.below b1 K1.lt
  replace BX := thenB BX b1
  clear b1
  have b9 : Below w2.heap.size w2 (w2.alloc (.cells #[.bool true, .bool false, .bool false, .bool false, .bool false, .bool false, .bool false, .bool false, .bool false, .bool false, .bool true] 53)) := (Below.refl _ _).alloc (Nat.le_refl _) _
  have K3 : Blk (w2.alloc (.cells #[.bool true, .bool false, .bool false, .bool false, .bool false, .bool false, .bool false, .bool false, .bool false, .bool false, .bool true] 53)) w2.heap.size 53 #[.bool true, .bool false, .bool false, .bool false, .bool false, .bool false, .bool false, .bool false, .bool false, .bool false, .bool true] := Blk.fresh w2 53 #[.bool true, .bool false, .bool false, .bool false, .bool false, .bool false, .bool false, .bool false, .bool false, .bool false, .bool true]
  have hk1 := K1.lt
  replace K1 := K1.below b9 K1.lt
  replace BX := thenB BX b9
  clear b9
  generalize w2.alloc (.cells #[.bool true, .bool false, .bool false, .bool false, .bool false, .bool false, .bool false, .bool false, .bool false, .bool false, .bool true] 53) = X0 at *
  obtain ⟨g3, e3⟩ : ∃ g, w2.heap.size = g := ⟨_, rfl⟩
  rw [e3] at K3 hk1
  try simp only [e3]
  clear e3
  have k0 := (K1.cell 0).trans hC0
  go_upto_region 6 with (fail)
  clear k0
  have hB := K1.lt
  have hB3 := K3.lt
  have own : (X0.alloc (.cells #[.int .u8 (c.k % 256)] 5)).ownsRow X0.heap.size 5 1 (.slice (some ⟨X0.heap.size, 0, none⟩) 1 1) 1 ([c.k % 256].map (Value.int .u8)) := World.ownsRow_lit X0 #[.int .u8 (c.k % 256)] 1 (Nat.le_refl _) (by unfold maxLen; omega) rfl
  have hBs : X0.heap.size ≤ (X0.alloc (.cells #[.int .u8 (c.k % 256)] 5)).heap.size := by simp
  replace K1 := K1.alloc (.cells #[.int .u8 (c.k % 256)] 5)
  replace K3 := K3.alloc (.cells #[.int .u8 (c.k % 256)] 5)
  replace BX := BX.alloc BX.size (.cells #[.int .u8 (c.k % 256)] 5)
  generalize X0.alloc (.cells #[.int .u8 (c.k % 256)] 5) = X1 at *
  obtain ⟨B, eB⟩ : ∃ g, X0.heap.size = g := ⟨_, rfl⟩
  rw [eB] at own hB hB3 hBs
  try simp only [eB]
  clear eB
  have y1 := K3.cell 1
  have y2 := K3.cell 2
  have y3 := K3.cell 3
  have y4 := K3.cell 4
  have y5 := K3.cell 5
  have y6 := K3.cell 6
  have y7 := K3.cell 7
  have y8 := K3.cell 8
  have y9 := K3.cell 9
  have y10 := K3.cell 10
  go_upto_region 25 with (fail)
  clear y1 y2 y3 y4 y5 y6 y7 y8 y9 y10
  have k14 := (K1.cell 14).trans hC14
  go_upto_region 26 with (at_builtin; refine wpList_append_ints rfl _ _ 33 rfl .u8 B 5 i0 _ 1 Try.underlying33 hi hz0 hz1 hz2 rfl _ 1 _ rfl (own_below own ((Below.refl _ _).alloc (Nat.le_refl _) _)) (X1.heap.size + 1) _ 1 1 [c.ln % 256] rfl rfl ?c1 ?c2 ?c3 ?c4 ?_; (case c1 => exact Ints.lit _ _ _ _ _ rfl); (case c2 => unfold maxLen; omega); (case c3 => omega); (case c4 => have := hBs; simp; omega); intro V2 X2 own9 b9 _)
  clear k14
  have hBs2 : B ≤ X2.heap.size := Nat.le_trans (by have := hBs; simp; omega) b9.size
  replace K1 := (K1.alloc _).below b9 hB
  replace K3 := (K3.alloc _).below b9 hB3
  replace BX := (BX.alloc BX.size _).trans (b9.mono (Nat.le_of_lt hB))
  clear own
  have own : X2.ownsRow B 5 1 V2 2 (([c.k % 256] ++ [c.ln % 256]).map (Value.int .u8)) := by rw [List.map_append]; exact own9
  clear own9 b9 hBs
  have hBs := hBs2
  clear hBs2
  have y1 := K3.cell 1
  have y2 := K3.cell 2
  have y3 := K3.cell 3
  have y4 := K3.cell 4
  have y5 := K3.cell 5
  have y6 := K3.cell 6
  have y7 := K3.cell 7
  have y8 := K3.cell 8
  have y9 := K3.cell 9
  have y10 := K3.cell 10
  go_upto_region 26 with (fail)
  clear y1 y2 y3 y4 y5 y6 y7 y8 y9 y10
  go_wp2_with fail
  refine bodyPost_ret (results_tmp2 rfl _ _ _) rfl ?_
  exact gives_of rfl rfl (by simp) (own_base own (Nat.le_of_lt hB)) BX
set_option maxRecDepth 100000 in
set_option maxHeartbeats 4000000 in
theorem renc_bad (c : Ct) (w : World) (hg : GoodC c) (h0 : chkC c ≠ 0) : Calls Try.prog 13 #[.agg (encC c)] w fun e w' => Gives w w' e ([], chkC c) := by
  have BX : Below w.heap.size w (w.alloc (.cells (encC c) 28)) := (Below.refl _ _).alloc (Nat.le_refl _) _
  have K1 : Blk (w.alloc (.cells (encC c) 28)) w.heap.size 28 (encC c) := Blk.fresh w 28 (encC c)
  have HSZ : (Try.prog.info? 28).map (·.size) = some (encC c).size := by kernel_rfl
  have HCk : Hid (∀ w, Calls Try.prog 10 #[.agg (encC c)] w fun e w' => e = .returned (.int .i64 (chkC c)) ∧ Below w.heap.size w w') := Lib.hid fun w => rchk_any c w hg
  have hz' : (chkC c != 0) = true := by simpa using h0
  generalize chkC c = R at *
  generalize encC c = C at *
  clear hg
  go_enter Try.func13, Try.ntmps13
  go_wp2_with (first | (refine wpList_load_row rfl 28 (.tmp 1) rfl w.heap.size rfl 28 _ (0, 0) _ K1 Try.underlying28 rfl HSZ ?_) | (go_at_call 10; refine (HCk.out _).mono ?_; rintro e w1 ⟨rfl, b1⟩; replace BX := thenB BX b1; clear b1 K1))
  refine bodyPost_ret (results_tmp2 rfl _ _ _) rfl ?_
  exact ⟨none, 0, rfl, World.ownsRow_nil _ _ _ _, BX⟩
theorem k_u8 {k : Int} {ps : List Pt} (h : ptsK k = some ps) : k % 256 = k := by
  have := (pts_bd h).1
  omega
theorem chk_parts {c : Ct} (h0 : chkC c = 0) {ps : List Pt} (hp : ptsK c.k = some ps) : errP c ps = 0 := by
  obtain ⟨qs, hq, _, he⟩ := chk_zero h0
  rw [hp] at hq
  cases hq
  exact he
theorem renc_any (c : Ct) (w : World) (hg : GoodC c) : Calls Try.prog 13 #[.agg (encC c)] w fun e w' => Gives w w' e (encR c) := by
  by_cases h0 : chkC c = 0
  · cases hp : ptsK c.k with
    | none => exfalso; unfold chkC at h0; rw [hp] at h0; simp at h0
    | some ps =>
      have he := enc_ok hg h0 hp (chk_parts h0 hp)
      have hk := k_u8 hp
      rw [he]
      obtain ⟨i, hi⟩ := ptsK_ins hp
      unfold insT at hi
      simp only [List.mem_cons, Prod.mk.injEq, List.mem_nil_iff, or_false] at hi
      rcases hi with ⟨_, _, rfl⟩ | ⟨_, _, rfl⟩ | ⟨_, _, rfl⟩ | ⟨_, _, rfl⟩ | ⟨_, _, rfl⟩ | ⟨_, _, rfl⟩ | ⟨_, _, rfl⟩ | ⟨_, _, rfl⟩ | ⟨_, _, rfl⟩ | ⟨_, _, rfl⟩ | ⟨_, _, rfl⟩ | ⟨_, _, rfl⟩ | ⟨_, _, rfl⟩ | ⟨_, _, rfl⟩ | ⟨_, _, rfl⟩ | ⟨_, _, rfl⟩ | ⟨_, _, rfl⟩
      · have := renc_up_im c w hg hp h0; simp only [hk] at this; simpa [fpC, szP, getP, putL, num1] using this
      · have := renc_ch_im c w hg hp h0; simp only [hk] at this; simpa [fpC, szP, getP, putL, num1] using this
      · have := renc_rs c w hg hp h0; simp only [hk] at this; simpa [fpC, szP, getP, putL, num1] using this
      · have := renc_sa_mk c w hg hp h0; simp only [hk] at this; simpa [fpC, szP, getP, putL, num1] using this
      · have := renc_sa c w hg hp h0; simp only [hk] at this; simpa [fpC, szP, getP, putL, num1] using this
      · have := renc_no c w hg hp h0; simp only [hk] at this; simpa [fpC, szP, getP, putL, num1] using this
      · have := renc_no c w hg hp h0; simp only [hk] at this; simpa [fpC, szP, getP, putL, num1] using this
      · have := renc_rj c w hg hp h0; simp only [hk] at this; simpa [fpC, szP, getP, putL, num1] using this
      · have := renc_fe c w hg hp h0; simp only [hk] at this; simpa [fpC, szP, getP, putL, num1] using this
      · have := renc_fe c w hg hp h0; simp only [hk] at this; simpa [fpC, szP, getP, putL, num1] using this
      · have := renc_vs c w hg hp h0; simp only [hk] at this; simpa [fpC, szP, getP, putL, num1] using this
      · have := renc_rs_rj c w hg hp h0; simp only [hk] at this; simpa [fpC, szP, getP, putL, num1] using this
      · have := renc_up c w hg hp h0; simp only [hk] at this; simpa [fpC, szP, getP, putL, num1] using this
      · have := renc_no c w hg hp h0; simp only [hk] at this; simpa [fpC, szP, getP, putL, num1] using this
      · have := renc_no c w hg hp h0; simp only [hk] at this; simpa [fpC, szP, getP, putL, num1] using this
      · have := renc_ln c w hg hp h0; simp only [hk] at this; simpa [fpC, szP, getP, putL, num1] using this
      · have := renc_ln c w hg hp h0; simp only [hk] at this; simpa [fpC, szP, getP, putL, num1] using this
  · have he : encR c = ([], chkC c) := by unfold encR; rw [if_neg h0]
    rw [he]
    exact renc_bad c w hg h0
end Go.Proofs.Ytiopeghbpnjcgaa.Cp

/- Control PDUs: Encode is that of the document: walks. -/
set_option linter.unusedVariables false
set_option linter.unusedSimpArgs false
namespace Go.Proofs.Ytiopeghbpnjcgaa.Cp
open Go.RowKit Mem Oct Rw Av
open Base (thenB)
theorem encR_bytes {c : Ct} (hg : GoodC c) : Bytes (encR c).1 := by
  by_cases h0 : chkC c = 0
  · obtain ⟨r, h, _, _, hb⟩ := dec_enc hg h0
    rw [h]; exact hb
  · have he : encR c = ([], chkC c) := by unfold encR; rw [if_neg h0]
    rw [he]
    exact fun x hx => by cases hx
set_option maxRecDepth 100000 in
set_option maxHeartbeats 4000000 in
theorem encodes_any (c : Ct) (w : World) (hg : GoodC c) : Calls Try.prog 4 #[.agg (encC c)] w fun e w' => e = .returned (.bool true) ∧ Below w.heap.size w w' := by
  have HX := Lib.hid example_any
  have HB := Lib.hid (encR_bytes hg)
  have BX : Below w.heap.size w (w.alloc (.cells (encC c) 28)) := (Below.refl _ _).alloc (Nat.le_refl _) _
  have K1 : Blk (w.alloc (.cells (encC c) 28)) w.heap.size 28 (encC c) := Blk.fresh w 28 (encC c)
  have HSZ : (Try.prog.info? 28).map (·.size) = some (encC c).size := by kernel_rfl
  have H1 := Lib.hid fun w => encode_any c w hg
  have H2 := Lib.hid fun w => renc_any c w hg
  obtain ⟨⟨l, x⟩, he⟩ : ∃ r, encR c = r := ⟨_, rfl⟩
  rw [he] at HB H1 H2
  obtain ⟨n, hn⟩ : ∃ n, l.length = n := ⟨_, rfl⟩
  have HN := Lib.hid hn
  have e1 : (x == x) = true := by simp
  clear he hn hg
  generalize encC c = C at *
  go_enter Try.func4, Try.ntmps4
  go_upto_region 2 with (first | (refine wpList_load_row rfl 28 (.tmp 1) rfl w.heap.size rfl 28 _ (0, 0) _ K1 Try.underlying28 rfl HSZ ?_) | (go_at_call 12; refine (H1.out _).mono ?_; intro e w1 m1; obtain ⟨A1, c1, rfl, own1, b1⟩ := gives_len m1 HN.out))
  replace K1 := K1.below b1 K1.lt
  replace BX := thenB BX b1
  have I1 : Ints .u8 w1 w1.heap.size A1 l := Ints.own own1
  clear m1 own1 b1
  go_upto_region 3 with (first | (refine wpList_load_row rfl 28 (.tmp 1) rfl w.heap.size rfl 28 _ (0, 0) _ K1 Try.underlying28 rfl HSZ ?_) | (go_at_call 13; refine (H2.out _).mono ?_; intro e w2 m2; obtain ⟨A2, c2, rfl, own2, b2⟩ := gives_len m2 HN.out))
  replace BX := thenB BX b2
  replace I1 := Base.later I1 b2
  have I2 : Ints .u8 w2 w2.heap.size A2 l := Ints.own own2
  clear m2 own2 b2 K1
  go_wp2_with (first | (go_at_call 14; refine (same23_to (b := true) (xs := l) (ys := l) (by simp) HN.out HN.out HB.out HB.out I1 I2).mono ?_; rintro e X' ⟨rfl, rfl⟩) | (go_at_call 11; refine (HX.out _).mono ?_; rintro e w9 ⟨rfl, b9⟩))
  go_ret
  exact ⟨rfl, thenB BX b9⟩
end Go.Proofs.Ytiopeghbpnjcgaa.Cp
