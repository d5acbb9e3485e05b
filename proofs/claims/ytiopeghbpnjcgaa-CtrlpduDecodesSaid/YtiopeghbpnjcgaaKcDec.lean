import Derived.Test.YtiopeghbpnjcgaaCpDec
import Derived.Test.YtiopeghbpnjcgaaKcRest
import Derived.Test.YtiopeghbpnjcgaaKcChk
import Derived.Test.YtiopeghbpnjcgaaCpEx
import Derived.Test.YtiopeghbpnjcgaaCpArgs
/- Control PDUs: numbers and parameters that are read, by the document: contracts over the program. -/
set_option linter.unusedVariables false
set_option linter.unusedSimpArgs false
namespace Go.Proofs.Ytiopeghbpnjcgaa.Cp
open Go.RowKit Mem Oct Rw Av
open Base (thenB)
set_option maxRecDepth 100000 in
set_option maxHeartbeats 4000000 in
theorem rnum_any (A : Option Addr) (n c : Nat) (xs : List Int) (o z : Nat) (w : World) (hx : xs.length = n) (hn : n ≤ 1000000) (bx : Bytes xs) (hr : Ints .u8 w w.heap.size A xs) (hz : 1 ≤ z ∧ z ≤ 8) (ho : o + z ≤ n) :
    Calls Try.prog 51 #[.slice A n c, .int .i64 o, .int .i64 z] w fun e w' => e = .returned (.int .u64 (valL ((xs.drop o).take z))) ∧ w = w' := by
  obtain ⟨ys, hys⟩ : ∃ ys, (xs.drop o).take z = ys := ⟨_, rfl⟩
  have hyl : ys.length = z := by rw [← hys, List.length_take, List.length_drop]; omega
  have by_ : Bytes ys := by rw [← hys]; exact bytes_take (fun x h => bx x (List.mem_of_mem_drop h)) z
  have hg : ∀ m, m < z → ys.getD m 0 = xs.getD (o + m) 0 := fun m hm => by
    rw [← hys]; simp [List.getD, List.getElem?_take, hm, List.getElem?_drop]
  rw [hys]
  obtain ⟨b, off, rfl, hb, hc⟩ := hr.at_ (i := o) (by omega)
  clear hys hr
  go_enter Try.func51, Try.ntmps51
  go_wp2_with fail
  go_loop [7, 8] (fun v i => ∃ k : Nat, k ≤ z ∧ i = .int .i64 ((z : Int) - 1 - k) ∧ v = .int .u64 (valL (ys.drop (z - k)))) (fun _ i => (intOf i + 1).toNat)
  case atStart => exact ⟨0, by omega, by go_num, by rw [show z - 0 = ys.length by omega, List.drop_length]; rfl⟩
  case round =>
    obtain ⟨k, hk, rfl, rfl⟩ := hrel
    by_cases c1 : k < z
    · obtain ⟨m, rfl⟩ : ∃ m, z = m + 1 + k := ⟨z - 1 - k, by omega⟩
      have f1 := hc (o + m) (by omega)
      have bk := bytes_get by_ m
      have hb1 := drop_bd by_ (by omega) (m + 1)
      have hb2 := drop_bd' by_ (by omega) (m + 1) (by omega)
      have hv := drop_val (xs := ys) (k := m) (by omega) rfl
      rw [hg m (by omega)] at bk hv
      rw [show m + 1 + k - k = m + 1 by omega] at *
      have HV : Hid (valL (ys.drop m) = xs.getD (o + m) 0 + 256 * valL (ys.drop (m + 1))) := Lib.hid hv
      generalize xs.getD (o + m) 0 = x at *
      obtain ⟨V, hV⟩ : ∃ V, valL (ys.drop (m + 1)) = V := ⟨_, rfl⟩
      rw [hV] at HV hb1 hb2 ⊢
      rw [show ((m + 1 + k : Nat) : Int) - 1 - (k : Int) = (m : Int) by omega]
      have hw : IntKind.i64.wrap ((o : Int) + (m : Int)) = ((o + m : Nat) : Int) := by simp only [IntKind.wrap, IntKind.signed, IntKind.bits]; simp; omega
      have hw2 : IntKind.u64.wrap (V * 256 + x) = V * 256 + x := by simp only [IntKind.wrap, IntKind.signed, IntKind.bits]; simp; omega
      have ho3 : o + m < n := by omega
      clear hc hV hv hg hyl
      go_wp2_with fail
      go_round
      case rel => exact ⟨k + 1, by omega, by go_num, by rw [show m + 1 + k - (k + 1) = m by omega, HV.out]; exact congrArg (Value.int .u64) (by omega)⟩
      case measure => simp [intOf] <;> omega
    · obtain rfl : k = z := by omega
      have HT : Hid (ys.drop (k - k) = ys) := Lib.hid (by simp)
      go_wp2_with fail
      go_ret
      exact ⟨Ser.ret_int (by first | rw [HT.out] | (simp)), rfl⟩
end Go.Proofs.Ytiopeghbpnjcgaa.Cp

/- Control PDUs: parameters that are read, sizes, fields that are read, by the document: contracts over the program. -/
set_option linter.unusedVariables false
set_option linter.unusedSimpArgs false
namespace Go.Proofs.Ytiopeghbpnjcgaa.Cp
open Go.RowKit Mem Oct Rw Av
open Base (thenB)
def numAt (xs : List Int) (o z : Int) : Int := valL ((xs.drop o.toNat).take z.toNat)
theorem rnumI (A : Option Addr) (n c : Nat) (xs : List Int) (w : World) (hx : xs.length = n) (hn : n ≤ 1000000) (bx : Bytes xs) (hr : Ints .u8 w w.heap.size A xs) (o z : Int) (hz : 1 ≤ z ∧ z ≤ 8) (h0 : 0 ≤ o) (ho : o + z ≤ n) :
    Calls Try.prog 51 #[.slice A n c, .int .i64 o, .int .i64 z] w fun e w' => e = .returned (.int .u64 (numAt xs o z)) ∧ w = w' := by
  obtain ⟨o', rfl⟩ := Int.eq_ofNat_of_zero_le h0
  obtain ⟨z', rfl⟩ := Int.eq_ofNat_of_zero_le (show 0 ≤ z by omega)
  exact rnum_any A n c xs o' z' w hx hn bx hr (by omega) (by omega)
theorem numAt_bd {xs : List Int} (bx : Bytes xs) {o z : Int} (h0 : 0 ≤ o) (hz : 0 ≤ z) (ho : o + z ≤ (xs.length : Int)) : 0 ≤ numAt xs o z ∧ numAt xs o z < Ser.p2 (8 * z.toNat) := by
  have := valL_bd (bytes_take (fun x h => bx x (List.mem_of_mem_drop h)) z.toNat : Bytes ((xs.drop o.toNat).take z.toNat))
  rw [show ((xs.drop o.toNat).take z.toNat).length = z.toNat by rw [List.length_take, List.length_drop]; omega] at this
  exact this
theorem w64 {x : Int} (h : 0 ≤ x ∧ x ≤ 65535) : IntKind.i64.wrap x = x := by simp only [IntKind.wrap, IntKind.signed, IntKind.bits]; simp; omega
theorem w16 {x : Int} (h : 0 ≤ x ∧ x ≤ 65535) : IntKind.u16.wrap x = x := by simp only [IntKind.wrap, IntKind.signed, IntKind.bits]; simp; omega
set_option maxRecDepth 100000 in
set_option maxHeartbeats 4000000 in
theorem takeup_any (A : Option Addr) (n c : Nat) (xs : List Int) (w : World) (hx : xs.length = n) (hn : n ≤ 1000000) (bx : Bytes xs) (hr : Ints .u8 w w.heap.size A xs) (h10 : 10 ≤ n) : Calls Try.prog 50 #[.slice A n c, .int .i64 1] w fun e w' => e = .returned (.agg #[.int .i64 (numAt xs 1 1), .int .i64 (numAt xs 2 2), .int .i64 (numAt xs 4 2), .int .i64 (numAt xs 6 2), .int .i64 (numAt xs 8 2)]) ∧ Below w.heap.size w w' := by
  have B0 : Below w.heap.size w (w.alloc (.cells #[.int .i64 0, .int .i64 0, .int .i64 0, .int .i64 0, .int .i64 0] 23)) := (Below.refl _ _).alloc (Nat.le_refl _) _
  have K := Blk.fresh w 23 #[.int .i64 0, .int .i64 0, .int .i64 0, .int .i64 0, .int .i64 0]
  have HN := Lib.hid fun o z => rnumI A n c xs (w.alloc (.cells #[.int .i64 0, .int .i64 0, .int .i64 0, .int .i64 0, .int .i64 0] 23)) hx hn bx (Base.later hr B0) o z
  have b1 := numAt_bd bx (o := 1) (z := 1) (by decide) (by decide) (by omega)
  have b2 := numAt_bd bx (o := 2) (z := 2) (by decide) (by decide) (by omega)
  have b3 := numAt_bd bx (o := 4) (z := 2) (by decide) (by decide) (by omega)
  have b4 := numAt_bd bx (o := 6) (z := 2) (by decide) (by decide) (by omega)
  have b5 := numAt_bd bx (o := 8) (z := 2) (by decide) (by decide) (by omega)
  rw [show Ser.p2 (8 * (1 : Int).toNat) = 256 by decide] at b1
  rw [show Ser.p2 (8 * (2 : Int).toNat) = 65536 by decide] at b2
  rw [show Ser.p2 (8 * (2 : Int).toNat) = 65536 by decide] at b3
  rw [show Ser.p2 (8 * (2 : Int).toNat) = 65536 by decide] at b4
  rw [show Ser.p2 (8 * (2 : Int).toNat) = 65536 by decide] at b5
  have e1 := w64 (x := numAt xs 1 1) (by omega)
  have e2 := w64 (x := numAt xs 2 2) (by omega)
  have e3 := w64 (x := numAt xs 4 2) (by omega)
  have e4 := w64 (x := numAt xs 6 2) (by omega)
  have e5 := w64 (x := numAt xs 8 2) (by omega)
  have H1 : (#[.int .i64 (numAt xs 1 1), .int .i64 (numAt xs 2 2), .int .i64 (numAt xs 4 2), .int .i64 (numAt xs 6 2), .int .i64 (numAt xs 8 2)] : Array Value).all (·.oneCell') = true := by rw [← Array.all_toList]; rfl
  clear b1 b2 b3 b4 b5 hr bx hx
  go_enter Try.func50, Try.ntmps50
  go_upto_region 1 with (fail)
  generalize w.alloc (.cells #[.int .i64 0, .int .i64 0, .int .i64 0, .int .i64 0, .int .i64 0] 23) = W0 at *
  go_wp2_with (first | (go_at_call 51; refine (HN.out _ _ (by decide) (by decide) (by omega)).mono ?_; rintro e w1 ⟨rfl, rfl⟩) | (refine wpList_store_row rfl 23 (.tmp 4) _ rfl w.heap.size #[.int .i64 (numAt xs 1 1), .int .i64 (numAt xs 2 2), .int .i64 (numAt xs 4 2), .int .i64 (numAt xs 6 2), .int .i64 (numAt xs 8 2)] rfl rfl 23 _ K (by kernel_rfl) rfl H1 ?_))
  have KR := setRow_heap W0 w.heap.size _ #[.int .i64 (numAt xs 1 1), .int .i64 (numAt xs 2 2), .int .i64 (numAt xs 4 2), .int .i64 (numAt xs 6 2), .int .i64 (numAt xs 8 2)] 23 (0, 0) K
  have BE := below_setRow B0 (Nat.le_refl _) #[.int .i64 (numAt xs 1 1), .int .i64 (numAt xs 2 2), .int .i64 (numAt xs 4 2), .int .i64 (numAt xs 6 2), .int .i64 (numAt xs 8 2)]
  generalize W0.setRow w.heap.size #[.int .i64 (numAt xs 1 1), .int .i64 (numAt xs 2 2), .int .i64 (numAt xs 4 2), .int .i64 (numAt xs 6 2), .int .i64 (numAt xs 8 2)] = Y at *
  refine bodyPost_ret (v := .agg #[.int .i64 (numAt xs 1 1), .int .i64 (numAt xs 2 2), .int .i64 (numAt xs 4 2), .int .i64 (numAt xs 6 2), .int .i64 (numAt xs 8 2)]) ?_ rfl ⟨rfl, BE⟩
  have HL := run_loadVar_row (P := Try.prog) Y w.heap.size 23 23 #[.int .i64 (numAt xs 1 1), .int .i64 (numAt xs 2 2), .int .i64 (numAt xs 4 2), .int .i64 (numAt xs 6 2), .int .i64 (numAt xs 8 2)] (0, 0) _ KR Try.underlying23 rfl (by kernel_rfl)
  generalize (#[.int .i64 (numAt xs 1 1), .int .i64 (numAt xs 2 2), .int .i64 (numAt xs 4 2), .int .i64 (numAt xs 6 2), .int .i64 (numAt xs 8 2)] : Array Value) = CS at *
  simp [results, show (Try.f50).results = #[.cell 4 23] from rfl, asAddr, HL, Act.put]
set_option maxRecDepth 100000 in
set_option maxHeartbeats 4000000 in
theorem rsize_up_im (k : Int) (w : World) (hp : ptsK k = some [.up, .im]) : Calls Try.prog 29 #[.int .i64 k] w fun e w' => e = .returned (.int .i64 12) ∧ Below w.heap.size w w' := by
  have HF : Hid (∀ w, Calls Try.prog 20 #[.int .i64 k] w fun e w' => e = .returned (.agg #[.bool true, .bool true, .bool false, .bool true, .bool false, .bool false, .bool false, .bool false, .bool false, .bool false, .bool false]) ∧ Below w.heap.size w w') := Lib.hid fun w => by have := fields_k k w; rw [hp] at this; exact this
  clear hp
  go_enter Try.func29, Try.ntmps29
  go_upto_region 2 with (go_at_call 20; refine (HF.out _).mono ?_; rintro e w1 ⟨rfl, b1⟩)
  have K3 : Blk (w1.alloc (.cells #[.bool true, .bool true, .bool false, .bool true, .bool false, .bool false, .bool false, .bool false, .bool false, .bool false, .bool false] 53)) w1.heap.size 53 #[.bool true, .bool true, .bool false, .bool true, .bool false, .bool false, .bool false, .bool false, .bool false, .bool false, .bool false] := Blk.fresh w1 53 #[.bool true, .bool true, .bool false, .bool true, .bool false, .bool false, .bool false, .bool false, .bool false, .bool false, .bool false]
  have BX := b1.alloc b1.size (.cells #[.bool true, .bool true, .bool false, .bool true, .bool false, .bool false, .bool false, .bool false, .bool false, .bool false, .bool false] 53)
  have y1 := K3.cell 1
  have y2 := K3.cell 2
  have y3 := K3.cell 3
  have y4 := K3.cell 4
  have y5 := K3.cell 5
  have y6 := K3.cell 6
  have y7 := K3.cell 7
  have y8 := K3.cell 8
  have y9 := K3.cell 9
  have y10 := K3.cell 10
  clear b1 K3
  generalize w1.alloc (.cells #[.bool true, .bool true, .bool false, .bool true, .bool false, .bool false, .bool false, .bool false, .bool false, .bool false, .bool false] 53) = X0 at *
  go_wp2_with fail
  go_ret
  exact ⟨rfl, BX⟩
set_option maxRecDepth 100000 in
set_option maxHeartbeats 4000000 in
theorem rsize_ch_im (k : Int) (w : World) (hp : ptsK k = some [.ch, .im]) : Calls Try.prog 29 #[.int .i64 k] w fun e w' => e = .returned (.int .i64 8) ∧ Below w.heap.size w w' := by
  have HF : Hid (∀ w, Calls Try.prog 20 #[.int .i64 k] w fun e w' => e = .returned (.agg #[.bool true, .bool false, .bool true, .bool true, .bool false, .bool false, .bool false, .bool false, .bool false, .bool false, .bool false]) ∧ Below w.heap.size w w') := Lib.hid fun w => by have := fields_k k w; rw [hp] at this; exact this
  clear hp
  go_enter Try.func29, Try.ntmps29
  go_upto_region 2 with (go_at_call 20; refine (HF.out _).mono ?_; rintro e w1 ⟨rfl, b1⟩)
  have K3 : Blk (w1.alloc (.cells #[.bool true, .bool false, .bool true, .bool true, .bool false, .bool false, .bool false, .bool false, .bool false, .bool false, .bool false] 53)) w1.heap.size 53 #[.bool true, .bool false, .bool true, .bool true, .bool false, .bool false, .bool false, .bool false, .bool false, .bool false, .bool false] := Blk.fresh w1 53 #[.bool true, .bool false, .bool true, .bool true, .bool false, .bool false, .bool false, .bool false, .bool false, .bool false, .bool false]
  have BX := b1.alloc b1.size (.cells #[.bool true, .bool false, .bool true, .bool true, .bool false, .bool false, .bool false, .bool false, .bool false, .bool false, .bool false] 53)
  have y1 := K3.cell 1
  have y2 := K3.cell 2
  have y3 := K3.cell 3
  have y4 := K3.cell 4
  have y5 := K3.cell 5
  have y6 := K3.cell 6
  have y7 := K3.cell 7
  have y8 := K3.cell 8
  have y9 := K3.cell 9
  have y10 := K3.cell 10
  clear b1 K3
  generalize w1.alloc (.cells #[.bool true, .bool false, .bool true, .bool true, .bool false, .bool false, .bool false, .bool false, .bool false, .bool false, .bool false] 53) = X0 at *
  go_wp2_with fail
  go_ret
  exact ⟨rfl, BX⟩
set_option maxRecDepth 100000 in
set_option maxHeartbeats 4000000 in
theorem rsize_rs (k : Int) (w : World) (hp : ptsK k = some [.rs]) : Calls Try.prog 29 #[.int .i64 k] w fun e w' => e = .returned (.int .i64 2) ∧ Below w.heap.size w w' := by
  have HF : Hid (∀ w, Calls Try.prog 20 #[.int .i64 k] w fun e w' => e = .returned (.agg #[.bool true, .bool false, .bool false, .bool false, .bool true, .bool false, .bool false, .bool false, .bool false, .bool false, .bool false]) ∧ Below w.heap.size w w') := Lib.hid fun w => by have := fields_k k w; rw [hp] at this; exact this
  clear hp
  go_enter Try.func29, Try.ntmps29
  go_upto_region 2 with (go_at_call 20; refine (HF.out _).mono ?_; rintro e w1 ⟨rfl, b1⟩)
  have K3 : Blk (w1.alloc (.cells #[.bool true, .bool false, .bool false, .bool false, .bool true, .bool false, .bool false, .bool false, .bool false, .bool false, .bool false] 53)) w1.heap.size 53 #[.bool true, .bool false, .bool false, .bool false, .bool true, .bool false, .bool false, .bool false, .bool false, .bool false, .bool false] := Blk.fresh w1 53 #[.bool true, .bool false, .bool false, .bool false, .bool true, .bool false, .bool false, .bool false, .bool false, .bool false, .bool false]
  have BX := b1.alloc b1.size (.cells #[.bool true, .bool false, .bool false, .bool false, .bool true, .bool false, .bool false, .bool false, .bool false, .bool false, .bool false] 53)
  have y1 := K3.cell 1
  have y2 := K3.cell 2
  have y3 := K3.cell 3
  have y4 := K3.cell 4
  have y5 := K3.cell 5
  have y6 := K3.cell 6
  have y7 := K3.cell 7
  have y8 := K3.cell 8
  have y9 := K3.cell 9
  have y10 := K3.cell 10
  clear b1 K3
  generalize w1.alloc (.cells #[.bool true, .bool false, .bool false, .bool false, .bool true, .bool false, .bool false, .bool false, .bool false, .bool false, .bool false] 53) = X0 at *
  go_wp2_with fail
  go_ret
  exact ⟨rfl, BX⟩
set_option maxRecDepth 100000 in
set_option maxHeartbeats 4000000 in
theorem rsize_sa_mk (k : Int) (w : World) (hp : ptsK k = some [.sa, .mk]) : Calls Try.prog 29 #[.int .i64 k] w fun e w' => e = .returned (.int .i64 17) ∧ Below w.heap.size w w' := by
  have HF : Hid (∀ w, Calls Try.prog 20 #[.int .i64 k] w fun e w' => e = .returned (.agg #[.bool true, .bool false, .bool false, .bool false, .bool false, .bool false, .bool true, .bool true, .bool false, .bool false, .bool false]) ∧ Below w.heap.size w w') := Lib.hid fun w => by have := fields_k k w; rw [hp] at this; exact this
  clear hp
  go_enter Try.func29, Try.ntmps29
  go_upto_region 2 with (go_at_call 20; refine (HF.out _).mono ?_; rintro e w1 ⟨rfl, b1⟩)
  have K3 : Blk (w1.alloc (.cells #[.bool true, .bool false, .bool false, .bool false, .bool false, .bool false, .bool true, .bool true, .bool false, .bool false, .bool false] 53)) w1.heap.size 53 #[.bool true, .bool false, .bool false, .bool false, .bool false, .bool false, .bool true, .bool true, .bool false, .bool false, .bool false] := Blk.fresh w1 53 #[.bool true, .bool false, .bool false, .bool false, .bool false, .bool false, .bool true, .bool true, .bool false, .bool false, .bool false]
  have BX := b1.alloc b1.size (.cells #[.bool true, .bool false, .bool false, .bool false, .bool false, .bool false, .bool true, .bool true, .bool false, .bool false, .bool false] 53)
  have y1 := K3.cell 1
  have y2 := K3.cell 2
  have y3 := K3.cell 3
  have y4 := K3.cell 4
  have y5 := K3.cell 5
  have y6 := K3.cell 6
  have y7 := K3.cell 7
  have y8 := K3.cell 8
  have y9 := K3.cell 9
  have y10 := K3.cell 10
  clear b1 K3
  generalize w1.alloc (.cells #[.bool true, .bool false, .bool false, .bool false, .bool false, .bool false, .bool true, .bool true, .bool false, .bool false, .bool false] 53) = X0 at *
  go_wp2_with fail
  go_ret
  exact ⟨rfl, BX⟩
set_option maxRecDepth 100000 in
set_option maxHeartbeats 4000000 in
theorem rsize_sa (k : Int) (w : World) (hp : ptsK k = some [.sa]) : Calls Try.prog 29 #[.int .i64 k] w fun e w' => e = .returned (.int .i64 9) ∧ Below w.heap.size w w' := by
  have HF : Hid (∀ w, Calls Try.prog 20 #[.int .i64 k] w fun e w' => e = .returned (.agg #[.bool true, .bool false, .bool false, .bool false, .bool false, .bool false, .bool true, .bool false, .bool false, .bool false, .bool false]) ∧ Below w.heap.size w w') := Lib.hid fun w => by have := fields_k k w; rw [hp] at this; exact this
  clear hp
  go_enter Try.func29, Try.ntmps29
  go_upto_region 2 with (go_at_call 20; refine (HF.out _).mono ?_; rintro e w1 ⟨rfl, b1⟩)
  have K3 : Blk (w1.alloc (.cells #[.bool true, .bool false, .bool false, .bool false, .bool false, .bool false, .bool true, .bool false, .bool false, .bool false, .bool false] 53)) w1.heap.size 53 #[.bool true, .bool false, .bool false, .bool false, .bool false, .bool false, .bool true, .bool false, .bool false, .bool false, .bool false] := Blk.fresh w1 53 #[.bool true, .bool false, .bool false, .bool false, .bool false, .bool false, .bool true, .bool false, .bool false, .bool false, .bool false]
  have BX := b1.alloc b1.size (.cells #[.bool true, .bool false, .bool false, .bool false, .bool false, .bool false, .bool true, .bool false, .bool false, .bool false, .bool false] 53)
  have y1 := K3.cell 1
  have y2 := K3.cell 2
  have y3 := K3.cell 3
  have y4 := K3.cell 4
  have y5 := K3.cell 5
  have y6 := K3.cell 6
  have y7 := K3.cell 7
  have y8 := K3.cell 8
  have y9 := K3.cell 9
  have y10 := K3.cell 10
  clear b1 K3
  generalize w1.alloc (.cells #[.bool true, .bool false, .bool false, .bool false, .bool false, .bool false, .bool true, .bool false, .bool false, .bool false, .bool false] 53) = X0 at *
  go_wp2_with fail
  go_ret
  exact ⟨rfl, BX⟩
set_option maxRecDepth 100000 in
set_option maxHeartbeats 4000000 in
theorem rsize_no (k : Int) (w : World) (hp : ptsK k = some []) : Calls Try.prog 29 #[.int .i64 k] w fun e w' => e = .returned (.int .i64 1) ∧ Below w.heap.size w w' := by
  have HF : Hid (∀ w, Calls Try.prog 20 #[.int .i64 k] w fun e w' => e = .returned (.agg #[.bool true, .bool false, .bool false, .bool false, .bool false, .bool false, .bool false, .bool false, .bool false, .bool false, .bool false]) ∧ Below w.heap.size w w') := Lib.hid fun w => by have := fields_k k w; rw [hp] at this; exact this
  clear hp
  go_enter Try.func29, Try.ntmps29
  go_upto_region 2 with (go_at_call 20; refine (HF.out _).mono ?_; rintro e w1 ⟨rfl, b1⟩)
  have K3 : Blk (w1.alloc (.cells #[.bool true, .bool false, .bool false, .bool false, .bool false, .bool false, .bool false, .bool false, .bool false, .bool false, .bool false] 53)) w1.heap.size 53 #[.bool true, .bool false, .bool false, .bool false, .bool false, .bool false, .bool false, .bool false, .bool false, .bool false, .bool false] := Blk.fresh w1 53 #[.bool true, .bool false, .bool false, .bool false, .bool false, .bool false, .bool false, .bool false, .bool false, .bool false, .bool false]
  have BX := b1.alloc b1.size (.cells #[.bool true, .bool false, .bool false, .bool false, .bool false, .bool false, .bool false, .bool false, .bool false, .bool false, .bool false] 53)
  have y1 := K3.cell 1
  have y2 := K3.cell 2
  have y3 := K3.cell 3
  have y4 := K3.cell 4
  have y5 := K3.cell 5
  have y6 := K3.cell 6
  have y7 := K3.cell 7
  have y8 := K3.cell 8
  have y9 := K3.cell 9
  have y10 := K3.cell 10
  clear b1 K3
  generalize w1.alloc (.cells #[.bool true, .bool false, .bool false, .bool false, .bool false, .bool false, .bool false, .bool false, .bool false, .bool false, .bool false] 53) = X0 at *
  go_wp2_with fail
  go_ret
  exact ⟨rfl, BX⟩
set_option maxRecDepth 100000 in
set_option maxHeartbeats 4000000 in
theorem rsize_rj (k : Int) (w : World) (hp : ptsK k = some [.rj]) : Calls Try.prog 29 #[.int .i64 k] w fun e w' => e = .returned (.int .i64 2) ∧ Below w.heap.size w w' := by
  have HF : Hid (∀ w, Calls Try.prog 20 #[.int .i64 k] w fun e w' => e = .returned (.agg #[.bool true, .bool false, .bool false, .bool false, .bool false, .bool true, .bool false, .bool false, .bool false, .bool false, .bool false]) ∧ Below w.heap.size w w') := Lib.hid fun w => by have := fields_k k w; rw [hp] at this; exact this
  clear hp
  go_enter Try.func29, Try.ntmps29
  go_upto_region 2 with (go_at_call 20; refine (HF.out _).mono ?_; rintro e w1 ⟨rfl, b1⟩)
  have K3 : Blk (w1.alloc (.cells #[.bool true, .bool false, .bool false, .bool false, .bool false, .bool true, .bool false, .bool false, .bool false, .bool false, .bool false] 53)) w1.heap.size 53 #[.bool true, .bool false, .bool false, .bool false, .bool false, .bool true, .bool false, .bool false, .bool false, .bool false, .bool false] := Blk.fresh w1 53 #[.bool true, .bool false, .bool false, .bool false, .bool false, .bool true, .bool false, .bool false, .bool false, .bool false, .bool false]
  have BX := b1.alloc b1.size (.cells #[.bool true, .bool false, .bool false, .bool false, .bool false, .bool true, .bool false, .bool false, .bool false, .bool false, .bool false] 53)
  have y1 := K3.cell 1
  have y2 := K3.cell 2
  have y3 := K3.cell 3
  have y4 := K3.cell 4
  have y5 := K3.cell 5
  have y6 := K3.cell 6
  have y7 := K3.cell 7
  have y8 := K3.cell 8
  have y9 := K3.cell 9
  have y10 := K3.cell 10
  clear b1 K3
  generalize w1.alloc (.cells #[.bool true, .bool false, .bool false, .bool false, .bool false, .bool true, .bool false, .bool false, .bool false, .bool false, .bool false] 53) = X0 at *
  go_wp2_with fail
  go_ret
  exact ⟨rfl, BX⟩
set_option maxRecDepth 100000 in
set_option maxHeartbeats 4000000 in
theorem rsize_fe (k : Int) (w : World) (hp : ptsK k = some [.fe]) : Calls Try.prog 29 #[.int .i64 k] w fun e w' => e = .returned (.int .i64 9) ∧ Below w.heap.size w w' := by
  have HF : Hid (∀ w, Calls Try.prog 20 #[.int .i64 k] w fun e w' => e = .returned (.agg #[.bool true, .bool false, .bool false, .bool false, .bool false, .bool false, .bool false, .bool false, .bool true, .bool false, .bool false]) ∧ Below w.heap.size w w') := Lib.hid fun w => by have := fields_k k w; rw [hp] at this; exact this
  clear hp
  go_enter Try.func29, Try.ntmps29
  go_upto_region 2 with (go_at_call 20; refine (HF.out _).mono ?_; rintro e w1 ⟨rfl, b1⟩)
  have K3 : Blk (w1.alloc (.cells #[.bool true, .bool false, .bool false, .bool false, .bool false, .bool false, .bool false, .bool false, .bool true, .bool false, .bool false] 53)) w1.heap.size 53 #[.bool true, .bool false, .bool false, .bool false, .bool false, .bool false, .bool false, .bool false, .bool true, .bool false, .bool false] := Blk.fresh w1 53 #[.bool true, .bool false, .bool false, .bool false, .bool false, .bool false, .bool false, .bool false, .bool true, .bool false, .bool false]
  have BX := b1.alloc b1.size (.cells #[.bool true, .bool false, .bool false, .bool false, .bool false, .bool false, .bool false, .bool false, .bool true, .bool false, .bool false] 53)
  have y1 := K3.cell 1
  have y2 := K3.cell 2
  have y3 := K3.cell 3
  have y4 := K3.cell 4
  have y5 := K3.cell 5
  have y6 := K3.cell 6
  have y7 := K3.cell 7
  have y8 := K3.cell 8
  have y9 := K3.cell 9
  have y10 := K3.cell 10
  clear b1 K3
  generalize w1.alloc (.cells #[.bool true, .bool false, .bool false, .bool false, .bool false, .bool false, .bool false, .bool false, .bool true, .bool false, .bool false] 53) = X0 at *
  go_wp2_with fail
  go_ret
  exact ⟨rfl, BX⟩
set_option maxRecDepth 100000 in
set_option maxHeartbeats 4000000 in
theorem rsize_vs (k : Int) (w : World) (hp : ptsK k = some [.vs]) : Calls Try.prog 29 #[.int .i64 k] w fun e w' => e = .returned (.int .i64 2) ∧ Below w.heap.size w w' := by
  have HF : Hid (∀ w, Calls Try.prog 20 #[.int .i64 k] w fun e w' => e = .returned (.agg #[.bool true, .bool false, .bool false, .bool false, .bool false, .bool false, .bool false, .bool false, .bool false, .bool true, .bool false]) ∧ Below w.heap.size w w') := Lib.hid fun w => by have := fields_k k w; rw [hp] at this; exact this
  clear hp
  go_enter Try.func29, Try.ntmps29
  go_upto_region 2 with (go_at_call 20; refine (HF.out _).mono ?_; rintro e w1 ⟨rfl, b1⟩)
  have K3 : Blk (w1.alloc (.cells #[.bool true, .bool false, .bool false, .bool false, .bool false, .bool false, .bool false, .bool false, .bool false, .bool true, .bool false] 53)) w1.heap.size 53 #[.bool true, .bool false, .bool false, .bool false, .bool false, .bool false, .bool false, .bool false, .bool false, .bool true, .bool false] := Blk.fresh w1 53 #[.bool true, .bool false, .bool false, .bool false, .bool false, .bool false, .bool false, .bool false, .bool false, .bool true, .bool false]
  have BX := b1.alloc b1.size (.cells #[.bool true, .bool false, .bool false, .bool false, .bool false, .bool false, .bool false, .bool false, .bool false, .bool true, .bool false] 53)
  have y1 := K3.cell 1
  have y2 := K3.cell 2
  have y3 := K3.cell 3
  have y4 := K3.cell 4
  have y5 := K3.cell 5
  have y6 := K3.cell 6
  have y7 := K3.cell 7
  have y8 := K3.cell 8
  have y9 := K3.cell 9
  have y10 := K3.cell 10
  clear b1 K3
  generalize w1.alloc (.cells #[.bool true, .bool false, .bool false, .bool false, .bool false, .bool false, .bool false, .bool false, .bool false, .bool true, .bool false] 53) = X0 at *
  go_wp2_with fail
  go_ret
  exact ⟨rfl, BX⟩
set_option maxRecDepth 100000 in
set_option maxHeartbeats 4000000 in
theorem rsize_rs_rj (k : Int) (w : World) (hp : ptsK k = some [.rs, .rj]) : Calls Try.prog 29 #[.int .i64 k] w fun e w' => e = .returned (.int .i64 3) ∧ Below w.heap.size w w' := by
  have HF : Hid (∀ w, Calls Try.prog 20 #[.int .i64 k] w fun e w' => e = .returned (.agg #[.bool true, .bool false, .bool false, .bool false, .bool true, .bool true, .bool false, .bool false, .bool false, .bool false, .bool false]) ∧ Below w.heap.size w w') := Lib.hid fun w => by have := fields_k k w; rw [hp] at this; exact this
  clear hp
  go_enter Try.func29, Try.ntmps29
  go_upto_region 2 with (go_at_call 20; refine (HF.out _).mono ?_; rintro e w1 ⟨rfl, b1⟩)
  have K3 : Blk (w1.alloc (.cells #[.bool true, .bool false, .bool false, .bool false, .bool true, .bool true, .bool false, .bool false, .bool false, .bool false, .bool false] 53)) w1.heap.size 53 #[.bool true, .bool false, .bool false, .bool false, .bool true, .bool true, .bool false, .bool false, .bool false, .bool false, .bool false] := Blk.fresh w1 53 #[.bool true, .bool false, .bool false, .bool false, .bool true, .bool true, .bool false, .bool false, .bool false, .bool false, .bool false]
  have BX := b1.alloc b1.size (.cells #[.bool true, .bool false, .bool false, .bool false, .bool true, .bool true, .bool false, .bool false, .bool false, .bool false, .bool false] 53)
  have y1 := K3.cell 1
  have y2 := K3.cell 2
  have y3 := K3.cell 3
  have y4 := K3.cell 4
  have y5 := K3.cell 5
  have y6 := K3.cell 6
  have y7 := K3.cell 7
  have y8 := K3.cell 8
  have y9 := K3.cell 9
  have y10 := K3.cell 10
  clear b1 K3
  generalize w1.alloc (.cells #[.bool true, .bool false, .bool false, .bool false, .bool true, .bool true, .bool false, .bool false, .bool false, .bool false, .bool false] 53) = X0 at *
  go_wp2_with fail
  go_ret
  exact ⟨rfl, BX⟩
set_option maxRecDepth 100000 in
set_option maxHeartbeats 4000000 in
theorem rsize_up (k : Int) (w : World) (hp : ptsK k = some [.up]) : Calls Try.prog 29 #[.int .i64 k] w fun e w' => e = .returned (.int .i64 10) ∧ Below w.heap.size w w' := by
  have HF : Hid (∀ w, Calls Try.prog 20 #[.int .i64 k] w fun e w' => e = .returned (.agg #[.bool true, .bool true, .bool false, .bool false, .bool false, .bool false, .bool false, .bool false, .bool false, .bool false, .bool false]) ∧ Below w.heap.size w w') := Lib.hid fun w => by have := fields_k k w; rw [hp] at this; exact this
  clear hp
  go_enter Try.func29, Try.ntmps29
  go_upto_region 2 with (go_at_call 20; refine (HF.out _).mono ?_; rintro e w1 ⟨rfl, b1⟩)
  have K3 : Blk (w1.alloc (.cells #[.bool true, .bool true, .bool false, .bool false, .bool false, .bool false, .bool false, .bool false, .bool false, .bool false, .bool false] 53)) w1.heap.size 53 #[.bool true, .bool true, .bool false, .bool false, .bool false, .bool false, .bool false, .bool false, .bool false, .bool false, .bool false] := Blk.fresh w1 53 #[.bool true, .bool true, .bool false, .bool false, .bool false, .bool false, .bool false, .bool false, .bool false, .bool false, .bool false]
  have BX := b1.alloc b1.size (.cells #[.bool true, .bool true, .bool false, .bool false, .bool false, .bool false, .bool false, .bool false, .bool false, .bool false, .bool false] 53)
  have y1 := K3.cell 1
  have y2 := K3.cell 2
  have y3 := K3.cell 3
  have y4 := K3.cell 4
  have y5 := K3.cell 5
  have y6 := K3.cell 6
  have y7 := K3.cell 7
  have y8 := K3.cell 8
  have y9 := K3.cell 9
  have y10 := K3.cell 10
  clear b1 K3
  generalize w1.alloc (.cells #[.bool true, .bool true, .bool false, .bool false, .bool false, .bool false, .bool false, .bool false, .bool false, .bool false, .bool false] 53) = X0 at *
  go_wp2_with fail
  go_ret
  exact ⟨rfl, BX⟩
set_option maxRecDepth 100000 in
set_option maxHeartbeats 4000000 in
theorem rsize_ln (k : Int) (w : World) (hp : ptsK k = some [.ln]) : Calls Try.prog 29 #[.int .i64 k] w fun e w' => e = .returned (.int .i64 2) ∧ Below w.heap.size w w' := by
  have HF : Hid (∀ w, Calls Try.prog 20 #[.int .i64 k] w fun e w' => e = .returned (.agg #[.bool true, .bool false, .bool false, .bool false, .bool false, .bool false, .bool false, .bool false, .bool false, .bool false, .bool true]) ∧ Below w.heap.size w w') := Lib.hid fun w => by have := fields_k k w; rw [hp] at this; exact this
  clear hp
  go_enter Try.func29, Try.ntmps29
  go_upto_region 2 with (go_at_call 20; refine (HF.out _).mono ?_; rintro e w1 ⟨rfl, b1⟩)
  have K3 : Blk (w1.alloc (.cells #[.bool true, .bool false, .bool false, .bool false, .bool false, .bool false, .bool false, .bool false, .bool false, .bool false, .bool true] 53)) w1.heap.size 53 #[.bool true, .bool false, .bool false, .bool false, .bool false, .bool false, .bool false, .bool false, .bool false, .bool false, .bool true] := Blk.fresh w1 53 #[.bool true, .bool false, .bool false, .bool false, .bool false, .bool false, .bool false, .bool false, .bool false, .bool false, .bool true]
  have BX := b1.alloc b1.size (.cells #[.bool true, .bool false, .bool false, .bool false, .bool false, .bool false, .bool false, .bool false, .bool false, .bool false, .bool true] 53)
  have y1 := K3.cell 1
  have y2 := K3.cell 2
  have y3 := K3.cell 3
  have y4 := K3.cell 4
  have y5 := K3.cell 5
  have y6 := K3.cell 6
  have y7 := K3.cell 7
  have y8 := K3.cell 8
  have y9 := K3.cell 9
  have y10 := K3.cell 10
  clear b1 K3
  generalize w1.alloc (.cells #[.bool true, .bool false, .bool false, .bool false, .bool false, .bool false, .bool false, .bool false, .bool false, .bool false, .bool true] 53) = X0 at *
  go_wp2_with fail
  go_ret
  exact ⟨rfl, BX⟩
end Go.Proofs.Ytiopeghbpnjcgaa.Cp

/- Control PDUs: what the fields of bytes are, by the document: contracts over the program. -/
set_option linter.unusedVariables false
set_option linter.unusedSimpArgs false
namespace Go.Proofs.Ytiopeghbpnjcgaa.Cp
open Go.RowKit Mem Oct Rw Av
open Base (thenB)
set_option maxRecDepth 100000 in
set_option maxHeartbeats 4000000 in
theorem taken_up_im (k : Int) (A : Option Addr) (n c : Nat) (xs : List Int) (w : World) (hx : xs.length = n) (hn : n ≤ 1000000) (bx : Bytes xs) (hr : Ints .u8 w w.heap.size A xs) (hp : ptsK k = some [.up, .im]) (hl : n = 12) : Calls Try.prog 30 #[.agg #[.int .i64 k, .int .i64 0, .int .i64 0, .int .i64 0, .int .i64 0, .int .i64 0, .int .u64 0, .int .u16 0, .int .i64 0, .int .i64 0, .int .u64 0, .int .u64 0, .int .u64 0, .int .i64 0, .int .i64 0], .slice A n c] w fun e w' => e = .returned (.agg #[.int .i64 k, .int .i64 (numAt xs 1 1), .int .i64 (numAt xs 2 2), .int .i64 (numAt xs 4 2), .int .i64 (numAt xs 6 2), .int .i64 (numAt xs 8 2), .int .u64 0, .int .u16 (numAt xs 10 2), .int .i64 0, .int .i64 0, .int .u64 0, .int .u64 0, .int .u64 0, .int .i64 0, .int .i64 0]) ∧ Below w.heap.size w w' := by
  subst hl
  have BX : Below w.heap.size w ((w.alloc (.cells #[.int .i64 k, .int .i64 0, .int .i64 0, .int .i64 0, .int .i64 0, .int .i64 0, .int .u64 0, .int .u16 0, .int .i64 0, .int .i64 0, .int .u64 0, .int .u64 0, .int .u64 0, .int .i64 0, .int .i64 0] 28)).alloc (.cells #[.int .i64 0, .int .i64 0, .int .i64 0, .int .i64 0, .int .i64 0, .int .i64 0, .int .u64 0, .int .u16 0, .int .i64 0, .int .i64 0, .int .u64 0, .int .u64 0, .int .u64 0, .int .i64 0, .int .i64 0] 28)) := ((Below.refl _ _).alloc (Nat.le_refl _) _).alloc (by simp) _
  have K1 : Blk ((w.alloc (.cells #[.int .i64 k, .int .i64 0, .int .i64 0, .int .i64 0, .int .i64 0, .int .i64 0, .int .u64 0, .int .u16 0, .int .i64 0, .int .i64 0, .int .u64 0, .int .u64 0, .int .u64 0, .int .i64 0, .int .i64 0] 28)).alloc (.cells #[.int .i64 0, .int .i64 0, .int .i64 0, .int .i64 0, .int .i64 0, .int .i64 0, .int .u64 0, .int .u16 0, .int .i64 0, .int .i64 0, .int .u64 0, .int .u64 0, .int .u64 0, .int .i64 0, .int .i64 0] 28)) w.heap.size 28 #[.int .i64 k, .int .i64 0, .int .i64 0, .int .i64 0, .int .i64 0, .int .i64 0, .int .u64 0, .int .u16 0, .int .i64 0, .int .i64 0, .int .u64 0, .int .u64 0, .int .u64 0, .int .i64 0, .int .i64 0] := (Blk.fresh w 28 #[.int .i64 k, .int .i64 0, .int .i64 0, .int .i64 0, .int .i64 0, .int .i64 0, .int .u64 0, .int .u16 0, .int .i64 0, .int .i64 0, .int .u64 0, .int .u64 0, .int .u64 0, .int .i64 0, .int .i64 0]).alloc _
  have K2 : Blk ((w.alloc (.cells #[.int .i64 k, .int .i64 0, .int .i64 0, .int .i64 0, .int .i64 0, .int .i64 0, .int .u64 0, .int .u16 0, .int .i64 0, .int .i64 0, .int .u64 0, .int .u64 0, .int .u64 0, .int .i64 0, .int .i64 0] 28)).alloc (.cells #[.int .i64 0, .int .i64 0, .int .i64 0, .int .i64 0, .int .i64 0, .int .i64 0, .int .u64 0, .int .u16 0, .int .i64 0, .int .i64 0, .int .u64 0, .int .u64 0, .int .u64 0, .int .i64 0, .int .i64 0] 28)) (w.heap.size + 1) 28 #[.int .i64 0, .int .i64 0, .int .i64 0, .int .i64 0, .int .i64 0, .int .i64 0, .int .u64 0, .int .u16 0, .int .i64 0, .int .i64 0, .int .u64 0, .int .u64 0, .int .u64 0, .int .i64 0, .int .i64 0] := Av.Blk.next
  have HF : Hid (∀ w, Calls Try.prog 20 #[.int .i64 k] w fun e w' => e = .returned (.agg #[.bool true, .bool true, .bool false, .bool true, .bool false, .bool false, .bool false, .bool false, .bool false, .bool false, .bool false]) ∧ Below w.heap.size w w') := Lib.hid fun w => by have := fields_k k w; rw [hp] at this; exact this
  have HTU : Hid (∀ X, Below w.heap.size w X → Calls Try.prog 50 #[.slice A 12 c, .int .i64 1] X fun e w' => e = .returned (.agg #[.int .i64 (numAt xs 1 1), .int .i64 (numAt xs 2 2), .int .i64 (numAt xs 4 2), .int .i64 (numAt xs 6 2), .int .i64 (numAt xs 8 2)]) ∧ Below X.heap.size X w') := Lib.hid fun X b => takeup_any A 12 c xs X hx hn bx (Base.later hr b) (by omega)
  have HNim : Hid (∀ X, Below w.heap.size w X → Calls Try.prog 51 #[.slice A 12 c, .int .i64 10, .int .i64 2] X fun e w' => e = .returned (.int .u64 (numAt xs 10 2)) ∧ X = w') := Lib.hid fun X b => rnumI A 12 c xs X hx hn bx (Base.later hr b) 10 2 (by decide) (by decide) (by omega)
  have bi := numAt_bd bx (o := 10) (z := 2) (by decide) (by decide) (by omega)
  rw [show Ser.p2 (8 * (2 : Int).toNat) = 65536 by decide] at bi
  have ei := w16 (x := numAt xs 10 2) (by omega)
  clear bi
  obtain ⟨Nim, eNim⟩ : ∃ z, numAt xs 10 2 = z := ⟨_, rfl⟩
  rw [eNim] at HNim ei ⊢
  clear eNim
  obtain ⟨U0, eU0⟩ : ∃ z, numAt xs 1 1 = z := ⟨_, rfl⟩
  rw [eU0] at HTU ⊢
  clear eU0
  obtain ⟨U1, eU1⟩ : ∃ z, numAt xs 2 2 = z := ⟨_, rfl⟩
  rw [eU1] at HTU ⊢
  clear eU1
  obtain ⟨U2, eU2⟩ : ∃ z, numAt xs 4 2 = z := ⟨_, rfl⟩
  rw [eU2] at HTU ⊢
  clear eU2
  obtain ⟨U3, eU3⟩ : ∃ z, numAt xs 6 2 = z := ⟨_, rfl⟩
  rw [eU3] at HTU ⊢
  clear eU3
  obtain ⟨U4, eU4⟩ : ∃ z, numAt xs 8 2 = z := ⟨_, rfl⟩
  rw [eU4] at HTU ⊢
  clear eU4
  clear hp hr bx
  show Calls _ _ #[.agg #[.int .i64 k, .int .i64 0, .int .i64 0, .int .i64 0, .int .i64 0, .int .i64 0, .int .u64 0, .int .u16 0, .int .i64 0, .int .i64 0, .int .u64 0, .int .u64 0, .int .u64 0, .int .i64 0, .int .i64 0], _] _ _
  go_enter Try.func30, Try.ntmps30
  go_upto_region 1 with (fail)
  generalize (w.alloc (.cells #[.int .i64 k, .int .i64 0, .int .i64 0, .int .i64 0, .int .i64 0, .int .i64 0, .int .u64 0, .int .u16 0, .int .i64 0, .int .i64 0, .int .u64 0, .int .u64 0, .int .u64 0, .int .i64 0, .int .i64 0] 28)).alloc (.cells #[.int .i64 0, .int .i64 0, .int .i64 0, .int .i64 0, .int .i64 0, .int .i64 0, .int .u64 0, .int .u16 0, .int .i64 0, .int .i64 0, .int .u64 0, .int .u64 0, .int .u64 0, .int .i64 0, .int .i64 0] 28) = W0 at *
  have k0 := K1.cell 0
  go_upto_region 2 with (go_at_call 20; refine (HF.out _).mono ?_; rintro e w1 ⟨rfl, b1⟩)
  clear k0
  have b9 : Below w1.heap.size w1 (w1.alloc (.cells #[.bool true, .bool true, .bool false, .bool true, .bool false, .bool false, .bool false, .bool false, .bool false, .bool false, .bool false] 53)) := (Below.refl _ _).alloc (Nat.le_refl _) _
  have K3 : Blk (w1.alloc (.cells #[.bool true, .bool true, .bool false, .bool true, .bool false, .bool false, .bool false, .bool false, .bool false, .bool false, .bool false] 53)) w1.heap.size 53 #[.bool true, .bool true, .bool false, .bool true, .bool false, .bool false, .bool false, .bool false, .bool false, .bool false, .bool false] := Blk.fresh w1 53 #[.bool true, .bool true, .bool false, .bool true, .bool false, .bool false, .bool false, .bool false, .bool false, .bool false, .bool false]
  have hl1 := (K1.below b1 K1.lt).lt
  have hl2 := (K2.below b1 K2.lt).lt
  replace K1 := (K1.below b1 K1.lt).below b9 hl1
  replace K2 := (K2.below b1 K2.lt).below b9 hl2
  replace BX := thenB (thenB BX b1) b9
  clear b1 b9
  generalize w1.alloc (.cells #[.bool true, .bool true, .bool false, .bool true, .bool false, .bool false, .bool false, .bool false, .bool false, .bool false, .bool false] 53) = X0 at *
  obtain ⟨g3, e3⟩ : ∃ g, w1.heap.size = g := ⟨_, rfl⟩
  rw [e3] at K3 hl1 hl2
  try simp only [e3]
  clear e3
  have y1 := K3.cell 1
  have y2 := K3.cell 2
  have y3 := K3.cell 3
  have y4 := K3.cell 4
  have y5 := K3.cell 5
  have y6 := K3.cell 6
  have y7 := K3.cell 7
  have y8 := K3.cell 8
  have y9 := K3.cell 9
  have y10 := K3.cell 10
  go_upto_region 4 with (fail)
  clear y1 y2 y3 y4 y5 y6 y7 y8 y9 y10
  have c11 := K1.cell 1
  have c12 := K1.cell 2
  have c13 := K1.cell 3
  have c14 := K1.cell 4
  have c15 := K1.cell 5
  go_upto_region 5 with (go_at_call 50; refine (HTU.out _ BX).mono ?_; rintro e Y0 ⟨rfl, b1⟩; replace K1 := K1.below b1 K1.lt; replace K2 := K2.below b1 K2.lt; replace K3 := K3.below b1 K3.lt; replace BX := thenB BX b1; clear b1 c11 c12 c13 c14 c15; have c11 := K1.cell 1; have c12 := K1.cell 2; have c13 := K1.cell 3; have c14 := K1.cell 4; have c15 := K1.cell 5; have f11 := Av.bfrz K1 1; have f12 := Av.bfrz K1 2; have f13 := Av.bfrz K1 3; have f14 := Av.bfrz K1 4; have f15 := Av.bfrz K1 5)
  clear c11 f11 c12 f12 c13 f13 c14 f14 c15 f15
  replace K2 := Av.bother (i := 1) K2 (show w.heap.size ≠ w.heap.size + 1 by omega) (.int .i64 U0)
  replace K3 := Av.bother (i := 1) K3 (show w.heap.size ≠ g3 by omega) (.int .i64 U0)
  replace K1 := Av.bset K1 1 (.int .i64 U0) rfl
  replace BX := BX.setCell (p := ⟨w.heap.size, 1, none⟩) (Nat.le_refl _) (.int .i64 U0)
  replace K2 := Av.bother (i := 2) K2 (show w.heap.size ≠ w.heap.size + 1 by omega) (.int .i64 U1)
  replace K3 := Av.bother (i := 2) K3 (show w.heap.size ≠ g3 by omega) (.int .i64 U1)
  replace K1 := Av.bset K1 2 (.int .i64 U1) rfl
  replace BX := BX.setCell (p := ⟨w.heap.size, 2, none⟩) (Nat.le_refl _) (.int .i64 U1)
  replace K2 := Av.bother (i := 3) K2 (show w.heap.size ≠ w.heap.size + 1 by omega) (.int .i64 U2)
  replace K3 := Av.bother (i := 3) K3 (show w.heap.size ≠ g3 by omega) (.int .i64 U2)
  replace K1 := Av.bset K1 3 (.int .i64 U2) rfl
  replace BX := BX.setCell (p := ⟨w.heap.size, 3, none⟩) (Nat.le_refl _) (.int .i64 U2)
  replace K2 := Av.bother (i := 4) K2 (show w.heap.size ≠ w.heap.size + 1 by omega) (.int .i64 U3)
  replace K3 := Av.bother (i := 4) K3 (show w.heap.size ≠ g3 by omega) (.int .i64 U3)
  replace K1 := Av.bset K1 4 (.int .i64 U3) rfl
  replace BX := BX.setCell (p := ⟨w.heap.size, 4, none⟩) (Nat.le_refl _) (.int .i64 U3)
  replace K2 := Av.bother (i := 5) K2 (show w.heap.size ≠ w.heap.size + 1 by omega) (.int .i64 U4)
  replace K3 := Av.bother (i := 5) K3 (show w.heap.size ≠ g3 by omega) (.int .i64 U4)
  replace K1 := Av.bset K1 5 (.int .i64 U4) rfl
  replace BX := BX.setCell (p := ⟨w.heap.size, 5, none⟩) (Nat.le_refl _) (.int .i64 U4)
  generalize ((((Y0.setCell ⟨w.heap.size, 1, none⟩ (.int .i64 U0)).setCell ⟨w.heap.size, 2, none⟩ (.int .i64 U1)).setCell ⟨w.heap.size, 3, none⟩ (.int .i64 U2)).setCell ⟨w.heap.size, 4, none⟩ (.int .i64 U3)).setCell ⟨w.heap.size, 5, none⟩ (.int .i64 U4) = X1 at *
  have y1 := K3.cell 1
  have y2 := K3.cell 2
  have y3 := K3.cell 3
  have y4 := K3.cell 4
  have y5 := K3.cell 5
  have y6 := K3.cell 6
  have y7 := K3.cell 7
  have y8 := K3.cell 8
  have y9 := K3.cell 9
  have y10 := K3.cell 10
  go_upto_region 10 with (fail)
  clear y1 y2 y3 y4 y5 y6 y7 y8 y9 y10
  go_upto_region 11 with (first | (go_at_call 51; refine (HNim.out _ BX).mono ?_; rintro e Y1 ⟨rfl, rfl⟩) | (refine Av.wpList_store_cell rfl _ _ _ rfl w.heap.size 7 (.int .u16 Nim) rfl rfl 28 _ K1 (by show 7 < 15; decide) (by kernel_rfl) rfl ?_; replace K2 := Av.bother (i := 7) K2 (show w.heap.size ≠ w.heap.size + 1 by omega) (.int .u16 Nim); replace K3 := Av.bother (i := 7) K3 (show w.heap.size ≠ g3 by omega) (.int .u16 Nim); replace K1 := Av.bset K1 7 (.int .u16 Nim) rfl; replace BX := BX.setCell (p := ⟨w.heap.size, 7, none⟩) (Nat.le_refl _) (.int .u16 Nim)))
  generalize X1.setCell ⟨w.heap.size, 7, none⟩ (.int .u16 Nim) = X2 at *
  have y1 := K3.cell 1
  have y2 := K3.cell 2
  have y3 := K3.cell 3
  have y4 := K3.cell 4
  have y5 := K3.cell 5
  have y6 := K3.cell 6
  have y7 := K3.cell 7
  have y8 := K3.cell 8
  have y9 := K3.cell 9
  have y10 := K3.cell 10
  go_upto_region 27 with (fail)
  clear y1 y2 y3 y4 y5 y6 y7 y8 y9 y10
  have H1 : (#[.int .i64 k, .int .i64 U0, .int .i64 U1, .int .i64 U2, .int .i64 U3, .int .i64 U4, .int .u64 0, .int .u16 Nim, .int .i64 0, .int .i64 0, .int .u64 0, .int .u64 0, .int .u64 0, .int .i64 0, .int .i64 0] : Array Value).all (·.oneCell') = true := by rw [← Array.all_toList]; rfl
  go_wp2_with (first | (refine wpList_store_row rfl 28 (.tmp 4) _ rfl (w.heap.size + 1) #[.int .i64 k, .int .i64 U0, .int .i64 U1, .int .i64 U2, .int .i64 U3, .int .i64 U4, .int .u64 0, .int .u16 Nim, .int .i64 0, .int .i64 0, .int .u64 0, .int .u64 0, .int .u64 0, .int .i64 0, .int .i64 0] rfl rfl 28 _ K2 (by kernel_rfl) rfl H1 ?_) | (refine wpList_load_row rfl 28 (.tmp 2) rfl w.heap.size rfl 28 _ (0, 0) _ K1 Try.underlying28 rfl (by kernel_rfl) ?_))
  have KR := setRow_heap X2 (w.heap.size + 1) _ #[.int .i64 k, .int .i64 U0, .int .i64 U1, .int .i64 U2, .int .i64 U3, .int .i64 U4, .int .u64 0, .int .u16 Nim, .int .i64 0, .int .i64 0, .int .u64 0, .int .u64 0, .int .u64 0, .int .i64 0, .int .i64 0] 28 (0, 0) K2
  have BE := below_setRow BX (Nat.le_succ _) #[.int .i64 k, .int .i64 U0, .int .i64 U1, .int .i64 U2, .int .i64 U3, .int .i64 U4, .int .u64 0, .int .u16 Nim, .int .i64 0, .int .i64 0, .int .u64 0, .int .u64 0, .int .u64 0, .int .i64 0, .int .i64 0]
  generalize X2.setRow (w.heap.size + 1) #[.int .i64 k, .int .i64 U0, .int .i64 U1, .int .i64 U2, .int .i64 U3, .int .i64 U4, .int .u64 0, .int .u16 Nim, .int .i64 0, .int .i64 0, .int .u64 0, .int .u64 0, .int .u64 0, .int .i64 0, .int .i64 0] = Y at *
  refine bodyPost_ret (v := .agg #[.int .i64 k, .int .i64 U0, .int .i64 U1, .int .i64 U2, .int .i64 U3, .int .i64 U4, .int .u64 0, .int .u16 Nim, .int .i64 0, .int .i64 0, .int .u64 0, .int .u64 0, .int .u64 0, .int .i64 0, .int .i64 0]) ?_ rfl ⟨rfl, BE⟩
  clear K1
  have HL := run_loadVar_row (P := Try.prog) Y (w.heap.size + 1) 28 28 #[.int .i64 k, .int .i64 U0, .int .i64 U1, .int .i64 U2, .int .i64 U3, .int .i64 U4, .int .u64 0, .int .u16 Nim, .int .i64 0, .int .i64 0, .int .u64 0, .int .u64 0, .int .u64 0, .int .i64 0, .int .i64 0] (0, 0) _ KR Try.underlying28 rfl (by kernel_rfl)
  generalize (#[.int .i64 k, .int .i64 U0, .int .i64 U1, .int .i64 U2, .int .i64 U3, .int .i64 U4, .int .u64 0, .int .u16 Nim, .int .i64 0, .int .i64 0, .int .u64 0, .int .u64 0, .int .u64 0, .int .i64 0, .int .i64 0] : Array Value) = CS at *
  simp [results, show (Try.f30).results = #[.cell 4 28] from rfl, asAddr, HL, Act.put]
set_option maxRecDepth 100000 in
set_option maxHeartbeats 4000000 in
theorem taken_ch_im (k : Int) (A : Option Addr) (n c : Nat) (xs : List Int) (w : World) (hx : xs.length = n) (hn : n ≤ 1000000) (bx : Bytes xs) (hr : Ints .u8 w w.heap.size A xs) (hp : ptsK k = some [.ch, .im]) (hl : n = 8) : Calls Try.prog 30 #[.agg #[.int .i64 k, .int .i64 0, .int .i64 0, .int .i64 0, .int .i64 0, .int .i64 0, .int .u64 0, .int .u16 0, .int .i64 0, .int .i64 0, .int .u64 0, .int .u64 0, .int .u64 0, .int .i64 0, .int .i64 0], .slice A n c] w fun e w' => e = .returned (.agg #[.int .i64 k, .int .i64 0, .int .i64 0, .int .i64 0, .int .i64 0, .int .i64 0, .int .u64 (numAt xs 1 5), .int .u16 (numAt xs 6 2), .int .i64 0, .int .i64 0, .int .u64 0, .int .u64 0, .int .u64 0, .int .i64 0, .int .i64 0]) ∧ Below w.heap.size w w' := by
  subst hl
  have BX : Below w.heap.size w ((w.alloc (.cells #[.int .i64 k, .int .i64 0, .int .i64 0, .int .i64 0, .int .i64 0, .int .i64 0, .int .u64 0, .int .u16 0, .int .i64 0, .int .i64 0, .int .u64 0, .int .u64 0, .int .u64 0, .int .i64 0, .int .i64 0] 28)).alloc (.cells #[.int .i64 0, .int .i64 0, .int .i64 0, .int .i64 0, .int .i64 0, .int .i64 0, .int .u64 0, .int .u16 0, .int .i64 0, .int .i64 0, .int .u64 0, .int .u64 0, .int .u64 0, .int .i64 0, .int .i64 0] 28)) := ((Below.refl _ _).alloc (Nat.le_refl _) _).alloc (by simp) _
  have K1 : Blk ((w.alloc (.cells #[.int .i64 k, .int .i64 0, .int .i64 0, .int .i64 0, .int .i64 0, .int .i64 0, .int .u64 0, .int .u16 0, .int .i64 0, .int .i64 0, .int .u64 0, .int .u64 0, .int .u64 0, .int .i64 0, .int .i64 0] 28)).alloc (.cells #[.int .i64 0, .int .i64 0, .int .i64 0, .int .i64 0, .int .i64 0, .int .i64 0, .int .u64 0, .int .u16 0, .int .i64 0, .int .i64 0, .int .u64 0, .int .u64 0, .int .u64 0, .int .i64 0, .int .i64 0] 28)) w.heap.size 28 #[.int .i64 k, .int .i64 0, .int .i64 0, .int .i64 0, .int .i64 0, .int .i64 0, .int .u64 0, .int .u16 0, .int .i64 0, .int .i64 0, .int .u64 0, .int .u64 0, .int .u64 0, .int .i64 0, .int .i64 0] := (Blk.fresh w 28 #[.int .i64 k, .int .i64 0, .int .i64 0, .int .i64 0, .int .i64 0, .int .i64 0, .int .u64 0, .int .u16 0, .int .i64 0, .int .i64 0, .int .u64 0, .int .u64 0, .int .u64 0, .int .i64 0, .int .i64 0]).alloc _
  have K2 : Blk ((w.alloc (.cells #[.int .i64 k, .int .i64 0, .int .i64 0, .int .i64 0, .int .i64 0, .int .i64 0, .int .u64 0, .int .u16 0, .int .i64 0, .int .i64 0, .int .u64 0, .int .u64 0, .int .u64 0, .int .i64 0, .int .i64 0] 28)).alloc (.cells #[.int .i64 0, .int .i64 0, .int .i64 0, .int .i64 0, .int .i64 0, .int .i64 0, .int .u64 0, .int .u16 0, .int .i64 0, .int .i64 0, .int .u64 0, .int .u64 0, .int .u64 0, .int .i64 0, .int .i64 0] 28)) (w.heap.size + 1) 28 #[.int .i64 0, .int .i64 0, .int .i64 0, .int .i64 0, .int .i64 0, .int .i64 0, .int .u64 0, .int .u16 0, .int .i64 0, .int .i64 0, .int .u64 0, .int .u64 0, .int .u64 0, .int .i64 0, .int .i64 0] := Av.Blk.next
  have HF : Hid (∀ w, Calls Try.prog 20 #[.int .i64 k] w fun e w' => e = .returned (.agg #[.bool true, .bool false, .bool true, .bool true, .bool false, .bool false, .bool false, .bool false, .bool false, .bool false, .bool false]) ∧ Below w.heap.size w w') := Lib.hid fun w => by have := fields_k k w; rw [hp] at this; exact this
  have HNch : Hid (∀ X, Below w.heap.size w X → Calls Try.prog 51 #[.slice A 8 c, .int .i64 1, .int .i64 5] X fun e w' => e = .returned (.int .u64 (numAt xs 1 5)) ∧ X = w') := Lib.hid fun X b => rnumI A 8 c xs X hx hn bx (Base.later hr b) 1 5 (by decide) (by decide) (by omega)
  obtain ⟨Nch, eNch⟩ : ∃ z, numAt xs 1 5 = z := ⟨_, rfl⟩
  rw [eNch] at HNch ⊢
  clear eNch
  have HNim : Hid (∀ X, Below w.heap.size w X → Calls Try.prog 51 #[.slice A 8 c, .int .i64 6, .int .i64 2] X fun e w' => e = .returned (.int .u64 (numAt xs 6 2)) ∧ X = w') := Lib.hid fun X b => rnumI A 8 c xs X hx hn bx (Base.later hr b) 6 2 (by decide) (by decide) (by omega)
  have bi := numAt_bd bx (o := 6) (z := 2) (by decide) (by decide) (by omega)
  rw [show Ser.p2 (8 * (2 : Int).toNat) = 65536 by decide] at bi
  have ei := w16 (x := numAt xs 6 2) (by omega)
  clear bi
  obtain ⟨Nim, eNim⟩ : ∃ z, numAt xs 6 2 = z := ⟨_, rfl⟩
  rw [eNim] at HNim ei ⊢
  clear eNim
  clear hp hr bx
  show Calls _ _ #[.agg #[.int .i64 k, .int .i64 0, .int .i64 0, .int .i64 0, .int .i64 0, .int .i64 0, .int .u64 0, .int .u16 0, .int .i64 0, .int .i64 0, .int .u64 0, .int .u64 0, .int .u64 0, .int .i64 0, .int .i64 0], _] _ _
  go_enter Try.func30, Try.ntmps30
  go_upto_region 1 with (fail)
  generalize (w.alloc (.cells #[.int .i64 k, .int .i64 0, .int .i64 0, .int .i64 0, .int .i64 0, .int .i64 0, .int .u64 0, .int .u16 0, .int .i64 0, .int .i64 0, .int .u64 0, .int .u64 0, .int .u64 0, .int .i64 0, .int .i64 0] 28)).alloc (.cells #[.int .i64 0, .int .i64 0, .int .i64 0, .int .i64 0, .int .i64 0, .int .i64 0, .int .u64 0, .int .u16 0, .int .i64 0, .int .i64 0, .int .u64 0, .int .u64 0, .int .u64 0, .int .i64 0, .int .i64 0] 28) = W0 at *
  have k0 := K1.cell 0
  go_upto_region 2 with (go_at_call 20; refine (HF.out _).mono ?_; rintro e w1 ⟨rfl, b1⟩)
  clear k0
  have b9 : Below w1.heap.size w1 (w1.alloc (.cells #[.bool true, .bool false, .bool true, .bool true, .bool false, .bool false, .bool false, .bool false, .bool false, .bool false, .bool false] 53)) := (Below.refl _ _).alloc (Nat.le_refl _) _
  have K3 : Blk (w1.alloc (.cells #[.bool true, .bool false, .bool true, .bool true, .bool false, .bool false, .bool false, .bool false, .bool false, .bool false, .bool false] 53)) w1.heap.size 53 #[.bool true, .bool false, .bool true, .bool true, .bool false, .bool false, .bool false, .bool false, .bool false, .bool false, .bool false] := Blk.fresh w1 53 #[.bool true, .bool false, .bool true, .bool true, .bool false, .bool false, .bool false, .bool false, .bool false, .bool false, .bool false]
  have hl1 := (K1.below b1 K1.lt).lt
  have hl2 := (K2.below b1 K2.lt).lt
  replace K1 := (K1.below b1 K1.lt).below b9 hl1
  replace K2 := (K2.below b1 K2.lt).below b9 hl2
  replace BX := thenB (thenB BX b1) b9
  clear b1 b9
  generalize w1.alloc (.cells #[.bool true, .bool false, .bool true, .bool true, .bool false, .bool false, .bool false, .bool false, .bool false, .bool false, .bool false] 53) = X0 at *
  obtain ⟨g3, e3⟩ : ∃ g, w1.heap.size = g := ⟨_, rfl⟩
  rw [e3] at K3 hl1 hl2
  try simp only [e3]
  clear e3
  have y1 := K3.cell 1
  have y2 := K3.cell 2
  have y3 := K3.cell 3
  have y4 := K3.cell 4
  have y5 := K3.cell 5
  have y6 := K3.cell 6
  have y7 := K3.cell 7
  have y8 := K3.cell 8
  have y9 := K3.cell 9
  have y10 := K3.cell 10
  go_upto_region 7 with (fail)
  clear y1 y2 y3 y4 y5 y6 y7 y8 y9 y10
  go_upto_region 8 with (first | (go_at_call 51; refine (HNch.out _ BX).mono ?_; rintro e Y0 ⟨rfl, rfl⟩) | (refine Av.wpList_store_cell rfl _ _ _ rfl w.heap.size 6 (.int .u64 Nch) rfl rfl 28 _ K1 (by show 6 < 15; decide) (by kernel_rfl) rfl ?_; replace K2 := Av.bother (i := 6) K2 (show w.heap.size ≠ w.heap.size + 1 by omega) (.int .u64 Nch); replace K3 := Av.bother (i := 6) K3 (show w.heap.size ≠ g3 by omega) (.int .u64 Nch); replace K1 := Av.bset K1 6 (.int .u64 Nch) rfl; replace BX := BX.setCell (p := ⟨w.heap.size, 6, none⟩) (Nat.le_refl _) (.int .u64 Nch)))
  generalize X0.setCell ⟨w.heap.size, 6, none⟩ (.int .u64 Nch) = X1 at *
  have y1 := K3.cell 1
  have y2 := K3.cell 2
  have y3 := K3.cell 3
  have y4 := K3.cell 4
  have y5 := K3.cell 5
  have y6 := K3.cell 6
  have y7 := K3.cell 7
  have y8 := K3.cell 8
  have y9 := K3.cell 9
  have y10 := K3.cell 10
  go_upto_region 10 with (fail)
  clear y1 y2 y3 y4 y5 y6 y7 y8 y9 y10
  go_upto_region 11 with (first | (go_at_call 51; refine (HNim.out _ BX).mono ?_; rintro e Y1 ⟨rfl, rfl⟩) | (refine Av.wpList_store_cell rfl _ _ _ rfl w.heap.size 7 (.int .u16 Nim) rfl rfl 28 _ K1 (by show 7 < 15; decide) (by kernel_rfl) rfl ?_; replace K2 := Av.bother (i := 7) K2 (show w.heap.size ≠ w.heap.size + 1 by omega) (.int .u16 Nim); replace K3 := Av.bother (i := 7) K3 (show w.heap.size ≠ g3 by omega) (.int .u16 Nim); replace K1 := Av.bset K1 7 (.int .u16 Nim) rfl; replace BX := BX.setCell (p := ⟨w.heap.size, 7, none⟩) (Nat.le_refl _) (.int .u16 Nim)))
  generalize X1.setCell ⟨w.heap.size, 7, none⟩ (.int .u16 Nim) = X2 at *
  have y1 := K3.cell 1
  have y2 := K3.cell 2
  have y3 := K3.cell 3
  have y4 := K3.cell 4
  have y5 := K3.cell 5
  have y6 := K3.cell 6
  have y7 := K3.cell 7
  have y8 := K3.cell 8
  have y9 := K3.cell 9
  have y10 := K3.cell 10
  go_upto_region 27 with (fail)
  clear y1 y2 y3 y4 y5 y6 y7 y8 y9 y10
  have H1 : (#[.int .i64 k, .int .i64 0, .int .i64 0, .int .i64 0, .int .i64 0, .int .i64 0, .int .u64 Nch, .int .u16 Nim, .int .i64 0, .int .i64 0, .int .u64 0, .int .u64 0, .int .u64 0, .int .i64 0, .int .i64 0] : Array Value).all (·.oneCell') = true := by rw [← Array.all_toList]; rfl
  go_wp2_with (first | (refine wpList_store_row rfl 28 (.tmp 4) _ rfl (w.heap.size + 1) #[.int .i64 k, .int .i64 0, .int .i64 0, .int .i64 0, .int .i64 0, .int .i64 0, .int .u64 Nch, .int .u16 Nim, .int .i64 0, .int .i64 0, .int .u64 0, .int .u64 0, .int .u64 0, .int .i64 0, .int .i64 0] rfl rfl 28 _ K2 (by kernel_rfl) rfl H1 ?_) | (refine wpList_load_row rfl 28 (.tmp 2) rfl w.heap.size rfl 28 _ (0, 0) _ K1 Try.underlying28 rfl (by kernel_rfl) ?_))
  have KR := setRow_heap X2 (w.heap.size + 1) _ #[.int .i64 k, .int .i64 0, .int .i64 0, .int .i64 0, .int .i64 0, .int .i64 0, .int .u64 Nch, .int .u16 Nim, .int .i64 0, .int .i64 0, .int .u64 0, .int .u64 0, .int .u64 0, .int .i64 0, .int .i64 0] 28 (0, 0) K2
  have BE := below_setRow BX (Nat.le_succ _) #[.int .i64 k, .int .i64 0, .int .i64 0, .int .i64 0, .int .i64 0, .int .i64 0, .int .u64 Nch, .int .u16 Nim, .int .i64 0, .int .i64 0, .int .u64 0, .int .u64 0, .int .u64 0, .int .i64 0, .int .i64 0]
  generalize X2.setRow (w.heap.size + 1) #[.int .i64 k, .int .i64 0, .int .i64 0, .int .i64 0, .int .i64 0, .int .i64 0, .int .u64 Nch, .int .u16 Nim, .int .i64 0, .int .i64 0, .int .u64 0, .int .u64 0, .int .u64 0, .int .i64 0, .int .i64 0] = Y at *
  refine bodyPost_ret (v := .agg #[.int .i64 k, .int .i64 0, .int .i64 0, .int .i64 0, .int .i64 0, .int .i64 0, .int .u64 Nch, .int .u16 Nim, .int .i64 0, .int .i64 0, .int .u64 0, .int .u64 0, .int .u64 0, .int .i64 0, .int .i64 0]) ?_ rfl ⟨rfl, BE⟩
  clear K1
  have HL := run_loadVar_row (P := Try.prog) Y (w.heap.size + 1) 28 28 #[.int .i64 k, .int .i64 0, .int .i64 0, .int .i64 0, .int .i64 0, .int .i64 0, .int .u64 Nch, .int .u16 Nim, .int .i64 0, .int .i64 0, .int .u64 0, .int .u64 0, .int .u64 0, .int .i64 0, .int .i64 0] (0, 0) _ KR Try.underlying28 rfl (by kernel_rfl)
  generalize (#[.int .i64 k, .int .i64 0, .int .i64 0, .int .i64 0, .int .i64 0, .int .i64 0, .int .u64 Nch, .int .u16 Nim, .int .i64 0, .int .i64 0, .int .u64 0, .int .u64 0, .int .u64 0, .int .i64 0, .int .i64 0] : Array Value) = CS at *
  simp [results, show (Try.f30).results = #[.cell 4 28] from rfl, asAddr, HL, Act.put]
set_option maxRecDepth 100000 in
set_option maxHeartbeats 4000000 in
theorem taken_rs (k : Int) (A : Option Addr) (n c : Nat) (xs : List Int) (w : World) (hx : xs.length = n) (hn : n ≤ 1000000) (bx : Bytes xs) (hr : Ints .u8 w w.heap.size A xs) (hp : ptsK k = some [.rs]) (hl : n = 2) : Calls Try.prog 30 #[.agg #[.int .i64 k, .int .i64 0, .int .i64 0, .int .i64 0, .int .i64 0, .int .i64 0, .int .u64 0, .int .u16 0, .int .i64 0, .int .i64 0, .int .u64 0, .int .u64 0, .int .u64 0, .int .i64 0, .int .i64 0], .slice A n c] w fun e w' => e = .returned (.agg #[.int .i64 k, .int .i64 0, .int .i64 0, .int .i64 0, .int .i64 0, .int .i64 0, .int .u64 0, .int .u16 0, .int .i64 (xs.getD 1 0), .int .i64 0, .int .u64 0, .int .u64 0, .int .u64 0, .int .i64 0, .int .i64 0]) ∧ Below w.heap.size w w' := by
  subst hl
  have BX : Below w.heap.size w ((w.alloc (.cells #[.int .i64 k, .int .i64 0, .int .i64 0, .int .i64 0, .int .i64 0, .int .i64 0, .int .u64 0, .int .u16 0, .int .i64 0, .int .i64 0, .int .u64 0, .int .u64 0, .int .u64 0, .int .i64 0, .int .i64 0] 28)).alloc (.cells #[.int .i64 0, .int .i64 0, .int .i64 0, .int .i64 0, .int .i64 0, .int .i64 0, .int .u64 0, .int .u16 0, .int .i64 0, .int .i64 0, .int .u64 0, .int .u64 0, .int .u64 0, .int .i64 0, .int .i64 0] 28)) := ((Below.refl _ _).alloc (Nat.le_refl _) _).alloc (by simp) _
  have K1 : Blk ((w.alloc (.cells #[.int .i64 k, .int .i64 0, .int .i64 0, .int .i64 0, .int .i64 0, .int .i64 0, .int .u64 0, .int .u16 0, .int .i64 0, .int .i64 0, .int .u64 0, .int .u64 0, .int .u64 0, .int .i64 0, .int .i64 0] 28)).alloc (.cells #[.int .i64 0, .int .i64 0, .int .i64 0, .int .i64 0, .int .i64 0, .int .i64 0, .int .u64 0, .int .u16 0, .int .i64 0, .int .i64 0, .int .u64 0, .int .u64 0, .int .u64 0, .int .i64 0, .int .i64 0] 28)) w.heap.size 28 #[.int .i64 k, .int .i64 0, .int .i64 0, .int .i64 0, .int .i64 0, .int .i64 0, .int .u64 0, .int .u16 0, .int .i64 0, .int .i64 0, .int .u64 0, .int .u64 0, .int .u64 0, .int .i64 0, .int .i64 0] := (Blk.fresh w 28 #[.int .i64 k, .int .i64 0, .int .i64 0, .int .i64 0, .int .i64 0, .int .i64 0, .int .u64 0, .int .u16 0, .int .i64 0, .int .i64 0, .int .u64 0, .int .u64 0, .int .u64 0, .int .i64 0, .int .i64 0]).alloc _
  have K2 : Blk ((w.alloc (.cells #[.int .i64 k, .int .i64 0, .int .i64 0, .int .i64 0, .int .i64 0, .int .i64 0, .int .u64 0, .int .u16 0, .int .i64 0, .int .i64 0, .int .u64 0, .int .u64 0, .int .u64 0, .int .i64 0, .int .i64 0] 28)).alloc (.cells #[.int .i64 0, .int .i64 0, .int .i64 0, .int .i64 0, .int .i64 0, .int .i64 0, .int .u64 0, .int .u16 0, .int .i64 0, .int .i64 0, .int .u64 0, .int .u64 0, .int .u64 0, .int .i64 0, .int .i64 0] 28)) (w.heap.size + 1) 28 #[.int .i64 0, .int .i64 0, .int .i64 0, .int .i64 0, .int .i64 0, .int .i64 0, .int .u64 0, .int .u16 0, .int .i64 0, .int .i64 0, .int .u64 0, .int .u64 0, .int .u64 0, .int .i64 0, .int .i64 0] := Av.Blk.next
  have HF : Hid (∀ w, Calls Try.prog 20 #[.int .i64 k] w fun e w' => e = .returned (.agg #[.bool true, .bool false, .bool false, .bool false, .bool true, .bool false, .bool false, .bool false, .bool false, .bool false, .bool false]) ∧ Below w.heap.size w w') := Lib.hid fun w => by have := fields_k k w; rw [hp] at this; exact this
  obtain ⟨b, off, rfl, hb, hc⟩ := hr.at_ (i := 1) (by omega)
  have cc1 := hc 1 (by omega)
  have bk1 := bytes_get bx 1
  obtain ⟨z1, hz1⟩ : ∃ z, xs.getD 1 0 = z := ⟨_, rfl⟩
  rw [hz1] at cc1 bk1 ⊢
  have q1 : IntKind.i64.wrap z1 = z1 := w64 (by omega)
  clear hz1
  clear hc
  clear hp hr bx
  show Calls _ _ #[.agg #[.int .i64 k, .int .i64 0, .int .i64 0, .int .i64 0, .int .i64 0, .int .i64 0, .int .u64 0, .int .u16 0, .int .i64 0, .int .i64 0, .int .u64 0, .int .u64 0, .int .u64 0, .int .i64 0, .int .i64 0], _] _ _
  go_enter Try.func30, Try.ntmps30
  go_upto_region 1 with (fail)
  generalize (w.alloc (.cells #[.int .i64 k, .int .i64 0, .int .i64 0, .int .i64 0, .int .i64 0, .int .i64 0, .int .u64 0, .int .u16 0, .int .i64 0, .int .i64 0, .int .u64 0, .int .u64 0, .int .u64 0, .int .i64 0, .int .i64 0] 28)).alloc (.cells #[.int .i64 0, .int .i64 0, .int .i64 0, .int .i64 0, .int .i64 0, .int .i64 0, .int .u64 0, .int .u16 0, .int .i64 0, .int .i64 0, .int .u64 0, .int .u64 0, .int .u64 0, .int .i64 0, .int .i64 0] 28) = W0 at *
  have k0 := K1.cell 0
  go_upto_region 2 with (go_at_call 20; refine (HF.out _).mono ?_; rintro e w1 ⟨rfl, b1⟩)
  clear k0
  have b9 : Below w1.heap.size w1 (w1.alloc (.cells #[.bool true, .bool false, .bool false, .bool false, .bool true, .bool false, .bool false, .bool false, .bool false, .bool false, .bool false] 53)) := (Below.refl _ _).alloc (Nat.le_refl _) _
  have K3 : Blk (w1.alloc (.cells #[.bool true, .bool false, .bool false, .bool false, .bool true, .bool false, .bool false, .bool false, .bool false, .bool false, .bool false] 53)) w1.heap.size 53 #[.bool true, .bool false, .bool false, .bool false, .bool true, .bool false, .bool false, .bool false, .bool false, .bool false, .bool false] := Blk.fresh w1 53 #[.bool true, .bool false, .bool false, .bool false, .bool true, .bool false, .bool false, .bool false, .bool false, .bool false, .bool false]
  have hl1 := (K1.below b1 K1.lt).lt
  have hl2 := (K2.below b1 K2.lt).lt
  replace K1 := (K1.below b1 K1.lt).below b9 hl1
  replace K2 := (K2.below b1 K2.lt).below b9 hl2
  replace BX := thenB (thenB BX b1) b9
  clear b1 b9
  generalize w1.alloc (.cells #[.bool true, .bool false, .bool false, .bool false, .bool true, .bool false, .bool false, .bool false, .bool false, .bool false, .bool false] 53) = X0 at *
  obtain ⟨g3, e3⟩ : ∃ g, w1.heap.size = g := ⟨_, rfl⟩
  rw [e3] at K3 hl1 hl2
  try simp only [e3]
  clear e3
  have y1 := K3.cell 1
  have y2 := K3.cell 2
  have y3 := K3.cell 3
  have y4 := K3.cell 4
  have y5 := K3.cell 5
  have y6 := K3.cell 6
  have y7 := K3.cell 7
  have y8 := K3.cell 8
  have y9 := K3.cell 9
  have y10 := K3.cell 10
  go_upto_region 12 with (fail)
  clear y1 y2 y3 y4 y5 y6 y7 y8 y9 y10
  have f1 := (BX.cell (p := ⟨b, off + 1, none⟩) hb).trans cc1
  go_upto_region 13 with (refine Av.wpList_store_cell rfl _ _ _ rfl w.heap.size 8 (.int .i64 z1) rfl rfl 28 _ K1 (by show 8 < 15; decide) (by kernel_rfl) rfl ?_; replace K2 := Av.bother (i := 8) K2 (show w.heap.size ≠ w.heap.size + 1 by omega) (.int .i64 z1); replace K3 := Av.bother (i := 8) K3 (show w.heap.size ≠ g3 by omega) (.int .i64 z1); replace K1 := Av.bset K1 8 (.int .i64 z1) rfl; replace BX := BX.setCell (p := ⟨w.heap.size, 8, none⟩) (Nat.le_refl _) (.int .i64 z1))
  clear f1
  generalize X0.setCell ⟨w.heap.size, 8, none⟩ (.int .i64 z1) = X1 at *
  have y1 := K3.cell 1
  have y2 := K3.cell 2
  have y3 := K3.cell 3
  have y4 := K3.cell 4
  have y5 := K3.cell 5
  have y6 := K3.cell 6
  have y7 := K3.cell 7
  have y8 := K3.cell 8
  have y9 := K3.cell 9
  have y10 := K3.cell 10
  go_upto_region 27 with (fail)
  clear y1 y2 y3 y4 y5 y6 y7 y8 y9 y10
  have H1 : (#[.int .i64 k, .int .i64 0, .int .i64 0, .int .i64 0, .int .i64 0, .int .i64 0, .int .u64 0, .int .u16 0, .int .i64 z1, .int .i64 0, .int .u64 0, .int .u64 0, .int .u64 0, .int .i64 0, .int .i64 0] : Array Value).all (·.oneCell') = true := by rw [← Array.all_toList]; rfl
  go_wp2_with (first | (refine wpList_store_row rfl 28 (.tmp 4) _ rfl (w.heap.size + 1) #[.int .i64 k, .int .i64 0, .int .i64 0, .int .i64 0, .int .i64 0, .int .i64 0, .int .u64 0, .int .u16 0, .int .i64 z1, .int .i64 0, .int .u64 0, .int .u64 0, .int .u64 0, .int .i64 0, .int .i64 0] rfl rfl 28 _ K2 (by kernel_rfl) rfl H1 ?_) | (refine wpList_load_row rfl 28 (.tmp 2) rfl w.heap.size rfl 28 _ (0, 0) _ K1 Try.underlying28 rfl (by kernel_rfl) ?_))
  have KR := setRow_heap X1 (w.heap.size + 1) _ #[.int .i64 k, .int .i64 0, .int .i64 0, .int .i64 0, .int .i64 0, .int .i64 0, .int .u64 0, .int .u16 0, .int .i64 z1, .int .i64 0, .int .u64 0, .int .u64 0, .int .u64 0, .int .i64 0, .int .i64 0] 28 (0, 0) K2
  have BE := below_setRow BX (Nat.le_succ _) #[.int .i64 k, .int .i64 0, .int .i64 0, .int .i64 0, .int .i64 0, .int .i64 0, .int .u64 0, .int .u16 0, .int .i64 z1, .int .i64 0, .int .u64 0, .int .u64 0, .int .u64 0, .int .i64 0, .int .i64 0]
  generalize X1.setRow (w.heap.size + 1) #[.int .i64 k, .int .i64 0, .int .i64 0, .int .i64 0, .int .i64 0, .int .i64 0, .int .u64 0, .int .u16 0, .int .i64 z1, .int .i64 0, .int .u64 0, .int .u64 0, .int .u64 0, .int .i64 0, .int .i64 0] = Y at *
  refine bodyPost_ret (v := .agg #[.int .i64 k, .int .i64 0, .int .i64 0, .int .i64 0, .int .i64 0, .int .i64 0, .int .u64 0, .int .u16 0, .int .i64 z1, .int .i64 0, .int .u64 0, .int .u64 0, .int .u64 0, .int .i64 0, .int .i64 0]) ?_ rfl ⟨rfl, BE⟩
  clear K1
  have HL := run_loadVar_row (P := Try.prog) Y (w.heap.size + 1) 28 28 #[.int .i64 k, .int .i64 0, .int .i64 0, .int .i64 0, .int .i64 0, .int .i64 0, .int .u64 0, .int .u16 0, .int .i64 z1, .int .i64 0, .int .u64 0, .int .u64 0, .int .u64 0, .int .i64 0, .int .i64 0] (0, 0) _ KR Try.underlying28 rfl (by kernel_rfl)
  generalize (#[.int .i64 k, .int .i64 0, .int .i64 0, .int .i64 0, .int .i64 0, .int .i64 0, .int .u64 0, .int .u16 0, .int .i64 z1, .int .i64 0, .int .u64 0, .int .u64 0, .int .u64 0, .int .i64 0, .int .i64 0] : Array Value) = CS at *
  simp [results, show (Try.f30).results = #[.cell 4 28] from rfl, asAddr, HL, Act.put]
set_option maxRecDepth 100000 in
set_option maxHeartbeats 4000000 in
theorem taken_sa_mk (k : Int) (A : Option Addr) (n c : Nat) (xs : List Int) (w : World) (hx : xs.length = n) (hn : n ≤ 1000000) (bx : Bytes xs) (hr : Ints .u8 w w.heap.size A xs) (hp : ptsK k = some [.sa, .mk]) (hl : n = 17) : Calls Try.prog 30 #[.agg #[.int .i64 k, .int .i64 0, .int .i64 0, .int .i64 0, .int .i64 0, .int .i64 0, .int .u64 0, .int .u16 0, .int .i64 0, .int .i64 0, .int .u64 0, .int .u64 0, .int .u64 0, .int .i64 0, .int .i64 0], .slice A n c] w fun e w' => e = .returned (.agg #[.int .i64 k, .int .i64 0, .int .i64 0, .int .i64 0, .int .i64 0, .int .i64 0, .int .u64 0, .int .u16 0, .int .i64 0, .int .i64 0, .int .u64 (numAt xs 1 8), .int .u64 (numAt xs 9 8), .int .u64 0, .int .i64 0, .int .i64 0]) ∧ Below w.heap.size w w' := by
  subst hl
  have BX : Below w.heap.size w ((w.alloc (.cells #[.int .i64 k, .int .i64 0, .int .i64 0, .int .i64 0, .int .i64 0, .int .i64 0, .int .u64 0, .int .u16 0, .int .i64 0, .int .i64 0, .int .u64 0, .int .u64 0, .int .u64 0, .int .i64 0, .int .i64 0] 28)).alloc (.cells #[.int .i64 0, .int .i64 0, .int .i64 0, .int .i64 0, .int .i64 0, .int .i64 0, .int .u64 0, .int .u16 0, .int .i64 0, .int .i64 0, .int .u64 0, .int .u64 0, .int .u64 0, .int .i64 0, .int .i64 0] 28)) := ((Below.refl _ _).alloc (Nat.le_refl _) _).alloc (by simp) _
  have K1 : Blk ((w.alloc (.cells #[.int .i64 k, .int .i64 0, .int .i64 0, .int .i64 0, .int .i64 0, .int .i64 0, .int .u64 0, .int .u16 0, .int .i64 0, .int .i64 0, .int .u64 0, .int .u64 0, .int .u64 0, .int .i64 0, .int .i64 0] 28)).alloc (.cells #[.int .i64 0, .int .i64 0, .int .i64 0, .int .i64 0, .int .i64 0, .int .i64 0, .int .u64 0, .int .u16 0, .int .i64 0, .int .i64 0, .int .u64 0, .int .u64 0, .int .u64 0, .int .i64 0, .int .i64 0] 28)) w.heap.size 28 #[.int .i64 k, .int .i64 0, .int .i64 0, .int .i64 0, .int .i64 0, .int .i64 0, .int .u64 0, .int .u16 0, .int .i64 0, .int .i64 0, .int .u64 0, .int .u64 0, .int .u64 0, .int .i64 0, .int .i64 0] := (Blk.fresh w 28 #[.int .i64 k, .int .i64 0, .int .i64 0, .int .i64 0, .int .i64 0, .int .i64 0, .int .u64 0, .int .u16 0, .int .i64 0, .int .i64 0, .int .u64 0, .int .u64 0, .int .u64 0, .int .i64 0, .int .i64 0]).alloc _
  have K2 : Blk ((w.alloc (.cells #[.int .i64 k, .int .i64 0, .int .i64 0, .int .i64 0, .int .i64 0, .int .i64 0, .int .u64 0, .int .u16 0, .int .i64 0, .int .i64 0, .int .u64 0, .int .u64 0, .int .u64 0, .int .i64 0, .int .i64 0] 28)).alloc (.cells #[.int .i64 0, .int .i64 0, .int .i64 0, .int .i64 0, .int .i64 0, .int .i64 0, .int .u64 0, .int .u16 0, .int .i64 0, .int .i64 0, .int .u64 0, .int .u64 0, .int .u64 0, .int .i64 0, .int .i64 0] 28)) (w.heap.size + 1) 28 #[.int .i64 0, .int .i64 0, .int .i64 0, .int .i64 0, .int .i64 0, .int .i64 0, .int .u64 0, .int .u16 0, .int .i64 0, .int .i64 0, .int .u64 0, .int .u64 0, .int .u64 0, .int .i64 0, .int .i64 0] := Av.Blk.next
  have HF : Hid (∀ w, Calls Try.prog 20 #[.int .i64 k] w fun e w' => e = .returned (.agg #[.bool true, .bool false, .bool false, .bool false, .bool false, .bool false, .bool true, .bool true, .bool false, .bool false, .bool false]) ∧ Below w.heap.size w w') := Lib.hid fun w => by have := fields_k k w; rw [hp] at this; exact this
  have HNsa : Hid (∀ X, Below w.heap.size w X → Calls Try.prog 51 #[.slice A 17 c, .int .i64 1, .int .i64 8] X fun e w' => e = .returned (.int .u64 (numAt xs 1 8)) ∧ X = w') := Lib.hid fun X b => rnumI A 17 c xs X hx hn bx (Base.later hr b) 1 8 (by decide) (by decide) (by omega)
  obtain ⟨Nsa, eNsa⟩ : ∃ z, numAt xs 1 8 = z := ⟨_, rfl⟩
  rw [eNsa] at HNsa ⊢
  clear eNsa
  have HNmk : Hid (∀ X, Below w.heap.size w X → Calls Try.prog 51 #[.slice A 17 c, .int .i64 9, .int .i64 8] X fun e w' => e = .returned (.int .u64 (numAt xs 9 8)) ∧ X = w') := Lib.hid fun X b => rnumI A 17 c xs X hx hn bx (Base.later hr b) 9 8 (by decide) (by decide) (by omega)
  obtain ⟨Nmk, eNmk⟩ : ∃ z, numAt xs 9 8 = z := ⟨_, rfl⟩
  rw [eNmk] at HNmk ⊢
  clear eNmk
  clear hp hr bx
  show Calls _ _ #[.agg #[.int .i64 k, .int .i64 0, .int .i64 0, .int .i64 0, .int .i64 0, .int .i64 0, .int .u64 0, .int .u16 0, .int .i64 0, .int .i64 0, .int .u64 0, .int .u64 0, .int .u64 0, .int .i64 0, .int .i64 0], _] _ _
  go_enter Try.func30, Try.ntmps30
  go_upto_region 1 with (fail)
  generalize (w.alloc (.cells #[.int .i64 k, .int .i64 0, .int .i64 0, .int .i64 0, .int .i64 0, .int .i64 0, .int .u64 0, .int .u16 0, .int .i64 0, .int .i64 0, .int .u64 0, .int .u64 0, .int .u64 0, .int .i64 0, .int .i64 0] 28)).alloc (.cells #[.int .i64 0, .int .i64 0, .int .i64 0, .int .i64 0, .int .i64 0, .int .i64 0, .int .u64 0, .int .u16 0, .int .i64 0, .int .i64 0, .int .u64 0, .int .u64 0, .int .u64 0, .int .i64 0, .int .i64 0] 28) = W0 at *
  have k0 := K1.cell 0
  go_upto_region 2 with (go_at_call 20; refine (HF.out _).mono ?_; rintro e w1 ⟨rfl, b1⟩)
  clear k0
  have b9 : Below w1.heap.size w1 (w1.alloc (.cells #[.bool true, .bool false, .bool false, .bool false, .bool false, .bool false, .bool true, .bool true, .bool false, .bool false, .bool false] 53)) := (Below.refl _ _).alloc (Nat.le_refl _) _
  have K3 : Blk (w1.alloc (.cells #[.bool true, .bool false, .bool false, .bool false, .bool false, .bool false, .bool true, .bool true, .bool false, .bool false, .bool false] 53)) w1.heap.size 53 #[.bool true, .bool false, .bool false, .bool false, .bool false, .bool false, .bool true, .bool true, .bool false, .bool false, .bool false] := Blk.fresh w1 53 #[.bool true, .bool false, .bool false, .bool false, .bool false, .bool false, .bool true, .bool true, .bool false, .bool false, .bool false]
  have hl1 := (K1.below b1 K1.lt).lt
  have hl2 := (K2.below b1 K2.lt).lt
  replace K1 := (K1.below b1 K1.lt).below b9 hl1
  replace K2 := (K2.below b1 K2.lt).below b9 hl2
  replace BX := thenB (thenB BX b1) b9
  clear b1 b9
  generalize w1.alloc (.cells #[.bool true, .bool false, .bool false, .bool false, .bool false, .bool false, .bool true, .bool true, .bool false, .bool false, .bool false] 53) = X0 at *
  obtain ⟨g3, e3⟩ : ∃ g, w1.heap.size = g := ⟨_, rfl⟩
  rw [e3] at K3 hl1 hl2
  try simp only [e3]
  clear e3
  have y1 := K3.cell 1
  have y2 := K3.cell 2
  have y3 := K3.cell 3
  have y4 := K3.cell 4
  have y5 := K3.cell 5
  have y6 := K3.cell 6
  have y7 := K3.cell 7
  have y8 := K3.cell 8
  have y9 := K3.cell 9
  have y10 := K3.cell 10
  go_upto_region 17 with (fail)
  clear y1 y2 y3 y4 y5 y6 y7 y8 y9 y10
  go_upto_region 18 with (first | (go_at_call 51; refine (HNsa.out _ BX).mono ?_; rintro e Y0 ⟨rfl, rfl⟩) | (refine Av.wpList_store_cell rfl _ _ _ rfl w.heap.size 10 (.int .u64 Nsa) rfl rfl 28 _ K1 (by show 10 < 15; decide) (by kernel_rfl) rfl ?_; replace K2 := Av.bother (i := 10) K2 (show w.heap.size ≠ w.heap.size + 1 by omega) (.int .u64 Nsa); replace K3 := Av.bother (i := 10) K3 (show w.heap.size ≠ g3 by omega) (.int .u64 Nsa); replace K1 := Av.bset K1 10 (.int .u64 Nsa) rfl; replace BX := BX.setCell (p := ⟨w.heap.size, 10, none⟩) (Nat.le_refl _) (.int .u64 Nsa)))
  generalize X0.setCell ⟨w.heap.size, 10, none⟩ (.int .u64 Nsa) = X1 at *
  have y1 := K3.cell 1
  have y2 := K3.cell 2
  have y3 := K3.cell 3
  have y4 := K3.cell 4
  have y5 := K3.cell 5
  have y6 := K3.cell 6
  have y7 := K3.cell 7
  have y8 := K3.cell 8
  have y9 := K3.cell 9
  have y10 := K3.cell 10
  go_upto_region 20 with (fail)
  clear y1 y2 y3 y4 y5 y6 y7 y8 y9 y10
  go_upto_region 21 with (first | (go_at_call 51; refine (HNmk.out _ BX).mono ?_; rintro e Y1 ⟨rfl, rfl⟩) | (refine Av.wpList_store_cell rfl _ _ _ rfl w.heap.size 11 (.int .u64 Nmk) rfl rfl 28 _ K1 (by show 11 < 15; decide) (by kernel_rfl) rfl ?_; replace K2 := Av.bother (i := 11) K2 (show w.heap.size ≠ w.heap.size + 1 by omega) (.int .u64 Nmk); replace K3 := Av.bother (i := 11) K3 (show w.heap.size ≠ g3 by omega) (.int .u64 Nmk); replace K1 := Av.bset K1 11 (.int .u64 Nmk) rfl; replace BX := BX.setCell (p := ⟨w.heap.size, 11, none⟩) (Nat.le_refl _) (.int .u64 Nmk)))
  generalize X1.setCell ⟨w.heap.size, 11, none⟩ (.int .u64 Nmk) = X2 at *
  have y1 := K3.cell 1
  have y2 := K3.cell 2
  have y3 := K3.cell 3
  have y4 := K3.cell 4
  have y5 := K3.cell 5
  have y6 := K3.cell 6
  have y7 := K3.cell 7
  have y8 := K3.cell 8
  have y9 := K3.cell 9
  have y10 := K3.cell 10
  go_upto_region 27 with (fail)
  clear y1 y2 y3 y4 y5 y6 y7 y8 y9 y10
  have H1 : (#[.int .i64 k, .int .i64 0, .int .i64 0, .int .i64 0, .int .i64 0, .int .i64 0, .int .u64 0, .int .u16 0, .int .i64 0, .int .i64 0, .int .u64 Nsa, .int .u64 Nmk, .int .u64 0, .int .i64 0, .int .i64 0] : Array Value).all (·.oneCell') = true := by rw [← Array.all_toList]; rfl
  go_wp2_with (first | (refine wpList_store_row rfl 28 (.tmp 4) _ rfl (w.heap.size + 1) #[.int .i64 k, .int .i64 0, .int .i64 0, .int .i64 0, .int .i64 0, .int .i64 0, .int .u64 0, .int .u16 0, .int .i64 0, .int .i64 0, .int .u64 Nsa, .int .u64 Nmk, .int .u64 0, .int .i64 0, .int .i64 0] rfl rfl 28 _ K2 (by kernel_rfl) rfl H1 ?_) | (refine wpList_load_row rfl 28 (.tmp 2) rfl w.heap.size rfl 28 _ (0, 0) _ K1 Try.underlying28 rfl (by kernel_rfl) ?_))
  have KR := setRow_heap X2 (w.heap.size + 1) _ #[.int .i64 k, .int .i64 0, .int .i64 0, .int .i64 0, .int .i64 0, .int .i64 0, .int .u64 0, .int .u16 0, .int .i64 0, .int .i64 0, .int .u64 Nsa, .int .u64 Nmk, .int .u64 0, .int .i64 0, .int .i64 0] 28 (0, 0) K2
  have BE := below_setRow BX (Nat.le_succ _) #[.int .i64 k, .int .i64 0, .int .i64 0, .int .i64 0, .int .i64 0, .int .i64 0, .int .u64 0, .int .u16 0, .int .i64 0, .int .i64 0, .int .u64 Nsa, .int .u64 Nmk, .int .u64 0, .int .i64 0, .int .i64 0]
  generalize X2.setRow (w.heap.size + 1) #[.int .i64 k, .int .i64 0, .int .i64 0, .int .i64 0, .int .i64 0, .int .i64 0, .int .u64 0, .int .u16 0, .int .i64 0, .int .i64 0, .int .u64 Nsa, .int .u64 Nmk, .int .u64 0, .int .i64 0, .int .i64 0] = Y at *
  refine bodyPost_ret (v := .agg #[.int .i64 k, .int .i64 0, .int .i64 0, .int .i64 0, .int .i64 0, .int .i64 0, .int .u64 0, .int .u16 0, .int .i64 0, .int .i64 0, .int .u64 Nsa, .int .u64 Nmk, .int .u64 0, .int .i64 0, .int .i64 0]) ?_ rfl ⟨rfl, BE⟩
  clear K1
  have HL := run_loadVar_row (P := Try.prog) Y (w.heap.size + 1) 28 28 #[.int .i64 k, .int .i64 0, .int .i64 0, .int .i64 0, .int .i64 0, .int .i64 0, .int .u64 0, .int .u16 0, .int .i64 0, .int .i64 0, .int .u64 Nsa, .int .u64 Nmk, .int .u64 0, .int .i64 0, .int .i64 0] (0, 0) _ KR Try.underlying28 rfl (by kernel_rfl)
  generalize (#[.int .i64 k, .int .i64 0, .int .i64 0, .int .i64 0, .int .i64 0, .int .i64 0, .int .u64 0, .int .u16 0, .int .i64 0, .int .i64 0, .int .u64 Nsa, .int .u64 Nmk, .int .u64 0, .int .i64 0, .int .i64 0] : Array Value) = CS at *
  simp [results, show (Try.f30).results = #[.cell 4 28] from rfl, asAddr, HL, Act.put]
set_option maxRecDepth 100000 in
set_option maxHeartbeats 4000000 in
theorem taken_sa (k : Int) (A : Option Addr) (n c : Nat) (xs : List Int) (w : World) (hx : xs.length = n) (hn : n ≤ 1000000) (bx : Bytes xs) (hr : Ints .u8 w w.heap.size A xs) (hp : ptsK k = some [.sa]) (hl : n = 9) : Calls Try.prog 30 #[.agg #[.int .i64 k, .int .i64 0, .int .i64 0, .int .i64 0, .int .i64 0, .int .i64 0, .int .u64 0, .int .u16 0, .int .i64 0, .int .i64 0, .int .u64 0, .int .u64 0, .int .u64 0, .int .i64 0, .int .i64 0], .slice A n c] w fun e w' => e = .returned (.agg #[.int .i64 k, .int .i64 0, .int .i64 0, .int .i64 0, .int .i64 0, .int .i64 0, .int .u64 0, .int .u16 0, .int .i64 0, .int .i64 0, .int .u64 (numAt xs 1 8), .int .u64 0, .int .u64 0, .int .i64 0, .int .i64 0]) ∧ Below w.heap.size w w' := by
  subst hl
  have BX : Below w.heap.size w ((w.alloc (.cells #[.int .i64 k, .int .i64 0, .int .i64 0, .int .i64 0, .int .i64 0, .int .i64 0, .int .u64 0, .int .u16 0, .int .i64 0, .int .i64 0, .int .u64 0, .int .u64 0, .int .u64 0, .int .i64 0, .int .i64 0] 28)).alloc (.cells #[.int .i64 0, .int .i64 0, .int .i64 0, .int .i64 0, .int .i64 0, .int .i64 0, .int .u64 0, .int .u16 0, .int .i64 0, .int .i64 0, .int .u64 0, .int .u64 0, .int .u64 0, .int .i64 0, .int .i64 0] 28)) := ((Below.refl _ _).alloc (Nat.le_refl _) _).alloc (by simp) _
  have K1 : Blk ((w.alloc (.cells #[.int .i64 k, .int .i64 0, .int .i64 0, .int .i64 0, .int .i64 0, .int .i64 0, .int .u64 0, .int .u16 0, .int .i64 0, .int .i64 0, .int .u64 0, .int .u64 0, .int .u64 0, .int .i64 0, .int .i64 0] 28)).alloc (.cells #[.int .i64 0, .int .i64 0, .int .i64 0, .int .i64 0, .int .i64 0, .int .i64 0, .int .u64 0, .int .u16 0, .int .i64 0, .int .i64 0, .int .u64 0, .int .u64 0, .int .u64 0, .int .i64 0, .int .i64 0] 28)) w.heap.size 28 #[.int .i64 k, .int .i64 0, .int .i64 0, .int .i64 0, .int .i64 0, .int .i64 0, .int .u64 0, .int .u16 0, .int .i64 0, .int .i64 0, .int .u64 0, .int .u64 0, .int .u64 0, .int .i64 0, .int .i64 0] := (Blk.fresh w 28 #[.int .i64 k, .int .i64 0, .int .i64 0, .int .i64 0, .int .i64 0, .int .i64 0, .int .u64 0, .int .u16 0, .int .i64 0, .int .i64 0, .int .u64 0, .int .u64 0, .int .u64 0, .int .i64 0, .int .i64 0]).alloc _
  have K2 : Blk ((w.alloc (.cells #[.int .i64 k, .int .i64 0, .int .i64 0, .int .i64 0, .int .i64 0, .int .i64 0, .int .u64 0, .int .u16 0, .int .i64 0, .int .i64 0, .int .u64 0, .int .u64 0, .int .u64 0, .int .i64 0, .int .i64 0] 28)).alloc (.cells #[.int .i64 0, .int .i64 0, .int .i64 0, .int .i64 0, .int .i64 0, .int .i64 0, .int .u64 0, .int .u16 0, .int .i64 0, .int .i64 0, .int .u64 0, .int .u64 0, .int .u64 0, .int .i64 0, .int .i64 0] 28)) (w.heap.size + 1) 28 #[.int .i64 0, .int .i64 0, .int .i64 0, .int .i64 0, .int .i64 0, .int .i64 0, .int .u64 0, .int .u16 0, .int .i64 0, .int .i64 0, .int .u64 0, .int .u64 0, .int .u64 0, .int .i64 0, .int .i64 0] := Av.Blk.next
  have HF : Hid (∀ w, Calls Try.prog 20 #[.int .i64 k] w fun e w' => e = .returned (.agg #[.bool true, .bool false, .bool false, .bool false, .bool false, .bool false, .bool true, .bool false, .bool false, .bool false, .bool false]) ∧ Below w.heap.size w w') := Lib.hid fun w => by have := fields_k k w; rw [hp] at this; exact this
  have HNsa : Hid (∀ X, Below w.heap.size w X → Calls Try.prog 51 #[.slice A 9 c, .int .i64 1, .int .i64 8] X fun e w' => e = .returned (.int .u64 (numAt xs 1 8)) ∧ X = w') := Lib.hid fun X b => rnumI A 9 c xs X hx hn bx (Base.later hr b) 1 8 (by decide) (by decide) (by omega)
  obtain ⟨Nsa, eNsa⟩ : ∃ z, numAt xs 1 8 = z := ⟨_, rfl⟩
  rw [eNsa] at HNsa ⊢
  clear eNsa
  clear hp hr bx
  show Calls _ _ #[.agg #[.int .i64 k, .int .i64 0, .int .i64 0, .int .i64 0, .int .i64 0, .int .i64 0, .int .u64 0, .int .u16 0, .int .i64 0, .int .i64 0, .int .u64 0, .int .u64 0, .int .u64 0, .int .i64 0, .int .i64 0], _] _ _
  go_enter Try.func30, Try.ntmps30
  go_upto_region 1 with (fail)
  generalize (w.alloc (.cells #[.int .i64 k, .int .i64 0, .int .i64 0, .int .i64 0, .int .i64 0, .int .i64 0, .int .u64 0, .int .u16 0, .int .i64 0, .int .i64 0, .int .u64 0, .int .u64 0, .int .u64 0, .int .i64 0, .int .i64 0] 28)).alloc (.cells #[.int .i64 0, .int .i64 0, .int .i64 0, .int .i64 0, .int .i64 0, .int .i64 0, .int .u64 0, .int .u16 0, .int .i64 0, .int .i64 0, .int .u64 0, .int .u64 0, .int .u64 0, .int .i64 0, .int .i64 0] 28) = W0 at *
  have k0 := K1.cell 0
  go_upto_region 2 with (go_at_call 20; refine (HF.out _).mono ?_; rintro e w1 ⟨rfl, b1⟩)
  clear k0
  have b9 : Below w1.heap.size w1 (w1.alloc (.cells #[.bool true, .bool false, .bool false, .bool false, .bool false, .bool false, .bool true, .bool false, .bool false, .bool false, .bool false] 53)) := (Below.refl _ _).alloc (Nat.le_refl _) _
  have K3 : Blk (w1.alloc (.cells #[.bool true, .bool false, .bool false, .bool false, .bool false, .bool false, .bool true, .bool false, .bool false, .bool false, .bool false] 53)) w1.heap.size 53 #[.bool true, .bool false, .bool false, .bool false, .bool false, .bool false, .bool true, .bool false, .bool false, .bool false, .bool false] := Blk.fresh w1 53 #[.bool true, .bool false, .bool false, .bool false, .bool false, .bool false, .bool true, .bool false, .bool false, .bool false, .bool false]
  have hl1 := (K1.below b1 K1.lt).lt
  have hl2 := (K2.below b1 K2.lt).lt
  replace K1 := (K1.below b1 K1.lt).below b9 hl1
  replace K2 := (K2.below b1 K2.lt).below b9 hl2
  replace BX := thenB (thenB BX b1) b9
  clear b1 b9
  generalize w1.alloc (.cells #[.bool true, .bool false, .bool false, .bool false, .bool false, .bool false, .bool true, .bool false, .bool false, .bool false, .bool false] 53) = X0 at *
  obtain ⟨g3, e3⟩ : ∃ g, w1.heap.size = g := ⟨_, rfl⟩
  rw [e3] at K3 hl1 hl2
  try simp only [e3]
  clear e3
  have y1 := K3.cell 1
  have y2 := K3.cell 2
  have y3 := K3.cell 3
  have y4 := K3.cell 4
  have y5 := K3.cell 5
  have y6 := K3.cell 6
  have y7 := K3.cell 7
  have y8 := K3.cell 8
  have y9 := K3.cell 9
  have y10 := K3.cell 10
  go_upto_region 17 with (fail)
  clear y1 y2 y3 y4 y5 y6 y7 y8 y9 y10
  go_upto_region 18 with (first | (go_at_call 51; refine (HNsa.out _ BX).mono ?_; rintro e Y0 ⟨rfl, rfl⟩) | (refine Av.wpList_store_cell rfl _ _ _ rfl w.heap.size 10 (.int .u64 Nsa) rfl rfl 28 _ K1 (by show 10 < 15; decide) (by kernel_rfl) rfl ?_; replace K2 := Av.bother (i := 10) K2 (show w.heap.size ≠ w.heap.size + 1 by omega) (.int .u64 Nsa); replace K3 := Av.bother (i := 10) K3 (show w.heap.size ≠ g3 by omega) (.int .u64 Nsa); replace K1 := Av.bset K1 10 (.int .u64 Nsa) rfl; replace BX := BX.setCell (p := ⟨w.heap.size, 10, none⟩) (Nat.le_refl _) (.int .u64 Nsa)))
  generalize X0.setCell ⟨w.heap.size, 10, none⟩ (.int .u64 Nsa) = X1 at *
  have y1 := K3.cell 1
  have y2 := K3.cell 2
  have y3 := K3.cell 3
  have y4 := K3.cell 4
  have y5 := K3.cell 5
  have y6 := K3.cell 6
  have y7 := K3.cell 7
  have y8 := K3.cell 8
  have y9 := K3.cell 9
  have y10 := K3.cell 10
  go_upto_region 27 with (fail)
  clear y1 y2 y3 y4 y5 y6 y7 y8 y9 y10
  have H1 : (#[.int .i64 k, .int .i64 0, .int .i64 0, .int .i64 0, .int .i64 0, .int .i64 0, .int .u64 0, .int .u16 0, .int .i64 0, .int .i64 0, .int .u64 Nsa, .int .u64 0, .int .u64 0, .int .i64 0, .int .i64 0] : Array Value).all (·.oneCell') = true := by rw [← Array.all_toList]; rfl
  go_wp2_with (first | (refine wpList_store_row rfl 28 (.tmp 4) _ rfl (w.heap.size + 1) #[.int .i64 k, .int .i64 0, .int .i64 0, .int .i64 0, .int .i64 0, .int .i64 0, .int .u64 0, .int .u16 0, .int .i64 0, .int .i64 0, .int .u64 Nsa, .int .u64 0, .int .u64 0, .int .i64 0, .int .i64 0] rfl rfl 28 _ K2 (by kernel_rfl) rfl H1 ?_) | (refine wpList_load_row rfl 28 (.tmp 2) rfl w.heap.size rfl 28 _ (0, 0) _ K1 Try.underlying28 rfl (by kernel_rfl) ?_))
  have KR := setRow_heap X1 (w.heap.size + 1) _ #[.int .i64 k, .int .i64 0, .int .i64 0, .int .i64 0, .int .i64 0, .int .i64 0, .int .u64 0, .int .u16 0, .int .i64 0, .int .i64 0, .int .u64 Nsa, .int .u64 0, .int .u64 0, .int .i64 0, .int .i64 0] 28 (0, 0) K2
  have BE := below_setRow BX (Nat.le_succ _) #[.int .i64 k, .int .i64 0, .int .i64 0, .int .i64 0, .int .i64 0, .int .i64 0, .int .u64 0, .int .u16 0, .int .i64 0, .int .i64 0, .int .u64 Nsa, .int .u64 0, .int .u64 0, .int .i64 0, .int .i64 0]
  generalize X1.setRow (w.heap.size + 1) #[.int .i64 k, .int .i64 0, .int .i64 0, .int .i64 0, .int .i64 0, .int .i64 0, .int .u64 0, .int .u16 0, .int .i64 0, .int .i64 0, .int .u64 Nsa, .int .u64 0, .int .u64 0, .int .i64 0, .int .i64 0] = Y at *
  refine bodyPost_ret (v := .agg #[.int .i64 k, .int .i64 0, .int .i64 0, .int .i64 0, .int .i64 0, .int .i64 0, .int .u64 0, .int .u16 0, .int .i64 0, .int .i64 0, .int .u64 Nsa, .int .u64 0, .int .u64 0, .int .i64 0, .int .i64 0]) ?_ rfl ⟨rfl, BE⟩
  clear K1
  have HL := run_loadVar_row (P := Try.prog) Y (w.heap.size + 1) 28 28 #[.int .i64 k, .int .i64 0, .int .i64 0, .int .i64 0, .int .i64 0, .int .i64 0, .int .u64 0, .int .u16 0, .int .i64 0, .int .i64 0, .int .u64 Nsa, .int .u64 0, .int .u64 0, .int .i64 0, .int .i64 0] (0, 0) _ KR Try.underlying28 rfl (by kernel_rfl)
  generalize (#[.int .i64 k, .int .i64 0, .int .i64 0, .int .i64 0, .int .i64 0, .int .i64 0, .int .u64 0, .int .u16 0, .int .i64 0, .int .i64 0, .int .u64 Nsa, .int .u64 0, .int .u64 0, .int .i64 0, .int .i64 0] : Array Value) = CS at *
  simp [results, show (Try.f30).results = #[.cell 4 28] from rfl, asAddr, HL, Act.put]
set_option maxRecDepth 100000 in
set_option maxHeartbeats 4000000 in
theorem taken_no (k : Int) (A : Option Addr) (n c : Nat) (xs : List Int) (w : World) (hx : xs.length = n) (hn : n ≤ 1000000) (bx : Bytes xs) (hr : Ints .u8 w w.heap.size A xs) (hp : ptsK k = some []) (hl : n = 1) : Calls Try.prog 30 #[.agg #[.int .i64 k, .int .i64 0, .int .i64 0, .int .i64 0, .int .i64 0, .int .i64 0, .int .u64 0, .int .u16 0, .int .i64 0, .int .i64 0, .int .u64 0, .int .u64 0, .int .u64 0, .int .i64 0, .int .i64 0], .slice A n c] w fun e w' => e = .returned (.agg #[.int .i64 k, .int .i64 0, .int .i64 0, .int .i64 0, .int .i64 0, .int .i64 0, .int .u64 0, .int .u16 0, .int .i64 0, .int .i64 0, .int .u64 0, .int .u64 0, .int .u64 0, .int .i64 0, .int .i64 0]) ∧ Below w.heap.size w w' := by
  subst hl
  have BX : Below w.heap.size w ((w.alloc (.cells #[.int .i64 k, .int .i64 0, .int .i64 0, .int .i64 0, .int .i64 0, .int .i64 0, .int .u64 0, .int .u16 0, .int .i64 0, .int .i64 0, .int .u64 0, .int .u64 0, .int .u64 0, .int .i64 0, .int .i64 0] 28)).alloc (.cells #[.int .i64 0, .int .i64 0, .int .i64 0, .int .i64 0, .int .i64 0, .int .i64 0, .int .u64 0, .int .u16 0, .int .i64 0, .int .i64 0, .int .u64 0, .int .u64 0, .int .u64 0, .int .i64 0, .int .i64 0] 28)) := ((Below.refl _ _).alloc (Nat.le_refl _) _).alloc (by simp) _
  have K1 : Blk ((w.alloc (.cells #[.int .i64 k, .int .i64 0, .int .i64 0, .int .i64 0, .int .i64 0, .int .i64 0, .int .u64 0, .int .u16 0, .int .i64 0, .int .i64 0, .int .u64 0, .int .u64 0, .int .u64 0, .int .i64 0, .int .i64 0] 28)).alloc (.cells #[.int .i64 0, .int .i64 0, .int .i64 0, .int .i64 0, .int .i64 0, .int .i64 0, .int .u64 0, .int .u16 0, .int .i64 0, .int .i64 0, .int .u64 0, .int .u64 0, .int .u64 0, .int .i64 0, .int .i64 0] 28)) w.heap.size 28 #[.int .i64 k, .int .i64 0, .int .i64 0, .int .i64 0, .int .i64 0, .int .i64 0, .int .u64 0, .int .u16 0, .int .i64 0, .int .i64 0, .int .u64 0, .int .u64 0, .int .u64 0, .int .i64 0, .int .i64 0] := (Blk.fresh w 28 #[.int .i64 k, .int .i64 0, .int .i64 0, .int .i64 0, .int .i64 0, .int .i64 0, .int .u64 0, .int .u16 0, .int .i64 0, .int .i64 0, .int .u64 0, .int .u64 0, .int .u64 0, .int .i64 0, .int .i64 0]).alloc _
  have K2 : Blk ((w.alloc (.cells #[.int .i64 k, .int .i64 0, .int .i64 0, .int .i64 0, .int .i64 0, .int .i64 0, .int .u64 0, .int .u16 0, .int .i64 0, .int .i64 0, .int .u64 0, .int .u64 0, .int .u64 0, .int .i64 0, .int .i64 0] 28)).alloc (.cells #[.int .i64 0, .int .i64 0, .int .i64 0, .int .i64 0, .int .i64 0, .int .i64 0, .int .u64 0, .int .u16 0, .int .i64 0, .int .i64 0, .int .u64 0, .int .u64 0, .int .u64 0, .int .i64 0, .int .i64 0] 28)) (w.heap.size + 1) 28 #[.int .i64 0, .int .i64 0, .int .i64 0, .int .i64 0, .int .i64 0, .int .i64 0, .int .u64 0, .int .u16 0, .int .i64 0, .int .i64 0, .int .u64 0, .int .u64 0, .int .u64 0, .int .i64 0, .int .i64 0] := Av.Blk.next
  have HF : Hid (∀ w, Calls Try.prog 20 #[.int .i64 k] w fun e w' => e = .returned (.agg #[.bool true, .bool false, .bool false, .bool false, .bool false, .bool false, .bool false, .bool false, .bool false, .bool false, .bool false]) ∧ Below w.heap.size w w') := Lib.hid fun w => by have := fields_k k w; rw [hp] at this; exact this
  clear hp hr bx
  show Calls _ _ #[.agg #[.int .i64 k, .int .i64 0, .int .i64 0, .int .i64 0, .int .i64 0, .int .i64 0, .int .u64 0, .int .u16 0, .int .i64 0, .int .i64 0, .int .u64 0, .int .u64 0, .int .u64 0, .int .i64 0, .int .i64 0], _] _ _
  go_enter Try.func30, Try.ntmps30
  go_upto_region 1 with (fail)
  generalize (w.alloc (.cells #[.int .i64 k, .int .i64 0, .int .i64 0, .int .i64 0, .int .i64 0, .int .i64 0, .int .u64 0, .int .u16 0, .int .i64 0, .int .i64 0, .int .u64 0, .int .u64 0, .int .u64 0, .int .i64 0, .int .i64 0] 28)).alloc (.cells #[.int .i64 0, .int .i64 0, .int .i64 0, .int .i64 0, .int .i64 0, .int .i64 0, .int .u64 0, .int .u16 0, .int .i64 0, .int .i64 0, .int .u64 0, .int .u64 0, .int .u64 0, .int .i64 0, .int .i64 0] 28) = W0 at *
  have k0 := K1.cell 0
  go_upto_region 2 with (go_at_call 20; refine (HF.out _).mono ?_; rintro e w1 ⟨rfl, b1⟩)
  clear k0
  have b9 : Below w1.heap.size w1 (w1.alloc (.cells #[.bool true, .bool false, .bool false, .bool false, .bool false, .bool false, .bool false, .bool false, .bool false, .bool false, .bool false] 53)) := (Below.refl _ _).alloc (Nat.le_refl _) _
  have K3 : Blk (w1.alloc (.cells #[.bool true, .bool false, .bool false, .bool false, .bool false, .bool false, .bool false, .bool false, .bool false, .bool false, .bool false] 53)) w1.heap.size 53 #[.bool true, .bool false, .bool false, .bool false, .bool false, .bool false, .bool false, .bool false, .bool false, .bool false, .bool false] := Blk.fresh w1 53 #[.bool true, .bool false, .bool false, .bool false, .bool false, .bool false, .bool false, .bool false, .bool false, .bool false, .bool false]
  have hl1 := (K1.below b1 K1.lt).lt
  have hl2 := (K2.below b1 K2.lt).lt
  replace K1 := (K1.below b1 K1.lt).below b9 hl1
  replace K2 := (K2.below b1 K2.lt).below b9 hl2
  replace BX := thenB (thenB BX b1) b9
  clear b1 b9
  generalize w1.alloc (.cells #[.bool true, .bool false, .bool false, .bool false, .bool false, .bool false, .bool false, .bool false, .bool false, .bool false, .bool false] 53) = X0 at *
  obtain ⟨g3, e3⟩ : ∃ g, w1.heap.size = g := ⟨_, rfl⟩
  rw [e3] at K3 hl1 hl2
  try simp only [e3]
  clear e3
  have y1 := K3.cell 1
  have y2 := K3.cell 2
  have y3 := K3.cell 3
  have y4 := K3.cell 4
  have y5 := K3.cell 5
  have y6 := K3.cell 6
  have y7 := K3.cell 7
  have y8 := K3.cell 8
  have y9 := K3.cell 9
  have y10 := K3.cell 10
  go_upto_region 27 with (fail)
  clear y1 y2 y3 y4 y5 y6 y7 y8 y9 y10
  have H1 : (#[.int .i64 k, .int .i64 0, .int .i64 0, .int .i64 0, .int .i64 0, .int .i64 0, .int .u64 0, .int .u16 0, .int .i64 0, .int .i64 0, .int .u64 0, .int .u64 0, .int .u64 0, .int .i64 0, .int .i64 0] : Array Value).all (·.oneCell') = true := by rw [← Array.all_toList]; rfl
  go_wp2_with (first | (refine wpList_store_row rfl 28 (.tmp 4) _ rfl (w.heap.size + 1) #[.int .i64 k, .int .i64 0, .int .i64 0, .int .i64 0, .int .i64 0, .int .i64 0, .int .u64 0, .int .u16 0, .int .i64 0, .int .i64 0, .int .u64 0, .int .u64 0, .int .u64 0, .int .i64 0, .int .i64 0] rfl rfl 28 _ K2 (by kernel_rfl) rfl H1 ?_) | (refine wpList_load_row rfl 28 (.tmp 2) rfl w.heap.size rfl 28 _ (0, 0) _ K1 Try.underlying28 rfl (by kernel_rfl) ?_))
  have KR := setRow_heap X0 (w.heap.size + 1) _ #[.int .i64 k, .int .i64 0, .int .i64 0, .int .i64 0, .int .i64 0, .int .i64 0, .int .u64 0, .int .u16 0, .int .i64 0, .int .i64 0, .int .u64 0, .int .u64 0, .int .u64 0, .int .i64 0, .int .i64 0] 28 (0, 0) K2
  have BE := below_setRow BX (Nat.le_succ _) #[.int .i64 k, .int .i64 0, .int .i64 0, .int .i64 0, .int .i64 0, .int .i64 0, .int .u64 0, .int .u16 0, .int .i64 0, .int .i64 0, .int .u64 0, .int .u64 0, .int .u64 0, .int .i64 0, .int .i64 0]
  generalize X0.setRow (w.heap.size + 1) #[.int .i64 k, .int .i64 0, .int .i64 0, .int .i64 0, .int .i64 0, .int .i64 0, .int .u64 0, .int .u16 0, .int .i64 0, .int .i64 0, .int .u64 0, .int .u64 0, .int .u64 0, .int .i64 0, .int .i64 0] = Y at *
  refine bodyPost_ret (v := .agg #[.int .i64 k, .int .i64 0, .int .i64 0, .int .i64 0, .int .i64 0, .int .i64 0, .int .u64 0, .int .u16 0, .int .i64 0, .int .i64 0, .int .u64 0, .int .u64 0, .int .u64 0, .int .i64 0, .int .i64 0]) ?_ rfl ⟨rfl, BE⟩
  clear K1
  have HL := run_loadVar_row (P := Try.prog) Y (w.heap.size + 1) 28 28 #[.int .i64 k, .int .i64 0, .int .i64 0, .int .i64 0, .int .i64 0, .int .i64 0, .int .u64 0, .int .u16 0, .int .i64 0, .int .i64 0, .int .u64 0, .int .u64 0, .int .u64 0, .int .i64 0, .int .i64 0] (0, 0) _ KR Try.underlying28 rfl (by kernel_rfl)
  generalize (#[.int .i64 k, .int .i64 0, .int .i64 0, .int .i64 0, .int .i64 0, .int .i64 0, .int .u64 0, .int .u16 0, .int .i64 0, .int .i64 0, .int .u64 0, .int .u64 0, .int .u64 0, .int .i64 0, .int .i64 0] : Array Value) = CS at *
  simp [results, show (Try.f30).results = #[.cell 4 28] from rfl, asAddr, HL, Act.put]
set_option maxRecDepth 100000 in
set_option maxHeartbeats 4000000 in
theorem taken_rj (k : Int) (A : Option Addr) (n c : Nat) (xs : List Int) (w : World) (hx : xs.length = n) (hn : n ≤ 1000000) (bx : Bytes xs) (hr : Ints .u8 w w.heap.size A xs) (hp : ptsK k = some [.rj]) (hl : n = 2) : Calls Try.prog 30 #[.agg #[.int .i64 k, .int .i64 0, .int .i64 0, .int .i64 0, .int .i64 0, .int .i64 0, .int .u64 0, .int .u16 0, .int .i64 0, .int .i64 0, .int .u64 0, .int .u64 0, .int .u64 0, .int .i64 0, .int .i64 0], .slice A n c] w fun e w' => e = .returned (.agg #[.int .i64 k, .int .i64 0, .int .i64 0, .int .i64 0, .int .i64 0, .int .i64 0, .int .u64 0, .int .u16 0, .int .i64 0, .int .i64 (xs.getD 1 0), .int .u64 0, .int .u64 0, .int .u64 0, .int .i64 0, .int .i64 0]) ∧ Below w.heap.size w w' := by
  subst hl
  have BX : Below w.heap.size w ((w.alloc (.cells #[.int .i64 k, .int .i64 0, .int .i64 0, .int .i64 0, .int .i64 0, .int .i64 0, .int .u64 0, .int .u16 0, .int .i64 0, .int .i64 0, .int .u64 0, .int .u64 0, .int .u64 0, .int .i64 0, .int .i64 0] 28)).alloc (.cells #[.int .i64 0, .int .i64 0, .int .i64 0, .int .i64 0, .int .i64 0, .int .i64 0, .int .u64 0, .int .u16 0, .int .i64 0, .int .i64 0, .int .u64 0, .int .u64 0, .int .u64 0, .int .i64 0, .int .i64 0] 28)) := ((Below.refl _ _).alloc (Nat.le_refl _) _).alloc (by simp) _
  have K1 : Blk ((w.alloc (.cells #[.int .i64 k, .int .i64 0, .int .i64 0, .int .i64 0, .int .i64 0, .int .i64 0, .int .u64 0, .int .u16 0, .int .i64 0, .int .i64 0, .int .u64 0, .int .u64 0, .int .u64 0, .int .i64 0, .int .i64 0] 28)).alloc (.cells #[.int .i64 0, .int .i64 0, .int .i64 0, .int .i64 0, .int .i64 0, .int .i64 0, .int .u64 0, .int .u16 0, .int .i64 0, .int .i64 0, .int .u64 0, .int .u64 0, .int .u64 0, .int .i64 0, .int .i64 0] 28)) w.heap.size 28 #[.int .i64 k, .int .i64 0, .int .i64 0, .int .i64 0, .int .i64 0, .int .i64 0, .int .u64 0, .int .u16 0, .int .i64 0, .int .i64 0, .int .u64 0, .int .u64 0, .int .u64 0, .int .i64 0, .int .i64 0] := (Blk.fresh w 28 #[.int .i64 k, .int .i64 0, .int .i64 0, .int .i64 0, .int .i64 0, .int .i64 0, .int .u64 0, .int .u16 0, .int .i64 0, .int .i64 0, .int .u64 0, .int .u64 0, .int .u64 0, .int .i64 0, .int .i64 0]).alloc _
  have K2 : Blk ((w.alloc (.cells #[.int .i64 k, .int .i64 0, .int .i64 0, .int .i64 0, .int .i64 0, .int .i64 0, .int .u64 0, .int .u16 0, .int .i64 0, .int .i64 0, .int .u64 0, .int .u64 0, .int .u64 0, .int .i64 0, .int .i64 0] 28)).alloc (.cells #[.int .i64 0, .int .i64 0, .int .i64 0, .int .i64 0, .int .i64 0, .int .i64 0, .int .u64 0, .int .u16 0, .int .i64 0, .int .i64 0, .int .u64 0, .int .u64 0, .int .u64 0, .int .i64 0, .int .i64 0] 28)) (w.heap.size + 1) 28 #[.int .i64 0, .int .i64 0, .int .i64 0, .int .i64 0, .int .i64 0, .int .i64 0, .int .u64 0, .int .u16 0, .int .i64 0, .int .i64 0, .int .u64 0, .int .u64 0, .int .u64 0, .int .i64 0, .int .i64 0] := Av.Blk.next
  have HF : Hid (∀ w, Calls Try.prog 20 #[.int .i64 k] w fun e w' => e = .returned (.agg #[.bool true, .bool false, .bool false, .bool false, .bool false, .bool true, .bool false, .bool false, .bool false, .bool false, .bool false]) ∧ Below w.heap.size w w') := Lib.hid fun w => by have := fields_k k w; rw [hp] at this; exact this
  obtain ⟨b, off, rfl, hb, hc⟩ := hr.at_ (i := 1) (by omega)
  have cc1 := hc 1 (by omega)
  have bk1 := bytes_get bx 1
  obtain ⟨z1, hz1⟩ : ∃ z, xs.getD 1 0 = z := ⟨_, rfl⟩
  rw [hz1] at cc1 bk1 ⊢
  have q1 : IntKind.i64.wrap z1 = z1 := w64 (by omega)
  clear hz1
  clear hc
  clear hp hr bx
  show Calls _ _ #[.agg #[.int .i64 k, .int .i64 0, .int .i64 0, .int .i64 0, .int .i64 0, .int .i64 0, .int .u64 0, .int .u16 0, .int .i64 0, .int .i64 0, .int .u64 0, .int .u64 0, .int .u64 0, .int .i64 0, .int .i64 0], _] _ _
  go_enter Try.func30, Try.ntmps30
  go_upto_region 1 with (fail)
  generalize (w.alloc (.cells #[.int .i64 k, .int .i64 0, .int .i64 0, .int .i64 0, .int .i64 0, .int .i64 0, .int .u64 0, .int .u16 0, .int .i64 0, .int .i64 0, .int .u64 0, .int .u64 0, .int .u64 0, .int .i64 0, .int .i64 0] 28)).alloc (.cells #[.int .i64 0, .int .i64 0, .int .i64 0, .int .i64 0, .int .i64 0, .int .i64 0, .int .u64 0, .int .u16 0, .int .i64 0, .int .i64 0, .int .u64 0, .int .u64 0, .int .u64 0, .int .i64 0, .int .i64 0] 28) = W0 at *
  have k0 := K1.cell 0
  go_upto_region 2 with (go_at_call 20; refine (HF.out _).mono ?_; rintro e w1 ⟨rfl, b1⟩)
  clear k0
  have b9 : Below w1.heap.size w1 (w1.alloc (.cells #[.bool true, .bool false, .bool false, .bool false, .bool false, .bool true, .bool false, .bool false, .bool false, .bool false, .bool false] 53)) := (Below.refl _ _).alloc (Nat.le_refl _) _
  have K3 : Blk (w1.alloc (.cells #[.bool true, .bool false, .bool false, .bool false, .bool false, .bool true, .bool false, .bool false, .bool false, .bool false, .bool false] 53)) w1.heap.size 53 #[.bool true, .bool false, .bool false, .bool false, .bool false, .bool true, .bool false, .bool false, .bool false, .bool false, .bool false] := Blk.fresh w1 53 #[.bool true, .bool false, .bool false, .bool false, .bool false, .bool true, .bool false, .bool false, .bool false, .bool false, .bool false]
  have hl1 := (K1.below b1 K1.lt).lt
  have hl2 := (K2.below b1 K2.lt).lt
  replace K1 := (K1.below b1 K1.lt).below b9 hl1
  replace K2 := (K2.below b1 K2.lt).below b9 hl2
  replace BX := thenB (thenB BX b1) b9
  clear b1 b9
  generalize w1.alloc (.cells #[.bool true, .bool false, .bool false, .bool false, .bool false, .bool true, .bool false, .bool false, .bool false, .bool false, .bool false] 53) = X0 at *
  obtain ⟨g3, e3⟩ : ∃ g, w1.heap.size = g := ⟨_, rfl⟩
  rw [e3] at K3 hl1 hl2
  try simp only [e3]
  clear e3
  have y1 := K3.cell 1
  have y2 := K3.cell 2
  have y3 := K3.cell 3
  have y4 := K3.cell 4
  have y5 := K3.cell 5
  have y6 := K3.cell 6
  have y7 := K3.cell 7
  have y8 := K3.cell 8
  have y9 := K3.cell 9
  have y10 := K3.cell 10
  go_upto_region 15 with (fail)
  clear y1 y2 y3 y4 y5 y6 y7 y8 y9 y10
  have f1 := (BX.cell (p := ⟨b, off + 1, none⟩) hb).trans cc1
  go_upto_region 16 with (refine Av.wpList_store_cell rfl _ _ _ rfl w.heap.size 9 (.int .i64 z1) rfl rfl 28 _ K1 (by show 9 < 15; decide) (by kernel_rfl) rfl ?_; replace K2 := Av.bother (i := 9) K2 (show w.heap.size ≠ w.heap.size + 1 by omega) (.int .i64 z1); replace K3 := Av.bother (i := 9) K3 (show w.heap.size ≠ g3 by omega) (.int .i64 z1); replace K1 := Av.bset K1 9 (.int .i64 z1) rfl; replace BX := BX.setCell (p := ⟨w.heap.size, 9, none⟩) (Nat.le_refl _) (.int .i64 z1))
  clear f1
  generalize X0.setCell ⟨w.heap.size, 9, none⟩ (.int .i64 z1) = X1 at *
  have y1 := K3.cell 1
  have y2 := K3.cell 2
  have y3 := K3.cell 3
  have y4 := K3.cell 4
  have y5 := K3.cell 5
  have y6 := K3.cell 6
  have y7 := K3.cell 7
  have y8 := K3.cell 8
  have y9 := K3.cell 9
  have y10 := K3.cell 10
  go_upto_region 27 with (fail)
  clear y1 y2 y3 y4 y5 y6 y7 y8 y9 y10
  have H1 : (#[.int .i64 k, .int .i64 0, .int .i64 0, .int .i64 0, .int .i64 0, .int .i64 0, .int .u64 0, .int .u16 0, .int .i64 0, .int .i64 z1, .int .u64 0, .int .u64 0, .int .u64 0, .int .i64 0, .int .i64 0] : Array Value).all (·.oneCell') = true := by rw [← Array.all_toList]; rfl
  go_wp2_with (first | (refine wpList_store_row rfl 28 (.tmp 4) _ rfl (w.heap.size + 1) #[.int .i64 k, .int .i64 0, .int .i64 0, .int .i64 0, .int .i64 0, .int .i64 0, .int .u64 0, .int .u16 0, .int .i64 0, .int .i64 z1, .int .u64 0, .int .u64 0, .int .u64 0, .int .i64 0, .int .i64 0] rfl rfl 28 _ K2 (by kernel_rfl) rfl H1 ?_) | (refine wpList_load_row rfl 28 (.tmp 2) rfl w.heap.size rfl 28 _ (0, 0) _ K1 Try.underlying28 rfl (by kernel_rfl) ?_))
  have KR := setRow_heap X1 (w.heap.size + 1) _ #[.int .i64 k, .int .i64 0, .int .i64 0, .int .i64 0, .int .i64 0, .int .i64 0, .int .u64 0, .int .u16 0, .int .i64 0, .int .i64 z1, .int .u64 0, .int .u64 0, .int .u64 0, .int .i64 0, .int .i64 0] 28 (0, 0) K2
  have BE := below_setRow BX (Nat.le_succ _) #[.int .i64 k, .int .i64 0, .int .i64 0, .int .i64 0, .int .i64 0, .int .i64 0, .int .u64 0, .int .u16 0, .int .i64 0, .int .i64 z1, .int .u64 0, .int .u64 0, .int .u64 0, .int .i64 0, .int .i64 0]
  generalize X1.setRow (w.heap.size + 1) #[.int .i64 k, .int .i64 0, .int .i64 0, .int .i64 0, .int .i64 0, .int .i64 0, .int .u64 0, .int .u16 0, .int .i64 0, .int .i64 z1, .int .u64 0, .int .u64 0, .int .u64 0, .int .i64 0, .int .i64 0] = Y at *
  refine bodyPost_ret (v := .agg #[.int .i64 k, .int .i64 0, .int .i64 0, .int .i64 0, .int .i64 0, .int .i64 0, .int .u64 0, .int .u16 0, .int .i64 0, .int .i64 z1, .int .u64 0, .int .u64 0, .int .u64 0, .int .i64 0, .int .i64 0]) ?_ rfl ⟨rfl, BE⟩
  clear K1
  have HL := run_loadVar_row (P := Try.prog) Y (w.heap.size + 1) 28 28 #[.int .i64 k, .int .i64 0, .int .i64 0, .int .i64 0, .int .i64 0, .int .i64 0, .int .u64 0, .int .u16 0, .int .i64 0, .int .i64 z1, .int .u64 0, .int .u64 0, .int .u64 0, .int .i64 0, .int .i64 0] (0, 0) _ KR Try.underlying28 rfl (by kernel_rfl)
  generalize (#[.int .i64 k, .int .i64 0, .int .i64 0, .int .i64 0, .int .i64 0, .int .i64 0, .int .u64 0, .int .u16 0, .int .i64 0, .int .i64 z1, .int .u64 0, .int .u64 0, .int .u64 0, .int .i64 0, .int .i64 0] : Array Value) = CS at *
  simp [results, show (Try.f30).results = #[.cell 4 28] from rfl, asAddr, HL, Act.put]
set_option maxRecDepth 100000 in
set_option maxHeartbeats 4000000 in
theorem taken_fe (k : Int) (A : Option Addr) (n c : Nat) (xs : List Int) (w : World) (hx : xs.length = n) (hn : n ≤ 1000000) (bx : Bytes xs) (hr : Ints .u8 w w.heap.size A xs) (hp : ptsK k = some [.fe]) (hl : n = 9) : Calls Try.prog 30 #[.agg #[.int .i64 k, .int .i64 0, .int .i64 0, .int .i64 0, .int .i64 0, .int .i64 0, .int .u64 0, .int .u16 0, .int .i64 0, .int .i64 0, .int .u64 0, .int .u64 0, .int .u64 0, .int .i64 0, .int .i64 0], .slice A n c] w fun e w' => e = .returned (.agg #[.int .i64 k, .int .i64 0, .int .i64 0, .int .i64 0, .int .i64 0, .int .i64 0, .int .u64 0, .int .u16 0, .int .i64 0, .int .i64 0, .int .u64 0, .int .u64 0, .int .u64 (numAt xs 1 8), .int .i64 0, .int .i64 0]) ∧ Below w.heap.size w w' := by
  subst hl
  have BX : Below w.heap.size w ((w.alloc (.cells #[.int .i64 k, .int .i64 0, .int .i64 0, .int .i64 0, .int .i64 0, .int .i64 0, .int .u64 0, .int .u16 0, .int .i64 0, .int .i64 0, .int .u64 0, .int .u64 0, .int .u64 0, .int .i64 0, .int .i64 0] 28)).alloc (.cells #[.int .i64 0, .int .i64 0, .int .i64 0, .int .i64 0, .int .i64 0, .int .i64 0, .int .u64 0, .int .u16 0, .int .i64 0, .int .i64 0, .int .u64 0, .int .u64 0, .int .u64 0, .int .i64 0, .int .i64 0] 28)) := ((Below.refl _ _).alloc (Nat.le_refl _) _).alloc (by simp) _
  have K1 : Blk ((w.alloc (.cells #[.int .i64 k, .int .i64 0, .int .i64 0, .int .i64 0, .int .i64 0, .int .i64 0, .int .u64 0, .int .u16 0, .int .i64 0, .int .i64 0, .int .u64 0, .int .u64 0, .int .u64 0, .int .i64 0, .int .i64 0] 28)).alloc (.cells #[.int .i64 0, .int .i64 0, .int .i64 0, .int .i64 0, .int .i64 0, .int .i64 0, .int .u64 0, .int .u16 0, .int .i64 0, .int .i64 0, .int .u64 0, .int .u64 0, .int .u64 0, .int .i64 0, .int .i64 0] 28)) w.heap.size 28 #[.int .i64 k, .int .i64 0, .int .i64 0, .int .i64 0, .int .i64 0, .int .i64 0, .int .u64 0, .int .u16 0, .int .i64 0, .int .i64 0, .int .u64 0, .int .u64 0, .int .u64 0, .int .i64 0, .int .i64 0] := (Blk.fresh w 28 #[.int .i64 k, .int .i64 0, .int .i64 0, .int .i64 0, .int .i64 0, .int .i64 0, .int .u64 0, .int .u16 0, .int .i64 0, .int .i64 0, .int .u64 0, .int .u64 0, .int .u64 0, .int .i64 0, .int .i64 0]).alloc _
  have K2 : Blk ((w.alloc (.cells #[.int .i64 k, .int .i64 0, .int .i64 0, .int .i64 0, .int .i64 0, .int .i64 0, .int .u64 0, .int .u16 0, .int .i64 0, .int .i64 0, .int .u64 0, .int .u64 0, .int .u64 0, .int .i64 0, .int .i64 0] 28)).alloc (.cells #[.int .i64 0, .int .i64 0, .int .i64 0, .int .i64 0, .int .i64 0, .int .i64 0, .int .u64 0, .int .u16 0, .int .i64 0, .int .i64 0, .int .u64 0, .int .u64 0, .int .u64 0, .int .i64 0, .int .i64 0] 28)) (w.heap.size + 1) 28 #[.int .i64 0, .int .i64 0, .int .i64 0, .int .i64 0, .int .i64 0, .int .i64 0, .int .u64 0, .int .u16 0, .int .i64 0, .int .i64 0, .int .u64 0, .int .u64 0, .int .u64 0, .int .i64 0, .int .i64 0] := Av.Blk.next
  have HF : Hid (∀ w, Calls Try.prog 20 #[.int .i64 k] w fun e w' => e = .returned (.agg #[.bool true, .bool false, .bool false, .bool false, .bool false, .bool false, .bool false, .bool false, .bool true, .bool false, .bool false]) ∧ Below w.heap.size w w') := Lib.hid fun w => by have := fields_k k w; rw [hp] at this; exact this
  have HNfe : Hid (∀ X, Below w.heap.size w X → Calls Try.prog 51 #[.slice A 9 c, .int .i64 1, .int .i64 8] X fun e w' => e = .returned (.int .u64 (numAt xs 1 8)) ∧ X = w') := Lib.hid fun X b => rnumI A 9 c xs X hx hn bx (Base.later hr b) 1 8 (by decide) (by decide) (by omega)
  obtain ⟨Nfe, eNfe⟩ : ∃ z, numAt xs 1 8 = z := ⟨_, rfl⟩
  rw [eNfe] at HNfe ⊢
  clear eNfe
  clear hp hr bx
  show Calls _ _ #[.agg #[.int .i64 k, .int .i64 0, .int .i64 0, .int .i64 0, .int .i64 0, .int .i64 0, .int .u64 0, .int .u16 0, .int .i64 0, .int .i64 0, .int .u64 0, .int .u64 0, .int .u64 0, .int .i64 0, .int .i64 0], _] _ _
  go_enter Try.func30, Try.ntmps30
  go_upto_region 1 with (fail)
  generalize (w.alloc (.cells #[.int .i64 k, .int .i64 0, .int .i64 0, .int .i64 0, .int .i64 0, .int .i64 0, .int .u64 0, .int .u16 0, .int .i64 0, .int .i64 0, .int .u64 0, .int .u64 0, .int .u64 0, .int .i64 0, .int .i64 0] 28)).alloc (.cells #[.int .i64 0, .int .i64 0, .int .i64 0, .int .i64 0, .int .i64 0, .int .i64 0, .int .u64 0, .int .u16 0, .int .i64 0, .int .i64 0, .int .u64 0, .int .u64 0, .int .u64 0, .int .i64 0, .int .i64 0] 28) = W0 at *
  have k0 := K1.cell 0
  go_upto_region 2 with (go_at_call 20; refine (HF.out _).mono ?_; rintro e w1 ⟨rfl, b1⟩)
  clear k0
  have b9 : Below w1.heap.size w1 (w1.alloc (.cells #[.bool true, .bool false, .bool false, .bool false, .bool false, .bool false, .bool false, .bool false, .bool true, .bool false, .bool false] 53)) := (Below.refl _ _).alloc (Nat.le_refl _) _
  have K3 : Blk (w1.alloc (.cells #[.bool true, .bool false, .bool false, .bool false, .bool false, .bool false, .bool false, .bool false, .bool true, .bool false, .bool false] 53)) w1.heap.size 53 #[.bool true, .bool false, .bool false, .bool false, .bool false, .bool false, .bool false, .bool false, .bool true, .bool false, .bool false] := Blk.fresh w1 53 #[.bool true, .bool false, .bool false, .bool false, .bool false, .bool false, .bool false, .bool false, .bool true, .bool false, .bool false]
  have hl1 := (K1.below b1 K1.lt).lt
  have hl2 := (K2.below b1 K2.lt).lt
  replace K1 := (K1.below b1 K1.lt).below b9 hl1
  replace K2 := (K2.below b1 K2.lt).below b9 hl2
  replace BX := thenB (thenB BX b1) b9
  clear b1 b9
  generalize w1.alloc (.cells #[.bool true, .bool false, .bool false, .bool false, .bool false, .bool false, .bool false, .bool false, .bool true, .bool false, .bool false] 53) = X0 at *
  obtain ⟨g3, e3⟩ : ∃ g, w1.heap.size = g := ⟨_, rfl⟩
  rw [e3] at K3 hl1 hl2
  try simp only [e3]
  clear e3
  have y1 := K3.cell 1
  have y2 := K3.cell 2
  have y3 := K3.cell 3
  have y4 := K3.cell 4
  have y5 := K3.cell 5
  have y6 := K3.cell 6
  have y7 := K3.cell 7
  have y8 := K3.cell 8
  have y9 := K3.cell 9
  have y10 := K3.cell 10
  go_upto_region 22 with (fail)
  clear y1 y2 y3 y4 y5 y6 y7 y8 y9 y10
  go_upto_region 23 with (first | (go_at_call 51; refine (HNfe.out _ BX).mono ?_; rintro e Y0 ⟨rfl, rfl⟩) | (refine Av.wpList_store_cell rfl _ _ _ rfl w.heap.size 12 (.int .u64 Nfe) rfl rfl 28 _ K1 (by show 12 < 15; decide) (by kernel_rfl) rfl ?_; replace K2 := Av.bother (i := 12) K2 (show w.heap.size ≠ w.heap.size + 1 by omega) (.int .u64 Nfe); replace K3 := Av.bother (i := 12) K3 (show w.heap.size ≠ g3 by omega) (.int .u64 Nfe); replace K1 := Av.bset K1 12 (.int .u64 Nfe) rfl; replace BX := BX.setCell (p := ⟨w.heap.size, 12, none⟩) (Nat.le_refl _) (.int .u64 Nfe)))
  generalize X0.setCell ⟨w.heap.size, 12, none⟩ (.int .u64 Nfe) = X1 at *
  have y1 := K3.cell 1
  have y2 := K3.cell 2
  have y3 := K3.cell 3
  have y4 := K3.cell 4
  have y5 := K3.cell 5
  have y6 := K3.cell 6
  have y7 := K3.cell 7
  have y8 := K3.cell 8
  have y9 := K3.cell 9
  have y10 := K3.cell 10
  go_upto_region 27 with (fail)
  clear y1 y2 y3 y4 y5 y6 y7 y8 y9 y10
  have H1 : (#[.int .i64 k, .int .i64 0, .int .i64 0, .int .i64 0, .int .i64 0, .int .i64 0, .int .u64 0, .int .u16 0, .int .i64 0, .int .i64 0, .int .u64 0, .int .u64 0, .int .u64 Nfe, .int .i64 0, .int .i64 0] : Array Value).all (·.oneCell') = true := by rw [← Array.all_toList]; rfl
  go_wp2_with (first | (refine wpList_store_row rfl 28 (.tmp 4) _ rfl (w.heap.size + 1) #[.int .i64 k, .int .i64 0, .int .i64 0, .int .i64 0, .int .i64 0, .int .i64 0, .int .u64 0, .int .u16 0, .int .i64 0, .int .i64 0, .int .u64 0, .int .u64 0, .int .u64 Nfe, .int .i64 0, .int .i64 0] rfl rfl 28 _ K2 (by kernel_rfl) rfl H1 ?_) | (refine wpList_load_row rfl 28 (.tmp 2) rfl w.heap.size rfl 28 _ (0, 0) _ K1 Try.underlying28 rfl (by kernel_rfl) ?_))
  have KR := setRow_heap X1 (w.heap.size + 1) _ #[.int .i64 k, .int .i64 0, .int .i64 0, .int .i64 0, .int .i64 0, .int .i64 0, .int .u64 0, .int .u16 0, .int .i64 0, .int .i64 0, .int .u64 0, .int .u64 0, .int .u64 Nfe, .int .i64 0, .int .i64 0] 28 (0, 0) K2
  have BE := below_setRow BX (Nat.le_succ _) #[.int .i64 k, .int .i64 0, .int .i64 0, .int .i64 0, .int .i64 0, .int .i64 0, .int .u64 0, .int .u16 0, .int .i64 0, .int .i64 0, .int .u64 0, .int .u64 0, .int .u64 Nfe, .int .i64 0, .int .i64 0]
  generalize X1.setRow (w.heap.size + 1) #[.int .i64 k, .int .i64 0, .int .i64 0, .int .i64 0, .int .i64 0, .int .i64 0, .int .u64 0, .int .u16 0, .int .i64 0, .int .i64 0, .int .u64 0, .int .u64 0, .int .u64 Nfe, .int .i64 0, .int .i64 0] = Y at *
  refine bodyPost_ret (v := .agg #[.int .i64 k, .int .i64 0, .int .i64 0, .int .i64 0, .int .i64 0, .int .i64 0, .int .u64 0, .int .u16 0, .int .i64 0, .int .i64 0, .int .u64 0, .int .u64 0, .int .u64 Nfe, .int .i64 0, .int .i64 0]) ?_ rfl ⟨rfl, BE⟩
  clear K1
  have HL := run_loadVar_row (P := Try.prog) Y (w.heap.size + 1) 28 28 #[.int .i64 k, .int .i64 0, .int .i64 0, .int .i64 0, .int .i64 0, .int .i64 0, .int .u64 0, .int .u16 0, .int .i64 0, .int .i64 0, .int .u64 0, .int .u64 0, .int .u64 Nfe, .int .i64 0, .int .i64 0] (0, 0) _ KR Try.underlying28 rfl (by kernel_rfl)
  generalize (#[.int .i64 k, .int .i64 0, .int .i64 0, .int .i64 0, .int .i64 0, .int .i64 0, .int .u64 0, .int .u16 0, .int .i64 0, .int .i64 0, .int .u64 0, .int .u64 0, .int .u64 Nfe, .int .i64 0, .int .i64 0] : Array Value) = CS at *
  simp [results, show (Try.f30).results = #[.cell 4 28] from rfl, asAddr, HL, Act.put]
set_option maxRecDepth 100000 in
set_option maxHeartbeats 4000000 in
theorem taken_vs (k : Int) (A : Option Addr) (n c : Nat) (xs : List Int) (w : World) (hx : xs.length = n) (hn : n ≤ 1000000) (bx : Bytes xs) (hr : Ints .u8 w w.heap.size A xs) (hp : ptsK k = some [.vs]) (hl : n = 2) : Calls Try.prog 30 #[.agg #[.int .i64 k, .int .i64 0, .int .i64 0, .int .i64 0, .int .i64 0, .int .i64 0, .int .u64 0, .int .u16 0, .int .i64 0, .int .i64 0, .int .u64 0, .int .u64 0, .int .u64 0, .int .i64 0, .int .i64 0], .slice A n c] w fun e w' => e = .returned (.agg #[.int .i64 k, .int .i64 0, .int .i64 0, .int .i64 0, .int .i64 0, .int .i64 0, .int .u64 0, .int .u16 0, .int .i64 0, .int .i64 0, .int .u64 0, .int .u64 0, .int .u64 0, .int .i64 (xs.getD 1 0), .int .i64 0]) ∧ Below w.heap.size w w' := by
  subst hl
  have BX : Below w.heap.size w ((w.alloc (.cells #[.int .i64 k, .int .i64 0, .int .i64 0, .int .i64 0, .int .i64 0, .int .i64 0, .int .u64 0, .int .u16 0, .int .i64 0, .int .i64 0, .int .u64 0, .int .u64 0, .int .u64 0, .int .i64 0, .int .i64 0] 28)).alloc (.cells #[.int .i64 0, .int .i64 0, .int .i64 0, .int .i64 0, .int .i64 0, .int .i64 0, .int .u64 0, .int .u16 0, .int .i64 0, .int .i64 0, .int .u64 0, .int .u64 0, .int .u64 0, .int .i64 0, .int .i64 0] 28)) := ((Below.refl _ _).alloc (Nat.le_refl _) _).alloc (by simp) _
  have K1 : Blk ((w.alloc (.cells #[.int .i64 k, .int .i64 0, .int .i64 0, .int .i64 0, .int .i64 0, .int .i64 0, .int .u64 0, .int .u16 0, .int .i64 0, .int .i64 0, .int .u64 0, .int .u64 0, .int .u64 0, .int .i64 0, .int .i64 0] 28)).alloc (.cells #[.int .i64 0, .int .i64 0, .int .i64 0, .int .i64 0, .int .i64 0, .int .i64 0, .int .u64 0, .int .u16 0, .int .i64 0, .int .i64 0, .int .u64 0, .int .u64 0, .int .u64 0, .int .i64 0, .int .i64 0] 28)) w.heap.size 28 #[.int .i64 k, .int .i64 0, .int .i64 0, .int .i64 0, .int .i64 0, .int .i64 0, .int .u64 0, .int .u16 0, .int .i64 0, .int .i64 0, .int .u64 0, .int .u64 0, .int .u64 0, .int .i64 0, .int .i64 0] := (Blk.fresh w 28 #[.int .i64 k, .int .i64 0, .int .i64 0, .int .i64 0, .int .i64 0, .int .i64 0, .int .u64 0, .int .u16 0, .int .i64 0, .int .i64 0, .int .u64 0, .int .u64 0, .int .u64 0, .int .i64 0, .int .i64 0]).alloc _
  have K2 : Blk ((w.alloc (.cells #[.int .i64 k, .int .i64 0, .int .i64 0, .int .i64 0, .int .i64 0, .int .i64 0, .int .u64 0, .int .u16 0, .int .i64 0, .int .i64 0, .int .u64 0, .int .u64 0, .int .u64 0, .int .i64 0, .int .i64 0] 28)).alloc (.cells #[.int .i64 0, .int .i64 0, .int .i64 0, .int .i64 0, .int .i64 0, .int .i64 0, .int .u64 0, .int .u16 0, .int .i64 0, .int .i64 0, .int .u64 0, .int .u64 0, .int .u64 0, .int .i64 0, .int .i64 0] 28)) (w.heap.size + 1) 28 #[.int .i64 0, .int .i64 0, .int .i64 0, .int .i64 0, .int .i64 0, .int .i64 0, .int .u64 0, .int .u16 0, .int .i64 0, .int .i64 0, .int .u64 0, .int .u64 0, .int .u64 0, .int .i64 0, .int .i64 0] := Av.Blk.next
  have HF : Hid (∀ w, Calls Try.prog 20 #[.int .i64 k] w fun e w' => e = .returned (.agg #[.bool true, .bool false, .bool false, .bool false, .bool false, .bool false, .bool false, .bool false, .bool false, .bool true, .bool false]) ∧ Below w.heap.size w w') := Lib.hid fun w => by have := fields_k k w; rw [hp] at this; exact this
  obtain ⟨b, off, rfl, hb, hc⟩ := hr.at_ (i := 1) (by omega)
  have cc1 := hc 1 (by omega)
  have bk1 := bytes_get bx 1
  obtain ⟨z1, hz1⟩ : ∃ z, xs.getD 1 0 = z := ⟨_, rfl⟩
  rw [hz1] at cc1 bk1 ⊢
  have q1 : IntKind.i64.wrap z1 = z1 := w64 (by omega)
  clear hz1
  clear hc
  clear hp hr bx
  show Calls _ _ #[.agg #[.int .i64 k, .int .i64 0, .int .i64 0, .int .i64 0, .int .i64 0, .int .i64 0, .int .u64 0, .int .u16 0, .int .i64 0, .int .i64 0, .int .u64 0, .int .u64 0, .int .u64 0, .int .i64 0, .int .i64 0], _] _ _
  go_enter Try.func30, Try.ntmps30
  go_upto_region 1 with (fail)
  generalize (w.alloc (.cells #[.int .i64 k, .int .i64 0, .int .i64 0, .int .i64 0, .int .i64 0, .int .i64 0, .int .u64 0, .int .u16 0, .int .i64 0, .int .i64 0, .int .u64 0, .int .u64 0, .int .u64 0, .int .i64 0, .int .i64 0] 28)).alloc (.cells #[.int .i64 0, .int .i64 0, .int .i64 0, .int .i64 0, .int .i64 0, .int .i64 0, .int .u64 0, .int .u16 0, .int .i64 0, .int .i64 0, .int .u64 0, .int .u64 0, .int .u64 0, .int .i64 0, .int .i64 0] 28) = W0 at *
  have k0 := K1.cell 0
  go_upto_region 2 with (go_at_call 20; refine (HF.out _).mono ?_; rintro e w1 ⟨rfl, b1⟩)
  clear k0
  have b9 : Below w1.heap.size w1 (w1.alloc (.cells #[.bool true, .bool false, .bool false, .bool false, .bool false, .bool false, .bool false, .bool false, .bool false, .bool true, .bool false] 53)) := (Below.refl _ _).alloc (Nat.le_refl _) _
  have K3 : Blk (w1.alloc (.cells #[.bool true, .bool false, .bool false, .bool false, .bool false, .bool false, .bool false, .bool false, .bool false, .bool true, .bool false] 53)) w1.heap.size 53 #[.bool true, .bool false, .bool false, .bool false, .bool false, .bool false, .bool false, .bool false, .bool false, .bool true, .bool false] := Blk.fresh w1 53 #[.bool true, .bool false, .bool false, .bool false, .bool false, .bool false, .bool false, .bool false, .bool false, .bool true, .bool false]
  have hl1 := (K1.below b1 K1.lt).lt
  have hl2 := (K2.below b1 K2.lt).lt
  replace K1 := (K1.below b1 K1.lt).below b9 hl1
  replace K2 := (K2.below b1 K2.lt).below b9 hl2
  replace BX := thenB (thenB BX b1) b9
  clear b1 b9
  generalize w1.alloc (.cells #[.bool true, .bool false, .bool false, .bool false, .bool false, .bool false, .bool false, .bool false, .bool false, .bool true, .bool false] 53) = X0 at *
  obtain ⟨g3, e3⟩ : ∃ g, w1.heap.size = g := ⟨_, rfl⟩
  rw [e3] at K3 hl1 hl2
  try simp only [e3]
  clear e3
  have y1 := K3.cell 1
  have y2 := K3.cell 2
  have y3 := K3.cell 3
  have y4 := K3.cell 4
  have y5 := K3.cell 5
  have y6 := K3.cell 6
  have y7 := K3.cell 7
  have y8 := K3.cell 8
  have y9 := K3.cell 9
  have y10 := K3.cell 10
  go_upto_region 24 with (fail)
  clear y1 y2 y3 y4 y5 y6 y7 y8 y9 y10
  have f1 := (BX.cell (p := ⟨b, off + 1, none⟩) hb).trans cc1
  go_upto_region 25 with (refine Av.wpList_store_cell rfl _ _ _ rfl w.heap.size 13 (.int .i64 z1) rfl rfl 28 _ K1 (by show 13 < 15; decide) (by kernel_rfl) rfl ?_; replace K2 := Av.bother (i := 13) K2 (show w.heap.size ≠ w.heap.size + 1 by omega) (.int .i64 z1); replace K3 := Av.bother (i := 13) K3 (show w.heap.size ≠ g3 by omega) (.int .i64 z1); replace K1 := Av.bset K1 13 (.int .i64 z1) rfl; replace BX := BX.setCell (p := ⟨w.heap.size, 13, none⟩) (Nat.le_refl _) (.int .i64 z1))
  clear f1
  generalize X0.setCell ⟨w.heap.size, 13, none⟩ (.int .i64 z1) = X1 at *
  have y1 := K3.cell 1
  have y2 := K3.cell 2
  have y3 := K3.cell 3
  have y4 := K3.cell 4
  have y5 := K3.cell 5
  have y6 := K3.cell 6
  have y7 := K3.cell 7
  have y8 := K3.cell 8
  have y9 := K3.cell 9
  have y10 := K3.cell 10
  go_upto_region 27 with (fail)
  clear y1 y2 y3 y4 y5 y6 y7 y8 y9 y10
  have H1 : (#[.int .i64 k, .int .i64 0, .int .i64 0, .int .i64 0, .int .i64 0, .int .i64 0, .int .u64 0, .int .u16 0, .int .i64 0, .int .i64 0, .int .u64 0, .int .u64 0, .int .u64 0, .int .i64 z1, .int .i64 0] : Array Value).all (·.oneCell') = true := by rw [← Array.all_toList]; rfl
  go_wp2_with (first | (refine wpList_store_row rfl 28 (.tmp 4) _ rfl (w.heap.size + 1) #[.int .i64 k, .int .i64 0, .int .i64 0, .int .i64 0, .int .i64 0, .int .i64 0, .int .u64 0, .int .u16 0, .int .i64 0, .int .i64 0, .int .u64 0, .int .u64 0, .int .u64 0, .int .i64 z1, .int .i64 0] rfl rfl 28 _ K2 (by kernel_rfl) rfl H1 ?_) | (refine wpList_load_row rfl 28 (.tmp 2) rfl w.heap.size rfl 28 _ (0, 0) _ K1 Try.underlying28 rfl (by kernel_rfl) ?_))
  have KR := setRow_heap X1 (w.heap.size + 1) _ #[.int .i64 k, .int .i64 0, .int .i64 0, .int .i64 0, .int .i64 0, .int .i64 0, .int .u64 0, .int .u16 0, .int .i64 0, .int .i64 0, .int .u64 0, .int .u64 0, .int .u64 0, .int .i64 z1, .int .i64 0] 28 (0, 0) K2
  have BE := below_setRow BX (Nat.le_succ _) #[.int .i64 k, .int .i64 0, .int .i64 0, .int .i64 0, .int .i64 0, .int .i64 0, .int .u64 0, .int .u16 0, .int .i64 0, .int .i64 0, .int .u64 0, .int .u64 0, .int .u64 0, .int .i64 z1, .int .i64 0]
  generalize X1.setRow (w.heap.size + 1) #[.int .i64 k, .int .i64 0, .int .i64 0, .int .i64 0, .int .i64 0, .int .i64 0, .int .u64 0, .int .u16 0, .int .i64 0, .int .i64 0, .int .u64 0, .int .u64 0, .int .u64 0, .int .i64 z1, .int .i64 0] = Y at *
  refine bodyPost_ret (v := .agg #[.int .i64 k, .int .i64 0, .int .i64 0, .int .i64 0, .int .i64 0, .int .i64 0, .int .u64 0, .int .u16 0, .int .i64 0, .int .i64 0, .int .u64 0, .int .u64 0, .int .u64 0, .int .i64 z1, .int .i64 0]) ?_ rfl ⟨rfl, BE⟩
  clear K1
  have HL := run_loadVar_row (P := Try.prog) Y (w.heap.size + 1) 28 28 #[.int .i64 k, .int .i64 0, .int .i64 0, .int .i64 0, .int .i64 0, .int .i64 0, .int .u64 0, .int .u16 0, .int .i64 0, .int .i64 0, .int .u64 0, .int .u64 0, .int .u64 0, .int .i64 z1, .int .i64 0] (0, 0) _ KR Try.underlying28 rfl (by kernel_rfl)
  generalize (#[.int .i64 k, .int .i64 0, .int .i64 0, .int .i64 0, .int .i64 0, .int .i64 0, .int .u64 0, .int .u16 0, .int .i64 0, .int .i64 0, .int .u64 0, .int .u64 0, .int .u64 0, .int .i64 z1, .int .i64 0] : Array Value) = CS at *
  simp [results, show (Try.f30).results = #[.cell 4 28] from rfl, asAddr, HL, Act.put]
set_option maxRecDepth 100000 in
set_option maxHeartbeats 4000000 in
theorem taken_rs_rj (k : Int) (A : Option Addr) (n c : Nat) (xs : List Int) (w : World) (hx : xs.length = n) (hn : n ≤ 1000000) (bx : Bytes xs) (hr : Ints .u8 w w.heap.size A xs) (hp : ptsK k = some [.rs, .rj]) (hl : n = 3) : Calls Try.prog 30 #[.agg #[.int .i64 k, .int .i64 0, .int .i64 0, .int .i64 0, .int .i64 0, .int .i64 0, .int .u64 0, .int .u16 0, .int .i64 0, .int .i64 0, .int .u64 0, .int .u64 0, .int .u64 0, .int .i64 0, .int .i64 0], .slice A n c] w fun e w' => e = .returned (.agg #[.int .i64 k, .int .i64 0, .int .i64 0, .int .i64 0, .int .i64 0, .int .i64 0, .int .u64 0, .int .u16 0, .int .i64 (xs.getD 1 0), .int .i64 (xs.getD 2 0), .int .u64 0, .int .u64 0, .int .u64 0, .int .i64 0, .int .i64 0]) ∧ Below w.heap.size w w' := by
  subst hl
  have BX : Below w.heap.size w ((w.alloc (.cells #[.int .i64 k, .int .i64 0, .int .i64 0, .int .i64 0, .int .i64 0, .int .i64 0, .int .u64 0, .int .u16 0, .int .i64 0, .int .i64 0, .int .u64 0, .int .u64 0, .int .u64 0, .int .i64 0, .int .i64 0] 28)).alloc (.cells #[.int .i64 0, .int .i64 0, .int .i64 0, .int .i64 0, .int .i64 0, .int .i64 0, .int .u64 0, .int .u16 0, .int .i64 0, .int .i64 0, .int .u64 0, .int .u64 0, .int .u64 0, .int .i64 0, .int .i64 0] 28)) := ((Below.refl _ _).alloc (Nat.le_refl _) _).alloc (by simp) _
  have K1 : Blk ((w.alloc (.cells #[.int .i64 k, .int .i64 0, .int .i64 0, .int .i64 0, .int .i64 0, .int .i64 0, .int .u64 0, .int .u16 0, .int .i64 0, .int .i64 0, .int .u64 0, .int .u64 0, .int .u64 0, .int .i64 0, .int .i64 0] 28)).alloc (.cells #[.int .i64 0, .int .i64 0, .int .i64 0, .int .i64 0, .int .i64 0, .int .i64 0, .int .u64 0, .int .u16 0, .int .i64 0, .int .i64 0, .int .u64 0, .int .u64 0, .int .u64 0, .int .i64 0, .int .i64 0] 28)) w.heap.size 28 #[.int .i64 k, .int .i64 0, .int .i64 0, .int .i64 0, .int .i64 0, .int .i64 0, .int .u64 0, .int .u16 0, .int .i64 0, .int .i64 0, .int .u64 0, .int .u64 0, .int .u64 0, .int .i64 0, .int .i64 0] := (Blk.fresh w 28 #[.int .i64 k, .int .i64 0, .int .i64 0, .int .i64 0, .int .i64 0, .int .i64 0, .int .u64 0, .int .u16 0, .int .i64 0, .int .i64 0, .int .u64 0, .int .u64 0, .int .u64 0, .int .i64 0, .int .i64 0]).alloc _
  have K2 : Blk ((w.alloc (.cells #[.int .i64 k, .int .i64 0, .int .i64 0, .int .i64 0, .int .i64 0, .int .i64 0, .int .u64 0, .int .u16 0, .int .i64 0, .int .i64 0, .int .u64 0, .int .u64 0, .int .u64 0, .int .i64 0, .int .i64 0] 28)).alloc (.cells #[.int .i64 0, .int .i64 0, .int .i64 0, .int .i64 0, .int .i64 0, .int .i64 0, .int .u64 0, .int .u16 0, .int .i64 0, .int .i64 0, .int .u64 0, .int .u64 0, .int .u64 0, .int .i64 0, .int .i64 0] 28)) (w.heap.size + 1) 28 #[.int .i64 0, .int .i64 0, .int .i64 0, .int .i64 0, .int .i64 0, .int .i64 0, .int .u64 0, .int .u16 0, .int .i64 0, .int .i64 0, .int .u64 0, .int .u64 0, .int .u64 0, .int .i64 0, .int .i64 0] := Av.Blk.next
  have HF : Hid (∀ w, Calls Try.prog 20 #[.int .i64 k] w fun e w' => e = .returned (.agg #[.bool true, .bool false, .bool false, .bool false, .bool true, .bool true, .bool false, .bool false, .bool false, .bool false, .bool false]) ∧ Below w.heap.size w w') := Lib.hid fun w => by have := fields_k k w; rw [hp] at this; exact this
  obtain ⟨b, off, rfl, hb, hc⟩ := hr.at_ (i := 1) (by omega)
  have cc1 := hc 1 (by omega)
  have bk1 := bytes_get bx 1
  obtain ⟨z1, hz1⟩ : ∃ z, xs.getD 1 0 = z := ⟨_, rfl⟩
  rw [hz1] at cc1 bk1 ⊢
  have q1 : IntKind.i64.wrap z1 = z1 := w64 (by omega)
  clear hz1
  have cc2 := hc 2 (by omega)
  have bk2 := bytes_get bx 2
  obtain ⟨z2, hz2⟩ : ∃ z, xs.getD 2 0 = z := ⟨_, rfl⟩
  rw [hz2] at cc2 bk2 ⊢
  have q2 : IntKind.i64.wrap z2 = z2 := w64 (by omega)
  clear hz2
  clear hc
  clear hp hr bx
  show Calls _ _ #[.agg #[.int .i64 k, .int .i64 0, .int .i64 0, .int .i64 0, .int .i64 0, .int .i64 0, .int .u64 0, .int .u16 0, .int .i64 0, .int .i64 0, .int .u64 0, .int .u64 0, .int .u64 0, .int .i64 0, .int .i64 0], _] _ _
  go_enter Try.func30, Try.ntmps30
  go_upto_region 1 with (fail)
  generalize (w.alloc (.cells #[.int .i64 k, .int .i64 0, .int .i64 0, .int .i64 0, .int .i64 0, .int .i64 0, .int .u64 0, .int .u16 0, .int .i64 0, .int .i64 0, .int .u64 0, .int .u64 0, .int .u64 0, .int .i64 0, .int .i64 0] 28)).alloc (.cells #[.int .i64 0, .int .i64 0, .int .i64 0, .int .i64 0, .int .i64 0, .int .i64 0, .int .u64 0, .int .u16 0, .int .i64 0, .int .i64 0, .int .u64 0, .int .u64 0, .int .u64 0, .int .i64 0, .int .i64 0] 28) = W0 at *
  have k0 := K1.cell 0
  go_upto_region 2 with (go_at_call 20; refine (HF.out _).mono ?_; rintro e w1 ⟨rfl, b1⟩)
  clear k0
  have b9 : Below w1.heap.size w1 (w1.alloc (.cells #[.bool true, .bool false, .bool false, .bool false, .bool true, .bool true, .bool false, .bool false, .bool false, .bool false, .bool false] 53)) := (Below.refl _ _).alloc (Nat.le_refl _) _
  have K3 : Blk (w1.alloc (.cells #[.bool true, .bool false, .bool false, .bool false, .bool true, .bool true, .bool false, .bool false, .bool false, .bool false, .bool false] 53)) w1.heap.size 53 #[.bool true, .bool false, .bool false, .bool false, .bool true, .bool true, .bool false, .bool false, .bool false, .bool false, .bool false] := Blk.fresh w1 53 #[.bool true, .bool false, .bool false, .bool false, .bool true, .bool true, .bool false, .bool false, .bool false, .bool false, .bool false]
  have hl1 := (K1.below b1 K1.lt).lt
  have hl2 := (K2.below b1 K2.lt).lt
  replace K1 := (K1.below b1 K1.lt).below b9 hl1
  replace K2 := (K2.below b1 K2.lt).below b9 hl2
  replace BX := thenB (thenB BX b1) b9
  clear b1 b9
  generalize w1.alloc (.cells #[.bool true, .bool false, .bool false, .bool false, .bool true, .bool true, .bool false, .bool false, .bool false, .bool false, .bool false] 53) = X0 at *
  obtain ⟨g3, e3⟩ : ∃ g, w1.heap.size = g := ⟨_, rfl⟩
  rw [e3] at K3 hl1 hl2
  try simp only [e3]
  clear e3
  have y1 := K3.cell 1
  have y2 := K3.cell 2
  have y3 := K3.cell 3
  have y4 := K3.cell 4
  have y5 := K3.cell 5
  have y6 := K3.cell 6
  have y7 := K3.cell 7
  have y8 := K3.cell 8
  have y9 := K3.cell 9
  have y10 := K3.cell 10
  go_upto_region 12 with (fail)
  clear y1 y2 y3 y4 y5 y6 y7 y8 y9 y10
  have f1 := (BX.cell (p := ⟨b, off + 1, none⟩) hb).trans cc1
  go_upto_region 13 with (refine Av.wpList_store_cell rfl _ _ _ rfl w.heap.size 8 (.int .i64 z1) rfl rfl 28 _ K1 (by show 8 < 15; decide) (by kernel_rfl) rfl ?_; replace K2 := Av.bother (i := 8) K2 (show w.heap.size ≠ w.heap.size + 1 by omega) (.int .i64 z1); replace K3 := Av.bother (i := 8) K3 (show w.heap.size ≠ g3 by omega) (.int .i64 z1); replace K1 := Av.bset K1 8 (.int .i64 z1) rfl; replace BX := BX.setCell (p := ⟨w.heap.size, 8, none⟩) (Nat.le_refl _) (.int .i64 z1))
  clear f1
  generalize X0.setCell ⟨w.heap.size, 8, none⟩ (.int .i64 z1) = X1 at *
  have y1 := K3.cell 1
  have y2 := K3.cell 2
  have y3 := K3.cell 3
  have y4 := K3.cell 4
  have y5 := K3.cell 5
  have y6 := K3.cell 6
  have y7 := K3.cell 7
  have y8 := K3.cell 8
  have y9 := K3.cell 9
  have y10 := K3.cell 10
  go_upto_region 15 with (fail)
  clear y1 y2 y3 y4 y5 y6 y7 y8 y9 y10
  have f1 := (BX.cell (p := ⟨b, off + 2, none⟩) hb).trans cc2
  go_upto_region 16 with (refine Av.wpList_store_cell rfl _ _ _ rfl w.heap.size 9 (.int .i64 z2) rfl rfl 28 _ K1 (by show 9 < 15; decide) (by kernel_rfl) rfl ?_; replace K2 := Av.bother (i := 9) K2 (show w.heap.size ≠ w.heap.size + 1 by omega) (.int .i64 z2); replace K3 := Av.bother (i := 9) K3 (show w.heap.size ≠ g3 by omega) (.int .i64 z2); replace K1 := Av.bset K1 9 (.int .i64 z2) rfl; replace BX := BX.setCell (p := ⟨w.heap.size, 9, none⟩) (Nat.le_refl _) (.int .i64 z2))
  clear f1
  generalize X1.setCell ⟨w.heap.size, 9, none⟩ (.int .i64 z2) = X2 at *
  have y1 := K3.cell 1
  have y2 := K3.cell 2
  have y3 := K3.cell 3
  have y4 := K3.cell 4
  have y5 := K3.cell 5
  have y6 := K3.cell 6
  have y7 := K3.cell 7
  have y8 := K3.cell 8
  have y9 := K3.cell 9
  have y10 := K3.cell 10
  go_upto_region 27 with (fail)
  clear y1 y2 y3 y4 y5 y6 y7 y8 y9 y10
  have H1 : (#[.int .i64 k, .int .i64 0, .int .i64 0, .int .i64 0, .int .i64 0, .int .i64 0, .int .u64 0, .int .u16 0, .int .i64 z1, .int .i64 z2, .int .u64 0, .int .u64 0, .int .u64 0, .int .i64 0, .int .i64 0] : Array Value).all (·.oneCell') = true := by rw [← Array.all_toList]; rfl
  go_wp2_with (first | (refine wpList_store_row rfl 28 (.tmp 4) _ rfl (w.heap.size + 1) #[.int .i64 k, .int .i64 0, .int .i64 0, .int .i64 0, .int .i64 0, .int .i64 0, .int .u64 0, .int .u16 0, .int .i64 z1, .int .i64 z2, .int .u64 0, .int .u64 0, .int .u64 0, .int .i64 0, .int .i64 0] rfl rfl 28 _ K2 (by kernel_rfl) rfl H1 ?_) | (refine wpList_load_row rfl 28 (.tmp 2) rfl w.heap.size rfl 28 _ (0, 0) _ K1 Try.underlying28 rfl (by kernel_rfl) ?_))
  have KR := setRow_heap X2 (w.heap.size + 1) _ #[.int .i64 k, .int .i64 0, .int .i64 0, .int .i64 0, .int .i64 0, .int .i64 0, .int .u64 0, .int .u16 0, .int .i64 z1, .int .i64 z2, .int .u64 0, .int .u64 0, .int .u64 0, .int .i64 0, .int .i64 0] 28 (0, 0) K2
  have BE := below_setRow BX (Nat.le_succ _) #[.int .i64 k, .int .i64 0, .int .i64 0, .int .i64 0, .int .i64 0, .int .i64 0, .int .u64 0, .int .u16 0, .int .i64 z1, .int .i64 z2, .int .u64 0, .int .u64 0, .int .u64 0, .int .i64 0, .int .i64 0]
  generalize X2.setRow (w.heap.size + 1) #[.int .i64 k, .int .i64 0, .int .i64 0, .int .i64 0, .int .i64 0, .int .i64 0, .int .u64 0, .int .u16 0, .int .i64 z1, .int .i64 z2, .int .u64 0, .int .u64 0, .int .u64 0, .int .i64 0, .int .i64 0] = Y at *
  refine bodyPost_ret (v := .agg #[.int .i64 k, .int .i64 0, .int .i64 0, .int .i64 0, .int .i64 0, .int .i64 0, .int .u64 0, .int .u16 0, .int .i64 z1, .int .i64 z2, .int .u64 0, .int .u64 0, .int .u64 0, .int .i64 0, .int .i64 0]) ?_ rfl ⟨rfl, BE⟩
  clear K1
  have HL := run_loadVar_row (P := Try.prog) Y (w.heap.size + 1) 28 28 #[.int .i64 k, .int .i64 0, .int .i64 0, .int .i64 0, .int .i64 0, .int .i64 0, .int .u64 0, .int .u16 0, .int .i64 z1, .int .i64 z2, .int .u64 0, .int .u64 0, .int .u64 0, .int .i64 0, .int .i64 0] (0, 0) _ KR Try.underlying28 rfl (by kernel_rfl)
  generalize (#[.int .i64 k, .int .i64 0, .int .i64 0, .int .i64 0, .int .i64 0, .int .i64 0, .int .u64 0, .int .u16 0, .int .i64 z1, .int .i64 z2, .int .u64 0, .int .u64 0, .int .u64 0, .int .i64 0, .int .i64 0] : Array Value) = CS at *
  simp [results, show (Try.f30).results = #[.cell 4 28] from rfl, asAddr, HL, Act.put]
set_option maxRecDepth 100000 in
set_option maxHeartbeats 4000000 in
theorem taken_up (k : Int) (A : Option Addr) (n c : Nat) (xs : List Int) (w : World) (hx : xs.length = n) (hn : n ≤ 1000000) (bx : Bytes xs) (hr : Ints .u8 w w.heap.size A xs) (hp : ptsK k = some [.up]) (hl : n = 10) : Calls Try.prog 30 #[.agg #[.int .i64 k, .int .i64 0, .int .i64 0, .int .i64 0, .int .i64 0, .int .i64 0, .int .u64 0, .int .u16 0, .int .i64 0, .int .i64 0, .int .u64 0, .int .u64 0, .int .u64 0, .int .i64 0, .int .i64 0], .slice A n c] w fun e w' => e = .returned (.agg #[.int .i64 k, .int .i64 (numAt xs 1 1), .int .i64 (numAt xs 2 2), .int .i64 (numAt xs 4 2), .int .i64 (numAt xs 6 2), .int .i64 (numAt xs 8 2), .int .u64 0, .int .u16 0, .int .i64 0, .int .i64 0, .int .u64 0, .int .u64 0, .int .u64 0, .int .i64 0, .int .i64 0]) ∧ Below w.heap.size w w' := by
  subst hl
  have BX : Below w.heap.size w ((w.alloc (.cells #[.int .i64 k, .int .i64 0, .int .i64 0, .int .i64 0, .int .i64 0, .int .i64 0, .int .u64 0, .int .u16 0, .int .i64 0, .int .i64 0, .int .u64 0, .int .u64 0, .int .u64 0, .int .i64 0, .int .i64 0] 28)).alloc (.cells #[.int .i64 0, .int .i64 0, .int .i64 0, .int .i64 0, .int .i64 0, .int .i64 0, .int .u64 0, .int .u16 0, .int .i64 0, .int .i64 0, .int .u64 0, .int .u64 0, .int .u64 0, .int .i64 0, .int .i64 0] 28)) := ((Below.refl _ _).alloc (Nat.le_refl _) _).alloc (by simp) _
  have K1 : Blk ((w.alloc (.cells #[.int .i64 k, .int .i64 0, .int .i64 0, .int .i64 0, .int .i64 0, .int .i64 0, .int .u64 0, .int .u16 0, .int .i64 0, .int .i64 0, .int .u64 0, .int .u64 0, .int .u64 0, .int .i64 0, .int .i64 0] 28)).alloc (.cells #[.int .i64 0, .int .i64 0, .int .i64 0, .int .i64 0, .int .i64 0, .int .i64 0, .int .u64 0, .int .u16 0, .int .i64 0, .int .i64 0, .int .u64 0, .int .u64 0, .int .u64 0, .int .i64 0, .int .i64 0] 28)) w.heap.size 28 #[.int .i64 k, .int .i64 0, .int .i64 0, .int .i64 0, .int .i64 0, .int .i64 0, .int .u64 0, .int .u16 0, .int .i64 0, .int .i64 0, .int .u64 0, .int .u64 0, .int .u64 0, .int .i64 0, .int .i64 0] := (Blk.fresh w 28 #[.int .i64 k, .int .i64 0, .int .i64 0, .int .i64 0, .int .i64 0, .int .i64 0, .int .u64 0, .int .u16 0, .int .i64 0, .int .i64 0, .int .u64 0, .int .u64 0, .int .u64 0, .int .i64 0, .int .i64 0]).alloc _
  have K2 : Blk ((w.alloc (.cells #[.int .i64 k, .int .i64 0, .int .i64 0, .int .i64 0, .int .i64 0, .int .i64 0, .int .u64 0, .int .u16 0, .int .i64 0, .int .i64 0, .int .u64 0, .int .u64 0, .int .u64 0, .int .i64 0, .int .i64 0] 28)).alloc (.cells #[.int .i64 0, .int .i64 0, .int .i64 0, .int .i64 0, .int .i64 0, .int .i64 0, .int .u64 0, .int .u16 0, .int .i64 0, .int .i64 0, .int .u64 0, .int .u64 0, .int .u64 0, .int .i64 0, .int .i64 0] 28)) (w.heap.size + 1) 28 #[.int .i64 0, .int .i64 0, .int .i64 0, .int .i64 0, .int .i64 0, .int .i64 0, .int .u64 0, .int .u16 0, .int .i64 0, .int .i64 0, .int .u64 0, .int .u64 0, .int .u64 0, .int .i64 0, .int .i64 0] := Av.Blk.next
  have HF : Hid (∀ w, Calls Try.prog 20 #[.int .i64 k] w fun e w' => e = .returned (.agg #[.bool true, .bool true, .bool false, .bool false, .bool false, .bool false, .bool false, .bool false, .bool false, .bool false, .bool false]) ∧ Below w.heap.size w w') := Lib.hid fun w => by have := fields_k k w; rw [hp] at this; exact this
  have HTU : Hid (∀ X, Below w.heap.size w X → Calls Try.prog 50 #[.slice A 10 c, .int .i64 1] X fun e w' => e = .returned (.agg #[.int .i64 (numAt xs 1 1), .int .i64 (numAt xs 2 2), .int .i64 (numAt xs 4 2), .int .i64 (numAt xs 6 2), .int .i64 (numAt xs 8 2)]) ∧ Below X.heap.size X w') := Lib.hid fun X b => takeup_any A 10 c xs X hx hn bx (Base.later hr b) (by omega)
  obtain ⟨U0, eU0⟩ : ∃ z, numAt xs 1 1 = z := ⟨_, rfl⟩
  rw [eU0] at HTU ⊢
  clear eU0
  obtain ⟨U1, eU1⟩ : ∃ z, numAt xs 2 2 = z := ⟨_, rfl⟩
  rw [eU1] at HTU ⊢
  clear eU1
  obtain ⟨U2, eU2⟩ : ∃ z, numAt xs 4 2 = z := ⟨_, rfl⟩
  rw [eU2] at HTU ⊢
  clear eU2
  obtain ⟨U3, eU3⟩ : ∃ z, numAt xs 6 2 = z := ⟨_, rfl⟩
  rw [eU3] at HTU ⊢
  clear eU3
  obtain ⟨U4, eU4⟩ : ∃ z, numAt xs 8 2 = z := ⟨_, rfl⟩
  rw [eU4] at HTU ⊢
  clear eU4
  clear hp hr bx
  show Calls _ _ #[.agg #[.int .i64 k, .int .i64 0, .int .i64 0, .int .i64 0, .int .i64 0, .int .i64 0, .int .u64 0, .int .u16 0, .int .i64 0, .int .i64 0, .int .u64 0, .int .u64 0, .int .u64 0, .int .i64 0, .int .i64 0], _] _ _
  go_enter Try.func30, Try.ntmps30
  go_upto_region 1 with (fail)
  generalize (w.alloc (.cells #[.int .i64 k, .int .i64 0, .int .i64 0, .int .i64 0, .int .i64 0, .int .i64 0, .int .u64 0, .int .u16 0, .int .i64 0, .int .i64 0, .int .u64 0, .int .u64 0, .int .u64 0, .int .i64 0, .int .i64 0] 28)).alloc (.cells #[.int .i64 0, .int .i64 0, .int .i64 0, .int .i64 0, .int .i64 0, .int .i64 0, .int .u64 0, .int .u16 0, .int .i64 0, .int .i64 0, .int .u64 0, .int .u64 0, .int .u64 0, .int .i64 0, .int .i64 0] 28) = W0 at *
  have k0 := K1.cell 0
  go_upto_region 2 with (go_at_call 20; refine (HF.out _).mono ?_; rintro e w1 ⟨rfl, b1⟩)
  clear k0
  have b9 : Below w1.heap.size w1 (w1.alloc (.cells #[.bool true, .bool true, .bool false, .bool false, .bool false, .bool false, .bool false, .bool false, .bool false, .bool false, .bool false] 53)) := (Below.refl _ _).alloc (Nat.le_refl _) _
  have K3 : Blk (w1.alloc (.cells #[.bool true, .bool true, .bool false, .bool false, .bool false, .bool false, .bool false, .bool false, .bool false, .bool false, .bool false] 53)) w1.heap.size 53 #[.bool true, .bool true, .bool false, .bool false, .bool false, .bool false, .bool false, .bool false, .bool false, .bool false, .bool false] := Blk.fresh w1 53 #[.bool true, .bool true, .bool false, .bool false, .bool false, .bool false, .bool false, .bool false, .bool false, .bool false, .bool false]
  have hl1 := (K1.below b1 K1.lt).lt
  have hl2 := (K2.below b1 K2.lt).lt
  replace K1 := (K1.below b1 K1.lt).below b9 hl1
  replace K2 := (K2.below b1 K2.lt).below b9 hl2
  replace BX := thenB (thenB BX b1) b9
  clear b1 b9
  generalize w1.alloc (.cells #[.bool true, .bool true, .bool false, .bool false, .bool false, .bool false, .bool false, .bool false, .bool false, .bool false, .bool false] 53) = X0 at *
  obtain ⟨g3, e3⟩ : ∃ g, w1.heap.size = g := ⟨_, rfl⟩
  rw [e3] at K3 hl1 hl2
  try simp only [e3]
  clear e3
  have y1 := K3.cell 1
  have y2 := K3.cell 2
  have y3 := K3.cell 3
  have y4 := K3.cell 4
  have y5 := K3.cell 5
  have y6 := K3.cell 6
  have y7 := K3.cell 7
  have y8 := K3.cell 8
  have y9 := K3.cell 9
  have y10 := K3.cell 10
  go_upto_region 4 with (fail)
  clear y1 y2 y3 y4 y5 y6 y7 y8 y9 y10
  have c11 := K1.cell 1
  have c12 := K1.cell 2
  have c13 := K1.cell 3
  have c14 := K1.cell 4
  have c15 := K1.cell 5
  go_upto_region 5 with (go_at_call 50; refine (HTU.out _ BX).mono ?_; rintro e Y0 ⟨rfl, b1⟩; replace K1 := K1.below b1 K1.lt; replace K2 := K2.below b1 K2.lt; replace K3 := K3.below b1 K3.lt; replace BX := thenB BX b1; clear b1 c11 c12 c13 c14 c15; have c11 := K1.cell 1; have c12 := K1.cell 2; have c13 := K1.cell 3; have c14 := K1.cell 4; have c15 := K1.cell 5; have f11 := Av.bfrz K1 1; have f12 := Av.bfrz K1 2; have f13 := Av.bfrz K1 3; have f14 := Av.bfrz K1 4; have f15 := Av.bfrz K1 5)
  clear c11 f11 c12 f12 c13 f13 c14 f14 c15 f15
  replace K2 := Av.bother (i := 1) K2 (show w.heap.size ≠ w.heap.size + 1 by omega) (.int .i64 U0)
  replace K3 := Av.bother (i := 1) K3 (show w.heap.size ≠ g3 by omega) (.int .i64 U0)
  replace K1 := Av.bset K1 1 (.int .i64 U0) rfl
  replace BX := BX.setCell (p := ⟨w.heap.size, 1, none⟩) (Nat.le_refl _) (.int .i64 U0)
  replace K2 := Av.bother (i := 2) K2 (show w.heap.size ≠ w.heap.size + 1 by omega) (.int .i64 U1)
  replace K3 := Av.bother (i := 2) K3 (show w.heap.size ≠ g3 by omega) (.int .i64 U1)
  replace K1 := Av.bset K1 2 (.int .i64 U1) rfl
  replace BX := BX.setCell (p := ⟨w.heap.size, 2, none⟩) (Nat.le_refl _) (.int .i64 U1)
  replace K2 := Av.bother (i := 3) K2 (show w.heap.size ≠ w.heap.size + 1 by omega) (.int .i64 U2)
  replace K3 := Av.bother (i := 3) K3 (show w.heap.size ≠ g3 by omega) (.int .i64 U2)
  replace K1 := Av.bset K1 3 (.int .i64 U2) rfl
  replace BX := BX.setCell (p := ⟨w.heap.size, 3, none⟩) (Nat.le_refl _) (.int .i64 U2)
  replace K2 := Av.bother (i := 4) K2 (show w.heap.size ≠ w.heap.size + 1 by omega) (.int .i64 U3)
  replace K3 := Av.bother (i := 4) K3 (show w.heap.size ≠ g3 by omega) (.int .i64 U3)
  replace K1 := Av.bset K1 4 (.int .i64 U3) rfl
  replace BX := BX.setCell (p := ⟨w.heap.size, 4, none⟩) (Nat.le_refl _) (.int .i64 U3)
  replace K2 := Av.bother (i := 5) K2 (show w.heap.size ≠ w.heap.size + 1 by omega) (.int .i64 U4)
  replace K3 := Av.bother (i := 5) K3 (show w.heap.size ≠ g3 by omega) (.int .i64 U4)
  replace K1 := Av.bset K1 5 (.int .i64 U4) rfl
  replace BX := BX.setCell (p := ⟨w.heap.size, 5, none⟩) (Nat.le_refl _) (.int .i64 U4)
  generalize ((((Y0.setCell ⟨w.heap.size, 1, none⟩ (.int .i64 U0)).setCell ⟨w.heap.size, 2, none⟩ (.int .i64 U1)).setCell ⟨w.heap.size, 3, none⟩ (.int .i64 U2)).setCell ⟨w.heap.size, 4, none⟩ (.int .i64 U3)).setCell ⟨w.heap.size, 5, none⟩ (.int .i64 U4) = X1 at *
  have y1 := K3.cell 1
  have y2 := K3.cell 2
  have y3 := K3.cell 3
  have y4 := K3.cell 4
  have y5 := K3.cell 5
  have y6 := K3.cell 6
  have y7 := K3.cell 7
  have y8 := K3.cell 8
  have y9 := K3.cell 9
  have y10 := K3.cell 10
  go_upto_region 27 with (fail)
  clear y1 y2 y3 y4 y5 y6 y7 y8 y9 y10
  have H1 : (#[.int .i64 k, .int .i64 U0, .int .i64 U1, .int .i64 U2, .int .i64 U3, .int .i64 U4, .int .u64 0, .int .u16 0, .int .i64 0, .int .i64 0, .int .u64 0, .int .u64 0, .int .u64 0, .int .i64 0, .int .i64 0] : Array Value).all (·.oneCell') = true := by rw [← Array.all_toList]; rfl
  go_wp2_with (first | (refine wpList_store_row rfl 28 (.tmp 4) _ rfl (w.heap.size + 1) #[.int .i64 k, .int .i64 U0, .int .i64 U1, .int .i64 U2, .int .i64 U3, .int .i64 U4, .int .u64 0, .int .u16 0, .int .i64 0, .int .i64 0, .int .u64 0, .int .u64 0, .int .u64 0, .int .i64 0, .int .i64 0] rfl rfl 28 _ K2 (by kernel_rfl) rfl H1 ?_) | (refine wpList_load_row rfl 28 (.tmp 2) rfl w.heap.size rfl 28 _ (0, 0) _ K1 Try.underlying28 rfl (by kernel_rfl) ?_))
  have KR := setRow_heap X1 (w.heap.size + 1) _ #[.int .i64 k, .int .i64 U0, .int .i64 U1, .int .i64 U2, .int .i64 U3, .int .i64 U4, .int .u64 0, .int .u16 0, .int .i64 0, .int .i64 0, .int .u64 0, .int .u64 0, .int .u64 0, .int .i64 0, .int .i64 0] 28 (0, 0) K2
  have BE := below_setRow BX (Nat.le_succ _) #[.int .i64 k, .int .i64 U0, .int .i64 U1, .int .i64 U2, .int .i64 U3, .int .i64 U4, .int .u64 0, .int .u16 0, .int .i64 0, .int .i64 0, .int .u64 0, .int .u64 0, .int .u64 0, .int .i64 0, .int .i64 0]
  generalize X1.setRow (w.heap.size + 1) #[.int .i64 k, .int .i64 U0, .int .i64 U1, .int .i64 U2, .int .i64 U3, .int .i64 U4, .int .u64 0, .int .u16 0, .int .i64 0, .int .i64 0, .int .u64 0, .int .u64 0, .int .u64 0, .int .i64 0, .int .i64 0] = Y at *
  refine bodyPost_ret (v := .agg #[.int .i64 k, .int .i64 U0, .int .i64 U1, .int .i64 U2, .int .i64 U3, .int .i64 U4, .int .u64 0, .int .u16 0, .int .i64 0, .int .i64 0, .int .u64 0, .int .u64 0, .int .u64 0, .int .i64 0, .int .i64 0]) ?_ rfl ⟨rfl, BE⟩
  clear K1
  have HL := run_loadVar_row (P := Try.prog) Y (w.heap.size + 1) 28 28 #[.int .i64 k, .int .i64 U0, .int .i64 U1, .int .i64 U2, .int .i64 U3, .int .i64 U4, .int .u64 0, .int .u16 0, .int .i64 0, .int .i64 0, .int .u64 0, .int .u64 0, .int .u64 0, .int .i64 0, .int .i64 0] (0, 0) _ KR Try.underlying28 rfl (by kernel_rfl)
  generalize (#[.int .i64 k, .int .i64 U0, .int .i64 U1, .int .i64 U2, .int .i64 U3, .int .i64 U4, .int .u64 0, .int .u16 0, .int .i64 0, .int .i64 0, .int .u64 0, .int .u64 0, .int .u64 0, .int .i64 0, .int .i64 0] : Array Value) = CS at *
  simp [results, show (Try.f30).results = #[.cell 4 28] from rfl, asAddr, HL, Act.put]
set_option maxRecDepth 100000 in
set_option maxHeartbeats 4000000 in
theorem taken_ln (k : Int) (A : Option Addr) (n c : Nat) (xs : List Int) (w : World) (hx : xs.length = n) (hn : n ≤ 1000000) (bx : Bytes xs) (hr : Ints .u8 w w.heap.size A xs) (hp : ptsK k = some [.ln]) (hl : n = 2) : Calls Try.prog 30 #[.agg #[.int .i64 k, .int .i64 0, .int .i64 0, .int .i64 0, .int .i64 0, .int .i64 0, .int .u64 0, .int .u16 0, .int .i64 0, .int .i64 0, .int .u64 0, .int .u64 0, .int .u64 0, .int .i64 0, .int .i64 0], .slice A n c] w fun e w' => e = .returned (.agg #[.int .i64 k, .int .i64 0, .int .i64 0, .int .i64 0, .int .i64 0, .int .i64 0, .int .u64 0, .int .u16 0, .int .i64 0, .int .i64 0, .int .u64 0, .int .u64 0, .int .u64 0, .int .i64 0, .int .i64 (xs.getD 1 0)]) ∧ Below w.heap.size w w' := by
  subst hl
  have BX : Below w.heap.size w ((w.alloc (.cells #[.int .i64 k, .int .i64 0, .int .i64 0, .int .i64 0, .int .i64 0, .int .i64 0, .int .u64 0, .int .u16 0, .int .i64 0, .int .i64 0, .int .u64 0, .int .u64 0, .int .u64 0, .int .i64 0, .int .i64 0] 28)).alloc (.cells #[.int .i64 0, .int .i64 0, .int .i64 0, .int .i64 0, .int .i64 0, .int .i64 0, .int .u64 0, .int .u16 0, .int .i64 0, .int .i64 0, .int .u64 0, .int .u64 0, .int .u64 0, .int .i64 0, .int .i64 0] 28)) := ((Below.refl _ _).alloc (Nat.le_refl _) _).alloc (by simp) _
  have K1 : Blk ((w.alloc (.cells #[.int .i64 k, .int .i64 0, .int .i64 0, .int .i64 0, .int .i64 0, .int .i64 0, .int .u64 0, .int .u16 0, .int .i64 0, .int .i64 0, .int .u64 0, .int .u64 0, .int .u64 0, .int .i64 0, .int .i64 0] 28)).alloc (.cells #[.int .i64 0, .int .i64 0, .int .i64 0, .int .i64 0, .int .i64 0, .int .i64 0, .int .u64 0, .int .u16 0, .int .i64 0, .int .i64 0, .int .u64 0, .int .u64 0, .int .u64 0, .int .i64 0, .int .i64 0] 28)) w.heap.size 28 #[.int .i64 k, .int .i64 0, .int .i64 0, .int .i64 0, .int .i64 0, .int .i64 0, .int .u64 0, .int .u16 0, .int .i64 0, .int .i64 0, .int .u64 0, .int .u64 0, .int .u64 0, .int .i64 0, .int .i64 0] := (Blk.fresh w 28 #[.int .i64 k, .int .i64 0, .int .i64 0, .int .i64 0, .int .i64 0, .int .i64 0, .int .u64 0, .int .u16 0, .int .i64 0, .int .i64 0, .int .u64 0, .int .u64 0, .int .u64 0, .int .i64 0, .int .i64 0]).alloc _
  have K2 : Blk ((w.alloc (.cells #[.int .i64 k, .int .i64 0, .int .i64 0, .int .i64 0, .int .i64 0, .int .i64 0, .int .u64 0, .int .u16 0, .int .i64 0, .int .i64 0, .int .u64 0, .int .u64 0, .int .u64 0, .int .i64 0, .int .i64 0] 28)).alloc (.cells #[.int .i64 0, .int .i64 0, .int .i64 0, .int .i64 0, .int .i64 0, .int .i64 0, .int .u64 0, .int .u16 0, .int .i64 0, .int .i64 0, .int .u64 0, .int .u64 0, .int .u64 0, .int .i64 0, .int .i64 0] 28)) (w.heap.size + 1) 28 #[.int .i64 0, .int .i64 0, .int .i64 0, .int .i64 0, .int .i64 0, .int .i64 0, .int .u64 0, .int .u16 0, .int .i64 0, .int .i64 0, .int .u64 0, .int .u64 0, .int .u64 0, .int .i64 0, .int .i64 0] := Av.Blk.next
  have HF : Hid (∀ w, Calls Try.prog 20 #[.int .i64 k] w fun e w' => e = .returned (.agg #[.bool true, .bool false, .bool false, .bool false, .bool false, .bool false, .bool false, .bool false, .bool false, .bool false, .bool true]) ∧ Below w.heap.size w w') := Lib.hid fun w => by have := fields_k k w; rw [hp] at this; exact this
  obtain ⟨b, off, rfl, hb, hc⟩ := hr.at_ (i := 1) (by omega)
  have cc1 := hc 1 (by omega)
  have bk1 := bytes_get bx 1
  obtain ⟨z1, hz1⟩ : ∃ z, xs.getD 1 0 = z := ⟨_, rfl⟩
  rw [hz1] at cc1 bk1 ⊢
  have q1 : IntKind.i64.wrap z1 = z1 := w64 (by omega)
  clear hz1
  clear hc
  clear hp hr bx
  show Calls _ _ #[.agg #[.int .i64 k, .int .i64 0, .int .i64 0, .int .i64 0, .int .i64 0, .int .i64 0, .int .u64 0, .int .u16 0, .int .i64 0, .int .i64 0, .int .u64 0, .int .u64 0, .int .u64 0, .int .i64 0, .int .i64 0], _] _ _
  go_enter Try.func30, Try.ntmps30
  go_upto_region 1 with (fail)
  generalize (w.alloc (.cells #[.int .i64 k, .int .i64 0, .int .i64 0, .int .i64 0, .int .i64 0, .int .i64 0, .int .u64 0, .int .u16 0, .int .i64 0, .int .i64 0, .int .u64 0, .int .u64 0, .int .u64 0, .int .i64 0, .int .i64 0] 28)).alloc (.cells #[.int .i64 0, .int .i64 0, .int .i64 0, .int .i64 0, .int .i64 0, .int .i64 0, .int .u64 0, .int .u16 0, .int .i64 0, .int .i64 0, .int .u64 0, .int .u64 0, .int .u64 0, .int .i64 0, .int .i64 0] 28) = W0 at *
  have k0 := K1.cell 0
  go_upto_region 2 with (go_at_call 20; refine (HF.out _).mono ?_; rintro e w1 ⟨rfl, b1⟩)
  clear k0
  have b9 : Below w1.heap.size w1 (w1.alloc (.cells #[.bool true, .bool false, .bool false, .bool false, .bool false, .bool false, .bool false, .bool false, .bool false, .bool false, .bool true] 53)) := (Below.refl _ _).alloc (Nat.le_refl _) _
  have K3 : Blk (w1.alloc (.cells #[.bool true, .bool false, .bool false, .bool false, .bool false, .bool false, .bool false, .bool false, .bool false, .bool false, .bool true] 53)) w1.heap.size 53 #[.bool true, .bool false, .bool false, .bool false, .bool false, .bool false, .bool false, .bool false, .bool false, .bool false, .bool true] := Blk.fresh w1 53 #[.bool true, .bool false, .bool false, .bool false, .bool false, .bool false, .bool false, .bool false, .bool false, .bool false, .bool true]
  have hl1 := (K1.below b1 K1.lt).lt
  have hl2 := (K2.below b1 K2.lt).lt
  replace K1 := (K1.below b1 K1.lt).below b9 hl1
  replace K2 := (K2.below b1 K2.lt).below b9 hl2
  replace BX := thenB (thenB BX b1) b9
  clear b1 b9
  generalize w1.alloc (.cells #[.bool true, .bool false, .bool false, .bool false, .bool false, .bool false, .bool false, .bool false, .bool false, .bool false, .bool true] 53) = X0 at *
  obtain ⟨g3, e3⟩ : ∃ g, w1.heap.size = g := ⟨_, rfl⟩
  rw [e3] at K3 hl1 hl2
  try simp only [e3]
  clear e3
  have y1 := K3.cell 1
  have y2 := K3.cell 2
  have y3 := K3.cell 3
  have y4 := K3.cell 4
  have y5 := K3.cell 5
  have y6 := K3.cell 6
  have y7 := K3.cell 7
  have y8 := K3.cell 8
  have y9 := K3.cell 9
  have y10 := K3.cell 10
  go_upto_region 26 with (fail)
  clear y1 y2 y3 y4 y5 y6 y7 y8 y9 y10
  have f1 := (BX.cell (p := ⟨b, off + 1, none⟩) hb).trans cc1
  go_upto_region 27 with (refine Av.wpList_store_cell rfl _ _ _ rfl w.heap.size 14 (.int .i64 z1) rfl rfl 28 _ K1 (by show 14 < 15; decide) (by kernel_rfl) rfl ?_; replace K2 := Av.bother (i := 14) K2 (show w.heap.size ≠ w.heap.size + 1 by omega) (.int .i64 z1); replace K3 := Av.bother (i := 14) K3 (show w.heap.size ≠ g3 by omega) (.int .i64 z1); replace K1 := Av.bset K1 14 (.int .i64 z1) rfl; replace BX := BX.setCell (p := ⟨w.heap.size, 14, none⟩) (Nat.le_refl _) (.int .i64 z1))
  clear f1
  generalize X0.setCell ⟨w.heap.size, 14, none⟩ (.int .i64 z1) = X1 at *
  have y1 := K3.cell 1
  have y2 := K3.cell 2
  have y3 := K3.cell 3
  have y4 := K3.cell 4
  have y5 := K3.cell 5
  have y6 := K3.cell 6
  have y7 := K3.cell 7
  have y8 := K3.cell 8
  have y9 := K3.cell 9
  have y10 := K3.cell 10
  go_upto_region 27 with (fail)
  clear y1 y2 y3 y4 y5 y6 y7 y8 y9 y10
  have H1 : (#[.int .i64 k, .int .i64 0, .int .i64 0, .int .i64 0, .int .i64 0, .int .i64 0, .int .u64 0, .int .u16 0, .int .i64 0, .int .i64 0, .int .u64 0, .int .u64 0, .int .u64 0, .int .i64 0, .int .i64 z1] : Array Value).all (·.oneCell') = true := by rw [← Array.all_toList]; rfl
  go_wp2_with (first | (refine wpList_store_row rfl 28 (.tmp 4) _ rfl (w.heap.size + 1) #[.int .i64 k, .int .i64 0, .int .i64 0, .int .i64 0, .int .i64 0, .int .i64 0, .int .u64 0, .int .u16 0, .int .i64 0, .int .i64 0, .int .u64 0, .int .u64 0, .int .u64 0, .int .i64 0, .int .i64 z1] rfl rfl 28 _ K2 (by kernel_rfl) rfl H1 ?_) | (refine wpList_load_row rfl 28 (.tmp 2) rfl w.heap.size rfl 28 _ (0, 0) _ K1 Try.underlying28 rfl (by kernel_rfl) ?_))
  have KR := setRow_heap X1 (w.heap.size + 1) _ #[.int .i64 k, .int .i64 0, .int .i64 0, .int .i64 0, .int .i64 0, .int .i64 0, .int .u64 0, .int .u16 0, .int .i64 0, .int .i64 0, .int .u64 0, .int .u64 0, .int .u64 0, .int .i64 0, .int .i64 z1] 28 (0, 0) K2
  have BE := below_setRow BX (Nat.le_succ _) #[.int .i64 k, .int .i64 0, .int .i64 0, .int .i64 0, .int .i64 0, .int .i64 0, .int .u64 0, .int .u16 0, .int .i64 0, .int .i64 0, .int .u64 0, .int .u64 0, .int .u64 0, .int .i64 0, .int .i64 z1]
  generalize X1.setRow (w.heap.size + 1) #[.int .i64 k, .int .i64 0, .int .i64 0, .int .i64 0, .int .i64 0, .int .i64 0, .int .u64 0, .int .u16 0, .int .i64 0, .int .i64 0, .int .u64 0, .int .u64 0, .int .u64 0, .int .i64 0, .int .i64 z1] = Y at *
  refine bodyPost_ret (v := .agg #[.int .i64 k, .int .i64 0, .int .i64 0, .int .i64 0, .int .i64 0, .int .i64 0, .int .u64 0, .int .u16 0, .int .i64 0, .int .i64 0, .int .u64 0, .int .u64 0, .int .u64 0, .int .i64 0, .int .i64 z1]) ?_ rfl ⟨rfl, BE⟩
  clear K1
  have HL := run_loadVar_row (P := Try.prog) Y (w.heap.size + 1) 28 28 #[.int .i64 k, .int .i64 0, .int .i64 0, .int .i64 0, .int .i64 0, .int .i64 0, .int .u64 0, .int .u16 0, .int .i64 0, .int .i64 0, .int .u64 0, .int .u64 0, .int .u64 0, .int .i64 0, .int .i64 z1] (0, 0) _ KR Try.underlying28 rfl (by kernel_rfl)
  generalize (#[.int .i64 k, .int .i64 0, .int .i64 0, .int .i64 0, .int .i64 0, .int .i64 0, .int .u64 0, .int .u16 0, .int .i64 0, .int .i64 0, .int .u64 0, .int .u64 0, .int .u64 0, .int .i64 0, .int .i64 z1] : Array Value) = CS at *
  simp [results, show (Try.f30).results = #[.cell 4 28] from rfl, asAddr, HL, Act.put]
end Go.Proofs.Ytiopeghbpnjcgaa.Cp

/- Control PDUs: what bytes are decoded to: plain mathematics. -/
set_option linter.unusedVariables false
set_option linter.unusedSimpArgs false
namespace Go.Proofs.Ytiopeghbpnjcgaa.Cp
open Go.RowKit Mem Oct Rw Av
theorem szP_ok (p : Pt) : okZ (szP p) = true := by cases p <;> decide
theorem szP_pos (p : Pt) : 0 ≤ sumZ (szP p) := by cases p <;> decide
def tot (ps : List Pt) : Int := (ps.map fun p => sumZ (szP p)).sum
theorem take_ok {b : List Int} {p : Pt} (h : sumZ (szP p) ≤ (b.length : Int)) : takeR b (szP p) = (numsL b (szP p), b.drop (sumZ (szP p)).toNat, 0) := by
  unfold takeR
  rw [if_pos (szP_ok p), if_neg (by omega)]
theorem decP_short : ∀ (ps : List Pt) (c : Ct) (b : List Int), (b.length : Int) < tot ps → (decP ps c b).2.2 = 3
  | [], c, b, h => by simp [tot] at h; omega
  | p :: r, c, b, h => by
    have hp := szP_pos p
    by_cases h1 : (b.length : Int) < sumZ (szP p)
    · have ht : takeR b (szP p) = ([], [], 3) := by unfold takeR; rw [if_pos (szP_ok p), if_pos h1]
      unfold decP
      rw [ht]
      rfl
    · unfold decP
      rw [take_ok (by omega)]
      simp only [if_true]
      exact decP_short r _ _ (by simp only [tot, List.map_cons, List.sum_cons] at h ⊢; rw [List.length_drop]; omega)
theorem tot_pos : ∀ ps : List Pt, 0 ≤ tot ps
  | [] => by simp [tot]
  | p :: r => by have := tot_pos r; have := szP_pos p; simp only [tot, List.map_cons, List.sum_cons] at *; omega
theorem decP_long : ∀ (ps : List Pt) (c : Ct) (b : List Int), tot ps ≤ (b.length : Int) → (decP ps c b).2.2 = 0 ∧ (decP ps c b).2.1 = b.drop (tot ps).toNat
  | [], c, b, h => by simp [tot, decP]
  | p :: r, c, b, h => by
    have hp := szP_pos p
    have hr := tot_pos r
    have ht : tot (p :: r) = sumZ (szP p) + tot r := by simp only [tot, List.map_cons, List.sum_cons]
    rw [ht] at h ⊢
    unfold decP
    rw [take_ok (by omega)]
    simp only [if_true]
    obtain ⟨h1, h2⟩ := decP_long r (setP p c (numsL b (szP p))) (b.drop (sumZ (szP p)).toNat) (by rw [List.length_drop]; omega)
    refine ⟨h1, ?_⟩
    rw [h2, List.drop_drop]
    congr 1
    omega
theorem getD_take1 (b : List Int) (h : 1 ≤ b.length) : valL (b.take 1) = b.getD 0 0 := by
  cases b with
  | nil => simp at h
  | cons x r => simp [valL]
theorem at_cons (k : Int) (b : List Int) (o z : Nat) : numAt (k :: b) ((o + 1 : Nat) : Int) (z : Int) = valL ((b.drop o).take z) := by
  unfold numAt; rw [Int.toNat_natCast, Int.toNat_natCast]; rfl
theorem decx_up_im (k : Int) (b : List Int) (hb : Bytes (k :: b)) (hl : b.length = 11) : (decP [.up, .im] (onlyK k) b).1 = ⟨k, numAt (k :: b) 1 1, numAt (k :: b) 2 2, numAt (k :: b) 4 2, numAt (k :: b) 6 2, numAt (k :: b) 8 2, 0, numAt (k :: b) 10 2, 0, 0, 0, 0, 0, 0, 0⟩ := by
  have b1 := numAt_bd hb (o := 1) (z := 1) (by decide) (by decide) (by simp; omega)
  rw [show Ser.p2 (8 * (1 : Int).toNat) = 256 by decide] at b1
  have e1 : s (numAt (k :: b) 1 1) = numAt (k :: b) 1 1 := w64 (by omega)
  have v1 : valL ((b.drop 0).take 1) = numAt (k :: b) 1 1 := (at_cons k b 0 1).symm
  have b2 := numAt_bd hb (o := 2) (z := 2) (by decide) (by decide) (by simp; omega)
  rw [show Ser.p2 (8 * (2 : Int).toNat) = 65536 by decide] at b2
  have e2 : s (numAt (k :: b) 2 2) = numAt (k :: b) 2 2 := w64 (by omega)
  have v2 : valL ((b.drop 1).take 2) = numAt (k :: b) 2 2 := (at_cons k b 1 2).symm
  have b4 := numAt_bd hb (o := 4) (z := 2) (by decide) (by decide) (by simp; omega)
  rw [show Ser.p2 (8 * (2 : Int).toNat) = 65536 by decide] at b4
  have e4 : s (numAt (k :: b) 4 2) = numAt (k :: b) 4 2 := w64 (by omega)
  have v4 : valL ((b.drop 3).take 2) = numAt (k :: b) 4 2 := (at_cons k b 3 2).symm
  have b6 := numAt_bd hb (o := 6) (z := 2) (by decide) (by decide) (by simp; omega)
  rw [show Ser.p2 (8 * (2 : Int).toNat) = 65536 by decide] at b6
  have e6 : s (numAt (k :: b) 6 2) = numAt (k :: b) 6 2 := w64 (by omega)
  have v6 : valL ((b.drop 5).take 2) = numAt (k :: b) 6 2 := (at_cons k b 5 2).symm
  have b8 := numAt_bd hb (o := 8) (z := 2) (by decide) (by decide) (by simp; omega)
  rw [show Ser.p2 (8 * (2 : Int).toNat) = 65536 by decide] at b8
  have e8 : s (numAt (k :: b) 8 2) = numAt (k :: b) 8 2 := w64 (by omega)
  have v8 : valL ((b.drop 7).take 2) = numAt (k :: b) 8 2 := (at_cons k b 7 2).symm
  have v10 : valL ((b.drop 9).take 2) = numAt (k :: b) 10 2 := (at_cons k b 9 2).symm
  have b10 := numAt_bd hb (o := 10) (z := 2) (by decide) (by decide) (by simp; omega)
  rw [show Ser.p2 (8 * (2 : Int).toNat) = 65536 by decide] at b10
  have e10 : IntKind.u16.wrap (numAt (k :: b) 10 2) = numAt (k :: b) 10 2 := w16 (by omega)
  have z0 : sumZ (szP .up) ≤ (b.length : Int) := by rw [hl]; decide
  have z1 : sumZ (szP .im) ≤ ((b.drop (sumZ (szP .up)).toNat).length : Int) := by rw [List.length_drop, hl]; decide
  unfold decP
  rw [take_ok z0]
  simp only [if_true]
  unfold decP
  rw [take_ok z1]
  simp only [if_true]
  unfold decP
  simp only [List.drop_zero] at *
  simp [setP, numsL, szP, sumZ, onlyK, zeroC, List.drop_drop, -List.drop_one, -List.tail_drop, v1, e1, v2, e2, v4, e4, v6, e6, v8, e8, v10, e10]
theorem decx_ch_im (k : Int) (b : List Int) (hb : Bytes (k :: b)) (hl : b.length = 7) : (decP [.ch, .im] (onlyK k) b).1 = ⟨k, 0, 0, 0, 0, 0, (numAt (k :: b) 1 5).toNat, numAt (k :: b) 6 2, 0, 0, 0, 0, 0, 0, 0⟩ := by
  have v1 : valL ((b.drop 0).take 5) = numAt (k :: b) 1 5 := (at_cons k b 0 5).symm
  have v6 : valL ((b.drop 5).take 2) = numAt (k :: b) 6 2 := (at_cons k b 5 2).symm
  have b6 := numAt_bd hb (o := 6) (z := 2) (by decide) (by decide) (by simp; omega)
  rw [show Ser.p2 (8 * (2 : Int).toNat) = 65536 by decide] at b6
  have e6 : IntKind.u16.wrap (numAt (k :: b) 6 2) = numAt (k :: b) 6 2 := w16 (by omega)
  have z0 : sumZ (szP .ch) ≤ (b.length : Int) := by rw [hl]; decide
  have z1 : sumZ (szP .im) ≤ ((b.drop (sumZ (szP .ch)).toNat).length : Int) := by rw [List.length_drop, hl]; decide
  unfold decP
  rw [take_ok z0]
  simp only [if_true]
  unfold decP
  rw [take_ok z1]
  simp only [if_true]
  unfold decP
  simp only [List.drop_zero] at *
  simp [setP, numsL, szP, sumZ, onlyK, zeroC, List.drop_drop, -List.drop_one, -List.tail_drop, v1, v6, e6]
theorem decx_rs (k : Int) (b : List Int) (hb : Bytes (k :: b)) (hl : b.length = 1) : (decP [.rs] (onlyK k) b).1 = ⟨k, 0, 0, 0, 0, 0, 0, 0, (k :: b).getD 1 0, 0, 0, 0, 0, 0, 0⟩ := by
  have g1 := bytes_get hb 1
  have e1 : s ((k :: b).getD 1 0) = (k :: b).getD 1 0 := w64 (by omega)
  have v1 : valL ((b.drop 0).take 1) = (k :: b).getD 1 0 := by rw [getD_take1 _ (by rw [List.length_drop]; omega)]; simp [List.getD]
  have z0 : sumZ (szP .rs) ≤ (b.length : Int) := by rw [hl]; decide
  unfold decP
  rw [take_ok z0]
  simp only [if_true]
  unfold decP
  generalize (k :: b).getD 1 0 = q1 at *
  simp only [List.drop_zero] at *
  simp [setP, numsL, szP, sumZ, onlyK, zeroC, List.drop_drop, -List.drop_one, -List.tail_drop, v1, e1]
theorem decx_sa_mk (k : Int) (b : List Int) (hb : Bytes (k :: b)) (hl : b.length = 16) : (decP [.sa, .mk] (onlyK k) b).1 = ⟨k, 0, 0, 0, 0, 0, 0, 0, 0, 0, numAt (k :: b) 1 8, numAt (k :: b) 9 8, 0, 0, 0⟩ := by
  have v1 : valL ((b.drop 0).take 8) = numAt (k :: b) 1 8 := (at_cons k b 0 8).symm
  have v9 : valL ((b.drop 8).take 8) = numAt (k :: b) 9 8 := (at_cons k b 8 8).symm
  have z0 : sumZ (szP .sa) ≤ (b.length : Int) := by rw [hl]; decide
  have z1 : sumZ (szP .mk) ≤ ((b.drop (sumZ (szP .sa)).toNat).length : Int) := by rw [List.length_drop, hl]; decide
  unfold decP
  rw [take_ok z0]
  simp only [if_true]
  unfold decP
  rw [take_ok z1]
  simp only [if_true]
  unfold decP
  simp only [List.drop_zero] at *
  simp [setP, numsL, szP, sumZ, onlyK, zeroC, List.drop_drop, -List.drop_one, -List.tail_drop, v1, v9]
theorem decx_sa (k : Int) (b : List Int) (hb : Bytes (k :: b)) (hl : b.length = 8) : (decP [.sa] (onlyK k) b).1 = ⟨k, 0, 0, 0, 0, 0, 0, 0, 0, 0, numAt (k :: b) 1 8, 0, 0, 0, 0⟩ := by
  have v1 : valL ((b.drop 0).take 8) = numAt (k :: b) 1 8 := (at_cons k b 0 8).symm
  have z0 : sumZ (szP .sa) ≤ (b.length : Int) := by rw [hl]; decide
  unfold decP
  rw [take_ok z0]
  simp only [if_true]
  unfold decP
  simp only [List.drop_zero] at *
  simp [setP, numsL, szP, sumZ, onlyK, zeroC, List.drop_drop, -List.drop_one, -List.tail_drop, v1]
theorem decx_rj (k : Int) (b : List Int) (hb : Bytes (k :: b)) (hl : b.length = 1) : (decP [.rj] (onlyK k) b).1 = ⟨k, 0, 0, 0, 0, 0, 0, 0, 0, (k :: b).getD 1 0, 0, 0, 0, 0, 0⟩ := by
  have g1 := bytes_get hb 1
  have e1 : s ((k :: b).getD 1 0) = (k :: b).getD 1 0 := w64 (by omega)
  have v1 : valL ((b.drop 0).take 1) = (k :: b).getD 1 0 := by rw [getD_take1 _ (by rw [List.length_drop]; omega)]; simp [List.getD]
  have z0 : sumZ (szP .rj) ≤ (b.length : Int) := by rw [hl]; decide
  unfold decP
  rw [take_ok z0]
  simp only [if_true]
  unfold decP
  generalize (k :: b).getD 1 0 = q1 at *
  simp only [List.drop_zero] at *
  simp [setP, numsL, szP, sumZ, onlyK, zeroC, List.drop_drop, -List.drop_one, -List.tail_drop, v1, e1]
theorem decx_fe (k : Int) (b : List Int) (hb : Bytes (k :: b)) (hl : b.length = 8) : (decP [.fe] (onlyK k) b).1 = ⟨k, 0, 0, 0, 0, 0, 0, 0, 0, 0, 0, 0, numAt (k :: b) 1 8, 0, 0⟩ := by
  have v1 : valL ((b.drop 0).take 8) = numAt (k :: b) 1 8 := (at_cons k b 0 8).symm
  have z0 : sumZ (szP .fe) ≤ (b.length : Int) := by rw [hl]; decide
  unfold decP
  rw [take_ok z0]
  simp only [if_true]
  unfold decP
  simp only [List.drop_zero] at *
  simp [setP, numsL, szP, sumZ, onlyK, zeroC, List.drop_drop, -List.drop_one, -List.tail_drop, v1]
theorem decx_vs (k : Int) (b : List Int) (hb : Bytes (k :: b)) (hl : b.length = 1) : (decP [.vs] (onlyK k) b).1 = ⟨k, 0, 0, 0, 0, 0, 0, 0, 0, 0, 0, 0, 0, (k :: b).getD 1 0, 0⟩ := by
  have g1 := bytes_get hb 1
  have e1 : s ((k :: b).getD 1 0) = (k :: b).getD 1 0 := w64 (by omega)
  have v1 : valL ((b.drop 0).take 1) = (k :: b).getD 1 0 := by rw [getD_take1 _ (by rw [List.length_drop]; omega)]; simp [List.getD]
  have z0 : sumZ (szP .vs) ≤ (b.length : Int) := by rw [hl]; decide
  unfold decP
  rw [take_ok z0]
  simp only [if_true]
  unfold decP
  generalize (k :: b).getD 1 0 = q1 at *
  simp only [List.drop_zero] at *
  simp [setP, numsL, szP, sumZ, onlyK, zeroC, List.drop_drop, -List.drop_one, -List.tail_drop, v1, e1]
theorem decx_rs_rj (k : Int) (b : List Int) (hb : Bytes (k :: b)) (hl : b.length = 2) : (decP [.rs, .rj] (onlyK k) b).1 = ⟨k, 0, 0, 0, 0, 0, 0, 0, (k :: b).getD 1 0, (k :: b).getD 2 0, 0, 0, 0, 0, 0⟩ := by
  have g1 := bytes_get hb 1
  have e1 : s ((k :: b).getD 1 0) = (k :: b).getD 1 0 := w64 (by omega)
  have v1 : valL ((b.drop 0).take 1) = (k :: b).getD 1 0 := by rw [getD_take1 _ (by rw [List.length_drop]; omega)]; simp [List.getD]
  have g2 := bytes_get hb 2
  have e2 : s ((k :: b).getD 2 0) = (k :: b).getD 2 0 := w64 (by omega)
  have v2 : valL ((b.drop 1).take 1) = (k :: b).getD 2 0 := by rw [getD_take1 _ (by rw [List.length_drop]; omega)]; simp [List.getD]
  have z0 : sumZ (szP .rs) ≤ (b.length : Int) := by rw [hl]; decide
  have z1 : sumZ (szP .rj) ≤ ((b.drop (sumZ (szP .rs)).toNat).length : Int) := by rw [List.length_drop, hl]; decide
  unfold decP
  rw [take_ok z0]
  simp only [if_true]
  unfold decP
  rw [take_ok z1]
  simp only [if_true]
  unfold decP
  generalize (k :: b).getD 1 0 = q1 at *
  generalize (k :: b).getD 2 0 = q2 at *
  simp only [List.drop_zero] at *
  simp [setP, numsL, szP, sumZ, onlyK, zeroC, List.drop_drop, -List.drop_one, -List.tail_drop, v1, e1, v2, e2]
theorem decx_up (k : Int) (b : List Int) (hb : Bytes (k :: b)) (hl : b.length = 9) : (decP [.up] (onlyK k) b).1 = ⟨k, numAt (k :: b) 1 1, numAt (k :: b) 2 2, numAt (k :: b) 4 2, numAt (k :: b) 6 2, numAt (k :: b) 8 2, 0, 0, 0, 0, 0, 0, 0, 0, 0⟩ := by
  have b1 := numAt_bd hb (o := 1) (z := 1) (by decide) (by decide) (by simp; omega)
  rw [show Ser.p2 (8 * (1 : Int).toNat) = 256 by decide] at b1
  have e1 : s (numAt (k :: b) 1 1) = numAt (k :: b) 1 1 := w64 (by omega)
  have v1 : valL ((b.drop 0).take 1) = numAt (k :: b) 1 1 := (at_cons k b 0 1).symm
  have b2 := numAt_bd hb (o := 2) (z := 2) (by decide) (by decide) (by simp; omega)
  rw [show Ser.p2 (8 * (2 : Int).toNat) = 65536 by decide] at b2
  have e2 : s (numAt (k :: b) 2 2) = numAt (k :: b) 2 2 := w64 (by omega)
  have v2 : valL ((b.drop 1).take 2) = numAt (k :: b) 2 2 := (at_cons k b 1 2).symm
  have b4 := numAt_bd hb (o := 4) (z := 2) (by decide) (by decide) (by simp; omega)
  rw [show Ser.p2 (8 * (2 : Int).toNat) = 65536 by decide] at b4
  have e4 : s (numAt (k :: b) 4 2) = numAt (k :: b) 4 2 := w64 (by omega)
  have v4 : valL ((b.drop 3).take 2) = numAt (k :: b) 4 2 := (at_cons k b 3 2).symm
  have b6 := numAt_bd hb (o := 6) (z := 2) (by decide) (by decide) (by simp; omega)
  rw [show Ser.p2 (8 * (2 : Int).toNat) = 65536 by decide] at b6
  have e6 : s (numAt (k :: b) 6 2) = numAt (k :: b) 6 2 := w64 (by omega)
  have v6 : valL ((b.drop 5).take 2) = numAt (k :: b) 6 2 := (at_cons k b 5 2).symm
  have b8 := numAt_bd hb (o := 8) (z := 2) (by decide) (by decide) (by simp; omega)
  rw [show Ser.p2 (8 * (2 : Int).toNat) = 65536 by decide] at b8
  have e8 : s (numAt (k :: b) 8 2) = numAt (k :: b) 8 2 := w64 (by omega)
  have v8 : valL ((b.drop 7).take 2) = numAt (k :: b) 8 2 := (at_cons k b 7 2).symm
  have z0 : sumZ (szP .up) ≤ (b.length : Int) := by rw [hl]; decide
  unfold decP
  rw [take_ok z0]
  simp only [if_true]
  unfold decP
  simp only [List.drop_zero] at *
  simp [setP, numsL, szP, sumZ, onlyK, zeroC, List.drop_drop, -List.drop_one, -List.tail_drop, v1, e1, v2, e2, v4, e4, v6, e6, v8, e8]
theorem decx_ln (k : Int) (b : List Int) (hb : Bytes (k :: b)) (hl : b.length = 1) : (decP [.ln] (onlyK k) b).1 = ⟨k, 0, 0, 0, 0, 0, 0, 0, 0, 0, 0, 0, 0, 0, (k :: b).getD 1 0⟩ := by
  have g1 := bytes_get hb 1
  have e1 : s ((k :: b).getD 1 0) = (k :: b).getD 1 0 := w64 (by omega)
  have v1 : valL ((b.drop 0).take 1) = (k :: b).getD 1 0 := by rw [getD_take1 _ (by rw [List.length_drop]; omega)]; simp [List.getD]
  have z0 : sumZ (szP .ln) ≤ (b.length : Int) := by rw [hl]; decide
  unfold decP
  rw [take_ok z0]
  simp only [if_true]
  unfold decP
  generalize (k :: b).getD 1 0 = q1 at *
  simp only [List.drop_zero] at *
  simp [setP, numsL, szP, sumZ, onlyK, zeroC, List.drop_drop, -List.drop_one, -List.tail_drop, v1, e1]
end Go.Proofs.Ytiopeghbpnjcgaa.Cp

/- Control PDUs: what the Decode of the document returns: contracts over the program. -/
set_option linter.unusedVariables false
set_option linter.unusedSimpArgs false
namespace Go.Proofs.Ytiopeghbpnjcgaa.Cp
open Go.RowKit Mem Oct Rw Av
open Base (thenB)
theorem size_all (k : Int) (w : World) {ps : List Pt} (hp : ptsK k = some ps) : Calls Try.prog 29 #[.int .i64 k] w fun e w' => e = .returned (.int .i64 (1 + tot ps)) ∧ Below w.heap.size w w' := by
  obtain ⟨i, hi⟩ := ptsK_ins hp
  unfold insT at hi
  simp only [List.mem_cons, Prod.mk.injEq, List.mem_nil_iff, or_false] at hi
  rcases hi with ⟨_, _, rfl⟩ | ⟨_, _, rfl⟩ | ⟨_, _, rfl⟩ | ⟨_, _, rfl⟩ | ⟨_, _, rfl⟩ | ⟨_, _, rfl⟩ | ⟨_, _, rfl⟩ | ⟨_, _, rfl⟩ | ⟨_, _, rfl⟩ | ⟨_, _, rfl⟩ | ⟨_, _, rfl⟩ | ⟨_, _, rfl⟩ | ⟨_, _, rfl⟩ | ⟨_, _, rfl⟩ | ⟨_, _, rfl⟩ | ⟨_, _, rfl⟩ | ⟨_, _, rfl⟩
  · rw [show 1 + tot [.up, .im] = 12 by decide]; exact rsize_up_im k w hp
  · rw [show 1 + tot [.ch, .im] = 8 by decide]; exact rsize_ch_im k w hp
  · rw [show 1 + tot [.rs] = 2 by decide]; exact rsize_rs k w hp
  · rw [show 1 + tot [.sa, .mk] = 17 by decide]; exact rsize_sa_mk k w hp
  · rw [show 1 + tot [.sa] = 9 by decide]; exact rsize_sa k w hp
  · rw [show 1 + tot [] = 1 by decide]; exact rsize_no k w hp
  · rw [show 1 + tot [] = 1 by decide]; exact rsize_no k w hp
  · rw [show 1 + tot [.rj] = 2 by decide]; exact rsize_rj k w hp
  · rw [show 1 + tot [.fe] = 9 by decide]; exact rsize_fe k w hp
  · rw [show 1 + tot [.fe] = 9 by decide]; exact rsize_fe k w hp
  · rw [show 1 + tot [.vs] = 2 by decide]; exact rsize_vs k w hp
  · rw [show 1 + tot [.rs, .rj] = 3 by decide]; exact rsize_rs_rj k w hp
  · rw [show 1 + tot [.up] = 10 by decide]; exact rsize_up k w hp
  · rw [show 1 + tot [] = 1 by decide]; exact rsize_no k w hp
  · rw [show 1 + tot [] = 1 by decide]; exact rsize_no k w hp
  · rw [show 1 + tot [.ln] = 2 by decide]; exact rsize_ln k w hp
  · rw [show 1 + tot [.ln] = 2 by decide]; exact rsize_ln k w hp
theorem taken_all (k : Int) (b : List Int) (A : Option Addr) (n c : Nat) (w : World) (hx : (k :: b).length = n) (hn : n ≤ 1000000) (bx : Bytes (k :: b)) (hr : Ints .u8 w w.heap.size A (k :: b)) {ps : List Pt} (hp : ptsK k = some ps) (hl : (b.length : Int) = tot ps) :
    Calls Try.prog 30 #[.agg #[.int .i64 k, .int .i64 0, .int .i64 0, .int .i64 0, .int .i64 0, .int .i64 0, .int .u64 0, .int .u16 0, .int .i64 0, .int .i64 0, .int .u64 0, .int .u64 0, .int .u64 0, .int .i64 0, .int .i64 0], .slice A n c] w fun e w' => e = .returned (.agg (encC (decP ps (onlyK k) b).1)) ∧ Below w.heap.size w w' := by
  obtain ⟨i, hi⟩ := ptsK_ins hp
  unfold insT at hi
  simp only [List.mem_cons, Prod.mk.injEq, List.mem_nil_iff, or_false] at hi
  rcases hi with ⟨_, _, rfl⟩ | ⟨_, _, rfl⟩ | ⟨_, _, rfl⟩ | ⟨_, _, rfl⟩ | ⟨_, _, rfl⟩ | ⟨_, _, rfl⟩ | ⟨_, _, rfl⟩ | ⟨_, _, rfl⟩ | ⟨_, _, rfl⟩ | ⟨_, _, rfl⟩ | ⟨_, _, rfl⟩ | ⟨_, _, rfl⟩ | ⟨_, _, rfl⟩ | ⟨_, _, rfl⟩ | ⟨_, _, rfl⟩ | ⟨_, _, rfl⟩ | ⟨_, _, rfl⟩
  · have hl' : b.length = 11 := by rw [show tot [.up, .im] = 11 by decide] at hl; omega
    have hn' : n = 12 := by rw [← hx, List.length_cons, hl']
    have h := taken_up_im k A n c (k :: b) w hx hn bx hr hp hn'
    rw [decx_up_im k b bx hl']
    exact h
  · have hl' : b.length = 7 := by rw [show tot [.ch, .im] = 7 by decide] at hl; omega
    have hn' : n = 8 := by rw [← hx, List.length_cons, hl']
    have h := taken_ch_im k A n c (k :: b) w hx hn bx hr hp hn'
    rw [decx_ch_im k b bx hl']
    have hm := (numAt_bd bx (o := 1) (z := 5) (by decide) (by decide) (by simp; omega)).1
    simp only [encC, Int.toNat_of_nonneg hm]
    exact h
  · have hl' : b.length = 1 := by rw [show tot [.rs] = 1 by decide] at hl; omega
    have hn' : n = 2 := by rw [← hx, List.length_cons, hl']
    have h := taken_rs k A n c (k :: b) w hx hn bx hr hp hn'
    rw [decx_rs k b bx hl']
    exact h
  · have hl' : b.length = 16 := by rw [show tot [.sa, .mk] = 16 by decide] at hl; omega
    have hn' : n = 17 := by rw [← hx, List.length_cons, hl']
    have h := taken_sa_mk k A n c (k :: b) w hx hn bx hr hp hn'
    rw [decx_sa_mk k b bx hl']
    exact h
  · have hl' : b.length = 8 := by rw [show tot [.sa] = 8 by decide] at hl; omega
    have hn' : n = 9 := by rw [← hx, List.length_cons, hl']
    have h := taken_sa k A n c (k :: b) w hx hn bx hr hp hn'
    rw [decx_sa k b bx hl']
    exact h
  · have hl' : b.length = 0 := by rw [show tot [] = 0 by decide] at hl; omega
    have hn' : n = 1 := by rw [← hx, List.length_cons, hl']
    have h := taken_no k A n c (k :: b) w hx hn bx hr hp hn'
    exact h
  · have hl' : b.length = 0 := by rw [show tot [] = 0 by decide] at hl; omega
    have hn' : n = 1 := by rw [← hx, List.length_cons, hl']
    have h := taken_no k A n c (k :: b) w hx hn bx hr hp hn'
    exact h
  · have hl' : b.length = 1 := by rw [show tot [.rj] = 1 by decide] at hl; omega
    have hn' : n = 2 := by rw [← hx, List.length_cons, hl']
    have h := taken_rj k A n c (k :: b) w hx hn bx hr hp hn'
    rw [decx_rj k b bx hl']
    exact h
  · have hl' : b.length = 8 := by rw [show tot [.fe] = 8 by decide] at hl; omega
    have hn' : n = 9 := by rw [← hx, List.length_cons, hl']
    have h := taken_fe k A n c (k :: b) w hx hn bx hr hp hn'
    rw [decx_fe k b bx hl']
    exact h
  · have hl' : b.length = 8 := by rw [show tot [.fe] = 8 by decide] at hl; omega
    have hn' : n = 9 := by rw [← hx, List.length_cons, hl']
    have h := taken_fe k A n c (k :: b) w hx hn bx hr hp hn'
    rw [decx_fe k b bx hl']
    exact h
  · have hl' : b.length = 1 := by rw [show tot [.vs] = 1 by decide] at hl; omega
    have hn' : n = 2 := by rw [← hx, List.length_cons, hl']
    have h := taken_vs k A n c (k :: b) w hx hn bx hr hp hn'
    rw [decx_vs k b bx hl']
    exact h
  · have hl' : b.length = 2 := by rw [show tot [.rs, .rj] = 2 by decide] at hl; omega
    have hn' : n = 3 := by rw [← hx, List.length_cons, hl']
    have h := taken_rs_rj k A n c (k :: b) w hx hn bx hr hp hn'
    rw [decx_rs_rj k b bx hl']
    exact h
  · have hl' : b.length = 9 := by rw [show tot [.up] = 9 by decide] at hl; omega
    have hn' : n = 10 := by rw [← hx, List.length_cons, hl']
    have h := taken_up k A n c (k :: b) w hx hn bx hr hp hn'
    rw [decx_up k b bx hl']
    exact h
  · have hl' : b.length = 0 := by rw [show tot [] = 0 by decide] at hl; omega
    have hn' : n = 1 := by rw [← hx, List.length_cons, hl']
    have h := taken_no k A n c (k :: b) w hx hn bx hr hp hn'
    exact h
  · have hl' : b.length = 0 := by rw [show tot [] = 0 by decide] at hl; omega
    have hn' : n = 1 := by rw [← hx, List.length_cons, hl']
    have h := taken_no k A n c (k :: b) w hx hn bx hr hp hn'
    exact h
  · have hl' : b.length = 1 := by rw [show tot [.ln] = 1 by decide] at hl; omega
    have hn' : n = 2 := by rw [← hx, List.length_cons, hl']
    have h := taken_ln k A n c (k :: b) w hx hn bx hr hp hn'
    rw [decx_ln k b bx hl']
    exact h
  · have hl' : b.length = 1 := by rw [show tot [.ln] = 1 by decide] at hl; omega
    have hn' : n = 2 := by rw [← hx, List.length_cons, hl']
    have h := taken_ln k A n c (k :: b) w hx hn bx hr hp hn'
    rw [decx_ln k b bx hl']
    exact h
set_option maxRecDepth 100000 in
set_option maxHeartbeats 4000000 in
theorem rdec_empty (A : Option Addr) (c : Nat) (w : World) : Calls Try.prog 16 #[.slice A 0 c] w fun e w' => e = .returned (.tuple #[.agg (#[.int .i64 0, .int .i64 0, .int .i64 0, .int .i64 0, .int .i64 0, .int .i64 0, .int .u64 0, .int .u16 0, .int .i64 0, .int .i64 0, .int .u64 0, .int .u64 0, .int .u64 0, .int .i64 0, .int .i64 0]), .int .i64 3]) ∧ Below w.heap.size w w' := by
  have BX : Below w.heap.size w (w.alloc (.cells #[.int .i64 0, .int .i64 0, .int .i64 0, .int .i64 0, .int .i64 0, .int .i64 0, .int .u64 0, .int .u16 0, .int .i64 0, .int .i64 0, .int .u64 0, .int .u64 0, .int .u64 0, .int .i64 0, .int .i64 0] 28)) := (Below.refl _ _).alloc (Nat.le_refl _) _
  have K2 : Blk (w.alloc (.cells #[.int .i64 0, .int .i64 0, .int .i64 0, .int .i64 0, .int .i64 0, .int .i64 0, .int .u64 0, .int .u16 0, .int .i64 0, .int .i64 0, .int .u64 0, .int .u64 0, .int .u64 0, .int .i64 0, .int .i64 0] 28)) w.heap.size 28 #[.int .i64 0, .int .i64 0, .int .i64 0, .int .i64 0, .int .i64 0, .int .i64 0, .int .u64 0, .int .u16 0, .int .i64 0, .int .i64 0, .int .u64 0, .int .u64 0, .int .u64 0, .int .i64 0, .int .i64 0] := Blk.fresh w 28 #[.int .i64 0, .int .i64 0, .int .i64 0, .int .i64 0, .int .i64 0, .int .i64 0, .int .u64 0, .int .u16 0, .int .i64 0, .int .i64 0, .int .u64 0, .int .u64 0, .int .u64 0, .int .i64 0, .int .i64 0]
  have H1 : (#[.int .i64 0, .int .i64 0, .int .i64 0, .int .i64 0, .int .i64 0, .int .i64 0, .int .u64 0, .int .u16 0, .int .i64 0, .int .i64 0, .int .u64 0, .int .u64 0, .int .u64 0, .int .i64 0, .int .i64 0] : Array Value).all (·.oneCell') = true := by rw [← Array.all_toList]; rfl
  have HSZ : (Try.prog.info? 28).map (·.size) = some (#[.int .i64 0, .int .i64 0, .int .i64 0, .int .i64 0, .int .i64 0, .int .i64 0, .int .u64 0, .int .u16 0, .int .i64 0, .int .i64 0, .int .u64 0, .int .u64 0, .int .u64 0, .int .i64 0, .int .i64 0] : Array Value).size := by kernel_rfl
  go_enter Try.func16, Try.ntmps16
  go_upto_region 2 with (fail)
  generalize w.alloc (.cells #[.int .i64 0, .int .i64 0, .int .i64 0, .int .i64 0, .int .i64 0, .int .i64 0, .int .u64 0, .int .u16 0, .int .i64 0, .int .i64 0, .int .u64 0, .int .u64 0, .int .u64 0, .int .i64 0, .int .i64 0] 28) = wr at *
  go_wp2_with (refine wpList_store_row rfl 28 (.tmp 2) _ rfl w.heap.size #[.int .i64 0, .int .i64 0, .int .i64 0, .int .i64 0, .int .i64 0, .int .i64 0, .int .u64 0, .int .u16 0, .int .i64 0, .int .i64 0, .int .u64 0, .int .u64 0, .int .u64 0, .int .i64 0, .int .i64 0] rfl rfl 28 _ K2 (by kernel_rfl) rfl H1 ?_)
  have KR := setRow_heap wr w.heap.size _ (#[.int .i64 0, .int .i64 0, .int .i64 0, .int .i64 0, .int .i64 0, .int .i64 0, .int .u64 0, .int .u16 0, .int .i64 0, .int .i64 0, .int .u64 0, .int .u64 0, .int .u64 0, .int .i64 0, .int .i64 0] : Array Value) 28 (0, 0) K2
  have BE := below_setRow BX (Nat.le_refl _) (#[.int .i64 0, .int .i64 0, .int .i64 0, .int .i64 0, .int .i64 0, .int .i64 0, .int .u64 0, .int .u16 0, .int .i64 0, .int .i64 0, .int .u64 0, .int .u64 0, .int .u64 0, .int .i64 0, .int .i64 0] : Array Value)
  generalize World.setRow wr w.heap.size (#[.int .i64 0, .int .i64 0, .int .i64 0, .int .i64 0, .int .i64 0, .int .i64 0, .int .u64 0, .int .u16 0, .int .i64 0, .int .i64 0, .int .u64 0, .int .u64 0, .int .u64 0, .int .i64 0, .int .i64 0] : Array Value) = Y at *
  refine bodyPost_ret (v := .tuple #[.agg (#[.int .i64 0, .int .i64 0, .int .i64 0, .int .i64 0, .int .i64 0, .int .i64 0, .int .u64 0, .int .u16 0, .int .i64 0, .int .i64 0, .int .u64 0, .int .u64 0, .int .u64 0, .int .i64 0, .int .i64 0] : Array Value), .int .i64 3]) ?_ rfl ⟨rfl, BE⟩
  have HLo := run_loadVar_row (P := Try.prog) Y w.heap.size 28 28 (#[.int .i64 0, .int .i64 0, .int .i64 0, .int .i64 0, .int .i64 0, .int .i64 0, .int .u64 0, .int .u16 0, .int .i64 0, .int .i64 0, .int .u64 0, .int .u64 0, .int .u64 0, .int .i64 0, .int .i64 0] : Array Value) (0, 0) _ KR Try.underlying28 rfl HSZ
  generalize (#[.int .i64 0, .int .i64 0, .int .i64 0, .int .i64 0, .int .i64 0, .int .i64 0, .int .u64 0, .int .u16 0, .int .i64 0, .int .i64 0, .int .u64 0, .int .u64 0, .int .u64 0, .int .i64 0, .int .i64 0] : Array Value) = CS9 at *
  simp [results, show (Try.f16).results = #[.cell 2 28, .tmp 3] from rfl, asAddr, HLo, Act.put]
set_option maxRecDepth 100000 in
set_option maxHeartbeats 4000000 in
theorem rdec_none (n c : Nat) (w : World) (g off : Nat) (k : Int) (hb : g < w.heap.size) (hk : 0 ≤ k ∧ k ≤ 255) (hc : w.cell? ⟨g, off, none⟩ = some (.int .u8 k)) (hn1 : 1 ≤ n) (hn : n ≤ 1000000) (hp : ptsK k = none) : Calls Try.prog 16 #[.slice (some ⟨g, off, none⟩) n c] w fun e w' => e = .returned (.tuple #[.agg (#[.int .i64 0, .int .i64 0, .int .i64 0, .int .i64 0, .int .i64 0, .int .i64 0, .int .u64 0, .int .u16 0, .int .i64 0, .int .i64 0, .int .u64 0, .int .u64 0, .int .u64 0, .int .i64 0, .int .i64 0]), .int .i64 12]) ∧ Below w.heap.size w w' := by
  have BX : Below w.heap.size w (w.alloc (.cells #[.int .i64 0, .int .i64 0, .int .i64 0, .int .i64 0, .int .i64 0, .int .i64 0, .int .u64 0, .int .u16 0, .int .i64 0, .int .i64 0, .int .u64 0, .int .u64 0, .int .u64 0, .int .i64 0, .int .i64 0] 28)) := (Below.refl _ _).alloc (Nat.le_refl _) _
  have K2 : Blk (w.alloc (.cells #[.int .i64 0, .int .i64 0, .int .i64 0, .int .i64 0, .int .i64 0, .int .i64 0, .int .u64 0, .int .u16 0, .int .i64 0, .int .i64 0, .int .u64 0, .int .u64 0, .int .u64 0, .int .i64 0, .int .i64 0] 28)) w.heap.size 28 #[.int .i64 0, .int .i64 0, .int .i64 0, .int .i64 0, .int .i64 0, .int .i64 0, .int .u64 0, .int .u16 0, .int .i64 0, .int .i64 0, .int .u64 0, .int .u64 0, .int .u64 0, .int .i64 0, .int .i64 0] := Blk.fresh w 28 #[.int .i64 0, .int .i64 0, .int .i64 0, .int .i64 0, .int .i64 0, .int .i64 0, .int .u64 0, .int .u16 0, .int .i64 0, .int .i64 0, .int .u64 0, .int .u64 0, .int .u64 0, .int .i64 0, .int .i64 0]
  have H1 : (#[.int .i64 0, .int .i64 0, .int .i64 0, .int .i64 0, .int .i64 0, .int .i64 0, .int .u64 0, .int .u16 0, .int .i64 0, .int .i64 0, .int .u64 0, .int .u64 0, .int .u64 0, .int .i64 0, .int .i64 0] : Array Value).all (·.oneCell') = true := by rw [← Array.all_toList]; rfl
  have HSZ : (Try.prog.info? 28).map (·.size) = some (#[.int .i64 0, .int .i64 0, .int .i64 0, .int .i64 0, .int .i64 0, .int .i64 0, .int .u64 0, .int .u16 0, .int .i64 0, .int .i64 0, .int .u64 0, .int .u64 0, .int .u64 0, .int .i64 0, .int .i64 0] : Array Value).size := by kernel_rfl
  have HF : Hid (∀ w, Calls Try.prog 20 #[.int .i64 k] w fun e w' => e = .returned (.agg #[.bool false, .bool false, .bool false, .bool false, .bool false, .bool false, .bool false, .bool false, .bool false, .bool false, .bool false]) ∧ Below w.heap.size w w') := Lib.hid fun w => by have := fields_k k w; rw [hp] at this; exact this
  have hn0 : ((n : Int) == 0) = false := by simp; omega
  have hw : IntKind.i64.wrap k = k := w64 (by omega)
  clear hp
  go_enter Try.func16, Try.ntmps16
  go_upto_region 3 with (fail)
  generalize w.alloc (.cells #[.int .i64 0, .int .i64 0, .int .i64 0, .int .i64 0, .int .i64 0, .int .i64 0, .int .u64 0, .int .u16 0, .int .i64 0, .int .i64 0, .int .u64 0, .int .u64 0, .int .u64 0, .int .i64 0, .int .i64 0] 28) = W0 at *
  have f1 := (BX.cell (p := ⟨g, off, none⟩) hb).trans hc
  go_upto_region 4 with (fail)
  clear f1
  have b9 : Below W0.heap.size W0 (W0.alloc (.cells #[.int .i64 k, .int .i64 0, .int .i64 0, .int .i64 0, .int .i64 0, .int .i64 0, .int .u64 0, .int .u16 0, .int .i64 0, .int .i64 0, .int .u64 0, .int .u64 0, .int .u64 0, .int .i64 0, .int .i64 0] 28)) := (Below.refl _ _).alloc (Nat.le_refl _) _
  have K4 : Blk (W0.alloc (.cells #[.int .i64 k, .int .i64 0, .int .i64 0, .int .i64 0, .int .i64 0, .int .i64 0, .int .u64 0, .int .u16 0, .int .i64 0, .int .i64 0, .int .u64 0, .int .u64 0, .int .u64 0, .int .i64 0, .int .i64 0] 28)) W0.heap.size 28 #[.int .i64 k, .int .i64 0, .int .i64 0, .int .i64 0, .int .i64 0, .int .i64 0, .int .u64 0, .int .u16 0, .int .i64 0, .int .i64 0, .int .u64 0, .int .u64 0, .int .u64 0, .int .i64 0, .int .i64 0] := Blk.fresh W0 28 #[.int .i64 k, .int .i64 0, .int .i64 0, .int .i64 0, .int .i64 0, .int .i64 0, .int .u64 0, .int .u16 0, .int .i64 0, .int .i64 0, .int .u64 0, .int .u64 0, .int .u64 0, .int .i64 0, .int .i64 0]
  have hk2 := K2.lt
  replace K2 := K2.below b9 K2.lt
  replace BX := thenB BX b9
  clear b9
  generalize W0.alloc (.cells #[.int .i64 k, .int .i64 0, .int .i64 0, .int .i64 0, .int .i64 0, .int .i64 0, .int .u64 0, .int .u16 0, .int .i64 0, .int .i64 0, .int .u64 0, .int .u64 0, .int .u64 0, .int .i64 0, .int .i64 0] 28) = W1 at *
  obtain ⟨g4, e4⟩ : ∃ g, W0.heap.size = g := ⟨_, rfl⟩
  rw [e4] at K4 hk2
  try simp only [e4]
  clear e4
  have k0 := K4.cell 0
  go_upto_region 5 with (go_at_call 20; refine (HF.out _).mono ?_; rintro e w1 ⟨rfl, b1⟩; replace K2 := K2.below b1 K2.lt; replace K4 := K4.below b1 K4.lt; replace BX := thenB BX b1; clear b1 k0)
  have b9 : Below w1.heap.size w1 (w1.alloc (.cells #[.bool false, .bool false, .bool false, .bool false, .bool false, .bool false, .bool false, .bool false, .bool false, .bool false, .bool false] 53)) := (Below.refl _ _).alloc (Nat.le_refl _) _
  have K3 : Blk (w1.alloc (.cells #[.bool false, .bool false, .bool false, .bool false, .bool false, .bool false, .bool false, .bool false, .bool false, .bool false, .bool false] 53)) w1.heap.size 53 #[.bool false, .bool false, .bool false, .bool false, .bool false, .bool false, .bool false, .bool false, .bool false, .bool false, .bool false] := Blk.fresh w1 53 #[.bool false, .bool false, .bool false, .bool false, .bool false, .bool false, .bool false, .bool false, .bool false, .bool false, .bool false]
  replace K2 := K2.below b9 K2.lt
  replace K4 := K4.below b9 K4.lt
  replace BX := thenB BX b9
  clear b9
  generalize w1.alloc (.cells #[.bool false, .bool false, .bool false, .bool false, .bool false, .bool false, .bool false, .bool false, .bool false, .bool false, .bool false] 53) = X0 at *
  generalize w1.heap.size = g3 at *
  have y0 := K3.cell 0
  clear K3 K4
  go_wp2_with (refine wpList_store_row rfl 28 (.tmp 2) _ rfl w.heap.size #[.int .i64 0, .int .i64 0, .int .i64 0, .int .i64 0, .int .i64 0, .int .i64 0, .int .u64 0, .int .u16 0, .int .i64 0, .int .i64 0, .int .u64 0, .int .u64 0, .int .u64 0, .int .i64 0, .int .i64 0] rfl rfl 28 _ K2 (by kernel_rfl) rfl H1 ?_)
  have KR := setRow_heap X0 w.heap.size _ (#[.int .i64 0, .int .i64 0, .int .i64 0, .int .i64 0, .int .i64 0, .int .i64 0, .int .u64 0, .int .u16 0, .int .i64 0, .int .i64 0, .int .u64 0, .int .u64 0, .int .u64 0, .int .i64 0, .int .i64 0] : Array Value) 28 (0, 0) K2
  have BE := below_setRow BX (Nat.le_refl _) (#[.int .i64 0, .int .i64 0, .int .i64 0, .int .i64 0, .int .i64 0, .int .i64 0, .int .u64 0, .int .u16 0, .int .i64 0, .int .i64 0, .int .u64 0, .int .u64 0, .int .u64 0, .int .i64 0, .int .i64 0] : Array Value)
  generalize World.setRow X0 w.heap.size (#[.int .i64 0, .int .i64 0, .int .i64 0, .int .i64 0, .int .i64 0, .int .i64 0, .int .u64 0, .int .u16 0, .int .i64 0, .int .i64 0, .int .u64 0, .int .u64 0, .int .u64 0, .int .i64 0, .int .i64 0] : Array Value) = Y at *
  refine bodyPost_ret (v := .tuple #[.agg (#[.int .i64 0, .int .i64 0, .int .i64 0, .int .i64 0, .int .i64 0, .int .i64 0, .int .u64 0, .int .u16 0, .int .i64 0, .int .i64 0, .int .u64 0, .int .u64 0, .int .u64 0, .int .i64 0, .int .i64 0] : Array Value), .int .i64 12]) ?_ rfl ⟨rfl, BE⟩
  have HLo := run_loadVar_row (P := Try.prog) Y w.heap.size 28 28 (#[.int .i64 0, .int .i64 0, .int .i64 0, .int .i64 0, .int .i64 0, .int .i64 0, .int .u64 0, .int .u16 0, .int .i64 0, .int .i64 0, .int .u64 0, .int .u64 0, .int .u64 0, .int .i64 0, .int .i64 0] : Array Value) (0, 0) _ KR Try.underlying28 rfl HSZ
  generalize (#[.int .i64 0, .int .i64 0, .int .i64 0, .int .i64 0, .int .i64 0, .int .i64 0, .int .u64 0, .int .u16 0, .int .i64 0, .int .i64 0, .int .u64 0, .int .u64 0, .int .u64 0, .int .i64 0, .int .i64 0] : Array Value) = CS9 at *
  simp [results, show (Try.f16).results = #[.cell 2 28, .tmp 3] from rfl, asAddr, HLo, Act.put]
set_option maxRecDepth 100000 in
set_option maxHeartbeats 4000000 in
theorem rdec_short (n c : Nat) (w : World) (g off : Nat) (k : Int) (hb : g < w.heap.size) (hk : 0 ≤ k ∧ k ≤ 255) (hc : w.cell? ⟨g, off, none⟩ = some (.int .u8 k)) (hn1 : 1 ≤ n) (hn : n ≤ 1000000) {ps : List Pt} (hp : ptsK k = some ps) (S : Int) (hS : 1 + tot ps = S) (hr : (n : Int) < S) : Calls Try.prog 16 #[.slice (some ⟨g, off, none⟩) n c] w fun e w' => e = .returned (.tuple #[.agg (#[.int .i64 0, .int .i64 0, .int .i64 0, .int .i64 0, .int .i64 0, .int .i64 0, .int .u64 0, .int .u16 0, .int .i64 0, .int .i64 0, .int .u64 0, .int .u64 0, .int .u64 0, .int .i64 0, .int .i64 0]), .int .i64 3]) ∧ Below w.heap.size w w' := by
  have BX : Below w.heap.size w (w.alloc (.cells #[.int .i64 0, .int .i64 0, .int .i64 0, .int .i64 0, .int .i64 0, .int .i64 0, .int .u64 0, .int .u16 0, .int .i64 0, .int .i64 0, .int .u64 0, .int .u64 0, .int .u64 0, .int .i64 0, .int .i64 0] 28)) := (Below.refl _ _).alloc (Nat.le_refl _) _
  have K2 : Blk (w.alloc (.cells #[.int .i64 0, .int .i64 0, .int .i64 0, .int .i64 0, .int .i64 0, .int .i64 0, .int .u64 0, .int .u16 0, .int .i64 0, .int .i64 0, .int .u64 0, .int .u64 0, .int .u64 0, .int .i64 0, .int .i64 0] 28)) w.heap.size 28 #[.int .i64 0, .int .i64 0, .int .i64 0, .int .i64 0, .int .i64 0, .int .i64 0, .int .u64 0, .int .u16 0, .int .i64 0, .int .i64 0, .int .u64 0, .int .u64 0, .int .u64 0, .int .i64 0, .int .i64 0] := Blk.fresh w 28 #[.int .i64 0, .int .i64 0, .int .i64 0, .int .i64 0, .int .i64 0, .int .i64 0, .int .u64 0, .int .u16 0, .int .i64 0, .int .i64 0, .int .u64 0, .int .u64 0, .int .u64 0, .int .i64 0, .int .i64 0]
  have H1 : (#[.int .i64 0, .int .i64 0, .int .i64 0, .int .i64 0, .int .i64 0, .int .i64 0, .int .u64 0, .int .u16 0, .int .i64 0, .int .i64 0, .int .u64 0, .int .u64 0, .int .u64 0, .int .i64 0, .int .i64 0] : Array Value).all (·.oneCell') = true := by rw [← Array.all_toList]; rfl
  have HSZ : (Try.prog.info? 28).map (·.size) = some (#[.int .i64 0, .int .i64 0, .int .i64 0, .int .i64 0, .int .i64 0, .int .i64 0, .int .u64 0, .int .u16 0, .int .i64 0, .int .i64 0, .int .u64 0, .int .u64 0, .int .u64 0, .int .i64 0, .int .i64 0] : Array Value).size := by kernel_rfl
  have HF : Hid (∀ w, Calls Try.prog 20 #[.int .i64 k] w fun e w' => e = .returned (.agg #[.bool true, .bool (decide (Pt.up ∈ ps)), .bool (decide (Pt.ch ∈ ps)), .bool (decide (Pt.im ∈ ps)), .bool (decide (Pt.rs ∈ ps)), .bool (decide (Pt.rj ∈ ps)), .bool (decide (Pt.sa ∈ ps)), .bool (decide (Pt.mk ∈ ps)), .bool (decide (Pt.fe ∈ ps)), .bool (decide (Pt.vs ∈ ps)), .bool (decide (Pt.ln ∈ ps))]) ∧ Below w.heap.size w w') := Lib.hid fun w => by have := fields_k k w; rw [hp] at this; exact this
  generalize decide (Pt.up ∈ ps) = B1 at HF
  generalize decide (Pt.ch ∈ ps) = B2 at HF
  generalize decide (Pt.im ∈ ps) = B3 at HF
  generalize decide (Pt.rs ∈ ps) = B4 at HF
  generalize decide (Pt.rj ∈ ps) = B5 at HF
  generalize decide (Pt.sa ∈ ps) = B6 at HF
  generalize decide (Pt.mk ∈ ps) = B7 at HF
  generalize decide (Pt.fe ∈ ps) = B8 at HF
  generalize decide (Pt.vs ∈ ps) = B9 at HF
  generalize decide (Pt.ln ∈ ps) = B10 at HF
  have HS : Hid (∀ w, Calls Try.prog 29 #[.int .i64 k] w fun e w' => e = .returned (.int .i64 S) ∧ Below w.heap.size w w') := Lib.hid fun w => by have := size_all k w hp; rw [hS] at this; exact this
  have hn0 : ((n : Int) == 0) = false := by simp; omega
  have hw : IntKind.i64.wrap k = k := w64 (by omega)
  clear hp hS
  go_enter Try.func16, Try.ntmps16
  go_upto_region 3 with (fail)
  generalize w.alloc (.cells #[.int .i64 0, .int .i64 0, .int .i64 0, .int .i64 0, .int .i64 0, .int .i64 0, .int .u64 0, .int .u16 0, .int .i64 0, .int .i64 0, .int .u64 0, .int .u64 0, .int .u64 0, .int .i64 0, .int .i64 0] 28) = W0 at *
  have f1 := (BX.cell (p := ⟨g, off, none⟩) hb).trans hc
  go_upto_region 4 with (fail)
  clear f1
  have b9 : Below W0.heap.size W0 (W0.alloc (.cells #[.int .i64 k, .int .i64 0, .int .i64 0, .int .i64 0, .int .i64 0, .int .i64 0, .int .u64 0, .int .u16 0, .int .i64 0, .int .i64 0, .int .u64 0, .int .u64 0, .int .u64 0, .int .i64 0, .int .i64 0] 28)) := (Below.refl _ _).alloc (Nat.le_refl _) _
  have K4 : Blk (W0.alloc (.cells #[.int .i64 k, .int .i64 0, .int .i64 0, .int .i64 0, .int .i64 0, .int .i64 0, .int .u64 0, .int .u16 0, .int .i64 0, .int .i64 0, .int .u64 0, .int .u64 0, .int .u64 0, .int .i64 0, .int .i64 0] 28)) W0.heap.size 28 #[.int .i64 k, .int .i64 0, .int .i64 0, .int .i64 0, .int .i64 0, .int .i64 0, .int .u64 0, .int .u16 0, .int .i64 0, .int .i64 0, .int .u64 0, .int .u64 0, .int .u64 0, .int .i64 0, .int .i64 0] := Blk.fresh W0 28 #[.int .i64 k, .int .i64 0, .int .i64 0, .int .i64 0, .int .i64 0, .int .i64 0, .int .u64 0, .int .u16 0, .int .i64 0, .int .i64 0, .int .u64 0, .int .u64 0, .int .u64 0, .int .i64 0, .int .i64 0]
  have hk2 := K2.lt
  replace K2 := K2.below b9 K2.lt
  replace BX := thenB BX b9
  clear b9
  generalize W0.alloc (.cells #[.int .i64 k, .int .i64 0, .int .i64 0, .int .i64 0, .int .i64 0, .int .i64 0, .int .u64 0, .int .u16 0, .int .i64 0, .int .i64 0, .int .u64 0, .int .u64 0, .int .u64 0, .int .i64 0, .int .i64 0] 28) = W1 at *
  obtain ⟨g4, e4⟩ : ∃ g, W0.heap.size = g := ⟨_, rfl⟩
  rw [e4] at K4 hk2
  try simp only [e4]
  clear e4
  have k0 := K4.cell 0
  go_upto_region 5 with (go_at_call 20; refine (HF.out _).mono ?_; rintro e w1 ⟨rfl, b1⟩; replace K2 := K2.below b1 K2.lt; replace K4 := K4.below b1 K4.lt; replace BX := thenB BX b1; clear b1 k0)
  have b9 : Below w1.heap.size w1 (w1.alloc (.cells #[.bool true, .bool B1, .bool B2, .bool B3, .bool B4, .bool B5, .bool B6, .bool B7, .bool B8, .bool B9, .bool B10] 53)) := (Below.refl _ _).alloc (Nat.le_refl _) _
  have K3 : Blk (w1.alloc (.cells #[.bool true, .bool B1, .bool B2, .bool B3, .bool B4, .bool B5, .bool B6, .bool B7, .bool B8, .bool B9, .bool B10] 53)) w1.heap.size 53 #[.bool true, .bool B1, .bool B2, .bool B3, .bool B4, .bool B5, .bool B6, .bool B7, .bool B8, .bool B9, .bool B10] := Blk.fresh w1 53 #[.bool true, .bool B1, .bool B2, .bool B3, .bool B4, .bool B5, .bool B6, .bool B7, .bool B8, .bool B9, .bool B10]
  replace K2 := K2.below b9 K2.lt
  replace K4 := K4.below b9 K4.lt
  replace BX := thenB BX b9
  clear b9
  generalize w1.alloc (.cells #[.bool true, .bool B1, .bool B2, .bool B3, .bool B4, .bool B5, .bool B6, .bool B7, .bool B8, .bool B9, .bool B10] 53) = X0 at *
  generalize w1.heap.size = g3 at *
  have y0 := K3.cell 0
  go_upto_region 7 with (fail)
  clear y0 K3
  have k0 := K4.cell 0
  skip
  go_wp2_with (first | (go_at_call 29; refine (HS.out _).mono ?_; rintro e w2 ⟨rfl, b1⟩; replace K2 := K2.below b1 K2.lt; replace K4 := K4.below b1 K4.lt; replace BX := thenB BX b1; clear b1; clear k0; have k0 := K4.cell 0) | (refine wpList_store_row rfl 28 (.tmp 2) _ rfl w.heap.size #[.int .i64 0, .int .i64 0, .int .i64 0, .int .i64 0, .int .i64 0, .int .i64 0, .int .u64 0, .int .u16 0, .int .i64 0, .int .i64 0, .int .u64 0, .int .u64 0, .int .u64 0, .int .i64 0, .int .i64 0] rfl rfl 28 _ K2 (by kernel_rfl) rfl H1 ?_))
  have KR := setRow_heap w2 w.heap.size _ (#[.int .i64 0, .int .i64 0, .int .i64 0, .int .i64 0, .int .i64 0, .int .i64 0, .int .u64 0, .int .u16 0, .int .i64 0, .int .i64 0, .int .u64 0, .int .u64 0, .int .u64 0, .int .i64 0, .int .i64 0] : Array Value) 28 (0, 0) K2
  have BE := below_setRow BX (Nat.le_refl _) (#[.int .i64 0, .int .i64 0, .int .i64 0, .int .i64 0, .int .i64 0, .int .i64 0, .int .u64 0, .int .u16 0, .int .i64 0, .int .i64 0, .int .u64 0, .int .u64 0, .int .u64 0, .int .i64 0, .int .i64 0] : Array Value)
  generalize World.setRow w2 w.heap.size (#[.int .i64 0, .int .i64 0, .int .i64 0, .int .i64 0, .int .i64 0, .int .i64 0, .int .u64 0, .int .u16 0, .int .i64 0, .int .i64 0, .int .u64 0, .int .u64 0, .int .u64 0, .int .i64 0, .int .i64 0] : Array Value) = Y at *
  refine bodyPost_ret (v := .tuple #[.agg (#[.int .i64 0, .int .i64 0, .int .i64 0, .int .i64 0, .int .i64 0, .int .i64 0, .int .u64 0, .int .u16 0, .int .i64 0, .int .i64 0, .int .u64 0, .int .u64 0, .int .u64 0, .int .i64 0, .int .i64 0] : Array Value), .int .i64 3]) ?_ rfl ⟨rfl, BE⟩
  have HLo := run_loadVar_row (P := Try.prog) Y w.heap.size 28 28 (#[.int .i64 0, .int .i64 0, .int .i64 0, .int .i64 0, .int .i64 0, .int .i64 0, .int .u64 0, .int .u16 0, .int .i64 0, .int .i64 0, .int .u64 0, .int .u64 0, .int .u64 0, .int .i64 0, .int .i64 0] : Array Value) (0, 0) _ KR Try.underlying28 rfl HSZ
  generalize (#[.int .i64 0, .int .i64 0, .int .i64 0, .int .i64 0, .int .i64 0, .int .i64 0, .int .u64 0, .int .u16 0, .int .i64 0, .int .i64 0, .int .u64 0, .int .u64 0, .int .u64 0, .int .i64 0, .int .i64 0] : Array Value) = CS9 at *
  simp [results, show (Try.f16).results = #[.cell 2 28, .tmp 3] from rfl, asAddr, HLo, Act.put]
set_option maxRecDepth 100000 in
set_option maxHeartbeats 4000000 in
theorem rdec_long (n c : Nat) (w : World) (g off : Nat) (k : Int) (hb : g < w.heap.size) (hk : 0 ≤ k ∧ k ≤ 255) (hc : w.cell? ⟨g, off, none⟩ = some (.int .u8 k)) (hn1 : 1 ≤ n) (hn : n ≤ 1000000) {ps : List Pt} (hp : ptsK k = some ps) (S : Int) (hS : 1 + tot ps = S) (hr : S < (n : Int)) : Calls Try.prog 16 #[.slice (some ⟨g, off, none⟩) n c] w fun e w' => e = .returned (.tuple #[.agg (#[.int .i64 0, .int .i64 0, .int .i64 0, .int .i64 0, .int .i64 0, .int .i64 0, .int .u64 0, .int .u16 0, .int .i64 0, .int .i64 0, .int .u64 0, .int .u64 0, .int .u64 0, .int .i64 0, .int .i64 0]), .int .i64 2]) ∧ Below w.heap.size w w' := by
  have BX : Below w.heap.size w (w.alloc (.cells #[.int .i64 0, .int .i64 0, .int .i64 0, .int .i64 0, .int .i64 0, .int .i64 0, .int .u64 0, .int .u16 0, .int .i64 0, .int .i64 0, .int .u64 0, .int .u64 0, .int .u64 0, .int .i64 0, .int .i64 0] 28)) := (Below.refl _ _).alloc (Nat.le_refl _) _
  have K2 : Blk (w.alloc (.cells #[.int .i64 0, .int .i64 0, .int .i64 0, .int .i64 0, .int .i64 0, .int .i64 0, .int .u64 0, .int .u16 0, .int .i64 0, .int .i64 0, .int .u64 0, .int .u64 0, .int .u64 0, .int .i64 0, .int .i64 0] 28)) w.heap.size 28 #[.int .i64 0, .int .i64 0, .int .i64 0, .int .i64 0, .int .i64 0, .int .i64 0, .int .u64 0, .int .u16 0, .int .i64 0, .int .i64 0, .int .u64 0, .int .u64 0, .int .u64 0, .int .i64 0, .int .i64 0] := Blk.fresh w 28 #[.int .i64 0, .int .i64 0, .int .i64 0, .int .i64 0, .int .i64 0, .int .i64 0, .int .u64 0, .int .u16 0, .int .i64 0, .int .i64 0, .int .u64 0, .int .u64 0, .int .u64 0, .int .i64 0, .int .i64 0]
  have H1 : (#[.int .i64 0, .int .i64 0, .int .i64 0, .int .i64 0, .int .i64 0, .int .i64 0, .int .u64 0, .int .u16 0, .int .i64 0, .int .i64 0, .int .u64 0, .int .u64 0, .int .u64 0, .int .i64 0, .int .i64 0] : Array Value).all (·.oneCell') = true := by rw [← Array.all_toList]; rfl
  have HSZ : (Try.prog.info? 28).map (·.size) = some (#[.int .i64 0, .int .i64 0, .int .i64 0, .int .i64 0, .int .i64 0, .int .i64 0, .int .u64 0, .int .u16 0, .int .i64 0, .int .i64 0, .int .u64 0, .int .u64 0, .int .u64 0, .int .i64 0, .int .i64 0] : Array Value).size := by kernel_rfl
  have HF : Hid (∀ w, Calls Try.prog 20 #[.int .i64 k] w fun e w' => e = .returned (.agg #[.bool true, .bool (decide (Pt.up ∈ ps)), .bool (decide (Pt.ch ∈ ps)), .bool (decide (Pt.im ∈ ps)), .bool (decide (Pt.rs ∈ ps)), .bool (decide (Pt.rj ∈ ps)), .bool (decide (Pt.sa ∈ ps)), .bool (decide (Pt.mk ∈ ps)), .bool (decide (Pt.fe ∈ ps)), .bool (decide (Pt.vs ∈ ps)), .bool (decide (Pt.ln ∈ ps))]) ∧ Below w.heap.size w w') := Lib.hid fun w => by have := fields_k k w; rw [hp] at this; exact this
  generalize decide (Pt.up ∈ ps) = B1 at HF
  generalize decide (Pt.ch ∈ ps) = B2 at HF
  generalize decide (Pt.im ∈ ps) = B3 at HF
  generalize decide (Pt.rs ∈ ps) = B4 at HF
  generalize decide (Pt.rj ∈ ps) = B5 at HF
  generalize decide (Pt.sa ∈ ps) = B6 at HF
  generalize decide (Pt.mk ∈ ps) = B7 at HF
  generalize decide (Pt.fe ∈ ps) = B8 at HF
  generalize decide (Pt.vs ∈ ps) = B9 at HF
  generalize decide (Pt.ln ∈ ps) = B10 at HF
  have HS : Hid (∀ w, Calls Try.prog 29 #[.int .i64 k] w fun e w' => e = .returned (.int .i64 S) ∧ Below w.heap.size w w') := Lib.hid fun w => by have := size_all k w hp; rw [hS] at this; exact this
  have hn0 : ((n : Int) == 0) = false := by simp; omega
  have hw : IntKind.i64.wrap k = k := w64 (by omega)
  clear hp hS
  go_enter Try.func16, Try.ntmps16
  go_upto_region 3 with (fail)
  generalize w.alloc (.cells #[.int .i64 0, .int .i64 0, .int .i64 0, .int .i64 0, .int .i64 0, .int .i64 0, .int .u64 0, .int .u16 0, .int .i64 0, .int .i64 0, .int .u64 0, .int .u64 0, .int .u64 0, .int .i64 0, .int .i64 0] 28) = W0 at *
  have f1 := (BX.cell (p := ⟨g, off, none⟩) hb).trans hc
  go_upto_region 4 with (fail)
  clear f1
  have b9 : Below W0.heap.size W0 (W0.alloc (.cells #[.int .i64 k, .int .i64 0, .int .i64 0, .int .i64 0, .int .i64 0, .int .i64 0, .int .u64 0, .int .u16 0, .int .i64 0, .int .i64 0, .int .u64 0, .int .u64 0, .int .u64 0, .int .i64 0, .int .i64 0] 28)) := (Below.refl _ _).alloc (Nat.le_refl _) _
  have K4 : Blk (W0.alloc (.cells #[.int .i64 k, .int .i64 0, .int .i64 0, .int .i64 0, .int .i64 0, .int .i64 0, .int .u64 0, .int .u16 0, .int .i64 0, .int .i64 0, .int .u64 0, .int .u64 0, .int .u64 0, .int .i64 0, .int .i64 0] 28)) W0.heap.size 28 #[.int .i64 k, .int .i64 0, .int .i64 0, .int .i64 0, .int .i64 0, .int .i64 0, .int .u64 0, .int .u16 0, .int .i64 0, .int .i64 0, .int .u64 0, .int .u64 0, .int .u64 0, .int .i64 0, .int .i64 0] := Blk.fresh W0 28 #[.int .i64 k, .int .i64 0, .int .i64 0, .int .i64 0, .int .i64 0, .int .i64 0, .int .u64 0, .int .u16 0, .int .i64 0, .int .i64 0, .int .u64 0, .int .u64 0, .int .u64 0, .int .i64 0, .int .i64 0]
  have hk2 := K2.lt
  replace K2 := K2.below b9 K2.lt
  replace BX := thenB BX b9
  clear b9
  generalize W0.alloc (.cells #[.int .i64 k, .int .i64 0, .int .i64 0, .int .i64 0, .int .i64 0, .int .i64 0, .int .u64 0, .int .u16 0, .int .i64 0, .int .i64 0, .int .u64 0, .int .u64 0, .int .u64 0, .int .i64 0, .int .i64 0] 28) = W1 at *
  obtain ⟨g4, e4⟩ : ∃ g, W0.heap.size = g := ⟨_, rfl⟩
  rw [e4] at K4 hk2
  try simp only [e4]
  clear e4
  have k0 := K4.cell 0
  go_upto_region 5 with (go_at_call 20; refine (HF.out _).mono ?_; rintro e w1 ⟨rfl, b1⟩; replace K2 := K2.below b1 K2.lt; replace K4 := K4.below b1 K4.lt; replace BX := thenB BX b1; clear b1 k0)
  have b9 : Below w1.heap.size w1 (w1.alloc (.cells #[.bool true, .bool B1, .bool B2, .bool B3, .bool B4, .bool B5, .bool B6, .bool B7, .bool B8, .bool B9, .bool B10] 53)) := (Below.refl _ _).alloc (Nat.le_refl _) _
  have K3 : Blk (w1.alloc (.cells #[.bool true, .bool B1, .bool B2, .bool B3, .bool B4, .bool B5, .bool B6, .bool B7, .bool B8, .bool B9, .bool B10] 53)) w1.heap.size 53 #[.bool true, .bool B1, .bool B2, .bool B3, .bool B4, .bool B5, .bool B6, .bool B7, .bool B8, .bool B9, .bool B10] := Blk.fresh w1 53 #[.bool true, .bool B1, .bool B2, .bool B3, .bool B4, .bool B5, .bool B6, .bool B7, .bool B8, .bool B9, .bool B10]
  replace K2 := K2.below b9 K2.lt
  replace K4 := K4.below b9 K4.lt
  replace BX := thenB BX b9
  clear b9
  generalize w1.alloc (.cells #[.bool true, .bool B1, .bool B2, .bool B3, .bool B4, .bool B5, .bool B6, .bool B7, .bool B8, .bool B9, .bool B10] 53) = X0 at *
  generalize w1.heap.size = g3 at *
  have y0 := K3.cell 0
  go_upto_region 7 with (fail)
  clear y0 K3
  have k0 := K4.cell 0
  have hr2 : ¬ ((n : Int) < S) := by omega
  go_wp2_with (first | (go_at_call 29; refine (HS.out _).mono ?_; rintro e w2 ⟨rfl, b1⟩; replace K2 := K2.below b1 K2.lt; replace K4 := K4.below b1 K4.lt; replace BX := thenB BX b1; clear b1; clear k0; have k0 := K4.cell 0) | (refine wpList_store_row rfl 28 (.tmp 2) _ rfl w.heap.size #[.int .i64 0, .int .i64 0, .int .i64 0, .int .i64 0, .int .i64 0, .int .i64 0, .int .u64 0, .int .u16 0, .int .i64 0, .int .i64 0, .int .u64 0, .int .u64 0, .int .u64 0, .int .i64 0, .int .i64 0] rfl rfl 28 _ K2 (by kernel_rfl) rfl H1 ?_))
  have KR := setRow_heap w2 w.heap.size _ (#[.int .i64 0, .int .i64 0, .int .i64 0, .int .i64 0, .int .i64 0, .int .i64 0, .int .u64 0, .int .u16 0, .int .i64 0, .int .i64 0, .int .u64 0, .int .u64 0, .int .u64 0, .int .i64 0, .int .i64 0] : Array Value) 28 (0, 0) K2
  have BE := below_setRow BX (Nat.le_refl _) (#[.int .i64 0, .int .i64 0, .int .i64 0, .int .i64 0, .int .i64 0, .int .i64 0, .int .u64 0, .int .u16 0, .int .i64 0, .int .i64 0, .int .u64 0, .int .u64 0, .int .u64 0, .int .i64 0, .int .i64 0] : Array Value)
  generalize World.setRow w2 w.heap.size (#[.int .i64 0, .int .i64 0, .int .i64 0, .int .i64 0, .int .i64 0, .int .i64 0, .int .u64 0, .int .u16 0, .int .i64 0, .int .i64 0, .int .u64 0, .int .u64 0, .int .u64 0, .int .i64 0, .int .i64 0] : Array Value) = Y at *
  refine bodyPost_ret (v := .tuple #[.agg (#[.int .i64 0, .int .i64 0, .int .i64 0, .int .i64 0, .int .i64 0, .int .i64 0, .int .u64 0, .int .u16 0, .int .i64 0, .int .i64 0, .int .u64 0, .int .u64 0, .int .u64 0, .int .i64 0, .int .i64 0] : Array Value), .int .i64 2]) ?_ rfl ⟨rfl, BE⟩
  have HLo := run_loadVar_row (P := Try.prog) Y w.heap.size 28 28 (#[.int .i64 0, .int .i64 0, .int .i64 0, .int .i64 0, .int .i64 0, .int .i64 0, .int .u64 0, .int .u16 0, .int .i64 0, .int .i64 0, .int .u64 0, .int .u64 0, .int .u64 0, .int .i64 0, .int .i64 0] : Array Value) (0, 0) _ KR Try.underlying28 rfl HSZ
  generalize (#[.int .i64 0, .int .i64 0, .int .i64 0, .int .i64 0, .int .i64 0, .int .i64 0, .int .u64 0, .int .u16 0, .int .i64 0, .int .i64 0, .int .u64 0, .int .u64 0, .int .u64 0, .int .i64 0, .int .i64 0] : Array Value) = CS9 at *
  simp [results, show (Try.f16).results = #[.cell 2 28, .tmp 3] from rfl, asAddr, HLo, Act.put]
set_option maxRecDepth 100000 in
set_option maxHeartbeats 4000000 in
theorem rdec_ok (n c : Nat) (w : World) (g off : Nat) (k : Int) (hb : g < w.heap.size) (hk : 0 ≤ k ∧ k ≤ 255) (hc : w.cell? ⟨g, off, none⟩ = some (.int .u8 k)) (hn1 : 1 ≤ n) (hn : n ≤ 1000000) {ps : List Pt} (hp : ptsK k = some ps) (hr : (n : Int) = 1 + tot ps) (C : Ct) (hG : GoodC C) (hT : ∀ X, Below w.heap.size w X → Calls Try.prog 30 #[.agg #[.int .i64 k, .int .i64 0, .int .i64 0, .int .i64 0, .int .i64 0, .int .i64 0, .int .u64 0, .int .u16 0, .int .i64 0, .int .i64 0, .int .u64 0, .int .u64 0, .int .u64 0, .int .i64 0, .int .i64 0], .slice (some ⟨g, off, none⟩) n c] X fun e w' => e = .returned (.agg (encC C)) ∧ Below X.heap.size X w') (h0 : chkC C = 0) : Calls Try.prog 16 #[.slice (some ⟨g, off, none⟩) n c] w fun e w' => e = .returned (.tuple #[.agg (encC C), .int .i64 0]) ∧ Below w.heap.size w w' := by
  have BX : Below w.heap.size w (w.alloc (.cells #[.int .i64 0, .int .i64 0, .int .i64 0, .int .i64 0, .int .i64 0, .int .i64 0, .int .u64 0, .int .u16 0, .int .i64 0, .int .i64 0, .int .u64 0, .int .u64 0, .int .u64 0, .int .i64 0, .int .i64 0] 28)) := (Below.refl _ _).alloc (Nat.le_refl _) _
  have K2 : Blk (w.alloc (.cells #[.int .i64 0, .int .i64 0, .int .i64 0, .int .i64 0, .int .i64 0, .int .i64 0, .int .u64 0, .int .u16 0, .int .i64 0, .int .i64 0, .int .u64 0, .int .u64 0, .int .u64 0, .int .i64 0, .int .i64 0] 28)) w.heap.size 28 #[.int .i64 0, .int .i64 0, .int .i64 0, .int .i64 0, .int .i64 0, .int .i64 0, .int .u64 0, .int .u16 0, .int .i64 0, .int .i64 0, .int .u64 0, .int .u64 0, .int .u64 0, .int .i64 0, .int .i64 0] := Blk.fresh w 28 #[.int .i64 0, .int .i64 0, .int .i64 0, .int .i64 0, .int .i64 0, .int .i64 0, .int .u64 0, .int .u16 0, .int .i64 0, .int .i64 0, .int .u64 0, .int .u64 0, .int .u64 0, .int .i64 0, .int .i64 0]
  have H1 : (#[.int .i64 0, .int .i64 0, .int .i64 0, .int .i64 0, .int .i64 0, .int .i64 0, .int .u64 0, .int .u16 0, .int .i64 0, .int .i64 0, .int .u64 0, .int .u64 0, .int .u64 0, .int .i64 0, .int .i64 0] : Array Value).all (·.oneCell') = true := by rw [← Array.all_toList]; rfl
  have HSZ : (Try.prog.info? 28).map (·.size) = some (#[.int .i64 0, .int .i64 0, .int .i64 0, .int .i64 0, .int .i64 0, .int .i64 0, .int .u64 0, .int .u16 0, .int .i64 0, .int .i64 0, .int .u64 0, .int .u64 0, .int .u64 0, .int .i64 0, .int .i64 0] : Array Value).size := by kernel_rfl
  have HF : Hid (∀ w, Calls Try.prog 20 #[.int .i64 k] w fun e w' => e = .returned (.agg #[.bool true, .bool (decide (Pt.up ∈ ps)), .bool (decide (Pt.ch ∈ ps)), .bool (decide (Pt.im ∈ ps)), .bool (decide (Pt.rs ∈ ps)), .bool (decide (Pt.rj ∈ ps)), .bool (decide (Pt.sa ∈ ps)), .bool (decide (Pt.mk ∈ ps)), .bool (decide (Pt.fe ∈ ps)), .bool (decide (Pt.vs ∈ ps)), .bool (decide (Pt.ln ∈ ps))]) ∧ Below w.heap.size w w') := Lib.hid fun w => by have := fields_k k w; rw [hp] at this; exact this
  generalize decide (Pt.up ∈ ps) = B1 at HF
  generalize decide (Pt.ch ∈ ps) = B2 at HF
  generalize decide (Pt.im ∈ ps) = B3 at HF
  generalize decide (Pt.rs ∈ ps) = B4 at HF
  generalize decide (Pt.rj ∈ ps) = B5 at HF
  generalize decide (Pt.sa ∈ ps) = B6 at HF
  generalize decide (Pt.mk ∈ ps) = B7 at HF
  generalize decide (Pt.fe ∈ ps) = B8 at HF
  generalize decide (Pt.vs ∈ ps) = B9 at HF
  generalize decide (Pt.ln ∈ ps) = B10 at HF
  have HS : Hid (∀ w, Calls Try.prog 29 #[.int .i64 k] w fun e w' => e = .returned (.int .i64 (n : Int)) ∧ Below w.heap.size w w') := Lib.hid fun w => by have := size_all k w hp; rw [← hr] at this; exact this
  have HK : Hid (∀ w, Calls Try.prog 10 #[.agg (encC C)] w fun e w' => e = .returned (.int .i64 (chkC C)) ∧ Below w.heap.size w w') := Lib.hid fun w => rchk_any C w hG
  have HT := Lib.hid hT
  have HSZC : (Try.prog.info? 28).map (·.size) = some (encC C).size := by kernel_rfl
  have hsC : Hid ((#[.int .i64 k, .int .i64 0, .int .i64 0, .int .i64 0, .int .i64 0, .int .i64 0, .int .u64 0, .int .u16 0, .int .i64 0, .int .i64 0, .int .u64 0, .int .u64 0, .int .u64 0, .int .i64 0, .int .i64 0] : Array Value).size = (encC C).size) := Lib.hid rfl
  have hsC2 : Hid ((#[.int .i64 0, .int .i64 0, .int .i64 0, .int .i64 0, .int .i64 0, .int .i64 0, .int .u64 0, .int .u16 0, .int .i64 0, .int .i64 0, .int .u64 0, .int .u64 0, .int .u64 0, .int .i64 0, .int .i64 0] : Array Value).size = (encC C).size) := Lib.hid rfl
  have H1C := encC_one C
  rw [h0] at HK
  generalize encC C = CC at *
  have hn0 : ((n : Int) == 0) = false := by simp; omega
  have hw : IntKind.i64.wrap k = k := w64 (by omega)
  have hr1 : ¬ ((n : Int) < (n : Int)) := by omega
  clear hp hr hG hT h0
  go_enter Try.func16, Try.ntmps16
  go_upto_region 3 with (fail)
  generalize w.alloc (.cells #[.int .i64 0, .int .i64 0, .int .i64 0, .int .i64 0, .int .i64 0, .int .i64 0, .int .u64 0, .int .u16 0, .int .i64 0, .int .i64 0, .int .u64 0, .int .u64 0, .int .u64 0, .int .i64 0, .int .i64 0] 28) = W0 at *
  have f1 := (BX.cell (p := ⟨g, off, none⟩) hb).trans hc
  go_upto_region 4 with (fail)
  clear f1
  have b9 : Below W0.heap.size W0 (W0.alloc (.cells #[.int .i64 k, .int .i64 0, .int .i64 0, .int .i64 0, .int .i64 0, .int .i64 0, .int .u64 0, .int .u16 0, .int .i64 0, .int .i64 0, .int .u64 0, .int .u64 0, .int .u64 0, .int .i64 0, .int .i64 0] 28)) := (Below.refl _ _).alloc (Nat.le_refl _) _
  have K4 : Blk (W0.alloc (.cells #[.int .i64 k, .int .i64 0, .int .i64 0, .int .i64 0, .int .i64 0, .int .i64 0, .int .u64 0, .int .u16 0, .int .i64 0, .int .i64 0, .int .u64 0, .int .u64 0, .int .u64 0, .int .i64 0, .int .i64 0] 28)) W0.heap.size 28 #[.int .i64 k, .int .i64 0, .int .i64 0, .int .i64 0, .int .i64 0, .int .i64 0, .int .u64 0, .int .u16 0, .int .i64 0, .int .i64 0, .int .u64 0, .int .u64 0, .int .u64 0, .int .i64 0, .int .i64 0] := Blk.fresh W0 28 #[.int .i64 k, .int .i64 0, .int .i64 0, .int .i64 0, .int .i64 0, .int .i64 0, .int .u64 0, .int .u16 0, .int .i64 0, .int .i64 0, .int .u64 0, .int .u64 0, .int .u64 0, .int .i64 0, .int .i64 0]
  have hk2 := K2.lt
  replace K2 := K2.below b9 K2.lt
  replace BX := thenB BX b9
  clear b9
  generalize W0.alloc (.cells #[.int .i64 k, .int .i64 0, .int .i64 0, .int .i64 0, .int .i64 0, .int .i64 0, .int .u64 0, .int .u16 0, .int .i64 0, .int .i64 0, .int .u64 0, .int .u64 0, .int .u64 0, .int .i64 0, .int .i64 0] 28) = W1 at *
  obtain ⟨g4, e4⟩ : ∃ g, W0.heap.size = g := ⟨_, rfl⟩
  rw [e4] at K4 hk2
  try simp only [e4]
  clear e4
  have k0 := K4.cell 0
  go_upto_region 5 with (go_at_call 20; refine (HF.out _).mono ?_; rintro e w1 ⟨rfl, b1⟩; replace K2 := K2.below b1 K2.lt; replace K4 := K4.below b1 K4.lt; replace BX := thenB BX b1; clear b1 k0)
  have b9 : Below w1.heap.size w1 (w1.alloc (.cells #[.bool true, .bool B1, .bool B2, .bool B3, .bool B4, .bool B5, .bool B6, .bool B7, .bool B8, .bool B9, .bool B10] 53)) := (Below.refl _ _).alloc (Nat.le_refl _) _
  have K3 : Blk (w1.alloc (.cells #[.bool true, .bool B1, .bool B2, .bool B3, .bool B4, .bool B5, .bool B6, .bool B7, .bool B8, .bool B9, .bool B10] 53)) w1.heap.size 53 #[.bool true, .bool B1, .bool B2, .bool B3, .bool B4, .bool B5, .bool B6, .bool B7, .bool B8, .bool B9, .bool B10] := Blk.fresh w1 53 #[.bool true, .bool B1, .bool B2, .bool B3, .bool B4, .bool B5, .bool B6, .bool B7, .bool B8, .bool B9, .bool B10]
  replace K2 := K2.below b9 K2.lt
  replace K4 := K4.below b9 K4.lt
  replace BX := thenB BX b9
  clear b9
  generalize w1.alloc (.cells #[.bool true, .bool B1, .bool B2, .bool B3, .bool B4, .bool B5, .bool B6, .bool B7, .bool B8, .bool B9, .bool B10] 53) = X0 at *
  generalize w1.heap.size = g3 at *
  have y0 := K3.cell 0
  go_upto_region 7 with (fail)
  clear y0 K3
  have k0 := K4.cell 0
  go_upto_region 11 with (go_at_call 29; refine (HS.out _).mono ?_; rintro e w2 ⟨rfl, b1⟩; replace K2 := K2.below b1 K2.lt; replace K4 := K4.below b1 K4.lt; replace BX := thenB BX b1; clear b1; clear k0; have k0 := K4.cell 0)
  clear k0
  go_upto_region 12 with (first | (refine wpList_load_row rfl 28 (.tmp 4) rfl g4 rfl 28 #[.int .i64 k, .int .i64 0, .int .i64 0, .int .i64 0, .int .i64 0, .int .i64 0, .int .u64 0, .int .u16 0, .int .i64 0, .int .i64 0, .int .u64 0, .int .u64 0, .int .u64 0, .int .i64 0, .int .i64 0] (0, 0) _ K4 Try.underlying28 rfl (by kernel_rfl) ?_) | (go_at_call 30; refine (HT.out _ BX).mono ?_; rintro e w3 ⟨rfl, b1⟩; replace K2 := K2.below b1 K2.lt; replace K4 := K4.below b1 K4.lt; replace BX := thenB BX b1; clear b1) | (refine wpList_store_row rfl 28 (.tmp 4) _ rfl g4 CC rfl rfl 28 _ K4 HSZC hsC.out H1C ?_))
  have b9 := below_setRow (g := g4) ((Below.refl w.heap.size w3)) (Nat.le_of_lt hk2) CC
  replace K2 := Av.bother_row (cs' := CC) K2 (show g4 ≠ w.heap.size by omega)
  replace K4 := Av.bset_row (cs' := CC) K4
  replace BX := below_setRow (g := g4) BX (Nat.le_of_lt hk2) CC
  clear b9
  generalize w3.setRow g4 CC = X3 at *
  go_upto_region 13 with (first | (refine wpList_load_row rfl 28 (.tmp 4) rfl g4 rfl 28 CC (0, 0) _ K4 Try.underlying28 rfl HSZC ?_) | (go_at_call 10; refine (HK.out _).mono ?_; rintro e w4 ⟨rfl, b1⟩; replace K2 := K2.below b1 K2.lt; replace K4 := K4.below b1 K4.lt; replace BX := thenB BX b1; clear b1))
  go_wp2_with (first | (refine wpList_load_row rfl 28 (.tmp 4) rfl g4 rfl 28 CC (0, 0) _ K4 Try.underlying28 rfl HSZC ?_) | (refine wpList_store_row rfl 28 (.tmp 2) _ rfl w.heap.size CC rfl rfl 28 _ K2 HSZC hsC2.out H1C ?_))
  have KR := setRow_heap w4 w.heap.size _ (CC) 28 (0, 0) K2
  have BE := below_setRow BX (Nat.le_refl _) (CC)
  generalize World.setRow w4 w.heap.size (CC) = Y at *
  refine bodyPost_ret (v := .tuple #[.agg (CC), .int .i64 0]) ?_ rfl ⟨rfl, BE⟩
  have HLo := run_loadVar_row (P := Try.prog) Y w.heap.size 28 28 (CC) (0, 0) _ KR Try.underlying28 rfl HSZC
  generalize (CC) = CS9 at *
  simp [results, show (Try.f16).results = #[.cell 2 28, .tmp 3] from rfl, asAddr, HLo, Act.put]
set_option maxRecDepth 100000 in
set_option maxHeartbeats 4000000 in
theorem rdec_bad (n c : Nat) (w : World) (g off : Nat) (k : Int) (hb : g < w.heap.size) (hk : 0 ≤ k ∧ k ≤ 255) (hc : w.cell? ⟨g, off, none⟩ = some (.int .u8 k)) (hn1 : 1 ≤ n) (hn : n ≤ 1000000) {ps : List Pt} (hp : ptsK k = some ps) (hr : (n : Int) = 1 + tot ps) (C : Ct) (hG : GoodC C) (hT : ∀ X, Below w.heap.size w X → Calls Try.prog 30 #[.agg #[.int .i64 k, .int .i64 0, .int .i64 0, .int .i64 0, .int .i64 0, .int .i64 0, .int .u64 0, .int .u16 0, .int .i64 0, .int .i64 0, .int .u64 0, .int .u64 0, .int .u64 0, .int .i64 0, .int .i64 0], .slice (some ⟨g, off, none⟩) n c] X fun e w' => e = .returned (.agg (encC C)) ∧ Below X.heap.size X w') (h0 : chkC C ≠ 0) : Calls Try.prog 16 #[.slice (some ⟨g, off, none⟩) n c] w fun e w' => e = .returned (.tuple #[.agg (#[.int .i64 0, .int .i64 0, .int .i64 0, .int .i64 0, .int .i64 0, .int .i64 0, .int .u64 0, .int .u16 0, .int .i64 0, .int .i64 0, .int .u64 0, .int .u64 0, .int .u64 0, .int .i64 0, .int .i64 0]), .int .i64 (chkC C)]) ∧ Below w.heap.size w w' := by
  have BX : Below w.heap.size w (w.alloc (.cells #[.int .i64 0, .int .i64 0, .int .i64 0, .int .i64 0, .int .i64 0, .int .i64 0, .int .u64 0, .int .u16 0, .int .i64 0, .int .i64 0, .int .u64 0, .int .u64 0, .int .u64 0, .int .i64 0, .int .i64 0] 28)) := (Below.refl _ _).alloc (Nat.le_refl _) _
  have K2 : Blk (w.alloc (.cells #[.int .i64 0, .int .i64 0, .int .i64 0, .int .i64 0, .int .i64 0, .int .i64 0, .int .u64 0, .int .u16 0, .int .i64 0, .int .i64 0, .int .u64 0, .int .u64 0, .int .u64 0, .int .i64 0, .int .i64 0] 28)) w.heap.size 28 #[.int .i64 0, .int .i64 0, .int .i64 0, .int .i64 0, .int .i64 0, .int .i64 0, .int .u64 0, .int .u16 0, .int .i64 0, .int .i64 0, .int .u64 0, .int .u64 0, .int .u64 0, .int .i64 0, .int .i64 0] := Blk.fresh w 28 #[.int .i64 0, .int .i64 0, .int .i64 0, .int .i64 0, .int .i64 0, .int .i64 0, .int .u64 0, .int .u16 0, .int .i64 0, .int .i64 0, .int .u64 0, .int .u64 0, .int .u64 0, .int .i64 0, .int .i64 0]
  have H1 : (#[.int .i64 0, .int .i64 0, .int .i64 0, .int .i64 0, .int .i64 0, .int .i64 0, .int .u64 0, .int .u16 0, .int .i64 0, .int .i64 0, .int .u64 0, .int .u64 0, .int .u64 0, .int .i64 0, .int .i64 0] : Array Value).all (·.oneCell') = true := by rw [← Array.all_toList]; rfl
  have HSZ : (Try.prog.info? 28).map (·.size) = some (#[.int .i64 0, .int .i64 0, .int .i64 0, .int .i64 0, .int .i64 0, .int .i64 0, .int .u64 0, .int .u16 0, .int .i64 0, .int .i64 0, .int .u64 0, .int .u64 0, .int .u64 0, .int .i64 0, .int .i64 0] : Array Value).size := by kernel_rfl
  have HF : Hid (∀ w, Calls Try.prog 20 #[.int .i64 k] w fun e w' => e = .returned (.agg #[.bool true, .bool (decide (Pt.up ∈ ps)), .bool (decide (Pt.ch ∈ ps)), .bool (decide (Pt.im ∈ ps)), .bool (decide (Pt.rs ∈ ps)), .bool (decide (Pt.rj ∈ ps)), .bool (decide (Pt.sa ∈ ps)), .bool (decide (Pt.mk ∈ ps)), .bool (decide (Pt.fe ∈ ps)), .bool (decide (Pt.vs ∈ ps)), .bool (decide (Pt.ln ∈ ps))]) ∧ Below w.heap.size w w') := Lib.hid fun w => by have := fields_k k w; rw [hp] at this; exact this
  generalize decide (Pt.up ∈ ps) = B1 at HF
  generalize decide (Pt.ch ∈ ps) = B2 at HF
  generalize decide (Pt.im ∈ ps) = B3 at HF
  generalize decide (Pt.rs ∈ ps) = B4 at HF
  generalize decide (Pt.rj ∈ ps) = B5 at HF
  generalize decide (Pt.sa ∈ ps) = B6 at HF
  generalize decide (Pt.mk ∈ ps) = B7 at HF
  generalize decide (Pt.fe ∈ ps) = B8 at HF
  generalize decide (Pt.vs ∈ ps) = B9 at HF
  generalize decide (Pt.ln ∈ ps) = B10 at HF
  have HS : Hid (∀ w, Calls Try.prog 29 #[.int .i64 k] w fun e w' => e = .returned (.int .i64 (n : Int)) ∧ Below w.heap.size w w') := Lib.hid fun w => by have := size_all k w hp; rw [← hr] at this; exact this
  have HK : Hid (∀ w, Calls Try.prog 10 #[.agg (encC C)] w fun e w' => e = .returned (.int .i64 (chkC C)) ∧ Below w.heap.size w w') := Lib.hid fun w => rchk_any C w hG
  have HT := Lib.hid hT
  have HSZC : (Try.prog.info? 28).map (·.size) = some (encC C).size := by kernel_rfl
  have hsC : Hid ((#[.int .i64 k, .int .i64 0, .int .i64 0, .int .i64 0, .int .i64 0, .int .i64 0, .int .u64 0, .int .u16 0, .int .i64 0, .int .i64 0, .int .u64 0, .int .u64 0, .int .u64 0, .int .i64 0, .int .i64 0] : Array Value).size = (encC C).size) := Lib.hid rfl
  have hsC2 : Hid ((#[.int .i64 0, .int .i64 0, .int .i64 0, .int .i64 0, .int .i64 0, .int .i64 0, .int .u64 0, .int .u16 0, .int .i64 0, .int .i64 0, .int .u64 0, .int .u64 0, .int .u64 0, .int .i64 0, .int .i64 0] : Array Value).size = (encC C).size) := Lib.hid rfl
  have H1C := encC_one C
  have hz' : (chkC C != 0) = true := by simpa using h0
  generalize chkC C = R at *
  generalize encC C = CC at *
  have hn0 : ((n : Int) == 0) = false := by simp; omega
  have hw : IntKind.i64.wrap k = k := w64 (by omega)
  have hr1 : ¬ ((n : Int) < (n : Int)) := by omega
  clear hp hr hG hT h0
  go_enter Try.func16, Try.ntmps16
  go_upto_region 3 with (fail)
  generalize w.alloc (.cells #[.int .i64 0, .int .i64 0, .int .i64 0, .int .i64 0, .int .i64 0, .int .i64 0, .int .u64 0, .int .u16 0, .int .i64 0, .int .i64 0, .int .u64 0, .int .u64 0, .int .u64 0, .int .i64 0, .int .i64 0] 28) = W0 at *
  have f1 := (BX.cell (p := ⟨g, off, none⟩) hb).trans hc
  go_upto_region 4 with (fail)
  clear f1
  have b9 : Below W0.heap.size W0 (W0.alloc (.cells #[.int .i64 k, .int .i64 0, .int .i64 0, .int .i64 0, .int .i64 0, .int .i64 0, .int .u64 0, .int .u16 0, .int .i64 0, .int .i64 0, .int .u64 0, .int .u64 0, .int .u64 0, .int .i64 0, .int .i64 0] 28)) := (Below.refl _ _).alloc (Nat.le_refl _) _
  have K4 : Blk (W0.alloc (.cells #[.int .i64 k, .int .i64 0, .int .i64 0, .int .i64 0, .int .i64 0, .int .i64 0, .int .u64 0, .int .u16 0, .int .i64 0, .int .i64 0, .int .u64 0, .int .u64 0, .int .u64 0, .int .i64 0, .int .i64 0] 28)) W0.heap.size 28 #[.int .i64 k, .int .i64 0, .int .i64 0, .int .i64 0, .int .i64 0, .int .i64 0, .int .u64 0, .int .u16 0, .int .i64 0, .int .i64 0, .int .u64 0, .int .u64 0, .int .u64 0, .int .i64 0, .int .i64 0] := Blk.fresh W0 28 #[.int .i64 k, .int .i64 0, .int .i64 0, .int .i64 0, .int .i64 0, .int .i64 0, .int .u64 0, .int .u16 0, .int .i64 0, .int .i64 0, .int .u64 0, .int .u64 0, .int .u64 0, .int .i64 0, .int .i64 0]
  have hk2 := K2.lt
  replace K2 := K2.below b9 K2.lt
  replace BX := thenB BX b9
  clear b9
  generalize W0.alloc (.cells #[.int .i64 k, .int .i64 0, .int .i64 0, .int .i64 0, .int .i64 0, .int .i64 0, .int .u64 0, .int .u16 0, .int .i64 0, .int .i64 0, .int .u64 0, .int .u64 0, .int .u64 0, .int .i64 0, .int .i64 0] 28) = W1 at *
  obtain ⟨g4, e4⟩ : ∃ g, W0.heap.size = g := ⟨_, rfl⟩
  rw [e4] at K4 hk2
  try simp only [e4]
  clear e4
  have k0 := K4.cell 0
  go_upto_region 5 with (go_at_call 20; refine (HF.out _).mono ?_; rintro e w1 ⟨rfl, b1⟩; replace K2 := K2.below b1 K2.lt; replace K4 := K4.below b1 K4.lt; replace BX := thenB BX b1; clear b1 k0)
  have b9 : Below w1.heap.size w1 (w1.alloc (.cells #[.bool true, .bool B1, .bool B2, .bool B3, .bool B4, .bool B5, .bool B6, .bool B7, .bool B8, .bool B9, .bool B10] 53)) := (Below.refl _ _).alloc (Nat.le_refl _) _
  have K3 : Blk (w1.alloc (.cells #[.bool true, .bool B1, .bool B2, .bool B3, .bool B4, .bool B5, .bool B6, .bool B7, .bool B8, .bool B9, .bool B10] 53)) w1.heap.size 53 #[.bool true, .bool B1, .bool B2, .bool B3, .bool B4, .bool B5, .bool B6, .bool B7, .bool B8, .bool B9, .bool B10] := Blk.fresh w1 53 #[.bool true, .bool B1, .bool B2, .bool B3, .bool B4, .bool B5, .bool B6, .bool B7, .bool B8, .bool B9, .bool B10]
  replace K2 := K2.below b9 K2.lt
  replace K4 := K4.below b9 K4.lt
  replace BX := thenB BX b9
  clear b9
  generalize w1.alloc (.cells #[.bool true, .bool B1, .bool B2, .bool B3, .bool B4, .bool B5, .bool B6, .bool B7, .bool B8, .bool B9, .bool B10] 53) = X0 at *
  generalize w1.heap.size = g3 at *
  have y0 := K3.cell 0
  go_upto_region 7 with (fail)
  clear y0 K3
  have k0 := K4.cell 0
  go_upto_region 11 with (go_at_call 29; refine (HS.out _).mono ?_; rintro e w2 ⟨rfl, b1⟩; replace K2 := K2.below b1 K2.lt; replace K4 := K4.below b1 K4.lt; replace BX := thenB BX b1; clear b1; clear k0; have k0 := K4.cell 0)
  clear k0
  go_upto_region 12 with (first | (refine wpList_load_row rfl 28 (.tmp 4) rfl g4 rfl 28 #[.int .i64 k, .int .i64 0, .int .i64 0, .int .i64 0, .int .i64 0, .int .i64 0, .int .u64 0, .int .u16 0, .int .i64 0, .int .i64 0, .int .u64 0, .int .u64 0, .int .u64 0, .int .i64 0, .int .i64 0] (0, 0) _ K4 Try.underlying28 rfl (by kernel_rfl) ?_) | (go_at_call 30; refine (HT.out _ BX).mono ?_; rintro e w3 ⟨rfl, b1⟩; replace K2 := K2.below b1 K2.lt; replace K4 := K4.below b1 K4.lt; replace BX := thenB BX b1; clear b1) | (refine wpList_store_row rfl 28 (.tmp 4) _ rfl g4 CC rfl rfl 28 _ K4 HSZC hsC.out H1C ?_))
  have b9 := below_setRow (g := g4) ((Below.refl w.heap.size w3)) (Nat.le_of_lt hk2) CC
  replace K2 := Av.bother_row (cs' := CC) K2 (show g4 ≠ w.heap.size by omega)
  replace K4 := Av.bset_row (cs' := CC) K4
  replace BX := below_setRow (g := g4) BX (Nat.le_of_lt hk2) CC
  clear b9
  generalize w3.setRow g4 CC = X3 at *
  go_upto_region 13 with (first | (refine wpList_load_row rfl 28 (.tmp 4) rfl g4 rfl 28 CC (0, 0) _ K4 Try.underlying28 rfl HSZC ?_) | (go_at_call 10; refine (HK.out _).mono ?_; rintro e w4 ⟨rfl, b1⟩; replace K2 := K2.below b1 K2.lt; replace K4 := K4.below b1 K4.lt; replace BX := thenB BX b1; clear b1))
  go_wp2_with (first | (refine wpList_load_row rfl 28 (.tmp 4) rfl g4 rfl 28 CC (0, 0) _ K4 Try.underlying28 rfl HSZC ?_) | (refine wpList_store_row rfl 28 (.tmp 2) _ rfl w.heap.size #[.int .i64 0, .int .i64 0, .int .i64 0, .int .i64 0, .int .i64 0, .int .i64 0, .int .u64 0, .int .u16 0, .int .i64 0, .int .i64 0, .int .u64 0, .int .u64 0, .int .u64 0, .int .i64 0, .int .i64 0] rfl rfl 28 _ K2 (by kernel_rfl) rfl H1 ?_))
  have KR := setRow_heap w4 w.heap.size _ (#[.int .i64 0, .int .i64 0, .int .i64 0, .int .i64 0, .int .i64 0, .int .i64 0, .int .u64 0, .int .u16 0, .int .i64 0, .int .i64 0, .int .u64 0, .int .u64 0, .int .u64 0, .int .i64 0, .int .i64 0] : Array Value) 28 (0, 0) K2
  have BE := below_setRow BX (Nat.le_refl _) (#[.int .i64 0, .int .i64 0, .int .i64 0, .int .i64 0, .int .i64 0, .int .i64 0, .int .u64 0, .int .u16 0, .int .i64 0, .int .i64 0, .int .u64 0, .int .u64 0, .int .u64 0, .int .i64 0, .int .i64 0] : Array Value)
  generalize World.setRow w4 w.heap.size (#[.int .i64 0, .int .i64 0, .int .i64 0, .int .i64 0, .int .i64 0, .int .i64 0, .int .u64 0, .int .u16 0, .int .i64 0, .int .i64 0, .int .u64 0, .int .u64 0, .int .u64 0, .int .i64 0, .int .i64 0] : Array Value) = Y at *
  refine bodyPost_ret (v := .tuple #[.agg (#[.int .i64 0, .int .i64 0, .int .i64 0, .int .i64 0, .int .i64 0, .int .i64 0, .int .u64 0, .int .u16 0, .int .i64 0, .int .i64 0, .int .u64 0, .int .u64 0, .int .u64 0, .int .i64 0, .int .i64 0] : Array Value), .int .i64 R]) ?_ rfl ⟨rfl, BE⟩
  have HLo := run_loadVar_row (P := Try.prog) Y w.heap.size 28 28 (#[.int .i64 0, .int .i64 0, .int .i64 0, .int .i64 0, .int .i64 0, .int .i64 0, .int .u64 0, .int .u16 0, .int .i64 0, .int .i64 0, .int .u64 0, .int .u64 0, .int .u64 0, .int .i64 0, .int .i64 0] : Array Value) (0, 0) _ KR Try.underlying28 rfl HSZ
  generalize (#[.int .i64 0, .int .i64 0, .int .i64 0, .int .i64 0, .int .i64 0, .int .i64 0, .int .u64 0, .int .u16 0, .int .i64 0, .int .i64 0, .int .u64 0, .int .u64 0, .int .u64 0, .int .i64 0, .int .i64 0] : Array Value) = CS9 at *
  simp [results, show (Try.f16).results = #[.cell 2 28, .tmp 3] from rfl, asAddr, HLo, Act.put]
end Go.Proofs.Ytiopeghbpnjcgaa.Cp

/- Control PDUs: Decode is that of the document: walks. -/
set_option linter.unusedVariables false
set_option linter.unusedSimpArgs false
namespace Go.Proofs.Ytiopeghbpnjcgaa.Cp
open Go.RowKit Mem Oct Rw Av
open Base (thenB)
theorem ctl_eql2 (a : Ct) (w : World) : (binOp .eql 28 (.agg (encC a)) (.agg (encC a))).run Try.prog w = .ok (.bool true) w := by
  unfold encC
  go_simp
theorem ctl_eg2 (a b : Ct) (w : World) (x y : Operand) : (eqGuard .eql 28 x y (.agg (encC a)) (.agg (encC b))).run Try.prog w = .ok () w := by
  unfold encC
  go_simp
theorem good_k {k : Int} (h : 0 ≤ k ∧ k ≤ 255) : GoodC (onlyK k) := by
  unfold GoodC onlyK zeroC
  simp
  omega
theorem rdecode_any (A : Option Addr) (n c : Nat) (xs : List Int) (w : World) (hx : xs.length = n) (hn : n ≤ 1000000) (hnc : n ≤ c) (bx : Bytes xs) (hr : Ints .u8 w w.heap.size A xs) :
    Calls Try.prog 16 #[.slice A n c] w fun e w' => Decd w w' e (decR xs) := by
  cases xs with
  | nil =>
    obtain rfl : n = 0 := by simpa using hx.symm
    exact rdec_empty A c w
  | cons k b =>
    have hr' := hr
    obtain ⟨g, off, rfl, hb, hc⟩ := hr.at_ (i := 0) (by simp)
    have h0 : w.cell? ⟨g, off, none⟩ = some (.int .u8 k) := hc 0 (by simp)
    have hk : 0 ≤ k ∧ k ≤ 255 := bx k (by simp)
    have hl : n = b.length + 1 := by simpa using hx.symm
    cases hp : ptsK k with
    | none =>
      have hd : decR (k :: b) = (zeroC, 12) := by show decB k b = _; unfold decB; rw [hp]
      rw [hd]
      exact rdec_none n c w g off k hb hk h0 (by omega) hn hp
    | some ps =>
      by_cases h1 : (b.length : Int) < tot ps
      · have hd : decR (k :: b) = (zeroC, 3) := by show decB k b = _; unfold decB; rw [hp]; simp [decP_short ps (onlyK k) b h1]
        rw [hd]
        exact rdec_short n c w g off k hb hk h0 (by omega) hn hp _ rfl (by omega)
      · obtain ⟨h2, h3⟩ := decP_long ps (onlyK k) b (by omega)
        have ht := tot_pos ps
        by_cases h4 : tot ps < (b.length : Int)
        · have h5 : (decP ps (onlyK k) b).2.1.length ≠ 0 := by rw [h3, List.length_drop]; omega
          have hd : decR (k :: b) = (zeroC, 2) := by show decB k b = _; unfold decB; rw [hp]; simp only [h2]; rw [if_neg (by simp), if_pos h5]
          rw [hd]
          exact rdec_long n c w g off k hb hk h0 (by omega) hn hp _ rfl (by omega)
        · have h5 : ¬ (decP ps (onlyK k) b).2.1.length ≠ 0 := by rw [h3, List.length_drop]; omega
          have he : decP ps (onlyK k) b = ((decP ps (onlyK k) b).1, (decP ps (onlyK k) b).2.1, 0) := by rw [← h2]
          have hG : GoodC (decP ps (onlyK k) b).1 := (dec_inv ps (onlyK k) b _ _ (pts_bd hp).2.2 (fun x h => bx x (List.mem_cons_of_mem _ h)) (good_k hk) he).2.2.2
          have hT : ∀ X, Below w.heap.size w X → _ := fun X bX => taken_all k b (some ⟨g, off, none⟩) n c X hx hn bx (Base.later hr' bX) hp (by omega)
          by_cases h6 : chkC (decP ps (onlyK k) b).1 = 0
          · have hd : decR (k :: b) = ((decP ps (onlyK k) b).1, 0) := by show decB k b = _; unfold decB; rw [hp]; simp only [h2]; rw [if_neg (by simp), if_neg h5, if_neg (by simp [h6])]
            rw [hd]
            exact rdec_ok n c w g off k hb hk h0 (by omega) hn hp (by omega) _ hG hT h6
          · have hd : decR (k :: b) = (zeroC, chkC (decP ps (onlyK k) b).1) := by show decB k b = _; unfold decB; rw [hp]; simp only [h2]; rw [if_neg (by simp), if_neg h5, if_pos h6]
            rw [hd]
            exact rdec_bad n c w g off k hb hk h0 (by omega) hn hp (by omega) _ hG hT h6
set_option maxRecDepth 100000 in
set_option maxHeartbeats 4000000 in
theorem decodes_any (A : Option Addr) (n c : Nat) (xs : List Int) (w : World) (hx : xs.length = n) (hnc : n ≤ c) (hr : Ints .u8 w w.heap.size A xs) (bx : Bytes xs) (hcs : c * 1 ≤ 140737488351232) :
    Calls Try.prog 5 #[.slice A n c] w fun e w' => e = .returned (.bool true) ∧ Below w.heap.size w w' := by
  have HX := Lib.hid example_any
  by_cases hl : (1000 : Int) < (n : Int)
  · clear hr hx bx hnc hcs
    go_enter Try.func5, Try.ntmps5
    go_wp2_with (go_at_call 11; refine (HX.out _).mono ?_; rintro e w9 ⟨rfl, b9⟩)
    go_ret
    exact ⟨rfl, b9⟩
  · have HD := Lib.hid (decode_any A n c xs w hx (by omega) hnc bx hr)
    have HR := Lib.hid fun X (b : Below w.heap.size w X) => rdecode_any A n c xs X hx (by omega) hnc bx (Base.later hr b)
    obtain ⟨⟨d, x⟩, hd⟩ : ∃ r, decR xs = r := ⟨_, rfl⟩
    rw [hd] at HD HR
    have HSZ : (Try.prog.info? 28).map (·.size) = some (encC d).size := by kernel_rfl
    have hs2 : Hid ((#[.int .i64 0, .int .i64 0, .int .i64 0, .int .i64 0, .int .i64 0, .int .i64 0, .int .u64 0, .int .u16 0, .int .i64 0, .int .i64 0, .int .u64 0, .int .u64 0, .int .u64 0, .int .i64 0, .int .i64 0] : Array Value).size = (encC d).size) := Lib.hid rfl
    have H1 := encC_one d
    have q1 := ctl_eql2 d
    have q2 := ctl_eg2 d d
    have e1 : (x == x) = true := by simp
    have HD2 : Hid (Calls Try.prog 15 #[.slice A n c] w fun e w' => e = .returned (.tuple #[.agg (encC d), .int .i64 x]) ∧ Below w.heap.size w w') := Lib.hid HD.out
    have HR2 : Hid (∀ X, Below w.heap.size w X → Calls Try.prog 16 #[.slice A n c] X fun e w' => e = .returned (.tuple #[.agg (encC d), .int .i64 x]) ∧ Below X.heap.size X w') := Lib.hid HR.out
    clear HD HR hr bx hx hnc hcs hd
    generalize encC d = C at *
    go_enter Try.func5, Try.ntmps5
    go_upto_region 4 with (first | (go_at_call 15; refine HD2.out.mono ?_; rintro e w1 ⟨rfl, b1⟩) | (refine wpList_store_row rfl 28 (.tmp 3) _ rfl w1.heap.size C rfl rfl 28 _ (Blk.fresh w1 28 #[.int .i64 0, .int .i64 0, .int .i64 0, .int .i64 0, .int .i64 0, .int .i64 0, .int .u64 0, .int .u16 0, .int .i64 0, .int .i64 0, .int .u64 0, .int .u64 0, .int .u64 0, .int .i64 0, .int .i64 0]) HSZ hs2.out H1 ?_))
    have b9 : Below w1.heap.size w1 ((w1.alloc (.cells #[.int .i64 0, .int .i64 0, .int .i64 0, .int .i64 0, .int .i64 0, .int .i64 0, .int .u64 0, .int .u16 0, .int .i64 0, .int .i64 0, .int .u64 0, .int .u64 0, .int .u64 0, .int .i64 0, .int .i64 0] 28)).setRow w1.heap.size C) := below_setRow ((Below.refl _ _).alloc (Nat.le_refl _) _) (Nat.le_refl _) _
    have K3 : Blk ((w1.alloc (.cells #[.int .i64 0, .int .i64 0, .int .i64 0, .int .i64 0, .int .i64 0, .int .i64 0, .int .u64 0, .int .u16 0, .int .i64 0, .int .i64 0, .int .u64 0, .int .u64 0, .int .u64 0, .int .i64 0, .int .i64 0] 28)).setRow w1.heap.size C) w1.heap.size 28 C := Av.bset_row (Blk.fresh w1 28 #[.int .i64 0, .int .i64 0, .int .i64 0, .int .i64 0, .int .i64 0, .int .i64 0, .int .u64 0, .int .u16 0, .int .i64 0, .int .i64 0, .int .u64 0, .int .u64 0, .int .u64 0, .int .i64 0, .int .i64 0])
    have BX := thenB b1 b9
    clear b1 b9
    generalize (w1.alloc (.cells #[.int .i64 0, .int .i64 0, .int .i64 0, .int .i64 0, .int .i64 0, .int .i64 0, .int .u64 0, .int .u16 0, .int .i64 0, .int .i64 0, .int .u64 0, .int .u64 0, .int .u64 0, .int .i64 0, .int .i64 0] 28)).setRow w1.heap.size C = W1 at *
    go_upto_region 5 with (first | (go_at_call 16; refine (HR2.out _ BX).mono ?_; rintro e w2 ⟨rfl, b1⟩) | (refine wpList_store_row rfl 28 (.tmp 5) _ rfl w2.heap.size C rfl rfl 28 _ (Blk.fresh w2 28 #[.int .i64 0, .int .i64 0, .int .i64 0, .int .i64 0, .int .i64 0, .int .i64 0, .int .u64 0, .int .u16 0, .int .i64 0, .int .i64 0, .int .u64 0, .int .u64 0, .int .u64 0, .int .i64 0, .int .i64 0]) HSZ hs2.out H1 ?_))
    replace K3 := K3.below b1 K3.lt
    replace BX := thenB BX b1
    have b9 : Below w2.heap.size w2 ((w2.alloc (.cells #[.int .i64 0, .int .i64 0, .int .i64 0, .int .i64 0, .int .i64 0, .int .i64 0, .int .u64 0, .int .u16 0, .int .i64 0, .int .i64 0, .int .u64 0, .int .u64 0, .int .u64 0, .int .i64 0, .int .i64 0] 28)).setRow w2.heap.size C) := below_setRow ((Below.refl _ _).alloc (Nat.le_refl _) _) (Nat.le_refl _) _
    have K5 : Blk ((w2.alloc (.cells #[.int .i64 0, .int .i64 0, .int .i64 0, .int .i64 0, .int .i64 0, .int .i64 0, .int .u64 0, .int .u16 0, .int .i64 0, .int .i64 0, .int .u64 0, .int .u64 0, .int .u64 0, .int .i64 0, .int .i64 0] 28)).setRow w2.heap.size C) w2.heap.size 28 C := Av.bset_row (Blk.fresh w2 28 #[.int .i64 0, .int .i64 0, .int .i64 0, .int .i64 0, .int .i64 0, .int .i64 0, .int .u64 0, .int .u16 0, .int .i64 0, .int .i64 0, .int .u64 0, .int .u64 0, .int .u64 0, .int .i64 0, .int .i64 0])
    replace K3 := K3.below b9 K3.lt
    replace BX := thenB BX b9
    clear b1 b9
    generalize (w2.alloc (.cells #[.int .i64 0, .int .i64 0, .int .i64 0, .int .i64 0, .int .i64 0, .int .i64 0, .int .u64 0, .int .u16 0, .int .i64 0, .int .i64 0, .int .u64 0, .int .u64 0, .int .u64 0, .int .i64 0, .int .i64 0] 28)).setRow w2.heap.size C = W2 at *
    go_wp2_with (first | (refine wpList_load_row rfl 28 (.tmp 3) rfl (w1.heap.size) rfl 28 _ (0, 0) _ K3 Try.underlying28 rfl HSZ ?_) | (refine wpList_load_row rfl 28 (.tmp 5) rfl (w2.heap.size) rfl 28 _ (0, 0) _ K5 Try.underlying28 rfl HSZ ?_) | (go_at_call 11; refine (HX.out _).mono ?_; rintro e w9 ⟨rfl, b9⟩))
    go_ret
    exact ⟨rfl, thenB BX b9⟩
end Go.Proofs.Ytiopeghbpnjcgaa.Cp
