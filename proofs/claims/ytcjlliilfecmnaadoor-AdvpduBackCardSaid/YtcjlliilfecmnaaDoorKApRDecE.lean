/- Advertising PDUs: Decode by the document where the header is wrong: contracts over the program. -/
import Derived.Test.YtcjlliilfecmnaaDoorKApRPay
set_option linter.unusedVariables false
set_option linter.unusedSimpArgs false
namespace Go.Proofs.YtcjlliilfecmnaaDoor.Ap
open Go.RowKit Mem Oct
open Base (thenB)

set_option maxRecDepth 100000 in
set_option maxHeartbeats 4000000 in
theorem rdecode_hdr (A : Option Addr) (n c : Nat) (xs : List Int) (w : World) (hx : xs.length = n) (hn2 : n ≤ 140737488351232) (bxs : Bytes xs) (hr : Ints .u8 w w.heap.size A xs) (h : hdrE xs ≠ 0) :
    Calls Tryd.prog 17 #[.slice A n c] w fun e w' => Decd w w' e (decP xs) := by
  have BX : Below w.heap.size w (w.alloc (.cells #[.int .i64 0, .int .i64 0, .int .u64 0, .int .i64 0, .int .u64 0, .slice none 0 0, .int .u32 0, .int .u32 0, .int .i64 0, .int .i64 0, .int .i64 0, .int .i64 0, .int .i64 0, .int .u64 0, .int .i64 0, .int .i64 0, .int .i64 0] 33)) := (Below.refl _ _).alloc (Nat.le_refl _) _
  have K2 := Blk.fresh w 33 #[.int .i64 0, .int .i64 0, .int .u64 0, .int .i64 0, .int .u64 0, .slice none 0 0, .int .u32 0, .int .u32 0, .int .i64 0, .int .i64 0, .int .i64 0, .int .i64 0, .int .i64 0, .int .u64 0, .int .i64 0, .int .i64 0, .int .i64 0]
  by_cases h2 : n < 2
  · have HZ : Hid (decP xs = (zp, 3)) := Lib.hid (by rw [decP_hdr h]; unfold hdrE; rw [if_pos (by omega)])
    have g1 : (n : Int) < 2 := by omega
    generalize decP xs = R at *
    clear hx hr bxs h
    go_enter Tryd.func17, Tryd.ntmps17
    go_upto_region 1 with (fail)
    generalize w.alloc (.cells #[.int .i64 0, .int .i64 0, .int .u64 0, .int .i64 0, .int .u64 0, .slice none 0 0, .int .u32 0, .int .u32 0, .int .i64 0, .int .i64 0, .int .i64 0, .int .i64 0, .int .i64 0, .int .u64 0, .int .i64 0, .int .i64 0, .int .i64 0] 33) = W0 at *
    have H1 : (#[.int .i64 0, .int .i64 0, .int .u64 0, .int .i64 0, .int .u64 0, .slice none 0 0, .int .u32 0, .int .u32 0, .int .i64 0, .int .i64 0, .int .i64 0, .int .i64 0, .int .i64 0, .int .u64 0, .int .i64 0, .int .i64 0, .int .i64 0] : Array Value).all (·.oneCell') = true := by rw [← Array.all_toList]; rfl
    go_wp2_with (refine wpList_store_row rfl 33 (.tmp 2) _ rfl w.heap.size #[.int .i64 0, .int .i64 0, .int .u64 0, .int .i64 0, .int .u64 0, .slice none 0 0, .int .u32 0, .int .u32 0, .int .i64 0, .int .i64 0, .int .i64 0, .int .i64 0, .int .i64 0, .int .u64 0, .int .i64 0, .int .i64 0, .int .i64 0] rfl rfl 33 _ K2 (by kernel_rfl) rfl H1 ?_)
    have KR : Blk (W0.setRow w.heap.size #[.int .i64 0, .int .i64 0, .int .u64 0, .int .i64 0, .int .u64 0, .slice none 0 0, .int .u32 0, .int .u32 0, .int .i64 0, .int .i64 0, .int .i64 0, .int .i64 0, .int .i64 0, .int .u64 0, .int .i64 0, .int .i64 0, .int .i64 0]) w.heap.size 33 #[.int .i64 0, .int .i64 0, .int .u64 0, .int .i64 0, .int .u64 0, .slice none 0 0, .int .u32 0, .int .u32 0, .int .i64 0, .int .i64 0, .int .i64 0, .int .i64 0, .int .i64 0, .int .u64 0, .int .i64 0, .int .i64 0, .int .i64 0] := setRow_heap W0 w.heap.size _ #[.int .i64 0, .int .i64 0, .int .u64 0, .int .i64 0, .int .u64 0, .slice none 0 0, .int .u32 0, .int .u32 0, .int .i64 0, .int .i64 0, .int .i64 0, .int .i64 0, .int .i64 0, .int .u64 0, .int .i64 0, .int .i64 0, .int .i64 0] 33 (0, 0) K2
    have BE := below_setRow BX (Nat.le_refl _) #[.int .i64 0, .int .i64 0, .int .u64 0, .int .i64 0, .int .u64 0, .slice none 0 0, .int .u32 0, .int .u32 0, .int .i64 0, .int .i64 0, .int .i64 0, .int .i64 0, .int .i64 0, .int .u64 0, .int .i64 0, .int .i64 0, .int .i64 0]
    generalize W0.setRow w.heap.size #[.int .i64 0, .int .i64 0, .int .u64 0, .int .i64 0, .int .u64 0, .slice none 0 0, .int .u32 0, .int .u32 0, .int .i64 0, .int .i64 0, .int .i64 0, .int .i64 0, .int .i64 0, .int .u64 0, .int .i64 0, .int .i64 0, .int .i64 0] = Y at *
    refine bodyPost_ret (v := .tuple #[.agg #[.int .i64 0, .int .i64 0, .int .u64 0, .int .i64 0, .int .u64 0, .slice none 0 0, .int .u32 0, .int .u32 0, .int .i64 0, .int .i64 0, .int .i64 0, .int .i64 0, .int .i64 0, .int .u64 0, .int .i64 0, .int .i64 0, .int .i64 0], .int .i64 3]) ?_ rfl ⟨none, 0, (by rw [HZ.out]; rfl), (by rw [HZ.out]; exact Nat.le_refl _), (by rw [HZ.out]; exact .inl rfl), BE⟩
    have HL := run_loadVar_row (P := Tryd.prog) Y w.heap.size 33 33 #[.int .i64 0, .int .i64 0, .int .u64 0, .int .i64 0, .int .u64 0, .slice none 0 0, .int .u32 0, .int .u32 0, .int .i64 0, .int .i64 0, .int .i64 0, .int .i64 0, .int .i64 0, .int .u64 0, .int .i64 0, .int .i64 0, .int .i64 0] (0, 0) _ KR Tryd.underlying33 rfl (by kernel_rfl)
    generalize (#[.int .i64 0, .int .i64 0, .int .u64 0, .int .i64 0, .int .u64 0, .slice none 0 0, .int .u32 0, .int .u32 0, .int .i64 0, .int .i64 0, .int .i64 0, .int .i64 0, .int .i64 0, .int .u64 0, .int .i64 0, .int .i64 0, .int .i64 0] : Array Value) = CS at *
    simp [results, show (Tryd.f17).results = #[.cell 2 33, .slot 3] from rfl, asAddr, HL, Act.put]
  · obtain ⟨b, off, rfl, hbl, hc⟩ := hr.at_ (i := 0) (by omega)
    have c00 := hc 0 (by omega)
    rw [Nat.add_zero] at c00
    have c0 := (BX.cell (p := ⟨b, off, none⟩) hbl).trans c00
    clear c00
    have c1 := (BX.cell (p := ⟨b, off + 1, none⟩) hbl).trans (hc 1 (by omega))
    have hb0 : 0 ≤ xs.getD 0 0 ∧ xs.getD 0 0 ≤ 255 := bxs _ (by simp [List.getD, List.getElem?_eq_getElem (show 0 < xs.length by omega)])
    have hb1 : 0 ≤ xs.getD 1 0 ∧ xs.getD 1 0 ≤ 255 := bxs _ (by simp [List.getD, List.getElem?_eq_getElem (show 1 < xs.length by omega)])
    have HR : Hid (decP xs = (zp, hdrE xs)) := Lib.hid (decP_hdr h)
    have hE : hdrE xs = if 6 < xs.getD 0 0 % 16 then 12 else if xs.getD 0 0 / 16 % 4 ≠ 0 then 2 else if (n : Int) < 2 + xs.getD 1 0 then 3 else if 2 + xs.getD 1 0 < n then 2 else 0 := by unfold hdrE; rw [if_neg (by omega), hx]
    generalize decP xs = R at *
    generalize hdrE xs = E at *
    generalize xs.getD 0 0 = x at *
    generalize xs.getD 1 0 = y at *
    clear hc hx hr bxs
    have q1 : x.tmod 16 = x % 16 := Int.tmod_eq_emod_of_nonneg hb0.1
    have q2 : IntKind.u8.wrap (x.tdiv 16) = x / 16 := quo16 x hb0
    have q3 : (x / 16).tmod 4 = x / 16 % 4 := Int.tmod_eq_emod_of_nonneg (by omega)
    have e4 : IntKind.i64.wrap ((n : Int) - 2) = (n : Int) - 2 := by rw [IntWalk.i64_in _ (by omega)]
    have e5 : IntKind.i64.wrap y = y := by rw [IntWalk.i64_in _ (by omega)]
    have gn : (0 : Int) < (n : Int) ∧ (1 : Int) < (n : Int) ∧ 0 < n ∧ 1 < n ∧ ¬ (n : Int) < 2 := by omega
    obtain ⟨gn1, gn2, gn3, gn4, gn5⟩ := gn
    by_cases k1 : 6 < x % 16
    · skip
      have HZ : Hid (R = (zp, 12)) := Lib.hid (by rw [HR.out, hE, if_pos k1])
      clear HR hE h
      go_enter Tryd.func17, Tryd.ntmps17
      go_upto_region 1 with (fail)
      generalize w.alloc (.cells #[.int .i64 0, .int .i64 0, .int .u64 0, .int .i64 0, .int .u64 0, .slice none 0 0, .int .u32 0, .int .u32 0, .int .i64 0, .int .i64 0, .int .i64 0, .int .i64 0, .int .i64 0, .int .u64 0, .int .i64 0, .int .i64 0, .int .i64 0] 33) = W0 at *
      have H1 : (#[.int .i64 0, .int .i64 0, .int .u64 0, .int .i64 0, .int .u64 0, .slice none 0 0, .int .u32 0, .int .u32 0, .int .i64 0, .int .i64 0, .int .i64 0, .int .i64 0, .int .i64 0, .int .u64 0, .int .i64 0, .int .i64 0, .int .i64 0] : Array Value).all (·.oneCell') = true := by rw [← Array.all_toList]; rfl
      go_wp2_with (refine wpList_store_row rfl 33 (.tmp 2) _ rfl w.heap.size #[.int .i64 0, .int .i64 0, .int .u64 0, .int .i64 0, .int .u64 0, .slice none 0 0, .int .u32 0, .int .u32 0, .int .i64 0, .int .i64 0, .int .i64 0, .int .i64 0, .int .i64 0, .int .u64 0, .int .i64 0, .int .i64 0, .int .i64 0] rfl rfl 33 _ K2 (by kernel_rfl) rfl H1 ?_)
      have KR : Blk (W0.setRow w.heap.size #[.int .i64 0, .int .i64 0, .int .u64 0, .int .i64 0, .int .u64 0, .slice none 0 0, .int .u32 0, .int .u32 0, .int .i64 0, .int .i64 0, .int .i64 0, .int .i64 0, .int .i64 0, .int .u64 0, .int .i64 0, .int .i64 0, .int .i64 0]) w.heap.size 33 #[.int .i64 0, .int .i64 0, .int .u64 0, .int .i64 0, .int .u64 0, .slice none 0 0, .int .u32 0, .int .u32 0, .int .i64 0, .int .i64 0, .int .i64 0, .int .i64 0, .int .i64 0, .int .u64 0, .int .i64 0, .int .i64 0, .int .i64 0] := setRow_heap W0 w.heap.size _ #[.int .i64 0, .int .i64 0, .int .u64 0, .int .i64 0, .int .u64 0, .slice none 0 0, .int .u32 0, .int .u32 0, .int .i64 0, .int .i64 0, .int .i64 0, .int .i64 0, .int .i64 0, .int .u64 0, .int .i64 0, .int .i64 0, .int .i64 0] 33 (0, 0) K2
      have BE := below_setRow BX (Nat.le_refl _) #[.int .i64 0, .int .i64 0, .int .u64 0, .int .i64 0, .int .u64 0, .slice none 0 0, .int .u32 0, .int .u32 0, .int .i64 0, .int .i64 0, .int .i64 0, .int .i64 0, .int .i64 0, .int .u64 0, .int .i64 0, .int .i64 0, .int .i64 0]
      generalize W0.setRow w.heap.size #[.int .i64 0, .int .i64 0, .int .u64 0, .int .i64 0, .int .u64 0, .slice none 0 0, .int .u32 0, .int .u32 0, .int .i64 0, .int .i64 0, .int .i64 0, .int .i64 0, .int .i64 0, .int .u64 0, .int .i64 0, .int .i64 0, .int .i64 0] = Y at *
      refine bodyPost_ret (v := .tuple #[.agg #[.int .i64 0, .int .i64 0, .int .u64 0, .int .i64 0, .int .u64 0, .slice none 0 0, .int .u32 0, .int .u32 0, .int .i64 0, .int .i64 0, .int .i64 0, .int .i64 0, .int .i64 0, .int .u64 0, .int .i64 0, .int .i64 0, .int .i64 0], .int .i64 12]) ?_ rfl ⟨none, 0, (by rw [HZ.out]; rfl), (by rw [HZ.out]; exact Nat.le_refl _), (by rw [HZ.out]; exact .inl rfl), BE⟩
      have HL := run_loadVar_row (P := Tryd.prog) Y w.heap.size 33 33 #[.int .i64 0, .int .i64 0, .int .u64 0, .int .i64 0, .int .u64 0, .slice none 0 0, .int .u32 0, .int .u32 0, .int .i64 0, .int .i64 0, .int .i64 0, .int .i64 0, .int .i64 0, .int .u64 0, .int .i64 0, .int .i64 0, .int .i64 0] (0, 0) _ KR Tryd.underlying33 rfl (by kernel_rfl)
      generalize (#[.int .i64 0, .int .i64 0, .int .u64 0, .int .i64 0, .int .u64 0, .slice none 0 0, .int .u32 0, .int .u32 0, .int .i64 0, .int .i64 0, .int .i64 0, .int .i64 0, .int .i64 0, .int .u64 0, .int .i64 0, .int .i64 0, .int .i64 0] : Array Value) = CS at *
      simp [results, show (Tryd.f17).results = #[.cell 2 33, .slot 3] from rfl, asAddr, HL, Act.put]
    · by_cases k2 : x / 16 % 4 = 0
      · have k2b : (x / 16 % 4 != 0) = false := by simpa using k2
        by_cases k3 : (n : Int) < 2 + y
        · skip
          have HZ : Hid (R = (zp, 3)) := Lib.hid (by rw [HR.out, hE, if_neg k1, if_neg (by simpa using k2), if_pos k3])
          have k3b : (n : Int) - 2 < y := by omega
          clear HR hE h
          go_enter Tryd.func17, Tryd.ntmps17
          go_upto_region 1 with (fail)
          generalize w.alloc (.cells #[.int .i64 0, .int .i64 0, .int .u64 0, .int .i64 0, .int .u64 0, .slice none 0 0, .int .u32 0, .int .u32 0, .int .i64 0, .int .i64 0, .int .i64 0, .int .i64 0, .int .i64 0, .int .u64 0, .int .i64 0, .int .i64 0, .int .i64 0] 33) = W0 at *
          have H1 : (#[.int .i64 0, .int .i64 0, .int .u64 0, .int .i64 0, .int .u64 0, .slice none 0 0, .int .u32 0, .int .u32 0, .int .i64 0, .int .i64 0, .int .i64 0, .int .i64 0, .int .i64 0, .int .u64 0, .int .i64 0, .int .i64 0, .int .i64 0] : Array Value).all (·.oneCell') = true := by rw [← Array.all_toList]; rfl
          go_wp2_with (refine wpList_store_row rfl 33 (.tmp 2) _ rfl w.heap.size #[.int .i64 0, .int .i64 0, .int .u64 0, .int .i64 0, .int .u64 0, .slice none 0 0, .int .u32 0, .int .u32 0, .int .i64 0, .int .i64 0, .int .i64 0, .int .i64 0, .int .i64 0, .int .u64 0, .int .i64 0, .int .i64 0, .int .i64 0] rfl rfl 33 _ K2 (by kernel_rfl) rfl H1 ?_)
          have KR : Blk (W0.setRow w.heap.size #[.int .i64 0, .int .i64 0, .int .u64 0, .int .i64 0, .int .u64 0, .slice none 0 0, .int .u32 0, .int .u32 0, .int .i64 0, .int .i64 0, .int .i64 0, .int .i64 0, .int .i64 0, .int .u64 0, .int .i64 0, .int .i64 0, .int .i64 0]) w.heap.size 33 #[.int .i64 0, .int .i64 0, .int .u64 0, .int .i64 0, .int .u64 0, .slice none 0 0, .int .u32 0, .int .u32 0, .int .i64 0, .int .i64 0, .int .i64 0, .int .i64 0, .int .i64 0, .int .u64 0, .int .i64 0, .int .i64 0, .int .i64 0] := setRow_heap W0 w.heap.size _ #[.int .i64 0, .int .i64 0, .int .u64 0, .int .i64 0, .int .u64 0, .slice none 0 0, .int .u32 0, .int .u32 0, .int .i64 0, .int .i64 0, .int .i64 0, .int .i64 0, .int .i64 0, .int .u64 0, .int .i64 0, .int .i64 0, .int .i64 0] 33 (0, 0) K2
          have BE := below_setRow BX (Nat.le_refl _) #[.int .i64 0, .int .i64 0, .int .u64 0, .int .i64 0, .int .u64 0, .slice none 0 0, .int .u32 0, .int .u32 0, .int .i64 0, .int .i64 0, .int .i64 0, .int .i64 0, .int .i64 0, .int .u64 0, .int .i64 0, .int .i64 0, .int .i64 0]
          generalize W0.setRow w.heap.size #[.int .i64 0, .int .i64 0, .int .u64 0, .int .i64 0, .int .u64 0, .slice none 0 0, .int .u32 0, .int .u32 0, .int .i64 0, .int .i64 0, .int .i64 0, .int .i64 0, .int .i64 0, .int .u64 0, .int .i64 0, .int .i64 0, .int .i64 0] = Y at *
          refine bodyPost_ret (v := .tuple #[.agg #[.int .i64 0, .int .i64 0, .int .u64 0, .int .i64 0, .int .u64 0, .slice none 0 0, .int .u32 0, .int .u32 0, .int .i64 0, .int .i64 0, .int .i64 0, .int .i64 0, .int .i64 0, .int .u64 0, .int .i64 0, .int .i64 0, .int .i64 0], .int .i64 3]) ?_ rfl ⟨none, 0, (by rw [HZ.out]; rfl), (by rw [HZ.out]; exact Nat.le_refl _), (by rw [HZ.out]; exact .inl rfl), BE⟩
          have HL := run_loadVar_row (P := Tryd.prog) Y w.heap.size 33 33 #[.int .i64 0, .int .i64 0, .int .u64 0, .int .i64 0, .int .u64 0, .slice none 0 0, .int .u32 0, .int .u32 0, .int .i64 0, .int .i64 0, .int .i64 0, .int .i64 0, .int .i64 0, .int .u64 0, .int .i64 0, .int .i64 0, .int .i64 0] (0, 0) _ KR Tryd.underlying33 rfl (by kernel_rfl)
          generalize (#[.int .i64 0, .int .i64 0, .int .u64 0, .int .i64 0, .int .u64 0, .slice none 0 0, .int .u32 0, .int .u32 0, .int .i64 0, .int .i64 0, .int .i64 0, .int .i64 0, .int .i64 0, .int .u64 0, .int .i64 0, .int .i64 0, .int .i64 0] : Array Value) = CS at *
          simp [results, show (Tryd.f17).results = #[.cell 2 33, .slot 3] from rfl, asAddr, HL, Act.put]
        · by_cases k4 : 2 + y < (n : Int)
          · skip
            have HZ : Hid (R = (zp, 2)) := Lib.hid (by rw [HR.out, hE, if_neg k1, if_neg (by simpa using k2), if_neg k3, if_pos k4])
            have k3b : ¬ (n : Int) - 2 < y := by omega
            have k4b : y < (n : Int) - 2 := by omega
            clear HR hE h
            go_enter Tryd.func17, Tryd.ntmps17
            go_upto_region 1 with (fail)
            generalize w.alloc (.cells #[.int .i64 0, .int .i64 0, .int .u64 0, .int .i64 0, .int .u64 0, .slice none 0 0, .int .u32 0, .int .u32 0, .int .i64 0, .int .i64 0, .int .i64 0, .int .i64 0, .int .i64 0, .int .u64 0, .int .i64 0, .int .i64 0, .int .i64 0] 33) = W0 at *
            have H1 : (#[.int .i64 0, .int .i64 0, .int .u64 0, .int .i64 0, .int .u64 0, .slice none 0 0, .int .u32 0, .int .u32 0, .int .i64 0, .int .i64 0, .int .i64 0, .int .i64 0, .int .i64 0, .int .u64 0, .int .i64 0, .int .i64 0, .int .i64 0] : Array Value).all (·.oneCell') = true := by rw [← Array.all_toList]; rfl
            go_wp2_with (refine wpList_store_row rfl 33 (.tmp 2) _ rfl w.heap.size #[.int .i64 0, .int .i64 0, .int .u64 0, .int .i64 0, .int .u64 0, .slice none 0 0, .int .u32 0, .int .u32 0, .int .i64 0, .int .i64 0, .int .i64 0, .int .i64 0, .int .i64 0, .int .u64 0, .int .i64 0, .int .i64 0, .int .i64 0] rfl rfl 33 _ K2 (by kernel_rfl) rfl H1 ?_)
            have KR : Blk (W0.setRow w.heap.size #[.int .i64 0, .int .i64 0, .int .u64 0, .int .i64 0, .int .u64 0, .slice none 0 0, .int .u32 0, .int .u32 0, .int .i64 0, .int .i64 0, .int .i64 0, .int .i64 0, .int .i64 0, .int .u64 0, .int .i64 0, .int .i64 0, .int .i64 0]) w.heap.size 33 #[.int .i64 0, .int .i64 0, .int .u64 0, .int .i64 0, .int .u64 0, .slice none 0 0, .int .u32 0, .int .u32 0, .int .i64 0, .int .i64 0, .int .i64 0, .int .i64 0, .int .i64 0, .int .u64 0, .int .i64 0, .int .i64 0, .int .i64 0] := setRow_heap W0 w.heap.size _ #[.int .i64 0, .int .i64 0, .int .u64 0, .int .i64 0, .int .u64 0, .slice none 0 0, .int .u32 0, .int .u32 0, .int .i64 0, .int .i64 0, .int .i64 0, .int .i64 0, .int .i64 0, .int .u64 0, .int .i64 0, .int .i64 0, .int .i64 0] 33 (0, 0) K2
            have BE := below_setRow BX (Nat.le_refl _) #[.int .i64 0, .int .i64 0, .int .u64 0, .int .i64 0, .int .u64 0, .slice none 0 0, .int .u32 0, .int .u32 0, .int .i64 0, .int .i64 0, .int .i64 0, .int .i64 0, .int .i64 0, .int .u64 0, .int .i64 0, .int .i64 0, .int .i64 0]
            generalize W0.setRow w.heap.size #[.int .i64 0, .int .i64 0, .int .u64 0, .int .i64 0, .int .u64 0, .slice none 0 0, .int .u32 0, .int .u32 0, .int .i64 0, .int .i64 0, .int .i64 0, .int .i64 0, .int .i64 0, .int .u64 0, .int .i64 0, .int .i64 0, .int .i64 0] = Y at *
            refine bodyPost_ret (v := .tuple #[.agg #[.int .i64 0, .int .i64 0, .int .u64 0, .int .i64 0, .int .u64 0, .slice none 0 0, .int .u32 0, .int .u32 0, .int .i64 0, .int .i64 0, .int .i64 0, .int .i64 0, .int .i64 0, .int .u64 0, .int .i64 0, .int .i64 0, .int .i64 0], .int .i64 2]) ?_ rfl ⟨none, 0, (by rw [HZ.out]; rfl), (by rw [HZ.out]; exact Nat.le_refl _), (by rw [HZ.out]; exact .inl rfl), BE⟩
            have HL := run_loadVar_row (P := Tryd.prog) Y w.heap.size 33 33 #[.int .i64 0, .int .i64 0, .int .u64 0, .int .i64 0, .int .u64 0, .slice none 0 0, .int .u32 0, .int .u32 0, .int .i64 0, .int .i64 0, .int .i64 0, .int .i64 0, .int .i64 0, .int .u64 0, .int .i64 0, .int .i64 0, .int .i64 0] (0, 0) _ KR Tryd.underlying33 rfl (by kernel_rfl)
            generalize (#[.int .i64 0, .int .i64 0, .int .u64 0, .int .i64 0, .int .u64 0, .slice none 0 0, .int .u32 0, .int .u32 0, .int .i64 0, .int .i64 0, .int .i64 0, .int .i64 0, .int .i64 0, .int .u64 0, .int .i64 0, .int .i64 0, .int .i64 0] : Array Value) = CS at *
            simp [results, show (Tryd.f17).results = #[.cell 2 33, .slot 3] from rfl, asAddr, HL, Act.put]
          · exact absurd (by rw [hE, if_neg k1, if_neg (by simpa using k2), if_neg k3, if_neg k4]) h
      · have k2b : (x / 16 % 4 != 0) = true := by simpa using k2
        have HZ : Hid (R = (zp, 2)) := Lib.hid (by rw [HR.out, hE, if_neg k1, if_pos k2])
        clear HR hE h
        go_enter Tryd.func17, Tryd.ntmps17
        go_upto_region 1 with (fail)
        generalize w.alloc (.cells #[.int .i64 0, .int .i64 0, .int .u64 0, .int .i64 0, .int .u64 0, .slice none 0 0, .int .u32 0, .int .u32 0, .int .i64 0, .int .i64 0, .int .i64 0, .int .i64 0, .int .i64 0, .int .u64 0, .int .i64 0, .int .i64 0, .int .i64 0] 33) = W0 at *
        have H1 : (#[.int .i64 0, .int .i64 0, .int .u64 0, .int .i64 0, .int .u64 0, .slice none 0 0, .int .u32 0, .int .u32 0, .int .i64 0, .int .i64 0, .int .i64 0, .int .i64 0, .int .i64 0, .int .u64 0, .int .i64 0, .int .i64 0, .int .i64 0] : Array Value).all (·.oneCell') = true := by rw [← Array.all_toList]; rfl
        go_wp2_with (refine wpList_store_row rfl 33 (.tmp 2) _ rfl w.heap.size #[.int .i64 0, .int .i64 0, .int .u64 0, .int .i64 0, .int .u64 0, .slice none 0 0, .int .u32 0, .int .u32 0, .int .i64 0, .int .i64 0, .int .i64 0, .int .i64 0, .int .i64 0, .int .u64 0, .int .i64 0, .int .i64 0, .int .i64 0] rfl rfl 33 _ K2 (by kernel_rfl) rfl H1 ?_)
        have KR : Blk (W0.setRow w.heap.size #[.int .i64 0, .int .i64 0, .int .u64 0, .int .i64 0, .int .u64 0, .slice none 0 0, .int .u32 0, .int .u32 0, .int .i64 0, .int .i64 0, .int .i64 0, .int .i64 0, .int .i64 0, .int .u64 0, .int .i64 0, .int .i64 0, .int .i64 0]) w.heap.size 33 #[.int .i64 0, .int .i64 0, .int .u64 0, .int .i64 0, .int .u64 0, .slice none 0 0, .int .u32 0, .int .u32 0, .int .i64 0, .int .i64 0, .int .i64 0, .int .i64 0, .int .i64 0, .int .u64 0, .int .i64 0, .int .i64 0, .int .i64 0] := setRow_heap W0 w.heap.size _ #[.int .i64 0, .int .i64 0, .int .u64 0, .int .i64 0, .int .u64 0, .slice none 0 0, .int .u32 0, .int .u32 0, .int .i64 0, .int .i64 0, .int .i64 0, .int .i64 0, .int .i64 0, .int .u64 0, .int .i64 0, .int .i64 0, .int .i64 0] 33 (0, 0) K2
        have BE := below_setRow BX (Nat.le_refl _) #[.int .i64 0, .int .i64 0, .int .u64 0, .int .i64 0, .int .u64 0, .slice none 0 0, .int .u32 0, .int .u32 0, .int .i64 0, .int .i64 0, .int .i64 0, .int .i64 0, .int .i64 0, .int .u64 0, .int .i64 0, .int .i64 0, .int .i64 0]
        generalize W0.setRow w.heap.size #[.int .i64 0, .int .i64 0, .int .u64 0, .int .i64 0, .int .u64 0, .slice none 0 0, .int .u32 0, .int .u32 0, .int .i64 0, .int .i64 0, .int .i64 0, .int .i64 0, .int .i64 0, .int .u64 0, .int .i64 0, .int .i64 0, .int .i64 0] = Y at *
        refine bodyPost_ret (v := .tuple #[.agg #[.int .i64 0, .int .i64 0, .int .u64 0, .int .i64 0, .int .u64 0, .slice none 0 0, .int .u32 0, .int .u32 0, .int .i64 0, .int .i64 0, .int .i64 0, .int .i64 0, .int .i64 0, .int .u64 0, .int .i64 0, .int .i64 0, .int .i64 0], .int .i64 2]) ?_ rfl ⟨none, 0, (by rw [HZ.out]; rfl), (by rw [HZ.out]; exact Nat.le_refl _), (by rw [HZ.out]; exact .inl rfl), BE⟩
        have HL := run_loadVar_row (P := Tryd.prog) Y w.heap.size 33 33 #[.int .i64 0, .int .i64 0, .int .u64 0, .int .i64 0, .int .u64 0, .slice none 0 0, .int .u32 0, .int .u32 0, .int .i64 0, .int .i64 0, .int .i64 0, .int .i64 0, .int .i64 0, .int .u64 0, .int .i64 0, .int .i64 0, .int .i64 0] (0, 0) _ KR Tryd.underlying33 rfl (by kernel_rfl)
        generalize (#[.int .i64 0, .int .i64 0, .int .u64 0, .int .i64 0, .int .u64 0, .slice none 0 0, .int .u32 0, .int .u32 0, .int .i64 0, .int .i64 0, .int .i64 0, .int .i64 0, .int .i64 0, .int .u64 0, .int .i64 0, .int .i64 0, .int .i64 0] : Array Value) = CS at *
        simp [results, show (Tryd.f17).results = #[.cell 2 33, .slot 3] from rfl, asAddr, HL, Act.put]
end Go.Proofs.YtcjlliilfecmnaaDoor.Ap
