/- Acknowledgement: what a side takes, by the document: contracts over the document. -/
import Derived.Test.YtbnfjielnamepaaArqRT0
set_option linter.unusedVariables false
set_option linter.unusedSimpArgs false
namespace Go.Proofs.Ytbnfjielnamepaa.Arq
open Go.RowKit Mem Oct Rw Av Dp
open Base (thenB)

open List (getElem_toArray getElem_cons_zero getElem_cons_succ setIfInBounds_toArray set_cons_zero set_cons_succ)
set_option maxRecDepth 100000 in
set_option maxHeartbeats 40000000 in
theorem rtake_acked_e (sn nesn : Int) (q : List Pk) (A : Option Addr) (n c : Nat) (l : List Pm) (ack tak : Nat) (psn pnesn pmd : Int) (x : Pm) (o : Nat) (w : World) (hlc : n ≤ c) (hln : l.length = n) (hn : n ≤ 1000000) (hsn : sn = 0 ∨ sn = 1) (hne : nesn = 0 ∨ nesn = 1) (hca : ack ≤ 1000) (hct : tak ≤ 1000) (hq : QQ w 0 o (.slice A n c) l) (hl : l.map Pm.p = q) (hx : PP w o x) (ho : o ≤ w.heap.size) (h0 : chk ⟨psn, pnesn, pmd, x.p⟩ = 0) (ha : pnesn ≠ sn) :
  Calls Try.prog 34 #[.agg #[.int .i64 sn, .int .i64 nesn, .slice A n c, .bool true, .bool true, .int .i64 ack, .int .i64 tak], .agg #[.int .i64 psn, .int .i64 pnesn, .int .i64 pmd, .int .i64 x.k, .slice x.A x.v.length x.c]] w fun e w' => RTook w w' e (takeR ⟨sn, nesn, q, true, true, ack, tak⟩ ⟨psn, pnesn, pmd, x.p⟩) (.slice A n c) o := by
 have BX : Below w.heap.size w ((((w.alloc (.cells #[.int .i64 sn, .int .i64 nesn, .slice A n c, .bool true, .bool true, .int .i64 ack, .int .i64 tak] 43)).alloc (.cells #[.int .i64 psn, .int .i64 pnesn, .int .i64 pmd, .int .i64 x.k, .slice x.A x.v.length x.c] 26)).alloc (.cells #[.int .i64 0, .int .i64 0, .slice none 0 0, .bool false, .bool false, .int .i64 0, .int .i64 0] 43)).alloc (.cells #[.int .i64 0, .slice none 0 0] 24)) := ((((Below.refl _ _).alloc (Nat.le_refl _) _).alloc (by simp) _).alloc (by simp; omega) _).alloc (by simp; omega) _
 have K1 : Blk ((((w.alloc (.cells #[.int .i64 sn, .int .i64 nesn, .slice A n c, .bool true, .bool true, .int .i64 ack, .int .i64 tak] 43)).alloc (.cells #[.int .i64 psn, .int .i64 pnesn, .int .i64 pmd, .int .i64 x.k, .slice x.A x.v.length x.c] 26)).alloc (.cells #[.int .i64 0, .int .i64 0, .slice none 0 0, .bool false, .bool false, .int .i64 0, .int .i64 0] 43)).alloc (.cells #[.int .i64 0, .slice none 0 0] 24)) (w.heap.size) 43 #[.int .i64 sn, .int .i64 nesn, .slice A n c, .bool true, .bool true, .int .i64 ack, .int .i64 tak] := (((Blk.fresh w 43 #[.int .i64 sn, .int .i64 nesn, .slice A n c, .bool true, .bool true, .int .i64 ack, .int .i64 tak]).alloc _).alloc _).alloc _
 have K2 : Blk ((((w.alloc (.cells #[.int .i64 sn, .int .i64 nesn, .slice A n c, .bool true, .bool true, .int .i64 ack, .int .i64 tak] 43)).alloc (.cells #[.int .i64 psn, .int .i64 pnesn, .int .i64 pmd, .int .i64 x.k, .slice x.A x.v.length x.c] 26)).alloc (.cells #[.int .i64 0, .int .i64 0, .slice none 0 0, .bool false, .bool false, .int .i64 0, .int .i64 0] 43)).alloc (.cells #[.int .i64 0, .slice none 0 0] 24)) (w.heap.size + 1) 26 #[.int .i64 psn, .int .i64 pnesn, .int .i64 pmd, .int .i64 x.k, .slice x.A x.v.length x.c] := ((Av.Blk.next).alloc _).alloc _
 have K3 : Blk ((((w.alloc (.cells #[.int .i64 sn, .int .i64 nesn, .slice A n c, .bool true, .bool true, .int .i64 ack, .int .i64 tak] 43)).alloc (.cells #[.int .i64 psn, .int .i64 pnesn, .int .i64 pmd, .int .i64 x.k, .slice x.A x.v.length x.c] 26)).alloc (.cells #[.int .i64 0, .int .i64 0, .slice none 0 0, .bool false, .bool false, .int .i64 0, .int .i64 0] 43)).alloc (.cells #[.int .i64 0, .slice none 0 0] 24)) (w.heap.size + 2) 43 #[.int .i64 0, .int .i64 0, .slice none 0 0, .bool false, .bool false, .int .i64 0, .int .i64 0] := by
   have := (Blk.fresh ((w.alloc (.cells #[.int .i64 sn, .int .i64 nesn, .slice A n c, .bool true, .bool true, .int .i64 ack, .int .i64 tak] 43)).alloc (.cells #[.int .i64 psn, .int .i64 pnesn, .int .i64 pmd, .int .i64 x.k, .slice x.A x.v.length x.c] 26)) 43 #[.int .i64 0, .int .i64 0, .slice none 0 0, .bool false, .bool false, .int .i64 0, .int .i64 0]).alloc (.cells #[.int .i64 0, .slice none 0 0] 24)
   simpa using this
 have K4 : Blk ((((w.alloc (.cells #[.int .i64 sn, .int .i64 nesn, .slice A n c, .bool true, .bool true, .int .i64 ack, .int .i64 tak] 43)).alloc (.cells #[.int .i64 psn, .int .i64 pnesn, .int .i64 pmd, .int .i64 x.k, .slice x.A x.v.length x.c] 26)).alloc (.cells #[.int .i64 0, .int .i64 0, .slice none 0 0, .bool false, .bool false, .int .i64 0, .int .i64 0] 43)).alloc (.cells #[.int .i64 0, .slice none 0 0] 24)) (w.heap.size + 3) 24 #[.int .i64 0, .slice none 0 0] := by
   have := Blk.fresh (((w.alloc (.cells #[.int .i64 sn, .int .i64 nesn, .slice A n c, .bool true, .bool true, .int .i64 ack, .int .i64 tak] 43)).alloc (.cells #[.int .i64 psn, .int .i64 pnesn, .int .i64 pmd, .int .i64 x.k, .slice x.A x.v.length x.c] 26)).alloc (.cells #[.int .i64 0, .int .i64 0, .slice none 0 0, .bool false, .bool false, .int .i64 0, .int .i64 0] 43)) 24 #[.int .i64 0, .slice none 0 0]
   simpa using this
 have HQ := hq.below BX
 have HX := hx.below BX
 have HLb : Hid (l.map Pm.p = q) := Lib.hid hl
 have HOw : Hid ((Value.slice A n c).ownBlock ≠ some (w.heap.size + 3)) := Lib.hid fun h => by have := (hq.2.2 _ h).2; omega
 have HOn : Hid ((Value.slice A n c) = (.slice A n c) ∨ ∀ g, (Value.slice A n c).ownBlock = some g → w.heap.size ≤ g) := Lib.hid (.inl rfl)
 have HK := Lib.hid (rcheck_any psn pnesn pmd x.k x.A x.v.length x.c)
 obtain ⟨R, hR⟩ : ∃ R, chkN psn pnesn pmd x.k x.v.length = R := ⟨_, rfl⟩
 have hck : Hid (chk ⟨psn, pnesn, pmd, x.p⟩ = R) := Lib.hid hR
 rw [hR] at HK
 have eN : IntKind.i64.wrap (1 - nesn) = 1 - nesn := by rw [IntWalk.i64_in _ (by omega)]
 have eS : IntKind.i64.wrap (1 - sn) = 1 - sn := by rw [IntWalk.i64_in _ (by omega)]
 have eT : IntKind.i64.wrap ((tak : Int) + 1) = (tak : Int) + 1 := by rw [IntWalk.i64_in _ (by omega)]
 have eA : IntKind.i64.wrap ((ack : Int) + 1) = (ack : Int) + 1 := by rw [IntWalk.i64_in _ (by omega)]
 clear hq hx hR hl
 go_enter Try.func34, Try.ntmps34
 go_upto_region 1 with (fail)
 generalize (((w.alloc (.cells #[.int .i64 sn, .int .i64 nesn, .slice A n c, .bool true, .bool true, .int .i64 ack, .int .i64 tak] 43)).alloc (.cells #[.int .i64 psn, .int .i64 pnesn, .int .i64 pmd, .int .i64 x.k, .slice x.A x.v.length x.c] 26)).alloc (.cells #[.int .i64 0, .int .i64 0, .slice none 0 0, .bool false, .bool false, .int .i64 0, .int .i64 0] 43)).alloc (.cells #[.int .i64 0, .slice none 0 0] 24) = W2 at *
 have ga : (pnesn != sn) = true := by simpa using ha
 obtain rfl : R = 0 := by rw [← hck.out]; exact h0
 clear h0
 go_upto_region 3 with (first | (go_at_call 15; refine (HK.out _).mono ?_; rintro e W5 ⟨rfl, b9⟩; replace K1 := K1.below b9 K1.lt; replace K2 := K2.below b9 K2.lt; replace K3 := K3.below b9 K3.lt; replace K4 := K4.below b9 K4.lt; replace HQ := HQ.below b9; replace HX := HX.below b9; replace BX := thenB BX b9; clear b9) | (refine wpList_load_row rfl 26 (.tmp 3) rfl (w.heap.size + 1) rfl 26 _ (0, 0) _ K2 Try.underlying26 rfl (by kernel_rfl) ?_))
 have p3 := K1.cell 3
 have p0 := K1.cell 0
 have r1 := K2.cell 1
 have hac : Hid (ackB ⟨sn, nesn, q, true, true, ack, tak⟩ ⟨psn, pnesn, pmd, x.p⟩ = true) := Lib.hid (by unfold ackB; simp [ha])
 clear ha
 have hb1 : Hid (tk1 ⟨sn, nesn, q, true, true, ack, tak⟩ ⟨psn, pnesn, pmd, x.p⟩ = ⟨1 - sn, nesn, q, false, false, ack, tak⟩) := Lib.hid (by unfold tk1; rw [hac.out, if_pos rfl]; rfl)
 go_upto_region 5 with (fail)
 go_upto_region 6 with (refine Av.wpList_store_cell rfl _ _ _ rfl w.heap.size 0 (.int .i64 (1 - sn)) rfl rfl 43 _ K1 (by show 0 < 7; decide) (by kernel_rfl) rfl ?_)
 replace HQ := HQ.step (stp_cell (i := 0) K1 (.int .i64 (1 - sn))) (by decide) (by decide) ho
 replace HX := HX.step (stp_cell (i := 0) K1 (.int .i64 (1 - sn))) (by decide) ho
 replace K2 := (stp_cell (i := 0) K1 (.int .i64 (1 - sn))).blk_ne K2 (by omega)
 replace K3 := (stp_cell (i := 0) K1 (.int .i64 (1 - sn))).blk_ne K3 (by omega)
 replace K4 := (stp_cell (i := 0) K1 (.int .i64 (1 - sn))).blk_ne K4 (by omega)
 replace K1 := Av.bset K1 0 (.int .i64 (1 - sn)) rfl
 replace BX := BX.setCell (p := ⟨w.heap.size, 0, none⟩) (Nat.le_refl _) (.int .i64 (1 - sn))
 clear p3 p0 r1
 generalize W5.setCell ⟨w.heap.size, 0, none⟩ (.int .i64 (1 - sn)) = W6 at *
 have p4 := K1.cell 4
 have p2 := K1.cell 2
 go_upto_region 9 with (fail)
 clear p4 p2
 go_upto_region 10 with (first
  | (refine Av.wpList_store_cell rfl _ _ _ rfl w.heap.size 3 (.bool false) rfl rfl 43 _ K1 (by show 3 < 7; decide) (by kernel_rfl) rfl ?_; have sA := stp_cell (i := 3) K1 (.bool false); have K9 := Av.bset K1 3 (.bool false) rfl)
  | (refine Av.wpList_store_cell rfl _ _ _ rfl w.heap.size 4 (.bool false) rfl rfl 43 _ K9 (by show 4 < 7; decide) (by kernel_rfl) rfl ?_))
 have sB := stp_cell (i := 4) K9 (.bool false)
 replace K1 := Av.bset K9 4 (.bool false) rfl
 replace K2 := sB.blk_ne (sA.blk_ne K2 (by omega)) (by omega)
 replace K3 := sB.blk_ne (sA.blk_ne K3 (by omega)) (by omega)
 replace K4 := sB.blk_ne (sA.blk_ne K4 (by omega)) (by omega)
 replace HQ := (HQ.step sA (by decide) (by decide) ho).step sB (by decide) (by decide) ho
 replace HX := (HX.step sA (by decide) ho).step sB (by decide) ho
 replace BX := (BX.setCell (p := ⟨w.heap.size, 3, none⟩) (Nat.le_refl _) (.bool false)).setCell (p := ⟨w.heap.size, 4, none⟩) (Nat.le_refl _) (.bool false)
 clear sA sB K9 
 generalize (W6.setCell ⟨w.heap.size, 3, none⟩ (.bool false)).setCell ⟨w.heap.size, 4, none⟩ (.bool false) = W7 at *
 have q0 := K2.cell 0
 have q1 := K1.cell 1
 by_cases hn : psn = nesn
 ·
  have gn : (psn == nesn) = true := by simpa using hn
  have HON := Lib.hid hn
  clear hn
  go_upto_region 12 with (refine Av.wpList_store_cell rfl _ _ _ rfl w.heap.size 1 (.int .i64 (1 - nesn)) rfl rfl 43 _ K1 (by show 1 < 7; decide) (by kernel_rfl) rfl ?_)
  replace HQ := HQ.step (stp_cell (i := 1) K1 (.int .i64 (1 - nesn))) (by decide) (by decide) ho
  replace HX := HX.step (stp_cell (i := 1) K1 (.int .i64 (1 - nesn))) (by decide) ho
  replace K2 := (stp_cell (i := 1) K1 (.int .i64 (1 - nesn))).blk_ne K2 (by omega)
  replace K3 := (stp_cell (i := 1) K1 (.int .i64 (1 - nesn))).blk_ne K3 (by omega)
  replace K4 := (stp_cell (i := 1) K1 (.int .i64 (1 - nesn))).blk_ne K4 (by omega)
  replace K1 := Av.bset K1 1 (.int .i64 (1 - nesn)) rfl
  replace BX := BX.setCell (p := ⟨w.heap.size, 1, none⟩) (Nat.le_refl _) (.int .i64 (1 - nesn))
  clear q0 q1
  generalize W7.setCell ⟨w.heap.size, 1, none⟩ (.int .i64 (1 - nesn)) = X6 at *
  have q3 := K2.cell 3
  have q4 := K2.cell 4
  cases hbl : blankB x.k x.v.length with
  | true =>
   have HB := Lib.hid (isblank_to hbl x.A x.c)
   have HO := Lib.hid (take_blank hck.out hac.out hb1.out HON.out hbl)
   clear hbl
   go_upto_region 15 with (go_at_call 56; refine (HB.out X6).mono ?_; rintro e X7 ⟨rfl, b9⟩; replace K1 := K1.below b9 K1.lt; replace K2 := K2.below b9 K2.lt; replace K3 := K3.below b9 K3.lt; replace K4 := K4.below b9 K4.lt; replace HQ := HQ.below b9; replace HX := HX.below b9; replace BX := thenB BX b9; clear b9 q3 q4)
   have H1 : (#[.int .i64 (1 - sn), .int .i64 (1 - nesn), .slice A n c, .bool false, .bool false, .int .i64 (ack : Int), .int .i64 (tak : Int)] : Array Value).all (·.oneCell') = true := by rw [← Array.all_toList]; rfl
   have H2 : (#[.int .i64 0, .slice none 0 0] : Array Value).all (·.oneCell') = true := by rw [← Array.all_toList]; rfl
   go_wp2_with (first | (refine wpList_store_row rfl 43 (.tmp 4) _ rfl (w.heap.size + 2) #[.int .i64 (1 - sn), .int .i64 (1 - nesn), .slice A n c, .bool false, .bool false, .int .i64 (ack : Int), .int .i64 (tak : Int)] rfl rfl 43 _ K3 (by kernel_rfl) rfl H1 ?_; have sA := stp_row K3 #[.int .i64 (1 - sn), .int .i64 (1 - nesn), .slice A n c, .bool false, .bool false, .int .i64 (ack : Int), .int .i64 (tak : Int)]; have M3 := Av.bset_row (cs' := #[.int .i64 (1 - sn), .int .i64 (1 - nesn), .slice A n c, .bool false, .bool false, .int .i64 (ack : Int), .int .i64 (tak : Int)]) K3; have M4 := Av.bother_row (cs' := #[.int .i64 (1 - sn), .int .i64 (1 - nesn), .slice A n c, .bool false, .bool false, .int .i64 (ack : Int), .int .i64 (tak : Int)]) (g' := w.heap.size + 2) K4 (by omega)) | (refine wpList_store_row rfl 24 (.tmp 5) _ rfl (w.heap.size + 3) #[.int .i64 0, .slice none 0 0] rfl rfl 24 _ M4 (by kernel_rfl) rfl H2 ?_) | (refine wpList_load_row rfl 43 (.tmp 2) rfl w.heap.size rfl 43 _ (0, 0) _ K1 Try.underlying43 rfl (by kernel_rfl) ?_))
   have MQ := HQ.step sA (by decide) (by decide) (show o ≤ w.heap.size + 2 by omega)
   replace MQ := MQ.step_ne (stp_row M4 #[.int .i64 0, .slice none 0 0]) (by decide) HOw.out (show o ≤ w.heap.size + 3 by omega)
   have MA := Av.bother_row (cs' := #[.int .i64 0, .slice none 0 0]) (g' := w.heap.size + 3) M3 (by omega)
   have MC := Av.bset_row (cs' := #[.int .i64 0, .slice none 0 0]) M4
   have MB : Below w.heap.size w ((X7.setRow (w.heap.size + 2) #[.int .i64 (1 - sn), .int .i64 (1 - nesn), .slice A n c, .bool false, .bool false, .int .i64 (ack : Int), .int .i64 (tak : Int)]).setRow (w.heap.size + 3) #[.int .i64 0, .slice none 0 0]) := below_setRow (below_setRow BX (by omega) #[.int .i64 (1 - sn), .int .i64 (1 - nesn), .slice A n c, .bool false, .bool false, .int .i64 (ack : Int), .int .i64 (tak : Int)]) (by omega) #[.int .i64 0, .slice none 0 0]
   clear sA M3 M4 K1 HQ HX
   generalize (X7.setRow (w.heap.size + 2) #[.int .i64 (1 - sn), .int .i64 (1 - nesn), .slice A n c, .bool false, .bool false, .int .i64 (ack : Int), .int .i64 (tak : Int)]).setRow (w.heap.size + 3) #[.int .i64 0, .slice none 0 0] = Y at *
   refine bodyPost_ret (v := .tuple #[.agg #[.int .i64 (1 - sn), .int .i64 (1 - nesn), .slice A n c, .bool false, .bool false, .int .i64 (ack : Int), .int .i64 (tak : Int)], .agg #[.int .i64 0, .slice none 0 0], .bool false, .bool true]) ?_ rfl (by rw [HO.out]; exact ⟨_, l, ⟨0, none, 0, []⟩, rfl, MQ, HLb.out, rfl, pp_zero _ _ _, .inl rfl, MB⟩)
   have HLa := run_loadVar_row (P := Try.prog) Y (w.heap.size + 2) 43 43 #[.int .i64 (1 - sn), .int .i64 (1 - nesn), .slice A n c, .bool false, .bool false, .int .i64 (ack : Int), .int .i64 (tak : Int)] (0, 0) _ MA Try.underlying43 rfl (by kernel_rfl)
   have HLb := run_loadVar_row (P := Try.prog) Y (w.heap.size + 3) 24 24 #[.int .i64 0, .slice none 0 0] (0, 0) _ MC Try.underlying24 rfl (by kernel_rfl)
   generalize (#[.int .i64 (1 - sn), .int .i64 (1 - nesn), .slice A n c, .bool false, .bool false, .int .i64 (ack : Int), .int .i64 (tak : Int)] : Array Value) = CS at *
   generalize (#[.int .i64 0, .slice none 0 0] : Array Value) = CP at *
   simp [results, show (Try.f34).results = #[.cell 4 43, .cell 5 24, .slot 6, .slot 7] from rfl, asAddr, HLa, HLb, Act.put]
  | false =>
   have HB := Lib.hid (isblank_to hbl x.A x.c)
   have HO := Lib.hid (take_new hck.out hac.out hb1.out HON.out hbl)
   clear hbl
   go_upto_region 13 with (go_at_call 56; refine (HB.out X6).mono ?_; rintro e X7 ⟨rfl, b9⟩; replace K1 := K1.below b9 K1.lt; replace K2 := K2.below b9 K2.lt; replace K3 := K3.below b9 K3.lt; replace K4 := K4.below b9 K4.lt; replace HQ := HQ.below b9; replace HX := HX.below b9; replace BX := thenB BX b9; clear b9 q3 q4)
   have q6 := K1.cell 6
   go_upto_region 14 with (refine Av.wpList_store_cell rfl _ _ _ rfl w.heap.size 6 (.int .i64 ((tak : Int) + 1)) rfl rfl 43 _ K1 (by show 6 < 7; decide) (by kernel_rfl) rfl ?_)
   replace HQ := HQ.step (stp_cell (i := 6) K1 (.int .i64 ((tak : Int) + 1))) (by decide) (by decide) ho
   replace HX := HX.step (stp_cell (i := 6) K1 (.int .i64 ((tak : Int) + 1))) (by decide) ho
   replace K2 := (stp_cell (i := 6) K1 (.int .i64 ((tak : Int) + 1))).blk_ne K2 (by omega)
   replace K3 := (stp_cell (i := 6) K1 (.int .i64 ((tak : Int) + 1))).blk_ne K3 (by omega)
   replace K4 := (stp_cell (i := 6) K1 (.int .i64 ((tak : Int) + 1))).blk_ne K4 (by omega)
   replace K1 := Av.bset K1 6 (.int .i64 ((tak : Int) + 1)) rfl
   replace BX := BX.setCell (p := ⟨w.heap.size, 6, none⟩) (Nat.le_refl _) (.int .i64 ((tak : Int) + 1))
   clear q6
   generalize X7.setCell ⟨w.heap.size, 6, none⟩ (.int .i64 ((tak : Int) + 1)) = X8 at *
   have K1' : Blk X8.drew (w.heap.size) 43 #[.int .i64 (1 - sn), .int .i64 (1 - nesn), .slice A n c, .bool false, .bool false, .int .i64 (ack : Int), .int .i64 ((tak : Int) + 1)] := Mem.Blk.drew K1
   have K2' : Blk X8.drew (w.heap.size + 1) 26 #[.int .i64 psn, .int .i64 pnesn, .int .i64 pmd, .int .i64 x.k, .slice x.A x.v.length x.c] := Mem.Blk.drew K2
   have K3' : Blk X8.drew (w.heap.size + 2) 43 #[.int .i64 0, .int .i64 0, .slice none 0 0, .bool false, .bool false, .int .i64 0, .int .i64 0] := Mem.Blk.drew K3
   have K4' : Blk X8.drew (w.heap.size + 3) 24 #[.int .i64 0, .slice none 0 0] := Mem.Blk.drew K4
   refine wp_region_held_drew (S := (fun w' => Blk w' (w.heap.size + 1) 26 #[.int .i64 psn, .int .i64 pnesn, .int .i64 pmd, .int .i64 x.k, .slice x.A x.v.length x.c] ∧ Blk w' (w.heap.size) 43 #[.int .i64 (1 - sn), .int .i64 (1 - nesn), .slice A n c, .bool false, .bool false, .int .i64 (ack : Int), .int .i64 ((tak : Int) + 1)])) (by kernel_rfl) ?_ (fun hHeld => ?_)
   ·
    exact ⟨K2', K1'⟩
   replace K1 := K1'
   clear K1'
   replace K2 := K2'
   clear K2'
   replace K3 := K3'
   clear K3'
   replace K4 := K4'
   clear K4'
   replace BX : Below w.heap.size w X8.drew := BX.drew
   replace HQ := (show QQ X8.drew 0 o (.slice A n c) l from HQ.below ((Below.refl X8.heap.size X8).drew))
   replace HX := (show PP X8.drew o x from HX.below ((Below.refl X8.heap.size X8).drew))
   generalize X8.drew = Z0 at *
   refine wpAnyH_take (i := 0) (v := .agg #[.int .i64 (1 - sn), .int .i64 (1 - nesn), .slice A n c, .bool false, .bool false, .int .i64 (ack : Int), .int .i64 ((tak : Int) + 1)]) rfl (by kernel_rfl) (by kernel_rfl) (by kernel_rfl) (fun _ _ _ h => h) (Av.yields_part (by first | rfl | go_simp) _ _ rfl (w.heap.size) 0 rfl #[.int .i64 (1 - sn), .int .i64 (1 - nesn), .slice A n c, .bool false, .bool false, .int .i64 (ack : Int), .int .i64 ((tak : Int) + 1)] _ 43 #[.int .i64 (1 - sn), .int .i64 (1 - nesn), .slice A n c, .bool false, .bool false, .int .i64 (ack : Int), .int .i64 ((tak : Int) + 1)] (fun w9 hSw => hSw.2) rfl Try.underlying43 rfl (by kernel_rfl)) ‹_› ?_
   simp only [getElem_toArray, getElem_cons_zero, getElem_cons_succ, Act.put, setIfInBounds_toArray, set_cons_zero, set_cons_succ]
   refine wpAnyH_take (i := 1) (v := .pointer (some ⟨w.heap.size + 1, 3, none⟩)) rfl (by kernel_rfl) (by kernel_rfl) (by kernel_rfl) (fun _ _ _ h => h) (.inl ⟨by first | rfl | go_simp, by intro u h; (try dsimp only at h); go_simp⟩) ‹_› ?_
   simp only [getElem_toArray, getElem_cons_zero, getElem_cons_succ, Act.put, setIfInBounds_toArray, set_cons_zero, set_cons_succ]
   refine wpAnyH_take (i := 2) (v := .agg #[.int .i64 x.k, .slice x.A x.v.length x.c]) rfl (by kernel_rfl) (by kernel_rfl) (by kernel_rfl) (fun _ _ _ h => h) (Av.yields_part (by first | rfl | go_simp) _ _ rfl (w.heap.size + 1) 3 rfl #[.int .i64 x.k, .slice x.A x.v.length x.c] _ 26 #[.int .i64 psn, .int .i64 pnesn, .int .i64 pmd, .int .i64 x.k, .slice x.A x.v.length x.c] (fun w9 hSw => hSw.1) rfl Try.underlying24 rfl (by kernel_rfl)) ‹_› ?_
   simp only [getElem_toArray, getElem_cons_zero, getElem_cons_succ, Act.put, setIfInBounds_toArray, set_cons_zero, set_cons_succ]
   refine wpAnyH_take (i := 3) (v := .bool true) rfl (by kernel_rfl) (by kernel_rfl) (by kernel_rfl) (fun _ _ _ h => h) (.inl ⟨by first | rfl | go_simp, by intro u h; (try dsimp only at h); go_simp⟩) ‹_› ?_
   simp only [getElem_toArray, getElem_cons_zero, getElem_cons_succ, Act.put, setIfInBounds_toArray, set_cons_zero, set_cons_succ]
   refine wpAnyH_ready (rs := [4]) (by kernel_rfl) (by simp) ?_
   refine .cons rfl (fun K hK => ?_) .nil
   have H9 : (#[.int .i64 (1 - sn), .int .i64 (1 - nesn), .slice A n c, .bool false, .bool false, .int .i64 (ack : Int), .int .i64 ((tak : Int) + 1)] : Array Value).all (·.oneCell') = true := by rw [← Array.all_toList]; rfl
   refine Av.step_store_row rfl 43 (.tmp 4) (.tmp 64) rfl (w.heap.size + 2) #[.int .i64 (1 - sn), .int .i64 (1 - nesn), .slice A n c, .bool false, .bool false, .int .i64 (ack : Int), .int .i64 ((tak : Int) + 1)] rfl rfl 43 _ K3 (by kernel_rfl) rfl H9 ?_
   replace HQ := HQ.step (stp_row K3 #[.int .i64 (1 - sn), .int .i64 (1 - nesn), .slice A n c, .bool false, .bool false, .int .i64 (ack : Int), .int .i64 ((tak : Int) + 1)]) (by decide) (by decide) (show o ≤ w.heap.size + 2 by omega)
   replace HX := HX.step (stp_row K3 #[.int .i64 (1 - sn), .int .i64 (1 - nesn), .slice A n c, .bool false, .bool false, .int .i64 (ack : Int), .int .i64 ((tak : Int) + 1)]) (by decide) (show o ≤ w.heap.size + 2 by omega)
   replace K1 : Blk (Z0.setRow (w.heap.size + 2) #[.int .i64 (1 - sn), .int .i64 (1 - nesn), .slice A n c, .bool false, .bool false, .int .i64 (ack : Int), .int .i64 ((tak : Int) + 1)]) (w.heap.size) 43 #[.int .i64 (1 - sn), .int .i64 (1 - nesn), .slice A n c, .bool false, .bool false, .int .i64 (ack : Int), .int .i64 ((tak : Int) + 1)] := Av.bother_row K1 (by omega)
   replace K2 : Blk (Z0.setRow (w.heap.size + 2) #[.int .i64 (1 - sn), .int .i64 (1 - nesn), .slice A n c, .bool false, .bool false, .int .i64 (ack : Int), .int .i64 ((tak : Int) + 1)]) (w.heap.size + 1) 26 #[.int .i64 psn, .int .i64 pnesn, .int .i64 pmd, .int .i64 x.k, .slice x.A x.v.length x.c] := Av.bother_row K2 (by omega)
   replace K3 : Blk (Z0.setRow (w.heap.size + 2) #[.int .i64 (1 - sn), .int .i64 (1 - nesn), .slice A n c, .bool false, .bool false, .int .i64 (ack : Int), .int .i64 ((tak : Int) + 1)]) (w.heap.size + 2) 43 #[.int .i64 (1 - sn), .int .i64 (1 - nesn), .slice A n c, .bool false, .bool false, .int .i64 (ack : Int), .int .i64 ((tak : Int) + 1)] := Av.bset_row K3
   replace K4 : Blk (Z0.setRow (w.heap.size + 2) #[.int .i64 (1 - sn), .int .i64 (1 - nesn), .slice A n c, .bool false, .bool false, .int .i64 (ack : Int), .int .i64 ((tak : Int) + 1)]) (w.heap.size + 3) 24 #[.int .i64 0, .slice none 0 0] := Av.bother_row K4 (by omega)
   replace BX : Below w.heap.size w (Z0.setRow (w.heap.size + 2) #[.int .i64 (1 - sn), .int .i64 (1 - nesn), .slice A n c, .bool false, .bool false, .int .i64 (ack : Int), .int .i64 ((tak : Int) + 1)]) := below_setRow BX (by omega) _
   clear H9
   generalize Z0.setRow (w.heap.size + 2) #[.int .i64 (1 - sn), .int .i64 (1 - nesn), .slice A n c, .bool false, .bool false, .int .i64 (ack : Int), .int .i64 ((tak : Int) + 1)] = Z1 at *
   refine hK.out _ _ ⟨K2, K1⟩ (fun hHeld => ?_)
   clear hK K
   try simp only [getElem_toArray, getElem_cons_zero, getElem_cons_succ, Act.put, setIfInBounds_toArray, set_cons_zero, set_cons_succ]
   refine wpAnyH_ready (rs := [5]) (by kernel_rfl) (by simp) ?_
   refine .cons rfl (fun K hK => ?_) .nil
   have H9 : (#[.int .i64 x.k, .slice x.A x.v.length x.c] : Array Value).all (·.oneCell') = true := by rw [← Array.all_toList]; rfl
   refine Av.step_store_row rfl 24 (.tmp 5) (.tmp 66) rfl (w.heap.size + 3) #[.int .i64 x.k, .slice x.A x.v.length x.c] rfl rfl 24 _ K4 (by kernel_rfl) rfl H9 ?_
   replace HQ := HQ.step_ne (stp_row K4 #[.int .i64 x.k, .slice x.A x.v.length x.c]) (by decide) HOw.out (show o ≤ w.heap.size + 3 by omega)
   replace HX := HX.step (stp_row K4 #[.int .i64 x.k, .slice x.A x.v.length x.c]) (by decide) (show o ≤ w.heap.size + 3 by omega)
   replace K1 : Blk (Z1.setRow (w.heap.size + 3) #[.int .i64 x.k, .slice x.A x.v.length x.c]) (w.heap.size) 43 #[.int .i64 (1 - sn), .int .i64 (1 - nesn), .slice A n c, .bool false, .bool false, .int .i64 (ack : Int), .int .i64 ((tak : Int) + 1)] := Av.bother_row K1 (by omega)
   replace K2 : Blk (Z1.setRow (w.heap.size + 3) #[.int .i64 x.k, .slice x.A x.v.length x.c]) (w.heap.size + 1) 26 #[.int .i64 psn, .int .i64 pnesn, .int .i64 pmd, .int .i64 x.k, .slice x.A x.v.length x.c] := Av.bother_row K2 (by omega)
   replace K3 : Blk (Z1.setRow (w.heap.size + 3) #[.int .i64 x.k, .slice x.A x.v.length x.c]) (w.heap.size + 2) 43 #[.int .i64 (1 - sn), .int .i64 (1 - nesn), .slice A n c, .bool false, .bool false, .int .i64 (ack : Int), .int .i64 ((tak : Int) + 1)] := Av.bother_row K3 (by omega)
   replace K4 : Blk (Z1.setRow (w.heap.size + 3) #[.int .i64 x.k, .slice x.A x.v.length x.c]) (w.heap.size + 3) 24 #[.int .i64 x.k, .slice x.A x.v.length x.c] := Av.bset_row K4
   replace BX : Below w.heap.size w (Z1.setRow (w.heap.size + 3) #[.int .i64 x.k, .slice x.A x.v.length x.c]) := below_setRow BX (by omega) _
   clear H9
   generalize Z1.setRow (w.heap.size + 3) #[.int .i64 x.k, .slice x.A x.v.length x.c] = Z2 at *
   refine hK.out _ _ ⟨K2, K1⟩ (fun hHeld => ?_)
   clear hK K
   try simp only [getElem_toArray, getElem_cons_zero, getElem_cons_succ, Act.put, setIfInBounds_toArray, set_cons_zero, set_cons_succ]
   refine wpAnyH_take (i := 6) (v := .bool true) rfl (by kernel_rfl) (by kernel_rfl) (by kernel_rfl) (fun _ _ _ h => h) (.inl ⟨by first | rfl | go_simp, by intro u h; (try dsimp only at h); go_simp⟩) ‹_› ?_
   simp only [getElem_toArray, getElem_cons_zero, getElem_cons_succ, Act.put, setIfInBounds_toArray, set_cons_zero, set_cons_succ]
   refine wpAnyH_take (i := 7) (v := .bool true) rfl (by kernel_rfl) (by kernel_rfl) (by kernel_rfl) (fun _ _ _ h => h) (.inl ⟨by first | rfl | go_simp, by intro u h; (try dsimp only at h); go_simp⟩) ‹_› ?_
   simp only [getElem_toArray, getElem_cons_zero, getElem_cons_succ, Act.put, setIfInBounds_toArray, set_cons_zero, set_cons_succ]
   refine wpAnyH_done (by kernel_rfl) ?_ _
   go_wp2_with fail
   have MQ := HQ
   have MA := K3
   have MC := K4
   have MB := BX
   clear hHeld K1 K2 K3 K4 HQ
   refine bodyPost_ret (v := .tuple #[.agg #[.int .i64 (1 - sn), .int .i64 (1 - nesn), .slice A n c, .bool false, .bool false, .int .i64 (ack : Int), .int .i64 ((tak : Int) + 1)], .agg #[.int .i64 x.k, .slice x.A x.v.length x.c], .bool true, .bool true]) ?_ rfl (by rw [HO.out]; exact ⟨_, l, x, rfl, MQ, HLb.out, rfl, HX, .inl rfl, MB⟩)
   have HLa := run_loadVar_row (P := Try.prog) Z2 (w.heap.size + 2) 43 43 #[.int .i64 (1 - sn), .int .i64 (1 - nesn), .slice A n c, .bool false, .bool false, .int .i64 (ack : Int), .int .i64 ((tak : Int) + 1)] (0, 0) _ MA Try.underlying43 rfl (by kernel_rfl)
   have HLb := run_loadVar_row (P := Try.prog) Z2 (w.heap.size + 3) 24 24 #[.int .i64 x.k, .slice x.A x.v.length x.c] (0, 0) _ MC Try.underlying24 rfl (by kernel_rfl)
   generalize (#[.int .i64 (1 - sn), .int .i64 (1 - nesn), .slice A n c, .bool false, .bool false, .int .i64 (ack : Int), .int .i64 ((tak : Int) + 1)] : Array Value) = CS at *
   generalize (#[.int .i64 x.k, .slice x.A x.v.length x.c] : Array Value) = CP at *
   simp [results, show (Try.f34).results = #[.cell 4 43, .cell 5 24, .slot 6, .slot 7] from rfl, asAddr, HLa, HLb, Act.put]
 ·
  have gn : (psn == nesn) = false := by simpa using hn
  have HO := Lib.hid (take_old hck.out hac.out hb1.out hn)
  clear hn
  go_upto_region 15 with (fail)
  clear q0 q1
  have H1 : (#[.int .i64 (1 - sn), .int .i64 nesn, .slice A n c, .bool false, .bool false, .int .i64 (ack : Int), .int .i64 (tak : Int)] : Array Value).all (·.oneCell') = true := by rw [← Array.all_toList]; rfl
  have H2 : (#[.int .i64 0, .slice none 0 0] : Array Value).all (·.oneCell') = true := by rw [← Array.all_toList]; rfl
  go_wp2_with (first | (refine wpList_store_row rfl 43 (.tmp 4) _ rfl (w.heap.size + 2) #[.int .i64 (1 - sn), .int .i64 nesn, .slice A n c, .bool false, .bool false, .int .i64 (ack : Int), .int .i64 (tak : Int)] rfl rfl 43 _ K3 (by kernel_rfl) rfl H1 ?_; have sA := stp_row K3 #[.int .i64 (1 - sn), .int .i64 nesn, .slice A n c, .bool false, .bool false, .int .i64 (ack : Int), .int .i64 (tak : Int)]; have M3 := Av.bset_row (cs' := #[.int .i64 (1 - sn), .int .i64 nesn, .slice A n c, .bool false, .bool false, .int .i64 (ack : Int), .int .i64 (tak : Int)]) K3; have M4 := Av.bother_row (cs' := #[.int .i64 (1 - sn), .int .i64 nesn, .slice A n c, .bool false, .bool false, .int .i64 (ack : Int), .int .i64 (tak : Int)]) (g' := w.heap.size + 2) K4 (by omega)) | (refine wpList_store_row rfl 24 (.tmp 5) _ rfl (w.heap.size + 3) #[.int .i64 0, .slice none 0 0] rfl rfl 24 _ M4 (by kernel_rfl) rfl H2 ?_) | (refine wpList_load_row rfl 43 (.tmp 2) rfl w.heap.size rfl 43 _ (0, 0) _ K1 Try.underlying43 rfl (by kernel_rfl) ?_))
  have MQ := HQ.step sA (by decide) (by decide) (show o ≤ w.heap.size + 2 by omega)
  replace MQ := MQ.step_ne (stp_row M4 #[.int .i64 0, .slice none 0 0]) (by decide) HOw.out (show o ≤ w.heap.size + 3 by omega)
  have MA := Av.bother_row (cs' := #[.int .i64 0, .slice none 0 0]) (g' := w.heap.size + 3) M3 (by omega)
  have MC := Av.bset_row (cs' := #[.int .i64 0, .slice none 0 0]) M4
  have MB : Below w.heap.size w ((W7.setRow (w.heap.size + 2) #[.int .i64 (1 - sn), .int .i64 nesn, .slice A n c, .bool false, .bool false, .int .i64 (ack : Int), .int .i64 (tak : Int)]).setRow (w.heap.size + 3) #[.int .i64 0, .slice none 0 0]) := below_setRow (below_setRow BX (by omega) #[.int .i64 (1 - sn), .int .i64 nesn, .slice A n c, .bool false, .bool false, .int .i64 (ack : Int), .int .i64 (tak : Int)]) (by omega) #[.int .i64 0, .slice none 0 0]
  clear sA M3 M4 K1 HQ HX
  generalize (W7.setRow (w.heap.size + 2) #[.int .i64 (1 - sn), .int .i64 nesn, .slice A n c, .bool false, .bool false, .int .i64 (ack : Int), .int .i64 (tak : Int)]).setRow (w.heap.size + 3) #[.int .i64 0, .slice none 0 0] = Y at *
  refine bodyPost_ret (v := .tuple #[.agg #[.int .i64 (1 - sn), .int .i64 nesn, .slice A n c, .bool false, .bool false, .int .i64 (ack : Int), .int .i64 (tak : Int)], .agg #[.int .i64 0, .slice none 0 0], .bool false, .bool true]) ?_ rfl (by rw [HO.out]; exact ⟨_, l, ⟨0, none, 0, []⟩, rfl, MQ, HLb.out, rfl, pp_zero _ _ _, .inl rfl, MB⟩)
  have HLa := run_loadVar_row (P := Try.prog) Y (w.heap.size + 2) 43 43 #[.int .i64 (1 - sn), .int .i64 nesn, .slice A n c, .bool false, .bool false, .int .i64 (ack : Int), .int .i64 (tak : Int)] (0, 0) _ MA Try.underlying43 rfl (by kernel_rfl)
  have HLb := run_loadVar_row (P := Try.prog) Y (w.heap.size + 3) 24 24 #[.int .i64 0, .slice none 0 0] (0, 0) _ MC Try.underlying24 rfl (by kernel_rfl)
  generalize (#[.int .i64 (1 - sn), .int .i64 nesn, .slice A n c, .bool false, .bool false, .int .i64 (ack : Int), .int .i64 (tak : Int)] : Array Value) = CS at *
  generalize (#[.int .i64 0, .slice none 0 0] : Array Value) = CP at *
  simp [results, show (Try.f34).results = #[.cell 4 43, .cell 5 24, .slot 6, .slot 7] from rfl, asAddr, HLa, HLb, Act.put]
set_option maxRecDepth 100000 in
set_option maxHeartbeats 40000000 in
theorem rtake_acked_n (sn nesn : Int) (q : List Pk) (A : Option Addr) (n c : Nat) (l : List Pm) (ack tak : Nat) (psn pnesn pmd : Int) (x : Pm) (o : Nat) (w : World) (hlc : n ≤ c) (hln : l.length = n) (hn : n ≤ 1000000) (hsn : sn = 0 ∨ sn = 1) (hne : nesn = 0 ∨ nesn = 1) (hca : ack ≤ 1000) (hct : tak ≤ 1000) (hq : QQ w 0 o (.slice A n c) l) (hl : l.map Pm.p = q) (hx : PP w o x) (ho : o ≤ w.heap.size) (h0 : chk ⟨psn, pnesn, pmd, x.p⟩ = 0) (ha : pnesn ≠ sn) (hz : q = []) :
  Calls Try.prog 34 #[.agg #[.int .i64 sn, .int .i64 nesn, .slice A n c, .bool true, .bool false, .int .i64 ack, .int .i64 tak], .agg #[.int .i64 psn, .int .i64 pnesn, .int .i64 pmd, .int .i64 x.k, .slice x.A x.v.length x.c]] w fun e w' => RTook w w' e (takeR ⟨sn, nesn, q, true, false, ack, tak⟩ ⟨psn, pnesn, pmd, x.p⟩) (.slice A n c) o := by
 have BX : Below w.heap.size w ((((w.alloc (.cells #[.int .i64 sn, .int .i64 nesn, .slice A n c, .bool true, .bool false, .int .i64 ack, .int .i64 tak] 43)).alloc (.cells #[.int .i64 psn, .int .i64 pnesn, .int .i64 pmd, .int .i64 x.k, .slice x.A x.v.length x.c] 26)).alloc (.cells #[.int .i64 0, .int .i64 0, .slice none 0 0, .bool false, .bool false, .int .i64 0, .int .i64 0] 43)).alloc (.cells #[.int .i64 0, .slice none 0 0] 24)) := ((((Below.refl _ _).alloc (Nat.le_refl _) _).alloc (by simp) _).alloc (by simp; omega) _).alloc (by simp; omega) _
 have K1 : Blk ((((w.alloc (.cells #[.int .i64 sn, .int .i64 nesn, .slice A n c, .bool true, .bool false, .int .i64 ack, .int .i64 tak] 43)).alloc (.cells #[.int .i64 psn, .int .i64 pnesn, .int .i64 pmd, .int .i64 x.k, .slice x.A x.v.length x.c] 26)).alloc (.cells #[.int .i64 0, .int .i64 0, .slice none 0 0, .bool false, .bool false, .int .i64 0, .int .i64 0] 43)).alloc (.cells #[.int .i64 0, .slice none 0 0] 24)) (w.heap.size) 43 #[.int .i64 sn, .int .i64 nesn, .slice A n c, .bool true, .bool false, .int .i64 ack, .int .i64 tak] := (((Blk.fresh w 43 #[.int .i64 sn, .int .i64 nesn, .slice A n c, .bool true, .bool false, .int .i64 ack, .int .i64 tak]).alloc _).alloc _).alloc _
 have K2 : Blk ((((w.alloc (.cells #[.int .i64 sn, .int .i64 nesn, .slice A n c, .bool true, .bool false, .int .i64 ack, .int .i64 tak] 43)).alloc (.cells #[.int .i64 psn, .int .i64 pnesn, .int .i64 pmd, .int .i64 x.k, .slice x.A x.v.length x.c] 26)).alloc (.cells #[.int .i64 0, .int .i64 0, .slice none 0 0, .bool false, .bool false, .int .i64 0, .int .i64 0] 43)).alloc (.cells #[.int .i64 0, .slice none 0 0] 24)) (w.heap.size + 1) 26 #[.int .i64 psn, .int .i64 pnesn, .int .i64 pmd, .int .i64 x.k, .slice x.A x.v.length x.c] := ((Av.Blk.next).alloc _).alloc _
 have K3 : Blk ((((w.alloc (.cells #[.int .i64 sn, .int .i64 nesn, .slice A n c, .bool true, .bool false, .int .i64 ack, .int .i64 tak] 43)).alloc (.cells #[.int .i64 psn, .int .i64 pnesn, .int .i64 pmd, .int .i64 x.k, .slice x.A x.v.length x.c] 26)).alloc (.cells #[.int .i64 0, .int .i64 0, .slice none 0 0, .bool false, .bool false, .int .i64 0, .int .i64 0] 43)).alloc (.cells #[.int .i64 0, .slice none 0 0] 24)) (w.heap.size + 2) 43 #[.int .i64 0, .int .i64 0, .slice none 0 0, .bool false, .bool false, .int .i64 0, .int .i64 0] := by
   have := (Blk.fresh ((w.alloc (.cells #[.int .i64 sn, .int .i64 nesn, .slice A n c, .bool true, .bool false, .int .i64 ack, .int .i64 tak] 43)).alloc (.cells #[.int .i64 psn, .int .i64 pnesn, .int .i64 pmd, .int .i64 x.k, .slice x.A x.v.length x.c] 26)) 43 #[.int .i64 0, .int .i64 0, .slice none 0 0, .bool false, .bool false, .int .i64 0, .int .i64 0]).alloc (.cells #[.int .i64 0, .slice none 0 0] 24)
   simpa using this
 have K4 : Blk ((((w.alloc (.cells #[.int .i64 sn, .int .i64 nesn, .slice A n c, .bool true, .bool false, .int .i64 ack, .int .i64 tak] 43)).alloc (.cells #[.int .i64 psn, .int .i64 pnesn, .int .i64 pmd, .int .i64 x.k, .slice x.A x.v.length x.c] 26)).alloc (.cells #[.int .i64 0, .int .i64 0, .slice none 0 0, .bool false, .bool false, .int .i64 0, .int .i64 0] 43)).alloc (.cells #[.int .i64 0, .slice none 0 0] 24)) (w.heap.size + 3) 24 #[.int .i64 0, .slice none 0 0] := by
   have := Blk.fresh (((w.alloc (.cells #[.int .i64 sn, .int .i64 nesn, .slice A n c, .bool true, .bool false, .int .i64 ack, .int .i64 tak] 43)).alloc (.cells #[.int .i64 psn, .int .i64 pnesn, .int .i64 pmd, .int .i64 x.k, .slice x.A x.v.length x.c] 26)).alloc (.cells #[.int .i64 0, .int .i64 0, .slice none 0 0, .bool false, .bool false, .int .i64 0, .int .i64 0] 43)) 24 #[.int .i64 0, .slice none 0 0]
   simpa using this
 have HQ := hq.below BX
 have HX := hx.below BX
 have HLb : Hid (l.map Pm.p = q) := Lib.hid hl
 have HOw : Hid ((Value.slice A n c).ownBlock ≠ some (w.heap.size + 3)) := Lib.hid fun h => by have := (hq.2.2 _ h).2; omega
 have HOn : Hid ((Value.slice A n c) = (.slice A n c) ∨ ∀ g, (Value.slice A n c).ownBlock = some g → w.heap.size ≤ g) := Lib.hid (.inl rfl)
 have HK := Lib.hid (rcheck_any psn pnesn pmd x.k x.A x.v.length x.c)
 obtain ⟨R, hR⟩ : ∃ R, chkN psn pnesn pmd x.k x.v.length = R := ⟨_, rfl⟩
 have hck : Hid (chk ⟨psn, pnesn, pmd, x.p⟩ = R) := Lib.hid hR
 rw [hR] at HK
 have eN : IntKind.i64.wrap (1 - nesn) = 1 - nesn := by rw [IntWalk.i64_in _ (by omega)]
 have eS : IntKind.i64.wrap (1 - sn) = 1 - sn := by rw [IntWalk.i64_in _ (by omega)]
 have eT : IntKind.i64.wrap ((tak : Int) + 1) = (tak : Int) + 1 := by rw [IntWalk.i64_in _ (by omega)]
 have eA : IntKind.i64.wrap ((ack : Int) + 1) = (ack : Int) + 1 := by rw [IntWalk.i64_in _ (by omega)]
 clear hq hx hR hl
 go_enter Try.func34, Try.ntmps34
 go_upto_region 1 with (fail)
 generalize (((w.alloc (.cells #[.int .i64 sn, .int .i64 nesn, .slice A n c, .bool true, .bool false, .int .i64 ack, .int .i64 tak] 43)).alloc (.cells #[.int .i64 psn, .int .i64 pnesn, .int .i64 pmd, .int .i64 x.k, .slice x.A x.v.length x.c] 26)).alloc (.cells #[.int .i64 0, .int .i64 0, .slice none 0 0, .bool false, .bool false, .int .i64 0, .int .i64 0] 43)).alloc (.cells #[.int .i64 0, .slice none 0 0] 24) = W2 at *
 have ga : (pnesn != sn) = true := by simpa using ha
 obtain rfl : R = 0 := by rw [← hck.out]; exact h0
 clear h0
 go_upto_region 3 with (first | (go_at_call 15; refine (HK.out _).mono ?_; rintro e W5 ⟨rfl, b9⟩; replace K1 := K1.below b9 K1.lt; replace K2 := K2.below b9 K2.lt; replace K3 := K3.below b9 K3.lt; replace K4 := K4.below b9 K4.lt; replace HQ := HQ.below b9; replace HX := HX.below b9; replace BX := thenB BX b9; clear b9) | (refine wpList_load_row rfl 26 (.tmp 3) rfl (w.heap.size + 1) rfl 26 _ (0, 0) _ K2 Try.underlying26 rfl (by kernel_rfl) ?_))
 have p3 := K1.cell 3
 have p0 := K1.cell 0
 have r1 := K2.cell 1
 have hac : Hid (ackB ⟨sn, nesn, q, true, false, ack, tak⟩ ⟨psn, pnesn, pmd, x.p⟩ = true) := Lib.hid (by unfold ackB; simp [ha])
 clear ha
 have hb1 : Hid (tk1 ⟨sn, nesn, q, true, false, ack, tak⟩ ⟨psn, pnesn, pmd, x.p⟩ = ⟨1 - sn, nesn, q, false, false, ack, tak⟩) := Lib.hid (by unfold tk1; rw [hac.out, if_pos rfl]; rw [hz]; rfl)
 obtain rfl : n = 0 := by rw [← hln, ← List.length_map (f := Pm.p), HLb.out, hz]; rfl
 have gz : ¬ ((0 : Int) < ((0 : Nat) : Int)) := by omega
 have gz0 : ¬ ((0 : Int) < 0) := by omega
 clear hz
 go_upto_region 5 with (fail)
 go_upto_region 6 with (refine Av.wpList_store_cell rfl _ _ _ rfl w.heap.size 0 (.int .i64 (1 - sn)) rfl rfl 43 _ K1 (by show 0 < 7; decide) (by kernel_rfl) rfl ?_)
 replace HQ := HQ.step (stp_cell (i := 0) K1 (.int .i64 (1 - sn))) (by decide) (by decide) ho
 replace HX := HX.step (stp_cell (i := 0) K1 (.int .i64 (1 - sn))) (by decide) ho
 replace K2 := (stp_cell (i := 0) K1 (.int .i64 (1 - sn))).blk_ne K2 (by omega)
 replace K3 := (stp_cell (i := 0) K1 (.int .i64 (1 - sn))).blk_ne K3 (by omega)
 replace K4 := (stp_cell (i := 0) K1 (.int .i64 (1 - sn))).blk_ne K4 (by omega)
 replace K1 := Av.bset K1 0 (.int .i64 (1 - sn)) rfl
 replace BX := BX.setCell (p := ⟨w.heap.size, 0, none⟩) (Nat.le_refl _) (.int .i64 (1 - sn))
 clear p3 p0 r1
 generalize W5.setCell ⟨w.heap.size, 0, none⟩ (.int .i64 (1 - sn)) = W6 at *
 have p4 := K1.cell 4
 have p2 := K1.cell 2
 go_upto_region 9 with (fail)
 clear p4 p2
 go_upto_region 10 with (first
  | (refine Av.wpList_store_cell rfl _ _ _ rfl w.heap.size 3 (.bool false) rfl rfl 43 _ K1 (by show 3 < 7; decide) (by kernel_rfl) rfl ?_; have sA := stp_cell (i := 3) K1 (.bool false); have K9 := Av.bset K1 3 (.bool false) rfl)
  | (refine Av.wpList_store_cell rfl _ _ _ rfl w.heap.size 4 (.bool false) rfl rfl 43 _ K9 (by show 4 < 7; decide) (by kernel_rfl) rfl ?_))
 have sB := stp_cell (i := 4) K9 (.bool false)
 replace K1 := Av.bset K9 4 (.bool false) rfl
 replace K2 := sB.blk_ne (sA.blk_ne K2 (by omega)) (by omega)
 replace K3 := sB.blk_ne (sA.blk_ne K3 (by omega)) (by omega)
 replace K4 := sB.blk_ne (sA.blk_ne K4 (by omega)) (by omega)
 replace HQ := (HQ.step sA (by decide) (by decide) ho).step sB (by decide) (by decide) ho
 replace HX := (HX.step sA (by decide) ho).step sB (by decide) ho
 replace BX := (BX.setCell (p := ⟨w.heap.size, 3, none⟩) (Nat.le_refl _) (.bool false)).setCell (p := ⟨w.heap.size, 4, none⟩) (Nat.le_refl _) (.bool false)
 clear sA sB K9 
 generalize (W6.setCell ⟨w.heap.size, 3, none⟩ (.bool false)).setCell ⟨w.heap.size, 4, none⟩ (.bool false) = W7 at *
 have q0 := K2.cell 0
 have q1 := K1.cell 1
 by_cases hn : psn = nesn
 ·
  have gn : (psn == nesn) = true := by simpa using hn
  have HON := Lib.hid hn
  clear hn
  go_upto_region 12 with (refine Av.wpList_store_cell rfl _ _ _ rfl w.heap.size 1 (.int .i64 (1 - nesn)) rfl rfl 43 _ K1 (by show 1 < 7; decide) (by kernel_rfl) rfl ?_)
  replace HQ := HQ.step (stp_cell (i := 1) K1 (.int .i64 (1 - nesn))) (by decide) (by decide) ho
  replace HX := HX.step (stp_cell (i := 1) K1 (.int .i64 (1 - nesn))) (by decide) ho
  replace K2 := (stp_cell (i := 1) K1 (.int .i64 (1 - nesn))).blk_ne K2 (by omega)
  replace K3 := (stp_cell (i := 1) K1 (.int .i64 (1 - nesn))).blk_ne K3 (by omega)
  replace K4 := (stp_cell (i := 1) K1 (.int .i64 (1 - nesn))).blk_ne K4 (by omega)
  replace K1 := Av.bset K1 1 (.int .i64 (1 - nesn)) rfl
  replace BX := BX.setCell (p := ⟨w.heap.size, 1, none⟩) (Nat.le_refl _) (.int .i64 (1 - nesn))
  clear q0 q1
  generalize W7.setCell ⟨w.heap.size, 1, none⟩ (.int .i64 (1 - nesn)) = X6 at *
  have q3 := K2.cell 3
  have q4 := K2.cell 4
  cases hbl : blankB x.k x.v.length with
  | true =>
   have HB := Lib.hid (isblank_to hbl x.A x.c)
   have HO := Lib.hid (take_blank hck.out hac.out hb1.out HON.out hbl)
   clear hbl
   go_upto_region 15 with (go_at_call 56; refine (HB.out X6).mono ?_; rintro e X7 ⟨rfl, b9⟩; replace K1 := K1.below b9 K1.lt; replace K2 := K2.below b9 K2.lt; replace K3 := K3.below b9 K3.lt; replace K4 := K4.below b9 K4.lt; replace HQ := HQ.below b9; replace HX := HX.below b9; replace BX := thenB BX b9; clear b9 q3 q4)
   have H1 : (#[.int .i64 (1 - sn), .int .i64 (1 - nesn), .slice A 0 c, .bool false, .bool false, .int .i64 (ack : Int), .int .i64 (tak : Int)] : Array Value).all (·.oneCell') = true := by rw [← Array.all_toList]; rfl
   have H2 : (#[.int .i64 0, .slice none 0 0] : Array Value).all (·.oneCell') = true := by rw [← Array.all_toList]; rfl
   go_wp2_with (first | (refine wpList_store_row rfl 43 (.tmp 4) _ rfl (w.heap.size + 2) #[.int .i64 (1 - sn), .int .i64 (1 - nesn), .slice A 0 c, .bool false, .bool false, .int .i64 (ack : Int), .int .i64 (tak : Int)] rfl rfl 43 _ K3 (by kernel_rfl) rfl H1 ?_; have sA := stp_row K3 #[.int .i64 (1 - sn), .int .i64 (1 - nesn), .slice A 0 c, .bool false, .bool false, .int .i64 (ack : Int), .int .i64 (tak : Int)]; have M3 := Av.bset_row (cs' := #[.int .i64 (1 - sn), .int .i64 (1 - nesn), .slice A 0 c, .bool false, .bool false, .int .i64 (ack : Int), .int .i64 (tak : Int)]) K3; have M4 := Av.bother_row (cs' := #[.int .i64 (1 - sn), .int .i64 (1 - nesn), .slice A 0 c, .bool false, .bool false, .int .i64 (ack : Int), .int .i64 (tak : Int)]) (g' := w.heap.size + 2) K4 (by omega)) | (refine wpList_store_row rfl 24 (.tmp 5) _ rfl (w.heap.size + 3) #[.int .i64 0, .slice none 0 0] rfl rfl 24 _ M4 (by kernel_rfl) rfl H2 ?_) | (refine wpList_load_row rfl 43 (.tmp 2) rfl w.heap.size rfl 43 _ (0, 0) _ K1 Try.underlying43 rfl (by kernel_rfl) ?_))
   have MQ := HQ.step sA (by decide) (by decide) (show o ≤ w.heap.size + 2 by omega)
   replace MQ := MQ.step_ne (stp_row M4 #[.int .i64 0, .slice none 0 0]) (by decide) HOw.out (show o ≤ w.heap.size + 3 by omega)
   have MA := Av.bother_row (cs' := #[.int .i64 0, .slice none 0 0]) (g' := w.heap.size + 3) M3 (by omega)
   have MC := Av.bset_row (cs' := #[.int .i64 0, .slice none 0 0]) M4
   have MB : Below w.heap.size w ((X7.setRow (w.heap.size + 2) #[.int .i64 (1 - sn), .int .i64 (1 - nesn), .slice A 0 c, .bool false, .bool false, .int .i64 (ack : Int), .int .i64 (tak : Int)]).setRow (w.heap.size + 3) #[.int .i64 0, .slice none 0 0]) := below_setRow (below_setRow BX (by omega) #[.int .i64 (1 - sn), .int .i64 (1 - nesn), .slice A 0 c, .bool false, .bool false, .int .i64 (ack : Int), .int .i64 (tak : Int)]) (by omega) #[.int .i64 0, .slice none 0 0]
   clear sA M3 M4 K1 HQ HX
   generalize (X7.setRow (w.heap.size + 2) #[.int .i64 (1 - sn), .int .i64 (1 - nesn), .slice A 0 c, .bool false, .bool false, .int .i64 (ack : Int), .int .i64 (tak : Int)]).setRow (w.heap.size + 3) #[.int .i64 0, .slice none 0 0] = Y at *
   refine bodyPost_ret (v := .tuple #[.agg #[.int .i64 (1 - sn), .int .i64 (1 - nesn), .slice A 0 c, .bool false, .bool false, .int .i64 (ack : Int), .int .i64 (tak : Int)], .agg #[.int .i64 0, .slice none 0 0], .bool false, .bool true]) ?_ rfl (by rw [HO.out]; exact ⟨_, l, ⟨0, none, 0, []⟩, rfl, MQ, HLb.out, rfl, pp_zero _ _ _, .inl rfl, MB⟩)
   have HLa := run_loadVar_row (P := Try.prog) Y (w.heap.size + 2) 43 43 #[.int .i64 (1 - sn), .int .i64 (1 - nesn), .slice A 0 c, .bool false, .bool false, .int .i64 (ack : Int), .int .i64 (tak : Int)] (0, 0) _ MA Try.underlying43 rfl (by kernel_rfl)
   have HLb := run_loadVar_row (P := Try.prog) Y (w.heap.size + 3) 24 24 #[.int .i64 0, .slice none 0 0] (0, 0) _ MC Try.underlying24 rfl (by kernel_rfl)
   generalize (#[.int .i64 (1 - sn), .int .i64 (1 - nesn), .slice A 0 c, .bool false, .bool false, .int .i64 (ack : Int), .int .i64 (tak : Int)] : Array Value) = CS at *
   generalize (#[.int .i64 0, .slice none 0 0] : Array Value) = CP at *
   simp [results, show (Try.f34).results = #[.cell 4 43, .cell 5 24, .slot 6, .slot 7] from rfl, asAddr, HLa, HLb, Act.put]
  | false =>
   have HB := Lib.hid (isblank_to hbl x.A x.c)
   have HO := Lib.hid (take_new hck.out hac.out hb1.out HON.out hbl)
   clear hbl
   go_upto_region 13 with (go_at_call 56; refine (HB.out X6).mono ?_; rintro e X7 ⟨rfl, b9⟩; replace K1 := K1.below b9 K1.lt; replace K2 := K2.below b9 K2.lt; replace K3 := K3.below b9 K3.lt; replace K4 := K4.below b9 K4.lt; replace HQ := HQ.below b9; replace HX := HX.below b9; replace BX := thenB BX b9; clear b9 q3 q4)
   have q6 := K1.cell 6
   go_upto_region 14 with (refine Av.wpList_store_cell rfl _ _ _ rfl w.heap.size 6 (.int .i64 ((tak : Int) + 1)) rfl rfl 43 _ K1 (by show 6 < 7; decide) (by kernel_rfl) rfl ?_)
   replace HQ := HQ.step (stp_cell (i := 6) K1 (.int .i64 ((tak : Int) + 1))) (by decide) (by decide) ho
   replace HX := HX.step (stp_cell (i := 6) K1 (.int .i64 ((tak : Int) + 1))) (by decide) ho
   replace K2 := (stp_cell (i := 6) K1 (.int .i64 ((tak : Int) + 1))).blk_ne K2 (by omega)
   replace K3 := (stp_cell (i := 6) K1 (.int .i64 ((tak : Int) + 1))).blk_ne K3 (by omega)
   replace K4 := (stp_cell (i := 6) K1 (.int .i64 ((tak : Int) + 1))).blk_ne K4 (by omega)
   replace K1 := Av.bset K1 6 (.int .i64 ((tak : Int) + 1)) rfl
   replace BX := BX.setCell (p := ⟨w.heap.size, 6, none⟩) (Nat.le_refl _) (.int .i64 ((tak : Int) + 1))
   clear q6
   generalize X7.setCell ⟨w.heap.size, 6, none⟩ (.int .i64 ((tak : Int) + 1)) = X8 at *
   have K1' : Blk X8.drew (w.heap.size) 43 #[.int .i64 (1 - sn), .int .i64 (1 - nesn), .slice A 0 c, .bool false, .bool false, .int .i64 (ack : Int), .int .i64 ((tak : Int) + 1)] := Mem.Blk.drew K1
   have K2' : Blk X8.drew (w.heap.size + 1) 26 #[.int .i64 psn, .int .i64 pnesn, .int .i64 pmd, .int .i64 x.k, .slice x.A x.v.length x.c] := Mem.Blk.drew K2
   have K3' : Blk X8.drew (w.heap.size + 2) 43 #[.int .i64 0, .int .i64 0, .slice none 0 0, .bool false, .bool false, .int .i64 0, .int .i64 0] := Mem.Blk.drew K3
   have K4' : Blk X8.drew (w.heap.size + 3) 24 #[.int .i64 0, .slice none 0 0] := Mem.Blk.drew K4
   refine wp_region_held_drew (S := (fun w' => Blk w' (w.heap.size + 1) 26 #[.int .i64 psn, .int .i64 pnesn, .int .i64 pmd, .int .i64 x.k, .slice x.A x.v.length x.c] ∧ Blk w' (w.heap.size) 43 #[.int .i64 (1 - sn), .int .i64 (1 - nesn), .slice A 0 c, .bool false, .bool false, .int .i64 (ack : Int), .int .i64 ((tak : Int) + 1)])) (by kernel_rfl) ?_ (fun hHeld => ?_)
   ·
    exact ⟨K2', K1'⟩
   replace K1 := K1'
   clear K1'
   replace K2 := K2'
   clear K2'
   replace K3 := K3'
   clear K3'
   replace K4 := K4'
   clear K4'
   replace BX : Below w.heap.size w X8.drew := BX.drew
   replace HQ := (show QQ X8.drew 0 o (.slice A 0 c) l from HQ.below ((Below.refl X8.heap.size X8).drew))
   replace HX := (show PP X8.drew o x from HX.below ((Below.refl X8.heap.size X8).drew))
   generalize X8.drew = Z0 at *
   refine wpAnyH_take (i := 0) (v := .agg #[.int .i64 (1 - sn), .int .i64 (1 - nesn), .slice A 0 c, .bool false, .bool false, .int .i64 (ack : Int), .int .i64 ((tak : Int) + 1)]) rfl (by kernel_rfl) (by kernel_rfl) (by kernel_rfl) (fun _ _ _ h => h) (Av.yields_part (by first | rfl | go_simp) _ _ rfl (w.heap.size) 0 rfl #[.int .i64 (1 - sn), .int .i64 (1 - nesn), .slice A 0 c, .bool false, .bool false, .int .i64 (ack : Int), .int .i64 ((tak : Int) + 1)] _ 43 #[.int .i64 (1 - sn), .int .i64 (1 - nesn), .slice A 0 c, .bool false, .bool false, .int .i64 (ack : Int), .int .i64 ((tak : Int) + 1)] (fun w9 hSw => hSw.2) rfl Try.underlying43 rfl (by kernel_rfl)) ‹_› ?_
   simp only [getElem_toArray, getElem_cons_zero, getElem_cons_succ, Act.put, setIfInBounds_toArray, set_cons_zero, set_cons_succ]
   refine wpAnyH_take (i := 1) (v := .pointer (some ⟨w.heap.size + 1, 3, none⟩)) rfl (by kernel_rfl) (by kernel_rfl) (by kernel_rfl) (fun _ _ _ h => h) (.inl ⟨by first | rfl | go_simp, by intro u h; (try dsimp only at h); go_simp⟩) ‹_› ?_
   simp only [getElem_toArray, getElem_cons_zero, getElem_cons_succ, Act.put, setIfInBounds_toArray, set_cons_zero, set_cons_succ]
   refine wpAnyH_take (i := 2) (v := .agg #[.int .i64 x.k, .slice x.A x.v.length x.c]) rfl (by kernel_rfl) (by kernel_rfl) (by kernel_rfl) (fun _ _ _ h => h) (Av.yields_part (by first | rfl | go_simp) _ _ rfl (w.heap.size + 1) 3 rfl #[.int .i64 x.k, .slice x.A x.v.length x.c] _ 26 #[.int .i64 psn, .int .i64 pnesn, .int .i64 pmd, .int .i64 x.k, .slice x.A x.v.length x.c] (fun w9 hSw => hSw.1) rfl Try.underlying24 rfl (by kernel_rfl)) ‹_› ?_
   simp only [getElem_toArray, getElem_cons_zero, getElem_cons_succ, Act.put, setIfInBounds_toArray, set_cons_zero, set_cons_succ]
   refine wpAnyH_take (i := 3) (v := .bool true) rfl (by kernel_rfl) (by kernel_rfl) (by kernel_rfl) (fun _ _ _ h => h) (.inl ⟨by first | rfl | go_simp, by intro u h; (try dsimp only at h); go_simp⟩) ‹_› ?_
   simp only [getElem_toArray, getElem_cons_zero, getElem_cons_succ, Act.put, setIfInBounds_toArray, set_cons_zero, set_cons_succ]
   refine wpAnyH_ready (rs := [4]) (by kernel_rfl) (by simp) ?_
   refine .cons rfl (fun K hK => ?_) .nil
   have H9 : (#[.int .i64 (1 - sn), .int .i64 (1 - nesn), .slice A 0 c, .bool false, .bool false, .int .i64 (ack : Int), .int .i64 ((tak : Int) + 1)] : Array Value).all (·.oneCell') = true := by rw [← Array.all_toList]; rfl
   refine Av.step_store_row rfl 43 (.tmp 4) (.tmp 64) rfl (w.heap.size + 2) #[.int .i64 (1 - sn), .int .i64 (1 - nesn), .slice A 0 c, .bool false, .bool false, .int .i64 (ack : Int), .int .i64 ((tak : Int) + 1)] rfl rfl 43 _ K3 (by kernel_rfl) rfl H9 ?_
   replace HQ := HQ.step (stp_row K3 #[.int .i64 (1 - sn), .int .i64 (1 - nesn), .slice A 0 c, .bool false, .bool false, .int .i64 (ack : Int), .int .i64 ((tak : Int) + 1)]) (by decide) (by decide) (show o ≤ w.heap.size + 2 by omega)
   replace HX := HX.step (stp_row K3 #[.int .i64 (1 - sn), .int .i64 (1 - nesn), .slice A 0 c, .bool false, .bool false, .int .i64 (ack : Int), .int .i64 ((tak : Int) + 1)]) (by decide) (show o ≤ w.heap.size + 2 by omega)
   replace K1 : Blk (Z0.setRow (w.heap.size + 2) #[.int .i64 (1 - sn), .int .i64 (1 - nesn), .slice A 0 c, .bool false, .bool false, .int .i64 (ack : Int), .int .i64 ((tak : Int) + 1)]) (w.heap.size) 43 #[.int .i64 (1 - sn), .int .i64 (1 - nesn), .slice A 0 c, .bool false, .bool false, .int .i64 (ack : Int), .int .i64 ((tak : Int) + 1)] := Av.bother_row K1 (by omega)
   replace K2 : Blk (Z0.setRow (w.heap.size + 2) #[.int .i64 (1 - sn), .int .i64 (1 - nesn), .slice A 0 c, .bool false, .bool false, .int .i64 (ack : Int), .int .i64 ((tak : Int) + 1)]) (w.heap.size + 1) 26 #[.int .i64 psn, .int .i64 pnesn, .int .i64 pmd, .int .i64 x.k, .slice x.A x.v.length x.c] := Av.bother_row K2 (by omega)
   replace K3 : Blk (Z0.setRow (w.heap.size + 2) #[.int .i64 (1 - sn), .int .i64 (1 - nesn), .slice A 0 c, .bool false, .bool false, .int .i64 (ack : Int), .int .i64 ((tak : Int) + 1)]) (w.heap.size + 2) 43 #[.int .i64 (1 - sn), .int .i64 (1 - nesn), .slice A 0 c, .bool false, .bool false, .int .i64 (ack : Int), .int .i64 ((tak : Int) + 1)] := Av.bset_row K3
   replace K4 : Blk (Z0.setRow (w.heap.size + 2) #[.int .i64 (1 - sn), .int .i64 (1 - nesn), .slice A 0 c, .bool false, .bool false, .int .i64 (ack : Int), .int .i64 ((tak : Int) + 1)]) (w.heap.size + 3) 24 #[.int .i64 0, .slice none 0 0] := Av.bother_row K4 (by omega)
   replace BX : Below w.heap.size w (Z0.setRow (w.heap.size + 2) #[.int .i64 (1 - sn), .int .i64 (1 - nesn), .slice A 0 c, .bool false, .bool false, .int .i64 (ack : Int), .int .i64 ((tak : Int) + 1)]) := below_setRow BX (by omega) _
   clear H9
   generalize Z0.setRow (w.heap.size + 2) #[.int .i64 (1 - sn), .int .i64 (1 - nesn), .slice A 0 c, .bool false, .bool false, .int .i64 (ack : Int), .int .i64 ((tak : Int) + 1)] = Z1 at *
   refine hK.out _ _ ⟨K2, K1⟩ (fun hHeld => ?_)
   clear hK K
   try simp only [getElem_toArray, getElem_cons_zero, getElem_cons_succ, Act.put, setIfInBounds_toArray, set_cons_zero, set_cons_succ]
   refine wpAnyH_ready (rs := [5]) (by kernel_rfl) (by simp) ?_
   refine .cons rfl (fun K hK => ?_) .nil
   have H9 : (#[.int .i64 x.k, .slice x.A x.v.length x.c] : Array Value).all (·.oneCell') = true := by rw [← Array.all_toList]; rfl
   refine Av.step_store_row rfl 24 (.tmp 5) (.tmp 66) rfl (w.heap.size + 3) #[.int .i64 x.k, .slice x.A x.v.length x.c] rfl rfl 24 _ K4 (by kernel_rfl) rfl H9 ?_
   replace HQ := HQ.step_ne (stp_row K4 #[.int .i64 x.k, .slice x.A x.v.length x.c]) (by decide) HOw.out (show o ≤ w.heap.size + 3 by omega)
   replace HX := HX.step (stp_row K4 #[.int .i64 x.k, .slice x.A x.v.length x.c]) (by decide) (show o ≤ w.heap.size + 3 by omega)
   replace K1 : Blk (Z1.setRow (w.heap.size + 3) #[.int .i64 x.k, .slice x.A x.v.length x.c]) (w.heap.size) 43 #[.int .i64 (1 - sn), .int .i64 (1 - nesn), .slice A 0 c, .bool false, .bool false, .int .i64 (ack : Int), .int .i64 ((tak : Int) + 1)] := Av.bother_row K1 (by omega)
   replace K2 : Blk (Z1.setRow (w.heap.size + 3) #[.int .i64 x.k, .slice x.A x.v.length x.c]) (w.heap.size + 1) 26 #[.int .i64 psn, .int .i64 pnesn, .int .i64 pmd, .int .i64 x.k, .slice x.A x.v.length x.c] := Av.bother_row K2 (by omega)
   replace K3 : Blk (Z1.setRow (w.heap.size + 3) #[.int .i64 x.k, .slice x.A x.v.length x.c]) (w.heap.size + 2) 43 #[.int .i64 (1 - sn), .int .i64 (1 - nesn), .slice A 0 c, .bool false, .bool false, .int .i64 (ack : Int), .int .i64 ((tak : Int) + 1)] := Av.bother_row K3 (by omega)
   replace K4 : Blk (Z1.setRow (w.heap.size + 3) #[.int .i64 x.k, .slice x.A x.v.length x.c]) (w.heap.size + 3) 24 #[.int .i64 x.k, .slice x.A x.v.length x.c] := Av.bset_row K4
   replace BX : Below w.heap.size w (Z1.setRow (w.heap.size + 3) #[.int .i64 x.k, .slice x.A x.v.length x.c]) := below_setRow BX (by omega) _
   clear H9
   generalize Z1.setRow (w.heap.size + 3) #[.int .i64 x.k, .slice x.A x.v.length x.c] = Z2 at *
   refine hK.out _ _ ⟨K2, K1⟩ (fun hHeld => ?_)
   clear hK K
   try simp only [getElem_toArray, getElem_cons_zero, getElem_cons_succ, Act.put, setIfInBounds_toArray, set_cons_zero, set_cons_succ]
   refine wpAnyH_take (i := 6) (v := .bool true) rfl (by kernel_rfl) (by kernel_rfl) (by kernel_rfl) (fun _ _ _ h => h) (.inl ⟨by first | rfl | go_simp, by intro u h; (try dsimp only at h); go_simp⟩) ‹_› ?_
   simp only [getElem_toArray, getElem_cons_zero, getElem_cons_succ, Act.put, setIfInBounds_toArray, set_cons_zero, set_cons_succ]
   refine wpAnyH_take (i := 7) (v := .bool true) rfl (by kernel_rfl) (by kernel_rfl) (by kernel_rfl) (fun _ _ _ h => h) (.inl ⟨by first | rfl | go_simp, by intro u h; (try dsimp only at h); go_simp⟩) ‹_› ?_
   simp only [getElem_toArray, getElem_cons_zero, getElem_cons_succ, Act.put, setIfInBounds_toArray, set_cons_zero, set_cons_succ]
   refine wpAnyH_done (by kernel_rfl) ?_ _
   go_wp2_with fail
   have MQ := HQ
   have MA := K3
   have MC := K4
   have MB := BX
   clear hHeld K1 K2 K3 K4 HQ
   refine bodyPost_ret (v := .tuple #[.agg #[.int .i64 (1 - sn), .int .i64 (1 - nesn), .slice A 0 c, .bool false, .bool false, .int .i64 (ack : Int), .int .i64 ((tak : Int) + 1)], .agg #[.int .i64 x.k, .slice x.A x.v.length x.c], .bool true, .bool true]) ?_ rfl (by rw [HO.out]; exact ⟨_, l, x, rfl, MQ, HLb.out, rfl, HX, .inl rfl, MB⟩)
   have HLa := run_loadVar_row (P := Try.prog) Z2 (w.heap.size + 2) 43 43 #[.int .i64 (1 - sn), .int .i64 (1 - nesn), .slice A 0 c, .bool false, .bool false, .int .i64 (ack : Int), .int .i64 ((tak : Int) + 1)] (0, 0) _ MA Try.underlying43 rfl (by kernel_rfl)
   have HLb := run_loadVar_row (P := Try.prog) Z2 (w.heap.size + 3) 24 24 #[.int .i64 x.k, .slice x.A x.v.length x.c] (0, 0) _ MC Try.underlying24 rfl (by kernel_rfl)
   generalize (#[.int .i64 (1 - sn), .int .i64 (1 - nesn), .slice A 0 c, .bool false, .bool false, .int .i64 (ack : Int), .int .i64 ((tak : Int) + 1)] : Array Value) = CS at *
   generalize (#[.int .i64 x.k, .slice x.A x.v.length x.c] : Array Value) = CP at *
   simp [results, show (Try.f34).results = #[.cell 4 43, .cell 5 24, .slot 6, .slot 7] from rfl, asAddr, HLa, HLb, Act.put]
 ·
  have gn : (psn == nesn) = false := by simpa using hn
  have HO := Lib.hid (take_old hck.out hac.out hb1.out hn)
  clear hn
  go_upto_region 15 with (fail)
  clear q0 q1
  have H1 : (#[.int .i64 (1 - sn), .int .i64 nesn, .slice A 0 c, .bool false, .bool false, .int .i64 (ack : Int), .int .i64 (tak : Int)] : Array Value).all (·.oneCell') = true := by rw [← Array.all_toList]; rfl
  have H2 : (#[.int .i64 0, .slice none 0 0] : Array Value).all (·.oneCell') = true := by rw [← Array.all_toList]; rfl
  go_wp2_with (first | (refine wpList_store_row rfl 43 (.tmp 4) _ rfl (w.heap.size + 2) #[.int .i64 (1 - sn), .int .i64 nesn, .slice A 0 c, .bool false, .bool false, .int .i64 (ack : Int), .int .i64 (tak : Int)] rfl rfl 43 _ K3 (by kernel_rfl) rfl H1 ?_; have sA := stp_row K3 #[.int .i64 (1 - sn), .int .i64 nesn, .slice A 0 c, .bool false, .bool false, .int .i64 (ack : Int), .int .i64 (tak : Int)]; have M3 := Av.bset_row (cs' := #[.int .i64 (1 - sn), .int .i64 nesn, .slice A 0 c, .bool false, .bool false, .int .i64 (ack : Int), .int .i64 (tak : Int)]) K3; have M4 := Av.bother_row (cs' := #[.int .i64 (1 - sn), .int .i64 nesn, .slice A 0 c, .bool false, .bool false, .int .i64 (ack : Int), .int .i64 (tak : Int)]) (g' := w.heap.size + 2) K4 (by omega)) | (refine wpList_store_row rfl 24 (.tmp 5) _ rfl (w.heap.size + 3) #[.int .i64 0, .slice none 0 0] rfl rfl 24 _ M4 (by kernel_rfl) rfl H2 ?_) | (refine wpList_load_row rfl 43 (.tmp 2) rfl w.heap.size rfl 43 _ (0, 0) _ K1 Try.underlying43 rfl (by kernel_rfl) ?_))
  have MQ := HQ.step sA (by decide) (by decide) (show o ≤ w.heap.size + 2 by omega)
  replace MQ := MQ.step_ne (stp_row M4 #[.int .i64 0, .slice none 0 0]) (by decide) HOw.out (show o ≤ w.heap.size + 3 by omega)
  have MA := Av.bother_row (cs' := #[.int .i64 0, .slice none 0 0]) (g' := w.heap.size + 3) M3 (by omega)
  have MC := Av.bset_row (cs' := #[.int .i64 0, .slice none 0 0]) M4
  have MB : Below w.heap.size w ((W7.setRow (w.heap.size + 2) #[.int .i64 (1 - sn), .int .i64 nesn, .slice A 0 c, .bool false, .bool false, .int .i64 (ack : Int), .int .i64 (tak : Int)]).setRow (w.heap.size + 3) #[.int .i64 0, .slice none 0 0]) := below_setRow (below_setRow BX (by omega) #[.int .i64 (1 - sn), .int .i64 nesn, .slice A 0 c, .bool false, .bool false, .int .i64 (ack : Int), .int .i64 (tak : Int)]) (by omega) #[.int .i64 0, .slice none 0 0]
  clear sA M3 M4 K1 HQ HX
  generalize (W7.setRow (w.heap.size + 2) #[.int .i64 (1 - sn), .int .i64 nesn, .slice A 0 c, .bool false, .bool false, .int .i64 (ack : Int), .int .i64 (tak : Int)]).setRow (w.heap.size + 3) #[.int .i64 0, .slice none 0 0] = Y at *
  refine bodyPost_ret (v := .tuple #[.agg #[.int .i64 (1 - sn), .int .i64 nesn, .slice A 0 c, .bool false, .bool false, .int .i64 (ack : Int), .int .i64 (tak : Int)], .agg #[.int .i64 0, .slice none 0 0], .bool false, .bool true]) ?_ rfl (by rw [HO.out]; exact ⟨_, l, ⟨0, none, 0, []⟩, rfl, MQ, HLb.out, rfl, pp_zero _ _ _, .inl rfl, MB⟩)
  have HLa := run_loadVar_row (P := Try.prog) Y (w.heap.size + 2) 43 43 #[.int .i64 (1 - sn), .int .i64 nesn, .slice A 0 c, .bool false, .bool false, .int .i64 (ack : Int), .int .i64 (tak : Int)] (0, 0) _ MA Try.underlying43 rfl (by kernel_rfl)
  have HLb := run_loadVar_row (P := Try.prog) Y (w.heap.size + 3) 24 24 #[.int .i64 0, .slice none 0 0] (0, 0) _ MC Try.underlying24 rfl (by kernel_rfl)
  generalize (#[.int .i64 (1 - sn), .int .i64 nesn, .slice A 0 c, .bool false, .bool false, .int .i64 (ack : Int), .int .i64 (tak : Int)] : Array Value) = CS at *
  generalize (#[.int .i64 0, .slice none 0 0] : Array Value) = CP at *
  simp [results, show (Try.f34).results = #[.cell 4 43, .cell 5 24, .slot 6, .slot 7] from rfl, asAddr, HLa, HLb, Act.put]
end Go.Proofs.Ytbnfjielnamepaa.Arq
