/- Acknowledgement: a side with one more packet: contracts over the program. -/
import Derived.Test.YtbnfjielnamepaaArqSnd
set_option linter.unusedVariables false
set_option linter.unusedSimpArgs false
namespace Go.Proofs.Ytbnfjielnamepaa.Arq
open Go.RowKit Mem Oct Rw Av Dp
open Base (thenB)

open List (getElem_toArray getElem_cons_zero getElem_cons_succ setIfInBounds_toArray set_cons_zero set_cons_succ)
set_option maxRecDepth 100000 in
set_option maxHeartbeats 4000000 in
theorem queue_any (s : Sd) (V : Value) (l : List Pm) (x : Pm) (w : World) (hn : l.length ≤ 1000000) (hqi : QI w V l) (hl : l.map Pm.p = s.q) (hx : GP w x) :
  Calls Try.prog 28 #[.agg (acel s V), .agg #[.int .i64 x.k, .slice x.A x.v.length x.c]] w fun e w' => ∃ V' l', e = .returned (.tuple #[.agg (acel (queueR s x.p).1 V'), .int .i64 (queueR s x.p).2]) ∧ QQ w' w.heap.size 0 V' l' ∧ l'.map Pm.p = (queueR s x.p).1.q ∧ Below w.heap.size w w' := by
 obtain ⟨sn, nesn, q, op, em, ack, tak⟩ := s
 simp only at hl
 show Calls _ _ #[.agg #[.int .i64 sn, .int .i64 nesn, V, .bool op, .bool em, .int .i64 ack, .int .i64 tak], _] _ _
 obtain ⟨iE, hi, hz, hs, hb, hc0⟩ := info_parts2 info_pk rfl
 have BX : Below w.heap.size w (((w.alloc (.cells #[.int .i64 sn, .int .i64 nesn, V, .bool op, .bool em, .int .i64 ack, .int .i64 tak] 43)).alloc (.cells #[.int .i64 x.k, .slice x.A x.v.length x.c] 24)).alloc (.cells #[.int .i64 0, .int .i64 0, .slice none 0 0, .bool false, .bool false, .int .i64 0, .int .i64 0] 43)) := (((Below.refl _ _).alloc (Nat.le_refl _) _).alloc (by simp) _).alloc (by simp; omega) _
 have K1 : Blk (((w.alloc (.cells #[.int .i64 sn, .int .i64 nesn, V, .bool op, .bool em, .int .i64 ack, .int .i64 tak] 43)).alloc (.cells #[.int .i64 x.k, .slice x.A x.v.length x.c] 24)).alloc (.cells #[.int .i64 0, .int .i64 0, .slice none 0 0, .bool false, .bool false, .int .i64 0, .int .i64 0] 43)) (w.heap.size) 43 #[.int .i64 sn, .int .i64 nesn, V, .bool op, .bool em, .int .i64 ack, .int .i64 tak] := ((Blk.fresh w 43 #[.int .i64 sn, .int .i64 nesn, V, .bool op, .bool em, .int .i64 ack, .int .i64 tak]).alloc _).alloc _
 have K2 : Blk (((w.alloc (.cells #[.int .i64 sn, .int .i64 nesn, V, .bool op, .bool em, .int .i64 ack, .int .i64 tak] 43)).alloc (.cells #[.int .i64 x.k, .slice x.A x.v.length x.c] 24)).alloc (.cells #[.int .i64 0, .int .i64 0, .slice none 0 0, .bool false, .bool false, .int .i64 0, .int .i64 0] 43)) (w.heap.size + 1) 24 #[.int .i64 x.k, .slice x.A x.v.length x.c] := (Av.Blk.next).alloc _
 have K3 : Blk (((w.alloc (.cells #[.int .i64 sn, .int .i64 nesn, V, .bool op, .bool em, .int .i64 ack, .int .i64 tak] 43)).alloc (.cells #[.int .i64 x.k, .slice x.A x.v.length x.c] 24)).alloc (.cells #[.int .i64 0, .int .i64 0, .slice none 0 0, .bool false, .bool false, .int .i64 0, .int .i64 0] 43)) (w.heap.size + 2) 43 #[.int .i64 0, .int .i64 0, .slice none 0 0, .bool false, .bool false, .int .i64 0, .int .i64 0] := by
  have := Blk.fresh ((w.alloc (.cells #[.int .i64 sn, .int .i64 nesn, V, .bool op, .bool em, .int .i64 ack, .int .i64 tak] 43)).alloc (.cells #[.int .i64 x.k, .slice x.A x.v.length x.c] 24)) 43 #[.int .i64 0, .int .i64 0, .slice none 0 0, .bool false, .bool false, .int .i64 0, .int .i64 0]
  simpa using this
 have HC : Hid (∀ X, Below w.heap.size w X → Calls Try.prog 53 #[.agg #[.int .i64 sn, .int .i64 nesn, V, .bool op, .bool em, .int .i64 ack, .int .i64 tak]] X fun e w' => ∃ V' l', e = .returned (.agg #[.int .i64 sn, .int .i64 nesn, V', .bool op, .bool em, .int .i64 ack, .int .i64 tak]) ∧ l'.map Pm.p = l.map Pm.p ∧ RR w' X.heap.size 0 V' l' ∧ Below X.heap.size X w') := Lib.hid fun X b => copied_any sn nesn V op em ack tak l X (by omega) (hqi.later b)
 have HW := Lib.hid (can_any x.k x.A x.v.length x.c)
 have HP : Hid (∀ X, Below w.heap.size w X → Calls Try.prog 55 #[.agg #[.int .i64 x.k, .slice x.A x.v.length x.c]] X fun e w' => ∃ A c, e = .returned (.agg #[.int .i64 x.k, .slice A x.v.length c]) ∧ PP w' 0 ⟨x.k, A, c, x.v⟩ ∧ Below X.heap.size X w') := Lib.hid fun X b => cpk_any x X (hx.later b)
 obtain ⟨n, hln⟩ : ∃ n, l.length = n := ⟨_, rfl⟩
 have hnq : q.length = n := by rw [← hl, List.length_map, hln]
 have HLl := Lib.hid hl
 have HOn : Hid (canB x.k x.v.length = false → queueR ⟨sn, nesn, q, op, em, ack, tak⟩ x.p = (⟨sn, nesn, q, op, em, ack, tak⟩, 1)) := Lib.hid fun h => by unfold queueR canW; simp [Pm.p, h]
 have HOf : Hid (canB x.k x.v.length = true → 64 ≤ n → queueR ⟨sn, nesn, q, op, em, ack, tak⟩ x.p = (⟨sn, nesn, q, op, em, ack, tak⟩, 8)) := Lib.hid fun h h2 => by unfold queueR canW; simp [Pm.p, h, hnq, h2]
 have HOy : Hid (canB x.k x.v.length = true → ¬ 64 ≤ n → queueR ⟨sn, nesn, q, op, em, ack, tak⟩ x.p = (⟨sn, nesn, q ++ [x.p], op, em, ack, tak⟩, 0)) := Lib.hid fun h h2 => by
  unfold queueR canW
  rw [show canB (Pm.p x).1 (Pm.p x).2.length = true from h, if_pos rfl, if_neg (by rw [hnq]; exact h2)]
 rw [hln] at hn
 clear hqi hl hx
 go_enter Try.func28, Try.ntmps28
 go_upto_region 1 with (fail)
 generalize ((w.alloc (.cells #[.int .i64 sn, .int .i64 nesn, V, .bool op, .bool em, .int .i64 ack, .int .i64 tak] 43)).alloc (.cells #[.int .i64 x.k, .slice x.A x.v.length x.c] 24)).alloc (.cells #[.int .i64 0, .int .i64 0, .slice none 0 0, .bool false, .bool false, .int .i64 0, .int .i64 0] 43) = W0 at *
 go_upto_region 2 with (first
  | (go_at_call 53; refine (HC.out W0 BX).mono ?_; rintro e W1 ⟨V1, L1, rfl, hl1, HR, b1⟩; have hs3 := K3.lt; replace HR := HR.less (show w.heap.size + 3 ≤ W0.heap.size by omega) (Nat.le_refl _); replace K1 := K1.below b1 K1.lt; replace K2 := K2.below b1 K2.lt; replace K3 := K3.below b1 K3.lt; replace BX := thenB BX b1; clear b1; obtain ⟨A, c, rfl⟩ := own_form HR.1; have hLn : L1.length = n := (len_map hl1).trans hln; rw [hLn]; have H1 : (#[.int .i64 sn, .int .i64 nesn, .slice A n c, .bool op, .bool em, .int .i64 ack, .int .i64 tak] : Array Value).all (·.oneCell') = true := by rw [← Array.all_toList]; rfl)
  | (refine wpList_store_row rfl 43 (.tmp 2) _ rfl w.heap.size #[.int .i64 sn, .int .i64 nesn, .slice A n c, .bool op, .bool em, .int .i64 ack, .int .i64 tak] rfl rfl 43 _ K1 (by kernel_rfl) rfl H1 ?_)
  | (refine wpList_load_row rfl 43 (.tmp 2) rfl w.heap.size rfl 43 _ (0, 0) _ K1 Try.underlying43 rfl (by kernel_rfl) ?_))
 rw [hLn] at HR
 replace HR := HR.step (stp_row K1 #[.int .i64 sn, .int .i64 nesn, .slice A n c, .bool op, .bool em, .int .i64 ack, .int .i64 tak]) (by decide) (by decide) (Nat.zero_le _)
 replace K2 : Blk (W1.setRow w.heap.size #[.int .i64 sn, .int .i64 nesn, .slice A n c, .bool op, .bool em, .int .i64 ack, .int .i64 tak]) (w.heap.size + 1) 24 #[.int .i64 x.k, .slice x.A x.v.length x.c] := Av.bother_row K2 (by omega)
 replace K3 : Blk (W1.setRow w.heap.size #[.int .i64 sn, .int .i64 nesn, .slice A n c, .bool op, .bool em, .int .i64 ack, .int .i64 tak]) (w.heap.size + 2) 43 #[.int .i64 0, .int .i64 0, .slice none 0 0, .bool false, .bool false, .int .i64 0, .int .i64 0] := Av.bother_row K3 (by omega)
 replace K1 : Blk (W1.setRow w.heap.size #[.int .i64 sn, .int .i64 nesn, .slice A n c, .bool op, .bool em, .int .i64 ack, .int .i64 tak]) w.heap.size 43 #[.int .i64 sn, .int .i64 nesn, .slice A n c, .bool op, .bool em, .int .i64 ack, .int .i64 tak] := Av.bset_row K1
 replace BX : Below w.heap.size w (W1.setRow w.heap.size #[.int .i64 sn, .int .i64 nesn, .slice A n c, .bool op, .bool em, .int .i64 ack, .int .i64 tak]) := below_setRow BX (Nat.le_refl _) _
 generalize W1.setRow w.heap.size #[.int .i64 sn, .int .i64 nesn, .slice A n c, .bool op, .bool em, .int .i64 ack, .int .i64 tak] = W2 at *
 have HLm : Hid (L1.map Pm.p = q) := Lib.hid (hl1.trans HLl.out)
 clear H1 HC
 have p0 := K2.cell 0
 have p1 := K2.cell 1
 cases hcan : canB x.k x.v.length with
 | false =>
  have HO := Lib.hid (HOn.out hcan)
  rw [hcan] at HW
  clear hcan
  go_upto_region 3 with (go_at_call 54; refine (HW.out W2).mono ?_; rintro e W5 ⟨rfl, b9⟩; replace K1 := K1.below b9 K1.lt; replace K2 := K2.below b9 K2.lt; replace K3 := K3.below b9 K3.lt; replace HR := HR.below b9; replace BX := thenB BX b9; clear b9 p0 p1)
  have H1 : (#[.int .i64 sn, .int .i64 nesn, .slice A n c, .bool op, .bool em, .int .i64 ack, .int .i64 tak] : Array Value).all (·.oneCell') = true := by rw [← Array.all_toList]; rfl
  go_wp2_with (first | (refine wpList_store_row rfl 43 (.tmp 4) _ rfl (w.heap.size + 2) #[.int .i64 sn, .int .i64 nesn, .slice A n c, .bool op, .bool em, .int .i64 ack, .int .i64 tak] rfl rfl 43 _ K3 (by kernel_rfl) rfl H1 ?_) | (refine wpList_load_row rfl 43 (.tmp 2) rfl w.heap.size rfl 43 _ (0, 0) _ K1 Try.underlying43 rfl (by kernel_rfl) ?_))
  have HQ := HR.qq.step (stp_row K3 #[.int .i64 sn, .int .i64 nesn, .slice A n c, .bool op, .bool em, .int .i64 ack, .int .i64 tak]) (by decide) (by decide) (Nat.zero_le _)
  have KR := setRow_heap W5 (w.heap.size + 2) _ #[.int .i64 sn, .int .i64 nesn, .slice A n c, .bool op, .bool em, .int .i64 ack, .int .i64 tak] 43 (0, 0) K3
  have BE : Below w.heap.size w (W5.setRow (w.heap.size + 2) #[.int .i64 sn, .int .i64 nesn, .slice A n c, .bool op, .bool em, .int .i64 ack, .int .i64 tak]) := below_setRow BX (by omega) #[.int .i64 sn, .int .i64 nesn, .slice A n c, .bool op, .bool em, .int .i64 ack, .int .i64 tak]
  generalize W5.setRow (w.heap.size + 2) #[.int .i64 sn, .int .i64 nesn, .slice A n c, .bool op, .bool em, .int .i64 ack, .int .i64 tak] = Y at *
  refine bodyPost_ret (v := .tuple #[.agg #[.int .i64 sn, .int .i64 nesn, .slice A n c, .bool op, .bool em, .int .i64 ack, .int .i64 tak], .int .i64 1]) ?_ rfl ⟨_, _, by rw [HO.out]; rfl, HQ.less (by omega) (Nat.le_refl _), by rw [HO.out]; simp [HLm.out, Pm.p], BE⟩
  clear K1
  have HL := run_loadVar_row (P := Try.prog) Y (w.heap.size + 2) 43 43 #[.int .i64 sn, .int .i64 nesn, .slice A n c, .bool op, .bool em, .int .i64 ack, .int .i64 tak] (0, 0) _ KR Try.underlying43 rfl (by kernel_rfl)
  generalize (#[.int .i64 sn, .int .i64 nesn, .slice A n c, .bool op, .bool em, .int .i64 ack, .int .i64 tak] : Array Value) = CS at *
  simp [results, show (Try.f28).results = #[.cell 4 43, .slot 5] from rfl, asAddr, HL, Act.put]
 | true =>
  rw [hcan] at HW
  by_cases h64 : 64 ≤ n
  ·
   have HO := Lib.hid (HOf.out hcan h64)
   have g1 : (64 : Int) ≤ (n : Int) := by omega
   clear hcan h64
   go_upto_region 4 with (go_at_call 54; refine (HW.out W2).mono ?_; rintro e W5 ⟨rfl, b9⟩; replace K1 := K1.below b9 K1.lt; replace K2 := K2.below b9 K2.lt; replace K3 := K3.below b9 K3.lt; replace HR := HR.below b9; replace BX := thenB BX b9; clear b9 p0 p1)
   have p2 := K1.cell 2
   go_upto_region 5 with (fail)
   clear p2
   have H1 : (#[.int .i64 sn, .int .i64 nesn, .slice A n c, .bool op, .bool em, .int .i64 ack, .int .i64 tak] : Array Value).all (·.oneCell') = true := by rw [← Array.all_toList]; rfl
   go_wp2_with (first | (refine wpList_store_row rfl 43 (.tmp 4) _ rfl (w.heap.size + 2) #[.int .i64 sn, .int .i64 nesn, .slice A n c, .bool op, .bool em, .int .i64 ack, .int .i64 tak] rfl rfl 43 _ K3 (by kernel_rfl) rfl H1 ?_) | (refine wpList_load_row rfl 43 (.tmp 2) rfl w.heap.size rfl 43 _ (0, 0) _ K1 Try.underlying43 rfl (by kernel_rfl) ?_))
   have HQ := HR.qq.step (stp_row K3 #[.int .i64 sn, .int .i64 nesn, .slice A n c, .bool op, .bool em, .int .i64 ack, .int .i64 tak]) (by decide) (by decide) (Nat.zero_le _)
   have KR := setRow_heap W5 (w.heap.size + 2) _ #[.int .i64 sn, .int .i64 nesn, .slice A n c, .bool op, .bool em, .int .i64 ack, .int .i64 tak] 43 (0, 0) K3
   have BE : Below w.heap.size w (W5.setRow (w.heap.size + 2) #[.int .i64 sn, .int .i64 nesn, .slice A n c, .bool op, .bool em, .int .i64 ack, .int .i64 tak]) := below_setRow BX (by omega) #[.int .i64 sn, .int .i64 nesn, .slice A n c, .bool op, .bool em, .int .i64 ack, .int .i64 tak]
   generalize W5.setRow (w.heap.size + 2) #[.int .i64 sn, .int .i64 nesn, .slice A n c, .bool op, .bool em, .int .i64 ack, .int .i64 tak] = Y at *
   refine bodyPost_ret (v := .tuple #[.agg #[.int .i64 sn, .int .i64 nesn, .slice A n c, .bool op, .bool em, .int .i64 ack, .int .i64 tak], .int .i64 8]) ?_ rfl ⟨_, _, by rw [HO.out]; rfl, HQ.less (by omega) (Nat.le_refl _), by rw [HO.out]; simp [HLm.out, Pm.p], BE⟩
   clear K1
   have HL := run_loadVar_row (P := Try.prog) Y (w.heap.size + 2) 43 43 #[.int .i64 sn, .int .i64 nesn, .slice A n c, .bool op, .bool em, .int .i64 ack, .int .i64 tak] (0, 0) _ KR Try.underlying43 rfl (by kernel_rfl)
   generalize (#[.int .i64 sn, .int .i64 nesn, .slice A n c, .bool op, .bool em, .int .i64 ack, .int .i64 tak] : Array Value) = CS at *
   simp [results, show (Try.f28).results = #[.cell 4 43, .slot 5] from rfl, asAddr, HL, Act.put]
  ·
   have HO := Lib.hid (HOy.out hcan h64)
   have g1 : ¬ (64 : Int) ≤ (n : Int) := by omega
   clear hcan h64
   go_upto_region 4 with (go_at_call 54; refine (HW.out W2).mono ?_; rintro e W5 ⟨rfl, b9⟩; replace K1 := K1.below b9 K1.lt; replace K2 := K2.below b9 K2.lt; replace K3 := K3.below b9 K3.lt; replace HR := HR.below b9; replace BX := thenB BX b9; clear b9 p0 p1)
   have p2 := K1.cell 2
   go_upto_region 6 with (fail)
   clear p2
   have K1' : Blk W5.drew (w.heap.size) 43 #[.int .i64 sn, .int .i64 nesn, .slice A n c, .bool op, .bool em, .int .i64 ack, .int .i64 tak] := Mem.Blk.drew K1
   have K2' : Blk W5.drew (w.heap.size + 1) 24 #[.int .i64 x.k, .slice x.A x.v.length x.c] := Mem.Blk.drew K2
   have K3' : Blk W5.drew (w.heap.size + 2) 43 #[.int .i64 0, .int .i64 0, .slice none 0 0, .bool false, .bool false, .int .i64 0, .int .i64 0] := Mem.Blk.drew K3
   refine wp_region_held_drew (S := (fun w' => Blk w' (w.heap.size + 1) 24 #[.int .i64 x.k, .slice x.A x.v.length x.c])) (by kernel_rfl) ?_ (fun hHeld => ?_)
   ·
    exact K2'
   replace K1 := K1'
   clear K1'
   replace K2 := K2'
   clear K2'
   replace K3 := K3'
   clear K3'
   replace BX : Below w.heap.size w W5.drew := BX.drew
   replace HR := (show RR W5.drew (w.heap.size + 3) 0 (.slice A n c) L1 from HR.below ((Below.refl W5.heap.size W5).drew))
   generalize W5.drew = X0 at *
   refine wpAnyH_take (i := 0) (v := .pointer (some ⟨w.heap.size, 2, none⟩)) rfl (by kernel_rfl) (by kernel_rfl) (by kernel_rfl) (fun _ _ _ h => h) (.inl ⟨by first | rfl | go_simp, by intro u h; (try dsimp only at h); go_simp⟩) ‹_› ?_
   simp only [getElem_toArray, getElem_cons_zero, getElem_cons_succ, Act.put, setIfInBounds_toArray, set_cons_zero, set_cons_succ]
   refine wpAnyH_take (i := 2) (v := .agg #[.int .i64 x.k, .slice x.A x.v.length x.c]) rfl (by kernel_rfl) (by kernel_rfl) (by kernel_rfl) (fun _ _ _ h => h) (Av.yields_part (by first | rfl | go_simp) _ _ rfl (w.heap.size + 1) 0 rfl #[.int .i64 x.k, .slice x.A x.v.length x.c] _ 24 #[.int .i64 x.k, .slice x.A x.v.length x.c] (fun w9 hSw => hSw) rfl Try.underlying24 rfl (by kernel_rfl)) ‹_› ?_
   simp only [getElem_toArray, getElem_cons_zero, getElem_cons_succ, Act.put, setIfInBounds_toArray, set_cons_zero, set_cons_succ]
   refine wpAnyH_ready (rs := [1, 3]) (by kernel_rfl) (by simp) ?_
   refine AllReadyH.cons rfl (fun K hK => ?_) (AllReadyH.cons rfl (fun K hK => ?_) (AllReadyH.nil))
   ·
    have c90 := K1.cell 2
    go_simp
    clear c90
    refine hK.out _ _ K2 (fun hHeld => ?_)
    clear hK K
    try simp only [getElem_toArray, getElem_cons_zero, getElem_cons_succ, Act.put, setIfInBounds_toArray, set_cons_zero, set_cons_succ]
    refine wpAnyH_ready (rs := [3]) (by kernel_rfl) (by simp) ?_
    refine .cons rfl (fun K hK => ?_) .nil
    go_simp
    refine (HP.out X0 BX).mono ?_
    rintro e X1 ⟨A5, c5, rfl, HX, b9⟩
    replace K1 := K1.below b9 K1.lt
    replace K2 := K2.below b9 K2.lt
    replace K3 := K3.below b9 K3.lt
    replace BX := thenB BX b9
    replace HR := HR.below b9
    clear b9
    refine hK.out _ _ K2 (fun hHeld => ?_)
    clear hK K
    try simp only [getElem_toArray, getElem_cons_zero, getElem_cons_succ, Act.put, setIfInBounds_toArray, set_cons_zero, set_cons_succ]
    refine wpAnyH_ready (rs := [4]) (by kernel_rfl) (by simp) ?_
    refine .cons rfl (fun K hK => ?_) .nil
    go_simp
    have b9 := (Below.refl X1.heap.size X1).alloc (Nat.le_refl _) (.cells #[.int .i64 x.k, .slice A5 x.v.length c5] 24)
    have CA := CellsAt.lit X1 [.int .i64 x.k, .slice A5 x.v.length c5] #[.int .i64 x.k, .slice A5 x.v.length c5] 24 rfl
    generalize X1.alloc (.cells #[.int .i64 x.k, .slice A5 x.v.length c5] 24) = X2 at *
    replace K1 := K1.below b9 K1.lt
    replace K2 := K2.below b9 K2.lt
    replace K3 := K3.below b9 K3.lt
    replace BX := thenB BX b9
    replace HR := HR.below b9
    replace HX := HX.below b9
    clear b9
    refine hK.out _ _ K2 (fun hHeld => ?_)
    clear hK K
    try simp only [getElem_toArray, getElem_cons_zero, getElem_cons_succ, Act.put, setIfInBounds_toArray, set_cons_zero, set_cons_succ]
    refine wpAnyH_ready (rs := [5]) (by kernel_rfl) (by simp) ?_
    refine .cons rfl (fun K hK => ?_) .nil
    refine step_append_rows rfl (.tmp 20) (.tmp 23) 41 rfl (w.heap.size + 3) 24 iE _ 2 32 Try.underlying41 hi hz hs hb hc0 (by decide) (.slice A n c) n (L1.flatMap encK) rfl (by have := HR.1; rwa [hLn] at this) _ (some ⟨X1.heap.size, 0, none⟩) 1 1 [.int .i64 x.k, .slice A5 x.v.length c5] rfl rfl (by intro u hu; simp at hu; rcases hu with rfl | rfl <;> rfl) CA (by unfold maxLen; omega) (by omega) (by have := K3.lt; omega) ?_
    intro v4 X3 own4 b9 gr4
    replace HR := grow_own (x := ⟨x.k, A5, c5, x.v⟩) HR HX gr4 (Nat.zero_le _) (by rw [hLn]; exact own4)
    obtain ⟨A4, c4, rfl⟩ := own_form own4
    clear HX CA own4 gr4
    replace K1 := K1.below b9 (by omega)
    replace K2 := K2.below b9 (by omega)
    replace K3 := K3.below b9 (by omega)
    replace BX := BX.trans (b9.mono (by omega))
    clear b9
    refine hK.out _ _ K2 (fun hHeld => ?_)
    clear hK K
    try simp only [getElem_toArray, getElem_cons_zero, getElem_cons_succ, Act.put, setIfInBounds_toArray, set_cons_zero, set_cons_succ]
    refine wpAnyH_take (i := 6) (v := .pointer (some ⟨w.heap.size, 2, none⟩)) rfl (by kernel_rfl) (by kernel_rfl) (by kernel_rfl) (fun _ _ _ h => h) (.inl ⟨by first | rfl | go_simp, by intro u h; (try dsimp only at h); go_simp⟩) ‹_› ?_
    simp only [getElem_toArray, getElem_cons_zero, getElem_cons_succ, Act.put, setIfInBounds_toArray, set_cons_zero, set_cons_succ]
    refine wpAnyH_ready (rs := [7]) (by kernel_rfl) (by simp) ?_
    refine .cons rfl (fun K hK => ?_) .nil
    refine Av.step_store_cell rfl _ _ _ rfl (w.heap.size) 2 (.slice A4 (n + 1) c4) rfl rfl 43 _ K1 (by show 2 < 7; decide) (by kernel_rfl) rfl ?_
    replace HR := ((HR).step (stp_cell (i := 2) K1 (.slice A4 (n + 1) c4)) (by decide) (by decide) (Nat.zero_le _))
    replace K1 : Blk (X3.setCell ⟨w.heap.size, 2, none⟩ (.slice A4 (n + 1) c4)) (w.heap.size) 43 #[.int .i64 sn, .int .i64 nesn, .slice A4 (n + 1) c4, .bool op, .bool em, .int .i64 ack, .int .i64 tak] := (Av.bset K1 2 (.slice A4 (n + 1) c4) rfl)
    replace K2 : Blk (X3.setCell ⟨w.heap.size, 2, none⟩ (.slice A4 (n + 1) c4)) (w.heap.size + 1) 24 #[.int .i64 x.k, .slice x.A x.v.length x.c] := Av.bother (K2) (by omega) _
    replace K3 : Blk (X3.setCell ⟨w.heap.size, 2, none⟩ (.slice A4 (n + 1) c4)) (w.heap.size + 2) 43 #[.int .i64 0, .int .i64 0, .slice none 0 0, .bool false, .bool false, .int .i64 0, .int .i64 0] := Av.bother (K3) (by omega) _
    replace BX : Below w.heap.size w (X3.setCell ⟨w.heap.size, 2, none⟩ (.slice A4 (n + 1) c4)) := (BX.setCell (p := ⟨w.heap.size, 2, none⟩) (by simp only; omega) _)
    generalize (X3.setCell ⟨w.heap.size, 2, none⟩ (.slice A4 (n + 1) c4)) = X4 at *
    refine hK.out _ _ K2 (fun hHeld => ?_)
    clear hK K
    try simp only [getElem_toArray, getElem_cons_zero, getElem_cons_succ, Act.put, setIfInBounds_toArray, set_cons_zero, set_cons_succ]
    refine wpAnyH_done (by kernel_rfl) ?_ _
    have H1 : (#[.int .i64 sn, .int .i64 nesn, .slice A4 (n + 1) c4, .bool op, .bool em, .int .i64 ack, .int .i64 tak] : Array Value).all (·.oneCell') = true := by rw [← Array.all_toList]; rfl
    go_wp2_with (first | (refine wpList_store_row rfl 43 (.tmp 4) _ rfl (w.heap.size + 2) #[.int .i64 sn, .int .i64 nesn, .slice A4 (n + 1) c4, .bool op, .bool em, .int .i64 ack, .int .i64 tak] rfl rfl 43 _ K3 (by kernel_rfl) rfl H1 ?_) | (refine wpList_load_row rfl 43 (.tmp 2) rfl w.heap.size rfl 43 _ (0, 0) _ K1 Try.underlying43 rfl (by kernel_rfl) ?_))
    have HQ := HR.qq.step (stp_row K3 #[.int .i64 sn, .int .i64 nesn, .slice A4 (n + 1) c4, .bool op, .bool em, .int .i64 ack, .int .i64 tak]) (by decide) (by decide) (Nat.zero_le _)
    have KR := setRow_heap X4 (w.heap.size + 2) _ #[.int .i64 sn, .int .i64 nesn, .slice A4 (n + 1) c4, .bool op, .bool em, .int .i64 ack, .int .i64 tak] 43 (0, 0) K3
    have BE : Below w.heap.size w (X4.setRow (w.heap.size + 2) #[.int .i64 sn, .int .i64 nesn, .slice A4 (n + 1) c4, .bool op, .bool em, .int .i64 ack, .int .i64 tak]) := below_setRow BX (by omega) #[.int .i64 sn, .int .i64 nesn, .slice A4 (n + 1) c4, .bool op, .bool em, .int .i64 ack, .int .i64 tak]
    generalize X4.setRow (w.heap.size + 2) #[.int .i64 sn, .int .i64 nesn, .slice A4 (n + 1) c4, .bool op, .bool em, .int .i64 ack, .int .i64 tak] = Y at *
    refine bodyPost_ret (v := .tuple #[.agg #[.int .i64 sn, .int .i64 nesn, .slice A4 (n + 1) c4, .bool op, .bool em, .int .i64 ack, .int .i64 tak], .int .i64 0]) ?_ rfl ⟨_, _, by rw [HO.out]; rfl, HQ.less (by omega) (Nat.le_refl _), by rw [HO.out]; simp [HLm.out, Pm.p], BE⟩
    clear K1
    have HL := run_loadVar_row (P := Try.prog) Y (w.heap.size + 2) 43 43 #[.int .i64 sn, .int .i64 nesn, .slice A4 (n + 1) c4, .bool op, .bool em, .int .i64 ack, .int .i64 tak] (0, 0) _ KR Try.underlying43 rfl (by kernel_rfl)
    generalize (#[.int .i64 sn, .int .i64 nesn, .slice A4 (n + 1) c4, .bool op, .bool em, .int .i64 ack, .int .i64 tak] : Array Value) = CS at *
    simp [results, show (Try.f28).results = #[.cell 4 43, .slot 5] from rfl, asAddr, HL, Act.put]
   ·
    go_simp
    refine (HP.out X0 BX).mono ?_
    rintro e X5 ⟨A5, c5, rfl, HX, b9⟩
    replace K1 := K1.below b9 K1.lt
    replace K2 := K2.below b9 K2.lt
    replace K3 := K3.below b9 K3.lt
    replace BX := thenB BX b9
    replace HR := HR.below b9
    clear b9
    refine hK.out _ _ K2 (fun hHeld => ?_)
    clear hK K
    try simp only [getElem_toArray, getElem_cons_zero, getElem_cons_succ, Act.put, setIfInBounds_toArray, set_cons_zero, set_cons_succ]
    refine wpAnyH_ready (rs := [1, 4]) (by kernel_rfl) (by simp) ?_
    refine AllReadyH.cons rfl (fun K hK => ?_) (AllReadyH.cons rfl (fun K hK => ?_) (AllReadyH.nil))
    ·
     have c90 := K1.cell 2
     go_simp
     clear c90
     refine hK.out _ _ K2 (fun hHeld => ?_)
     clear hK K
     try simp only [getElem_toArray, getElem_cons_zero, getElem_cons_succ, Act.put, setIfInBounds_toArray, set_cons_zero, set_cons_succ]
     refine wpAnyH_ready (rs := [4]) (by kernel_rfl) (by simp) ?_
     refine .cons rfl (fun K hK => ?_) .nil
     go_simp
     have b9 := (Below.refl X5.heap.size X5).alloc (Nat.le_refl _) (.cells #[.int .i64 x.k, .slice A5 x.v.length c5] 24)
     have CA := CellsAt.lit X5 [.int .i64 x.k, .slice A5 x.v.length c5] #[.int .i64 x.k, .slice A5 x.v.length c5] 24 rfl
     generalize X5.alloc (.cells #[.int .i64 x.k, .slice A5 x.v.length c5] 24) = X6 at *
     replace K1 := K1.below b9 K1.lt
     replace K2 := K2.below b9 K2.lt
     replace K3 := K3.below b9 K3.lt
     replace BX := thenB BX b9
     replace HR := HR.below b9
     replace HX := HX.below b9
     clear b9
     refine hK.out _ _ K2 (fun hHeld => ?_)
     clear hK K
     try simp only [getElem_toArray, getElem_cons_zero, getElem_cons_succ, Act.put, setIfInBounds_toArray, set_cons_zero, set_cons_succ]
     refine wpAnyH_ready (rs := [5]) (by kernel_rfl) (by simp) ?_
     refine .cons rfl (fun K hK => ?_) .nil
     refine step_append_rows rfl (.tmp 20) (.tmp 23) 41 rfl (w.heap.size + 3) 24 iE _ 2 32 Try.underlying41 hi hz hs hb hc0 (by decide) (.slice A n c) n (L1.flatMap encK) rfl (by have := HR.1; rwa [hLn] at this) _ (some ⟨X5.heap.size, 0, none⟩) 1 1 [.int .i64 x.k, .slice A5 x.v.length c5] rfl rfl (by intro u hu; simp at hu; rcases hu with rfl | rfl <;> rfl) CA (by unfold maxLen; omega) (by omega) (by have := K3.lt; omega) ?_
     intro v4 X7 own4 b9 gr4
     replace HR := grow_own (x := ⟨x.k, A5, c5, x.v⟩) HR HX gr4 (Nat.zero_le _) (by rw [hLn]; exact own4)
     obtain ⟨A4, c4, rfl⟩ := own_form own4
     clear HX CA own4 gr4
     replace K1 := K1.below b9 (by omega)
     replace K2 := K2.below b9 (by omega)
     replace K3 := K3.below b9 (by omega)
     replace BX := BX.trans (b9.mono (by omega))
     clear b9
     refine hK.out _ _ K2 (fun hHeld => ?_)
     clear hK K
     try simp only [getElem_toArray, getElem_cons_zero, getElem_cons_succ, Act.put, setIfInBounds_toArray, set_cons_zero, set_cons_succ]
     refine wpAnyH_take (i := 6) (v := .pointer (some ⟨w.heap.size, 2, none⟩)) rfl (by kernel_rfl) (by kernel_rfl) (by kernel_rfl) (fun _ _ _ h => h) (.inl ⟨by first | rfl | go_simp, by intro u h; (try dsimp only at h); go_simp⟩) ‹_› ?_
     simp only [getElem_toArray, getElem_cons_zero, getElem_cons_succ, Act.put, setIfInBounds_toArray, set_cons_zero, set_cons_succ]
     refine wpAnyH_ready (rs := [7]) (by kernel_rfl) (by simp) ?_
     refine .cons rfl (fun K hK => ?_) .nil
     refine Av.step_store_cell rfl _ _ _ rfl (w.heap.size) 2 (.slice A4 (n + 1) c4) rfl rfl 43 _ K1 (by show 2 < 7; decide) (by kernel_rfl) rfl ?_
     replace HR := ((HR).step (stp_cell (i := 2) K1 (.slice A4 (n + 1) c4)) (by decide) (by decide) (Nat.zero_le _))
     replace K1 : Blk (X7.setCell ⟨w.heap.size, 2, none⟩ (.slice A4 (n + 1) c4)) (w.heap.size) 43 #[.int .i64 sn, .int .i64 nesn, .slice A4 (n + 1) c4, .bool op, .bool em, .int .i64 ack, .int .i64 tak] := (Av.bset K1 2 (.slice A4 (n + 1) c4) rfl)
     replace K2 : Blk (X7.setCell ⟨w.heap.size, 2, none⟩ (.slice A4 (n + 1) c4)) (w.heap.size + 1) 24 #[.int .i64 x.k, .slice x.A x.v.length x.c] := Av.bother (K2) (by omega) _
     replace K3 : Blk (X7.setCell ⟨w.heap.size, 2, none⟩ (.slice A4 (n + 1) c4)) (w.heap.size + 2) 43 #[.int .i64 0, .int .i64 0, .slice none 0 0, .bool false, .bool false, .int .i64 0, .int .i64 0] := Av.bother (K3) (by omega) _
     replace BX : Below w.heap.size w (X7.setCell ⟨w.heap.size, 2, none⟩ (.slice A4 (n + 1) c4)) := (BX.setCell (p := ⟨w.heap.size, 2, none⟩) (by simp only; omega) _)
     generalize (X7.setCell ⟨w.heap.size, 2, none⟩ (.slice A4 (n + 1) c4)) = X8 at *
     refine hK.out _ _ K2 (fun hHeld => ?_)
     clear hK K
     try simp only [getElem_toArray, getElem_cons_zero, getElem_cons_succ, Act.put, setIfInBounds_toArray, set_cons_zero, set_cons_succ]
     refine wpAnyH_done (by kernel_rfl) ?_ _
     have H1 : (#[.int .i64 sn, .int .i64 nesn, .slice A4 (n + 1) c4, .bool op, .bool em, .int .i64 ack, .int .i64 tak] : Array Value).all (·.oneCell') = true := by rw [← Array.all_toList]; rfl
     go_wp2_with (first | (refine wpList_store_row rfl 43 (.tmp 4) _ rfl (w.heap.size + 2) #[.int .i64 sn, .int .i64 nesn, .slice A4 (n + 1) c4, .bool op, .bool em, .int .i64 ack, .int .i64 tak] rfl rfl 43 _ K3 (by kernel_rfl) rfl H1 ?_) | (refine wpList_load_row rfl 43 (.tmp 2) rfl w.heap.size rfl 43 _ (0, 0) _ K1 Try.underlying43 rfl (by kernel_rfl) ?_))
     have HQ := HR.qq.step (stp_row K3 #[.int .i64 sn, .int .i64 nesn, .slice A4 (n + 1) c4, .bool op, .bool em, .int .i64 ack, .int .i64 tak]) (by decide) (by decide) (Nat.zero_le _)
     have KR := setRow_heap X8 (w.heap.size + 2) _ #[.int .i64 sn, .int .i64 nesn, .slice A4 (n + 1) c4, .bool op, .bool em, .int .i64 ack, .int .i64 tak] 43 (0, 0) K3
     have BE : Below w.heap.size w (X8.setRow (w.heap.size + 2) #[.int .i64 sn, .int .i64 nesn, .slice A4 (n + 1) c4, .bool op, .bool em, .int .i64 ack, .int .i64 tak]) := below_setRow BX (by omega) #[.int .i64 sn, .int .i64 nesn, .slice A4 (n + 1) c4, .bool op, .bool em, .int .i64 ack, .int .i64 tak]
     generalize X8.setRow (w.heap.size + 2) #[.int .i64 sn, .int .i64 nesn, .slice A4 (n + 1) c4, .bool op, .bool em, .int .i64 ack, .int .i64 tak] = Y at *
     refine bodyPost_ret (v := .tuple #[.agg #[.int .i64 sn, .int .i64 nesn, .slice A4 (n + 1) c4, .bool op, .bool em, .int .i64 ack, .int .i64 tak], .int .i64 0]) ?_ rfl ⟨_, _, by rw [HO.out]; rfl, HQ.less (by omega) (Nat.le_refl _), by rw [HO.out]; simp [HLm.out, Pm.p], BE⟩
     clear K1
     have HL := run_loadVar_row (P := Try.prog) Y (w.heap.size + 2) 43 43 #[.int .i64 sn, .int .i64 nesn, .slice A4 (n + 1) c4, .bool op, .bool em, .int .i64 ack, .int .i64 tak] (0, 0) _ KR Try.underlying43 rfl (by kernel_rfl)
     generalize (#[.int .i64 sn, .int .i64 nesn, .slice A4 (n + 1) c4, .bool op, .bool em, .int .i64 ack, .int .i64 tak] : Array Value) = CS at *
     simp [results, show (Try.f28).results = #[.cell 4 43, .slot 5] from rfl, asAddr, HL, Act.put]
    ·
     go_simp
     have b9 := (Below.refl X5.heap.size X5).alloc (Nat.le_refl _) (.cells #[.int .i64 x.k, .slice A5 x.v.length c5] 24)
     have CA := CellsAt.lit X5 [.int .i64 x.k, .slice A5 x.v.length c5] #[.int .i64 x.k, .slice A5 x.v.length c5] 24 rfl
     generalize X5.alloc (.cells #[.int .i64 x.k, .slice A5 x.v.length c5] 24) = X9 at *
     replace K1 := K1.below b9 K1.lt
     replace K2 := K2.below b9 K2.lt
     replace K3 := K3.below b9 K3.lt
     replace BX := thenB BX b9
     replace HR := HR.below b9
     replace HX := HX.below b9
     clear b9
     refine hK.out _ _ K2 (fun hHeld => ?_)
     clear hK K
     try simp only [getElem_toArray, getElem_cons_zero, getElem_cons_succ, Act.put, setIfInBounds_toArray, set_cons_zero, set_cons_succ]
     refine wpAnyH_ready (rs := [1]) (by kernel_rfl) (by simp) ?_
     refine .cons rfl (fun K hK => ?_) .nil
     have c90 := K1.cell 2
     go_simp
     clear c90
     refine hK.out _ _ K2 (fun hHeld => ?_)
     clear hK K
     try simp only [getElem_toArray, getElem_cons_zero, getElem_cons_succ, Act.put, setIfInBounds_toArray, set_cons_zero, set_cons_succ]
     refine wpAnyH_ready (rs := [5]) (by kernel_rfl) (by simp) ?_
     refine .cons rfl (fun K hK => ?_) .nil
     refine step_append_rows rfl (.tmp 20) (.tmp 23) 41 rfl (w.heap.size + 3) 24 iE _ 2 32 Try.underlying41 hi hz hs hb hc0 (by decide) (.slice A n c) n (L1.flatMap encK) rfl (by have := HR.1; rwa [hLn] at this) _ (some ⟨X5.heap.size, 0, none⟩) 1 1 [.int .i64 x.k, .slice A5 x.v.length c5] rfl rfl (by intro u hu; simp at hu; rcases hu with rfl | rfl <;> rfl) CA (by unfold maxLen; omega) (by omega) (by have := K3.lt; omega) ?_
     intro v4 X10 own4 b9 gr4
     replace HR := grow_own (x := ⟨x.k, A5, c5, x.v⟩) HR HX gr4 (Nat.zero_le _) (by rw [hLn]; exact own4)
     obtain ⟨A4, c4, rfl⟩ := own_form own4
     clear HX CA own4 gr4
     replace K1 := K1.below b9 (by omega)
     replace K2 := K2.below b9 (by omega)
     replace K3 := K3.below b9 (by omega)
     replace BX := BX.trans (b9.mono (by omega))
     clear b9
     refine hK.out _ _ K2 (fun hHeld => ?_)
     clear hK K
     try simp only [getElem_toArray, getElem_cons_zero, getElem_cons_succ, Act.put, setIfInBounds_toArray, set_cons_zero, set_cons_succ]
     refine wpAnyH_take (i := 6) (v := .pointer (some ⟨w.heap.size, 2, none⟩)) rfl (by kernel_rfl) (by kernel_rfl) (by kernel_rfl) (fun _ _ _ h => h) (.inl ⟨by first | rfl | go_simp, by intro u h; (try dsimp only at h); go_simp⟩) ‹_› ?_
     simp only [getElem_toArray, getElem_cons_zero, getElem_cons_succ, Act.put, setIfInBounds_toArray, set_cons_zero, set_cons_succ]
     refine wpAnyH_ready (rs := [7]) (by kernel_rfl) (by simp) ?_
     refine .cons rfl (fun K hK => ?_) .nil
     refine Av.step_store_cell rfl _ _ _ rfl (w.heap.size) 2 (.slice A4 (n + 1) c4) rfl rfl 43 _ K1 (by show 2 < 7; decide) (by kernel_rfl) rfl ?_
     replace HR := ((HR).step (stp_cell (i := 2) K1 (.slice A4 (n + 1) c4)) (by decide) (by decide) (Nat.zero_le _))
     replace K1 : Blk (X10.setCell ⟨w.heap.size, 2, none⟩ (.slice A4 (n + 1) c4)) (w.heap.size) 43 #[.int .i64 sn, .int .i64 nesn, .slice A4 (n + 1) c4, .bool op, .bool em, .int .i64 ack, .int .i64 tak] := (Av.bset K1 2 (.slice A4 (n + 1) c4) rfl)
     replace K2 : Blk (X10.setCell ⟨w.heap.size, 2, none⟩ (.slice A4 (n + 1) c4)) (w.heap.size + 1) 24 #[.int .i64 x.k, .slice x.A x.v.length x.c] := Av.bother (K2) (by omega) _
     replace K3 : Blk (X10.setCell ⟨w.heap.size, 2, none⟩ (.slice A4 (n + 1) c4)) (w.heap.size + 2) 43 #[.int .i64 0, .int .i64 0, .slice none 0 0, .bool false, .bool false, .int .i64 0, .int .i64 0] := Av.bother (K3) (by omega) _
     replace BX : Below w.heap.size w (X10.setCell ⟨w.heap.size, 2, none⟩ (.slice A4 (n + 1) c4)) := (BX.setCell (p := ⟨w.heap.size, 2, none⟩) (by simp only; omega) _)
     generalize (X10.setCell ⟨w.heap.size, 2, none⟩ (.slice A4 (n + 1) c4)) = X11 at *
     refine hK.out _ _ K2 (fun hHeld => ?_)
     clear hK K
     try simp only [getElem_toArray, getElem_cons_zero, getElem_cons_succ, Act.put, setIfInBounds_toArray, set_cons_zero, set_cons_succ]
     refine wpAnyH_done (by kernel_rfl) ?_ _
     have H1 : (#[.int .i64 sn, .int .i64 nesn, .slice A4 (n + 1) c4, .bool op, .bool em, .int .i64 ack, .int .i64 tak] : Array Value).all (·.oneCell') = true := by rw [← Array.all_toList]; rfl
     go_wp2_with (first | (refine wpList_store_row rfl 43 (.tmp 4) _ rfl (w.heap.size + 2) #[.int .i64 sn, .int .i64 nesn, .slice A4 (n + 1) c4, .bool op, .bool em, .int .i64 ack, .int .i64 tak] rfl rfl 43 _ K3 (by kernel_rfl) rfl H1 ?_) | (refine wpList_load_row rfl 43 (.tmp 2) rfl w.heap.size rfl 43 _ (0, 0) _ K1 Try.underlying43 rfl (by kernel_rfl) ?_))
     have HQ := HR.qq.step (stp_row K3 #[.int .i64 sn, .int .i64 nesn, .slice A4 (n + 1) c4, .bool op, .bool em, .int .i64 ack, .int .i64 tak]) (by decide) (by decide) (Nat.zero_le _)
     have KR := setRow_heap X11 (w.heap.size + 2) _ #[.int .i64 sn, .int .i64 nesn, .slice A4 (n + 1) c4, .bool op, .bool em, .int .i64 ack, .int .i64 tak] 43 (0, 0) K3
     have BE : Below w.heap.size w (X11.setRow (w.heap.size + 2) #[.int .i64 sn, .int .i64 nesn, .slice A4 (n + 1) c4, .bool op, .bool em, .int .i64 ack, .int .i64 tak]) := below_setRow BX (by omega) #[.int .i64 sn, .int .i64 nesn, .slice A4 (n + 1) c4, .bool op, .bool em, .int .i64 ack, .int .i64 tak]
     generalize X11.setRow (w.heap.size + 2) #[.int .i64 sn, .int .i64 nesn, .slice A4 (n + 1) c4, .bool op, .bool em, .int .i64 ack, .int .i64 tak] = Y at *
     refine bodyPost_ret (v := .tuple #[.agg #[.int .i64 sn, .int .i64 nesn, .slice A4 (n + 1) c4, .bool op, .bool em, .int .i64 ack, .int .i64 tak], .int .i64 0]) ?_ rfl ⟨_, _, by rw [HO.out]; rfl, HQ.less (by omega) (Nat.le_refl _), by rw [HO.out]; simp [HLm.out, Pm.p], BE⟩
     clear K1
     have HL := run_loadVar_row (P := Try.prog) Y (w.heap.size + 2) 43 43 #[.int .i64 sn, .int .i64 nesn, .slice A4 (n + 1) c4, .bool op, .bool em, .int .i64 ack, .int .i64 tak] (0, 0) _ KR Try.underlying43 rfl (by kernel_rfl)
     generalize (#[.int .i64 sn, .int .i64 nesn, .slice A4 (n + 1) c4, .bool op, .bool em, .int .i64 ack, .int .i64 tak] : Array Value) = CS at *
     simp [results, show (Try.f28).results = #[.cell 4 43, .slot 5] from rfl, asAddr, HL, Act.put]
end Go.Proofs.Ytbnfjielnamepaa.Arq
