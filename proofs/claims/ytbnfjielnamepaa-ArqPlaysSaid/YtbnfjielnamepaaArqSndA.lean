/- Acknowledgement: what a side sends: contracts over the program. -/
import Derived.Test.YtbnfjielnamepaaArqSnt
set_option linter.unusedVariables false
set_option linter.unusedSimpArgs false
namespace Go.Proofs.Ytbnfjielnamepaa.Arq
open Go.RowKit Mem Oct Rw Av Dp
open Base (thenB)

open List (getElem_toArray getElem_cons_zero getElem_cons_succ setIfInBounds_toArray set_cons_zero set_cons_succ)
set_option maxRecDepth 100000 in
set_option maxHeartbeats 4000000 in
theorem send_tt (sn nesn : Int) (q : List Pk) (ack tak : Nat) (V : Value) (l : List Pm) (w : World) (hn : l.length ≤ 1000000) (hqi : QI w V l) (hl : l.map Pm.p = q) :
  Calls Try.prog 30 #[.agg #[.int .i64 sn, .int .i64 nesn, V, .bool true, .bool true, .int .i64 ack, .int .i64 tak]] w fun e w' => Sent w w' e ⟨sn, nesn, q, true, true, ack, tak⟩ := by
 have BX : Below w.heap.size w (((w.alloc (.cells #[.int .i64 sn, .int .i64 nesn, V, .bool true, .bool true, .int .i64 ack, .int .i64 tak] 43)).alloc (.cells #[.int .i64 0, .int .i64 0, .slice none 0 0, .bool false, .bool false, .int .i64 0, .int .i64 0] 43)).alloc (.cells #[.int .i64 0, .int .i64 0, .int .i64 0, .int .i64 0, .slice none 0 0] 26)) := (((Below.refl _ _).alloc (Nat.le_refl _) _).alloc (by simp) _).alloc (by simp; omega) _
 have K1 : Blk (((w.alloc (.cells #[.int .i64 sn, .int .i64 nesn, V, .bool true, .bool true, .int .i64 ack, .int .i64 tak] 43)).alloc (.cells #[.int .i64 0, .int .i64 0, .slice none 0 0, .bool false, .bool false, .int .i64 0, .int .i64 0] 43)).alloc (.cells #[.int .i64 0, .int .i64 0, .int .i64 0, .int .i64 0, .slice none 0 0] 26)) w.heap.size 43 #[.int .i64 sn, .int .i64 nesn, V, .bool true, .bool true, .int .i64 ack, .int .i64 tak] := ((Blk.fresh w 43 #[.int .i64 sn, .int .i64 nesn, V, .bool true, .bool true, .int .i64 ack, .int .i64 tak]).alloc _).alloc _
 have K2 : Blk (((w.alloc (.cells #[.int .i64 sn, .int .i64 nesn, V, .bool true, .bool true, .int .i64 ack, .int .i64 tak] 43)).alloc (.cells #[.int .i64 0, .int .i64 0, .slice none 0 0, .bool false, .bool false, .int .i64 0, .int .i64 0] 43)).alloc (.cells #[.int .i64 0, .int .i64 0, .int .i64 0, .int .i64 0, .slice none 0 0] 26)) (w.heap.size + 1) 43 #[.int .i64 0, .int .i64 0, .slice none 0 0, .bool false, .bool false, .int .i64 0, .int .i64 0] := (Av.Blk.next).alloc _
 have K3 : Blk (((w.alloc (.cells #[.int .i64 sn, .int .i64 nesn, V, .bool true, .bool true, .int .i64 ack, .int .i64 tak] 43)).alloc (.cells #[.int .i64 0, .int .i64 0, .slice none 0 0, .bool false, .bool false, .int .i64 0, .int .i64 0] 43)).alloc (.cells #[.int .i64 0, .int .i64 0, .int .i64 0, .int .i64 0, .slice none 0 0] 26)) (w.heap.size + 2) 26 #[.int .i64 0, .int .i64 0, .int .i64 0, .int .i64 0, .slice none 0 0] := by
  have := Blk.fresh ((w.alloc (.cells #[.int .i64 sn, .int .i64 nesn, V, .bool true, .bool true, .int .i64 ack, .int .i64 tak] 43)).alloc (.cells #[.int .i64 0, .int .i64 0, .slice none 0 0, .bool false, .bool false, .int .i64 0, .int .i64 0] 43)) 26 #[.int .i64 0, .int .i64 0, .int .i64 0, .int .i64 0, .slice none 0 0]
  simpa using this
 have HC : Hid (∀ X, Below w.heap.size w X → Calls Try.prog 53 #[.agg #[.int .i64 sn, .int .i64 nesn, V, .bool true, .bool true, .int .i64 ack, .int .i64 tak]] X fun e w' => ∃ V' l', e = .returned (.agg #[.int .i64 sn, .int .i64 nesn, V', .bool true, .bool true, .int .i64 ack, .int .i64 tak]) ∧ l'.map Pm.p = l.map Pm.p ∧ RR w' X.heap.size 0 V' l' ∧ Below X.heap.size X w') := Lib.hid fun X b => copied_any sn nesn V true true ack tak l X (by omega) (hqi.later b)
 obtain ⟨n, hln⟩ : ∃ n, l.length = n := ⟨_, rfl⟩
 have hnq : q.length = n := by rw [← hl, List.length_map, hln]
 have HLl := Lib.hid hl
 rw [hln] at hn
 clear hqi hl
 go_enter Try.func30, Try.ntmps30
 go_upto_region 1 with (fail)
 generalize ((w.alloc (.cells #[.int .i64 sn, .int .i64 nesn, V, .bool true, .bool true, .int .i64 ack, .int .i64 tak] 43)).alloc (.cells #[.int .i64 0, .int .i64 0, .slice none 0 0, .bool false, .bool false, .int .i64 0, .int .i64 0] 43)).alloc (.cells #[.int .i64 0, .int .i64 0, .int .i64 0, .int .i64 0, .slice none 0 0] 26) = W0 at *
 go_upto_region 2 with (first
  | (go_at_call 53; refine (HC.out W0 BX).mono ?_; rintro e W1 ⟨V1, L1, rfl, hl1, HR, b1⟩; have hs3 := K3.lt; replace HQ := HR.qq.less (show w.heap.size + 3 ≤ W0.heap.size by omega) (Nat.le_refl _); replace K1 := K1.below b1 K1.lt; replace K2 := K2.below b1 K2.lt; replace K3 := K3.below b1 K3.lt; replace BX := thenB BX b1; clear b1 HR; obtain ⟨⟨A, c, rfl, hLc, _⟩, _⟩ := id HQ; have hLn : L1.length = n := (len_map hl1).trans hln; rw [hLn] at hLc HQ ⊢; have H1 : (#[.int .i64 sn, .int .i64 nesn, .slice A n c, .bool true, .bool true, .int .i64 ack, .int .i64 tak] : Array Value).all (·.oneCell') = true := by rw [← Array.all_toList]; rfl)
  | (refine wpList_store_row rfl 43 (.tmp 1) _ rfl w.heap.size #[.int .i64 sn, .int .i64 nesn, .slice A n c, .bool true, .bool true, .int .i64 ack, .int .i64 tak] rfl rfl 43 _ K1 (by kernel_rfl) rfl H1 ?_)
  | (refine wpList_load_row rfl 43 (.tmp 1) rfl (w.heap.size) rfl 43 _ (0, 0) _ K1 Try.underlying43 rfl (by kernel_rfl) ?_))
 replace HQ := HQ.step (stp_row K1 #[.int .i64 sn, .int .i64 nesn, .slice A n c, .bool true, .bool true, .int .i64 ack, .int .i64 tak]) (by decide) (by decide) (Nat.zero_le _)
 replace K2 : Blk (W1.setRow w.heap.size #[.int .i64 sn, .int .i64 nesn, .slice A n c, .bool true, .bool true, .int .i64 ack, .int .i64 tak]) (w.heap.size + 1) 43 #[.int .i64 0, .int .i64 0, .slice none 0 0, .bool false, .bool false, .int .i64 0, .int .i64 0] := Av.bother_row K2 (by omega)
 replace K3 : Blk (W1.setRow w.heap.size #[.int .i64 sn, .int .i64 nesn, .slice A n c, .bool true, .bool true, .int .i64 ack, .int .i64 tak]) (w.heap.size + 2) 26 #[.int .i64 0, .int .i64 0, .int .i64 0, .int .i64 0, .slice none 0 0] := Av.bother_row K3 (by omega)
 replace K1 : Blk (W1.setRow w.heap.size #[.int .i64 sn, .int .i64 nesn, .slice A n c, .bool true, .bool true, .int .i64 ack, .int .i64 tak]) w.heap.size 43 #[.int .i64 sn, .int .i64 nesn, .slice A n c, .bool true, .bool true, .int .i64 ack, .int .i64 tak] := Av.bset_row K1
 replace BX : Below w.heap.size w (W1.setRow w.heap.size #[.int .i64 sn, .int .i64 nesn, .slice A n c, .bool true, .bool true, .int .i64 ack, .int .i64 tak]) := below_setRow BX (Nat.le_refl _) _
 generalize W1.setRow w.heap.size #[.int .i64 sn, .int .i64 nesn, .slice A n c, .bool true, .bool true, .int .i64 ack, .int .i64 tak] = W2 at *
 have HLm : Hid (L1.map Pm.p = q) := Lib.hid (hl1.trans HLl.out)
 clear H1 HC
 have p3 := K1.cell 3
 have p2 := K1.cell 2
 have HD : Hid (∀ X, Below w.heap.size w X → QQ X (w.heap.size + 3) 0 (.slice A n c) L1 → Calls Try.prog 57 #[.agg #[.int .i64 sn, .int .i64 nesn, .slice A n c, .bool true, .bool true, .int .i64 ack, .int .i64 tak]] X fun e w' => e = .returned (.tuple #[.slice A 0 0, .slice A n n]) ∧ Below X.heap.size X w') := Lib.hid fun X b hq => divided_none sn nesn A n c true true ack tak L1 (w.heap.size + 3) 0 X hq (.inl rfl) (by omega)
 by_cases hz : n = 0
 ·
  have hqn : q = [] := List.eq_nil_of_length_eq_zero (by omega)
  have g1 : ¬ (0 : Int) < (n : Int) := by omega
  clear hz
  go_upto_region 4 with (fail)
  clear p3 p2
  have HO : Hid (openR ⟨sn, nesn, q, true, true, ack, tak⟩ = ⟨sn, nesn, q, true, true, ack, tak⟩ ∧ Pm.p ⟨1, none, 0, []⟩ = (pduR (openR ⟨sn, nesn, q, true, true, ack, tak⟩)).pk) := Lib.hid ⟨rfl, rfl⟩
  have hmd : (pduR ⟨sn, nesn, q, true, true, ack, tak⟩).md = 0 := by simp [pduR, hqn]
  have q0 := K1.cell 0
  have q1 := K1.cell 1
  go_upto_region 5 with (first | (go_at_call 57; refine (HD.out _ BX HQ).mono ?_; rintro e X1 ⟨rfl, b9⟩; replace K1 := K1.below b9 K1.lt; replace K2 := K2.below b9 K2.lt; replace K3 := K3.below b9 K3.lt; replace HQ := HQ.below b9; replace BX := thenB BX b9; clear b9 q0 q1) | (refine wpList_load_row rfl 43 (.tmp 1) rfl (w.heap.size) rfl 43 _ (0, 0) _ K1 Try.underlying43 rfl (by kernel_rfl) ?_))
  have q0 := K1.cell 0
  have q1 := K1.cell 1
  have hs3 := K3.lt
  go_upto_region 6 with (fail)
  have K6 := Blk.fresh X1 26 #[.int .i64 sn, .int .i64 nesn, .int .i64 0, .int .i64 1, .slice none 0 0]
  replace K1 := K1.alloc (.cells #[.int .i64 sn, .int .i64 nesn, .int .i64 0, .int .i64 1, .slice none 0 0] 26)
  replace K2 := K2.alloc (.cells #[.int .i64 sn, .int .i64 nesn, .int .i64 0, .int .i64 1, .slice none 0 0] 26)
  replace K3 := K3.alloc (.cells #[.int .i64 sn, .int .i64 nesn, .int .i64 0, .int .i64 1, .slice none 0 0] 26)
  replace HQ := HQ.below ((Below.refl X1.heap.size X1).alloc (Nat.le_refl _) (.cells #[.int .i64 sn, .int .i64 nesn, .int .i64 0, .int .i64 1, .slice none 0 0] 26))
  replace BX := BX.alloc BX.size (.cells #[.int .i64 sn, .int .i64 nesn, .int .i64 0, .int .i64 1, .slice none 0 0] 26)
  obtain ⟨g6, e6⟩ : ∃ g6, X1.heap.size = g6 := ⟨_, rfl⟩
  rw [e6] at K6 hs3
  try simp only [e6]
  generalize X1.alloc (.cells #[.int .i64 sn, .int .i64 nesn, .int .i64 0, .int .i64 1, .slice none 0 0] 26) = X2 at *
  clear e6 q0 q1
  have HX : PP X2 0 ⟨1, none, 0, []⟩ := ⟨Nat.le_refl _, Nat.zero_le _, fun z hz => absurd hz (by simp), .inl (.inl rfl)⟩
  go_upto_region 10 with (fail)
  have K1' : Blk X2.drew (w.heap.size) 43 #[.int .i64 sn, .int .i64 nesn, .slice A n c, .bool true, .bool true, .int .i64 ack, .int .i64 tak] := Mem.Blk.drew K1
  have K2' : Blk X2.drew (w.heap.size + 1) 43 #[.int .i64 0, .int .i64 0, .slice none 0 0, .bool false, .bool false, .int .i64 0, .int .i64 0] := Mem.Blk.drew K2
  have K3' : Blk X2.drew (w.heap.size + 2) 26 #[.int .i64 0, .int .i64 0, .int .i64 0, .int .i64 0, .slice none 0 0] := Mem.Blk.drew K3
  have K6' : Blk X2.drew (g6) 26 #[.int .i64 sn, .int .i64 nesn, .int .i64 0, .int .i64 1, .slice none 0 0] := Mem.Blk.drew K6
  refine wp_region_held_drew (S := (fun w' => Blk w' (g6) 26 #[.int .i64 sn, .int .i64 nesn, .int .i64 0, .int .i64 1, .slice none 0 0] ∧ Blk w' (w.heap.size) 43 #[.int .i64 sn, .int .i64 nesn, .slice A n c, .bool true, .bool true, .int .i64 ack, .int .i64 tak])) (by kernel_rfl) ?_ (fun hHeld => ?_)
  ·
   exact ⟨K6', K1'⟩
  replace K1 := K1'
  clear K1'
  replace K2 := K2'
  clear K2'
  replace K3 := K3'
  clear K3'
  replace K6 := K6'
  clear K6'
  replace BX : Below w.heap.size w X2.drew := BX.drew
  replace HQ := (show QQ X2.drew (w.heap.size + 3) 0 (.slice A n c) L1 from HQ.below ((Below.refl X2.heap.size X2).drew))
  replace HX := (show PP X2.drew 0 ⟨1, none, 0, []⟩ from HX.below ((Below.refl X2.heap.size X2).drew))
  generalize X2.drew = Z0 at *
  refine wpAnyH_take (i := 0) (v := .agg #[.int .i64 sn, .int .i64 nesn, .slice A n c, .bool true, .bool true, .int .i64 ack, .int .i64 tak]) rfl (by kernel_rfl) (by kernel_rfl) (by kernel_rfl) (fun _ _ _ h => h) (Av.yields_part (by first | rfl | go_simp) _ _ rfl (w.heap.size) 0 rfl #[.int .i64 sn, .int .i64 nesn, .slice A n c, .bool true, .bool true, .int .i64 ack, .int .i64 tak] _ 43 #[.int .i64 sn, .int .i64 nesn, .slice A n c, .bool true, .bool true, .int .i64 ack, .int .i64 tak] (fun w9 hSw => hSw.2) rfl Try.underlying43 rfl (by kernel_rfl)) ‹_› ?_
  simp only [getElem_toArray, getElem_cons_zero, getElem_cons_succ, Act.put, setIfInBounds_toArray, set_cons_zero, set_cons_succ]
  refine wpAnyH_take (i := 1) (v := .agg #[.int .i64 sn, .int .i64 nesn, .int .i64 0, .int .i64 1, .slice none 0 0]) rfl (by kernel_rfl) (by kernel_rfl) (by kernel_rfl) (fun _ _ _ h => h) (Av.yields_part (by first | rfl | go_simp) _ _ rfl (g6) 0 rfl #[.int .i64 sn, .int .i64 nesn, .int .i64 0, .int .i64 1, .slice none 0 0] _ 26 #[.int .i64 sn, .int .i64 nesn, .int .i64 0, .int .i64 1, .slice none 0 0] (fun w9 hSw => hSw.1) rfl Try.underlying26 rfl (by kernel_rfl)) ‹_› ?_
  simp only [getElem_toArray, getElem_cons_zero, getElem_cons_succ, Act.put, setIfInBounds_toArray, set_cons_zero, set_cons_succ]
  refine wpAnyH_ready (rs := [2]) (by kernel_rfl) (by simp) ?_
  refine .cons rfl (fun K hK => ?_) .nil
  have H9 : (#[.int .i64 sn, .int .i64 nesn, .slice A n c, .bool true, .bool true, .int .i64 ack, .int .i64 tak] : Array Value).all (·.oneCell') = true := by rw [← Array.all_toList]; rfl
  refine Av.step_store_row rfl 43 (.tmp 2) (.tmp 41) rfl (w.heap.size + 1) #[.int .i64 sn, .int .i64 nesn, .slice A n c, .bool true, .bool true, .int .i64 ack, .int .i64 tak] rfl rfl 43 _ K2 (by kernel_rfl) rfl H9 ?_
  replace HQ := HQ.step (stp_row K2 #[.int .i64 sn, .int .i64 nesn, .slice A n c, .bool true, .bool true, .int .i64 ack, .int .i64 tak]) (by decide) (by decide) (Nat.zero_le _)
  replace HX := HX.step (stp_row K2 #[.int .i64 sn, .int .i64 nesn, .slice A n c, .bool true, .bool true, .int .i64 ack, .int .i64 tak]) (by decide) (Nat.zero_le _)
  replace K1 : Blk (Z0.setRow (w.heap.size + 1) #[.int .i64 sn, .int .i64 nesn, .slice A n c, .bool true, .bool true, .int .i64 ack, .int .i64 tak]) (w.heap.size) 43 #[.int .i64 sn, .int .i64 nesn, .slice A n c, .bool true, .bool true, .int .i64 ack, .int .i64 tak] := Av.bother_row K1 (by omega)
  replace K2 : Blk (Z0.setRow (w.heap.size + 1) #[.int .i64 sn, .int .i64 nesn, .slice A n c, .bool true, .bool true, .int .i64 ack, .int .i64 tak]) (w.heap.size + 1) 43 #[.int .i64 sn, .int .i64 nesn, .slice A n c, .bool true, .bool true, .int .i64 ack, .int .i64 tak] := Av.bset_row K2
  replace K3 : Blk (Z0.setRow (w.heap.size + 1) #[.int .i64 sn, .int .i64 nesn, .slice A n c, .bool true, .bool true, .int .i64 ack, .int .i64 tak]) (w.heap.size + 2) 26 #[.int .i64 0, .int .i64 0, .int .i64 0, .int .i64 0, .slice none 0 0] := Av.bother_row K3 (by omega)
  replace K6 : Blk (Z0.setRow (w.heap.size + 1) #[.int .i64 sn, .int .i64 nesn, .slice A n c, .bool true, .bool true, .int .i64 ack, .int .i64 tak]) (g6) 26 #[.int .i64 sn, .int .i64 nesn, .int .i64 0, .int .i64 1, .slice none 0 0] := Av.bother_row K6 (by omega)
  replace BX : Below w.heap.size w (Z0.setRow (w.heap.size + 1) #[.int .i64 sn, .int .i64 nesn, .slice A n c, .bool true, .bool true, .int .i64 ack, .int .i64 tak]) := below_setRow BX (by omega) _
  clear H9
  generalize Z0.setRow (w.heap.size + 1) #[.int .i64 sn, .int .i64 nesn, .slice A n c, .bool true, .bool true, .int .i64 ack, .int .i64 tak] = Z1 at *
  refine hK.out _ _ ⟨K6, K1⟩ (fun hHeld => ?_)
  clear hK K
  try simp only [getElem_toArray, getElem_cons_zero, getElem_cons_succ, Act.put, setIfInBounds_toArray, set_cons_zero, set_cons_succ]
  refine wpAnyH_ready (rs := [3]) (by kernel_rfl) (by simp) ?_
  refine .cons rfl (fun K hK => ?_) .nil
  have H9 : (#[.int .i64 sn, .int .i64 nesn, .int .i64 0, .int .i64 1, .slice none 0 0] : Array Value).all (·.oneCell') = true := by rw [← Array.all_toList]; rfl
  refine Av.step_store_row rfl 26 (.tmp 3) (.tmp 42) rfl (w.heap.size + 2) #[.int .i64 sn, .int .i64 nesn, .int .i64 0, .int .i64 1, .slice none 0 0] rfl rfl 26 _ K3 (by kernel_rfl) rfl H9 ?_
  replace HQ := HQ.step (stp_row K3 #[.int .i64 sn, .int .i64 nesn, .int .i64 0, .int .i64 1, .slice none 0 0]) (by decide) (by decide) (Nat.zero_le _)
  replace HX := HX.step (stp_row K3 #[.int .i64 sn, .int .i64 nesn, .int .i64 0, .int .i64 1, .slice none 0 0]) (by decide) (Nat.zero_le _)
  replace K1 : Blk (Z1.setRow (w.heap.size + 2) #[.int .i64 sn, .int .i64 nesn, .int .i64 0, .int .i64 1, .slice none 0 0]) (w.heap.size) 43 #[.int .i64 sn, .int .i64 nesn, .slice A n c, .bool true, .bool true, .int .i64 ack, .int .i64 tak] := Av.bother_row K1 (by omega)
  replace K2 : Blk (Z1.setRow (w.heap.size + 2) #[.int .i64 sn, .int .i64 nesn, .int .i64 0, .int .i64 1, .slice none 0 0]) (w.heap.size + 1) 43 #[.int .i64 sn, .int .i64 nesn, .slice A n c, .bool true, .bool true, .int .i64 ack, .int .i64 tak] := Av.bother_row K2 (by omega)
  replace K3 : Blk (Z1.setRow (w.heap.size + 2) #[.int .i64 sn, .int .i64 nesn, .int .i64 0, .int .i64 1, .slice none 0 0]) (w.heap.size + 2) 26 #[.int .i64 sn, .int .i64 nesn, .int .i64 0, .int .i64 1, .slice none 0 0] := Av.bset_row K3
  replace K6 : Blk (Z1.setRow (w.heap.size + 2) #[.int .i64 sn, .int .i64 nesn, .int .i64 0, .int .i64 1, .slice none 0 0]) (g6) 26 #[.int .i64 sn, .int .i64 nesn, .int .i64 0, .int .i64 1, .slice none 0 0] := Av.bother_row K6 (by omega)
  replace BX : Below w.heap.size w (Z1.setRow (w.heap.size + 2) #[.int .i64 sn, .int .i64 nesn, .int .i64 0, .int .i64 1, .slice none 0 0]) := below_setRow BX (by omega) _
  clear H9
  generalize Z1.setRow (w.heap.size + 2) #[.int .i64 sn, .int .i64 nesn, .int .i64 0, .int .i64 1, .slice none 0 0] = Z2 at *
  refine hK.out _ _ ⟨K6, K1⟩ (fun hHeld => ?_)
  clear hK K
  try simp only [getElem_toArray, getElem_cons_zero, getElem_cons_succ, Act.put, setIfInBounds_toArray, set_cons_zero, set_cons_succ]
  refine wpAnyH_done (by kernel_rfl) ?_ _
  go_wp2_with fail
  refine bodyPost_ret (v := .tuple #[.agg #[.int .i64 sn, .int .i64 nesn, .slice A n c, .bool true, .bool true, .int .i64 ack, .int .i64 tak], .agg #[.int .i64 sn, .int .i64 nesn, .int .i64 0, .int .i64 1, .slice none 0 0]]) ?_ rfl ⟨_, L1, ⟨1, none, 0, []⟩, by rw [HO.out.1, (pdu_bits _).1, (pdu_bits _).2.1, hmd]; rfl, HQ.less (by omega) (Nat.le_refl _), HLm.out, HO.out.2, HX, BX⟩
  clear hHeld K1 K6
  have HLa := run_loadVar_row (P := Try.prog) Z2 (w.heap.size + 1) 43 43 #[.int .i64 sn, .int .i64 nesn, .slice A n c, .bool true, .bool true, .int .i64 ack, .int .i64 tak] (0, 0) _ K2 Try.underlying43 rfl (by kernel_rfl)
  have HLb := run_loadVar_row (P := Try.prog) Z2 (w.heap.size + 2) 26 26 #[.int .i64 sn, .int .i64 nesn, .int .i64 0, .int .i64 1, .slice none 0 0] (0, 0) _ K3 Try.underlying26 rfl (by kernel_rfl)
  generalize (#[.int .i64 sn, .int .i64 nesn, .slice A n c, .bool true, .bool true, .int .i64 ack, .int .i64 tak] : Array Value) = CS at *
  generalize (#[.int .i64 sn, .int .i64 nesn, .int .i64 0, .int .i64 1, .slice none 0 0] : Array Value) = CP at *
  simp [results, show (Try.f30).results = #[.cell 2 43, .cell 3 26] from rfl, asAddr, HLa, HLb, Act.put]
 ·
  have hqn : q ≠ [] := by intro h; rw [h] at hnq; simp at hnq; omega
  have g1 : (0 : Int) < (n : Int) := by omega
  clear hz
  go_upto_region 4 with (fail)
  clear p3 p2
  have HO : Hid (openR ⟨sn, nesn, q, true, true, ack, tak⟩ = ⟨sn, nesn, q, true, true, ack, tak⟩ ∧ Pm.p ⟨1, none, 0, []⟩ = (pduR (openR ⟨sn, nesn, q, true, true, ack, tak⟩)).pk) := Lib.hid ⟨rfl, rfl⟩
  have hmd : (pduR ⟨sn, nesn, q, true, true, ack, tak⟩).md = 1 := by simp [pduR, hqn]
  have q0 := K1.cell 0
  have q1 := K1.cell 1
  go_upto_region 5 with (first | (go_at_call 57; refine (HD.out _ BX HQ).mono ?_; rintro e X1 ⟨rfl, b9⟩; replace K1 := K1.below b9 K1.lt; replace K2 := K2.below b9 K2.lt; replace K3 := K3.below b9 K3.lt; replace HQ := HQ.below b9; replace BX := thenB BX b9; clear b9 q0 q1) | (refine wpList_load_row rfl 43 (.tmp 1) rfl (w.heap.size) rfl 43 _ (0, 0) _ K1 Try.underlying43 rfl (by kernel_rfl) ?_))
  have q0 := K1.cell 0
  have q1 := K1.cell 1
  have hs3 := K3.lt
  go_upto_region 6 with (fail)
  have K6 := Blk.fresh X1 26 #[.int .i64 sn, .int .i64 nesn, .int .i64 0, .int .i64 1, .slice none 0 0]
  replace K1 := K1.alloc (.cells #[.int .i64 sn, .int .i64 nesn, .int .i64 0, .int .i64 1, .slice none 0 0] 26)
  replace K2 := K2.alloc (.cells #[.int .i64 sn, .int .i64 nesn, .int .i64 0, .int .i64 1, .slice none 0 0] 26)
  replace K3 := K3.alloc (.cells #[.int .i64 sn, .int .i64 nesn, .int .i64 0, .int .i64 1, .slice none 0 0] 26)
  replace HQ := HQ.below ((Below.refl X1.heap.size X1).alloc (Nat.le_refl _) (.cells #[.int .i64 sn, .int .i64 nesn, .int .i64 0, .int .i64 1, .slice none 0 0] 26))
  replace BX := BX.alloc BX.size (.cells #[.int .i64 sn, .int .i64 nesn, .int .i64 0, .int .i64 1, .slice none 0 0] 26)
  obtain ⟨g6, e6⟩ : ∃ g6, X1.heap.size = g6 := ⟨_, rfl⟩
  rw [e6] at K6 hs3
  try simp only [e6]
  generalize X1.alloc (.cells #[.int .i64 sn, .int .i64 nesn, .int .i64 0, .int .i64 1, .slice none 0 0] 26) = X2 at *
  clear e6 q0 q1
  have HX : PP X2 0 ⟨1, none, 0, []⟩ := ⟨Nat.le_refl _, Nat.zero_le _, fun z hz => absurd hz (by simp), .inl (.inl rfl)⟩
  go_upto_region 10 with (refine Av.wpList_store_cell rfl _ _ _ rfl g6 2 (.int .i64 1) rfl rfl 26 _ K6 (by show 2 < 5; decide) (by kernel_rfl) rfl ?_)
  have sA := stp_cell (i := 2) K6 (.int .i64 1)
  replace K6 := Av.bset K6 2 (.int .i64 1) rfl
  replace K1 := sA.blk_ne K1 (by omega)
  replace K2 := sA.blk_ne K2 (by omega)
  replace K3 := sA.blk_ne K3 (by omega)
  replace HQ := HQ.step sA (by decide) (by decide) (Nat.zero_le _)
  replace HX := HX.step sA (by decide) (Nat.zero_le _)
  replace BX := BX.setCell (p := ⟨g6, 2, none⟩) (by show w.heap.size ≤ g6; omega) (.int .i64 1)
  clear sA
  generalize X2.setCell ⟨g6, 2, none⟩ (.int .i64 1) = X5 at *
  have K1' : Blk X5.drew (w.heap.size) 43 #[.int .i64 sn, .int .i64 nesn, .slice A n c, .bool true, .bool true, .int .i64 ack, .int .i64 tak] := Mem.Blk.drew K1
  have K2' : Blk X5.drew (w.heap.size + 1) 43 #[.int .i64 0, .int .i64 0, .slice none 0 0, .bool false, .bool false, .int .i64 0, .int .i64 0] := Mem.Blk.drew K2
  have K3' : Blk X5.drew (w.heap.size + 2) 26 #[.int .i64 0, .int .i64 0, .int .i64 0, .int .i64 0, .slice none 0 0] := Mem.Blk.drew K3
  have K6' : Blk X5.drew (g6) 26 #[.int .i64 sn, .int .i64 nesn, .int .i64 1, .int .i64 1, .slice none 0 0] := Mem.Blk.drew K6
  refine wp_region_held_drew (S := (fun w' => Blk w' (g6) 26 #[.int .i64 sn, .int .i64 nesn, .int .i64 1, .int .i64 1, .slice none 0 0] ∧ Blk w' (w.heap.size) 43 #[.int .i64 sn, .int .i64 nesn, .slice A n c, .bool true, .bool true, .int .i64 ack, .int .i64 tak])) (by kernel_rfl) ?_ (fun hHeld => ?_)
  ·
   exact ⟨K6', K1'⟩
  replace K1 := K1'
  clear K1'
  replace K2 := K2'
  clear K2'
  replace K3 := K3'
  clear K3'
  replace K6 := K6'
  clear K6'
  replace BX : Below w.heap.size w X5.drew := BX.drew
  replace HQ := (show QQ X5.drew (w.heap.size + 3) 0 (.slice A n c) L1 from HQ.below ((Below.refl X5.heap.size X5).drew))
  replace HX := (show PP X5.drew 0 ⟨1, none, 0, []⟩ from HX.below ((Below.refl X5.heap.size X5).drew))
  generalize X5.drew = Z0 at *
  refine wpAnyH_take (i := 0) (v := .agg #[.int .i64 sn, .int .i64 nesn, .slice A n c, .bool true, .bool true, .int .i64 ack, .int .i64 tak]) rfl (by kernel_rfl) (by kernel_rfl) (by kernel_rfl) (fun _ _ _ h => h) (Av.yields_part (by first | rfl | go_simp) _ _ rfl (w.heap.size) 0 rfl #[.int .i64 sn, .int .i64 nesn, .slice A n c, .bool true, .bool true, .int .i64 ack, .int .i64 tak] _ 43 #[.int .i64 sn, .int .i64 nesn, .slice A n c, .bool true, .bool true, .int .i64 ack, .int .i64 tak] (fun w9 hSw => hSw.2) rfl Try.underlying43 rfl (by kernel_rfl)) ‹_› ?_
  simp only [getElem_toArray, getElem_cons_zero, getElem_cons_succ, Act.put, setIfInBounds_toArray, set_cons_zero, set_cons_succ]
  refine wpAnyH_take (i := 1) (v := .agg #[.int .i64 sn, .int .i64 nesn, .int .i64 1, .int .i64 1, .slice none 0 0]) rfl (by kernel_rfl) (by kernel_rfl) (by kernel_rfl) (fun _ _ _ h => h) (Av.yields_part (by first | rfl | go_simp) _ _ rfl (g6) 0 rfl #[.int .i64 sn, .int .i64 nesn, .int .i64 1, .int .i64 1, .slice none 0 0] _ 26 #[.int .i64 sn, .int .i64 nesn, .int .i64 1, .int .i64 1, .slice none 0 0] (fun w9 hSw => hSw.1) rfl Try.underlying26 rfl (by kernel_rfl)) ‹_› ?_
  simp only [getElem_toArray, getElem_cons_zero, getElem_cons_succ, Act.put, setIfInBounds_toArray, set_cons_zero, set_cons_succ]
  refine wpAnyH_ready (rs := [2]) (by kernel_rfl) (by simp) ?_
  refine .cons rfl (fun K hK => ?_) .nil
  have H9 : (#[.int .i64 sn, .int .i64 nesn, .slice A n c, .bool true, .bool true, .int .i64 ack, .int .i64 tak] : Array Value).all (·.oneCell') = true := by rw [← Array.all_toList]; rfl
  refine Av.step_store_row rfl 43 (.tmp 2) (.tmp 41) rfl (w.heap.size + 1) #[.int .i64 sn, .int .i64 nesn, .slice A n c, .bool true, .bool true, .int .i64 ack, .int .i64 tak] rfl rfl 43 _ K2 (by kernel_rfl) rfl H9 ?_
  replace HQ := HQ.step (stp_row K2 #[.int .i64 sn, .int .i64 nesn, .slice A n c, .bool true, .bool true, .int .i64 ack, .int .i64 tak]) (by decide) (by decide) (Nat.zero_le _)
  replace HX := HX.step (stp_row K2 #[.int .i64 sn, .int .i64 nesn, .slice A n c, .bool true, .bool true, .int .i64 ack, .int .i64 tak]) (by decide) (Nat.zero_le _)
  replace K1 : Blk (Z0.setRow (w.heap.size + 1) #[.int .i64 sn, .int .i64 nesn, .slice A n c, .bool true, .bool true, .int .i64 ack, .int .i64 tak]) (w.heap.size) 43 #[.int .i64 sn, .int .i64 nesn, .slice A n c, .bool true, .bool true, .int .i64 ack, .int .i64 tak] := Av.bother_row K1 (by omega)
  replace K2 : Blk (Z0.setRow (w.heap.size + 1) #[.int .i64 sn, .int .i64 nesn, .slice A n c, .bool true, .bool true, .int .i64 ack, .int .i64 tak]) (w.heap.size + 1) 43 #[.int .i64 sn, .int .i64 nesn, .slice A n c, .bool true, .bool true, .int .i64 ack, .int .i64 tak] := Av.bset_row K2
  replace K3 : Blk (Z0.setRow (w.heap.size + 1) #[.int .i64 sn, .int .i64 nesn, .slice A n c, .bool true, .bool true, .int .i64 ack, .int .i64 tak]) (w.heap.size + 2) 26 #[.int .i64 0, .int .i64 0, .int .i64 0, .int .i64 0, .slice none 0 0] := Av.bother_row K3 (by omega)
  replace K6 : Blk (Z0.setRow (w.heap.size + 1) #[.int .i64 sn, .int .i64 nesn, .slice A n c, .bool true, .bool true, .int .i64 ack, .int .i64 tak]) (g6) 26 #[.int .i64 sn, .int .i64 nesn, .int .i64 1, .int .i64 1, .slice none 0 0] := Av.bother_row K6 (by omega)
  replace BX : Below w.heap.size w (Z0.setRow (w.heap.size + 1) #[.int .i64 sn, .int .i64 nesn, .slice A n c, .bool true, .bool true, .int .i64 ack, .int .i64 tak]) := below_setRow BX (by omega) _
  clear H9
  generalize Z0.setRow (w.heap.size + 1) #[.int .i64 sn, .int .i64 nesn, .slice A n c, .bool true, .bool true, .int .i64 ack, .int .i64 tak] = Z1 at *
  refine hK.out _ _ ⟨K6, K1⟩ (fun hHeld => ?_)
  clear hK K
  try simp only [getElem_toArray, getElem_cons_zero, getElem_cons_succ, Act.put, setIfInBounds_toArray, set_cons_zero, set_cons_succ]
  refine wpAnyH_ready (rs := [3]) (by kernel_rfl) (by simp) ?_
  refine .cons rfl (fun K hK => ?_) .nil
  have H9 : (#[.int .i64 sn, .int .i64 nesn, .int .i64 1, .int .i64 1, .slice none 0 0] : Array Value).all (·.oneCell') = true := by rw [← Array.all_toList]; rfl
  refine Av.step_store_row rfl 26 (.tmp 3) (.tmp 42) rfl (w.heap.size + 2) #[.int .i64 sn, .int .i64 nesn, .int .i64 1, .int .i64 1, .slice none 0 0] rfl rfl 26 _ K3 (by kernel_rfl) rfl H9 ?_
  replace HQ := HQ.step (stp_row K3 #[.int .i64 sn, .int .i64 nesn, .int .i64 1, .int .i64 1, .slice none 0 0]) (by decide) (by decide) (Nat.zero_le _)
  replace HX := HX.step (stp_row K3 #[.int .i64 sn, .int .i64 nesn, .int .i64 1, .int .i64 1, .slice none 0 0]) (by decide) (Nat.zero_le _)
  replace K1 : Blk (Z1.setRow (w.heap.size + 2) #[.int .i64 sn, .int .i64 nesn, .int .i64 1, .int .i64 1, .slice none 0 0]) (w.heap.size) 43 #[.int .i64 sn, .int .i64 nesn, .slice A n c, .bool true, .bool true, .int .i64 ack, .int .i64 tak] := Av.bother_row K1 (by omega)
  replace K2 : Blk (Z1.setRow (w.heap.size + 2) #[.int .i64 sn, .int .i64 nesn, .int .i64 1, .int .i64 1, .slice none 0 0]) (w.heap.size + 1) 43 #[.int .i64 sn, .int .i64 nesn, .slice A n c, .bool true, .bool true, .int .i64 ack, .int .i64 tak] := Av.bother_row K2 (by omega)
  replace K3 : Blk (Z1.setRow (w.heap.size + 2) #[.int .i64 sn, .int .i64 nesn, .int .i64 1, .int .i64 1, .slice none 0 0]) (w.heap.size + 2) 26 #[.int .i64 sn, .int .i64 nesn, .int .i64 1, .int .i64 1, .slice none 0 0] := Av.bset_row K3
  replace K6 : Blk (Z1.setRow (w.heap.size + 2) #[.int .i64 sn, .int .i64 nesn, .int .i64 1, .int .i64 1, .slice none 0 0]) (g6) 26 #[.int .i64 sn, .int .i64 nesn, .int .i64 1, .int .i64 1, .slice none 0 0] := Av.bother_row K6 (by omega)
  replace BX : Below w.heap.size w (Z1.setRow (w.heap.size + 2) #[.int .i64 sn, .int .i64 nesn, .int .i64 1, .int .i64 1, .slice none 0 0]) := below_setRow BX (by omega) _
  clear H9
  generalize Z1.setRow (w.heap.size + 2) #[.int .i64 sn, .int .i64 nesn, .int .i64 1, .int .i64 1, .slice none 0 0] = Z2 at *
  refine hK.out _ _ ⟨K6, K1⟩ (fun hHeld => ?_)
  clear hK K
  try simp only [getElem_toArray, getElem_cons_zero, getElem_cons_succ, Act.put, setIfInBounds_toArray, set_cons_zero, set_cons_succ]
  refine wpAnyH_done (by kernel_rfl) ?_ _
  go_wp2_with fail
  refine bodyPost_ret (v := .tuple #[.agg #[.int .i64 sn, .int .i64 nesn, .slice A n c, .bool true, .bool true, .int .i64 ack, .int .i64 tak], .agg #[.int .i64 sn, .int .i64 nesn, .int .i64 1, .int .i64 1, .slice none 0 0]]) ?_ rfl ⟨_, L1, ⟨1, none, 0, []⟩, by rw [HO.out.1, (pdu_bits _).1, (pdu_bits _).2.1, hmd]; rfl, HQ.less (by omega) (Nat.le_refl _), HLm.out, HO.out.2, HX, BX⟩
  clear hHeld K1 K6
  have HLa := run_loadVar_row (P := Try.prog) Z2 (w.heap.size + 1) 43 43 #[.int .i64 sn, .int .i64 nesn, .slice A n c, .bool true, .bool true, .int .i64 ack, .int .i64 tak] (0, 0) _ K2 Try.underlying43 rfl (by kernel_rfl)
  have HLb := run_loadVar_row (P := Try.prog) Z2 (w.heap.size + 2) 26 26 #[.int .i64 sn, .int .i64 nesn, .int .i64 1, .int .i64 1, .slice none 0 0] (0, 0) _ K3 Try.underlying26 rfl (by kernel_rfl)
  generalize (#[.int .i64 sn, .int .i64 nesn, .slice A n c, .bool true, .bool true, .int .i64 ack, .int .i64 tak] : Array Value) = CS at *
  generalize (#[.int .i64 sn, .int .i64 nesn, .int .i64 1, .int .i64 1, .slice none 0 0] : Array Value) = CP at *
  simp [results, show (Try.f30).results = #[.cell 2 43, .cell 3 26] from rfl, asAddr, HLa, HLb, Act.put]
end Go.Proofs.Ytbnfjielnamepaa.Arq
