/- Acknowledgement: a side with one more packet, by the document: contracts over the document. -/
import Derived.Test.YtbnfjielnamepaaArqR0
import Derived.Test.YtbnfjielnamepaaArqBox
set_option linter.unusedVariables false
set_option linter.unusedSimpArgs false
namespace Go.Proofs.Ytbnfjielnamepaa.Arq
open Go.RowKit Mem Oct Rw Av Dp
open Base (thenB)

theorem cells_blk {w : World} {g : Nat} {t : TypeId} {cs : Array Value} (h : Blk w g t cs) : CellsAt w w.heap.size (some ⟨g, 0, none⟩) cs.toList := .inr ⟨g, 0, rfl, h.lt, fun q u hq => by rw [h.cell]; simpa using hq⟩
open List (getElem_toArray getElem_cons_zero getElem_cons_succ setIfInBounds_toArray set_cons_zero set_cons_succ)
set_option maxRecDepth 100000 in
set_option maxHeartbeats 4000000 in
theorem rqueue_any (s : Sd) (V : Value) (l : List Pm) (x : Pm) (o : Nat) (w : World) (hn : l.length ≤ 1000000) (hq : QQ w 0 o V l) (hl : l.map Pm.p = s.q) (hx : PP w o x) (ho : o ≤ w.heap.size) :
  Calls Try.prog 29 #[.agg (acel s V), .agg #[.int .i64 x.k, .slice x.A x.v.length x.c]] w fun e w' => ∃ V' l', e = .returned (.tuple #[.agg (acel (queueR s x.p).1 V'), .int .i64 (queueR s x.p).2]) ∧ QQ w' 0 o V' l' ∧ l'.map Pm.p = (queueR s x.p).1.q ∧ Below w.heap.size w w' := by
 obtain ⟨sn, nesn, q, op, em, ack, tak⟩ := s
 simp only at hl
 obtain ⟨⟨A, c, rfl, _⟩, _⟩ := id hq
 obtain ⟨n, hln⟩ : ∃ n, l.length = n := ⟨_, rfl⟩
 rw [hln] at hq hn ⊢
 show Calls _ _ #[.agg #[.int .i64 sn, .int .i64 nesn, .slice A n c, .bool op, .bool em, .int .i64 ack, .int .i64 tak], _] _ _
 obtain ⟨iE, hi, hz, hs, hb, hc0⟩ := info_parts2 info_pk rfl
 have BX : Below w.heap.size w (((w.alloc (.cells #[.int .i64 sn, .int .i64 nesn, .slice A n c, .bool op, .bool em, .int .i64 ack, .int .i64 tak] 43)).alloc (.cells #[.int .i64 x.k, .slice x.A x.v.length x.c] 24)).alloc (.cells #[.int .i64 0, .int .i64 0, .slice none 0 0, .bool false, .bool false, .int .i64 0, .int .i64 0] 43)) := (((Below.refl _ _).alloc (Nat.le_refl _) _).alloc (by simp) _).alloc (by simp; omega) _
 have K1 : Blk (((w.alloc (.cells #[.int .i64 sn, .int .i64 nesn, .slice A n c, .bool op, .bool em, .int .i64 ack, .int .i64 tak] 43)).alloc (.cells #[.int .i64 x.k, .slice x.A x.v.length x.c] 24)).alloc (.cells #[.int .i64 0, .int .i64 0, .slice none 0 0, .bool false, .bool false, .int .i64 0, .int .i64 0] 43)) (w.heap.size) 43 #[.int .i64 sn, .int .i64 nesn, .slice A n c, .bool op, .bool em, .int .i64 ack, .int .i64 tak] := ((Blk.fresh w 43 #[.int .i64 sn, .int .i64 nesn, .slice A n c, .bool op, .bool em, .int .i64 ack, .int .i64 tak]).alloc _).alloc _
 have K2 : Blk (((w.alloc (.cells #[.int .i64 sn, .int .i64 nesn, .slice A n c, .bool op, .bool em, .int .i64 ack, .int .i64 tak] 43)).alloc (.cells #[.int .i64 x.k, .slice x.A x.v.length x.c] 24)).alloc (.cells #[.int .i64 0, .int .i64 0, .slice none 0 0, .bool false, .bool false, .int .i64 0, .int .i64 0] 43)) (w.heap.size + 1) 24 #[.int .i64 x.k, .slice x.A x.v.length x.c] := (Av.Blk.next).alloc _
 have K3 : Blk (((w.alloc (.cells #[.int .i64 sn, .int .i64 nesn, .slice A n c, .bool op, .bool em, .int .i64 ack, .int .i64 tak] 43)).alloc (.cells #[.int .i64 x.k, .slice x.A x.v.length x.c] 24)).alloc (.cells #[.int .i64 0, .int .i64 0, .slice none 0 0, .bool false, .bool false, .int .i64 0, .int .i64 0] 43)) (w.heap.size + 2) 43 #[.int .i64 0, .int .i64 0, .slice none 0 0, .bool false, .bool false, .int .i64 0, .int .i64 0] := by
  have := Blk.fresh ((w.alloc (.cells #[.int .i64 sn, .int .i64 nesn, .slice A n c, .bool op, .bool em, .int .i64 ack, .int .i64 tak] 43)).alloc (.cells #[.int .i64 x.k, .slice x.A x.v.length x.c] 24)) 43 #[.int .i64 0, .int .i64 0, .slice none 0 0, .bool false, .bool false, .int .i64 0, .int .i64 0]
  simpa using this
 have HQ := hq.below BX
 have HX := hx.below BX
 have HLm := Lib.hid hl
 have hnq : q.length = n := by rw [← hl, List.length_map, hln]
 have HOn : Hid (canB x.k x.v.length = false → queueR ⟨sn, nesn, q, op, em, ack, tak⟩ x.p = (⟨sn, nesn, q, op, em, ack, tak⟩, 1)) := Lib.hid fun h => by unfold queueR canW; simp [Pm.p, h]
 have HOf : Hid (canB x.k x.v.length = true → 64 ≤ n → queueR ⟨sn, nesn, q, op, em, ack, tak⟩ x.p = (⟨sn, nesn, q, op, em, ack, tak⟩, 8)) := Lib.hid fun h h2 => by unfold queueR canW; simp [Pm.p, h, hnq, h2]
 have HOy : Hid (canB x.k x.v.length = true → ¬ 64 ≤ n → queueR ⟨sn, nesn, q, op, em, ack, tak⟩ x.p = (⟨sn, nesn, q ++ [x.p], op, em, ack, tak⟩, 0)) := Lib.hid fun h h2 => by
  unfold queueR canW
  rw [show canB (Pm.p x).1 (Pm.p x).2.length = true from h, if_pos rfl, if_neg (by rw [hnq]; exact h2)]
 have HK := Lib.hid (rcheck_any 0 0 0 x.k x.A x.v.length x.c)
 rw [show chkN 0 0 0 x.k x.v.length = chkK x.k x.v.length from rfl] at HK
 obtain ⟨R, hR⟩ : ∃ R, chkK x.k x.v.length = R := ⟨_, rfl⟩
 rw [hR] at HK
 clear hq hl hx
 go_enter Try.func29, Try.ntmps29
 go_upto_region 1 with (fail)
 generalize ((w.alloc (.cells #[.int .i64 sn, .int .i64 nesn, .slice A n c, .bool op, .bool em, .int .i64 ack, .int .i64 tak] 43)).alloc (.cells #[.int .i64 x.k, .slice x.A x.v.length x.c] 24)).alloc (.cells #[.int .i64 0, .int .i64 0, .slice none 0 0, .bool false, .bool false, .int .i64 0, .int .i64 0] 43) = W0 at *
 have p0 := K2.cell 0
 have p1 := K2.cell 1
 cases hbl : blankB x.k x.v.length with
 | true =>
  have HB := Lib.hid (isblank_to hbl x.A x.c)
  have HO := Lib.hid (HOn.out (by unfold canB; rw [hbl]; rfl))
  clear hbl hR
  go_upto_region 2 with (first | (go_at_call 56; refine (HB.out _).mono ?_; rintro e W4 ⟨rfl, b9⟩; replace K1 := K1.below b9 K1.lt; replace K2 := K2.below b9 K2.lt; replace K3 := K3.below b9 K3.lt; replace HQ := HQ.below b9; replace HX := HX.below b9; replace BX := thenB BX b9; clear b9; have p0 := K2.cell 0; have p1 := K2.cell 1) | (go_at_call 15; refine (HK.out _).mono ?_; rintro e W5 ⟨rfl, b9⟩; replace K1 := K1.below b9 K1.lt; replace K2 := K2.below b9 K2.lt; replace K3 := K3.below b9 K3.lt; replace HQ := HQ.below b9; replace HX := HX.below b9; replace BX := thenB BX b9; clear b9))
  clear p0 p1
  have H1 : (#[.int .i64 sn, .int .i64 nesn, .slice A n c, .bool op, .bool em, .int .i64 ack, .int .i64 tak] : Array Value).all (·.oneCell') = true := by rw [← Array.all_toList]; rfl
  go_wp2_with (first | (refine wpList_store_row rfl 43 (.tmp 4) _ rfl (w.heap.size + 2) #[.int .i64 sn, .int .i64 nesn, .slice A n c, .bool op, .bool em, .int .i64 ack, .int .i64 tak] rfl rfl 43 _ K3 (by kernel_rfl) rfl H1 ?_) | (refine wpList_load_row rfl 43 (.tmp 2) rfl w.heap.size rfl 43 _ (0, 0) _ K1 Try.underlying43 rfl (by kernel_rfl) ?_))
  have HZ := HQ.step (stp_row K3 #[.int .i64 sn, .int .i64 nesn, .slice A n c, .bool op, .bool em, .int .i64 ack, .int .i64 tak]) (by decide) (by decide) (show o ≤ w.heap.size + 2 by omega)
  have KR := setRow_heap W4 (w.heap.size + 2) _ #[.int .i64 sn, .int .i64 nesn, .slice A n c, .bool op, .bool em, .int .i64 ack, .int .i64 tak] 43 (0, 0) K3
  have BE : Below w.heap.size w (W4.setRow (w.heap.size + 2) #[.int .i64 sn, .int .i64 nesn, .slice A n c, .bool op, .bool em, .int .i64 ack, .int .i64 tak]) := below_setRow BX (by omega) #[.int .i64 sn, .int .i64 nesn, .slice A n c, .bool op, .bool em, .int .i64 ack, .int .i64 tak]
  generalize W4.setRow (w.heap.size + 2) #[.int .i64 sn, .int .i64 nesn, .slice A n c, .bool op, .bool em, .int .i64 ack, .int .i64 tak] = Y at *
  refine bodyPost_ret (v := .tuple #[.agg #[.int .i64 sn, .int .i64 nesn, .slice A n c, .bool op, .bool em, .int .i64 ack, .int .i64 tak], .int .i64 1]) ?_ rfl ⟨_, l, by rw [HO.out]; rfl, HZ.less (Nat.zero_le _) (Nat.le_refl _), by rw [HO.out]; exact HLm.out, BE⟩
  clear K1
  have HL := run_loadVar_row (P := Try.prog) Y (w.heap.size + 2) 43 43 #[.int .i64 sn, .int .i64 nesn, .slice A n c, .bool op, .bool em, .int .i64 ack, .int .i64 tak] (0, 0) _ KR Try.underlying43 rfl (by kernel_rfl)
  generalize (#[.int .i64 sn, .int .i64 nesn, .slice A n c, .bool op, .bool em, .int .i64 ack, .int .i64 tak] : Array Value) = CS at *
  simp [results, show (Try.f29).results = #[.cell 4 43, .slot 5] from rfl, asAddr, HL, Act.put]
 | false =>
  have HB := Lib.hid (isblank_to hbl x.A x.c)
  by_cases h251 : x.v.length ≤ 251
  ·
   have g1 : ¬ (251 : Int) < (x.v.length : Int) := by omega
   by_cases h0 : R = 0
   ·
    subst h0
    have hcan : canB x.k x.v.length = true := by unfold canB; simp [hbl, h251, hR]
    by_cases h64 : 64 ≤ n
    ·
     have HO := Lib.hid (HOf.out hcan h64)
     have g2 : (64 : Int) ≤ (n : Int) := by omega
     clear hcan h64 hbl hR h251
     go_upto_region 3 with (first | (go_at_call 56; refine (HB.out _).mono ?_; rintro e W4 ⟨rfl, b9⟩; replace K1 := K1.below b9 K1.lt; replace K2 := K2.below b9 K2.lt; replace K3 := K3.below b9 K3.lt; replace HQ := HQ.below b9; replace HX := HX.below b9; replace BX := thenB BX b9; clear b9; have p0 := K2.cell 0; have p1 := K2.cell 1) | (go_at_call 15; refine (HK.out _).mono ?_; rintro e W5 ⟨rfl, b9⟩; replace K1 := K1.below b9 K1.lt; replace K2 := K2.below b9 K2.lt; replace K3 := K3.below b9 K3.lt; replace HQ := HQ.below b9; replace HX := HX.below b9; replace BX := thenB BX b9; clear b9))
     have p2 := K1.cell 2
     go_upto_region 4 with (fail)
     clear p0 p1 p2
     have H1 : (#[.int .i64 sn, .int .i64 nesn, .slice A n c, .bool op, .bool em, .int .i64 ack, .int .i64 tak] : Array Value).all (·.oneCell') = true := by rw [← Array.all_toList]; rfl
     go_wp2_with (first | (refine wpList_store_row rfl 43 (.tmp 4) _ rfl (w.heap.size + 2) #[.int .i64 sn, .int .i64 nesn, .slice A n c, .bool op, .bool em, .int .i64 ack, .int .i64 tak] rfl rfl 43 _ K3 (by kernel_rfl) rfl H1 ?_) | (refine wpList_load_row rfl 43 (.tmp 2) rfl w.heap.size rfl 43 _ (0, 0) _ K1 Try.underlying43 rfl (by kernel_rfl) ?_))
     have HZ := HQ.step (stp_row K3 #[.int .i64 sn, .int .i64 nesn, .slice A n c, .bool op, .bool em, .int .i64 ack, .int .i64 tak]) (by decide) (by decide) (show o ≤ w.heap.size + 2 by omega)
     have KR := setRow_heap W5 (w.heap.size + 2) _ #[.int .i64 sn, .int .i64 nesn, .slice A n c, .bool op, .bool em, .int .i64 ack, .int .i64 tak] 43 (0, 0) K3
     have BE : Below w.heap.size w (W5.setRow (w.heap.size + 2) #[.int .i64 sn, .int .i64 nesn, .slice A n c, .bool op, .bool em, .int .i64 ack, .int .i64 tak]) := below_setRow BX (by omega) #[.int .i64 sn, .int .i64 nesn, .slice A n c, .bool op, .bool em, .int .i64 ack, .int .i64 tak]
     generalize W5.setRow (w.heap.size + 2) #[.int .i64 sn, .int .i64 nesn, .slice A n c, .bool op, .bool em, .int .i64 ack, .int .i64 tak] = Y at *
     refine bodyPost_ret (v := .tuple #[.agg #[.int .i64 sn, .int .i64 nesn, .slice A n c, .bool op, .bool em, .int .i64 ack, .int .i64 tak], .int .i64 8]) ?_ rfl ⟨_, l, by rw [HO.out]; rfl, HZ.less (Nat.zero_le _) (Nat.le_refl _), by rw [HO.out]; exact HLm.out, BE⟩
     clear K1
     have HL := run_loadVar_row (P := Try.prog) Y (w.heap.size + 2) 43 43 #[.int .i64 sn, .int .i64 nesn, .slice A n c, .bool op, .bool em, .int .i64 ack, .int .i64 tak] (0, 0) _ KR Try.underlying43 rfl (by kernel_rfl)
     generalize (#[.int .i64 sn, .int .i64 nesn, .slice A n c, .bool op, .bool em, .int .i64 ack, .int .i64 tak] : Array Value) = CS at *
     simp [results, show (Try.f29).results = #[.cell 4 43, .slot 5] from rfl, asAddr, HL, Act.put]
    ·
     have HO := Lib.hid (HOy.out hcan h64)
     have g2 : ¬ (64 : Int) ≤ (n : Int) := by omega
     clear hcan h64 hbl hR h251
     go_upto_region 3 with (first | (go_at_call 56; refine (HB.out _).mono ?_; rintro e W4 ⟨rfl, b9⟩; replace K1 := K1.below b9 K1.lt; replace K2 := K2.below b9 K2.lt; replace K3 := K3.below b9 K3.lt; replace HQ := HQ.below b9; replace HX := HX.below b9; replace BX := thenB BX b9; clear b9; have p0 := K2.cell 0; have p1 := K2.cell 1) | (go_at_call 15; refine (HK.out _).mono ?_; rintro e W5 ⟨rfl, b9⟩; replace K1 := K1.below b9 K1.lt; replace K2 := K2.below b9 K2.lt; replace K3 := K3.below b9 K3.lt; replace HQ := HQ.below b9; replace HX := HX.below b9; replace BX := thenB BX b9; clear b9))
     have p2 := K1.cell 2
     go_upto_region 5 with (fail)
     clear p0 p1 p2
     have K1' : Blk W5.drew (w.heap.size) 43 #[.int .i64 sn, .int .i64 nesn, .slice A n c, .bool op, .bool em, .int .i64 ack, .int .i64 tak] := Mem.Blk.drew K1
     have K2' : Blk W5.drew (w.heap.size + 1) 24 #[.int .i64 x.k, .slice x.A x.v.length x.c] := Mem.Blk.drew K2
     have K3' : Blk W5.drew (w.heap.size + 2) 43 #[.int .i64 0, .int .i64 0, .slice none 0 0, .bool false, .bool false, .int .i64 0, .int .i64 0] := Mem.Blk.drew K3
     refine wp_region_held_drew (S := (fun w' => Blk w' (w.heap.size + 1) 24 #[.int .i64 x.k, .slice x.A x.v.length x.c])) (by kernel_rfl) ?_ (fun hHeld => ?_)
     ·
      exact K2'
     replace K1 := K1'
     clear K1'
     replace K2 := K2'
     clear K2'
     replace K3 := K3'
     clear K3'
     replace BX : Below w.heap.size w W5.drew := BX.drew
     replace HQ := (show QQ W5.drew 0 o (.slice A n c) l from HQ.below ((Below.refl W5.heap.size W5).drew))
     replace HX := (show PP W5.drew o x from HX.below ((Below.refl W5.heap.size W5).drew))
     generalize W5.drew = X0 at *
     refine wpAnyH_take (i := 1) (v := .pointer (some ⟨w.heap.size, 2, none⟩)) rfl (by kernel_rfl) (by kernel_rfl) (by kernel_rfl) (fun _ _ _ h => h) (.inl ⟨by first | rfl | go_simp, by intro u h; (try dsimp only at h); go_simp⟩) ‹_› ?_
     simp only [getElem_toArray, getElem_cons_zero, getElem_cons_succ, Act.put, setIfInBounds_toArray, set_cons_zero, set_cons_succ]
     refine wpAnyH_take (i := 4) (v := .agg #[.int .i64 x.k, .slice x.A x.v.length x.c]) rfl (by kernel_rfl) (by kernel_rfl) (by kernel_rfl) (fun _ _ _ h => h) (Av.yields_part (by first | rfl | go_simp) _ _ rfl (w.heap.size + 1) 0 rfl #[.int .i64 x.k, .slice x.A x.v.length x.c] _ 24 #[.int .i64 x.k, .slice x.A x.v.length x.c] (fun w9 hSw => hSw) rfl Try.underlying24 rfl (by kernel_rfl)) ‹_› ?_
     simp only [getElem_toArray, getElem_cons_zero, getElem_cons_succ, Act.put, setIfInBounds_toArray, set_cons_zero, set_cons_succ]
     refine wpAnyH_ready (rs := [0, 2, 5]) (by kernel_rfl) (by simp) ?_
     refine AllReadyH.cons rfl (fun K hK => ?_) (AllReadyH.cons rfl (fun K hK => ?_) (AllReadyH.cons rfl (fun K hK => ?_) (AllReadyH.nil)))
     ·
      go_simp
      have hg0 : w.heap.size + 3 ≤ X0.heap.size := by have := K3.lt; omega
      have b9 := (Below.refl X0.heap.size X0).alloc (Nat.le_refl _) (.cells #[] 24)
      have HR0 : RR (X0.alloc (.cells #[] 24)) X0.heap.size o (.slice (some ⟨X0.heap.size, 0, none⟩) 0 0) [] := ⟨World.ownsRow_made X0 #[] 0 (Nat.le_refl _) (by unfold maxLen; omega) rfl, by simp⟩
      have hz0 : X0.heap.size < (X0.alloc (.cells #[] 24)).heap.size := by simp
      generalize X0.alloc (.cells #[] 24) = X1 at *
      replace K1 := K1.below b9 K1.lt
      replace K2 := K2.below b9 K2.lt
      replace K3 := K3.below b9 K3.lt
      replace BX := thenB BX b9
      replace HQ := HQ.below b9
      replace HX := HX.below b9
      clear b9
      refine hK.out _ _ K2 (fun hHeld => ?_)
      clear hK K
      try simp only [getElem_toArray, getElem_cons_zero, getElem_cons_succ, Act.put, setIfInBounds_toArray, set_cons_zero, set_cons_succ]
      refine wpAnyH_ready (rs := [2, 5]) (by kernel_rfl) (by simp) ?_
      refine AllReadyH.cons rfl (fun K hK => ?_) (AllReadyH.cons rfl (fun K hK => ?_) (AllReadyH.nil))
      ·
       have c90 := K1.cell 2
       go_simp
       clear c90
       refine hK.out _ _ K2 (fun hHeld => ?_)
       clear hK K
       try simp only [getElem_toArray, getElem_cons_zero, getElem_cons_succ, Act.put, setIfInBounds_toArray, set_cons_zero, set_cons_succ]
       refine wpAnyH_ready (rs := [3, 5]) (by kernel_rfl) (by simp) ?_
       refine AllReadyH.cons rfl (fun K hK => ?_) (AllReadyH.cons rfl (fun K hK => ?_) (AllReadyH.nil))
       ·
        refine step_append_rows rfl (.tmp 26) (.tmp 28) 41 rfl (X0.heap.size) 24 iE _ 2 32 Try.underlying41 hi hz hs hb hc0 (by decide) (.slice (some ⟨X0.heap.size, 0, none⟩) 0 0) 0 [] rfl HR0.1 _ A n c (l.flatMap encK) rfl (by rw [flat_len sizK, hln]) (flat_one sizK l) HQ.len.2.2.cells (by unfold maxLen; omega) (by omega) (Nat.le_of_lt (HR0.lt _ rfl).2) ?_
        intro v4 X2 own4 b9 gr4
        have hq8 : (X0.heap.size) ≤ X2.heap.size := Nat.le_trans (Nat.le_of_lt (HR0.lt _ rfl).2) gr4.size
        simp only [Nat.zero_add, List.nil_append] at own4
        have hv0 : ∀ b : Nat, b ≠ X0.heap.size → (Value.slice (some ⟨X0.heap.size, 0, none⟩) 0 0).ownBlock ≠ some b := fun b hb h => hb (by simpa [Value.ownBlock] using h.symm)
        replace K1 := grow_blk_ne K1 (hv0 _ (by omega)) gr4
        replace K2 := grow_blk_ne K2 (hv0 _ (by omega)) gr4
        replace K3 := grow_blk_ne K3 (hv0 _ (by omega)) gr4
        have HR : RR X2 (X0.heap.size) o v4 l := ⟨by rw [hln]; exact own4, fun y hy => grow_p (HQ.2.1 y hy) HR0.1 gr4 (by omega)⟩
        replace HX := grow_p HX HR0.1 gr4 (by omega)
        replace BX := BX.trans (b9.mono (by omega))
        obtain ⟨A4, c4, rfl⟩ := own_form own4
        clear own4 gr4 b9 HR0 HQ hv0
        refine hK.out _ _ K2 (fun hHeld => ?_)
        clear hK K
        try simp only [getElem_toArray, getElem_cons_zero, getElem_cons_succ, Act.put, setIfInBounds_toArray, set_cons_zero, set_cons_succ]
        refine wpAnyH_ready (rs := [5]) (by kernel_rfl) (by simp) ?_
        refine .cons rfl (fun K hK => ?_) .nil
        go_simp
        have b9 := (Below.refl X2.heap.size X2).alloc (Nat.le_refl _) (.cells #[.int .i64 x.k, .slice x.A x.v.length x.c] 24)
        have KL : Blk (X2.alloc (.cells #[.int .i64 x.k, .slice x.A x.v.length x.c] 24)) X2.heap.size 24 #[.int .i64 x.k, .slice x.A x.v.length x.c] := Blk.fresh X2 24 #[.int .i64 x.k, .slice x.A x.v.length x.c]
        have hl1 := K3.lt
        have hq7 : X2.heap.size ≤ (X2.alloc (.cells #[.int .i64 x.k, .slice x.A x.v.length x.c] 24)).heap.size := by simp
        replace K1 := K1.below b9 K1.lt
        replace K2 := K2.below b9 K2.lt
        replace K3 := K3.below b9 K3.lt
        replace BX := thenB BX b9
        replace HX := HX.below b9
        replace HR := HR.below b9
        clear b9
        generalize X2.alloc (.cells #[.int .i64 x.k, .slice x.A x.v.length x.c] 24) = X3 at *
        refine hK.out _ _ K2 (fun hHeld => ?_)
        clear hK K
        try simp only [getElem_toArray, getElem_cons_zero, getElem_cons_succ, Act.put, setIfInBounds_toArray, set_cons_zero, set_cons_succ]
        refine wpAnyH_ready (rs := [6]) (by kernel_rfl) (by simp) ?_
        refine .cons rfl (fun K hK => ?_) .nil
        refine step_append_rows rfl (.tmp 29) (.tmp 31) 41 rfl (X0.heap.size) 24 iE _ 2 32 Try.underlying41 hi hz hs hb hc0 (by decide) (.slice A4 n c4) n (l.flatMap encK) rfl (by have := HR.1; rwa [hln] at this) _ (some ⟨X2.heap.size, 0, none⟩) 1 1 [.int .i64 x.k, .slice x.A x.v.length x.c] rfl rfl (by intro u hu; simp at hu; rcases hu with rfl | rfl <;> rfl) (cells_blk KL) (by unfold maxLen; omega) (by omega) (by omega) ?_
        intro v5 X4 own5 b9 gr5
        replace HR := grow_own HR HX gr5 (by omega) (by rw [hln]; exact own5)
        replace K1 := K1.below b9 (by omega)
        replace K2 := K2.below b9 (by omega)
        replace K3 := K3.below b9 (by omega)
        replace BX := BX.trans (b9.mono (by omega))
        obtain ⟨A6, c6, rfl⟩ := own_form own5
        clear own5 gr5 b9 HX KL
        refine hK.out _ _ K2 (fun hHeld => ?_)
        clear hK K
        try simp only [getElem_toArray, getElem_cons_zero, getElem_cons_succ, Act.put, setIfInBounds_toArray, set_cons_zero, set_cons_succ]
        refine wpAnyH_take (i := 7) (v := .pointer (some ⟨w.heap.size, 2, none⟩)) rfl (by kernel_rfl) (by kernel_rfl) (by kernel_rfl) (fun _ _ _ h => h) (.inl ⟨by first | rfl | go_simp, by intro u h; (try dsimp only at h); go_simp⟩) ‹_› ?_
        simp only [getElem_toArray, getElem_cons_zero, getElem_cons_succ, Act.put, setIfInBounds_toArray, set_cons_zero, set_cons_succ]
        refine wpAnyH_ready (rs := [8]) (by kernel_rfl) (by simp) ?_
        refine .cons rfl (fun K hK => ?_) .nil
        refine Av.step_store_cell rfl _ _ _ rfl (w.heap.size) 2 (.slice A6 (n + 1) c6) rfl rfl 43 _ K1 (by show 2 < 7; decide) (by kernel_rfl) rfl ?_
        replace HR := HR.step (stp_cell (i := 2) K1 (.slice A6 (n + 1) c6)) (by decide) (by decide) ho
        replace K1 : Blk (X4.setCell ⟨w.heap.size, 2, none⟩ (.slice A6 (n + 1) c6)) (w.heap.size) 43 #[.int .i64 sn, .int .i64 nesn, .slice A6 (n + 1) c6, .bool op, .bool em, .int .i64 ack, .int .i64 tak] := (Av.bset K1 2 (.slice A6 (n + 1) c6) rfl)
        replace K2 : Blk (X4.setCell ⟨w.heap.size, 2, none⟩ (.slice A6 (n + 1) c6)) (w.heap.size + 1) 24 #[.int .i64 x.k, .slice x.A x.v.length x.c] := Av.bother (K2) (by omega) _
        replace K3 : Blk (X4.setCell ⟨w.heap.size, 2, none⟩ (.slice A6 (n + 1) c6)) (w.heap.size + 2) 43 #[.int .i64 0, .int .i64 0, .slice none 0 0, .bool false, .bool false, .int .i64 0, .int .i64 0] := Av.bother (K3) (by omega) _
        replace BX : Below w.heap.size w (X4.setCell ⟨w.heap.size, 2, none⟩ (.slice A6 (n + 1) c6)) := (BX.setCell (p := ⟨w.heap.size, 2, none⟩) (by simp only; omega) _)
        generalize (X4.setCell ⟨w.heap.size, 2, none⟩ (.slice A6 (n + 1) c6)) = X5 at *
        refine hK.out _ _ K2 (fun hHeld => ?_)
        clear hK K
        try simp only [getElem_toArray, getElem_cons_zero, getElem_cons_succ, Act.put, setIfInBounds_toArray, set_cons_zero, set_cons_succ]
        refine wpAnyH_done (by kernel_rfl) ?_ _
        have H1 : (#[.int .i64 sn, .int .i64 nesn, .slice A6 (n + 1) c6, .bool op, .bool em, .int .i64 ack, .int .i64 tak] : Array Value).all (·.oneCell') = true := by rw [← Array.all_toList]; rfl
        go_wp2_with (first | (refine wpList_store_row rfl 43 (.tmp 4) _ rfl (w.heap.size + 2) #[.int .i64 sn, .int .i64 nesn, .slice A6 (n + 1) c6, .bool op, .bool em, .int .i64 ack, .int .i64 tak] rfl rfl 43 _ K3 (by kernel_rfl) rfl H1 ?_) | (refine wpList_load_row rfl 43 (.tmp 2) rfl w.heap.size rfl 43 _ (0, 0) _ K1 Try.underlying43 rfl (by kernel_rfl) ?_))
        have HZ := HR.qq.step (stp_row K3 #[.int .i64 sn, .int .i64 nesn, .slice A6 (n + 1) c6, .bool op, .bool em, .int .i64 ack, .int .i64 tak]) (by decide) (by decide) (show o ≤ w.heap.size + 2 by omega)
        have KR := setRow_heap X5 (w.heap.size + 2) _ #[.int .i64 sn, .int .i64 nesn, .slice A6 (n + 1) c6, .bool op, .bool em, .int .i64 ack, .int .i64 tak] 43 (0, 0) K3
        have BE : Below w.heap.size w (X5.setRow (w.heap.size + 2) #[.int .i64 sn, .int .i64 nesn, .slice A6 (n + 1) c6, .bool op, .bool em, .int .i64 ack, .int .i64 tak]) := below_setRow BX (by omega) #[.int .i64 sn, .int .i64 nesn, .slice A6 (n + 1) c6, .bool op, .bool em, .int .i64 ack, .int .i64 tak]
        generalize X5.setRow (w.heap.size + 2) #[.int .i64 sn, .int .i64 nesn, .slice A6 (n + 1) c6, .bool op, .bool em, .int .i64 ack, .int .i64 tak] = Y at *
        refine bodyPost_ret (v := .tuple #[.agg #[.int .i64 sn, .int .i64 nesn, .slice A6 (n + 1) c6, .bool op, .bool em, .int .i64 ack, .int .i64 tak], .int .i64 0]) ?_ rfl ⟨_, l ++ [x], by rw [HO.out]; rfl, HZ.less (Nat.zero_le _) (Nat.le_refl _), by rw [HO.out]; simp [HLm.out], BE⟩
        clear K1
        have HL := run_loadVar_row (P := Try.prog) Y (w.heap.size + 2) 43 43 #[.int .i64 sn, .int .i64 nesn, .slice A6 (n + 1) c6, .bool op, .bool em, .int .i64 ack, .int .i64 tak] (0, 0) _ KR Try.underlying43 rfl (by kernel_rfl)
        generalize (#[.int .i64 sn, .int .i64 nesn, .slice A6 (n + 1) c6, .bool op, .bool em, .int .i64 ack, .int .i64 tak] : Array Value) = CS at *
        simp [results, show (Try.f29).results = #[.cell 4 43, .slot 5] from rfl, asAddr, HL, Act.put]
       ·
        go_simp
        have b9 := (Below.refl X1.heap.size X1).alloc (Nat.le_refl _) (.cells #[.int .i64 x.k, .slice x.A x.v.length x.c] 24)
        have KL : Blk (X1.alloc (.cells #[.int .i64 x.k, .slice x.A x.v.length x.c] 24)) X1.heap.size 24 #[.int .i64 x.k, .slice x.A x.v.length x.c] := Blk.fresh X1 24 #[.int .i64 x.k, .slice x.A x.v.length x.c]
        have hl1 := K3.lt
        have hq7 : X1.heap.size ≤ (X1.alloc (.cells #[.int .i64 x.k, .slice x.A x.v.length x.c] 24)).heap.size := by simp
        replace K1 := K1.below b9 K1.lt
        replace K2 := K2.below b9 K2.lt
        replace K3 := K3.below b9 K3.lt
        replace BX := thenB BX b9
        replace HQ := HQ.below b9
        replace HX := HX.below b9
        replace HR0 := HR0.below b9
        clear b9
        generalize X1.alloc (.cells #[.int .i64 x.k, .slice x.A x.v.length x.c] 24) = X6 at *
        refine hK.out _ _ K2 (fun hHeld => ?_)
        clear hK K
        try simp only [getElem_toArray, getElem_cons_zero, getElem_cons_succ, Act.put, setIfInBounds_toArray, set_cons_zero, set_cons_succ]
        refine wpAnyH_ready (rs := [3]) (by kernel_rfl) (by simp) ?_
        refine .cons rfl (fun K hK => ?_) .nil
        refine step_append_rows rfl (.tmp 26) (.tmp 28) 41 rfl (X0.heap.size) 24 iE _ 2 32 Try.underlying41 hi hz hs hb hc0 (by decide) (.slice (some ⟨X0.heap.size, 0, none⟩) 0 0) 0 [] rfl HR0.1 _ A n c (l.flatMap encK) rfl (by rw [flat_len sizK, hln]) (flat_one sizK l) HQ.len.2.2.cells (by unfold maxLen; omega) (by omega) (Nat.le_of_lt (HR0.lt _ rfl).2) ?_
        intro v4 X7 own4 b9 gr4
        have hq8 : (X0.heap.size) ≤ X7.heap.size := Nat.le_trans (Nat.le_of_lt (HR0.lt _ rfl).2) gr4.size
        simp only [Nat.zero_add, List.nil_append] at own4
        have hv0 : ∀ b : Nat, b ≠ X0.heap.size → (Value.slice (some ⟨X0.heap.size, 0, none⟩) 0 0).ownBlock ≠ some b := fun b hb h => hb (by simpa [Value.ownBlock] using h.symm)
        replace K1 := grow_blk_ne K1 (hv0 _ (by omega)) gr4
        replace K2 := grow_blk_ne K2 (hv0 _ (by omega)) gr4
        replace K3 := grow_blk_ne K3 (hv0 _ (by omega)) gr4
        replace KL := grow_blk_ne KL (hv0 _ (by omega)) gr4
        have HR : RR X7 (X0.heap.size) o v4 l := ⟨by rw [hln]; exact own4, fun y hy => grow_p (HQ.2.1 y hy) HR0.1 gr4 (by omega)⟩
        replace HX := grow_p HX HR0.1 gr4 (by omega)
        replace BX := BX.trans (b9.mono (by omega))
        obtain ⟨A4, c4, rfl⟩ := own_form own4
        clear own4 gr4 b9 HR0 HQ hv0
        refine hK.out _ _ K2 (fun hHeld => ?_)
        clear hK K
        try simp only [getElem_toArray, getElem_cons_zero, getElem_cons_succ, Act.put, setIfInBounds_toArray, set_cons_zero, set_cons_succ]
        refine wpAnyH_ready (rs := [6]) (by kernel_rfl) (by simp) ?_
        refine .cons rfl (fun K hK => ?_) .nil
        refine step_append_rows rfl (.tmp 29) (.tmp 31) 41 rfl (X0.heap.size) 24 iE _ 2 32 Try.underlying41 hi hz hs hb hc0 (by decide) (.slice A4 n c4) n (l.flatMap encK) rfl (by have := HR.1; rwa [hln] at this) _ (some ⟨X1.heap.size, 0, none⟩) 1 1 [.int .i64 x.k, .slice x.A x.v.length x.c] rfl rfl (by intro u hu; simp at hu; rcases hu with rfl | rfl <;> rfl) (cells_blk KL) (by unfold maxLen; omega) (by omega) (by omega) ?_
        intro v5 X8 own5 b9 gr5
        replace HR := grow_own HR HX gr5 (by omega) (by rw [hln]; exact own5)
        replace K1 := K1.below b9 (by omega)
        replace K2 := K2.below b9 (by omega)
        replace K3 := K3.below b9 (by omega)
        replace BX := BX.trans (b9.mono (by omega))
        obtain ⟨A6, c6, rfl⟩ := own_form own5
        clear own5 gr5 b9 HX KL
        refine hK.out _ _ K2 (fun hHeld => ?_)
        clear hK K
        try simp only [getElem_toArray, getElem_cons_zero, getElem_cons_succ, Act.put, setIfInBounds_toArray, set_cons_zero, set_cons_succ]
        refine wpAnyH_take (i := 7) (v := .pointer (some ⟨w.heap.size, 2, none⟩)) rfl (by kernel_rfl) (by kernel_rfl) (by kernel_rfl) (fun _ _ _ h => h) (.inl ⟨by first | rfl | go_simp, by intro u h; (try dsimp only at h); go_simp⟩) ‹_› ?_
        simp only [getElem_toArray, getElem_cons_zero, getElem_cons_succ, Act.put, setIfInBounds_toArray, set_cons_zero, set_cons_succ]
        refine wpAnyH_ready (rs := [8]) (by kernel_rfl) (by simp) ?_
        refine .cons rfl (fun K hK => ?_) .nil
        refine Av.step_store_cell rfl _ _ _ rfl (w.heap.size) 2 (.slice A6 (n + 1) c6) rfl rfl 43 _ K1 (by show 2 < 7; decide) (by kernel_rfl) rfl ?_
        replace HR := HR.step (stp_cell (i := 2) K1 (.slice A6 (n + 1) c6)) (by decide) (by decide) ho
        replace K1 : Blk (X8.setCell ⟨w.heap.size, 2, none⟩ (.slice A6 (n + 1) c6)) (w.heap.size) 43 #[.int .i64 sn, .int .i64 nesn, .slice A6 (n + 1) c6, .bool op, .bool em, .int .i64 ack, .int .i64 tak] := (Av.bset K1 2 (.slice A6 (n + 1) c6) rfl)
        replace K2 : Blk (X8.setCell ⟨w.heap.size, 2, none⟩ (.slice A6 (n + 1) c6)) (w.heap.size + 1) 24 #[.int .i64 x.k, .slice x.A x.v.length x.c] := Av.bother (K2) (by omega) _
        replace K3 : Blk (X8.setCell ⟨w.heap.size, 2, none⟩ (.slice A6 (n + 1) c6)) (w.heap.size + 2) 43 #[.int .i64 0, .int .i64 0, .slice none 0 0, .bool false, .bool false, .int .i64 0, .int .i64 0] := Av.bother (K3) (by omega) _
        replace BX : Below w.heap.size w (X8.setCell ⟨w.heap.size, 2, none⟩ (.slice A6 (n + 1) c6)) := (BX.setCell (p := ⟨w.heap.size, 2, none⟩) (by simp only; omega) _)
        generalize (X8.setCell ⟨w.heap.size, 2, none⟩ (.slice A6 (n + 1) c6)) = X9 at *
        refine hK.out _ _ K2 (fun hHeld => ?_)
        clear hK K
        try simp only [getElem_toArray, getElem_cons_zero, getElem_cons_succ, Act.put, setIfInBounds_toArray, set_cons_zero, set_cons_succ]
        refine wpAnyH_done (by kernel_rfl) ?_ _
        have H1 : (#[.int .i64 sn, .int .i64 nesn, .slice A6 (n + 1) c6, .bool op, .bool em, .int .i64 ack, .int .i64 tak] : Array Value).all (·.oneCell') = true := by rw [← Array.all_toList]; rfl
        go_wp2_with (first | (refine wpList_store_row rfl 43 (.tmp 4) _ rfl (w.heap.size + 2) #[.int .i64 sn, .int .i64 nesn, .slice A6 (n + 1) c6, .bool op, .bool em, .int .i64 ack, .int .i64 tak] rfl rfl 43 _ K3 (by kernel_rfl) rfl H1 ?_) | (refine wpList_load_row rfl 43 (.tmp 2) rfl w.heap.size rfl 43 _ (0, 0) _ K1 Try.underlying43 rfl (by kernel_rfl) ?_))
        have HZ := HR.qq.step (stp_row K3 #[.int .i64 sn, .int .i64 nesn, .slice A6 (n + 1) c6, .bool op, .bool em, .int .i64 ack, .int .i64 tak]) (by decide) (by decide) (show o ≤ w.heap.size + 2 by omega)
        have KR := setRow_heap X9 (w.heap.size + 2) _ #[.int .i64 sn, .int .i64 nesn, .slice A6 (n + 1) c6, .bool op, .bool em, .int .i64 ack, .int .i64 tak] 43 (0, 0) K3
        have BE : Below w.heap.size w (X9.setRow (w.heap.size + 2) #[.int .i64 sn, .int .i64 nesn, .slice A6 (n + 1) c6, .bool op, .bool em, .int .i64 ack, .int .i64 tak]) := below_setRow BX (by omega) #[.int .i64 sn, .int .i64 nesn, .slice A6 (n + 1) c6, .bool op, .bool em, .int .i64 ack, .int .i64 tak]
        generalize X9.setRow (w.heap.size + 2) #[.int .i64 sn, .int .i64 nesn, .slice A6 (n + 1) c6, .bool op, .bool em, .int .i64 ack, .int .i64 tak] = Y at *
        refine bodyPost_ret (v := .tuple #[.agg #[.int .i64 sn, .int .i64 nesn, .slice A6 (n + 1) c6, .bool op, .bool em, .int .i64 ack, .int .i64 tak], .int .i64 0]) ?_ rfl ⟨_, l ++ [x], by rw [HO.out]; rfl, HZ.less (Nat.zero_le _) (Nat.le_refl _), by rw [HO.out]; simp [HLm.out], BE⟩
        clear K1
        have HL := run_loadVar_row (P := Try.prog) Y (w.heap.size + 2) 43 43 #[.int .i64 sn, .int .i64 nesn, .slice A6 (n + 1) c6, .bool op, .bool em, .int .i64 ack, .int .i64 tak] (0, 0) _ KR Try.underlying43 rfl (by kernel_rfl)
        generalize (#[.int .i64 sn, .int .i64 nesn, .slice A6 (n + 1) c6, .bool op, .bool em, .int .i64 ack, .int .i64 tak] : Array Value) = CS at *
        simp [results, show (Try.f29).results = #[.cell 4 43, .slot 5] from rfl, asAddr, HL, Act.put]
      ·
       go_simp
       have b9 := (Below.refl X1.heap.size X1).alloc (Nat.le_refl _) (.cells #[.int .i64 x.k, .slice x.A x.v.length x.c] 24)
       have KL : Blk (X1.alloc (.cells #[.int .i64 x.k, .slice x.A x.v.length x.c] 24)) X1.heap.size 24 #[.int .i64 x.k, .slice x.A x.v.length x.c] := Blk.fresh X1 24 #[.int .i64 x.k, .slice x.A x.v.length x.c]
       have hl1 := K3.lt
       have hq7 : X1.heap.size ≤ (X1.alloc (.cells #[.int .i64 x.k, .slice x.A x.v.length x.c] 24)).heap.size := by simp
       replace K1 := K1.below b9 K1.lt
       replace K2 := K2.below b9 K2.lt
       replace K3 := K3.below b9 K3.lt
       replace BX := thenB BX b9
       replace HQ := HQ.below b9
       replace HX := HX.below b9
       replace HR0 := HR0.below b9
       clear b9
       generalize X1.alloc (.cells #[.int .i64 x.k, .slice x.A x.v.length x.c] 24) = X10 at *
       refine hK.out _ _ K2 (fun hHeld => ?_)
       clear hK K
       try simp only [getElem_toArray, getElem_cons_zero, getElem_cons_succ, Act.put, setIfInBounds_toArray, set_cons_zero, set_cons_succ]
       refine wpAnyH_ready (rs := [2]) (by kernel_rfl) (by simp) ?_
       refine .cons rfl (fun K hK => ?_) .nil
       have c90 := K1.cell 2
       go_simp
       clear c90
       refine hK.out _ _ K2 (fun hHeld => ?_)
       clear hK K
       try simp only [getElem_toArray, getElem_cons_zero, getElem_cons_succ, Act.put, setIfInBounds_toArray, set_cons_zero, set_cons_succ]
       refine wpAnyH_ready (rs := [3]) (by kernel_rfl) (by simp) ?_
       refine .cons rfl (fun K hK => ?_) .nil
       refine step_append_rows rfl (.tmp 26) (.tmp 28) 41 rfl (X0.heap.size) 24 iE _ 2 32 Try.underlying41 hi hz hs hb hc0 (by decide) (.slice (some ⟨X0.heap.size, 0, none⟩) 0 0) 0 [] rfl HR0.1 _ A n c (l.flatMap encK) rfl (by rw [flat_len sizK, hln]) (flat_one sizK l) HQ.len.2.2.cells (by unfold maxLen; omega) (by omega) (Nat.le_of_lt (HR0.lt _ rfl).2) ?_
       intro v4 X11 own4 b9 gr4
       have hq8 : (X0.heap.size) ≤ X11.heap.size := Nat.le_trans (Nat.le_of_lt (HR0.lt _ rfl).2) gr4.size
       simp only [Nat.zero_add, List.nil_append] at own4
       have hv0 : ∀ b : Nat, b ≠ X0.heap.size → (Value.slice (some ⟨X0.heap.size, 0, none⟩) 0 0).ownBlock ≠ some b := fun b hb h => hb (by simpa [Value.ownBlock] using h.symm)
       replace K1 := grow_blk_ne K1 (hv0 _ (by omega)) gr4
       replace K2 := grow_blk_ne K2 (hv0 _ (by omega)) gr4
       replace K3 := grow_blk_ne K3 (hv0 _ (by omega)) gr4
       replace KL := grow_blk_ne KL (hv0 _ (by omega)) gr4
       have HR : RR X11 (X0.heap.size) o v4 l := ⟨by rw [hln]; exact own4, fun y hy => grow_p (HQ.2.1 y hy) HR0.1 gr4 (by omega)⟩
       replace HX := grow_p HX HR0.1 gr4 (by omega)
       replace BX := BX.trans (b9.mono (by omega))
       obtain ⟨A4, c4, rfl⟩ := own_form own4
       clear own4 gr4 b9 HR0 HQ hv0
       refine hK.out _ _ K2 (fun hHeld => ?_)
       clear hK K
       try simp only [getElem_toArray, getElem_cons_zero, getElem_cons_succ, Act.put, setIfInBounds_toArray, set_cons_zero, set_cons_succ]
       refine wpAnyH_ready (rs := [6]) (by kernel_rfl) (by simp) ?_
       refine .cons rfl (fun K hK => ?_) .nil
       refine step_append_rows rfl (.tmp 29) (.tmp 31) 41 rfl (X0.heap.size) 24 iE _ 2 32 Try.underlying41 hi hz hs hb hc0 (by decide) (.slice A4 n c4) n (l.flatMap encK) rfl (by have := HR.1; rwa [hln] at this) _ (some ⟨X1.heap.size, 0, none⟩) 1 1 [.int .i64 x.k, .slice x.A x.v.length x.c] rfl rfl (by intro u hu; simp at hu; rcases hu with rfl | rfl <;> rfl) (cells_blk KL) (by unfold maxLen; omega) (by omega) (by omega) ?_
       intro v5 X12 own5 b9 gr5
       replace HR := grow_own HR HX gr5 (by omega) (by rw [hln]; exact own5)
       replace K1 := K1.below b9 (by omega)
       replace K2 := K2.below b9 (by omega)
       replace K3 := K3.below b9 (by omega)
       replace BX := BX.trans (b9.mono (by omega))
       obtain ⟨A6, c6, rfl⟩ := own_form own5
       clear own5 gr5 b9 HX KL
       refine hK.out _ _ K2 (fun hHeld => ?_)
       clear hK K
       try simp only [getElem_toArray, getElem_cons_zero, getElem_cons_succ, Act.put, setIfInBounds_toArray, set_cons_zero, set_cons_succ]
       refine wpAnyH_take (i := 7) (v := .pointer (some ⟨w.heap.size, 2, none⟩)) rfl (by kernel_rfl) (by kernel_rfl) (by kernel_rfl) (fun _ _ _ h => h) (.inl ⟨by first | rfl | go_simp, by intro u h; (try dsimp only at h); go_simp⟩) ‹_› ?_
       simp only [getElem_toArray, getElem_cons_zero, getElem_cons_succ, Act.put, setIfInBounds_toArray, set_cons_zero, set_cons_succ]
       refine wpAnyH_ready (rs := [8]) (by kernel_rfl) (by simp) ?_
       refine .cons rfl (fun K hK => ?_) .nil
       refine Av.step_store_cell rfl _ _ _ rfl (w.heap.size) 2 (.slice A6 (n + 1) c6) rfl rfl 43 _ K1 (by show 2 < 7; decide) (by kernel_rfl) rfl ?_
       replace HR := HR.step (stp_cell (i := 2) K1 (.slice A6 (n + 1) c6)) (by decide) (by decide) ho
       replace K1 : Blk (X12.setCell ⟨w.heap.size, 2, none⟩ (.slice A6 (n + 1) c6)) (w.heap.size) 43 #[.int .i64 sn, .int .i64 nesn, .slice A6 (n + 1) c6, .bool op, .bool em, .int .i64 ack, .int .i64 tak] := (Av.bset K1 2 (.slice A6 (n + 1) c6) rfl)
       replace K2 : Blk (X12.setCell ⟨w.heap.size, 2, none⟩ (.slice A6 (n + 1) c6)) (w.heap.size + 1) 24 #[.int .i64 x.k, .slice x.A x.v.length x.c] := Av.bother (K2) (by omega) _
       replace K3 : Blk (X12.setCell ⟨w.heap.size, 2, none⟩ (.slice A6 (n + 1) c6)) (w.heap.size + 2) 43 #[.int .i64 0, .int .i64 0, .slice none 0 0, .bool false, .bool false, .int .i64 0, .int .i64 0] := Av.bother (K3) (by omega) _
       replace BX : Below w.heap.size w (X12.setCell ⟨w.heap.size, 2, none⟩ (.slice A6 (n + 1) c6)) := (BX.setCell (p := ⟨w.heap.size, 2, none⟩) (by simp only; omega) _)
       generalize (X12.setCell ⟨w.heap.size, 2, none⟩ (.slice A6 (n + 1) c6)) = X13 at *
       refine hK.out _ _ K2 (fun hHeld => ?_)
       clear hK K
       try simp only [getElem_toArray, getElem_cons_zero, getElem_cons_succ, Act.put, setIfInBounds_toArray, set_cons_zero, set_cons_succ]
       refine wpAnyH_done (by kernel_rfl) ?_ _
       have H1 : (#[.int .i64 sn, .int .i64 nesn, .slice A6 (n + 1) c6, .bool op, .bool em, .int .i64 ack, .int .i64 tak] : Array Value).all (·.oneCell') = true := by rw [← Array.all_toList]; rfl
       go_wp2_with (first | (refine wpList_store_row rfl 43 (.tmp 4) _ rfl (w.heap.size + 2) #[.int .i64 sn, .int .i64 nesn, .slice A6 (n + 1) c6, .bool op, .bool em, .int .i64 ack, .int .i64 tak] rfl rfl 43 _ K3 (by kernel_rfl) rfl H1 ?_) | (refine wpList_load_row rfl 43 (.tmp 2) rfl w.heap.size rfl 43 _ (0, 0) _ K1 Try.underlying43 rfl (by kernel_rfl) ?_))
       have HZ := HR.qq.step (stp_row K3 #[.int .i64 sn, .int .i64 nesn, .slice A6 (n + 1) c6, .bool op, .bool em, .int .i64 ack, .int .i64 tak]) (by decide) (by decide) (show o ≤ w.heap.size + 2 by omega)
       have KR := setRow_heap X13 (w.heap.size + 2) _ #[.int .i64 sn, .int .i64 nesn, .slice A6 (n + 1) c6, .bool op, .bool em, .int .i64 ack, .int .i64 tak] 43 (0, 0) K3
       have BE : Below w.heap.size w (X13.setRow (w.heap.size + 2) #[.int .i64 sn, .int .i64 nesn, .slice A6 (n + 1) c6, .bool op, .bool em, .int .i64 ack, .int .i64 tak]) := below_setRow BX (by omega) #[.int .i64 sn, .int .i64 nesn, .slice A6 (n + 1) c6, .bool op, .bool em, .int .i64 ack, .int .i64 tak]
       generalize X13.setRow (w.heap.size + 2) #[.int .i64 sn, .int .i64 nesn, .slice A6 (n + 1) c6, .bool op, .bool em, .int .i64 ack, .int .i64 tak] = Y at *
       refine bodyPost_ret (v := .tuple #[.agg #[.int .i64 sn, .int .i64 nesn, .slice A6 (n + 1) c6, .bool op, .bool em, .int .i64 ack, .int .i64 tak], .int .i64 0]) ?_ rfl ⟨_, l ++ [x], by rw [HO.out]; rfl, HZ.less (Nat.zero_le _) (Nat.le_refl _), by rw [HO.out]; simp [HLm.out], BE⟩
       clear K1
       have HL := run_loadVar_row (P := Try.prog) Y (w.heap.size + 2) 43 43 #[.int .i64 sn, .int .i64 nesn, .slice A6 (n + 1) c6, .bool op, .bool em, .int .i64 ack, .int .i64 tak] (0, 0) _ KR Try.underlying43 rfl (by kernel_rfl)
       generalize (#[.int .i64 sn, .int .i64 nesn, .slice A6 (n + 1) c6, .bool op, .bool em, .int .i64 ack, .int .i64 tak] : Array Value) = CS at *
       simp [results, show (Try.f29).results = #[.cell 4 43, .slot 5] from rfl, asAddr, HL, Act.put]
     ·
      have c90 := K1.cell 2
      go_simp
      clear c90
      refine hK.out _ _ K2 (fun hHeld => ?_)
      clear hK K
      try simp only [getElem_toArray, getElem_cons_zero, getElem_cons_succ, Act.put, setIfInBounds_toArray, set_cons_zero, set_cons_succ]
      refine wpAnyH_ready (rs := [0, 5]) (by kernel_rfl) (by simp) ?_
      refine AllReadyH.cons rfl (fun K hK => ?_) (AllReadyH.cons rfl (fun K hK => ?_) (AllReadyH.nil))
      ·
       go_simp
       have hg0 : w.heap.size + 3 ≤ X0.heap.size := by have := K3.lt; omega
       have b9 := (Below.refl X0.heap.size X0).alloc (Nat.le_refl _) (.cells #[] 24)
       have HR0 : RR (X0.alloc (.cells #[] 24)) X0.heap.size o (.slice (some ⟨X0.heap.size, 0, none⟩) 0 0) [] := ⟨World.ownsRow_made X0 #[] 0 (Nat.le_refl _) (by unfold maxLen; omega) rfl, by simp⟩
       have hz0 : X0.heap.size < (X0.alloc (.cells #[] 24)).heap.size := by simp
       generalize X0.alloc (.cells #[] 24) = X14 at *
       replace K1 := K1.below b9 K1.lt
       replace K2 := K2.below b9 K2.lt
       replace K3 := K3.below b9 K3.lt
       replace BX := thenB BX b9
       replace HQ := HQ.below b9
       replace HX := HX.below b9
       clear b9
       refine hK.out _ _ K2 (fun hHeld => ?_)
       clear hK K
       try simp only [getElem_toArray, getElem_cons_zero, getElem_cons_succ, Act.put, setIfInBounds_toArray, set_cons_zero, set_cons_succ]
       refine wpAnyH_ready (rs := [3, 5]) (by kernel_rfl) (by simp) ?_
       refine AllReadyH.cons rfl (fun K hK => ?_) (AllReadyH.cons rfl (fun K hK => ?_) (AllReadyH.nil))
       ·
        refine step_append_rows rfl (.tmp 26) (.tmp 28) 41 rfl (X0.heap.size) 24 iE _ 2 32 Try.underlying41 hi hz hs hb hc0 (by decide) (.slice (some ⟨X0.heap.size, 0, none⟩) 0 0) 0 [] rfl HR0.1 _ A n c (l.flatMap encK) rfl (by rw [flat_len sizK, hln]) (flat_one sizK l) HQ.len.2.2.cells (by unfold maxLen; omega) (by omega) (Nat.le_of_lt (HR0.lt _ rfl).2) ?_
        intro v4 X15 own4 b9 gr4
        have hq8 : (X0.heap.size) ≤ X15.heap.size := Nat.le_trans (Nat.le_of_lt (HR0.lt _ rfl).2) gr4.size
        simp only [Nat.zero_add, List.nil_append] at own4
        have hv0 : ∀ b : Nat, b ≠ X0.heap.size → (Value.slice (some ⟨X0.heap.size, 0, none⟩) 0 0).ownBlock ≠ some b := fun b hb h => hb (by simpa [Value.ownBlock] using h.symm)
        replace K1 := grow_blk_ne K1 (hv0 _ (by omega)) gr4
        replace K2 := grow_blk_ne K2 (hv0 _ (by omega)) gr4
        replace K3 := grow_blk_ne K3 (hv0 _ (by omega)) gr4
        have HR : RR X15 (X0.heap.size) o v4 l := ⟨by rw [hln]; exact own4, fun y hy => grow_p (HQ.2.1 y hy) HR0.1 gr4 (by omega)⟩
        replace HX := grow_p HX HR0.1 gr4 (by omega)
        replace BX := BX.trans (b9.mono (by omega))
        obtain ⟨A4, c4, rfl⟩ := own_form own4
        clear own4 gr4 b9 HR0 HQ hv0
        refine hK.out _ _ K2 (fun hHeld => ?_)
        clear hK K
        try simp only [getElem_toArray, getElem_cons_zero, getElem_cons_succ, Act.put, setIfInBounds_toArray, set_cons_zero, set_cons_succ]
        refine wpAnyH_ready (rs := [5]) (by kernel_rfl) (by simp) ?_
        refine .cons rfl (fun K hK => ?_) .nil
        go_simp
        have b9 := (Below.refl X15.heap.size X15).alloc (Nat.le_refl _) (.cells #[.int .i64 x.k, .slice x.A x.v.length x.c] 24)
        have KL : Blk (X15.alloc (.cells #[.int .i64 x.k, .slice x.A x.v.length x.c] 24)) X15.heap.size 24 #[.int .i64 x.k, .slice x.A x.v.length x.c] := Blk.fresh X15 24 #[.int .i64 x.k, .slice x.A x.v.length x.c]
        have hl1 := K3.lt
        have hq7 : X15.heap.size ≤ (X15.alloc (.cells #[.int .i64 x.k, .slice x.A x.v.length x.c] 24)).heap.size := by simp
        replace K1 := K1.below b9 K1.lt
        replace K2 := K2.below b9 K2.lt
        replace K3 := K3.below b9 K3.lt
        replace BX := thenB BX b9
        replace HX := HX.below b9
        replace HR := HR.below b9
        clear b9
        generalize X15.alloc (.cells #[.int .i64 x.k, .slice x.A x.v.length x.c] 24) = X16 at *
        refine hK.out _ _ K2 (fun hHeld => ?_)
        clear hK K
        try simp only [getElem_toArray, getElem_cons_zero, getElem_cons_succ, Act.put, setIfInBounds_toArray, set_cons_zero, set_cons_succ]
        refine wpAnyH_ready (rs := [6]) (by kernel_rfl) (by simp) ?_
        refine .cons rfl (fun K hK => ?_) .nil
        refine step_append_rows rfl (.tmp 29) (.tmp 31) 41 rfl (X0.heap.size) 24 iE _ 2 32 Try.underlying41 hi hz hs hb hc0 (by decide) (.slice A4 n c4) n (l.flatMap encK) rfl (by have := HR.1; rwa [hln] at this) _ (some ⟨X15.heap.size, 0, none⟩) 1 1 [.int .i64 x.k, .slice x.A x.v.length x.c] rfl rfl (by intro u hu; simp at hu; rcases hu with rfl | rfl <;> rfl) (cells_blk KL) (by unfold maxLen; omega) (by omega) (by omega) ?_
        intro v5 X17 own5 b9 gr5
        replace HR := grow_own HR HX gr5 (by omega) (by rw [hln]; exact own5)
        replace K1 := K1.below b9 (by omega)
        replace K2 := K2.below b9 (by omega)
        replace K3 := K3.below b9 (by omega)
        replace BX := BX.trans (b9.mono (by omega))
        obtain ⟨A6, c6, rfl⟩ := own_form own5
        clear own5 gr5 b9 HX KL
        refine hK.out _ _ K2 (fun hHeld => ?_)
        clear hK K
        try simp only [getElem_toArray, getElem_cons_zero, getElem_cons_succ, Act.put, setIfInBounds_toArray, set_cons_zero, set_cons_succ]
        refine wpAnyH_take (i := 7) (v := .pointer (some ⟨w.heap.size, 2, none⟩)) rfl (by kernel_rfl) (by kernel_rfl) (by kernel_rfl) (fun _ _ _ h => h) (.inl ⟨by first | rfl | go_simp, by intro u h; (try dsimp only at h); go_simp⟩) ‹_› ?_
        simp only [getElem_toArray, getElem_cons_zero, getElem_cons_succ, Act.put, setIfInBounds_toArray, set_cons_zero, set_cons_succ]
        refine wpAnyH_ready (rs := [8]) (by kernel_rfl) (by simp) ?_
        refine .cons rfl (fun K hK => ?_) .nil
        refine Av.step_store_cell rfl _ _ _ rfl (w.heap.size) 2 (.slice A6 (n + 1) c6) rfl rfl 43 _ K1 (by show 2 < 7; decide) (by kernel_rfl) rfl ?_
        replace HR := HR.step (stp_cell (i := 2) K1 (.slice A6 (n + 1) c6)) (by decide) (by decide) ho
        replace K1 : Blk (X17.setCell ⟨w.heap.size, 2, none⟩ (.slice A6 (n + 1) c6)) (w.heap.size) 43 #[.int .i64 sn, .int .i64 nesn, .slice A6 (n + 1) c6, .bool op, .bool em, .int .i64 ack, .int .i64 tak] := (Av.bset K1 2 (.slice A6 (n + 1) c6) rfl)
        replace K2 : Blk (X17.setCell ⟨w.heap.size, 2, none⟩ (.slice A6 (n + 1) c6)) (w.heap.size + 1) 24 #[.int .i64 x.k, .slice x.A x.v.length x.c] := Av.bother (K2) (by omega) _
        replace K3 : Blk (X17.setCell ⟨w.heap.size, 2, none⟩ (.slice A6 (n + 1) c6)) (w.heap.size + 2) 43 #[.int .i64 0, .int .i64 0, .slice none 0 0, .bool false, .bool false, .int .i64 0, .int .i64 0] := Av.bother (K3) (by omega) _
        replace BX : Below w.heap.size w (X17.setCell ⟨w.heap.size, 2, none⟩ (.slice A6 (n + 1) c6)) := (BX.setCell (p := ⟨w.heap.size, 2, none⟩) (by simp only; omega) _)
        generalize (X17.setCell ⟨w.heap.size, 2, none⟩ (.slice A6 (n + 1) c6)) = X18 at *
        refine hK.out _ _ K2 (fun hHeld => ?_)
        clear hK K
        try simp only [getElem_toArray, getElem_cons_zero, getElem_cons_succ, Act.put, setIfInBounds_toArray, set_cons_zero, set_cons_succ]
        refine wpAnyH_done (by kernel_rfl) ?_ _
        have H1 : (#[.int .i64 sn, .int .i64 nesn, .slice A6 (n + 1) c6, .bool op, .bool em, .int .i64 ack, .int .i64 tak] : Array Value).all (·.oneCell') = true := by rw [← Array.all_toList]; rfl
        go_wp2_with (first | (refine wpList_store_row rfl 43 (.tmp 4) _ rfl (w.heap.size + 2) #[.int .i64 sn, .int .i64 nesn, .slice A6 (n + 1) c6, .bool op, .bool em, .int .i64 ack, .int .i64 tak] rfl rfl 43 _ K3 (by kernel_rfl) rfl H1 ?_) | (refine wpList_load_row rfl 43 (.tmp 2) rfl w.heap.size rfl 43 _ (0, 0) _ K1 Try.underlying43 rfl (by kernel_rfl) ?_))
        have HZ := HR.qq.step (stp_row K3 #[.int .i64 sn, .int .i64 nesn, .slice A6 (n + 1) c6, .bool op, .bool em, .int .i64 ack, .int .i64 tak]) (by decide) (by decide) (show o ≤ w.heap.size + 2 by omega)
        have KR := setRow_heap X18 (w.heap.size + 2) _ #[.int .i64 sn, .int .i64 nesn, .slice A6 (n + 1) c6, .bool op, .bool em, .int .i64 ack, .int .i64 tak] 43 (0, 0) K3
        have BE : Below w.heap.size w (X18.setRow (w.heap.size + 2) #[.int .i64 sn, .int .i64 nesn, .slice A6 (n + 1) c6, .bool op, .bool em, .int .i64 ack, .int .i64 tak]) := below_setRow BX (by omega) #[.int .i64 sn, .int .i64 nesn, .slice A6 (n + 1) c6, .bool op, .bool em, .int .i64 ack, .int .i64 tak]
        generalize X18.setRow (w.heap.size + 2) #[.int .i64 sn, .int .i64 nesn, .slice A6 (n + 1) c6, .bool op, .bool em, .int .i64 ack, .int .i64 tak] = Y at *
        refine bodyPost_ret (v := .tuple #[.agg #[.int .i64 sn, .int .i64 nesn, .slice A6 (n + 1) c6, .bool op, .bool em, .int .i64 ack, .int .i64 tak], .int .i64 0]) ?_ rfl ⟨_, l ++ [x], by rw [HO.out]; rfl, HZ.less (Nat.zero_le _) (Nat.le_refl _), by rw [HO.out]; simp [HLm.out], BE⟩
        clear K1
        have HL := run_loadVar_row (P := Try.prog) Y (w.heap.size + 2) 43 43 #[.int .i64 sn, .int .i64 nesn, .slice A6 (n + 1) c6, .bool op, .bool em, .int .i64 ack, .int .i64 tak] (0, 0) _ KR Try.underlying43 rfl (by kernel_rfl)
        generalize (#[.int .i64 sn, .int .i64 nesn, .slice A6 (n + 1) c6, .bool op, .bool em, .int .i64 ack, .int .i64 tak] : Array Value) = CS at *
        simp [results, show (Try.f29).results = #[.cell 4 43, .slot 5] from rfl, asAddr, HL, Act.put]
       ·
        go_simp
        have b9 := (Below.refl X14.heap.size X14).alloc (Nat.le_refl _) (.cells #[.int .i64 x.k, .slice x.A x.v.length x.c] 24)
        have KL : Blk (X14.alloc (.cells #[.int .i64 x.k, .slice x.A x.v.length x.c] 24)) X14.heap.size 24 #[.int .i64 x.k, .slice x.A x.v.length x.c] := Blk.fresh X14 24 #[.int .i64 x.k, .slice x.A x.v.length x.c]
        have hl1 := K3.lt
        have hq7 : X14.heap.size ≤ (X14.alloc (.cells #[.int .i64 x.k, .slice x.A x.v.length x.c] 24)).heap.size := by simp
        replace K1 := K1.below b9 K1.lt
        replace K2 := K2.below b9 K2.lt
        replace K3 := K3.below b9 K3.lt
        replace BX := thenB BX b9
        replace HQ := HQ.below b9
        replace HX := HX.below b9
        replace HR0 := HR0.below b9
        clear b9
        generalize X14.alloc (.cells #[.int .i64 x.k, .slice x.A x.v.length x.c] 24) = X19 at *
        refine hK.out _ _ K2 (fun hHeld => ?_)
        clear hK K
        try simp only [getElem_toArray, getElem_cons_zero, getElem_cons_succ, Act.put, setIfInBounds_toArray, set_cons_zero, set_cons_succ]
        refine wpAnyH_ready (rs := [3]) (by kernel_rfl) (by simp) ?_
        refine .cons rfl (fun K hK => ?_) .nil
        refine step_append_rows rfl (.tmp 26) (.tmp 28) 41 rfl (X0.heap.size) 24 iE _ 2 32 Try.underlying41 hi hz hs hb hc0 (by decide) (.slice (some ⟨X0.heap.size, 0, none⟩) 0 0) 0 [] rfl HR0.1 _ A n c (l.flatMap encK) rfl (by rw [flat_len sizK, hln]) (flat_one sizK l) HQ.len.2.2.cells (by unfold maxLen; omega) (by omega) (Nat.le_of_lt (HR0.lt _ rfl).2) ?_
        intro v4 X20 own4 b9 gr4
        have hq8 : (X0.heap.size) ≤ X20.heap.size := Nat.le_trans (Nat.le_of_lt (HR0.lt _ rfl).2) gr4.size
        simp only [Nat.zero_add, List.nil_append] at own4
        have hv0 : ∀ b : Nat, b ≠ X0.heap.size → (Value.slice (some ⟨X0.heap.size, 0, none⟩) 0 0).ownBlock ≠ some b := fun b hb h => hb (by simpa [Value.ownBlock] using h.symm)
        replace K1 := grow_blk_ne K1 (hv0 _ (by omega)) gr4
        replace K2 := grow_blk_ne K2 (hv0 _ (by omega)) gr4
        replace K3 := grow_blk_ne K3 (hv0 _ (by omega)) gr4
        replace KL := grow_blk_ne KL (hv0 _ (by omega)) gr4
        have HR : RR X20 (X0.heap.size) o v4 l := ⟨by rw [hln]; exact own4, fun y hy => grow_p (HQ.2.1 y hy) HR0.1 gr4 (by omega)⟩
        replace HX := grow_p HX HR0.1 gr4 (by omega)
        replace BX := BX.trans (b9.mono (by omega))
        obtain ⟨A4, c4, rfl⟩ := own_form own4
        clear own4 gr4 b9 HR0 HQ hv0
        refine hK.out _ _ K2 (fun hHeld => ?_)
        clear hK K
        try simp only [getElem_toArray, getElem_cons_zero, getElem_cons_succ, Act.put, setIfInBounds_toArray, set_cons_zero, set_cons_succ]
        refine wpAnyH_ready (rs := [6]) (by kernel_rfl) (by simp) ?_
        refine .cons rfl (fun K hK => ?_) .nil
        refine step_append_rows rfl (.tmp 29) (.tmp 31) 41 rfl (X0.heap.size) 24 iE _ 2 32 Try.underlying41 hi hz hs hb hc0 (by decide) (.slice A4 n c4) n (l.flatMap encK) rfl (by have := HR.1; rwa [hln] at this) _ (some ⟨X14.heap.size, 0, none⟩) 1 1 [.int .i64 x.k, .slice x.A x.v.length x.c] rfl rfl (by intro u hu; simp at hu; rcases hu with rfl | rfl <;> rfl) (cells_blk KL) (by unfold maxLen; omega) (by omega) (by omega) ?_
        intro v5 X21 own5 b9 gr5
        replace HR := grow_own HR HX gr5 (by omega) (by rw [hln]; exact own5)
        replace K1 := K1.below b9 (by omega)
        replace K2 := K2.below b9 (by omega)
        replace K3 := K3.below b9 (by omega)
        replace BX := BX.trans (b9.mono (by omega))
        obtain ⟨A6, c6, rfl⟩ := own_form own5
        clear own5 gr5 b9 HX KL
        refine hK.out _ _ K2 (fun hHeld => ?_)
        clear hK K
        try simp only [getElem_toArray, getElem_cons_zero, getElem_cons_succ, Act.put, setIfInBounds_toArray, set_cons_zero, set_cons_succ]
        refine wpAnyH_take (i := 7) (v := .pointer (some ⟨w.heap.size, 2, none⟩)) rfl (by kernel_rfl) (by kernel_rfl) (by kernel_rfl) (fun _ _ _ h => h) (.inl ⟨by first | rfl | go_simp, by intro u h; (try dsimp only at h); go_simp⟩) ‹_› ?_
        simp only [getElem_toArray, getElem_cons_zero, getElem_cons_succ, Act.put, setIfInBounds_toArray, set_cons_zero, set_cons_succ]
        refine wpAnyH_ready (rs := [8]) (by kernel_rfl) (by simp) ?_
        refine .cons rfl (fun K hK => ?_) .nil
        refine Av.step_store_cell rfl _ _ _ rfl (w.heap.size) 2 (.slice A6 (n + 1) c6) rfl rfl 43 _ K1 (by show 2 < 7; decide) (by kernel_rfl) rfl ?_
        replace HR := HR.step (stp_cell (i := 2) K1 (.slice A6 (n + 1) c6)) (by decide) (by decide) ho
        replace K1 : Blk (X21.setCell ⟨w.heap.size, 2, none⟩ (.slice A6 (n + 1) c6)) (w.heap.size) 43 #[.int .i64 sn, .int .i64 nesn, .slice A6 (n + 1) c6, .bool op, .bool em, .int .i64 ack, .int .i64 tak] := (Av.bset K1 2 (.slice A6 (n + 1) c6) rfl)
        replace K2 : Blk (X21.setCell ⟨w.heap.size, 2, none⟩ (.slice A6 (n + 1) c6)) (w.heap.size + 1) 24 #[.int .i64 x.k, .slice x.A x.v.length x.c] := Av.bother (K2) (by omega) _
        replace K3 : Blk (X21.setCell ⟨w.heap.size, 2, none⟩ (.slice A6 (n + 1) c6)) (w.heap.size + 2) 43 #[.int .i64 0, .int .i64 0, .slice none 0 0, .bool false, .bool false, .int .i64 0, .int .i64 0] := Av.bother (K3) (by omega) _
        replace BX : Below w.heap.size w (X21.setCell ⟨w.heap.size, 2, none⟩ (.slice A6 (n + 1) c6)) := (BX.setCell (p := ⟨w.heap.size, 2, none⟩) (by simp only; omega) _)
        generalize (X21.setCell ⟨w.heap.size, 2, none⟩ (.slice A6 (n + 1) c6)) = X22 at *
        refine hK.out _ _ K2 (fun hHeld => ?_)
        clear hK K
        try simp only [getElem_toArray, getElem_cons_zero, getElem_cons_succ, Act.put, setIfInBounds_toArray, set_cons_zero, set_cons_succ]
        refine wpAnyH_done (by kernel_rfl) ?_ _
        have H1 : (#[.int .i64 sn, .int .i64 nesn, .slice A6 (n + 1) c6, .bool op, .bool em, .int .i64 ack, .int .i64 tak] : Array Value).all (·.oneCell') = true := by rw [← Array.all_toList]; rfl
        go_wp2_with (first | (refine wpList_store_row rfl 43 (.tmp 4) _ rfl (w.heap.size + 2) #[.int .i64 sn, .int .i64 nesn, .slice A6 (n + 1) c6, .bool op, .bool em, .int .i64 ack, .int .i64 tak] rfl rfl 43 _ K3 (by kernel_rfl) rfl H1 ?_) | (refine wpList_load_row rfl 43 (.tmp 2) rfl w.heap.size rfl 43 _ (0, 0) _ K1 Try.underlying43 rfl (by kernel_rfl) ?_))
        have HZ := HR.qq.step (stp_row K3 #[.int .i64 sn, .int .i64 nesn, .slice A6 (n + 1) c6, .bool op, .bool em, .int .i64 ack, .int .i64 tak]) (by decide) (by decide) (show o ≤ w.heap.size + 2 by omega)
        have KR := setRow_heap X22 (w.heap.size + 2) _ #[.int .i64 sn, .int .i64 nesn, .slice A6 (n + 1) c6, .bool op, .bool em, .int .i64 ack, .int .i64 tak] 43 (0, 0) K3
        have BE : Below w.heap.size w (X22.setRow (w.heap.size + 2) #[.int .i64 sn, .int .i64 nesn, .slice A6 (n + 1) c6, .bool op, .bool em, .int .i64 ack, .int .i64 tak]) := below_setRow BX (by omega) #[.int .i64 sn, .int .i64 nesn, .slice A6 (n + 1) c6, .bool op, .bool em, .int .i64 ack, .int .i64 tak]
        generalize X22.setRow (w.heap.size + 2) #[.int .i64 sn, .int .i64 nesn, .slice A6 (n + 1) c6, .bool op, .bool em, .int .i64 ack, .int .i64 tak] = Y at *
        refine bodyPost_ret (v := .tuple #[.agg #[.int .i64 sn, .int .i64 nesn, .slice A6 (n + 1) c6, .bool op, .bool em, .int .i64 ack, .int .i64 tak], .int .i64 0]) ?_ rfl ⟨_, l ++ [x], by rw [HO.out]; rfl, HZ.less (Nat.zero_le _) (Nat.le_refl _), by rw [HO.out]; simp [HLm.out], BE⟩
        clear K1
        have HL := run_loadVar_row (P := Try.prog) Y (w.heap.size + 2) 43 43 #[.int .i64 sn, .int .i64 nesn, .slice A6 (n + 1) c6, .bool op, .bool em, .int .i64 ack, .int .i64 tak] (0, 0) _ KR Try.underlying43 rfl (by kernel_rfl)
        generalize (#[.int .i64 sn, .int .i64 nesn, .slice A6 (n + 1) c6, .bool op, .bool em, .int .i64 ack, .int .i64 tak] : Array Value) = CS at *
        simp [results, show (Try.f29).results = #[.cell 4 43, .slot 5] from rfl, asAddr, HL, Act.put]
      ·
       go_simp
       have b9 := (Below.refl X0.heap.size X0).alloc (Nat.le_refl _) (.cells #[.int .i64 x.k, .slice x.A x.v.length x.c] 24)
       have KL : Blk (X0.alloc (.cells #[.int .i64 x.k, .slice x.A x.v.length x.c] 24)) X0.heap.size 24 #[.int .i64 x.k, .slice x.A x.v.length x.c] := Blk.fresh X0 24 #[.int .i64 x.k, .slice x.A x.v.length x.c]
       have hl1 := K3.lt
       have hq7 : X0.heap.size ≤ (X0.alloc (.cells #[.int .i64 x.k, .slice x.A x.v.length x.c] 24)).heap.size := by simp
       replace K1 := K1.below b9 K1.lt
       replace K2 := K2.below b9 K2.lt
       replace K3 := K3.below b9 K3.lt
       replace BX := thenB BX b9
       replace HQ := HQ.below b9
       replace HX := HX.below b9
       clear b9
       generalize X0.alloc (.cells #[.int .i64 x.k, .slice x.A x.v.length x.c] 24) = X23 at *
       refine hK.out _ _ K2 (fun hHeld => ?_)
       clear hK K
       try simp only [getElem_toArray, getElem_cons_zero, getElem_cons_succ, Act.put, setIfInBounds_toArray, set_cons_zero, set_cons_succ]
       refine wpAnyH_ready (rs := [0]) (by kernel_rfl) (by simp) ?_
       refine .cons rfl (fun K hK => ?_) .nil
       go_simp
       have hg0 : w.heap.size + 3 ≤ X23.heap.size := by have := K3.lt; omega
       have hl0 := KL.lt
       have b9 := (Below.refl X23.heap.size X23).alloc (Nat.le_refl _) (.cells #[] 24)
       have HR0 : RR (X23.alloc (.cells #[] 24)) X23.heap.size o (.slice (some ⟨X23.heap.size, 0, none⟩) 0 0) [] := ⟨World.ownsRow_made X23 #[] 0 (Nat.le_refl _) (by unfold maxLen; omega) rfl, by simp⟩
       have hz0 : X23.heap.size < (X23.alloc (.cells #[] 24)).heap.size := by simp
       generalize X23.alloc (.cells #[] 24) = X24 at *
       replace K1 := K1.below b9 K1.lt
       replace K2 := K2.below b9 K2.lt
       replace K3 := K3.below b9 K3.lt
       replace KL := KL.below b9 KL.lt
       replace BX := thenB BX b9
       replace HQ := HQ.below b9
       replace HX := HX.below b9
       clear b9
       refine hK.out _ _ K2 (fun hHeld => ?_)
       clear hK K
       try simp only [getElem_toArray, getElem_cons_zero, getElem_cons_succ, Act.put, setIfInBounds_toArray, set_cons_zero, set_cons_succ]
       refine wpAnyH_ready (rs := [3]) (by kernel_rfl) (by simp) ?_
       refine .cons rfl (fun K hK => ?_) .nil
       refine step_append_rows rfl (.tmp 26) (.tmp 28) 41 rfl (X23.heap.size) 24 iE _ 2 32 Try.underlying41 hi hz hs hb hc0 (by decide) (.slice (some ⟨X23.heap.size, 0, none⟩) 0 0) 0 [] rfl HR0.1 _ A n c (l.flatMap encK) rfl (by rw [flat_len sizK, hln]) (flat_one sizK l) HQ.len.2.2.cells (by unfold maxLen; omega) (by omega) (Nat.le_of_lt (HR0.lt _ rfl).2) ?_
       intro v4 X25 own4 b9 gr4
       have hq8 : (X23.heap.size) ≤ X25.heap.size := Nat.le_trans (Nat.le_of_lt (HR0.lt _ rfl).2) gr4.size
       simp only [Nat.zero_add, List.nil_append] at own4
       have hv0 : ∀ b : Nat, b ≠ X23.heap.size → (Value.slice (some ⟨X23.heap.size, 0, none⟩) 0 0).ownBlock ≠ some b := fun b hb h => hb (by simpa [Value.ownBlock] using h.symm)
       replace K1 := grow_blk_ne K1 (hv0 _ (by omega)) gr4
       replace K2 := grow_blk_ne K2 (hv0 _ (by omega)) gr4
       replace K3 := grow_blk_ne K3 (hv0 _ (by omega)) gr4
       replace KL := grow_blk_ne KL (hv0 _ (by omega)) gr4
       have HR : RR X25 (X23.heap.size) o v4 l := ⟨by rw [hln]; exact own4, fun y hy => grow_p (HQ.2.1 y hy) HR0.1 gr4 (by omega)⟩
       replace HX := grow_p HX HR0.1 gr4 (by omega)
       replace BX := BX.trans (b9.mono (by omega))
       obtain ⟨A4, c4, rfl⟩ := own_form own4
       clear own4 gr4 b9 HR0 HQ hv0
       refine hK.out _ _ K2 (fun hHeld => ?_)
       clear hK K
       try simp only [getElem_toArray, getElem_cons_zero, getElem_cons_succ, Act.put, setIfInBounds_toArray, set_cons_zero, set_cons_succ]
       refine wpAnyH_ready (rs := [6]) (by kernel_rfl) (by simp) ?_
       refine .cons rfl (fun K hK => ?_) .nil
       refine step_append_rows rfl (.tmp 29) (.tmp 31) 41 rfl (X23.heap.size) 24 iE _ 2 32 Try.underlying41 hi hz hs hb hc0 (by decide) (.slice A4 n c4) n (l.flatMap encK) rfl (by have := HR.1; rwa [hln] at this) _ (some ⟨X0.heap.size, 0, none⟩) 1 1 [.int .i64 x.k, .slice x.A x.v.length x.c] rfl rfl (by intro u hu; simp at hu; rcases hu with rfl | rfl <;> rfl) (cells_blk KL) (by unfold maxLen; omega) (by omega) (by omega) ?_
       intro v5 X26 own5 b9 gr5
       replace HR := grow_own HR HX gr5 (by omega) (by rw [hln]; exact own5)
       replace K1 := K1.below b9 (by omega)
       replace K2 := K2.below b9 (by omega)
       replace K3 := K3.below b9 (by omega)
       replace BX := BX.trans (b9.mono (by omega))
       obtain ⟨A6, c6, rfl⟩ := own_form own5
       clear own5 gr5 b9 HX KL
       refine hK.out _ _ K2 (fun hHeld => ?_)
       clear hK K
       try simp only [getElem_toArray, getElem_cons_zero, getElem_cons_succ, Act.put, setIfInBounds_toArray, set_cons_zero, set_cons_succ]
       refine wpAnyH_take (i := 7) (v := .pointer (some ⟨w.heap.size, 2, none⟩)) rfl (by kernel_rfl) (by kernel_rfl) (by kernel_rfl) (fun _ _ _ h => h) (.inl ⟨by first | rfl | go_simp, by intro u h; (try dsimp only at h); go_simp⟩) ‹_› ?_
       simp only [getElem_toArray, getElem_cons_zero, getElem_cons_succ, Act.put, setIfInBounds_toArray, set_cons_zero, set_cons_succ]
       refine wpAnyH_ready (rs := [8]) (by kernel_rfl) (by simp) ?_
       refine .cons rfl (fun K hK => ?_) .nil
       refine Av.step_store_cell rfl _ _ _ rfl (w.heap.size) 2 (.slice A6 (n + 1) c6) rfl rfl 43 _ K1 (by show 2 < 7; decide) (by kernel_rfl) rfl ?_
       replace HR := HR.step (stp_cell (i := 2) K1 (.slice A6 (n + 1) c6)) (by decide) (by decide) ho
       replace K1 : Blk (X26.setCell ⟨w.heap.size, 2, none⟩ (.slice A6 (n + 1) c6)) (w.heap.size) 43 #[.int .i64 sn, .int .i64 nesn, .slice A6 (n + 1) c6, .bool op, .bool em, .int .i64 ack, .int .i64 tak] := (Av.bset K1 2 (.slice A6 (n + 1) c6) rfl)
       replace K2 : Blk (X26.setCell ⟨w.heap.size, 2, none⟩ (.slice A6 (n + 1) c6)) (w.heap.size + 1) 24 #[.int .i64 x.k, .slice x.A x.v.length x.c] := Av.bother (K2) (by omega) _
       replace K3 : Blk (X26.setCell ⟨w.heap.size, 2, none⟩ (.slice A6 (n + 1) c6)) (w.heap.size + 2) 43 #[.int .i64 0, .int .i64 0, .slice none 0 0, .bool false, .bool false, .int .i64 0, .int .i64 0] := Av.bother (K3) (by omega) _
       replace BX : Below w.heap.size w (X26.setCell ⟨w.heap.size, 2, none⟩ (.slice A6 (n + 1) c6)) := (BX.setCell (p := ⟨w.heap.size, 2, none⟩) (by simp only; omega) _)
       generalize (X26.setCell ⟨w.heap.size, 2, none⟩ (.slice A6 (n + 1) c6)) = X27 at *
       refine hK.out _ _ K2 (fun hHeld => ?_)
       clear hK K
       try simp only [getElem_toArray, getElem_cons_zero, getElem_cons_succ, Act.put, setIfInBounds_toArray, set_cons_zero, set_cons_succ]
       refine wpAnyH_done (by kernel_rfl) ?_ _
       have H1 : (#[.int .i64 sn, .int .i64 nesn, .slice A6 (n + 1) c6, .bool op, .bool em, .int .i64 ack, .int .i64 tak] : Array Value).all (·.oneCell') = true := by rw [← Array.all_toList]; rfl
       go_wp2_with (first | (refine wpList_store_row rfl 43 (.tmp 4) _ rfl (w.heap.size + 2) #[.int .i64 sn, .int .i64 nesn, .slice A6 (n + 1) c6, .bool op, .bool em, .int .i64 ack, .int .i64 tak] rfl rfl 43 _ K3 (by kernel_rfl) rfl H1 ?_) | (refine wpList_load_row rfl 43 (.tmp 2) rfl w.heap.size rfl 43 _ (0, 0) _ K1 Try.underlying43 rfl (by kernel_rfl) ?_))
       have HZ := HR.qq.step (stp_row K3 #[.int .i64 sn, .int .i64 nesn, .slice A6 (n + 1) c6, .bool op, .bool em, .int .i64 ack, .int .i64 tak]) (by decide) (by decide) (show o ≤ w.heap.size + 2 by omega)
       have KR := setRow_heap X27 (w.heap.size + 2) _ #[.int .i64 sn, .int .i64 nesn, .slice A6 (n + 1) c6, .bool op, .bool em, .int .i64 ack, .int .i64 tak] 43 (0, 0) K3
       have BE : Below w.heap.size w (X27.setRow (w.heap.size + 2) #[.int .i64 sn, .int .i64 nesn, .slice A6 (n + 1) c6, .bool op, .bool em, .int .i64 ack, .int .i64 tak]) := below_setRow BX (by omega) #[.int .i64 sn, .int .i64 nesn, .slice A6 (n + 1) c6, .bool op, .bool em, .int .i64 ack, .int .i64 tak]
       generalize X27.setRow (w.heap.size + 2) #[.int .i64 sn, .int .i64 nesn, .slice A6 (n + 1) c6, .bool op, .bool em, .int .i64 ack, .int .i64 tak] = Y at *
       refine bodyPost_ret (v := .tuple #[.agg #[.int .i64 sn, .int .i64 nesn, .slice A6 (n + 1) c6, .bool op, .bool em, .int .i64 ack, .int .i64 tak], .int .i64 0]) ?_ rfl ⟨_, l ++ [x], by rw [HO.out]; rfl, HZ.less (Nat.zero_le _) (Nat.le_refl _), by rw [HO.out]; simp [HLm.out], BE⟩
       clear K1
       have HL := run_loadVar_row (P := Try.prog) Y (w.heap.size + 2) 43 43 #[.int .i64 sn, .int .i64 nesn, .slice A6 (n + 1) c6, .bool op, .bool em, .int .i64 ack, .int .i64 tak] (0, 0) _ KR Try.underlying43 rfl (by kernel_rfl)
       generalize (#[.int .i64 sn, .int .i64 nesn, .slice A6 (n + 1) c6, .bool op, .bool em, .int .i64 ack, .int .i64 tak] : Array Value) = CS at *
       simp [results, show (Try.f29).results = #[.cell 4 43, .slot 5] from rfl, asAddr, HL, Act.put]
     ·
      go_simp
      have b9 := (Below.refl X0.heap.size X0).alloc (Nat.le_refl _) (.cells #[.int .i64 x.k, .slice x.A x.v.length x.c] 24)
      have KL : Blk (X0.alloc (.cells #[.int .i64 x.k, .slice x.A x.v.length x.c] 24)) X0.heap.size 24 #[.int .i64 x.k, .slice x.A x.v.length x.c] := Blk.fresh X0 24 #[.int .i64 x.k, .slice x.A x.v.length x.c]
      have hl1 := K3.lt
      have hq7 : X0.heap.size ≤ (X0.alloc (.cells #[.int .i64 x.k, .slice x.A x.v.length x.c] 24)).heap.size := by simp
      replace K1 := K1.below b9 K1.lt
      replace K2 := K2.below b9 K2.lt
      replace K3 := K3.below b9 K3.lt
      replace BX := thenB BX b9
      replace HQ := HQ.below b9
      replace HX := HX.below b9
      clear b9
      generalize X0.alloc (.cells #[.int .i64 x.k, .slice x.A x.v.length x.c] 24) = X28 at *
      refine hK.out _ _ K2 (fun hHeld => ?_)
      clear hK K
      try simp only [getElem_toArray, getElem_cons_zero, getElem_cons_succ, Act.put, setIfInBounds_toArray, set_cons_zero, set_cons_succ]
      refine wpAnyH_ready (rs := [0, 2]) (by kernel_rfl) (by simp) ?_
      refine AllReadyH.cons rfl (fun K hK => ?_) (AllReadyH.cons rfl (fun K hK => ?_) (AllReadyH.nil))
      ·
       go_simp
       have hg0 : w.heap.size + 3 ≤ X28.heap.size := by have := K3.lt; omega
       have hl0 := KL.lt
       have b9 := (Below.refl X28.heap.size X28).alloc (Nat.le_refl _) (.cells #[] 24)
       have HR0 : RR (X28.alloc (.cells #[] 24)) X28.heap.size o (.slice (some ⟨X28.heap.size, 0, none⟩) 0 0) [] := ⟨World.ownsRow_made X28 #[] 0 (Nat.le_refl _) (by unfold maxLen; omega) rfl, by simp⟩
       have hz0 : X28.heap.size < (X28.alloc (.cells #[] 24)).heap.size := by simp
       generalize X28.alloc (.cells #[] 24) = X29 at *
       replace K1 := K1.below b9 K1.lt
       replace K2 := K2.below b9 K2.lt
       replace K3 := K3.below b9 K3.lt
       replace KL := KL.below b9 KL.lt
       replace BX := thenB BX b9
       replace HQ := HQ.below b9
       replace HX := HX.below b9
       clear b9
       refine hK.out _ _ K2 (fun hHeld => ?_)
       clear hK K
       try simp only [getElem_toArray, getElem_cons_zero, getElem_cons_succ, Act.put, setIfInBounds_toArray, set_cons_zero, set_cons_succ]
       refine wpAnyH_ready (rs := [2]) (by kernel_rfl) (by simp) ?_
       refine .cons rfl (fun K hK => ?_) .nil
       have c90 := K1.cell 2
       go_simp
       clear c90
       refine hK.out _ _ K2 (fun hHeld => ?_)
       clear hK K
       try simp only [getElem_toArray, getElem_cons_zero, getElem_cons_succ, Act.put, setIfInBounds_toArray, set_cons_zero, set_cons_succ]
       refine wpAnyH_ready (rs := [3]) (by kernel_rfl) (by simp) ?_
       refine .cons rfl (fun K hK => ?_) .nil
       refine step_append_rows rfl (.tmp 26) (.tmp 28) 41 rfl (X28.heap.size) 24 iE _ 2 32 Try.underlying41 hi hz hs hb hc0 (by decide) (.slice (some ⟨X28.heap.size, 0, none⟩) 0 0) 0 [] rfl HR0.1 _ A n c (l.flatMap encK) rfl (by rw [flat_len sizK, hln]) (flat_one sizK l) HQ.len.2.2.cells (by unfold maxLen; omega) (by omega) (Nat.le_of_lt (HR0.lt _ rfl).2) ?_
       intro v4 X30 own4 b9 gr4
       have hq8 : (X28.heap.size) ≤ X30.heap.size := Nat.le_trans (Nat.le_of_lt (HR0.lt _ rfl).2) gr4.size
       simp only [Nat.zero_add, List.nil_append] at own4
       have hv0 : ∀ b : Nat, b ≠ X28.heap.size → (Value.slice (some ⟨X28.heap.size, 0, none⟩) 0 0).ownBlock ≠ some b := fun b hb h => hb (by simpa [Value.ownBlock] using h.symm)
       replace K1 := grow_blk_ne K1 (hv0 _ (by omega)) gr4
       replace K2 := grow_blk_ne K2 (hv0 _ (by omega)) gr4
       replace K3 := grow_blk_ne K3 (hv0 _ (by omega)) gr4
       replace KL := grow_blk_ne KL (hv0 _ (by omega)) gr4
       have HR : RR X30 (X28.heap.size) o v4 l := ⟨by rw [hln]; exact own4, fun y hy => grow_p (HQ.2.1 y hy) HR0.1 gr4 (by omega)⟩
       replace HX := grow_p HX HR0.1 gr4 (by omega)
       replace BX := BX.trans (b9.mono (by omega))
       obtain ⟨A4, c4, rfl⟩ := own_form own4
       clear own4 gr4 b9 HR0 HQ hv0
       refine hK.out _ _ K2 (fun hHeld => ?_)
       clear hK K
       try simp only [getElem_toArray, getElem_cons_zero, getElem_cons_succ, Act.put, setIfInBounds_toArray, set_cons_zero, set_cons_succ]
       refine wpAnyH_ready (rs := [6]) (by kernel_rfl) (by simp) ?_
       refine .cons rfl (fun K hK => ?_) .nil
       refine step_append_rows rfl (.tmp 29) (.tmp 31) 41 rfl (X28.heap.size) 24 iE _ 2 32 Try.underlying41 hi hz hs hb hc0 (by decide) (.slice A4 n c4) n (l.flatMap encK) rfl (by have := HR.1; rwa [hln] at this) _ (some ⟨X0.heap.size, 0, none⟩) 1 1 [.int .i64 x.k, .slice x.A x.v.length x.c] rfl rfl (by intro u hu; simp at hu; rcases hu with rfl | rfl <;> rfl) (cells_blk KL) (by unfold maxLen; omega) (by omega) (by omega) ?_
       intro v5 X31 own5 b9 gr5
       replace HR := grow_own HR HX gr5 (by omega) (by rw [hln]; exact own5)
       replace K1 := K1.below b9 (by omega)
       replace K2 := K2.below b9 (by omega)
       replace K3 := K3.below b9 (by omega)
       replace BX := BX.trans (b9.mono (by omega))
       obtain ⟨A6, c6, rfl⟩ := own_form own5
       clear own5 gr5 b9 HX KL
       refine hK.out _ _ K2 (fun hHeld => ?_)
       clear hK K
       try simp only [getElem_toArray, getElem_cons_zero, getElem_cons_succ, Act.put, setIfInBounds_toArray, set_cons_zero, set_cons_succ]
       refine wpAnyH_take (i := 7) (v := .pointer (some ⟨w.heap.size, 2, none⟩)) rfl (by kernel_rfl) (by kernel_rfl) (by kernel_rfl) (fun _ _ _ h => h) (.inl ⟨by first | rfl | go_simp, by intro u h; (try dsimp only at h); go_simp⟩) ‹_› ?_
       simp only [getElem_toArray, getElem_cons_zero, getElem_cons_succ, Act.put, setIfInBounds_toArray, set_cons_zero, set_cons_succ]
       refine wpAnyH_ready (rs := [8]) (by kernel_rfl) (by simp) ?_
       refine .cons rfl (fun K hK => ?_) .nil
       refine Av.step_store_cell rfl _ _ _ rfl (w.heap.size) 2 (.slice A6 (n + 1) c6) rfl rfl 43 _ K1 (by show 2 < 7; decide) (by kernel_rfl) rfl ?_
       replace HR := HR.step (stp_cell (i := 2) K1 (.slice A6 (n + 1) c6)) (by decide) (by decide) ho
       replace K1 : Blk (X31.setCell ⟨w.heap.size, 2, none⟩ (.slice A6 (n + 1) c6)) (w.heap.size) 43 #[.int .i64 sn, .int .i64 nesn, .slice A6 (n + 1) c6, .bool op, .bool em, .int .i64 ack, .int .i64 tak] := (Av.bset K1 2 (.slice A6 (n + 1) c6) rfl)
       replace K2 : Blk (X31.setCell ⟨w.heap.size, 2, none⟩ (.slice A6 (n + 1) c6)) (w.heap.size + 1) 24 #[.int .i64 x.k, .slice x.A x.v.length x.c] := Av.bother (K2) (by omega) _
       replace K3 : Blk (X31.setCell ⟨w.heap.size, 2, none⟩ (.slice A6 (n + 1) c6)) (w.heap.size + 2) 43 #[.int .i64 0, .int .i64 0, .slice none 0 0, .bool false, .bool false, .int .i64 0, .int .i64 0] := Av.bother (K3) (by omega) _
       replace BX : Below w.heap.size w (X31.setCell ⟨w.heap.size, 2, none⟩ (.slice A6 (n + 1) c6)) := (BX.setCell (p := ⟨w.heap.size, 2, none⟩) (by simp only; omega) _)
       generalize (X31.setCell ⟨w.heap.size, 2, none⟩ (.slice A6 (n + 1) c6)) = X32 at *
       refine hK.out _ _ K2 (fun hHeld => ?_)
       clear hK K
       try simp only [getElem_toArray, getElem_cons_zero, getElem_cons_succ, Act.put, setIfInBounds_toArray, set_cons_zero, set_cons_succ]
       refine wpAnyH_done (by kernel_rfl) ?_ _
       have H1 : (#[.int .i64 sn, .int .i64 nesn, .slice A6 (n + 1) c6, .bool op, .bool em, .int .i64 ack, .int .i64 tak] : Array Value).all (·.oneCell') = true := by rw [← Array.all_toList]; rfl
       go_wp2_with (first | (refine wpList_store_row rfl 43 (.tmp 4) _ rfl (w.heap.size + 2) #[.int .i64 sn, .int .i64 nesn, .slice A6 (n + 1) c6, .bool op, .bool em, .int .i64 ack, .int .i64 tak] rfl rfl 43 _ K3 (by kernel_rfl) rfl H1 ?_) | (refine wpList_load_row rfl 43 (.tmp 2) rfl w.heap.size rfl 43 _ (0, 0) _ K1 Try.underlying43 rfl (by kernel_rfl) ?_))
       have HZ := HR.qq.step (stp_row K3 #[.int .i64 sn, .int .i64 nesn, .slice A6 (n + 1) c6, .bool op, .bool em, .int .i64 ack, .int .i64 tak]) (by decide) (by decide) (show o ≤ w.heap.size + 2 by omega)
       have KR := setRow_heap X32 (w.heap.size + 2) _ #[.int .i64 sn, .int .i64 nesn, .slice A6 (n + 1) c6, .bool op, .bool em, .int .i64 ack, .int .i64 tak] 43 (0, 0) K3
       have BE : Below w.heap.size w (X32.setRow (w.heap.size + 2) #[.int .i64 sn, .int .i64 nesn, .slice A6 (n + 1) c6, .bool op, .bool em, .int .i64 ack, .int .i64 tak]) := below_setRow BX (by omega) #[.int .i64 sn, .int .i64 nesn, .slice A6 (n + 1) c6, .bool op, .bool em, .int .i64 ack, .int .i64 tak]
       generalize X32.setRow (w.heap.size + 2) #[.int .i64 sn, .int .i64 nesn, .slice A6 (n + 1) c6, .bool op, .bool em, .int .i64 ack, .int .i64 tak] = Y at *
       refine bodyPost_ret (v := .tuple #[.agg #[.int .i64 sn, .int .i64 nesn, .slice A6 (n + 1) c6, .bool op, .bool em, .int .i64 ack, .int .i64 tak], .int .i64 0]) ?_ rfl ⟨_, l ++ [x], by rw [HO.out]; rfl, HZ.less (Nat.zero_le _) (Nat.le_refl _), by rw [HO.out]; simp [HLm.out], BE⟩
       clear K1
       have HL := run_loadVar_row (P := Try.prog) Y (w.heap.size + 2) 43 43 #[.int .i64 sn, .int .i64 nesn, .slice A6 (n + 1) c6, .bool op, .bool em, .int .i64 ack, .int .i64 tak] (0, 0) _ KR Try.underlying43 rfl (by kernel_rfl)
       generalize (#[.int .i64 sn, .int .i64 nesn, .slice A6 (n + 1) c6, .bool op, .bool em, .int .i64 ack, .int .i64 tak] : Array Value) = CS at *
       simp [results, show (Try.f29).results = #[.cell 4 43, .slot 5] from rfl, asAddr, HL, Act.put]
      ·
       have c90 := K1.cell 2
       go_simp
       clear c90
       refine hK.out _ _ K2 (fun hHeld => ?_)
       clear hK K
       try simp only [getElem_toArray, getElem_cons_zero, getElem_cons_succ, Act.put, setIfInBounds_toArray, set_cons_zero, set_cons_succ]
       refine wpAnyH_ready (rs := [0]) (by kernel_rfl) (by simp) ?_
       refine .cons rfl (fun K hK => ?_) .nil
       go_simp
       have hg0 : w.heap.size + 3 ≤ X28.heap.size := by have := K3.lt; omega
       have hl0 := KL.lt
       have b9 := (Below.refl X28.heap.size X28).alloc (Nat.le_refl _) (.cells #[] 24)
       have HR0 : RR (X28.alloc (.cells #[] 24)) X28.heap.size o (.slice (some ⟨X28.heap.size, 0, none⟩) 0 0) [] := ⟨World.ownsRow_made X28 #[] 0 (Nat.le_refl _) (by unfold maxLen; omega) rfl, by simp⟩
       have hz0 : X28.heap.size < (X28.alloc (.cells #[] 24)).heap.size := by simp
       generalize X28.alloc (.cells #[] 24) = X33 at *
       replace K1 := K1.below b9 K1.lt
       replace K2 := K2.below b9 K2.lt
       replace K3 := K3.below b9 K3.lt
       replace KL := KL.below b9 KL.lt
       replace BX := thenB BX b9
       replace HQ := HQ.below b9
       replace HX := HX.below b9
       clear b9
       refine hK.out _ _ K2 (fun hHeld => ?_)
       clear hK K
       try simp only [getElem_toArray, getElem_cons_zero, getElem_cons_succ, Act.put, setIfInBounds_toArray, set_cons_zero, set_cons_succ]
       refine wpAnyH_ready (rs := [3]) (by kernel_rfl) (by simp) ?_
       refine .cons rfl (fun K hK => ?_) .nil
       refine step_append_rows rfl (.tmp 26) (.tmp 28) 41 rfl (X28.heap.size) 24 iE _ 2 32 Try.underlying41 hi hz hs hb hc0 (by decide) (.slice (some ⟨X28.heap.size, 0, none⟩) 0 0) 0 [] rfl HR0.1 _ A n c (l.flatMap encK) rfl (by rw [flat_len sizK, hln]) (flat_one sizK l) HQ.len.2.2.cells (by unfold maxLen; omega) (by omega) (Nat.le_of_lt (HR0.lt _ rfl).2) ?_
       intro v4 X34 own4 b9 gr4
       have hq8 : (X28.heap.size) ≤ X34.heap.size := Nat.le_trans (Nat.le_of_lt (HR0.lt _ rfl).2) gr4.size
       simp only [Nat.zero_add, List.nil_append] at own4
       have hv0 : ∀ b : Nat, b ≠ X28.heap.size → (Value.slice (some ⟨X28.heap.size, 0, none⟩) 0 0).ownBlock ≠ some b := fun b hb h => hb (by simpa [Value.ownBlock] using h.symm)
       replace K1 := grow_blk_ne K1 (hv0 _ (by omega)) gr4
       replace K2 := grow_blk_ne K2 (hv0 _ (by omega)) gr4
       replace K3 := grow_blk_ne K3 (hv0 _ (by omega)) gr4
       replace KL := grow_blk_ne KL (hv0 _ (by omega)) gr4
       have HR : RR X34 (X28.heap.size) o v4 l := ⟨by rw [hln]; exact own4, fun y hy => grow_p (HQ.2.1 y hy) HR0.1 gr4 (by omega)⟩
       replace HX := grow_p HX HR0.1 gr4 (by omega)
       replace BX := BX.trans (b9.mono (by omega))
       obtain ⟨A4, c4, rfl⟩ := own_form own4
       clear own4 gr4 b9 HR0 HQ hv0
       refine hK.out _ _ K2 (fun hHeld => ?_)
       clear hK K
       try simp only [getElem_toArray, getElem_cons_zero, getElem_cons_succ, Act.put, setIfInBounds_toArray, set_cons_zero, set_cons_succ]
       refine wpAnyH_ready (rs := [6]) (by kernel_rfl) (by simp) ?_
       refine .cons rfl (fun K hK => ?_) .nil
       refine step_append_rows rfl (.tmp 29) (.tmp 31) 41 rfl (X28.heap.size) 24 iE _ 2 32 Try.underlying41 hi hz hs hb hc0 (by decide) (.slice A4 n c4) n (l.flatMap encK) rfl (by have := HR.1; rwa [hln] at this) _ (some ⟨X0.heap.size, 0, none⟩) 1 1 [.int .i64 x.k, .slice x.A x.v.length x.c] rfl rfl (by intro u hu; simp at hu; rcases hu with rfl | rfl <;> rfl) (cells_blk KL) (by unfold maxLen; omega) (by omega) (by omega) ?_
       intro v5 X35 own5 b9 gr5
       replace HR := grow_own HR HX gr5 (by omega) (by rw [hln]; exact own5)
       replace K1 := K1.below b9 (by omega)
       replace K2 := K2.below b9 (by omega)
       replace K3 := K3.below b9 (by omega)
       replace BX := BX.trans (b9.mono (by omega))
       obtain ⟨A6, c6, rfl⟩ := own_form own5
       clear own5 gr5 b9 HX KL
       refine hK.out _ _ K2 (fun hHeld => ?_)
       clear hK K
       try simp only [getElem_toArray, getElem_cons_zero, getElem_cons_succ, Act.put, setIfInBounds_toArray, set_cons_zero, set_cons_succ]
       refine wpAnyH_take (i := 7) (v := .pointer (some ⟨w.heap.size, 2, none⟩)) rfl (by kernel_rfl) (by kernel_rfl) (by kernel_rfl) (fun _ _ _ h => h) (.inl ⟨by first | rfl | go_simp, by intro u h; (try dsimp only at h); go_simp⟩) ‹_› ?_
       simp only [getElem_toArray, getElem_cons_zero, getElem_cons_succ, Act.put, setIfInBounds_toArray, set_cons_zero, set_cons_succ]
       refine wpAnyH_ready (rs := [8]) (by kernel_rfl) (by simp) ?_
       refine .cons rfl (fun K hK => ?_) .nil
       refine Av.step_store_cell rfl _ _ _ rfl (w.heap.size) 2 (.slice A6 (n + 1) c6) rfl rfl 43 _ K1 (by show 2 < 7; decide) (by kernel_rfl) rfl ?_
       replace HR := HR.step (stp_cell (i := 2) K1 (.slice A6 (n + 1) c6)) (by decide) (by decide) ho
       replace K1 : Blk (X35.setCell ⟨w.heap.size, 2, none⟩ (.slice A6 (n + 1) c6)) (w.heap.size) 43 #[.int .i64 sn, .int .i64 nesn, .slice A6 (n + 1) c6, .bool op, .bool em, .int .i64 ack, .int .i64 tak] := (Av.bset K1 2 (.slice A6 (n + 1) c6) rfl)
       replace K2 : Blk (X35.setCell ⟨w.heap.size, 2, none⟩ (.slice A6 (n + 1) c6)) (w.heap.size + 1) 24 #[.int .i64 x.k, .slice x.A x.v.length x.c] := Av.bother (K2) (by omega) _
       replace K3 : Blk (X35.setCell ⟨w.heap.size, 2, none⟩ (.slice A6 (n + 1) c6)) (w.heap.size + 2) 43 #[.int .i64 0, .int .i64 0, .slice none 0 0, .bool false, .bool false, .int .i64 0, .int .i64 0] := Av.bother (K3) (by omega) _
       replace BX : Below w.heap.size w (X35.setCell ⟨w.heap.size, 2, none⟩ (.slice A6 (n + 1) c6)) := (BX.setCell (p := ⟨w.heap.size, 2, none⟩) (by simp only; omega) _)
       generalize (X35.setCell ⟨w.heap.size, 2, none⟩ (.slice A6 (n + 1) c6)) = X36 at *
       refine hK.out _ _ K2 (fun hHeld => ?_)
       clear hK K
       try simp only [getElem_toArray, getElem_cons_zero, getElem_cons_succ, Act.put, setIfInBounds_toArray, set_cons_zero, set_cons_succ]
       refine wpAnyH_done (by kernel_rfl) ?_ _
       have H1 : (#[.int .i64 sn, .int .i64 nesn, .slice A6 (n + 1) c6, .bool op, .bool em, .int .i64 ack, .int .i64 tak] : Array Value).all (·.oneCell') = true := by rw [← Array.all_toList]; rfl
       go_wp2_with (first | (refine wpList_store_row rfl 43 (.tmp 4) _ rfl (w.heap.size + 2) #[.int .i64 sn, .int .i64 nesn, .slice A6 (n + 1) c6, .bool op, .bool em, .int .i64 ack, .int .i64 tak] rfl rfl 43 _ K3 (by kernel_rfl) rfl H1 ?_) | (refine wpList_load_row rfl 43 (.tmp 2) rfl w.heap.size rfl 43 _ (0, 0) _ K1 Try.underlying43 rfl (by kernel_rfl) ?_))
       have HZ := HR.qq.step (stp_row K3 #[.int .i64 sn, .int .i64 nesn, .slice A6 (n + 1) c6, .bool op, .bool em, .int .i64 ack, .int .i64 tak]) (by decide) (by decide) (show o ≤ w.heap.size + 2 by omega)
       have KR := setRow_heap X36 (w.heap.size + 2) _ #[.int .i64 sn, .int .i64 nesn, .slice A6 (n + 1) c6, .bool op, .bool em, .int .i64 ack, .int .i64 tak] 43 (0, 0) K3
       have BE : Below w.heap.size w (X36.setRow (w.heap.size + 2) #[.int .i64 sn, .int .i64 nesn, .slice A6 (n + 1) c6, .bool op, .bool em, .int .i64 ack, .int .i64 tak]) := below_setRow BX (by omega) #[.int .i64 sn, .int .i64 nesn, .slice A6 (n + 1) c6, .bool op, .bool em, .int .i64 ack, .int .i64 tak]
       generalize X36.setRow (w.heap.size + 2) #[.int .i64 sn, .int .i64 nesn, .slice A6 (n + 1) c6, .bool op, .bool em, .int .i64 ack, .int .i64 tak] = Y at *
       refine bodyPost_ret (v := .tuple #[.agg #[.int .i64 sn, .int .i64 nesn, .slice A6 (n + 1) c6, .bool op, .bool em, .int .i64 ack, .int .i64 tak], .int .i64 0]) ?_ rfl ⟨_, l ++ [x], by rw [HO.out]; rfl, HZ.less (Nat.zero_le _) (Nat.le_refl _), by rw [HO.out]; simp [HLm.out], BE⟩
       clear K1
       have HL := run_loadVar_row (P := Try.prog) Y (w.heap.size + 2) 43 43 #[.int .i64 sn, .int .i64 nesn, .slice A6 (n + 1) c6, .bool op, .bool em, .int .i64 ack, .int .i64 tak] (0, 0) _ KR Try.underlying43 rfl (by kernel_rfl)
       generalize (#[.int .i64 sn, .int .i64 nesn, .slice A6 (n + 1) c6, .bool op, .bool em, .int .i64 ack, .int .i64 tak] : Array Value) = CS at *
       simp [results, show (Try.f29).results = #[.cell 4 43, .slot 5] from rfl, asAddr, HL, Act.put]
   ·
    have g2 : (R != 0) = true := by simpa using h0
    have HO := Lib.hid (HOn.out (by unfold canB; simp [hbl, h251, hR, h0]))
    clear hbl hR h251 h0
    go_upto_region 2 with (first | (go_at_call 56; refine (HB.out _).mono ?_; rintro e W4 ⟨rfl, b9⟩; replace K1 := K1.below b9 K1.lt; replace K2 := K2.below b9 K2.lt; replace K3 := K3.below b9 K3.lt; replace HQ := HQ.below b9; replace HX := HX.below b9; replace BX := thenB BX b9; clear b9; have p0 := K2.cell 0; have p1 := K2.cell 1) | (go_at_call 15; refine (HK.out _).mono ?_; rintro e W5 ⟨rfl, b9⟩; replace K1 := K1.below b9 K1.lt; replace K2 := K2.below b9 K2.lt; replace K3 := K3.below b9 K3.lt; replace HQ := HQ.below b9; replace HX := HX.below b9; replace BX := thenB BX b9; clear b9))
    clear p0 p1
    have H1 : (#[.int .i64 sn, .int .i64 nesn, .slice A n c, .bool op, .bool em, .int .i64 ack, .int .i64 tak] : Array Value).all (·.oneCell') = true := by rw [← Array.all_toList]; rfl
    go_wp2_with (first | (refine wpList_store_row rfl 43 (.tmp 4) _ rfl (w.heap.size + 2) #[.int .i64 sn, .int .i64 nesn, .slice A n c, .bool op, .bool em, .int .i64 ack, .int .i64 tak] rfl rfl 43 _ K3 (by kernel_rfl) rfl H1 ?_) | (refine wpList_load_row rfl 43 (.tmp 2) rfl w.heap.size rfl 43 _ (0, 0) _ K1 Try.underlying43 rfl (by kernel_rfl) ?_))
    have HZ := HQ.step (stp_row K3 #[.int .i64 sn, .int .i64 nesn, .slice A n c, .bool op, .bool em, .int .i64 ack, .int .i64 tak]) (by decide) (by decide) (show o ≤ w.heap.size + 2 by omega)
    have KR := setRow_heap W5 (w.heap.size + 2) _ #[.int .i64 sn, .int .i64 nesn, .slice A n c, .bool op, .bool em, .int .i64 ack, .int .i64 tak] 43 (0, 0) K3
    have BE : Below w.heap.size w (W5.setRow (w.heap.size + 2) #[.int .i64 sn, .int .i64 nesn, .slice A n c, .bool op, .bool em, .int .i64 ack, .int .i64 tak]) := below_setRow BX (by omega) #[.int .i64 sn, .int .i64 nesn, .slice A n c, .bool op, .bool em, .int .i64 ack, .int .i64 tak]
    generalize W5.setRow (w.heap.size + 2) #[.int .i64 sn, .int .i64 nesn, .slice A n c, .bool op, .bool em, .int .i64 ack, .int .i64 tak] = Y at *
    refine bodyPost_ret (v := .tuple #[.agg #[.int .i64 sn, .int .i64 nesn, .slice A n c, .bool op, .bool em, .int .i64 ack, .int .i64 tak], .int .i64 1]) ?_ rfl ⟨_, l, by rw [HO.out]; rfl, HZ.less (Nat.zero_le _) (Nat.le_refl _), by rw [HO.out]; exact HLm.out, BE⟩
    clear K1
    have HL := run_loadVar_row (P := Try.prog) Y (w.heap.size + 2) 43 43 #[.int .i64 sn, .int .i64 nesn, .slice A n c, .bool op, .bool em, .int .i64 ack, .int .i64 tak] (0, 0) _ KR Try.underlying43 rfl (by kernel_rfl)
    generalize (#[.int .i64 sn, .int .i64 nesn, .slice A n c, .bool op, .bool em, .int .i64 ack, .int .i64 tak] : Array Value) = CS at *
    simp [results, show (Try.f29).results = #[.cell 4 43, .slot 5] from rfl, asAddr, HL, Act.put]
  ·
   have g1 : (251 : Int) < (x.v.length : Int) := by omega
   have HO := Lib.hid (HOn.out (by unfold canB; simp [hbl, h251]))
   clear hbl hR h251
   go_upto_region 2 with (first | (go_at_call 56; refine (HB.out _).mono ?_; rintro e W4 ⟨rfl, b9⟩; replace K1 := K1.below b9 K1.lt; replace K2 := K2.below b9 K2.lt; replace K3 := K3.below b9 K3.lt; replace HQ := HQ.below b9; replace HX := HX.below b9; replace BX := thenB BX b9; clear b9; have p0 := K2.cell 0; have p1 := K2.cell 1) | (go_at_call 15; refine (HK.out _).mono ?_; rintro e W5 ⟨rfl, b9⟩; replace K1 := K1.below b9 K1.lt; replace K2 := K2.below b9 K2.lt; replace K3 := K3.below b9 K3.lt; replace HQ := HQ.below b9; replace HX := HX.below b9; replace BX := thenB BX b9; clear b9))
   clear p0 p1
   have H1 : (#[.int .i64 sn, .int .i64 nesn, .slice A n c, .bool op, .bool em, .int .i64 ack, .int .i64 tak] : Array Value).all (·.oneCell') = true := by rw [← Array.all_toList]; rfl
   go_wp2_with (first | (refine wpList_store_row rfl 43 (.tmp 4) _ rfl (w.heap.size + 2) #[.int .i64 sn, .int .i64 nesn, .slice A n c, .bool op, .bool em, .int .i64 ack, .int .i64 tak] rfl rfl 43 _ K3 (by kernel_rfl) rfl H1 ?_) | (refine wpList_load_row rfl 43 (.tmp 2) rfl w.heap.size rfl 43 _ (0, 0) _ K1 Try.underlying43 rfl (by kernel_rfl) ?_))
   have HZ := HQ.step (stp_row K3 #[.int .i64 sn, .int .i64 nesn, .slice A n c, .bool op, .bool em, .int .i64 ack, .int .i64 tak]) (by decide) (by decide) (show o ≤ w.heap.size + 2 by omega)
   have KR := setRow_heap W4 (w.heap.size + 2) _ #[.int .i64 sn, .int .i64 nesn, .slice A n c, .bool op, .bool em, .int .i64 ack, .int .i64 tak] 43 (0, 0) K3
   have BE : Below w.heap.size w (W4.setRow (w.heap.size + 2) #[.int .i64 sn, .int .i64 nesn, .slice A n c, .bool op, .bool em, .int .i64 ack, .int .i64 tak]) := below_setRow BX (by omega) #[.int .i64 sn, .int .i64 nesn, .slice A n c, .bool op, .bool em, .int .i64 ack, .int .i64 tak]
   generalize W4.setRow (w.heap.size + 2) #[.int .i64 sn, .int .i64 nesn, .slice A n c, .bool op, .bool em, .int .i64 ack, .int .i64 tak] = Y at *
   refine bodyPost_ret (v := .tuple #[.agg #[.int .i64 sn, .int .i64 nesn, .slice A n c, .bool op, .bool em, .int .i64 ack, .int .i64 tak], .int .i64 1]) ?_ rfl ⟨_, l, by rw [HO.out]; rfl, HZ.less (Nat.zero_le _) (Nat.le_refl _), by rw [HO.out]; exact HLm.out, BE⟩
   clear K1
   have HL := run_loadVar_row (P := Try.prog) Y (w.heap.size + 2) 43 43 #[.int .i64 sn, .int .i64 nesn, .slice A n c, .bool op, .bool em, .int .i64 ack, .int .i64 tak] (0, 0) _ KR Try.underlying43 rfl (by kernel_rfl)
   generalize (#[.int .i64 sn, .int .i64 nesn, .slice A n c, .bool op, .bool em, .int .i64 ack, .int .i64 tak] : Array Value) = CS at *
   simp [results, show (Try.f29).results = #[.cell 4 43, .slot 5] from rfl, asAddr, HL, Act.put]
end Go.Proofs.Ytbnfjielnamepaa.Arq
