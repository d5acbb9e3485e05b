/- Acknowledgement: copies: contracts over the program. -/
import Derived.Test.YtbnfjielnamepaaArqWalks1
set_option linter.unusedVariables false
set_option linter.unusedSimpArgs false
namespace Go.Proofs.Ytbnfjielnamepaa.Arq
open Go.RowKit Mem Oct Rw Av Dp
open Base (thenB)

set_option maxRecDepth 100000 in
set_option maxHeartbeats 4000000 in
theorem lcopy_any (x : Pm) (w : World) (h : GP w x) :
    Calls Try.prog 27 #[.agg #[.int .i64 x.k, .slice x.A x.v.length x.c]] w fun e w' => ∃ A c, e = .returned (.agg #[.int .i64 x.k, .slice A x.v.length c]) ∧ PP w' 0 ⟨x.k, A, c, x.v⟩ ∧ Below w.heap.size w w' := by
  have BX : Below w.heap.size w ((w.alloc (.cells #[.int .i64 x.k, .slice x.A x.v.length x.c] 24)).alloc (.cells #[.int .i64 0, .slice none 0 0] 24)) := ((Below.refl _ _).alloc (Nat.le_refl _) _).alloc (by simp) _
  have K1 : Blk ((w.alloc (.cells #[.int .i64 x.k, .slice x.A x.v.length x.c] 24)).alloc (.cells #[.int .i64 0, .slice none 0 0] 24)) (w.heap.size) 24 #[.int .i64 x.k, .slice x.A x.v.length x.c] := (Blk.fresh w 24 #[.int .i64 x.k, .slice x.A x.v.length x.c]).alloc _
  have K2 : Blk ((w.alloc (.cells #[.int .i64 x.k, .slice x.A x.v.length x.c] 24)).alloc (.cells #[.int .i64 0, .slice none 0 0] 24)) (w.heap.size + 1) 24 #[.int .i64 0, .slice none 0 0] := Av.Blk.next
  obtain ⟨i0, hi0, hz0, hz1, hz2⟩ := info_parts Base.info_u8
  have HI := Lib.hid h.2.2.2
  have HV := Lib.hid (And.intro h.2.1 h.2.2.1)
  clear h
  go_enter Try.func27, Try.ntmps27
  go_upto_region 1 with (fail)
  generalize (w.alloc (.cells #[.int .i64 x.k, .slice x.A x.v.length x.c] 24)).alloc (.cells #[.int .i64 0, .slice none 0 0] 24) = W0 at *
  have K1' : Blk W0.drew (w.heap.size) 24 #[.int .i64 x.k, .slice x.A x.v.length x.c] := Mem.Blk.drew K1
  have K2' : Blk W0.drew (w.heap.size + 1) 24 #[.int .i64 0, .slice none 0 0] := Mem.Blk.drew K2
  refine wp_region_held_drew (S := (fun w' => Blk w' (w.heap.size) 24 #[.int .i64 x.k, .slice x.A x.v.length x.c])) (by kernel_rfl) ?_ (fun hHeld => ?_)
  · exact K1'
  replace K1 := K1'
  clear K1'
  replace K2 := K2'
  clear K2'
  replace BX : Below w.heap.size w W0.drew := BX.drew
  generalize W0.drew = X0 at *
  refine wpAnyH_take (i := 0) (v := .pointer (some ⟨w.heap.size, 0, none⟩)) rfl (by kernel_rfl) (by kernel_rfl) (by kernel_rfl) (fun _ _ _ h => h) (Or.inl ⟨by first | rfl | go_simp, by intro w9 hSw; (try dsimp only at hSw); go_simp⟩) (by assumption) ?_
  simp only [List.getElem_toArray, List.getElem_cons_zero, List.getElem_cons_succ, Act.put, List.setIfInBounds_toArray, List.set_cons_zero, List.set_cons_succ]
  refine wpAnyH_take (i := 1) (v := .int .i64 x.k) rfl (by kernel_rfl) (by kernel_rfl) (by kernel_rfl) (fun _ _ _ h => h) (Or.inl ⟨by first | rfl | go_simp, by intro w9 hSw; (try dsimp only at hSw); have c9 := hSw.cell 0; clear hSw; go_simp⟩) (by assumption) ?_
  simp only [List.getElem_toArray, List.getElem_cons_zero, List.getElem_cons_succ, Act.put, List.setIfInBounds_toArray, List.set_cons_zero, List.set_cons_succ]
  refine wpAnyH_take (i := 3) (v := .pointer (some ⟨w.heap.size, 1, none⟩)) rfl (by kernel_rfl) (by kernel_rfl) (by kernel_rfl) (fun _ _ _ h => h) (Or.inl ⟨by first | rfl | go_simp, by intro w9 hSw; (try dsimp only at hSw); go_simp⟩) (by assumption) ?_
  simp only [List.getElem_toArray, List.getElem_cons_zero, List.getElem_cons_succ, Act.put, List.setIfInBounds_toArray, List.set_cons_zero, List.set_cons_succ]
  refine wpAnyH_take (i := 4) (v := .slice x.A x.v.length x.c) rfl (by kernel_rfl) (by kernel_rfl) (by kernel_rfl) (fun _ _ _ h => h) (Or.inl ⟨by first | rfl | go_simp, by intro w9 hSw; (try dsimp only at hSw); have c9 := hSw.cell 1; clear hSw; go_simp⟩) (by assumption) ?_
  simp only [List.getElem_toArray, List.getElem_cons_zero, List.getElem_cons_succ, Act.put, List.setIfInBounds_toArray, List.set_cons_zero, List.set_cons_succ]
  refine wpAnyH_ready (rs := [2]) (by kernel_rfl) (by simp) ?_
  refine AllReadyH.cons rfl (fun K hK => ?_) (AllReadyH.nil)
  go_simp
  have b9 := (Below.refl X0.heap.size X0).alloc (Nat.le_refl _) (.cells #[] 5)
  have H2 : (X0.alloc (.cells #[] 5)).ownsRow (w.heap.size + 2) 5 1 (.slice (some ⟨X0.heap.size, 0, none⟩) 0 0) 0 [] := World.ownsRow_made X0 #[] 0 (by have := K2.lt; omega) (by unfold maxLen; omega) rfl
  generalize X0.alloc (.cells #[] 5) = X1 at *
  replace K1 := K1.below b9 K1.lt
  replace K2 := K2.below b9 K2.lt
  replace BX := Base.thenB BX b9
  clear b9
  refine hK.out _ _ K1 (fun hHeld => ?_)
  clear hK K
  try simp only [List.getElem_toArray, List.getElem_cons_zero, List.getElem_cons_succ, Act.put, List.setIfInBounds_toArray, List.set_cons_zero, List.set_cons_succ]
  refine wpAnyH_ready (rs := [5]) (by kernel_rfl) (by simp) ?_
  refine AllReadyH.cons rfl (fun K hK => ?_) (AllReadyH.nil)
  refine step_append_ints rfl (.tmp 5) (.tmp 7) 22 rfl .u8 (w.heap.size + 2) 5 i0 _ 1 Try.underlying22 hi0 hz0 hz1 hz2 rfl (.slice (some ⟨X0.heap.size, 0, none⟩) 0 0) 0 [] rfl H2 w.heap.size x.A x.v.length x.c x.v rfl rfl (HI.out.below BX) (by have := HV.out.1; unfold maxLen; omega) (by have := HV.out.1; omega) (by have := K2.lt; omega) ?_
  intro v3 X2 H3 b9 _
  rw [Nat.zero_add] at H3
  obtain ⟨A3, c3, rfl⟩ := own_form H3
  simp only [List.nil_append] at H3
  replace K1 := K1.below b9 (by omega)
  replace K2 := K2.below b9 (by omega)
  replace BX := BX.trans (b9.mono (by omega))
  clear b9
  refine hK.out _ _ K1 (fun hHeld => ?_)
  clear hK K
  try simp only [List.getElem_toArray, List.getElem_cons_zero, List.getElem_cons_succ, Act.put, List.setIfInBounds_toArray, List.set_cons_zero, List.set_cons_succ]
  refine wpAnyH_take (i := 6) (v := .agg #[.int .i64 x.k, .slice A3 x.v.length c3]) rfl (by kernel_rfl) (by kernel_rfl) (by kernel_rfl) (fun _ _ _ h => h) (Or.inl ⟨by first | rfl | go_simp, by intro w9 hSw; (try dsimp only at hSw); go_simp⟩) (by assumption) ?_
  simp only [List.getElem_toArray, List.getElem_cons_zero, List.getElem_cons_succ, Act.put, List.setIfInBounds_toArray, List.set_cons_zero, List.set_cons_succ]
  refine wpAnyH_ready (rs := [7]) (by kernel_rfl) (by simp) ?_
  refine AllReadyH.cons rfl (fun K hK => ?_) (AllReadyH.nil)
  have H9 : (#[.int .i64 x.k, .slice A3 x.v.length c3] : Array Value).all (·.oneCell') = true := by rw [← Array.all_toList]; rfl
  refine Av.step_store_row rfl 24 (.tmp 2) (.tmp 9) rfl (w.heap.size + 1) #[.int .i64 x.k, .slice A3 x.v.length c3] rfl rfl 24 _ K2 (by kernel_rfl) rfl H9 ?_
  replace H3 := own_setRow H3 K2 (by decide) #[.int .i64 x.k, .slice A3 x.v.length c3]
  replace K1 : Blk (X2.setRow (w.heap.size + 1) #[.int .i64 x.k, .slice A3 x.v.length c3]) (w.heap.size) 24 #[.int .i64 x.k, .slice x.A x.v.length x.c] := Av.bother_row K1 (by omega)
  replace K2 : Blk (X2.setRow (w.heap.size + 1) #[.int .i64 x.k, .slice A3 x.v.length c3]) (w.heap.size + 1) 24 #[.int .i64 x.k, .slice A3 x.v.length c3] := Av.bset_row K2
  replace BX : Below w.heap.size w (X2.setRow (w.heap.size + 1) #[.int .i64 x.k, .slice A3 x.v.length c3]) := below_setRow BX (by omega) _
  clear H9
  generalize X2.setRow (w.heap.size + 1) #[.int .i64 x.k, .slice A3 x.v.length c3] = X3 at *
  refine hK.out _ _ K1 (fun hHeld => ?_)
  clear hK K
  try simp only [List.getElem_toArray, List.getElem_cons_zero, List.getElem_cons_succ, Act.put, List.setIfInBounds_toArray, List.set_cons_zero, List.set_cons_succ]
  refine wpAnyH_done (by kernel_rfl) ?_ _
  go_wp2_with fail
  have hcap := own_cap H3
  refine bodyPost_ret (v := .agg #[.int .i64 x.k, .slice A3 x.v.length c3]) ?_ rfl ⟨A3, c3, rfl, ⟨hcap, HV.out.1, HV.out.2, PB.own H3⟩, BX⟩
  clear hHeld
  have HL := run_loadVar_row (P := Try.prog) X3 (w.heap.size + 1) 24 24 #[.int .i64 x.k, .slice A3 x.v.length c3] (0, 0) _ K2 Try.underlying24 rfl (by kernel_rfl)
  generalize (#[.int .i64 x.k, .slice A3 x.v.length c3] : Array Value) = CS at *
  simp [results, show (Try.f27).results = #[.cell 2 24] from rfl, asAddr, HL, Act.put]
/-- The first ones are new, the others old. -/
def Half (cs : Array Value) (l' l : List Pm) : Prop := (∀ (i : Nat) x, l'[i]? = some x → cs[i * 2]? = some (.int .i64 x.k) ∧ cs[i * 2 + 1]? = some (.slice x.A x.v.length x.c)) ∧ ∀ (i : Nat) x, l'.length ≤ i → l[i]? = some x → cs[i * 2]? = some (.int .i64 x.k) ∧ cs[i * 2 + 1]? = some (.slice x.A x.v.length x.c)
theorem half_start {cs : Array Value} {l : List Pm} (h : cs.toList.take (l.length * 2) = l.flatMap encK) : Half cs [] l := by
  refine ⟨fun i x h => by simp at h, fun i x _ hx => ?_⟩
  have get : ∀ q u, (l.flatMap encK)[q]? = some u → cs[q]? = some u := fun q u hq => by
    rw [← h, List.getElem?_take] at hq
    split at hq
    · simpa using hq
    · cases hq
  have g0 := flat_get sizK l i 0 x (.int .i64 x.k) hx rfl
  have g1 := flat_get sizK l i 1 x (.slice x.A x.v.length x.c) hx rfl
  exact ⟨get _ _ (by simpa using g0), get _ _ g1⟩
theorem half_step {cs : Array Value} {l' l : List Pm} (h : Half cs l' l) {j : Nat} (hj : l'.length = j) (hs : j * 2 + 1 < cs.size) (x : Pm) : Half ((cs.setIfInBounds (j * 2) (.int .i64 x.k)).setIfInBounds (j * 2 + 1) (.slice x.A x.v.length x.c)) (l' ++ [x]) l := by
  have other : ∀ i : Nat, i ≠ j → ((cs.setIfInBounds (j * 2) (.int .i64 x.k)).setIfInBounds (j * 2 + 1) (.slice x.A x.v.length x.c))[i * 2]? = cs[i * 2]? ∧ ((cs.setIfInBounds (j * 2) (.int .i64 x.k)).setIfInBounds (j * 2 + 1) (.slice x.A x.v.length x.c))[i * 2 + 1]? = cs[i * 2 + 1]? := fun i hi => by
    constructor
    · rw [Array.getElem?_setIfInBounds_ne (by omega), Array.getElem?_setIfInBounds_ne (by omega)]
    · rw [Array.getElem?_setIfInBounds_ne (by omega), Array.getElem?_setIfInBounds_ne (by omega)]
  refine ⟨fun i y hy => ?_, fun i y hi hy => ?_⟩
  · by_cases hij : i = j
    · subst hij
      rw [List.getElem?_append_right (by omega), hj, Nat.sub_self] at hy
      simp at hy
      subst hy
      constructor
      · rw [Array.getElem?_setIfInBounds_ne (by omega), Array.getElem?_setIfInBounds_self_of_lt (by omega)]
      · rw [Array.getElem?_setIfInBounds_self_of_lt (by simp; omega)]
    · rw [(other i hij).1, (other i hij).2]
      have : i < l'.length := by
        have := (List.getElem?_eq_some_iff.1 hy).1
        simp at this; omega
      rw [List.getElem?_append_left this] at hy
      exact h.1 i y hy
  · simp at hi
    rw [(other i (by omega)).1, (other i (by omega)).2]
    exact h.2 i y (by omega) hy
theorem half_end {cs : Array Value} {l' l : List Pm} {n c : Nat} (h : Half cs l' l) (hn : l'.length = n) (hs : cs.size = c * 2) (hc : n ≤ c) : cs.toList.take (n * 2) = l'.flatMap encK := by
  have hl := flat_len sizK l'
  apply List.ext_getElem?
  intro q
  by_cases hq : q < n * 2
  · rw [List.getElem?_take, if_pos hq]
    have hi : q / 2 < l'.length := by omega
    have hx : l'[q / 2]? = some l'[q / 2] := List.getElem?_eq_getElem hi
    obtain ⟨h0, h1⟩ := h.1 _ _ hx
    have g0 := flat_get sizK l' (q / 2) 0 _ (.int .i64 (l'[q / 2]).k) hx rfl
    have g1 := flat_get sizK l' (q / 2) 1 _ (.slice (l'[q / 2]).A (l'[q / 2]).v.length (l'[q / 2]).c) hx rfl
    rcases Nat.mod_two_eq_zero_or_one q with hm | hm
    · have e : q = q / 2 * 2 + 0 := by omega
      rw [e, g0]
      simpa using h0
    · have e : q = q / 2 * 2 + 1 := by omega
      rw [e, g1]
      simpa using h1
  · rw [List.getElem?_eq_none (by simp; omega), List.getElem?_eq_none (by rw [hl]; omega)]
theorem take_p {l : List Pm} {j : Nat} {x : Pm} (h : l[j]? = some x) : (l.take (j + 1)).map Pm.p = (l.take j).map Pm.p ++ [x.p] := by
  have hk : j < l.length := (List.getElem?_eq_some_iff.1 h).1
  rw [List.take_succ_eq_append_getElem hk, (List.getElem?_eq_some_iff.1 h).2, List.map_append]; rfl
set_option maxRecDepth 100000 in
set_option maxHeartbeats 4000000 in
theorem copied_any (sn nesn : Int) (V : Value) (op em : Bool) (ack tak : Int) (l : List Pm) (w : World) (hn : l.length ≤ 4398046511100) (h : QI w V l) :
    Calls Try.prog 53 #[.agg #[.int .i64 sn, .int .i64 nesn, V, .bool op, .bool em, .int .i64 ack, .int .i64 tak]] w fun e w' => ∃ V' l', e = .returned (.agg #[.int .i64 sn, .int .i64 nesn, V', .bool op, .bool em, .int .i64 ack, .int .i64 tak]) ∧ l'.map Pm.p = l.map Pm.p ∧ RR w' w.heap.size 0 V' l' ∧ Below w.heap.size w w' := by
  have HQI := Lib.hid h
  obtain ⟨A, c, rfl, hlc, hr, hgp⟩ := h
  obtain ⟨n, hl⟩ : ∃ n, l.length = n := ⟨_, rfl⟩
  rw [hl] at hn hlc HQI ⊢
  have HL := Lib.hid hl
  have BX : Below w.heap.size w ((w.alloc (.cells #[.int .i64 sn, .int .i64 nesn, .slice A n c, .bool op, .bool em, .int .i64 ack, .int .i64 tak] 43)).alloc (.cells #[.int .i64 0, .int .i64 0, .slice none 0 0, .bool false, .bool false, .int .i64 0, .int .i64 0] 43)) := ((Below.refl _ _).alloc (Nat.le_refl _) _).alloc (by simp) _
  have K1 : Blk ((w.alloc (.cells #[.int .i64 sn, .int .i64 nesn, .slice A n c, .bool op, .bool em, .int .i64 ack, .int .i64 tak] 43)).alloc (.cells #[.int .i64 0, .int .i64 0, .slice none 0 0, .bool false, .bool false, .int .i64 0, .int .i64 0] 43)) (w.heap.size) 43 #[.int .i64 sn, .int .i64 nesn, .slice A n c, .bool op, .bool em, .int .i64 ack, .int .i64 tak] := (Blk.fresh w 43 #[.int .i64 sn, .int .i64 nesn, .slice A n c, .bool op, .bool em, .int .i64 ack, .int .i64 tak]).alloc _
  have K2 : Blk ((w.alloc (.cells #[.int .i64 sn, .int .i64 nesn, .slice A n c, .bool op, .bool em, .int .i64 ack, .int .i64 tak] 43)).alloc (.cells #[.int .i64 0, .int .i64 0, .slice none 0 0, .bool false, .bool false, .int .i64 0, .int .i64 0] 43)) (w.heap.size + 1) 43 #[.int .i64 0, .int .i64 0, .slice none 0 0, .bool false, .bool false, .int .i64 0, .int .i64 0] := Av.Blk.next
  have HC : Hid (∀ X, Below w.heap.size w X → Calls Try.prog 60 #[.slice A n c] X fun e w' => ∃ V', e = .returned V' ∧ w'.ownsRow X.heap.size 24 2 V' n (l.flatMap encK) ∧ Below X.heap.size X w') := Lib.hid fun X b => by
    have := clonepk_any (.slice A n c) l X (by omega) (HQI.out.later b)
    rwa [hl] at this
  have HG := Lib.hid hgp
  clear hr hgp hl
  by_cases h0 : n = 0
  · subst h0
    have hnil : l = [] := List.eq_nil_of_length_eq_zero HL.out
    subst hnil
    go_enter Try.func53, Try.ntmps53
    go_upto_region 1 with (fail)
    generalize (w.alloc (.cells #[.int .i64 sn, .int .i64 nesn, .slice A 0 c, .bool op, .bool em, .int .i64 ack, .int .i64 tak] 43)).alloc (.cells #[.int .i64 0, .int .i64 0, .slice none 0 0, .bool false, .bool false, .int .i64 0, .int .i64 0] 43) = W0 at *
    have k1 := K1.cell 2
    go_upto_region 2 with (first
      | (go_at_call 60; refine (HC.out W0 BX).mono ?_; rintro e W1 ⟨V2, rfl, own, b1⟩; obtain ⟨A1, c1, rfl⟩ := own_form own; replace K1 := K1.below b1 K1.lt; have hs2 : w.heap.size + 1 < W0.heap.size := K2.lt; replace K2 := K2.below b1 K2.lt; have BY := Base.thenB BX b1; clear k1 b1)
      | (refine Av.wpList_store_cell rfl _ _ _ rfl w.heap.size 2 (.slice A1 0 c1) rfl rfl 43 _ K1 (by show 2 < 7; decide) (by kernel_rfl) rfl ?_))
    have own := ownsRow_setCell_below (a := ⟨w.heap.size, 2, none⟩) own (by show w.heap.size < _; omega) (.slice A1 0 c1)
    have K2 := Av.bother (i := 2) K2 (show w.heap.size ≠ w.heap.size + 1 by omega) (.slice A1 0 c1)
    have K1 := Av.bset K1 2 (.slice A1 0 c1) rfl
    have BY := BY.setCell (p := ⟨w.heap.size, 2, none⟩) (Nat.le_refl _) (.slice A1 0 c1)
    generalize W1.setCell ⟨w.heap.size, 2, none⟩ (.slice A1 0 c1) = W2 at *
    have k1 := K1.cell 2
    go_upto_region 3 with (fail)
    go_loopw [12] (fun s12 wr => s12 = .int .i64 0 ∧ wr = W2) (fun _ _ => 0)
    case atStart => exact ⟨rfl, rfl⟩
    case round =>
      obtain ⟨rfl, rfl⟩ := hrel
      have H1 : (#[.int .i64 sn, .int .i64 nesn, .slice A1 0 c1, .bool op, .bool em, .int .i64 ack, .int .i64 tak] : Array Value).all (·.oneCell') = true := by rw [← Array.all_toList]; rfl
      go_wp2_with (first | (refine wpList_store_row rfl 43 (.tmp 2) _ rfl (w.heap.size + 1) #[.int .i64 sn, .int .i64 nesn, .slice A1 0 c1, .bool op, .bool em, .int .i64 ack, .int .i64 tak] rfl rfl 43 _ K2 (by kernel_rfl) rfl H1 ?_) | (refine wpList_load_row rfl 43 (.tmp 1) rfl w.heap.size rfl 43 _ (0, 0) _ K1 Try.underlying43 rfl (by kernel_rfl) ?_))
      have own := own_setRow own K2 (by decide) #[.int .i64 sn, .int .i64 nesn, .slice A1 0 c1, .bool op, .bool em, .int .i64 ack, .int .i64 tak]
      have KR := setRow_heap wr (w.heap.size + 1) _ #[.int .i64 sn, .int .i64 nesn, .slice A1 0 c1, .bool op, .bool em, .int .i64 ack, .int .i64 tak] 43 (0, 0) K2
      have BE := below_setRow BY (Nat.le_succ _) #[.int .i64 sn, .int .i64 nesn, .slice A1 0 c1, .bool op, .bool em, .int .i64 ack, .int .i64 tak]
      generalize wr.setRow (w.heap.size + 1) #[.int .i64 sn, .int .i64 nesn, .slice A1 0 c1, .bool op, .bool em, .int .i64 ack, .int .i64 tak] = Y at *
      refine bodyPost_ret (v := .agg #[.int .i64 sn, .int .i64 nesn, .slice A1 0 c1, .bool op, .bool em, .int .i64 ack, .int .i64 tak]) ?_ rfl ⟨_, [], rfl, rfl, ⟨own_base own (by omega), by simp⟩, BE⟩
      clear K1
      have HL := run_loadVar_row (P := Try.prog) Y (w.heap.size + 1) 43 43 #[.int .i64 sn, .int .i64 nesn, .slice A1 0 c1, .bool op, .bool em, .int .i64 ack, .int .i64 tak] (0, 0) _ KR Try.underlying43 rfl (by kernel_rfl)
      generalize (#[.int .i64 sn, .int .i64 nesn, .slice A1 0 c1, .bool op, .bool em, .int .i64 ack, .int .i64 tak] : Array Value) = CS at *
      simp [results, show (Try.f53).results = #[.cell 2 43] from rfl, asAddr, HL, Act.put]
  · have HN := Lib.hid (fun j (h : j < n) => (show ∃ x, l[j]? = some x ∧ x ∈ l from ⟨l[j]'(by rw [HL.out]; exact h), List.getElem?_eq_getElem _, List.getElem_mem _⟩))
    go_enter Try.func53, Try.ntmps53
    go_upto_region 1 with (fail)
    generalize (w.alloc (.cells #[.int .i64 sn, .int .i64 nesn, .slice A n c, .bool op, .bool em, .int .i64 ack, .int .i64 tak] 43)).alloc (.cells #[.int .i64 0, .int .i64 0, .slice none 0 0, .bool false, .bool false, .int .i64 0, .int .i64 0] 43) = W0 at *
    have k1 := K1.cell 2
    go_upto_region 2 with (first
      | (go_at_call 60; refine (HC.out W0 BX).mono ?_; rintro e W1 ⟨V2, rfl, own, b1⟩; obtain ⟨A1, c1, rfl⟩ := own_form own; obtain ⟨g, rfl, hg1, hg2⟩ := Base.own_block own (by omega); replace K1 := K1.below b1 K1.lt; have hs2 : w.heap.size + 1 < W0.heap.size := K2.lt; replace K2 := K2.below b1 K2.lt; have BY := Base.thenB BX b1; clear k1 b1)
      | (refine Av.wpList_store_cell rfl _ _ _ rfl w.heap.size 2 (.slice (some ⟨g, 0, none⟩) n c1) rfl rfl 43 _ K1 (by show 2 < 7; decide) (by kernel_rfl) rfl ?_))
    have own := ownsRow_setCell_below (a := ⟨w.heap.size, 2, none⟩) own (by show w.heap.size < _; omega) (.slice (some ⟨g, 0, none⟩) n c1)
    have K2 := Av.bother (i := 2) K2 (show w.heap.size ≠ w.heap.size + 1 by omega) (.slice (some ⟨g, 0, none⟩) n c1)
    have K1 := Av.bset K1 2 (.slice (some ⟨g, 0, none⟩) n c1) rfl
    have BY := BY.setCell (p := ⟨w.heap.size, 2, none⟩) (Nat.le_refl _) (.slice (some ⟨g, 0, none⟩) n c1)
    generalize W1.setCell ⟨w.heap.size, 2, none⟩ (.slice (some ⟨g, 0, none⟩) n c1) = W2 at *
    obtain ⟨cs0, KR0, hcap, hcm, hcs0, htake⟩ : ∃ cs, Blk W2 g 24 cs ∧ n ≤ c1 ∧ c1 ≤ maxLen ∧ cs.size = c1 * 2 ∧ cs.toList.take (n * 2) = l.flatMap encK := by
      rcases own.2 with ⟨hv, _⟩ | ⟨g', cap, cur, hv, _, hk, h1, h2, h3, h4⟩
      · cases hv
      · injection hv with e1 e2 e3
        injection e1 with e1
        injection e1 with e1 _ _
        subst e1; subst e3
        exact ⟨cur, hk, h1, h2, h3, h4⟩
    have HH0 : Hid (Half cs0 [] l) := Lib.hid (half_start (by rw [HL.out]; exact htake))
    have hg0 : w.heap.size + 2 ≤ g := by omega
    clear own htake hg1 hg2
    have k1 := K1.cell 2
    go_upto_region 3 with (fail)
    go_loopw [12] (fun s12 wr => ∃ j : Nat, j ≤ n ∧ s12 = .int .i64 j ∧ ∃ l' : List Pm, ∃ cs, l'.length = j ∧ Hid (l'.map Pm.p = (l.take j).map Pm.p) ∧ Blk wr (w.heap.size) 43 #[.int .i64 sn, .int .i64 nesn, .slice (some ⟨g, 0, none⟩) n c1, .bool op, .bool em, .int .i64 ack, .int .i64 tak] ∧ Blk wr (w.heap.size + 1) 43 #[.int .i64 0, .int .i64 0, .slice none 0 0, .bool false, .bool false, .int .i64 0, .int .i64 0] ∧ Blk wr g 24 cs ∧ cs.size = c1 * 2 ∧ Hid (Half cs l' l) ∧ (∀ y ∈ l', PP wr 0 y) ∧ Below w.heap.size w wr) (fun s12 _ => n - (intOf s12).toNat)
    case atStart => exact ⟨0, by omega, rfl, [], cs0, rfl, Lib.hid (by simp), K1, K2, KR0, hcs0, HH0, by simp, BY⟩
    case round =>
      clear K1 K2 KR0 hcs0 HH0 BY k1
      obtain ⟨j, hj, rfl, l', cs, hl', hm', K1, K2, KR, hcs, hH, hpp, BX⟩ := hrel
      by_cases cj : j < n
      · obtain ⟨x, hxj, hxm⟩ := HN.out j cj
        have HXj := Lib.hid hxj
        have HP : Hid (∀ X, Below w.heap.size w X → Calls Try.prog 55 #[.agg #[.int .i64 x.k, .slice x.A x.v.length x.c]] X fun e w' => ∃ A c, e = .returned (.agg #[.int .i64 x.k, .slice A x.v.length c]) ∧ PP w' 0 ⟨x.k, A, c, x.v⟩ ∧ Below X.heap.size X w') := Lib.hid fun X b => cpk_any x X ((HG.out x hxm).later b)
        have hq := hH.out.2 j x (by omega) hxj
        have h0q : wr.cell? ⟨g, j * 2, none⟩ = some (.int .i64 x.k) := (KR.cell (j * 2)).trans hq.1
        have h1q : wr.cell? ⟨g, j * 2 + 1, none⟩ = some (.slice x.A x.v.length x.c) := (KR.cell (j * 2 + 1)).trans hq.2
        have g1 : (0 : Int) ≤ (j : Int) ∧ (j : Int) < (n : Int) := by omega
        have hgw := KR.lt
        clear hxj hxm
        go_upto_region 5 with (fail)
        have K4 := Blk.fresh wr 24 #[.int .i64 x.k, .slice x.A x.v.length x.c]
        have K1 := K1.alloc (.cells #[.int .i64 x.k, .slice x.A x.v.length x.c] 24)
        have K2 := K2.alloc (.cells #[.int .i64 x.k, .slice x.A x.v.length x.c] 24)
        have KR := KR.alloc (.cells #[.int .i64 x.k, .slice x.A x.v.length x.c] 24)
        have hpp := fun y hy => (hpp y hy).below ((Below.refl wr.heap.size wr).alloc (Nat.le_refl _) (.cells #[.int .i64 x.k, .slice x.A x.v.length x.c] 24))
        have BX := BX.alloc BX.size (.cells #[.int .i64 x.k, .slice x.A x.v.length x.c] 24)
        obtain ⟨g4, e4⟩ : ∃ g4, wr.heap.size = g4 := ⟨_, rfl⟩
        rw [e4] at K4 hgw
        try simp only [e4]
        generalize wr.alloc (.cells #[.int .i64 x.k, .slice x.A x.v.length x.c] 24) = W4 at *
        clear h0q h1q e4
        have K1' : Blk W4.drew (w.heap.size) 43 #[.int .i64 sn, .int .i64 nesn, .slice (some ⟨g, 0, none⟩) n c1, .bool op, .bool em, .int .i64 ack, .int .i64 tak] := Mem.Blk.drew K1
        have K2' : Blk W4.drew (w.heap.size + 1) 43 #[.int .i64 0, .int .i64 0, .slice none 0 0, .bool false, .bool false, .int .i64 0, .int .i64 0] := Mem.Blk.drew K2
        have K4' : Blk W4.drew (g4) 24 #[.int .i64 x.k, .slice x.A x.v.length x.c] := Mem.Blk.drew K4
        refine wp_region_held_drew (S := (fun w' => Blk w' (g4) 24 #[.int .i64 x.k, .slice x.A x.v.length x.c] ∧ Blk w' (w.heap.size) 43 #[.int .i64 sn, .int .i64 nesn, .slice (some ⟨g, 0, none⟩) n c1, .bool op, .bool em, .int .i64 ack, .int .i64 tak])) (by kernel_rfl) ?_ (fun hHeld => ?_)
        · exact ⟨K4', K1'⟩
        replace K1 := K1'
        clear K1'
        replace K2 := K2'
        clear K2'
        replace K4 := K4'
        clear K4'
        replace BX : Below w.heap.size w W4.drew := BX.drew
        replace KR := (show Blk W4.drew g 24 cs from KR)
        replace hpp := (show ∀ y ∈ l', PP W4.drew 0 y from hpp)
        generalize W4.drew = X0 at *
        refine wpAnyH_take (i := 0) (v := .pointer (some ⟨w.heap.size, 2, none⟩)) rfl (by kernel_rfl) (by kernel_rfl) (by kernel_rfl) (fun _ _ _ h => h) (Or.inl ⟨by first | rfl | go_simp, by intro w9 hSw; (try dsimp only at hSw); go_simp⟩) (by assumption) ?_
        simp only [List.getElem_toArray, List.getElem_cons_zero, List.getElem_cons_succ, Act.put, List.setIfInBounds_toArray, List.set_cons_zero, List.set_cons_succ]
        refine wpAnyH_take (i := 1) (v := .slice (some ⟨g, 0, none⟩) n c1) rfl (by kernel_rfl) (by kernel_rfl) (by kernel_rfl) (fun _ _ _ h => h) (Or.inl ⟨by first | rfl | go_simp, by intro w9 hSw; (try dsimp only at hSw); have c9 := hSw.2.cell 2; clear hSw; go_simp⟩) (by assumption) ?_
        simp only [List.getElem_toArray, List.getElem_cons_zero, List.getElem_cons_succ, Act.put, List.setIfInBounds_toArray, List.set_cons_zero, List.set_cons_succ]
        refine wpAnyH_take (i := 2) (v := .int .i64 (j : Int)) rfl (by kernel_rfl) (by kernel_rfl) (by kernel_rfl) (fun _ _ _ h => h) (Or.inl ⟨by first | rfl | go_simp, by intro w9 hSw; (try dsimp only at hSw); go_simp⟩) (by assumption) ?_
        simp only [List.getElem_toArray, List.getElem_cons_zero, List.getElem_cons_succ, Act.put, List.setIfInBounds_toArray, List.set_cons_zero, List.set_cons_succ]
        refine wpAnyH_take (i := 3) (v := .agg #[.int .i64 x.k, .slice x.A x.v.length x.c]) rfl (by kernel_rfl) (by kernel_rfl) (by kernel_rfl) (fun _ _ _ h => h) (Av.yields_part (by first | rfl | go_simp) _ _ rfl (g4) 0 rfl #[.int .i64 x.k, .slice x.A x.v.length x.c] _ 24 #[.int .i64 x.k, .slice x.A x.v.length x.c] (fun w9 hSw => hSw.1) rfl Try.underlying24 rfl (by kernel_rfl)) (by assumption) ?_
        simp only [List.getElem_toArray, List.getElem_cons_zero, List.getElem_cons_succ, Act.put, List.setIfInBounds_toArray, List.set_cons_zero, List.set_cons_succ]
        refine wpAnyH_ready (rs := [4]) (by kernel_rfl) (by simp) ?_
        refine AllReadyH.cons rfl (fun K hK => ?_) (AllReadyH.nil)
        go_simp
        have hsX : g < X0.heap.size := KR.lt
        refine (HP.out X0 BX).mono ?_
        rintro e X1 ⟨A2, c2, rfl, HX, b9⟩
        replace K1 := K1.below b9 K1.lt
        replace K2 := K2.below b9 K2.lt
        replace K4 := K4.below b9 K4.lt
        replace BX := Base.thenB BX b9
        replace KR := KR.below b9 KR.lt
        replace hpp := fun y hy => (hpp y hy).below b9
        clear b9
        refine hK.out _ _ ⟨K4, K1⟩ (fun hHeld => ?_)
        clear hK K
        try simp only [List.getElem_toArray, List.getElem_cons_zero, List.getElem_cons_succ, Act.put, List.setIfInBounds_toArray, List.set_cons_zero, List.set_cons_succ]
        refine wpAnyH_take (i := 5) (v := .pointer (some ⟨g, j * 2, none⟩)) rfl (by kernel_rfl) (by kernel_rfl) (by kernel_rfl) (fun _ _ _ h => h) (Or.inl ⟨by first | rfl | go_simp, by intro w9 hSw; (try dsimp only at hSw); go_simp⟩) (by assumption) ?_
        simp only [List.getElem_toArray, List.getElem_cons_zero, List.getElem_cons_succ, Act.put, List.setIfInBounds_toArray, List.set_cons_zero, List.set_cons_succ]
        refine wpAnyH_ready (rs := [6]) (by kernel_rfl) (by simp) ?_
        refine AllReadyH.cons rfl (fun K hK => ?_) (AllReadyH.nil)
        have c90 : X1.cell? ⟨g, j * 2, none⟩ = some _ := (KR.cell (j * 2)).trans hq.1
        have c91 : X1.cell? ⟨g, j * 2 + 1, none⟩ = some _ := (KR.cell (j * 2 + 1)).trans hq.2
        have f90 := Av.bfrz KR (j * 2)
        have f91 := Av.bfrz KR (j * 2 + 1)
        go_simp
        have sA := stp_cell (i := j * 2) KR (.int .i64 x.k)
        have KR2 := Av.bset KR (j * 2) (.int .i64 x.k) rfl
        have sB := stp_cell (i := j * 2 + 1) KR2 (.slice A2 x.v.length c2)
        replace K1 := sB.blk_ne (sA.blk_ne K1 (by omega)) (by omega)
        replace K2 := sB.blk_ne (sA.blk_ne K2 (by omega)) (by omega)
        replace K4 := sB.blk_ne (sA.blk_ne K4 (by omega)) (by omega)
        replace HX := (HX.step sA (by decide) (Nat.zero_le _)).step sB (by decide) (Nat.zero_le _)
        replace hpp := fun y hy => ((hpp y hy).step sA (by decide) (Nat.zero_le _)).step sB (by decide) (Nat.zero_le _)
        replace BX := (BX.setCell (p := ⟨g, j * 2, none⟩) (by show w.heap.size ≤ g; omega) (.int .i64 x.k)).setCell (p := ⟨g, j * 2 + 1, none⟩) (by show w.heap.size ≤ g; omega) (.slice A2 x.v.length c2)
        have KR := Av.bset KR2 (j * 2 + 1) (.slice A2 x.v.length c2) rfl
        clear KR2 sA sB c90 c91 f90 f91
        generalize (X1.setCell ⟨g, j * 2, none⟩ (.int .i64 x.k)).setCell ⟨g, j * 2 + 1, none⟩ (.slice A2 x.v.length c2) = X2 at *
        refine hK.out _ _ ⟨K4, K1⟩ (fun hHeld => ?_)
        clear hK K
        try simp only [List.getElem_toArray, List.getElem_cons_zero, List.getElem_cons_succ, Act.put, List.setIfInBounds_toArray, List.set_cons_zero, List.set_cons_succ]
        refine wpAnyH_done (by kernel_rfl) ?_ _
        have HE := Lib.hid (And.intro K1 (And.intro K2 (And.intro KR (And.intro HX (And.intro hpp BX)))))
        clear K1 K2 K4 KR HX hpp hq hHeld
        go_wp2_with fail
        go_roundw
        case rel => exact ⟨j + 1, by omega, by go_num, l' ++ [⟨x.k, A2, c2, x.v⟩], _, by simp [hl'], Lib.hid (by rw [List.map_append, hm'.out, take_p HXj.out]; rfl), HE.out.1, HE.out.2.1, HE.out.2.2.1, by simpa using hcs, Lib.hid (half_step hH.out hl' (by omega) ⟨x.k, A2, c2, x.v⟩), (by intro y hy; rcases List.mem_append.mp hy with hy | hy; exact HE.out.2.2.2.2.1 y hy; rw [List.mem_singleton.mp hy]; exact HE.out.2.2.2.1), HE.out.2.2.2.2.2⟩
        case measure => simp [intOf]; omega
      · obtain rfl : j = n := by omega
        have H1 : (#[.int .i64 sn, .int .i64 nesn, .slice (some ⟨g, 0, none⟩) j c1, .bool op, .bool em, .int .i64 ack, .int .i64 tak] : Array Value).all (·.oneCell') = true := by rw [← Array.all_toList]; rfl
        go_wp2_with (first | (refine wpList_store_row rfl 43 (.tmp 2) _ rfl (w.heap.size + 1) #[.int .i64 sn, .int .i64 nesn, .slice (some ⟨g, 0, none⟩) j c1, .bool op, .bool em, .int .i64 ack, .int .i64 tak] rfl rfl 43 _ K2 (by kernel_rfl) rfl H1 ?_) | (refine wpList_load_row rfl 43 (.tmp 1) rfl w.heap.size rfl 43 _ (0, 0) _ K1 Try.underlying43 rfl (by kernel_rfl) ?_))
        have hst := stp_row K2 #[.int .i64 sn, .int .i64 nesn, .slice (some ⟨g, 0, none⟩) j c1, .bool op, .bool em, .int .i64 ack, .int .i64 tak]
        have KG := hst.blk_ne KR (by omega)
        have hpp := fun y hy => (hpp y hy).step hst (by decide) (Nat.zero_le _)
        have KE := setRow_heap wr (w.heap.size + 1) _ #[.int .i64 sn, .int .i64 nesn, .slice (some ⟨g, 0, none⟩) j c1, .bool op, .bool em, .int .i64 ack, .int .i64 tak] 43 (0, 0) K2
        have BE := below_setRow BX (Nat.le_succ _) #[.int .i64 sn, .int .i64 nesn, .slice (some ⟨g, 0, none⟩) j c1, .bool op, .bool em, .int .i64 ack, .int .i64 tak]
        generalize wr.setRow (w.heap.size + 1) #[.int .i64 sn, .int .i64 nesn, .slice (some ⟨g, 0, none⟩) j c1, .bool op, .bool em, .int .i64 ack, .int .i64 tak] = Y at *
        have hT : (l.take j) = l := List.take_of_length_le (by rw [HL.out]; exact Nat.le_refl _)
        refine bodyPost_ret (v := .agg #[.int .i64 sn, .int .i64 nesn, .slice (some ⟨g, 0, none⟩) j c1, .bool op, .bool em, .int .i64 ack, .int .i64 tak]) ?_ rfl ⟨_, l', rfl, by rw [hm'.out, hT], ⟨⟨by rw [flat_len sizK], .inr ⟨g, c1, cs, by rw [hl'], by omega, KG, by omega, hcm, hcs, by rw [hl']; exact half_end hH.out hl' hcs hcap⟩⟩, hpp⟩, BE⟩
        clear K1 KG hst
        have HL := run_loadVar_row (P := Try.prog) Y (w.heap.size + 1) 43 43 #[.int .i64 sn, .int .i64 nesn, .slice (some ⟨g, 0, none⟩) j c1, .bool op, .bool em, .int .i64 ack, .int .i64 tak] (0, 0) _ KE Try.underlying43 rfl (by kernel_rfl)
        generalize (#[.int .i64 sn, .int .i64 nesn, .slice (some ⟨g, 0, none⟩) j c1, .bool op, .bool em, .int .i64 ack, .int .i64 tak] : Array Value) = CS at *
        simp [results, show (Try.f53).results = #[.cell 2 43] from rfl, asAddr, HL, Act.put]
end Go.Proofs.Ytbnfjielnamepaa.Arq
