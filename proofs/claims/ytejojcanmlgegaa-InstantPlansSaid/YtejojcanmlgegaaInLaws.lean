/- Changes at instants: planning, checks, what is added and due: walks. -/
import Derived.Test.YtejojcanmlgegaaInLives
set_option linter.unusedVariables false
set_option linter.unusedSimpArgs false
namespace Go.Proofs.Ytejojcanmlgegaa.Nst
open Go.RowKit Mem Rw Base

set_option maxRecDepth 100000 in
set_option maxHeartbeats 8000000 in
theorem plans_any (ev la : Int) (w : World) (h0 : 0 ≤ ev ∧ ev ≤ 65535) : Calls Try.prog 3 #[.int .u16 ev, .int .i64 la] w fun e w' => e = .returned (.bool true) ∧ Below w.heap.size w w' := by
  have HL := Lib.hid lives_any
  have H1 := Lib.hid (fun w => plan_any ev la w h0)
  have H2 := Lib.hid (fun w => rplan_any ev la w h0)
  generalize planZ ev la = P at *
  have e1 : (P == P) = true := by simp
  go_enter Try.func3, Try.ntmps3
  go_wp2_with (first | (go_at_call 9; refine (HL.out _).mono ?_; rintro e X1 ⟨rfl, b1⟩) | (go_at_call 10; refine (H1.out _).mono ?_; rintro e w9 ⟨rfl, rfl⟩) | (go_at_call 11; refine (H2.out _).mono ?_; rintro e w9 ⟨rfl, rfl⟩))
  go_ret
  exact ⟨rfl, b1⟩
set_option maxRecDepth 100000 in
set_option maxHeartbeats 8000000 in
theorem checks_any (ev : Int) (x : Ch) (w : World) (h0 : 0 ≤ ev ∧ ev ≤ 65535) (hx : GoodI x) : Calls Try.prog 4 #[.int .u16 ev, .agg (encX x)] w fun e w' => e = .returned (.bool true) ∧ Below w.heap.size w w' := by
  have HL := Lib.hid lives_any
  have H1 := Lib.hid (fun w => check_any ev x w h0 hx)
  have H2 := Lib.hid (fun w => rcheck_any ev x w h0 hx)
  generalize chk ev x = C at *
  have e1 : (C == C) = true := by simp
  clear hx h0
  obtain ⟨y0, y1, y2, y3, y4, y5, y6, y7⟩ := x
  dsimp only [encX] at *
  have BX : Below w.heap.size w (w.alloc (.cells #[.int .i64 y0, .int .u16 y1, .int .i64 y2, .int .i64 y3, .int .i64 y4, .int .i64 y5, .int .i64 y6, .int .u64 y7] 31)) := (Below.refl _ _).alloc (Nat.le_refl _) _
  have K1 : Blk (w.alloc (.cells #[.int .i64 y0, .int .u16 y1, .int .i64 y2, .int .i64 y3, .int .i64 y4, .int .i64 y5, .int .i64 y6, .int .u64 y7] 31)) (w.heap.size) 31 #[.int .i64 y0, .int .u16 y1, .int .i64 y2, .int .i64 y3, .int .i64 y4, .int .i64 y5, .int .i64 y6, .int .u64 y7] := Blk.fresh w _ _
  go_enter Try.func4, Try.ntmps4
  go_upto_region 1 with (fail)
  generalize w.alloc (.cells #[.int .i64 y0, .int .u16 y1, .int .i64 y2, .int .i64 y3, .int .i64 y4, .int .i64 y5, .int .i64 y6, .int .u64 y7] 31) = W0 at *
  have K1' : Blk W0.drew (w.heap.size) 31 #[.int .i64 y0, .int .u16 y1, .int .i64 y2, .int .i64 y3, .int .i64 y4, .int .i64 y5, .int .i64 y6, .int .u64 y7] := Mem.Blk.drew K1
  refine wp_region_held_drew (S := (fun w' => Blk w' (w.heap.size) 31 #[.int .i64 y0, .int .u16 y1, .int .i64 y2, .int .i64 y3, .int .i64 y4, .int .i64 y5, .int .i64 y6, .int .u64 y7])) (by kernel_rfl) ?_ (fun hHeld => ?_)
  · exact K1'
  replace K1 := K1'
  clear K1'
  replace BX : Below w.heap.size w W0.drew := BX.drew
  generalize W0.drew = X0 at *
  refine wpAnyH_ready (rs := [0]) (by kernel_rfl) (by simp) ?_
  refine AllReadyH.cons rfl (fun K hK => ?_) (AllReadyH.nil)
  go_simp
  refine (HL.out X0).mono ?_
  rintro e X1 ⟨rfl, b9⟩
  replace K1 := K1.below b9 K1.lt
  replace BX := Base.thenB BX b9
  clear b9
  refine hK.out _ _ K1 (fun hHeld => ?_)
  clear hK K
  try simp only [List.getElem_toArray, List.getElem_cons_zero, List.getElem_cons_succ, Act.put, List.setIfInBounds_toArray, List.set_cons_zero, List.set_cons_succ]
  refine wpAnyH_take (i := 1) (v := .bool true) rfl (by kernel_rfl) (by kernel_rfl) (by kernel_rfl) (fun _ _ _ h => h) (Or.inl ⟨by first | rfl | go_simp, by intro w9 hSw; (try dsimp only at hSw); go_simp⟩) (by assumption) ?_
  simp only [List.getElem_toArray, List.getElem_cons_zero, List.getElem_cons_succ, Act.put, List.setIfInBounds_toArray, List.set_cons_zero, List.set_cons_succ]
  refine wpAnyH_take (i := 2) (v := .int .u16 ev) rfl (by kernel_rfl) (by kernel_rfl) (by kernel_rfl) (fun _ _ _ h => h) (Or.inl ⟨by first | rfl | go_simp, by intro w9 hSw; (try dsimp only at hSw); go_simp⟩) (by assumption) ?_
  simp only [List.getElem_toArray, List.getElem_cons_zero, List.getElem_cons_succ, Act.put, List.setIfInBounds_toArray, List.set_cons_zero, List.set_cons_succ]
  refine wpAnyH_take (i := 3) (v := .agg #[.int .i64 y0, .int .u16 y1, .int .i64 y2, .int .i64 y3, .int .i64 y4, .int .i64 y5, .int .i64 y6, .int .u64 y7]) rfl (by kernel_rfl) (by kernel_rfl) (by kernel_rfl) (fun _ _ _ h => h) (Av.yields_part (by first | rfl | go_simp) _ _ rfl (w.heap.size) 0 rfl #[.int .i64 y0, .int .u16 y1, .int .i64 y2, .int .i64 y3, .int .i64 y4, .int .i64 y5, .int .i64 y6, .int .u64 y7] _ 31 #[.int .i64 y0, .int .u16 y1, .int .i64 y2, .int .i64 y3, .int .i64 y4, .int .i64 y5, .int .i64 y6, .int .u64 y7] (fun w9 hSw => hSw) rfl Try.underlying31 rfl (by kernel_rfl)) (by assumption) ?_
  simp only [List.getElem_toArray, List.getElem_cons_zero, List.getElem_cons_succ, Act.put, List.setIfInBounds_toArray, List.set_cons_zero, List.set_cons_succ]
  refine wpAnyH_take (i := 5) (v := .int .u16 ev) rfl (by kernel_rfl) (by kernel_rfl) (by kernel_rfl) (fun _ _ _ h => h) (Or.inl ⟨by first | rfl | go_simp, by intro w9 hSw; (try dsimp only at hSw); go_simp⟩) (by assumption) ?_
  simp only [List.getElem_toArray, List.getElem_cons_zero, List.getElem_cons_succ, Act.put, List.setIfInBounds_toArray, List.set_cons_zero, List.set_cons_succ]
  refine wpAnyH_take (i := 6) (v := .agg #[.int .i64 y0, .int .u16 y1, .int .i64 y2, .int .i64 y3, .int .i64 y4, .int .i64 y5, .int .i64 y6, .int .u64 y7]) rfl (by kernel_rfl) (by kernel_rfl) (by kernel_rfl) (fun _ _ _ h => h) (Av.yields_part (by first | rfl | go_simp) _ _ rfl (w.heap.size) 0 rfl #[.int .i64 y0, .int .u16 y1, .int .i64 y2, .int .i64 y3, .int .i64 y4, .int .i64 y5, .int .i64 y6, .int .u64 y7] _ 31 #[.int .i64 y0, .int .u16 y1, .int .i64 y2, .int .i64 y3, .int .i64 y4, .int .i64 y5, .int .i64 y6, .int .u64 y7] (fun w9 hSw => hSw) rfl Try.underlying31 rfl (by kernel_rfl)) (by assumption) ?_
  simp only [List.getElem_toArray, List.getElem_cons_zero, List.getElem_cons_succ, Act.put, List.setIfInBounds_toArray, List.set_cons_zero, List.set_cons_succ]
  refine wpAnyH_ready (rs := [4]) (by kernel_rfl) (by simp) ?_
  refine AllReadyH.cons rfl (fun K hK => ?_) (AllReadyH.nil)
  go_simp
  refine (H1.out X1).mono ?_
  rintro e X2 ⟨rfl, b9⟩
  replace K1 := K1.below b9 K1.lt
  replace BX := Base.thenB BX b9
  clear b9
  refine hK.out _ _ K1 (fun hHeld => ?_)
  clear hK K
  try simp only [List.getElem_toArray, List.getElem_cons_zero, List.getElem_cons_succ, Act.put, List.setIfInBounds_toArray, List.set_cons_zero, List.set_cons_succ]
  refine wpAnyH_ready (rs := [7]) (by kernel_rfl) (by simp) ?_
  refine AllReadyH.cons rfl (fun K hK => ?_) (AllReadyH.nil)
  go_simp
  refine (H2.out X2).mono ?_
  rintro e X3 ⟨rfl, b9⟩
  replace K1 := K1.below b9 K1.lt
  replace BX := Base.thenB BX b9
  clear b9
  refine hK.out _ _ K1 (fun hHeld => ?_)
  clear hK K
  try simp only [List.getElem_toArray, List.getElem_cons_zero, List.getElem_cons_succ, Act.put, List.setIfInBounds_toArray, List.set_cons_zero, List.set_cons_succ]
  refine wpAnyH_take (i := 8) (v := .bool true) rfl (by kernel_rfl) (by kernel_rfl) (by kernel_rfl) (fun _ _ _ h => h) (Or.inl ⟨by first | rfl | go_simp, by intro w9 hSw; (try dsimp only at hSw); go_simp⟩) (by assumption) ?_
  simp only [List.getElem_toArray, List.getElem_cons_zero, List.getElem_cons_succ, Act.put, List.setIfInBounds_toArray, List.set_cons_zero, List.set_cons_succ]
  refine wpAnyH_take (i := 9) (v := .bool true) rfl (by kernel_rfl) (by kernel_rfl) (by kernel_rfl) (fun _ _ _ h => h) (Or.inl ⟨by first | rfl | go_simp, by intro w9 hSw; (try dsimp only at hSw); go_simp⟩) (by assumption) ?_
  simp only [List.getElem_toArray, List.getElem_cons_zero, List.getElem_cons_succ, Act.put, List.setIfInBounds_toArray, List.set_cons_zero, List.set_cons_succ]
  refine wpAnyH_take (i := 10) (v := .bool true) rfl (by kernel_rfl) (by kernel_rfl) (by kernel_rfl) (fun _ _ _ h => h) (Or.inl ⟨by first | rfl | go_simp, by intro w9 hSw; (try dsimp only at hSw); go_simp⟩) (by assumption) ?_
  simp only [List.getElem_toArray, List.getElem_cons_zero, List.getElem_cons_succ, Act.put, List.setIfInBounds_toArray, List.set_cons_zero, List.set_cons_succ]
  refine wpAnyH_done (by kernel_rfl) ?_ _
  go_wp2_with fail
  go_ret
  exact ⟨rfl, BX⟩
set_option maxRecDepth 100000 in
set_option maxHeartbeats 8000000 in
theorem adds_any (A : Option Addr) (n c : Nat) (l : List Ch) (ev : Int) (x : Ch) (w : World) (hl : l.length = n) (hn : n ≤ 2199023255550) (hr : ListAt encH w w.heap.size A l) (h0 : 0 ≤ ev ∧ ev ≤ 65535) (hx : GoodI x) : Calls Try.prog 5 #[.slice A n c, .int .u16 ev, .agg (encX x)] w fun e w' => e = .returned (.bool true) ∧ Below w.heap.size w w' := by
  have HL := Lib.hid lives_any
  have HLn := Lib.hid hl
  obtain ⟨m, r, hR⟩ : ∃ m r, addR l ev x = (m, r) := ⟨_, _, rfl⟩
  obtain ⟨k, hk⟩ : ∃ k, m.length = k := ⟨_, rfl⟩
  have hkn : k ≤ n + 1 := by
    unfold addR at hR
    split at hR
    · split at hR <;> (injection hR with h1 h2; subst h1; first | (simp at hk; omega) | omega)
    · injection hR with h1 h2; subst h1; omega
  have HCo : Hid (∀ X, Below w.heap.size w X → Calls Try.prog 15 #[.slice A n c] X fun e w2 => Row X w2 e l) := Lib.hid fun X b => copied_any A n c l X hl (by omega) (CellsAt.later hr b)
  have HAd : Hid (∀ A1 c1 X, ListAt encH X X.heap.size A1 l → Calls Try.prog 14 #[.slice A1 n c1, .int .u16 ev, .agg (encX x)] X fun e w2 => Pair X w2 e (m, r)) := Lib.hid fun A1 c1 X h => by rw [← hR]; exact add_any A1 n c1 l ev x X hl hn h h0 hx
  have HRa : Hid (∀ X, Below w.heap.size w X → Calls Try.prog 16 #[.slice A n c, .int .u16 ev, .agg (encX x)] X fun e w2 => Pair X w2 e (m, r)) := Lib.hid fun X b => by rw [← hR]; exact radd_any A n c l ev x X hl hn (CellsAt.later hr b) h0 hx
  have HK := Lib.hid hk
  have HSa : Hid (∀ A2 A3 c2 c3 X, ListAt encH X X.heap.size A2 m → ListAt encH X X.heap.size A3 m → Calls Try.prog 17 #[.slice A2 k c2, .slice A3 k c3] X fun e w2 => e = .returned (.bool true) ∧ Below X.heap.size X w2) := Lib.hid fun A2 A3 c2 c3 X h h' => same_yes A2 A3 k c2 c3 m X hk (by omega) h h'
  have e1 : (r == r) = true := by simp
  clear hl hr hR hk h0 hx hkn
  obtain ⟨y0, y1, y2, y3, y4, y5, y6, y7⟩ := x
  dsimp only [encX] at *
  have BX : Below w.heap.size w (w.alloc (.cells #[.int .i64 y0, .int .u16 y1, .int .i64 y2, .int .i64 y3, .int .i64 y4, .int .i64 y5, .int .i64 y6, .int .u64 y7] 31)) := (Below.refl _ _).alloc (Nat.le_refl _) _
  have K1 : Blk (w.alloc (.cells #[.int .i64 y0, .int .u16 y1, .int .i64 y2, .int .i64 y3, .int .i64 y4, .int .i64 y5, .int .i64 y6, .int .u64 y7] 31)) (w.heap.size) 31 #[.int .i64 y0, .int .u16 y1, .int .i64 y2, .int .i64 y3, .int .i64 y4, .int .i64 y5, .int .i64 y6, .int .u64 y7] := Blk.fresh w _ _
  by_cases cl : (100 : Int) < (n : Int)
  · go_enter Try.func5, Try.ntmps5
    go_upto_region 1 with (fail)
    generalize w.alloc (.cells #[.int .i64 y0, .int .u16 y1, .int .i64 y2, .int .i64 y3, .int .i64 y4, .int .i64 y5, .int .i64 y6, .int .u64 y7] 31) = W0 at *
    go_wp2_with (go_at_call 9; refine (HL.out _).mono ?_; rintro e X1 ⟨rfl, b1⟩)
    go_ret
    exact ⟨rfl, Base.thenB BX b1⟩
  · go_enter Try.func5, Try.ntmps5
    go_upto_region 1 with (fail)
    generalize w.alloc (.cells #[.int .i64 y0, .int .u16 y1, .int .i64 y2, .int .i64 y3, .int .i64 y4, .int .i64 y5, .int .i64 y6, .int .u64 y7] 31) = W0 at *
    go_upto_region 5 with (go_at_call 9; refine (HL.out _).mono ?_; rintro e W1 ⟨rfl, b1⟩)
    replace K1 := K1.below b1 K1.lt
    replace BX := Base.thenB BX b1
    clear b1
    have K1' : Blk W1.drew (w.heap.size) 31 #[.int .i64 y0, .int .u16 y1, .int .i64 y2, .int .i64 y3, .int .i64 y4, .int .i64 y5, .int .i64 y6, .int .u64 y7] := Mem.Blk.drew K1
    refine wp_region_held_drew (S := (fun w' => Blk w' (w.heap.size) 31 #[.int .i64 y0, .int .u16 y1, .int .i64 y2, .int .i64 y3, .int .i64 y4, .int .i64 y5, .int .i64 y6, .int .u64 y7])) (by kernel_rfl) ?_ (fun hHeld => ?_)
    · exact K1'
    replace K1 := K1'
    clear K1'
    replace BX : Below w.heap.size w W1.drew := BX.drew
    generalize W1.drew = X0 at *
    refine wpAnyH_take (i := 0) (v := .slice A n c) rfl (by kernel_rfl) (by kernel_rfl) (by kernel_rfl) (fun _ _ _ h => h) (Or.inl ⟨by first | rfl | go_simp, by intro w9 hSw; (try dsimp only at hSw); go_simp⟩) (by assumption) ?_
    simp only [List.getElem_toArray, List.getElem_cons_zero, List.getElem_cons_succ, Act.put, List.setIfInBounds_toArray, List.set_cons_zero, List.set_cons_succ]
    refine wpAnyH_take (i := 2) (v := .int .u16 ev) rfl (by kernel_rfl) (by kernel_rfl) (by kernel_rfl) (fun _ _ _ h => h) (Or.inl ⟨by first | rfl | go_simp, by intro w9 hSw; (try dsimp only at hSw); go_simp⟩) (by assumption) ?_
    simp only [List.getElem_toArray, List.getElem_cons_zero, List.getElem_cons_succ, Act.put, List.setIfInBounds_toArray, List.set_cons_zero, List.set_cons_succ]
    refine wpAnyH_take (i := 3) (v := .agg #[.int .i64 y0, .int .u16 y1, .int .i64 y2, .int .i64 y3, .int .i64 y4, .int .i64 y5, .int .i64 y6, .int .u64 y7]) rfl (by kernel_rfl) (by kernel_rfl) (by kernel_rfl) (fun _ _ _ h => h) (Av.yields_part (by first | rfl | go_simp) _ _ rfl (w.heap.size) 0 rfl #[.int .i64 y0, .int .u16 y1, .int .i64 y2, .int .i64 y3, .int .i64 y4, .int .i64 y5, .int .i64 y6, .int .u64 y7] _ 31 #[.int .i64 y0, .int .u16 y1, .int .i64 y2, .int .i64 y3, .int .i64 y4, .int .i64 y5, .int .i64 y6, .int .u64 y7] (fun w9 hSw => hSw) rfl Try.underlying31 rfl (by kernel_rfl)) (by assumption) ?_
    simp only [List.getElem_toArray, List.getElem_cons_zero, List.getElem_cons_succ, Act.put, List.setIfInBounds_toArray, List.set_cons_zero, List.set_cons_succ]
    refine wpAnyH_ready (rs := [1]) (by kernel_rfl) (by simp) ?_
    refine AllReadyH.cons rfl (fun K hK => ?_) (AllReadyH.nil)
    go_simp
    refine (HCo.out X0 BX).mono ?_
    intro e X1 h9
    obtain ⟨A1, c1, rfl, hc1, L1, b9⟩ := h9.len HLn.out
    clear h9
    replace K1 := K1.below b9 K1.lt
    replace BX := Base.thenB BX b9
    clear b9
    refine hK.out _ _ K1 (fun hHeld => ?_)
    clear hK K
    try simp only [List.getElem_toArray, List.getElem_cons_zero, List.getElem_cons_succ, Act.put, List.setIfInBounds_toArray, List.set_cons_zero, List.set_cons_succ]
    refine wpAnyH_ready (rs := [4]) (by kernel_rfl) (by simp) ?_
    refine AllReadyH.cons rfl (fun K hK => ?_) (AllReadyH.nil)
    go_simp
    refine (HAd.out A1 c1 X1 L1).mono ?_
    intro e X2 h9
    obtain ⟨A2, c2, rfl, hc2, L2, b9⟩ := h9.len HK.out
    clear h9
    replace K1 := K1.below b9 K1.lt
    replace BX := Base.thenB BX b9
    clear b9
    refine hK.out _ _ K1 (fun hHeld => ?_)
    clear hK K
    try simp only [List.getElem_toArray, List.getElem_cons_zero, List.getElem_cons_succ, Act.put, List.setIfInBounds_toArray, List.set_cons_zero, List.set_cons_succ]
    refine wpAnyH_take (i := 5) (v := .tuple #[.slice A2 k c2, .int .i64 r]) rfl (by kernel_rfl) (by kernel_rfl) (by kernel_rfl) (fun _ _ _ h => h) (Or.inl ⟨by first | rfl | go_simp, by intro w9 hSw; (try dsimp only at hSw); go_simp⟩) (by assumption) ?_
    simp only [List.getElem_toArray, List.getElem_cons_zero, List.getElem_cons_succ, Act.put, List.setIfInBounds_toArray, List.set_cons_zero, List.set_cons_succ]
    refine wpAnyH_take (i := 6) (v := .slice A2 k c2) rfl (by kernel_rfl) (by kernel_rfl) (by kernel_rfl) (fun _ _ _ h => h) (Or.inl ⟨by first | rfl | go_simp, by intro w9 hSw; (try dsimp only at hSw); go_simp⟩) (by assumption) ?_
    simp only [List.getElem_toArray, List.getElem_cons_zero, List.getElem_cons_succ, Act.put, List.setIfInBounds_toArray, List.set_cons_zero, List.set_cons_succ]
    refine wpAnyH_take (i := 7) (v := .int .i64 r) rfl (by kernel_rfl) (by kernel_rfl) (by kernel_rfl) (fun _ _ _ h => h) (Or.inl ⟨by first | rfl | go_simp, by intro w9 hSw; (try dsimp only at hSw); go_simp⟩) (by assumption) ?_
    simp only [List.getElem_toArray, List.getElem_cons_zero, List.getElem_cons_succ, Act.put, List.setIfInBounds_toArray, List.set_cons_zero, List.set_cons_succ]
    refine wpAnyH_take (i := 8) (v := .slice A2 k c2) rfl (by kernel_rfl) (by kernel_rfl) (by kernel_rfl) (fun _ _ _ h => h) (Or.inl ⟨by first | rfl | go_simp, by intro w9 hSw; (try dsimp only at hSw); go_simp⟩) (by assumption) ?_
    simp only [List.getElem_toArray, List.getElem_cons_zero, List.getElem_cons_succ, Act.put, List.setIfInBounds_toArray, List.set_cons_zero, List.set_cons_succ]
    refine wpAnyH_take (i := 9) (v := .int .i64 r) rfl (by kernel_rfl) (by kernel_rfl) (by kernel_rfl) (fun _ _ _ h => h) (Or.inl ⟨by first | rfl | go_simp, by intro w9 hSw; (try dsimp only at hSw); go_simp⟩) (by assumption) ?_
    simp only [List.getElem_toArray, List.getElem_cons_zero, List.getElem_cons_succ, Act.put, List.setIfInBounds_toArray, List.set_cons_zero, List.set_cons_succ]
    refine wpAnyH_done (by kernel_rfl) ?_ _
    go_wp2_with (first | (go_at_call 16; refine (HRa.out X2 BX).mono ?_; intro e Y1 h9; obtain ⟨A3, c3, rfl, hc3, L3, b9⟩ := h9.len HK.out; replace L2 := CellsAt.later L2 b9; replace BX := Base.thenB BX b9; clear h9 b9 K1) | (go_at_call 17; refine (HSa.out A2 A3 c2 c3 Y1 L2 L3).mono ?_; rintro e Y2 ⟨rfl, b9⟩; replace BX := Base.thenB BX b9) | (refine wpList_load_row_w rfl 31 (.tmp 5) rfl w.heap.size rfl 31 _ (0, 0) _ K1 Try.underlying31 rfl (by kernel_rfl) ?_))
    go_ret
    exact ⟨rfl, BX⟩
set_option maxRecDepth 100000 in
set_option maxHeartbeats 8000000 in
theorem dues_any (A : Option Addr) (n c : Nat) (l : List Ch) (ev : Int) (w : World) (hl : l.length = n) (hn : n ≤ 2199023255550) (hr : ListAt encH w w.heap.size A l) (h0 : 0 ≤ ev ∧ ev ≤ 65535) (hx : ∀ x ∈ l, GoodI x) : Calls Try.prog 6 #[.slice A n c, .int .u16 ev] w fun e w' => e = .returned (.bool true) ∧ Below w.heap.size w w' := by
  have HL := Lib.hid lives_any
  have HLn := Lib.hid hl
  obtain ⟨l1, e1⟩ : ∃ l1, restR l ev = l1 := ⟨_, rfl⟩
  obtain ⟨l2, e2⟩ : ∃ l2, dueR l ev = l2 := ⟨_, rfl⟩
  obtain ⟨k1, hk1⟩ : ∃ k, l1.length = k := ⟨_, rfl⟩
  obtain ⟨k2, hk2⟩ : ∃ k, l2.length = k := ⟨_, rfl⟩
  have hb1 : k1 ≤ n := by have := rest_le l ev; rw [e1] at this; omega
  have hb2 : k2 ≤ n := by have := due_le l ev; rw [e2] at this; omega
  have HCo : Hid (∀ X, Below w.heap.size w X → Calls Try.prog 15 #[.slice A n c] X fun e w2 => Row X w2 e l) := Lib.hid fun X b => copied_any A n c l X hl (by omega) (CellsAt.later hr b)
  have HDu : Hid (∀ A1 c1 X, ListAt encH X X.heap.size A1 l → Calls Try.prog 18 #[.slice A1 n c1, .int .u16 ev] X fun e w2 => Duo X w2 e l1 l2) := Lib.hid fun A1 c1 X h => by rw [← e1, ← e2]; exact due_any A1 n c1 l ev X hl hn h h0 hx
  have HRd : Hid (∀ X, Below w.heap.size w X → Calls Try.prog 19 #[.slice A n c, .int .u16 ev] X fun e w2 => Duo X w2 e l1 l2) := Lib.hid fun X b => by rw [← e1, ← e2]; exact rdue_any A n c l ev X hl hn (CellsAt.later hr b) h0 hx
  have HS1 : Hid (∀ A2 A3 c2 c3 X, ListAt encH X X.heap.size A2 l1 → ListAt encH X X.heap.size A3 l1 → Calls Try.prog 17 #[.slice A2 k1 c2, .slice A3 k1 c3] X fun e w2 => e = .returned (.bool true) ∧ Below X.heap.size X w2) := Lib.hid fun A2 A3 c2 c3 X h h' => same_yes A2 A3 k1 c2 c3 l1 X hk1 (by omega) h h'
  have HS2 : Hid (∀ A2 A3 c2 c3 X, ListAt encH X X.heap.size A2 l2 → ListAt encH X X.heap.size A3 l2 → Calls Try.prog 17 #[.slice A2 k2 c2, .slice A3 k2 c3] X fun e w2 => e = .returned (.bool true) ∧ Below X.heap.size X w2) := Lib.hid fun A2 A3 c2 c3 X h h' => same_yes A2 A3 k2 c2 c3 l2 X hk2 (by omega) h h'
  have HK1 := Lib.hid hk1
  have HK2 := Lib.hid hk2
  clear hl hr e1 e2 hk1 hk2 h0 hx hb1 hb2
  have t1 : Hid (1 = 1) := Lib.hid rfl
  by_cases cl : (100 : Int) < (n : Int)
  · go_enter Try.func6, Try.ntmps6
    go_wp2_with (go_at_call 9; refine (HL.out _).mono ?_; rintro e X1 ⟨rfl, b1⟩)
    go_ret
    exact ⟨rfl, b1⟩
  · go_enter Try.func6, Try.ntmps6
    go_wp2_with (first | (go_at_call 9; refine (HL.out _).mono ?_; rintro e X1 ⟨rfl, b1⟩) | (go_at_call 15; refine (HCo.out X1 b1).mono ?_; intro e X2 h9; obtain ⟨A1, c1, rfl, hc1, L1, b9⟩ := h9.len HLn.out; have B2 := Base.thenB b1 b9; clear h9 b9) | (go_at_call 18; refine (HDu.out A1 c1 X2 L1).mono ?_; intro e X3 h9; obtain ⟨A2, A3, c2, c3, rfl, hc2, hc3, L2, L3, b9⟩ := h9; rw [HK1.out, HK2.out]; have B3 := Base.thenB B2 b9; clear b9) | (go_at_call 19; refine (HRd.out X3 B3).mono ?_; intro e X4 h9; obtain ⟨A4, A5, c4, c5, rfl, hc4, hc5, L4, L5, b9⟩ := h9; rw [HK1.out, HK2.out]; replace L2 := CellsAt.later L2 b9; replace L3 := CellsAt.later L3 b9; have B4 := Base.thenB B3 b9; clear b9) | (clear t1; go_at_call 17; refine (HS1.out A2 A4 c2 c4 X4 L2 L4).mono ?_; rintro e X5 ⟨rfl, b9⟩; replace L3 := CellsAt.later L3 b9; replace L5 := CellsAt.later L5 b9; have B5 := Base.thenB B4 b9; clear b9) | (go_at_call 17; refine (HS2.out A3 A5 c3 c5 X5 L3 L5).mono ?_; rintro e X6 ⟨rfl, b9⟩; have B6 := Base.thenB B5 b9))
    go_ret
    exact ⟨rfl, B6⟩
end Go.Proofs.Ytejojcanmlgegaa.Nst
