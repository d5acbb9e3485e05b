/- Data PDUs: the six statements hold: walks. -/
import Derived.Test.YtakfjemkgajehaaDpEx
import Derived.Test.YtakfjemkgajehaaDpArgs
set_option linter.unusedVariables false
set_option linter.unusedSimpArgs false
namespace Go.Proofs.Ytakfjemkgajehaa.Dp
open Go.RowKit Mem Oct Rw Av
open Base (thenB)

theorem decR_bytes {xs : List Int} (h : Bytes xs) : Bytes (decR xs).1.pk.2 := by
  by_cases e : formR xs = 0
  · rw [decR_ok e]; exact fun z hz => h z (List.mem_of_mem_drop hz)
  · rw [decR_no e]; exact fun z hz => absurd hz (by simp [zeroP])
/-- What Decode returned, read. -/
theorem decd_read {w w' : World} {e : Ending} {p : Pd} {x : Int} (h : Decd w w' e (p, x)) {m : Nat} (hm : p.pk.2.length = m) :
    ∃ A c, e = .returned (.tuple #[.agg #[.int .i64 p.sn, .int .i64 p.nesn, .int .i64 p.md, .int .i64 p.pk.1, .slice A m c], .int .i64 x]) ∧ m ≤ c ∧ Ints .u8 w' w'.heap.size A p.pk.2 ∧ Below w.heap.size w w' := by
  obtain ⟨V, rfl, own, b⟩ := h
  obtain ⟨A, c, rfl⟩ := own_form own
  subst hm
  exact ⟨A, c, rfl, own_cap own, Ints.own own, b⟩
set_option maxRecDepth 100000 in
set_option maxHeartbeats 4000000 in
theorem checks_any (q : Dm) (w : World) (g : GoodD w q) :
    Calls Try.prog 3 #[.agg #[.int .i64 q.sn, .int .i64 q.nesn, .int .i64 q.md, .int .i64 q.x.k, .slice q.x.A q.x.v.length q.x.c]] w fun e w' => e = .returned (.bool true) ∧ Below w.heap.size w w' := by
  obtain ⟨sn, nesn, md, k, A, c, xs⟩ := q
  obtain ⟨hb1, hb2, hb3, hbk, hnc, hcc, bx, hr⟩ := g
  simp only at hb1 hb2 hb3 hbk hnc hcc bx hr
  show Calls _ _ #[.agg #[.int .i64 sn, .int .i64 nesn, .int .i64 md, .int .i64 k, .slice A xs.length c]] _ _
  obtain ⟨n, hx⟩ : ∃ n, xs.length = n := ⟨_, rfl⟩
  rw [hx] at hnc ⊢
  have B0 : Below w.heap.size w (w.alloc (.cells #[.int .i64 sn, .int .i64 nesn, .int .i64 md, .int .i64 k, .slice A n c] 26)) := (Below.refl _ _).alloc (Nat.le_refl _) _
  have K1 : Blk (w.alloc (.cells #[.int .i64 sn, .int .i64 nesn, .int .i64 md, .int .i64 k, .slice A n c] 26)) (w.heap.size) 26 #[.int .i64 sn, .int .i64 nesn, .int .i64 md, .int .i64 k, .slice A n c] := Blk.fresh w 26 #[.int .i64 sn, .int .i64 nesn, .int .i64 md, .int .i64 k, .slice A n c]
  have HX := Lib.hid hx
  have HR := Lib.hid hr
  have HBx := Lib.hid bx
  by_cases hl : (1000 : Int) < (n : Int)
  · clear hr hx bx hb1 hb2 hb3 hbk hnc hcc
    go_enter Try.func3, Try.ntmps3
    go_wp2_with (go_at_call 13; refine (example_any _).mono ?_; rintro e w2 ⟨rfl, b2⟩)
    go_ret
    exact ⟨rfl, thenB B0 b2⟩
  · have HC := Lib.hid (check_any sn nesn md k A n c)
    have HRc := Lib.hid (rcheck_any sn nesn md k A n c)
    have HBl := Lib.hid (blank_to (k := k) (n := n) rfl A c)
    have HRb := Lib.hid (rblank_to (k := k) (n := n) rfl A c)
    have HEx := Lib.hid example_any
    generalize chkN sn nesn md k n = Z at *
    generalize blankB k n = Y at *
    have e1 : (Z == Z) = true := by simp
    have e2 : (Y == Y) = true := by simp
    clear hr hx bx hb1 hb2 hb3 hbk hnc hcc
    go_enter Try.func3, Try.ntmps3
    go_upto_region 3 with (fail)
    have BX := B0
    generalize w.alloc (.cells #[.int .i64 sn, .int .i64 nesn, .int .i64 md, .int .i64 k, .slice A n c] 26) = W0 at *
    have K1' : Blk W0.drew (w.heap.size) 26 #[.int .i64 sn, .int .i64 nesn, .int .i64 md, .int .i64 k, .slice A n c] := Mem.Blk.drew K1
    refine wp_region_held_drew (S := (fun w' => Blk w' (w.heap.size) 26 #[.int .i64 sn, .int .i64 nesn, .int .i64 md, .int .i64 k, .slice A n c])) (by kernel_rfl) ?_ (fun hHeld => ?_)
    · exact K1'
    replace K1 := K1'
    clear K1'
    replace BX : Below w.heap.size w W0.drew := BX.drew
    generalize W0.drew = X0 at *
    refine wpAnyH_take (i := 0) (v := .agg #[.int .i64 sn, .int .i64 nesn, .int .i64 md, .int .i64 k, .slice A n c]) rfl (by kernel_rfl) (by kernel_rfl) (by kernel_rfl) (fun _ _ _ h => h) (Av.yields_part (by first | rfl | go_simp) _ _ rfl (w.heap.size) 0 rfl #[.int .i64 sn, .int .i64 nesn, .int .i64 md, .int .i64 k, .slice A n c] _ 26 #[.int .i64 sn, .int .i64 nesn, .int .i64 md, .int .i64 k, .slice A n c] (fun w9 hSw => hSw) rfl Try.underlying26 rfl (by kernel_rfl)) (by assumption) ?_
    simp only [List.getElem_toArray, List.getElem_cons_zero, List.getElem_cons_succ, Act.put, List.setIfInBounds_toArray, List.set_cons_zero, List.set_cons_succ]
    refine wpAnyH_take (i := 2) (v := .agg #[.int .i64 sn, .int .i64 nesn, .int .i64 md, .int .i64 k, .slice A n c]) rfl (by kernel_rfl) (by kernel_rfl) (by kernel_rfl) (fun _ _ _ h => h) (Av.yields_part (by first | rfl | go_simp) _ _ rfl (w.heap.size) 0 rfl #[.int .i64 sn, .int .i64 nesn, .int .i64 md, .int .i64 k, .slice A n c] _ 26 #[.int .i64 sn, .int .i64 nesn, .int .i64 md, .int .i64 k, .slice A n c] (fun w9 hSw => hSw) rfl Try.underlying26 rfl (by kernel_rfl)) (by assumption) ?_
    simp only [List.getElem_toArray, List.getElem_cons_zero, List.getElem_cons_succ, Act.put, List.setIfInBounds_toArray, List.set_cons_zero, List.set_cons_succ]
    refine wpAnyH_ready (rs := [1]) (by kernel_rfl) (by simp) ?_
    refine AllReadyH.cons rfl (fun K hK => ?_) (AllReadyH.nil)
    go_simp
    refine (HC.out X0).mono ?_
    rintro e X1 ⟨rfl, b9⟩
    replace K1 := K1.below b9 K1.lt
    replace BX := Base.thenB BX b9
    clear b9
    refine hK.out _ _ K1 (fun hHeld => ?_)
    clear hK K
    try simp only [List.getElem_toArray, List.getElem_cons_zero, List.getElem_cons_succ, Act.put, List.setIfInBounds_toArray, List.set_cons_zero, List.set_cons_succ]
    refine wpAnyH_ready (rs := [3]) (by kernel_rfl) (by simp) ?_
    refine AllReadyH.cons rfl (fun K hK => ?_) (AllReadyH.nil)
    go_simp
    refine (HRc.out X1).mono ?_
    rintro e X2 ⟨rfl, b9⟩
    replace K1 := K1.below b9 K1.lt
    replace BX := Base.thenB BX b9
    clear b9
    refine hK.out _ _ K1 (fun hHeld => ?_)
    clear hK K
    try simp only [List.getElem_toArray, List.getElem_cons_zero, List.getElem_cons_succ, Act.put, List.setIfInBounds_toArray, List.set_cons_zero, List.set_cons_succ]
    refine wpAnyH_take (i := 4) (v := .bool true) rfl (by kernel_rfl) (by kernel_rfl) (by kernel_rfl) (fun _ _ _ h => h) (Or.inl ⟨by first | rfl | go_simp, by intro w9 hSw; (try dsimp only at hSw); go_simp⟩) (by assumption) ?_
    simp only [List.getElem_toArray, List.getElem_cons_zero, List.getElem_cons_succ, Act.put, List.setIfInBounds_toArray, List.set_cons_zero, List.set_cons_succ]
    refine wpAnyH_take (i := 5) (v := .bool true) rfl (by kernel_rfl) (by kernel_rfl) (by kernel_rfl) (fun _ _ _ h => h) (Or.inl ⟨by first | rfl | go_simp, by intro w9 hSw; (try dsimp only at hSw); go_simp⟩) (by assumption) ?_
    simp only [List.getElem_toArray, List.getElem_cons_zero, List.getElem_cons_succ, Act.put, List.setIfInBounds_toArray, List.set_cons_zero, List.set_cons_succ]
    refine wpAnyH_take (i := 6) (v := .pointer (some ⟨w.heap.size, 3, none⟩)) rfl (by kernel_rfl) (by kernel_rfl) (by kernel_rfl) (fun _ _ _ h => h) (Or.inl ⟨by first | rfl | go_simp, by intro w9 hSw; (try dsimp only at hSw); go_simp⟩) (by assumption) ?_
    simp only [List.getElem_toArray, List.getElem_cons_zero, List.getElem_cons_succ, Act.put, List.setIfInBounds_toArray, List.set_cons_zero, List.set_cons_succ]
    refine wpAnyH_take (i := 7) (v := .agg #[.int .i64 k, .slice A n c]) rfl (by kernel_rfl) (by kernel_rfl) (by kernel_rfl) (fun _ _ _ h => h) (Av.yields_part (by first | rfl | go_simp) _ _ rfl (w.heap.size) 3 rfl #[.int .i64 k, .slice A n c] _ 26 #[.int .i64 sn, .int .i64 nesn, .int .i64 md, .int .i64 k, .slice A n c] (fun w9 hSw => hSw) rfl Try.underlying24 rfl (by kernel_rfl)) (by assumption) ?_
    simp only [List.getElem_toArray, List.getElem_cons_zero, List.getElem_cons_succ, Act.put, List.setIfInBounds_toArray, List.set_cons_zero, List.set_cons_succ]
    refine wpAnyH_take (i := 9) (v := .pointer (some ⟨w.heap.size, 3, none⟩)) rfl (by kernel_rfl) (by kernel_rfl) (by kernel_rfl) (fun _ _ _ h => h) (Or.inl ⟨by first | rfl | go_simp, by intro w9 hSw; (try dsimp only at hSw); go_simp⟩) (by assumption) ?_
    simp only [List.getElem_toArray, List.getElem_cons_zero, List.getElem_cons_succ, Act.put, List.setIfInBounds_toArray, List.set_cons_zero, List.set_cons_succ]
    refine wpAnyH_take (i := 10) (v := .agg #[.int .i64 k, .slice A n c]) rfl (by kernel_rfl) (by kernel_rfl) (by kernel_rfl) (fun _ _ _ h => h) (Av.yields_part (by first | rfl | go_simp) _ _ rfl (w.heap.size) 3 rfl #[.int .i64 k, .slice A n c] _ 26 #[.int .i64 sn, .int .i64 nesn, .int .i64 md, .int .i64 k, .slice A n c] (fun w9 hSw => hSw) rfl Try.underlying24 rfl (by kernel_rfl)) (by assumption) ?_
    simp only [List.getElem_toArray, List.getElem_cons_zero, List.getElem_cons_succ, Act.put, List.setIfInBounds_toArray, List.set_cons_zero, List.set_cons_succ]
    refine wpAnyH_ready (rs := [8]) (by kernel_rfl) (by simp) ?_
    refine AllReadyH.cons rfl (fun K hK => ?_) (AllReadyH.nil)
    go_simp
    refine (HBl.out X2).mono ?_
    rintro e X3 ⟨rfl, b9⟩
    replace K1 := K1.below b9 K1.lt
    replace BX := Base.thenB BX b9
    clear b9
    refine hK.out _ _ K1 (fun hHeld => ?_)
    clear hK K
    try simp only [List.getElem_toArray, List.getElem_cons_zero, List.getElem_cons_succ, Act.put, List.setIfInBounds_toArray, List.set_cons_zero, List.set_cons_succ]
    refine wpAnyH_ready (rs := [11]) (by kernel_rfl) (by simp) ?_
    refine AllReadyH.cons rfl (fun K hK => ?_) (AllReadyH.nil)
    go_simp
    refine (HRb.out X3).mono ?_
    rintro e X4 ⟨rfl, b9⟩
    replace K1 := K1.below b9 K1.lt
    replace BX := Base.thenB BX b9
    clear b9
    refine hK.out _ _ K1 (fun hHeld => ?_)
    clear hK K
    try simp only [List.getElem_toArray, List.getElem_cons_zero, List.getElem_cons_succ, Act.put, List.setIfInBounds_toArray, List.set_cons_zero, List.set_cons_succ]
    refine wpAnyH_take (i := 12) (v := .bool true) rfl (by kernel_rfl) (by kernel_rfl) (by kernel_rfl) (fun _ _ _ h => h) (Or.inl ⟨by first | rfl | go_simp, by intro w9 hSw; (try dsimp only at hSw); go_simp⟩) (by assumption) ?_
    simp only [List.getElem_toArray, List.getElem_cons_zero, List.getElem_cons_succ, Act.put, List.setIfInBounds_toArray, List.set_cons_zero, List.set_cons_succ]
    refine wpAnyH_take (i := 13) (v := .bool true) rfl (by kernel_rfl) (by kernel_rfl) (by kernel_rfl) (fun _ _ _ h => h) (Or.inl ⟨by first | rfl | go_simp, by intro w9 hSw; (try dsimp only at hSw); go_simp⟩) (by assumption) ?_
    simp only [List.getElem_toArray, List.getElem_cons_zero, List.getElem_cons_succ, Act.put, List.setIfInBounds_toArray, List.set_cons_zero, List.set_cons_succ]
    refine wpAnyH_take (i := 14) (v := .bool true) rfl (by kernel_rfl) (by kernel_rfl) (by kernel_rfl) (fun _ _ _ h => h) (Or.inl ⟨by first | rfl | go_simp, by intro w9 hSw; (try dsimp only at hSw); go_simp⟩) (by assumption) ?_
    simp only [List.getElem_toArray, List.getElem_cons_zero, List.getElem_cons_succ, Act.put, List.setIfInBounds_toArray, List.set_cons_zero, List.set_cons_succ]
    refine wpAnyH_ready (rs := [15]) (by kernel_rfl) (by simp) ?_
    refine AllReadyH.cons rfl (fun K hK => ?_) (AllReadyH.nil)
    go_simp
    refine (HEx.out X4).mono ?_
    rintro e X5 ⟨rfl, b9⟩
    replace K1 := K1.below b9 K1.lt
    replace BX := Base.thenB BX b9
    clear b9
    refine hK.out _ _ K1 (fun hHeld => ?_)
    clear hK K
    try simp only [List.getElem_toArray, List.getElem_cons_zero, List.getElem_cons_succ, Act.put, List.setIfInBounds_toArray, List.set_cons_zero, List.set_cons_succ]
    refine wpAnyH_take (i := 16) (v := .bool true) rfl (by kernel_rfl) (by kernel_rfl) (by kernel_rfl) (fun _ _ _ h => h) (Or.inl ⟨by first | rfl | go_simp, by intro w9 hSw; (try dsimp only at hSw); go_simp⟩) (by assumption) ?_
    simp only [List.getElem_toArray, List.getElem_cons_zero, List.getElem_cons_succ, Act.put, List.setIfInBounds_toArray, List.set_cons_zero, List.set_cons_succ]
    refine wpAnyH_take (i := 17) (v := .bool true) rfl (by kernel_rfl) (by kernel_rfl) (by kernel_rfl) (fun _ _ _ h => h) (Or.inl ⟨by first | rfl | go_simp, by intro w9 hSw; (try dsimp only at hSw); go_simp⟩) (by assumption) ?_
    simp only [List.getElem_toArray, List.getElem_cons_zero, List.getElem_cons_succ, Act.put, List.setIfInBounds_toArray, List.set_cons_zero, List.set_cons_succ]
    refine wpAnyH_done (by kernel_rfl) ?_ _
    go_wp2_with fail
    go_ret
    exact ⟨rfl, BX⟩
set_option maxRecDepth 100000 in
set_option maxHeartbeats 4000000 in
theorem encodes_any (q : Dm) (w : World) (g : GoodD w q) :
    Calls Try.prog 4 #[.agg #[.int .i64 q.sn, .int .i64 q.nesn, .int .i64 q.md, .int .i64 q.x.k, .slice q.x.A q.x.v.length q.x.c]] w fun e w' => e = .returned (.bool true) ∧ Below w.heap.size w w' := by
  obtain ⟨sn, nesn, md, k, A, c, xs⟩ := q
  obtain ⟨hb1, hb2, hb3, hbk, hnc, hcc, bx, hr⟩ := g
  simp only at hb1 hb2 hb3 hbk hnc hcc bx hr
  show Calls _ _ #[.agg #[.int .i64 sn, .int .i64 nesn, .int .i64 md, .int .i64 k, .slice A xs.length c]] _ _
  obtain ⟨n, hx⟩ : ∃ n, xs.length = n := ⟨_, rfl⟩
  rw [hx] at hnc ⊢
  have B0 : Below w.heap.size w (w.alloc (.cells #[.int .i64 sn, .int .i64 nesn, .int .i64 md, .int .i64 k, .slice A n c] 26)) := (Below.refl _ _).alloc (Nat.le_refl _) _
  have K1 : Blk (w.alloc (.cells #[.int .i64 sn, .int .i64 nesn, .int .i64 md, .int .i64 k, .slice A n c] 26)) (w.heap.size) 26 #[.int .i64 sn, .int .i64 nesn, .int .i64 md, .int .i64 k, .slice A n c] := Blk.fresh w 26 #[.int .i64 sn, .int .i64 nesn, .int .i64 md, .int .i64 k, .slice A n c]
  have HX := Lib.hid hx
  have HR := Lib.hid hr
  have HBx := Lib.hid bx
  by_cases hl : (1000 : Int) < (n : Int)
  · clear hr hx bx hb1 hb2 hb3 hbk hnc hcc
    go_enter Try.func4, Try.ntmps4
    go_wp2_with (go_at_call 13; refine (example_any _).mono ?_; rintro e w2 ⟨rfl, b2⟩)
    go_ret
    exact ⟨rfl, thenB B0 b2⟩
  · have HE : Hid (∀ X, Below w.heap.size w X → Calls Try.prog 18 #[.agg #[.int .i64 sn, .int .i64 nesn, .int .i64 md, .int .i64 k, .slice A n c]] X fun e w' => Gives X w' e (encR ⟨sn, nesn, md, (k, xs)⟩)) := Lib.hid fun X b => encode_any sn nesn md k A n c xs X HX.out (Base.later HR.out b)
    have HF : Hid (∀ X, Below w.heap.size w X → Calls Try.prog 19 #[.agg #[.int .i64 sn, .int .i64 nesn, .int .i64 md, .int .i64 k, .slice A n c]] X fun e w' => Gives X w' e (encR ⟨sn, nesn, md, (k, xs)⟩)) := Lib.hid fun X b => rencode_any sn nesn md k A n c xs X HX.out (Base.later HR.out b)
    have HBy : Hid (Bytes (encR ⟨sn, nesn, md, (k, xs)⟩).1) := Lib.hid (by
      by_cases h : chk ⟨sn, nesn, md, (k, xs)⟩ = 0
      · rw [encR_ok h]; exact enc_bytes h HBx.out
      · rw [encR_no h]; exact fun z hz => absurd hz (by simp))
    obtain ⟨⟨L, E⟩, hp⟩ : ∃ p, encR ⟨sn, nesn, md, (k, xs)⟩ = p := ⟨_, rfl⟩
    rw [hp] at HE HF HBy
    clear hp
    obtain ⟨m, hm⟩ : ∃ m, L.length = m := ⟨_, rfl⟩
    have HM := Lib.hid hm
    have e1 : (E == E) = true := by simp
    clear hr hx bx hb1 hb2 hb3 hbk hnc hcc hm
    go_enter Try.func4, Try.ntmps4
    go_upto_region 4 with (go_at_call 18; refine (HE.out _ B0).mono ?_; intro e w1 m1; obtain ⟨A1, c1, rfl, own1, b1⟩ := Gives.len m1 HM.out)
    have BX := thenB B0 b1
    have K1 := K1.below b1 K1.lt
    have k0 := K1.cell 0
    have k1 := K1.cell 1
    have k2 := K1.cell 2
    have k3 := K1.cell 3
    have k4 := K1.cell 4
    have I1 : Ints .u8 w1 w1.heap.size A1 L := Ints.own own1
    go_upto_region 5 with (go_at_call 19; refine (HF.out _ BX).mono ?_; intro e w2 m2; obtain ⟨A2, c2, rfl, own2, b2⟩ := Gives.len m2 HM.out)
    have BX := thenB BX b2
    have I1 := Base.later I1 b2
    have I2 : Ints .u8 w2 w2.heap.size A2 L := Ints.own own2
    go_wp2_with (first | (go_at_call 20; refine (same23_to (b := true) (xs := L) (ys := L) (by simp) HM.out HM.out HBy.out HBy.out I1 I2).mono ?_; rintro e X' ⟨rfl, rfl⟩) | (go_at_call 13; refine (example_any _).mono ?_; rintro e w9 ⟨rfl, b9⟩))
    go_ret
    exact ⟨rfl, thenB BX b9⟩
set_option maxRecDepth 100000 in
set_option maxHeartbeats 4000000 in
theorem decodes_any (A : Option Addr) (n c : Nat) (xs : List Int) (w : World) (hx : xs.length = n) (hnc : n ≤ c) (hr : Ints .u8 w w.heap.size A xs) (bx : Bytes xs) (hcs : c * 1 ≤ 140737488351232) :
    Calls Try.prog 5 #[.slice A n c] w fun e w' => e = .returned (.bool true) ∧ Below w.heap.size w w' := by
  have HX := Lib.hid hx
  have HR := Lib.hid hr
  have HBx := Lib.hid bx
  have hN : n ≤ 140737488351232 := by omega
  by_cases hl : (1000 : Int) < (n : Int)
  · clear hr hx bx hnc hcs hN
    go_enter Try.func5, Try.ntmps5
    go_wp2_with (go_at_call 13; refine (example_any _).mono ?_; rintro e w2 ⟨rfl, b2⟩)
    go_ret
    exact ⟨rfl, b2⟩
  · have HE : Hid (∀ X, Below w.heap.size w X → Calls Try.prog 21 #[.slice A n c] X fun e w' => Decd X w' e (decR xs)) := Lib.hid fun X b => decode_any A n c xs X HX.out hN hnc HBx.out (Base.later HR.out b)
    have HF : Hid (∀ X, Below w.heap.size w X → Calls Try.prog 22 #[.slice A n c] X fun e w' => Decd X w' e (decR xs)) := Lib.hid fun X b => rdecode_any A n c xs X HX.out hN hnc HBx.out (Base.later HR.out b)
    have HBy := Lib.hid (decR_bytes bx)
    obtain ⟨⟨⟨a1, a2, a3, a4, L⟩, E⟩, hp⟩ : ∃ p, decR xs = p := ⟨_, rfl⟩
    rw [hp] at HE HF HBy
    clear hp
    obtain ⟨m, hm⟩ : ∃ m, L.length = m := ⟨_, rfl⟩
    have HM := Lib.hid hm
    have e1 : (E == E) = true := by simp
    clear hr hx bx hnc hcs hm
    go_enter Try.func5, Try.ntmps5
    go_upto_region 4 with (go_at_call 21; refine (HE.out _ (Below.refl _ _)).mono ?_; intro e w1 m1; obtain ⟨A1, c1, rfl, hc1, I1, b1⟩ := decd_read m1 HM.out)
    try simp only at I1
    have BX := b1.alloc b1.size (.cells #[.int .i64 a1, .int .i64 a2, .int .i64 a3, .int .i64 a4, .slice A1 m c1] 26)
    have I1 := Base.kept I1 (.cells #[.int .i64 a1, .int .i64 a2, .int .i64 a3, .int .i64 a4, .slice A1 m c1] 26)
    have K1 := Blk.fresh w1 26 #[.int .i64 a1, .int .i64 a2, .int .i64 a3, .int .i64 a4, .slice A1 m c1]
    obtain ⟨g1, hg1⟩ : ∃ g, w1.heap.size = g := ⟨_, rfl⟩
    rw [hg1] at K1
    try simp only [hg1]
    generalize w1.alloc (.cells #[.int .i64 a1, .int .i64 a2, .int .i64 a3, .int .i64 a4, .slice A1 m c1] 26) = W1 at *
    clear hg1
    go_upto_region 5 with (go_at_call 22; refine (HF.out _ BX).mono ?_; intro e w2 m2; obtain ⟨A2, c2, rfl, hc2, I2, b2⟩ := decd_read m2 HM.out)
    try simp only at I2
    have BX := (thenB BX b2).alloc (thenB BX b2).size (.cells #[.int .i64 a1, .int .i64 a2, .int .i64 a3, .int .i64 a4, .slice A2 m c2] 26)
    have I1 := Base.kept (Base.later I1 b2) (.cells #[.int .i64 a1, .int .i64 a2, .int .i64 a3, .int .i64 a4, .slice A2 m c2] 26)
    have I2 := Base.kept I2 (.cells #[.int .i64 a1, .int .i64 a2, .int .i64 a3, .int .i64 a4, .slice A2 m c2] 26)
    have K1 := (K1.below b2 K1.lt).alloc (.cells #[.int .i64 a1, .int .i64 a2, .int .i64 a3, .int .i64 a4, .slice A2 m c2] 26)
    have k0 := K1.cell 0
    have k1 := K1.cell 1
    have k2 := K1.cell 2
    have k3 := K1.cell 3
    have k4 := K1.cell 4
    go_wp2_with (first | (go_at_call 23; refine (samepd_yes a1 a2 a3 a4 A1 A2 m c1 c2 L _ HM.out HBy.out I1 I2).mono ?_; rintro e w8 ⟨rfl, b8⟩) | (go_at_call 13; refine (example_any _).mono ?_; rintro e w9 ⟨rfl, b9⟩))
    go_ret
    exact ⟨rfl, thenB (thenB BX b8) b9⟩
set_option maxRecDepth 100000 in
set_option maxHeartbeats 4000000 in
theorem unique_any (A : Option Addr) (n c : Nat) (xs : List Int) (w : World) (hx : xs.length = n) (hnc : n ≤ c) (hr : Ints .u8 w w.heap.size A xs) (bx : Bytes xs) (hcs : c * 1 ≤ 140737488351232) :
    Calls Try.prog 7 #[.slice A n c] w fun e w' => e = .returned (.bool true) ∧ Below w.heap.size w w' := by
  have HX := Lib.hid hx
  have HR := Lib.hid hr
  have HBx := Lib.hid bx
  have hN : n ≤ 140737488351232 := by omega
  by_cases hl : (1000 : Int) < (n : Int)
  · clear hr hx bx hnc hcs hN
    go_enter Try.func7, Try.ntmps7
    go_wp2_with (go_at_call 13; refine (example_any _).mono ?_; rintro e w2 ⟨rfl, b2⟩)
    go_ret
    exact ⟨rfl, b2⟩
  · have HE : Hid (∀ X, Below w.heap.size w X → Calls Try.prog 21 #[.slice A n c] X fun e w' => Decd X w' e (decR xs)) := Lib.hid fun X b => decode_any A n c xs X HX.out hN hnc HBx.out (Base.later HR.out b)
    by_cases hf : formR xs = 0
    · have HU := Lib.hid (enc_dec bx hf)
      have HBy := Lib.hid (decR_bytes bx)
      have HD := Lib.hid (decR_ok hf)
      obtain ⟨⟨⟨a1, a2, a3, a4, L⟩, E⟩, hp⟩ : ∃ p, decR xs = p := ⟨_, rfl⟩
      rw [hp] at HU HBy HE
      try simp only at HBy HU
      obtain rfl : E = 0 := by rw [HD.out] at hp; injection hp with _ h; exact h.symm
      obtain ⟨m, hm⟩ : ∃ m, L.length = m := ⟨_, rfl⟩
      have HM := Lib.hid hm
      have HF : Hid (∀ X (A1 : Option Addr) (c1 : Nat), Ints .u8 X X.heap.size A1 L → Calls Try.prog 18 #[.agg #[.int .i64 a1, .int .i64 a2, .int .i64 a3, .int .i64 a4, .slice A1 m c1]] X fun e w' => Gives X w' e (xs, 0)) := Lib.hid fun X A1 c1 h => by
        have := encode_any a1 a2 a3 a4 A1 m c1 L X HM.out h
        rwa [encR_ok HU.out.1, HU.out.2] at this
      clear hr hx bx hnc hcs hm hf hp HD HU
      go_enter Try.func7, Try.ntmps7
      go_upto_region 4 with (go_at_call 21; refine (HE.out _ (Below.refl _ _)).mono ?_; intro e w1 m1; obtain ⟨A1, c1, rfl, hc1, I1, b1⟩ := decd_read m1 HM.out)
      try simp only at I1
      have BX := b1.alloc b1.size (.cells #[.int .i64 a1, .int .i64 a2, .int .i64 a3, .int .i64 a4, .slice A1 m c1] 26)
      have I1 := Base.kept I1 (.cells #[.int .i64 a1, .int .i64 a2, .int .i64 a3, .int .i64 a4, .slice A1 m c1] 26)
      go_upto_region 7 with (go_at_call 18; refine (HF.out _ A1 c1 I1).mono ?_; intro e w2 m2; obtain ⟨A2, c2, rfl, own2, b2⟩ := Gives.len m2 HX.out)
      have BX := thenB BX b2
      have I2 : Ints .u8 w2 w2.heap.size A2 xs := Ints.own own2
      have I0 := Base.later HR.out BX
      go_wp2_with (first | (go_at_call 20; refine (same23_to (b := true) (xs := xs) (ys := xs) (by simp) HX.out HX.out HBx.out HBx.out I0 I2).mono ?_; rintro e X' ⟨rfl, rfl⟩) | (go_at_call 13; refine (example_any _).mono ?_; rintro e w9 ⟨rfl, b9⟩))
      go_ret
      exact ⟨rfl, thenB BX b9⟩
    · rw [decR_no hf] at HE
      have g0 : (formR xs != 0) = true := by simpa using hf
      generalize formR xs = R at *
      clear hr hx bx hnc hcs hf
      go_enter Try.func7, Try.ntmps7
      go_upto_region 4 with (go_at_call 21; refine (HE.out _ (Below.refl _ _)).mono ?_; intro e w1 m1; obtain ⟨A1, c1, rfl, hc1, I1, b1⟩ := decd_read m1 (m := 0) rfl)
      simp only [zeroP]
      have BX := b1.alloc b1.size (.cells #[.int .i64 0, .int .i64 0, .int .i64 0, .int .i64 0, .slice A1 0 c1] 26)
      go_wp2_with (first | (go_at_call 23; refine (samepd_yes 0 0 0 0 A1 none 0 c1 0 [] _ rfl (fun z hz => absurd hz (by simp)) (.inl rfl) (.inl rfl)).mono ?_; rintro e w8 ⟨rfl, b8⟩) | (go_at_call 13; refine (example_any _).mono ?_; rintro e w9 ⟨rfl, b9⟩))
      go_ret
      exact ⟨rfl, thenB (thenB BX b8) b9⟩
end Go.Proofs.Ytakfjemkgajehaa.Dp
