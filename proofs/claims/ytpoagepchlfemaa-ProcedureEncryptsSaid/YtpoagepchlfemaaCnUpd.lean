/- Whether an update is valid: the layer's function and the document's. -/
import Derived.Test.YtpoagepchlfemaaCnOr
set_option linter.unusedVariables false
set_option linter.unusedSimpArgs false
namespace Go.Proofs.Ytpoagepchlfemaa.Cn
open Go.RowKit Mem Clk

/-- Conditions in memory; errors in memory. -/
def BoolsAt (w : World) (g : Nat) (bs : List Bool) : Prop := Blk w g 4 (bs.map Value.bool).toArray
def ErrsAt (w : World) (g : Nat) (xs : List Int) : Prop := Blk w g 53 (xs.map (Value.int .i64)).toArray
theorem BoolsAt.cells {w : World} {g : Nat} {bs : List Bool} (h : BoolsAt w g bs) (j : Nat) (b : Bool) (hj : bs[j]? = some b) : w.cell? ⟨g, j, none⟩ = some (.bool b) := by
  rw [Blk.cell h j]; simp [hj]
theorem ErrsAt.cells {w : World} {g : Nat} {xs : List Int} (h : ErrsAt w g xs) (j : Nat) (x : Int) (hj : xs[j]? = some x) : w.cell? ⟨g, j, none⟩ = some (.int .i64 x) := by
  rw [Blk.cell h j]; simp [hj]
theorem BoolsAt.more {w w' : World} {g : Nat} {bs : List Bool} (h : BoolsAt w g bs) (b : Below w.heap.size w w') : BoolsAt w' g bs := Blk.below h b (Blk.lt h)
theorem ErrsAt.more {w w' : World} {g : Nat} {xs : List Int} (h : ErrsAt w g xs) (b : Below w.heap.size w w') : ErrsAt w' g xs := Blk.below h b (Blk.lt h)
theorem unless_at {w : World} {g : Nat} (bs : List Bool) (n : Nat) (h : BoolsAt w g bs) (x : Int) (hn : bs.length = n) (hl : n ≤ 1000) :
    Calls Try.prog 101 #[.int .i64 x, .slice (some ⟨g, 0, none⟩) n n] w fun e w' => e = .returned (.int .i64 (unl x bs)) ∧ w = w' := unless_any x g n bs w hn hl h.cells
theorem or_at {w : World} {g : Nat} (xs : List Int) (n : Nat) (h : ErrsAt w g xs) (hn : xs.length = n) (hl : n ≤ 1000) :
    Calls Try.prog 100 #[.slice (some ⟨g, 0, none⟩) n n] w fun e w' => e = .returned (.int .i64 (fst0 xs)) ∧ w = w' := or_any g n xs w hn hl h.cells
theorem upd_eq (a0 a1 a2 a3 a4 b0 b1 b2 b3 b4 : Int) (w : World) : (binOp .eql 46 (.agg #[.int .i64 a0, .int .i64 a1, .int .i64 a2, .int .i64 a3, .int .i64 a4]) (.agg #[.int .i64 b0, .int .i64 b1, .int .i64 b2, .int .i64 b3, .int .i64 b4])).run Try.prog w = .ok (.bool (decide (a0 = b0 ∧ a1 = b1 ∧ a2 = b2 ∧ a3 = b3 ∧ a4 = b4))) w := by
  go_simp
  by_cases h0 : a0 = b0
  · by_cases h1 : a1 = b1
    · by_cases h2 : a2 = b2
      · by_cases h3 : a3 = b3
        · by_cases h4 : a4 = b4 <;> simp [h0, h1, h2, h3, h4]
        · simp [h0, h1, h2, h3]
      · simp [h0, h1, h2]
    · simp [h0, h1]
  · simp [h0]
theorem upd_guard (a0 a1 a2 a3 a4 b0 b1 b2 b3 b4 : Int) (w : World) (x y : Operand) : (eqGuard .eql 46 x y (.agg #[.int .i64 a0, .int .i64 a1, .int .i64 a2, .int .i64 a3, .int .i64 a4]) (.agg #[.int .i64 b0, .int .i64 b1, .int .i64 b2, .int .i64 b3, .int .i64 b4])).run Try.prog w = .ok () w := by
  go_simp
abbrev Rng (s o i l t : Int) : Prop := 1 ≤ s ∧ s ≤ 8 ∧ 0 ≤ o ∧ o ≤ 3200 ∧ 6 ≤ i ∧ i ≤ 3200 ∧ 0 ≤ l ∧ l ≤ 499 ∧ 10 ≤ t ∧ t ≤ 3200
theorem lim_all (s o i l t : Int) : (s = lim s 1 8 ∧ o = lim o 0 3200 ∧ i = lim i 6 3200 ∧ l = lim l 0 499 ∧ t = lim t 10 3200) ↔ Rng s o i l t := by
  have h1 := lim_eq (n := s) (lo := 1) (hi := 8) (by decide)
  have h2 := lim_eq (n := o) (lo := 0) (hi := 3200) (by decide)
  have h3 := lim_eq (n := i) (lo := 6) (hi := 3200) (by decide)
  have h4 := lim_eq (n := l) (lo := 0) (hi := 499) (by decide)
  have h5 := lim_eq (n := t) (lo := 10) (hi := 3200) (by decide)
  rw [h1, h2, h3, h4, h5]
  unfold Rng
  simp only [and_assoc]
/-- What the layer computes is the error of the update. -/
theorem okU_code {s o i l t m1 m2 m3 m4 m5 : Int} (w1 : IntKind.i64.wrap (t * 10000) = m1) (w2 : IntKind.i64.wrap (l + 1) = m2) (w3 : IntKind.i64.wrap (2 * m2) = m3) (w4 : IntKind.i64.wrap (m3 * i) = m4) (w5 : IntKind.i64.wrap (m4 * 1250) = m5) :
    fst0 [unl 5 [decide (s = lim s 1 8 ∧ o = lim o 0 3200 ∧ i = lim i 6 3200 ∧ l = lim l 0 499 ∧ t = lim t 10 3200)], unl 11 [decide (s < i), decide (o ≤ i), decide (m5 < m1)]] = okU s o i l t := by
  have hL := lim_all s o i l t
  by_cases h : Rng s o i l t
  · rw [decide_eq_true (hL.mpr h)]
    obtain ⟨a1, a2, a3, a4, a5, a6, a7, a8, a9, a10⟩ := h
    have hp := prod_in (l := l) (i := i) (t := t) ⟨a7, a8⟩ ⟨a5, a6⟩
    rw [i64_in _ (by omega)] at w1 w2
    subst w2
    rw [i64_in _ (by omega)] at w3
    subst w3
    rw [i64_in _ (by omega)] at w4
    subst w4
    rw [i64_in _ (by omega)] at w5
    subst w1 w5
    unfold okU
    rw [if_pos ⟨a1, a2, a3, a4, a5, a6, a7, a8, a9, a10⟩]
    by_cases c : s < i ∧ o ≤ i ∧ 2 * (l + 1) * i * 1250 < t * 10000
    · rw [if_pos c]
      simp [fst0, unl, c.1, c.2.1, c.2.2]
    · rw [if_neg c]
      have : unl 11 [decide (s < i), decide (o ≤ i), decide (2 * (l + 1) * i * 1250 < t * 10000)] = 11 := by
        unfold unl
        rw [if_neg]
        simpa using c
      rw [this]
      simp [fst0, unl]
  · rw [decide_eq_false (fun k => h (hL.mp k))]
    unfold okU
    rw [if_neg h]
    simp [fst0, unl]
set_option maxRecDepth 100000 in
set_option maxHeartbeats 4000000 in
theorem checkUpdate_any (s o i l t : Int) (w : World) :
    Calls Try.prog 91 #[upd s o i l t] w fun e w' => e = .returned (.int .i64 (okU s o i l t)) ∧ Below w.heap.size w w' := by
  have F0 : Mem.Blk (w.alloc (updC s o i l t)) w.heap.size 46 _ := Blk.fresh w _ _
  have hbel : Below w.heap.size w (w.alloc (updC s o i l t)) := (Below.refl _ w).alloc (Nat.le_refl _) _
  have HLm := Lib.hid (climited_any s o i l t)
  obtain ⟨m1, w1⟩ : ∃ m, IntKind.i64.wrap (t * 10000) = m := ⟨_, rfl⟩
  obtain ⟨m2, w2⟩ : ∃ m, IntKind.i64.wrap (l + 1) = m := ⟨_, rfl⟩
  obtain ⟨m3, w3⟩ : ∃ m, IntKind.i64.wrap (2 * m2) = m := ⟨_, rfl⟩
  obtain ⟨m4, w4⟩ : ∃ m, IntKind.i64.wrap (m3 * i) = m := ⟨_, rfl⟩
  obtain ⟨m5, w5⟩ : ∃ m, IntKind.i64.wrap (m4 * 1250) = m := ⟨_, rfl⟩
  have HR := Lib.hid (okU_code (s := s) (o := o) w1 w2 w3 w4 w5)
  obtain ⟨V, hV⟩ : ∃ V, Value.agg #[.int .i64 (lim s 1 8), .int .i64 (lim o 0 3200), .int .i64 (lim i 6 3200), .int .i64 (lim l 0 499), .int .i64 (lim t 10 3200)] = V := ⟨_, rfl⟩
  have q1 : ∀ w, (binOp .eql 46 (.agg #[.int .i64 s, .int .i64 o, .int .i64 i, .int .i64 l, .int .i64 t]) V).run Try.prog w = .ok (.bool (decide (s = lim s 1 8 ∧ o = lim o 0 3200 ∧ i = lim i 6 3200 ∧ l = lim l 0 499 ∧ t = lim t 10 3200))) w := fun w => by rw [← hV]; exact upd_eq _ _ _ _ _ _ _ _ _ _ w
  have q2 : ∀ w x y, (eqGuard .eql 46 x y (.agg #[.int .i64 s, .int .i64 o, .int .i64 i, .int .i64 l, .int .i64 t]) V).run Try.prog w = .ok () w := fun w x y => by rw [← hV]; exact upd_guard _ _ _ _ _ _ _ _ _ _ w x y
  rw [hV] at HLm
  clear hV
  generalize decide (s = lim s 1 8 ∧ o = lim o 0 3200 ∧ i = lim i 6 3200 ∧ l = lim l 0 499 ∧ t = lim t 10 3200) = D at *
  generalize okU s o i l t = R at *
  go_enter Try.func91, Try.ntmps91
  go_wp2_with fail
  generalize w.alloc (updC s o i l t) = W at *
  refine wp_region_held_drew (S := (fun w' => Five w' w.heap.size s o i l t)) (by kernel_rfl) ?_ (fun hHeld => ?_)
  · exact five_of F0.drew
  have T := five_of F0.drew
  have BX := hbel.drew
  clear F0 hbel
  generalize W.drew = X0 at *
  refine wpAnyH_take (i := 0) (v := .agg #[.int .i64 s, .int .i64 o, .int .i64 i, .int .i64 l, .int .i64 t]) rfl (by kernel_rfl) (by kernel_rfl) (by kernel_rfl) (fun _ _ _ h => h) (Or.inl ⟨by first | rfl | go_simp, by intro w9 hSw; (try dsimp only at hSw); go_simp⟩) (by assumption) ?_
  simp only [List.getElem_toArray, List.getElem_cons_zero, List.getElem_cons_succ, Act.put, List.setIfInBounds_toArray, List.set_cons_zero, List.set_cons_succ]
  refine wpAnyH_take (i := 1) (v := .agg #[.int .i64 s, .int .i64 o, .int .i64 i, .int .i64 l, .int .i64 t]) rfl (by kernel_rfl) (by kernel_rfl) (by kernel_rfl) (fun _ _ _ h => h) (Or.inl ⟨by first | rfl | go_simp, by intro w9 hSw; (try dsimp only at hSw); go_simp⟩) (by assumption) ?_
  simp only [List.getElem_toArray, List.getElem_cons_zero, List.getElem_cons_succ, Act.put, List.setIfInBounds_toArray, List.set_cons_zero, List.set_cons_succ]
  refine wpAnyH_take (i := 6) (v := .pointer (some ⟨w.heap.size, 0, none⟩)) rfl (by kernel_rfl) (by kernel_rfl) (by kernel_rfl) (fun _ _ _ h => h) (Or.inl ⟨by first | rfl | go_simp, by intro w9 hSw; (try dsimp only at hSw); go_simp⟩) (by assumption) ?_
  simp only [List.getElem_toArray, List.getElem_cons_zero, List.getElem_cons_succ, Act.put, List.setIfInBounds_toArray, List.set_cons_zero, List.set_cons_succ]
  refine wpAnyH_take (i := 7) (v := .int .i64 s) rfl (by kernel_rfl) (by kernel_rfl) (by kernel_rfl) (fun _ _ _ h => h) (Or.inl ⟨by first | rfl | go_simp, by intro w9 hSw; (try dsimp only at hSw); go_simp⟩) (by assumption) ?_
  simp only [List.getElem_toArray, List.getElem_cons_zero, List.getElem_cons_succ, Act.put, List.setIfInBounds_toArray, List.set_cons_zero, List.set_cons_succ]
  refine wpAnyH_take (i := 8) (v := .pointer (some ⟨w.heap.size, 2, none⟩)) rfl (by kernel_rfl) (by kernel_rfl) (by kernel_rfl) (fun _ _ _ h => h) (Or.inl ⟨by first | rfl | go_simp, by intro w9 hSw; (try dsimp only at hSw); go_simp⟩) (by assumption) ?_
  simp only [List.getElem_toArray, List.getElem_cons_zero, List.getElem_cons_succ, Act.put, List.setIfInBounds_toArray, List.set_cons_zero, List.set_cons_succ]
  refine wpAnyH_take (i := 9) (v := .int .i64 i) rfl (by kernel_rfl) (by kernel_rfl) (by kernel_rfl) (fun _ _ _ h => h) (Or.inl ⟨by first | rfl | go_simp, by intro w9 hSw; (try dsimp only at hSw); go_simp⟩) (by assumption) ?_
  simp only [List.getElem_toArray, List.getElem_cons_zero, List.getElem_cons_succ, Act.put, List.setIfInBounds_toArray, List.set_cons_zero, List.set_cons_succ]
  refine wpAnyH_take (i := 10) (v := .bool (decide (s < i))) rfl (by kernel_rfl) (by kernel_rfl) (by kernel_rfl) (fun _ _ _ h => h) (Or.inl ⟨by first | rfl | go_simp, by intro w9 hSw; (try dsimp only at hSw); go_simp⟩) (by assumption) ?_
  simp only [List.getElem_toArray, List.getElem_cons_zero, List.getElem_cons_succ, Act.put, List.setIfInBounds_toArray, List.set_cons_zero, List.set_cons_succ]
  refine wpAnyH_take (i := 11) (v := .pointer (some ⟨w.heap.size, 1, none⟩)) rfl (by kernel_rfl) (by kernel_rfl) (by kernel_rfl) (fun _ _ _ h => h) (Or.inl ⟨by first | rfl | go_simp, by intro w9 hSw; (try dsimp only at hSw); go_simp⟩) (by assumption) ?_
  simp only [List.getElem_toArray, List.getElem_cons_zero, List.getElem_cons_succ, Act.put, List.setIfInBounds_toArray, List.set_cons_zero, List.set_cons_succ]
  refine wpAnyH_take (i := 12) (v := .int .i64 o) rfl (by kernel_rfl) (by kernel_rfl) (by kernel_rfl) (fun _ _ _ h => h) (Or.inl ⟨by first | rfl | go_simp, by intro w9 hSw; (try dsimp only at hSw); go_simp⟩) (by assumption) ?_
  simp only [List.getElem_toArray, List.getElem_cons_zero, List.getElem_cons_succ, Act.put, List.setIfInBounds_toArray, List.set_cons_zero, List.set_cons_succ]
  refine wpAnyH_take (i := 13) (v := .pointer (some ⟨w.heap.size, 2, none⟩)) rfl (by kernel_rfl) (by kernel_rfl) (by kernel_rfl) (fun _ _ _ h => h) (Or.inl ⟨by first | rfl | go_simp, by intro w9 hSw; (try dsimp only at hSw); go_simp⟩) (by assumption) ?_
  simp only [List.getElem_toArray, List.getElem_cons_zero, List.getElem_cons_succ, Act.put, List.setIfInBounds_toArray, List.set_cons_zero, List.set_cons_succ]
  refine wpAnyH_take (i := 14) (v := .int .i64 i) rfl (by kernel_rfl) (by kernel_rfl) (by kernel_rfl) (fun _ _ _ h => h) (Or.inl ⟨by first | rfl | go_simp, by intro w9 hSw; (try dsimp only at hSw); go_simp⟩) (by assumption) ?_
  simp only [List.getElem_toArray, List.getElem_cons_zero, List.getElem_cons_succ, Act.put, List.setIfInBounds_toArray, List.set_cons_zero, List.set_cons_succ]
  refine wpAnyH_take (i := 15) (v := .bool (decide (o ≤ i))) rfl (by kernel_rfl) (by kernel_rfl) (by kernel_rfl) (fun _ _ _ h => h) (Or.inl ⟨by first | rfl | go_simp, by intro w9 hSw; (try dsimp only at hSw); go_simp⟩) (by assumption) ?_
  simp only [List.getElem_toArray, List.getElem_cons_zero, List.getElem_cons_succ, Act.put, List.setIfInBounds_toArray, List.set_cons_zero, List.set_cons_succ]
  refine wpAnyH_take (i := 16) (v := .pointer (some ⟨w.heap.size, 4, none⟩)) rfl (by kernel_rfl) (by kernel_rfl) (by kernel_rfl) (fun _ _ _ h => h) (Or.inl ⟨by first | rfl | go_simp, by intro w9 hSw; (try dsimp only at hSw); go_simp⟩) (by assumption) ?_
  simp only [List.getElem_toArray, List.getElem_cons_zero, List.getElem_cons_succ, Act.put, List.setIfInBounds_toArray, List.set_cons_zero, List.set_cons_succ]
  refine wpAnyH_take (i := 17) (v := .int .i64 t) rfl (by kernel_rfl) (by kernel_rfl) (by kernel_rfl) (fun _ _ _ h => h) (Or.inl ⟨by first | rfl | go_simp, by intro w9 hSw; (try dsimp only at hSw); go_simp⟩) (by assumption) ?_
  simp only [List.getElem_toArray, List.getElem_cons_zero, List.getElem_cons_succ, Act.put, List.setIfInBounds_toArray, List.set_cons_zero, List.set_cons_succ]
  refine wpAnyH_take (i := 18) (v := .int .i64 m1) rfl (by kernel_rfl) (by kernel_rfl) (by kernel_rfl) (fun _ _ _ h => h) (Or.inl ⟨by first | rfl | go_simp, by intro w9 hSw; (try dsimp only at hSw); go_simp⟩) (by assumption) ?_
  simp only [List.getElem_toArray, List.getElem_cons_zero, List.getElem_cons_succ, Act.put, List.setIfInBounds_toArray, List.set_cons_zero, List.set_cons_succ]
  refine wpAnyH_take (i := 19) (v := .pointer (some ⟨w.heap.size, 3, none⟩)) rfl (by kernel_rfl) (by kernel_rfl) (by kernel_rfl) (fun _ _ _ h => h) (Or.inl ⟨by first | rfl | go_simp, by intro w9 hSw; (try dsimp only at hSw); go_simp⟩) (by assumption) ?_
  simp only [List.getElem_toArray, List.getElem_cons_zero, List.getElem_cons_succ, Act.put, List.setIfInBounds_toArray, List.set_cons_zero, List.set_cons_succ]
  refine wpAnyH_take (i := 20) (v := .int .i64 l) rfl (by kernel_rfl) (by kernel_rfl) (by kernel_rfl) (fun _ _ _ h => h) (Or.inl ⟨by first | rfl | go_simp, by intro w9 hSw; (try dsimp only at hSw); go_simp⟩) (by assumption) ?_
  simp only [List.getElem_toArray, List.getElem_cons_zero, List.getElem_cons_succ, Act.put, List.setIfInBounds_toArray, List.set_cons_zero, List.set_cons_succ]
  refine wpAnyH_take (i := 21) (v := .int .i64 m2) rfl (by kernel_rfl) (by kernel_rfl) (by kernel_rfl) (fun _ _ _ h => h) (Or.inl ⟨by first | rfl | go_simp, by intro w9 hSw; (try dsimp only at hSw); go_simp⟩) (by assumption) ?_
  simp only [List.getElem_toArray, List.getElem_cons_zero, List.getElem_cons_succ, Act.put, List.setIfInBounds_toArray, List.set_cons_zero, List.set_cons_succ]
  refine wpAnyH_take (i := 22) (v := .int .i64 m3) rfl (by kernel_rfl) (by kernel_rfl) (by kernel_rfl) (fun _ _ _ h => h) (Or.inl ⟨by first | rfl | go_simp, by intro w9 hSw; (try dsimp only at hSw); go_simp⟩) (by assumption) ?_
  simp only [List.getElem_toArray, List.getElem_cons_zero, List.getElem_cons_succ, Act.put, List.setIfInBounds_toArray, List.set_cons_zero, List.set_cons_succ]
  refine wpAnyH_take (i := 23) (v := .pointer (some ⟨w.heap.size, 2, none⟩)) rfl (by kernel_rfl) (by kernel_rfl) (by kernel_rfl) (fun _ _ _ h => h) (Or.inl ⟨by first | rfl | go_simp, by intro w9 hSw; (try dsimp only at hSw); go_simp⟩) (by assumption) ?_
  simp only [List.getElem_toArray, List.getElem_cons_zero, List.getElem_cons_succ, Act.put, List.setIfInBounds_toArray, List.set_cons_zero, List.set_cons_succ]
  refine wpAnyH_take (i := 24) (v := .int .i64 i) rfl (by kernel_rfl) (by kernel_rfl) (by kernel_rfl) (fun _ _ _ h => h) (Or.inl ⟨by first | rfl | go_simp, by intro w9 hSw; (try dsimp only at hSw); go_simp⟩) (by assumption) ?_
  simp only [List.getElem_toArray, List.getElem_cons_zero, List.getElem_cons_succ, Act.put, List.setIfInBounds_toArray, List.set_cons_zero, List.set_cons_succ]
  refine wpAnyH_take (i := 25) (v := .int .i64 m4) rfl (by kernel_rfl) (by kernel_rfl) (by kernel_rfl) (fun _ _ _ h => h) (Or.inl ⟨by first | rfl | go_simp, by intro w9 hSw; (try dsimp only at hSw); go_simp⟩) (by assumption) ?_
  simp only [List.getElem_toArray, List.getElem_cons_zero, List.getElem_cons_succ, Act.put, List.setIfInBounds_toArray, List.set_cons_zero, List.set_cons_succ]
  refine wpAnyH_take (i := 26) (v := .int .i64 m5) rfl (by kernel_rfl) (by kernel_rfl) (by kernel_rfl) (fun _ _ _ h => h) (Or.inl ⟨by first | rfl | go_simp, by intro w9 hSw; (try dsimp only at hSw); go_simp⟩) (by assumption) ?_
  simp only [List.getElem_toArray, List.getElem_cons_zero, List.getElem_cons_succ, Act.put, List.setIfInBounds_toArray, List.set_cons_zero, List.set_cons_succ]
  refine wpAnyH_take (i := 27) (v := .bool (decide (m5 < m1))) rfl (by kernel_rfl) (by kernel_rfl) (by kernel_rfl) (fun _ _ _ h => h) (Or.inl ⟨by first | rfl | go_simp, by intro w9 hSw; (try dsimp only at hSw); go_simp⟩) (by assumption) ?_
  simp only [List.getElem_toArray, List.getElem_cons_zero, List.getElem_cons_succ, Act.put, List.setIfInBounds_toArray, List.set_cons_zero, List.set_cons_succ]
  refine wpAnyH_ready (rs := [2, 28]) (by kernel_rfl) (by simp) ?_
  refine AllReadyH.cons rfl (fun K hK => ?_) (AllReadyH.cons rfl (fun K hK => ?_) (AllReadyH.nil))
  · skip
    go_simp
    refine (HLm.out _).mono ?_
    rintro e X1 ⟨rfl, b9⟩
    have T := five_below T b9
    have BX := thenB BX b9
    refine hK.out _ _ T (fun hHeld => ?_)
    clear hK K
    try simp only [List.getElem_toArray, List.getElem_cons_zero, List.getElem_cons_succ, Act.put, List.setIfInBounds_toArray, List.set_cons_zero, List.set_cons_succ]
    refine wpAnyH_take (i := 3) (v := .bool D) rfl (by kernel_rfl) (by kernel_rfl) (by kernel_rfl) (fun _ _ _ h => h) (Or.inl ⟨by first | rfl | go_simp, by intro w9 hSw; (try dsimp only at hSw); go_simp⟩) (by assumption) ?_
    simp only [List.getElem_toArray, List.getElem_cons_zero, List.getElem_cons_succ, Act.put, List.setIfInBounds_toArray, List.set_cons_zero, List.set_cons_succ]
    refine wpAnyH_ready (rs := [4, 28]) (by kernel_rfl) (by simp) ?_
    refine AllReadyH.cons rfl (fun K hK => ?_) (AllReadyH.cons rfl (fun K hK => ?_) (AllReadyH.nil))
    · skip
      go_simp
      have b9 := (Below.refl _ X1).alloc (Nat.le_refl _) (.cells #[.bool D] 4)
      have P7 : BoolsAt (X1.alloc (.cells #[.bool D] 4)) X1.heap.size [D] := Blk.fresh X1 _ _
      generalize X1.alloc (.cells #[.bool D] 4) = X2 at *
      have T := five_below T b9
      have BX := thenB BX b9
      refine hK.out _ _ T (fun hHeld => ?_)
      clear hK K
      try simp only [List.getElem_toArray, List.getElem_cons_zero, List.getElem_cons_succ, Act.put, List.setIfInBounds_toArray, List.set_cons_zero, List.set_cons_succ]
      refine wpAnyH_ready (rs := [5, 28]) (by kernel_rfl) (by simp) ?_
      refine AllReadyH.cons rfl (fun K hK => ?_) (AllReadyH.cons rfl (fun K hK => ?_) (AllReadyH.nil))
      · skip
        go_simp
        refine (unless_at [D] 1 P7 5 rfl (by decide)).mono ?_
        rintro e w9 ⟨rfl, rfl⟩
        refine hK.out _ _ T (fun hHeld => ?_)
        clear hK K
        try simp only [List.getElem_toArray, List.getElem_cons_zero, List.getElem_cons_succ, Act.put, List.setIfInBounds_toArray, List.set_cons_zero, List.set_cons_succ]
        refine wpAnyH_ready (rs := [28]) (by kernel_rfl) (by simp) ?_
        refine AllReadyH.cons rfl (fun K hK => ?_) (AllReadyH.nil)
        go_simp
        have b9 := (Below.refl _ X2).alloc (Nat.le_refl _) (.cells #[.bool (decide (s < i)), .bool (decide (o ≤ i)), .bool (decide (m5 < m1))] 4)
        have P31 : BoolsAt (X2.alloc (.cells #[.bool (decide (s < i)), .bool (decide (o ≤ i)), .bool (decide (m5 < m1))] 4)) X2.heap.size [decide (s < i), decide (o ≤ i), decide (m5 < m1)] := Blk.fresh X2 _ _
        generalize X2.alloc (.cells #[.bool (decide (s < i)), .bool (decide (o ≤ i)), .bool (decide (m5 < m1))] 4) = X4 at *
        have T := five_below T b9
        have BX := thenB BX b9
        have P7 := P7.more b9
        refine hK.out _ _ T (fun hHeld => ?_)
        clear hK K
        try simp only [List.getElem_toArray, List.getElem_cons_zero, List.getElem_cons_succ, Act.put, List.setIfInBounds_toArray, List.set_cons_zero, List.set_cons_succ]
        refine wpAnyH_ready (rs := [29]) (by kernel_rfl) (by simp) ?_
        refine AllReadyH.cons rfl (fun K hK => ?_) (AllReadyH.nil)
        go_simp
        refine (unless_at [decide (s < i), decide (o ≤ i), decide (m5 < m1)] 3 P31 11 rfl (by decide)).mono ?_
        rintro e w9 ⟨rfl, rfl⟩
        refine hK.out _ _ T (fun hHeld => ?_)
        clear hK K
        try simp only [List.getElem_toArray, List.getElem_cons_zero, List.getElem_cons_succ, Act.put, List.setIfInBounds_toArray, List.set_cons_zero, List.set_cons_succ]
        refine wpAnyH_ready (rs := [30]) (by kernel_rfl) (by simp) ?_
        refine AllReadyH.cons rfl (fun K hK => ?_) (AllReadyH.nil)
        go_simp
        have b9 := (Below.refl _ X4).alloc (Nat.le_refl _) (.cells #[.int .i64 (unl 5 [D]), .int .i64 (unl 11 [decide (s < i), decide (o ≤ i), decide (m5 < m1)])] 53)
        have P33 : ErrsAt (X4.alloc (.cells #[.int .i64 (unl 5 [D]), .int .i64 (unl 11 [decide (s < i), decide (o ≤ i), decide (m5 < m1)])] 53)) X4.heap.size [unl 5 [D], unl 11 [decide (s < i), decide (o ≤ i), decide (m5 < m1)]] := Blk.fresh X4 _ _
        generalize X4.alloc (.cells #[.int .i64 (unl 5 [D]), .int .i64 (unl 11 [decide (s < i), decide (o ≤ i), decide (m5 < m1)])] 53) = X6 at *
        have T := five_below T b9
        have BX := thenB BX b9
        have P7 := P7.more b9
        have P31 := P31.more b9
        refine hK.out _ _ T (fun hHeld => ?_)
        clear hK K
        try simp only [List.getElem_toArray, List.getElem_cons_zero, List.getElem_cons_succ, Act.put, List.setIfInBounds_toArray, List.set_cons_zero, List.set_cons_succ]
        refine wpAnyH_ready (rs := [31]) (by kernel_rfl) (by simp) ?_
        refine AllReadyH.cons rfl (fun K hK => ?_) (AllReadyH.nil)
        go_simp
        refine (or_at [unl 5 [D], unl 11 [decide (s < i), decide (o ≤ i), decide (m5 < m1)]] 2 P33 rfl (by decide)).mono ?_
        rintro e w9 ⟨rfl, rfl⟩
        refine hK.out _ _ T (fun hHeld => ?_)
        clear hK K
        try simp only [List.getElem_toArray, List.getElem_cons_zero, List.getElem_cons_succ, Act.put, List.setIfInBounds_toArray, List.set_cons_zero, List.set_cons_succ]
        refine wpAnyH_take (i := 32) (v := .int .i64 (fst0 [unl 5 [D], unl 11 [decide (s < i), decide (o ≤ i), decide (m5 < m1)]])) rfl (by kernel_rfl) (by kernel_rfl) (by kernel_rfl) (fun _ _ _ h => h) (Or.inl ⟨by first | rfl | go_simp, by intro w9 hSw; (try dsimp only at hSw); go_simp⟩) (by assumption) ?_
        simp only [List.getElem_toArray, List.getElem_cons_zero, List.getElem_cons_succ, Act.put, List.setIfInBounds_toArray, List.set_cons_zero, List.set_cons_succ]
        refine wpAnyH_done (by kernel_rfl) ?_ _
        go_wp2_with fail
        go_ret
        exact ⟨by rw [HR.out]; rfl, BX⟩
      · skip
        go_simp
        have b9 := (Below.refl _ X2).alloc (Nat.le_refl _) (.cells #[.bool (decide (s < i)), .bool (decide (o ≤ i)), .bool (decide (m5 < m1))] 4)
        have P31 : BoolsAt (X2.alloc (.cells #[.bool (decide (s < i)), .bool (decide (o ≤ i)), .bool (decide (m5 < m1))] 4)) X2.heap.size [decide (s < i), decide (o ≤ i), decide (m5 < m1)] := Blk.fresh X2 _ _
        generalize X2.alloc (.cells #[.bool (decide (s < i)), .bool (decide (o ≤ i)), .bool (decide (m5 < m1))] 4) = X8 at *
        have T := five_below T b9
        have BX := thenB BX b9
        have P7 := P7.more b9
        refine hK.out _ _ T (fun hHeld => ?_)
        clear hK K
        try simp only [List.getElem_toArray, List.getElem_cons_zero, List.getElem_cons_succ, Act.put, List.setIfInBounds_toArray, List.set_cons_zero, List.set_cons_succ]
        refine wpAnyH_ready (rs := [5]) (by kernel_rfl) (by simp) ?_
        refine AllReadyH.cons rfl (fun K hK => ?_) (AllReadyH.nil)
        go_simp
        refine (unless_at [D] 1 P7 5 rfl (by decide)).mono ?_
        rintro e w9 ⟨rfl, rfl⟩
        refine hK.out _ _ T (fun hHeld => ?_)
        clear hK K
        try simp only [List.getElem_toArray, List.getElem_cons_zero, List.getElem_cons_succ, Act.put, List.setIfInBounds_toArray, List.set_cons_zero, List.set_cons_succ]
        refine wpAnyH_ready (rs := [29]) (by kernel_rfl) (by simp) ?_
        refine AllReadyH.cons rfl (fun K hK => ?_) (AllReadyH.nil)
        go_simp
        refine (unless_at [decide (s < i), decide (o ≤ i), decide (m5 < m1)] 3 P31 11 rfl (by decide)).mono ?_
        rintro e w9 ⟨rfl, rfl⟩
        refine hK.out _ _ T (fun hHeld => ?_)
        clear hK K
        try simp only [List.getElem_toArray, List.getElem_cons_zero, List.getElem_cons_succ, Act.put, List.setIfInBounds_toArray, List.set_cons_zero, List.set_cons_succ]
        refine wpAnyH_ready (rs := [30]) (by kernel_rfl) (by simp) ?_
        refine AllReadyH.cons rfl (fun K hK => ?_) (AllReadyH.nil)
        go_simp
        have b9 := (Below.refl _ X8).alloc (Nat.le_refl _) (.cells #[.int .i64 (unl 5 [D]), .int .i64 (unl 11 [decide (s < i), decide (o ≤ i), decide (m5 < m1)])] 53)
        have P33 : ErrsAt (X8.alloc (.cells #[.int .i64 (unl 5 [D]), .int .i64 (unl 11 [decide (s < i), decide (o ≤ i), decide (m5 < m1)])] 53)) X8.heap.size [unl 5 [D], unl 11 [decide (s < i), decide (o ≤ i), decide (m5 < m1)]] := Blk.fresh X8 _ _
        generalize X8.alloc (.cells #[.int .i64 (unl 5 [D]), .int .i64 (unl 11 [decide (s < i), decide (o ≤ i), decide (m5 < m1)])] 53) = X11 at *
        have T := five_below T b9
        have BX := thenB BX b9
        have P7 := P7.more b9
        have P31 := P31.more b9
        refine hK.out _ _ T (fun hHeld => ?_)
        clear hK K
        try simp only [List.getElem_toArray, List.getElem_cons_zero, List.getElem_cons_succ, Act.put, List.setIfInBounds_toArray, List.set_cons_zero, List.set_cons_succ]
        refine wpAnyH_ready (rs := [31]) (by kernel_rfl) (by simp) ?_
        refine AllReadyH.cons rfl (fun K hK => ?_) (AllReadyH.nil)
        go_simp
        refine (or_at [unl 5 [D], unl 11 [decide (s < i), decide (o ≤ i), decide (m5 < m1)]] 2 P33 rfl (by decide)).mono ?_
        rintro e w9 ⟨rfl, rfl⟩
        refine hK.out _ _ T (fun hHeld => ?_)
        clear hK K
        try simp only [List.getElem_toArray, List.getElem_cons_zero, List.getElem_cons_succ, Act.put, List.setIfInBounds_toArray, List.set_cons_zero, List.set_cons_succ]
        refine wpAnyH_take (i := 32) (v := .int .i64 (fst0 [unl 5 [D], unl 11 [decide (s < i), decide (o ≤ i), decide (m5 < m1)]])) rfl (by kernel_rfl) (by kernel_rfl) (by kernel_rfl) (fun _ _ _ h => h) (Or.inl ⟨by first | rfl | go_simp, by intro w9 hSw; (try dsimp only at hSw); go_simp⟩) (by assumption) ?_
        simp only [List.getElem_toArray, List.getElem_cons_zero, List.getElem_cons_succ, Act.put, List.setIfInBounds_toArray, List.set_cons_zero, List.set_cons_succ]
        refine wpAnyH_done (by kernel_rfl) ?_ _
        go_wp2_with fail
        go_ret
        exact ⟨by rw [HR.out]; rfl, BX⟩
    · skip
      go_simp
      have b9 := (Below.refl _ X1).alloc (Nat.le_refl _) (.cells #[.bool (decide (s < i)), .bool (decide (o ≤ i)), .bool (decide (m5 < m1))] 4)
      have P31 : BoolsAt (X1.alloc (.cells #[.bool (decide (s < i)), .bool (decide (o ≤ i)), .bool (decide (m5 < m1))] 4)) X1.heap.size [decide (s < i), decide (o ≤ i), decide (m5 < m1)] := Blk.fresh X1 _ _
      generalize X1.alloc (.cells #[.bool (decide (s < i)), .bool (decide (o ≤ i)), .bool (decide (m5 < m1))] 4) = X13 at *
      have T := five_below T b9
      have BX := thenB BX b9
      refine hK.out _ _ T (fun hHeld => ?_)
      clear hK K
      try simp only [List.getElem_toArray, List.getElem_cons_zero, List.getElem_cons_succ, Act.put, List.setIfInBounds_toArray, List.set_cons_zero, List.set_cons_succ]
      refine wpAnyH_ready (rs := [4]) (by kernel_rfl) (by simp) ?_
      refine AllReadyH.cons rfl (fun K hK => ?_) (AllReadyH.nil)
      go_simp
      have b9 := (Below.refl _ X13).alloc (Nat.le_refl _) (.cells #[.bool D] 4)
      have P7 : BoolsAt (X13.alloc (.cells #[.bool D] 4)) X13.heap.size [D] := Blk.fresh X13 _ _
      generalize X13.alloc (.cells #[.bool D] 4) = X14 at *
      have T := five_below T b9
      have BX := thenB BX b9
      have P31 := P31.more b9
      refine hK.out _ _ T (fun hHeld => ?_)
      clear hK K
      try simp only [List.getElem_toArray, List.getElem_cons_zero, List.getElem_cons_succ, Act.put, List.setIfInBounds_toArray, List.set_cons_zero, List.set_cons_succ]
      refine wpAnyH_ready (rs := [5]) (by kernel_rfl) (by simp) ?_
      refine AllReadyH.cons rfl (fun K hK => ?_) (AllReadyH.nil)
      go_simp
      refine (unless_at [D] 1 P7 5 rfl (by decide)).mono ?_
      rintro e w9 ⟨rfl, rfl⟩
      refine hK.out _ _ T (fun hHeld => ?_)
      clear hK K
      try simp only [List.getElem_toArray, List.getElem_cons_zero, List.getElem_cons_succ, Act.put, List.setIfInBounds_toArray, List.set_cons_zero, List.set_cons_succ]
      refine wpAnyH_ready (rs := [29]) (by kernel_rfl) (by simp) ?_
      refine AllReadyH.cons rfl (fun K hK => ?_) (AllReadyH.nil)
      go_simp
      refine (unless_at [decide (s < i), decide (o ≤ i), decide (m5 < m1)] 3 P31 11 rfl (by decide)).mono ?_
      rintro e w9 ⟨rfl, rfl⟩
      refine hK.out _ _ T (fun hHeld => ?_)
      clear hK K
      try simp only [List.getElem_toArray, List.getElem_cons_zero, List.getElem_cons_succ, Act.put, List.setIfInBounds_toArray, List.set_cons_zero, List.set_cons_succ]
      refine wpAnyH_ready (rs := [30]) (by kernel_rfl) (by simp) ?_
      refine AllReadyH.cons rfl (fun K hK => ?_) (AllReadyH.nil)
      go_simp
      have b9 := (Below.refl _ X14).alloc (Nat.le_refl _) (.cells #[.int .i64 (unl 5 [D]), .int .i64 (unl 11 [decide (s < i), decide (o ≤ i), decide (m5 < m1)])] 53)
      have P33 : ErrsAt (X14.alloc (.cells #[.int .i64 (unl 5 [D]), .int .i64 (unl 11 [decide (s < i), decide (o ≤ i), decide (m5 < m1)])] 53)) X14.heap.size [unl 5 [D], unl 11 [decide (s < i), decide (o ≤ i), decide (m5 < m1)]] := Blk.fresh X14 _ _
      generalize X14.alloc (.cells #[.int .i64 (unl 5 [D]), .int .i64 (unl 11 [decide (s < i), decide (o ≤ i), decide (m5 < m1)])] 53) = X17 at *
      have T := five_below T b9
      have BX := thenB BX b9
      have P31 := P31.more b9
      have P7 := P7.more b9
      refine hK.out _ _ T (fun hHeld => ?_)
      clear hK K
      try simp only [List.getElem_toArray, List.getElem_cons_zero, List.getElem_cons_succ, Act.put, List.setIfInBounds_toArray, List.set_cons_zero, List.set_cons_succ]
      refine wpAnyH_ready (rs := [31]) (by kernel_rfl) (by simp) ?_
      refine AllReadyH.cons rfl (fun K hK => ?_) (AllReadyH.nil)
      go_simp
      refine (or_at [unl 5 [D], unl 11 [decide (s < i), decide (o ≤ i), decide (m5 < m1)]] 2 P33 rfl (by decide)).mono ?_
      rintro e w9 ⟨rfl, rfl⟩
      refine hK.out _ _ T (fun hHeld => ?_)
      clear hK K
      try simp only [List.getElem_toArray, List.getElem_cons_zero, List.getElem_cons_succ, Act.put, List.setIfInBounds_toArray, List.set_cons_zero, List.set_cons_succ]
      refine wpAnyH_take (i := 32) (v := .int .i64 (fst0 [unl 5 [D], unl 11 [decide (s < i), decide (o ≤ i), decide (m5 < m1)]])) rfl (by kernel_rfl) (by kernel_rfl) (by kernel_rfl) (fun _ _ _ h => h) (Or.inl ⟨by first | rfl | go_simp, by intro w9 hSw; (try dsimp only at hSw); go_simp⟩) (by assumption) ?_
      simp only [List.getElem_toArray, List.getElem_cons_zero, List.getElem_cons_succ, Act.put, List.setIfInBounds_toArray, List.set_cons_zero, List.set_cons_succ]
      refine wpAnyH_done (by kernel_rfl) ?_ _
      go_wp2_with fail
      go_ret
      exact ⟨by rw [HR.out]; rfl, BX⟩
  · skip
    go_simp
    have b9 := (Below.refl _ X0).alloc (Nat.le_refl _) (.cells #[.bool (decide (s < i)), .bool (decide (o ≤ i)), .bool (decide (m5 < m1))] 4)
    have P31 : BoolsAt (X0.alloc (.cells #[.bool (decide (s < i)), .bool (decide (o ≤ i)), .bool (decide (m5 < m1))] 4)) X0.heap.size [decide (s < i), decide (o ≤ i), decide (m5 < m1)] := Blk.fresh X0 _ _
    generalize X0.alloc (.cells #[.bool (decide (s < i)), .bool (decide (o ≤ i)), .bool (decide (m5 < m1))] 4) = X19 at *
    have T := five_below T b9
    have BX := thenB BX b9
    refine hK.out _ _ T (fun hHeld => ?_)
    clear hK K
    try simp only [List.getElem_toArray, List.getElem_cons_zero, List.getElem_cons_succ, Act.put, List.setIfInBounds_toArray, List.set_cons_zero, List.set_cons_succ]
    refine wpAnyH_ready (rs := [2]) (by kernel_rfl) (by simp) ?_
    refine AllReadyH.cons rfl (fun K hK => ?_) (AllReadyH.nil)
    go_simp
    refine (HLm.out _).mono ?_
    rintro e X20 ⟨rfl, b9⟩
    have T := five_below T b9
    have BX := thenB BX b9
    have P31 := P31.more b9
    refine hK.out _ _ T (fun hHeld => ?_)
    clear hK K
    try simp only [List.getElem_toArray, List.getElem_cons_zero, List.getElem_cons_succ, Act.put, List.setIfInBounds_toArray, List.set_cons_zero, List.set_cons_succ]
    refine wpAnyH_take (i := 3) (v := .bool D) rfl (by kernel_rfl) (by kernel_rfl) (by kernel_rfl) (fun _ _ _ h => h) (Or.inl ⟨by first | rfl | go_simp, by intro w9 hSw; (try dsimp only at hSw); go_simp⟩) (by assumption) ?_
    simp only [List.getElem_toArray, List.getElem_cons_zero, List.getElem_cons_succ, Act.put, List.setIfInBounds_toArray, List.set_cons_zero, List.set_cons_succ]
    refine wpAnyH_ready (rs := [4]) (by kernel_rfl) (by simp) ?_
    refine AllReadyH.cons rfl (fun K hK => ?_) (AllReadyH.nil)
    go_simp
    have b9 := (Below.refl _ X20).alloc (Nat.le_refl _) (.cells #[.bool D] 4)
    have P7 : BoolsAt (X20.alloc (.cells #[.bool D] 4)) X20.heap.size [D] := Blk.fresh X20 _ _
    generalize X20.alloc (.cells #[.bool D] 4) = X21 at *
    have T := five_below T b9
    have BX := thenB BX b9
    have P31 := P31.more b9
    refine hK.out _ _ T (fun hHeld => ?_)
    clear hK K
    try simp only [List.getElem_toArray, List.getElem_cons_zero, List.getElem_cons_succ, Act.put, List.setIfInBounds_toArray, List.set_cons_zero, List.set_cons_succ]
    refine wpAnyH_ready (rs := [5]) (by kernel_rfl) (by simp) ?_
    refine AllReadyH.cons rfl (fun K hK => ?_) (AllReadyH.nil)
    go_simp
    refine (unless_at [D] 1 P7 5 rfl (by decide)).mono ?_
    rintro e w9 ⟨rfl, rfl⟩
    refine hK.out _ _ T (fun hHeld => ?_)
    clear hK K
    try simp only [List.getElem_toArray, List.getElem_cons_zero, List.getElem_cons_succ, Act.put, List.setIfInBounds_toArray, List.set_cons_zero, List.set_cons_succ]
    refine wpAnyH_ready (rs := [29]) (by kernel_rfl) (by simp) ?_
    refine AllReadyH.cons rfl (fun K hK => ?_) (AllReadyH.nil)
    go_simp
    refine (unless_at [decide (s < i), decide (o ≤ i), decide (m5 < m1)] 3 P31 11 rfl (by decide)).mono ?_
    rintro e w9 ⟨rfl, rfl⟩
    refine hK.out _ _ T (fun hHeld => ?_)
    clear hK K
    try simp only [List.getElem_toArray, List.getElem_cons_zero, List.getElem_cons_succ, Act.put, List.setIfInBounds_toArray, List.set_cons_zero, List.set_cons_succ]
    refine wpAnyH_ready (rs := [30]) (by kernel_rfl) (by simp) ?_
    refine AllReadyH.cons rfl (fun K hK => ?_) (AllReadyH.nil)
    go_simp
    have b9 := (Below.refl _ X21).alloc (Nat.le_refl _) (.cells #[.int .i64 (unl 5 [D]), .int .i64 (unl 11 [decide (s < i), decide (o ≤ i), decide (m5 < m1)])] 53)
    have P33 : ErrsAt (X21.alloc (.cells #[.int .i64 (unl 5 [D]), .int .i64 (unl 11 [decide (s < i), decide (o ≤ i), decide (m5 < m1)])] 53)) X21.heap.size [unl 5 [D], unl 11 [decide (s < i), decide (o ≤ i), decide (m5 < m1)]] := Blk.fresh X21 _ _
    generalize X21.alloc (.cells #[.int .i64 (unl 5 [D]), .int .i64 (unl 11 [decide (s < i), decide (o ≤ i), decide (m5 < m1)])] 53) = X24 at *
    have T := five_below T b9
    have BX := thenB BX b9
    have P31 := P31.more b9
    have P7 := P7.more b9
    refine hK.out _ _ T (fun hHeld => ?_)
    clear hK K
    try simp only [List.getElem_toArray, List.getElem_cons_zero, List.getElem_cons_succ, Act.put, List.setIfInBounds_toArray, List.set_cons_zero, List.set_cons_succ]
    refine wpAnyH_ready (rs := [31]) (by kernel_rfl) (by simp) ?_
    refine AllReadyH.cons rfl (fun K hK => ?_) (AllReadyH.nil)
    go_simp
    refine (or_at [unl 5 [D], unl 11 [decide (s < i), decide (o ≤ i), decide (m5 < m1)]] 2 P33 rfl (by decide)).mono ?_
    rintro e w9 ⟨rfl, rfl⟩
    refine hK.out _ _ T (fun hHeld => ?_)
    clear hK K
    try simp only [List.getElem_toArray, List.getElem_cons_zero, List.getElem_cons_succ, Act.put, List.setIfInBounds_toArray, List.set_cons_zero, List.set_cons_succ]
    refine wpAnyH_take (i := 32) (v := .int .i64 (fst0 [unl 5 [D], unl 11 [decide (s < i), decide (o ≤ i), decide (m5 < m1)]])) rfl (by kernel_rfl) (by kernel_rfl) (by kernel_rfl) (fun _ _ _ h => h) (Or.inl ⟨by first | rfl | go_simp, by intro w9 hSw; (try dsimp only at hSw); go_simp⟩) (by assumption) ?_
    simp only [List.getElem_toArray, List.getElem_cons_zero, List.getElem_cons_succ, Act.put, List.setIfInBounds_toArray, List.set_cons_zero, List.set_cons_succ]
    refine wpAnyH_done (by kernel_rfl) ?_ _
    go_wp2_with fail
    go_ret
    exact ⟨by rw [HR.out]; rfl, BX⟩
end Go.Proofs.Ytpoagepchlfemaa.Cn
