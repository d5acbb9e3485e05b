/- The key stream: what the program's functions return: contracts over the program. -/
import Derived.Test.YtpdaeggjahcogaaMacTag
set_option linter.unusedVariables false
set_option linter.unusedSimpArgs false
namespace Go.Proofs.Ytpdaeggjahcogaa.Mac
open Go.RowKit Go.Shelf Mem Oct Blk Base
attribute [local go_sem] Oper.semAt_some

/-- Three blocks from g on are kept. -/
def Kp3 (g : Nat) (W W' : World) : Prop := W.heap.size ≤ W'.heap.size ∧ ∀ r, g ≤ r → r < g + 3 → W'.heap[r]? = W.heap[r]?
theorem Kp3.refl (g : Nat) (W : World) : Kp3 g W W := ⟨Nat.le_refl _, fun _ _ _ => rfl⟩
theorem Kp3.trans {g : Nat} {A B C : World} (h : Kp3 g A B) (k : Kp3 g B C) : Kp3 g A C := ⟨Nat.le_trans h.1 k.1, fun r h1 h2 => (k.2 r h1 h2).trans (h.2 r h1 h2)⟩
theorem Kp3.below {g : Nat} {A B : World} (h : Below A.heap.size A B) (hg : g + 3 ≤ A.heap.size) : Kp3 g A B := ⟨h.size, fun r h1 h2 => h.block r (by omega)⟩
theorem Kp3.put {g : Nat} {w : World} (hg : g + 3 ≤ w.heap.size) (W : World) (l : Nat) (o o' : Obj) (hl : w.heap.size ≤ l) (_ : W.heap[l]? = some o) (_ : o.isCells = false) (_ : o.isWalk = false) : Kp3 g W (W.putObj l o') :=
  ⟨(grownBy_putObj' W l o').size, fun r h1 h2 => World.putObj_heap_other (by omega)⟩
theorem Kp3.grown {g : Nat} {A B : World} {row : Option Nat} (h : A.grownBy B row) (hr : ∀ r, row = some r → r < g) (hg : g + 3 ≤ A.heap.size) : Kp3 g A B :=
  ⟨h.size, fun r h1 h2 => h.block r (by omega) (fun e => by have := hr r e.symm; omega)⟩
theorem Kp3.boxed {g r : Nat} {A B : World} {t : TypeId} {v : Value} (h : Kp3 g A B) (b : Boxed A r t v) (h1 : g ≤ r) (h2 : r < g + 3) : Boxed B r t v := (h.2 r h1 h2).trans b
theorem blocks_any (k nonce : Int) (m : Nat) (w : World) :
    Calls Try.prog 48 #[.int .u64 k, .int .u64 nonce, .int .i64 m] w fun e w' => e = .returned (.func (.func 57) #[] #[.pointer (some ⟨w.heap.size, 0, none⟩), .pointer (some ⟨w.heap.size + 1, 0, none⟩), .pointer (some ⟨w.heap.size + 2, 0, none⟩)]) ∧
      w' = ((w.alloc (.cells #[.int .u64 k] 23)).alloc (.cells #[.int .u64 nonce] 22)).alloc (.cells #[.int .i64 m] 3) := by
  have hmf : ∀ (fn : Fn) (first cap : Array Value) (w : World), (Instr.makeFunc fn first cap).run Try.prog w = .ok (.func fn first cap) w := fun _ _ _ _ => rfl
  go_enter Try.func48, Try.ntmps48
  go_wp2
  go_ret
  exact ⟨rfl, rfl⟩
theorem mix_to {k x v : Int} (w : World) (hk : 0 ≤ k ∧ k ≤ 18446744073709551615) (hx : 0 ≤ x ∧ x ≤ 18446744073709551615) (hv : mixZ k x = v) :
    Calls Try.prog 25 #[.int .u64 k, .int .u64 x] w fun e w' => e = .returned (.int .u64 v) ∧ Below w.heap.size w w' := by
  rw [← hv]; exact mix_any k x w hk hx
theorem blocks1_in (n : Nat) (hn : 1 ≤ n) (l g : Nat) (k nonce : Int) (m : Nat) (hk : 0 ≤ k ∧ k ≤ 18446744073709551615) (hx : 0 ≤ nonce ∧ nonce ≤ 18446744073709551615) (hm : m ≤ 140737488351232) (J Jx : List Nat → World → Prop) (W : World) (hJ : AbidesFrom W.heap.size J)
    (hY : ∀ pre j W1, J pre W1 → pre.length < ngr m → YieldAt Fence.wide (n - 1) Try.prog l #[.int .u64 (keyA k nonce j)] W1 fun e W' =>
      (e = .returned (.bool true) ∧ J (pre ++ [j]) W' ∧ Kp3 g W1 W') ∨ (e = .returned (.bool false) ∧ Jx (pre ++ [j]) W'))
    (bK : Boxed W g 23 (.int .u64 k)) (bN : Boxed W (g + 1) 22 (.int .u64 nonce)) (bM : Boxed W (g + 2) 3 (.int .i64 m)) (h0 : J [] W) :
    CallsIn Fence.wide n Try.prog 57 #[.func (.yield l) #[] #[], .pointer (some ⟨g, 0, none⟩), .pointer (some ⟨g + 1, 0, none⟩), .pointer (some ⟨g + 2, 0, none⟩)] W fun e W' => (∃ v, e = .returned v) ∧
      ((∃ ys, ys = List.range (ngr m) ∧ J ys W') ∨ (∃ pre, True ∧ Jx pre W')) := by
  have hF := mixZ_bd k nonce hx
  have hA : ∀ j : Nat, mixZ k ((mixZ k nonce + j) % 18446744073709551616) = keyA k nonce j := fun _ => rfl
  obtain ⟨F, hFe⟩ : ∃ F, mixZ k nonce = F := ⟨_, rfl⟩
  rw [hFe] at hF hA
  have HF := Lib.hid hFe
  have HA := Lib.hid hA
  clear hFe hA
  have cK := bK.cell
  have cN := bN.cell
  obtain ⟨N, hN⟩ : ∃ N, ngr m = N := ⟨_, rfl⟩
  have hcount : ((m : Int) + 7) / 8 = (N : Int) := by unfold ngr at hN; omega
  have hNb : N ≤ 140737488351232 := by unfold ngr at hN; omega
  rw [hN] at hY ⊢
  clear hN
  refine callsIn_of_wp Try.func57 rfl trivial ?_ rfl
  simp only [Try.ntmps57, List.size_toArray, List.length_cons, List.length_nil, Nat.reduceAdd, Nat.reduceSub, Array.replicate_succ, Array.replicate_zero, List.push_toArray, List.append_toArray, List.nil_append, List.cons_append]
  gi_wp2_with (refine ⟨trivial, ?_⟩; gi_at_call 25; refine (callsIn_wide.2 (mix_to _ hk hx HF.out)).mono ?_; rintro e W1 ⟨rfl, hb1⟩; have bK1 := boxed_below bK hb1; have bN1 := boxed_below bN hb1; have bM1 := boxed_below bM hb1; have cM1 := bM1.cell; have hJ1 := hJ _ _ _ none h0 (grown_of hb1) (fun r e => by cases e))
  gi_loopw [14] (fun i wr => ∃ j : Nat, j ≤ N ∧ i = .int .i64 j ∧ J (List.range j) wr ∧ Boxed wr g 23 (.int .u64 k) ∧ W.heap.size ≤ wr.heap.size) (fun i _ => N - (intOf i).toNat)
  case atStart => exact ⟨0, by omega, rfl, hJ1, bK1, hb1.size⟩
  case round =>
    obtain ⟨j, hj, rfl, hJs, bKr, hsz⟩ := hrel
    have cKr := bKr.cell
    by_cases c1 : j < N
    · have e1 : IntKind.u64.wrap (F + (j : Int)) = (F + j) % 18446744073709551616 := by rw [IntKind.wrap_u64]
      obtain ⟨X, hX⟩ : ∃ X, (F + (j : Int)) % 18446744073709551616 = X := ⟨_, rfl⟩
      have bX : 0 ≤ X ∧ X ≤ 18446744073709551615 := by omega
      have HX : Hid (mixZ k X = keyA k nonce j) := Lib.hid (by rw [← hX]; exact HA.out j)
      rw [hX] at e1
      clear hX
      gi_wp2_with (refine ⟨trivial, ?_⟩; gi_at_call 25; refine (callsIn_wide.2 (mix_to _ hk bX HX.out)).mono ?_; rintro e W2 ⟨rfl, hb2⟩; have bK2 := boxed_below bKr hb2; obtain ⟨fn, tmps, assign, body, hy, hR⟩ := hY (List.range j) j W2 (hJ _ _ _ none hJs (grown_of hb2) (fun r e => by cases e)) (by rw [List.length_range]; exact c1))
      refine hR.mono ?_
      rintro e W3 (⟨rfl, hJ3, hk3⟩ | ⟨rfl, hJx3⟩)
      · gi_wp2
        go_roundw
        case rel => exact ⟨j + 1, by omega, by go_num, by rw [List.range_succ]; exact hJ3, hk3.boxed bK2 (Nat.le_refl _) (by omega), Nat.le_trans hsz (Nat.le_trans hb2.size hk3.1)⟩
        case measure => simp [intOf]; omega
      · gi_wp2
        refine bodyPost_ret (results_none rfl _ _ _) rfl ?_
        exact ⟨⟨_, rfl⟩, .inr ⟨_, trivial, hJx3⟩⟩
    · obtain rfl : j = N := by omega
      gi_wp2
      go_end0
      exact ⟨⟨_, rfl⟩, .inl ⟨_, rfl, hJs⟩⟩
theorem blocks_stops (n : Nat) (hn : 1 ≤ n) (g : Nat) (k nonce : Int) (m : Nat) (hk : 0 ≤ k ∧ k ≤ 18446744073709551615) (hx : 0 ≤ nonce ∧ nonce ≤ 18446744073709551615) (hm : m ≤ 140737488351232) (w : World)
    (bK : Boxed w g 23 (.int .u64 k)) (bN : Boxed w (g + 1) 22 (.int .u64 nonce)) (bM : Boxed w (g + 2) 3 (.int .i64 m)) :
    SeqStopsK Fence.wide n Try.prog 57 #[.pointer (some ⟨g, 0, none⟩), .pointer (some ⟨g + 1, 0, none⟩), .pointer (some ⟨g + 2, 0, none⟩)] (fun j : Nat => #[Value.int .u64 (keyA k nonce j)]) (Kp3 g) (fun ys => ys = List.range (ngr m)) (fun _ => True) (ngr m) w := fun l J Jx W hW hJ _ hY h0 =>
  blocks1_in n hn l g k nonce m hk hx hm J Jx W hJ hY (boxed_below bK hW) (boxed_below bN hW) (boxed_below bM hW) h0
/-- The bytes after some numbers. -/
def strF (k nonce : Int) (n : Nat) (pre : List Nat) : List Int := pre.foldl (fun l j => l ++ numL (min 8 (n - l.length)) (keyA k nonce j)) []
theorem strF_snoc (k nonce : Int) (n : Nat) (pre : List Nat) (j : Nat) : strF k nonce n (pre ++ [j]) = strF k nonce n pre ++ numL (min 8 (n - (strF k nonce n pre).length)) (keyA k nonce j) := by simp [strF]
theorem strF_len (k nonce : Int) (n : Nat) (pre : List Nat) : (strF k nonce n pre).length ≤ n := by
  have go : ∀ (pre : List Nat) (l : List Int), l.length ≤ n → (pre.foldl (fun l j => l ++ numL (min 8 (n - l.length)) (keyA k nonce j)) l).length ≤ n := by
    intro pre
    induction pre with
    | nil => intro l hl; exact hl
    | cons j pre ih => intro l hl; exact ih _ (by rw [List.length_append, numL_len]; omega)
  exact go pre [] (Nat.zero_le _)
theorem strF_range (k nonce : Int) (n j : Nat) (hj : j ≤ ngr n) : strF k nonce n (List.range j) = strm k nonce (min (8 * j) n) := by
  induction j with
  | zero => simp [strF, strm]
  | succ j ih =>
    have h8 : 8 * j ≤ n := by unfold ngr at hj; omega
    rw [List.range_succ, strF_snoc, ih (by omega), strm_len, Nat.min_eq_left h8]
    have e : min (8 * (j + 1)) n = 8 * j + min 8 (n - 8 * j) := by omega
    rw [e, strm_num k nonce j _ (by omega)]
theorem strF_all (k nonce : Int) (n : Nat) : strF k nonce n (List.range (ngr n)) = strm k nonce n := by
  rw [strF_range k nonce n _ (Nat.le_refl _)]
  congr 1
  unfold ngr; omega
/-- A row with room for one more, seen with what lies there. -/
theorem row_more {w : World} {base : Nat} {e : TypeId} {g k cap : Nat} {xs : List Value} (h : w.ownsRow base e 1 (.slice (some ⟨g, 0, none⟩) k cap) k xs) (hk : k < cap) :
    ∃ old, w.cell? ⟨g, k, none⟩ = some old ∧ w.ownsRow base e 1 (.slice (some ⟨g, 0, none⟩) (k + 1) cap) (k + 1) (xs ++ [old]) := by
  have hl := h.1
  rcases h.2 with ⟨h', _⟩ | ⟨g', cap', cur, h', hb, hg, hnc, hcm, hcs, htake⟩
  · simp at h'
  · simp only [Value.slice.injEq, Option.some.injEq, Addr.mk.injEq, and_true, true_and] at h'
    obtain ⟨rfl, rfl⟩ := h'
    have hlt : k < cur.toList.length := by simp; omega
    refine ⟨cur.toList[k], ?_, by simp; omega, .inr ⟨g, cap, cur, rfl, hb, hg, hk, hcm, hcs, ?_⟩⟩
    · rw [cell_of_row w g k cur e (0, 0) hg]; simp
    · rw [Nat.mul_one] at htake ⊢
      rw [List.take_succ_eq_append_getElem hlt, htake]
/-- One more byte laid behind a row, and the row's own variable set: all that is known then. -/
theorem row_put {w : World} {base B g gb k cap r : Nat} {zs : List Int} {z : Int} {tv : TypeId} (hb : base ≤ g) (hbb : base ≤ gb) (hB : base ≤ w.heap.size) (hne : gb ≠ g) (htv : tv ≠ 5) (hrow : w.ownsRow base 5 1 (.slice (some ⟨g, 0, none⟩) k cap) k (zs.map (Value.int .u8))) (hk : k < cap)
    (bB : Boxed w gb tv (.slice (some ⟨g, 0, none⟩) k cap)) (hg3 : g < gb + 1) (hs : gb + 1 + 3 ≤ w.heap.size) {ti : TypeId} {vi : Value} (bI : Boxed w r ti vi) (hrg : r ≠ g) (hrb : r ≠ gb) :
    ∃ old, (w.alloc (.cells #[.int .u8 z] 5)).cell? ⟨g, k, none⟩ = some old ∧ (w.alloc (.cells #[.int .u8 z] 5)).frozen? ⟨g, k, none⟩ = false ∧
      ((w.alloc (.cells #[.int .u8 z] 5)).setCell ⟨g, k, none⟩ (.int .u8 z)).cell? ⟨gb, 0, none⟩ = some (.slice (some ⟨g, 0, none⟩) k cap) ∧ ((w.alloc (.cells #[.int .u8 z] 5)).setCell ⟨g, k, none⟩ (.int .u8 z)).frozen? ⟨gb, 0, none⟩ = false ∧
      ∀ W', W' = (((w.alloc (.cells #[.int .u8 z] 5)).setCell ⟨g, k, none⟩ (.int .u8 z)).setCell ⟨gb, 0, none⟩ (.slice (some ⟨g, 0, none⟩) (k + 1) cap)) →
        Boxed W' gb tv (.slice (some ⟨g, 0, none⟩) (k + 1) cap) ∧ W'.ownsRow base 5 1 (.slice (some ⟨g, 0, none⟩) (k + 1) cap) (k + 1) ((zs ++ [z]).map (Value.int .u8)) ∧ KeepsFrom B w W' ∧ Kp3 (gb + 1) w W' ∧ Boxed W' r ti vi ∧ Below base w W' := by
  have hrow1 := hrow.alloc (.cells #[.int .u8 z] 5)
  obtain ⟨old, hc, hm⟩ := row_more hrow1 hk
  have bB1 := bB.alloc (.cells #[.int .u8 z] 5)
  have bI1 := bI.alloc (.cells #[.int .u8 z] 5)
  have hst := hm.stored k (.int .u8 z)
  have hg1 := hst.2
  have hl : (zs.map (Value.int .u8)).length = k := by have := hrow.1; omega
  have hrow2 : ((w.alloc (.cells #[.int .u8 z] 5)).setCell ⟨g, k, none⟩ (.int .u8 z)).ownsRow base 5 1 (.slice (some ⟨g, 0, none⟩) (k + 1) cap) (k + 1) ((zs ++ [z]).map (Value.int .u8)) := by
    have := hst.1
    rw [List.set_append_right _ _ (by omega), hl, Nat.sub_self] at this
    simpa using this
  have bB2 : Boxed ((w.alloc (.cells #[.int .u8 z] 5)).setCell ⟨g, k, none⟩ (.int .u8 z)) gb tv (.slice (some ⟨g, 0, none⟩) k cap) := bB1.kept hg1 (by simp; exact hne)
  have bI2 : Boxed ((w.alloc (.cells #[.int .u8 z] 5)).setCell ⟨g, k, none⟩ (.int .u8 z)) r ti vi := bI1.kept hg1 (by simp; exact hrg)
  refine ⟨old, hc, hm.frozenAt k, bB2.cell, bB2.frozen, ?_⟩
  rintro W' rfl
  refine ⟨bB2.set _, hrow2.kept (grownBy_setCell' _ _ _) (.inr ?_), ?_, ?_, bI2.other hrb _, ?_⟩
  · simp [Value.ownBlock]; exact fun h => hne h.symm
  · refine ((KeepsOthers.alloc _ _).trans ((KeepsOthers.setCell _ _ _).trans (KeepsOthers.setCell _ _ _))).from _
  · refine Kp3.trans (Kp3.grown (World.grownBy_alloc w _ none) (fun r e => by cases e) (by omega)) (Kp3.trans (Kp3.grown hg1 (fun r e => by cases e; omega) (by simp; omega)) (Kp3.grown (grownBy_setCell' _ _ _) (fun r e => by cases e; omega) ?_))
    have := hg1.size
    simp at this ⊢; omega
  · exact (((Below.refl base w).alloc hB _).setCell (p := ⟨g, k, none⟩) hb _).setCell (p := ⟨gb, 0, none⟩) hbb _
set_option maxRecDepth 100000 in
set_option maxHeartbeats 2000000 in
theorem stream_any (k nonce : Int) (n : Nat) (w : World) (hk : 0 ≤ k ∧ k ≤ 18446744073709551615) (hx : 0 ≤ nonce ∧ nonce ≤ 18446744073709551615) (hn : n ≤ 140737488351232) :
    Calls Try.prog 33 #[.int .u64 k, .int .u64 nonce, .int .i64 n] w fun e w' => Makes w w' e (strm k nonce n) := by
  obtain ⟨i0, hi, hz0, hz1, hz2⟩ := info_parts info_u8
  refine (callsIn_wide (n := 3)).1 ?_
  refine callsIn_of_wp_marks Try.func33 rfl trivial ?_ rfl
  simp only [Try.ntmps33, List.size_toArray, List.length_cons, List.length_nil, Nat.reduceAdd, Nat.reduceSub, Array.replicate_succ, Array.replicate_zero, List.push_toArray, List.append_toArray, List.nil_append, List.cons_append]
  gi_wp2_with (first
    | (gi_at_make; refine wpListIn_make_own _ rfl _ _ 24 rfl w.heap.size 5 i0 _ 1 Try.underlying24 hi hz0 hz1 .i64 .i64 (n : Int) n rfl rfl rfl (by rw [hz2]; omega) (by unfold maxLen; omega) (by simp) ?_; intro w1 hown1 hg1; rw [World.size_alloc] at hown1; have bN1 : Boxed w1 w.heap.size 3 (.int .i64 n) := (Boxed.new w 3 (.int .i64 n)).kept hg1 (by simp); have cN2 := (bN1.alloc (.cells #[.slice (some ⟨w.heap.size + 1, 0, none⟩) 0 n] 24)).cell)
    | (refine ⟨trivial, ?_⟩; gi_at_call 48; refine (callsIn_wide.2 (blocks_any _ _ _ _)).mono ?_; rintro e w2 ⟨rfl, rfl⟩))
  have hs1 : w.heap.size + 1 < w1.heap.size := (hown1.lt (w.heap.size + 1) rfl).2
  generalize hgb : w1.heap.size = gb at *
  have bN2 := bN1.alloc (.cells #[.slice (some ⟨w.heap.size + 1, 0, none⟩) 0 n] 24)
  have bB2 : Boxed (w1.alloc (.cells #[.slice (some ⟨w.heap.size + 1, 0, none⟩) 0 n] 24)) gb 24 (.slice (some ⟨w.heap.size + 1, 0, none⟩) 0 n) := by rw [← hgb]; exact Boxed.new w1 _ _
  have hown2 := hown1.alloc (.cells #[.slice (some ⟨w.heap.size + 1, 0, none⟩) 0 n] 24)
  have hB1 : Below w.heap.size w w1 := ((Below.refl w.heap.size w).alloc (Nat.le_refl _) _).grown hg1 (by simp) (fun r e => by cases e)
  have hB2 : Below w.heap.size w (w1.alloc (.cells #[.slice (some ⟨w.heap.size + 1, 0, none⟩) 0 n] 24)) := hB1.alloc hB1.size _
  have hs2 : (w1.alloc (.cells #[.slice (some ⟨w.heap.size + 1, 0, none⟩) 0 n] 24)).heap.size = gb + 1 := by rw [World.size_alloc, hgb]
  generalize w1.alloc (.cells #[.slice (some ⟨w.heap.size + 1, 0, none⟩) 0 n] 24) = w2 at *
  clear hown1 hB1 bN1 cN2 hg1
  have bK3 := ((Boxed.new w2 23 (.int .u64 k)).alloc (.cells #[.int .u64 nonce] 22)).alloc (.cells #[.int .i64 n] 3)
  have bN3 := (Boxed.new (w2.alloc (.cells #[.int .u64 k] 23)) 22 (.int .u64 nonce)).alloc (.cells #[.int .i64 n] 3)
  have bM3 := Boxed.new ((w2.alloc (.cells #[.int .u64 k] 23)).alloc (.cells #[.int .u64 nonce] 22)) 3 (.int .i64 n)
  have bB3 := ((bB2.alloc (.cells #[.int .u64 k] 23)).alloc (.cells #[.int .u64 nonce] 22)).alloc (.cells #[.int .i64 n] 3)
  have bn3 := ((bN2.alloc (.cells #[.int .u64 k] 23)).alloc (.cells #[.int .u64 nonce] 22)).alloc (.cells #[.int .i64 n] 3)
  have hown3 := ((hown2.alloc (.cells #[.int .u64 k] 23)).alloc (.cells #[.int .u64 nonce] 22)).alloc (.cells #[.int .i64 n] 3)
  have hB3 := ((hB2.alloc hB2.size (.cells #[.int .u64 k] 23)).alloc (by simp; omega) (.cells #[.int .u64 nonce] 22)).alloc (by simp; omega) (.cells #[.int .i64 n] 3)
  have hs3 : (((w2.alloc (.cells #[.int .u64 k] 23)).alloc (.cells #[.int .u64 nonce] 22)).alloc (.cells #[.int .i64 n] 3)).heap.size = gb + 4 := by simp [hs2]
  simp only [World.size_alloc, hs2] at bK3 bN3 bM3 ⊢
  generalize ((w2.alloc (.cells #[.int .u64 k] 23)).alloc (.cells #[.int .u64 nonce] 22)).alloc (.cells #[.int .i64 n] 3) = w3 at *
  have hA := keyA_bd k nonce
  have hl := strF_len k nonce n
  refine wpIn_rangeFunc_ownG rfl (by omega) (gf := 57) (lb := #[.pointer (some ⟨gb + 1, 0, none⟩), .pointer (some ⟨gb + 1 + 1, 0, none⟩), .pointer (some ⟨gb + 1 + 2, 0, none⟩)]) rfl trivial (enters_of Try.func57 (by kernel_rfl) rfl)
    (blocks_stops (3 - 1) (by omega) (gb + 1) k nonce n hk hx hn w3 bK3 bN3 bM3) (fun h k => Kp3.trans h k) (Kp3.put (by omega)) (Below.refl _ _) (fun _ => rfl)
    (fun pre W => (((∃ v, Boxed W gb 24 v ∧ W.ownsRow w.heap.size 5 1 v (strF k nonce n pre).length ((strF k nonce n pre).map (Value.int .u8)) ∧ v = .slice (some ⟨w.heap.size + 1, 0, none⟩) (strF k nonce n pre).length n) ∧ Boxed W w.heap.size 3 (.int .i64 n)) ∧ gb + 4 ≤ W.heap.size) ∧ Below w.heap.size w W)
    (fun _ _ _ => False)
    (OwnFrom.and (OwnFrom.and (OwnFrom.and (Own.from (holdsRow_own w.heap.size gb 24 5 1 (fun pre => (strF k nonce n pre).length) (fun pre => (strF k nonce n pre).map (Value.int .u8)) (fun pre v => v = .slice (some ⟨w.heap.size + 1, 0, none⟩) (strF k nonce n pre).length n)) _) (Own.from (boxed_own _ _ _) _)) (fun _ _ _ _ hs hg _ => Nat.le_trans hs hg.size)) (ownFrom_below (Nat.le_refl _) (by omega)))
    (fun _ _ _ _ _ hs _ _ => hs)
    ⟨⟨⟨⟨_, bB3, hown3, rfl⟩, bn3⟩, by omega⟩, hB3⟩
    (fun j => { tmps := #[.int .u64 k, .int .u64 nonce, .int .i64 n, undef, undef, .pointer (some ⟨w.heap.size, 0, none⟩), .slice none 0 0, .pointer (some ⟨gb, 0, none⟩), .int .u64 (keyA k nonce j), undef, .int .i64 n, .slice (some ⟨w.heap.size + 1, 0, none⟩) 0 n, .int .u64 k, .int .u64 nonce, .int .i64 n,
      .func (.func 57) #[] #[.pointer (some ⟨gb + 1, 0, none⟩), .pointer (some ⟨gb + 1 + 1, 0, none⟩), .pointer (some ⟨gb + 1 + 2, 0, none⟩)], .int .u64 (keyA k nonce j), undef, undef, undef, undef, undef, undef, undef, undef, undef, undef, undef, undef, undef, undef, undef, undef, undef, undef], defers := [] }) ?assign ?body ?done ?stop
  case assign =>
    intro l x W K hK
    gi_wp2
    exact hK
  case body =>
    rintro l pre x W ⟨⟨⟨⟨v, bB, hown, rfl⟩, bn⟩, hsz⟩, hB⟩ _
    have hL := hl pre
    have HS := Lib.hid (strF_snoc k nonce n pre x)
    have bA := hA x
    have cn := bn.cell
    have cB := bB.cell
    generalize strF k nonce n pre = F at *
    obtain ⟨L, hLe⟩ : ∃ L, F.length = L := ⟨_, rfl⟩
    rw [hLe] at hown cB hL bB HS
    obtain ⟨s, hs⟩ : ∃ s : Nat, min 8 (n - L) = s := ⟨_, rfl⟩
    have hmin : min (8 : Int) ((n : Int) - (L : Int)) = (s : Int) := by omega
    have hsn : L + s ≤ n := by omega
    have hs8 : s ≤ 8 := by omega
    rw [hs] at HS
    have HLE := Lib.hid hLe
    clear hs hLe
    generalize keyA k nonce x = A at *
    gi_wp2
    gi_loopw [22] (fun i wr => ∃ t : Nat, t ≤ s ∧ i = .int .i64 t ∧ Boxed wr gb 24 (.slice (some ⟨w.heap.size + 1, 0, none⟩) (L + t) n) ∧ wr.ownsRow w.heap.size 5 1 (.slice (some ⟨w.heap.size + 1, 0, none⟩) (L + t) n) (L + t) ((F ++ numL t A).map (Value.int .u8)) ∧ KeepsFrom w3.heap.size W wr ∧ Kp3 (gb + 1) W wr ∧ Boxed wr w.heap.size 3 (.int .i64 n) ∧ Below w.heap.size w wr) (fun i _ => s - (intOf i).toNat)
    case atStart => exact ⟨0, by omega, rfl, bB, by simpa [numL] using hown, KeepsFrom.refl _ _, Kp3.refl _ _, bn, hB⟩
    case round =>
      obtain ⟨t, ht, rfl, bB', hown', hkf, hkp, bn', hB'⟩ := hrel
      have cB' := bB'.cell
      by_cases c1 : t < s
      · have hmx : Try.prog.follows .mixedOrders = true := by kernel_rfl
        have fB' := bB'.frozen
        obtain ⟨Z, hZ⟩ : ∃ Z, A / Ser.p2 (8 * t) % 256 = Z := ⟨_, rfl⟩
        have q2 : IntKind.u8.wrap (A / 2 ^ (8 * (t : Int)).toNat) = Z := by rw [← hZ, show (8 * (t : Int)).toNat = 8 * t by omega]; exact byte_code A t
        have HN : Hid (numL (t + 1) A = numL t A ++ [Z]) := Lib.hid (by rw [numL_snoc, hZ])
        have hroom : L + t + 1 ≤ n := by omega
        have hsw : gb + 1 + 3 ≤ wr.heap.size := by have := hkp.1; omega
        obtain ⟨old, p1, p2, p3, p4, p5⟩ := row_put (B := w3.heap.size) (z := Z) (show w.heap.size ≤ w.heap.size + 1 by omega) (by omega) hB'.size (show gb ≠ w.heap.size + 1 by omega) (by decide) hown' (by omega) bB' (by omega) hsw bn' (by omega) (by omega)
        have cA := (bB'.alloc (.cells #[.int .u8 Z] 5)).cell
        clear hZ
        gi_wp2
        have q1 : IntKind.i64.wrap (8 * (t : Int)) = ((8 * t : Nat) : Int) := by rw [IntWalk.i64_in _ (by omega)]; omega
        gi_region_with_o (fail)
        all_goals
          gi_wp2
          obtain ⟨y1, y2, y3, y4, y5, y6⟩ := p5 _ rfl
          go_roundw
          case rel => exact ⟨t + 1, by omega, by go_num, y1, by rw [HN.out, ← List.append_assoc]; exact y2, (hkf.trans y3).trans ((KeepsOthers.drew _).from _), hkp.trans y4, y5, (hB'.trans y6).drew⟩
          case measure => simp [intOf]; omega
      · obtain rfl : t = s := by omega
        gi_wp2
        exact ⟨hkf, hkp, ⟨⟨⟨_, bB', by rw [HS.out, List.length_append, numL_len, HLE.out]; exact hown', by rw [HS.out, List.length_append, numL_len, HLE.out]⟩, bn'⟩, by have := hkp.1; omega⟩, hB'⟩
  case done =>
    rintro D ys W hD rfl ⟨⟨⟨⟨v, bB, hown, rfl⟩, bn⟩, hsz⟩, hB⟩ hK
    have cB := bB.cell
    gi_wp2
    refine ⟨by simp, .inl ⟨_, _, rfl, run_takeDeferred hK, ?_⟩⟩
    refine ⟨_, results_tmp rfl _ _ _, ?_⟩
    have hlen : (strF k nonce n (List.range (ngr n))).length = n := by rw [strF_all, strm_len]
    rw [strF_all] at hown
    rw [strm_len] at hown
    refine makes_of (by rw [hlen]; rfl) (strm_len k nonce n) (ownsRow_putObj hown _ hK rfl) (hB.trans (belowK_b (w := w) (Nat.le_refl _) W D _ _ (by omega) hK rfl rfl))
  case stop =>
    rintro D c pre W _ _ h _
    exact h.elim
end Go.Proofs.Ytpdaeggjahcogaa.Mac
