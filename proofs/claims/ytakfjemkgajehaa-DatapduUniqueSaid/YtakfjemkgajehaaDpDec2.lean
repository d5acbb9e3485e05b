/- Data PDUs: Decode by the layer: contracts over the program. -/
import Derived.Test.YtakfjemkgajehaaDpDec
set_option linter.unusedVariables false
set_option linter.unusedSimpArgs false
namespace Go.Proofs.Ytakfjemkgajehaa.Dp
open Go.RowKit Mem Oct Rw Av
open Base (thenB)

/-- A row of the call's own is kept by a store into a block of another type. -/
theorem own_setRow {w : World} {base g : Nat} {e t : TypeId} {size n : Nat} {v : Value} {xs : List Value} {old : Array Value} (h : w.ownsRow base e size v n xs) (hb : Blk w g t old) (hne : e ≠ t) (cs : Array Value) : (w.setRow g cs).ownsRow base e size v n xs := by
  refine ⟨h.1, ?_⟩
  rcases h.2 with h' | ⟨g', cap, cur, hv, hbg, hg, r⟩
  · exact .inl h'
  · refine .inr ⟨g', cap, cur, hv, hbg, ?_, r⟩
    have : g' ≠ g := by
      rintro rfl
      unfold Blk at hb
      rw [hb] at hg
      injection hg with hg
      injection hg with _ ht
      exact hne ht.symm
    rw [← hg]
    exact setRow_other w g g' cs this
set_option maxHeartbeats 1000000 in
theorem bit_any (num p : Int) (q : Nat) (h z : Int) (b off n c : Nat) (g : Nat) (w : World) (hn : num = 3 ∧ p = 8 ∨ num = 2 ∧ p = 4 ∨ num = 4 ∧ p = 16) (hh : 0 ≤ h ∧ h ≤ 255) (hn0 : 0 < n) (K : Blk w g 22 #[.slice (some ⟨b, off, none⟩) n c]) (c0 : w.cell? ⟨b, off, none⟩ = some (.int .u8 h)) :
    Calls Try.prog 49 #[.int .i64 num, .pointer (some ⟨g, 0, none⟩)] w fun e w' => e = .returned (.int .i64 (h / p % 2)) ∧ w = w' := by
  have k0 := K.cell 0
  have g1 : (0 : Int) < (n : Int) := by omega
  obtain ⟨y, hy⟩ : ∃ y : Fin 256, (y.val : Int) = h := of_fin (by omega)
  rcases hn with ⟨rfl, rfl⟩ | ⟨rfl, rfl⟩ | ⟨rfl, rfl⟩
  · have HO := and_1a y
    rw [hy] at HO
    clear hy y K
    go_enter Try.func49, Try.ntmps49
    go_wp2_with fail
    go_ret
    exact ⟨rfl, rfl⟩
  · have HO := and_1b y
    rw [hy] at HO
    clear hy y K
    go_enter Try.func49, Try.ntmps49
    go_wp2_with fail
    go_ret
    exact ⟨rfl, rfl⟩
  · have HO := and_1c y
    rw [hy] at HO
    clear hy y K
    go_enter Try.func49, Try.ntmps49
    go_wp2_with fail
    go_ret
    exact ⟨rfl, rfl⟩
theorem bclone (V : Value) (n m : Nat) (l : List Int) (w : World) (hl : l.length = n) (hn : n ≤ 140737488351232) (hr : Row w m V n (l.map (Value.int .u8))) :
    Calls Try.prog 50 #[V] w fun e w' => ∃ V', e = .returned V' ∧ w'.ownsRow w.heap.size 5 1 V' n (l.map (Value.int .u8)) ∧ Below w.heap.size w w' := by
  obtain ⟨A, c, rfl, hc, hi⟩ := hr.ints
  refine (Oct.clone_any A n c l w hl hi hn (fun h => ?_)).mono ?_
  · rcases hi with rfl | ⟨b, off, e, _⟩
    · simpa using hl.symm
    · rw [h] at e; cases e
  · intro e w' hm
    obtain ⟨A', c', rfl, own, b⟩ := omakes_len hm hl
    exact ⟨_, rfl, own, b⟩
/-- A call returns a PDU, its payload in memory of its own, and an error. -/
def Decd (w w' : World) (e : Ending) (r : Pd × Int) : Prop := ∃ V, e = .returned (.tuple #[.agg #[.int .i64 r.1.sn, .int .i64 r.1.nesn, .int .i64 r.1.md, .int .i64 r.1.pk.1, V], .int .i64 r.2]) ∧ w'.ownsRow w.heap.size 5 1 V r.1.pk.2.length (r.1.pk.2.map (Value.int .u8)) ∧ Below w.heap.size w w'
set_option maxHeartbeats 4000000 in
theorem decode_any (A : Option Addr) (n c : Nat) (xs : List Int) (w : World) (hx : xs.length = n) (hn : n ≤ 140737488351232) (hnc : n ≤ c) (bx : Bytes xs) (hr : Ints .u8 w w.heap.size A xs) :
    Calls Try.prog 21 #[.slice A n c] w fun e w' => Decd w w' e (decR xs) := by
  have B0 : Below w.heap.size w ((w.alloc (.cells #[.slice A n c] 22)).alloc (.cells #[.int .i64 0, .int .i64 0, .int .i64 0, .int .i64 0, .slice none 0 0] 26)) := ((Below.refl _ _).alloc (Nat.le_refl _) _).alloc (by simp) _
  have K1 := (Blk.fresh w 22 #[.slice A n c]).alloc (.cells #[.int .i64 0, .int .i64 0, .int .i64 0, .int .i64 0, .slice none 0 0] 26)
  have K2 : Blk ((w.alloc (.cells #[.slice A n c] 22)).alloc (.cells #[.int .i64 0, .int .i64 0, .int .i64 0, .int .i64 0, .slice none 0 0] 26)) (w.heap.size + 1) 26 #[.int .i64 0, .int .i64 0, .int .i64 0, .int .i64 0, .slice none 0 0] := Blk.next
  have HF := Lib.hid (fun W (b : Below w.heap.size w W) => form_any A n c xs W hx hn bx (Base.later hr b))
  by_cases h0 : formR xs = 0
  · have HO : Hid (decR xs = (partsN (xs.getD 0 0) (xs.drop 2), 0)) := Lib.hid (decR_ok h0)
    rw [h0] at HF
    match xs, hx, bx, hr, h0, HO with
    | h :: z :: r, hx, bx, hr, h0, HO =>
      have bh := bx h (by simp)
      obtain ⟨b, off, rfl, hb, hc⟩ := hr.at_ (i := 0) (by simp)
      have c0 := hc 0 (by simp)
      simp only [List.getD_cons_zero, Nat.add_zero] at c0
      by_cases hc2 : c = 2
      · skip
        have HB := Lib.hid (fun (num p : Int) (hn : num = 3 ∧ p = 8 ∨ num = 2 ∧ p = 4 ∨ num = 4 ∧ p = 16) (W : World) (K : Blk W w.heap.size 22 #[.slice (some ⟨b, off, none⟩) n c]) (T : W.cell? ⟨b, off, none⟩ = some (.int .u8 h)) => bit_any num p 0 h z b off n c w.heap.size W hn bh (by simp at hx; omega) K T)
        obtain ⟨y, hy⟩ : ∃ y : Fin 256, (y.val : Int) = h := of_fin (by omega)
        have q1 := and_3 y
        rw [hy] at q1
        have g1 : (0 : Int) < (n : Int) ∧ (2 : Int) ≤ (n : Int) ∧ 2 ≤ n ∧ 0 < n ∧ ¬ n = 0 := by simp at hx; omega
        have e4 : IntKind.i64.wrap (h % 4) = h % 4 := by rw [IntWalk.i64_in _ (by omega)]
        have HV : Hid (decR (h :: z :: r) = (⟨h / 8 % 2, h / 4 % 2, h / 16 % 2, (h % 4, r)⟩, 0)) := HO
        rw [HV.out]
        have HRl : Hid (r.length = n - 2) := Lib.hid (by simp at hx; omega)
        have hcut := hr.cut (c := c) (i := 2) (by simp) (by rw [hx]; exact hnc)
        have hcut : Ints .u8 w w.heap.size (some ⟨b, off, none⟩) r := by rw [if_pos hc2] at hcut; exact hcut
        have hcc : (c = 2) = True := by simp [hc2]
        clear hc2
        have HR : Hid (∀ W, Below w.heap.size w W → Calls Try.prog 50 #[.slice (some ⟨b, off, none⟩) (n - 2) (c - 2)] W fun e w' => ∃ V', e = .returned V' ∧ w'.ownsRow W.heap.size 5 1 V' (n - 2) (r.map (Value.int .u8)) ∧ Below W.heap.size W w') := Lib.hid fun W b => bclone _ _ 0 r W HRl.out (by omega) (Row.of_cells (by omega) (of_ints (Base.later hcut b)))
        clear hcut hr hc bx hx hnc h0 HO hy y
        go_enter Try.func21, Try.ntmps21
        go_upto_region 2 with (go_at_call 48; refine (HF.out _ B0).mono ?_; rintro e w2 ⟨rfl, b2⟩)
        replace K2 := K2.below b2 K2.lt
        replace K1 := K1.below b2 K1.lt
        have BX := thenB B0 b2
        have TT := (BX.cell (p := ⟨b, off, none⟩) hb).trans c0
        have k1 := K1.cell 0
        go_upto_region 5 with (fail)
        have K1' : Blk w2.drew (w.heap.size) 22 #[.slice (some ⟨b, off, none⟩) n c] := Mem.Blk.drew K1
        have K2' : Blk w2.drew (w.heap.size + 1) 26 #[.int .i64 0, .int .i64 0, .int .i64 0, .int .i64 0, .slice none 0 0] := Mem.Blk.drew K2
        refine wp_region_held_drew (S := (fun w' => Blk w' (w.heap.size) 22 #[.slice (some ⟨b, off, none⟩) n c] ∧ w'.cell? ⟨b, off, none⟩ = some (.int .u8 h))) (by kernel_rfl) ?_ (fun hHeld => ?_)
        · exact ⟨K1', TT⟩
        replace K1 := K1'
        clear K1'
        replace K2 := K2'
        clear K2'
        replace BX : Below w.heap.size w w2.drew := BX.drew
        replace TT := (show w2.drew.cell? ⟨b, off, none⟩ = _ from TT)
        replace TT : w2.drew.cell? ⟨b, off, none⟩ = some (.int .u8 h) := TT
        generalize w2.drew = X0 at *
        refine wpAnyH_take (i := 0) (v := .slice (some ⟨b, off, none⟩) n c) rfl (by kernel_rfl) (by kernel_rfl) (by kernel_rfl) (fun _ _ _ h => h) (Or.inl ⟨by first | rfl | go_simp, by intro w9 hSw; (try dsimp only at hSw); have c9 := hSw.1.cell 0; clear hSw; go_simp⟩) (by assumption) ?_
        simp only [List.getElem_toArray, List.getElem_cons_zero, List.getElem_cons_succ, Act.put, List.setIfInBounds_toArray, List.set_cons_zero, List.set_cons_succ]
        refine wpAnyH_take (i := 1) (v := .pointer (some ⟨b, off, none⟩)) rfl (by kernel_rfl) (by kernel_rfl) (by kernel_rfl) (fun _ _ _ h => h) (Or.inl ⟨by first | rfl | go_simp, by intro w9 hSw; (try dsimp only at hSw); go_simp⟩) (by assumption) ?_
        simp only [List.getElem_toArray, List.getElem_cons_zero, List.getElem_cons_succ, Act.put, List.setIfInBounds_toArray, List.set_cons_zero, List.set_cons_succ]
        refine wpAnyH_take (i := 2) (v := .int .u8 h) rfl (by kernel_rfl) (by kernel_rfl) (by kernel_rfl) (fun _ _ _ h => h) (Or.inl ⟨by first | rfl | go_simp, by intro w9 hSw; (try dsimp only at hSw); go_simp⟩) (by assumption) ?_
        simp only [List.getElem_toArray, List.getElem_cons_zero, List.getElem_cons_succ, Act.put, List.setIfInBounds_toArray, List.set_cons_zero, List.set_cons_succ]
        refine wpAnyH_take (i := 3) (v := .int .u8 (h % 4)) rfl (by kernel_rfl) (by kernel_rfl) (by kernel_rfl) (fun _ _ _ h => h) (Or.inl ⟨by first | rfl | go_simp, by intro w9 hSw; (try dsimp only at hSw); go_simp⟩) (by assumption) ?_
        simp only [List.getElem_toArray, List.getElem_cons_zero, List.getElem_cons_succ, Act.put, List.setIfInBounds_toArray, List.set_cons_zero, List.set_cons_succ]
        refine wpAnyH_take (i := 4) (v := .int .i64 (h % 4)) rfl (by kernel_rfl) (by kernel_rfl) (by kernel_rfl) (fun _ _ _ h => h) (Or.inl ⟨by first | rfl | go_simp, by intro w9 hSw; (try dsimp only at hSw); go_simp⟩) (by assumption) ?_
        simp only [List.getElem_toArray, List.getElem_cons_zero, List.getElem_cons_succ, Act.put, List.setIfInBounds_toArray, List.set_cons_zero, List.set_cons_succ]
        refine wpAnyH_take (i := 5) (v := .slice (some ⟨b, off, none⟩) n c) rfl (by kernel_rfl) (by kernel_rfl) (by kernel_rfl) (fun _ _ _ h => h) (Or.inl ⟨by first | rfl | go_simp, by intro w9 hSw; (try dsimp only at hSw); have c9 := hSw.1.cell 0; clear hSw; go_simp⟩) (by assumption) ?_
        simp only [List.getElem_toArray, List.getElem_cons_zero, List.getElem_cons_succ, Act.put, List.setIfInBounds_toArray, List.set_cons_zero, List.set_cons_succ]
        refine wpAnyH_take (i := 6) (v := .slice (some ⟨b, off, none⟩) (n - 2) (c - 2)) rfl (by kernel_rfl) (by kernel_rfl) (by kernel_rfl) (fun _ _ _ h => h) (Or.inl ⟨by first | rfl | go_simp, by intro w9 hSw; (try dsimp only at hSw); go_simp⟩) (by assumption) ?_
        simp only [List.getElem_toArray, List.getElem_cons_zero, List.getElem_cons_succ, Act.put, List.setIfInBounds_toArray, List.set_cons_zero, List.set_cons_succ]
        refine wpAnyH_ready (rs := [7, 9]) (by kernel_rfl) (by simp) ?_
        refine AllReadyH.cons rfl (fun K hK => ?_) (AllReadyH.cons rfl (fun K hK => ?_) (AllReadyH.nil))
        · skip
          go_simp
          have hq8 : w.heap.size + 2 ≤ X0.heap.size := K2.lt
          refine (HR.out X0 BX).mono ?_
          rintro e X1 ⟨V3, rfl, H3, b9⟩
          obtain ⟨A3, c3, rfl⟩ := own_form H3
          replace H3 := own_base H3 hq8
          replace K1 := K1.below b9 K1.lt
          replace K2 := K2.below b9 K2.lt
          replace BX := Base.thenB BX b9
          replace TT := (b9.cell (p := ⟨b, off, none⟩) (by show b < _; have := BX.size; omega)).trans TT
          clear b9
          refine hK.out _ _ ⟨K1, TT⟩ (fun hHeld => ?_)
          clear hK K
          try simp only [List.getElem_toArray, List.getElem_cons_zero, List.getElem_cons_succ, Act.put, List.setIfInBounds_toArray, List.set_cons_zero, List.set_cons_succ]
          refine wpAnyH_take (i := 8) (v := .agg #[.int .i64 (h % 4), .slice A3 (n - 2) c3]) rfl (by kernel_rfl) (by kernel_rfl) (by kernel_rfl) (fun _ _ _ h => h) (Or.inl ⟨by first | rfl | go_simp, by intro w9 hSw; (try dsimp only at hSw); go_simp⟩) (by assumption) ?_
          simp only [List.getElem_toArray, List.getElem_cons_zero, List.getElem_cons_succ, Act.put, List.setIfInBounds_toArray, List.set_cons_zero, List.set_cons_succ]
          refine wpAnyH_ready (rs := [9]) (by kernel_rfl) (by simp) ?_
          refine AllReadyH.cons rfl (fun K hK => ?_) (AllReadyH.nil)
          go_simp
          have b9 := (Below.refl X1.heap.size X1).alloc (Nat.le_refl _) (.cells #[.int .i64 0, .slice none 0 0] 24)
          have K6 := Blk.fresh X1 24 #[.int .i64 0, .slice none 0 0]
          have hg6 : w.heap.size + 2 ≤ X1.heap.size := K2.lt
          generalize X1.alloc (.cells #[.int .i64 0, .slice none 0 0] 24) = X2 at *
          replace K1 := K1.below b9 K1.lt
          replace K2 := K2.below b9 K2.lt
          replace BX := Base.thenB BX b9
          replace TT := (b9.cell (p := ⟨b, off, none⟩) (by show b < _; have := BX.size; omega)).trans TT
          replace H3 := own_below H3 b9
          clear b9
          refine hK.out _ _ ⟨K1, TT⟩ (fun hHeld => ?_)
          clear hK K
          try simp only [List.getElem_toArray, List.getElem_cons_zero, List.getElem_cons_succ, Act.put, List.setIfInBounds_toArray, List.set_cons_zero, List.set_cons_succ]
          refine wpAnyH_ready (rs := [10]) (by kernel_rfl) (by simp) ?_
          refine AllReadyH.cons rfl (fun K hK => ?_) (AllReadyH.nil)
          have H9 : (#[.int .i64 (h % 4), .slice A3 (n - 2) c3] : Array Value).all (·.oneCell') = true := by rw [← Array.all_toList]; rfl
          refine Av.step_store_row rfl 24 (.tmp 6) (.tmp 22) rfl (X1.heap.size) #[.int .i64 (h % 4), .slice A3 (n - 2) c3] rfl rfl 24 _ K6 (by kernel_rfl) rfl H9 ?_
          replace TT := (cell_setRow_other X2 (X1.heap.size) #[.int .i64 (h % 4), .slice A3 (n - 2) c3] ⟨b, off, none⟩ (show b ≠ X1.heap.size by omega)).trans TT
          replace H3 := own_setRow H3 K6 (by decide) #[.int .i64 (h % 4), .slice A3 (n - 2) c3]
          replace K1 : Blk (X2.setRow (X1.heap.size) #[.int .i64 (h % 4), .slice A3 (n - 2) c3]) (w.heap.size) 22 #[.slice (some ⟨b, off, none⟩) n c] := Av.bother_row K1 (by omega)
          replace K2 : Blk (X2.setRow (X1.heap.size) #[.int .i64 (h % 4), .slice A3 (n - 2) c3]) (w.heap.size + 1) 26 #[.int .i64 0, .int .i64 0, .int .i64 0, .int .i64 0, .slice none 0 0] := Av.bother_row K2 (by omega)
          replace K6 : Blk (X2.setRow (X1.heap.size) #[.int .i64 (h % 4), .slice A3 (n - 2) c3]) (X1.heap.size) 24 #[.int .i64 (h % 4), .slice A3 (n - 2) c3] := Av.bset_row K6
          replace BX : Below w.heap.size w (X2.setRow (X1.heap.size) #[.int .i64 (h % 4), .slice A3 (n - 2) c3]) := below_setRow BX (by omega) _
          clear H9
          generalize X2.setRow (X1.heap.size) #[.int .i64 (h % 4), .slice A3 (n - 2) c3] = X3 at *
          refine hK.out _ _ ⟨K1, TT⟩ (fun hHeld => ?_)
          clear hK K
          try simp only [List.getElem_toArray, List.getElem_cons_zero, List.getElem_cons_succ, Act.put, List.setIfInBounds_toArray, List.set_cons_zero, List.set_cons_succ]
          refine wpAnyH_done (by kernel_rfl) ?_ _
          go_upto_region 6 with (fail)
          have K1' : Blk X3.drew (w.heap.size) 22 #[.slice (some ⟨b, off, none⟩) n c] := Mem.Blk.drew K1
          have K2' : Blk X3.drew (w.heap.size + 1) 26 #[.int .i64 0, .int .i64 0, .int .i64 0, .int .i64 0, .slice none 0 0] := Mem.Blk.drew K2
          have K6' : Blk X3.drew (X1.heap.size) 24 #[.int .i64 (h % 4), .slice A3 (n - 2) c3] := Mem.Blk.drew K6
          refine wp_region_held_drew (S := (fun w' => Blk w' (X1.heap.size) 24 #[.int .i64 (h % 4), .slice A3 (n - 2) c3])) (by kernel_rfl) ?_ (fun hHeld => ?_)
          · exact K6'
          replace K1 := K1'
          clear K1'
          replace K2 := K2'
          clear K2'
          replace K6 := K6'
          clear K6'
          replace BX : Below w.heap.size w X3.drew := BX.drew
          replace H3 := (show X3.drew.ownsRow (w.heap.size + 2) 5 1 (.slice A3 (n - 2) c3) (n - 2) (r.map (Value.int .u8)) from H3)
          replace TT := (show X3.drew.cell? ⟨b, off, none⟩ = _ from TT)
          generalize X3.drew = Y0 at *
          refine wpAnyH_take (i := 0) (v := .func (.func 49) #[] #[.pointer (some ⟨w.heap.size, 0, none⟩)]) rfl (by kernel_rfl) (by kernel_rfl) (by kernel_rfl) (fun _ _ _ h => h) (Or.inl ⟨by first | rfl | go_simp, by intro w9 hSw; (try dsimp only at hSw); go_simp⟩) (by assumption) ?_
          simp only [List.getElem_toArray, List.getElem_cons_zero, List.getElem_cons_succ, Act.put, List.setIfInBounds_toArray, List.set_cons_zero, List.set_cons_succ]
          refine wpAnyH_take (i := 2) (v := .func (.func 49) #[] #[.pointer (some ⟨w.heap.size, 0, none⟩)]) rfl (by kernel_rfl) (by kernel_rfl) (by kernel_rfl) (fun _ _ _ h => h) (Or.inl ⟨by first | rfl | go_simp, by intro w9 hSw; (try dsimp only at hSw); go_simp⟩) (by assumption) ?_
          simp only [List.getElem_toArray, List.getElem_cons_zero, List.getElem_cons_succ, Act.put, List.setIfInBounds_toArray, List.set_cons_zero, List.set_cons_succ]
          refine wpAnyH_take (i := 4) (v := .func (.func 49) #[] #[.pointer (some ⟨w.heap.size, 0, none⟩)]) rfl (by kernel_rfl) (by kernel_rfl) (by kernel_rfl) (fun _ _ _ h => h) (Or.inl ⟨by first | rfl | go_simp, by intro w9 hSw; (try dsimp only at hSw); go_simp⟩) (by assumption) ?_
          simp only [List.getElem_toArray, List.getElem_cons_zero, List.getElem_cons_succ, Act.put, List.setIfInBounds_toArray, List.set_cons_zero, List.set_cons_succ]
          refine wpAnyH_take (i := 6) (v := .agg #[.int .i64 (h % 4), .slice A3 (n - 2) c3]) rfl (by kernel_rfl) (by kernel_rfl) (by kernel_rfl) (fun _ _ _ h => h) (Av.yields_part (by first | rfl | go_simp) _ _ rfl (X1.heap.size) 0 rfl #[.int .i64 (h % 4), .slice A3 (n - 2) c3] _ 24 #[.int .i64 (h % 4), .slice A3 (n - 2) c3] (fun w9 hSw => hSw) rfl Try.underlying24 rfl (by kernel_rfl)) (by assumption) ?_
          simp only [List.getElem_toArray, List.getElem_cons_zero, List.getElem_cons_succ, Act.put, List.setIfInBounds_toArray, List.set_cons_zero, List.set_cons_succ]
          refine wpAnyH_ready (rs := [1]) (by kernel_rfl) (by simp) ?_
          refine AllReadyH.cons rfl (fun K hK => ?_) (AllReadyH.nil)
          go_simp
          refine (HB.out 3 8 (.inl ⟨rfl, rfl⟩) Y0 K1 TT).mono ?_
          rintro e X9 ⟨rfl, rfl⟩
          refine hK.out _ _ K6 (fun hHeld => ?_)
          clear hK K
          try simp only [List.getElem_toArray, List.getElem_cons_zero, List.getElem_cons_succ, Act.put, List.setIfInBounds_toArray, List.set_cons_zero, List.set_cons_succ]
          refine wpAnyH_ready (rs := [3]) (by kernel_rfl) (by simp) ?_
          refine AllReadyH.cons rfl (fun K hK => ?_) (AllReadyH.nil)
          go_simp
          refine (HB.out 2 4 (.inr (.inl ⟨rfl, rfl⟩)) Y0 K1 TT).mono ?_
          rintro e X9 ⟨rfl, rfl⟩
          refine hK.out _ _ K6 (fun hHeld => ?_)
          clear hK K
          try simp only [List.getElem_toArray, List.getElem_cons_zero, List.getElem_cons_succ, Act.put, List.setIfInBounds_toArray, List.set_cons_zero, List.set_cons_succ]
          refine wpAnyH_ready (rs := [5]) (by kernel_rfl) (by simp) ?_
          refine AllReadyH.cons rfl (fun K hK => ?_) (AllReadyH.nil)
          go_simp
          refine (HB.out 4 16 (.inr (.inr ⟨rfl, rfl⟩)) Y0 K1 TT).mono ?_
          rintro e X9 ⟨rfl, rfl⟩
          refine hK.out _ _ K6 (fun hHeld => ?_)
          clear hK K
          try simp only [List.getElem_toArray, List.getElem_cons_zero, List.getElem_cons_succ, Act.put, List.setIfInBounds_toArray, List.set_cons_zero, List.set_cons_succ]
          refine wpAnyH_take (i := 7) (v := .agg #[.int .i64 (h / 8 % 2), .int .i64 (h / 4 % 2), .int .i64 (h / 16 % 2), .int .i64 (h % 4), .slice A3 (n - 2) c3]) rfl (by kernel_rfl) (by kernel_rfl) (by kernel_rfl) (fun _ _ _ h => h) (Or.inl ⟨by first | rfl | go_simp, by intro w9 hSw; (try dsimp only at hSw); go_simp⟩) (by assumption) ?_
          simp only [List.getElem_toArray, List.getElem_cons_zero, List.getElem_cons_succ, Act.put, List.setIfInBounds_toArray, List.set_cons_zero, List.set_cons_succ]
          refine wpAnyH_ready (rs := [8]) (by kernel_rfl) (by simp) ?_
          refine AllReadyH.cons rfl (fun K hK => ?_) (AllReadyH.nil)
          have H9 : (#[.int .i64 (h / 8 % 2), .int .i64 (h / 4 % 2), .int .i64 (h / 16 % 2), .int .i64 (h % 4), .slice A3 (n - 2) c3] : Array Value).all (·.oneCell') = true := by rw [← Array.all_toList]; rfl
          refine Av.step_store_row rfl 26 (.tmp 2) (.tmp 30) rfl (w.heap.size + 1) #[.int .i64 (h / 8 % 2), .int .i64 (h / 4 % 2), .int .i64 (h / 16 % 2), .int .i64 (h % 4), .slice A3 (n - 2) c3] rfl rfl 26 _ K2 (by kernel_rfl) rfl H9 ?_
          replace H3 := own_setRow H3 K2 (by decide) #[.int .i64 (h / 8 % 2), .int .i64 (h / 4 % 2), .int .i64 (h / 16 % 2), .int .i64 (h % 4), .slice A3 (n - 2) c3]
          replace TT := (cell_setRow_other Y0 (w.heap.size + 1) #[.int .i64 (h / 8 % 2), .int .i64 (h / 4 % 2), .int .i64 (h / 16 % 2), .int .i64 (h % 4), .slice A3 (n - 2) c3] ⟨b, off, none⟩ (show b ≠ w.heap.size + 1 by omega)).trans TT
          replace K1 : Blk (Y0.setRow (w.heap.size + 1) #[.int .i64 (h / 8 % 2), .int .i64 (h / 4 % 2), .int .i64 (h / 16 % 2), .int .i64 (h % 4), .slice A3 (n - 2) c3]) (w.heap.size) 22 #[.slice (some ⟨b, off, none⟩) n c] := Av.bother_row K1 (by omega)
          replace K2 : Blk (Y0.setRow (w.heap.size + 1) #[.int .i64 (h / 8 % 2), .int .i64 (h / 4 % 2), .int .i64 (h / 16 % 2), .int .i64 (h % 4), .slice A3 (n - 2) c3]) (w.heap.size + 1) 26 #[.int .i64 (h / 8 % 2), .int .i64 (h / 4 % 2), .int .i64 (h / 16 % 2), .int .i64 (h % 4), .slice A3 (n - 2) c3] := Av.bset_row K2
          replace K6 : Blk (Y0.setRow (w.heap.size + 1) #[.int .i64 (h / 8 % 2), .int .i64 (h / 4 % 2), .int .i64 (h / 16 % 2), .int .i64 (h % 4), .slice A3 (n - 2) c3]) (X1.heap.size) 24 #[.int .i64 (h % 4), .slice A3 (n - 2) c3] := Av.bother_row K6 (by omega)
          replace BX : Below w.heap.size w (Y0.setRow (w.heap.size + 1) #[.int .i64 (h / 8 % 2), .int .i64 (h / 4 % 2), .int .i64 (h / 16 % 2), .int .i64 (h % 4), .slice A3 (n - 2) c3]) := below_setRow BX (by omega) _
          clear H9
          generalize Y0.setRow (w.heap.size + 1) #[.int .i64 (h / 8 % 2), .int .i64 (h / 4 % 2), .int .i64 (h / 16 % 2), .int .i64 (h % 4), .slice A3 (n - 2) c3] = Y4 at *
          refine hK.out _ _ K6 (fun hHeld => ?_)
          clear hK K
          try simp only [List.getElem_toArray, List.getElem_cons_zero, List.getElem_cons_succ, Act.put, List.setIfInBounds_toArray, List.set_cons_zero, List.set_cons_succ]
          refine wpAnyH_take (i := 9) (v := .int .i64 0) rfl (by kernel_rfl) (by kernel_rfl) (by kernel_rfl) (fun _ _ _ h => h) (Or.inl ⟨by first | rfl | go_simp, by intro w9 hSw; (try dsimp only at hSw); go_simp⟩) (by assumption) ?_
          simp only [List.getElem_toArray, List.getElem_cons_zero, List.getElem_cons_succ, Act.put, List.setIfInBounds_toArray, List.set_cons_zero, List.set_cons_succ]
          refine wpAnyH_done (by kernel_rfl) ?_ _
          go_wp2_with fail
          refine bodyPost_ret (v := .tuple #[.agg #[.int .i64 (h / 8 % 2), .int .i64 (h / 4 % 2), .int .i64 (h / 16 % 2), .int .i64 (h % 4), .slice A3 (n - 2) c3], .int .i64 0]) ?_ rfl ⟨_, rfl, by rw [HRl.out]; exact own_base H3 (by omega), BX⟩
          clear hHeld
          have HL := run_loadVar_row (P := Try.prog) Y4 (w.heap.size + 1) 26 26 #[.int .i64 (h / 8 % 2), .int .i64 (h / 4 % 2), .int .i64 (h / 16 % 2), .int .i64 (h % 4), .slice A3 (n - 2) c3] (0, 0) _ K2 Try.underlying26 rfl (by kernel_rfl)
          generalize (#[.int .i64 (h / 8 % 2), .int .i64 (h / 4 % 2), .int .i64 (h / 16 % 2), .int .i64 (h % 4), .slice A3 (n - 2) c3] : Array Value) = CS at *
          simp [results, show (Try.f21).results = #[.cell 2 26, .slot 3] from rfl, asAddr, HL, Act.put]
        · skip
          go_simp
          have b9 := (Below.refl X0.heap.size X0).alloc (Nat.le_refl _) (.cells #[.int .i64 0, .slice none 0 0] 24)
          have K6 := Blk.fresh X0 24 #[.int .i64 0, .slice none 0 0]
          have hg6 : w.heap.size + 2 ≤ X0.heap.size := K2.lt
          generalize X0.alloc (.cells #[.int .i64 0, .slice none 0 0] 24) = X4 at *
          replace K1 := K1.below b9 K1.lt
          replace K2 := K2.below b9 K2.lt
          replace BX := Base.thenB BX b9
          replace TT := (b9.cell (p := ⟨b, off, none⟩) (by show b < _; have := BX.size; omega)).trans TT
          clear b9
          refine hK.out _ _ ⟨K1, TT⟩ (fun hHeld => ?_)
          clear hK K
          try simp only [List.getElem_toArray, List.getElem_cons_zero, List.getElem_cons_succ, Act.put, List.setIfInBounds_toArray, List.set_cons_zero, List.set_cons_succ]
          refine wpAnyH_ready (rs := [7]) (by kernel_rfl) (by simp) ?_
          refine AllReadyH.cons rfl (fun K hK => ?_) (AllReadyH.nil)
          go_simp
          have hq8 : w.heap.size + 2 ≤ X4.heap.size := K2.lt
          refine (HR.out X4 BX).mono ?_
          rintro e X5 ⟨V3, rfl, H3, b9⟩
          obtain ⟨A3, c3, rfl⟩ := own_form H3
          replace H3 := own_base H3 hq8
          replace K1 := K1.below b9 K1.lt
          replace K2 := K2.below b9 K2.lt
          replace K6 := K6.below b9 K6.lt
          replace BX := Base.thenB BX b9
          replace TT := (b9.cell (p := ⟨b, off, none⟩) (by show b < _; have := BX.size; omega)).trans TT
          clear b9
          refine hK.out _ _ ⟨K1, TT⟩ (fun hHeld => ?_)
          clear hK K
          try simp only [List.getElem_toArray, List.getElem_cons_zero, List.getElem_cons_succ, Act.put, List.setIfInBounds_toArray, List.set_cons_zero, List.set_cons_succ]
          refine wpAnyH_take (i := 8) (v := .agg #[.int .i64 (h % 4), .slice A3 (n - 2) c3]) rfl (by kernel_rfl) (by kernel_rfl) (by kernel_rfl) (fun _ _ _ h => h) (Or.inl ⟨by first | rfl | go_simp, by intro w9 hSw; (try dsimp only at hSw); go_simp⟩) (by assumption) ?_
          simp only [List.getElem_toArray, List.getElem_cons_zero, List.getElem_cons_succ, Act.put, List.setIfInBounds_toArray, List.set_cons_zero, List.set_cons_succ]
          refine wpAnyH_ready (rs := [10]) (by kernel_rfl) (by simp) ?_
          refine AllReadyH.cons rfl (fun K hK => ?_) (AllReadyH.nil)
          have H9 : (#[.int .i64 (h % 4), .slice A3 (n - 2) c3] : Array Value).all (·.oneCell') = true := by rw [← Array.all_toList]; rfl
          refine Av.step_store_row rfl 24 (.tmp 6) (.tmp 22) rfl (X0.heap.size) #[.int .i64 (h % 4), .slice A3 (n - 2) c3] rfl rfl 24 _ K6 (by kernel_rfl) rfl H9 ?_
          replace TT := (cell_setRow_other X5 (X0.heap.size) #[.int .i64 (h % 4), .slice A3 (n - 2) c3] ⟨b, off, none⟩ (show b ≠ X0.heap.size by omega)).trans TT
          replace H3 := own_setRow H3 K6 (by decide) #[.int .i64 (h % 4), .slice A3 (n - 2) c3]
          replace K1 : Blk (X5.setRow (X0.heap.size) #[.int .i64 (h % 4), .slice A3 (n - 2) c3]) (w.heap.size) 22 #[.slice (some ⟨b, off, none⟩) n c] := Av.bother_row K1 (by omega)
          replace K2 : Blk (X5.setRow (X0.heap.size) #[.int .i64 (h % 4), .slice A3 (n - 2) c3]) (w.heap.size + 1) 26 #[.int .i64 0, .int .i64 0, .int .i64 0, .int .i64 0, .slice none 0 0] := Av.bother_row K2 (by omega)
          replace K6 : Blk (X5.setRow (X0.heap.size) #[.int .i64 (h % 4), .slice A3 (n - 2) c3]) (X0.heap.size) 24 #[.int .i64 (h % 4), .slice A3 (n - 2) c3] := Av.bset_row K6
          replace BX : Below w.heap.size w (X5.setRow (X0.heap.size) #[.int .i64 (h % 4), .slice A3 (n - 2) c3]) := below_setRow BX (by omega) _
          clear H9
          generalize X5.setRow (X0.heap.size) #[.int .i64 (h % 4), .slice A3 (n - 2) c3] = X6 at *
          refine hK.out _ _ ⟨K1, TT⟩ (fun hHeld => ?_)
          clear hK K
          try simp only [List.getElem_toArray, List.getElem_cons_zero, List.getElem_cons_succ, Act.put, List.setIfInBounds_toArray, List.set_cons_zero, List.set_cons_succ]
          refine wpAnyH_done (by kernel_rfl) ?_ _
          go_upto_region 6 with (fail)
          have K1' : Blk X6.drew (w.heap.size) 22 #[.slice (some ⟨b, off, none⟩) n c] := Mem.Blk.drew K1
          have K2' : Blk X6.drew (w.heap.size + 1) 26 #[.int .i64 0, .int .i64 0, .int .i64 0, .int .i64 0, .slice none 0 0] := Mem.Blk.drew K2
          have K6' : Blk X6.drew (X0.heap.size) 24 #[.int .i64 (h % 4), .slice A3 (n - 2) c3] := Mem.Blk.drew K6
          refine wp_region_held_drew (S := (fun w' => Blk w' (X0.heap.size) 24 #[.int .i64 (h % 4), .slice A3 (n - 2) c3])) (by kernel_rfl) ?_ (fun hHeld => ?_)
          · exact K6'
          replace K1 := K1'
          clear K1'
          replace K2 := K2'
          clear K2'
          replace K6 := K6'
          clear K6'
          replace BX : Below w.heap.size w X6.drew := BX.drew
          replace H3 := (show X6.drew.ownsRow (w.heap.size + 2) 5 1 (.slice A3 (n - 2) c3) (n - 2) (r.map (Value.int .u8)) from H3)
          replace TT := (show X6.drew.cell? ⟨b, off, none⟩ = _ from TT)
          generalize X6.drew = Y0 at *
          refine wpAnyH_take (i := 0) (v := .func (.func 49) #[] #[.pointer (some ⟨w.heap.size, 0, none⟩)]) rfl (by kernel_rfl) (by kernel_rfl) (by kernel_rfl) (fun _ _ _ h => h) (Or.inl ⟨by first | rfl | go_simp, by intro w9 hSw; (try dsimp only at hSw); go_simp⟩) (by assumption) ?_
          simp only [List.getElem_toArray, List.getElem_cons_zero, List.getElem_cons_succ, Act.put, List.setIfInBounds_toArray, List.set_cons_zero, List.set_cons_succ]
          refine wpAnyH_take (i := 2) (v := .func (.func 49) #[] #[.pointer (some ⟨w.heap.size, 0, none⟩)]) rfl (by kernel_rfl) (by kernel_rfl) (by kernel_rfl) (fun _ _ _ h => h) (Or.inl ⟨by first | rfl | go_simp, by intro w9 hSw; (try dsimp only at hSw); go_simp⟩) (by assumption) ?_
          simp only [List.getElem_toArray, List.getElem_cons_zero, List.getElem_cons_succ, Act.put, List.setIfInBounds_toArray, List.set_cons_zero, List.set_cons_succ]
          refine wpAnyH_take (i := 4) (v := .func (.func 49) #[] #[.pointer (some ⟨w.heap.size, 0, none⟩)]) rfl (by kernel_rfl) (by kernel_rfl) (by kernel_rfl) (fun _ _ _ h => h) (Or.inl ⟨by first | rfl | go_simp, by intro w9 hSw; (try dsimp only at hSw); go_simp⟩) (by assumption) ?_
          simp only [List.getElem_toArray, List.getElem_cons_zero, List.getElem_cons_succ, Act.put, List.setIfInBounds_toArray, List.set_cons_zero, List.set_cons_succ]
          refine wpAnyH_take (i := 6) (v := .agg #[.int .i64 (h % 4), .slice A3 (n - 2) c3]) rfl (by kernel_rfl) (by kernel_rfl) (by kernel_rfl) (fun _ _ _ h => h) (Av.yields_part (by first | rfl | go_simp) _ _ rfl (X0.heap.size) 0 rfl #[.int .i64 (h % 4), .slice A3 (n - 2) c3] _ 24 #[.int .i64 (h % 4), .slice A3 (n - 2) c3] (fun w9 hSw => hSw) rfl Try.underlying24 rfl (by kernel_rfl)) (by assumption) ?_
          simp only [List.getElem_toArray, List.getElem_cons_zero, List.getElem_cons_succ, Act.put, List.setIfInBounds_toArray, List.set_cons_zero, List.set_cons_succ]
          refine wpAnyH_ready (rs := [1]) (by kernel_rfl) (by simp) ?_
          refine AllReadyH.cons rfl (fun K hK => ?_) (AllReadyH.nil)
          go_simp
          refine (HB.out 3 8 (.inl ⟨rfl, rfl⟩) Y0 K1 TT).mono ?_
          rintro e X9 ⟨rfl, rfl⟩
          refine hK.out _ _ K6 (fun hHeld => ?_)
          clear hK K
          try simp only [List.getElem_toArray, List.getElem_cons_zero, List.getElem_cons_succ, Act.put, List.setIfInBounds_toArray, List.set_cons_zero, List.set_cons_succ]
          refine wpAnyH_ready (rs := [3]) (by kernel_rfl) (by simp) ?_
          refine AllReadyH.cons rfl (fun K hK => ?_) (AllReadyH.nil)
          go_simp
          refine (HB.out 2 4 (.inr (.inl ⟨rfl, rfl⟩)) Y0 K1 TT).mono ?_
          rintro e X9 ⟨rfl, rfl⟩
          refine hK.out _ _ K6 (fun hHeld => ?_)
          clear hK K
          try simp only [List.getElem_toArray, List.getElem_cons_zero, List.getElem_cons_succ, Act.put, List.setIfInBounds_toArray, List.set_cons_zero, List.set_cons_succ]
          refine wpAnyH_ready (rs := [5]) (by kernel_rfl) (by simp) ?_
          refine AllReadyH.cons rfl (fun K hK => ?_) (AllReadyH.nil)
          go_simp
          refine (HB.out 4 16 (.inr (.inr ⟨rfl, rfl⟩)) Y0 K1 TT).mono ?_
          rintro e X9 ⟨rfl, rfl⟩
          refine hK.out _ _ K6 (fun hHeld => ?_)
          clear hK K
          try simp only [List.getElem_toArray, List.getElem_cons_zero, List.getElem_cons_succ, Act.put, List.setIfInBounds_toArray, List.set_cons_zero, List.set_cons_succ]
          refine wpAnyH_take (i := 7) (v := .agg #[.int .i64 (h / 8 % 2), .int .i64 (h / 4 % 2), .int .i64 (h / 16 % 2), .int .i64 (h % 4), .slice A3 (n - 2) c3]) rfl (by kernel_rfl) (by kernel_rfl) (by kernel_rfl) (fun _ _ _ h => h) (Or.inl ⟨by first | rfl | go_simp, by intro w9 hSw; (try dsimp only at hSw); go_simp⟩) (by assumption) ?_
          simp only [List.getElem_toArray, List.getElem_cons_zero, List.getElem_cons_succ, Act.put, List.setIfInBounds_toArray, List.set_cons_zero, List.set_cons_succ]
          refine wpAnyH_ready (rs := [8]) (by kernel_rfl) (by simp) ?_
          refine AllReadyH.cons rfl (fun K hK => ?_) (AllReadyH.nil)
          have H9 : (#[.int .i64 (h / 8 % 2), .int .i64 (h / 4 % 2), .int .i64 (h / 16 % 2), .int .i64 (h % 4), .slice A3 (n - 2) c3] : Array Value).all (·.oneCell') = true := by rw [← Array.all_toList]; rfl
          refine Av.step_store_row rfl 26 (.tmp 2) (.tmp 30) rfl (w.heap.size + 1) #[.int .i64 (h / 8 % 2), .int .i64 (h / 4 % 2), .int .i64 (h / 16 % 2), .int .i64 (h % 4), .slice A3 (n - 2) c3] rfl rfl 26 _ K2 (by kernel_rfl) rfl H9 ?_
          replace H3 := own_setRow H3 K2 (by decide) #[.int .i64 (h / 8 % 2), .int .i64 (h / 4 % 2), .int .i64 (h / 16 % 2), .int .i64 (h % 4), .slice A3 (n - 2) c3]
          replace TT := (cell_setRow_other Y0 (w.heap.size + 1) #[.int .i64 (h / 8 % 2), .int .i64 (h / 4 % 2), .int .i64 (h / 16 % 2), .int .i64 (h % 4), .slice A3 (n - 2) c3] ⟨b, off, none⟩ (show b ≠ w.heap.size + 1 by omega)).trans TT
          replace K1 : Blk (Y0.setRow (w.heap.size + 1) #[.int .i64 (h / 8 % 2), .int .i64 (h / 4 % 2), .int .i64 (h / 16 % 2), .int .i64 (h % 4), .slice A3 (n - 2) c3]) (w.heap.size) 22 #[.slice (some ⟨b, off, none⟩) n c] := Av.bother_row K1 (by omega)
          replace K2 : Blk (Y0.setRow (w.heap.size + 1) #[.int .i64 (h / 8 % 2), .int .i64 (h / 4 % 2), .int .i64 (h / 16 % 2), .int .i64 (h % 4), .slice A3 (n - 2) c3]) (w.heap.size + 1) 26 #[.int .i64 (h / 8 % 2), .int .i64 (h / 4 % 2), .int .i64 (h / 16 % 2), .int .i64 (h % 4), .slice A3 (n - 2) c3] := Av.bset_row K2
          replace K6 : Blk (Y0.setRow (w.heap.size + 1) #[.int .i64 (h / 8 % 2), .int .i64 (h / 4 % 2), .int .i64 (h / 16 % 2), .int .i64 (h % 4), .slice A3 (n - 2) c3]) (X0.heap.size) 24 #[.int .i64 (h % 4), .slice A3 (n - 2) c3] := Av.bother_row K6 (by omega)
          replace BX : Below w.heap.size w (Y0.setRow (w.heap.size + 1) #[.int .i64 (h / 8 % 2), .int .i64 (h / 4 % 2), .int .i64 (h / 16 % 2), .int .i64 (h % 4), .slice A3 (n - 2) c3]) := below_setRow BX (by omega) _
          clear H9
          generalize Y0.setRow (w.heap.size + 1) #[.int .i64 (h / 8 % 2), .int .i64 (h / 4 % 2), .int .i64 (h / 16 % 2), .int .i64 (h % 4), .slice A3 (n - 2) c3] = Y4 at *
          refine hK.out _ _ K6 (fun hHeld => ?_)
          clear hK K
          try simp only [List.getElem_toArray, List.getElem_cons_zero, List.getElem_cons_succ, Act.put, List.setIfInBounds_toArray, List.set_cons_zero, List.set_cons_succ]
          refine wpAnyH_take (i := 9) (v := .int .i64 0) rfl (by kernel_rfl) (by kernel_rfl) (by kernel_rfl) (fun _ _ _ h => h) (Or.inl ⟨by first | rfl | go_simp, by intro w9 hSw; (try dsimp only at hSw); go_simp⟩) (by assumption) ?_
          simp only [List.getElem_toArray, List.getElem_cons_zero, List.getElem_cons_succ, Act.put, List.setIfInBounds_toArray, List.set_cons_zero, List.set_cons_succ]
          refine wpAnyH_done (by kernel_rfl) ?_ _
          go_wp2_with fail
          refine bodyPost_ret (v := .tuple #[.agg #[.int .i64 (h / 8 % 2), .int .i64 (h / 4 % 2), .int .i64 (h / 16 % 2), .int .i64 (h % 4), .slice A3 (n - 2) c3], .int .i64 0]) ?_ rfl ⟨_, rfl, by rw [HRl.out]; exact own_base H3 (by omega), BX⟩
          clear hHeld
          have HL := run_loadVar_row (P := Try.prog) Y4 (w.heap.size + 1) 26 26 #[.int .i64 (h / 8 % 2), .int .i64 (h / 4 % 2), .int .i64 (h / 16 % 2), .int .i64 (h % 4), .slice A3 (n - 2) c3] (0, 0) _ K2 Try.underlying26 rfl (by kernel_rfl)
          generalize (#[.int .i64 (h / 8 % 2), .int .i64 (h / 4 % 2), .int .i64 (h / 16 % 2), .int .i64 (h % 4), .slice A3 (n - 2) c3] : Array Value) = CS at *
          simp [results, show (Try.f21).results = #[.cell 2 26, .slot 3] from rfl, asAddr, HL, Act.put]
      · skip
        have HB := Lib.hid (fun (num p : Int) (hn : num = 3 ∧ p = 8 ∨ num = 2 ∧ p = 4 ∨ num = 4 ∧ p = 16) (W : World) (K : Blk W w.heap.size 22 #[.slice (some ⟨b, off, none⟩) n c]) (T : W.cell? ⟨b, off, none⟩ = some (.int .u8 h)) => bit_any num p 0 h z b off n c w.heap.size W hn bh (by simp at hx; omega) K T)
        obtain ⟨y, hy⟩ : ∃ y : Fin 256, (y.val : Int) = h := of_fin (by omega)
        have q1 := and_3 y
        rw [hy] at q1
        have g1 : (0 : Int) < (n : Int) ∧ (2 : Int) ≤ (n : Int) ∧ 2 ≤ n ∧ 0 < n ∧ ¬ n = 0 := by simp at hx; omega
        have e4 : IntKind.i64.wrap (h % 4) = h % 4 := by rw [IntWalk.i64_in _ (by omega)]
        have HV : Hid (decR (h :: z :: r) = (⟨h / 8 % 2, h / 4 % 2, h / 16 % 2, (h % 4, r)⟩, 0)) := HO
        rw [HV.out]
        have HRl : Hid (r.length = n - 2) := Lib.hid (by simp at hx; omega)
        have hcut := hr.cut (c := c) (i := 2) (by simp) (by rw [hx]; exact hnc)
        have hcut : Ints .u8 w w.heap.size (some ⟨b, off + 2, none⟩) r := by rw [if_neg hc2] at hcut; exact hcut
        have hcc : (c = 2) = False := by simp [hc2]
        clear hc2
        have HR : Hid (∀ W, Below w.heap.size w W → Calls Try.prog 50 #[.slice (some ⟨b, off + 2, none⟩) (n - 2) (c - 2)] W fun e w' => ∃ V', e = .returned V' ∧ w'.ownsRow W.heap.size 5 1 V' (n - 2) (r.map (Value.int .u8)) ∧ Below W.heap.size W w') := Lib.hid fun W b => bclone _ _ 0 r W HRl.out (by omega) (Row.of_cells (by omega) (of_ints (Base.later hcut b)))
        clear hcut hr hc bx hx hnc h0 HO hy y
        go_enter Try.func21, Try.ntmps21
        go_upto_region 2 with (go_at_call 48; refine (HF.out _ B0).mono ?_; rintro e w2 ⟨rfl, b2⟩)
        replace K2 := K2.below b2 K2.lt
        replace K1 := K1.below b2 K1.lt
        have BX := thenB B0 b2
        have TT := (BX.cell (p := ⟨b, off, none⟩) hb).trans c0
        have k1 := K1.cell 0
        go_upto_region 5 with (fail)
        have K1' : Blk w2.drew (w.heap.size) 22 #[.slice (some ⟨b, off, none⟩) n c] := Mem.Blk.drew K1
        have K2' : Blk w2.drew (w.heap.size + 1) 26 #[.int .i64 0, .int .i64 0, .int .i64 0, .int .i64 0, .slice none 0 0] := Mem.Blk.drew K2
        refine wp_region_held_drew (S := (fun w' => Blk w' (w.heap.size) 22 #[.slice (some ⟨b, off, none⟩) n c] ∧ w'.cell? ⟨b, off, none⟩ = some (.int .u8 h))) (by kernel_rfl) ?_ (fun hHeld => ?_)
        · exact ⟨K1', TT⟩
        replace K1 := K1'
        clear K1'
        replace K2 := K2'
        clear K2'
        replace BX : Below w.heap.size w w2.drew := BX.drew
        replace TT := (show w2.drew.cell? ⟨b, off, none⟩ = _ from TT)
        replace TT : w2.drew.cell? ⟨b, off, none⟩ = some (.int .u8 h) := TT
        generalize w2.drew = X0 at *
        refine wpAnyH_take (i := 0) (v := .slice (some ⟨b, off, none⟩) n c) rfl (by kernel_rfl) (by kernel_rfl) (by kernel_rfl) (fun _ _ _ h => h) (Or.inl ⟨by first | rfl | go_simp, by intro w9 hSw; (try dsimp only at hSw); have c9 := hSw.1.cell 0; clear hSw; go_simp⟩) (by assumption) ?_
        simp only [List.getElem_toArray, List.getElem_cons_zero, List.getElem_cons_succ, Act.put, List.setIfInBounds_toArray, List.set_cons_zero, List.set_cons_succ]
        refine wpAnyH_take (i := 1) (v := .pointer (some ⟨b, off, none⟩)) rfl (by kernel_rfl) (by kernel_rfl) (by kernel_rfl) (fun _ _ _ h => h) (Or.inl ⟨by first | rfl | go_simp, by intro w9 hSw; (try dsimp only at hSw); go_simp⟩) (by assumption) ?_
        simp only [List.getElem_toArray, List.getElem_cons_zero, List.getElem_cons_succ, Act.put, List.setIfInBounds_toArray, List.set_cons_zero, List.set_cons_succ]
        refine wpAnyH_take (i := 2) (v := .int .u8 h) rfl (by kernel_rfl) (by kernel_rfl) (by kernel_rfl) (fun _ _ _ h => h) (Or.inl ⟨by first | rfl | go_simp, by intro w9 hSw; (try dsimp only at hSw); go_simp⟩) (by assumption) ?_
        simp only [List.getElem_toArray, List.getElem_cons_zero, List.getElem_cons_succ, Act.put, List.setIfInBounds_toArray, List.set_cons_zero, List.set_cons_succ]
        refine wpAnyH_take (i := 3) (v := .int .u8 (h % 4)) rfl (by kernel_rfl) (by kernel_rfl) (by kernel_rfl) (fun _ _ _ h => h) (Or.inl ⟨by first | rfl | go_simp, by intro w9 hSw; (try dsimp only at hSw); go_simp⟩) (by assumption) ?_
        simp only [List.getElem_toArray, List.getElem_cons_zero, List.getElem_cons_succ, Act.put, List.setIfInBounds_toArray, List.set_cons_zero, List.set_cons_succ]
        refine wpAnyH_take (i := 4) (v := .int .i64 (h % 4)) rfl (by kernel_rfl) (by kernel_rfl) (by kernel_rfl) (fun _ _ _ h => h) (Or.inl ⟨by first | rfl | go_simp, by intro w9 hSw; (try dsimp only at hSw); go_simp⟩) (by assumption) ?_
        simp only [List.getElem_toArray, List.getElem_cons_zero, List.getElem_cons_succ, Act.put, List.setIfInBounds_toArray, List.set_cons_zero, List.set_cons_succ]
        refine wpAnyH_take (i := 5) (v := .slice (some ⟨b, off, none⟩) n c) rfl (by kernel_rfl) (by kernel_rfl) (by kernel_rfl) (fun _ _ _ h => h) (Or.inl ⟨by first | rfl | go_simp, by intro w9 hSw; (try dsimp only at hSw); have c9 := hSw.1.cell 0; clear hSw; go_simp⟩) (by assumption) ?_
        simp only [List.getElem_toArray, List.getElem_cons_zero, List.getElem_cons_succ, Act.put, List.setIfInBounds_toArray, List.set_cons_zero, List.set_cons_succ]
        refine wpAnyH_take (i := 6) (v := .slice (some ⟨b, off + 2, none⟩) (n - 2) (c - 2)) rfl (by kernel_rfl) (by kernel_rfl) (by kernel_rfl) (fun _ _ _ h => h) (Or.inl ⟨by first | rfl | go_simp, by intro w9 hSw; (try dsimp only at hSw); go_simp⟩) (by assumption) ?_
        simp only [List.getElem_toArray, List.getElem_cons_zero, List.getElem_cons_succ, Act.put, List.setIfInBounds_toArray, List.set_cons_zero, List.set_cons_succ]
        refine wpAnyH_ready (rs := [7, 9]) (by kernel_rfl) (by simp) ?_
        refine AllReadyH.cons rfl (fun K hK => ?_) (AllReadyH.cons rfl (fun K hK => ?_) (AllReadyH.nil))
        · skip
          go_simp
          have hq8 : w.heap.size + 2 ≤ X0.heap.size := K2.lt
          refine (HR.out X0 BX).mono ?_
          rintro e X1 ⟨V3, rfl, H3, b9⟩
          obtain ⟨A3, c3, rfl⟩ := own_form H3
          replace H3 := own_base H3 hq8
          replace K1 := K1.below b9 K1.lt
          replace K2 := K2.below b9 K2.lt
          replace BX := Base.thenB BX b9
          replace TT := (b9.cell (p := ⟨b, off, none⟩) (by show b < _; have := BX.size; omega)).trans TT
          clear b9
          refine hK.out _ _ ⟨K1, TT⟩ (fun hHeld => ?_)
          clear hK K
          try simp only [List.getElem_toArray, List.getElem_cons_zero, List.getElem_cons_succ, Act.put, List.setIfInBounds_toArray, List.set_cons_zero, List.set_cons_succ]
          refine wpAnyH_take (i := 8) (v := .agg #[.int .i64 (h % 4), .slice A3 (n - 2) c3]) rfl (by kernel_rfl) (by kernel_rfl) (by kernel_rfl) (fun _ _ _ h => h) (Or.inl ⟨by first | rfl | go_simp, by intro w9 hSw; (try dsimp only at hSw); go_simp⟩) (by assumption) ?_
          simp only [List.getElem_toArray, List.getElem_cons_zero, List.getElem_cons_succ, Act.put, List.setIfInBounds_toArray, List.set_cons_zero, List.set_cons_succ]
          refine wpAnyH_ready (rs := [9]) (by kernel_rfl) (by simp) ?_
          refine AllReadyH.cons rfl (fun K hK => ?_) (AllReadyH.nil)
          go_simp
          have b9 := (Below.refl X1.heap.size X1).alloc (Nat.le_refl _) (.cells #[.int .i64 0, .slice none 0 0] 24)
          have K6 := Blk.fresh X1 24 #[.int .i64 0, .slice none 0 0]
          have hg6 : w.heap.size + 2 ≤ X1.heap.size := K2.lt
          generalize X1.alloc (.cells #[.int .i64 0, .slice none 0 0] 24) = X2 at *
          replace K1 := K1.below b9 K1.lt
          replace K2 := K2.below b9 K2.lt
          replace BX := Base.thenB BX b9
          replace TT := (b9.cell (p := ⟨b, off, none⟩) (by show b < _; have := BX.size; omega)).trans TT
          replace H3 := own_below H3 b9
          clear b9
          refine hK.out _ _ ⟨K1, TT⟩ (fun hHeld => ?_)
          clear hK K
          try simp only [List.getElem_toArray, List.getElem_cons_zero, List.getElem_cons_succ, Act.put, List.setIfInBounds_toArray, List.set_cons_zero, List.set_cons_succ]
          refine wpAnyH_ready (rs := [10]) (by kernel_rfl) (by simp) ?_
          refine AllReadyH.cons rfl (fun K hK => ?_) (AllReadyH.nil)
          have H9 : (#[.int .i64 (h % 4), .slice A3 (n - 2) c3] : Array Value).all (·.oneCell') = true := by rw [← Array.all_toList]; rfl
          refine Av.step_store_row rfl 24 (.tmp 6) (.tmp 22) rfl (X1.heap.size) #[.int .i64 (h % 4), .slice A3 (n - 2) c3] rfl rfl 24 _ K6 (by kernel_rfl) rfl H9 ?_
          replace TT := (cell_setRow_other X2 (X1.heap.size) #[.int .i64 (h % 4), .slice A3 (n - 2) c3] ⟨b, off, none⟩ (show b ≠ X1.heap.size by omega)).trans TT
          replace H3 := own_setRow H3 K6 (by decide) #[.int .i64 (h % 4), .slice A3 (n - 2) c3]
          replace K1 : Blk (X2.setRow (X1.heap.size) #[.int .i64 (h % 4), .slice A3 (n - 2) c3]) (w.heap.size) 22 #[.slice (some ⟨b, off, none⟩) n c] := Av.bother_row K1 (by omega)
          replace K2 : Blk (X2.setRow (X1.heap.size) #[.int .i64 (h % 4), .slice A3 (n - 2) c3]) (w.heap.size + 1) 26 #[.int .i64 0, .int .i64 0, .int .i64 0, .int .i64 0, .slice none 0 0] := Av.bother_row K2 (by omega)
          replace K6 : Blk (X2.setRow (X1.heap.size) #[.int .i64 (h % 4), .slice A3 (n - 2) c3]) (X1.heap.size) 24 #[.int .i64 (h % 4), .slice A3 (n - 2) c3] := Av.bset_row K6
          replace BX : Below w.heap.size w (X2.setRow (X1.heap.size) #[.int .i64 (h % 4), .slice A3 (n - 2) c3]) := below_setRow BX (by omega) _
          clear H9
          generalize X2.setRow (X1.heap.size) #[.int .i64 (h % 4), .slice A3 (n - 2) c3] = X3 at *
          refine hK.out _ _ ⟨K1, TT⟩ (fun hHeld => ?_)
          clear hK K
          try simp only [List.getElem_toArray, List.getElem_cons_zero, List.getElem_cons_succ, Act.put, List.setIfInBounds_toArray, List.set_cons_zero, List.set_cons_succ]
          refine wpAnyH_done (by kernel_rfl) ?_ _
          go_upto_region 6 with (fail)
          have K1' : Blk X3.drew (w.heap.size) 22 #[.slice (some ⟨b, off, none⟩) n c] := Mem.Blk.drew K1
          have K2' : Blk X3.drew (w.heap.size + 1) 26 #[.int .i64 0, .int .i64 0, .int .i64 0, .int .i64 0, .slice none 0 0] := Mem.Blk.drew K2
          have K6' : Blk X3.drew (X1.heap.size) 24 #[.int .i64 (h % 4), .slice A3 (n - 2) c3] := Mem.Blk.drew K6
          refine wp_region_held_drew (S := (fun w' => Blk w' (X1.heap.size) 24 #[.int .i64 (h % 4), .slice A3 (n - 2) c3])) (by kernel_rfl) ?_ (fun hHeld => ?_)
          · exact K6'
          replace K1 := K1'
          clear K1'
          replace K2 := K2'
          clear K2'
          replace K6 := K6'
          clear K6'
          replace BX : Below w.heap.size w X3.drew := BX.drew
          replace H3 := (show X3.drew.ownsRow (w.heap.size + 2) 5 1 (.slice A3 (n - 2) c3) (n - 2) (r.map (Value.int .u8)) from H3)
          replace TT := (show X3.drew.cell? ⟨b, off, none⟩ = _ from TT)
          generalize X3.drew = Y0 at *
          refine wpAnyH_take (i := 0) (v := .func (.func 49) #[] #[.pointer (some ⟨w.heap.size, 0, none⟩)]) rfl (by kernel_rfl) (by kernel_rfl) (by kernel_rfl) (fun _ _ _ h => h) (Or.inl ⟨by first | rfl | go_simp, by intro w9 hSw; (try dsimp only at hSw); go_simp⟩) (by assumption) ?_
          simp only [List.getElem_toArray, List.getElem_cons_zero, List.getElem_cons_succ, Act.put, List.setIfInBounds_toArray, List.set_cons_zero, List.set_cons_succ]
          refine wpAnyH_take (i := 2) (v := .func (.func 49) #[] #[.pointer (some ⟨w.heap.size, 0, none⟩)]) rfl (by kernel_rfl) (by kernel_rfl) (by kernel_rfl) (fun _ _ _ h => h) (Or.inl ⟨by first | rfl | go_simp, by intro w9 hSw; (try dsimp only at hSw); go_simp⟩) (by assumption) ?_
          simp only [List.getElem_toArray, List.getElem_cons_zero, List.getElem_cons_succ, Act.put, List.setIfInBounds_toArray, List.set_cons_zero, List.set_cons_succ]
          refine wpAnyH_take (i := 4) (v := .func (.func 49) #[] #[.pointer (some ⟨w.heap.size, 0, none⟩)]) rfl (by kernel_rfl) (by kernel_rfl) (by kernel_rfl) (fun _ _ _ h => h) (Or.inl ⟨by first | rfl | go_simp, by intro w9 hSw; (try dsimp only at hSw); go_simp⟩) (by assumption) ?_
          simp only [List.getElem_toArray, List.getElem_cons_zero, List.getElem_cons_succ, Act.put, List.setIfInBounds_toArray, List.set_cons_zero, List.set_cons_succ]
          refine wpAnyH_take (i := 6) (v := .agg #[.int .i64 (h % 4), .slice A3 (n - 2) c3]) rfl (by kernel_rfl) (by kernel_rfl) (by kernel_rfl) (fun _ _ _ h => h) (Av.yields_part (by first | rfl | go_simp) _ _ rfl (X1.heap.size) 0 rfl #[.int .i64 (h % 4), .slice A3 (n - 2) c3] _ 24 #[.int .i64 (h % 4), .slice A3 (n - 2) c3] (fun w9 hSw => hSw) rfl Try.underlying24 rfl (by kernel_rfl)) (by assumption) ?_
          simp only [List.getElem_toArray, List.getElem_cons_zero, List.getElem_cons_succ, Act.put, List.setIfInBounds_toArray, List.set_cons_zero, List.set_cons_succ]
          refine wpAnyH_ready (rs := [1]) (by kernel_rfl) (by simp) ?_
          refine AllReadyH.cons rfl (fun K hK => ?_) (AllReadyH.nil)
          go_simp
          refine (HB.out 3 8 (.inl ⟨rfl, rfl⟩) Y0 K1 TT).mono ?_
          rintro e X9 ⟨rfl, rfl⟩
          refine hK.out _ _ K6 (fun hHeld => ?_)
          clear hK K
          try simp only [List.getElem_toArray, List.getElem_cons_zero, List.getElem_cons_succ, Act.put, List.setIfInBounds_toArray, List.set_cons_zero, List.set_cons_succ]
          refine wpAnyH_ready (rs := [3]) (by kernel_rfl) (by simp) ?_
          refine AllReadyH.cons rfl (fun K hK => ?_) (AllReadyH.nil)
          go_simp
          refine (HB.out 2 4 (.inr (.inl ⟨rfl, rfl⟩)) Y0 K1 TT).mono ?_
          rintro e X9 ⟨rfl, rfl⟩
          refine hK.out _ _ K6 (fun hHeld => ?_)
          clear hK K
          try simp only [List.getElem_toArray, List.getElem_cons_zero, List.getElem_cons_succ, Act.put, List.setIfInBounds_toArray, List.set_cons_zero, List.set_cons_succ]
          refine wpAnyH_ready (rs := [5]) (by kernel_rfl) (by simp) ?_
          refine AllReadyH.cons rfl (fun K hK => ?_) (AllReadyH.nil)
          go_simp
          refine (HB.out 4 16 (.inr (.inr ⟨rfl, rfl⟩)) Y0 K1 TT).mono ?_
          rintro e X9 ⟨rfl, rfl⟩
          refine hK.out _ _ K6 (fun hHeld => ?_)
          clear hK K
          try simp only [List.getElem_toArray, List.getElem_cons_zero, List.getElem_cons_succ, Act.put, List.setIfInBounds_toArray, List.set_cons_zero, List.set_cons_succ]
          refine wpAnyH_take (i := 7) (v := .agg #[.int .i64 (h / 8 % 2), .int .i64 (h / 4 % 2), .int .i64 (h / 16 % 2), .int .i64 (h % 4), .slice A3 (n - 2) c3]) rfl (by kernel_rfl) (by kernel_rfl) (by kernel_rfl) (fun _ _ _ h => h) (Or.inl ⟨by first | rfl | go_simp, by intro w9 hSw; (try dsimp only at hSw); go_simp⟩) (by assumption) ?_
          simp only [List.getElem_toArray, List.getElem_cons_zero, List.getElem_cons_succ, Act.put, List.setIfInBounds_toArray, List.set_cons_zero, List.set_cons_succ]
          refine wpAnyH_ready (rs := [8]) (by kernel_rfl) (by simp) ?_
          refine AllReadyH.cons rfl (fun K hK => ?_) (AllReadyH.nil)
          have H9 : (#[.int .i64 (h / 8 % 2), .int .i64 (h / 4 % 2), .int .i64 (h / 16 % 2), .int .i64 (h % 4), .slice A3 (n - 2) c3] : Array Value).all (·.oneCell') = true := by rw [← Array.all_toList]; rfl
          refine Av.step_store_row rfl 26 (.tmp 2) (.tmp 30) rfl (w.heap.size + 1) #[.int .i64 (h / 8 % 2), .int .i64 (h / 4 % 2), .int .i64 (h / 16 % 2), .int .i64 (h % 4), .slice A3 (n - 2) c3] rfl rfl 26 _ K2 (by kernel_rfl) rfl H9 ?_
          replace H3 := own_setRow H3 K2 (by decide) #[.int .i64 (h / 8 % 2), .int .i64 (h / 4 % 2), .int .i64 (h / 16 % 2), .int .i64 (h % 4), .slice A3 (n - 2) c3]
          replace TT := (cell_setRow_other Y0 (w.heap.size + 1) #[.int .i64 (h / 8 % 2), .int .i64 (h / 4 % 2), .int .i64 (h / 16 % 2), .int .i64 (h % 4), .slice A3 (n - 2) c3] ⟨b, off, none⟩ (show b ≠ w.heap.size + 1 by omega)).trans TT
          replace K1 : Blk (Y0.setRow (w.heap.size + 1) #[.int .i64 (h / 8 % 2), .int .i64 (h / 4 % 2), .int .i64 (h / 16 % 2), .int .i64 (h % 4), .slice A3 (n - 2) c3]) (w.heap.size) 22 #[.slice (some ⟨b, off, none⟩) n c] := Av.bother_row K1 (by omega)
          replace K2 : Blk (Y0.setRow (w.heap.size + 1) #[.int .i64 (h / 8 % 2), .int .i64 (h / 4 % 2), .int .i64 (h / 16 % 2), .int .i64 (h % 4), .slice A3 (n - 2) c3]) (w.heap.size + 1) 26 #[.int .i64 (h / 8 % 2), .int .i64 (h / 4 % 2), .int .i64 (h / 16 % 2), .int .i64 (h % 4), .slice A3 (n - 2) c3] := Av.bset_row K2
          replace K6 : Blk (Y0.setRow (w.heap.size + 1) #[.int .i64 (h / 8 % 2), .int .i64 (h / 4 % 2), .int .i64 (h / 16 % 2), .int .i64 (h % 4), .slice A3 (n - 2) c3]) (X1.heap.size) 24 #[.int .i64 (h % 4), .slice A3 (n - 2) c3] := Av.bother_row K6 (by omega)
          replace BX : Below w.heap.size w (Y0.setRow (w.heap.size + 1) #[.int .i64 (h / 8 % 2), .int .i64 (h / 4 % 2), .int .i64 (h / 16 % 2), .int .i64 (h % 4), .slice A3 (n - 2) c3]) := below_setRow BX (by omega) _
          clear H9
          generalize Y0.setRow (w.heap.size + 1) #[.int .i64 (h / 8 % 2), .int .i64 (h / 4 % 2), .int .i64 (h / 16 % 2), .int .i64 (h % 4), .slice A3 (n - 2) c3] = Y4 at *
          refine hK.out _ _ K6 (fun hHeld => ?_)
          clear hK K
          try simp only [List.getElem_toArray, List.getElem_cons_zero, List.getElem_cons_succ, Act.put, List.setIfInBounds_toArray, List.set_cons_zero, List.set_cons_succ]
          refine wpAnyH_take (i := 9) (v := .int .i64 0) rfl (by kernel_rfl) (by kernel_rfl) (by kernel_rfl) (fun _ _ _ h => h) (Or.inl ⟨by first | rfl | go_simp, by intro w9 hSw; (try dsimp only at hSw); go_simp⟩) (by assumption) ?_
          simp only [List.getElem_toArray, List.getElem_cons_zero, List.getElem_cons_succ, Act.put, List.setIfInBounds_toArray, List.set_cons_zero, List.set_cons_succ]
          refine wpAnyH_done (by kernel_rfl) ?_ _
          go_wp2_with fail
          refine bodyPost_ret (v := .tuple #[.agg #[.int .i64 (h / 8 % 2), .int .i64 (h / 4 % 2), .int .i64 (h / 16 % 2), .int .i64 (h % 4), .slice A3 (n - 2) c3], .int .i64 0]) ?_ rfl ⟨_, rfl, by rw [HRl.out]; exact own_base H3 (by omega), BX⟩
          clear hHeld
          have HL := run_loadVar_row (P := Try.prog) Y4 (w.heap.size + 1) 26 26 #[.int .i64 (h / 8 % 2), .int .i64 (h / 4 % 2), .int .i64 (h / 16 % 2), .int .i64 (h % 4), .slice A3 (n - 2) c3] (0, 0) _ K2 Try.underlying26 rfl (by kernel_rfl)
          generalize (#[.int .i64 (h / 8 % 2), .int .i64 (h / 4 % 2), .int .i64 (h / 16 % 2), .int .i64 (h % 4), .slice A3 (n - 2) c3] : Array Value) = CS at *
          simp [results, show (Try.f21).results = #[.cell 2 26, .slot 3] from rfl, asAddr, HL, Act.put]
        · skip
          go_simp
          have b9 := (Below.refl X0.heap.size X0).alloc (Nat.le_refl _) (.cells #[.int .i64 0, .slice none 0 0] 24)
          have K6 := Blk.fresh X0 24 #[.int .i64 0, .slice none 0 0]
          have hg6 : w.heap.size + 2 ≤ X0.heap.size := K2.lt
          generalize X0.alloc (.cells #[.int .i64 0, .slice none 0 0] 24) = X4 at *
          replace K1 := K1.below b9 K1.lt
          replace K2 := K2.below b9 K2.lt
          replace BX := Base.thenB BX b9
          replace TT := (b9.cell (p := ⟨b, off, none⟩) (by show b < _; have := BX.size; omega)).trans TT
          clear b9
          refine hK.out _ _ ⟨K1, TT⟩ (fun hHeld => ?_)
          clear hK K
          try simp only [List.getElem_toArray, List.getElem_cons_zero, List.getElem_cons_succ, Act.put, List.setIfInBounds_toArray, List.set_cons_zero, List.set_cons_succ]
          refine wpAnyH_ready (rs := [7]) (by kernel_rfl) (by simp) ?_
          refine AllReadyH.cons rfl (fun K hK => ?_) (AllReadyH.nil)
          go_simp
          have hq8 : w.heap.size + 2 ≤ X4.heap.size := K2.lt
          refine (HR.out X4 BX).mono ?_
          rintro e X5 ⟨V3, rfl, H3, b9⟩
          obtain ⟨A3, c3, rfl⟩ := own_form H3
          replace H3 := own_base H3 hq8
          replace K1 := K1.below b9 K1.lt
          replace K2 := K2.below b9 K2.lt
          replace K6 := K6.below b9 K6.lt
          replace BX := Base.thenB BX b9
          replace TT := (b9.cell (p := ⟨b, off, none⟩) (by show b < _; have := BX.size; omega)).trans TT
          clear b9
          refine hK.out _ _ ⟨K1, TT⟩ (fun hHeld => ?_)
          clear hK K
          try simp only [List.getElem_toArray, List.getElem_cons_zero, List.getElem_cons_succ, Act.put, List.setIfInBounds_toArray, List.set_cons_zero, List.set_cons_succ]
          refine wpAnyH_take (i := 8) (v := .agg #[.int .i64 (h % 4), .slice A3 (n - 2) c3]) rfl (by kernel_rfl) (by kernel_rfl) (by kernel_rfl) (fun _ _ _ h => h) (Or.inl ⟨by first | rfl | go_simp, by intro w9 hSw; (try dsimp only at hSw); go_simp⟩) (by assumption) ?_
          simp only [List.getElem_toArray, List.getElem_cons_zero, List.getElem_cons_succ, Act.put, List.setIfInBounds_toArray, List.set_cons_zero, List.set_cons_succ]
          refine wpAnyH_ready (rs := [10]) (by kernel_rfl) (by simp) ?_
          refine AllReadyH.cons rfl (fun K hK => ?_) (AllReadyH.nil)
          have H9 : (#[.int .i64 (h % 4), .slice A3 (n - 2) c3] : Array Value).all (·.oneCell') = true := by rw [← Array.all_toList]; rfl
          refine Av.step_store_row rfl 24 (.tmp 6) (.tmp 22) rfl (X0.heap.size) #[.int .i64 (h % 4), .slice A3 (n - 2) c3] rfl rfl 24 _ K6 (by kernel_rfl) rfl H9 ?_
          replace TT := (cell_setRow_other X5 (X0.heap.size) #[.int .i64 (h % 4), .slice A3 (n - 2) c3] ⟨b, off, none⟩ (show b ≠ X0.heap.size by omega)).trans TT
          replace H3 := own_setRow H3 K6 (by decide) #[.int .i64 (h % 4), .slice A3 (n - 2) c3]
          replace K1 : Blk (X5.setRow (X0.heap.size) #[.int .i64 (h % 4), .slice A3 (n - 2) c3]) (w.heap.size) 22 #[.slice (some ⟨b, off, none⟩) n c] := Av.bother_row K1 (by omega)
          replace K2 : Blk (X5.setRow (X0.heap.size) #[.int .i64 (h % 4), .slice A3 (n - 2) c3]) (w.heap.size + 1) 26 #[.int .i64 0, .int .i64 0, .int .i64 0, .int .i64 0, .slice none 0 0] := Av.bother_row K2 (by omega)
          replace K6 : Blk (X5.setRow (X0.heap.size) #[.int .i64 (h % 4), .slice A3 (n - 2) c3]) (X0.heap.size) 24 #[.int .i64 (h % 4), .slice A3 (n - 2) c3] := Av.bset_row K6
          replace BX : Below w.heap.size w (X5.setRow (X0.heap.size) #[.int .i64 (h % 4), .slice A3 (n - 2) c3]) := below_setRow BX (by omega) _
          clear H9
          generalize X5.setRow (X0.heap.size) #[.int .i64 (h % 4), .slice A3 (n - 2) c3] = X6 at *
          refine hK.out _ _ ⟨K1, TT⟩ (fun hHeld => ?_)
          clear hK K
          try simp only [List.getElem_toArray, List.getElem_cons_zero, List.getElem_cons_succ, Act.put, List.setIfInBounds_toArray, List.set_cons_zero, List.set_cons_succ]
          refine wpAnyH_done (by kernel_rfl) ?_ _
          go_upto_region 6 with (fail)
          have K1' : Blk X6.drew (w.heap.size) 22 #[.slice (some ⟨b, off, none⟩) n c] := Mem.Blk.drew K1
          have K2' : Blk X6.drew (w.heap.size + 1) 26 #[.int .i64 0, .int .i64 0, .int .i64 0, .int .i64 0, .slice none 0 0] := Mem.Blk.drew K2
          have K6' : Blk X6.drew (X0.heap.size) 24 #[.int .i64 (h % 4), .slice A3 (n - 2) c3] := Mem.Blk.drew K6
          refine wp_region_held_drew (S := (fun w' => Blk w' (X0.heap.size) 24 #[.int .i64 (h % 4), .slice A3 (n - 2) c3])) (by kernel_rfl) ?_ (fun hHeld => ?_)
          · exact K6'
          replace K1 := K1'
          clear K1'
          replace K2 := K2'
          clear K2'
          replace K6 := K6'
          clear K6'
          replace BX : Below w.heap.size w X6.drew := BX.drew
          replace H3 := (show X6.drew.ownsRow (w.heap.size + 2) 5 1 (.slice A3 (n - 2) c3) (n - 2) (r.map (Value.int .u8)) from H3)
          replace TT := (show X6.drew.cell? ⟨b, off, none⟩ = _ from TT)
          generalize X6.drew = Y0 at *
          refine wpAnyH_take (i := 0) (v := .func (.func 49) #[] #[.pointer (some ⟨w.heap.size, 0, none⟩)]) rfl (by kernel_rfl) (by kernel_rfl) (by kernel_rfl) (fun _ _ _ h => h) (Or.inl ⟨by first | rfl | go_simp, by intro w9 hSw; (try dsimp only at hSw); go_simp⟩) (by assumption) ?_
          simp only [List.getElem_toArray, List.getElem_cons_zero, List.getElem_cons_succ, Act.put, List.setIfInBounds_toArray, List.set_cons_zero, List.set_cons_succ]
          refine wpAnyH_take (i := 2) (v := .func (.func 49) #[] #[.pointer (some ⟨w.heap.size, 0, none⟩)]) rfl (by kernel_rfl) (by kernel_rfl) (by kernel_rfl) (fun _ _ _ h => h) (Or.inl ⟨by first | rfl | go_simp, by intro w9 hSw; (try dsimp only at hSw); go_simp⟩) (by assumption) ?_
          simp only [List.getElem_toArray, List.getElem_cons_zero, List.getElem_cons_succ, Act.put, List.setIfInBounds_toArray, List.set_cons_zero, List.set_cons_succ]
          refine wpAnyH_take (i := 4) (v := .func (.func 49) #[] #[.pointer (some ⟨w.heap.size, 0, none⟩)]) rfl (by kernel_rfl) (by kernel_rfl) (by kernel_rfl) (fun _ _ _ h => h) (Or.inl ⟨by first | rfl | go_simp, by intro w9 hSw; (try dsimp only at hSw); go_simp⟩) (by assumption) ?_
          simp only [List.getElem_toArray, List.getElem_cons_zero, List.getElem_cons_succ, Act.put, List.setIfInBounds_toArray, List.set_cons_zero, List.set_cons_succ]
          refine wpAnyH_take (i := 6) (v := .agg #[.int .i64 (h % 4), .slice A3 (n - 2) c3]) rfl (by kernel_rfl) (by kernel_rfl) (by kernel_rfl) (fun _ _ _ h => h) (Av.yields_part (by first | rfl | go_simp) _ _ rfl (X0.heap.size) 0 rfl #[.int .i64 (h % 4), .slice A3 (n - 2) c3] _ 24 #[.int .i64 (h % 4), .slice A3 (n - 2) c3] (fun w9 hSw => hSw) rfl Try.underlying24 rfl (by kernel_rfl)) (by assumption) ?_
          simp only [List.getElem_toArray, List.getElem_cons_zero, List.getElem_cons_succ, Act.put, List.setIfInBounds_toArray, List.set_cons_zero, List.set_cons_succ]
          refine wpAnyH_ready (rs := [1]) (by kernel_rfl) (by simp) ?_
          refine AllReadyH.cons rfl (fun K hK => ?_) (AllReadyH.nil)
          go_simp
          refine (HB.out 3 8 (.inl ⟨rfl, rfl⟩) Y0 K1 TT).mono ?_
          rintro e X9 ⟨rfl, rfl⟩
          refine hK.out _ _ K6 (fun hHeld => ?_)
          clear hK K
          try simp only [List.getElem_toArray, List.getElem_cons_zero, List.getElem_cons_succ, Act.put, List.setIfInBounds_toArray, List.set_cons_zero, List.set_cons_succ]
          refine wpAnyH_ready (rs := [3]) (by kernel_rfl) (by simp) ?_
          refine AllReadyH.cons rfl (fun K hK => ?_) (AllReadyH.nil)
          go_simp
          refine (HB.out 2 4 (.inr (.inl ⟨rfl, rfl⟩)) Y0 K1 TT).mono ?_
          rintro e X9 ⟨rfl, rfl⟩
          refine hK.out _ _ K6 (fun hHeld => ?_)
          clear hK K
          try simp only [List.getElem_toArray, List.getElem_cons_zero, List.getElem_cons_succ, Act.put, List.setIfInBounds_toArray, List.set_cons_zero, List.set_cons_succ]
          refine wpAnyH_ready (rs := [5]) (by kernel_rfl) (by simp) ?_
          refine AllReadyH.cons rfl (fun K hK => ?_) (AllReadyH.nil)
          go_simp
          refine (HB.out 4 16 (.inr (.inr ⟨rfl, rfl⟩)) Y0 K1 TT).mono ?_
          rintro e X9 ⟨rfl, rfl⟩
          refine hK.out _ _ K6 (fun hHeld => ?_)
          clear hK K
          try simp only [List.getElem_toArray, List.getElem_cons_zero, List.getElem_cons_succ, Act.put, List.setIfInBounds_toArray, List.set_cons_zero, List.set_cons_succ]
          refine wpAnyH_take (i := 7) (v := .agg #[.int .i64 (h / 8 % 2), .int .i64 (h / 4 % 2), .int .i64 (h / 16 % 2), .int .i64 (h % 4), .slice A3 (n - 2) c3]) rfl (by kernel_rfl) (by kernel_rfl) (by kernel_rfl) (fun _ _ _ h => h) (Or.inl ⟨by first | rfl | go_simp, by intro w9 hSw; (try dsimp only at hSw); go_simp⟩) (by assumption) ?_
          simp only [List.getElem_toArray, List.getElem_cons_zero, List.getElem_cons_succ, Act.put, List.setIfInBounds_toArray, List.set_cons_zero, List.set_cons_succ]
          refine wpAnyH_ready (rs := [8]) (by kernel_rfl) (by simp) ?_
          refine AllReadyH.cons rfl (fun K hK => ?_) (AllReadyH.nil)
          have H9 : (#[.int .i64 (h / 8 % 2), .int .i64 (h / 4 % 2), .int .i64 (h / 16 % 2), .int .i64 (h % 4), .slice A3 (n - 2) c3] : Array Value).all (·.oneCell') = true := by rw [← Array.all_toList]; rfl
          refine Av.step_store_row rfl 26 (.tmp 2) (.tmp 30) rfl (w.heap.size + 1) #[.int .i64 (h / 8 % 2), .int .i64 (h / 4 % 2), .int .i64 (h / 16 % 2), .int .i64 (h % 4), .slice A3 (n - 2) c3] rfl rfl 26 _ K2 (by kernel_rfl) rfl H9 ?_
          replace H3 := own_setRow H3 K2 (by decide) #[.int .i64 (h / 8 % 2), .int .i64 (h / 4 % 2), .int .i64 (h / 16 % 2), .int .i64 (h % 4), .slice A3 (n - 2) c3]
          replace TT := (cell_setRow_other Y0 (w.heap.size + 1) #[.int .i64 (h / 8 % 2), .int .i64 (h / 4 % 2), .int .i64 (h / 16 % 2), .int .i64 (h % 4), .slice A3 (n - 2) c3] ⟨b, off, none⟩ (show b ≠ w.heap.size + 1 by omega)).trans TT
          replace K1 : Blk (Y0.setRow (w.heap.size + 1) #[.int .i64 (h / 8 % 2), .int .i64 (h / 4 % 2), .int .i64 (h / 16 % 2), .int .i64 (h % 4), .slice A3 (n - 2) c3]) (w.heap.size) 22 #[.slice (some ⟨b, off, none⟩) n c] := Av.bother_row K1 (by omega)
          replace K2 : Blk (Y0.setRow (w.heap.size + 1) #[.int .i64 (h / 8 % 2), .int .i64 (h / 4 % 2), .int .i64 (h / 16 % 2), .int .i64 (h % 4), .slice A3 (n - 2) c3]) (w.heap.size + 1) 26 #[.int .i64 (h / 8 % 2), .int .i64 (h / 4 % 2), .int .i64 (h / 16 % 2), .int .i64 (h % 4), .slice A3 (n - 2) c3] := Av.bset_row K2
          replace K6 : Blk (Y0.setRow (w.heap.size + 1) #[.int .i64 (h / 8 % 2), .int .i64 (h / 4 % 2), .int .i64 (h / 16 % 2), .int .i64 (h % 4), .slice A3 (n - 2) c3]) (X0.heap.size) 24 #[.int .i64 (h % 4), .slice A3 (n - 2) c3] := Av.bother_row K6 (by omega)
          replace BX : Below w.heap.size w (Y0.setRow (w.heap.size + 1) #[.int .i64 (h / 8 % 2), .int .i64 (h / 4 % 2), .int .i64 (h / 16 % 2), .int .i64 (h % 4), .slice A3 (n - 2) c3]) := below_setRow BX (by omega) _
          clear H9
          generalize Y0.setRow (w.heap.size + 1) #[.int .i64 (h / 8 % 2), .int .i64 (h / 4 % 2), .int .i64 (h / 16 % 2), .int .i64 (h % 4), .slice A3 (n - 2) c3] = Y4 at *
          refine hK.out _ _ K6 (fun hHeld => ?_)
          clear hK K
          try simp only [List.getElem_toArray, List.getElem_cons_zero, List.getElem_cons_succ, Act.put, List.setIfInBounds_toArray, List.set_cons_zero, List.set_cons_succ]
          refine wpAnyH_take (i := 9) (v := .int .i64 0) rfl (by kernel_rfl) (by kernel_rfl) (by kernel_rfl) (fun _ _ _ h => h) (Or.inl ⟨by first | rfl | go_simp, by intro w9 hSw; (try dsimp only at hSw); go_simp⟩) (by assumption) ?_
          simp only [List.getElem_toArray, List.getElem_cons_zero, List.getElem_cons_succ, Act.put, List.setIfInBounds_toArray, List.set_cons_zero, List.set_cons_succ]
          refine wpAnyH_done (by kernel_rfl) ?_ _
          go_wp2_with fail
          refine bodyPost_ret (v := .tuple #[.agg #[.int .i64 (h / 8 % 2), .int .i64 (h / 4 % 2), .int .i64 (h / 16 % 2), .int .i64 (h % 4), .slice A3 (n - 2) c3], .int .i64 0]) ?_ rfl ⟨_, rfl, by rw [HRl.out]; exact own_base H3 (by omega), BX⟩
          clear hHeld
          have HL := run_loadVar_row (P := Try.prog) Y4 (w.heap.size + 1) 26 26 #[.int .i64 (h / 8 % 2), .int .i64 (h / 4 % 2), .int .i64 (h / 16 % 2), .int .i64 (h % 4), .slice A3 (n - 2) c3] (0, 0) _ K2 Try.underlying26 rfl (by kernel_rfl)
          generalize (#[.int .i64 (h / 8 % 2), .int .i64 (h / 4 % 2), .int .i64 (h / 16 % 2), .int .i64 (h % 4), .slice A3 (n - 2) c3] : Array Value) = CS at *
          simp [results, show (Try.f21).results = #[.cell 2 26, .slot 3] from rfl, asAddr, HL, Act.put]
    | [], _, _, _, h0, _ => cases h0
    | [y], _, _, _, h0, _ => cases h0
  · have HO : Hid (decR xs = (zeroP, formR xs)) := Lib.hid (decR_no h0)
    have g0 : (formR xs != 0) = true := by simpa using h0
    rw [HO.out]
    generalize formR xs = R at *
    clear hx bx hr h0
    go_enter Try.func21, Try.ntmps21
    go_upto_region 2 with (go_at_call 48; refine (HF.out _ B0).mono ?_; rintro e w2 ⟨rfl, b2⟩)
    replace K2 := K2.below b2 K2.lt
    have b3 := thenB B0 b2
    go_wp2_with (refine wpList_store_row rfl 26 (.tmp 2) _ rfl (w.heap.size + 1) #[.int .i64 0, .int .i64 0, .int .i64 0, .int .i64 0, .slice none 0 0] rfl rfl 26 _ K2 (by kernel_rfl) rfl (by rw [← Array.all_toList]; rfl) ?_)
    have KR := setRow_heap w2 (w.heap.size + 1) _ #[.int .i64 0, .int .i64 0, .int .i64 0, .int .i64 0, .slice none 0 0] 26 (0, 0) K2
    have BE := below_setRow b3 (Nat.le_succ _) #[.int .i64 0, .int .i64 0, .int .i64 0, .int .i64 0, .slice none 0 0]
    generalize w2.setRow (w.heap.size + 1) #[.int .i64 0, .int .i64 0, .int .i64 0, .int .i64 0, .slice none 0 0] = Y at *
    refine bodyPost_ret (v := .tuple #[.agg #[.int .i64 0, .int .i64 0, .int .i64 0, .int .i64 0, .slice none 0 0], .int .i64 R]) ?_ rfl ⟨_, rfl, World.ownsRow_nil _ _ _ _, BE⟩
    have HL := run_loadVar_row (P := Try.prog) Y (w.heap.size + 1) 26 26 #[.int .i64 0, .int .i64 0, .int .i64 0, .int .i64 0, .slice none 0 0] (0, 0) _ KR Try.underlying26 rfl (by kernel_rfl)
    simp [results, show (Try.f21).results = #[.cell 2 26, .slot 3] from rfl, asAddr, HL, Act.put]
end Go.Proofs.Ytakfjemkgajehaa.Dp
