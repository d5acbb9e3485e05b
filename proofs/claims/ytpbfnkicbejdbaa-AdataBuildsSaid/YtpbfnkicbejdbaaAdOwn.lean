/- Elements in memory of their own; the elements of bytes, by the document: contracts over the program. -/
import Derived.Test.YtpbfnkicbejdbaaAdEnc
set_option linter.unusedVariables false
set_option linter.unusedSimpArgs false
namespace Go.Proofs.Ytpbfnkicbejdbaa.Ad
open Go.RowKit Mem Rw Oct
open Base (thenB later kept)

theorem own_apart {W W' : World} {base n size G : Nat} {e : TypeId} {v : Value} {xs : List Value} (h : W.ownsRow base e size v n xs) (hg : W.grownBy W' (Value.slice (some ⟨G, 0, none⟩) 0 0).ownBlock) (hu : ∀ g, v.ownBlock = some g → g < G) : W'.ownsRow base e size v n xs := by
  refine h.kept hg (.inr ?_)
  intro he
  have e2 : (Value.slice (some ⟨G, 0, none⟩) 0 0).ownBlock = some G := by simp [Value.ownBlock]
  first
    | exact absurd (hu G (he.trans e2)) (Nat.lt_irrefl _)
    | exact absurd (hu G (he.symm.trans e2)) (Nat.lt_irrefl _)
theorem take_e {l : List El} {j : Nat} {x : El} (h : l[j]? = some x) : (l.take (j + 1)).map El.e = (l.take j).map El.e ++ [x.e] := by
  have hk : j < l.length := (List.getElem?_eq_some_iff.1 h).1
  rw [List.take_succ_eq_append_getElem hk, (List.getElem?_eq_some_iff.1 h).2, List.map_append]; rfl
theorem el_one (k : Int) (A : Option Addr) (p c : Nat) : ∀ u ∈ [Value.int .i64 k, Value.slice A p c], u.oneCell' = true := by
  intro u hu; simp at hu; rcases hu with rfl | rfl <;> rfl
set_option maxRecDepth 100000 in
set_option maxHeartbeats 4000000 in
theorem own_any (LA : Option Addr) (n c : Nat) (l : List El) (w : World) (hl : l.length = n) (hn : n ≤ 1099511627776) (hr : ElsAt w w.heap.size LA l) :
    Calls Try.prog 11 #[.slice LA n c] w fun e w' => ∃ A' c' l', e = .returned (.slice A' n c') ∧ n ≤ c' ∧ l'.length = n ∧ l'.map El.e = l.map El.e ∧ ElsAt w' w'.heap.size A' l' ∧ Below w.heap.size w w' := by
  obtain ⟨iE, hi, hz, hs, hb, hc0⟩ := info_parts2 info_el rfl
  have HN := Lib.hid (fun j (h : j < n) => has hl h)
  have HO : Hid (∀ w', Below w.heap.size w w' → 0 < n → _) := Lib.hid fun w' hb h0 => el_cells (hr.below hb) (by omega)
  have HOw : Hid (∀ x ∈ l, OwnE w w.heap.size x) := Lib.hid hr.2
  have HTk : Hid ((l.take n).map El.e = l.map El.e) := Lib.hid (by rw [List.take_of_length_le (by omega)])
  clear hr hl
  go_enter Try.func11, Try.ntmps11
  go_wp2_with fail
  go_loopw [3, 4] (fun s3 s4 wr => ∃ j : Nat, j ≤ n ∧ s4 = .int .i64 j ∧ ∃ A c, ∃ l' : List El, s3 = .slice A j c ∧ l'.length = j ∧ Hid (l'.map El.e = (l.take j).map El.e) ∧ wr.ownsRow w.heap.size 49 2 (.slice A j c) j (l'.flatMap encE) ∧ (∀ x ∈ l', Mine wr w.heap.size x ∧ x.v.length ≤ 140737488355328) ∧ Below w.heap.size w wr) (fun _ s4 _ => n - (intOf s4).toNat)
  case atStart => exact ⟨0, by omega, rfl, _, _, [], rfl, rfl, Lib.hid (by simp), World.ownsRow_made _ _ 0 (Nat.le_refl _) (by unfold maxLen; omega) rfl, by simp, (Below.refl _ _).alloc (Nat.le_refl _) _⟩
  case round =>
    obtain ⟨j, hj, rfl, A1, c1, l', rfl, hl', hm', hown, hmine, hbel⟩ := hrel
    by_cases cj : j < n
    · obtain ⟨x, hxj, hxm⟩ := HN.out j cj
      have hmx := Lib.hid (take_e hxj)
      obtain ⟨b, off, rfl, hbl, hc⟩ := HO.out _ hbel (by omega)
      obtain ⟨h0, h1⟩ := hc j x hxj
      obtain ⟨q1, q2, q3⟩ := (HOw.out x hxm).below hbel
      obtain ⟨xk, xA, xc, xv⟩ := x
      simp only at h0 h1 q1 q2 q3 hmx
      obtain ⟨p, hp⟩ : ∃ p, xv.length = p := ⟨_, rfl⟩
      rw [hp] at h1 q1 q2
      have HP := Lib.hid hp
      have g1 : (0 : Int) ≤ (j : Int) ∧ (j : Int) < (n : Int) := by omega
      have hw0 := hbel.size
      have HI : Hid (∀ X, Below w.heap.size wr X → Ints .u8 X X.heap.size xA xv) := Lib.hid fun X hb => (q3.below hb).more (by have := hb.size; omega)
      have HC : Hid (∀ X, Below w.heap.size wr X → Calls Try.prog 15 #[.slice xA p xc] X fun e X' => Base.Makes X X' e xv) := Lib.hid fun X hb => copied_any xA p xc xv X HP.out (HI.out X hb) q2
      clear hc hxj hxm hp q3
      go_wp2_with fail
      refine wp_region_held_drew (S := (fun w' => w'.cell? ⟨b, off + j * 2, none⟩ = some (.int .i64 xk) ∧ w'.cell? ⟨b, off + j * 2 + 1, none⟩ = some (.slice xA p xc))) (by kernel_rfl) ?_ (fun hHeld => ?_)
      · exact ⟨h0, h1⟩
      have BW := (Below.refl w.heap.size wr).drew
      have hown : wr.drew.ownsRow w.heap.size 49 2 (.slice A1 j c1) j _ := hown
      have hmine : ∀ x ∈ l', Mine wr.drew w.heap.size x ∧ x.v.length ≤ 140737488355328 := hmine
      have TT := And.intro ((BW.cell (p := ⟨b, off + j * 2, none⟩) hbl).trans h0) ((BW.cell (p := ⟨b, off + j * 2 + 1, none⟩) hbl).trans h1)
      generalize wr.drew = X0 at *
      refine wpAnyH_take (i := 0) (v := .slice A1 j c1) rfl (by kernel_rfl) (by kernel_rfl) (by kernel_rfl) (fun _ _ _ h => h) (Or.inl ⟨by first | rfl | go_simp, by intro w9 hSw; (try dsimp only at hSw); go_simp⟩) (by assumption) ?_
      simp only [List.getElem_toArray, List.getElem_cons_zero, List.getElem_cons_succ, Act.put, List.setIfInBounds_toArray, List.set_cons_zero, List.set_cons_succ]
      refine wpAnyH_take (i := 1) (v := .slice (some ⟨b, off, none⟩) n c) rfl (by kernel_rfl) (by kernel_rfl) (by kernel_rfl) (fun _ _ _ h => h) (Or.inl ⟨by first | rfl | go_simp, by intro w9 hSw; (try dsimp only at hSw); go_simp⟩) (by assumption) ?_
      simp only [List.getElem_toArray, List.getElem_cons_zero, List.getElem_cons_succ, Act.put, List.setIfInBounds_toArray, List.set_cons_zero, List.set_cons_succ]
      refine wpAnyH_take (i := 2) (v := .int .i64 (j : Int)) rfl (by kernel_rfl) (by kernel_rfl) (by kernel_rfl) (fun _ _ _ h => h) (Or.inl ⟨by first | rfl | go_simp, by intro w9 hSw; (try dsimp only at hSw); go_simp⟩) (by assumption) ?_
      simp only [List.getElem_toArray, List.getElem_cons_zero, List.getElem_cons_succ, Act.put, List.setIfInBounds_toArray, List.set_cons_zero, List.set_cons_succ]
      refine wpAnyH_take (i := 3) (v := .pointer (some ⟨b, off + j * 2, none⟩)) rfl (by kernel_rfl) (by kernel_rfl) (by kernel_rfl) (fun _ _ _ h => h) (Or.inl ⟨by first | rfl | go_simp, by intro w9 hSw; (try dsimp only at hSw); go_simp⟩) (by assumption) ?_
      simp only [List.getElem_toArray, List.getElem_cons_zero, List.getElem_cons_succ, Act.put, List.setIfInBounds_toArray, List.set_cons_zero, List.set_cons_succ]
      refine wpAnyH_take (i := 4) (v := .pointer (some ⟨b, off + j * 2, none⟩)) rfl (by kernel_rfl) (by kernel_rfl) (by kernel_rfl) (fun _ _ _ h => h) (Or.inl ⟨by first | rfl | go_simp, by intro w9 hSw; (try dsimp only at hSw); go_simp⟩) (by assumption) ?_
      simp only [List.getElem_toArray, List.getElem_cons_zero, List.getElem_cons_succ, Act.put, List.setIfInBounds_toArray, List.set_cons_zero, List.set_cons_succ]
      refine wpAnyH_take (i := 5) (v := .int .i64 xk) rfl (by kernel_rfl) (by kernel_rfl) (by kernel_rfl) (fun _ _ _ h => h) (Or.inl ⟨by first | rfl | go_simp, by intro w9 hSw; (try dsimp only at hSw); go_simp⟩) (by assumption) ?_
      simp only [List.getElem_toArray, List.getElem_cons_zero, List.getElem_cons_succ, Act.put, List.setIfInBounds_toArray, List.set_cons_zero, List.set_cons_succ]
      refine wpAnyH_take (i := 6) (v := .slice (some ⟨b, off, none⟩) n c) rfl (by kernel_rfl) (by kernel_rfl) (by kernel_rfl) (fun _ _ _ h => h) (Or.inl ⟨by first | rfl | go_simp, by intro w9 hSw; (try dsimp only at hSw); go_simp⟩) (by assumption) ?_
      simp only [List.getElem_toArray, List.getElem_cons_zero, List.getElem_cons_succ, Act.put, List.setIfInBounds_toArray, List.set_cons_zero, List.set_cons_succ]
      refine wpAnyH_take (i := 7) (v := .int .i64 (j : Int)) rfl (by kernel_rfl) (by kernel_rfl) (by kernel_rfl) (fun _ _ _ h => h) (Or.inl ⟨by first | rfl | go_simp, by intro w9 hSw; (try dsimp only at hSw); go_simp⟩) (by assumption) ?_
      simp only [List.getElem_toArray, List.getElem_cons_zero, List.getElem_cons_succ, Act.put, List.setIfInBounds_toArray, List.set_cons_zero, List.set_cons_succ]
      refine wpAnyH_take (i := 8) (v := .pointer (some ⟨b, off + j * 2, none⟩)) rfl (by kernel_rfl) (by kernel_rfl) (by kernel_rfl) (fun _ _ _ h => h) (Or.inl ⟨by first | rfl | go_simp, by intro w9 hSw; (try dsimp only at hSw); go_simp⟩) (by assumption) ?_
      simp only [List.getElem_toArray, List.getElem_cons_zero, List.getElem_cons_succ, Act.put, List.setIfInBounds_toArray, List.set_cons_zero, List.set_cons_succ]
      refine wpAnyH_take (i := 9) (v := .pointer (some ⟨b, off + j * 2 + 1, none⟩)) rfl (by kernel_rfl) (by kernel_rfl) (by kernel_rfl) (fun _ _ _ h => h) (Or.inl ⟨by first | rfl | go_simp, by intro w9 hSw; (try dsimp only at hSw); go_simp⟩) (by assumption) ?_
      simp only [List.getElem_toArray, List.getElem_cons_zero, List.getElem_cons_succ, Act.put, List.setIfInBounds_toArray, List.set_cons_zero, List.set_cons_succ]
      refine wpAnyH_take (i := 10) (v := .slice xA p xc) rfl (by kernel_rfl) (by kernel_rfl) (by kernel_rfl) (fun _ _ _ h => h) (Or.inl ⟨by first | rfl | go_simp, by intro w9 hSw; (try dsimp only at hSw); go_simp⟩) (by assumption) ?_
      simp only [List.getElem_toArray, List.getElem_cons_zero, List.getElem_cons_succ, Act.put, List.setIfInBounds_toArray, List.set_cons_zero, List.set_cons_succ]
      refine wpAnyH_ready (rs := [11]) (by kernel_rfl) (by simp) ?_
      refine AllReadyH.cons rfl (fun K hK => ?_) (AllReadyH.nil)
      go_simp
      refine (HC.out _ BW).mono ?_
      intro e X1 hm
      obtain ⟨A2, c2, rfl, own, b9⟩ := hm.len HP.out
      have own := own_base own (show w.heap.size ≤ X0.heap.size from Nat.le_trans hw0 BW.size)
      have hown := own_below hown b9
      have hmine := fun x hx => (And.intro (own_below (hmine x hx).1 b9) (hmine x hx).2 : Mine _ _ x ∧ _)
      have BW := BW.trans (b9.mono (Nat.le_trans hw0 BW.size))
      have TT := And.intro ((BW.cell (p := ⟨b, off + j * 2, none⟩) hbl).trans h0) ((BW.cell (p := ⟨b, off + j * 2 + 1, none⟩) hbl).trans h1)
      refine hK.out _ _ TT (fun hHeld => ?_)
      clear hK K
      try simp only [List.getElem_toArray, List.getElem_cons_zero, List.getElem_cons_succ, Act.put, List.setIfInBounds_toArray, List.set_cons_zero, List.set_cons_succ]
      refine wpAnyH_take (i := 12) (v := .agg #[.int .i64 xk, .slice A2 p c2]) rfl (by kernel_rfl) (by kernel_rfl) (by kernel_rfl) (fun _ _ _ h => h) (Or.inl ⟨by first | rfl | go_simp, by intro w9 hSw; (try dsimp only at hSw); go_simp⟩) (by assumption) ?_
      simp only [List.getElem_toArray, List.getElem_cons_zero, List.getElem_cons_succ, Act.put, List.setIfInBounds_toArray, List.set_cons_zero, List.set_cons_succ]
      refine wpAnyH_ready (rs := [13]) (by kernel_rfl) (by simp) ?_
      refine AllReadyH.cons rfl (fun K hK => ?_) (AllReadyH.nil)
      go_simp
      have CA := CellsAt.lit X1 [.int .i64 xk, .slice A2 p c2] #[.int .i64 xk, .slice A2 p c2] 49 rfl
      have own := World.ownsRow.alloc own (.cells #[.int .i64 xk, .slice A2 p c2] 49)
      have hown := hown.alloc (.cells #[.int .i64 xk, .slice A2 p c2] 49)
      have hmine := fun x hx => (And.intro ((hmine x hx).1.alloc (.cells #[.int .i64 xk, .slice A2 p c2] 49)) (hmine x hx).2 : Mine _ _ x ∧ _)
      have BW := BW.alloc (Nat.le_trans hw0 BW.size) (.cells #[.int .i64 xk, .slice A2 p c2] 49)
      generalize X1.alloc (.cells #[.int .i64 xk, .slice A2 p c2] 49) = X2 at *
      have TT := And.intro ((BW.cell (p := ⟨b, off + j * 2, none⟩) hbl).trans h0) ((BW.cell (p := ⟨b, off + j * 2 + 1, none⟩) hbl).trans h1)
      refine hK.out _ _ TT (fun hHeld => ?_)
      clear hK K
      try simp only [List.getElem_toArray, List.getElem_cons_zero, List.getElem_cons_succ, Act.put, List.setIfInBounds_toArray, List.set_cons_zero, List.set_cons_succ]
      refine wpAnyH_ready (rs := [14]) (by kernel_rfl) (by simp) ?_
      refine AllReadyH.cons rfl (fun K hK => ?_) (AllReadyH.nil)
      refine step_append_rows rfl (.tmp 12) (.tmp 25) 22 rfl w.heap.size 49 iE _ 2 32 Try.underlying22 hi hz hs hb hc0 (by decide) (.slice A1 j c1) j (l'.flatMap encE) rfl hown _ (some ⟨X1.heap.size, 0, none⟩) 1 1 [.int .i64 xk, .slice A2 p c2] rfl rfl (el_one _ _ _ _) CA (by unfold maxLen; omega) (by omega) (Nat.le_trans hw0 BW.size) ?_
      intro v4 X3 own4 b4 gr4
      obtain ⟨A4, c4, rfl⟩ := own_form own4
      have own := own_other own hown (by decide) gr4
      have hmine := fun x hx => (And.intro (own_other (hmine x hx).1 hown (by decide) gr4) (hmine x hx).2 : Mine _ _ x ∧ _)
      have BW := BW.trans b4
      have TT := And.intro ((BW.cell (p := ⟨b, off + j * 2, none⟩) hbl).trans h0) ((BW.cell (p := ⟨b, off + j * 2 + 1, none⟩) hbl).trans h1)
      refine hK.out _ _ TT (fun hHeld => ?_)
      clear hK K
      try simp only [List.getElem_toArray, List.getElem_cons_zero, List.getElem_cons_succ, Act.put, List.setIfInBounds_toArray, List.set_cons_zero, List.set_cons_succ]
      refine wpAnyH_take (i := 15) (v := .slice A4 (j + 1) c4) rfl (by kernel_rfl) (by kernel_rfl) (by kernel_rfl) (fun _ _ _ h => h) (Or.inl ⟨by first | rfl | go_simp, by intro w9 hSw; (try dsimp only at hSw); go_simp⟩) (by assumption) ?_
      simp only [List.getElem_toArray, List.getElem_cons_zero, List.getElem_cons_succ, Act.put, List.setIfInBounds_toArray, List.set_cons_zero, List.set_cons_succ]
      refine wpAnyH_done (by kernel_rfl) ?_ _
      have HR := Lib.hid (And.intro own (And.intro hmine own4))
      go_wp2_with fail
      go_roundw
      case rel =>
        refine ⟨j + 1, by omega, by go_num, A4, c4, l' ++ [⟨xk, A2, c2, xv⟩], rfl, by simp [hl'], Lib.hid ?_, ?_, ?_, hbel.trans BW⟩
        · rw [List.map_append, hm'.out, hmx.out]; rfl
        · rw [flat_append]
          have e : List.flatMap encE [(⟨xk, A2, c2, xv⟩ : El)] = [.int .i64 xk, .slice A2 p c2] := by simp [encE, HP.out]
          rw [e]; exact HR.out.2.2
        · intro x hx
          rcases List.mem_append.mp hx with hx | hx
          · exact HR.out.2.1 x hx
          · rw [List.mem_singleton.mp hx]
            refine ⟨?_, by simp only [HP.out]; exact q2⟩
            unfold Mine
            simp only [HP.out]
            exact HR.out.1
      case measure => simp [intOf]; omega
    · obtain rfl : j = n := by omega
      have HM : Hid (l'.map El.e = l.map El.e) := Lib.hid (hm'.out.trans HTk.out)
      have hT : ElsAt wr wr.heap.size A1 l' := ⟨CellsAt.own hown, fun x hx => (hmine x hx).1.own (hmine x hx).2⟩
      have hcap := own_capK hown
      have HH := Lib.hid (And.intro hT (And.intro hcap hl'))
      clear hown hmine hT HN HO HOw HTk hm' hl' hcap
      go_wp2_with fail
      go_ret
      exact ⟨A1, c1, l', rfl, HH.out.2.1, HH.out.2.2, HM.out, HH.out.1, hbel⟩
theorem rdecode_long (A : Option Addr) (n c : Nat) (xs : List Int) (w : World) (hx : xs.length = n) (hn : 31 < n) :
    Calls Try.prog 16 #[.slice A n c] w fun e w' => Decd w w' e (decR xs) := by
  have HR : Hid (decR xs = ([], 4)) := Lib.hid (by unfold decR; rw [if_pos (by omega)])
  have g1 : (31 : Int) < (n : Int) := by omega
  clear hx
  go_enter Try.func16, Try.ntmps16
  go_wp2_with fail
  go_ret2
  exact decd_err HR.out rfl (Below.refl _ _)
set_option maxRecDepth 100000 in
set_option maxHeartbeats 4000000 in
theorem rdecode_main (A : Option Addr) (n c : Nat) (xs : List Int) (w : World) (hx : xs.length = n) (hn : n ≤ 31) (hnc : n ≤ c) (bx : Bytes xs) (hr : Ints .u8 w w.heap.size A xs) :
    Calls Try.prog 16 #[.slice A n c] w fun e w' => Decd w w' e (decR xs) := by
  obtain ⟨iE, hi, hz, hs, hb, hc0⟩ := info_parts2 info_el rfl
  obtain ⟨i0, gi, gz, gs, gb⟩ := info_parts info_u8
  have g0 : ¬ (31 : Int) < (n : Int) := by omega
  have HRun : Hid (decR xs = run 32 [] xs) := Lib.hid (by unfold decR; rw [if_neg (by omega)])
  go_enter Try.func16, Try.ntmps16
  go_wp2_with fail
  go_loopw [0, 4] (fun s0 s4 wr => ∃ (q : Nat) (LA : Option Addr) (lc : Nat) (l : List El) (Az : Option Addr) (k cz : Nat) (zs : List Int) (f : Nat), s4 = .slice LA q lc ∧ s0 = .slice Az k cz ∧ zs.length = k ∧ k ≤ cz ∧ k + q ≤ 31 ∧ k < f ∧ Hid (Bytes zs) ∧ Hid (Ints .u8 wr w.heap.size Az zs) ∧ Hid (run f (l.map El.e) zs = run 32 [] xs) ∧ Hid (l.length = q) ∧ wr.ownsRow w.heap.size 49 2 (.slice LA q lc) q (l.flatMap encE) ∧ (∀ x ∈ l, Mine wr w.heap.size x ∧ x.v.length ≤ 31) ∧ Below w.heap.size w wr) (fun s0 _ _ => lenS s0)
  case atStart => exact ⟨0, _, _, [], A, n, c, xs, 32, rfl, rfl, hx, hnc, by omega, by omega, Lib.hid bx, Lib.hid (hr.alloc (Nat.le_refl _) _), Lib.hid rfl, Lib.hid rfl, World.ownsRow_made _ _ 0 (Nat.le_refl _) (by unfold maxLen; omega) rfl, by simp, (Below.refl _ _).alloc (Nat.le_refl _) _⟩
  case round =>
    obtain ⟨q, LA, lc, l, Az, k, cz, zs, f, rfl, rfl, hz1, hkc, hkq, hkf, HB, HI0, HR, HL, hown, hmine, hbel⟩ := hrel
    clear hx hr bx
    rcases Nat.eq_zero_or_pos k with hk0 | hk0
    · have hzn : zs = [] := List.eq_nil_of_length_eq_zero (by omega)
      have gk0 : ¬ (0 : Int) < (k : Int) ∧ ¬ 0 < k := by omega
      have HD : Hid (decR xs = (l.map El.e, 0)) := Lib.hid (by rw [HRun.out, ← HR.out, hzn, run_nil])
      have HH := Lib.hid (And.intro hown hmine)
      clear hzn hz1 hkf hown hmine
      go_wp2_with fail
      go_ret2
      refine ⟨LA, lc, l, by rw [HD.out, HL.out]; rfl, by rw [HD.out], by rw [HL.out]; exact HH.out.1, HH.out.2, hbel⟩
    · have gk : ((0 : Int) < (k : Int)) ∧ 0 < k ∧ ¬ (k : Int) ≤ 0 := by omega
      obtain ⟨f, rfl⟩ : ∃ f', f = f' + 1 := ⟨f - 1, by omega⟩
      obtain ⟨z, r, rfl⟩ : ∃ z r, zs = z :: r := by
        cases zs with
        | nil => simp at hz1; omega
        | cons z r => exact ⟨z, r, rfl⟩
      have hrl : r.length + 1 = k := by simpa using hz1
      have bz : 0 ≤ z ∧ z ≤ 255 := HB.out z (by simp)
      obtain ⟨b, off, rfl, hbb, hcl⟩ := HI0.out.at_ (i := 0) (by simp)
      have T0 : wr.cell? ⟨b, off, none⟩ = some (.int .u8 z) := hcl 0 (by simp)
      have ez : IntKind.i64.wrap z = z := by rw [IntWalk.i64_in _ (by omega)]
      have ez1 : IntKind.i64.wrap (1 + z) = 1 + z := by rw [IntWalk.i64_in _ (by omega)]
      by_cases h0 : z = 0
      · have HF : Hid (decR xs = ([], 2)) := Lib.hid (by rw [HRun.out, ← HR.out, run_zero h0])
        subst h0
        clear hown hmine
        go_wp2_with fail
        go_ret2
        exact decd_err HF.out rfl hbel
      · have d0 : (z == 0) = false := by simpa using h0
        by_cases h1 : (k : Int) < 1 + z
        · have HF : Hid (decR xs = ([], 3)) := Lib.hid (by rw [HRun.out, ← HR.out, run_short h0 (by omega)])
          clear hown hmine h0
          go_wp2_with fail
          go_ret2
          exact decd_err HF.out rfl hbel
        · obtain ⟨s, hs1⟩ : ∃ s : Nat, 1 + z = (s : Int) := ⟨(1 + z).toNat, by omega⟩
          have hs2 : 2 ≤ s ∧ s ≤ k := by omega
          obtain ⟨b2, o2, hcut, hcutI⟩ := cut_lh b off k cz 2 s hs2.1 (by omega)
          obtain ⟨b3, o3, hcut3, hcutI3⟩ := cut_l b off k cz s hs2.2 hkc
          obtain ⟨y, r', rfl⟩ : ∃ y r', r = y :: r' := by
            cases r with
            | nil => simp at hrl; omega
            | cons y r' => exact ⟨y, r', rfl⟩
          have T1 : wr.cell? ⟨b, off + 1, none⟩ = some (.int .u8 y) := hcl 1 (by simp)
          have by_ : 0 ≤ y ∧ y ≤ 255 := HB.out y (by simp)
          have ey : IntKind.i64.wrap y = y := by rw [IntWalk.i64_in _ (by omega)]
          obtain ⟨p, hp⟩ : ∃ p, s - 2 = p := ⟨_, rfl⟩
          rw [hp] at hcut hcutI
          replace hcut : ∀ w : World, (Instr.slice 24 (.slice (some ⟨b, off, none⟩) k cz) (some (.int .i64 2)) (some (.int .i64 (s : Int))) none).run Try.prog w = .ok (.slice (some ⟨b2, o2, none⟩) p (cz - 2)) w := hcut
          obtain ⟨vs, hvs⟩ : ∃ vs, r'.take p = vs := ⟨_, rfl⟩
          have hvl : vs.length = p := by rw [← hvs, List.length_take]; simp at hrl; omega
          have HP := Lib.hid hvl
          have hw0 := hbel.size
          have HI : Hid (∀ X, Below w.heap.size wr X → Ints .u8 X X.heap.size (some ⟨b2, o2, none⟩) vs) := Lib.hid fun X hb => by
            have := hcutI X w.heap.size (z :: y :: r') (HI0.out.below hb)
            simp only [List.drop_succ_cons, List.drop_zero, hvs] at this
            exact this.more (by have := hb.size; omega)
          have HN : Hid (∀ X, Below w.heap.size wr X → Ints .u8 X w.heap.size (some ⟨b3, o3, none⟩) ((z :: y :: r').drop s)) := Lib.hid fun X hb => hcutI3 X w.heap.size _ hz1 (HI0.out.below hb)
          have HL3 : Hid (((z :: y :: r').drop s).length = k - s) := Lib.hid (by rw [List.length_drop, hz1])
          have HB3 : Hid (Bytes ((z :: y :: r').drop s)) := Lib.hid fun x hx => HB.out x (List.mem_of_mem_drop hx)
          have HR3 : Hid (∀ A2 c2, run f ((l ++ [(⟨y, A2, c2, vs⟩ : El)]).map El.e) ((z :: y :: r').drop s) = run 32 [] xs) := Lib.hid fun A2 c2 => by
            rw [← HR.out, run_step h0 (by simp at hrl ⊢; omega)]
            have e1 : z.toNat = s - 1 := by omega
            have e2 : (z :: y :: r').drop s = (y :: r').drop (s - 1) := by
              rw [show s = (s - 1) + 1 by omega, List.drop_succ_cons]
              rfl
            rw [e1, e2, List.map_append, show s - 1 - 1 = p by omega]
            simp only [List.map_cons, List.map_nil, El.e, List.headD_cons, List.drop_succ_cons, List.drop_zero, hvs]
          have g5 : (0 : Int) ≤ 1 ∧ ¬ (k : Int) ≤ 1 ∧ (1 : Int) < (k : Int) ∧ 1 < k := by omega
          have g6 : ¬ (k : Int) < (s : Int) := by omega
          rw [hs1] at ez1
          have g7 : s ≤ k ∧ (0 : Int) ≤ (s : Int) ∧ (s : Int) ≤ (k : Int) := by omega
          clear hcl hcutI hcutI3 HB HI0 HR hvs hrl hvl h1 h0
          go_wp2_with fail
          refine wp_region_held_drew (S := (fun w' => w'.cell? ⟨b, off + 1, none⟩ = some (.int .u8 y))) (by kernel_rfl) ?_ (fun hHeld => ?_)
          · exact T1
          have BW := (Below.refl w.heap.size wr).drew
          have hown : wr.drew.ownsRow w.heap.size 49 2 (.slice LA q lc) q _ := hown
          have hmine : ∀ x ∈ l, Mine wr.drew w.heap.size x ∧ x.v.length ≤ 31 := hmine
          have TT := (BW.cell (p := ⟨b, off + 1, none⟩) hbb).trans T1
          generalize wr.drew = X0 at *
          refine wpAnyH_take (i := 0) (v := .slice LA q lc) rfl (by kernel_rfl) (by kernel_rfl) (by kernel_rfl) (fun _ _ _ h => h) (Or.inl ⟨by first | rfl | go_simp, by intro w9 hSw; (try dsimp only at hSw); go_simp⟩) (by assumption) ?_
          simp only [List.getElem_toArray, List.getElem_cons_zero, List.getElem_cons_succ, Act.put, List.setIfInBounds_toArray, List.set_cons_zero, List.set_cons_succ]
          refine wpAnyH_take (i := 1) (v := .slice (some ⟨b, off, none⟩) k cz) rfl (by kernel_rfl) (by kernel_rfl) (by kernel_rfl) (fun _ _ _ h => h) (Or.inl ⟨by first | rfl | go_simp, by intro w9 hSw; (try dsimp only at hSw); go_simp⟩) (by assumption) ?_
          simp only [List.getElem_toArray, List.getElem_cons_zero, List.getElem_cons_succ, Act.put, List.setIfInBounds_toArray, List.set_cons_zero, List.set_cons_succ]
          refine wpAnyH_take (i := 2) (v := .pointer (some ⟨b, off + 1, none⟩)) rfl (by kernel_rfl) (by kernel_rfl) (by kernel_rfl) (fun _ _ _ h => h) (Or.inl ⟨by first | rfl | go_simp, by intro w9 hSw; (try dsimp only at hSw); go_simp⟩) (by assumption) ?_
          simp only [List.getElem_toArray, List.getElem_cons_zero, List.getElem_cons_succ, Act.put, List.setIfInBounds_toArray, List.set_cons_zero, List.set_cons_succ]
          refine wpAnyH_take (i := 3) (v := .int .u8 y) rfl (by kernel_rfl) (by kernel_rfl) (by kernel_rfl) (fun _ _ _ h => h) (Or.inl ⟨by first | rfl | go_simp, by intro w9 hSw; (try dsimp only at hSw); go_simp⟩) (by assumption) ?_
          simp only [List.getElem_toArray, List.getElem_cons_zero, List.getElem_cons_succ, Act.put, List.setIfInBounds_toArray, List.set_cons_zero, List.set_cons_succ]
          refine wpAnyH_take (i := 4) (v := .int .i64 y) rfl (by kernel_rfl) (by kernel_rfl) (by kernel_rfl) (fun _ _ _ h => h) (Or.inl ⟨by first | rfl | go_simp, by intro w9 hSw; (try dsimp only at hSw); go_simp⟩) (by assumption) ?_
          simp only [List.getElem_toArray, List.getElem_cons_zero, List.getElem_cons_succ, Act.put, List.setIfInBounds_toArray, List.set_cons_zero, List.set_cons_succ]
          refine wpAnyH_take (i := 6) (v := .slice (some ⟨b, off, none⟩) k cz) rfl (by kernel_rfl) (by kernel_rfl) (by kernel_rfl) (fun _ _ _ h => h) (Or.inl ⟨by first | rfl | go_simp, by intro w9 hSw; (try dsimp only at hSw); go_simp⟩) (by assumption) ?_
          simp only [List.getElem_toArray, List.getElem_cons_zero, List.getElem_cons_succ, Act.put, List.setIfInBounds_toArray, List.set_cons_zero, List.set_cons_succ]
          refine wpAnyH_take (i := 7) (v := .int .i64 z) rfl (by kernel_rfl) (by kernel_rfl) (by kernel_rfl) (fun _ _ _ h => h) (Or.inl ⟨by first | rfl | go_simp, by intro w9 hSw; (try dsimp only at hSw); go_simp⟩) (by assumption) ?_
          simp only [List.getElem_toArray, List.getElem_cons_zero, List.getElem_cons_succ, Act.put, List.setIfInBounds_toArray, List.set_cons_zero, List.set_cons_succ]
          refine wpAnyH_take (i := 8) (v := .int .i64 (s : Int)) rfl (by kernel_rfl) (by kernel_rfl) (by kernel_rfl) (fun _ _ _ h => h) (Or.inl ⟨by first | rfl | go_simp, by intro w9 hSw; (try dsimp only at hSw); go_simp⟩) (by assumption) ?_
          simp only [List.getElem_toArray, List.getElem_cons_zero, List.getElem_cons_succ, Act.put, List.setIfInBounds_toArray, List.set_cons_zero, List.set_cons_succ]
          refine wpAnyH_take (i := 9) (v := .slice (some ⟨b2, o2, none⟩) p (cz - 2)) rfl (by kernel_rfl) (by kernel_rfl) (by kernel_rfl) (fun _ _ _ h => h) (Or.inl ⟨by first | rfl | go_simp, by intro w9 hSw; (try dsimp only at hSw); go_simp⟩) (by assumption) ?_
          simp only [List.getElem_toArray, List.getElem_cons_zero, List.getElem_cons_succ, Act.put, List.setIfInBounds_toArray, List.set_cons_zero, List.set_cons_succ]
          refine wpAnyH_ready (rs := [5]) (by kernel_rfl) (by simp) ?_
          refine AllReadyH.cons rfl (fun K hK => ?_) (AllReadyH.nil)
          go_simp
          have hub : ∀ x ∈ l, ∀ g, (Value.slice x.A x.v.length x.c).ownBlock = some g → g < X0.heap.size := fun x hx g hg => ((hmine x hx).1.lt g hg).2
          have own : (X0.alloc (.cells #[] 5)).ownsRow w.heap.size 5 1 (.slice (some ⟨X0.heap.size, 0, none⟩) 0 0) 0 [] := by simpa using World.ownsRow_made X0 #[] 0 (e := 5) (base := w.heap.size) (size := 1) (Nat.le_trans hw0 BW.size) (by unfold maxLen; omega) rfl
          have hown := hown.alloc (.cells #[] 5)
          have hmine := fun x hx => (And.intro ((hmine x hx).1.alloc (.cells #[] 5)) (hmine x hx).2 : Mine _ _ x ∧ _)
          have BW := BW.alloc (Nat.le_trans hw0 BW.size) (.cells #[] 5)
          generalize X0.alloc (.cells #[] 5) = X1 at *
          have TT := (BW.cell (p := ⟨b, off + 1, none⟩) hbb).trans T1
          refine hK.out _ _ TT (fun hHeld => ?_)
          clear hK K
          try simp only [List.getElem_toArray, List.getElem_cons_zero, List.getElem_cons_succ, Act.put, List.setIfInBounds_toArray, List.set_cons_zero, List.set_cons_succ]
          refine wpAnyH_ready (rs := [10]) (by kernel_rfl) (by simp) ?_
          refine AllReadyH.cons rfl (fun K hK => ?_) (AllReadyH.nil)
          refine step_append_ints rfl (.tmp 29) (.tmp 33) 24 rfl .u8 w.heap.size 5 i0 _ 1 Try.underlying24 gi gz gs gb rfl (.slice (some ⟨X0.heap.size, 0, none⟩) 0 0) 0 [] rfl own X1.heap.size (some ⟨b2, o2, none⟩) p (cz - 2) vs rfl HP.out (HI.out _ BW) (by unfold maxLen; omega) (by omega) (Nat.le_trans hw0 BW.size) ?_
          intro v2 X2 own2 b2' gr2
          rw [Nat.zero_add] at own2
          obtain ⟨A2, c2, rfl⟩ := own_form own2
          simp only [List.nil_append] at own2
          have own3 := own2
          have hmine := fun x hx => (And.intro (own_apart (hmine x hx).1 gr2 (hub x hx)) (hmine x hx).2 : Mine _ _ x ∧ _)
          have hown := own_other hown own (by decide) gr2
          have BW := BW.trans b2'
          have TT := (BW.cell (p := ⟨b, off + 1, none⟩) hbb).trans T1
          refine hK.out _ _ TT (fun hHeld => ?_)
          clear hK K
          try simp only [List.getElem_toArray, List.getElem_cons_zero, List.getElem_cons_succ, Act.put, List.setIfInBounds_toArray, List.set_cons_zero, List.set_cons_succ]
          refine wpAnyH_take (i := 11) (v := .agg #[.int .i64 y, .slice A2 p c2]) rfl (by kernel_rfl) (by kernel_rfl) (by kernel_rfl) (fun _ _ _ h => h) (Or.inl ⟨by first | rfl | go_simp, by intro w9 hSw; (try dsimp only at hSw); go_simp⟩) (by assumption) ?_
          simp only [List.getElem_toArray, List.getElem_cons_zero, List.getElem_cons_succ, Act.put, List.setIfInBounds_toArray, List.set_cons_zero, List.set_cons_succ]
          refine wpAnyH_ready (rs := [12]) (by kernel_rfl) (by simp) ?_
          refine AllReadyH.cons rfl (fun K hK => ?_) (AllReadyH.nil)
          go_simp
          have CA := CellsAt.lit X2 [.int .i64 y, .slice A2 p c2] #[.int .i64 y, .slice A2 p c2] 49 rfl
          have own3 := World.ownsRow.alloc own3 (.cells #[.int .i64 y, .slice A2 p c2] 49)
          have hown := hown.alloc (.cells #[.int .i64 y, .slice A2 p c2] 49)
          have hmine := fun x hx => (And.intro ((hmine x hx).1.alloc (.cells #[.int .i64 y, .slice A2 p c2] 49)) (hmine x hx).2 : Mine _ _ x ∧ _)
          have BW := BW.alloc (Nat.le_trans hw0 BW.size) (.cells #[.int .i64 y, .slice A2 p c2] 49)
          generalize X2.alloc (.cells #[.int .i64 y, .slice A2 p c2] 49) = X3 at *
          have TT := (BW.cell (p := ⟨b, off + 1, none⟩) hbb).trans T1
          refine hK.out _ _ TT (fun hHeld => ?_)
          clear hK K
          try simp only [List.getElem_toArray, List.getElem_cons_zero, List.getElem_cons_succ, Act.put, List.setIfInBounds_toArray, List.set_cons_zero, List.set_cons_succ]
          refine wpAnyH_ready (rs := [13]) (by kernel_rfl) (by simp) ?_
          refine AllReadyH.cons rfl (fun K hK => ?_) (AllReadyH.nil)
          refine step_append_rows rfl (.tmp 24) (.tmp 36) 22 rfl w.heap.size 49 iE _ 2 32 Try.underlying22 hi hz hs hb hc0 (by decide) (.slice LA q lc) q (l.flatMap encE) rfl hown _ (some ⟨X2.heap.size, 0, none⟩) 1 1 [.int .i64 y, .slice A2 p c2] rfl rfl (el_one _ _ _ _) CA (by unfold maxLen; omega) (by omega) (Nat.le_trans hw0 BW.size) ?_
          intro v4 X4 own4 b4 gr4
          obtain ⟨A4, c4, rfl⟩ := own_form own4
          have own3 := own_other own3 hown (by decide) gr4
          have hmine := fun x hx => (And.intro (own_other (hmine x hx).1 hown (by decide) gr4) (hmine x hx).2 : Mine _ _ x ∧ _)
          have BW := BW.trans b4
          have TT := (BW.cell (p := ⟨b, off + 1, none⟩) hbb).trans T1
          refine hK.out _ _ TT (fun hHeld => ?_)
          clear hK K
          try simp only [List.getElem_toArray, List.getElem_cons_zero, List.getElem_cons_succ, Act.put, List.setIfInBounds_toArray, List.set_cons_zero, List.set_cons_succ]
          refine wpAnyH_take (i := 14) (v := .slice A4 (q + 1) c4) rfl (by kernel_rfl) (by kernel_rfl) (by kernel_rfl) (fun _ _ _ h => h) (Or.inl ⟨by first | rfl | go_simp, by intro w9 hSw; (try dsimp only at hSw); go_simp⟩) (by assumption) ?_
          simp only [List.getElem_toArray, List.getElem_cons_zero, List.getElem_cons_succ, Act.put, List.setIfInBounds_toArray, List.set_cons_zero, List.set_cons_succ]
          refine wpAnyH_done (by kernel_rfl) ?_ _
          have HRR := Lib.hid (And.intro own3 (And.intro hmine own4))
          go_wp2_with fail
          go_roundw
          case rel =>
            refine ⟨q + 1, A4, c4, l ++ [⟨y, A2, c2, vs⟩], some ⟨b3, o3, none⟩, k - s, cz - s, _, f, rfl, rfl, HL3.out, by omega, by omega, by omega, HB3, Lib.hid (HN.out _ BW), Lib.hid (HR3.out A2 c2), Lib.hid (by simp [HL.out]), ?_, ?_, hbel.trans BW⟩
            · rw [flat_append]
              have e : List.flatMap encE [(⟨y, A2, c2, vs⟩ : El)] = [.int .i64 y, .slice A2 p c2] := by simp [encE, HP.out]
              rw [e]; exact HRR.out.2.2
            · intro x hx
              rcases List.mem_append.mp hx with hx | hx
              · exact HRR.out.2.1 x hx
              · rw [List.mem_singleton.mp hx]
                refine ⟨?_, by simp only [HP.out]; omega⟩
                unfold Mine
                simp only [HP.out]
                exact HRR.out.1
          case measure => simp [lenS]; omega
theorem rdecode_any (A : Option Addr) (n c : Nat) (xs : List Int) (w : World) (hx : xs.length = n) (hnc : n ≤ c) (bx : Bytes xs) (hr : Ints .u8 w w.heap.size A xs) :
    Calls Try.prog 16 #[.slice A n c] w fun e w' => Decd w w' e (decR xs) := by
  by_cases h : n ≤ 31
  · exact rdecode_main A n c xs w hx h hnc bx hr
  · exact rdecode_long A n c xs w hx (by omega)
end Go.Proofs.Ytpbfnkicbejdbaa.Ad
