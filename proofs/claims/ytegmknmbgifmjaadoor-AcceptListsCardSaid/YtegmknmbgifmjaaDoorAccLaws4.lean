/- The statements on accept lists, walked: any changes of the empty list. -/
import Derived.Test.YtegmknmbgifmjaaDoorAccLaws3
import Derived.Deep.CutRange
set_option linter.unusedVariables false
set_option linter.unusedSimpArgs false
namespace Go.Proofs.YtegmknmbgifmjaaDoor.Ace
open Go.RowKit Mem Rw Base Arg
open Prv (findZ Idents triples_below)

theorem own_apart {w w' : World} {b1 : Nat} {e1 : TypeId} {s1 n1 : Nat} {v1 v2 : Value} {xs1 : List Value} (h1 : w.ownsRow b1 e1 s1 v1 n1 xs1) (hlt : ∀ g, v2.ownBlock = some g → g < b1) (hg : w.grownBy w' v2.ownBlock) : w'.ownsRow b1 e1 s1 v1 n1 xs1 := by
  refine h1.kept hg ?_
  cases hv : v1.ownBlock with
  | none => exact .inl rfl
  | some g =>
    right
    intro he
    have := (h1.lt g hv).1
    have := hlt g he.symm
    omega
theorem steps_at {w : World} {B : Nat} {A : Option Addr} {l : List (Bool × Int × Int)} (h : ListAt Rd.encS w B A l) (hl : 0 < l.length) :
    ∃ b off, A = some ⟨b, off, none⟩ ∧ b < B ∧ ∀ (j : Nat) x, l[j]? = some x → w.cell? ⟨b, off + j * 3, none⟩ = some (.bool x.1) ∧ w.cell? ⟨b, off + j * 3 + 1, none⟩ = some (.int .i64 x.2.1) ∧ w.cell? ⟨b, off + j * 3 + 2, none⟩ = some (.int .u64 x.2.2) := by
  obtain ⟨b, off, e, hb, hc⟩ := h.open_ Rd.sizS (by omega) hl
  exact ⟨b, off, e, hb, fun j x hj => ⟨hc j x hj 0 _ rfl, hc j x hj 1 _ rfl, hc j x hj 2 _ rfl⟩⟩
theorem add_cases (m : List (Int × Int)) (a : Int × Int) : (addL m a = (m ++ [a], 0) ∧ onB m a = false ∧ m.length < 64) ∨ ∃ x, addL m a = (m, x) ∧ x ≠ 0 := by
  by_cases h : Adr.chk a.1 a.2 = 0
  · cases ho : onB m a with
    | true => exact .inr ⟨7, add_on h ho, by decide⟩
    | false =>
      by_cases h64 : 64 ≤ m.length
      · exact .inr ⟨8, add_full h ho h64, by decide⟩
      · exact .inl ⟨add_ok h ho (by omega), rfl, by omega⟩
  · exact .inr ⟨_, add_bad h, h⟩
theorem has_nil (m : List (Int × Int)) (a : Int × Int) : hasB m [] a = onB m a := by
  unfold hasB
  have : findZ a.1 a.2 [] = -1 := by unfold Prv.findZ; split <;> rfl
  rw [this]; simp
abbrev Thr (w : World) (b o g : Nat) (q : Bool) (a1 a2 : Int) : Prop := w.cell? ⟨b, o, none⟩ = some (.bool q) ∧ w.cell? ⟨g, 0, none⟩ = some (.int .i64 a1) ∧ w.cell? ⟨g, 1, none⟩ = some (.int .u64 a2)
theorem thr_below {w w' : World} {b o g B : Nat} {q : Bool} {a1 a2 : Int} (h : Thr w b o g q a1 a2) (k : Below w.heap.size w w') : Thr w' b o g q a1 a2 :=
  ⟨(k.cell (p := ⟨b, o, none⟩) (block_lt_of_cell h.1)).trans h.1, (k.cell (p := ⟨g, 0, none⟩) (block_lt_of_cell h.2.1)).trans h.2.1, (k.cell (p := ⟨g, 1, none⟩) (block_lt_of_cell h.2.2)).trans h.2.2⟩

set_option maxRecDepth 100000 in
set_option maxHeartbeats 8000000 in
theorem law_lists (A : Option Addr) (c : Nat) (l : List (Bool × Int × Int)) (w : World) (hr : ListAt Rd.encS w w.heap.size A l) (hg : ∀ x ∈ l, Rd.GoodA x.2) (hnc : l.length ≤ c) (hcb : c * 24 ≤ 140737488351232) (hT : Adr.Tab w) :
    Calls Tryd.prog 7 #[.slice A l.length c] w fun e w' => e = .returned (.bool true) ∧ Below w.heap.size w w' := by
  obtain ⟨iE, hi, hz, hs, hb2, hc0⟩ := info_parts2 info_adr rfl
  obtain ⟨n, hl⟩ : ∃ n, l.length = n := ⟨_, rfl⟩
  rw [hl] at hnc ⊢
  have HLi := Lib.hid lives_any
  have HN := Lib.hid (fun j (h : j < n) => has hl h)
  have HO : Hid (∀ w', Below w.heap.size w w' → 0 < n → _) := Lib.hid fun w' hb h0 => steps_at (CellsAt.below hr hb) (by omega)
  have HG := Lib.hid hg
  clear hr hl hg
  by_cases h1 : 100 < n
  · have g1 : (100 : Int) < (n : Int) := by omega
    go_enter Tryd.func7, Tryd.ntmps7
    go_wp2_with fail
    refine (HLi.out w hT).mono ?_
    rintro e W1 ⟨rfl, b1⟩
    go_wp2_with fail
    go_ret
    exact ⟨rfl, b1⟩
  have g1 : ¬ (100 : Int) < (n : Int) := by omega
  go_enter Tryd.func7, Tryd.ntmps7
  go_wp2_with fail
  refine (HLi.out w hT).mono ?_
  rintro e W1 ⟨rfl, b1⟩
  have T1 := hT.below b1
  go_wp2_with fail
  go_loopw [3, 4, 5, 6, 7, 8] (fun s3 s4 _ _ _ _ wr => ∃ j : Nat, j ≤ n ∧ s4 = .int .i64 j ∧ ∃ (q : Nat) (A' : Option Addr) (c' : Nat) (m : List (Int × Int)), s3 = .slice A' q c' ∧ m.length = q ∧ q ≤ 64 ∧ wr.ownsRow W1.heap.size 25 2 (.slice A' q c') q (m.flatMap encA) ∧ Below W1.heap.size W1 wr ∧ Adr.Tab wr) (fun _ s4 _ _ _ _ _ => n - (intOf s4).toNat)
  case atStart => exact ⟨0, by omega, rfl, 0, _, _, [], rfl, rfl, by omega, World.ownsRow_made _ _ 0 (Nat.le_refl _) (by unfold maxLen; omega) rfl, (Below.refl _ _).alloc (Nat.le_refl _) _, T1.alloc _⟩
  case round =>
    obtain ⟨j, hj, rfl, q, A', c', m, rfl, hmq, hq64, own, hbel, Tr⟩ := hrel
    have BW := thenB b1 hbel
    have HQ := Lib.hid hmq
    clear hmq
    by_cases cj : j < n
    · obtain ⟨x, hxj, hxm⟩ := HN.out j cj
      obtain ⟨b, off, rfl, hbl, hc⟩ := HO.out _ BW (by omega)
      obtain ⟨h0, h1, h2⟩ := hc j x hxj
      have HA := Lib.hid (HG.out x hxm)
      obtain ⟨ad, a1, a2⟩ := x
      simp only at h0 h1 h2
      have HA1 := Lib.hid HA.out.1
      have HA2 := Lib.hid HA.out.2
      have hw0 := hbel.size
      have hbr := block_lt_of_cell h0
      have g2 : (0 : Int) ≤ (j : Int) ∧ (j : Int) < (n : Int) := by omega
      have own2 := own.alloc (.cells #[.int .i64 a1, .int .u64 a2] 25)
      have BX2 := hbel.alloc hw0 (.cells #[.int .i64 a1, .int .u64 a2] 25)
      have TX2 := Tr.alloc (.cells #[.int .i64 a1, .int .u64 a2] 25)
      have F2 := Adr.box_new wr a1 a2
      have TT2 : Thr (wr.alloc (.cells #[.int .i64 a1, .int .u64 a2] 25)) b (off + j * 3) wr.heap.size ad a1 a2 := ⟨(((Below.refl wr.heap.size wr).alloc (Nat.le_refl _) (.cells #[.int .i64 a1, .int .u64 a2] 25)).cell (p := ⟨b, off + j * 3, none⟩) hbr).trans h0, F2.c0, F2.c1⟩
      have L2 : ListAt encA (wr.alloc (.cells #[.int .i64 a1, .int .u64 a2] 25)) (wr.alloc (.cells #[.int .i64 a1, .int .u64 a2] 25)).heap.size A' m := CellsAt.own own2
      have hbz2 := BX2.size
      have hlt2 := fun g hg => (own2.lt g hg).2
      have hltr := fun g hg => (own.lt g hg).2
      clear hc hxj hxm HA own Tr F2
      go_wp2_with fail
      generalize hX2 : wr.alloc (.cells #[.int .i64 a1, .int .u64 a2] 25) = X2 at *
      refine (copied_any _ q _ m X2 HQ.out (by omega) L2).mono ?_
      intro e X3 h
      obtain ⟨A1, c1, rfl, hc1, OB3, b3⟩ := h.len HQ.out
      have TT3 := thr_below (B := 0) TT2 b3
      have BX3 := BX2.trans (b3.mono hbz2)
      have hbz3 := Nat.le_trans hbz2 b3.size
      have TX3 := TX2.below b3
      have own3 := own_below own2 b3
      have L3 : ListAt encA X3 X3.heap.size A' m := CellsAt.own own3
      have d0 := TT3.1
      have d1 := TT3.2.1
      have d2 := TT3.2.2
      clear h L2 TT2 BX2 TX2 own2 h0 h1 h2
      cases ad with
      | true =>
        rcases add_cases m (a1, a2) with ⟨e1, e2, e3⟩ | ⟨x, e1, e2⟩
        · skip
          obtain ⟨m2, hm2⟩ : ∃ m2, m2 = m ++ [(a1, a2)] := ⟨_, rfl⟩
          have HQ2 : Hid (m2.length = q + 1) := Lib.hid (by rw [hm2]; simp [HQ.out])
          have HLe : Hid (q + 1 ≤ 64) := Lib.hid (by have := HQ.out; omega)
          have HHas : Hid (hasB m2 [] (a1, a2) = true) := Lib.hid (by rw [has_nil, hm2, on_snoc, eqA_iff.2 rfl]; simp)
          have HOn : Hid (onB m (a1, a2) = false) := Lib.hid e2
          have HX : Hid (m.flatMap encA ++ [.int .i64 a1, .int .u64 a2] = m2.flatMap encA) := Lib.hid (by rw [hm2]; simp [encA])
          have HRes : Hid (addL m (a1, a2) = (m2, 0)) := Lib.hid (by rw [hm2]; exact e1)
          clear e1 e2 e3 hm2
          have gq1 : ¬ 64 < q + 1 := by have := HLe.out; omega
          have gq2 : ¬ (64 : Int) < (q : Int) + 1 := by have := HLe.out; omega
          have TT3 : Thr X3.drew b (off + j * 3) wr.heap.size true a1 a2 := TT3
          have BX3 : Below W1.heap.size W1 X3.drew := BX3.drew
          have hbz3 : W1.heap.size ≤ X3.drew.heap.size := hbz3
          have TX3 : Adr.Tab X3.drew := TX3
          have own3 : X3.drew.ownsRow W1.heap.size 25 2 (.slice A' q c') q (m.flatMap encA) := own3
          have OB3 : X3.drew.ownsRow X2.heap.size 25 2 (.slice A1 q c1) q (m.flatMap encA) := OB3
          have L3 : ListAt encA X3.drew X3.drew.heap.size A' m := L3
          have hx23 : X2.heap.size ≤ X3.drew.heap.size := b3.size
          clear b3
          go_wp2_with fail
          go_region_held3 (fun w' => Thr w' b (off + j * 3) wr.heap.size true a1 a2) (first | exact TT5 | exact TT4 | exact TT3) (first
                      | (go_at_call 10; refine ((show Calls _ _ _ _ (fun e w2 => Pair X4 w2 e (m2, 0)) by rw [← HRes.out]; exact add_any _ q _ m a1 a2 X4 HQ.out (by omega) L4 HA1.out HA2.out TX4)).mono ?_; intro e X5 h; obtain ⟨A5, c5, rfl, hc5, own6, b5⟩ := h.len HQ2.out; have TT5 := thr_below (B := 0) TT4 b5; have BX5 := BX4.trans (b5.mono hbz4); have hbz5 := Nat.le_trans hbz4 b5.size; have TX5 := TX4.below b5; have own5 := own_below own4 b5; have OB5 := own_below OB4 b5; have hle5 := Nat.le_trans hx23 hle4; clear h L4 TT4 BX4 TX4 own4 OB4)
                      | (go_at_call 11; refine (copied_any _ q _ m _ HQ.out (by omega) L3).mono ?_; intro e X4 h; obtain ⟨A4, c4, rfl, hc4, own7, b4⟩ := h.len HQ.out; have L4 : ListAt encA X4 X4.heap.size A4 m := CellsAt.own own7; have TT4 := thr_below (B := 0) TT3 b4; have BX4 := BX3.trans (b4.mono hbz3); have hbz4 := Nat.le_trans hbz3 b4.size; have hle4 := b4.size; have TX4 := TX3.below b4; have own4 := own_below own3 b4; have OB4 := own_below OB3 b4; clear h own7 L3 TT3 BX3 TX3 own3 OB3))
          all_goals
            have LK : ListAt encA X5 X5.heap.size A5 m2 := CellsAt.own own6
            have LB : ListAt encA X5 X5.heap.size A1 m := CellsAt.own OB5
            obtain ⟨d0, d1, d2⟩ := id TT5
            have own7 := own5.alloc (.cells #[.int .i64 a1, .int .u64 a2] 25)
            have K7 := own6.alloc (.cells #[.int .i64 a1, .int .u64 a2] 25)
            have OB7 := OB5.alloc (.cells #[.int .i64 a1, .int .u64 a2] 25)
            have CA := CellsAt.lit X5 [.int .i64 a1, .int .u64 a2] #[.int .i64 a1, .int .u64 a2] 25 rfl
            have BX7 := BX5.alloc hbz5 (.cells #[.int .i64 a1, .int .u64 a2] 25)
            have TT7 : Thr (X5.alloc (.cells #[.int .i64 a1, .int .u64 a2] 25)) b (off + j * 3) wr.heap.size true a1 a2 := thr_below (B := 0) TT5 ((Below.refl _ _).alloc (Nat.le_refl _) _)
            have hx4 : X2.heap.size ≤ X4.heap.size := Nat.le_trans hx23 hle4
            clear LK LB own5 own6 OB5 TX5 TT5
            go_wp2_with (at_builtin; refine wpList_append_rows rfl _ _ 22 rfl W1.heap.size 25 iE _ 2 16 Tryd.underlying22 hi hz hs hb2 hc0 (by decide) (.slice A' q c') q (m.flatMap encA) rfl own7 _ (some ⟨X5.heap.size, 0, none⟩) 1 1 [.int .i64 a1, .int .u64 a2] rfl rfl (one_two _ _) CA (by unfold maxLen; omega) (by omega) BX7.size ?_; intro v8 w8 own8 b8 g8; obtain ⟨A8, c8, rfl⟩ := own_form own8)
            have K8 := own_apart K7 (fun g hg => Nat.lt_of_lt_of_le (hlt2 g hg) hx4) g8
            have OB8 := own_apart OB7 hlt2 g8
            have LK : ListAt encA w8 w8.heap.size A5 m2 := CellsAt.own K8
            have LB : ListAt encA w8 w8.heap.size A1 m := CellsAt.own OB8
            have own : w8.ownsRow W1.heap.size 25 2 (.slice A8 (q + 1) c8) (q + 1) (m2.flatMap encA) := by rw [← HX.out]; exact own8
            have LL : ListAt encA w8 w8.heap.size A8 m2 := CellsAt.own own
            have BX := BX7.trans b8
            have hbz := BX.size
            have TX := T1.below BX
            have TT : Thr w8 b (off + j * 3) wr.heap.size true a1 a2 := ⟨g8.cell TT7.1 (fun he => by have h1 := (own7.lt _ he.symm).1; have h2 := b1.size; simp only at h1; omega), g8.cell TT7.2.1 (fun he => Nat.lt_irrefl _ (hltr _ he.symm)), g8.cell TT7.2.2 (fun he => Nat.lt_irrefl _ (hltr _ he.symm))⟩
            clear K7 OB7 own7 own8 K8 OB8 BX7 b8 g8 TT7 BX5 hbz5 CA d0 d1 d2
            refine wp_region_held_drew (S := (fun w' => Thr w' b (off + j * 3) wr.heap.size true a1 a2)) (by kernel_rfl) ?_ (fun hHeld => ?_)
            · exact TT
            have BX : Below W1.heap.size W1 w8.drew := BX.drew
            have TX : Adr.Tab w8.drew := TX
            have TT : Thr w8.drew b (off + j * 3) wr.heap.size true a1 a2 := TT
            have LK : ListAt encA w8.drew w8.drew.heap.size _ m2 := LK
            have LL : ListAt encA w8.drew w8.drew.heap.size _ m2 := LL
            have LB : ListAt encA w8.drew w8.drew.heap.size _ m := LB
            have own : w8.drew.ownsRow W1.heap.size 25 2 _ _ _ := own
            have hbz : W1.heap.size ≤ w8.drew.heap.size := hbz
            generalize w8.drew = X0 at *
            refine wpAnyH_take (i := 0) (v := .slice A5 (q + 1) c5) rfl (by kernel_rfl) (by kernel_rfl) (by kernel_rfl) (fun _ _ _ h => h) (Or.inl ⟨by first | rfl | go_simp, by intro w9 hSw; (try dsimp only at hSw); go_simp⟩) (by assumption) ?_
            simp only [List.getElem_toArray, List.getElem_cons_zero, List.getElem_cons_succ, Act.put, List.setIfInBounds_toArray, List.set_cons_zero, List.set_cons_succ]
            refine wpAnyH_take (i := 1) (v := .slice A8 (q + 1) c8) rfl (by kernel_rfl) (by kernel_rfl) (by kernel_rfl) (fun _ _ _ h => h) (Or.inl ⟨by first | rfl | go_simp, by intro w9 hSw; (try dsimp only at hSw); go_simp⟩) (by assumption) ?_
            simp only [List.getElem_toArray, List.getElem_cons_zero, List.getElem_cons_succ, Act.put, List.setIfInBounds_toArray, List.set_cons_zero, List.set_cons_succ]
            refine wpAnyH_ready (rs := [2]) (by kernel_rfl) (by simp) ?_
            refine AllReadyH.cons rfl (fun K hK => ?_) (AllReadyH.nil)
            go_simp
            refine (same_any _ _ (q + 1) (q + 1) _ _ m2 m2 _ HQ2.out HQ2.out (by omega) (by omega) LK LL).mono ?_
            rintro e X1 ⟨rfl, b9⟩
            have es : decide (m2 = m2) = true := by simp
            rw [es]
            clear es
            have BX := BX.trans (b9.mono hbz)
            have hbz := Nat.le_trans hbz b9.size
            have TX := TX.below b9
            have TT := thr_below (B := 0) TT b9
            have LK := CellsAt.later LK b9
            have LL := CellsAt.later LL b9
            have LB := CellsAt.later LB b9
            have own := own_below own b9
            refine hK.out _ _ TT (fun hHeld => ?_)
            clear hK K
            try simp only [List.getElem_toArray, List.getElem_cons_zero, List.getElem_cons_succ, Act.put, List.setIfInBounds_toArray, List.set_cons_zero, List.set_cons_succ]
            refine wpAnyH_take (i := 3) (v := .bool false) rfl (by kernel_rfl) (by kernel_rfl) (by kernel_rfl) (fun _ _ _ h => h) (Or.inl ⟨by first | rfl | go_simp, by intro w9 hSw; (try dsimp only at hSw); go_simp⟩) (by assumption) ?_
            simp only [List.getElem_toArray, List.getElem_cons_zero, List.getElem_cons_succ, Act.put, List.setIfInBounds_toArray, List.set_cons_zero, List.set_cons_succ]
            refine wpAnyH_take (i := 4) (v := .bool false) rfl (by kernel_rfl) (by kernel_rfl) (by kernel_rfl) (fun _ _ _ h => h) (Or.inl ⟨by first | rfl | go_simp, by intro w9 hSw; (try dsimp only at hSw); go_simp⟩) (by assumption) ?_
            simp only [List.getElem_toArray, List.getElem_cons_zero, List.getElem_cons_succ, Act.put, List.setIfInBounds_toArray, List.set_cons_zero, List.set_cons_succ]
            refine wpAnyH_take (i := 5) (v := .slice A8 (q + 1) c8) rfl (by kernel_rfl) (by kernel_rfl) (by kernel_rfl) (fun _ _ _ h => h) (Or.inl ⟨by first | rfl | go_simp, by intro w9 hSw; (try dsimp only at hSw); go_simp⟩) (by assumption) ?_
            simp only [List.getElem_toArray, List.getElem_cons_zero, List.getElem_cons_succ, Act.put, List.setIfInBounds_toArray, List.set_cons_zero, List.set_cons_succ]
            refine wpAnyH_take (i := 6) (v := .int .i64 (((q + 1) : Nat) : Int)) rfl (by kernel_rfl) (by kernel_rfl) (by kernel_rfl) (fun _ _ _ h => h) (Or.inl ⟨by first | rfl | go_simp, by intro w9 hSw; (try dsimp only at hSw); go_simp⟩) (by assumption) ?_
            simp only [List.getElem_toArray, List.getElem_cons_zero, List.getElem_cons_succ, Act.put, List.setIfInBounds_toArray, List.set_cons_zero, List.set_cons_succ]
            refine wpAnyH_take (i := 7) (v := .bool false) rfl (by kernel_rfl) (by kernel_rfl) (by kernel_rfl) (fun _ _ _ h => h) (Or.inl ⟨by first | rfl | go_simp, by intro w9 hSw; (try dsimp only at hSw); go_simp⟩) (by assumption) ?_
            simp only [List.getElem_toArray, List.getElem_cons_zero, List.getElem_cons_succ, Act.put, List.setIfInBounds_toArray, List.set_cons_zero, List.set_cons_succ]
            refine wpAnyH_take (i := 8) (v := .bool false) rfl (by kernel_rfl) (by kernel_rfl) (by kernel_rfl) (fun _ _ _ h => h) (Or.inl ⟨by first | rfl | go_simp, by intro w9 hSw; (try dsimp only at hSw); go_simp⟩) (by assumption) ?_
            simp only [List.getElem_toArray, List.getElem_cons_zero, List.getElem_cons_succ, Act.put, List.setIfInBounds_toArray, List.set_cons_zero, List.set_cons_succ]
            refine wpAnyH_take (i := 9) (v := .bool false) rfl (by kernel_rfl) (by kernel_rfl) (by kernel_rfl) (fun _ _ _ h => h) (Or.inl ⟨by first | rfl | go_simp, by intro w9 hSw; (try dsimp only at hSw); go_simp⟩) (by assumption) ?_
            simp only [List.getElem_toArray, List.getElem_cons_zero, List.getElem_cons_succ, Act.put, List.setIfInBounds_toArray, List.set_cons_zero, List.set_cons_succ]
            refine wpAnyH_take (i := 10) (v := .int .i64 0) rfl (by kernel_rfl) (by kernel_rfl) (by kernel_rfl) (fun _ _ _ h => h) (Or.inl ⟨by first | rfl | go_simp, by intro w9 hSw; (try dsimp only at hSw); go_simp⟩) (by assumption) ?_
            simp only [List.getElem_toArray, List.getElem_cons_zero, List.getElem_cons_succ, Act.put, List.setIfInBounds_toArray, List.set_cons_zero, List.set_cons_succ]
            refine wpAnyH_take (i := 11) (v := .bool true) rfl (by kernel_rfl) (by kernel_rfl) (by kernel_rfl) (fun _ _ _ h => h) (Or.inl ⟨by first | rfl | go_simp, by intro w9 hSw; (try dsimp only at hSw); go_simp⟩) (by assumption) ?_
            simp only [List.getElem_toArray, List.getElem_cons_zero, List.getElem_cons_succ, Act.put, List.setIfInBounds_toArray, List.set_cons_zero, List.set_cons_succ]
            refine wpAnyH_take (i := 12) (v := .bool true) rfl (by kernel_rfl) (by kernel_rfl) (by kernel_rfl) (fun _ _ _ h => h) (Or.inl ⟨by first | rfl | go_simp, by intro w9 hSw; (try dsimp only at hSw); go_simp⟩) (by assumption) ?_
            simp only [List.getElem_toArray, List.getElem_cons_zero, List.getElem_cons_succ, Act.put, List.setIfInBounds_toArray, List.set_cons_zero, List.set_cons_succ]
            refine wpAnyH_take (i := 13) (v := .slice A5 (q + 1) c5) rfl (by kernel_rfl) (by kernel_rfl) (by kernel_rfl) (fun _ _ _ h => h) (Or.inl ⟨by first | rfl | go_simp, by intro w9 hSw; (try dsimp only at hSw); go_simp⟩) (by assumption) ?_
            simp only [List.getElem_toArray, List.getElem_cons_zero, List.getElem_cons_succ, Act.put, List.setIfInBounds_toArray, List.set_cons_zero, List.set_cons_succ]
            refine wpAnyH_take (i := 14) (v := .agg #[.int .i64 a1, .int .u64 a2]) rfl (by kernel_rfl) (by kernel_rfl) (by kernel_rfl) (fun _ _ _ h => h) (Or.inl ⟨by first | rfl | go_simp, by intro w9 hSw; (try dsimp only at hSw); go_simp⟩) (by assumption) ?_
            simp only [List.getElem_toArray, List.getElem_cons_zero, List.getElem_cons_succ, Act.put, List.setIfInBounds_toArray, List.set_cons_zero, List.set_cons_succ]
            refine wpAnyH_take (i := 16) (v := .slice (some ⟨b, off, none⟩) n c) rfl (by kernel_rfl) (by kernel_rfl) (by kernel_rfl) (fun _ _ _ h => h) (Or.inl ⟨by first | rfl | go_simp, by intro w9 hSw; (try dsimp only at hSw); go_simp⟩) (by assumption) ?_
            simp only [List.getElem_toArray, List.getElem_cons_zero, List.getElem_cons_succ, Act.put, List.setIfInBounds_toArray, List.set_cons_zero, List.set_cons_succ]
            refine wpAnyH_take (i := 17) (v := .int .i64 (j : Int)) rfl (by kernel_rfl) (by kernel_rfl) (by kernel_rfl) (fun _ _ _ h => h) (Or.inl ⟨by first | rfl | go_simp, by intro w9 hSw; (try dsimp only at hSw); go_simp⟩) (by assumption) ?_
            simp only [List.getElem_toArray, List.getElem_cons_zero, List.getElem_cons_succ, Act.put, List.setIfInBounds_toArray, List.set_cons_zero, List.set_cons_succ]
            refine wpAnyH_take (i := 18) (v := .pointer (some ⟨b, off + j * 3, none⟩)) rfl (by kernel_rfl) (by kernel_rfl) (by kernel_rfl) (fun _ _ _ h => h) (Or.inl ⟨by first | rfl | go_simp, by intro w9 hSw; (try dsimp only at hSw); go_simp⟩) (by assumption) ?_
            simp only [List.getElem_toArray, List.getElem_cons_zero, List.getElem_cons_succ, Act.put, List.setIfInBounds_toArray, List.set_cons_zero, List.set_cons_succ]
            refine wpAnyH_take (i := 19) (v := .pointer (some ⟨b, off + j * 3, none⟩)) rfl (by kernel_rfl) (by kernel_rfl) (by kernel_rfl) (fun _ _ _ h => h) (Or.inl ⟨by first | rfl | go_simp, by intro w9 hSw; (try dsimp only at hSw); go_simp⟩) (by assumption) ?_
            simp only [List.getElem_toArray, List.getElem_cons_zero, List.getElem_cons_succ, Act.put, List.setIfInBounds_toArray, List.set_cons_zero, List.set_cons_succ]
            refine wpAnyH_take (i := 20) (v := .bool true) rfl (by kernel_rfl) (by kernel_rfl) (by kernel_rfl) (fun _ _ _ h => h) (Or.inl ⟨by first | rfl | go_simp, by intro w9 hSw; (try dsimp only at hSw); go_simp⟩) (by assumption) ?_
            simp only [List.getElem_toArray, List.getElem_cons_zero, List.getElem_cons_succ, Act.put, List.setIfInBounds_toArray, List.set_cons_zero, List.set_cons_succ]
            refine wpAnyH_ready (rs := [15]) (by kernel_rfl) (by simp) ?_
            refine AllReadyH.cons rfl (fun K hK => ?_) (AllReadyH.nil)
            go_simp
            refine (has_any _ none (q + 1) _ 0 0 m2 [] a1 a2 _ HQ2.out (by omega) LK rfl (by omega) (by omega) (.inl rfl) (by intro f hf; cases hf) HA1.out HA2.out TX).mono ?_
            rintro e X2 ⟨rfl, b9⟩
            rw [HHas.out]
            have BX := BX.trans (b9.mono hbz)
            have hbz := Nat.le_trans hbz b9.size
            have TX := TX.below b9
            have TT := thr_below (B := 0) TT b9
            have LK := CellsAt.later LK b9
            have LL := CellsAt.later LL b9
            have LB := CellsAt.later LB b9
            have own := own_below own b9
            refine hK.out _ _ TT (fun hHeld => ?_)
            clear hK K
            try simp only [List.getElem_toArray, List.getElem_cons_zero, List.getElem_cons_succ, Act.put, List.setIfInBounds_toArray, List.set_cons_zero, List.set_cons_succ]
            refine wpAnyH_take (i := 21) (v := .bool false) rfl (by kernel_rfl) (by kernel_rfl) (by kernel_rfl) (fun _ _ _ h => h) (Or.inl ⟨by first | rfl | go_simp, by intro w9 hSw; (try dsimp only at hSw); go_simp⟩) (by assumption) ?_
            simp only [List.getElem_toArray, List.getElem_cons_zero, List.getElem_cons_succ, Act.put, List.setIfInBounds_toArray, List.set_cons_zero, List.set_cons_succ]
            refine wpAnyH_take (i := 22) (v := .bool false) rfl (by kernel_rfl) (by kernel_rfl) (by kernel_rfl) (fun _ _ _ h => h) (Or.inl ⟨by first | rfl | go_simp, by intro w9 hSw; (try dsimp only at hSw); go_simp⟩) (by assumption) ?_
            simp only [List.getElem_toArray, List.getElem_cons_zero, List.getElem_cons_succ, Act.put, List.setIfInBounds_toArray, List.set_cons_zero, List.set_cons_succ]
            refine wpAnyH_take (i := 23) (v := .bool false) rfl (by kernel_rfl) (by kernel_rfl) (by kernel_rfl) (fun _ _ _ h => h) (Or.inl ⟨by first | rfl | go_simp, by intro w9 hSw; (try dsimp only at hSw); go_simp⟩) (by assumption) ?_
            simp only [List.getElem_toArray, List.getElem_cons_zero, List.getElem_cons_succ, Act.put, List.setIfInBounds_toArray, List.set_cons_zero, List.set_cons_succ]
            refine wpAnyH_take (i := 24) (v := .bool false) rfl (by kernel_rfl) (by kernel_rfl) (by kernel_rfl) (fun _ _ _ h => h) (Or.inl ⟨by first | rfl | go_simp, by intro w9 hSw; (try dsimp only at hSw); go_simp⟩) (by assumption) ?_
            simp only [List.getElem_toArray, List.getElem_cons_zero, List.getElem_cons_succ, Act.put, List.setIfInBounds_toArray, List.set_cons_zero, List.set_cons_succ]
            refine wpAnyH_take (i := 25) (v := .int .i64 0) rfl (by kernel_rfl) (by kernel_rfl) (by kernel_rfl) (fun _ _ _ h => h) (Or.inl ⟨by first | rfl | go_simp, by intro w9 hSw; (try dsimp only at hSw); go_simp⟩) (by assumption) ?_
            simp only [List.getElem_toArray, List.getElem_cons_zero, List.getElem_cons_succ, Act.put, List.setIfInBounds_toArray, List.set_cons_zero, List.set_cons_succ]
            refine wpAnyH_take (i := 26) (v := .bool true) rfl (by kernel_rfl) (by kernel_rfl) (by kernel_rfl) (fun _ _ _ h => h) (Or.inl ⟨by first | rfl | go_simp, by intro w9 hSw; (try dsimp only at hSw); go_simp⟩) (by assumption) ?_
            simp only [List.getElem_toArray, List.getElem_cons_zero, List.getElem_cons_succ, Act.put, List.setIfInBounds_toArray, List.set_cons_zero, List.set_cons_succ]
            refine wpAnyH_take (i := 27) (v := .bool true) rfl (by kernel_rfl) (by kernel_rfl) (by kernel_rfl) (fun _ _ _ h => h) (Or.inl ⟨by first | rfl | go_simp, by intro w9 hSw; (try dsimp only at hSw); go_simp⟩) (by assumption) ?_
            simp only [List.getElem_toArray, List.getElem_cons_zero, List.getElem_cons_succ, Act.put, List.setIfInBounds_toArray, List.set_cons_zero, List.set_cons_succ]
            refine wpAnyH_take (i := 28) (v := .slice A1 q c1) rfl (by kernel_rfl) (by kernel_rfl) (by kernel_rfl) (fun _ _ _ h => h) (Or.inl ⟨by first | rfl | go_simp, by intro w9 hSw; (try dsimp only at hSw); go_simp⟩) (by assumption) ?_
            simp only [List.getElem_toArray, List.getElem_cons_zero, List.getElem_cons_succ, Act.put, List.setIfInBounds_toArray, List.set_cons_zero, List.set_cons_succ]
            refine wpAnyH_take (i := 29) (v := .agg #[.int .i64 a1, .int .u64 a2]) rfl (by kernel_rfl) (by kernel_rfl) (by kernel_rfl) (fun _ _ _ h => h) (Or.inl ⟨by first | rfl | go_simp, by intro w9 hSw; (try dsimp only at hSw); go_simp⟩) (by assumption) ?_
            simp only [List.getElem_toArray, List.getElem_cons_zero, List.getElem_cons_succ, Act.put, List.setIfInBounds_toArray, List.set_cons_zero, List.set_cons_succ]
            refine wpAnyH_take (i := 31) (v := .slice (some ⟨b, off, none⟩) n c) rfl (by kernel_rfl) (by kernel_rfl) (by kernel_rfl) (fun _ _ _ h => h) (Or.inl ⟨by first | rfl | go_simp, by intro w9 hSw; (try dsimp only at hSw); go_simp⟩) (by assumption) ?_
            simp only [List.getElem_toArray, List.getElem_cons_zero, List.getElem_cons_succ, Act.put, List.setIfInBounds_toArray, List.set_cons_zero, List.set_cons_succ]
            refine wpAnyH_take (i := 32) (v := .int .i64 (j : Int)) rfl (by kernel_rfl) (by kernel_rfl) (by kernel_rfl) (fun _ _ _ h => h) (Or.inl ⟨by first | rfl | go_simp, by intro w9 hSw; (try dsimp only at hSw); go_simp⟩) (by assumption) ?_
            simp only [List.getElem_toArray, List.getElem_cons_zero, List.getElem_cons_succ, Act.put, List.setIfInBounds_toArray, List.set_cons_zero, List.set_cons_succ]
            refine wpAnyH_take (i := 33) (v := .pointer (some ⟨b, off + j * 3, none⟩)) rfl (by kernel_rfl) (by kernel_rfl) (by kernel_rfl) (fun _ _ _ h => h) (Or.inl ⟨by first | rfl | go_simp, by intro w9 hSw; (try dsimp only at hSw); go_simp⟩) (by assumption) ?_
            simp only [List.getElem_toArray, List.getElem_cons_zero, List.getElem_cons_succ, Act.put, List.setIfInBounds_toArray, List.set_cons_zero, List.set_cons_succ]
            refine wpAnyH_take (i := 34) (v := .pointer (some ⟨b, off + j * 3, none⟩)) rfl (by kernel_rfl) (by kernel_rfl) (by kernel_rfl) (fun _ _ _ h => h) (Or.inl ⟨by first | rfl | go_simp, by intro w9 hSw; (try dsimp only at hSw); go_simp⟩) (by assumption) ?_
            simp only [List.getElem_toArray, List.getElem_cons_zero, List.getElem_cons_succ, Act.put, List.setIfInBounds_toArray, List.set_cons_zero, List.set_cons_succ]
            refine wpAnyH_take (i := 35) (v := .bool true) rfl (by kernel_rfl) (by kernel_rfl) (by kernel_rfl) (fun _ _ _ h => h) (Or.inl ⟨by first | rfl | go_simp, by intro w9 hSw; (try dsimp only at hSw); go_simp⟩) (by assumption) ?_
            simp only [List.getElem_toArray, List.getElem_cons_zero, List.getElem_cons_succ, Act.put, List.setIfInBounds_toArray, List.set_cons_zero, List.set_cons_succ]
            refine wpAnyH_ready (rs := [30]) (by kernel_rfl) (by simp) ?_
            refine AllReadyH.cons rfl (fun K hK => ?_) (AllReadyH.nil)
            go_simp
            refine (element_any _ q _ m a1 a2 _ HQ.out (by omega) LB).mono ?_
            rintro e X3 ⟨rfl, b9⟩
            rw [HOn.out]
            have BX := BX.trans (b9.mono hbz)
            have hbz := Nat.le_trans hbz b9.size
            have TX := TX.below b9
            have TT := thr_below (B := 0) TT b9
            have LK := CellsAt.later LK b9
            have LL := CellsAt.later LL b9
            have LB := CellsAt.later LB b9
            have own := own_below own b9
            refine hK.out _ _ TT (fun hHeld => ?_)
            clear hK K
            try simp only [List.getElem_toArray, List.getElem_cons_zero, List.getElem_cons_succ, Act.put, List.setIfInBounds_toArray, List.set_cons_zero, List.set_cons_succ]
            refine wpAnyH_take (i := 36) (v := .bool false) rfl (by kernel_rfl) (by kernel_rfl) (by kernel_rfl) (fun _ _ _ h => h) (Or.inl ⟨by first | rfl | go_simp, by intro w9 hSw; (try dsimp only at hSw); go_simp⟩) (by assumption) ?_
            simp only [List.getElem_toArray, List.getElem_cons_zero, List.getElem_cons_succ, Act.put, List.setIfInBounds_toArray, List.set_cons_zero, List.set_cons_succ]
            refine wpAnyH_take (i := 37) (v := .bool false) rfl (by kernel_rfl) (by kernel_rfl) (by kernel_rfl) (fun _ _ _ h => h) (Or.inl ⟨by first | rfl | go_simp, by intro w9 hSw; (try dsimp only at hSw); go_simp⟩) (by assumption) ?_
            simp only [List.getElem_toArray, List.getElem_cons_zero, List.getElem_cons_succ, Act.put, List.setIfInBounds_toArray, List.set_cons_zero, List.set_cons_succ]
            refine wpAnyH_take (i := 38) (v := .bool false) rfl (by kernel_rfl) (by kernel_rfl) (by kernel_rfl) (fun _ _ _ h => h) (Or.inl ⟨by first | rfl | go_simp, by intro w9 hSw; (try dsimp only at hSw); go_simp⟩) (by assumption) ?_
            simp only [List.getElem_toArray, List.getElem_cons_zero, List.getElem_cons_succ, Act.put, List.setIfInBounds_toArray, List.set_cons_zero, List.set_cons_succ]
            refine wpAnyH_done (by kernel_rfl) ?_ _
            go_wp2_with fail
            go_roundw
            case rel => exact ⟨j + 1, by omega, by go_num, (q + 1), _, _, m2, rfl, HQ2.out, HLe.out, own, BX, TX⟩
            case measure => simp [intOf]; omega
        · skip
          obtain ⟨m2, hm2⟩ : ∃ m2, m2 = m := ⟨_, rfl⟩
          have HQ2 : Hid (m2.length = q) := Lib.hid (by rw [hm2]; exact HQ.out)
          have HLe : Hid (q ≤ 64) := Lib.hid hq64
          have HM2 := Lib.hid hm2
          have gx : (x == 0) = false := by simpa using e2
          have HRes : Hid (addL m (a1, a2) = (m2, x)) := Lib.hid (by rw [hm2]; exact e1)
          clear e1 e2 hm2
          have gq1 : ¬ 64 < q := by have := HLe.out; omega
          have gq2 : ¬ (64 : Int) < (q : Int) := by have := HLe.out; omega
          have TT3 : Thr X3.drew b (off + j * 3) wr.heap.size true a1 a2 := TT3
          have BX3 : Below W1.heap.size W1 X3.drew := BX3.drew
          have hbz3 : W1.heap.size ≤ X3.drew.heap.size := hbz3
          have TX3 : Adr.Tab X3.drew := TX3
          have own3 : X3.drew.ownsRow W1.heap.size 25 2 (.slice A' q c') q (m.flatMap encA) := own3
          have OB3 : X3.drew.ownsRow X2.heap.size 25 2 (.slice A1 q c1) q (m.flatMap encA) := OB3
          have L3 : ListAt encA X3.drew X3.drew.heap.size A' m := L3
          have hx23 : X2.heap.size ≤ X3.drew.heap.size := b3.size
          clear b3
          go_wp2_with fail
          go_region_held3 (fun w' => Thr w' b (off + j * 3) wr.heap.size true a1 a2) (first | exact TT5 | exact TT4 | exact TT3) (first
                      | (go_at_call 10; refine ((show Calls _ _ _ _ (fun e w2 => Pair X4 w2 e (m2, x)) by rw [← HRes.out]; exact add_any _ q _ m a1 a2 X4 HQ.out (by omega) L4 HA1.out HA2.out TX4)).mono ?_; intro e X5 h; obtain ⟨A5, c5, rfl, hc5, own6, b5⟩ := h.len HQ2.out; have TT5 := thr_below (B := 0) TT4 b5; have BX5 := BX4.trans (b5.mono hbz4); have hbz5 := Nat.le_trans hbz4 b5.size; have TX5 := TX4.below b5; have own5 := own_below own4 b5; have OB5 := own_below OB4 b5; have hle5 := Nat.le_trans hx23 hle4; clear h L4 TT4 BX4 TX4 own4 OB4)
                      | (go_at_call 11; refine (copied_any _ q _ m _ HQ.out (by omega) L3).mono ?_; intro e X4 h; obtain ⟨A4, c4, rfl, hc4, own7, b4⟩ := h.len HQ.out; have L4 : ListAt encA X4 X4.heap.size A4 m := CellsAt.own own7; have TT4 := thr_below (B := 0) TT3 b4; have BX4 := BX3.trans (b4.mono hbz3); have hbz4 := Nat.le_trans hbz3 b4.size; have hle4 := b4.size; have TX4 := TX3.below b4; have own4 := own_below own3 b4; have OB4 := own_below OB3 b4; clear h own7 L3 TT3 BX3 TX3 own3 OB3))
          all_goals
            have LK : ListAt encA X5 X5.heap.size A5 m2 := CellsAt.own own6
            have LB : ListAt encA X5 X5.heap.size A1 m := CellsAt.own OB5
            obtain ⟨d0, d1, d2⟩ := id TT5
            have LL : ListAt encA X5 X5.heap.size A' m2 := by rw [HM2.out]; exact CellsAt.own own5
            have own : X5.ownsRow W1.heap.size 25 2 (.slice A' q c') q (m2.flatMap encA) := by rw [HM2.out]; exact own5
            have TT := TT5
            have BX := BX5
            have TX := TX5
            have hbz := hbz5
            clear d0 d1 d2 TT5 BX5 TX5 own5 own6 OB5 hbz5
            go_wp2_with fail
            refine wp_region_held_drew (S := (fun w' => Thr w' b (off + j * 3) wr.heap.size true a1 a2)) (by kernel_rfl) ?_ (fun hHeld => ?_)
            · exact TT
            have BX : Below W1.heap.size W1 X5.drew := BX.drew
            have TX : Adr.Tab X5.drew := TX
            have TT : Thr X5.drew b (off + j * 3) wr.heap.size true a1 a2 := TT
            have LK : ListAt encA X5.drew X5.drew.heap.size _ m2 := LK
            have LL : ListAt encA X5.drew X5.drew.heap.size _ m2 := LL
            have LB : ListAt encA X5.drew X5.drew.heap.size _ m := LB
            have own : X5.drew.ownsRow W1.heap.size 25 2 _ _ _ := own
            have hbz : W1.heap.size ≤ X5.drew.heap.size := hbz
            generalize X5.drew = X0 at *
            refine wpAnyH_take (i := 0) (v := .slice A5 q c5) rfl (by kernel_rfl) (by kernel_rfl) (by kernel_rfl) (fun _ _ _ h => h) (Or.inl ⟨by first | rfl | go_simp, by intro w9 hSw; (try dsimp only at hSw); go_simp⟩) (by assumption) ?_
            simp only [List.getElem_toArray, List.getElem_cons_zero, List.getElem_cons_succ, Act.put, List.setIfInBounds_toArray, List.set_cons_zero, List.set_cons_succ]
            refine wpAnyH_take (i := 1) (v := .slice A' q c') rfl (by kernel_rfl) (by kernel_rfl) (by kernel_rfl) (fun _ _ _ h => h) (Or.inl ⟨by first | rfl | go_simp, by intro w9 hSw; (try dsimp only at hSw); go_simp⟩) (by assumption) ?_
            simp only [List.getElem_toArray, List.getElem_cons_zero, List.getElem_cons_succ, Act.put, List.setIfInBounds_toArray, List.set_cons_zero, List.set_cons_succ]
            refine wpAnyH_ready (rs := [2]) (by kernel_rfl) (by simp) ?_
            refine AllReadyH.cons rfl (fun K hK => ?_) (AllReadyH.nil)
            go_simp
            refine (same_any _ _ q q _ _ m2 m2 _ HQ2.out HQ2.out (by omega) (by omega) LK LL).mono ?_
            rintro e X1 ⟨rfl, b9⟩
            have es : decide (m2 = m2) = true := by simp
            rw [es]
            clear es
            have BX := BX.trans (b9.mono hbz)
            have hbz := Nat.le_trans hbz b9.size
            have TX := TX.below b9
            have TT := thr_below (B := 0) TT b9
            have LK := CellsAt.later LK b9
            have LL := CellsAt.later LL b9
            have LB := CellsAt.later LB b9
            have own := own_below own b9
            refine hK.out _ _ TT (fun hHeld => ?_)
            clear hK K
            try simp only [List.getElem_toArray, List.getElem_cons_zero, List.getElem_cons_succ, Act.put, List.setIfInBounds_toArray, List.set_cons_zero, List.set_cons_succ]
            refine wpAnyH_take (i := 3) (v := .bool false) rfl (by kernel_rfl) (by kernel_rfl) (by kernel_rfl) (fun _ _ _ h => h) (Or.inl ⟨by first | rfl | go_simp, by intro w9 hSw; (try dsimp only at hSw); go_simp⟩) (by assumption) ?_
            simp only [List.getElem_toArray, List.getElem_cons_zero, List.getElem_cons_succ, Act.put, List.setIfInBounds_toArray, List.set_cons_zero, List.set_cons_succ]
            refine wpAnyH_take (i := 4) (v := .bool false) rfl (by kernel_rfl) (by kernel_rfl) (by kernel_rfl) (fun _ _ _ h => h) (Or.inl ⟨by first | rfl | go_simp, by intro w9 hSw; (try dsimp only at hSw); go_simp⟩) (by assumption) ?_
            simp only [List.getElem_toArray, List.getElem_cons_zero, List.getElem_cons_succ, Act.put, List.setIfInBounds_toArray, List.set_cons_zero, List.set_cons_succ]
            refine wpAnyH_take (i := 5) (v := .slice A' q c') rfl (by kernel_rfl) (by kernel_rfl) (by kernel_rfl) (fun _ _ _ h => h) (Or.inl ⟨by first | rfl | go_simp, by intro w9 hSw; (try dsimp only at hSw); go_simp⟩) (by assumption) ?_
            simp only [List.getElem_toArray, List.getElem_cons_zero, List.getElem_cons_succ, Act.put, List.setIfInBounds_toArray, List.set_cons_zero, List.set_cons_succ]
            refine wpAnyH_take (i := 6) (v := .int .i64 ((q : Nat) : Int)) rfl (by kernel_rfl) (by kernel_rfl) (by kernel_rfl) (fun _ _ _ h => h) (Or.inl ⟨by first | rfl | go_simp, by intro w9 hSw; (try dsimp only at hSw); go_simp⟩) (by assumption) ?_
            simp only [List.getElem_toArray, List.getElem_cons_zero, List.getElem_cons_succ, Act.put, List.setIfInBounds_toArray, List.set_cons_zero, List.set_cons_succ]
            refine wpAnyH_take (i := 7) (v := .bool false) rfl (by kernel_rfl) (by kernel_rfl) (by kernel_rfl) (fun _ _ _ h => h) (Or.inl ⟨by first | rfl | go_simp, by intro w9 hSw; (try dsimp only at hSw); go_simp⟩) (by assumption) ?_
            simp only [List.getElem_toArray, List.getElem_cons_zero, List.getElem_cons_succ, Act.put, List.setIfInBounds_toArray, List.set_cons_zero, List.set_cons_succ]
            refine wpAnyH_take (i := 8) (v := .bool false) rfl (by kernel_rfl) (by kernel_rfl) (by kernel_rfl) (fun _ _ _ h => h) (Or.inl ⟨by first | rfl | go_simp, by intro w9 hSw; (try dsimp only at hSw); go_simp⟩) (by assumption) ?_
            simp only [List.getElem_toArray, List.getElem_cons_zero, List.getElem_cons_succ, Act.put, List.setIfInBounds_toArray, List.set_cons_zero, List.set_cons_succ]
            refine wpAnyH_take (i := 9) (v := .bool false) rfl (by kernel_rfl) (by kernel_rfl) (by kernel_rfl) (fun _ _ _ h => h) (Or.inl ⟨by first | rfl | go_simp, by intro w9 hSw; (try dsimp only at hSw); go_simp⟩) (by assumption) ?_
            simp only [List.getElem_toArray, List.getElem_cons_zero, List.getElem_cons_succ, Act.put, List.setIfInBounds_toArray, List.set_cons_zero, List.set_cons_succ]
            refine wpAnyH_take (i := 10) (v := .int .i64 x) rfl (by kernel_rfl) (by kernel_rfl) (by kernel_rfl) (fun _ _ _ h => h) (Or.inl ⟨by first | rfl | go_simp, by intro w9 hSw; (try dsimp only at hSw); go_simp⟩) (by assumption) ?_
            simp only [List.getElem_toArray, List.getElem_cons_zero, List.getElem_cons_succ, Act.put, List.setIfInBounds_toArray, List.set_cons_zero, List.set_cons_succ]
            refine wpAnyH_take (i := 11) (v := .bool false) rfl (by kernel_rfl) (by kernel_rfl) (by kernel_rfl) (fun _ _ _ h => h) (Or.inl ⟨by first | rfl | go_simp, by intro w9 hSw; (try dsimp only at hSw); go_simp⟩) (by assumption) ?_
            simp only [List.getElem_toArray, List.getElem_cons_zero, List.getElem_cons_succ, Act.put, List.setIfInBounds_toArray, List.set_cons_zero, List.set_cons_succ]
            refine wpAnyH_take (i := 12) (v := .bool false) rfl (by kernel_rfl) (by kernel_rfl) (by kernel_rfl) (fun _ _ _ h => h) (Or.inl ⟨by first | rfl | go_simp, by intro w9 hSw; (try dsimp only at hSw); go_simp⟩) (by assumption) ?_
            simp only [List.getElem_toArray, List.getElem_cons_zero, List.getElem_cons_succ, Act.put, List.setIfInBounds_toArray, List.set_cons_zero, List.set_cons_succ]
            refine wpAnyH_take (i := 13) (v := undef) rfl (by kernel_rfl) (by kernel_rfl) (by kernel_rfl) (fun _ _ _ h => h) (Or.inr ⟨by first | rfl | go_simp, rfl⟩) (by assumption) ?_
            simp only [List.getElem_toArray, List.getElem_cons_zero, List.getElem_cons_succ, Act.put, List.setIfInBounds_toArray, List.set_cons_zero, List.set_cons_succ]
            refine wpAnyH_take (i := 14) (v := undef) rfl (by kernel_rfl) (by kernel_rfl) (by kernel_rfl) (fun _ _ _ h => h) (Or.inr ⟨by first | rfl | go_simp, rfl⟩) (by assumption) ?_
            simp only [List.getElem_toArray, List.getElem_cons_zero, List.getElem_cons_succ, Act.put, List.setIfInBounds_toArray, List.set_cons_zero, List.set_cons_succ]
            refine wpAnyH_take (i := 15) (v := undef) rfl (by kernel_rfl) (by kernel_rfl) (by kernel_rfl) (fun _ _ _ h => h) (Or.inr ⟨by first | rfl | go_simp, rfl⟩) (by assumption) ?_
            simp only [List.getElem_toArray, List.getElem_cons_zero, List.getElem_cons_succ, Act.put, List.setIfInBounds_toArray, List.set_cons_zero, List.set_cons_succ]
            refine wpAnyH_take (i := 16) (v := undef) rfl (by kernel_rfl) (by kernel_rfl) (by kernel_rfl) (fun _ _ _ h => h) (Or.inr ⟨by first | rfl | go_simp, rfl⟩) (by assumption) ?_
            simp only [List.getElem_toArray, List.getElem_cons_zero, List.getElem_cons_succ, Act.put, List.setIfInBounds_toArray, List.set_cons_zero, List.set_cons_succ]
            refine wpAnyH_take (i := 17) (v := undef) rfl (by kernel_rfl) (by kernel_rfl) (by kernel_rfl) (fun _ _ _ h => h) (Or.inr ⟨by first | rfl | go_simp, rfl⟩) (by assumption) ?_
            simp only [List.getElem_toArray, List.getElem_cons_zero, List.getElem_cons_succ, Act.put, List.setIfInBounds_toArray, List.set_cons_zero, List.set_cons_succ]
            refine wpAnyH_take (i := 18) (v := undef) rfl (by kernel_rfl) (by kernel_rfl) (by kernel_rfl) (fun _ _ _ h => h) (Or.inr ⟨by first | rfl | go_simp, rfl⟩) (by assumption) ?_
            simp only [List.getElem_toArray, List.getElem_cons_zero, List.getElem_cons_succ, Act.put, List.setIfInBounds_toArray, List.set_cons_zero, List.set_cons_succ]
            refine wpAnyH_take (i := 19) (v := undef) rfl (by kernel_rfl) (by kernel_rfl) (by kernel_rfl) (fun _ _ _ h => h) (Or.inr ⟨by first | rfl | go_simp, rfl⟩) (by assumption) ?_
            simp only [List.getElem_toArray, List.getElem_cons_zero, List.getElem_cons_succ, Act.put, List.setIfInBounds_toArray, List.set_cons_zero, List.set_cons_succ]
            refine wpAnyH_take (i := 20) (v := undef) rfl (by kernel_rfl) (by kernel_rfl) (by kernel_rfl) (fun _ _ _ h => h) (Or.inr ⟨by first | rfl | go_simp, rfl⟩) (by assumption) ?_
            simp only [List.getElem_toArray, List.getElem_cons_zero, List.getElem_cons_succ, Act.put, List.setIfInBounds_toArray, List.set_cons_zero, List.set_cons_succ]
            refine wpAnyH_take (i := 21) (v := undef) rfl (by kernel_rfl) (by kernel_rfl) (by kernel_rfl) (fun _ _ _ h => h) (Or.inr ⟨by first | rfl | go_simp, rfl⟩) (by assumption) ?_
            simp only [List.getElem_toArray, List.getElem_cons_zero, List.getElem_cons_succ, Act.put, List.setIfInBounds_toArray, List.set_cons_zero, List.set_cons_succ]
            refine wpAnyH_take (i := 22) (v := .bool false) rfl (by kernel_rfl) (by kernel_rfl) (by kernel_rfl) (fun _ _ _ h => h) (Or.inl ⟨by first | rfl | go_simp, by intro w9 hSw; (try dsimp only at hSw); go_simp⟩) (by assumption) ?_
            simp only [List.getElem_toArray, List.getElem_cons_zero, List.getElem_cons_succ, Act.put, List.setIfInBounds_toArray, List.set_cons_zero, List.set_cons_succ]
            refine wpAnyH_take (i := 23) (v := .bool false) rfl (by kernel_rfl) (by kernel_rfl) (by kernel_rfl) (fun _ _ _ h => h) (Or.inl ⟨by first | rfl | go_simp, by intro w9 hSw; (try dsimp only at hSw); go_simp⟩) (by assumption) ?_
            simp only [List.getElem_toArray, List.getElem_cons_zero, List.getElem_cons_succ, Act.put, List.setIfInBounds_toArray, List.set_cons_zero, List.set_cons_succ]
            refine wpAnyH_take (i := 24) (v := .bool false) rfl (by kernel_rfl) (by kernel_rfl) (by kernel_rfl) (fun _ _ _ h => h) (Or.inl ⟨by first | rfl | go_simp, by intro w9 hSw; (try dsimp only at hSw); go_simp⟩) (by assumption) ?_
            simp only [List.getElem_toArray, List.getElem_cons_zero, List.getElem_cons_succ, Act.put, List.setIfInBounds_toArray, List.set_cons_zero, List.set_cons_succ]
            refine wpAnyH_take (i := 25) (v := .int .i64 x) rfl (by kernel_rfl) (by kernel_rfl) (by kernel_rfl) (fun _ _ _ h => h) (Or.inl ⟨by first | rfl | go_simp, by intro w9 hSw; (try dsimp only at hSw); go_simp⟩) (by assumption) ?_
            simp only [List.getElem_toArray, List.getElem_cons_zero, List.getElem_cons_succ, Act.put, List.setIfInBounds_toArray, List.set_cons_zero, List.set_cons_succ]
            refine wpAnyH_take (i := 26) (v := .bool false) rfl (by kernel_rfl) (by kernel_rfl) (by kernel_rfl) (fun _ _ _ h => h) (Or.inl ⟨by first | rfl | go_simp, by intro w9 hSw; (try dsimp only at hSw); go_simp⟩) (by assumption) ?_
            simp only [List.getElem_toArray, List.getElem_cons_zero, List.getElem_cons_succ, Act.put, List.setIfInBounds_toArray, List.set_cons_zero, List.set_cons_succ]
            refine wpAnyH_take (i := 27) (v := .bool false) rfl (by kernel_rfl) (by kernel_rfl) (by kernel_rfl) (fun _ _ _ h => h) (Or.inl ⟨by first | rfl | go_simp, by intro w9 hSw; (try dsimp only at hSw); go_simp⟩) (by assumption) ?_
            simp only [List.getElem_toArray, List.getElem_cons_zero, List.getElem_cons_succ, Act.put, List.setIfInBounds_toArray, List.set_cons_zero, List.set_cons_succ]
            refine wpAnyH_take (i := 28) (v := undef) rfl (by kernel_rfl) (by kernel_rfl) (by kernel_rfl) (fun _ _ _ h => h) (Or.inr ⟨by first | rfl | go_simp, rfl⟩) (by assumption) ?_
            simp only [List.getElem_toArray, List.getElem_cons_zero, List.getElem_cons_succ, Act.put, List.setIfInBounds_toArray, List.set_cons_zero, List.set_cons_succ]
            refine wpAnyH_take (i := 29) (v := undef) rfl (by kernel_rfl) (by kernel_rfl) (by kernel_rfl) (fun _ _ _ h => h) (Or.inr ⟨by first | rfl | go_simp, rfl⟩) (by assumption) ?_
            simp only [List.getElem_toArray, List.getElem_cons_zero, List.getElem_cons_succ, Act.put, List.setIfInBounds_toArray, List.set_cons_zero, List.set_cons_succ]
            refine wpAnyH_take (i := 30) (v := undef) rfl (by kernel_rfl) (by kernel_rfl) (by kernel_rfl) (fun _ _ _ h => h) (Or.inr ⟨by first | rfl | go_simp, rfl⟩) (by assumption) ?_
            simp only [List.getElem_toArray, List.getElem_cons_zero, List.getElem_cons_succ, Act.put, List.setIfInBounds_toArray, List.set_cons_zero, List.set_cons_succ]
            refine wpAnyH_take (i := 31) (v := undef) rfl (by kernel_rfl) (by kernel_rfl) (by kernel_rfl) (fun _ _ _ h => h) (Or.inr ⟨by first | rfl | go_simp, rfl⟩) (by assumption) ?_
            simp only [List.getElem_toArray, List.getElem_cons_zero, List.getElem_cons_succ, Act.put, List.setIfInBounds_toArray, List.set_cons_zero, List.set_cons_succ]
            refine wpAnyH_take (i := 32) (v := undef) rfl (by kernel_rfl) (by kernel_rfl) (by kernel_rfl) (fun _ _ _ h => h) (Or.inr ⟨by first | rfl | go_simp, rfl⟩) (by assumption) ?_
            simp only [List.getElem_toArray, List.getElem_cons_zero, List.getElem_cons_succ, Act.put, List.setIfInBounds_toArray, List.set_cons_zero, List.set_cons_succ]
            refine wpAnyH_take (i := 33) (v := undef) rfl (by kernel_rfl) (by kernel_rfl) (by kernel_rfl) (fun _ _ _ h => h) (Or.inr ⟨by first | rfl | go_simp, rfl⟩) (by assumption) ?_
            simp only [List.getElem_toArray, List.getElem_cons_zero, List.getElem_cons_succ, Act.put, List.setIfInBounds_toArray, List.set_cons_zero, List.set_cons_succ]
            refine wpAnyH_take (i := 34) (v := undef) rfl (by kernel_rfl) (by kernel_rfl) (by kernel_rfl) (fun _ _ _ h => h) (Or.inr ⟨by first | rfl | go_simp, rfl⟩) (by assumption) ?_
            simp only [List.getElem_toArray, List.getElem_cons_zero, List.getElem_cons_succ, Act.put, List.setIfInBounds_toArray, List.set_cons_zero, List.set_cons_succ]
            refine wpAnyH_take (i := 35) (v := undef) rfl (by kernel_rfl) (by kernel_rfl) (by kernel_rfl) (fun _ _ _ h => h) (Or.inr ⟨by first | rfl | go_simp, rfl⟩) (by assumption) ?_
            simp only [List.getElem_toArray, List.getElem_cons_zero, List.getElem_cons_succ, Act.put, List.setIfInBounds_toArray, List.set_cons_zero, List.set_cons_succ]
            refine wpAnyH_take (i := 36) (v := undef) rfl (by kernel_rfl) (by kernel_rfl) (by kernel_rfl) (fun _ _ _ h => h) (Or.inr ⟨by first | rfl | go_simp, rfl⟩) (by assumption) ?_
            simp only [List.getElem_toArray, List.getElem_cons_zero, List.getElem_cons_succ, Act.put, List.setIfInBounds_toArray, List.set_cons_zero, List.set_cons_succ]
            refine wpAnyH_take (i := 37) (v := .bool false) rfl (by kernel_rfl) (by kernel_rfl) (by kernel_rfl) (fun _ _ _ h => h) (Or.inl ⟨by first | rfl | go_simp, by intro w9 hSw; (try dsimp only at hSw); go_simp⟩) (by assumption) ?_
            simp only [List.getElem_toArray, List.getElem_cons_zero, List.getElem_cons_succ, Act.put, List.setIfInBounds_toArray, List.set_cons_zero, List.set_cons_succ]
            refine wpAnyH_take (i := 38) (v := .bool false) rfl (by kernel_rfl) (by kernel_rfl) (by kernel_rfl) (fun _ _ _ h => h) (Or.inl ⟨by first | rfl | go_simp, by intro w9 hSw; (try dsimp only at hSw); go_simp⟩) (by assumption) ?_
            simp only [List.getElem_toArray, List.getElem_cons_zero, List.getElem_cons_succ, Act.put, List.setIfInBounds_toArray, List.set_cons_zero, List.set_cons_succ]
            refine wpAnyH_done (by kernel_rfl) ?_ _
            go_wp2_with fail
            go_roundw
            case rel => exact ⟨j + 1, by omega, by go_num, q, _, _, m2, rfl, HQ2.out, HLe.out, own, BX, TX⟩
            case measure => simp [intOf]; omega
      | false =>
        cases ho : onB m (a1, a2) with
        | true =>
          obtain ⟨m2, hm2⟩ : ∃ m2, m2 = remR m (a1, a2) := ⟨_, rfl⟩
          obtain ⟨q2, hq2⟩ : ∃ q2, m2.length = q2 := ⟨_, rfl⟩
          have HLe : Hid (q2 ≤ 64) := Lib.hid (by have := rem_le m (a1, a2); rw [← hm2, hq2, HQ.out] at this; omega)
          have hle2 := HLe.out
          have HQ2 := Lib.hid hq2
          have HHas : Hid (hasB m2 [] (a1, a2) = false) := Lib.hid (by rw [has_nil, hm2]; exact on_rem _ _)
          have HOn : Hid (onB m (a1, a2) = true) := Lib.hid ho
          have HRes : Hid (remL m (a1, a2) = (m2, 0)) := Lib.hid (by rw [hm2]; exact rem_has ho)
          have HM2 := Lib.hid hm2
          clear ho hm2 hq2
          have gq1 : ¬ 64 < q2 := by have := HLe.out; omega
          have gq2 : ¬ (64 : Int) < (q2 : Int) := by have := HLe.out; omega
          have TT3 : Thr X3.drew b (off + j * 3) wr.heap.size false a1 a2 := TT3
          have BX3 : Below W1.heap.size W1 X3.drew := BX3.drew
          have hbz3 : W1.heap.size ≤ X3.drew.heap.size := hbz3
          have TX3 : Adr.Tab X3.drew := TX3
          have own3 : X3.drew.ownsRow W1.heap.size 25 2 (.slice A' q c') q (m.flatMap encA) := own3
          have OB3 : X3.drew.ownsRow X2.heap.size 25 2 (.slice A1 q c1) q (m.flatMap encA) := OB3
          have L3 : ListAt encA X3.drew X3.drew.heap.size A' m := L3
          have hx23 : X2.heap.size ≤ X3.drew.heap.size := b3.size
          clear b3
          go_wp2_with fail
          go_region_held3 (fun w' => Thr w' b (off + j * 3) wr.heap.size false a1 a2) (first | exact TT5 | exact TT4 | exact TT3) (first
                      | (go_at_call 14; refine ((show Calls _ _ _ _ (fun e w2 => Pair X4 w2 e (m2, 0)) by rw [← HRes.out]; exact remove_any _ q _ m a1 a2 X4 HQ.out (by omega) L4)).mono ?_; intro e X5 h; obtain ⟨A5, c5, rfl, hc5, own6, b5⟩ := h.len HQ2.out; have TT5 := thr_below (B := 0) TT4 b5; have BX5 := BX4.trans (b5.mono hbz4); have hbz5 := Nat.le_trans hbz4 b5.size; have TX5 := TX4.below b5; have own5 := own_below own4 b5; have OB5 := own_below OB4 b5; have hle5 := Nat.le_trans hx23 hle4; clear h L4 TT4 BX4 TX4 own4 OB4)
                      | (go_at_call 11; refine (copied_any _ q _ m _ HQ.out (by omega) L3).mono ?_; intro e X4 h; obtain ⟨A4, c4, rfl, hc4, own7, b4⟩ := h.len HQ.out; have L4 : ListAt encA X4 X4.heap.size A4 m := CellsAt.own own7; have TT4 := thr_below (B := 0) TT3 b4; have BX4 := BX3.trans (b4.mono hbz3); have hbz4 := Nat.le_trans hbz3 b4.size; have hle4 := b4.size; have TX4 := TX3.below b4; have own4 := own_below own3 b4; have OB4 := own_below OB3 b4; clear h own7 L3 TT3 BX3 TX3 own3 OB3))
          all_goals
            have LK : ListAt encA X5 X5.heap.size A5 m2 := CellsAt.own own6
            have LB : ListAt encA X5 X5.heap.size A1 m := CellsAt.own OB5
            obtain ⟨d0, d1, d2⟩ := id TT5
            have L5 : ListAt encA X5 X5.heap.size A' m := CellsAt.own own5
            go_wp2_with fail
            refine (without_any A' q c' m a1 a2 X5 HQ.out (by omega) L5).mono ?_
            intro e w8 h
            rw [← HM2.out] at h
            obtain ⟨A8, c8, rfl, hc8, own8, b8⟩ := h.len HQ2.out
            have LK := CellsAt.later LK b8
            have LB := CellsAt.later LB b8
            have own : w8.ownsRow W1.heap.size 25 2 (.slice A8 q2 c8) q2 (m2.flatMap encA) := own_base own8 hbz5
            have LL : ListAt encA w8 w8.heap.size A8 m2 := CellsAt.own own
            have BX := BX5.trans (b8.mono hbz5)
            have hbz := BX.size
            have TX := TX5.below b8
            have TT := thr_below (B := 0) TT5 b8
            clear h own8 b8 TT5 BX5 TX5 own5 own6 OB5 hbz5 L5 d0 d1 d2
            go_wp2_with fail
            refine wp_region_held_drew (S := (fun w' => Thr w' b (off + j * 3) wr.heap.size false a1 a2)) (by kernel_rfl) ?_ (fun hHeld => ?_)
            · exact TT
            have BX : Below W1.heap.size W1 w8.drew := BX.drew
            have TX : Adr.Tab w8.drew := TX
            have TT : Thr w8.drew b (off + j * 3) wr.heap.size false a1 a2 := TT
            have LK : ListAt encA w8.drew w8.drew.heap.size _ m2 := LK
            have LL : ListAt encA w8.drew w8.drew.heap.size _ m2 := LL
            have LB : ListAt encA w8.drew w8.drew.heap.size _ m := LB
            have own : w8.drew.ownsRow W1.heap.size 25 2 _ _ _ := own
            have hbz : W1.heap.size ≤ w8.drew.heap.size := hbz
            generalize w8.drew = X0 at *
            refine wpAnyH_take (i := 0) (v := .slice A5 q2 c5) rfl (by kernel_rfl) (by kernel_rfl) (by kernel_rfl) (fun _ _ _ h => h) (Or.inl ⟨by first | rfl | go_simp, by intro w9 hSw; (try dsimp only at hSw); go_simp⟩) (by assumption) ?_
            simp only [List.getElem_toArray, List.getElem_cons_zero, List.getElem_cons_succ, Act.put, List.setIfInBounds_toArray, List.set_cons_zero, List.set_cons_succ]
            refine wpAnyH_take (i := 1) (v := .slice A8 q2 c8) rfl (by kernel_rfl) (by kernel_rfl) (by kernel_rfl) (fun _ _ _ h => h) (Or.inl ⟨by first | rfl | go_simp, by intro w9 hSw; (try dsimp only at hSw); go_simp⟩) (by assumption) ?_
            simp only [List.getElem_toArray, List.getElem_cons_zero, List.getElem_cons_succ, Act.put, List.setIfInBounds_toArray, List.set_cons_zero, List.set_cons_succ]
            refine wpAnyH_ready (rs := [2]) (by kernel_rfl) (by simp) ?_
            refine AllReadyH.cons rfl (fun K hK => ?_) (AllReadyH.nil)
            go_simp
            refine (same_any _ _ q2 q2 _ _ m2 m2 _ HQ2.out HQ2.out (by omega) (by omega) LK LL).mono ?_
            rintro e X1 ⟨rfl, b9⟩
            have es : decide (m2 = m2) = true := by simp
            rw [es]
            clear es
            have BX := BX.trans (b9.mono hbz)
            have hbz := Nat.le_trans hbz b9.size
            have TX := TX.below b9
            have TT := thr_below (B := 0) TT b9
            have LK := CellsAt.later LK b9
            have LL := CellsAt.later LL b9
            have LB := CellsAt.later LB b9
            have own := own_below own b9
            refine hK.out _ _ TT (fun hHeld => ?_)
            clear hK K
            try simp only [List.getElem_toArray, List.getElem_cons_zero, List.getElem_cons_succ, Act.put, List.setIfInBounds_toArray, List.set_cons_zero, List.set_cons_succ]
            refine wpAnyH_take (i := 3) (v := .bool false) rfl (by kernel_rfl) (by kernel_rfl) (by kernel_rfl) (fun _ _ _ h => h) (Or.inl ⟨by first | rfl | go_simp, by intro w9 hSw; (try dsimp only at hSw); go_simp⟩) (by assumption) ?_
            simp only [List.getElem_toArray, List.getElem_cons_zero, List.getElem_cons_succ, Act.put, List.setIfInBounds_toArray, List.set_cons_zero, List.set_cons_succ]
            refine wpAnyH_take (i := 4) (v := .bool false) rfl (by kernel_rfl) (by kernel_rfl) (by kernel_rfl) (fun _ _ _ h => h) (Or.inl ⟨by first | rfl | go_simp, by intro w9 hSw; (try dsimp only at hSw); go_simp⟩) (by assumption) ?_
            simp only [List.getElem_toArray, List.getElem_cons_zero, List.getElem_cons_succ, Act.put, List.setIfInBounds_toArray, List.set_cons_zero, List.set_cons_succ]
            refine wpAnyH_take (i := 5) (v := .slice A8 q2 c8) rfl (by kernel_rfl) (by kernel_rfl) (by kernel_rfl) (fun _ _ _ h => h) (Or.inl ⟨by first | rfl | go_simp, by intro w9 hSw; (try dsimp only at hSw); go_simp⟩) (by assumption) ?_
            simp only [List.getElem_toArray, List.getElem_cons_zero, List.getElem_cons_succ, Act.put, List.setIfInBounds_toArray, List.set_cons_zero, List.set_cons_succ]
            refine wpAnyH_take (i := 6) (v := .int .i64 ((q2 : Nat) : Int)) rfl (by kernel_rfl) (by kernel_rfl) (by kernel_rfl) (fun _ _ _ h => h) (Or.inl ⟨by first | rfl | go_simp, by intro w9 hSw; (try dsimp only at hSw); go_simp⟩) (by assumption) ?_
            simp only [List.getElem_toArray, List.getElem_cons_zero, List.getElem_cons_succ, Act.put, List.setIfInBounds_toArray, List.set_cons_zero, List.set_cons_succ]
            refine wpAnyH_take (i := 7) (v := .bool false) rfl (by kernel_rfl) (by kernel_rfl) (by kernel_rfl) (fun _ _ _ h => h) (Or.inl ⟨by first | rfl | go_simp, by intro w9 hSw; (try dsimp only at hSw); go_simp⟩) (by assumption) ?_
            simp only [List.getElem_toArray, List.getElem_cons_zero, List.getElem_cons_succ, Act.put, List.setIfInBounds_toArray, List.set_cons_zero, List.set_cons_succ]
            refine wpAnyH_take (i := 8) (v := .bool false) rfl (by kernel_rfl) (by kernel_rfl) (by kernel_rfl) (fun _ _ _ h => h) (Or.inl ⟨by first | rfl | go_simp, by intro w9 hSw; (try dsimp only at hSw); go_simp⟩) (by assumption) ?_
            simp only [List.getElem_toArray, List.getElem_cons_zero, List.getElem_cons_succ, Act.put, List.setIfInBounds_toArray, List.set_cons_zero, List.set_cons_succ]
            refine wpAnyH_take (i := 9) (v := .bool false) rfl (by kernel_rfl) (by kernel_rfl) (by kernel_rfl) (fun _ _ _ h => h) (Or.inl ⟨by first | rfl | go_simp, by intro w9 hSw; (try dsimp only at hSw); go_simp⟩) (by assumption) ?_
            simp only [List.getElem_toArray, List.getElem_cons_zero, List.getElem_cons_succ, Act.put, List.setIfInBounds_toArray, List.set_cons_zero, List.set_cons_succ]
            refine wpAnyH_take (i := 10) (v := .int .i64 0) rfl (by kernel_rfl) (by kernel_rfl) (by kernel_rfl) (fun _ _ _ h => h) (Or.inl ⟨by first | rfl | go_simp, by intro w9 hSw; (try dsimp only at hSw); go_simp⟩) (by assumption) ?_
            simp only [List.getElem_toArray, List.getElem_cons_zero, List.getElem_cons_succ, Act.put, List.setIfInBounds_toArray, List.set_cons_zero, List.set_cons_succ]
            refine wpAnyH_take (i := 11) (v := .bool true) rfl (by kernel_rfl) (by kernel_rfl) (by kernel_rfl) (fun _ _ _ h => h) (Or.inl ⟨by first | rfl | go_simp, by intro w9 hSw; (try dsimp only at hSw); go_simp⟩) (by assumption) ?_
            simp only [List.getElem_toArray, List.getElem_cons_zero, List.getElem_cons_succ, Act.put, List.setIfInBounds_toArray, List.set_cons_zero, List.set_cons_succ]
            refine wpAnyH_take (i := 12) (v := .bool true) rfl (by kernel_rfl) (by kernel_rfl) (by kernel_rfl) (fun _ _ _ h => h) (Or.inl ⟨by first | rfl | go_simp, by intro w9 hSw; (try dsimp only at hSw); go_simp⟩) (by assumption) ?_
            simp only [List.getElem_toArray, List.getElem_cons_zero, List.getElem_cons_succ, Act.put, List.setIfInBounds_toArray, List.set_cons_zero, List.set_cons_succ]
            refine wpAnyH_take (i := 13) (v := .slice A5 q2 c5) rfl (by kernel_rfl) (by kernel_rfl) (by kernel_rfl) (fun _ _ _ h => h) (Or.inl ⟨by first | rfl | go_simp, by intro w9 hSw; (try dsimp only at hSw); go_simp⟩) (by assumption) ?_
            simp only [List.getElem_toArray, List.getElem_cons_zero, List.getElem_cons_succ, Act.put, List.setIfInBounds_toArray, List.set_cons_zero, List.set_cons_succ]
            refine wpAnyH_take (i := 14) (v := .agg #[.int .i64 a1, .int .u64 a2]) rfl (by kernel_rfl) (by kernel_rfl) (by kernel_rfl) (fun _ _ _ h => h) (Or.inl ⟨by first | rfl | go_simp, by intro w9 hSw; (try dsimp only at hSw); go_simp⟩) (by assumption) ?_
            simp only [List.getElem_toArray, List.getElem_cons_zero, List.getElem_cons_succ, Act.put, List.setIfInBounds_toArray, List.set_cons_zero, List.set_cons_succ]
            refine wpAnyH_take (i := 16) (v := .slice (some ⟨b, off, none⟩) n c) rfl (by kernel_rfl) (by kernel_rfl) (by kernel_rfl) (fun _ _ _ h => h) (Or.inl ⟨by first | rfl | go_simp, by intro w9 hSw; (try dsimp only at hSw); go_simp⟩) (by assumption) ?_
            simp only [List.getElem_toArray, List.getElem_cons_zero, List.getElem_cons_succ, Act.put, List.setIfInBounds_toArray, List.set_cons_zero, List.set_cons_succ]
            refine wpAnyH_take (i := 17) (v := .int .i64 (j : Int)) rfl (by kernel_rfl) (by kernel_rfl) (by kernel_rfl) (fun _ _ _ h => h) (Or.inl ⟨by first | rfl | go_simp, by intro w9 hSw; (try dsimp only at hSw); go_simp⟩) (by assumption) ?_
            simp only [List.getElem_toArray, List.getElem_cons_zero, List.getElem_cons_succ, Act.put, List.setIfInBounds_toArray, List.set_cons_zero, List.set_cons_succ]
            refine wpAnyH_take (i := 18) (v := .pointer (some ⟨b, off + j * 3, none⟩)) rfl (by kernel_rfl) (by kernel_rfl) (by kernel_rfl) (fun _ _ _ h => h) (Or.inl ⟨by first | rfl | go_simp, by intro w9 hSw; (try dsimp only at hSw); go_simp⟩) (by assumption) ?_
            simp only [List.getElem_toArray, List.getElem_cons_zero, List.getElem_cons_succ, Act.put, List.setIfInBounds_toArray, List.set_cons_zero, List.set_cons_succ]
            refine wpAnyH_take (i := 19) (v := .pointer (some ⟨b, off + j * 3, none⟩)) rfl (by kernel_rfl) (by kernel_rfl) (by kernel_rfl) (fun _ _ _ h => h) (Or.inl ⟨by first | rfl | go_simp, by intro w9 hSw; (try dsimp only at hSw); go_simp⟩) (by assumption) ?_
            simp only [List.getElem_toArray, List.getElem_cons_zero, List.getElem_cons_succ, Act.put, List.setIfInBounds_toArray, List.set_cons_zero, List.set_cons_succ]
            refine wpAnyH_take (i := 20) (v := .bool false) rfl (by kernel_rfl) (by kernel_rfl) (by kernel_rfl) (fun _ _ _ h => h) (Or.inl ⟨by first | rfl | go_simp, by intro w9 hSw; (try dsimp only at hSw); go_simp⟩) (by assumption) ?_
            simp only [List.getElem_toArray, List.getElem_cons_zero, List.getElem_cons_succ, Act.put, List.setIfInBounds_toArray, List.set_cons_zero, List.set_cons_succ]
            refine wpAnyH_ready (rs := [15]) (by kernel_rfl) (by simp) ?_
            refine AllReadyH.cons rfl (fun K hK => ?_) (AllReadyH.nil)
            go_simp
            refine (has_any _ none q2 _ 0 0 m2 [] a1 a2 _ HQ2.out (by omega) LK rfl (by omega) (by omega) (.inl rfl) (by intro f hf; cases hf) HA1.out HA2.out TX).mono ?_
            rintro e X2 ⟨rfl, b9⟩
            rw [HHas.out]
            have BX := BX.trans (b9.mono hbz)
            have hbz := Nat.le_trans hbz b9.size
            have TX := TX.below b9
            have TT := thr_below (B := 0) TT b9
            have LK := CellsAt.later LK b9
            have LL := CellsAt.later LL b9
            have LB := CellsAt.later LB b9
            have own := own_below own b9
            refine hK.out _ _ TT (fun hHeld => ?_)
            clear hK K
            try simp only [List.getElem_toArray, List.getElem_cons_zero, List.getElem_cons_succ, Act.put, List.setIfInBounds_toArray, List.set_cons_zero, List.set_cons_succ]
            refine wpAnyH_take (i := 21) (v := .bool false) rfl (by kernel_rfl) (by kernel_rfl) (by kernel_rfl) (fun _ _ _ h => h) (Or.inl ⟨by first | rfl | go_simp, by intro w9 hSw; (try dsimp only at hSw); go_simp⟩) (by assumption) ?_
            simp only [List.getElem_toArray, List.getElem_cons_zero, List.getElem_cons_succ, Act.put, List.setIfInBounds_toArray, List.set_cons_zero, List.set_cons_succ]
            refine wpAnyH_take (i := 22) (v := .bool false) rfl (by kernel_rfl) (by kernel_rfl) (by kernel_rfl) (fun _ _ _ h => h) (Or.inl ⟨by first | rfl | go_simp, by intro w9 hSw; (try dsimp only at hSw); go_simp⟩) (by assumption) ?_
            simp only [List.getElem_toArray, List.getElem_cons_zero, List.getElem_cons_succ, Act.put, List.setIfInBounds_toArray, List.set_cons_zero, List.set_cons_succ]
            refine wpAnyH_take (i := 23) (v := .bool false) rfl (by kernel_rfl) (by kernel_rfl) (by kernel_rfl) (fun _ _ _ h => h) (Or.inl ⟨by first | rfl | go_simp, by intro w9 hSw; (try dsimp only at hSw); go_simp⟩) (by assumption) ?_
            simp only [List.getElem_toArray, List.getElem_cons_zero, List.getElem_cons_succ, Act.put, List.setIfInBounds_toArray, List.set_cons_zero, List.set_cons_succ]
            refine wpAnyH_take (i := 24) (v := .bool false) rfl (by kernel_rfl) (by kernel_rfl) (by kernel_rfl) (fun _ _ _ h => h) (Or.inl ⟨by first | rfl | go_simp, by intro w9 hSw; (try dsimp only at hSw); go_simp⟩) (by assumption) ?_
            simp only [List.getElem_toArray, List.getElem_cons_zero, List.getElem_cons_succ, Act.put, List.setIfInBounds_toArray, List.set_cons_zero, List.set_cons_succ]
            refine wpAnyH_take (i := 25) (v := .int .i64 0) rfl (by kernel_rfl) (by kernel_rfl) (by kernel_rfl) (fun _ _ _ h => h) (Or.inl ⟨by first | rfl | go_simp, by intro w9 hSw; (try dsimp only at hSw); go_simp⟩) (by assumption) ?_
            simp only [List.getElem_toArray, List.getElem_cons_zero, List.getElem_cons_succ, Act.put, List.setIfInBounds_toArray, List.set_cons_zero, List.set_cons_succ]
            refine wpAnyH_take (i := 26) (v := .bool true) rfl (by kernel_rfl) (by kernel_rfl) (by kernel_rfl) (fun _ _ _ h => h) (Or.inl ⟨by first | rfl | go_simp, by intro w9 hSw; (try dsimp only at hSw); go_simp⟩) (by assumption) ?_
            simp only [List.getElem_toArray, List.getElem_cons_zero, List.getElem_cons_succ, Act.put, List.setIfInBounds_toArray, List.set_cons_zero, List.set_cons_succ]
            refine wpAnyH_take (i := 27) (v := .bool true) rfl (by kernel_rfl) (by kernel_rfl) (by kernel_rfl) (fun _ _ _ h => h) (Or.inl ⟨by first | rfl | go_simp, by intro w9 hSw; (try dsimp only at hSw); go_simp⟩) (by assumption) ?_
            simp only [List.getElem_toArray, List.getElem_cons_zero, List.getElem_cons_succ, Act.put, List.setIfInBounds_toArray, List.set_cons_zero, List.set_cons_succ]
            refine wpAnyH_take (i := 28) (v := .slice A1 q c1) rfl (by kernel_rfl) (by kernel_rfl) (by kernel_rfl) (fun _ _ _ h => h) (Or.inl ⟨by first | rfl | go_simp, by intro w9 hSw; (try dsimp only at hSw); go_simp⟩) (by assumption) ?_
            simp only [List.getElem_toArray, List.getElem_cons_zero, List.getElem_cons_succ, Act.put, List.setIfInBounds_toArray, List.set_cons_zero, List.set_cons_succ]
            refine wpAnyH_take (i := 29) (v := .agg #[.int .i64 a1, .int .u64 a2]) rfl (by kernel_rfl) (by kernel_rfl) (by kernel_rfl) (fun _ _ _ h => h) (Or.inl ⟨by first | rfl | go_simp, by intro w9 hSw; (try dsimp only at hSw); go_simp⟩) (by assumption) ?_
            simp only [List.getElem_toArray, List.getElem_cons_zero, List.getElem_cons_succ, Act.put, List.setIfInBounds_toArray, List.set_cons_zero, List.set_cons_succ]
            refine wpAnyH_take (i := 31) (v := .slice (some ⟨b, off, none⟩) n c) rfl (by kernel_rfl) (by kernel_rfl) (by kernel_rfl) (fun _ _ _ h => h) (Or.inl ⟨by first | rfl | go_simp, by intro w9 hSw; (try dsimp only at hSw); go_simp⟩) (by assumption) ?_
            simp only [List.getElem_toArray, List.getElem_cons_zero, List.getElem_cons_succ, Act.put, List.setIfInBounds_toArray, List.set_cons_zero, List.set_cons_succ]
            refine wpAnyH_take (i := 32) (v := .int .i64 (j : Int)) rfl (by kernel_rfl) (by kernel_rfl) (by kernel_rfl) (fun _ _ _ h => h) (Or.inl ⟨by first | rfl | go_simp, by intro w9 hSw; (try dsimp only at hSw); go_simp⟩) (by assumption) ?_
            simp only [List.getElem_toArray, List.getElem_cons_zero, List.getElem_cons_succ, Act.put, List.setIfInBounds_toArray, List.set_cons_zero, List.set_cons_succ]
            refine wpAnyH_take (i := 33) (v := .pointer (some ⟨b, off + j * 3, none⟩)) rfl (by kernel_rfl) (by kernel_rfl) (by kernel_rfl) (fun _ _ _ h => h) (Or.inl ⟨by first | rfl | go_simp, by intro w9 hSw; (try dsimp only at hSw); go_simp⟩) (by assumption) ?_
            simp only [List.getElem_toArray, List.getElem_cons_zero, List.getElem_cons_succ, Act.put, List.setIfInBounds_toArray, List.set_cons_zero, List.set_cons_succ]
            refine wpAnyH_take (i := 34) (v := .pointer (some ⟨b, off + j * 3, none⟩)) rfl (by kernel_rfl) (by kernel_rfl) (by kernel_rfl) (fun _ _ _ h => h) (Or.inl ⟨by first | rfl | go_simp, by intro w9 hSw; (try dsimp only at hSw); go_simp⟩) (by assumption) ?_
            simp only [List.getElem_toArray, List.getElem_cons_zero, List.getElem_cons_succ, Act.put, List.setIfInBounds_toArray, List.set_cons_zero, List.set_cons_succ]
            refine wpAnyH_take (i := 35) (v := .bool false) rfl (by kernel_rfl) (by kernel_rfl) (by kernel_rfl) (fun _ _ _ h => h) (Or.inl ⟨by first | rfl | go_simp, by intro w9 hSw; (try dsimp only at hSw); go_simp⟩) (by assumption) ?_
            simp only [List.getElem_toArray, List.getElem_cons_zero, List.getElem_cons_succ, Act.put, List.setIfInBounds_toArray, List.set_cons_zero, List.set_cons_succ]
            refine wpAnyH_ready (rs := [30]) (by kernel_rfl) (by simp) ?_
            refine AllReadyH.cons rfl (fun K hK => ?_) (AllReadyH.nil)
            go_simp
            refine (element_any _ q _ m a1 a2 _ HQ.out (by omega) LB).mono ?_
            rintro e X3 ⟨rfl, b9⟩
            rw [HOn.out]
            have BX := BX.trans (b9.mono hbz)
            have hbz := Nat.le_trans hbz b9.size
            have TX := TX.below b9
            have TT := thr_below (B := 0) TT b9
            have LK := CellsAt.later LK b9
            have LL := CellsAt.later LL b9
            have LB := CellsAt.later LB b9
            have own := own_below own b9
            refine hK.out _ _ TT (fun hHeld => ?_)
            clear hK K
            try simp only [List.getElem_toArray, List.getElem_cons_zero, List.getElem_cons_succ, Act.put, List.setIfInBounds_toArray, List.set_cons_zero, List.set_cons_succ]
            refine wpAnyH_take (i := 36) (v := .bool false) rfl (by kernel_rfl) (by kernel_rfl) (by kernel_rfl) (fun _ _ _ h => h) (Or.inl ⟨by first | rfl | go_simp, by intro w9 hSw; (try dsimp only at hSw); go_simp⟩) (by assumption) ?_
            simp only [List.getElem_toArray, List.getElem_cons_zero, List.getElem_cons_succ, Act.put, List.setIfInBounds_toArray, List.set_cons_zero, List.set_cons_succ]
            refine wpAnyH_take (i := 37) (v := .bool false) rfl (by kernel_rfl) (by kernel_rfl) (by kernel_rfl) (fun _ _ _ h => h) (Or.inl ⟨by first | rfl | go_simp, by intro w9 hSw; (try dsimp only at hSw); go_simp⟩) (by assumption) ?_
            simp only [List.getElem_toArray, List.getElem_cons_zero, List.getElem_cons_succ, Act.put, List.setIfInBounds_toArray, List.set_cons_zero, List.set_cons_succ]
            refine wpAnyH_take (i := 38) (v := .bool false) rfl (by kernel_rfl) (by kernel_rfl) (by kernel_rfl) (fun _ _ _ h => h) (Or.inl ⟨by first | rfl | go_simp, by intro w9 hSw; (try dsimp only at hSw); go_simp⟩) (by assumption) ?_
            simp only [List.getElem_toArray, List.getElem_cons_zero, List.getElem_cons_succ, Act.put, List.setIfInBounds_toArray, List.set_cons_zero, List.set_cons_succ]
            refine wpAnyH_done (by kernel_rfl) ?_ _
            go_wp2_with fail
            go_roundw
            case rel => exact ⟨j + 1, by omega, by go_num, q2, _, _, m2, rfl, HQ2.out, HLe.out, own, BX, TX⟩
            case measure => simp [intOf]; omega
        | false =>
          obtain ⟨m2, hm2⟩ : ∃ m2, m2 = m := ⟨_, rfl⟩
          have HQ2 : Hid (m2.length = q) := Lib.hid (by rw [hm2]; exact HQ.out)
          have HLe : Hid (q ≤ 64) := Lib.hid hq64
          have HM2 := Lib.hid hm2
          have HRes : Hid (remL m (a1, a2) = (m2, 6)) := Lib.hid (by rw [hm2]; exact rem_none ho)
          clear ho hm2
          have gq1 : ¬ 64 < q := by have := HLe.out; omega
          have gq2 : ¬ (64 : Int) < (q : Int) := by have := HLe.out; omega
          have TT3 : Thr X3.drew b (off + j * 3) wr.heap.size false a1 a2 := TT3
          have BX3 : Below W1.heap.size W1 X3.drew := BX3.drew
          have hbz3 : W1.heap.size ≤ X3.drew.heap.size := hbz3
          have TX3 : Adr.Tab X3.drew := TX3
          have own3 : X3.drew.ownsRow W1.heap.size 25 2 (.slice A' q c') q (m.flatMap encA) := own3
          have OB3 : X3.drew.ownsRow X2.heap.size 25 2 (.slice A1 q c1) q (m.flatMap encA) := OB3
          have L3 : ListAt encA X3.drew X3.drew.heap.size A' m := L3
          have hx23 : X2.heap.size ≤ X3.drew.heap.size := b3.size
          clear b3
          go_wp2_with fail
          go_region_held3 (fun w' => Thr w' b (off + j * 3) wr.heap.size false a1 a2) (first | exact TT5 | exact TT4 | exact TT3) (first
                      | (go_at_call 14; refine ((show Calls _ _ _ _ (fun e w2 => Pair X4 w2 e (m2, 6)) by rw [← HRes.out]; exact remove_any _ q _ m a1 a2 X4 HQ.out (by omega) L4)).mono ?_; intro e X5 h; obtain ⟨A5, c5, rfl, hc5, own6, b5⟩ := h.len HQ2.out; have TT5 := thr_below (B := 0) TT4 b5; have BX5 := BX4.trans (b5.mono hbz4); have hbz5 := Nat.le_trans hbz4 b5.size; have TX5 := TX4.below b5; have own5 := own_below own4 b5; have OB5 := own_below OB4 b5; have hle5 := Nat.le_trans hx23 hle4; clear h L4 TT4 BX4 TX4 own4 OB4)
                      | (go_at_call 11; refine (copied_any _ q _ m _ HQ.out (by omega) L3).mono ?_; intro e X4 h; obtain ⟨A4, c4, rfl, hc4, own7, b4⟩ := h.len HQ.out; have L4 : ListAt encA X4 X4.heap.size A4 m := CellsAt.own own7; have TT4 := thr_below (B := 0) TT3 b4; have BX4 := BX3.trans (b4.mono hbz3); have hbz4 := Nat.le_trans hbz3 b4.size; have hle4 := b4.size; have TX4 := TX3.below b4; have own4 := own_below own3 b4; have OB4 := own_below OB3 b4; clear h own7 L3 TT3 BX3 TX3 own3 OB3))
          all_goals
            have LK : ListAt encA X5 X5.heap.size A5 m2 := CellsAt.own own6
            have LB : ListAt encA X5 X5.heap.size A1 m := CellsAt.own OB5
            obtain ⟨d0, d1, d2⟩ := id TT5
            have LL : ListAt encA X5 X5.heap.size A' m2 := by rw [HM2.out]; exact CellsAt.own own5
            have own : X5.ownsRow W1.heap.size 25 2 (.slice A' q c') q (m2.flatMap encA) := by rw [HM2.out]; exact own5
            have TT := TT5
            have BX := BX5
            have TX := TX5
            have hbz := hbz5
            clear d0 d1 d2 TT5 BX5 TX5 own5 own6 OB5 hbz5
            go_wp2_with fail
            refine wp_region_held_drew (S := (fun w' => Thr w' b (off + j * 3) wr.heap.size false a1 a2)) (by kernel_rfl) ?_ (fun hHeld => ?_)
            · exact TT
            have BX : Below W1.heap.size W1 X5.drew := BX.drew
            have TX : Adr.Tab X5.drew := TX
            have TT : Thr X5.drew b (off + j * 3) wr.heap.size false a1 a2 := TT
            have LK : ListAt encA X5.drew X5.drew.heap.size _ m2 := LK
            have LL : ListAt encA X5.drew X5.drew.heap.size _ m2 := LL
            have LB : ListAt encA X5.drew X5.drew.heap.size _ m := LB
            have own : X5.drew.ownsRow W1.heap.size 25 2 _ _ _ := own
            have hbz : W1.heap.size ≤ X5.drew.heap.size := hbz
            generalize X5.drew = X0 at *
            refine wpAnyH_take (i := 0) (v := .slice A5 q c5) rfl (by kernel_rfl) (by kernel_rfl) (by kernel_rfl) (fun _ _ _ h => h) (Or.inl ⟨by first | rfl | go_simp, by intro w9 hSw; (try dsimp only at hSw); go_simp⟩) (by assumption) ?_
            simp only [List.getElem_toArray, List.getElem_cons_zero, List.getElem_cons_succ, Act.put, List.setIfInBounds_toArray, List.set_cons_zero, List.set_cons_succ]
            refine wpAnyH_take (i := 1) (v := .slice A' q c') rfl (by kernel_rfl) (by kernel_rfl) (by kernel_rfl) (fun _ _ _ h => h) (Or.inl ⟨by first | rfl | go_simp, by intro w9 hSw; (try dsimp only at hSw); go_simp⟩) (by assumption) ?_
            simp only [List.getElem_toArray, List.getElem_cons_zero, List.getElem_cons_succ, Act.put, List.setIfInBounds_toArray, List.set_cons_zero, List.set_cons_succ]
            refine wpAnyH_ready (rs := [2]) (by kernel_rfl) (by simp) ?_
            refine AllReadyH.cons rfl (fun K hK => ?_) (AllReadyH.nil)
            go_simp
            refine (same_any _ _ q q _ _ m2 m2 _ HQ2.out HQ2.out (by omega) (by omega) LK LL).mono ?_
            rintro e X1 ⟨rfl, b9⟩
            have es : decide (m2 = m2) = true := by simp
            rw [es]
            clear es
            have BX := BX.trans (b9.mono hbz)
            have hbz := Nat.le_trans hbz b9.size
            have TX := TX.below b9
            have TT := thr_below (B := 0) TT b9
            have LK := CellsAt.later LK b9
            have LL := CellsAt.later LL b9
            have LB := CellsAt.later LB b9
            have own := own_below own b9
            refine hK.out _ _ TT (fun hHeld => ?_)
            clear hK K
            try simp only [List.getElem_toArray, List.getElem_cons_zero, List.getElem_cons_succ, Act.put, List.setIfInBounds_toArray, List.set_cons_zero, List.set_cons_succ]
            refine wpAnyH_take (i := 3) (v := .bool false) rfl (by kernel_rfl) (by kernel_rfl) (by kernel_rfl) (fun _ _ _ h => h) (Or.inl ⟨by first | rfl | go_simp, by intro w9 hSw; (try dsimp only at hSw); go_simp⟩) (by assumption) ?_
            simp only [List.getElem_toArray, List.getElem_cons_zero, List.getElem_cons_succ, Act.put, List.setIfInBounds_toArray, List.set_cons_zero, List.set_cons_succ]
            refine wpAnyH_take (i := 4) (v := .bool false) rfl (by kernel_rfl) (by kernel_rfl) (by kernel_rfl) (fun _ _ _ h => h) (Or.inl ⟨by first | rfl | go_simp, by intro w9 hSw; (try dsimp only at hSw); go_simp⟩) (by assumption) ?_
            simp only [List.getElem_toArray, List.getElem_cons_zero, List.getElem_cons_succ, Act.put, List.setIfInBounds_toArray, List.set_cons_zero, List.set_cons_succ]
            refine wpAnyH_take (i := 5) (v := .slice A' q c') rfl (by kernel_rfl) (by kernel_rfl) (by kernel_rfl) (fun _ _ _ h => h) (Or.inl ⟨by first | rfl | go_simp, by intro w9 hSw; (try dsimp only at hSw); go_simp⟩) (by assumption) ?_
            simp only [List.getElem_toArray, List.getElem_cons_zero, List.getElem_cons_succ, Act.put, List.setIfInBounds_toArray, List.set_cons_zero, List.set_cons_succ]
            refine wpAnyH_take (i := 6) (v := .int .i64 ((q : Nat) : Int)) rfl (by kernel_rfl) (by kernel_rfl) (by kernel_rfl) (fun _ _ _ h => h) (Or.inl ⟨by first | rfl | go_simp, by intro w9 hSw; (try dsimp only at hSw); go_simp⟩) (by assumption) ?_
            simp only [List.getElem_toArray, List.getElem_cons_zero, List.getElem_cons_succ, Act.put, List.setIfInBounds_toArray, List.set_cons_zero, List.set_cons_succ]
            refine wpAnyH_take (i := 7) (v := .bool false) rfl (by kernel_rfl) (by kernel_rfl) (by kernel_rfl) (fun _ _ _ h => h) (Or.inl ⟨by first | rfl | go_simp, by intro w9 hSw; (try dsimp only at hSw); go_simp⟩) (by assumption) ?_
            simp only [List.getElem_toArray, List.getElem_cons_zero, List.getElem_cons_succ, Act.put, List.setIfInBounds_toArray, List.set_cons_zero, List.set_cons_succ]
            refine wpAnyH_take (i := 8) (v := .bool false) rfl (by kernel_rfl) (by kernel_rfl) (by kernel_rfl) (fun _ _ _ h => h) (Or.inl ⟨by first | rfl | go_simp, by intro w9 hSw; (try dsimp only at hSw); go_simp⟩) (by assumption) ?_
            simp only [List.getElem_toArray, List.getElem_cons_zero, List.getElem_cons_succ, Act.put, List.setIfInBounds_toArray, List.set_cons_zero, List.set_cons_succ]
            refine wpAnyH_take (i := 9) (v := .bool false) rfl (by kernel_rfl) (by kernel_rfl) (by kernel_rfl) (fun _ _ _ h => h) (Or.inl ⟨by first | rfl | go_simp, by intro w9 hSw; (try dsimp only at hSw); go_simp⟩) (by assumption) ?_
            simp only [List.getElem_toArray, List.getElem_cons_zero, List.getElem_cons_succ, Act.put, List.setIfInBounds_toArray, List.set_cons_zero, List.set_cons_succ]
            refine wpAnyH_take (i := 10) (v := .int .i64 6) rfl (by kernel_rfl) (by kernel_rfl) (by kernel_rfl) (fun _ _ _ h => h) (Or.inl ⟨by first | rfl | go_simp, by intro w9 hSw; (try dsimp only at hSw); go_simp⟩) (by assumption) ?_
            simp only [List.getElem_toArray, List.getElem_cons_zero, List.getElem_cons_succ, Act.put, List.setIfInBounds_toArray, List.set_cons_zero, List.set_cons_succ]
            refine wpAnyH_take (i := 11) (v := .bool false) rfl (by kernel_rfl) (by kernel_rfl) (by kernel_rfl) (fun _ _ _ h => h) (Or.inl ⟨by first | rfl | go_simp, by intro w9 hSw; (try dsimp only at hSw); go_simp⟩) (by assumption) ?_
            simp only [List.getElem_toArray, List.getElem_cons_zero, List.getElem_cons_succ, Act.put, List.setIfInBounds_toArray, List.set_cons_zero, List.set_cons_succ]
            refine wpAnyH_take (i := 12) (v := .bool false) rfl (by kernel_rfl) (by kernel_rfl) (by kernel_rfl) (fun _ _ _ h => h) (Or.inl ⟨by first | rfl | go_simp, by intro w9 hSw; (try dsimp only at hSw); go_simp⟩) (by assumption) ?_
            simp only [List.getElem_toArray, List.getElem_cons_zero, List.getElem_cons_succ, Act.put, List.setIfInBounds_toArray, List.set_cons_zero, List.set_cons_succ]
            refine wpAnyH_take (i := 13) (v := undef) rfl (by kernel_rfl) (by kernel_rfl) (by kernel_rfl) (fun _ _ _ h => h) (Or.inr ⟨by first | rfl | go_simp, rfl⟩) (by assumption) ?_
            simp only [List.getElem_toArray, List.getElem_cons_zero, List.getElem_cons_succ, Act.put, List.setIfInBounds_toArray, List.set_cons_zero, List.set_cons_succ]
            refine wpAnyH_take (i := 14) (v := undef) rfl (by kernel_rfl) (by kernel_rfl) (by kernel_rfl) (fun _ _ _ h => h) (Or.inr ⟨by first | rfl | go_simp, rfl⟩) (by assumption) ?_
            simp only [List.getElem_toArray, List.getElem_cons_zero, List.getElem_cons_succ, Act.put, List.setIfInBounds_toArray, List.set_cons_zero, List.set_cons_succ]
            refine wpAnyH_take (i := 15) (v := undef) rfl (by kernel_rfl) (by kernel_rfl) (by kernel_rfl) (fun _ _ _ h => h) (Or.inr ⟨by first | rfl | go_simp, rfl⟩) (by assumption) ?_
            simp only [List.getElem_toArray, List.getElem_cons_zero, List.getElem_cons_succ, Act.put, List.setIfInBounds_toArray, List.set_cons_zero, List.set_cons_succ]
            refine wpAnyH_take (i := 16) (v := undef) rfl (by kernel_rfl) (by kernel_rfl) (by kernel_rfl) (fun _ _ _ h => h) (Or.inr ⟨by first | rfl | go_simp, rfl⟩) (by assumption) ?_
            simp only [List.getElem_toArray, List.getElem_cons_zero, List.getElem_cons_succ, Act.put, List.setIfInBounds_toArray, List.set_cons_zero, List.set_cons_succ]
            refine wpAnyH_take (i := 17) (v := undef) rfl (by kernel_rfl) (by kernel_rfl) (by kernel_rfl) (fun _ _ _ h => h) (Or.inr ⟨by first | rfl | go_simp, rfl⟩) (by assumption) ?_
            simp only [List.getElem_toArray, List.getElem_cons_zero, List.getElem_cons_succ, Act.put, List.setIfInBounds_toArray, List.set_cons_zero, List.set_cons_succ]
            refine wpAnyH_take (i := 18) (v := undef) rfl (by kernel_rfl) (by kernel_rfl) (by kernel_rfl) (fun _ _ _ h => h) (Or.inr ⟨by first | rfl | go_simp, rfl⟩) (by assumption) ?_
            simp only [List.getElem_toArray, List.getElem_cons_zero, List.getElem_cons_succ, Act.put, List.setIfInBounds_toArray, List.set_cons_zero, List.set_cons_succ]
            refine wpAnyH_take (i := 19) (v := undef) rfl (by kernel_rfl) (by kernel_rfl) (by kernel_rfl) (fun _ _ _ h => h) (Or.inr ⟨by first | rfl | go_simp, rfl⟩) (by assumption) ?_
            simp only [List.getElem_toArray, List.getElem_cons_zero, List.getElem_cons_succ, Act.put, List.setIfInBounds_toArray, List.set_cons_zero, List.set_cons_succ]
            refine wpAnyH_take (i := 20) (v := undef) rfl (by kernel_rfl) (by kernel_rfl) (by kernel_rfl) (fun _ _ _ h => h) (Or.inr ⟨by first | rfl | go_simp, rfl⟩) (by assumption) ?_
            simp only [List.getElem_toArray, List.getElem_cons_zero, List.getElem_cons_succ, Act.put, List.setIfInBounds_toArray, List.set_cons_zero, List.set_cons_succ]
            refine wpAnyH_take (i := 21) (v := undef) rfl (by kernel_rfl) (by kernel_rfl) (by kernel_rfl) (fun _ _ _ h => h) (Or.inr ⟨by first | rfl | go_simp, rfl⟩) (by assumption) ?_
            simp only [List.getElem_toArray, List.getElem_cons_zero, List.getElem_cons_succ, Act.put, List.setIfInBounds_toArray, List.set_cons_zero, List.set_cons_succ]
            refine wpAnyH_take (i := 22) (v := .bool false) rfl (by kernel_rfl) (by kernel_rfl) (by kernel_rfl) (fun _ _ _ h => h) (Or.inl ⟨by first | rfl | go_simp, by intro w9 hSw; (try dsimp only at hSw); go_simp⟩) (by assumption) ?_
            simp only [List.getElem_toArray, List.getElem_cons_zero, List.getElem_cons_succ, Act.put, List.setIfInBounds_toArray, List.set_cons_zero, List.set_cons_succ]
            refine wpAnyH_take (i := 23) (v := .bool false) rfl (by kernel_rfl) (by kernel_rfl) (by kernel_rfl) (fun _ _ _ h => h) (Or.inl ⟨by first | rfl | go_simp, by intro w9 hSw; (try dsimp only at hSw); go_simp⟩) (by assumption) ?_
            simp only [List.getElem_toArray, List.getElem_cons_zero, List.getElem_cons_succ, Act.put, List.setIfInBounds_toArray, List.set_cons_zero, List.set_cons_succ]
            refine wpAnyH_take (i := 24) (v := .bool false) rfl (by kernel_rfl) (by kernel_rfl) (by kernel_rfl) (fun _ _ _ h => h) (Or.inl ⟨by first | rfl | go_simp, by intro w9 hSw; (try dsimp only at hSw); go_simp⟩) (by assumption) ?_
            simp only [List.getElem_toArray, List.getElem_cons_zero, List.getElem_cons_succ, Act.put, List.setIfInBounds_toArray, List.set_cons_zero, List.set_cons_succ]
            refine wpAnyH_take (i := 25) (v := .int .i64 6) rfl (by kernel_rfl) (by kernel_rfl) (by kernel_rfl) (fun _ _ _ h => h) (Or.inl ⟨by first | rfl | go_simp, by intro w9 hSw; (try dsimp only at hSw); go_simp⟩) (by assumption) ?_
            simp only [List.getElem_toArray, List.getElem_cons_zero, List.getElem_cons_succ, Act.put, List.setIfInBounds_toArray, List.set_cons_zero, List.set_cons_succ]
            refine wpAnyH_take (i := 26) (v := .bool false) rfl (by kernel_rfl) (by kernel_rfl) (by kernel_rfl) (fun _ _ _ h => h) (Or.inl ⟨by first | rfl | go_simp, by intro w9 hSw; (try dsimp only at hSw); go_simp⟩) (by assumption) ?_
            simp only [List.getElem_toArray, List.getElem_cons_zero, List.getElem_cons_succ, Act.put, List.setIfInBounds_toArray, List.set_cons_zero, List.set_cons_succ]
            refine wpAnyH_take (i := 27) (v := .bool false) rfl (by kernel_rfl) (by kernel_rfl) (by kernel_rfl) (fun _ _ _ h => h) (Or.inl ⟨by first | rfl | go_simp, by intro w9 hSw; (try dsimp only at hSw); go_simp⟩) (by assumption) ?_
            simp only [List.getElem_toArray, List.getElem_cons_zero, List.getElem_cons_succ, Act.put, List.setIfInBounds_toArray, List.set_cons_zero, List.set_cons_succ]
            refine wpAnyH_take (i := 28) (v := undef) rfl (by kernel_rfl) (by kernel_rfl) (by kernel_rfl) (fun _ _ _ h => h) (Or.inr ⟨by first | rfl | go_simp, rfl⟩) (by assumption) ?_
            simp only [List.getElem_toArray, List.getElem_cons_zero, List.getElem_cons_succ, Act.put, List.setIfInBounds_toArray, List.set_cons_zero, List.set_cons_succ]
            refine wpAnyH_take (i := 29) (v := undef) rfl (by kernel_rfl) (by kernel_rfl) (by kernel_rfl) (fun _ _ _ h => h) (Or.inr ⟨by first | rfl | go_simp, rfl⟩) (by assumption) ?_
            simp only [List.getElem_toArray, List.getElem_cons_zero, List.getElem_cons_succ, Act.put, List.setIfInBounds_toArray, List.set_cons_zero, List.set_cons_succ]
            refine wpAnyH_take (i := 30) (v := undef) rfl (by kernel_rfl) (by kernel_rfl) (by kernel_rfl) (fun _ _ _ h => h) (Or.inr ⟨by first | rfl | go_simp, rfl⟩) (by assumption) ?_
            simp only [List.getElem_toArray, List.getElem_cons_zero, List.getElem_cons_succ, Act.put, List.setIfInBounds_toArray, List.set_cons_zero, List.set_cons_succ]
            refine wpAnyH_take (i := 31) (v := undef) rfl (by kernel_rfl) (by kernel_rfl) (by kernel_rfl) (fun _ _ _ h => h) (Or.inr ⟨by first | rfl | go_simp, rfl⟩) (by assumption) ?_
            simp only [List.getElem_toArray, List.getElem_cons_zero, List.getElem_cons_succ, Act.put, List.setIfInBounds_toArray, List.set_cons_zero, List.set_cons_succ]
            refine wpAnyH_take (i := 32) (v := undef) rfl (by kernel_rfl) (by kernel_rfl) (by kernel_rfl) (fun _ _ _ h => h) (Or.inr ⟨by first | rfl | go_simp, rfl⟩) (by assumption) ?_
            simp only [List.getElem_toArray, List.getElem_cons_zero, List.getElem_cons_succ, Act.put, List.setIfInBounds_toArray, List.set_cons_zero, List.set_cons_succ]
            refine wpAnyH_take (i := 33) (v := undef) rfl (by kernel_rfl) (by kernel_rfl) (by kernel_rfl) (fun _ _ _ h => h) (Or.inr ⟨by first | rfl | go_simp, rfl⟩) (by assumption) ?_
            simp only [List.getElem_toArray, List.getElem_cons_zero, List.getElem_cons_succ, Act.put, List.setIfInBounds_toArray, List.set_cons_zero, List.set_cons_succ]
            refine wpAnyH_take (i := 34) (v := undef) rfl (by kernel_rfl) (by kernel_rfl) (by kernel_rfl) (fun _ _ _ h => h) (Or.inr ⟨by first | rfl | go_simp, rfl⟩) (by assumption) ?_
            simp only [List.getElem_toArray, List.getElem_cons_zero, List.getElem_cons_succ, Act.put, List.setIfInBounds_toArray, List.set_cons_zero, List.set_cons_succ]
            refine wpAnyH_take (i := 35) (v := undef) rfl (by kernel_rfl) (by kernel_rfl) (by kernel_rfl) (fun _ _ _ h => h) (Or.inr ⟨by first | rfl | go_simp, rfl⟩) (by assumption) ?_
            simp only [List.getElem_toArray, List.getElem_cons_zero, List.getElem_cons_succ, Act.put, List.setIfInBounds_toArray, List.set_cons_zero, List.set_cons_succ]
            refine wpAnyH_take (i := 36) (v := undef) rfl (by kernel_rfl) (by kernel_rfl) (by kernel_rfl) (fun _ _ _ h => h) (Or.inr ⟨by first | rfl | go_simp, rfl⟩) (by assumption) ?_
            simp only [List.getElem_toArray, List.getElem_cons_zero, List.getElem_cons_succ, Act.put, List.setIfInBounds_toArray, List.set_cons_zero, List.set_cons_succ]
            refine wpAnyH_take (i := 37) (v := .bool false) rfl (by kernel_rfl) (by kernel_rfl) (by kernel_rfl) (fun _ _ _ h => h) (Or.inl ⟨by first | rfl | go_simp, by intro w9 hSw; (try dsimp only at hSw); go_simp⟩) (by assumption) ?_
            simp only [List.getElem_toArray, List.getElem_cons_zero, List.getElem_cons_succ, Act.put, List.setIfInBounds_toArray, List.set_cons_zero, List.set_cons_succ]
            refine wpAnyH_take (i := 38) (v := .bool false) rfl (by kernel_rfl) (by kernel_rfl) (by kernel_rfl) (fun _ _ _ h => h) (Or.inl ⟨by first | rfl | go_simp, by intro w9 hSw; (try dsimp only at hSw); go_simp⟩) (by assumption) ?_
            simp only [List.getElem_toArray, List.getElem_cons_zero, List.getElem_cons_succ, Act.put, List.setIfInBounds_toArray, List.set_cons_zero, List.set_cons_succ]
            refine wpAnyH_done (by kernel_rfl) ?_ _
            go_wp2_with fail
            go_roundw
            case rel => exact ⟨j + 1, by omega, by go_num, q, _, _, m2, rfl, HQ2.out, HLe.out, own, BX, TX⟩
            case measure => simp [intOf]; omega
    · obtain rfl : j = n := by omega
      go_wp2_with fail
      go_ret
      exact ⟨rfl, BW⟩
end Go.Proofs.YtegmknmbgifmjaaDoor.Ace
