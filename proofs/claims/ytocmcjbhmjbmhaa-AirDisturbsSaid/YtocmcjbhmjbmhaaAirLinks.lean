/- The links of a medium, checked by the layer. -/
import Derived.Test.YtocmcjbhmjbmhaaAirJam
set_option linter.unusedVariables false
set_option linter.unusedSimpArgs false
namespace Go.Proofs.Ytocmcjbhmjbmhaa.Air
open Go.RowKit Mem Rw Base

abbrev TwoAt (w : World) (b o : Nat) (x y : Int) : Prop := w.cell? ⟨b, o, none⟩ = some (.int .i64 x) ∧ w.cell? ⟨b, o + 1, none⟩ = some (.int .i64 y)
theorem TwoAt.below {w w' : World} {g o : Nat} {x y : Int} (f : TwoAt w g o x y) (b : Below w.heap.size w w') : TwoAt w' g o x y :=
  have hg := World.block_lt_of_cell? _ _ f.1
  ⟨(b.cell (p := ⟨g, o, none⟩) hg).trans f.1, (b.cell (p := ⟨g, o + 1, none⟩) hg).trans f.2⟩
def badL (D : Int) (p : Int × Int) : Bool := !okDev D p.1 || !okDev D p.2 || decide (p.2 ≤ p.1)
/-- The second is not greater. -/
def ngt (q p : Int × Int) : Bool := decide (0 ≤ orL [cmpI q.1 p.1, cmpI q.2 p.2])
def ngo : Option (Int × Int) → Int × Int → Bool
  | none, _ => false
  | some q, p => ngt q p
def chkL (D : Int) (o : Option (Int × Int)) : List (Int × Int) → Int
  | [] => 0
  | p :: r => if badL D p then 5 else if ngo o p then 13 else chkL D (some p) r
def prev {α : Type} (l : List α) : Nat → Option α
  | 0 => none
  | k + 1 => l[k]?
theorem chkL_at {D : Int} {l : List (Int × Int)} {j : Nat} {p : Int × Int} {r : Int} (h : l[j]? = some p) (he : chkL D (prev l j) (l.drop j) = r) :
    (badL D p = true → r = 5) ∧ (badL D p = false → ngo (prev l j) p = true → r = 13) ∧ (badL D p = false → ngo (prev l j) p = false → chkL D (prev l (j + 1)) (l.drop (j + 1)) = r) := by
  rw [drop_at h, chkL] at he
  refine ⟨fun hb => by rw [if_pos hb] at he; exact he.symm, fun hb hn => ?_, fun hb hn => ?_⟩
  · rw [if_neg (by rw [hb]; decide), if_pos hn] at he; exact he.symm
  · rw [if_neg (by rw [hb]; decide), if_neg (by rw [hn]; decide)] at he
    have e2 : prev l (j + 1) = some p := h
    rw [e2]; exact he
set_option maxHeartbeats 2000000 in
theorem checklinks_any (D : Int) (A J S : Option Addr) (n c nj cj ns cs : Nat) (l : List (Int × Int)) (w : World) (hl : l.length = n) (hn : n ≤ 8796093022208) (hr : ListAt encP w w.heap.size A l) :
    Calls Try.prog 35 #[.agg #[.int .i64 D, .slice A n c, .slice J nj cj, .slice S ns cs]] w fun e w' => e = .returned (.int .i64 (chkL D none l)) ∧ Below w.heap.size w w' := by
  have HN := Lib.hid (fun j (h : j < n) => has hl h)
  have HE : Hid (∀ j, n ≤ j → l.length ≤ j) := Lib.hid fun j h => by omega
  have HA : Hid (∀ (j : Nat) p, l[j]? = some p → ∀ r, chkL D (prev l j) (l.drop j) = r → _) := Lib.hid fun j p h r he => chkL_at h he
  have HO : Hid (∀ w', Below w.heap.size w w' → 0 < n → ∃ b off, A = some ⟨b, off, none⟩ ∧ ∀ (j : Nat) p, l[j]? = some p → w'.cell? ⟨b, off + j * 2, none⟩ = some (.int .i64 p.1) ∧ w'.cell? ⟨b, off + j * 2 + 1, none⟩ = some (.int .i64 p.2)) := Lib.hid fun w' hb h0 => by
    obtain ⟨b, off, e, _, hc⟩ := ListAt.open_ (CellsAt.below hr hb) sizP (by decide) (by omega)
    exact ⟨b, off, e, fun j p hj => ⟨hc j p hj 0 _ rfl, hc j p hj 1 _ rfl⟩⟩
  have HD := Lib.hid (fun z w => isdevice_any D z (.slice A n c) (.slice J nj cj) (.slice S ns cs) w)
  have HP := Lib.hid (fun a b c d w => cmppairs_any a b c d w)
  have B0 : Below w.heap.size w (w.alloc (.cells #[.int .i64 D, .slice A n c, .slice J nj cj, .slice S ns cs] 34)) := (Below.refl _ w).alloc (Nat.le_refl _) _
  have F0 := four_of (Blk.fresh w 34 #[.int .i64 D, .slice A n c, .slice J nj cj, .slice S ns cs])
  generalize hr0 : chkL D none l = r at *
  have hr1 : Hid (chkL D (prev l 0) (l.drop 0) = r) := Lib.hid (by rw [List.drop_zero]; exact hr0)
  have HZ : Hid (∀ j, n ≤ j → chkL D (prev l j) (l.drop j) = r → r = 0) := Lib.hid fun j hj he => by
    rw [List.drop_eq_nil_of_le (HE.out j hj), chkL] at he; exact he.symm
  clear hl hr hr0 HE
  go_enter Try.func35, Try.ntmps35
  go_wp2_with fail
  generalize w.alloc (.cells #[.int .i64 D, .slice A n c, .slice J nj cj, .slice S ns cs] 34) = W at *
  go_loopw [3, 8] (fun _ s8 wr => ∃ j : Nat, j ≤ n ∧ s8 = .int .i64 j ∧ Hid (chkL D (prev l j) (l.drop j) = r) ∧ Below w.heap.size w wr ∧ Four wr w.heap.size D (.slice A n c) (.slice J nj cj) (.slice S ns cs)) (fun _ s8 _ => n - (intOf s8).toNat)
  case atStart => exact ⟨0, by omega, rfl, hr1, B0, F0⟩
  case round =>
    obtain ⟨j, hj, rfl, hno, hbel, F1⟩ := hrel
    clear hr1 B0 F0
    by_cases c1 : j < n
    · obtain ⟨p, hpj, _⟩ := HN.out j c1
      obtain ⟨s1, s2, s3⟩ := HA.out j p hpj r hno.out
      obtain ⟨b, off, rfl, hc⟩ := HO.out _ hbel (by omega)
      obtain ⟨h0, h1⟩ := hc j p hpj
      obtain ⟨p1, p2⟩ := p
      simp only at h0 h1
      have g1 : (0 : Int) ≤ (j : Int) ∧ (j : Int) < (n : Int) := by omega
      have eb : badL D (p1, p2) = (!okDev D p1 || !okDev D p2 || decide (p2 ≤ p1)) := rfl
      have B1 := hbel.alloc hbel.size (.cells #[.int .i64 p1, .int .i64 p2] 70)
      have F2 := F1.below ((Below.refl _ wr).alloc (Nat.le_refl _) (.cells #[.int .i64 p1, .int .i64 p2] 70))
      have T2 := two_of (Blk.fresh wr 70 #[.int .i64 p1, .int .i64 p2])
      have S1 := Lib.hid s1
      have S2 := Lib.hid s2
      have S3 := Lib.hid s3
      have HC := Lib.hid hc
      have HK := HN
      clear s1 s2 s3 hc HN HA HO HZ
      have H1 := Lib.hid (HD.out p1)
      have H2 := Lib.hid (HD.out p2)
      clear HD
      rw [eb] at S1 S2 S3
      clear eb
      generalize okDev D p1 = q1 at *
      generalize okDev D p2 = q2 at *
      cases q1 with
      | false =>
        have e := Lib.hid (S1.out rfl)
        go_wp2_with (go_at_call 37; refine (H1.out _).mono ?_; rintro e w2 ⟨rfl, b2⟩)
        go_ret
        exact ⟨Ser.ret_int e.out.symm, thenB B1 b2⟩
      | true =>
        cases q2 with
        | false =>
          have e := Lib.hid (S1.out rfl)
          obtain ⟨f0, f1, f2, f3⟩ := F2
          have F2 : Four _ _ _ _ _ _ := ⟨f0, f1, f2, f3⟩
          go_wp2_with (first
            | (go_at_call_of 37 p1; refine (H1.out _).mono ?_; rintro e w2 ⟨rfl, b2⟩; have B2 := thenB B1 b2; have F3 := F2.below b2; have T3 := T2.below b2)
            | (go_at_call_of 37 p2; refine (H2.out _).mono ?_; rintro e w3 ⟨rfl, b3⟩; have B3 := thenB B2 b3))
          go_ret
          exact ⟨Ser.ret_int e.out.symm, B3⟩
        | true =>
          have arms : True := trivial
          by_cases c2 : p2 ≤ p1
          · have e := Lib.hid (S1.out (by simp [c2]))
            go_wp2_with (first
              | (go_at_call_of 37 p1; refine (H1.out _).mono ?_; rintro e w2 ⟨rfl, b2⟩; have B2 := thenB B1 b2; have F3 := F2.below b2; have T3 := T2.below b2)
              | (go_at_call_of 37 p2; refine (H2.out _).mono ?_; rintro e w3 ⟨rfl, b3⟩; have B3 := thenB B2 b3; have F4 := F3.below b3; have T4 := T3.below b3))
            go_ret
            exact ⟨Ser.ret_int e.out.symm, B3⟩
          · have E2 := Lib.hid (S2.out (by simp [c2]))
            have E3 := Lib.hid (S3.out (by simp [c2]))
            clear S1 S2 S3
            by_cases hj0 : j = 0
            · have e := Lib.hid (E3.out (by rw [hj0]; rfl))
              clear E2 E3
              have dj : decide (0 < (j : Int)) = false := decide_eq_false (by omega)
              have dj2 : decide (0 < j) = false := decide_eq_false (by omega)
              clear hj0
              go_wp2_with (first
                | (go_at_call_of 37 p1; refine (H1.out _).mono ?_; rintro e w2 ⟨rfl, b2⟩; have B2 := thenB B1 b2; have F3 := F2.below b2; have T3 := T2.below b2)
                | (go_at_call_of 37 p2; refine (H2.out _).mono ?_; rintro e w3 ⟨rfl, b3⟩; have B3 := thenB B2 b3; have F4 := F3.below b3; have T4 := T3.below b3))
              refine wp_region_held_drew (S := (fun _ => True)) (by kernel_rfl) ?_ (fun hHeld => ?_)
              · exact trivial
              refine wpAnyH_take (i := 0) (v := .int .i64 (j : Int)) rfl (by kernel_rfl) (by kernel_rfl) (by kernel_rfl) (fun _ _ _ h => h) (Or.inl ⟨by first | rfl | go_simp, by intro w9 hSw; (try dsimp only at hSw); go_simp⟩) (by assumption) ?_
              simp only [List.getElem_toArray, List.getElem_cons_zero, List.getElem_cons_succ, Act.put, List.setIfInBounds_toArray, List.set_cons_zero, List.set_cons_succ]
              refine wpAnyH_take (i := 1) (v := .bool false) rfl (by kernel_rfl) (by kernel_rfl) (by kernel_rfl) (fun _ _ _ h => h) (Or.inl ⟨by first | rfl | go_simp, by intro w9 hSw; (try dsimp only at hSw); go_simp⟩) (by assumption) ?_
              simp only [List.getElem_toArray, List.getElem_cons_zero, List.getElem_cons_succ, Act.put, List.setIfInBounds_toArray, List.set_cons_zero, List.set_cons_succ]
              refine wpAnyH_take (i := 2) (v := .bool false) rfl (by kernel_rfl) (by kernel_rfl) (by kernel_rfl) (fun _ _ _ h => h) (Or.inl ⟨by first | rfl | go_simp, by intro w9 hSw; (try dsimp only at hSw); go_simp⟩) (by assumption) ?_
              simp only [List.getElem_toArray, List.getElem_cons_zero, List.getElem_cons_succ, Act.put, List.setIfInBounds_toArray, List.set_cons_zero, List.set_cons_succ]
              refine wpAnyH_take (i := 3) (v := undef) rfl (by kernel_rfl) (by kernel_rfl) (by kernel_rfl) (fun _ _ _ h => h) (Or.inr ⟨by first | rfl | go_simp, rfl⟩) (by assumption) ?_
              simp only [List.getElem_toArray, List.getElem_cons_zero, List.getElem_cons_succ, Act.put, List.setIfInBounds_toArray, List.set_cons_zero, List.set_cons_succ]
              refine wpAnyH_take (i := 4) (v := undef) rfl (by kernel_rfl) (by kernel_rfl) (by kernel_rfl) (fun _ _ _ h => h) (Or.inr ⟨by first | rfl | go_simp, rfl⟩) (by assumption) ?_
              simp only [List.getElem_toArray, List.getElem_cons_zero, List.getElem_cons_succ, Act.put, List.setIfInBounds_toArray, List.set_cons_zero, List.set_cons_succ]
              refine wpAnyH_take (i := 5) (v := undef) rfl (by kernel_rfl) (by kernel_rfl) (by kernel_rfl) (fun _ _ _ h => h) (Or.inr ⟨by first | rfl | go_simp, rfl⟩) (by assumption) ?_
              simp only [List.getElem_toArray, List.getElem_cons_zero, List.getElem_cons_succ, Act.put, List.setIfInBounds_toArray, List.set_cons_zero, List.set_cons_succ]
              refine wpAnyH_take (i := 6) (v := undef) rfl (by kernel_rfl) (by kernel_rfl) (by kernel_rfl) (fun _ _ _ h => h) (Or.inr ⟨by first | rfl | go_simp, rfl⟩) (by assumption) ?_
              simp only [List.getElem_toArray, List.getElem_cons_zero, List.getElem_cons_succ, Act.put, List.setIfInBounds_toArray, List.set_cons_zero, List.set_cons_succ]
              refine wpAnyH_take (i := 7) (v := undef) rfl (by kernel_rfl) (by kernel_rfl) (by kernel_rfl) (fun _ _ _ h => h) (Or.inr ⟨by first | rfl | go_simp, rfl⟩) (by assumption) ?_
              simp only [List.getElem_toArray, List.getElem_cons_zero, List.getElem_cons_succ, Act.put, List.setIfInBounds_toArray, List.set_cons_zero, List.set_cons_succ]
              refine wpAnyH_take (i := 8) (v := undef) rfl (by kernel_rfl) (by kernel_rfl) (by kernel_rfl) (fun _ _ _ h => h) (Or.inr ⟨by first | rfl | go_simp, rfl⟩) (by assumption) ?_
              simp only [List.getElem_toArray, List.getElem_cons_zero, List.getElem_cons_succ, Act.put, List.setIfInBounds_toArray, List.set_cons_zero, List.set_cons_succ]
              refine wpAnyH_take (i := 9) (v := undef) rfl (by kernel_rfl) (by kernel_rfl) (by kernel_rfl) (fun _ _ _ h => h) (Or.inr ⟨by first | rfl | go_simp, rfl⟩) (by assumption) ?_
              simp only [List.getElem_toArray, List.getElem_cons_zero, List.getElem_cons_succ, Act.put, List.setIfInBounds_toArray, List.set_cons_zero, List.set_cons_succ]
              refine wpAnyH_take (i := 10) (v := undef) rfl (by kernel_rfl) (by kernel_rfl) (by kernel_rfl) (fun _ _ _ h => h) (Or.inr ⟨by first | rfl | go_simp, rfl⟩) (by assumption) ?_
              simp only [List.getElem_toArray, List.getElem_cons_zero, List.getElem_cons_succ, Act.put, List.setIfInBounds_toArray, List.set_cons_zero, List.set_cons_succ]
              refine wpAnyH_take (i := 11) (v := undef) rfl (by kernel_rfl) (by kernel_rfl) (by kernel_rfl) (fun _ _ _ h => h) (Or.inr ⟨by first | rfl | go_simp, rfl⟩) (by assumption) ?_
              simp only [List.getElem_toArray, List.getElem_cons_zero, List.getElem_cons_succ, Act.put, List.setIfInBounds_toArray, List.set_cons_zero, List.set_cons_succ]
              refine wpAnyH_take (i := 12) (v := .bool false) rfl (by kernel_rfl) (by kernel_rfl) (by kernel_rfl) (fun _ _ _ h => h) (Or.inl ⟨by first | rfl | go_simp, by intro w9 hSw; (try dsimp only at hSw); go_simp⟩) (by assumption) ?_
              simp only [List.getElem_toArray, List.getElem_cons_zero, List.getElem_cons_succ, Act.put, List.setIfInBounds_toArray, List.set_cons_zero, List.set_cons_succ]
              refine wpAnyH_take (i := 13) (v := .bool false) rfl (by kernel_rfl) (by kernel_rfl) (by kernel_rfl) (fun _ _ _ h => h) (Or.inl ⟨by first | rfl | go_simp, by intro w9 hSw; (try dsimp only at hSw); go_simp⟩) (by assumption) ?_
              simp only [List.getElem_toArray, List.getElem_cons_zero, List.getElem_cons_succ, Act.put, List.setIfInBounds_toArray, List.set_cons_zero, List.set_cons_succ]
              refine wpAnyH_done (by kernel_rfl) ?_ _

              go_wp2_with fail
              go_round
              case measure => simp [intOf]; omega
              case rel => exact ⟨j + 1, by omega, by go_num, e, B3.drew, F4⟩
            · obtain ⟨k, hk⟩ : ∃ k, j = k + 1 := ⟨j - 1, by omega⟩
              obtain ⟨q, hq, hqm⟩ := HK.out k (by omega)
              obtain ⟨a1, a2⟩ := q
              have hprev : prev l j = some (a1, a2) := by rw [hk]; exact hq
              rw [hprev] at E2 E3
              clear hprev
              have en : ngo (some (a1, a2)) (p1, p2) = decide (0 ≤ orL [cmpI a1 p1, cmpI a2 p2]) := rfl
              rw [en] at E2 E3
              have HQ := Lib.hid (HP.out a1 a2 p1 p2)
              generalize orL [cmpI a1 p1, cmpI a2 p2] = z at *
              have dj : decide (0 < (j : Int)) = true := decide_eq_true (by omega)
              have dj2 : decide (0 < j) = true := decide_eq_true (by omega)
              have g2 : (0 : Int) ≤ (j : Int) - 1 ∧ (j : Int) - 1 < (n : Int) := by omega
              have g3 : IntKind.i64.wrap ((j : Int) - 1) = (j : Int) - 1 := by rw [IntKind.wrap_i64]; omega
              have g4 : ((j : Int) - 1).toNat = k := by omega
              have g5 : (1 : Int) ≤ (j : Int) ∧ 1 ≤ j ∧ 0 < j ∧ (j : Int) < (n : Int) + 1 ∧ j < n + 1 ∧ j ≤ n := by omega
              clear hk hj0
              have Y : TwoAt wr b (off + k * 2) a1 a2 := HC.out k (a1, a2) hq
              have Y1 := Y.below ((Below.refl _ wr).alloc (Nat.le_refl _) (.cells #[.int .i64 p1, .int .i64 p2] 70))
              clear Y HC hq hqm
              have HH : Hid (∀ w1 w2, Below w1.heap.size w1 w2 → Four w1 w.heap.size D (.slice (some ⟨b, off, none⟩) n c) (.slice J nj cj) (.slice S ns cs) → Two w1 wr.heap.size p1 p2 → TwoAt w1 b (off + k * 2) a1 a2 → Four w2 w.heap.size D (.slice (some ⟨b, off, none⟩) n c) (.slice J nj cj) (.slice S ns cs) ∧ Two w2 wr.heap.size p1 p2 ∧ TwoAt w2 b (off + k * 2) a1 a2) := Lib.hid fun w1 w2 b f t y => ⟨f.below b, t.below b, y.below b⟩
              have EZ : Hid ((decide (0 ≤ z) = true → r = 13) ∧ (decide (0 ≤ z) = false → chkL D (prev l (j + 1)) (l.drop (j + 1)) = r)) := Lib.hid ⟨E2.out, E3.out⟩
              clear E2 E3
              go_wp2_with (first
                | (go_at_call_of 37 p1; refine (H1.out _).mono ?_; rintro e w2 ⟨rfl, b2⟩; have B2 := thenB B1 b2; obtain ⟨F3, T3, Y2⟩ := HH.out _ _ b2 F2 T2 Y1; clear F2 T2 Y1)
                | (go_at_call_of 37 p2; refine (H2.out _).mono ?_; rintro e w3 ⟨rfl, b3⟩; have B3 := thenB B2 b3; obtain ⟨F4, T4, Y3⟩ := HH.out _ _ b3 F3 T3 Y2; clear F3 T3 Y2))
              go_region_held3 (fun w' => Four w' w.heap.size D (.slice (some ⟨b, off, none⟩) n c) (.slice J nj cj) (.slice S ns cs) ∧ Two w' wr.heap.size p1 p2 ∧ TwoAt w' b (off + k * 2) a1 a2) (first | exact ⟨F5, T5, Y4⟩ | exact ⟨F4, T4, Y3⟩) (first
                | (go_at_call 55; refine (HQ.out _).mono ?_; rintro e w4 ⟨rfl, b4⟩; have B4 := dB B3 b4; obtain ⟨F5, T5, Y4⟩ := HH.out _ _ b4 F4 T4 Y3))
              by_cases hz : 0 ≤ z
              · have e := Lib.hid (EZ.out.1 (decide_eq_true hz))
                go_wp2_with fail
                go_ret
                exact ⟨Ser.ret_int e.out.symm, B4⟩
              · have e := Lib.hid (EZ.out.2 (decide_eq_false hz))
                go_wp2_with fail
                go_round
                case measure => simp [intOf]; omega
                case rel => exact ⟨j + 1, by omega, by go_num, e, B4, F5⟩
    · have e := Lib.hid (HZ.out j (by omega) hno.out)
      clear HN HA HO HZ
      have : ¬ ((j : Int) < (n : Int)) := by omega
      go_wp2_with fail
      go_ret
      exact ⟨Ser.ret_int e.out.symm, hbel⟩
end Go.Proofs.Ytocmcjbhmjbmhaa.Air
