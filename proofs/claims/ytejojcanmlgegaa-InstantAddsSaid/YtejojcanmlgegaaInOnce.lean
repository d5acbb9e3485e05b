/- Changes at instants: what was added is due once: walks. -/
import Derived.Test.YtejojcanmlgegaaInLives
set_option linter.unusedVariables false
set_option linter.unusedSimpArgs false
namespace Go.Proofs.Ytejojcanmlgegaa.Nst
open Go.RowKit Mem Rw Base

theorem add_case (ev : Int) (x : Ch) : (addR [] ev x = ([x], 0) ∧ Ser.passedB ev x.i = false) ∨ ∃ r, ¬ r = 0 ∧ addR [] ev x = ([], r) := by
  unfold addR
  by_cases h : chk ev x = 0
  · left
    rw [if_pos h]
    refine ⟨rfl, ?_⟩
    unfold chk at h
    split at h
    · cases hp : Ser.passedB ev x.i with
      | false => rfl
      | true => rw [hp] at h; simp at h
    · omega
  · right
    exact ⟨chk ev x, h, by rw [if_neg h]⟩
/-- The events from one to the instant of a change. -/
def ahead (ev i : Int) : Int := (i - ev) % 65536
theorem due_at {ev i : Int} {j a : Nat} (h0 : 0 ≤ ev ∧ ev ≤ 65535) (h1 : 0 ≤ i ∧ i ≤ 65535) (ha : (a : Int) = ahead ev i) (h6 : a ≤ 600) (hj : j ≤ a + 4) : Ser.passedB (Ser.addZ ev j) i = decide (a ≤ j) := by
  unfold Ser.passedB Ser.diffZ Ser.addZ
  unfold ahead at ha
  by_cases c : a ≤ j
  · rw [decide_eq_true c, decide_eq_true]; omega
  · rw [decide_eq_false c, decide_eq_false]; omega
theorem now_at {ev i : Int} {a : Nat} (h0 : 0 ≤ ev ∧ ev ≤ 65535) (h1 : 0 ≤ i ∧ i ≤ 65535) (ha : (a : Int) = ahead ev i) : Ser.addZ ev a = i := by
  unfold Ser.addZ
  unfold ahead at ha
  omega
theorem rd_due {ev : Int} {x : Ch} (h : Ser.passedB ev x.i = true) : restR [x] ev = [] ∧ dueR [x] ev = [x] := by
  unfold restR dueR isDue; simp [h]
theorem rd_rest {ev : Int} {x : Ch} (h : Ser.passedB ev x.i = false) : restR [x] ev = [x] ∧ dueR [x] ev = [] := by
  unfold restR dueR isDue; simp [h]
set_option maxRecDepth 100000 in
set_option maxHeartbeats 8000000 in
theorem once_any (ev : Int) (x : Ch) (w : World) (h0 : 0 ≤ ev ∧ ev ≤ 65535) (hx : GoodI x) : Calls Try.prog 8 #[.int .u16 ev, .agg (encX x)] w fun e w' => e = .returned (.bool true) ∧ Below w.heap.size w w' := by
  have HL := Lib.hid lives_any
  have BX : Below w.heap.size w (w.alloc (.cells (encX x) 31)) := (Below.refl _ _).alloc (Nat.le_refl _) _
  have K1 : Blk (w.alloc (.cells (encX x) 31)) w.heap.size 31 (encX x) := Blk.fresh w _ _
  have hA := fun w => add_any none 0 0 [] ev x w rfl (by decide) (.inl rfl) h0 hx
  rcases add_case ev x with ⟨hok, hnp⟩ | ⟨r, hr, hbad⟩
  · obtain ⟨a, ha⟩ : ∃ a : Nat, (a : Int) = ahead ev x.i := ⟨(ahead ev x.i).toNat, by unfold ahead; omega⟩
    have HA : Hid (∀ X, Calls Try.prog 14 #[.slice none 0 0, .int .u16 ev, .agg (encX x)] X fun e w' => ∃ A c, e = .returned (.tuple #[.slice A 1 c, .int .i64 0]) ∧ 1 ≤ c ∧ ListAt encH w' w'.heap.size A [x] ∧ Below X.heap.size X w') := Lib.hid fun X => by
      have := hA X
      rw [hok] at this
      exact this
    have h1 := hx
    have hq : (x.i - ev) % 65536 = (a : Int) := ha.symm
    by_cases h6 : a ≤ 600
    · have ha0 : 0 < a := by
        rcases Nat.eq_zero_or_pos a with h | h
        · subst h
          have := due_at (j := 0) h0 hx ha (by omega) (by omega)
          rw [show Ser.addZ ev (0 : Nat) = ev by unfold Ser.addZ; omega, hnp] at this
          simp at this
        · exact h
      have HCo1 : Hid (∀ A c X, ListAt encH X X.heap.size A [x] → Calls Try.prog 15 #[.slice A 1 c] X fun e w' => ∃ A c, e = .returned (.slice A 1 c) ∧ 1 ≤ c ∧ ListAt encH w' w'.heap.size A [x] ∧ Below X.heap.size X w') := Lib.hid fun A c X h => copied_any A 1 c [x] X rfl (by decide) h
      have HCo0 : Hid (∀ A c X, True → Calls Try.prog 15 #[.slice A 0 c] X fun e w' => ∃ A c, e = .returned (.slice A 0 c) ∧ 0 ≤ c ∧ True ∧ Below X.heap.size X w') := Lib.hid fun A c X h => (copied_any A 0 c [] X rfl (by decide) (.inl rfl)).mono fun e w' ⟨A, c, he, hc, _, hb⟩ => ⟨A, c, he, hc, trivial, hb⟩
      have HDr : Hid (∀ j : Nat, j < a → ∀ e' A c X, e' = Ser.addZ ev j → ListAt encH X X.heap.size A [x] → Calls Try.prog 18 #[.slice A 1 c, .int .u16 e'] X fun e w' => ∃ A A' c c', e = .returned (.tuple #[.slice A 1 c, .slice A' 0 c']) ∧ 1 ≤ c ∧ 0 ≤ c' ∧ ListAt encH w' w'.heap.size A [x] ∧ True ∧ Below X.heap.size X w') := Lib.hid fun j hj e' A c X he h => by
        subst he
        have hp := due_at (j := j) h0 hx ha h6 (by omega)
        rw [decide_eq_false (by omega)] at hp
        have := due_any A 1 c [x] _ X rfl (by decide) h (Ser.addZ_bd ev j) (by intro y hy; rw [List.mem_singleton.mp hy]; exact hx)
        rw [(rd_rest hp).1, (rd_rest hp).2] at this
        exact this.mono fun e w' ⟨A, A', c, c', he, q1, q2, q3, q4, q5⟩ => ⟨A, A', c, c', he, q1, q2, q3, trivial, q5⟩
      have HDd : Hid (∀ e' A c X, e' = Ser.addZ ev a → ListAt encH X X.heap.size A [x] → Calls Try.prog 18 #[.slice A 1 c, .int .u16 e'] X fun e w' => ∃ A A' c c', e = .returned (.tuple #[.slice A 0 c, .slice A' 1 c']) ∧ 0 ≤ c ∧ 1 ≤ c' ∧ True ∧ ListAt encH w' w'.heap.size A' [x] ∧ Below X.heap.size X w') := Lib.hid fun e' A c X he h => by
        subst he
        have hp := due_at (j := a) h0 hx ha h6 (by omega)
        rw [decide_eq_true (by omega)] at hp
        have := due_any A 1 c [x] _ X rfl (by decide) h (Ser.addZ_bd ev a) (by intro y hy; rw [List.mem_singleton.mp hy]; exact hx)
        rw [(rd_due hp).1, (rd_due hp).2] at this
        exact this.mono fun e w' ⟨A, A', c, c', he, q1, q2, q3, q4, q5⟩ => ⟨A, A', c, c', he, q1, q2, trivial, q4, q5⟩
      have HD0 : Hid (∀ j : Nat, ∀ e' A c X, e' = Ser.addZ ev j → True → Calls Try.prog 18 #[.slice A 0 c, .int .u16 e'] X fun e w' => ∃ A A' c c', e = .returned (.tuple #[.slice A 0 c, .slice A' 0 c']) ∧ 0 ≤ c ∧ 0 ≤ c' ∧ True ∧ True ∧ Below X.heap.size X w') := Lib.hid fun j e' A c X he _ => by
        subst he
        have := due_any A 0 c [] _ X rfl (by decide) (.inl rfl) (Ser.addZ_bd ev j) (by intro y hy; cases hy)
        exact this.mono fun e w' ⟨A, A', c, c', he, q1, q2, q3, q4, q5⟩ => ⟨A, A', c, c', he, q1, q2, trivial, trivial, q5⟩
      have HSa : Hid (∀ A A' c X, ListAt encH X X.heap.size A [x] → ListAt encH X X.heap.size A' [x] → Calls Try.prog 17 #[.slice A 1 c, .slice A' 1 1] X fun e w' => e = .returned (.bool true) ∧ Below X.heap.size X w') := Lib.hid fun A A' c X h h' => same_yes A A' 1 c 1 [x] X rfl (by decide) h h'
      have HNw : Hid (Ser.addZ ev a = x.i) := Lib.hid (now_at h0 hx ha)
      clear hA ha hok hnp hx
      obtain ⟨y0, y1, y2, y3, y4, y5, y6, y7⟩ := x
      dsimp only [encX] at *
      go_enter Try.func8, Try.ntmps8
      go_upto_region 1 with (fail)
      generalize w.alloc (.cells #[.int .i64 y0, .int .u16 y1, .int .i64 y2, .int .i64 y3, .int .i64 y4, .int .i64 y5, .int .i64 y6, .int .u64 y7] 31) = W0 at *
      go_upto_region 4 with (first | (go_at_call 9; refine (HL.out _).mono ?_; rintro e X1 ⟨rfl, b1⟩; replace K1 := K1.below b1 K1.lt; replace BX := Base.thenB BX b1; clear b1) | (go_at_call 14; refine (HA.out _).mono ?_; intro e X2 h9; obtain ⟨A2, c2, rfl, hc2, L2, b9⟩ := h9; replace K1 := K1.below b9 K1.lt; replace BX := Base.thenB BX b9; clear b9) | (refine wpList_load_row_w rfl 31 (.tmp 3) rfl w.heap.size rfl 31 _ (0, 0) _ K1 Try.underlying31 rfl (by kernel_rfl) ?_))
      have p1 := K1.cell 1
      have gq : IntKind.u16.wrap (y1 - ev) = (a : Int) := by rw [Ser.wrap_u16]; exact hq
      go_upto_region 9 with (fail)
      clear gq
      generalize X2 = WL at *
      have HK := Lib.hid K1
      go_loopw [5, 8, 9, 10, 11, 12] (fun s5 s8 s9 _ _ _ wr => ∃ j : Nat, j ≤ a + 4 ∧ s9 = .int .i64 j ∧ ∃ A c, ((j ≤ a ∧ s8 = .int .i64 0 ∧ s5 = .slice A 1 c ∧ Hid (ListAt encH wr wr.heap.size A [⟨y0, y1, y2, y3, y4, y5, y6, y7⟩])) ∨ (a < j ∧ s8 = .int .i64 1 ∧ s5 = .slice A 0 c)) ∧ Below WL.heap.size WL wr) (fun _ _ s9 _ _ _ _ => a + 4 - (intOf s9).toNat)
      case atStart => exact ⟨0, by omega, rfl, A2, c2, .inl ⟨by omega, rfl, rfl, Lib.hid L2⟩, Below.refl _ _⟩
      case round =>
        clear L2
        obtain ⟨j, hj, rfl, A, c, hst, hbel⟩ := hrel
        replace K1 := HK.out.below hbel HK.out.lt
        replace p1 := K1.cell 1
        generalize wr = Y0 at *
        by_cases cj : j < a
        · rcases hst with ⟨hja, rfl, rfl, AL⟩ | ⟨hja, rfl, rfl⟩
          · have HDu := Lib.hid (HDr.out j cj)
            have HCo := HCo1
            have AL := AL.out
            clear HDr HDd HD0 HCo1 HCo0 HSa HNw
            go_wp2_with (first | (go_at_call 15; refine (HCo.out A c Y0 AL).mono ?_; intro e Y1 h9; obtain ⟨A1, c1, rfl, hc1, L1, b9⟩ := h9; replace K1 := K1.below b9 K1.lt; replace p1 := K1.cell 1; replace hbel := Base.thenB hbel b9; clear b9) | (go_at_call 18; refine (HDu.out _ A1 c1 Y1 (by first | rfl | (unfold Ser.addZ; omega) | (simp only [Ser.addZ, Ser.wrap_u16]; omega)) L1).mono ?_; intro e Y2 h9; obtain ⟨A3, A4, c3, c4, rfl, hc3, hc4, L3, L4, b9⟩ := h9; replace K1 := K1.below b9 K1.lt; replace p1 := K1.cell 1; replace hbel := Base.thenB hbel b9; clear b9))
            go_roundw
            case rel => exact ⟨j + 1, by omega, by go_num, A3, c3, .inl ⟨by omega, rfl, rfl, Lib.hid L3⟩, hbel⟩
            case measure => first | (simp [intOf]; done) | (simp [intOf]; omega)
          · omega
        · by_cases cj2 : j = a
          · subst cj2
            rcases hst with ⟨hja, rfl, rfl, AL⟩ | ⟨hja, rfl, rfl⟩
            · have HDu := HDd
              have HCo := HCo1
              have AL := AL.out
              have gn : IntKind.u16.wrap (ev + (j : Int)) = y1 := by rw [Ser.wrap_u16]; exact HNw.out
              clear HDr HDd HD0 HCo1 HCo0
              go_wp2_with (first | (go_at_call 15; refine (HCo.out A c Y0 AL).mono ?_; intro e Y1 h9; obtain ⟨A1, c1, rfl, hc1, L1, b9⟩ := h9; replace K1 := K1.below b9 K1.lt; replace p1 := K1.cell 1; replace hbel := Base.thenB hbel b9; clear b9) | (go_at_call 18; refine (HDu.out _ A1 c1 Y1 (by first | exact HNw.out.symm | rfl | (unfold Ser.addZ; omega) | (simp only [Ser.addZ, Ser.wrap_u16]; omega)) L1).mono ?_; intro e Y2 h9; obtain ⟨A3, A4, c3, c4, rfl, hc3, hc4, L3, L4, b9⟩ := h9; replace K1 := K1.below b9 K1.lt; replace p1 := K1.cell 1; replace hbel := Base.thenB hbel b9; clear b9) | (go_at_call 17; refine (HSa.out _ _ _ _ (CellsAt.kept L4 (.cells #[.int .i64 y0, .int .u16 y1, .int .i64 y2, .int .i64 y3, .int .i64 y4, .int .i64 y5, .int .i64 y6, .int .u64 y7] 31)) (CellsAt.lit _ _ #[.int .i64 y0, .int .u16 y1, .int .i64 y2, .int .i64 y3, .int .i64 y4, .int .i64 y5, .int .i64 y6, .int .u64 y7] 31 rfl)).mono ?_; rintro e Y3 ⟨rfl, b9⟩; replace hbel := Base.thenB (hbel.alloc hbel.size (.cells #[.int .i64 y0, .int .u16 y1, .int .i64 y2, .int .i64 y3, .int .i64 y4, .int .i64 y5, .int .i64 y6, .int .u64 y7] 31)) b9) | (refine wpList_load_row_w rfl 31 (.tmp 3) rfl w.heap.size rfl 31 _ (0, 0) _ K1 Try.underlying31 rfl (by kernel_rfl) ?_))
              go_roundw
              case rel => exact ⟨j + 1, by omega, by go_num, A3, c3, .inr ⟨by omega, rfl, rfl⟩, hbel⟩
              case measure => first | (simp [intOf]; done) | (simp [intOf]; omega)
            · omega
          · rcases hst with ⟨hja, rfl, rfl, AL⟩ | ⟨hja, rfl, rfl⟩
            · omega
            · have HDu := Lib.hid (HD0.out j)
              have HCo := HCo0
              have AL : True := trivial
              clear HDr HDd HD0 HCo1 HCo0 HSa HNw
              by_cases ce : j < a + 4
              · go_wp2_with (first | (go_at_call 15; refine (HCo.out A c Y0 AL).mono ?_; intro e Y1 h9; obtain ⟨A1, c1, rfl, hc1, L1, b9⟩ := h9; replace K1 := K1.below b9 K1.lt; replace p1 := K1.cell 1; replace hbel := Base.thenB hbel b9; clear b9) | (go_at_call 18; refine (HDu.out _ A1 c1 Y1 (by first | rfl | (unfold Ser.addZ; omega) | (simp only [Ser.addZ, Ser.wrap_u16]; omega)) L1).mono ?_; intro e Y2 h9; obtain ⟨A3, A4, c3, c4, rfl, hc3, hc4, L3, L4, b9⟩ := h9; replace K1 := K1.below b9 K1.lt; replace p1 := K1.cell 1; replace hbel := Base.thenB hbel b9; clear b9))
                go_roundw
                case rel => exact ⟨j + 1, by omega, by go_num, A3, c3, .inr ⟨by omega, rfl, rfl⟩, hbel⟩
                case measure => first | (simp [intOf]; done) | (simp [intOf]; omega)
              · obtain rfl : j = a + 4 := by omega
                go_wp2_with fail
                go_ret
                exact ⟨rfl, Base.thenB BX hbel⟩
    · clear hA ha hok hnp hx
      have g6 : (600 : Int) < (a : Int) := by omega
      obtain ⟨y0, y1, y2, y3, y4, y5, y6, y7⟩ := x
      dsimp only [encX] at *
      go_enter Try.func8, Try.ntmps8
      go_upto_region 1 with (fail)
      generalize w.alloc (.cells #[.int .i64 y0, .int .u16 y1, .int .i64 y2, .int .i64 y3, .int .i64 y4, .int .i64 y5, .int .i64 y6, .int .u64 y7] 31) = W0 at *
      go_upto_region 4 with (first | (go_at_call 9; refine (HL.out _).mono ?_; rintro e X1 ⟨rfl, b1⟩; replace K1 := K1.below b1 K1.lt; replace BX := Base.thenB BX b1; clear b1) | (go_at_call 14; refine (HA.out _).mono ?_; intro e X2 h9; obtain ⟨A2, c2, rfl, hc2, L2, b9⟩ := h9; replace K1 := K1.below b9 K1.lt; replace BX := Base.thenB BX b9; clear b9) | (refine wpList_load_row_w rfl 31 (.tmp 3) rfl w.heap.size rfl 31 _ (0, 0) _ K1 Try.underlying31 rfl (by kernel_rfl) ?_))
      have p1 := K1.cell 1
      have gq : IntKind.u16.wrap (y1 - ev) = (a : Int) := by rw [Ser.wrap_u16]; exact hq
      go_wp2_with fail
      go_ret
      exact ⟨rfl, BX⟩
  · have HA : Hid (∀ X, Calls Try.prog 14 #[.slice none 0 0, .int .u16 ev, .agg (encX x)] X fun e w' => ∃ A c, e = .returned (.tuple #[.slice A 0 c, .int .i64 r]) ∧ 0 ≤ c ∧ True ∧ Below X.heap.size X w') := Lib.hid fun X => by
      have := hA X
      rw [hbad] at this
      exact this.mono fun e w' ⟨A, c, he, q1, q2, q3⟩ => ⟨A, c, he, q1, trivial, q3⟩
    have gC : (r != 0) = true := by simpa using hr
    have h1 := hx
    clear hA hbad hx hr
    obtain ⟨y0, y1, y2, y3, y4, y5, y6, y7⟩ := x
    dsimp only [encX] at *
    go_enter Try.func8, Try.ntmps8
    go_upto_region 1 with (fail)
    generalize w.alloc (.cells #[.int .i64 y0, .int .u16 y1, .int .i64 y2, .int .i64 y3, .int .i64 y4, .int .i64 y5, .int .i64 y6, .int .u64 y7] 31) = W0 at *
    go_upto_region 4 with (first | (go_at_call 9; refine (HL.out _).mono ?_; rintro e X1 ⟨rfl, b1⟩; replace K1 := K1.below b1 K1.lt; replace BX := Base.thenB BX b1; clear b1) | (go_at_call 14; refine (HA.out _).mono ?_; intro e X2 h9; obtain ⟨A2, c2, rfl, hc2, L2, b9⟩ := h9; replace K1 := K1.below b9 K1.lt; replace BX := Base.thenB BX b9; clear b9) | (refine wpList_load_row_w rfl 31 (.tmp 3) rfl w.heap.size rfl 31 _ (0, 0) _ K1 Try.underlying31 rfl (by kernel_rfl) ?_))
    have p1 := K1.cell 1
    go_wp2_with fail
    go_ret
    exact ⟨rfl, BX⟩
end Go.Proofs.Ytejojcanmlgegaa.Nst
