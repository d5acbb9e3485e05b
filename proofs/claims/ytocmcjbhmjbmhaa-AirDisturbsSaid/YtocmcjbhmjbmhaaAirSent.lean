/- Transmissions, checked by the layer. -/
import Derived.Test.YtocmcjbhmjbmhaaAirLinks
set_option linter.unusedVariables false
set_option linter.unusedSimpArgs false
namespace Go.Proofs.Ytocmcjbhmjbmhaa.Air
open Go.RowKit Mem Rw Base

def badT (D : Int) (t : Tr) : Bool := !okDev D t.frm || !okCh t.ch || decide (t.st < 0) || decide (1099511627776 < t.st)
def lego : Option Tr → Tr → Bool
  | none, _ => false
  | some q, p => decide (p.id ≤ q.id)
def chkT (D : Int) (o : Option Tr) : List Tr → Int
  | [] => 0
  | t :: r => if lego o t then 13 else if badT D t then 5 else if 260 < t.bs.length then 4 else chkT D (some t) r
theorem chkT_at {D : Int} {l : List Tr} {j : Nat} {t : Tr} {r : Int} (h : l[j]? = some t) (he : chkT D (prev l j) (l.drop j) = r) :
    (lego (prev l j) t = true → r = 13) ∧ (lego (prev l j) t = false → (badT D t = true → r = 5) ∧ (badT D t = false → 260 < t.bs.length → r = 4) ∧ (badT D t = false → ¬ 260 < t.bs.length → chkT D (prev l (j + 1)) (l.drop (j + 1)) = r)) := by
  rw [drop_at h, chkT] at he
  refine ⟨fun hb => by rw [if_pos hb] at he; exact he.symm, fun hb => ?_⟩
  rw [if_neg (by rw [hb]; decide)] at he
  refine ⟨fun hn => by rw [if_pos hn] at he; exact he.symm, fun hn hg => ?_, fun hn hg => ?_⟩
  · rw [if_neg (by rw [hn]; decide), if_pos hg] at he; exact he.symm
  · rw [if_neg (by rw [hn]; decide), if_neg hg] at he
    have e2 : prev l (j + 1) = some t := h
    rw [e2]; exact he
/-- The cells of a transmission in a list. -/
theorem tx_cells {w : World} {B : Nat} {A : Option Addr} {l : List Tx} (h : TxsAt w B A l) (hl : 0 < l.length) :
    ∃ b off, A = some ⟨b, off, none⟩ ∧ b < B ∧ ∀ (j : Nat) x, l[j]? = some x → w.cell? ⟨b, off + j * 5, none⟩ = some (.int .i64 x.id) ∧ w.cell? ⟨b, off + j * 5 + 1, none⟩ = some (.int .i64 x.frm) ∧ w.cell? ⟨b, off + j * 5 + 2, none⟩ = some (.int .i64 x.ch) ∧ w.cell? ⟨b, off + j * 5 + 3, none⟩ = some (.int .i64 x.st) ∧ w.cell? ⟨b, off + j * 5 + 4, none⟩ = some (.slice x.A x.bs.length x.c) := by
  obtain ⟨b, off, e, hb, hc⟩ := ListAt.open_ h.1 sizT (by decide) hl
  exact ⟨b, off, e, hb, fun j x hj => ⟨hc j x hj 0 _ rfl, hc j x hj 1 _ rfl, hc j x hj 2 _ rfl, hc j x hj 3 _ rfl, hc j x hj 4 _ rfl⟩⟩
theorem One_below {w w' : World} {g o : Nat} {v : Value} (f : w.cell? ⟨g, o, none⟩ = some v) (b : Below w.heap.size w w') : w'.cell? ⟨g, o, none⟩ = some v := (b.cell (p := ⟨g, o, none⟩) (World.block_lt_of_cell? _ _ f)).trans f
set_option maxHeartbeats 4000000 in
theorem checksent_any (D : Int) (A J S L : Option Addr) (n c nj cj ns cs k kc : Nat) (l : List Tx) (w : World) (hl : l.length = k) (hk : k ≤ 8796093022208) (hr : TxsAt w w.heap.size L l) :
    Calls Try.prog 41 #[.agg #[.int .i64 D, .slice A n c, .slice J nj cj, .slice S ns cs], .slice L k kc] w fun e w' => e = .returned (.int .i64 (chkT D none (l.map Tx.tr))) ∧ Below w.heap.size w w' := by
  have HN := Lib.hid (fun j (h : j < k) => has hl h)
  have HM : Hid (∀ (j : Nat) x, l[j]? = some x → (l.map Tx.tr)[j]? = some x.tr) := Lib.hid fun j x h => by rw [List.getElem?_map, h]; rfl
  have HE : Hid (∀ j, k ≤ j → (l.map Tx.tr).length ≤ j) := Lib.hid fun j h => by rw [List.length_map]; omega
  have HA : Hid (∀ (j : Nat) t, (l.map Tx.tr)[j]? = some t → ∀ r, chkT D (prev (l.map Tx.tr) j) ((l.map Tx.tr).drop j) = r → _) := Lib.hid fun j t h r he => chkT_at h he
  have HO : Hid (∀ w', Below w.heap.size w w' → 0 < k → _) := Lib.hid fun w' hb h0 => tx_cells (hr.below hb) (by omega)
  have HD0 := Lib.hid (fun z w => isdevice_any D z (.slice A n c) (.slice J nj cj) (.slice S ns cs) w)
  have HC0 := Lib.hid (fun z w => ischannel_any z w)
  have B0 : Below w.heap.size w (w.alloc (.cells #[.int .i64 D, .slice A n c, .slice J nj cj, .slice S ns cs] 34)) := (Below.refl _ w).alloc (Nat.le_refl _) _
  have F0 := four_of (Blk.fresh w 34 #[.int .i64 D, .slice A n c, .slice J nj cj, .slice S ns cs])
  generalize hL : l.map Tx.tr = LL at *
  generalize hr0 : chkT D none LL = r at *
  have hr1 : Hid (chkT D (prev LL 0) (LL.drop 0) = r) := Lib.hid (by rw [List.drop_zero]; exact hr0)
  have HZ : Hid (∀ j, k ≤ j → chkT D (prev LL j) (LL.drop j) = r → r = 0) := Lib.hid fun j hj he => by
    rw [List.drop_eq_nil_of_le (HE.out j hj), chkT] at he; exact he.symm
  clear hl hr hr0 HE hL
  go_enter Try.func41, Try.ntmps41
  go_wp2_with fail
  generalize w.alloc (.cells #[.int .i64 D, .slice A n c, .slice J nj cj, .slice S ns cs] 34) = W at *
  go_loopw [5, 9] (fun _ s9 wr => ∃ j : Nat, j ≤ k ∧ s9 = .int .i64 j ∧ Hid (chkT D (prev LL j) (LL.drop j) = r) ∧ Below w.heap.size w wr ∧ Four wr w.heap.size D (.slice A n c) (.slice J nj cj) (.slice S ns cs)) (fun _ s9 _ => k - (intOf s9).toNat)
  case atStart => exact ⟨0, by omega, rfl, hr1, B0, F0⟩
  case round =>
    obtain ⟨j, hj, rfl, hno, hbel, F1⟩ := hrel
    clear hr1 B0 F0
    by_cases c1 : j < k
    · obtain ⟨p, hpj, _⟩ := HN.out j c1
      have s0 := HA.out j p.tr (HM.out j p hpj) r hno.out
      obtain ⟨b, off, rfl, hbl, hc⟩ := HO.out _ hbel (by omega)
      obtain ⟨h0, h1, h2, h3, h4⟩ := hc j p hpj
      obtain ⟨p0, p1, p2, p3, PA, pc, bs⟩ := p
      simp only at h0 h1 h2 h3 h4
      generalize hm : bs.length = m at *
      have eb : badT D (Tx.tr ⟨p0, p1, p2, p3, PA, pc, bs⟩) = (!okDev D p1 || !okCh p2 || decide (p3 < 0) || decide (1099511627776 < p3)) := rfl
      have el : (Tx.tr ⟨p0, p1, p2, p3, PA, pc, bs⟩).bs.length = m := hm
      rw [eb, el] at s0
      have HD := Lib.hid (HD0.out p1)
      have HC := Lib.hid (HC0.out p2)
      clear HD0 HC0 eb el hm
      generalize okDev D p1 = q1 at *
      generalize okCh p2 = q2 at *
      have g1 : (0 : Int) ≤ (j : Int) ∧ (j : Int) < (k : Int) := by omega
      have B1 := hbel.alloc hbel.size (.cells #[.int .i64 p0, .int .i64 p1, .int .i64 p2, .int .i64 p3, .slice PA m pc] 24)
      have F2 := F1.below ((Below.refl _ wr).alloc (Nat.le_refl _) (.cells #[.int .i64 p0, .int .i64 p1, .int .i64 p2, .int .i64 p3, .slice PA m pc] 24))
      have T2 := five_of (Blk.fresh wr 24 #[.int .i64 p0, .int .i64 p1, .int .i64 p2, .int .i64 p3, .slice PA m pc])
      have DB : ∀ {w1 w2 : World}, Below w.heap.size w w1 → Below w1.heap.size w1 w2 → Below w.heap.size w w2 := fun h k => thenB h k
      have FB : ∀ {w1 w2 : World}, Four w1 w.heap.size D (.slice A n c) (.slice J nj cj) (.slice S ns cs) → Below w1.heap.size w1 w2 → Four w2 w.heap.size D (.slice A n c) (.slice J nj cj) (.slice S ns cs) := fun f b => f.below b
      have TB : ∀ {w1 w2 : World}, Five w1 wr.heap.size p0 p1 p2 p3 (.slice PA m pc) → Below w1.heap.size w1 w2 → Five w2 wr.heap.size p0 p1 p2 p3 (.slice PA m pc) := fun f b => f.below b
      have HS := Lib.hid s0
      have HCc := Lib.hid hc
      clear s0 hc HA
      by_cases hj0 : j = 0
      · have s1 := HS.out.2 (by rw [hj0]; rfl)
        have S5 := Lib.hid s1.1
        have S4 := Lib.hid s1.2.1
        have S0 := Lib.hid s1.2.2
        have dj : decide (0 < (j : Int)) = false := decide_eq_false (by omega)
        have dj2 : decide (0 < j) = false := decide_eq_false (by omega)
        clear hj0 s1 HS HM HN HO HZ HCc
        go_wp2_with fail
        refine wp_region_held_drew (S := (fun _ => True)) (by kernel_rfl) ?_ (fun hHeld => ?_)
        · exact trivial
        refine wpAnyH_take (i := 0) (v := .int .i64 (j : Int)) rfl (by kernel_rfl) (by kernel_rfl) (by kernel_rfl) (fun _ _ _ h => h) (Or.inl ⟨by first | rfl | go_simp, by intro w9 hSw; (try dsimp only at hSw); go_simp⟩) (by assumption) ?_
        simp only [List.getElem_toArray, List.getElem_cons_zero, List.getElem_cons_succ, Act.put, List.setIfInBounds_toArray, List.set_cons_zero, List.set_cons_succ]
        refine wpAnyH_take (i := 1) (v := .bool false) rfl (by kernel_rfl) (by kernel_rfl) (by kernel_rfl) (fun _ _ _ h => h) (Or.inl ⟨by first | rfl | go_simp, by intro w9 hSw; (try dsimp only at hSw); go_simp⟩) (by assumption) ?_
        simp only [List.getElem_toArray, List.getElem_cons_zero, List.getElem_cons_succ, Act.put, List.setIfInBounds_toArray, List.set_cons_zero, List.set_cons_succ]
        refine wpAnyH_take (i := 2) (v := .bool false) rfl (by kernel_rfl) (by kernel_rfl) (by kernel_rfl) (fun _ _ _ h => h) (Or.inl ⟨by first | rfl | go_simp, by intro w9 hSw; (try dsimp only at hSw); go_simp⟩) (by assumption) ?_
        simp only [List.getElem_toArray, List.getElem_cons_zero, List.getElem_cons_succ, Act.put, List.setIfInBounds_toArray, List.set_cons_zero, List.set_cons_succ]
        refine wpAnyH_take (i := 3) (v := undef) rfl (by kernel_rfl) (by kernel_rfl) (by kernel_rfl) (fun _ _ _ h => h) (Or.inr ⟨by first | rfl | go_simp, rfl⟩) (by assumption) ?_
        simp only [List.getElem_toArray, List.getElem_cons_zero, List.getElem_cons_succ, Act.put, List.setIfInBounds_toArray, List.set_cons_zero, List.set_cons_succ]
        refine wpAnyH_take (i := 4) (v := undef) rfl (by kernel_rfl) (by kernel_rfl) (by kernel_rfl) (fun _ _ _ h => h) (Or.inr ⟨by first | rfl | go_simp, rfl⟩) (by assumption) ?_
        simp only [List.getElem_toArray, List.getElem_cons_zero, List.getElem_cons_succ, Act.put, List.setIfInBounds_toArray, List.set_cons_zero, List.set_cons_succ]
        refine wpAnyH_take (i := 5) (v := undef) rfl (by kernel_rfl) (by kernel_rfl) (by kernel_rfl) (fun _ _ _ h => h) (Or.inr ⟨by first | rfl | go_simp, rfl⟩) (by assumption) ?_
        simp only [List.getElem_toArray, List.getElem_cons_zero, List.getElem_cons_succ, Act.put, List.setIfInBounds_toArray, List.set_cons_zero, List.set_cons_succ]
        refine wpAnyH_take (i := 6) (v := undef) rfl (by kernel_rfl) (by kernel_rfl) (by kernel_rfl) (fun _ _ _ h => h) (Or.inr ⟨by first | rfl | go_simp, rfl⟩) (by assumption) ?_
        simp only [List.getElem_toArray, List.getElem_cons_zero, List.getElem_cons_succ, Act.put, List.setIfInBounds_toArray, List.set_cons_zero, List.set_cons_succ]
        refine wpAnyH_take (i := 7) (v := undef) rfl (by kernel_rfl) (by kernel_rfl) (by kernel_rfl) (fun _ _ _ h => h) (Or.inr ⟨by first | rfl | go_simp, rfl⟩) (by assumption) ?_
        simp only [List.getElem_toArray, List.getElem_cons_zero, List.getElem_cons_succ, Act.put, List.setIfInBounds_toArray, List.set_cons_zero, List.set_cons_succ]
        refine wpAnyH_take (i := 8) (v := undef) rfl (by kernel_rfl) (by kernel_rfl) (by kernel_rfl) (fun _ _ _ h => h) (Or.inr ⟨by first | rfl | go_simp, rfl⟩) (by assumption) ?_
        simp only [List.getElem_toArray, List.getElem_cons_zero, List.getElem_cons_succ, Act.put, List.setIfInBounds_toArray, List.set_cons_zero, List.set_cons_succ]
        refine wpAnyH_take (i := 9) (v := undef) rfl (by kernel_rfl) (by kernel_rfl) (by kernel_rfl) (fun _ _ _ h => h) (Or.inr ⟨by first | rfl | go_simp, rfl⟩) (by assumption) ?_
        simp only [List.getElem_toArray, List.getElem_cons_zero, List.getElem_cons_succ, Act.put, List.setIfInBounds_toArray, List.set_cons_zero, List.set_cons_succ]
        refine wpAnyH_take (i := 10) (v := undef) rfl (by kernel_rfl) (by kernel_rfl) (by kernel_rfl) (fun _ _ _ h => h) (Or.inr ⟨by first | rfl | go_simp, rfl⟩) (by assumption) ?_
        simp only [List.getElem_toArray, List.getElem_cons_zero, List.getElem_cons_succ, Act.put, List.setIfInBounds_toArray, List.set_cons_zero, List.set_cons_succ]
        refine wpAnyH_take (i := 11) (v := undef) rfl (by kernel_rfl) (by kernel_rfl) (by kernel_rfl) (fun _ _ _ h => h) (Or.inr ⟨by first | rfl | go_simp, rfl⟩) (by assumption) ?_
        simp only [List.getElem_toArray, List.getElem_cons_zero, List.getElem_cons_succ, Act.put, List.setIfInBounds_toArray, List.set_cons_zero, List.set_cons_succ]
        refine wpAnyH_take (i := 12) (v := .bool false) rfl (by kernel_rfl) (by kernel_rfl) (by kernel_rfl) (fun _ _ _ h => h) (Or.inl ⟨by first | rfl | go_simp, by intro w9 hSw; (try dsimp only at hSw); go_simp⟩) (by assumption) ?_
        simp only [List.getElem_toArray, List.getElem_cons_zero, List.getElem_cons_succ, Act.put, List.setIfInBounds_toArray, List.set_cons_zero, List.set_cons_succ]
        refine wpAnyH_take (i := 13) (v := .bool false) rfl (by kernel_rfl) (by kernel_rfl) (by kernel_rfl) (fun _ _ _ h => h) (Or.inl ⟨by first | rfl | go_simp, by intro w9 hSw; (try dsimp only at hSw); go_simp⟩) (by assumption) ?_
        simp only [List.getElem_toArray, List.getElem_cons_zero, List.getElem_cons_succ, Act.put, List.setIfInBounds_toArray, List.set_cons_zero, List.set_cons_succ]
        refine wpAnyH_done (by kernel_rfl) ?_ _

        have B3 := B1.drew
        have F3 : Four (wr.alloc (.cells #[.int .i64 p0, .int .i64 p1, .int .i64 p2, .int .i64 p3, .slice PA m pc] 24)).drew w.heap.size D (.slice A n c) (.slice J nj cj) (.slice S ns cs) := F2
        have T3 : Five (wr.alloc (.cells #[.int .i64 p0, .int .i64 p1, .int .i64 p2, .int .i64 p3, .slice PA m pc] 24)).drew wr.heap.size p0 p1 p2 p3 (.slice PA m pc) := T2
        generalize (wr.alloc (.cells #[.int .i64 p0, .int .i64 p1, .int .i64 p2, .int .i64 p3, .slice PA m pc] 24)).drew = w3 at *
        cases q1 with
        | false =>
          have e := Lib.hid (S5.out (by simp))
          go_wp2_with (go_at_call 37; refine (HD.out _).mono ?_; rintro e w5 ⟨rfl, b5⟩; have B5 := DB B3 b5; have F5 := FB F3 b5; have T5 := TB T3 b5)
          go_ret
          exact ⟨Ser.ret_int e.out.symm, B5⟩
        | true =>
          cases q2 with
          | false =>
            have e := Lib.hid (S5.out (by simp))
            go_wp2_with (first
              | (go_at_call 37; refine (HD.out _).mono ?_; rintro e w5 ⟨rfl, b5⟩; have B5 := DB B3 b5; have F5 := FB F3 b5; have T5 := TB T3 b5)
              | (go_at_call 57; refine (HC.out _).mono ?_; rintro e w6 ⟨rfl, rfl⟩))
            go_ret
            exact ⟨Ser.ret_int e.out.symm, B5⟩
          | true =>
            by_cases c3 : p3 < 0
            · have e := Lib.hid (S5.out (by simp [c3]))
              go_wp2_with (first
                | (go_at_call 37; refine (HD.out _).mono ?_; rintro e w5 ⟨rfl, b5⟩; have B5 := DB B3 b5; have F5 := FB F3 b5; have T5 := TB T3 b5)
                | (go_at_call 57; refine (HC.out _).mono ?_; rintro e w6 ⟨rfl, rfl⟩))
              go_ret
              exact ⟨Ser.ret_int e.out.symm, B5⟩
            · by_cases c4 : 1099511627776 < p3
              · have e := Lib.hid (S5.out (by simp [c4]))
                go_wp2_with (first
                  | (go_at_call 37; refine (HD.out _).mono ?_; rintro e w5 ⟨rfl, b5⟩; have B5 := DB B3 b5; have F5 := FB F3 b5; have T5 := TB T3 b5)
                  | (go_at_call 57; refine (HC.out _).mono ?_; rintro e w6 ⟨rfl, rfl⟩))
                go_ret
                exact ⟨Ser.ret_int e.out.symm, B5⟩
              · by_cases c5 : (260 : Int) < (m : Int)
                · have e := Lib.hid (S4.out (by simp [c3, c4]) (by omega))
                  go_wp2_with (first
                    | (go_at_call 37; refine (HD.out _).mono ?_; rintro e w5 ⟨rfl, b5⟩; have B5 := DB B3 b5; have F5 := FB F3 b5; have T5 := TB T3 b5)
                    | (go_at_call 57; refine (HC.out _).mono ?_; rintro e w6 ⟨rfl, rfl⟩))
                  go_ret
                  exact ⟨Ser.ret_int e.out.symm, B5⟩
                · have e := Lib.hid (S0.out (by simp [c3, c4]) (by omega))
                  go_wp2_with (first
                    | (go_at_call 37; refine (HD.out _).mono ?_; rintro e w5 ⟨rfl, b5⟩; have B5 := DB B3 b5; have F5 := FB F3 b5; have T5 := TB T3 b5)
                    | (go_at_call 57; refine (HC.out _).mono ?_; rintro e w6 ⟨rfl, rfl⟩))
                  go_round
                  case measure => simp [intOf]; omega
                  case rel => exact ⟨j + 1, by omega, by go_num, e, B5, F5⟩
      · obtain ⟨i, hi⟩ : ∃ i, j = i + 1 := ⟨j - 1, by omega⟩
        obtain ⟨q, hq, hqm⟩ := HN.out i (by omega)
        have hprev : prev LL j = some q.tr := by rw [hi]; exact HM.out i q hq
        rw [hprev] at HS
        clear hprev
        have y0 := (HCc.out i q hq).1
        obtain ⟨a0, a1, a2, a3, QA, qc, qs⟩ := q
        simp only at y0
        have en : lego (some (Tx.tr ⟨a0, a1, a2, a3, QA, qc, qs⟩)) (Tx.tr ⟨p0, p1, p2, p3, PA, pc, bs⟩) = decide (p0 ≤ a0) := rfl
        rw [en] at HS
        have dj : decide (0 < (j : Int)) = true := decide_eq_true (by omega)
        have dj2 : decide (0 < j) = true := decide_eq_true (by omega)
        have g2 : (0 : Int) ≤ (j : Int) - 1 ∧ (j : Int) - 1 < (k : Int) := by omega
        have g3 : IntKind.i64.wrap ((j : Int) - 1) = (j : Int) - 1 := by rw [IntKind.wrap_i64]; omega
        have g4 : ((j : Int) - 1).toNat = i := by omega
        have g5 : (1 : Int) ≤ (j : Int) ∧ 1 ≤ j ∧ 0 < j ∧ (j : Int) < (k : Int) + 1 ∧ j < k + 1 ∧ j ≤ k := by omega
        have y1 := One_below y0 ((Below.refl _ wr).alloc (Nat.le_refl _) (.cells #[.int .i64 p0, .int .i64 p1, .int .i64 p2, .int .i64 p3, .slice PA m pc] 24))
        clear hi hj0 en y0 HM HN HO HZ HCc hq hqm
        go_wp2_with fail
        go_region_held3 (fun w' => Five w' wr.heap.size p0 p1 p2 p3 (.slice PA m pc) ∧ w'.cell? ⟨b, off + i * 5, none⟩ = some (.int .i64 a0)) (exact ⟨T2, y1⟩) (first | fail)
        have B3 := B1.drew
        have F3 : Four (wr.alloc (.cells #[.int .i64 p0, .int .i64 p1, .int .i64 p2, .int .i64 p3, .slice PA m pc] 24)).drew w.heap.size D (.slice A n c) (.slice J nj cj) (.slice S ns cs) := F2
        have T3 : Five (wr.alloc (.cells #[.int .i64 p0, .int .i64 p1, .int .i64 p2, .int .i64 p3, .slice PA m pc] 24)).drew wr.heap.size p0 p1 p2 p3 (.slice PA m pc) := T2
        generalize (wr.alloc (.cells #[.int .i64 p0, .int .i64 p1, .int .i64 p2, .int .i64 p3, .slice PA m pc] 24)).drew = w3 at *
        by_cases cz : p0 ≤ a0
        · have e := Lib.hid (HS.out.1 (decide_eq_true cz))
          go_wp2_with fail
          go_ret
          exact ⟨Ser.ret_int e.out.symm, B3⟩
        · have s1 := HS.out.2 (decide_eq_false cz)
          have S5 := Lib.hid s1.1
          have S4 := Lib.hid s1.2.1
          have S0 := Lib.hid s1.2.2
          clear s1 HS
          cases q1 with
          | false =>
            have e := Lib.hid (S5.out (by simp))
            go_wp2_with (go_at_call 37; refine (HD.out _).mono ?_; rintro e w5 ⟨rfl, b5⟩; have B5 := DB B3 b5; have F5 := FB F3 b5; have T5 := TB T3 b5)
            go_ret
            exact ⟨Ser.ret_int e.out.symm, B5⟩
          | true =>
            cases q2 with
            | false =>
              have e := Lib.hid (S5.out (by simp))
              go_wp2_with (first
                | (go_at_call 37; refine (HD.out _).mono ?_; rintro e w5 ⟨rfl, b5⟩; have B5 := DB B3 b5; have F5 := FB F3 b5; have T5 := TB T3 b5)
                | (go_at_call 57; refine (HC.out _).mono ?_; rintro e w6 ⟨rfl, rfl⟩))
              go_ret
              exact ⟨Ser.ret_int e.out.symm, B5⟩
            | true =>
              by_cases c3 : p3 < 0
              · have e := Lib.hid (S5.out (by simp [c3]))
                go_wp2_with (first
                  | (go_at_call 37; refine (HD.out _).mono ?_; rintro e w5 ⟨rfl, b5⟩; have B5 := DB B3 b5; have F5 := FB F3 b5; have T5 := TB T3 b5)
                  | (go_at_call 57; refine (HC.out _).mono ?_; rintro e w6 ⟨rfl, rfl⟩))
                go_ret
                exact ⟨Ser.ret_int e.out.symm, B5⟩
              · by_cases c4 : 1099511627776 < p3
                · have e := Lib.hid (S5.out (by simp [c4]))
                  go_wp2_with (first
                    | (go_at_call 37; refine (HD.out _).mono ?_; rintro e w5 ⟨rfl, b5⟩; have B5 := DB B3 b5; have F5 := FB F3 b5; have T5 := TB T3 b5)
                    | (go_at_call 57; refine (HC.out _).mono ?_; rintro e w6 ⟨rfl, rfl⟩))
                  go_ret
                  exact ⟨Ser.ret_int e.out.symm, B5⟩
                · by_cases c5 : (260 : Int) < (m : Int)
                  · have e := Lib.hid (S4.out (by simp [c3, c4]) (by omega))
                    go_wp2_with (first
                      | (go_at_call 37; refine (HD.out _).mono ?_; rintro e w5 ⟨rfl, b5⟩; have B5 := DB B3 b5; have F5 := FB F3 b5; have T5 := TB T3 b5)
                      | (go_at_call 57; refine (HC.out _).mono ?_; rintro e w6 ⟨rfl, rfl⟩))
                    go_ret
                    exact ⟨Ser.ret_int e.out.symm, B5⟩
                  · have e := Lib.hid (S0.out (by simp [c3, c4]) (by omega))
                    go_wp2_with (first
                      | (go_at_call 37; refine (HD.out _).mono ?_; rintro e w5 ⟨rfl, b5⟩; have B5 := DB B3 b5; have F5 := FB F3 b5; have T5 := TB T3 b5)
                      | (go_at_call 57; refine (HC.out _).mono ?_; rintro e w6 ⟨rfl, rfl⟩))
                    go_round
                    case measure => simp [intOf]; omega
                    case rel => exact ⟨j + 1, by omega, by go_num, e, B5, F5⟩
    · have e := Lib.hid (HZ.out j (by omega) hno.out)
      clear HN HA HO HZ
      have : ¬ ((j : Int) < (k : Int)) := by omega
      go_wp2_with fail
      go_ret
      exact ⟨Ser.ret_int e.out.symm, hbel⟩
end Go.Proofs.Ytocmcjbhmjbmhaa.Air
