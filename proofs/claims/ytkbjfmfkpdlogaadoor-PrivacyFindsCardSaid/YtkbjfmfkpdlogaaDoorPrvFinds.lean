/- The statement that the current address is found, walked: it returns true. -/
import Derived.Test.YtkbjfmfkpdlogaaDoorPrvLaws
set_option linter.unusedVariables false
set_option linter.unusedSimpArgs false
namespace Go.Proofs.YtkbjfmfkpdlogaaDoor.Prv
open Go.RowKit Mem Oct Blk Base Mac Arg

theorem finds_out0 (A : Option Addr) (n c : Nat) (i l p : Int) (w : World) (y : i < 0) (hT : Adr.Tab w) :
    Calls Tryd.prog 10 #[.slice A n c, .int .i64 i, .int .i64 l, .int .i64 p] w fun e w' => e = .returned (.bool true) ∧ Below w.heap.size w w' := by
  go_enter Tryd.func10, Tryd.ntmps10
  go_wp2_with (go_at_call 23; refine (lives_any _ hT).mono ?_; rintro e w1 ⟨rfl, b1⟩)
  go_ret
  exact ⟨rfl, b1⟩
theorem finds_out1 (A : Option Addr) (n c : Nat) (i l p : Int) (w : World) (n0 : ¬ i < 0) (y : (n : Int) ≤ i) (hT : Adr.Tab w) :
    Calls Tryd.prog 10 #[.slice A n c, .int .i64 i, .int .i64 l, .int .i64 p] w fun e w' => e = .returned (.bool true) ∧ Below w.heap.size w w' := by
  go_enter Tryd.func10, Tryd.ntmps10
  go_wp2_with (go_at_call 23; refine (lives_any _ hT).mono ?_; rintro e w1 ⟨rfl, b1⟩)
  go_ret
  exact ⟨rfl, b1⟩
theorem finds_out2 (A : Option Addr) (n c : Nat) (i l p : Int) (w : World) (n0 : ¬ i < 0) (n1 : ¬ (n : Int) ≤ i) (y : (60 : Int) < (n : Int)) (hT : Adr.Tab w) :
    Calls Tryd.prog 10 #[.slice A n c, .int .i64 i, .int .i64 l, .int .i64 p] w fun e w' => e = .returned (.bool true) ∧ Below w.heap.size w w' := by
  go_enter Tryd.func10, Tryd.ntmps10
  go_wp2_with (go_at_call 23; refine (lives_any _ hT).mono ?_; rintro e w1 ⟨rfl, b1⟩)
  go_ret
  exact ⟨rfl, b1⟩
theorem finds_out3 (ad off : Nat) (n c I : Nat) (l p : Int) (w : World) (n1 : I < n) (hnc : n ≤ c) (n2 : ¬ (60 : Int) < (n : Int)) (h2 : w.cell? ⟨ad, off + I * 3 + 2, none⟩ = some (.int .u64 0)) (hT : Adr.Tab w) :
    Calls Tryd.prog 10 #[.slice (some ⟨ad, off, none⟩) n c, .int .i64 I, .int .i64 l, .int .i64 p] w fun e w' => e = .returned (.bool true) ∧ Below w.heap.size w w' := by
  have g1 : (0 : Int) ≤ (I : Int) ∧ (I : Int) < (n : Int) := by omega
  have g2 : ¬ (n : Int) ≤ (I : Int) := by omega
  go_enter Tryd.func10, Tryd.ntmps10
  go_wp2_with (go_at_call 23; refine (lives_any _ hT).mono ?_; rintro e w1 ⟨rfl, b1⟩)
  go_ret
  exact ⟨rfl, b1⟩
set_option maxHeartbeats 4000000 in
theorem finds_good (ad off : Nat) (n c I : Nat) (fs : List (Int × Int × Int)) (k b irk V : Int) (j : Nat) (l p : Int) (w : World) (hf : fs.length = n) (hnc : n ≤ c) (hal : ad < w.heap.size) (hI : Idents fs) (n1 : I < n) (n2 : ¬ (60 : Int) < (n : Int))
    (hcl : ∀ j f, fs[j]? = some f → w.cell? ⟨ad, off + j * 3, none⟩ = some (.int .i64 f.1) ∧ w.cell? ⟨ad, off + j * 3 + 1, none⟩ = some (.int .u64 f.2.1) ∧ w.cell? ⟨ad, off + j * 3 + 2, none⟩ = some (.int .u64 f.2.2))
    (hfI : fs[I]? = some (k, b, irk)) (h0 : ¬ irk = 0) (bV : 0 ≤ V ∧ V ≤ 18446744073709551615) (hj1 : j ≤ I) (hjb : belP 3 V fs j = true) (hjn : Hid (∀ q, q < j → belP 3 V fs q = false))
    (J : Int) (hJ : 3 = J)
    (H1 : Hid (∀ w, Adr.Tab w → Calls Tryd.prog 32 #[.agg #[.int .i64 k, .int .u64 b, .int .u64 irk], .bool true, .int .i64 l, .int .i64 p] w fun e w' => e = .returned (.agg #[.int .i64 J, .int .u64 V]) ∧ Below w.heap.size w w'))
    (H2 : Hid (∀ w, TriplesAt w (some ⟨ad, off, none⟩) fs → Adr.Tab w → Calls Tryd.prog 26 #[.slice (some ⟨ad, off, none⟩) n c, .agg #[.int .i64 J, .int .u64 V]] w fun e w' => e = .returned (.int .i64 j) ∧ Below w.heap.size w w'))
    (hT : Adr.Tab w) :
    Calls Tryd.prog 10 #[.slice (some ⟨ad, off, none⟩) n c, .int .i64 I, .int .i64 l, .int .i64 p] w fun e w' => e = .returned (.bool true) ∧ Below w.heap.size w w' := by
  have hA0 : TriplesAt w (some ⟨ad, off, none⟩) fs := .inr ⟨ad, off, rfl, hal, hcl⟩
  have HR : Hid (∀ (w : World) (ik : Int) (r : Bool), (0 ≤ ik ∧ ik ≤ 18446744073709551615) → rsvZ ik 3 V = r → Adr.Tab w → Calls Tryd.prog 24 #[.int .u64 ik, .agg #[.int .i64 J, .int .u64 V]] w fun e w' => e = .returned (.bool r) ∧ Below w.heap.size w w') := Lib.hid fun w ik r hk hr hT => by
    have := resolves_any ik 3 V w hk (by decide) bV hT
    rw [hr, hJ] at this
    exact this
  have HB : Hid (∀ q (f : Int × Int × Int), fs[q]? = some f → belP 3 V fs q = ((f.1 == J && f.2.1 == V) || rsvZ f.2.2 3 V)) := Lib.hid fun q f hq => by rw [← hJ]; unfold belP belB; simp [List.getD, hq]
  have HN : Hid (∀ q, q < n → ∃ f, fs[q]? = some f ∧ (0 ≤ f.2.2 ∧ f.2.2 ≤ 18446744073709551615)) := Lib.hid fun q hq => ⟨fs[q]'(by omega), List.getElem?_eq_getElem (by omega), (hI _ (List.getElem_mem _)).2.2⟩
  have HC := Lib.hid hcl
  obtain ⟨h1, h2, h3⟩ := hcl I _ hfI
  simp only at h1 h2 h3
  have g1 : (0 : Int) ≤ (I : Int) ∧ (I : Int) < (n : Int) := by omega
  have g2 : ¬ (n : Int) ≤ (I : Int) := by omega
  have g3 : ¬ (I : Int) < (j : Int) := by omega
  have g4 : ¬ (j : Int) < 0 := by omega
  have k1 : decide ((I : Int) < 0) = false := decide_eq_false (by omega)
  have k2 : decide ((j : Int) < 0) = false := decide_eq_false (by omega)
  have k3 : decide ((I : Int) < (j : Int)) = false := decide_eq_false (by omega)
  have k6 : decide (I < j) = false := decide_eq_false (by omega)
  have k4 : decide ((n : Int) ≤ (I : Int)) = false := decide_eq_false (by omega)
  have k5 : decide ((60 : Int) < (n : Int)) = false := decide_eq_false n2
  have g0 : (irk == 0) = false := by simpa using h0
  have HJ := Lib.hid hjb
  have q2 := adr_guard J V J V
  have q1 := adr_eq J V
  clear hcl hI hf hfI hjb hJ
  go_enter Tryd.func10, Tryd.ntmps10
  go_wp2_with fail
  refine (H1.out _ hT).mono ?_
  rintro e w1 ⟨rfl, b1⟩
  have T1 := hT.below b1
  have A1 := triples_below hA0 b1
  have G := Adr.box_new w1 J V
  have B1 := b1.alloc b1.size (.cells #[.int .i64 J, .int .u64 V] 26)
  have T2 := T1.alloc (.cells #[.int .i64 J, .int .u64 V] 26)
  have A2 := triples_below A1 ((Below.refl w1.heap.size w1).alloc (Nat.le_refl _) (.cells #[.int .i64 J, .int .u64 V] 26))
  have hB : Below w.heap.size w (w1.alloc (.cells #[.int .i64 J, .int .u64 V] 26)) := B1
  clear h1 h2 h3 T1 A1 b1 hA0
  go_wp2_with fail
  generalize w1.alloc (.cells #[.int .i64 J, .int .u64 V] 26) = W1 at *
  generalize w1.heap.size = g at *
  refine (H2.out _ A2 T2).mono ?_
  rintro e w2 ⟨rfl, b2⟩
  have G2 := G.below b2
  have B2 := thenB B1 b2
  have T3 := T2.below b2
  have glt := G2.lt
  clear G B1 T2 A2 hB b2
  go_wp2_with fail
  go_loopw [11] (fun s11 wr => ∃ q : Nat, q ≤ j ∧ s11 = .int .i64 q ∧ Below w2.heap.size w2 wr) (fun s11 _ => j - (intOf s11).toNat)
  case atStart => exact ⟨0, by omega, rfl, Below.refl _ _⟩
  case round =>
    obtain ⟨q, hq, rfl, hbel⟩ := hrel
    have B3 := thenB B2 hbel
    have G3 := G2.below hbel
    have d0 := G3.c0
    have d1 := G3.c1
    have T4 := T3.below hbel
    by_cases cq : q < j
    · obtain ⟨f, hfq, hfb⟩ := HN.out q (by omega)
      have hno := hjn.out q cq
      rw [HB.out q f hfq] at hno
      obtain ⟨e0, e1, e2⟩ := HC.out q f hfq
      obtain ⟨k', b', ik'⟩ := f
      simp only at e0 e1 e2 hno hfb
      have hr : rsvZ ik' 3 V = false := by simpa using (Bool.or_eq_false_iff.1 hno).2
      have hne := (Bool.or_eq_false_iff.1 hno).1
      have HQ : Hid (∀ w, Adr.Tab w → Calls Tryd.prog 24 #[.int .u64 ik', .agg #[.int .i64 J, .int .u64 V]] w fun e w' => e = .returned (.bool false) ∧ Below w.heap.size w w') := Lib.hid fun w hT => HR.out w ik' false hfb hr hT
      have f0 := (B3.cell (p := ⟨ad, off + q * 3, none⟩) hal).trans e0
      have f1 := (B3.cell (p := ⟨ad, off + q * 3 + 1, none⟩) hal).trans e1
      have f2 := (B3.cell (p := ⟨ad, off + q * 3 + 2, none⟩) hal).trans e2
      have gq : (0 : Int) ≤ (q : Int) ∧ (q : Int) < (n : Int) := by omega
      have gj : (q : Int) < (j : Int) := by omega
      have s0 : wr.drew.cell? ⟨ad, off + q * 3, none⟩ = some (.int .i64 k') ∧ wr.drew.cell? ⟨ad, off + q * 3 + 1, none⟩ = some (.int .u64 b') ∧ wr.drew.cell? ⟨ad, off + q * 3 + 2, none⟩ = some (.int .u64 ik') ∧ wr.drew.cell? ⟨g, 0, none⟩ = some (.int .i64 J) ∧ wr.drew.cell? ⟨g, 1, none⟩ = some (.int .u64 V) := ⟨f0, f1, f2, d0, d1⟩
      have T5 : Adr.Tab wr.drew := T4
      have B5 : Below w.heap.size w wr.drew := B3.drew
      have B6 : Below w2.heap.size w2 wr.drew := hbel.drew
      have q3 := adr_guard k' b' J V
      clear hno hr hfq HN HB HC e0 e1 e2 f0 f1 f2 hfb q1 q2 HJ hjn H1 H2 HR
      have hcase : ((k' == J) = false) ∨ ((k' == J) = true ∧ (b' == V) = false) := by
        cases h : (k' == J) with
        | false => exact .inl rfl
        | true => rw [h] at hne; exact .inr ⟨rfl, by simpa using hne⟩
      clear hne
      rcases hcase with x1 | ⟨x1, x2⟩
      · go_wp2_with fail
        go_region_held3 (fun w' => w'.cell? ⟨ad, off + q * 3, none⟩ = some (.int .i64 k') ∧ w'.cell? ⟨ad, off + q * 3 + 1, none⟩ = some (.int .u64 b') ∧ w'.cell? ⟨ad, off + q * 3 + 2, none⟩ = some (.int .u64 ik') ∧ w'.cell? ⟨g, 0, none⟩ = some (.int .i64 J) ∧ w'.cell? ⟨g, 1, none⟩ = some (.int .u64 V)) (first | exact s0 | exact s1) (first
          | (go_at_call 24; refine (HQ.out _ T5).mono ?_; rintro e w3 ⟨rfl, b3⟩; have s1 := five_below s0 b3; have B7 := thenB B6 b3))
        all_goals go_wp2_with fail
        all_goals
          go_roundw
          case rel => exact ⟨q + 1, by omega, by go_num, B7⟩
          case measure => simp [intOf]; omega
      · go_wp2_with fail
        go_region_held3 (fun w' => w'.cell? ⟨ad, off + q * 3, none⟩ = some (.int .i64 k') ∧ w'.cell? ⟨ad, off + q * 3 + 1, none⟩ = some (.int .u64 b') ∧ w'.cell? ⟨ad, off + q * 3 + 2, none⟩ = some (.int .u64 ik') ∧ w'.cell? ⟨g, 0, none⟩ = some (.int .i64 J) ∧ w'.cell? ⟨g, 1, none⟩ = some (.int .u64 V)) (first | exact s0 | exact s1) (first
          | (go_at_call 24; refine (HQ.out _ T5).mono ?_; rintro e w3 ⟨rfl, b3⟩; have s1 := five_below s0 b3; have B7 := thenB B6 b3))
        all_goals go_wp2_with fail
        all_goals
          go_roundw
          case rel => exact ⟨q + 1, by omega, by go_num, B7⟩
          case measure => simp [intOf]; omega
    · obtain rfl : q = j := by omega
      obtain ⟨f, hfq, hfb⟩ := HN.out q (by omega)
      have hyes := HJ.out
      rw [HB.out q f hfq] at hyes
      obtain ⟨e0, e1, e2⟩ := HC.out q f hfq
      obtain ⟨k', b', ik'⟩ := f
      simp only at e0 e1 e2 hyes hfb
      have f0 := (B3.cell (p := ⟨ad, off + q * 3, none⟩) hal).trans e0
      have f1 := (B3.cell (p := ⟨ad, off + q * 3 + 1, none⟩) hal).trans e1
      have f2 := (B3.cell (p := ⟨ad, off + q * 3 + 2, none⟩) hal).trans e2
      have gq : (0 : Int) ≤ (q : Int) ∧ (q : Int) < (n : Int) := by omega
      have s0 : wr.drew.cell? ⟨ad, off + q * 3, none⟩ = some (.int .i64 k') ∧ wr.drew.cell? ⟨ad, off + q * 3 + 1, none⟩ = some (.int .u64 b') ∧ wr.drew.cell? ⟨ad, off + q * 3 + 2, none⟩ = some (.int .u64 ik') ∧ wr.drew.cell? ⟨g, 0, none⟩ = some (.int .i64 J) ∧ wr.drew.cell? ⟨g, 1, none⟩ = some (.int .u64 V) := ⟨f0, f1, f2, d0, d1⟩
      have T5 : Adr.Tab wr.drew := T4
      have B5 : Below w.heap.size w wr.drew := B3.drew
      have q3 := adr_guard k' b' J V
      have HQ : Hid (rsvZ ik' 3 V = true → ∀ w, Adr.Tab w → Calls Tryd.prog 24 #[.int .u64 ik', .agg #[.int .i64 J, .int .u64 V]] w fun e w' => e = .returned (.bool true) ∧ Below w.heap.size w w') := Lib.hid fun hr w hT => HR.out w ik' true hfb hr hT
      clear hfq HN HB HC e0 e1 e2 f0 f1 f2 hfb HJ hjn H1 H2 HR
      by_cases hx : k' = J ∧ b' = V
      · obtain ⟨rfl, rfl⟩ := hx
        go_wp2_with fail
        generalize hh : k' = J at *
        generalize hh2 : b' = V at *
        clear hh hh2
        refine wp_region_held_drew (S := (fun w' => w'.cell? ⟨ad, off + q * 3, none⟩ = some (.int .i64 J) ∧ w'.cell? ⟨ad, off + q * 3 + 1, none⟩ = some (.int .u64 V) ∧ w'.cell? ⟨ad, off + q * 3 + 2, none⟩ = some (.int .u64 ik') ∧ w'.cell? ⟨g, 0, none⟩ = some (.int .i64 J) ∧ w'.cell? ⟨g, 1, none⟩ = some (.int .u64 V))) (by kernel_rfl) ?_ (fun hHeld => ?_)
        · exact s0
        refine wpAnyH_ready (rs := [0]) (by kernel_rfl) (by simp) ?_
        refine AllReadyH.cons rfl (fun K hK => ?_) AllReadyH.nil
        go_simp
        refine (lives_any _ T5).mono ?_
        rintro e v1 ⟨rfl, c1⟩
        have s1 := five_below s0 c1
        have B6 := thenB B5 c1
        refine hK.out _ _ ?_ (fun hHeld => ?_)
        · exact s1
        clear hK K
        try simp only [List.getElem_toArray, List.getElem_cons_zero, List.getElem_cons_succ, Act.put, List.setIfInBounds_toArray, List.set_cons_zero, List.set_cons_succ]
        refine wpAnyH_take (i := 1) (v := .bool true) rfl (by kernel_rfl) (by kernel_rfl) (by kernel_rfl) (fun _ _ _ h => h) (Or.inl ⟨by first | rfl | go_simp, by intro w9 hSw; (try dsimp only at hSw); go_simp⟩) (by assumption) ?_
        simp only [List.getElem_toArray, List.getElem_cons_zero, List.getElem_cons_succ, Act.put, List.setIfInBounds_toArray, List.set_cons_zero, List.set_cons_succ]
        refine wpAnyH_take (i := 2) (v := .slice (some ⟨ad, off, none⟩) n c) rfl (by kernel_rfl) (by kernel_rfl) (by kernel_rfl) (fun _ _ _ h => h) (Or.inl ⟨by first | rfl | go_simp, by intro w9 hSw; (try dsimp only at hSw); go_simp⟩) (by assumption) ?_
        simp only [List.getElem_toArray, List.getElem_cons_zero, List.getElem_cons_succ, Act.put, List.setIfInBounds_toArray, List.set_cons_zero, List.set_cons_succ]
        refine wpAnyH_take (i := 3) (v := .int .i64 q) rfl (by kernel_rfl) (by kernel_rfl) (by kernel_rfl) (fun _ _ _ h => h) (Or.inl ⟨by first | rfl | go_simp, by intro w9 hSw; (try dsimp only at hSw); go_simp⟩) (by assumption) ?_
        simp only [List.getElem_toArray, List.getElem_cons_zero, List.getElem_cons_succ, Act.put, List.setIfInBounds_toArray, List.set_cons_zero, List.set_cons_succ]
        refine wpAnyH_take (i := 4) (v := .pointer (some ⟨ad, off + q * 3, none⟩)) rfl (by kernel_rfl) (by kernel_rfl) (by kernel_rfl) (fun _ _ _ h => h) (Or.inl ⟨by first | rfl | go_simp, by intro w9 hSw; (try dsimp only at hSw); go_simp⟩) (by assumption) ?_
        simp only [List.getElem_toArray, List.getElem_cons_zero, List.getElem_cons_succ, Act.put, List.setIfInBounds_toArray, List.set_cons_zero, List.set_cons_succ]
        refine wpAnyH_take (i := 5) (v := .pointer (some ⟨ad, off + q * 3, none⟩)) rfl (by kernel_rfl) (by kernel_rfl) (by kernel_rfl) (fun _ _ _ h => h) (Or.inl ⟨by first | rfl | go_simp, by intro w9 hSw; (try dsimp only at hSw); go_simp⟩) (by assumption) ?_
        simp only [List.getElem_toArray, List.getElem_cons_zero, List.getElem_cons_succ, Act.put, List.setIfInBounds_toArray, List.set_cons_zero, List.set_cons_succ]
        refine wpAnyH_take (i := 6) (v := .agg #[.int .i64 J, .int .u64 V]) rfl (by kernel_rfl) (by kernel_rfl) (by kernel_rfl) (fun _ _ _ h => h) (Or.inl ⟨by first | rfl | go_simp, by intro w9 hSw; (try dsimp only at hSw); go_simp⟩) (by assumption) ?_
        simp only [List.getElem_toArray, List.getElem_cons_zero, List.getElem_cons_succ, Act.put, List.setIfInBounds_toArray, List.set_cons_zero, List.set_cons_succ]
        refine wpAnyH_take (i := 7) (v := .agg #[.int .i64 J, .int .u64 V]) rfl (by kernel_rfl) (by kernel_rfl) (by kernel_rfl) (fun _ _ _ h => h) (Or.inl ⟨by first | rfl | go_simp, by intro w9 hSw; (try dsimp only at hSw); go_simp⟩) (by assumption) ?_
        simp only [List.getElem_toArray, List.getElem_cons_zero, List.getElem_cons_succ, Act.put, List.setIfInBounds_toArray, List.set_cons_zero, List.set_cons_succ]
        refine wpAnyH_take (i := 8) (v := .bool true) rfl (by kernel_rfl) (by kernel_rfl) (by kernel_rfl) (fun _ _ _ h => h) (Or.inl ⟨by first | rfl | go_simp, by intro w9 hSw; (try dsimp only at hSw); go_simp⟩) (by assumption) ?_
        simp only [List.getElem_toArray, List.getElem_cons_zero, List.getElem_cons_succ, Act.put, List.setIfInBounds_toArray, List.set_cons_zero, List.set_cons_succ]
        refine wpAnyH_take (i := 9) (v := .bool true) rfl (by kernel_rfl) (by kernel_rfl) (by kernel_rfl) (fun _ _ _ h => h) (Or.inl ⟨by first | rfl | go_simp, by intro w9 hSw; (try dsimp only at hSw); go_simp⟩) (by assumption) ?_
        simp only [List.getElem_toArray, List.getElem_cons_zero, List.getElem_cons_succ, Act.put, List.setIfInBounds_toArray, List.set_cons_zero, List.set_cons_succ]
        refine wpAnyH_take (i := 10) (v := undef) rfl (by kernel_rfl) (by kernel_rfl) (by kernel_rfl) (fun _ _ _ h => h) (Or.inr ⟨by first | rfl | go_simp, rfl⟩) (by assumption) ?_
        simp only [List.getElem_toArray, List.getElem_cons_zero, List.getElem_cons_succ, Act.put, List.setIfInBounds_toArray, List.set_cons_zero, List.set_cons_succ]
        refine wpAnyH_take (i := 11) (v := undef) rfl (by kernel_rfl) (by kernel_rfl) (by kernel_rfl) (fun _ _ _ h => h) (Or.inr ⟨by first | rfl | go_simp, rfl⟩) (by assumption) ?_
        simp only [List.getElem_toArray, List.getElem_cons_zero, List.getElem_cons_succ, Act.put, List.setIfInBounds_toArray, List.set_cons_zero, List.set_cons_succ]
        refine wpAnyH_take (i := 12) (v := undef) rfl (by kernel_rfl) (by kernel_rfl) (by kernel_rfl) (fun _ _ _ h => h) (Or.inr ⟨by first | rfl | go_simp, rfl⟩) (by assumption) ?_
        simp only [List.getElem_toArray, List.getElem_cons_zero, List.getElem_cons_succ, Act.put, List.setIfInBounds_toArray, List.set_cons_zero, List.set_cons_succ]
        refine wpAnyH_take (i := 13) (v := undef) rfl (by kernel_rfl) (by kernel_rfl) (by kernel_rfl) (fun _ _ _ h => h) (Or.inr ⟨by first | rfl | go_simp, rfl⟩) (by assumption) ?_
        simp only [List.getElem_toArray, List.getElem_cons_zero, List.getElem_cons_succ, Act.put, List.setIfInBounds_toArray, List.set_cons_zero, List.set_cons_succ]
        refine wpAnyH_take (i := 14) (v := undef) rfl (by kernel_rfl) (by kernel_rfl) (by kernel_rfl) (fun _ _ _ h => h) (Or.inr ⟨by first | rfl | go_simp, rfl⟩) (by assumption) ?_
        simp only [List.getElem_toArray, List.getElem_cons_zero, List.getElem_cons_succ, Act.put, List.setIfInBounds_toArray, List.set_cons_zero, List.set_cons_succ]
        refine wpAnyH_take (i := 15) (v := undef) rfl (by kernel_rfl) (by kernel_rfl) (by kernel_rfl) (fun _ _ _ h => h) (Or.inr ⟨by first | rfl | go_simp, rfl⟩) (by assumption) ?_
        simp only [List.getElem_toArray, List.getElem_cons_zero, List.getElem_cons_succ, Act.put, List.setIfInBounds_toArray, List.set_cons_zero, List.set_cons_succ]
        refine wpAnyH_take (i := 16) (v := undef) rfl (by kernel_rfl) (by kernel_rfl) (by kernel_rfl) (fun _ _ _ h => h) (Or.inr ⟨by first | rfl | go_simp, rfl⟩) (by assumption) ?_
        simp only [List.getElem_toArray, List.getElem_cons_zero, List.getElem_cons_succ, Act.put, List.setIfInBounds_toArray, List.set_cons_zero, List.set_cons_succ]
        refine wpAnyH_take (i := 17) (v := .bool true) rfl (by kernel_rfl) (by kernel_rfl) (by kernel_rfl) (fun _ _ _ h => h) (Or.inl ⟨by first | rfl | go_simp, by intro w9 hSw; (try dsimp only at hSw); go_simp⟩) (by assumption) ?_
        simp only [List.getElem_toArray, List.getElem_cons_zero, List.getElem_cons_succ, Act.put, List.setIfInBounds_toArray, List.set_cons_zero, List.set_cons_succ]
        refine wpAnyH_take (i := 18) (v := .bool true) rfl (by kernel_rfl) (by kernel_rfl) (by kernel_rfl) (fun _ _ _ h => h) (Or.inl ⟨by first | rfl | go_simp, by intro w9 hSw; (try dsimp only at hSw); go_simp⟩) (by assumption) ?_
        simp only [List.getElem_toArray, List.getElem_cons_zero, List.getElem_cons_succ, Act.put, List.setIfInBounds_toArray, List.set_cons_zero, List.set_cons_succ]
        refine wpAnyH_take (i := 19) (v := .bool true) rfl (by kernel_rfl) (by kernel_rfl) (by kernel_rfl) (fun _ _ _ h => h) (Or.inl ⟨by first | rfl | go_simp, by intro w9 hSw; (try dsimp only at hSw); go_simp⟩) (by assumption) ?_
        simp only [List.getElem_toArray, List.getElem_cons_zero, List.getElem_cons_succ, Act.put, List.setIfInBounds_toArray, List.set_cons_zero, List.set_cons_succ]
        refine wpAnyH_done (by kernel_rfl) ?_ _
        go_wp2_with fail
        go_ret
        exact ⟨rfl, B6⟩
      · have hr : rsvZ ik' 3 V = true := by
          cases h : rsvZ ik' 3 V with
          | true => rfl
          | false => rw [h] at hyes; simp at hyes; exact absurd hyes hx
        have HQ2 := Lib.hid (HQ.out hr)
        have hcase : ((k' == J) = false) ∨ ((k' == J) = true ∧ (b' == V) = false) := by
          cases h : (k' == J) with
          | false => exact .inl rfl
          | true =>
            cases h' : (b' == V) with
            | false => exact .inr ⟨rfl, rfl⟩
            | true => exact absurd ⟨by simpa using h, by simpa using h'⟩ hx
        clear hx hyes hr HQ
        rcases hcase with x1 | ⟨x1, x2⟩
        · go_wp2_with fail
          go_region_held3 (fun w' => w'.cell? ⟨ad, off + q * 3, none⟩ = some (.int .i64 k') ∧ w'.cell? ⟨ad, off + q * 3 + 1, none⟩ = some (.int .u64 b') ∧ w'.cell? ⟨ad, off + q * 3 + 2, none⟩ = some (.int .u64 ik') ∧ w'.cell? ⟨g, 0, none⟩ = some (.int .i64 J) ∧ w'.cell? ⟨g, 1, none⟩ = some (.int .u64 V)) (first | exact s0 | exact s1 | exact s2) (first
            | (go_at_call 23; refine (lives_any _ T5).mono ?_; rintro e v1 ⟨rfl, c1⟩; have s1 := five_below s0 c1; have T6 := T5.below c1; have B6 := thenB B5 c1)
            | (go_at_call 24; refine (HQ2.out _ T6).mono ?_; rintro e v2 ⟨rfl, c2⟩; have s2 := five_below s1 c2; have B7 := thenB B6 c2))
          all_goals go_wp2_with fail
          all_goals go_ret
          all_goals exact ⟨rfl, B7⟩
        · go_wp2_with fail
          go_region_held3 (fun w' => w'.cell? ⟨ad, off + q * 3, none⟩ = some (.int .i64 k') ∧ w'.cell? ⟨ad, off + q * 3 + 1, none⟩ = some (.int .u64 b') ∧ w'.cell? ⟨ad, off + q * 3 + 2, none⟩ = some (.int .u64 ik') ∧ w'.cell? ⟨g, 0, none⟩ = some (.int .i64 J) ∧ w'.cell? ⟨g, 1, none⟩ = some (.int .u64 V)) (first | exact s0 | exact s1 | exact s2) (first
            | (go_at_call 23; refine (lives_any _ T5).mono ?_; rintro e v1 ⟨rfl, c1⟩; have s1 := five_below s0 c1; have T6 := T5.below c1; have B6 := thenB B5 c1)
            | (go_at_call 24; refine (HQ2.out _ T6).mono ?_; rintro e v2 ⟨rfl, c2⟩; have s2 := five_below s1 c2; have B7 := thenB B6 c2))
          all_goals go_wp2_with fail
          all_goals go_ret
          all_goals exact ⟨rfl, B7⟩
theorem law_finds (A : Option Addr) (n c : Nat) (fs : List (Int × Int × Int)) (i l p : Int) (w : World) (hf : fs.length = n) (hnc : n ≤ c) (hA : TriplesAt w A fs) (hI : Idents fs) (hs : c * 24 ≤ 140737488351232)
    (hi : -9223372036854775808 ≤ i ∧ i ≤ 9223372036854775807) (hl : -9223372036854775808 ≤ l ∧ l ≤ 9223372036854775807) (hp : -9223372036854775808 ≤ p ∧ p ≤ 9223372036854775807) (hT : Adr.Tab w) :
    Calls Tryd.prog 10 #[.slice A n c, .int .i64 i, .int .i64 l, .int .i64 p] w fun e w' => e = .returned (.bool true) ∧ Below w.heap.size w w' := by
  by_cases n0 : i < 0
  · exact finds_out0 A n c i l p w n0 hT
  by_cases n1 : (n : Int) ≤ i
  · exact finds_out1 A n c i l p w n0 n1 hT
  by_cases n2 : (60 : Int) < (n : Int)
  · exact finds_out2 A n c i l p w n0 n1 n2 hT
  obtain ⟨I, rfl⟩ := Int.eq_ofNat_of_zero_le (show 0 ≤ i by omega)
  have hIn : I < n := by omega
  have hfI : fs[I]? = some (fs[I]'(by omega)) := List.getElem?_eq_getElem (by omega)
  have hmem : fs[I]'(by omega) ∈ fs := List.getElem_mem _
  generalize fs[I]'(by omega) = f at *
  obtain ⟨k, b, irk⟩ := f
  rcases hA with h | ⟨ad, off, rfl, hal, hcl⟩
  · rw [h] at hfI; simp at hfI
  have hr := hI _ hmem
  obtain ⟨hr1, hr2, hr3⟩ := hr
  simp only at hr1 hr2 hr3
  by_cases h0 : irk = 0
  · have h2 := (hcl I _ hfI).2.2
    simp only at h2
    rw [h0] at h2
    exact finds_out3 ad off n c I l p w hIn hnc n2 h2 hT
  · have bp := prZ_bd irk (epZ l p)
    have hV : mkV irk (prZ irk (epZ l p)) = rpaZ irk (prZ irk (epZ l p)) := by unfold mkV; rw [if_neg h0, if_neg (by omega)]
    have hK : mkK irk (prZ irk (epZ l p)) = 3 := by unfold mkK; rw [if_neg h0, if_neg (by omega)]
    have bV := rpa_bd irk (prZ irk (epZ l p)) bp
    have hc := rpa_chk irk (prZ irk (epZ l p)) bp
    have hrs := rpa_rsv irk (prZ irk (epZ l p)) h0 bp
    have H1 : Hid (∀ w, Adr.Tab w → Calls Tryd.prog 32 #[.agg #[.int .i64 k, .int .u64 b, .int .u64 irk], .bool true, .int .i64 l, .int .i64 p] w fun e w' => e = .returned (.agg #[.int .i64 3, .int .u64 (rpaZ irk (prZ irk (epZ l p)))]) ∧ Below w.heap.size w w') := Lib.hid fun w hT => by
      have := cur_good k b irk l p w h0 hr1 hr2 hr3 hl hp hT
      rwa [hK, hV] at this
    clear hV hK
    generalize rpaZ irk (prZ irk (epZ l p)) = V at *
    have hb : belP 3 V fs I = true := by
      unfold belP belB
      have : fs.getD I (0, 0, 0) = (k, b, irk) := by simp [List.getD, hfI]
      rw [this]; simp [hrs]
    have hfi : findZ 3 V fs = fstZ (belP 3 V fs) n := by unfold findZ; rw [if_pos hc, hf]
    rcases fst_cases (belP 3 V fs) n with ⟨e, hno⟩ | ⟨j, hj, e, hy, hno⟩
    · have := hno I hIn
      rw [hb] at this; cases this
    · have hji : j ≤ I := by
        rcases Nat.lt_or_ge I j with hlt | hge
        · have := hno I hlt
          rw [hb] at this; cases this
        · exact hge
      have H2 : Hid (∀ w, TriplesAt w (some ⟨ad, off, none⟩) fs → Adr.Tab w → Calls Tryd.prog 26 #[.slice (some ⟨ad, off, none⟩) n c, .agg #[.int .i64 3, .int .u64 V]] w fun e w' => e = .returned (.int .i64 j) ∧ Below w.heap.size w w') := Lib.hid fun w hA hT => by
        have := find_any 3 V (some ⟨ad, off, none⟩) n c fs w hf hnc (by omega) hA hI (by decide) bV hT
        rwa [hfi, e] at this
      exact finds_good ad off n c I fs k b irk V j l p w hf hnc hal hI hIn n2 hcl hfI h0 bV hji hy (Lib.hid hno) 3 rfl H1 H2 hT
end Go.Proofs.YtkbjfmfkpdlogaaDoor.Prv
