/- What the functions of the layer of assessment return on tallies, and those of the document: contracts over the program. -/
import Derived.Test.YtngkpnkjapdnaaaAsWalks2
set_option linter.unusedVariables false
set_option linter.unusedSimpArgs false
namespace Go.Proofs.Ytngkpnkjapdnaaa.As
open Go.RowKit Mem Chm Base

theorem info_tally : (Try.prog.info? 30).map (fun i => (i.zero, i.size, i.bytes)) = some (some (.agg #[.int .i64 0, .int .i64 0]), 2, 16) := by kernel_rfl
/-- What a call makes of tallies: a row of its own. -/
def MakesP (w w' : World) (e : Ending) (fs : List (Int × Int)) : Prop :=
  ∃ A c, e = .returned (.slice A fs.length c) ∧ w'.ownsRow w.heap.size 30 2 (.slice A fs.length c) fs.length (flat fs) ∧ Below w.heap.size w w'
theorem makesP_of {w w' : World} {e : Ending} {v : Value} {n : Nat} {fs : List (Int × Int)} (he : e = .returned v) (hn : fs.length = n) (h : w'.ownsRow w.heap.size 30 2 v n (flat fs)) (hb : Below w.heap.size w w') : MakesP w w' e fs := by
  obtain ⟨A, c, hv⟩ := own_form h
  subst hn
  exact ⟨A, c, by rw [he, hv], by rw [← hv]; exact h, hb⟩
theorem own_cap2 {w : World} {base n c : Nat} {A : Option Addr} {e : TypeId} {xs : List Value} (h : w.ownsRow base e 2 (.slice A n c) n xs) : n ≤ c := by
  rcases h.2 with ⟨hv, hn⟩ | ⟨g, cap, cur, hv, hbg, hg, hnc, hcm, hcs, htake⟩
  · injection hv with hA hn' hc; omega
  · injection hv with hA hn' hc; omega
theorem MakesP.read {w w' : World} {e : Ending} {fs : List (Int × Int)} (h : MakesP w w' e fs) {n : Nat} (hn : fs.length = n) : ∃ A c, e = .returned (.slice A n c) ∧ n ≤ c ∧ PairsAt w' w'.heap.size A fs ∧ Below w.heap.size w w' := by
  subst hn
  obtain ⟨A, c, he, ho, hb⟩ := h
  exact ⟨A, c, he, own_cap2 ho, (PairsAt.own ho).1, hb⟩
theorem flat_made (n : Nat) : (madeCells #[.int .i64 0, .int .i64 0] (n * 2)).toList = flat (List.replicate n (0, 0)) := by
  apply List.ext_getElem?
  intro j
  by_cases hj : j < n * 2
  · have hq : j / 2 < n := by omega
    have hf : (List.replicate n ((0 : Int), (0 : Int)))[j / 2]? = some (0, 0) := by rw [List.getElem?_replicate, if_pos hq]
    have hg := flat_get _ _ _ hf
    have hl : (madeCells #[Value.int .i64 0, Value.int .i64 0] (n * 2)).toList[j]? = some (.int .i64 0) := by
      rcases Nat.mod_two_eq_zero_or_one j with h | h
      · simp [madeCells, hj, h]
      · simp [madeCells, hj, h]
    rw [hl]
    rcases Nat.mod_two_eq_zero_or_one j with h | h
    · rw [show j = j / 2 * 2 by omega, hg.1]
    · rw [show j = j / 2 * 2 + 1 by omega, hg.2]
  · rw [List.getElem?_eq_none (by simp [madeCells]; omega), List.getElem?_eq_none (by rw [flat_len]; simp; omega)]
theorem fresh_any (w : World) : Calls Try.prog 11 #[] w fun e w' => MakesP w w' e (List.replicate 37 (0, 0)) := by
  obtain ⟨i0, hi, hz0, hz1, hz2⟩ := info_parts info_tally
  go_enter Try.func11, Try.ntmps11
  go_wp2_with (at_make; refine wpList_make_full _ rfl _ _ 22 rfl w.heap.size 30 i0 _ 2 Try.underlying22 hi hz0 hz1 _ _ _ _ 37 rfl rfl (by omega) (by omega) ?c1 ?c2 ?c3 ?_; (case c1 => rw [hz2]; omega); (case c2 => unfold maxLen; omega); (case c3 => omega); intro w1 hown1 hg1)
  have hown2 : w1.ownsRow w.heap.size 30 2 (.slice (some ⟨w.heap.size, 0, none⟩) 37 37) 37 (madeCells #[.int .i64 0, .int .i64 0] (37 * 2)).toList := hown1
  rw [flat_made] at hown2
  go_ret
  exact makesP_of rfl (by simp) hown2 ((Below.refl _ w).grown hg1 (Nat.le_refl _) (fun g hg => by cases hg))
theorem rfresh_any (w : World) : Calls Try.prog 12 #[] w fun e w' => MakesP w w' e (List.replicate 37 (0, 0)) := by
  obtain ⟨i0, hi, hz0, hz1, hz2⟩ := info_parts info_tally
  go_enter Try.func12, Try.ntmps12
  go_wp2_with (at_make; refine wpList_make_full _ rfl _ _ 22 rfl w.heap.size 30 i0 _ 2 Try.underlying22 hi hz0 hz1 _ _ _ _ 37 rfl rfl (by omega) (by omega) ?c1 ?c2 ?c3 ?_; (case c1 => rw [hz2]; omega); (case c2 => unfold maxLen; omega); (case c3 => omega); intro w1 hown1 hg1)
  have hown2 : w1.ownsRow w.heap.size 30 2 (.slice (some ⟨w.heap.size, 0, none⟩) 37 37) 37 (madeCells #[.int .i64 0, .int .i64 0] (37 * 2)).toList := hown1
  rw [flat_made] at hown2
  go_ret
  exact makesP_of rfl (by simp) hown2 ((Below.refl _ w).grown hg1 (Nat.le_refl _) (fun g hg => by cases hg))
theorem copied_any (A : Option Addr) (n c : Nat) (fs : List (Int × Int)) (w : World) (hl : fs.length = n) (hr : PairsAt w w.heap.size A fs) (hn : n ≤ 8796093022208) :
    Calls Try.prog 14 #[.slice A n c] w fun e w' => MakesP w w' e fs := by
  obtain ⟨i0, hi, hz0, hz1, hz2⟩ := info_parts info_tally
  go_enter Try.func14, Try.ntmps14
  go_wp2_with (at_builtin; refine wpList_append_pairs rfl _ _ 22 rfl w.heap.size 30 i0 _ 16 Try.underlying22 hi hz0 hz1 hz2 rfl (.slice (some ⟨w.heap.size, 0, none⟩) 0 0) 0 [] rfl (World.ownsRow_made _ _ 0 (Nat.le_refl _) (by unfold maxLen; omega) rfl) w.heap.size A n c fs rfl hl ?c1 ?c2 ?c3 ?c4 ?_; (case c1 => exact hr.alloc (Nat.le_refl _) _); (case c2 => unfold maxLen; omega); (case c3 => omega); (case c4 => simp); intro v' w1 hown1 hb1 _)
  go_ret
  exact makesP_of rfl hl (by simpa using hown1) (((Below.refl _ _).alloc (Nat.le_refl _) _).trans hb1)
set_option maxHeartbeats 1000000 in
theorem record_any (A : Option Addr) (n c : Nat) (fs : List (Int × Int)) (ch : Int) (ok : Bool) (w : World) (hl : fs.length = n) (hr : PairsAt w w.heap.size A fs) (hn : n ≤ 8796093022208)
    (hb : ∀ f ∈ fs, (-9223372036854775808 ≤ f.1 ∧ f.1 ≤ 9223372036854775807) ∧ (-9223372036854775808 ≤ f.2 ∧ f.2 ≤ 9223372036854775807)) :
    Calls Try.prog 13 #[.slice A n c, .int .i64 ch, .bool ok] w fun e w' => MakesP w w' e (recL fs ch ok) := by
  obtain ⟨i0, hi, hz0, hz1, hz2⟩ := info_parts info_tally
  have HMk : Hid (∀ w1 : World, w1.ownsRow w.heap.size 30 2 (.slice (some ⟨w.heap.size, 0, none⟩) n n) n (madeCells (Value.agg #[.int .i64 0, .int .i64 0]).cells (n * 2)).toList → w.grownBy w1 none →
      ∃ w2, (Builtin.copy_ #[22, 22] 3 #[.slice (some ⟨w.heap.size, 0, none⟩) n n, .slice A n c]).run Try.prog w1 = .ok (goInt n) w2 ∧ w2.ownsRow w.heap.size 30 2 (.slice (some ⟨w.heap.size, 0, none⟩) n n) n (flat fs) ∧ Below w.heap.size w w2) := Lib.hid fun w1 ho hg => by
    have B1 : Below w.heap.size w w1 := (Below.refl _ w).grown hg (Nat.le_refl _) (fun g hg => by cases hg)
    obtain ⟨w2, h1, h2, h3⟩ := run_copy_pairs (P := Try.prog) (w := w1) w.heap.size 22 30 3 i0 Try.underlying22 hi hz1 w.heap.size n n _ ho w.heap.size A c fs hl (hr.below B1)
    exact ⟨w2, h1, h2, B1.grown h3 B1.size (fun g hg => by cases hg; exact Nat.le_refl _)⟩
  by_cases h0 : ch < 0 ∨ (n : Int) ≤ ch
  · have HE : Hid (recL fs ch ok = fs) := Lib.hid (recL_out (by rw [hl]; exact h0))
    have HLen := Lib.hid hl
    clear hl
    by_cases h1 : ch < 0
    · clear h0
      go_enter Try.func13, Try.ntmps13
      go_wp2_with (at_make; refine wpList_make_full _ rfl _ _ 22 rfl w.heap.size 30 i0 _ 2 Try.underlying22 hi hz0 hz1 _ _ _ _ n rfl rfl (by omega) (by omega) ?c1 ?c2 ?c3 ?_; (case c1 => rw [hz2]; omega); (case c2 => unfold maxLen; omega); (case c3 => omega); intro w1 hown1 hg1; obtain ⟨w2, hrun, hown2, B2⟩ := HMk.out _ hown1 hg1; clear hg1 hown1)
      go_ret
      exact makesP_of (n := n) rfl (by rw [HE.out]; exact HLen.out) (by rw [HE.out]; exact hown2) B2
    · have h2 : (n : Int) ≤ ch := by omega
      clear h0
      go_enter Try.func13, Try.ntmps13
      go_wp2_with (at_make; refine wpList_make_full _ rfl _ _ 22 rfl w.heap.size 30 i0 _ 2 Try.underlying22 hi hz0 hz1 _ _ _ _ n rfl rfl (by omega) (by omega) ?c1 ?c2 ?c3 ?_; (case c1 => rw [hz2]; omega); (case c2 => unfold maxLen; omega); (case c3 => omega); intro w1 hown1 hg1; obtain ⟨w2, hrun, hown2, B2⟩ := HMk.out _ hown1 hg1; clear hg1 hown1)
      go_ret
      exact makesP_of (n := n) rfl (by rw [HE.out]; exact HLen.out) (by rw [HE.out]; exact hown2) B2
  · obtain ⟨j, rfl⟩ := Int.eq_ofNat_of_zero_le (show 0 ≤ ch by omega)
    have hj : j < n := by omega
    clear h0
    obtain ⟨f, hf⟩ : ∃ f, fs[j]? = some f := ⟨fs[j]'(by omega), List.getElem?_eq_getElem _⟩
    have HR : Hid (recL fs (j : Int) ok = fs.set j (recT ok f)) := Lib.hid (recL_at hf)
    have HFl := Lib.hid (flat_get fs j f hf)
    have HFs := Lib.hid (flat_set fs j f hf)
    have hff := hb f (List.mem_of_getElem? hf)
    have HM1 := Lib.hid fun w => more_any f.1 w hff.1
    have HM2 := Lib.hid fun w => more_any f.2 w hff.2
    have HLen := Lib.hid hl
    have g1 : (0 : Int) ≤ (j : Int) := by omega
    have g2 : (j : Int) < (n : Int) := by omega
    have g3 : decide ((n : Int) ≤ (j : Int)) = false := by simp; omega
    have HTr : Hid (recT true f = (more f.1, f.2) ∧ recT false f = (f.1, more f.2)) := Lib.hid ⟨rfl, rfl⟩
    obtain ⟨f1, f2⟩ := f
    simp only at HFl HFs hff HM1 HM2 HTr
    generalize more f1 = m1 at *
    generalize more f2 = m2 at *
    clear hl hf hb
    cases ok
    · go_enter Try.func13, Try.ntmps13
      go_wp2_with (first
        | (at_make; refine wpList_make_full _ rfl _ _ 22 rfl w.heap.size 30 i0 _ 2 Try.underlying22 hi hz0 hz1 _ _ _ _ n rfl rfl (by omega) (by omega) ?c1 ?c2 ?c3 ?_; (case c1 => rw [hz2]; omega); (case c2 => unfold maxLen; omega); (case c3 => omega); intro w1 hown1 hg1; obtain ⟨w2, hrun, hown2, B2⟩ := HMk.out _ hown1 hg1; clear hg1 hown1; have k1 := (hown2.cellAt (j * 2 + 1) (by omega)).trans HFl.out.2; have z1 := hown2.frozenAt (j * 2 + 1))
        | (go_at_call 28; refine (HM2.out _).mono ?_; rintro e w' ⟨rfl, rfl⟩))
      have hs := hown2.stored (j * 2 + 1) (.int .i64 m2)
      rw [(HFs.out m2).2] at hs
      go_ret
      exact makesP_of (n := n) rfl (by rw [HR.out, List.length_set]; exact HLen.out) (by rw [HR.out, HTr.out.2]; exact hs.1) (B2.setCell (p := ⟨w.heap.size, j * 2 + 1, none⟩) (Nat.le_refl _) _)
    · go_enter Try.func13, Try.ntmps13
      go_wp2_with (first
        | (at_make; refine wpList_make_full _ rfl _ _ 22 rfl w.heap.size 30 i0 _ 2 Try.underlying22 hi hz0 hz1 _ _ _ _ n rfl rfl (by omega) (by omega) ?c1 ?c2 ?c3 ?_; (case c1 => rw [hz2]; omega); (case c2 => unfold maxLen; omega); (case c3 => omega); intro w1 hown1 hg1; obtain ⟨w2, hrun, hown2, B2⟩ := HMk.out _ hown1 hg1; clear hg1 hown1; have k1 := (hown2.cellAt (j * 2) (by omega)).trans HFl.out.1; have z1 := hown2.frozenAt (j * 2))
        | (go_at_call 28; refine (HM1.out _).mono ?_; rintro e w' ⟨rfl, rfl⟩))
      have hs := hown2.stored (j * 2) (.int .i64 m1)
      rw [(HFs.out m1).1] at hs
      go_ret
      exact makesP_of (n := n) rfl (by rw [HR.out, List.length_set]; exact HLen.out) (by rw [HR.out, HTr.out.1]; exact hs.1) (B2.setCell (p := ⟨w.heap.size, j * 2, none⟩) (Nat.le_refl _) _)
theorem set_same {fs : List (Int × Int)} {j : Nat} {f : Int × Int} (h : fs[j]? = some f) : fs.set j f = fs := by
  apply List.ext_getElem?
  intro i
  rw [List.getElem?_set]
  by_cases e : j = i
  · subst e
    rw [if_pos rfl, h, if_pos (List.getElem?_eq_some_iff.1 h).1]
  · rw [if_neg e]
theorem more_hi {n : Int} (h : 65536 ≤ n) : more n = n := by unfold more; rw [if_pos h]
theorem more_lo {n : Int} (h : ¬ 65536 ≤ n) : more n = n + 1 := by unfold more; rw [if_neg h]
set_option maxHeartbeats 1000000 in
theorem rrecord_any (A : Option Addr) (n c : Nat) (fs : List (Int × Int)) (ch : Int) (ok : Bool) (w : World) (hl : fs.length = n) (hr : PairsAt w w.heap.size A fs) (hn : n ≤ 8796093022208)
    (hb : ∀ f ∈ fs, (-9223372036854775808 ≤ f.1 ∧ f.1 ≤ 9223372036854775807) ∧ (-9223372036854775808 ≤ f.2 ∧ f.2 ≤ 9223372036854775807)) :
    Calls Try.prog 15 #[.slice A n c, .int .i64 ch, .bool ok] w fun e w' => MakesP w w' e (recL fs ch ok) := by
  obtain ⟨i0, hi, hz0, hz1, hz2⟩ := info_parts info_tally
  have HAp : Hid (∀ (v' : Value) (w1 : World), w1.ownsRow w.heap.size 30 2 v' (0 + n) ([] ++ flat fs) → Below w.heap.size (w.alloc (.cells #[] 30)) w1 → w1.ownsRow w.heap.size 30 2 v' n (flat fs) ∧ Below w.heap.size w w1) := Lib.hid fun v' w1 h k =>
    ⟨by simpa using h, ((Below.refl _ _).alloc (Nat.le_refl _) _).trans k⟩
  have HLen := Lib.hid hl
  by_cases h0 : ch < 0 ∨ (n : Int) ≤ ch
  · have HE : Hid (recL fs ch ok = fs) := Lib.hid (recL_out (by rw [hl]; exact h0))
    clear hl hb
    by_cases h1 : ch < 0
    · clear h0
      go_enter Try.func15, Try.ntmps15
      go_wp2_with (at_builtin; refine wpList_append_pairs rfl _ _ 22 rfl w.heap.size 30 i0 _ 16 Try.underlying22 hi hz0 hz1 hz2 rfl (.slice (some ⟨w.heap.size, 0, none⟩) 0 0) 0 [] rfl (World.ownsRow_made _ _ 0 (Nat.le_refl _) (by unfold maxLen; omega) rfl) w.heap.size A n c fs rfl HLen.out ?c1 ?c2 ?c3 ?c4 ?_; (case c1 => exact hr.alloc (Nat.le_refl _) _); (case c2 => unfold maxLen; omega); (case c3 => omega); (case c4 => simp); intro v' w1 hown1 hb1 _; obtain ⟨hown2, B2⟩ := HAp.out _ _ hown1 hb1; clear hown1 hb1)
      go_ret
      exact makesP_of (n := n) rfl (by rw [HE.out]; exact HLen.out) (by rw [HE.out]; exact hown2) B2
    · have h2 : (n : Int) ≤ ch := by omega
      clear h0
      go_enter Try.func15, Try.ntmps15
      go_wp2_with (at_builtin; refine wpList_append_pairs rfl _ _ 22 rfl w.heap.size 30 i0 _ 16 Try.underlying22 hi hz0 hz1 hz2 rfl (.slice (some ⟨w.heap.size, 0, none⟩) 0 0) 0 [] rfl (World.ownsRow_made _ _ 0 (Nat.le_refl _) (by unfold maxLen; omega) rfl) w.heap.size A n c fs rfl HLen.out ?c1 ?c2 ?c3 ?c4 ?_; (case c1 => exact hr.alloc (Nat.le_refl _) _); (case c2 => unfold maxLen; omega); (case c3 => omega); (case c4 => simp); intro v' w1 hown1 hb1 _; obtain ⟨hown2, B2⟩ := HAp.out _ _ hown1 hb1; clear hown1 hb1)
      go_ret
      exact makesP_of (n := n) rfl (by rw [HE.out]; exact HLen.out) (by rw [HE.out]; exact hown2) B2
  · obtain ⟨j, rfl⟩ := Int.eq_ofNat_of_zero_le (show 0 ≤ ch by omega)
    have hj : j < n := by omega
    clear h0
    obtain ⟨f, hf⟩ : ∃ f, fs[j]? = some f := ⟨fs[j]'(by omega), List.getElem?_eq_getElem _⟩
    have HR : Hid (recL fs (j : Int) ok = fs.set j (recT ok f)) := Lib.hid (recL_at hf)
    have HFl := Lib.hid (flat_get fs j f hf)
    have HFs := Lib.hid (flat_set fs j f hf)
    have HSm := Lib.hid (set_same hf)
    have hff := hb f (List.mem_of_getElem? hf)
    have g1 : (0 : Int) ≤ (j : Int) := by omega
    have g2 : (j : Int) < (n : Int) := by omega
    have g3 : decide ((n : Int) ≤ (j : Int)) = false := by simp; omega
    have HTr : Hid (recT true f = (more f.1, f.2) ∧ recT false f = (f.1, more f.2)) := Lib.hid ⟨rfl, rfl⟩
    obtain ⟨f1, f2⟩ := f
    simp only at HFl HFs hff HTr
    clear hl hf hb
    cases ok
    · by_cases hm : 65536 ≤ f2
      · have HE : Hid (recL fs (j : Int) false = fs) := Lib.hid (by rw [HR.out, HTr.out.2, more_hi hm]; exact HSm.out)
        go_enter Try.func15, Try.ntmps15
        go_wp2_with (at_builtin; refine wpList_append_pairs rfl _ _ 22 rfl w.heap.size 30 i0 _ 16 Try.underlying22 hi hz0 hz1 hz2 rfl (.slice (some ⟨w.heap.size, 0, none⟩) 0 0) 0 [] rfl (World.ownsRow_made _ _ 0 (Nat.le_refl _) (by unfold maxLen; omega) rfl) w.heap.size A n c fs rfl HLen.out ?c1 ?c2 ?c3 ?c4 ?_; (case c1 => exact hr.alloc (Nat.le_refl _) _); (case c2 => unfold maxLen; omega); (case c3 => omega); (case c4 => simp); intro v' w1 hown1 hb1 _; obtain ⟨hown2, B2⟩ := HAp.out _ _ hown1 hb1; clear hown1 hb1; obtain ⟨A', c', rfl⟩ := own_form hown2; obtain ⟨g, rfl, hg1, hg2⟩ := Base.own_block hown2 (by omega); have k1 := (hown2.cellAt (j * 2 + 1) (by omega)).trans HFl.out.2; have z1 := hown2.frozenAt (j * 2 + 1))
        go_ret
        exact makesP_of (n := n) rfl (by rw [HE.out]; exact HLen.out) (by rw [HE.out]; exact hown2) B2
      · have HE := Lib.hid (more_lo hm)
        go_enter Try.func15, Try.ntmps15
        go_wp2_with (at_builtin; refine wpList_append_pairs rfl _ _ 22 rfl w.heap.size 30 i0 _ 16 Try.underlying22 hi hz0 hz1 hz2 rfl (.slice (some ⟨w.heap.size, 0, none⟩) 0 0) 0 [] rfl (World.ownsRow_made _ _ 0 (Nat.le_refl _) (by unfold maxLen; omega) rfl) w.heap.size A n c fs rfl HLen.out ?c1 ?c2 ?c3 ?c4 ?_; (case c1 => exact hr.alloc (Nat.le_refl _) _); (case c2 => unfold maxLen; omega); (case c3 => omega); (case c4 => simp); intro v' w1 hown1 hb1 _; obtain ⟨hown2, B2⟩ := HAp.out _ _ hown1 hb1; clear hown1 hb1; obtain ⟨A', c', rfl⟩ := own_form hown2; obtain ⟨g, rfl, hg1, hg2⟩ := Base.own_block hown2 (by omega); have k1 := (hown2.cellAt (j * 2 + 1) (by omega)).trans HFl.out.2; have z1 := hown2.frozenAt (j * 2 + 1))
        have hs := hown2.stored (j * 2 + 1) (.int .i64 (f2 + 1))
        rw [(HFs.out _).2] at hs
        go_ret
        exact makesP_of (n := n) rfl (by rw [HR.out, List.length_set]; exact HLen.out) (by rw [HR.out, HTr.out.2, HE.out]; exact hs.1) (B2.setCell (p := ⟨g, j * 2 + 1, none⟩) hg1 _)
    · by_cases hm : 65536 ≤ f1
      · have HE : Hid (recL fs (j : Int) true = fs) := Lib.hid (by rw [HR.out, HTr.out.1, more_hi hm]; exact HSm.out)
        go_enter Try.func15, Try.ntmps15
        go_wp2_with (at_builtin; refine wpList_append_pairs rfl _ _ 22 rfl w.heap.size 30 i0 _ 16 Try.underlying22 hi hz0 hz1 hz2 rfl (.slice (some ⟨w.heap.size, 0, none⟩) 0 0) 0 [] rfl (World.ownsRow_made _ _ 0 (Nat.le_refl _) (by unfold maxLen; omega) rfl) w.heap.size A n c fs rfl HLen.out ?c1 ?c2 ?c3 ?c4 ?_; (case c1 => exact hr.alloc (Nat.le_refl _) _); (case c2 => unfold maxLen; omega); (case c3 => omega); (case c4 => simp); intro v' w1 hown1 hb1 _; obtain ⟨hown2, B2⟩ := HAp.out _ _ hown1 hb1; clear hown1 hb1; obtain ⟨A', c', rfl⟩ := own_form hown2; obtain ⟨g, rfl, hg1, hg2⟩ := Base.own_block hown2 (by omega); have k1 := (hown2.cellAt (j * 2) (by omega)).trans HFl.out.1; have z1 := hown2.frozenAt (j * 2))
        go_ret
        exact makesP_of (n := n) rfl (by rw [HE.out]; exact HLen.out) (by rw [HE.out]; exact hown2) B2
      · have HE := Lib.hid (more_lo hm)
        go_enter Try.func15, Try.ntmps15
        go_wp2_with (at_builtin; refine wpList_append_pairs rfl _ _ 22 rfl w.heap.size 30 i0 _ 16 Try.underlying22 hi hz0 hz1 hz2 rfl (.slice (some ⟨w.heap.size, 0, none⟩) 0 0) 0 [] rfl (World.ownsRow_made _ _ 0 (Nat.le_refl _) (by unfold maxLen; omega) rfl) w.heap.size A n c fs rfl HLen.out ?c1 ?c2 ?c3 ?c4 ?_; (case c1 => exact hr.alloc (Nat.le_refl _) _); (case c2 => unfold maxLen; omega); (case c3 => omega); (case c4 => simp); intro v' w1 hown1 hb1 _; obtain ⟨hown2, B2⟩ := HAp.out _ _ hown1 hb1; clear hown1 hb1; obtain ⟨A', c', rfl⟩ := own_form hown2; obtain ⟨g, rfl, hg1, hg2⟩ := Base.own_block hown2 (by omega); have k1 := (hown2.cellAt (j * 2) (by omega)).trans HFl.out.1; have z1 := hown2.frozenAt (j * 2))
        have hs := hown2.stored (j * 2) (.int .i64 (f1 + 1))
        rw [(HFs.out _).1] at hs
        go_ret
        exact makesP_of (n := n) rfl (by rw [HR.out, List.length_set]; exact HLen.out) (by rw [HR.out, HTr.out.1, HE.out]; exact hs.1) (B2.setCell (p := ⟨g, j * 2, none⟩) hg1 _)
end Go.Proofs.Ytngkpnkjapdnaaa.As
