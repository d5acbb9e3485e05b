/- What the functions on whole lists of tallies return: sameness, halves, the tally of a channel: contracts over the program. -/
import Derived.Test.YtngkpnkjapdnaaaAsLists
set_option linter.unusedVariables false
set_option linter.unusedSimpArgs false
namespace Go.Proofs.Ytngkpnkjapdnaaa.As
open Go.RowKit Mem Chm Base

theorem pair_eq {fs gs : List (Int × Int)} {n : Nat} (hf : fs.length = n) (hg : gs.length = n) (h : ∀ k, k < n → fs[k]? = gs[k]?) : fs = gs := by
  apply List.ext_getElem?
  intro i
  by_cases hi : i < n
  · exact h i hi
  · rw [List.getElem?_eq_none (by omega), List.getElem?_eq_none (by omega)]
theorem pr_same (a b : Int) (w : World) : (binOp .neq 30 (.agg #[.int .i64 a, .int .i64 b]) (.agg #[.int .i64 a, .int .i64 b])).run Try.prog w = .ok (.bool false) w := by
  go_simp
theorem pr_other (a b c d : Int) (h : ¬ (a = c ∧ b = d)) (w : World) : (binOp .neq 30 (.agg #[.int .i64 a, .int .i64 b]) (.agg #[.int .i64 c, .int .i64 d])).run Try.prog w = .ok (.bool true) w := by
  have q : (a == c && b == d) = false := by
    rw [Bool.eq_false_iff]; simpa using h
  go_simp
  exact fun e1 e2 => h ⟨e1, e2⟩
theorem pr_guard (a b c d : Int) (w : World) (x y : Operand) : (eqGuard .neq 30 x y (.agg #[.int .i64 a, .int .i64 b]) (.agg #[.int .i64 c, .int .i64 d])).run Try.prog w = .ok () w := by
  go_simp
set_option maxHeartbeats 1000000 in
theorem same_any (A A' : Option Addr) (n n' c c' : Nat) (fs gs : List (Int × Int)) (w : World) (hf : fs.length = n) (hg : gs.length = n') (hr : PairsAt w w.heap.size A fs) (hr' : PairsAt w w.heap.size A' gs) (hnb : n ≤ 8796093022208) :
    Calls Try.prog 10 #[.slice A n c, .slice A' n' c'] w fun e w' => e = .returned (.bool (decide (fs = gs))) ∧ Below w.heap.size w w' := by
  by_cases hn : n = n'
  · subst hn
    have HF := Lib.hid hf
    have HG := Lib.hid hg
    clear hf hg
    go_enter Try.func10, Try.ntmps10
    go_wp2_with fail
    go_loopw [5] (fun i wr => ∃ k : Nat, k ≤ n ∧ i = .int .i64 (k : Nat) ∧ (∀ j, j < k → fs[j]? = gs[j]?) ∧ Below w.heap.size w wr) (fun i _ => n - (intOf i).toNat)
    case atStart => exact ⟨0, by omega, rfl, (fun j hj => by omega), Below.refl _ _⟩
    case round =>
      obtain ⟨k, hk, rfl, hs, hB⟩ := hrel
      by_cases c1 : k < n
      · obtain ⟨f, hfk⟩ : ∃ f, fs[k]? = some f := ⟨fs[k]'(by rw [HF.out]; omega), List.getElem?_eq_getElem _⟩
        obtain ⟨g, hgk⟩ : ∃ g, gs[k]? = some g := ⟨gs[k]'(by rw [HG.out]; omega), List.getElem?_eq_getElem _⟩
        obtain ⟨b, off, rfl, hlt, hc⟩ := (hr.below hB).at_ (i := k) (by rw [HF.out]; omega)
        obtain ⟨b', off', rfl, hlt', hc'⟩ := (hr'.below hB).at_ (i := k) (by rw [HG.out]; omega)
        have x1 := (hc k f hfk).1
        have x2 := (hc k f hfk).2
        have y1 := (hc' k g hgk).1
        have y2 := (hc' k g hgk).2
        clear hc hc'
        have HFK := Lib.hid hfk
        have HGK := Lib.hid hgk
        clear hfk hgk
        have HS := Lib.hid hs
        clear hs
        have g1 : (0 : Int) ≤ (k : Int) := by omega
        have g2 : (k : Int) < (n : Int) := by omega
        obtain ⟨f1, f2⟩ := f
        obtain ⟨g1', g2'⟩ := g
        simp only at x1 x2 y1 y2
        by_cases he : f1 = g1' ∧ f2 = g2'
        · obtain ⟨rfl, rfl⟩ := he
          have p1 := pr_same f1 f2
          have p2 := pr_guard f1 f2 f1 f2
          have HB := Lib.hid hB.drew
          go_wp2_with fail
          go_region
          go_wp2_with fail
          go_roundw
          case rel => exact ⟨k + 1, by omega, by go_num, (fun j hj => by
            by_cases e : j = k
            · rw [e, HFK.out, HGK.out]
            · exact HS.out j (by omega)), HB.out⟩
          case measure => simp [intOf]; omega
        · have p1 := pr_other f1 f2 g1' g2' he
          have p2 := pr_guard f1 f2 g1' g2'
          have HB := Lib.hid hB.drew
          have HE : Hid (decide (fs = gs) = false) := Lib.hid (decide_eq_false (fun e => by
            have h := HGK.out
            rw [← e, HFK.out] at h
            simp at h
            exact he h))
          clear he
          go_wp2_with fail
          go_region
          go_wp2_with fail
          go_ret
          exact ⟨Ser.ret_bool HE.out.symm, HB.out⟩
      · obtain rfl : k = n := by omega
        have HE : Hid (decide (fs = gs) = true) := Lib.hid (decide_eq_true (pair_eq HF.out HG.out hs))
        go_wp2_with fail
        go_ret
        exact ⟨Ser.ret_bool HE.out.symm, hB⟩
  · have HE : Hid (decide (fs = gs) = false) := Lib.hid (decide_eq_false (fun e => hn (by rw [← hf, ← hg, e])))
    have q0 : (((n : Nat) : Int) != (n' : Int)) = true := by simp; omega
    go_enter Try.func10, Try.ntmps10
    go_wp2_with fail
    go_ret
    exact ⟨Ser.ret_bool HE.out.symm, Below.refl _ _⟩
theorem talof_any (A : Option Addr) (n c j : Nat) (fs : List (Int × Int)) (w : World) (hf : fs.length = n) (hr : PairsAt w w.heap.size A fs) :
    Calls Try.prog 26 #[.slice A n c, .int .i64 j] w fun e w' => e = .returned (.agg #[.int .i64 (tal fs j).1, .int .i64 (tal fs j).2]) ∧ Below w.heap.size w w' := by
  by_cases hj : j < n
  · obtain ⟨f, hfj⟩ : ∃ f, fs[j]? = some f := ⟨fs[j]'(by omega), List.getElem?_eq_getElem _⟩
    rw [tal_in hfj]
    obtain ⟨b, off, rfl, hlt, hc⟩ := hr.at_ (i := j) (by omega)
    have x1 := (hc j f hfj).1
    have x2 := (hc j f hfj).2
    clear hc hfj
    obtain ⟨f1, f2⟩ := f
    simp only at x1 x2 ⊢
    have g1 : (0 : Int) ≤ (j : Int) := by omega
    have g2 : (j : Int) < (n : Int) := by omega
    have g3 : decide ((n : Int) ≤ (j : Int)) = false := by simp; omega
    have hne : ¬ b = w.heap.size := by omega
    go_enter Try.func26, Try.ntmps26
    go_wp2_with fail
    refine bodyPost_ret (v := .agg #[.int .i64 f1, .int .i64 f2]) ?_ rfl ⟨rfl, (Below.refl _ w).alloc (Nat.le_refl _) _⟩
    simp [results, Try.f26, go_sem]
  · rw [tal_out (by omega)]
    have g3 : decide ((n : Int) ≤ (j : Int)) = true := by simp; omega
    go_enter Try.func26, Try.ntmps26
    go_wp2_with fail
    refine bodyPost_ret (v := .agg #[.int .i64 0, .int .i64 0]) ?_ rfl ⟨rfl, (Below.refl _ w).alloc (Nat.le_refl _) _⟩
    simp [results, Try.f26, go_sem]
end Go.Proofs.Ytngkpnkjapdnaaa.As
