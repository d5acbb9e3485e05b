/- Acknowledgement: the open packet and the others: contracts over the program. -/
import Derived.Test.YtbnfjielnamepaaArqCopy
set_option linter.unusedVariables false
set_option linter.unusedSimpArgs false
namespace Go.Proofs.Ytbnfjielnamepaa.Arq
open Go.RowKit Mem Oct Rw Av Dp
open Base (thenB)

section
variable {w : World} {m o n c c' : Nat} {A : Option Addr} {l : List Pm}
theorem QQ.none_ (h : QQ w m o (.slice A n c) l) : QQ w m o (.slice A 0 c') [] := ⟨⟨A, c', rfl, Nat.zero_le _, .inl rfl⟩, by simp, fun g hg => h.2.2 g (by cases A with | none => simp [Value.ownBlock] at hg | some a => simpa [Value.ownBlock] using hg)⟩
theorem QQ.len (h : QQ w m o (.slice A n c) l) : l.length = n ∧ n ≤ c ∧ TB w 24 m A (l.flatMap encK) := by
  obtain ⟨⟨A', c', e, h1, h2⟩, _⟩ := h
  injection e with e1 e2 e3
  subst e1; subst e2; subst e3
  exact ⟨rfl, h1, h2⟩
theorem QQ.full (h : QQ w m o (.slice A n c) l) : QQ w m o (.slice A n n) l := by
  obtain ⟨h1, h2, h3⟩ := h.len
  exact ⟨⟨A, n, by rw [h1], by omega, h3⟩, h.2.1, fun g hg => h.2.2 g (by cases A with | none => simp [Value.ownBlock] at hg | some a => simpa [Value.ownBlock] using hg)⟩
theorem QQ.at_ {x : Pm} {r : List Pm} (h : QQ w m o (.slice A n c) (x :: r)) : ∃ b off, A = some ⟨b, off, none⟩ ∧ b < w.heap.size ∧ m ≤ b ∧ w.cell? ⟨b, off, none⟩ = some (.int .i64 x.k) ∧ w.cell? ⟨b, off + 1, none⟩ = some (.slice x.A x.v.length x.c) := by
  obtain ⟨h1, h2, h3⟩ := h.len
  rcases h3 with h3 | ⟨b, off, cs, e, hm, hk, hc⟩
  · simp [encK] at h3
  · refine ⟨b, off, e, hk.lt, hm, ?_, ?_⟩
    · rw [hk.cell]; exact hc 0 _ rfl
    · rw [hk.cell]; exact hc 1 _ rfl
theorem QQ.one {x : Pm} {r : List Pm} (h : QQ w m o (.slice A n c) (x :: r)) : QQ w m o (.slice A 1 1) [x] := by
  obtain ⟨h1, h2, h3⟩ := h.len
  refine ⟨⟨A, 1, rfl, Nat.le_refl _, ?_⟩, fun y hy => h.2.1 y (by simp at hy; rw [hy]; simp), fun g hg => h.2.2 g (by cases A with | none => simp [Value.ownBlock] at hg | some a => simpa [Value.ownBlock] using hg)⟩
  rcases h3 with h3 | ⟨b, off, cs, e, hm, hk, hc⟩
  · simp [encK] at h3
  · refine .inr ⟨b, off, cs, e, hm, hk, fun q u hq => hc q u ?_⟩
    rw [List.flatMap_cons] at hq ⊢
    have hlt : q < (encK x).length := by
      have := (List.getElem?_eq_some_iff.1 hq).1
      simpa using this
    rw [List.getElem?_append_left hlt] at hq ⊢
    exact hq
theorem QQ.tail {x : Pm} {r : List Pm} {b off : Nat} (h : QQ w m o (.slice (some ⟨b, off, none⟩) n c) (x :: r)) : QQ w m o (.slice (some ⟨b, off + 2, none⟩) (n - 1) (n - 1)) r := by
  obtain ⟨h1, h2, h3⟩ := h.len
  simp at h1
  refine ⟨⟨_, n - 1, by rw [show n - 1 = r.length by omega], by omega, ?_⟩, fun y hy => h.2.1 y (by simp [hy]), fun g hg => h.2.2 g (by simpa [Value.ownBlock] using hg)⟩
  rcases h3 with h3 | ⟨b', off', cs, e, hm, hk, hc⟩
  · simp [encK] at h3
  · injection e with e
    injection e with e1 e2 _
    subst e1; subst e2
    refine .inr ⟨b, off + 2, cs, rfl, hm, hk, fun q u hq => ?_⟩
    have := hc (2 + q) u (by
      rw [List.flatMap_cons, List.getElem?_append_right (by simp [encK])]
      simpa [encK] using hq)
    rw [Nat.add_assoc]; exact this
end
set_option maxRecDepth 100000 in
set_option maxHeartbeats 4000000 in
theorem divided_none (sn nesn : Int) (A : Option Addr) (n c : Nat) (op em : Bool) (ack tak : Int) (l : List Pm) (m o : Nat) (w : World) (h : QQ w m o (.slice A n c) l) (hop : (op && !em) = false ∨ n = 0) (hn : n ≤ 1099511627776) :
    Calls Try.prog 57 #[.agg #[.int .i64 sn, .int .i64 nesn, .slice A n c, .bool op, .bool em, .int .i64 ack, .int .i64 tak]] w fun e w' => e = .returned (.tuple #[.slice A 0 0, .slice A n n]) ∧ Below w.heap.size w w' := by
  have hnc := h.len.2.1
  have B0 : Below w.heap.size w (w.alloc (.cells #[.int .i64 sn, .int .i64 nesn, .slice A n c, .bool op, .bool em, .int .i64 ack, .int .i64 tak] 43)) := (Below.refl _ _).alloc (Nat.le_refl _) _
  have g1 : 0 ≤ c ∧ (0 : Int) ≤ (c : Int) ∧ (n : Int) ≤ (c : Int) ∧ n ≤ c ∧ (0 : Int) ≤ (n : Int) := by omega
  clear h
  cases op with
  | false =>
    clear hop
    go_enter Try.func57, Try.ntmps57
    go_upto_region 4 with (fail)
    go_quiet (fail)
    all_goals
      go_wp2_with fail
      go_ret2
      exact ⟨rfl, B0.trans ⟨rfl, rfl, rfl, Nat.le_refl _, fun _ _ => rfl⟩⟩
  | true =>
    cases em with
    | true =>
      clear hop
      go_enter Try.func57, Try.ntmps57
      go_upto_region 4 with (fail)
      go_quiet (fail)
      all_goals
        go_wp2_with fail
        go_ret2
        exact ⟨rfl, B0.trans ⟨rfl, rfl, rfl, Nat.le_refl _, fun _ _ => rfl⟩⟩
    | false =>
      obtain rfl : n = 0 := by simpa using hop
      clear hop
      go_enter Try.func57, Try.ntmps57
      go_upto_region 4 with (fail)
      go_quiet (fail)
      all_goals
        go_wp2_with fail
        go_ret2
        exact ⟨rfl, B0.trans ⟨rfl, rfl, rfl, Nat.le_refl _, fun _ _ => rfl⟩⟩
theorem divided_one (sn nesn : Int) (b off n c : Nat) (ack tak : Int) (w : World) (hnc : n ≤ c) (h1 : 1 ≤ n) (hn : n ≤ 1099511627776) :
    Calls Try.prog 57 #[.agg #[.int .i64 sn, .int .i64 nesn, .slice (some ⟨b, off, none⟩) n c, .bool true, .bool false, .int .i64 ack, .int .i64 tak]] w fun e w' => e = .returned (.tuple #[.slice (some ⟨b, off, none⟩) 1 1, .slice (if n = 1 then some ⟨b, off, none⟩ else some ⟨b, off + 2, none⟩) (n - 1) (n - 1)]) ∧ Below w.heap.size w w' := by
  have B0 : Below w.heap.size w (w.alloc (.cells #[.int .i64 sn, .int .i64 nesn, .slice (some ⟨b, off, none⟩) n c, .bool true, .bool false, .int .i64 ack, .int .i64 tak] 43)) := (Below.refl _ _).alloc (Nat.le_refl _) _
  have g1 : 1 ≤ c ∧ (1 : Int) ≤ (c : Int) ∧ (n : Int) ≤ (c : Int) ∧ n ≤ c ∧ (0 : Int) ≤ (n : Int) ∧ (1 : Int) ≤ (n : Int) := by omega
  by_cases he : n = 1
  · subst he
    rw [if_pos rfl]
    go_enter Try.func57, Try.ntmps57
    go_upto_region 4 with (fail)
    go_quiet (fail)
    all_goals
      go_wp2_with fail
      go_ret2
      exact ⟨rfl, B0.trans ⟨rfl, rfl, rfl, Nat.le_refl _, fun _ _ => rfl⟩⟩
  · have hcc : (n = 1) = False := by simp [he]
    have hc2 : (n - 1 = 0) = False := by simp; omega
    have hc3 : min (1 : Int) (n : Int) = 1 := by omega
    rw [if_neg he]
    clear he
    go_enter Try.func57, Try.ntmps57
    go_upto_region 4 with (fail)
    go_quiet (fail)
    all_goals
      go_wp2_with fail
      go_ret2
      exact ⟨rfl, B0.trans ⟨rfl, rfl, rfl, Nat.le_refl _, fun _ _ => rfl⟩⟩
end Go.Proofs.Ytbnfjielnamepaa.Arq
