/- The document's function that reads a text, walked. -/
import Derived.Test.YtkpjpjjpjpimiaaDoorChmNums
set_option linter.unusedVariables false
set_option linter.unusedSimpArgs false
namespace Go.Proofs.YtkpjpjjpjpimiaaDoor.Chm
open Go.RowKit Mem Oct Base

theorem add_or (x i : Nat) (h : x.testBit i = false) : x + 2 ^ i = x ||| 2 ^ i := by
  have h2 : x / 2 ^ i % 2 = 0 := by
    rw [Nat.testBit_eq_decide_div_mod_eq] at h
    have := of_decide_eq_false h
    omega
  have hr : x % 2 ^ i < 2 ^ i := Nat.mod_lt _ (Nat.two_pow_pos i)
  have hx := Nat.div_add_mod x (2 ^ i)
  obtain ⟨z, hz⟩ : ∃ z, x / 2 ^ i = 2 * z := ⟨x / 2 ^ i / 2, by omega⟩
  rw [hz] at hx
  have e1 := Nat.two_pow_add_eq_or_of_lt hr (2 * z)
  have e2 := Nat.two_pow_add_eq_or_of_lt hr (2 * z + 1)
  have e3 := Nat.two_pow_add_eq_or_of_lt (i := i + 1) (b := 2 ^ i) (by rw [Nat.pow_succ]; have := Nat.two_pow_pos i; omega) z
  have e4 : 2 ^ (i + 1) * z = 2 ^ i * (2 * z) := by rw [Nat.pow_succ, Nat.mul_assoc]
  have e5 : 2 ^ i * (2 * z + 1) = 2 ^ i * (2 * z) + 2 ^ i := by rw [Nat.mul_add, Nat.mul_one]
  rw [e4] at e3
  generalize x % 2 ^ i = r at *
  rw [show x + 2 ^ i = 2 ^ i * (2 * z + 1) + r by omega, e2, e5, e3, ← hx, e1]
  rw [Nat.or_assoc, Nat.or_comm (2 ^ i) r, ← Nat.or_assoc]
theorem rof_any (g c : Nat) (w : World) (hc : c < 64) (hcell : w.cell? ⟨g, 0, none⟩ = some (.int .i64 c)) :
    Calls Tryd.prog 47 #[.slice (some ⟨g, 0, none⟩) 1 1] w fun e w' => e = .returned (.int .u64 ((2 ^ c : Nat) : Int)) ∧ w = w' := by
  have HP := Lib.hid fun w => rpow_any c w hc
  have hp := pow_le c hc
  have hp2 : 2 ^ c ≤ 18446744073709551615 := by
    have := Nat.pow_le_pow_right (n := 2) (by decide) (show c ≤ 63 by omega)
    omega
  generalize 2 ^ c = q at *
  clear hp
  go_enter Tryd.func47, Tryd.ntmps47
  go_wp2_with fail
  go_loop [3, 4] (fun a i => (i = .int .i64 0 ∧ a = .int .u64 0) ∨ (i = .int .i64 1 ∧ a = .int .u64 (q : Nat))) (fun _ i => 2 - (intOf i).toNat)
  case atStart => exact .inl ⟨rfl, rfl⟩
  case round =>
    rcases hrel with ⟨rfl, rfl⟩ | ⟨rfl, rfl⟩
    · go_wp2_with (go_at_call 36; refine (HP.out _).mono ?_; rintro e w' ⟨rfl, rfl⟩)
      go_round
      case rel => exact .inr ⟨by go_num, by go_num⟩
      case measure => simp [intOf]
    · go_wp2_with fail
      go_ret
      exact ⟨rfl, rfl⟩
/-- What was read is found where it lies. -/
def Rd (w : World) (A : Option Addr) (f : Nat → Option Value) : Prop := ∀ j x, f j = some x → ∃ g, A = some ⟨g, 0, none⟩ ∧ g < w.heap.size ∧ w.cell? ⟨g, j, none⟩ = some x
theorem Rd.of {w : World} {base n c : Nat} {A : Option Addr} {e : TypeId} {xs : List Value} (h : w.ownsRow base e 1 (.slice A n c) n xs) : Rd w A (fun j => xs[j]?) := by
  intro j x hj
  have hl : j < xs.length := (List.getElem?_eq_some_iff.1 hj).1
  have hn : xs.length = n := by have := h.1; rwa [Nat.mul_one] at this
  obtain ⟨g, rfl, hg, hlt⟩ := Base.own_block h (by omega)
  exact ⟨g, rfl, hlt, own_at_row h j x hj⟩
theorem Rd.below {w w' : World} {A : Option Addr} {f : Nat → Option Value} (h : Rd w A f) (hb : Below w.heap.size w w') : Rd w' A f := by
  intro j x hj
  obtain ⟨g, h1, h2, h3⟩ := h j x hj
  exact ⟨g, h1, Nat.lt_of_lt_of_le h2 hb.size, (hb.cell h2).trans h3⟩
/-- The number before the k-th. -/
def prevN (P : List (Nat × Bool)) : Nat → Option Nat
  | 0 => none
  | k + 1 => (P[k]?).map (·.1)
theorem fold_at {P : List (Nat × Bool)} {k m n : Nat} {a : Bool} (h : P[k]? = some (n, a)) : foldN (P.drop k) (prevN P k) m = foldN (P.drop (k + 1)) (prevN P (k + 1)) (fillN m (if a then (prevN P k).getD n else n) n) := by
  obtain ⟨hl, hb⟩ := List.getElem?_eq_some_iff.1 h
  rw [List.drop_eq_getElem_cons hl, hb, foldN]
  have : prevN P (k + 1) = some n := by rw [prevN, h]; rfl
  rw [this]
theorem nums_lt : ∀ (l : List UInt8) (cur : Nat) (dig aft : Bool), cur < 100 → ∀ p ∈ numsL l cur dig aft, p.1 < 100 := by
  intro l
  induction l with
  | nil => intro cur dig aft h p hp; unfold numsL at hp; split at hp <;> simp at hp; subst hp; exact h
  | cons b r ih =>
    intro cur dig aft h p hp
    unfold numsL at hp
    split at hp
    · exact ih _ _ _ (Nat.mod_lt _ (by decide)) p hp
    · rw [List.mem_append] at hp
      rcases hp with hp | hp
      · split at hp <;> simp at hp; subst hp; exact h
      · exact ih _ _ _ (by omega) p hp
theorem nums_len : ∀ (l : List UInt8) (cur : Nat) (dig aft : Bool), (numsL l cur dig aft).length ≤ l.length + (if dig then 1 else 0) := by
  intro l
  induction l with
  | nil => intro cur dig aft; unfold numsL; split <;> simp
  | cons b r ih =>
    intro cur dig aft
    unfold numsL
    split
    · have := ih ((10 * cur + (b.toNat - 48)) % 100) true aft
      simp at this ⊢; split <;> omega
    · have := ih 0 false (b == 45)
      rw [List.length_append]
      cases dig <;> simp at this ⊢ <;> omega
theorem fold_lt : ∀ (P : List (Nat × Bool)) (before : Option Nat) (m : Nat), m < 137438953472 → foldN P before m < 137438953472 := by
  intro P
  induction P with
  | nil => intro _ m h; exact h
  | cons p r ih =>
    intro before m h
    obtain ⟨n, a⟩ := p
    rw [foldN]
    refine ih _ _ ?_
    unfold fillN
    by_cases hf : (if a then before.getD n else n) ≤ 37
    · exact orN_lt h _ (by omega)
    · have : min (n + 1) 37 - (if a then before.getD n else n) = 0 := by omega
      rw [this]; exact h
end Go.Proofs.YtkpjpjjpjpimiaaDoor.Chm
