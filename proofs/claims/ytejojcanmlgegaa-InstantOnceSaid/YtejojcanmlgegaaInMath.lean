/- Changes at instants: plain mathematics. No program is mentioned. -/
import Derived.Test.YtejojcanmlgegaaSerMath
import Derived.Test.YtejojcanmlgegaaRw
set_option linter.unusedVariables false
set_option linter.unusedSimpArgs false
namespace Go.Proofs.Ytejojcanmlgegaa.Nst
open Go.RowKit Mem Rw Ser

/-- A change. -/
structure Ch where
  k : Int
  i : Int
  a : Int
  b : Int
  c : Int
  e : Int
  f : Int
  m : Int
def encX (x : Ch) : Array Value := #[.int .i64 x.k, .int .u16 x.i, .int .i64 x.a, .int .i64 x.b, .int .i64 x.c, .int .i64 x.e, .int .i64 x.f, .int .u64 x.m]
def encH (x : Ch) : List Value := [.int .i64 x.k, .int .u16 x.i, .int .i64 x.a, .int .i64 x.b, .int .i64 x.c, .int .i64 x.e, .int .i64 x.f, .int .u64 x.m]
theorem enc_list (x : Ch) : (encX x).toList = encH x := rfl
theorem encX_one (x : Ch) : (encX x).all (·.oneCell') = true := by rw [← Array.all_toList]; rfl
theorem encH_one (x : Ch) : ∀ u ∈ encH x, u.oneCell' = true := by intro u hu; simp [encH] at hu; rcases hu with rfl | rfl | rfl | rfl | rfl | rfl | rfl | rfl <;> rfl
theorem sizH : Sized encH 8 := fun x => ⟨rfl, encH_one x⟩
/-- The instant of a change is one. -/
def GoodI (x : Ch) : Prop := 0 ≤ x.i ∧ x.i ≤ 65535
def planZ (ev la : Int) : Int := addZ ev (6 + max 0 (min la 499))
theorem plan_bd (ev la : Int) : 0 ≤ planZ ev la ∧ planZ ev la ≤ 65535 := addZ_bd _ _
/-- Whether a change can be accepted. -/
def chk (ev : Int) (x : Ch) : Int := if x.k = 0 ∨ x.k = 1 then (if passedB ev x.i = true then 18 else 0) else 12
theorem chk_no {ev : Int} {x : Ch} (h0 : ¬ x.k = 0) (h1 : ¬ x.k = 1) : chk ev x = 12 := by unfold chk; rw [if_neg (by omega)]
theorem chk_yes {ev : Int} {x : Ch} (h : x.k = 0 ∨ x.k = 1) : chk ev x = if passedB ev x.i = true then 18 else 0 := by unfold chk; rw [if_pos h]
/-- One more pending change. -/
def addR (l : List Ch) (ev : Int) (x : Ch) : List Ch × Int := if chk ev x = 0 then (if l.length = 0 then (l ++ [x], 0) else (l, 20)) else (l, chk ev x)
def isDue (ev : Int) (x : Ch) : Bool := passedB ev x.i
def restR (l : List Ch) (ev : Int) : List Ch := l.filter fun x => !isDue ev x
def dueR (l : List Ch) (ev : Int) : List Ch := l.filter fun x => isDue ev x
theorem take_snoc {α : Type} {l : List α} {j : Nat} {x : α} (h : l[j]? = some x) : l.take (j + 1) = l.take j ++ [x] := by
  have hk : j < l.length := (List.getElem?_eq_some_iff.1 h).1
  rw [List.take_succ_eq_append_getElem hk, (List.getElem?_eq_some_iff.1 h).2]
theorem rest_yes {l : List Ch} {ev : Int} {j : Nat} {x : Ch} (h : l[j]? = some x) (e : isDue ev x = true) : restR (l.take (j + 1)) ev = restR (l.take j) ev := by
  rw [take_snoc h]; unfold restR; rw [List.filter_append]; simp [e]
theorem rest_no {l : List Ch} {ev : Int} {j : Nat} {x : Ch} (h : l[j]? = some x) (e : isDue ev x = false) : restR (l.take (j + 1)) ev = restR (l.take j) ev ++ [x] := by
  rw [take_snoc h]; unfold restR; rw [List.filter_append]; simp [e]
theorem due_yes {l : List Ch} {ev : Int} {j : Nat} {x : Ch} (h : l[j]? = some x) (e : isDue ev x = true) : dueR (l.take (j + 1)) ev = dueR (l.take j) ev ++ [x] := by
  rw [take_snoc h]; unfold dueR; rw [List.filter_append]; simp [e]
theorem due_no {l : List Ch} {ev : Int} {j : Nat} {x : Ch} (h : l[j]? = some x) (e : isDue ev x = false) : dueR (l.take (j + 1)) ev = dueR (l.take j) ev := by
  rw [take_snoc h]; unfold dueR; rw [List.filter_append]; simp [e]
theorem rest_le (l : List Ch) (ev : Int) : (restR l ev).length ≤ l.length := List.length_filter_le _ _
theorem due_le (l : List Ch) (ev : Int) : (dueR l ev).length ≤ l.length := List.length_filter_le _ _
theorem has {α : Type} {l : List α} {n j : Nat} (hl : l.length = n) (h : j < n) : ∃ x, l[j]? = some x ∧ x ∈ l := ⟨l[j]'(by omega), List.getElem?_eq_getElem (by omega), List.getElem_mem _⟩
theorem flat_lenH {l : List Ch} {n : Nat} (h : l.length = n) : (l.flatMap encH).length = n * 8 := by rw [flat_len sizH, h]
theorem flat_oneH (l : List Ch) : ∀ u ∈ l.flatMap encH, u.oneCell' = true := flat_one sizH l
theorem flat_add (l : List Ch) (x : Ch) : l.flatMap encH ++ encH x = (l ++ [x]).flatMap encH := by simp
end Go.Proofs.Ytejojcanmlgegaa.Nst
