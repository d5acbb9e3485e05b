/- Lists of addresses: what is on them, what is added and removed, what policies allow: plain mathematics. No program is mentioned. -/
import Derived.Test.YtegmknmbgifmjaaDoorAdrMath
import Derived.Test.YtegmknmbgifmjaaDoorRw
set_option linter.unusedVariables false
set_option linter.unusedSimpArgs false
namespace Go.Proofs.YtegmknmbgifmjaaDoor.Ace
open Go.RowKit Mem Rw

def encA (x : Int × Int) : List Value := [.int .i64 x.1, .int .u64 x.2]
theorem sizA : Sized encA 2 := fun x => ⟨rfl, by intro u hu; simp [encA] at hu; rcases hu with rfl | rfl <;> rfl⟩
/-- Whether two addresses are equal. -/
def eqA (x a : Int × Int) : Bool := x.1 == a.1 && x.2 == a.2
theorem eqA_iff {x a : Int × Int} : eqA x a = true ↔ x = a := by
  obtain ⟨x1, x2⟩ := x; obtain ⟨a1, a2⟩ := a
  simp [eqA]
theorem eqA_not {x a : Int × Int} : eqA x a = false ↔ ¬ x = a := by
  rw [← eqA_iff]; cases eqA x a <;> simp
/-- Whether an address is on a list. -/
def onB (l : List (Int × Int)) (a : Int × Int) : Bool := l.any fun x => eqA x a
theorem take_snoc {α : Type} {l : List α} {j : Nat} {x : α} (h : l[j]? = some x) : l.take (j + 1) = l.take j ++ [x] := by
  have hk : j < l.length := (List.getElem?_eq_some_iff.1 h).1
  rw [List.take_succ_eq_append_getElem hk, (List.getElem?_eq_some_iff.1 h).2]
theorem on_nil (a : Int × Int) : onB [] a = false := rfl
theorem on_snoc (l : List (Int × Int)) (x a : Int × Int) : onB (l ++ [x]) a = (onB l a || eqA x a) := by simp [onB]
theorem on_take {l : List (Int × Int)} {j : Nat} {x a : Int × Int} (h : l[j]? = some x) : onB (l.take (j + 1)) a = (onB (l.take j) a || eqA x a) := by
  rw [take_snoc h, on_snoc]
theorem on_at {l : List (Int × Int)} {j : Nat} {x a : Int × Int} (h : l[j]? = some x) (e : eqA x a = true) : onB l a = true := by
  simp only [onB, List.any_eq_true]
  exact ⟨x, List.mem_of_getElem? h, e⟩
theorem on_step {l : List (Int × Int)} {j : Nat} {x a : Int × Int} (h : l[j]? = some x) (e : eqA x a = false) (hp : onB (l.take j) a = false) : onB (l.take (j + 1)) a = false := by
  rw [on_take h, hp, e]; rfl
theorem on_all {l : List (Int × Int)} {n : Nat} {a : Int × Int} (h : l.length = n) : onB (l.take n) a = onB l a := by rw [List.take_of_length_le (by omega)]
theorem on_mem {l : List (Int × Int)} {a : Int × Int} : onB l a = true ↔ a ∈ l := by
  simp only [onB, List.any_eq_true]
  constructor
  · rintro ⟨x, hx, e⟩; rw [eqA_iff] at e; exact e ▸ hx
  · intro h; exact ⟨a, h, eqA_iff.2 rfl⟩
/-- A list without an address. -/
def remR (l : List (Int × Int)) (a : Int × Int) : List (Int × Int) := l.filter fun x => !eqA x a
theorem rem_take {l : List (Int × Int)} {j : Nat} {x a : Int × Int} (h : l[j]? = some x) : remR (l.take (j + 1)) a = remR (l.take j) a ++ (if eqA x a = true then [] else [x]) := by
  rw [take_snoc h]; unfold remR; rw [List.filter_append]
  cases e : eqA x a <;> simp [e]
theorem rem_yes {l : List (Int × Int)} {j : Nat} {x a : Int × Int} (h : l[j]? = some x) (e : eqA x a = true) : remR (l.take (j + 1)) a = remR (l.take j) a := by rw [rem_take h, if_pos e, List.append_nil]
theorem rem_no {l : List (Int × Int)} {j : Nat} {x a : Int × Int} (h : l[j]? = some x) (e : eqA x a = false) : remR (l.take (j + 1)) a = remR (l.take j) a ++ [x] := by rw [rem_take h, if_neg (by rw [e]; simp)]
theorem rem_le (l : List (Int × Int)) (a : Int × Int) : (remR l a).length ≤ l.length := List.length_filter_le _ _
theorem rem_off {l : List (Int × Int)} {a : Int × Int} (h : onB l a = false) : remR l a = l := by
  unfold remR
  rw [List.filter_eq_self]
  intro x hx
  have : eqA x a = false := by
    rw [eqA_not]; rintro rfl
    rw [on_mem.2 hx] at h; cases h
  rw [this]; rfl
theorem rem_on {l : List (Int × Int)} {a : Int × Int} (h : onB l a = true) : (remR l a).length < l.length := by
  have hm := on_mem.1 h
  unfold remR
  have := List.length_filter_lt_length_iff_exists (p := fun x => !eqA x a) (l := l)
  rw [this]
  exact ⟨a, hm, by simp [eqA_iff.2 rfl]⟩
theorem on_rem (l : List (Int × Int)) (a : Int × Int) : onB (remR l a) a = false := by
  cases h : onB (remR l a) a with
  | false => rfl
  | true =>
    rw [on_mem] at h
    unfold remR at h
    rw [List.mem_filter] at h
    simp [eqA_iff.2 rfl] at h
/-- What adding and removing make of a list, with the error. -/
def addL (l : List (Int × Int)) (a : Int × Int) : List (Int × Int) × Int :=
  if Adr.chk a.1 a.2 = 0 then if onB l a = true then (l, 7) else if 64 ≤ l.length then (l, 8) else (l ++ [a], 0) else (l, Adr.chk a.1 a.2)
def remL (l : List (Int × Int)) (a : Int × Int) : List (Int × Int) × Int := if onB l a = true then (remR l a, 0) else (l, 6)
theorem add_bad {l : List (Int × Int)} {a : Int × Int} (h : ¬ Adr.chk a.1 a.2 = 0) : addL l a = (l, Adr.chk a.1 a.2) := by unfold addL; rw [if_neg h]
theorem add_on {l : List (Int × Int)} {a : Int × Int} (h : Adr.chk a.1 a.2 = 0) (h1 : onB l a = true) : addL l a = (l, 7) := by unfold addL; rw [if_pos h, if_pos h1]
theorem add_full {l : List (Int × Int)} {a : Int × Int} (h : Adr.chk a.1 a.2 = 0) (h1 : onB l a = false) (h2 : 64 ≤ l.length) : addL l a = (l, 8) := by unfold addL; rw [if_pos h, if_neg (by rw [h1]; simp), if_pos h2]
theorem add_ok {l : List (Int × Int)} {a : Int × Int} (h : Adr.chk a.1 a.2 = 0) (h1 : onB l a = false) (h2 : l.length < 64) : addL l a = (l ++ [a], 0) := by unfold addL; rw [if_pos h, if_neg (by rw [h1]; simp), if_neg (by omega)]
theorem rem_has {l : List (Int × Int)} {a : Int × Int} (h1 : onB l a = true) : remL l a = (remR l a, 0) := by unfold remL; rw [if_pos h1]
theorem rem_none {l : List (Int × Int)} {a : Int × Int} (h1 : onB l a = false) : remL l a = (l, 6) := by unfold remL; rw [if_neg (by rw [h1]; simp)]
/-- What policies allow: o tells whether the address is on the list. -/
def openB (p r : Int) : Bool := (r == 3 && (p == 0 || p == 2)) || (r == 5 && (p == 0 || p == 1))
def closedB (p r : Int) : Bool := (r == 3 && (p == 1 || p == 3)) || (r == 5 && (p == 2 || p == 3))
def allowB (p r : Int) (o : Bool) : Bool := openB p r || (closedB p r && o)
end Go.Proofs.YtegmknmbgifmjaaDoor.Ace
