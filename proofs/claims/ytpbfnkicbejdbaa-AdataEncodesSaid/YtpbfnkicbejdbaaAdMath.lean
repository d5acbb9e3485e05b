/- Plain arithmetic for advertising data, and elements in memory. No program is mentioned. -/
import Derived.Test.YtpbfnkicbejdbaaAirOwn0
import Derived.Test.YtpbfnkicbejdbaaOctMath
set_option linter.unusedVariables false
set_option linter.unusedSimpArgs false
namespace Go.Proofs.Ytpbfnkicbejdbaa.Ad
open Go.RowKit Mem Rw

/-- An element: its kind, its value, and where that lies. -/
structure El where
  k : Int
  A : Option Addr
  c : Nat
  v : List Int
abbrev E := Int × List Int
def El.e (x : El) : E := (x.k, x.v)
def encE (x : El) : List Value := [.int .i64 x.k, .slice x.A x.v.length x.c]
theorem sizE : Sized encE 2 := fun x => ⟨rfl, fun u hu => by simp [encE] at hu; rcases hu with rfl | rfl <;> rfl⟩
def OwnE (w : World) (B : Nat) (x : El) : Prop := x.v.length ≤ x.c ∧ x.v.length ≤ 140737488355328 ∧ Ints .u8 w B x.A x.v
def ElsAt (w : World) (B : Nat) (A : Option Addr) (l : List El) : Prop := ListAt encE w B A l ∧ ∀ x ∈ l, OwnE w B x
section
variable {w w' : World} {B B' : Nat} {A : Option Addr} {l : List El} {x : El}
theorem OwnE.below (h : OwnE w B x) (hb : Below B w w') : OwnE w' B x := ⟨h.1, h.2.1, h.2.2.below hb⟩
theorem OwnE.more (h : OwnE w B x) (hB : B ≤ B') : OwnE w B' x := ⟨h.1, h.2.1, h.2.2.more hB⟩
theorem OwnE.later (h : OwnE w w.heap.size x) (hb : Below w.heap.size w w') : OwnE w' w'.heap.size x := (h.below hb).more hb.size
theorem ElsAt.below (h : ElsAt w B A l) (hb : Below B w w') : ElsAt w' B A l := ⟨CellsAt.below h.1 hb, fun x hx => (h.2 x hx).below hb⟩
theorem ElsAt.more (h : ElsAt w B A l) (hB : B ≤ B') : ElsAt w B' A l := ⟨CellsAt.more h.1 hB, fun x hx => (h.2 x hx).more hB⟩
theorem ElsAt.later (h : ElsAt w w.heap.size A l) (hb : Below w.heap.size w w') : ElsAt w' w'.heap.size A l := (h.below hb).more hb.size
theorem ElsAt.kept (h : ElsAt w w.heap.size A l) (o : Obj) : ElsAt (w.alloc o) (w.alloc o).heap.size A l := h.later ((Below.refl _ w).alloc (Nat.le_refl _) o)
theorem has {α : Type} {l : List α} {j n : Nat} (hn : l.length = n) (h : j < n) : ∃ x, l[j]? = some x ∧ x ∈ l := ⟨l[j]'(by omega), List.getElem?_eq_getElem (by omega), List.getElem_mem _⟩
theorem el_cells (h : ElsAt w B A l) (hl : 0 < l.length) :
    ∃ b off, A = some ⟨b, off, none⟩ ∧ b < B ∧ ∀ (j : Nat) x, l[j]? = some x → w.cell? ⟨b, off + j * 2, none⟩ = some (.int .i64 x.k) ∧ w.cell? ⟨b, off + j * 2 + 1, none⟩ = some (.slice x.A x.v.length x.c) := by
  obtain ⟨b, off, e, hb, hc⟩ := ListAt.open_ h.1 sizE (by decide) hl
  exact ⟨b, off, e, hb, fun j x hj => ⟨hc j x hj 0 _ rfl, hc j x hj 1 _ rfl⟩⟩
theorem cells_ints {k : IntKind} {zs : List Int} (h : Ints k w B A zs) : CellsAt w B A (zs.map (Value.int k)) := by
  rcases h with rfl | ⟨b, off, e, hb, hc⟩
  · exact .inl rfl
  · refine .inr ⟨b, off, e, hb, fun q u hq => ?_⟩
    have hlt : q < zs.length := by
      rcases Nat.lt_or_ge q zs.length with h | h
      · exact h
      · rw [List.getElem?_eq_none (by simpa using h)] at hq; cases hq
    rw [List.getElem?_map, List.getElem?_eq_getElem hlt] at hq
    simp only [Option.map_some, Option.some.injEq] at hq
    rw [hc q hlt, ← hq]
    simp [List.getD, List.getElem?_eq_getElem hlt]
theorem one_ints (zs : List Int) (k : IntKind) : ∀ u ∈ zs.map (Value.int k), u.oneCell' = true := by
  intro u hu
  obtain ⟨z, _, rfl⟩ := List.mem_map.mp hu
  rfl
end

/-! ### Bytes of elements -/
def encB (x : E) : List Int := (1 + (x.2.length : Int)) % 256 :: x.1 % 256 :: x.2
def allB (l : List E) : List Int := l.flatMap encB
def kindOk (x : E) : Bool := decide (0 ≤ x.1) && decide (x.1 ≤ 255)
def encR (l : List E) : List Int × Int := if l.all kindOk then (if (allB l).length ≤ 31 then (allB l, 0) else ([], 4)) else ([], 5)
theorem encB_len (x : E) : (encB x).length = x.2.length + 2 := rfl
theorem allB_app (l m : List E) : allB (l ++ m) = allB l ++ allB m := List.flatMap_append
theorem allB_take {l : List E} {j : Nat} {x : E} (h : l[j]? = some x) : allB (l.take (j + 1)) = allB (l.take j) ++ encB x := by
  have hk : j < l.length := (List.getElem?_eq_some_iff.1 h).1
  rw [List.take_succ_eq_append_getElem hk, (List.getElem?_eq_some_iff.1 h).2, allB_app]
  simp [allB]
theorem allB_le (l : List E) (j : Nat) : (allB (l.take j)).length ≤ (allB l).length := by
  conv => rhs; rw [← List.take_append_drop j l, allB_app, List.length_append]
  omega
theorem kinds_no {l : List E} {j : Nat} {x : E} (h : l[j]? = some x) (hk : kindOk x = false) : encR l = ([], 5) := by
  unfold encR
  rw [if_neg]
  intro ha
  have := List.all_eq_true.1 ha x (List.mem_of_getElem? h)
  rw [hk] at this; cases this
theorem encR_long {l : List E} (h : l.all kindOk = true) (hl : 31 < (allB l).length) : encR l = ([], 4) := by unfold encR; rw [if_pos h, if_neg (by omega)]
theorem encR_ok {l : List E} (h : l.all kindOk = true) (hl : (allB l).length ≤ 31) : encR l = (allB l, 0) := by unfold encR; rw [if_pos h, if_pos hl]
theorem all_take {l : List E} {j : Nat} {x : E} (h : l[j]? = some x) (ha : (l.take j).all kindOk = true) (hx : kindOk x = true) : (l.take (j + 1)).all kindOk = true := by
  have hk : j < l.length := (List.getElem?_eq_some_iff.1 h).1
  rw [List.take_succ_eq_append_getElem hk, (List.getElem?_eq_some_iff.1 h).2, List.all_append, ha]
  simp [hx]
theorem len_at {l : List E} {j : Nat} {x : E} (h : l[j]? = some x) : x.2.length + 2 ≤ (allB l).length := by
  have := allB_le l (j + 1)
  rw [allB_take h, List.length_append, encB_len] at this
  omega

/-! ### Elements of bytes -/
def run : Nat → List E → List Int → List E × Int
  | 0, acc, _ => (acc, 0)
  | _ + 1, acc, [] => (acc, 0)
  | f + 1, acc, n :: r => if n = 0 then ([], 2) else if (r.length : Int) < n then ([], 3) else run f (acc ++ [(r.headD 0, (r.drop 1).take (n.toNat - 1))]) (r.drop n.toNat)
def decR (xs : List Int) : List E × Int := if 31 < xs.length then ([], 4) else run 32 [] xs
theorem run_nil (f : Nat) (acc : List E) : run f acc [] = (acc, 0) := by cases f <;> rfl
theorem run_zero {f : Nat} {acc : List E} {n : Int} {r : List Int} (h : n = 0) : run (f + 1) acc (n :: r) = ([], 2) := by rw [run, if_pos h]
theorem run_short {f : Nat} {acc : List E} {n : Int} {r : List Int} (h : n ≠ 0) (h2 : (r.length : Int) < n) : run (f + 1) acc (n :: r) = ([], 3) := by rw [run, if_neg h, if_pos h2]
theorem run_step {f : Nat} {acc : List E} {n : Int} {r : List Int} (h : n ≠ 0) (h2 : ¬ (r.length : Int) < n) : run (f + 1) acc (n :: r) = run f (acc ++ [(r.headD 0, (r.drop 1).take (n.toNat - 1))]) (r.drop n.toNat) := by rw [run, if_neg h, if_neg h2]
/-- What follows does not depend on the fuel, if there is enough. -/
theorem run_acc (f : Nat) : ∀ (acc : List E) (xs : List Int), run f acc xs = (if (run f [] xs).2 = 0 then (acc ++ (run f [] xs).1, 0) else ([], (run f [] xs).2)) := by
  induction f with
  | zero => intro acc xs; simp [run]
  | succ f ih =>
    intro acc xs
    cases xs with
    | nil => simp [run]
    | cons n r =>
      by_cases h : n = 0
      · rw [run_zero h, run_zero h]; simp
      · by_cases h2 : (r.length : Int) < n
        · rw [run_short h h2, run_short h h2]; simp
        · rw [run_step h h2, run_step h h2, ih, ih ([] ++ _)]
          by_cases h3 : (run f [] (r.drop n.toNat)).2 = 0
          · simp [h3]
          · simp [h3]
theorem run_err (f : Nat) (acc : List E) (xs : List Int) (h : (run f acc xs).2 ≠ 0) : (run f acc xs).1 = [] := by
  rw [run_acc] at h ⊢
  split
  · rename_i h0; rw [if_pos h0] at h; exact absurd rfl h
  · rfl
theorem decR_err {xs : List Int} (h : (decR xs).2 ≠ 0) : (decR xs).1 = [] := by
  unfold decR at h ⊢
  split
  · rfl
  · rename_i h0; rw [if_neg h0] at h; exact run_err _ _ _ h
theorem decR_bd (xs : List Int) : 0 ≤ (decR xs).2 ∧ (decR xs).2 ≤ 4 := by
  unfold decR
  split
  · simp
  · have : ∀ (f : Nat) (acc : List E) (l : List Int), 0 ≤ (run f acc l).2 ∧ (run f acc l).2 ≤ 4 := by
      intro f
      induction f with
      | zero => intro acc l; simp [run]
      | succ f ih =>
        intro acc l
        cases l with
        | nil => simp [run]
        | cons n r =>
          rw [run]
          split
          · simp
          · split
            · simp
            · exact ih _ _
    exact this _ _ _
/-- Values of a kind; the first; services. -/
def vals (xs : List Int) (k : Int) : List (List Int) := ((decR xs).1.filter (fun x => x.1 == k)).map (·.2)
def findR (xs : List Int) (k : Int) : List Int × Bool := match vals xs k with | [] => ([], false) | v :: _ => (v, true)
def svc : List Int → List Int
  | a :: b :: r => (a + 256 * b) :: svc r
  | _ => []
def svcR (xs : List Int) : List Int := (vals xs 3).flatMap svc
end Go.Proofs.Ytpbfnkicbejdbaa.Ad
