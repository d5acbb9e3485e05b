/- What Take gives of the form. -/
import Derived.Test.YtmcpgnmkjebbjaaCnDecM
import Derived.Test.YtmcpgnmkjebbjaaOctTake
set_option linter.unusedVariables false
set_option linter.unusedSimpArgs false
namespace Go.Proofs.Ytmcpgnmkjebbjaa.Cn
open Go.RowKit Mem Clk Rw

abbrev Nums (w : World) (k : Nat) (a b s o i l t : Int) (m : Nat) (h d g : Int) : Prop := w.cell? ⟨k, 0, none⟩ = some (.int .u64 a) ∧ w.cell? ⟨k, 1, none⟩ = some (.int .u64 b) ∧ w.cell? ⟨k, 2, none⟩ = some (.int .u64 s) ∧ w.cell? ⟨k, 3, none⟩ = some (.int .u64 o) ∧ w.cell? ⟨k, 4, none⟩ = some (.int .u64 i) ∧ w.cell? ⟨k, 5, none⟩ = some (.int .u64 l) ∧ w.cell? ⟨k, 6, none⟩ = some (.int .u64 t) ∧ w.cell? ⟨k, 7, none⟩ = some (.int .u64 (m : Int)) ∧ w.cell? ⟨k, 8, none⟩ = some (.int .u64 h) ∧ w.cell? ⟨k, 9, none⟩ = some (.int .u64 d) ∧ w.cell? ⟨k, 10, none⟩ = some (.int .u64 g)
theorem nums_below {w w' : World} {k : Nat} {a b s o i l t : Int} {m : Nat} {h d g : Int} (H : Nums w k a b s o i l t m h d g) (x : Below w.heap.size w w') : Nums w' k a b s o i l t m h d g := by
  have hg := World.block_lt_of_cell? _ _ H.1
  obtain ⟨h0, h1, h2, h3, h4, h5, h6, h7, h8, h9, h10⟩ := H
  exact ⟨(x.cell (p := ⟨k, 0, none⟩) hg).trans h0, (x.cell (p := ⟨k, 1, none⟩) hg).trans h1, (x.cell (p := ⟨k, 2, none⟩) hg).trans h2, (x.cell (p := ⟨k, 3, none⟩) hg).trans h3, (x.cell (p := ⟨k, 4, none⟩) hg).trans h4, (x.cell (p := ⟨k, 5, none⟩) hg).trans h5, (x.cell (p := ⟨k, 6, none⟩) hg).trans h6, (x.cell (p := ⟨k, 7, none⟩) hg).trans h7, (x.cell (p := ⟨k, 8, none⟩) hg).trans h8, (x.cell (p := ⟨k, 9, none⟩) hg).trans h9, (x.cell (p := ⟨k, 10, none⟩) hg).trans h10⟩
theorem par_set {X : World} {g : Nat} {t : TypeId} {z0 z1 z2 z3 z4 z5 z6 z7 z8 z9 z10 : Value} (v0 v1 v2 v3 v4 v5 v6 v7 v8 v9 v10 : Value) (h : Blk X g t #[z0, z1, z2, z3, z4, z5, z6, z7, z8, z9, z10]) :
    Blk (((((((((((X.setCell ⟨g, 0, none⟩ (v0)).setCell ⟨g, 1, none⟩ (v1)).setCell ⟨g, 2, none⟩ (v2)).setCell ⟨g, 3, none⟩ (v3)).setCell ⟨g, 4, none⟩ (v4)).setCell ⟨g, 5, none⟩ (v5)).setCell ⟨g, 6, none⟩ (v6)).setCell ⟨g, 7, none⟩ (v7)).setCell ⟨g, 8, none⟩ (v8)).setCell ⟨g, 9, none⟩ (v9)).setCell ⟨g, 10, none⟩ (v10)) g t #[v0, v1, v2, v3, v4, v5, v6, v7, v8, v9, v10] := by
  have := (blk_setc (blk_setc (blk_setc (blk_setc (blk_setc (blk_setc (blk_setc (blk_setc (blk_setc (blk_setc (blk_setc h 0 v0) 1 v1) 2 v2) 3 v3) 4 v4) 5 v5) 6 v6) 7 v7) 8 v8) 9 v9) 10 v10)
  simpa using this
theorem par_below {W X : World} {B g : Nat} (v0 v1 v2 v3 v4 v5 v6 v7 v8 v9 v10 : Value) (b : Below B W X) (hg : B ≤ g) : Below B W (((((((((((X.setCell ⟨g, 0, none⟩ (v0)).setCell ⟨g, 1, none⟩ (v1)).setCell ⟨g, 2, none⟩ (v2)).setCell ⟨g, 3, none⟩ (v3)).setCell ⟨g, 4, none⟩ (v4)).setCell ⟨g, 5, none⟩ (v5)).setCell ⟨g, 6, none⟩ (v6)).setCell ⟨g, 7, none⟩ (v7)).setCell ⟨g, 8, none⟩ (v8)).setCell ⟨g, 9, none⟩ (v9)).setCell ⟨g, 10, none⟩ (v10)) :=
  (((((((((((b.setCell (p := ⟨g, 0, none⟩) hg _).setCell (p := ⟨g, 1, none⟩) hg _).setCell (p := ⟨g, 2, none⟩) hg _).setCell (p := ⟨g, 3, none⟩) hg _).setCell (p := ⟨g, 4, none⟩) hg _).setCell (p := ⟨g, 5, none⟩) hg _).setCell (p := ⟨g, 6, none⟩) hg _).setCell (p := ⟨g, 7, none⟩) hg _).setCell (p := ⟨g, 8, none⟩) hg _).setCell (p := ⟨g, 9, none⟩) hg _).setCell (p := ⟨g, 10, none⟩) hg _)
theorem upd_below' {W X : World} {B g : Nat} (v0 v1 v2 v3 v4 : Value) (b : Below B W X) (hg : B ≤ g) : Below B W (((((X.setCell ⟨g, 0, none⟩ (v0)).setCell ⟨g, 1, none⟩ (v1)).setCell ⟨g, 2, none⟩ (v2)).setCell ⟨g, 3, none⟩ (v3)).setCell ⟨g, 4, none⟩ (v4)) :=
  (((((b.setCell (p := ⟨g, 0, none⟩) hg _).setCell (p := ⟨g, 1, none⟩) hg _).setCell (p := ⟨g, 2, none⟩) hg _).setCell (p := ⟨g, 3, none⟩) hg _).setCell (p := ⟨g, 4, none⟩) hg _)
theorem par_frz {w : World} {k : Nat} {ty : TypeId} {cs : Array Value} (H : Blk w k ty cs) : w.frozen? ⟨k, 0, none⟩ = false ∧ w.frozen? ⟨k, 1, none⟩ = false ∧ w.frozen? ⟨k, 2, none⟩ = false ∧ w.frozen? ⟨k, 3, none⟩ = false ∧ w.frozen? ⟨k, 4, none⟩ = false ∧ w.frozen? ⟨k, 5, none⟩ = false ∧ w.frozen? ⟨k, 6, none⟩ = false ∧ w.frozen? ⟨k, 7, none⟩ = false ∧ w.frozen? ⟨k, 8, none⟩ = false ∧ w.frozen? ⟨k, 9, none⟩ = false ∧ w.frozen? ⟨k, 10, none⟩ = false :=
  ⟨frz H 0, frz H 1, frz H 2, frz H 3, frz H 4, frz H 5, frz H 6, frz H 7, frz H 8, frz H 9, frz H 10⟩
def zrL : List Int := nmL 0 0 0 0 0 0 0 0 0 0 0
def okN (n : List Int) : Int := okP (n.getD 0 0) (n.getD 1 0) (n.getD 2 0) (n.getD 3 0) (n.getD 4 0) (n.getD 5 0) (n.getD 6 0) (n.getD 7 0).toNat (n.getD 8 0) (n.getD 9 0) (n.getD 10 0)
def parN (n : List Int) : Value := .agg (par (n.getD 0 0) (n.getD 1 0) (n.getD 2 0) (n.getD 3 0) (n.getD 4 0) (n.getD 5 0) (n.getD 6 0) (n.getD 7 0).toNat (n.getD 8 0) (n.getD 9 0) (n.getD 10 0))
/-- What Decode returns: the numbers, and the error. -/
def decR (xs : List Int) : List Int × Int := if xs.length < 25 then (zrL, 3) else if 25 < xs.length then (zrL, 2) else if okN (Oct.numsL xs szL) = 0 then (Oct.numsL xs szL, 0) else (zrL, okN (Oct.numsL xs szL))
theorem okN_nm (a b s o i l t : Int) (m : Nat) (h d g : Int) : okN (nmL a b s o i l t m h d g) = okP a b s o i l t m h d g := by
  simp [okN, nmL]
theorem parN_nm (a b s o i l t : Int) (m : Nat) (h d g : Int) : parN (nmL a b s o i l t m h d g) = .agg (par a b s o i l t m h d g) := by
  simp [parN, nmL, par]
theorem sz_sizes : Oct.Sizes szL := fun z hz => by have := sz_bd z hz; omega
theorem sz_sum : Oct.okZ szL = true ∧ Oct.sumZ szL = 25 := by decide
theorem take_short (A A' : Option Addr) (n c c' : Nat) (xs : List Int) (w : World) (hx : xs.length = n) (hnc : n ≤ c) (hn : n ≤ 140737488351232) (bxs : Bytes xs) (hr : Ints .u8 w w.heap.size A xs) (hr' : Ints .i64 w w.heap.size A' szL) (h : n < 25) :
    Calls Try.prog 46 #[.slice A n c, .slice A' 11 c'] w fun e w' => (∃ A1 c1 A2 c2, e = .returned (.tuple #[.slice A1 0 c1, .slice A2 0 c2, .int .i64 3])) ∧ Below w.heap.size w w' := by
  refine (Oct.take_any A A' n 11 c c' xs szL w hx rfl hnc hn (by decide) bxs sz_sizes hr hr').mono ?_
  rw [Oct.takeR_short sz_sum.1 (by rw [sz_sum.2]; omega)]
  rintro e w' ⟨A1, c1, A2, c2, he, o1, o2, b⟩
  exact ⟨⟨A1, c1, A2, c2, he⟩, b⟩
theorem take_good (A A' : Option Addr) (n c c' : Nat) (xs : List Int) (w : World) (hx : xs.length = n) (hnc : n ≤ c) (hn : n ≤ 140737488351232) (bxs : Bytes xs) (hr : Ints .u8 w w.heap.size A xs) (hr' : Ints .i64 w w.heap.size A' szL) (h : 25 ≤ n) :
    Calls Try.prog 46 #[.slice A n c, .slice A' 11 c'] w fun e w' => (∃ q c1 A2 c2, e = .returned (.tuple #[.slice (some ⟨q, 0, none⟩) 11 c1, .slice A2 (n - 25) c2, .int .i64 0]) ∧ w.heap.size ≤ q ∧ 11 ≤ c1 ∧ ∀ (a b s o i l t : Int) (m : Nat) (h d g : Int), Oct.numsL xs szL = nmL a b s o i l t m h d g → Nums w' q a b s o i l t m h d g) ∧ Below w.heap.size w w' := by
  refine (Oct.take_any A A' n 11 c c' xs szL w hx rfl hnc hn (by decide) bxs sz_sizes hr hr').mono ?_
  rw [Oct.takeR_good sz_sum.1 (by rw [sz_sum.2]; omega)]
  rintro e w' ⟨A1, c1, A2, c2, he, o1, o2, b⟩
  have hl : (Oct.numsL xs szL).length = 11 := by rw [Oct.numsL_len]; rfl
  have hl2 : (xs.drop (Oct.sumZ szL).toNat).length = n - 25 := by rw [sz_sum.2, List.length_drop, hx]; rfl
  simp only [hl, hl2] at he o1
  obtain ⟨q, rfl, hq, hq2⟩ := Base.own_block o1 (by decide)
  refine ⟨⟨q, c1, A2, c2, he, hq, own_cap o1, ?_⟩, b⟩
  intro a b' s o i l t m h' d g hN
  rw [hN] at o1
  obtain ⟨b1, off, e1, hb1, hc⟩ := (Ints.own o1).at_ (i := 0) (Nat.succ_pos _)
  injection e1 with e1; injection e1 with e1 e2; subst e1; subst e2
  have H : ∀ j, j < 11 → _ := fun j hj => hc j hj
  simp only [Nat.zero_add] at H
  exact ⟨H 0 (by decide), H 1 (by decide), H 2 (by decide), H 3 (by decide), H 4 (by decide), H 5 (by decide), H 6 (by decide), H 7 (by decide), H 8 (by decide), H 9 (by decide), H 10 (by decide)⟩
theorem rtake_short (A A' : Option Addr) (n c c' : Nat) (xs : List Int) (w : World) (hx : xs.length = n) (hnc : n ≤ c) (hn : n ≤ 140737488351232) (bxs : Bytes xs) (hr : Ints .u8 w w.heap.size A xs) (hr' : Ints .i64 w w.heap.size A' szL) (h : n < 25) :
    Calls Try.prog 48 #[.slice A n c, .slice A' 11 c'] w fun e w' => (∃ A1 c1 A2 c2, e = .returned (.tuple #[.slice A1 0 c1, .slice A2 0 c2, .int .i64 3])) ∧ Below w.heap.size w w' := by
  refine (Oct.rtake_any A A' n 11 c c' xs szL w hx rfl hnc hn (by decide) bxs sz_sizes hr hr').mono ?_
  rw [Oct.takeR_short sz_sum.1 (by rw [sz_sum.2]; omega)]
  rintro e w' ⟨A1, c1, A2, c2, he, o1, o2, b⟩
  exact ⟨⟨A1, c1, A2, c2, he⟩, b⟩
theorem rtake_good (A A' : Option Addr) (n c c' : Nat) (xs : List Int) (w : World) (hx : xs.length = n) (hnc : n ≤ c) (hn : n ≤ 140737488351232) (bxs : Bytes xs) (hr : Ints .u8 w w.heap.size A xs) (hr' : Ints .i64 w w.heap.size A' szL) (h : 25 ≤ n) :
    Calls Try.prog 48 #[.slice A n c, .slice A' 11 c'] w fun e w' => (∃ q c1 A2 c2, e = .returned (.tuple #[.slice (some ⟨q, 0, none⟩) 11 c1, .slice A2 (n - 25) c2, .int .i64 0]) ∧ w.heap.size ≤ q ∧ 11 ≤ c1 ∧ ∀ (a b s o i l t : Int) (m : Nat) (h d g : Int), Oct.numsL xs szL = nmL a b s o i l t m h d g → Nums w' q a b s o i l t m h d g) ∧ Below w.heap.size w w' := by
  refine (Oct.rtake_any A A' n 11 c c' xs szL w hx rfl hnc hn (by decide) bxs sz_sizes hr hr').mono ?_
  rw [Oct.takeR_good sz_sum.1 (by rw [sz_sum.2]; omega)]
  rintro e w' ⟨A1, c1, A2, c2, he, o1, o2, b⟩
  have hl : (Oct.numsL xs szL).length = 11 := by rw [Oct.numsL_len]; rfl
  have hl2 : (xs.drop (Oct.sumZ szL).toNat).length = n - 25 := by rw [sz_sum.2, List.length_drop, hx]; rfl
  simp only [hl, hl2] at he o1
  obtain ⟨q, rfl, hq, hq2⟩ := Base.own_block o1 (by decide)
  refine ⟨⟨q, c1, A2, c2, he, hq, own_cap o1, ?_⟩, b⟩
  intro a b' s o i l t m h' d g hN
  rw [hN] at o1
  obtain ⟨b1, off, e1, hb1, hc⟩ := (Ints.own o1).at_ (i := 0) (Nat.succ_pos _)
  injection e1 with e1; injection e1 with e1 e2; subst e1; subst e2
  have H : ∀ j, j < 11 → _ := fun j hj => hc j hj
  simp only [Nat.zero_add] at H
  exact ⟨H 0 (by decide), H 1 (by decide), H 2 (by decide), H 3 (by decide), H 4 (by decide), H 5 (by decide), H 6 (by decide), H 7 (by decide), H 8 (by decide), H 9 (by decide), H 10 (by decide)⟩
end Go.Proofs.Ytmcpgnmkjebbjaa.Cn
