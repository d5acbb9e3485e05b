/- Which transmission a receiver gets: the layer's answer. -/
import Derived.Test.YtocmcjbhmjbmhaaAirHear1
import Derived.Deep.CutRange
set_option linter.unusedVariables false
set_option linter.unusedSimpArgs false
namespace Go.Proofs.Ytocmcjbhmjbmhaa.Air
open Go.RowKit Mem Rw Base

def upd (P : Tr → Bool) (o : Option (Nat × Tr)) (k : Nat) (t : Tr) : Option (Nat × Tr) :=
  if P t then (match o with | none => some (k, t) | some (b, u) => if t.st < u.st then some (k, t) else some (b, u)) else o
def bst (P : Tr → Bool) : List Tr → Nat → Option (Nat × Tr) → Option (Nat × Tr)
  | [], _, o => o
  | t :: r, k, o => bst P r (k + 1) (upd P o k t)
def oZ : Option (Nat × Tr) → Int
  | none => -1
  | some (b, _) => b
theorem bst_at {P : Tr → Bool} {l : List Tr} {j : Nat} {t : Tr} {o R : Option (Nat × Tr)} (h : l[j]? = some t) (he : bst P (l.drop j) j o = R) : bst P (l.drop (j + 1)) (j + 1) (upd P o j t) = R := by
  rw [drop_at h, bst] at he; exact he
theorem bst_end {P : Tr → Bool} {l : List Tr} {j : Nat} {o R : Option (Nat × Tr)} (h : l.length ≤ j) (he : bst P (l.drop j) j o = R) : o = R := by
  rw [List.drop_eq_nil_of_le h] at he; exact he
/-- The place that is kept is a place of the list. -/
def In (l : List Tr) (j : Nat) (o : Option (Nat × Tr)) : Prop := ∀ b u, o = some (b, u) → b < j ∧ l[b]? = some u
theorem In.upd {l : List Tr} {j : Nat} {t : Tr} {o : Option (Nat × Tr)} (P : Tr → Bool) (h : In l j o) (ht : l[j]? = some t) : In l (j + 1) (upd P o j t) := by
  intro b u he
  unfold Air.upd at he
  split at he
  · cases o with
    | none => simp only [Option.some.injEq, Prod.mk.injEq] at he; obtain ⟨rfl, rfl⟩ := he; exact ⟨by omega, ht⟩
    | some q =>
      obtain ⟨b0, u0⟩ := q
      simp only at he
      split at he
      · simp only [Option.some.injEq, Prod.mk.injEq] at he; obtain ⟨rfl, rfl⟩ := he; exact ⟨by omega, ht⟩
      · simp only [Option.some.injEq, Prod.mk.injEq] at he; obtain ⟨rfl, rfl⟩ := he
        have := h b0 u0 rfl
        exact ⟨by omega, this.2⟩
  · have := h b u he
    exact ⟨by omega, this.2⟩
/-- What a receiver gets: the reception, and whether there is one. -/
def hearR (M : Med) (ts : List Tr) (l : Ln) : Option (Nat × Tr) := bst (reachB M.links l) ts 0 none
/-- The bytes of a reception of a kind. -/
def heard (z : Int) (bs : List Int) : List Int := if z = 1 then bs else []
theorem set_six {X : World} {g : Nat} {t : TypeId} {z0 z1 z2 z3 z4 z5 : Value} (v0 v1 v2 v3 v4 v5 : Value) (hb : Blk X g t #[z0, z1, z2, z3, z4, z5]) :
    ((((((X.setCell ⟨g, 0, none⟩ v0).setCell ⟨g, 1, none⟩ v1).setCell ⟨g, 2, none⟩ v2).setCell ⟨g, 3, none⟩ v3).setCell ⟨g, 4, none⟩ v4).setCell ⟨g, 5, none⟩ v5).cell? ⟨g, 0, none⟩ = some v0 ∧ ((((((X.setCell ⟨g, 0, none⟩ v0).setCell ⟨g, 1, none⟩ v1).setCell ⟨g, 2, none⟩ v2).setCell ⟨g, 3, none⟩ v3).setCell ⟨g, 4, none⟩ v4).setCell ⟨g, 5, none⟩ v5).cell? ⟨g, 1, none⟩ = some v1 ∧ ((((((X.setCell ⟨g, 0, none⟩ v0).setCell ⟨g, 1, none⟩ v1).setCell ⟨g, 2, none⟩ v2).setCell ⟨g, 3, none⟩ v3).setCell ⟨g, 4, none⟩ v4).setCell ⟨g, 5, none⟩ v5).cell? ⟨g, 2, none⟩ = some v2 ∧ ((((((X.setCell ⟨g, 0, none⟩ v0).setCell ⟨g, 1, none⟩ v1).setCell ⟨g, 2, none⟩ v2).setCell ⟨g, 3, none⟩ v3).setCell ⟨g, 4, none⟩ v4).setCell ⟨g, 5, none⟩ v5).cell? ⟨g, 3, none⟩ = some v3 ∧ ((((((X.setCell ⟨g, 0, none⟩ v0).setCell ⟨g, 1, none⟩ v1).setCell ⟨g, 2, none⟩ v2).setCell ⟨g, 3, none⟩ v3).setCell ⟨g, 4, none⟩ v4).setCell ⟨g, 5, none⟩ v5).cell? ⟨g, 4, none⟩ = some v4 ∧ ((((((X.setCell ⟨g, 0, none⟩ v0).setCell ⟨g, 1, none⟩ v1).setCell ⟨g, 2, none⟩ v2).setCell ⟨g, 3, none⟩ v3).setCell ⟨g, 4, none⟩ v4).setCell ⟨g, 5, none⟩ v5).cell? ⟨g, 5, none⟩ = some v5 := by
  have ne : ∀ a b : Nat, a ≠ b → (⟨g, a, none⟩ : Addr) ≠ ⟨g, b, none⟩ := fun a b h e => by injection e with _ e2; exact h e2
  have c0 : X.cell? ⟨g, 0, none⟩ = some z0 := hb.cell 0
  have c1 : X.cell? ⟨g, 1, none⟩ = some z1 := hb.cell 1
  have c2 : X.cell? ⟨g, 2, none⟩ = some z2 := hb.cell 2
  have c3 : X.cell? ⟨g, 3, none⟩ = some z3 := hb.cell 3
  have c4 : X.cell? ⟨g, 4, none⟩ = some z4 := hb.cell 4
  have c5 : X.cell? ⟨g, 5, none⟩ = some z5 := hb.cell 5
  have oth : ∀ (Y : World) (a b : Nat) (v : Value), a ≠ b → (Y.setCell ⟨g, a, none⟩ v).cell? ⟨g, b, none⟩ = Y.cell? ⟨g, b, none⟩ := fun Y a b v h => World.cell?_setCell_other Y _ _ v (ne a b h)
  refine ⟨?_, ?_, ?_, ?_, ?_, ?_⟩
  · rw [oth _ 5 0 _ (by decide), oth _ 4 0 _ (by decide), oth _ 3 0 _ (by decide), oth _ 2 0 _ (by decide), oth _ 1 0 _ (by decide), World.cell?_setCell_same' _ _ _ (by rw [c0]; rfl)]
  · rw [oth _ 5 1 _ (by decide), oth _ 4 1 _ (by decide), oth _ 3 1 _ (by decide), oth _ 2 1 _ (by decide), World.cell?_setCell_same' _ _ _ (by rw [oth _ 0 1 _ (by decide), c1]; rfl)]
  · rw [oth _ 5 2 _ (by decide), oth _ 4 2 _ (by decide), oth _ 3 2 _ (by decide), World.cell?_setCell_same' _ _ _ (by rw [oth _ 1 2 _ (by decide), oth _ 0 2 _ (by decide), c2]; rfl)]
  · rw [oth _ 5 3 _ (by decide), oth _ 4 3 _ (by decide), World.cell?_setCell_same' _ _ _ (by rw [oth _ 2 3 _ (by decide), oth _ 1 3 _ (by decide), oth _ 0 3 _ (by decide), c3]; rfl)]
  · rw [oth _ 5 4 _ (by decide), World.cell?_setCell_same' _ _ _ (by rw [oth _ 3 4 _ (by decide), oth _ 2 4 _ (by decide), oth _ 1 4 _ (by decide), oth _ 0 4 _ (by decide), c4]; rfl)]
  · rw [World.cell?_setCell_same' _ _ _ (by rw [oth _ 4 5 _ (by decide), oth _ 3 5 _ (by decide), oth _ 2 5 _ (by decide), oth _ 1 5 _ (by decide), oth _ 0 5 _ (by decide), c5]; rfl)]
theorem blk_six {X : World} {g : Nat} {t : TypeId} {z0 z1 z2 z3 z4 z5 : Value} (hb : Blk X g t #[z0, z1, z2, z3, z4, z5]) :
    X.cell? ⟨g, 0, none⟩ = some z0 ∧ X.cell? ⟨g, 1, none⟩ = some z1 ∧ X.cell? ⟨g, 2, none⟩ = some z2 ∧ X.cell? ⟨g, 3, none⟩ = some z3 ∧ X.cell? ⟨g, 4, none⟩ = some z4 ∧ X.cell? ⟨g, 5, none⟩ = some z5 ∧ X.frozen? ⟨g, 0, none⟩ = false ∧ X.frozen? ⟨g, 1, none⟩ = false ∧ X.frozen? ⟨g, 2, none⟩ = false ∧ X.frozen? ⟨g, 3, none⟩ = false ∧ X.frozen? ⟨g, 4, none⟩ = false ∧ X.frozen? ⟨g, 5, none⟩ = false :=
  ⟨hb.cell 0, hb.cell 1, hb.cell 2, hb.cell 3, hb.cell 4, hb.cell 5, frozen_of_row X _ 0 _ _ hb, frozen_of_row X _ 1 _ _ hb, frozen_of_row X _ 2 _ _ hb, frozen_of_row X _ 3 _ _ hb, frozen_of_row X _ 4 _ _ hb, frozen_of_row X _ 5 _ _ hb⟩
theorem fresh_at {W X : World} (_h : Below W.heap.size W X) (t : TypeId) (cs : Array Value) : Blk (X.alloc (.cells cs t)) X.heap.size t cs := Blk.fresh X t cs
theorem leaf_six {W X : World} {g : Nat} {t : TypeId} {z0 z1 z2 z3 z4 z5 : Value} (v0 v1 v2 v3 v4 v5 : Value) (hb : Blk X g t #[z0, z1, z2, z3, z4, z5]) (bb : Below W.heap.size W X) (hg : W.heap.size ≤ g) :
    (((((((X.setCell ⟨g, 0, none⟩ v0).setCell ⟨g, 1, none⟩ v1).setCell ⟨g, 2, none⟩ v2).setCell ⟨g, 3, none⟩ v3).setCell ⟨g, 4, none⟩ v4).setCell ⟨g, 5, none⟩ v5).cell? ⟨g, 0, none⟩ = some v0 ∧ ((((((X.setCell ⟨g, 0, none⟩ v0).setCell ⟨g, 1, none⟩ v1).setCell ⟨g, 2, none⟩ v2).setCell ⟨g, 3, none⟩ v3).setCell ⟨g, 4, none⟩ v4).setCell ⟨g, 5, none⟩ v5).cell? ⟨g, 1, none⟩ = some v1 ∧ ((((((X.setCell ⟨g, 0, none⟩ v0).setCell ⟨g, 1, none⟩ v1).setCell ⟨g, 2, none⟩ v2).setCell ⟨g, 3, none⟩ v3).setCell ⟨g, 4, none⟩ v4).setCell ⟨g, 5, none⟩ v5).cell? ⟨g, 2, none⟩ = some v2 ∧ ((((((X.setCell ⟨g, 0, none⟩ v0).setCell ⟨g, 1, none⟩ v1).setCell ⟨g, 2, none⟩ v2).setCell ⟨g, 3, none⟩ v3).setCell ⟨g, 4, none⟩ v4).setCell ⟨g, 5, none⟩ v5).cell? ⟨g, 3, none⟩ = some v3 ∧ ((((((X.setCell ⟨g, 0, none⟩ v0).setCell ⟨g, 1, none⟩ v1).setCell ⟨g, 2, none⟩ v2).setCell ⟨g, 3, none⟩ v3).setCell ⟨g, 4, none⟩ v4).setCell ⟨g, 5, none⟩ v5).cell? ⟨g, 4, none⟩ = some v4 ∧ ((((((X.setCell ⟨g, 0, none⟩ v0).setCell ⟨g, 1, none⟩ v1).setCell ⟨g, 2, none⟩ v2).setCell ⟨g, 3, none⟩ v3).setCell ⟨g, 4, none⟩ v4).setCell ⟨g, 5, none⟩ v5).cell? ⟨g, 5, none⟩ = some v5) ∧
    ((((((X.setCell ⟨g, 0, none⟩ v0).setCell ⟨g, 1, none⟩ v1).setCell ⟨g, 2, none⟩ v2).setCell ⟨g, 3, none⟩ v3).setCell ⟨g, 4, none⟩ v4).setCell ⟨g, 5, none⟩ v5).frozen? ⟨g, 5, none⟩ = false ∧
    Below W.heap.size W ((((((X.setCell ⟨g, 0, none⟩ v0).setCell ⟨g, 1, none⟩ v1).setCell ⟨g, 2, none⟩ v2).setCell ⟨g, 3, none⟩ v3).setCell ⟨g, 4, none⟩ v4).setCell ⟨g, 5, none⟩ v5) :=
  ⟨set_six v0 v1 v2 v3 v4 v5 hb, by simp only [World.frozen?_setCell]; exact frozen_of_row X _ 5 _ _ hb,
    (((((bb.setCell (p := ⟨g, 0, none⟩) hg _).setCell (p := ⟨g, 1, none⟩) hg _).setCell (p := ⟨g, 2, none⟩) hg _).setCell (p := ⟨g, 3, none⟩) hg _).setCell (p := ⟨g, 4, none⟩) hg _).setCell (p := ⟨g, 5, none⟩) hg _⟩
theorem frozen_below {w w' : World} {g o : Nat} {v : Value} (hc : w.cell? ⟨g, o, none⟩ = some v) (hf : w.frozen? ⟨g, o, none⟩ = false) (b : Below w.heap.size w w') : w'.frozen? ⟨g, o, none⟩ = false := by
  have hg := World.block_lt_of_cell? _ _ hc
  have hb := b.block g hg
  simp only [World.frozen?] at hf ⊢
  simp only [hb]
  exact hf
theorem clone_set {Y w4 : World} {g : Nat} {v0 v1 v2 v3 v4 z : Value} (v : Value) (e0 : Y.cell? ⟨g, 0, none⟩ = some v0) (e1 : Y.cell? ⟨g, 1, none⟩ = some v1) (e2 : Y.cell? ⟨g, 2, none⟩ = some v2) (e3 : Y.cell? ⟨g, 3, none⟩ = some v3) (e4 : Y.cell? ⟨g, 4, none⟩ = some v4) (e5 : Y.cell? ⟨g, 5, none⟩ = some z) (ez : Y.frozen? ⟨g, 5, none⟩ = false) (b : Below Y.heap.size Y w4) :
    w4.cell? ⟨g, 5, none⟩ = some z ∧ w4.frozen? ⟨g, 5, none⟩ = false ∧ (w4.setCell ⟨g, 5, none⟩ v).cell? ⟨g, 0, none⟩ = some v0 ∧ (w4.setCell ⟨g, 5, none⟩ v).cell? ⟨g, 1, none⟩ = some v1 ∧ (w4.setCell ⟨g, 5, none⟩ v).cell? ⟨g, 2, none⟩ = some v2 ∧ (w4.setCell ⟨g, 5, none⟩ v).cell? ⟨g, 3, none⟩ = some v3 ∧ (w4.setCell ⟨g, 5, none⟩ v).cell? ⟨g, 4, none⟩ = some v4 ∧ (w4.setCell ⟨g, 5, none⟩ v).cell? ⟨g, 5, none⟩ = some v := by
  have ne : ∀ a b : Nat, a ≠ b → (⟨g, a, none⟩ : Addr) ≠ ⟨g, b, none⟩ := fun a b h e => by injection e with _ e2; exact h e2
  have oth : ∀ b : Nat, 5 ≠ b → (w4.setCell ⟨g, 5, none⟩ v).cell? ⟨g, b, none⟩ = w4.cell? ⟨g, b, none⟩ := fun b h => World.cell?_setCell_other w4 _ _ v (ne 5 b h)
  refine ⟨One_below e5 b, frozen_below e5 ez b, ?_, ?_, ?_, ?_, ?_, ?_⟩
  · rw [oth 0 (by decide)]; exact One_below e0 b
  · rw [oth 1 (by decide)]; exact One_below e1 b
  · rw [oth 2 (by decide)]; exact One_below e2 b
  · rw [oth 3 (by decide)]; exact One_below e3 b
  · rw [oth 4 (by decide)]; exact One_below e4 b
  · exact World.cell?_setCell_same' _ _ _ (by rw [One_below e5 b]; rfl)
theorem dB' {W W1 W2 : World} (h : Below W.heap.size W W1) (k : Below W1.drew.heap.size W1.drew W2) : Below W.heap.size W W2 := dB h k
set_option maxHeartbeats 8000000 in
theorem hear_any (M : Med) (Pp : Pl) (L : Option Addr) (kc : Nat) (l : List Tx) (q : Ln) (w : World) (hk : l.length ≤ 8796093022208) (hM : MedAt w w.heap.size Pp M) (hr : TxsAt w w.heap.size L l) (hnear : ∀ y ∈ l, Near y.tr) :
    Calls Try.prog 26 #[mv M Pp, .slice L l.length kc, .agg #[.int .i64 q.dev, .int .i64 q.ch, .int .i64 q.st, .int .i64 q.en]] w fun e w' =>
      (match hearR M (l.map Tx.tr) q with
        | none => e = .returned (.tuple #[.agg #[.int .i64 0, .int .i64 0, .int .i64 0, .int .i64 0, .int .i64 0, .slice none 0 0], .bool false])
        | some (b, u) => ∃ RA rc bs, e = .returned (.tuple #[.agg #[.int .i64 u.id, .int .i64 q.dev, .int .i64 (disT M (l.map Tx.tr) u b q.dev), .int .i64 u.st, .int .i64 (endT u), .slice RA bs.length rc], .bool true]) ∧ bs = heard (disT M (l.map Tx.tr) u b q.dev) u.bs ∧ bs.length ≤ rc ∧ NewAt w' w.heap.size RA (bs.map (Value.int .u8))) ∧ Below w.heap.size w w' := by
  obtain ⟨d, lh, ls, le⟩ := q
  have HDist : Hid (∀ w', Below w.heap.size w w' → ∀ (b : Nat) (x : Tx), l[b]? = some x → Calls Try.prog 24 #[mv M Pp, .slice L l.length kc, .int .i64 (b : Int), .int .i64 d] w' fun e w2 => e = .returned (.int .i64 (disT M (l.map Tx.tr) x.tr b d)) ∧ Below w'.heap.size w' w2) := Lib.hid fun w' bb b x hx => dist_in M Pp L kc l b x d w' hx hk (hM.later bb) (hr.later bb) hnear
  obtain ⟨D, links, jams, loss⟩ := M
  obtain ⟨A, c, J, cj, S, cs⟩ := Pp
  obtain ⟨m1, m2, m3, m4, m5, m6⟩ := hM
  simp only at m1 m2 m3 m4 m5 m6
  unfold mv at *
  simp only at *
  have HN := Lib.hid (fun j (h : j < l.length) => has (l := l) rfl h)
  have HMp : Hid (∀ (j : Nat) y, l[j]? = some y → (l.map Tx.tr)[j]? = some y.tr) := Lib.hid fun j y h => by rw [List.getElem?_map, h]; rfl
  have HMb : Hid (∀ (j : Nat) u, (l.map Tx.tr)[j]? = some u → ∃ y, l[j]? = some y ∧ y.tr = u ∧ y ∈ l) := Lib.hid fun j u h => by
    rw [List.getElem?_map] at h
    cases hq : l[j]? with
    | none => rw [hq] at h; cases h
    | some y => rw [hq] at h; simp at h; exact ⟨y, rfl, h, List.mem_of_getElem? hq⟩
  have HO : Hid (∀ w', Below w.heap.size w w' → 0 < l.length → _) := Lib.hid fun w' hb h0 => tx_cells (hr.below hb) h0
  have HOw : Hid (∀ w', Below w.heap.size w w' → ∀ y ∈ l, y.bs.length ≤ 140737488351232 ∧ Near y.tr ∧ Own w' w'.heap.size y) := Lib.hid fun w' bb y hy => ⟨(hr.2 y hy).2.1, hnear y hy, ((hr.2 y hy).below bb).more bb.size⟩
  have HE : Hid (∀ j, l.length ≤ j → (l.map Tx.tr).length ≤ j) := Lib.hid fun j h => by rw [List.length_map]; exact h
  have HReach := Lib.hid (fun (i f h s : Int) (TA : Option Addr) (m mc : Nat) (w' : World) (bb : Below w.heap.size w w') => reaches_any D i f h s d lh ls le A J S TA links.length c jams.length cj loss.length cs m mc links w' rfl m4 (CellsAt.later m1 bb))
  have HRe2 : Hid (∀ i f h s bs, reachB links ⟨d, lh, ls, le⟩ ⟨i, f, h, s, bs⟩ = ((h == lh && decide (ls ≤ s) && decide (s < le)) && inR links f d)) := Lib.hid fun _ _ _ _ _ => rfl
  generalize hL : l.map Tx.tr = LL at *
  have hr1 : Hid (bst (reachB links ⟨d, lh, ls, le⟩) (LL.drop 0) 0 none = hearR ⟨D, links, jams, loss⟩ LL ⟨d, lh, ls, le⟩) := Lib.hid (by rw [List.drop_zero]; rfl)
  generalize hearR ⟨D, links, jams, loss⟩ LL ⟨d, lh, ls, le⟩ = R at *
  generalize hPQ : reachB links ⟨d, lh, ls, le⟩ = PQ at *
  generalize hdt : disT ⟨D, links, jams, loss⟩ LL = dt at *
  generalize links.length = n at *
  generalize jams.length = nj at *
  generalize loss.length = ns at *
  generalize hkk : l.length = k at *
  have B0 : Below w.heap.size w (((w.alloc (.cells #[.int .i64 D, .slice A n c, .slice J nj cj, .slice S ns cs] 34)).alloc (.cells #[.int .i64 d, .int .i64 lh, .int .i64 ls, .int .i64 le] 50)).alloc (.cells #[.int .i64 0, .int .i64 0, .int .i64 0, .int .i64 0, .int .i64 0, .slice none 0 0] 46)) := (((Below.refl _ w).alloc (Nat.le_refl _) _).alloc (by simp) _).alloc (by simp; omega) _
  have F0 : Four (((w.alloc (.cells #[.int .i64 D, .slice A n c, .slice J nj cj, .slice S ns cs] 34)).alloc (.cells #[.int .i64 d, .int .i64 lh, .int .i64 ls, .int .i64 le] 50)).alloc (.cells #[.int .i64 0, .int .i64 0, .int .i64 0, .int .i64 0, .int .i64 0, .slice none 0 0] 46)) w.heap.size D (.slice A n c) (.slice J nj cj) (.slice S ns cs) := four_of (((Blk.fresh w 34 #[.int .i64 D, .slice A n c, .slice J nj cj, .slice S ns cs]).alloc _).alloc _)
  have L0 : Four (((w.alloc (.cells #[.int .i64 D, .slice A n c, .slice J nj cj, .slice S ns cs] 34)).alloc (.cells #[.int .i64 d, .int .i64 lh, .int .i64 ls, .int .i64 le] 50)).alloc (.cells #[.int .i64 0, .int .i64 0, .int .i64 0, .int .i64 0, .int .i64 0, .slice none 0 0] 46)) (w.heap.size + 1) d (.int .i64 lh) (.int .i64 ls) (.int .i64 le) := by
    have := four_of ((Blk.fresh (w.alloc (.cells #[.int .i64 D, .slice A n c, .slice J nj cj, .slice S ns cs] 34)) 50 #[.int .i64 d, .int .i64 lh, .int .i64 ls, .int .i64 le]).alloc (.cells #[.int .i64 0, .int .i64 0, .int .i64 0, .int .i64 0, .int .i64 0, .slice none 0 0] 46))
    simpa using this
  have R0 := Blk.fresh ((w.alloc (.cells #[.int .i64 D, .slice A n c, .slice J nj cj, .slice S ns cs] 34)).alloc (.cells #[.int .i64 d, .int .i64 lh, .int .i64 ls, .int .i64 le] 50)) 46 #[.int .i64 0, .int .i64 0, .int .i64 0, .int .i64 0, .int .i64 0, .slice none 0 0]
  rw [show ((w.alloc (.cells #[.int .i64 D, .slice A n c, .slice J nj cj, .slice S ns cs] 34)).alloc (.cells #[.int .i64 d, .int .i64 lh, .int .i64 ls, .int .i64 le] 50)).heap.size = w.heap.size + 1 + 1 by simp] at R0
  have hWs : (((w.alloc (.cells #[.int .i64 D, .slice A n c, .slice J nj cj, .slice S ns cs] 34)).alloc (.cells #[.int .i64 d, .int .i64 lh, .int .i64 ls, .int .i64 le] 50)).alloc (.cells #[.int .i64 0, .int .i64 0, .int .i64 0, .int .i64 0, .int .i64 0, .slice none 0 0] 46)).heap.size = w.heap.size + 1 + 1 + 1 := by simp
  clear m1 m2 m3 hr hnear hL hPQ hdt
  go_enter Try.func26, Try.ntmps26
  go_wp2_with fail
  generalize (((w.alloc (.cells #[.int .i64 D, .slice A n c, .slice J nj cj, .slice S ns cs] 34)).alloc (.cells #[.int .i64 d, .int .i64 lh, .int .i64 ls, .int .i64 le] 50)).alloc (.cells #[.int .i64 0, .int .i64 0, .int .i64 0, .int .i64 0, .int .i64 0, .slice none 0 0] 46)) = W at *
  have KK : Hid (∀ w', Below W.heap.size W w' → (Four w' w.heap.size D (.slice A n c) (.slice J nj cj) (.slice S ns cs) ∧ Four w' (w.heap.size + 1) d (.int .i64 lh) (.int .i64 ls) (.int .i64 le)) ∧ Blk w' (w.heap.size + 1 + 1) 46 #[.int .i64 0, .int .i64 0, .int .i64 0, .int .i64 0, .int .i64 0, .slice none 0 0] ∧ Below w.heap.size w w') := Lib.hid fun w' bb =>
    ⟨⟨F0.below bb, L0.below bb⟩, R0.below bb R0.lt, B0.trans (bb.mono B0.size)⟩
  clear F0 L0 R0 B0
  go_loopw [8, 9, 15] (fun s8 _ s15 wr => ∃ (j : Nat) (o : Option (Nat × Tr)), j ≤ k ∧ s15 = .int .i64 j ∧ s8 = .int .i64 (oZ o) ∧ Hid (bst PQ (LL.drop j) j o = R) ∧ Hid (In LL j o) ∧ Below W.heap.size W wr) (fun _ _ s15 _ => k - (intOf s15).toNat)
  case atStart => exact ⟨0, none, by omega, rfl, rfl, hr1, Lib.hid (by intro b u h; cases h), Below.refl _ _⟩
  case round =>
    obtain ⟨j, o, hj, rfl, rfl, hno, hin, hbel⟩ := hrel
    clear hr1
    by_cases c1 : j < k
    · obtain ⟨p, hpj, hpm⟩ := HN.out j c1
      have hlj := HMp.out j p hpj
      have nx := Lib.hid (bst_at hlj hno.out)
      have nin := Lib.hid (In.upd PQ hin.out hlj)
      obtain ⟨⟨F1, L1⟩, _, bw⟩ := KK.out _ hbel
      obtain ⟨b, off, rfl, hbl, hc⟩ := HO.out _ bw (by omega)
      obtain ⟨h0, h1, h2, h3, h4⟩ := hc j p hpj
      have hown := HOw.out _ bw p hpm
      obtain ⟨p0, p1, p2, p3, PA, pc, bs⟩ := p
      obtain ⟨o1, o2, o3⟩ := hown
      simp only at h0 h1 h2 h3 h4 o1
      have hrb := HRe2.out p0 p1 p2 p3 bs
      have hup : upd PQ o j (Tx.tr ⟨p0, p1, p2, p3, PA, pc, bs⟩) = upd PQ o j ⟨p0, p1, p2, p3, bs⟩ := rfl
      rw [hup] at nx nin
      clear hup
      generalize bs.length = m at *
      have HRe := Lib.hid (fun w' bb => HReach.out p0 p1 p2 p3 PA m pc w' bb)
      rw [← hrb] at HRe
      have HPQ : Hid ((PQ ⟨p0, p1, p2, p3, bs⟩ = false → upd PQ o j ⟨p0, p1, p2, p3, bs⟩ = o) ∧ (PQ ⟨p0, p1, p2, p3, bs⟩ = true → (o = none → upd PQ o j ⟨p0, p1, p2, p3, bs⟩ = some (j, ⟨p0, p1, p2, p3, bs⟩)) ∧ (∀ b0 u0, o = some (b0, u0) → upd PQ o j ⟨p0, p1, p2, p3, bs⟩ = if p3 < u0.st then some (j, ⟨p0, p1, p2, p3, bs⟩) else some (b0, u0)))) := Lib.hid
        ⟨fun h => by unfold upd; rw [h]; rfl, fun h => ⟨fun ho => by unfold upd; rw [h, ho]; rfl, fun b0 u0 ho => by unfold upd; rw [h, ho]; rfl⟩⟩
      generalize PQ ⟨p0, p1, p2, p3, bs⟩ = Q at *
      have g1 : (0 : Int) ≤ (j : Int) ∧ (j : Int) < (k : Int) := by omega
      have bX := hbel.alloc hbel.size (.cells #[.int .i64 p0, .int .i64 p1, .int .i64 p2, .int .i64 p3, .slice PA m pc] 24)
      have B2 := bw.alloc bw.size (.cells #[.int .i64 p0, .int .i64 p1, .int .i64 p2, .int .i64 p3, .slice PA m pc] 24)
      have T2 := five_of (Blk.fresh wr 24 #[.int .i64 p0, .int .i64 p1, .int .i64 p2, .int .i64 p3, .slice PA m pc])
      have F2 := F1.below ((Below.refl _ wr).alloc (Nat.le_refl _) (.cells #[.int .i64 p0, .int .i64 p1, .int .i64 p2, .int .i64 p3, .slice PA m pc] 24))
      have L2 := L1.below ((Below.refl _ wr).alloc (Nat.le_refl _) (.cells #[.int .i64 p0, .int .i64 p1, .int .i64 p2, .int .i64 p3, .slice PA m pc] 24))
      have HU : Hid (∀ W1 W2, Below W1.heap.size W1 W2 → (Four W1 w.heap.size D (.slice A n c) (.slice J nj cj) (.slice S ns cs) ∧ Five W1 wr.heap.size p0 p1 p2 p3 (.slice PA m pc) ∧ Four W1 (w.heap.size + 1) d (.int .i64 lh) (.int .i64 ls) (.int .i64 le)) → (Four W2 w.heap.size D (.slice A n c) (.slice J nj cj) (.slice S ns cs) ∧ Five W2 wr.heap.size p0 p1 p2 p3 (.slice PA m pc) ∧ Four W2 (w.heap.size + 1) d (.int .i64 lh) (.int .i64 ls) (.int .i64 le))) := Lib.hid fun W1 W2 b f => ⟨f.1.below b, f.2.1.below b, f.2.2.below b⟩
      have UU := And.intro F2 (And.intro T2 L2)
      have HCc := Lib.hid hc
      have HMb' := HMb
      clear hc HN HMp HMb HO HOw HE HReach HRe2 HDist hrb o1 o2 o3 hlj hpj hpm F1 L1 F2 T2 L2
      have HXX : Hid (∀ w', Below W.heap.size W w' → Below w.heap.size w w') := Lib.hid fun w' bb => (KK.out w' bb).2.2
      clear KK
      cases Q with
      | false =>
        have e := Lib.hid (HPQ.out.1 rfl)
        rw [e.out] at nx nin
        clear HPQ HCc e
        go_wp2_with fail
        generalize wr.alloc (.cells #[.int .i64 p0, .int .i64 p1, .int .i64 p2, .int .i64 p3, .slice PA m pc] 24) = wr2 at *
        refine wp_region_held_drew (S := (fun w' => Four w' w.heap.size D (.slice A n c) (.slice J nj cj) (.slice S ns cs) ∧ Five w' wr.heap.size p0 p1 p2 p3 (.slice PA m pc) ∧ Four w' (w.heap.size + 1) d (.int .i64 lh) (.int .i64 ls) (.int .i64 le))) (by kernel_rfl) ?_ (fun hHeld => ?_)
        · exact UU
        refine wpAnyH_take (i := 0) (v := .agg #[.int .i64 D, .slice A n c, .slice J nj cj, .slice S ns cs]) rfl (by kernel_rfl) (by kernel_rfl) (by kernel_rfl) (fun _ _ _ h => h) (Or.inl ⟨by first | rfl | go_simp, by intro w9 hSw; (try dsimp only at hSw); go_simp⟩) (by assumption) ?_
        simp only [List.getElem_toArray, List.getElem_cons_zero, List.getElem_cons_succ, Act.put, List.setIfInBounds_toArray, List.set_cons_zero, List.set_cons_succ]
        refine wpAnyH_take (i := 1) (v := .agg #[.int .i64 p0, .int .i64 p1, .int .i64 p2, .int .i64 p3, .slice PA m pc]) rfl (by kernel_rfl) (by kernel_rfl) (by kernel_rfl) (fun _ _ _ h => h) (Or.inl ⟨by first | rfl | go_simp, by intro w9 hSw; (try dsimp only at hSw); go_simp⟩) (by assumption) ?_
        simp only [List.getElem_toArray, List.getElem_cons_zero, List.getElem_cons_succ, Act.put, List.setIfInBounds_toArray, List.set_cons_zero, List.set_cons_succ]
        refine wpAnyH_take (i := 2) (v := .agg #[.int .i64 d, .int .i64 lh, .int .i64 ls, .int .i64 le]) rfl (by kernel_rfl) (by kernel_rfl) (by kernel_rfl) (fun _ _ _ h => h) (Or.inl ⟨by first | rfl | go_simp, by intro w9 hSw; (try dsimp only at hSw); go_simp⟩) (by assumption) ?_
        simp only [List.getElem_toArray, List.getElem_cons_zero, List.getElem_cons_succ, Act.put, List.setIfInBounds_toArray, List.set_cons_zero, List.set_cons_succ]
        refine wpAnyH_ready (rs := [3]) (by kernel_rfl) (by simp) ?_
        refine AllReadyH.cons rfl (fun K hK => ?_) AllReadyH.nil
        go_simp
        refine (HRe.out _ (B2.drew)).mono ?_; rintro e w1 ⟨rfl, b1⟩; have B3 := dB B2 b1; have U := HU.out _ _ (thenB (Below.refl _ wr2).drew b1) UU
        refine hK.out _ _ ?_ (fun hHeld => ?_)
        · exact U
        clear hK K
        try simp only [List.getElem_toArray, List.getElem_cons_zero, List.getElem_cons_succ, Act.put, List.setIfInBounds_toArray, List.set_cons_zero, List.set_cons_succ]
        refine wpAnyH_take (i := 4) (v := .bool false) rfl (by kernel_rfl) (by kernel_rfl) (by kernel_rfl) (fun _ _ _ h => h) (Or.inl ⟨by first | rfl | go_simp, by intro w9 hSw; (try dsimp only at hSw); go_simp⟩) (by assumption) ?_
        simp only [List.getElem_toArray, List.getElem_cons_zero, List.getElem_cons_succ, Act.put, List.setIfInBounds_toArray, List.set_cons_zero, List.set_cons_succ]
        refine wpAnyH_take (i := 5) (v := undef) rfl (by kernel_rfl) (by kernel_rfl) (by kernel_rfl) (fun _ _ _ h => h) (Or.inr ⟨by first | rfl | go_simp, rfl⟩) (by assumption) ?_
        simp only [List.getElem_toArray, List.getElem_cons_zero, List.getElem_cons_succ, Act.put, List.setIfInBounds_toArray, List.set_cons_zero, List.set_cons_succ]
        refine wpAnyH_take (i := 6) (v := undef) rfl (by kernel_rfl) (by kernel_rfl) (by kernel_rfl) (fun _ _ _ h => h) (Or.inr ⟨by first | rfl | go_simp, rfl⟩) (by assumption) ?_
        simp only [List.getElem_toArray, List.getElem_cons_zero, List.getElem_cons_succ, Act.put, List.setIfInBounds_toArray, List.set_cons_zero, List.set_cons_succ]
        refine wpAnyH_take (i := 7) (v := undef) rfl (by kernel_rfl) (by kernel_rfl) (by kernel_rfl) (fun _ _ _ h => h) (Or.inr ⟨by first | rfl | go_simp, rfl⟩) (by assumption) ?_
        simp only [List.getElem_toArray, List.getElem_cons_zero, List.getElem_cons_succ, Act.put, List.setIfInBounds_toArray, List.set_cons_zero, List.set_cons_succ]
        refine wpAnyH_take (i := 8) (v := undef) rfl (by kernel_rfl) (by kernel_rfl) (by kernel_rfl) (fun _ _ _ h => h) (Or.inr ⟨by first | rfl | go_simp, rfl⟩) (by assumption) ?_
        simp only [List.getElem_toArray, List.getElem_cons_zero, List.getElem_cons_succ, Act.put, List.setIfInBounds_toArray, List.set_cons_zero, List.set_cons_succ]
        refine wpAnyH_take (i := 9) (v := undef) rfl (by kernel_rfl) (by kernel_rfl) (by kernel_rfl) (fun _ _ _ h => h) (Or.inr ⟨by first | rfl | go_simp, rfl⟩) (by assumption) ?_
        simp only [List.getElem_toArray, List.getElem_cons_zero, List.getElem_cons_succ, Act.put, List.setIfInBounds_toArray, List.set_cons_zero, List.set_cons_succ]
        refine wpAnyH_take (i := 10) (v := undef) rfl (by kernel_rfl) (by kernel_rfl) (by kernel_rfl) (fun _ _ _ h => h) (Or.inr ⟨by first | rfl | go_simp, rfl⟩) (by assumption) ?_
        simp only [List.getElem_toArray, List.getElem_cons_zero, List.getElem_cons_succ, Act.put, List.setIfInBounds_toArray, List.set_cons_zero, List.set_cons_succ]
        refine wpAnyH_take (i := 11) (v := undef) rfl (by kernel_rfl) (by kernel_rfl) (by kernel_rfl) (fun _ _ _ h => h) (Or.inr ⟨by first | rfl | go_simp, rfl⟩) (by assumption) ?_
        simp only [List.getElem_toArray, List.getElem_cons_zero, List.getElem_cons_succ, Act.put, List.setIfInBounds_toArray, List.set_cons_zero, List.set_cons_succ]
        refine wpAnyH_take (i := 12) (v := undef) rfl (by kernel_rfl) (by kernel_rfl) (by kernel_rfl) (fun _ _ _ h => h) (Or.inr ⟨by first | rfl | go_simp, rfl⟩) (by assumption) ?_
        simp only [List.getElem_toArray, List.getElem_cons_zero, List.getElem_cons_succ, Act.put, List.setIfInBounds_toArray, List.set_cons_zero, List.set_cons_succ]
        refine wpAnyH_take (i := 13) (v := undef) rfl (by kernel_rfl) (by kernel_rfl) (by kernel_rfl) (fun _ _ _ h => h) (Or.inr ⟨by first | rfl | go_simp, rfl⟩) (by assumption) ?_
        simp only [List.getElem_toArray, List.getElem_cons_zero, List.getElem_cons_succ, Act.put, List.setIfInBounds_toArray, List.set_cons_zero, List.set_cons_succ]
        refine wpAnyH_take (i := 14) (v := undef) rfl (by kernel_rfl) (by kernel_rfl) (by kernel_rfl) (fun _ _ _ h => h) (Or.inr ⟨by first | rfl | go_simp, rfl⟩) (by assumption) ?_
        simp only [List.getElem_toArray, List.getElem_cons_zero, List.getElem_cons_succ, Act.put, List.setIfInBounds_toArray, List.set_cons_zero, List.set_cons_succ]
        refine wpAnyH_take (i := 15) (v := undef) rfl (by kernel_rfl) (by kernel_rfl) (by kernel_rfl) (fun _ _ _ h => h) (Or.inr ⟨by first | rfl | go_simp, rfl⟩) (by assumption) ?_
        simp only [List.getElem_toArray, List.getElem_cons_zero, List.getElem_cons_succ, Act.put, List.setIfInBounds_toArray, List.set_cons_zero, List.set_cons_succ]
        refine wpAnyH_take (i := 16) (v := undef) rfl (by kernel_rfl) (by kernel_rfl) (by kernel_rfl) (fun _ _ _ h => h) (Or.inr ⟨by first | rfl | go_simp, rfl⟩) (by assumption) ?_
        simp only [List.getElem_toArray, List.getElem_cons_zero, List.getElem_cons_succ, Act.put, List.setIfInBounds_toArray, List.set_cons_zero, List.set_cons_succ]
        refine wpAnyH_take (i := 17) (v := .bool false) rfl (by kernel_rfl) (by kernel_rfl) (by kernel_rfl) (fun _ _ _ h => h) (Or.inl ⟨by first | rfl | go_simp, by intro w9 hSw; (try dsimp only at hSw); go_simp⟩) (by assumption) ?_
        simp only [List.getElem_toArray, List.getElem_cons_zero, List.getElem_cons_succ, Act.put, List.setIfInBounds_toArray, List.set_cons_zero, List.set_cons_succ]
        refine wpAnyH_done (by kernel_rfl) ?_ _
        have bY := dB' bX b1
        go_wp2_with fail
        go_round
        case measure => simp [intOf]; omega
        case rel => exact ⟨j + 1, o, by omega, by go_num, rfl, nx, nin, bY⟩
      | true =>
        obtain ⟨hq1, hq2⟩ := HPQ.out.2 rfl
        clear HPQ
        cases o with
        | none =>
          rw [hq1 rfl] at nx nin
          rw [show oZ none = -1 from rfl]
          clear hq1 hq2 HCc
          go_wp2_with fail
          generalize wr.alloc (.cells #[.int .i64 p0, .int .i64 p1, .int .i64 p2, .int .i64 p3, .slice PA m pc] 24) = wr2 at *
          refine wp_region_held_drew (S := (fun w' => Four w' w.heap.size D (.slice A n c) (.slice J nj cj) (.slice S ns cs) ∧ Five w' wr.heap.size p0 p1 p2 p3 (.slice PA m pc) ∧ Four w' (w.heap.size + 1) d (.int .i64 lh) (.int .i64 ls) (.int .i64 le))) (by kernel_rfl) ?_ (fun hHeld => ?_)
          · exact UU
          refine wpAnyH_take (i := 0) (v := .agg #[.int .i64 D, .slice A n c, .slice J nj cj, .slice S ns cs]) rfl (by kernel_rfl) (by kernel_rfl) (by kernel_rfl) (fun _ _ _ h => h) (Or.inl ⟨by first | rfl | go_simp, by intro w9 hSw; (try dsimp only at hSw); go_simp⟩) (by assumption) ?_
          simp only [List.getElem_toArray, List.getElem_cons_zero, List.getElem_cons_succ, Act.put, List.setIfInBounds_toArray, List.set_cons_zero, List.set_cons_succ]
          refine wpAnyH_take (i := 1) (v := .agg #[.int .i64 p0, .int .i64 p1, .int .i64 p2, .int .i64 p3, .slice PA m pc]) rfl (by kernel_rfl) (by kernel_rfl) (by kernel_rfl) (fun _ _ _ h => h) (Or.inl ⟨by first | rfl | go_simp, by intro w9 hSw; (try dsimp only at hSw); go_simp⟩) (by assumption) ?_
          simp only [List.getElem_toArray, List.getElem_cons_zero, List.getElem_cons_succ, Act.put, List.setIfInBounds_toArray, List.set_cons_zero, List.set_cons_succ]
          refine wpAnyH_take (i := 2) (v := .agg #[.int .i64 d, .int .i64 lh, .int .i64 ls, .int .i64 le]) rfl (by kernel_rfl) (by kernel_rfl) (by kernel_rfl) (fun _ _ _ h => h) (Or.inl ⟨by first | rfl | go_simp, by intro w9 hSw; (try dsimp only at hSw); go_simp⟩) (by assumption) ?_
          simp only [List.getElem_toArray, List.getElem_cons_zero, List.getElem_cons_succ, Act.put, List.setIfInBounds_toArray, List.set_cons_zero, List.set_cons_succ]
          refine wpAnyH_ready (rs := [3]) (by kernel_rfl) (by simp) ?_
          refine AllReadyH.cons rfl (fun K hK => ?_) AllReadyH.nil
          go_simp
          refine (HRe.out _ (B2.drew)).mono ?_; rintro e w1 ⟨rfl, b1⟩; have B3 := dB B2 b1; have U := HU.out _ _ (thenB (Below.refl _ wr2).drew b1) UU
          refine hK.out _ _ ?_ (fun hHeld => ?_)
          · exact U
          clear hK K
          try simp only [List.getElem_toArray, List.getElem_cons_zero, List.getElem_cons_succ, Act.put, List.setIfInBounds_toArray, List.set_cons_zero, List.set_cons_succ]
          refine wpAnyH_take (i := 4) (v := .bool true) rfl (by kernel_rfl) (by kernel_rfl) (by kernel_rfl) (fun _ _ _ h => h) (Or.inl ⟨by first | rfl | go_simp, by intro w9 hSw; (try dsimp only at hSw); go_simp⟩) (by assumption) ?_
          simp only [List.getElem_toArray, List.getElem_cons_zero, List.getElem_cons_succ, Act.put, List.setIfInBounds_toArray, List.set_cons_zero, List.set_cons_succ]
          refine wpAnyH_take (i := 5) (v := .int .i64 (-1)) rfl (by kernel_rfl) (by kernel_rfl) (by kernel_rfl) (fun _ _ _ h => h) (Or.inl ⟨by first | rfl | go_simp, by intro w9 hSw; (try dsimp only at hSw); go_simp⟩) (by assumption) ?_
          simp only [List.getElem_toArray, List.getElem_cons_zero, List.getElem_cons_succ, Act.put, List.setIfInBounds_toArray, List.set_cons_zero, List.set_cons_succ]
          refine wpAnyH_take (i := 6) (v := .bool true) rfl (by kernel_rfl) (by kernel_rfl) (by kernel_rfl) (fun _ _ _ h => h) (Or.inl ⟨by first | rfl | go_simp, by intro w9 hSw; (try dsimp only at hSw); go_simp⟩) (by assumption) ?_
          simp only [List.getElem_toArray, List.getElem_cons_zero, List.getElem_cons_succ, Act.put, List.setIfInBounds_toArray, List.set_cons_zero, List.set_cons_succ]
          refine wpAnyH_take (i := 7) (v := .bool true) rfl (by kernel_rfl) (by kernel_rfl) (by kernel_rfl) (fun _ _ _ h => h) (Or.inl ⟨by first | rfl | go_simp, by intro w9 hSw; (try dsimp only at hSw); go_simp⟩) (by assumption) ?_
          simp only [List.getElem_toArray, List.getElem_cons_zero, List.getElem_cons_succ, Act.put, List.setIfInBounds_toArray, List.set_cons_zero, List.set_cons_succ]
          refine wpAnyH_take (i := 8) (v := undef) rfl (by kernel_rfl) (by kernel_rfl) (by kernel_rfl) (fun _ _ _ h => h) (Or.inr ⟨by first | rfl | go_simp, rfl⟩) (by assumption) ?_
          simp only [List.getElem_toArray, List.getElem_cons_zero, List.getElem_cons_succ, Act.put, List.setIfInBounds_toArray, List.set_cons_zero, List.set_cons_succ]
          refine wpAnyH_take (i := 9) (v := undef) rfl (by kernel_rfl) (by kernel_rfl) (by kernel_rfl) (fun _ _ _ h => h) (Or.inr ⟨by first | rfl | go_simp, rfl⟩) (by assumption) ?_
          simp only [List.getElem_toArray, List.getElem_cons_zero, List.getElem_cons_succ, Act.put, List.setIfInBounds_toArray, List.set_cons_zero, List.set_cons_succ]
          refine wpAnyH_take (i := 10) (v := undef) rfl (by kernel_rfl) (by kernel_rfl) (by kernel_rfl) (fun _ _ _ h => h) (Or.inr ⟨by first | rfl | go_simp, rfl⟩) (by assumption) ?_
          simp only [List.getElem_toArray, List.getElem_cons_zero, List.getElem_cons_succ, Act.put, List.setIfInBounds_toArray, List.set_cons_zero, List.set_cons_succ]
          refine wpAnyH_take (i := 11) (v := undef) rfl (by kernel_rfl) (by kernel_rfl) (by kernel_rfl) (fun _ _ _ h => h) (Or.inr ⟨by first | rfl | go_simp, rfl⟩) (by assumption) ?_
          simp only [List.getElem_toArray, List.getElem_cons_zero, List.getElem_cons_succ, Act.put, List.setIfInBounds_toArray, List.set_cons_zero, List.set_cons_succ]
          refine wpAnyH_take (i := 12) (v := undef) rfl (by kernel_rfl) (by kernel_rfl) (by kernel_rfl) (fun _ _ _ h => h) (Or.inr ⟨by first | rfl | go_simp, rfl⟩) (by assumption) ?_
          simp only [List.getElem_toArray, List.getElem_cons_zero, List.getElem_cons_succ, Act.put, List.setIfInBounds_toArray, List.set_cons_zero, List.set_cons_succ]
          refine wpAnyH_take (i := 13) (v := undef) rfl (by kernel_rfl) (by kernel_rfl) (by kernel_rfl) (fun _ _ _ h => h) (Or.inr ⟨by first | rfl | go_simp, rfl⟩) (by assumption) ?_
          simp only [List.getElem_toArray, List.getElem_cons_zero, List.getElem_cons_succ, Act.put, List.setIfInBounds_toArray, List.set_cons_zero, List.set_cons_succ]
          refine wpAnyH_take (i := 14) (v := undef) rfl (by kernel_rfl) (by kernel_rfl) (by kernel_rfl) (fun _ _ _ h => h) (Or.inr ⟨by first | rfl | go_simp, rfl⟩) (by assumption) ?_
          simp only [List.getElem_toArray, List.getElem_cons_zero, List.getElem_cons_succ, Act.put, List.setIfInBounds_toArray, List.set_cons_zero, List.set_cons_succ]
          refine wpAnyH_take (i := 15) (v := undef) rfl (by kernel_rfl) (by kernel_rfl) (by kernel_rfl) (fun _ _ _ h => h) (Or.inr ⟨by first | rfl | go_simp, rfl⟩) (by assumption) ?_
          simp only [List.getElem_toArray, List.getElem_cons_zero, List.getElem_cons_succ, Act.put, List.setIfInBounds_toArray, List.set_cons_zero, List.set_cons_succ]
          refine wpAnyH_take (i := 16) (v := .bool true) rfl (by kernel_rfl) (by kernel_rfl) (by kernel_rfl) (fun _ _ _ h => h) (Or.inl ⟨by first | rfl | go_simp, by intro w9 hSw; (try dsimp only at hSw); go_simp⟩) (by assumption) ?_
          simp only [List.getElem_toArray, List.getElem_cons_zero, List.getElem_cons_succ, Act.put, List.setIfInBounds_toArray, List.set_cons_zero, List.set_cons_succ]
          refine wpAnyH_take (i := 17) (v := .bool true) rfl (by kernel_rfl) (by kernel_rfl) (by kernel_rfl) (fun _ _ _ h => h) (Or.inl ⟨by first | rfl | go_simp, by intro w9 hSw; (try dsimp only at hSw); go_simp⟩) (by assumption) ?_
          simp only [List.getElem_toArray, List.getElem_cons_zero, List.getElem_cons_succ, Act.put, List.setIfInBounds_toArray, List.set_cons_zero, List.set_cons_succ]
          refine wpAnyH_done (by kernel_rfl) ?_ _
          have bY := dB' bX b1
          go_wp2_with fail
          go_round
          case measure => simp [intOf]; omega
          case rel => exact ⟨j + 1, some (j, ⟨p0, p1, p2, p3, bs⟩), by omega, by go_num, rfl, nx, nin, bY⟩
        | some bu =>
          obtain ⟨b0, u0⟩ := bu
          rw [hq2 b0 u0 rfl] at nx nin
          rw [show oZ (some (b0, u0)) = (b0 : Int) from rfl]
          obtain ⟨hb0, hu0⟩ := hin.out b0 u0 rfl
          obtain ⟨y, hy, hyu, _⟩ := HMb'.out b0 u0 hu0
          have hyc : wr.cell? ⟨b, off + b0 * 5 + 3, none⟩ = some (.int .i64 u0.st) := by rw [← hyu]; exact (HCc.out b0 y hy).2.2.2.1
          have hyc2 := One_below hyc ((Below.refl _ wr).alloc (Nat.le_refl _) (.cells #[.int .i64 p0, .int .i64 p1, .int .i64 p2, .int .i64 p3, .slice PA m pc] 24))
          have hb1 : (((b0 : Nat) : Int) == -1) = false := by simp
          have g3 : (0 : Int) ≤ (b0 : Int) ∧ (b0 : Int) < (k : Int) := by omega
          generalize u0.st = us at *
          clear hq1 hq2 hyc HCc hy hyu hu0 HMb'
          go_wp2_with fail
          generalize wr.alloc (.cells #[.int .i64 p0, .int .i64 p1, .int .i64 p2, .int .i64 p3, .slice PA m pc] 24) = wr2 at *
          go_region_held3 (fun w' => Four w' w.heap.size D (.slice A n c) (.slice J nj cj) (.slice S ns cs) ∧ Five w' wr.heap.size p0 p1 p2 p3 (.slice PA m pc) ∧ Four w' (w.heap.size + 1) d (.int .i64 lh) (.int .i64 ls) (.int .i64 le) ∧ w'.cell? ⟨b, off + b0 * 5 + 3, none⟩ = some (.int .i64 us)) (first | exact ⟨U.1, U.2.1, U.2.2, hyc3⟩ | exact ⟨UU.1, UU.2.1, UU.2.2, hyc2⟩) (first
            | (go_at_call 50; refine (HRe.out _ (B2.drew)).mono ?_; rintro e w1 ⟨rfl, b1⟩; have B3 := dB B2 b1; have U := HU.out _ _ (thenB (Below.refl _ wr2).drew b1) UU; have hyc3 := One_below hyc2 (thenB (Below.refl _ wr2).drew b1)))
          have bY := dB' bX b1
          by_cases hlt : p3 < us
          · rw [if_pos hlt] at nx nin
            go_wp2_with fail
            go_round
            case measure => simp [intOf]; omega
            case rel => exact ⟨j + 1, some (j, ⟨p0, p1, p2, p3, bs⟩), by omega, by go_num, rfl, nx, nin, bY⟩
          · rw [if_neg hlt] at nx nin
            go_wp2_with fail
            go_round
            case measure => simp [intOf]; omega
            case rel => exact ⟨j + 1, some (b0, u0), by omega, by go_num, rfl, nx, nin, bY⟩
    · have heq := bst_end (HE.out j (by omega)) hno.out
      have hnlt : ¬ ((j : Int) < (k : Int)) := by omega
      obtain ⟨⟨F1, L1⟩, R1, bw⟩ := KK.out _ hbel
      obtain ⟨r0, r1, r2, r3, r4, r5⟩ : wr.cell? ⟨w.heap.size + 1 + 1, 0, none⟩ = some (.int .i64 0) ∧ wr.cell? ⟨w.heap.size + 1 + 1, 1, none⟩ = some (.int .i64 0) ∧ wr.cell? ⟨w.heap.size + 1 + 1, 2, none⟩ = some (.int .i64 0) ∧ wr.cell? ⟨w.heap.size + 1 + 1, 3, none⟩ = some (.int .i64 0) ∧ wr.cell? ⟨w.heap.size + 1 + 1, 4, none⟩ = some (.int .i64 0) ∧ wr.cell? ⟨w.heap.size + 1 + 1, 5, none⟩ = some (.slice none 0 0) := ⟨R1.cell 0, R1.cell 1, R1.cell 2, R1.cell 3, R1.cell 4, R1.cell 5⟩
      obtain ⟨z0, z1, z2, z3, z4, z5⟩ : wr.frozen? ⟨w.heap.size + 1 + 1, 0, none⟩ = false ∧ wr.frozen? ⟨w.heap.size + 1 + 1, 1, none⟩ = false ∧ wr.frozen? ⟨w.heap.size + 1 + 1, 2, none⟩ = false ∧ wr.frozen? ⟨w.heap.size + 1 + 1, 3, none⟩ = false ∧ wr.frozen? ⟨w.heap.size + 1 + 1, 4, none⟩ = false ∧ wr.frozen? ⟨w.heap.size + 1 + 1, 5, none⟩ = false := ⟨frozen_of_row wr _ 0 _ _ R1, frozen_of_row wr _ 1 _ _ R1, frozen_of_row wr _ 2 _ _ R1, frozen_of_row wr _ 3 _ _ R1, frozen_of_row wr _ 4 _ _ R1, frozen_of_row wr _ 5 _ _ R1⟩
      subst heq
      cases o with
      | none =>
        rw [show oZ none = -1 from rfl]
        have HS6 := Lib.hid (set_six (X := wr) (g := w.heap.size + 1 + 1) (t := 46) (.int .i64 0) (.int .i64 0) (.int .i64 0) (.int .i64 0) (.int .i64 0) (.slice none 0 0) R1)
        have HB6 : Hid (∀ v0 v1 v2 v3 v4 v5, Below w.heap.size w ((((((wr.setCell ⟨w.heap.size + 1 + 1, 0, none⟩ v0).setCell ⟨w.heap.size + 1 + 1, 1, none⟩ v1).setCell ⟨w.heap.size + 1 + 1, 2, none⟩ v2).setCell ⟨w.heap.size + 1 + 1, 3, none⟩ v3).setCell ⟨w.heap.size + 1 + 1, 4, none⟩ v4).setCell ⟨w.heap.size + 1 + 1, 5, none⟩ v5)) := Lib.hid fun v0 v1 v2 v3 v4 v5 =>
          (((((bw.setCell (p := ⟨w.heap.size + 1 + 1, 0, none⟩) (by simp; omega) _).setCell (p := ⟨w.heap.size + 1 + 1, 1, none⟩) (by simp; omega) _).setCell (p := ⟨w.heap.size + 1 + 1, 2, none⟩) (by simp; omega) _).setCell (p := ⟨w.heap.size + 1 + 1, 3, none⟩) (by simp; omega) _).setCell (p := ⟨w.heap.size + 1 + 1, 4, none⟩) (by simp; omega) _).setCell (p := ⟨w.heap.size + 1 + 1, 5, none⟩) (by simp; omega) _
        clear HN HMp HMb HO HOw HE HReach HRe2 HDist hno hin KK R1 F1 L1
        go_wp2_with fail
        obtain ⟨e0, e1, e2, e3, e4, e5⟩ := HS6.out
        refine bodyPost_ret (v := .tuple #[.agg #[.int .i64 0, .int .i64 0, .int .i64 0, .int .i64 0, .int .i64 0, .slice none 0 0], .bool false]) ?_ rfl ⟨rfl, HB6.out _ _ _ _ _ _⟩
        simp [results, Try.f26, go_sem, e0, e1, e2, e3, e4, e5]
      | some bu =>
        obtain ⟨b0, u0⟩ := bu
        rw [show oZ (some (b0, u0)) = (b0 : Int) from rfl]
        obtain ⟨hb0, hu0⟩ := hin.out b0 u0 rfl
        obtain ⟨y, hy, hyu, hym⟩ := HMb.out b0 u0 hu0
        subst hyu
        have HDi := Lib.hid (fun w' bb => HDist.out w' bb b0 y hy)
        obtain ⟨b, off, rfl, hbl, hc⟩ := HO.out _ bw (by omega)
        obtain ⟨h0, h1, h2, h3, h4⟩ := hc b0 y hy
        have HOy := Lib.hid (fun w' bb => HOw.out w' bb y hym)
        obtain ⟨p0, p1, p2, p3, PA, pc, bs⟩ := y
        simp only at h0 h1 h2 h3 h4
        obtain ⟨o1, o2, _⟩ := HOy.out _ bw
        simp only at o1
        have o2' : -1099511627776 ≤ p3 ∧ p3 ≤ 1099511627776 := o2
        have HEn := Lib.hid (fun w' => end_any p0 p1 p2 p3 PA bs.length pc w' o1 o2')
        have het : endT (Tx.tr ⟨p0, p1, p2, p3, PA, pc, bs⟩) = p3 + 8 * ((bs.length : Int) + 10) := rfl
        have hub : (Tx.tr ⟨p0, p1, p2, p3, PA, pc, bs⟩).bs = bs := rfl
        generalize hz : dt (Tx.tr ⟨p0, p1, p2, p3, PA, pc, bs⟩) b0 d = z at *
        rw [← het] at HEn
        generalize hen : endT (Tx.tr ⟨p0, p1, p2, p3, PA, pc, bs⟩) = en at *
        have HLm : Hid (bs.length = bs.length) := Lib.hid rfl
        have HCl : Hid (∀ w', Below w.heap.size w w' → Calls Try.prog 51 #[.slice PA bs.length pc] w' fun e w2 => ∃ A' c', e = .returned (.slice A' bs.length c') ∧ bs.length ≤ c' ∧ NewAt w2 w'.heap.size A' (bs.map (Value.int .u8)) ∧ Below w'.heap.size w' w2) := Lib.hid fun w' bb => clone_any PA bs.length pc bs w' rfl o1 (HOy.out w' bb).2.2.2.2
        have hb1 : (((b0 : Nat) : Int) == -1) = false := by simp
        have g3 : (0 : Int) ≤ (b0 : Int) ∧ (b0 : Int) < (k : Int) := by omega
        have BT := bw.alloc bw.size (.cells #[.int .i64 p0, .int .i64 p1, .int .i64 p2, .int .i64 p3, .slice PA bs.length pc] 24)
        have bT := hbel.alloc hbel.size (.cells #[.int .i64 p0, .int .i64 p1, .int .i64 p2, .int .i64 p3, .slice PA bs.length pc] 24)
        have T2 := five_of (Blk.fresh wr 24 #[.int .i64 p0, .int .i64 p1, .int .i64 p2, .int .i64 p3, .slice PA bs.length pc])
        have UU := And.intro (F1.below ((Below.refl _ wr).alloc (Nat.le_refl _) (.cells #[.int .i64 p0, .int .i64 p1, .int .i64 p2, .int .i64 p3, .slice PA bs.length pc] 24))) (And.intro T2 (L1.below ((Below.refl _ wr).alloc (Nat.le_refl _) (.cells #[.int .i64 p0, .int .i64 p1, .int .i64 p2, .int .i64 p3, .slice PA bs.length pc] 24))))
        have HU : Hid (∀ W1 W2, Below W1.heap.size W1 W2 → (Four W1 w.heap.size D (.slice A n c) (.slice J nj cj) (.slice S ns cs) ∧ Five W1 wr.heap.size p0 p1 p2 p3 (.slice PA bs.length pc) ∧ Four W1 (w.heap.size + 1) d (.int .i64 lh) (.int .i64 ls) (.int .i64 le)) → (Four W2 w.heap.size D (.slice A n c) (.slice J nj cj) (.slice S ns cs) ∧ Five W2 wr.heap.size p0 p1 p2 p3 (.slice PA bs.length pc) ∧ Four W2 (w.heap.size + 1) d (.int .i64 lh) (.int .i64 ls) (.int .i64 le))) := Lib.hid fun W1 W2 b f => ⟨f.1.below b, f.2.1.below b, f.2.2.below b⟩
        have HKx : Hid (∀ w', Below W.heap.size W w' → Blk w' (w.heap.size + 1 + 1) 46 #[.int .i64 0, .int .i64 0, .int .i64 0, .int .i64 0, .int .i64 0, .slice none 0 0] ∧ Below w.heap.size w w') := Lib.hid fun w' bb => (KK.out w' bb).2
        clear HN HMp HMb HO HOw HE HReach HRe2 HDist hno hin KK R1 F1 L1 hc hy hym hu0 r0 r1 r2 r3 r4 r5 z0 z1 z2 z3 z4 z5 HOy het T2
        go_upto_region 11 with fail
        generalize wr.alloc (.cells #[.int .i64 p0, .int .i64 p1, .int .i64 p2, .int .i64 p3, .slice PA bs.length pc] 24) = wr2 at *
        have HSb : Hid (∀ X, Below wr2.heap.size wr2 X → Below wr2.heap.size wr2 X ∧ Four X w.heap.size D (.slice A n c) (.slice J nj cj) (.slice S ns cs) ∧ Five X wr.heap.size p0 p1 p2 p3 (.slice PA bs.length pc) ∧ Four X (w.heap.size + 1) d (.int .i64 lh) (.int .i64 ls) (.int .i64 le)) := Lib.hid fun X bb => ⟨bb, HU.out _ _ bb UU⟩
        have HBw : Hid (∀ X, Below wr2.heap.size wr2 X → Below w.heap.size w X) := Lib.hid fun X bb => BT.trans (bb.mono BT.size)
        have HBW : Hid (∀ X, Below wr2.heap.size wr2 X → Below W.heap.size W X) := Lib.hid fun X bb => bT.trans (bb.mono bT.size)
        have hWr := bT.size
        clear BT bT bw hbel HU
        go_cut [12] from 47 to 61 (fun s12 wx => ∃ G, s12 = .pointer (some ⟨G, 0, none⟩) ∧ (wx.cell? ⟨G, 0, none⟩ = some (.int .i64 p0) ∧ wx.cell? ⟨G, 1, none⟩ = some (.int .i64 d) ∧ wx.cell? ⟨G, 2, none⟩ = some (.int .i64 z) ∧ wx.cell? ⟨G, 3, none⟩ = some (.int .i64 p3) ∧ wx.cell? ⟨G, 4, none⟩ = some (.int .i64 en) ∧ wx.cell? ⟨G, 5, none⟩ = some (.slice none 0 0) ∧ wx.frozen? ⟨G, 5, none⟩ = false ∧ Below wr2.heap.size wr2 wx) ∧ wr2.heap.size ≤ G ∧ Below wr2.heap.size wr2 wx ∧ Four wx w.heap.size D (.slice A n c) (.slice J nj cj) (.slice S ns cs) ∧ Five wx wr.heap.size p0 p1 p2 p3 (.slice PA bs.length pc) ∧ Four wx (w.heap.size + 1) d (.int .i64 lh) (.int .i64 ls) (.int .i64 le))
        case first =>
          go_wp2_with fail
          refine wp_region_held_drew (S := (fun w' => Below wr2.heap.size wr2 w' ∧ Four w' w.heap.size D (.slice A n c) (.slice J nj cj) (.slice S ns cs) ∧ Five w' wr.heap.size p0 p1 p2 p3 (.slice PA bs.length pc) ∧ Four w' (w.heap.size + 1) d (.int .i64 lh) (.int .i64 ls) (.int .i64 le))) (by kernel_rfl) ?_ (fun hHeld => ?_)
          · exact ⟨(Below.refl _ wr2).drew, UU⟩
          refine wpAnyH_take (i := 0) (v := .pointer (some ⟨wr.heap.size, 0, none⟩)) rfl (by kernel_rfl) (by kernel_rfl) (by kernel_rfl) (fun _ _ _ h => h) (Or.inl ⟨by first | rfl | go_simp, by intro w9 hSw; (try dsimp only at hSw); go_simp⟩) (by assumption) ?_
          simp only [List.getElem_toArray, List.getElem_cons_zero, List.getElem_cons_succ, Act.put, List.setIfInBounds_toArray, List.set_cons_zero, List.set_cons_succ]
          refine wpAnyH_take (i := 1) (v := .int .i64 p0) rfl (by kernel_rfl) (by kernel_rfl) (by kernel_rfl) (fun _ _ _ h => h) (Or.inl ⟨by first | rfl | go_simp, by intro w9 hSw; (try dsimp only at hSw); go_simp⟩) (by assumption) ?_
          simp only [List.getElem_toArray, List.getElem_cons_zero, List.getElem_cons_succ, Act.put, List.setIfInBounds_toArray, List.set_cons_zero, List.set_cons_succ]
          refine wpAnyH_take (i := 2) (v := .pointer (some ⟨w.heap.size + 1, 0, none⟩)) rfl (by kernel_rfl) (by kernel_rfl) (by kernel_rfl) (fun _ _ _ h => h) (Or.inl ⟨by first | rfl | go_simp, by intro w9 hSw; (try dsimp only at hSw); go_simp⟩) (by assumption) ?_
          simp only [List.getElem_toArray, List.getElem_cons_zero, List.getElem_cons_succ, Act.put, List.setIfInBounds_toArray, List.set_cons_zero, List.set_cons_succ]
          refine wpAnyH_take (i := 3) (v := .int .i64 d) rfl (by kernel_rfl) (by kernel_rfl) (by kernel_rfl) (fun _ _ _ h => h) (Or.inl ⟨by first | rfl | go_simp, by intro w9 hSw; (try dsimp only at hSw); go_simp⟩) (by assumption) ?_
          simp only [List.getElem_toArray, List.getElem_cons_zero, List.getElem_cons_succ, Act.put, List.setIfInBounds_toArray, List.set_cons_zero, List.set_cons_succ]
          refine wpAnyH_take (i := 4) (v := .agg #[.int .i64 D, .slice A n c, .slice J nj cj, .slice S ns cs]) rfl (by kernel_rfl) (by kernel_rfl) (by kernel_rfl) (fun _ _ _ h => h) (Or.inl ⟨by first | rfl | go_simp, by intro w9 hSw; (try dsimp only at hSw); go_simp⟩) (by assumption) ?_
          simp only [List.getElem_toArray, List.getElem_cons_zero, List.getElem_cons_succ, Act.put, List.setIfInBounds_toArray, List.set_cons_zero, List.set_cons_succ]
          refine wpAnyH_take (i := 5) (v := .slice (some ⟨b, off, none⟩) k kc) rfl (by kernel_rfl) (by kernel_rfl) (by kernel_rfl) (fun _ _ _ h => h) (Or.inl ⟨by first | rfl | go_simp, by intro w9 hSw; (try dsimp only at hSw); go_simp⟩) (by assumption) ?_
          simp only [List.getElem_toArray, List.getElem_cons_zero, List.getElem_cons_succ, Act.put, List.setIfInBounds_toArray, List.set_cons_zero, List.set_cons_succ]
          refine wpAnyH_take (i := 6) (v := .int .i64 (b0 : Int)) rfl (by kernel_rfl) (by kernel_rfl) (by kernel_rfl) (fun _ _ _ h => h) (Or.inl ⟨by first | rfl | go_simp, by intro w9 hSw; (try dsimp only at hSw); go_simp⟩) (by assumption) ?_
          simp only [List.getElem_toArray, List.getElem_cons_zero, List.getElem_cons_succ, Act.put, List.setIfInBounds_toArray, List.set_cons_zero, List.set_cons_succ]
          refine wpAnyH_take (i := 7) (v := .pointer (some ⟨w.heap.size + 1, 0, none⟩)) rfl (by kernel_rfl) (by kernel_rfl) (by kernel_rfl) (fun _ _ _ h => h) (Or.inl ⟨by first | rfl | go_simp, by intro w9 hSw; (try dsimp only at hSw); go_simp⟩) (by assumption) ?_
          simp only [List.getElem_toArray, List.getElem_cons_zero, List.getElem_cons_succ, Act.put, List.setIfInBounds_toArray, List.set_cons_zero, List.set_cons_succ]
          refine wpAnyH_take (i := 8) (v := .int .i64 d) rfl (by kernel_rfl) (by kernel_rfl) (by kernel_rfl) (fun _ _ _ h => h) (Or.inl ⟨by first | rfl | go_simp, by intro w9 hSw; (try dsimp only at hSw); go_simp⟩) (by assumption) ?_
          simp only [List.getElem_toArray, List.getElem_cons_zero, List.getElem_cons_succ, Act.put, List.setIfInBounds_toArray, List.set_cons_zero, List.set_cons_succ]
          refine wpAnyH_take (i := 10) (v := .pointer (some ⟨wr.heap.size, 3, none⟩)) rfl (by kernel_rfl) (by kernel_rfl) (by kernel_rfl) (fun _ _ _ h => h) (Or.inl ⟨by first | rfl | go_simp, by intro w9 hSw; (try dsimp only at hSw); go_simp⟩) (by assumption) ?_
          simp only [List.getElem_toArray, List.getElem_cons_zero, List.getElem_cons_succ, Act.put, List.setIfInBounds_toArray, List.set_cons_zero, List.set_cons_succ]
          refine wpAnyH_take (i := 11) (v := .int .i64 p3) rfl (by kernel_rfl) (by kernel_rfl) (by kernel_rfl) (fun _ _ _ h => h) (Or.inl ⟨by first | rfl | go_simp, by intro w9 hSw; (try dsimp only at hSw); go_simp⟩) (by assumption) ?_
          simp only [List.getElem_toArray, List.getElem_cons_zero, List.getElem_cons_succ, Act.put, List.setIfInBounds_toArray, List.set_cons_zero, List.set_cons_succ]
          refine wpAnyH_take (i := 12) (v := .agg #[.int .i64 p0, .int .i64 p1, .int .i64 p2, .int .i64 p3, .slice PA bs.length pc]) rfl (by kernel_rfl) (by kernel_rfl) (by kernel_rfl) (fun _ _ _ h => h) (Or.inl ⟨by first | rfl | go_simp, by intro w9 hSw; (try dsimp only at hSw); go_simp⟩) (by assumption) ?_
          simp only [List.getElem_toArray, List.getElem_cons_zero, List.getElem_cons_succ, Act.put, List.setIfInBounds_toArray, List.set_cons_zero, List.set_cons_succ]
          refine wpAnyH_ready (rs := [9, 15]) (by kernel_rfl) (by simp) ?_
          refine AllReadyH.cons rfl (fun K hK => ?_) (AllReadyH.cons rfl (fun K hK => ?_) (AllReadyH.nil))
          · skip
            go_simp
            refine (HDi.out _ (HBw.out _ hHeld.1)).mono ?_
            rintro e w2 ⟨rfl, b2⟩
            refine hK.out _ _ (HSb.out _ (hHeld.1.trans (b2.mono hHeld.1.size))) (fun hHeld => ?_)
            clear hK K
            try simp only [List.getElem_toArray, List.getElem_cons_zero, List.getElem_cons_succ, Act.put, List.setIfInBounds_toArray, List.set_cons_zero, List.set_cons_succ]
            refine wpAnyH_ready (rs := [13, 15]) (by kernel_rfl) (by simp) ?_
            refine AllReadyH.cons rfl (fun K hK => ?_) (AllReadyH.cons rfl (fun K hK => ?_) (AllReadyH.nil))
            · skip
              go_simp
              refine (HEn.out _).mono ?_
              rintro e w3 ⟨rfl, b3⟩
              refine hK.out _ _ (HSb.out _ (hHeld.1.trans (b3.mono hHeld.1.size))) (fun hHeld => ?_)
              clear hK K
              try simp only [List.getElem_toArray, List.getElem_cons_zero, List.getElem_cons_succ, Act.put, List.setIfInBounds_toArray, List.set_cons_zero, List.set_cons_succ]
              refine wpAnyH_take (i := 14) (v := .agg #[.int .i64 p0, .int .i64 d, .int .i64 z, .int .i64 p3, .int .i64 en, .slice none 0 0]) rfl (by kernel_rfl) (by kernel_rfl) (by kernel_rfl) (fun _ _ _ h => h) (Or.inl ⟨by first | rfl | go_simp, by intro w9 hSw; (try dsimp only at hSw); go_simp⟩) (by assumption) ?_
              simp only [List.getElem_toArray, List.getElem_cons_zero, List.getElem_cons_succ, Act.put, List.setIfInBounds_toArray, List.set_cons_zero, List.set_cons_succ]
              refine wpAnyH_ready (rs := [15]) (by kernel_rfl) (by simp) ?_
              refine AllReadyH.cons rfl (fun K hK => ?_) (AllReadyH.nil)
              go_simp
              skip
              refine hK.out _ _ (HSb.out _ (hHeld.1.alloc hHeld.1.size _)) (fun hHeld2 => ?_)
              clear hK K
              have hg := hHeld.1.size
              have RB := fresh_at hHeld.1 46 #[.int .i64 0, .int .i64 0, .int .i64 0, .int .i64 0, .int .i64 0, .slice none 0 0]
              have hHeld := hHeld2
              clear hHeld2
              generalize w3.alloc (.cells #[.int .i64 0, .int .i64 0, .int .i64 0, .int .i64 0, .int .i64 0, .slice none 0 0] 46) = X3 at *
              try simp only [List.getElem_toArray, List.getElem_cons_zero, List.getElem_cons_succ, Act.put, List.setIfInBounds_toArray, List.set_cons_zero, List.set_cons_succ]
              obtain ⟨r0, r1, r2, r3, r4, r5, z0, z1, z2, z3, z4, z5⟩ := blk_six RB
              obtain ⟨⟨e0, e1, e2, e3, e4, e5⟩, ez5, bY⟩ := leaf_six (.int .i64 p0) (.int .i64 d) (.int .i64 z) (.int .i64 p3) (.int .i64 en) (.slice none 0 0) RB hHeld.1 hg
              have E6 := Lib.hid (And.intro e0 (And.intro e1 (And.intro e2 (And.intro e3 (And.intro e4 (And.intro e5 (And.intro ez5 bY)))))))
              clear e0 e1 e2 e3 e4 e5 ez5 bY
              refine wpAnyH_ready (rs := [16]) (by kernel_rfl) (by simp) ?_
              refine AllReadyH.cons rfl (fun K hK => ?_) AllReadyH.nil
              go_simp
              refine hK.out _ _ (HSb.out _ E6.out.2.2.2.2.2.2.2) (fun hHeld => ?_)
              clear hK K
              refine wpAnyH_done (by kernel_rfl) ?_ _
              go_wp2_with fail
              go_meet
              exact ⟨w3.heap.size, rfl, E6.out, hg, hHeld⟩
            · skip
              go_simp
              skip
              refine hK.out _ _ (HSb.out _ (hHeld.1.alloc hHeld.1.size _)) (fun hHeld2 => ?_)
              clear hK K
              have hg := hHeld.1.size
              have RB := fresh_at hHeld.1 46 #[.int .i64 0, .int .i64 0, .int .i64 0, .int .i64 0, .int .i64 0, .slice none 0 0]
              have hHeld := hHeld2
              clear hHeld2
              generalize w2.alloc (.cells #[.int .i64 0, .int .i64 0, .int .i64 0, .int .i64 0, .int .i64 0, .slice none 0 0] 46) = X3 at *
              try simp only [List.getElem_toArray, List.getElem_cons_zero, List.getElem_cons_succ, Act.put, List.setIfInBounds_toArray, List.set_cons_zero, List.set_cons_succ]
              refine wpAnyH_ready (rs := [13]) (by kernel_rfl) (by simp) ?_
              refine AllReadyH.cons rfl (fun K hK => ?_) (AllReadyH.nil)
              go_simp
              refine (HEn.out _).mono ?_
              rintro e w3 ⟨rfl, b3⟩
              refine hK.out _ _ (HSb.out _ (hHeld.1.trans (b3.mono hHeld.1.size))) (fun hHeld => ?_)
              clear hK K
              have RB := RB.below b3 RB.lt
              try simp only [List.getElem_toArray, List.getElem_cons_zero, List.getElem_cons_succ, Act.put, List.setIfInBounds_toArray, List.set_cons_zero, List.set_cons_succ]
              refine wpAnyH_take (i := 14) (v := .agg #[.int .i64 p0, .int .i64 d, .int .i64 z, .int .i64 p3, .int .i64 en, .slice none 0 0]) rfl (by kernel_rfl) (by kernel_rfl) (by kernel_rfl) (fun _ _ _ h => h) (Or.inl ⟨by first | rfl | go_simp, by intro w9 hSw; (try dsimp only at hSw); go_simp⟩) (by assumption) ?_
              simp only [List.getElem_toArray, List.getElem_cons_zero, List.getElem_cons_succ, Act.put, List.setIfInBounds_toArray, List.set_cons_zero, List.set_cons_succ]
              obtain ⟨r0, r1, r2, r3, r4, r5, z0, z1, z2, z3, z4, z5⟩ := blk_six RB
              obtain ⟨⟨e0, e1, e2, e3, e4, e5⟩, ez5, bY⟩ := leaf_six (.int .i64 p0) (.int .i64 d) (.int .i64 z) (.int .i64 p3) (.int .i64 en) (.slice none 0 0) RB hHeld.1 hg
              have E6 := Lib.hid (And.intro e0 (And.intro e1 (And.intro e2 (And.intro e3 (And.intro e4 (And.intro e5 (And.intro ez5 bY)))))))
              clear e0 e1 e2 e3 e4 e5 ez5 bY
              refine wpAnyH_ready (rs := [16]) (by kernel_rfl) (by simp) ?_
              refine AllReadyH.cons rfl (fun K hK => ?_) AllReadyH.nil
              go_simp
              refine hK.out _ _ (HSb.out _ E6.out.2.2.2.2.2.2.2) (fun hHeld => ?_)
              clear hK K
              refine wpAnyH_done (by kernel_rfl) ?_ _
              go_wp2_with fail
              go_meet
              exact ⟨w2.heap.size, rfl, E6.out, hg, hHeld⟩
          · skip
            go_simp
            skip
            refine hK.out _ _ (HSb.out _ (hHeld.1.alloc hHeld.1.size _)) (fun hHeld2 => ?_)
            clear hK K
            have hg := hHeld.1.size
            have RB := (Blk.fresh wr2 46 #[.int .i64 0, .int .i64 0, .int .i64 0, .int .i64 0, .int .i64 0, .slice none 0 0]).drew
            have hHeld := hHeld2
            clear hHeld2
            generalize (wr2.alloc (.cells #[.int .i64 0, .int .i64 0, .int .i64 0, .int .i64 0, .int .i64 0, .slice none 0 0] 46)).drew = X3 at *
            try simp only [List.getElem_toArray, List.getElem_cons_zero, List.getElem_cons_succ, Act.put, List.setIfInBounds_toArray, List.set_cons_zero, List.set_cons_succ]
            refine wpAnyH_ready (rs := [9]) (by kernel_rfl) (by simp) ?_
            refine AllReadyH.cons rfl (fun K hK => ?_) (AllReadyH.nil)
            go_simp
            refine (HDi.out _ (HBw.out _ hHeld.1)).mono ?_
            rintro e w2 ⟨rfl, b2⟩
            refine hK.out _ _ (HSb.out _ (hHeld.1.trans (b2.mono hHeld.1.size))) (fun hHeld => ?_)
            clear hK K
            have RB := RB.below b2 RB.lt
            try simp only [List.getElem_toArray, List.getElem_cons_zero, List.getElem_cons_succ, Act.put, List.setIfInBounds_toArray, List.set_cons_zero, List.set_cons_succ]
            refine wpAnyH_ready (rs := [13]) (by kernel_rfl) (by simp) ?_
            refine AllReadyH.cons rfl (fun K hK => ?_) (AllReadyH.nil)
            go_simp
            refine (HEn.out _).mono ?_
            rintro e w3 ⟨rfl, b3⟩
            refine hK.out _ _ (HSb.out _ (hHeld.1.trans (b3.mono hHeld.1.size))) (fun hHeld => ?_)
            clear hK K
            have RB := RB.below b3 RB.lt
            try simp only [List.getElem_toArray, List.getElem_cons_zero, List.getElem_cons_succ, Act.put, List.setIfInBounds_toArray, List.set_cons_zero, List.set_cons_succ]
            refine wpAnyH_take (i := 14) (v := .agg #[.int .i64 p0, .int .i64 d, .int .i64 z, .int .i64 p3, .int .i64 en, .slice none 0 0]) rfl (by kernel_rfl) (by kernel_rfl) (by kernel_rfl) (fun _ _ _ h => h) (Or.inl ⟨by first | rfl | go_simp, by intro w9 hSw; (try dsimp only at hSw); go_simp⟩) (by assumption) ?_
            simp only [List.getElem_toArray, List.getElem_cons_zero, List.getElem_cons_succ, Act.put, List.setIfInBounds_toArray, List.set_cons_zero, List.set_cons_succ]
            obtain ⟨r0, r1, r2, r3, r4, r5, z0, z1, z2, z3, z4, z5⟩ := blk_six RB
            obtain ⟨⟨e0, e1, e2, e3, e4, e5⟩, ez5, bY⟩ := leaf_six (.int .i64 p0) (.int .i64 d) (.int .i64 z) (.int .i64 p3) (.int .i64 en) (.slice none 0 0) RB hHeld.1 hg
            have E6 := Lib.hid (And.intro e0 (And.intro e1 (And.intro e2 (And.intro e3 (And.intro e4 (And.intro e5 (And.intro ez5 bY)))))))
            clear e0 e1 e2 e3 e4 e5 ez5 bY
            refine wpAnyH_ready (rs := [16]) (by kernel_rfl) (by simp) ?_
            refine AllReadyH.cons rfl (fun K hK => ?_) AllReadyH.nil
            go_simp
            refine hK.out _ _ (HSb.out _ E6.out.2.2.2.2.2.2.2) (fun hHeld => ?_)
            clear hK K
            refine wpAnyH_done (by kernel_rfl) ?_ _
            go_wp2_with fail
            go_meet
            exact ⟨wr2.heap.size, rfl, E6.out, hg, hHeld⟩
        case rest =>
          obtain ⟨G, rfl, ⟨e0, e1, e2, e3, e4, e5, ez5, bY⟩, hg, hHeld⟩ := hcut
          have hgW : W.heap.size ≤ G := by omega
          generalize wc = Y at *
          have UY := hHeld.2
          have BY := HBw.out _ bY
          have WY := HBW.out _ bY
          obtain ⟨RY, _⟩ := HKx.out _ WY
          have hgY := World.block_lt_of_cell? _ _ e0
          clear hHeld
          by_cases k1 : z = 1
          · have k1' : (z == 1) = true := by simpa using k1
            have hpost : Hid (heard z bs = bs) := Lib.hid (by unfold heard; exact if_pos k1)
            clear k1
            have HP := Lib.hid (fun (A' : Option Addr) (c' : Nat) (w4 : World) (b4 : Below Y.heap.size Y w4) => clone_set (z := .slice none 0 0) (.slice A' bs.length c') e0 e1 e2 e3 e4 e5 ez5 b4)
            have HG5 : Hid (∀ (w4 : World) (b4 : Below Y.heap.size Y w4) (v : Value), Below W.heap.size W (w4.setCell ⟨G, 5, none⟩ v)) := Lib.hid fun w4 b4 v => (WY.trans (b4.mono WY.size)).setCell (p := ⟨G, 5, none⟩) (by have := hgW; omega) v
            go_wp2_with fail
            refine (HCl.out _ BY).mono ?_
            rintro e w4 ⟨A', c', rfl, l4, q4, b4⟩
            obtain ⟨c5, f5, y0, y1, y2, y3, y4, y5⟩ := HP.out A' c' w4 b4
            have bW5 := HG5.out w4 b4 (.slice A' bs.length c')
            obtain ⟨RZ, BZ⟩ := HKx.out _ bW5
            obtain ⟨r0, r1, r2, r3, r4, r5, z0, z1, z2, z3, z4, z5⟩ := blk_six RZ
            clear e0 e1 e2 e3 e4 e5 ez5 UY HP HG5 HCl HSb HBw HBW HDi HEn HKx
            go_wp2_with fail
            obtain ⟨⟨a0, a1, a2, a3, a4, a5⟩, _, bYY⟩ := leaf_six (.int .i64 p0) (.int .i64 d) (.int .i64 z) (.int .i64 p3) (.int .i64 en) (.slice A' bs.length c') RZ BZ (by omega)
            have hg2 : w.heap.size + 1 + 1 < Y.heap.size := by have := WY.size; omega
            have qf := ((((((q4.set (b := G) (o := 5) hgY (.slice A' bs.length c')).set (b := w.heap.size + 1 + 1) (o := 0) hg2 (.int .i64 p0)).set (b := w.heap.size + 1 + 1) (o := 1) hg2 (.int .i64 d)).set (b := w.heap.size + 1 + 1) (o := 2) hg2 (.int .i64 z)).set (b := w.heap.size + 1 + 1) (o := 3) hg2 (.int .i64 p3)).set (b := w.heap.size + 1 + 1) (o := 4) hg2 (.int .i64 en)).set (b := w.heap.size + 1 + 1) (o := 5) hg2 (.slice A' bs.length c')
            refine bodyPost_ret (v := .tuple #[.agg #[.int .i64 p0, .int .i64 d, .int .i64 z, .int .i64 p3, .int .i64 en, .slice A' bs.length c'], .bool true]) ?_ rfl ⟨⟨A', c', bs, rfl, hpost.out.symm, l4, qf.lower (by omega)⟩, bYY⟩
            simp [results, Try.f26, go_sem, a0, a1, a2, a3, a4, a5]
          · have k1' : (z == 1) = false := by simpa using k1
            obtain ⟨r0, r1, r2, r3, r4, r5, z0, z1, z2, z3, z4, z5⟩ := blk_six RY
            have HS6 := Lib.hid (leaf_six (.int .i64 p0) (.int .i64 d) (.int .i64 z) (.int .i64 p3) (.int .i64 en) (.slice none 0 0) RY BY (by omega))
            have hpost : Hid (heard z bs = []) := Lib.hid (by unfold heard; exact if_neg k1)
            clear k1 RY
            go_wp2_with fail
            obtain ⟨⟨e0, e1, e2, e3, e4, e5⟩, _, bYY⟩ := HS6.out
            refine bodyPost_ret (v := .tuple #[.agg #[.int .i64 p0, .int .i64 d, .int .i64 z, .int .i64 p3, .int .i64 en, .slice none 0 0], .bool true]) ?_ rfl ⟨⟨none, 0, [], rfl, hpost.out.symm, Nat.le_refl _, .inl rfl⟩, bYY⟩
            simp [results, Try.f26, go_sem, e0, e1, e2, e3, e4, e5]
end Go.Proofs.Ytocmcjbhmjbmhaa.Air
