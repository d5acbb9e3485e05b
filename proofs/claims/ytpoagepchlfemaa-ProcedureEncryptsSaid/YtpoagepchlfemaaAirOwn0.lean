/- append onto a slice without room. No program is mentioned. -/
import Derived.Test.YtpoagepchlfemaaRw
set_option linter.unusedVariables false
set_option linter.unusedSimpArgs false
namespace Go.Proofs.Ytpoagepchlfemaa.Rw
open Go.RowKit Mem
variable {P : Program} {w : World}
theorem own_capK {base k : Nat} {e : TypeId} {n c : Nat} {A : Option Addr} {xs : List Value} (h : w.ownsRow base e k (.slice A n c) n xs) : n ≤ c := by
  rcases h.2 with ⟨hv, hn⟩ | ⟨g, cap, cur, hv, hbg, hg, hnc, hcm, hcs, htake⟩
  · injection hv with hA hn' hc; omega
  · injection hv with hA hn' hc; omega
/-- Cells of a new block. -/
def NewAt (w : World) (base : Nat) (A : Option Addr) (xs : List Value) : Prop :=
  xs = [] ∨ ∃ g, A = some ⟨g, 0, none⟩ ∧ base ≤ g ∧ g < w.heap.size ∧ ∀ (q : Nat) u, xs[q]? = some u → w.cell? ⟨g, q, none⟩ = some u
theorem NewAt.at_ {base : Nat} {A : Option Addr} {xs : List Value} (h : NewAt w base A xs) : CellsAt w w.heap.size A xs := by
  rcases h with h | ⟨g, e, _, hg, hc⟩
  · exact .inl h
  · exact .inr ⟨g, 0, e, hg, fun q u hq => by rw [Nat.zero_add]; exact hc q u hq⟩
theorem NewAt.later {w' : World} {base : Nat} {A : Option Addr} {xs : List Value} (h : NewAt w base A xs) (hb : Below w.heap.size w w') : NewAt w' base A xs := by
  rcases h with h | ⟨g, e, hl, hg, hc⟩
  · exact .inl h
  · exact .inr ⟨g, e, hl, Nat.lt_of_lt_of_le hg hb.size, fun q u hq => (hb.cell (p := ⟨g, q, none⟩) hg).trans (hc q u hq)⟩
theorem NewAt.alloc {base : Nat} {A : Option Addr} {xs : List Value} (h : NewAt w base A xs) (o : Obj) : NewAt (w.alloc o) base A xs := h.later ((Below.refl _ w).alloc (Nat.le_refl _) o)
theorem NewAt.set {base b o : Nat} {A : Option Addr} {xs : List Value} (h : NewAt w base A xs) (hb : b < base) (v : Value) : NewAt (w.setCell ⟨b, o, none⟩ v) base A xs := by
  rcases h with h | ⟨g, e, hl, hg, hc⟩
  · exact .inl h
  · refine .inr ⟨g, e, hl, by simpa using hg, fun q u hq => ?_⟩
    rw [World.cell?_setCell_other]
    · exact hc q u hq
    · intro h; injection h with h1 h2; omega
theorem NewAt.lower {base base' : Nat} {A : Option Addr} {xs : List Value} (h : NewAt w base A xs) (hb : base' ≤ base) : NewAt w base' A xs := by
  rcases h with h | ⟨g, e, hl, r⟩
  · exact .inl h
  · exact .inr ⟨g, e, by omega, r⟩
theorem NewAt.own {base k : Nat} {e : TypeId} {n c : Nat} {A : Option Addr} {xs : List Value} (h : w.ownsRow base e k (.slice A n c) n xs) : NewAt w base A xs := by
  rcases h.2 with ⟨hv, hn⟩ | ⟨g, cap, cur, hv, hbg, hg, hnc, hcm, hcs, htake⟩
  · left
    have := h.1
    subst hn
    simp at this
    exact this
  · right
    injection hv with hA hn hc
    subst hA
    have hlt : g < w.heap.size := by
      rcases Nat.lt_or_ge g w.heap.size with hlt | hge
      · exact hlt
      · rw [Array.getElem?_eq_none hge] at hg; cases hg
    refine ⟨g, rfl, hbg, hlt, fun q u hq => ?_⟩
    have := h.cells (g := g) rfl q _ hq
    rwa [plain_add, Nat.zero_add] at this
theorem run_append_empty (t ty e : TypeId) (i : TypeInfo) (z : Value) (k bytes : Nat) (ht : P.underlying t = some (.slice e)) (hi : P.info? e = some i) (hz : i.zero = some z)
    (hsize : i.size = k) (hby : i.bytes = bytes) (hzs : z.cells.size = k) (hk0 : 0 < k)
    (A0 : Option Addr) (B : Nat) (A : Option Addr) (m c : Nat) (ys : List Value) (hm : ys.length = m * k) (h1 : ∀ u ∈ ys, u.oneCell' = true) (hr : CellsAt w B A ys)
    (h63 : m ≤ maxLen) (hbytes : m * bytes ≤ 140737488355328) :
    ∃ A' c' w', (Builtin.append_ #[t, t] ty #[.slice A0 0 0, .slice A m c]).run P w = .ok (.slice A' m c') w' ∧ m ≤ c' ∧ NewAt w' w.heap.size A' ys ∧ Below w.heap.size w w' := by
  by_cases hm0 : m = 0
  · subst hm0
    have hy : ys = [] := List.eq_nil_of_length_eq_zero (by simpa using hm)
    subst hy
    refine ⟨A0, 0, w, ?_, Nat.le_refl _, (.inl rfl), Below.refl _ _⟩
    cases A <;> cases A0 <;> simp [Builtin.append_, run_underlying ht, sizeOf, typeInfo, hi, Builtin.lenOf, Builtin.firstCells, storeCells, loadCells, loadCellsFrom]
  · obtain ⟨v', w', h2, h3, h4⟩ := run_append_rows (P := P) (w := w) w.heap.size t ty e i z k bytes ht hi hz hsize hby hzs hk0 (.slice none 0 0) 0 [] ⟨by simp, .inl ⟨rfl, rfl⟩⟩ B A m c ys hm h1 hr (by omega) (by simpa using hbytes) (Nat.le_refl _)
    obtain ⟨A', c', rfl⟩ := own_form h3
    have hb : Below w.heap.size w w' := (Below.refl w.heap.size w).grown h4 (Nat.le_refl _) fun g hg => absurd hg (by simp [Value.ownBlock])
    rw [Nat.zero_add] at h2 h3
    refine ⟨A', c', w', ?_, own_capK h3, NewAt.own (by simpa using h3), hb⟩
    rw [← h2]
    cases A0 with
    | none => rfl
    | some a0 =>
      have q1 : ¬ (9223372036854775807 : Int) < (m : Int) := by simp only [maxLen] at h63; omega
      have q2 : Builtin.nextslicecap m 0 = m := by unfold Builtin.nextslicecap; simp; omega
      have q3 : ¬ 281474976710656 < m * i.bytes := by rw [hby]; omega
      cases A <;> simp [Builtin.append_, run_underlying ht, sizeOf, typeInfo, hi, Builtin.lenOf, Builtin.firstCells, storeCells, loadCells, loadCellsFrom, hm0, q1, q2, q3]
/-- The same as one step of a region that draws its order. -/
theorem step_append_empty {ops : Array Oper} {o : Oper} {a : Act} {K : Act → World → Prop} {Q : Exit → Act → World → Prop} {E : Prop} (hgd : o.guard = none) (s x : Operand) (t : TypeId)
    (ho : o.op = .call { callee := .builtin .append, args := #[s, x], argTypes := #[t, t] })
    (e : TypeId) (i : TypeInfo) (z : Value) (k bytes : Nat) (ht : P.underlying t = some (.slice e)) (hi : P.info? e = some i) (hz : i.zero = some z)
    (hsize : i.size = k) (hby : i.bytes = bytes) (hzs : z.cells.size = k) (hk0 : 0 < k)
    (A0 : Option Addr) (hs : a.eval s = .slice A0 0 0)
    (B : Nat) (A : Option Addr) (m c : Nat) (ys : List Value) (hx : a.eval x = .slice A m c) (hm : ys.length = m * k) (h1 : ∀ u ∈ ys, u.oneCell' = true) (hr : CellsAt w B A ys)
    (h63 : m ≤ maxLen) (hbytes : m * bytes ≤ 140737488355328)
    (h : ∀ A' c' w', m ≤ c' → NewAt w' w.heap.size A' ys → Below w.heap.size w w' → K (a.put o.dst (.slice A' m c')) w') :
    if Region.wanted o (yielded ops a.tmps) = true then Oper.wp P o a w K Q else E := by
  have hw : Region.wanted o (yielded ops a.tmps) = true := by simp [Region.wanted, hgd]
  rw [if_pos hw]
  obtain ⟨A', c', w', hrun, h2, h3, h4⟩ := run_append_empty (P := P) t o.type e i z k bytes ht hi hz hsize hby hzs hk0 A0 B A m c ys hm h1 hr h63 hbytes
  unfold Oper.wp execOp
  simp only [ho, resolve, invoke, builtin, Sem.run_bind, Sem.run_pure, Result.andThen_ok, List.map_toArray, List.map_cons, List.map_nil, hs, hx, hrun]
  exact h A' c' w' h2 h3 h4
theorem wpList_append_empty {ops : Array Oper} {rest : List Oper} {o : Oper} {a : Act} {Q : Exit → Act → World → Prop} (hgd : o.guard = none) (s x : Operand) (t : TypeId)
    (ho : o.op = .call { callee := .builtin .append, args := #[s, x], argTypes := #[t, t] })
    (e : TypeId) (i : TypeInfo) (z : Value) (k bytes : Nat) (ht : P.underlying t = some (.slice e)) (hi : P.info? e = some i) (hz : i.zero = some z)
    (hsize : i.size = k) (hby : i.bytes = bytes) (hzs : z.cells.size = k) (hk0 : 0 < k)
    (A0 : Option Addr) (hs : a.eval s = .slice A0 0 0)
    (B : Nat) (A : Option Addr) (m c : Nat) (ys : List Value) (hx : a.eval x = .slice A m c) (hm : ys.length = m * k) (h1 : ∀ u ∈ ys, u.oneCell' = true) (hr : CellsAt w B A ys)
    (h63 : m ≤ maxLen) (hbytes : m * bytes ≤ 140737488355328)
    (h : ∀ A' c' w', m ≤ c' → NewAt w' w.heap.size A' ys → Below w.heap.size w w' → wpList P ops Q rest (a.put o.dst (.slice A' m c')) w') : wpList P ops Q (o :: rest) a w := by
  refine wpList_plain hgd fun K hK => ?_
  obtain ⟨A', c', w', hrun, h2, h3, h4⟩ := run_append_empty (P := P) t o.type e i z k bytes ht hi hz hsize hby hzs hk0 A0 B A m c ys hm h1 hr h63 hbytes
  unfold Oper.wp execOp
  simp only [ho, resolve, invoke, builtin, Sem.run_bind, Sem.run_pure, Result.andThen_ok, List.map_toArray, List.map_cons, List.map_nil, hs, hx, hrun]
  exact hK _ _ (h A' c' w' h2 h3 h4)
theorem info_parts2 {P : Program} {e : TypeId} {z : Value} {s b : Nat} (h : (P.info? e).map (fun i => (i.zero, i.size, i.bytes)) = some (some z, s, b)) (hz : z.cells.size = s) : ∃ i, P.info? e = some i ∧ i.zero = some z ∧ i.size = s ∧ i.bytes = b ∧ z.cells.size = s := by
  cases hq : P.info? e with
  | none => rw [hq] at h; cases h
  | some i =>
    rw [hq] at h
    simp only [Option.map_some, Option.some.injEq, Prod.mk.injEq] at h
    exact ⟨i, rfl, h.1, h.2.1, h.2.2, hz⟩
end Go.Proofs.Ytpoagepchlfemaa.Rw
