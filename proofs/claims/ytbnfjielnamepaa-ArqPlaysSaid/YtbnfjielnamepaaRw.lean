/- Words for memory: a slice of elements of k cells each that reads as a list of values of any kind; append of such a slice onto a row of the call's own. No program is mentioned. -/
import Derived.Test.YtbnfjielnamepaaMem
import Derived.Laws.CopyRow
import Derived.Laws.OwnMore
set_option linter.unusedVariables false
set_option linter.unusedSimpArgs false
namespace Go.Proofs.Ytbnfjielnamepaa.Rw
open Go.RowKit Mem

/-- The cells from A on are xs, in a block below B. -/
def CellsAt (w : World) (B : Nat) (A : Option Addr) (xs : List Value) : Prop :=
  xs = [] ∨ ∃ b off, A = some ⟨b, off, none⟩ ∧ b < B ∧ ∀ (q : Nat) u, xs[q]? = some u → w.cell? ⟨b, off + q, none⟩ = some u
section
variable {w w' : World} {B B' : Nat} {A : Option Addr} {xs : List Value}
theorem CellsAt.below (h : CellsAt w B A xs) (hb : Below B w w') : CellsAt w' B A xs := by
  rcases h with h | ⟨b, off, e, hlt, hc⟩
  · exact .inl h
  · exact .inr ⟨b, off, e, hlt, fun q u hq => (hb.cell (p := ⟨b, off + q, none⟩) hlt).trans (hc q u hq)⟩
theorem CellsAt.more (h : CellsAt w B A xs) (hB : B ≤ B') : CellsAt w B' A xs := by
  rcases h with h | ⟨b, off, e, hlt, hc⟩
  · exact .inl h
  · exact .inr ⟨b, off, e, by omega, hc⟩
theorem CellsAt.alloc (h : CellsAt w B A xs) (hB : B ≤ w.heap.size) (o : Obj) : CellsAt (w.alloc o) B A xs := h.below ((Below.refl _ _).alloc hB o)
theorem CellsAt.later (h : CellsAt w w.heap.size A xs) (hb : Below w.heap.size w w') : CellsAt w' w'.heap.size A xs := (h.below hb).more hb.size
theorem CellsAt.kept (h : CellsAt w w.heap.size A xs) (o : Obj) : CellsAt (w.alloc o) (w.alloc o).heap.size A xs := (h.alloc (Nat.le_refl _) o).more (by simp)
theorem CellsAt.lit (w : World) (xs : List Value) (cs : Array Value) (e : TypeId) (h : cs = xs.toArray) : CellsAt (w.alloc (.cells cs e)) (w.alloc (.cells cs e)).heap.size (some ⟨w.heap.size, 0, none⟩) xs := by
  right
  refine ⟨w.heap.size, 0, rfl, by simp, fun q u hq => ?_⟩
  rw [World.cell?_alloc_at _ _ _ _ rfl, h]
  simpa using hq
theorem plain_add (b off i : Nat) : (⟨b, off, none⟩ : Addr).add i = ⟨b, off + i, none⟩ := by
  unfold Addr.add
  by_cases h0 : i = 0
  · simp [h0]
  · simp [h0]
theorem CellsAt.own {base n c k : Nat} {e : TypeId} (h : w.ownsRow base e k (.slice A n c) n xs) : CellsAt w w.heap.size A xs := by
  rcases h.2 with ⟨hv, hn⟩ | ⟨g, cap, cur, hv, hbg, hg, hnc, hcm, hcs, htake⟩
  · left
    have := h.1
    subst hn
    simp at this
    exact this
  · right
    injection hv with hA hn hc
    subst hA
    have hlt : g < w.heap.size := by
      rcases Nat.lt_or_ge g w.heap.size with hlt | hge
      · exact hlt
      · rw [Array.getElem?_eq_none hge] at hg; cases hg
    refine ⟨g, 0, rfl, hlt, fun q u hq => ?_⟩
    have := h.cells (g := g) rfl q _ hq
    rwa [plain_add] at this
end

/-! ### Lists laid flat -/
section
variable {α : Type} {enc : α → List Value} {k : Nat}
def Sized (enc : α → List Value) (k : Nat) : Prop := ∀ x, (enc x).length = k ∧ ∀ u ∈ enc x, u.oneCell' = true
theorem flat_len (hk : Sized enc k) (l : List α) : (l.flatMap enc).length = l.length * k := by
  induction l with
  | nil => simp
  | cons x r ih => rw [List.flatMap_cons, List.length_append, ih, (hk x).1, List.length_cons, Nat.add_mul, Nat.one_mul, Nat.add_comm]
theorem flat_one (hk : Sized enc k) (l : List α) : ∀ u ∈ l.flatMap enc, u.oneCell' = true := by
  intro u hu
  obtain ⟨x, _, hx⟩ := List.mem_flatMap.mp hu
  exact (hk x).2 u hx
theorem flat_get (hk : Sized enc k) (l : List α) (j i : Nat) (x : α) (v : Value) (hj : l[j]? = some x) (hi : (enc x)[i]? = some v) : (l.flatMap enc)[j * k + i]? = some v := by
  induction l generalizing j with
  | nil => simp at hj
  | cons y r ih =>
    rw [List.flatMap_cons]
    have hik : i < (enc x).length := by
      rcases Nat.lt_or_ge i (enc x).length with h | h
      · exact h
      · rw [List.getElem?_eq_none h] at hi; cases hi
    cases j with
    | zero =>
      simp at hj; subst hj
      rw [Nat.zero_mul, Nat.zero_add, List.getElem?_append_left hik]; exact hi
    | succ j =>
      have := ih j (by simpa using hj)
      rw [List.getElem?_append_right (by rw [(hk y).1, Nat.add_mul, Nat.one_mul]; omega), (hk y).1, Nat.add_mul, Nat.one_mul, show j * k + k + i - k = j * k + i by omega]
      exact this
end
/-- The slice that begins at A reads the list l. -/
def ListAt {α : Type} (enc : α → List Value) (w : World) (B : Nat) (A : Option Addr) (l : List α) : Prop := CellsAt w B A (l.flatMap enc)
theorem ListAt.open_ {α : Type} {enc : α → List Value} {k : Nat} {w : World} {B : Nat} {A : Option Addr} {l : List α} (h : ListAt enc w B A l) (hk : Sized enc k) (hk0 : 0 < k) (hl : 0 < l.length) :
    ∃ b off, A = some ⟨b, off, none⟩ ∧ b < B ∧ ∀ (j : Nat) x, l[j]? = some x → ∀ (i : Nat) v, (enc x)[i]? = some v → w.cell? ⟨b, off + j * k + i, none⟩ = some v := by
  rcases h with h | ⟨b, off, e, hlt, hc⟩
  · have := flat_len hk l
    rw [h] at this
    have h2 : 0 < l.length * k := Nat.mul_pos hl hk0
    simp only [List.length_nil] at this
    omega
  · exact ⟨b, off, e, hlt, fun j x hj i v hi => by rw [Nat.add_assoc]; exact hc _ _ (flat_get hk l j i x v hj hi)⟩

section
variable {P : Program} {w : World}
theorem run_append_rows (base : Nat) (t ty e : TypeId) (i : TypeInfo) (z : Value) (k bytes : Nat) (ht : P.underlying t = some (.slice e)) (hi : P.info? e = some i) (hz : i.zero = some z)
    (hsize : i.size = k) (hby : i.bytes = bytes) (hzs : z.cells.size = k) (hk0 : 0 < k)
    (v : Value) (n : Nat) (xs : List Value) (hown : w.ownsRow base e k v n xs)
    (B : Nat) (A : Option Addr) (m c : Nat) (ys : List Value) (hm : ys.length = m * k) (h1 : ∀ u ∈ ys, u.oneCell' = true) (hr : CellsAt w B A ys)
    (h63 : n + m ≤ maxLen) (hbytes : (n + m) * bytes ≤ 140737488355328) (hbase : base ≤ w.heap.size) :
    ∃ v' w', (Builtin.append_ #[t, t] ty #[v, .slice A m c]).run P w = .ok v' w' ∧ w'.ownsRow base e k v' (n + m) (xs ++ ys) ∧ w.grownBy w' v.ownBlock := by
  have go : ∀ ad : Addr, (∀ (j : Nat) u, ys[j]? = some u → w.cell? (ad.add j) = some u) →
      ∃ v' w', (Builtin.append_ #[t, t] ty #[v, .slice (some ad) m c]).run P w = .ok v' w' ∧ w'.ownsRow base e k v' (n + m) (xs ++ ys) ∧ w.grownBy w' v.ownBlock := fun ad hc => by
    obtain ⟨v', w', h2, h3, h4, _⟩ := run_append_own (P := P) w base t ty e i z k bytes ht hi hz hsize hby hzs hk0 v n xs hown ad m c ys hm hc h1 h63 hbytes hbase
    exact ⟨v', w', h2, h3, h4⟩
  rcases hr with hnil | ⟨b, off, rfl, _, hc⟩
  · subst hnil
    have hm0 : m = 0 := by
      rcases Nat.eq_zero_or_pos m with h | h
      · exact h
      · have := Nat.mul_pos h hk0; simp at hm; omega
    subst hm0
    cases A with
    | none =>
      refine ⟨v, w, ?_, by simpa using hown, World.grownBy.refl w _⟩
      rcases hown.2 with ⟨rfl, rfl⟩ | ⟨g, cap, cur, rfl, _, _, hnc, _⟩
      · simp [Builtin.append_, run_underlying ht, sizeOf, typeInfo, hi, Builtin.lenOf, Builtin.firstCells]
      · simp [Builtin.append_, run_underlying ht, sizeOf, typeInfo, hi, Builtin.lenOf, Builtin.firstCells, hnc, storeCells]
    | some ad => exact go ad (by simp)
  · refine go _ fun j u hu => ?_
    rw [plain_add]; exact hc j u hu
theorem wpList_append_rows {ops : Array Oper} {rest : List Oper} {o : Oper} {a : Act} {Q : Exit → Act → World → Prop} (hgd : o.guard = none) (s x : Operand) (t : TypeId)
    (ho : o.op = .call { callee := .builtin .append, args := #[s, x], argTypes := #[t, t] })
    (base : Nat) (e : TypeId) (i : TypeInfo) (z : Value) (k bytes : Nat) (ht : P.underlying t = some (.slice e)) (hi : P.info? e = some i) (hz : i.zero = some z)
    (hsize : i.size = k) (hby : i.bytes = bytes) (hzs : z.cells.size = k) (hk0 : 0 < k)
    (v : Value) (n : Nat) (xs : List Value) (hs : a.eval s = v) (hown : w.ownsRow base e k v n xs)
    (B : Nat) (A : Option Addr) (m c : Nat) (ys : List Value) (hx : a.eval x = .slice A m c) (hm : ys.length = m * k) (h1 : ∀ u ∈ ys, u.oneCell' = true) (hr : CellsAt w B A ys)
    (h63 : n + m ≤ maxLen) (hbytes : (n + m) * bytes ≤ 140737488355328) (hbase : base ≤ w.heap.size)
    (h : ∀ v' w', w'.ownsRow base e k v' (n + m) (xs ++ ys) → Below base w w' → w.grownBy w' v.ownBlock → wpList P ops Q rest (a.put o.dst v') w') : wpList P ops Q (o :: rest) a w := by
  refine wpList_plain hgd fun K hK => ?_
  obtain ⟨v', w', hrun, h2, h3⟩ := run_append_rows (P := P) base t o.type e i z k bytes ht hi hz hsize hby hzs hk0 v n xs hown B A m c ys hm h1 hr h63 hbytes hbase
  unfold Oper.wp execOp
  simp only [ho, resolve, invoke, builtin, Sem.run_bind, Sem.run_pure, Result.andThen_ok, List.map_toArray, List.map_cons, List.map_nil, hs, hx, hrun]
  exact hK _ _ (h v' w' h2 ((Below.refl base w).grown h3 hbase fun g hg => (hown.lt g hg).1) h3)
/-- The same as one step of a region that draws its order. -/
theorem step_append_rows {ops : Array Oper} {o : Oper} {a : Act} {K : Act → World → Prop} {Q : Exit → Act → World → Prop} {E : Prop} (hgd : o.guard = none) (s x : Operand) (t : TypeId)
    (ho : o.op = .call { callee := .builtin .append, args := #[s, x], argTypes := #[t, t] })
    (base : Nat) (e : TypeId) (i : TypeInfo) (z : Value) (k bytes : Nat) (ht : P.underlying t = some (.slice e)) (hi : P.info? e = some i) (hz : i.zero = some z)
    (hsize : i.size = k) (hby : i.bytes = bytes) (hzs : z.cells.size = k) (hk0 : 0 < k)
    (v : Value) (n : Nat) (xs : List Value) (hs : a.eval s = v) (hown : w.ownsRow base e k v n xs)
    (B : Nat) (A : Option Addr) (m c : Nat) (ys : List Value) (hx : a.eval x = .slice A m c) (hm : ys.length = m * k) (h1 : ∀ u ∈ ys, u.oneCell' = true) (hr : CellsAt w B A ys)
    (h63 : n + m ≤ maxLen) (hbytes : (n + m) * bytes ≤ 140737488355328) (hbase : base ≤ w.heap.size)
    (h : ∀ v' w', w'.ownsRow base e k v' (n + m) (xs ++ ys) → Below base w w' → w.grownBy w' v.ownBlock → K (a.put o.dst v') w') :
    if Region.wanted o (yielded ops a.tmps) = true then Oper.wp P o a w K Q else E := by
  have hw : Region.wanted o (yielded ops a.tmps) = true := by simp [Region.wanted, hgd]
  rw [if_pos hw]
  obtain ⟨v', w', hrun, h2, h3⟩ := run_append_rows (P := P) base t o.type e i z k bytes ht hi hz hsize hby hzs hk0 v n xs hown B A m c ys hm h1 hr h63 hbytes hbase
  unfold Oper.wp execOp
  simp only [ho, resolve, invoke, builtin, Sem.run_bind, Sem.run_pure, Result.andThen_ok, List.map_toArray, List.map_cons, List.map_nil, hs, hx, hrun]
  exact h v' w' h2 ((Below.refl base w).grown h3 hbase fun g hg => (hown.lt g hg).1) h3
end
end Go.Proofs.Ytbnfjielnamepaa.Rw
