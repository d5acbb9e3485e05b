/- How arguments read: slices of integers and of fields, texts; what the bound of the second form gives. How arguments read: structs of numbers and slices by value, slices of such structs; what their weights bound. No program is mentioned. How a struct with fields of several cells reads, field by field. No program is mentioned. How arguments read: a PDU by value. No function is mentioned. The statements on advertising PDUs: their walks over a PDU as it is read. From the condition on the listed variables to what the walks ask; the door's own heap meets it. -/
import Derived.Test.YtcjlliilfecmnaaDoorRows
import Derived.ProofKit
import Derived.OpenShut
import Derived.ShutString
import Derived.ChangeOld
import Derived.ChangeSame
import Derived.Deep.Slices
import Derived.Deep.Fields
import Derived.SizedLaws
import Derived.JoinedCond
import Derived.Test.YtcjlliilfecmnaaDoorKM1
import Derived.Test.YtcjlliilfecmnaaDoorKM5
import Derived.Test.YtcjlliilfecmnaaDoorKM9
import Derived.Test.YtcjlliilfecmnaaDoorKApLaws
import Derived.Test.YtcjlliilfecmnaaDoorKM6
import Derived.LaidMore
import Derived.Lib.LaidTab
section
set_option linter.unusedVariables false
set_option linter.unusedSimpArgs false
namespace Go.Proofs.YtcjlliilfecmnaaDoor.Arg
open Go.ChangeShapes Go.WideShapes Go.ChangeAt Go.RowKit Go.Deep Mem

section
variable {H : Type} {enc : TypeId × Value → H} {P : Program} {w : World} {base : Nat}

theorem add_plain {b off : Nat} (i : Nat) : (⟨b, off, none⟩ : Addr).add i = ⟨b, off + i, none⟩ := by
  unfold Addr.add
  by_cases h : i = 0
  · simp [h]
  · simp [h]
/-- A slice of integers reads as a list; what it is as data. -/
theorem read_ints {t e : TypeId} {k : IntKind} {A : Option Addr} {n c : Nat} {d : DataW H} {p : List MemPlace} (ht : P.underlying t = some (.slice e)) (he : P.underlying e = some (.int k)) (hc : P.cellsOf e = 1)
    (h : DataW.Trod enc P w base (fun _ => true) true t (.slice A n c) d p) :
    ∃ xs : List Int, xs.length = n ∧ n ≤ c ∧ Ints k w w.heap.size A xs ∧ (∀ z ∈ xs, (Lit.int k z).wf = true) ∧ ((d = .nil ∧ c = 0) ∨ ∃ elems spare, d = .slice elems spare ∧ elems.length + spare.length = c) := by
  obtain ⟨fuel, hf⟩ := h
  rcases open_ints ht he hc hf with ⟨hcs, hx⟩ | ⟨a, len, cap, zs, hcs, _, hl, hm, hz, hx, hcell, hwz⟩
  · simp [Value.cells] at hcs
    obtain ⟨rfl, rfl, rfl⟩ := hcs
    simp only [Prod.mk.injEq] at hx
    exact ⟨[], rfl, Nat.le_refl _, .inl rfl, by simp, .inl ⟨hx.1, rfl⟩⟩
  · simp [Value.cells] at hcs
    obtain ⟨rfl, rfl, rfl⟩ := hcs
    simp only [if_true] at hz
    simp only [Prod.mk.injEq] at hx
    refine ⟨zs.take n, by rw [List.length_take]; omega, hl, ?_, fun z hzm => hwz z (List.mem_of_mem_take hzm), .inr ⟨_, _, hx.1, ?_⟩⟩
    · by_cases hn : n = 0
      · left; rw [hn]; simp
      · right
        have h0 := hcell 0 (by omega)
        have hblk := block_lt_of_cell h0
        have hspot := World.cell?_spot h0
        obtain ⟨b, off, spot⟩ := a
        have hs : spot = none := by
          have : (Addr.add ⟨b, off, spot⟩ 0).spot = spot := by unfold Addr.add; simp
          rw [this] at hspot; exact hspot
        subst hs
        refine ⟨b, off, rfl, by simpa [add_plain] using hblk, fun j hj => ?_⟩
        have hjn : j < n := by rw [List.length_take] at hj; omega
        have := hcell j (by omega)
        rw [add_plain] at this
        rw [this]
        simp [List.getD, List.getElem?_take, hjn]
    · simp [lits]; omega
/-- A slice of structs of two integers. -/
theorem read_pairs {t e : TypeId} {f0 f1 : Field} {k0 k1 : IntKind} {A : Option Addr} {n c : Nat} {d : DataW H} {p : List MemPlace} (ht : P.underlying t = some (.slice e)) (he : P.underlying e = some (.struct #[f0, f1]))
    (hone : oneCellFields P #[f0, f1] = true) (hC : P.cellsOf e = 2) (h0 : P.underlying f0.type = some (.int k0)) (h1 : P.underlying f1.type = some (.int k1))
    (h : DataW.Trod enc P w base (fun _ => true) true t (.slice A n c) d p) :
    ∃ fs : List (Int × Int), fs.length = n ∧ n ≤ c ∧ (fs = [] ∨ ∃ b off, A = some ⟨b, off, none⟩ ∧ b < w.heap.size ∧ ∀ j f, fs[j]? = some f → w.cell? ⟨b, off + j * 2, none⟩ = some (.int k0 f.1) ∧ w.cell? ⟨b, off + j * 2 + 1, none⟩ = some (.int k1 f.2)) ∧
      (∀ f ∈ fs, (Lit.int k0 f.1).wf = true ∧ (Lit.int k1 f.2).wf = true) ∧ ((d = .nil ∧ c = 0) ∨ ∃ elems spare, d = .slice elems spare ∧ elems.length + spare.length = c) := by
  obtain ⟨fuel, hf⟩ := h
  rcases open_slice ht hf with ⟨hcs, hx⟩ | ⟨a, len, cap, m, fl, D, Pl, hcs, _, hl, hm, hmm, hx, hi⟩
  · simp [Value.cells] at hcs
    obtain ⟨rfl, rfl, rfl⟩ := hcs
    simp only [Prod.mk.injEq] at hx
    exact ⟨[], rfl, Nat.le_refl _, .inl rfl, by simp, .inl ⟨hx.1, rfl⟩⟩
  · simp [Value.cells] at hcs
    obtain ⟨rfl, rfl, rfl⟩ := hcs
    simp only [if_true] at hmm
    subst hmm
    simp only [Prod.mk.injEq] at hx
    have each : ∀ i, i < m → ∃ x y : Int, w.cell? (a.add (i * 2)) = some (.int k0 x) ∧ w.cell? (a.add (i * 2 + 1)) = some (.int k1 y) ∧ (Lit.int k0 x).wf = true ∧ (Lit.int k1 y).wf = true := by
      intro i hlt
      obtain ⟨cs, hcs, htr⟩ := hi i hlt
      rw [hC] at hcs
      obtain ⟨_, hlen, hat⟩ := World.cells?_some hcs
      obtain ⟨y0, y1, g, _, _, q0, q1⟩ := trod_struct2 he htr
      obtain ⟨o0, s0⟩ := hone_of hone 0 f0 rfl
      obtain ⟨o1, s1⟩ := hone_of hone 1 f1 rfl
      match cs, hlen with
      | [c0, c1], _ =>
        rw [o0, s0] at q0
        rw [o1, s1] at q1
        obtain ⟨x, hx0, _, wx⟩ := DataW.trod_int h0 q0
        obtain ⟨y, hy0, _, wy⟩ := DataW.trod_int h1 q1
        simp at hx0 hy0
        subst hx0 hy0
        have a0 := hat 0 (by omega)
        have a1 := hat 1 (by omega)
        have e0 : (a.add (i * 2)).add 0 = a.add (i * 2) := by unfold Addr.add; simp
        rw [e0] at a0
        rw [Go.Deep.add_add] at a1
        exact ⟨x, y, by simpa using a0, by simpa using a1, wx, wy⟩
    have hex : ∃ fs : List (Int × Int), fs.length = n ∧ ∀ j f, fs[j]? = some f → w.cell? (a.add (j * 2)) = some (.int k0 f.1) ∧ w.cell? (a.add (j * 2 + 1)) = some (.int k1 f.2) ∧ (Lit.int k0 f.1).wf = true ∧ (Lit.int k1 f.2).wf = true := by
      have : ∀ q, q ≤ n → ∃ fs : List (Int × Int), fs.length = q ∧ ∀ j f, fs[j]? = some f → w.cell? (a.add (j * 2)) = some (.int k0 f.1) ∧ w.cell? (a.add (j * 2 + 1)) = some (.int k1 f.2) ∧ (Lit.int k0 f.1).wf = true ∧ (Lit.int k1 f.2).wf = true := by
        intro q
        induction q with
        | zero => intro _; exact ⟨[], rfl, by simp⟩
        | succ q ih =>
          intro hq
          obtain ⟨fs, hfl, hfs⟩ := ih (by omega)
          obtain ⟨x, y, hx, hy, wx, wy⟩ := each q (by omega)
          refine ⟨fs ++ [(x, y)], by simp [hfl], fun j f hj => ?_⟩
          by_cases hjq : j < fs.length
          · rw [List.getElem?_append_left hjq] at hj; exact hfs j f hj
          · rw [List.getElem?_append_right (by omega)] at hj
            have hj0 : j = q := by
              rcases Nat.lt_or_ge (j - fs.length) 1 with g | g
              · omega
              · rw [List.getElem?_eq_none (by simpa using g)] at hj; cases hj
            subst hj0
            rw [hfl, Nat.sub_self] at hj
            simp at hj
            subst hj
            exact ⟨hx, hy, wx, wy⟩
      exact this n (Nat.le_refl _)
    obtain ⟨fs, hfl, hfs⟩ := hex
    refine ⟨fs, hfl, hl, ?_, fun f hfm => ?_, .inr ⟨_, _, hx.1, ?_⟩⟩
    · cases hfe : fs with
      | nil => exact .inl rfl
      | cons f fr =>
        right
        have h00 := (hfs 0 f (by rw [hfe]; rfl)).1
        have hblk := block_lt_of_cell h00
        have hspot := World.cell?_spot h00
        obtain ⟨b, off, spot⟩ := a
        have hs : spot = none := by
          have : (Addr.add ⟨b, off, spot⟩ (0 * 2)).spot = spot := by unfold Addr.add; simp
          rw [this] at hspot; exact hspot
        subst hs
        refine ⟨b, off, rfl, by simpa [add_plain] using hblk, fun j g hj => ?_⟩
        rw [← hfe] at hj
        have := hfs j g hj
        rw [add_plain, add_plain] at this
        exact ⟨this.1, by rw [Nat.add_assoc]; exact this.2.1⟩
    · obtain ⟨j, hj⟩ := List.getElem?_of_mem hfm
      exact ⟨(hfs j f hj).2.2.1, (hfs j f hj).2.2.2⟩
    · simp; omega
end

/-! What the bound gives. -/
theorem one_le {H : Type} (d : DataW H) : 1 ≤ Rows.uptoBulk d := by
  cases d with
  | lit l => cases l <;> simp [Rows.uptoBulk]
  | nil => simp [Rows.uptoBulk]
  | ptr d => simp [Rows.uptoBulk]
  | slice elems spare => simp [Rows.uptoBulk]
  | agg parts => simp [Rows.uptoBulk]
  | iface t d => simp [Rows.uptoBulk]
  | map entries => simp [Rows.uptoBulk]
  | held h => simp [Rows.uptoBulk]
theorem many_le {H : Type} (l : List (DataW H)) : l.length ≤ Rows.uptoBulkAll l := by
  induction l with
  | nil => simp [Rows.uptoBulkAll]
  | cons x r ih => have := one_le x; simp only [Rows.uptoBulkAll, List.length_cons]; omega
theorem cap_le {H : Type} {d : DataW H} {c : Nat} (h : (d = .nil ∧ c = 0) ∨ ∃ elems spare, d = .slice elems spare ∧ elems.length + spare.length = c) : c ≤ Rows.uptoBulk d := by
  rcases h with ⟨_, rfl⟩ | ⟨elems, spare, rfl, rfl⟩
  · omega
  · have h1 := many_le elems
    have h2 := many_le spare
    simp only [Rows.uptoBulk]; omega
theorem text_le {H : Type} (s : ByteArray) : s.size ≤ Rows.uptoBulk (DataW.lit (H := H) (.string s.data.toList)) := by
  simp [Rows.uptoBulk]
theorem bound {H : Type} {l : List (DataW H)} (hk : Rows.uptoSmall H l = true) : Rows.uptoBulkAll l ≤ 1048576 := of_decide_eq_true hk
theorem sized {H : Type} {P : Program} {ts : List TypeId} {ds : List (DataW H)} (h : (DataW.weightsEach P ts ds).all (· ≤ reachBytes) = true) {j : Nat} {t e : TypeId} {d : DataW H} {c : Nat} (ht : ts[j]? = some t) (hd : ds[j]? = some d) (hu : P.underlying t = some (.slice e))
    (hs : (d = .nil ∧ c = 0) ∨ ∃ elems spare, d = .slice elems spare ∧ elems.length + spare.length = c) : c * P.bytesOf e ≤ 140737488351232 := by
  rcases hs with ⟨_, rfl⟩ | ⟨elems, spare, rfl, rfl⟩
  · omega
  · have := sized_slice h ht hd hu
    simpa [reachBytes] using this
end Go.Proofs.YtcjlliilfecmnaaDoor.Arg

end
section
set_option linter.unusedVariables false
set_option linter.unusedSimpArgs false
namespace Go.Proofs.YtcjlliilfecmnaaDoor.Rd
open Go.ChangeShapes Go.WideShapes Go.ChangeAt Go.RowKit Go.Deep Mem Rw

section
variable {H : Type} {enc : TypeId × Value → H} {P : Program} {w : World} {base : Nat}
/-- What a datum weighs is within reach. -/
def Light (P : Program) (t : TypeId) (d : DataW H) : Prop := ∀ z ∈ d.weights P t, z ≤ reachBytes
theorem light_top {ts : List TypeId} {ds : List (DataW H)} {j : Nat} {t : TypeId} {d : DataW H} (h : (DataW.weightsEach P ts ds).all (· ≤ reachBytes) = true) (ht : ts[j]? = some t) (hd : ds[j]? = some d) : Light P t d := fun z hz => by
  simpa using List.all_eq_true.1 h _ (DataW.weights_mem_each ht hd z hz)
theorem light_part {t : TypeId} {fs : Array Field} {parts : List (DataW H)} {j : Nat} {f : Field} {d : DataW H} (ht : P.underlying t = some (.struct fs)) (h : Light P t (.agg parts)) (hf : fs[j]? = some f) (hd : parts[j]? = some d) : Light P f.type d := fun z hz =>
  h z (by simp only [DataW.weights, ht]; exact DataW.weights_mem_each (by simp [hf]) hd z hz)
theorem mem_all {e : TypeId} {l : List (DataW H)} {d : DataW H} (hd : d ∈ l) {z : Nat} (hz : z ∈ d.weights P e) : z ∈ DataW.weightsAll P e l := by
  induction l with
  | nil => cases hd
  | cons x r ih =>
    simp only [DataW.weightsAll, List.mem_append]
    rcases List.mem_cons.mp hd with rfl | h
    · exact .inl hz
    · exact .inr (ih h)
theorem light_elem {t e : TypeId} {elems spare : List (DataW H)} {d : DataW H} (ht : P.underlying t = some (.slice e)) (h : Light P t (.slice elems spare)) (hd : d ∈ elems) : Light P e d := fun z hz =>
  h z (by simp only [DataW.weights, ht, List.mem_cons, List.mem_append]; exact .inr (.inl (mem_all hd hz)))
theorem list_of {α : Type} {R : Nat → α → Prop} {n : Nat} (h : ∀ i, i < n → ∃ x, R i x) : ∃ xs : List α, xs.length = n ∧ ∀ i x, xs[i]? = some x → R i x := by
  have : ∀ q, q ≤ n → ∃ xs : List α, xs.length = q ∧ ∀ i x, xs[i]? = some x → R i x := by
    intro q
    induction q with
    | zero => intro _; exact ⟨[], rfl, by simp⟩
    | succ q ih =>
      intro hq
      obtain ⟨xs, hl, hx⟩ := ih (by omega)
      obtain ⟨y, hy⟩ := h q (by omega)
      refine ⟨xs ++ [y], by simp [hl], fun i x hi => ?_⟩
      by_cases hiq : i < xs.length
      · rw [List.getElem?_append_left hiq] at hi; exact hx i x hi
      · rw [List.getElem?_append_right (by omega)] at hi
        have h0 : i = q := by
          rcases Nat.lt_or_ge (i - xs.length) 1 with g | g
          · omega
          · rw [List.getElem?_eq_none (by simpa using g)] at hi; cases hi
        subst h0
        rw [hl, Nat.sub_self] at hi
        simp at hi
        subst hi
        exact hy
  exact this n (Nat.le_refl _)
theorem flat_inv {α : Type} {en : α → List Value} {K : Nat} (hK : Sized en K) (l : List α) : ∀ (q : Nat) (u : Value), (l.flatMap en)[q]? = some u → ∃ j i x, q = j * K + i ∧ l[j]? = some x ∧ (en x)[i]? = some u := by
  induction l with
  | nil => intro q u h; simp at h
  | cons x r ih =>
    intro q u h
    rw [List.flatMap_cons] at h
    by_cases hq : q < (en x).length
    · rw [List.getElem?_append_left hq] at h
      exact ⟨0, q, x, by simp, rfl, h⟩
    · rw [List.getElem?_append_right (by omega)] at h
      obtain ⟨j, i, y, e, hj, hi⟩ := ih _ _ h
      refine ⟨j + 1, i, y, ?_, hj, hi⟩
      have := (hK x).1
      rw [Nat.add_mul, Nat.one_mul]; omega
theorem spot_none {b off K : Nat} {spot : Option Nat} (h : (Addr.add ⟨b, off, spot⟩ (0 * K + 0)).spot = none) : spot = none := by
  have : (Addr.add ⟨b, off, spot⟩ (0 * K + 0)).spot = spot := by unfold Addr.add; simp
  rw [this] at h; exact h
/-- A slice of elements that each read as cells of some kind reads as a list. -/
theorem trod_rows {α : Type} {en : α → List Value} {K : Nat} {Good : α → Prop} {t e : TypeId} {v : Value} {fuel : Nat} {y : DataW H × List MemPlace} (hK : Sized en K) (hK0 : 0 < K) (ht : P.underlying t = some (.slice e)) (hC : P.cellsOf e = K)
    (hel : ∀ fuel cs y, DataW.trod enc P w base (fun _ => true) true fuel e cs = some y → cs.length = K → Light P e y.1 → ∃ x : α, cs = en x ∧ Good x)
    (h : DataW.trod enc P w base (fun _ => true) true fuel t [v] = some y) (hl : Light P t y.1) :
    ∃ A n c xs, v = .slice A n c ∧ xs.length = n ∧ n ≤ c ∧ ListAt en w w.heap.size A xs ∧ (∀ x ∈ xs, Good x) ∧ c * P.bytesOf e ≤ 140737488351232 := by
  rcases open_slice ht h with ⟨hcs, hx⟩ | ⟨a, len, cap, m, fl, D, Pl, hcs, _, hl0, hm, hmm, hx, hi⟩
  · obtain rfl : v = .slice none 0 0 := by simpa using hcs
    exact ⟨none, 0, 0, [], rfl, rfl, Nat.le_refl _, .inl rfl, by simp, by simp⟩
  · obtain rfl : v = .slice (some a) len cap := by simpa using hcs
    simp only [if_true] at hmm
    subst hmm
    subst hx
    rw [hC] at hi
    have hwt : m * P.bytesOf e ≤ 140737488351232 := by
      have := hl (m * P.bytesOf e) (by simp only [DataW.weights, ht, List.mem_cons]; left; simp [Nat.add_sub_cancel' hl0])
      simpa [reachBytes] using this
    have each : ∀ i, i < len → ∃ x : α, (∀ q u, (en x)[q]? = some u → w.cell? (a.add (i * K + q)) = some u) ∧ Good x := by
      intro i hlt
      obtain ⟨cs, hcs, htr⟩ := hi i (by omega)
      obtain ⟨_, hlen, hat⟩ := World.cells?_some hcs
      obtain ⟨x, rfl, hg⟩ := hel _ _ _ htr hlen (light_elem ht hl (by simp only [List.mem_map, List.mem_range]; exact ⟨i, hlt, rfl⟩))
      refine ⟨x, fun q u hq => ?_, hg⟩
      have hqK : q < K := by
        rcases Nat.lt_or_ge q (en x).length with g | g
        · omega
        · rw [List.getElem?_eq_none g] at hq; cases hq
      have := hat q hqK
      rw [Go.Deep.add_add] at this
      rw [this]
      rw [List.getElem?_eq_some_iff] at hq
      obtain ⟨g, hq⟩ := hq
      simp [g, hq]
    obtain ⟨xs, hxl, hxs⟩ := list_of each
    refine ⟨_, _, _, xs, rfl, hxl, hl0, ?_, fun x hx => by obtain ⟨i, hi⟩ := List.getElem?_of_mem hx; exact (hxs i x hi).2, hwt⟩
    cases hxe : xs with
    | nil => exact .inl rfl
    | cons x0 xr =>
      right
      have h0 := (hxs 0 x0 (by rw [hxe]; rfl)).1
      obtain ⟨u0, hu0⟩ : ∃ u, (en x0)[0]? = some u := ⟨_, List.getElem?_eq_getElem (by have := (hK x0).1; omega)⟩
      have h00 := h0 0 u0 hu0
      have hblk := block_lt_of_cell h00
      have hspot := World.cell?_spot h00
      obtain ⟨b, off, spot⟩ := a
      obtain rfl := spot_none hspot
      refine ⟨b, off, rfl, by simpa [Arg.add_plain] using hblk, fun q u hq => ?_⟩
      rw [← hxe] at hq
      obtain ⟨j, i, x, rfl, hj, hi⟩ := flat_inv hK xs q u hq
      have := (hxs j x hj).1 i u hi
      rwa [Arg.add_plain] at this
/-- A slice of integers, as a slot of a struct. -/
theorem trod_ints {t e : TypeId} {k : IntKind} {v : Value} {fuel : Nat} {y : DataW H × List MemPlace} (ht : P.underlying t = some (.slice e)) (he : P.underlying e = some (.int k)) (hc : P.cellsOf e = 1)
    (h : DataW.trod enc P w base (fun _ => true) true fuel t [v] = some y) (hl : Light P t y.1) :
    ∃ A n c zs, v = .slice A n c ∧ zs.length = n ∧ n ≤ c ∧ Ints k w w.heap.size A zs ∧ (∀ z ∈ zs, (Lit.int k z).wf = true) ∧ c * P.bytesOf e ≤ 140737488351232 := by
  have hv : ∃ A n c, v = .slice A n c := by
    rcases open_slice ht h with ⟨hcs, hx⟩ | ⟨a, len, cap, m, fl, D, Pl, hcs, _⟩
    · exact ⟨none, 0, 0, by simpa using hcs⟩
    · exact ⟨some a, len, cap, by simpa using hcs⟩
  obtain ⟨A, n, c, rfl⟩ := hv
  obtain ⟨d, p⟩ := y
  obtain ⟨zs, h1, h2, h3, h4, h5⟩ := Arg.read_ints ht he hc ⟨fuel, by simpa [Value.cells] using h⟩
  refine ⟨A, n, c, zs, rfl, h1, h2, h3, h4, ?_⟩
  rcases h5 with ⟨_, rfl⟩ | ⟨elems, spare, rfl, rfl⟩
  · omega
  · have := hl ((elems.length + spare.length) * P.bytesOf e) (by simp [DataW.weights, ht])
    simpa [reachBytes] using this
/-- The slots of a struct of one cell each. -/
theorem trod_slot {t : TypeId} {fs : Array Field} {cs : List Value} {fuel : Nat} {y : DataW H × List MemPlace} (hs : P.underlying t = some (.struct fs)) (hone : oneCellFields P fs = true) (h : DataW.trod enc P w base (fun _ => true) true fuel t cs = some y) (hl : Light P t y.1) :
    ∃ n, ∀ (j : Nat) (f : Field) (c : Value), fs[j]? = some f → cs[j]? = some c → ∃ z, DataW.trod enc P w base (fun _ => true) true n f.type [c] = some z ∧ Light P f.type z.1 := by
  obtain ⟨xs, n, _, rfl, _, hlen, hat⟩ := DataW.trod_struct hs h
  refine ⟨n, fun j f c hf hc => ?_⟩
  obtain ⟨o, s⟩ := hone_of hone j f hf
  have hj : j < fs.size := by
    rcases Nat.lt_or_ge j fs.size with g | g
    · exact g
    · rw [Array.getElem?_eq_none g] at hf; cases hf
  have h1 := hat j f (by simpa using hf)
  rw [o, s] at h1
  have hj2 : j < xs.length := by simpa [hlen] using hj
  rw [List.getElem?_eq_getElem hj2] at h1
  have hcs : (cs.drop j).take 1 = [c] := by
    obtain ⟨g, e⟩ := List.getElem?_eq_some_iff.mp hc
    rw [List.drop_eq_getElem_cons g, List.take_succ_cons, List.take_zero, e]
  rw [hcs] at h1
  refine ⟨_, h1, light_part hs hl hf (by simp [hj2])⟩
theorem slot_int {t : TypeId} {k : IntKind} {c : Value} {n : Nat} {z : DataW H × List MemPlace} (ht : P.underlying t = some (.int k)) (h : DataW.trod enc P w base (fun _ => true) true n t [c] = some z) : ∃ i : Int, c = .int k i ∧ (Lit.int k i).wf = true := by
  obtain ⟨i, hi, _, wi⟩ := DataW.trod_int ht h
  exact ⟨i, by simpa using hi, wi⟩
/-- A struct by value whose cells read as something. -/
theorem open_struct {α : Type} {en : α → List Value} {K b0 : Nat} {Good : α → Prop} {t : TypeId} {fs : Array Field} {v : Value} {d : DataW H} {p : List MemPlace} (hs : P.underlying t = some (.struct fs)) (hC : P.cellsOf t = K)
    (hel : ∀ fuel cs y, DataW.trod enc P w base (fun _ => true) true fuel t cs = some y → cs.length = K → Light P t y.1 → ∃ x : α, cs = en x ∧ Good x)
    (hv : Value.okWide P w .any b0 t v) (h : DataW.Trod enc P w base (fun _ => true) true t v d p) (hl : Light P t d) : ∃ x : α, v = .agg (en x).toArray ∧ Good x := by
  obtain ⟨cs, rfl, hsz⟩ := okWide_struct hs hv
  obtain ⟨fuel, hf⟩ := h
  obtain ⟨x, hx, hg⟩ := hel fuel cs.toList (d, p) (by simpa [Value.cells] using hf) (by simpa [hC] using hsz) hl
  exact ⟨x, by rw [← hx], hg⟩
end
end Go.Proofs.YtcjlliilfecmnaaDoor.Rd

end
section
set_option linter.unusedVariables false
set_option linter.unusedSimpArgs false
namespace Go.Proofs.YtcjlliilfecmnaaDoor.Rd
open Go.ChangeShapes Go.WideShapes Go.ChangeAt Go.RowKit Go.Deep Mem Rw

section
variable {H : Type} {enc : TypeId × Value → H} {P : Program} {w : World} {base : Nat}
theorem trod_part {t : TypeId} {fs : Array Field} {cs : List Value} {fuel : Nat} {y : DataW H × List MemPlace} (hs : P.underlying t = some (.struct fs)) (h : DataW.trod enc P w base (fun _ => true) true fuel t cs = some y) (hl : Light P t y.1) :
    ∃ n, ∀ (j : Nat) (f : Field) (o k : Nat), fs[j]? = some f → f.offset = o → P.cellsOf f.type = k → ∃ z, DataW.trod enc P w base (fun _ => true) true n f.type ((cs.drop o).take k) = some z ∧ Light P f.type z.1 := by
  obtain ⟨xs, n, _, rfl, _, hlen, hat⟩ := DataW.trod_struct hs h
  refine ⟨n, fun j f o k hf ho hk => ?_⟩
  have hj : j < fs.size := by
    rcases Nat.lt_or_ge j fs.size with g | g
    · exact g
    · rw [Array.getElem?_eq_none g] at hf; cases hf
  have h1 := hat j f (by simpa using hf)
  rw [ho, hk] at h1
  have hj2 : j < xs.length := by simpa [hlen] using hj
  rw [List.getElem?_eq_getElem hj2] at h1
  exact ⟨_, h1, light_part hs hl hf (by simp [hj2])⟩
theorem slot_bool {t : TypeId} {c : Value} {n : Nat} {z : DataW H × List MemPlace} (ht : P.underlying t = some .bool) (h : DataW.trod enc P w base (fun _ => true) true n t [c] = some z) : ∃ b : Bool, c = .bool b := by
  obtain ⟨b, hb, _⟩ := DataW.trod_bool ht h
  exact ⟨b, by simpa using hb⟩
end
theorem cells2 {α : Type} {cs : List α} (h : cs.length = 2) : ∃ c0 c1, cs = [c0, c1] := by
  match cs, h with
  | [c0, c1], _ => exact ⟨c0, c1, rfl⟩
theorem cells3 {α : Type} {cs : List α} (h : cs.length = 3) : ∃ c0 c1 c2, cs = [c0, c1, c2] := by
  match cs, h with
  | [c0, c1, c2], _ => exact ⟨c0, c1, c2, rfl⟩
theorem cells4 {α : Type} {cs : List α} (h : cs.length = 4) : ∃ c0 c1 c2 c3, cs = [c0, c1, c2, c3] := by
  match cs, h with
  | [c0, c1, c2, c3], _ => exact ⟨c0, c1, c2, c3, rfl⟩
theorem cells17 {α : Type} {cs : List α} (h : cs.length = 17) : ∃ c0 c1 c2 c3 c4 c5 c6 c7 c8 c9 c10 c11 c12 c13 c14 c15 c16, cs = [c0, c1, c2, c3, c4, c5, c6, c7, c8, c9, c10, c11, c12, c13, c14, c15, c16] := by
  match cs, h with
  | [c0, c1, c2, c3, c4, c5, c6, c7, c8, c9, c10, c11, c12, c13, c14, c15, c16], _ => exact ⟨c0, c1, c2, c3, c4, c5, c6, c7, c8, c9, c10, c11, c12, c13, c14, c15, c16, rfl⟩
end Go.Proofs.YtcjlliilfecmnaaDoor.Rd

end
section
set_option maxRecDepth 100000
set_option linter.unusedVariables false
set_option linter.unusedSimpArgs false
namespace Go.Proofs.YtcjlliilfecmnaaDoor.Rd
open Go.ChangeShapes Go.WideShapes Go.ChangeAt Go.RowKit Go.Deep Mem Rw Ap

/-- A PDU with the slice that holds its data. -/
def encP (x : Pd × Option Addr × Nat) : List Value := (cel x.1 (.slice x.2.1 x.1.ds.length x.2.2)).toList
def GoodP (w : World) (x : Pd × Option Addr × Nat) : Prop := Wid x.1 ∧ Bytes x.1.ds ∧ x.1.ds.length ≤ x.2.2 ∧ x.2.2 ≤ 140737488351232 ∧ Ints .u8 w w.heap.size x.2.1 x.1.ds
section
variable {H : Type} {enc : TypeId × Value → H} {w : World} {base b0 : Nat} {v : Value} {d : DataW H} {p : List MemPlace}
theorem elP : ∀ fuel cs y, DataW.trod enc Tryd.prog w base (fun _ => true) true fuel 33 cs = some y → cs.length = 17 → Light Tryd.prog 33 y.1 → ∃ x : Pd × Option Addr × Nat, cs = encP x ∧ GoodP w x := by
  intro fuel cs y h hlen hl
  obtain ⟨c0, c1, c2, c3, c4, c5, c6, c7, c8, c9, c10, c11, c12, c13, c14, c15, c16, rfl⟩ := cells17 hlen
  obtain ⟨n, hat⟩ := trod_part Tryd.underlying33 h hl
  obtain ⟨z0, h0, _⟩ := hat 0 _ 0 1 rfl rfl (by kernel_rfl)
  obtain ⟨z1, h1, l1⟩ := hat 1 _ 1 2 rfl rfl (by kernel_rfl)
  obtain ⟨z2, h2, l2⟩ := hat 2 _ 3 2 rfl rfl (by kernel_rfl)
  obtain ⟨z3, h3, l3⟩ := hat 3 _ 5 1 rfl rfl (by kernel_rfl)
  obtain ⟨z4, h4, l4⟩ := hat 4 _ 6 11 rfl rfl (by kernel_rfl)
  obtain ⟨k, rfl, w0⟩ := slot_int (by exact Tryd.underlying3) h0
  obtain ⟨n1, hat1⟩ := trod_slot (by exact Tryd.underlying24) (by kernel_rfl) h1 l1
  obtain ⟨y1, g1, _⟩ := hat1 0 _ c1 rfl rfl
  obtain ⟨y2, g2, _⟩ := hat1 1 _ c2 rfl rfl
  obtain ⟨sk, rfl, w1⟩ := slot_int (by exact Tryd.underlying3) g1
  obtain ⟨sb, rfl, w2⟩ := slot_int (by exact Tryd.underlying22) g2
  obtain ⟨n2, hat2⟩ := trod_slot (by exact Tryd.underlying24) (by kernel_rfl) h2 l2
  obtain ⟨y3, g3, _⟩ := hat2 0 _ c3 rfl rfl
  obtain ⟨y4, g4, _⟩ := hat2 1 _ c4 rfl rfl
  obtain ⟨tk, rfl, w3⟩ := slot_int (by exact Tryd.underlying3) g3
  obtain ⟨tb, rfl, w4⟩ := slot_int (by exact Tryd.underlying22) g4
  obtain ⟨A, m, c, zs, rfl, rfl, hmc, hi, hw, hz⟩ := trod_ints (by exact Tryd.underlying25) Tryd.underlying5 (by kernel_rfl) h3 l3
  obtain ⟨n4, hat4⟩ := trod_part (by exact Tryd.underlying31) h4 l4
  obtain ⟨x0, e0, _⟩ := hat4 0 _ 0 1 rfl rfl (by kernel_rfl)
  obtain ⟨x1, e1, _⟩ := hat4 1 _ 1 1 rfl rfl (by kernel_rfl)
  obtain ⟨x2, e2, m2⟩ := hat4 2 _ 2 5 rfl rfl (by kernel_rfl)
  obtain ⟨x3, e3, _⟩ := hat4 3 _ 7 1 rfl rfl (by kernel_rfl)
  obtain ⟨x4, e4, _⟩ := hat4 4 _ 8 1 rfl rfl (by kernel_rfl)
  obtain ⟨x5, e5, _⟩ := hat4 5 _ 9 1 rfl rfl (by kernel_rfl)
  obtain ⟨x6, e6, _⟩ := hat4 6 _ 10 1 rfl rfl (by kernel_rfl)
  obtain ⟨pa, rfl, wa⟩ := slot_int (by exact Tryd.underlying26) e0
  obtain ⟨pb, rfl, wb⟩ := slot_int (by exact Tryd.underlying26) e1
  obtain ⟨pm, rfl, wm⟩ := slot_int (by exact Tryd.underlying29) e3
  obtain ⟨ph, rfl, _⟩ := slot_int (by exact Tryd.underlying3) e4
  obtain ⟨pd, rfl, _⟩ := slot_int (by exact Tryd.underlying3) e5
  obtain ⟨pg, rfl, _⟩ := slot_int (by exact Tryd.underlying3) e6
  obtain ⟨n5, hat5⟩ := trod_slot (by exact Tryd.underlying28) (by kernel_rfl) e2 m2
  obtain ⟨u0, s0, _⟩ := hat5 0 _ c8 rfl rfl
  obtain ⟨u1, s1, _⟩ := hat5 1 _ c9 rfl rfl
  obtain ⟨u2, s2, _⟩ := hat5 2 _ c10 rfl rfl
  obtain ⟨u3, s3, _⟩ := hat5 3 _ c11 rfl rfl
  obtain ⟨u4, s4, _⟩ := hat5 4 _ c12 rfl rfl
  obtain ⟨ps, rfl, _⟩ := slot_int (by exact Tryd.underlying3) s0
  obtain ⟨po, rfl, _⟩ := slot_int (by exact Tryd.underlying3) s1
  obtain ⟨pi, rfl, _⟩ := slot_int (by exact Tryd.underlying3) s2
  obtain ⟨pl, rfl, _⟩ := slot_int (by exact Tryd.underlying3) s3
  obtain ⟨pt, rfl, _⟩ := slot_int (by exact Tryd.underlying3) s4
  have bm := bounds_u64 wm
  obtain ⟨mm, rfl⟩ := Int.eq_ofNat_of_zero_le bm.1
  rw [show Tryd.prog.bytesOf 5 = 1 by kernel_rfl] at hz
  exact ⟨(⟨k, sk, sb, tk, tb, zs, pa, pb, ps, po, pi, pl, pt, mm, ph, pd, pg⟩, A, c), rfl, ⟨bounds_i64 w0, bounds_i64 w1, bounds_u64 w2, bounds_i64 w3, bounds_u64 w4, bounds_u32 wa, bounds_u32 wb, by simp only; omega⟩, fun z hz => bounds_u8 (hw z hz), hmc, by simp only; omega, hi⟩
theorem pdu_open (hv : Value.okWide Tryd.prog w .any b0 33 v) (h : DataW.Trod enc Tryd.prog w base (fun _ => true) true 33 v d p) (hl : Light Tryd.prog 33 d) :
    ∃ (x : Pd) (A : Option Addr) (c : Nat), v = .agg (cel x (.slice A x.ds.length c)) ∧ Wid x ∧ Bytes x.ds ∧ x.ds.length ≤ c ∧ c ≤ 140737488351232 ∧ Ints .u8 w w.heap.size A x.ds := by
  obtain ⟨x, e, g⟩ := open_struct (en := encP) (K := 17) Tryd.underlying33 (by kernel_rfl) elP hv h hl
  exact ⟨x.1, x.2.1, x.2.2, e, g⟩
end
end Go.Proofs.YtcjlliilfecmnaaDoor.Rd

end
section
set_option linter.unusedVariables false
namespace Go.Proofs.YtcjlliilfecmnaaDoor.Ap
open Go.RowKit Mem Oct

theorem fin_checks (p : Pd) (A : Option Addr) (c : Nat) (w : World) (gw : Wid p) (gb : Bytes p.ds) (hc : p.ds.length ≤ c) (hb : c ≤ 140737488351232) (gi : Ints .u8 w w.heap.size A p.ds) (hT : Adr.Tab w) :
    Calls Tryd.prog 3 #[.agg (cel p (.slice A p.ds.length c))] w fun e w' => e = .returned (.bool true) ∧ Below w.heap.size w w' :=
  law_checks p A p.ds.length c w ⟨rfl, gw, gb, by omega, gi⟩ hT
theorem fin_encodes (p : Pd) (A : Option Addr) (c : Nat) (w : World) (gw : Wid p) (gb : Bytes p.ds) (hc : p.ds.length ≤ c) (hb : c ≤ 140737488351232) (gi : Ints .u8 w w.heap.size A p.ds) (hT : Adr.Tab w) :
    Calls Tryd.prog 4 #[.agg (cel p (.slice A p.ds.length c))] w fun e w' => e = .returned (.bool true) ∧ Below w.heap.size w w' :=
  law_encodes p A p.ds.length c w ⟨rfl, gw, gb, by omega, gi⟩ hT
theorem fin_lengths (p : Pd) (A : Option Addr) (c : Nat) (w : World) (gw : Wid p) (gb : Bytes p.ds) (hc : p.ds.length ≤ c) (hb : c ≤ 140737488351232) (gi : Ints .u8 w w.heap.size A p.ds) (hT : Adr.Tab w) :
    Calls Tryd.prog 8 #[.agg (cel p (.slice A p.ds.length c))] w fun e w' => e = .returned (.bool true) ∧ Below w.heap.size w w' :=
  law_lengths p A p.ds.length c w ⟨rfl, gw, gb, by omega, gi⟩ hT
end Go.Proofs.YtcjlliilfecmnaaDoor.Ap

end
section
set_option linter.unusedVariables false
namespace Go.Proofs.YtcjlliilfecmnaaDoor.Door
open Go.RowKit Adr

theorem gA : Tryd.prog.globalNamed "wireless/address.randomAt" = some 0 := by kernel_rfl
theorem gP : Tryd.prog.globalNamed "wireless/address.prefixes" = some 1 := by kernel_rfl
theorem tA : (Tryd.prog.globals[0]?).map (·.type) = some 89 := by kernel_rfl
theorem tP : (Tryd.prog.globals[1]?).map (·.type) = some 90 := by kernel_rfl
def laid2 : List (String × DataW Unit) := [("wireless/address.prefixes", Rows.laid_wireless_address_prefixes), ("wireless/address.randomAt", Rows.laid_wireless_address_randomAt)]
/-- The door's own heap meets the condition. -/
theorem door_met (os : Os) (args : Array Value) : laidMetH Tryd.prog laid2 ((World.doorLaid Tryd.prog 400 os).forCall (fun _ _ => 0) ⟨#[], args, []⟩).memory :=
  laidMetH_of_parts3 (fuel := 8) (laidMet_of_run' 8 (by kernel_rfl) (by kernel_rfl)) (by kernel_rfl) (by kernel_rfl)
theorem laidMet_tail {P : Program} {x : String × DataW Unit} {rest : List (String × DataW Unit)} {W : World} (h : laidMet P (x :: rest) W) : laidMet P rest W := by
  obtain ⟨ps, ⟨g', t', cs, fuel, p, q, hg', ht', hvar, hd, hr, hp⟩, hn, hc⟩ := h
  subst hp
  exact ⟨q, hr, (List.nodup_append.1 hn).2.1, fun b off hm => hc b off (List.mem_append_right _ hm)⟩
theorem tab_of {W : World} (h : laidMetH Tryd.prog laid2 W) : Tab W := by
  rw [MakeChecks.laidMetH_plain _ _ _ (by kernel_rfl)] at h
  have hP := Lib.tabIs_of_head (k := .u64) (zs := pres) gP tP Tryd.underlying90 Tryd.underlying22 (by kernel_rfl) (by kernel_rfl) h
  have h3 := laidMet_tail h
  have hA := Lib.tabIs_of_head (k := .i64) (zs := ats) gA tA Tryd.underlying89 Tryd.underlying3 (by kernel_rfl) (by kernel_rfl) h3
  have cP : ∀ i : Nat, i < 5 → W.cell? ⟨1, i, none⟩ = some (.int .u64 (pres.getD i 0)) := fun i hi => hP.cell gP i hi
  have cA : ∀ i : Nat, i < 5 → W.cell? ⟨0, i, none⟩ = some (.int .i64 (ats.getD i 0)) := fun i hi => hA.cell gA i hi
  have lt : ∀ (g : Nat) (v : Value), W.cell? ⟨g, 0, none⟩ = some v → g < W.heap.size := fun g v hv => by
    rcases Nat.lt_or_ge g W.heap.size with hlt | hge
    · exact hlt
    · exfalso
      have : W.heap[g]? = none := Array.getElem?_eq_none hge
      simp [World.cell?, this] at hv
  have lP := lt _ _ (cP 0 (by decide))
  have lA := lt _ _ (cA 0 (by decide))
  exact ⟨by omega, cA, cP⟩
end Go.Proofs.YtcjlliilfecmnaaDoor.Door

end
