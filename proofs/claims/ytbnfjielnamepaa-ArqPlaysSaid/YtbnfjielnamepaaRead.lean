/- How arguments read: structs of numbers and slices by value, slices of such structs; what their weights bound. No program is mentioned. -/
import Derived.Test.YtbnfjielnamepaaOpen
import Derived.Test.YtbnfjielnamepaaRw
set_option linter.unusedVariables false
set_option linter.unusedSimpArgs false
namespace Go.Proofs.Ytbnfjielnamepaa.Rd
open Go.ChangeShapes Go.WideShapes Go.ChangeAt Go.RowKit Go.Deep Mem Rw

section
variable {H : Type} {enc : TypeId × Value → H} {P : Program} {w : World} {base : Nat}
/-- What a datum weighs is within reach. -/
def Light (P : Program) (t : TypeId) (d : DataW H) : Prop := ∀ z ∈ d.weights P t, z ≤ reachBytes
theorem light_top {ts : List TypeId} {ds : List (DataW H)} {j : Nat} {t : TypeId} {d : DataW H} (h : (DataW.weightsEach P ts ds).all (· ≤ reachBytes) = true) (ht : ts[j]? = some t) (hd : ds[j]? = some d) : Light P t d := fun z hz => by
  simpa using List.all_eq_true.1 h _ (DataW.weights_mem_each ht hd z hz)
theorem light_part {t : TypeId} {fs : Array Field} {parts : List (DataW H)} {j : Nat} {f : Field} {d : DataW H} (ht : P.underlying t = some (.struct fs)) (h : Light P t (.agg parts)) (hf : fs[j]? = some f) (hd : parts[j]? = some d) : Light P f.type d := fun z hz =>
  h z (by simp only [DataW.weights, ht]; exact DataW.weights_mem_each (by simp [hf]) hd z hz)
theorem mem_all {e : TypeId} {l : List (DataW H)} {d : DataW H} (hd : d ∈ l) {z : Nat} (hz : z ∈ d.weights P e) : z ∈ DataW.weightsAll P e l := by
  induction l with
  | nil => cases hd
  | cons x r ih =>
    simp only [DataW.weightsAll, List.mem_append]
    rcases List.mem_cons.mp hd with rfl | h
    · exact .inl hz
    · exact .inr (ih h)
theorem light_elem {t e : TypeId} {elems spare : List (DataW H)} {d : DataW H} (ht : P.underlying t = some (.slice e)) (h : Light P t (.slice elems spare)) (hd : d ∈ elems) : Light P e d := fun z hz =>
  h z (by simp only [DataW.weights, ht, List.mem_cons, List.mem_append]; exact .inr (.inl (mem_all hd hz)))
theorem list_of {α : Type} {R : Nat → α → Prop} {n : Nat} (h : ∀ i, i < n → ∃ x, R i x) : ∃ xs : List α, xs.length = n ∧ ∀ i x, xs[i]? = some x → R i x := by
  have : ∀ q, q ≤ n → ∃ xs : List α, xs.length = q ∧ ∀ i x, xs[i]? = some x → R i x := by
    intro q
    induction q with
    | zero => intro _; exact ⟨[], rfl, by simp⟩
    | succ q ih =>
      intro hq
      obtain ⟨xs, hl, hx⟩ := ih (by omega)
      obtain ⟨y, hy⟩ := h q (by omega)
      refine ⟨xs ++ [y], by simp [hl], fun i x hi => ?_⟩
      by_cases hiq : i < xs.length
      · rw [List.getElem?_append_left hiq] at hi; exact hx i x hi
      · rw [List.getElem?_append_right (by omega)] at hi
        have h0 : i = q := by
          rcases Nat.lt_or_ge (i - xs.length) 1 with g | g
          · omega
          · rw [List.getElem?_eq_none (by simpa using g)] at hi; cases hi
        subst h0
        rw [hl, Nat.sub_self] at hi
        simp at hi
        subst hi
        exact hy
  exact this n (Nat.le_refl _)
theorem flat_inv {α : Type} {en : α → List Value} {K : Nat} (hK : Sized en K) (l : List α) : ∀ (q : Nat) (u : Value), (l.flatMap en)[q]? = some u → ∃ j i x, q = j * K + i ∧ l[j]? = some x ∧ (en x)[i]? = some u := by
  induction l with
  | nil => intro q u h; simp at h
  | cons x r ih =>
    intro q u h
    rw [List.flatMap_cons] at h
    by_cases hq : q < (en x).length
    · rw [List.getElem?_append_left hq] at h
      exact ⟨0, q, x, by simp, rfl, h⟩
    · rw [List.getElem?_append_right (by omega)] at h
      obtain ⟨j, i, y, e, hj, hi⟩ := ih _ _ h
      refine ⟨j + 1, i, y, ?_, hj, hi⟩
      have := (hK x).1
      rw [Nat.add_mul, Nat.one_mul]; omega
theorem spot_none {b off K : Nat} {spot : Option Nat} (h : (Addr.add ⟨b, off, spot⟩ (0 * K + 0)).spot = none) : spot = none := by
  have : (Addr.add ⟨b, off, spot⟩ (0 * K + 0)).spot = spot := by unfold Addr.add; simp
  rw [this] at h; exact h
/-- A slice of elements that each read as cells of some kind reads as a list. -/
theorem trod_rows {α : Type} {en : α → List Value} {K : Nat} {Good : α → Prop} {t e : TypeId} {v : Value} {fuel : Nat} {y : DataW H × List MemPlace} (hK : Sized en K) (hK0 : 0 < K) (ht : P.underlying t = some (.slice e)) (hC : P.cellsOf e = K)
    (hel : ∀ fuel cs y, DataW.trod enc P w base (fun _ => true) true fuel e cs = some y → cs.length = K → Light P e y.1 → ∃ x : α, cs = en x ∧ Good x)
    (h : DataW.trod enc P w base (fun _ => true) true fuel t [v] = some y) (hl : Light P t y.1) :
    ∃ A n c xs, v = .slice A n c ∧ xs.length = n ∧ n ≤ c ∧ ListAt en w w.heap.size A xs ∧ (∀ x ∈ xs, Good x) ∧ c * P.bytesOf e ≤ 140737488351232 := by
  rcases open_slice ht h with ⟨hcs, hx⟩ | ⟨a, len, cap, m, fl, D, Pl, hcs, _, hl0, hm, hmm, hx, hi⟩
  · obtain rfl : v = .slice none 0 0 := by simpa using hcs
    exact ⟨none, 0, 0, [], rfl, rfl, Nat.le_refl _, .inl rfl, by simp, by simp⟩
  · obtain rfl : v = .slice (some a) len cap := by simpa using hcs
    simp only [if_true] at hmm
    subst hmm
    subst hx
    rw [hC] at hi
    have hwt : m * P.bytesOf e ≤ 140737488351232 := by
      have := hl (m * P.bytesOf e) (by simp only [DataW.weights, ht, List.mem_cons]; left; simp [Nat.add_sub_cancel' hl0])
      simpa [reachBytes] using this
    have each : ∀ i, i < len → ∃ x : α, (∀ q u, (en x)[q]? = some u → w.cell? (a.add (i * K + q)) = some u) ∧ Good x := by
      intro i hlt
      obtain ⟨cs, hcs, htr⟩ := hi i (by omega)
      obtain ⟨_, hlen, hat⟩ := World.cells?_some hcs
      obtain ⟨x, rfl, hg⟩ := hel _ _ _ htr hlen (light_elem ht hl (by simp only [List.mem_map, List.mem_range]; exact ⟨i, hlt, rfl⟩))
      refine ⟨x, fun q u hq => ?_, hg⟩
      have hqK : q < K := by
        rcases Nat.lt_or_ge q (en x).length with g | g
        · omega
        · rw [List.getElem?_eq_none g] at hq; cases hq
      have := hat q hqK
      rw [Go.Deep.add_add] at this
      rw [this]
      rw [List.getElem?_eq_some_iff] at hq
      obtain ⟨g, hq⟩ := hq
      simp [g, hq]
    obtain ⟨xs, hxl, hxs⟩ := list_of each
    refine ⟨_, _, _, xs, rfl, hxl, hl0, ?_, fun x hx => by obtain ⟨i, hi⟩ := List.getElem?_of_mem hx; exact (hxs i x hi).2, hwt⟩
    cases hxe : xs with
    | nil => exact .inl rfl
    | cons x0 xr =>
      right
      have h0 := (hxs 0 x0 (by rw [hxe]; rfl)).1
      obtain ⟨u0, hu0⟩ : ∃ u, (en x0)[0]? = some u := ⟨_, List.getElem?_eq_getElem (by have := (hK x0).1; omega)⟩
      have h00 := h0 0 u0 hu0
      have hblk := block_lt_of_cell h00
      have hspot := World.cell?_spot h00
      obtain ⟨b, off, spot⟩ := a
      obtain rfl := spot_none hspot
      refine ⟨b, off, rfl, by simpa [Arg.add_plain] using hblk, fun q u hq => ?_⟩
      rw [← hxe] at hq
      obtain ⟨j, i, x, rfl, hj, hi⟩ := flat_inv hK xs q u hq
      have := (hxs j x hj).1 i u hi
      rwa [Arg.add_plain] at this
/-- A slice of integers, as a slot of a struct. -/
theorem trod_ints {t e : TypeId} {k : IntKind} {v : Value} {fuel : Nat} {y : DataW H × List MemPlace} (ht : P.underlying t = some (.slice e)) (he : P.underlying e = some (.int k)) (hc : P.cellsOf e = 1)
    (h : DataW.trod enc P w base (fun _ => true) true fuel t [v] = some y) (hl : Light P t y.1) :
    ∃ A n c zs, v = .slice A n c ∧ zs.length = n ∧ n ≤ c ∧ Ints k w w.heap.size A zs ∧ (∀ z ∈ zs, (Lit.int k z).wf = true) ∧ c * P.bytesOf e ≤ 140737488351232 := by
  have hv : ∃ A n c, v = .slice A n c := by
    rcases open_slice ht h with ⟨hcs, hx⟩ | ⟨a, len, cap, m, fl, D, Pl, hcs, _⟩
    · exact ⟨none, 0, 0, by simpa using hcs⟩
    · exact ⟨some a, len, cap, by simpa using hcs⟩
  obtain ⟨A, n, c, rfl⟩ := hv
  obtain ⟨d, p⟩ := y
  obtain ⟨zs, h1, h2, h3, h4, h5⟩ := Arg.read_ints ht he hc ⟨fuel, by simpa [Value.cells] using h⟩
  refine ⟨A, n, c, zs, rfl, h1, h2, h3, h4, ?_⟩
  rcases h5 with ⟨_, rfl⟩ | ⟨elems, spare, rfl, rfl⟩
  · omega
  · have := hl ((elems.length + spare.length) * P.bytesOf e) (by simp [DataW.weights, ht])
    simpa [reachBytes] using this
/-- The slots of a struct of one cell each. -/
theorem trod_slot {t : TypeId} {fs : Array Field} {cs : List Value} {fuel : Nat} {y : DataW H × List MemPlace} (hs : P.underlying t = some (.struct fs)) (hone : oneCellFields P fs = true) (h : DataW.trod enc P w base (fun _ => true) true fuel t cs = some y) (hl : Light P t y.1) :
    ∃ n, ∀ (j : Nat) (f : Field) (c : Value), fs[j]? = some f → cs[j]? = some c → ∃ z, DataW.trod enc P w base (fun _ => true) true n f.type [c] = some z ∧ Light P f.type z.1 := by
  obtain ⟨xs, n, _, rfl, _, hlen, hat⟩ := DataW.trod_struct hs h
  refine ⟨n, fun j f c hf hc => ?_⟩
  obtain ⟨o, s⟩ := hone_of hone j f hf
  have hj : j < fs.size := by
    rcases Nat.lt_or_ge j fs.size with g | g
    · exact g
    · rw [Array.getElem?_eq_none g] at hf; cases hf
  have h1 := hat j f (by simpa using hf)
  rw [o, s] at h1
  have hj2 : j < xs.length := by simpa [hlen] using hj
  rw [List.getElem?_eq_getElem hj2] at h1
  have hcs : (cs.drop j).take 1 = [c] := by
    obtain ⟨g, e⟩ := List.getElem?_eq_some_iff.mp hc
    rw [List.drop_eq_getElem_cons g, List.take_succ_cons, List.take_zero, e]
  rw [hcs] at h1
  refine ⟨_, h1, light_part hs hl hf (by simp [hj2])⟩
theorem slot_int {t : TypeId} {k : IntKind} {c : Value} {n : Nat} {z : DataW H × List MemPlace} (ht : P.underlying t = some (.int k)) (h : DataW.trod enc P w base (fun _ => true) true n t [c] = some z) : ∃ i : Int, c = .int k i ∧ (Lit.int k i).wf = true := by
  obtain ⟨i, hi, _, wi⟩ := DataW.trod_int ht h
  exact ⟨i, by simpa using hi, wi⟩
end
end Go.Proofs.Ytbnfjielnamepaa.Rd
