/- How arguments read: slices of integers and of fields, texts; what the bound of the second form gives. -/
import Derived.Test.YtpoagepchlfemaaRows
import Derived.ProofKit
import Derived.OpenShut
import Derived.ShutString
import Derived.ChangeOld
import Derived.ChangeSame
import Derived.Deep.Slices
import Derived.Deep.Fields
import Derived.SizedLaws
import Derived.JoinedCond
import Derived.Test.YtpoagepchlfemaaMem
set_option linter.unusedVariables false
set_option linter.unusedSimpArgs false
namespace Go.Proofs.Ytpoagepchlfemaa.Arg
open Go.ChangeShapes Go.WideShapes Go.ChangeAt Go.RowKit Go.Deep Mem

section
variable {H : Type} {enc : TypeId × Value → H} {P : Program} {w : World} {base : Nat}

theorem add_plain {b off : Nat} (i : Nat) : (⟨b, off, none⟩ : Addr).add i = ⟨b, off + i, none⟩ := by
  unfold Addr.add
  by_cases h : i = 0
  · simp [h]
  · simp [h]
/-- A slice of integers reads as a list; what it is as data. -/
theorem read_ints {t e : TypeId} {k : IntKind} {A : Option Addr} {n c : Nat} {d : DataW H} {p : List MemPlace} (ht : P.underlying t = some (.slice e)) (he : P.underlying e = some (.int k)) (hc : P.cellsOf e = 1)
    (h : DataW.Trod enc P w base (fun _ => true) true t (.slice A n c) d p) :
    ∃ xs : List Int, xs.length = n ∧ n ≤ c ∧ Ints k w w.heap.size A xs ∧ (∀ z ∈ xs, (Lit.int k z).wf = true) ∧ ((d = .nil ∧ c = 0) ∨ ∃ elems spare, d = .slice elems spare ∧ elems.length + spare.length = c) := by
  obtain ⟨fuel, hf⟩ := h
  rcases open_ints ht he hc hf with ⟨hcs, hx⟩ | ⟨a, len, cap, zs, hcs, _, hl, hm, hz, hx, hcell, hwz⟩
  · simp [Value.cells] at hcs
    obtain ⟨rfl, rfl, rfl⟩ := hcs
    simp only [Prod.mk.injEq] at hx
    exact ⟨[], rfl, Nat.le_refl _, .inl rfl, by simp, .inl ⟨hx.1, rfl⟩⟩
  · simp [Value.cells] at hcs
    obtain ⟨rfl, rfl, rfl⟩ := hcs
    simp only [if_true] at hz
    simp only [Prod.mk.injEq] at hx
    refine ⟨zs.take n, by rw [List.length_take]; omega, hl, ?_, fun z hzm => hwz z (List.mem_of_mem_take hzm), .inr ⟨_, _, hx.1, ?_⟩⟩
    · by_cases hn : n = 0
      · left; rw [hn]; simp
      · right
        have h0 := hcell 0 (by omega)
        have hblk := block_lt_of_cell h0
        have hspot := World.cell?_spot h0
        obtain ⟨b, off, spot⟩ := a
        have hs : spot = none := by
          have : (Addr.add ⟨b, off, spot⟩ 0).spot = spot := by unfold Addr.add; simp
          rw [this] at hspot; exact hspot
        subst hs
        refine ⟨b, off, rfl, by simpa [add_plain] using hblk, fun j hj => ?_⟩
        have hjn : j < n := by rw [List.length_take] at hj; omega
        have := hcell j (by omega)
        rw [add_plain] at this
        rw [this]
        simp [List.getD, List.getElem?_take, hjn]
    · simp [lits]; omega
/-- A slice of structs of two integers. -/
theorem read_pairs {t e : TypeId} {f0 f1 : Field} {k0 k1 : IntKind} {A : Option Addr} {n c : Nat} {d : DataW H} {p : List MemPlace} (ht : P.underlying t = some (.slice e)) (he : P.underlying e = some (.struct #[f0, f1]))
    (hone : oneCellFields P #[f0, f1] = true) (hC : P.cellsOf e = 2) (h0 : P.underlying f0.type = some (.int k0)) (h1 : P.underlying f1.type = some (.int k1))
    (h : DataW.Trod enc P w base (fun _ => true) true t (.slice A n c) d p) :
    ∃ fs : List (Int × Int), fs.length = n ∧ n ≤ c ∧ (fs = [] ∨ ∃ b off, A = some ⟨b, off, none⟩ ∧ b < w.heap.size ∧ ∀ j f, fs[j]? = some f → w.cell? ⟨b, off + j * 2, none⟩ = some (.int k0 f.1) ∧ w.cell? ⟨b, off + j * 2 + 1, none⟩ = some (.int k1 f.2)) ∧
      (∀ f ∈ fs, (Lit.int k0 f.1).wf = true ∧ (Lit.int k1 f.2).wf = true) ∧ ((d = .nil ∧ c = 0) ∨ ∃ elems spare, d = .slice elems spare ∧ elems.length + spare.length = c) := by
  obtain ⟨fuel, hf⟩ := h
  rcases open_slice ht hf with ⟨hcs, hx⟩ | ⟨a, len, cap, m, fl, D, Pl, hcs, _, hl, hm, hmm, hx, hi⟩
  · simp [Value.cells] at hcs
    obtain ⟨rfl, rfl, rfl⟩ := hcs
    simp only [Prod.mk.injEq] at hx
    exact ⟨[], rfl, Nat.le_refl _, .inl rfl, by simp, .inl ⟨hx.1, rfl⟩⟩
  · simp [Value.cells] at hcs
    obtain ⟨rfl, rfl, rfl⟩ := hcs
    simp only [if_true] at hmm
    subst hmm
    simp only [Prod.mk.injEq] at hx
    have each : ∀ i, i < m → ∃ x y : Int, w.cell? (a.add (i * 2)) = some (.int k0 x) ∧ w.cell? (a.add (i * 2 + 1)) = some (.int k1 y) ∧ (Lit.int k0 x).wf = true ∧ (Lit.int k1 y).wf = true := by
      intro i hlt
      obtain ⟨cs, hcs, htr⟩ := hi i hlt
      rw [hC] at hcs
      obtain ⟨_, hlen, hat⟩ := World.cells?_some hcs
      obtain ⟨y0, y1, g, _, _, q0, q1⟩ := trod_struct2 he htr
      obtain ⟨o0, s0⟩ := hone_of hone 0 f0 rfl
      obtain ⟨o1, s1⟩ := hone_of hone 1 f1 rfl
      match cs, hlen with
      | [c0, c1], _ =>
        rw [o0, s0] at q0
        rw [o1, s1] at q1
        obtain ⟨x, hx0, _, wx⟩ := DataW.trod_int h0 q0
        obtain ⟨y, hy0, _, wy⟩ := DataW.trod_int h1 q1
        simp at hx0 hy0
        subst hx0 hy0
        have a0 := hat 0 (by omega)
        have a1 := hat 1 (by omega)
        have e0 : (a.add (i * 2)).add 0 = a.add (i * 2) := by unfold Addr.add; simp
        rw [e0] at a0
        rw [Go.Deep.add_add] at a1
        exact ⟨x, y, by simpa using a0, by simpa using a1, wx, wy⟩
    have hex : ∃ fs : List (Int × Int), fs.length = n ∧ ∀ j f, fs[j]? = some f → w.cell? (a.add (j * 2)) = some (.int k0 f.1) ∧ w.cell? (a.add (j * 2 + 1)) = some (.int k1 f.2) ∧ (Lit.int k0 f.1).wf = true ∧ (Lit.int k1 f.2).wf = true := by
      have : ∀ q, q ≤ n → ∃ fs : List (Int × Int), fs.length = q ∧ ∀ j f, fs[j]? = some f → w.cell? (a.add (j * 2)) = some (.int k0 f.1) ∧ w.cell? (a.add (j * 2 + 1)) = some (.int k1 f.2) ∧ (Lit.int k0 f.1).wf = true ∧ (Lit.int k1 f.2).wf = true := by
        intro q
        induction q with
        | zero => intro _; exact ⟨[], rfl, by simp⟩
        | succ q ih =>
          intro hq
          obtain ⟨fs, hfl, hfs⟩ := ih (by omega)
          obtain ⟨x, y, hx, hy, wx, wy⟩ := each q (by omega)
          refine ⟨fs ++ [(x, y)], by simp [hfl], fun j f hj => ?_⟩
          by_cases hjq : j < fs.length
          · rw [List.getElem?_append_left hjq] at hj; exact hfs j f hj
          · rw [List.getElem?_append_right (by omega)] at hj
            have hj0 : j = q := by
              rcases Nat.lt_or_ge (j - fs.length) 1 with g | g
              · omega
              · rw [List.getElem?_eq_none (by simpa using g)] at hj; cases hj
            subst hj0
            rw [hfl, Nat.sub_self] at hj
            simp at hj
            subst hj
            exact ⟨hx, hy, wx, wy⟩
      exact this n (Nat.le_refl _)
    obtain ⟨fs, hfl, hfs⟩ := hex
    refine ⟨fs, hfl, hl, ?_, fun f hfm => ?_, .inr ⟨_, _, hx.1, ?_⟩⟩
    · cases hfe : fs with
      | nil => exact .inl rfl
      | cons f fr =>
        right
        have h00 := (hfs 0 f (by rw [hfe]; rfl)).1
        have hblk := block_lt_of_cell h00
        have hspot := World.cell?_spot h00
        obtain ⟨b, off, spot⟩ := a
        have hs : spot = none := by
          have : (Addr.add ⟨b, off, spot⟩ (0 * 2)).spot = spot := by unfold Addr.add; simp
          rw [this] at hspot; exact hspot
        subst hs
        refine ⟨b, off, rfl, by simpa [add_plain] using hblk, fun j g hj => ?_⟩
        rw [← hfe] at hj
        have := hfs j g hj
        rw [add_plain, add_plain] at this
        exact ⟨this.1, by rw [Nat.add_assoc]; exact this.2.1⟩
    · obtain ⟨j, hj⟩ := List.getElem?_of_mem hfm
      exact ⟨(hfs j f hj).2.2.1, (hfs j f hj).2.2.2⟩
    · simp; omega
end

/-! What the bound gives. -/
theorem one_le {H : Type} (d : DataW H) : 1 ≤ Rows.uptoBulk d := by
  cases d with
  | lit l => cases l <;> simp [Rows.uptoBulk]
  | nil => simp [Rows.uptoBulk]
  | ptr d => simp [Rows.uptoBulk]
  | slice elems spare => simp [Rows.uptoBulk]
  | agg parts => simp [Rows.uptoBulk]
  | iface t d => simp [Rows.uptoBulk]
  | map entries => simp [Rows.uptoBulk]
  | held h => simp [Rows.uptoBulk]
theorem many_le {H : Type} (l : List (DataW H)) : l.length ≤ Rows.uptoBulkAll l := by
  induction l with
  | nil => simp [Rows.uptoBulkAll]
  | cons x r ih => have := one_le x; simp only [Rows.uptoBulkAll, List.length_cons]; omega
theorem cap_le {H : Type} {d : DataW H} {c : Nat} (h : (d = .nil ∧ c = 0) ∨ ∃ elems spare, d = .slice elems spare ∧ elems.length + spare.length = c) : c ≤ Rows.uptoBulk d := by
  rcases h with ⟨_, rfl⟩ | ⟨elems, spare, rfl, rfl⟩
  · omega
  · have h1 := many_le elems
    have h2 := many_le spare
    simp only [Rows.uptoBulk]; omega
theorem text_le {H : Type} (s : ByteArray) : s.size ≤ Rows.uptoBulk (DataW.lit (H := H) (.string s.data.toList)) := by
  simp [Rows.uptoBulk]
theorem bound {H : Type} {l : List (DataW H)} (hk : Rows.uptoSmall H l = true) : Rows.uptoBulkAll l ≤ 1048576 := of_decide_eq_true hk
theorem sized {H : Type} {P : Program} {ts : List TypeId} {ds : List (DataW H)} (h : (DataW.weightsEach P ts ds).all (· ≤ reachBytes) = true) {j : Nat} {t e : TypeId} {d : DataW H} {c : Nat} (ht : ts[j]? = some t) (hd : ds[j]? = some d) (hu : P.underlying t = some (.slice e))
    (hs : (d = .nil ∧ c = 0) ∨ ∃ elems spare, d = .slice elems spare ∧ elems.length + spare.length = c) : c * P.bytesOf e ≤ 140737488351232 := by
  rcases hs with ⟨_, rfl⟩ | ⟨elems, spare, rfl, rfl⟩
  · omega
  · have := sized_slice h ht hd hu
    simpa [reachBytes] using this
end Go.Proofs.Ytpoagepchlfemaa.Arg
