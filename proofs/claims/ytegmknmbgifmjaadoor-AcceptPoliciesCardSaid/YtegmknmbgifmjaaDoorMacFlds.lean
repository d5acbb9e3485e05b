/- A row of fields: append of a slice of fields onto a row of the call's own; what such a row reads as. -/
import Derived.Test.YtegmknmbgifmjaaDoorMacOct
set_option linter.unusedVariables false
set_option linter.unusedSimpArgs false
namespace Go.Proofs.YtegmknmbgifmjaaDoor.Oct
open Go.RowKit Mem

/-- The cells of fields. -/
def flat : List (Int × Int) → List Value
  | [] => []
  | f :: r => .int .i64 f.1 :: .int .u64 f.2 :: flat r
theorem flat_len (fs : List (Int × Int)) : (flat fs).length = fs.length * 2 := by
  induction fs with
  | nil => rfl
  | cons f r ih => simp [flat, ih]; omega
theorem flat_one (fs : List (Int × Int)) : ∀ u ∈ flat fs, u.oneCell' = true := by
  induction fs with
  | nil => intro u hu; cases hu
  | cons f r ih =>
    intro u hu
    simp only [flat, List.mem_cons] at hu
    rcases hu with rfl | rfl | hu
    · rfl
    · rfl
    · exact ih u hu
theorem flat_get (fs : List (Int × Int)) (j : Nat) (f : Int × Int) (h : fs[j]? = some f) : (flat fs)[j * 2]? = some (.int .i64 f.1) ∧ (flat fs)[j * 2 + 1]? = some (.int .u64 f.2) := by
  induction fs generalizing j with
  | nil => simp at h
  | cons g r ih =>
    cases j with
    | zero => simp at h; subst h; exact ⟨rfl, rfl⟩
    | succ j =>
      have := ih j (by simpa using h)
      rw [show (j + 1) * 2 = j * 2 + 1 + 1 by omega]
      simp only [flat, List.getElem?_cons_succ]
      exact this
theorem flat_at {w : World} {b off : Nat} {fs : List (Int × Int)} (hc : ∀ j f, fs[j]? = some f → w.cell? ⟨b, off + j * 2, none⟩ = some (.int .i64 f.1) ∧ w.cell? ⟨b, off + j * 2 + 1, none⟩ = some (.int .u64 f.2)) :
    ∀ j u, (flat fs)[j]? = some u → w.cell? ⟨b, off + j, none⟩ = some u := by
  intro j u hu
  have hj : j < fs.length * 2 := by
    rcases Nat.lt_or_ge j (fs.length * 2) with h | h
    · exact h
    · rw [List.getElem?_eq_none (by rw [flat_len]; exact h)] at hu; cases hu
  have hq : j / 2 < fs.length := by omega
  have hf : fs[j / 2]? = some (fs[j / 2]'hq) := List.getElem?_eq_getElem hq
  have hg := flat_get fs (j / 2) _ hf
  have hh := hc (j / 2) _ hf
  rcases Nat.mod_two_eq_zero_or_one j with h | h
  · have e : j = j / 2 * 2 := by omega
    rw [e] at hu ⊢
    rw [hg.1] at hu
    rw [← hu]; exact hh.1
  · have e : j = j / 2 * 2 + 1 := by omega
    rw [e] at hu ⊢
    rw [hg.2] at hu
    rw [← hu, ← Nat.add_assoc]; exact hh.2
/-- A row of the call's own that holds fields. -/
theorem FldsAt.own {w : World} {base n c : Nat} {e : TypeId} {A : Option Addr} {fs : List (Int × Int)} (h : w.ownsRow base e 2 (.slice A n c) n (flat fs)) : FldsAt w w.heap.size A fs ∧ fs.length = n := by
  have hl : fs.length = n := by have := h.1; rw [flat_len] at this; omega
  refine ⟨?_, hl⟩
  rcases h.2 with ⟨hv, hn⟩ | ⟨g, cap, cur, hv, hbg, hg, hnc, hcm, hcs, htake⟩
  · left; rw [hn] at hl; exact List.eq_nil_of_length_eq_zero hl
  · right
    injection hv with hA hn hc
    subst hA
    have hlt : g < w.heap.size := by
      rcases Nat.lt_or_ge g w.heap.size with hlt | hge
      · exact hlt
      · rw [Array.getElem?_eq_none hge] at hg; cases hg
    refine ⟨g, 0, rfl, hlt, fun j f hj => ?_⟩
    have hg2 := flat_get fs j f hj
    have h1 := h.cells (g := g) rfl (j * 2) _ hg2.1
    have h2 := h.cells (g := g) rfl (j * 2 + 1) _ hg2.2
    have ea : ∀ i, (⟨g, 0, none⟩ : Addr).add i = ⟨g, 0 + i, none⟩ := fun i => by
      unfold Addr.add
      by_cases h0 : i = 0
      · simp [h0]
      · simp [h0]
    rw [ea] at h1 h2
    exact ⟨h1, by rw [Nat.add_assoc]; exact h2⟩
section
variable {P : Program} {w : World}
theorem wpList_append_flds {ops : Array Oper} {rest : List Oper} {o : Oper} {a : Act} {Q : Exit → Act → World → Prop} (hgd : o.guard = none) (s x : Operand) (t : TypeId)
    (ho : o.op = .call { callee := .builtin .append, args := #[s, x], argTypes := #[t, t] })
    (base : Nat) (e : TypeId) (i : TypeInfo) (z : Value) (bytes : Nat) (ht : P.underlying t = some (.slice e)) (hi : P.info? e = some i) (hz : i.zero = some z)
    (hsize : i.size = 2) (hby : i.bytes = bytes) (hzs : z.cells.size = 2)
    (v : Value) (n : Nat) (xs : List Value) (hs : a.eval s = v) (hown : w.ownsRow base e 2 v n xs)
    (B : Nat) (A : Option Addr) (m c : Nat) (fs : List (Int × Int)) (hx : a.eval x = .slice A m c) (hm : fs.length = m) (hr : FldsAt w B A fs)
    (h63 : n + m ≤ maxLen) (hbytes : (n + m) * bytes ≤ 140737488355328) (hbase : base ≤ w.heap.size)
    (h : ∀ v' w', w'.ownsRow base e 2 v' (n + m) (xs ++ flat fs) → Below base w w' → wpList P ops Q rest (a.put o.dst v') w') : wpList P ops Q (o :: rest) a w := by
  refine wpList_plain hgd fun K hK => ?_
  have go : ∀ ad : Addr, (∀ j u, (flat fs)[j]? = some u → w.cell? (ad.add j) = some u) →
      ∃ v' w', (Builtin.append_ #[t, t] o.type #[v, .slice (some ad) m c]).run P w = .ok v' w' ∧ w'.ownsRow base e 2 v' (n + m) (xs ++ flat fs) ∧ w.grownBy w' v.ownBlock := fun ad hc => by
    obtain ⟨v', w', h2, h3, h4, _⟩ := run_append_own (P := P) w base t o.type e i z 2 bytes ht hi hz hsize hby hzs (by decide) v n xs hown ad m c (flat fs) (by rw [flat_len, hm]) hc (flat_one fs) h63 hbytes hbase
    exact ⟨v', w', h2, h3, h4⟩
  have main : ∃ v' w', (Builtin.append_ #[t, t] o.type #[v, .slice A m c]).run P w = .ok v' w' ∧ w'.ownsRow base e 2 v' (n + m) (xs ++ flat fs) ∧ w.grownBy w' v.ownBlock := by
    rcases hr with hnil | ⟨b, off, rfl, _, hc⟩
    · subst hnil
      have hm0 : m = 0 := by simpa using hm.symm
      subst hm0
      cases A with
      | none =>
        refine ⟨v, w, ?_, by simpa [flat] using hown, World.grownBy.refl w _⟩
        rcases hown.2 with ⟨rfl, rfl⟩ | ⟨g, cap, cur, rfl, _, _, hnc, _⟩
        · simp [Builtin.append_, run_underlying ht, sizeOf, typeInfo, hi, Builtin.lenOf, Builtin.firstCells]
        · simp [Builtin.append_, run_underlying ht, sizeOf, typeInfo, hi, Builtin.lenOf, Builtin.firstCells, hnc, storeCells]
      | some ad => exact go ad (by simp [flat])
    · refine go _ fun j u hu => ?_
      have ea : (⟨b, off, none⟩ : Addr).add j = ⟨b, off + j, none⟩ := by
        unfold Addr.add
        by_cases h0 : j = 0
        · simp [h0]
        · simp [h0]
      rw [ea]; exact flat_at hc j u hu
  obtain ⟨v', w', hrun, h2, h3⟩ := main
  unfold Oper.wp execOp
  simp only [ho, resolve, invoke, builtin, Sem.run_bind, Sem.run_pure, Result.andThen_ok, List.map_toArray, List.map_cons, List.map_nil, hs, hx, hrun]
  exact hK _ _ (h v' w' h2 ((Below.refl base w).grown h3 hbase fun g hg => (hown.lt g hg).1))
end
theorem info_fld : (Tryd.prog.info? 69).map (fun i => (i.zero, i.size, i.bytes)) = some (some (.agg #[.int .i64 0, .int .u64 0]), 2, 16) := by kernel_rfl
end Go.Proofs.YtegmknmbgifmjaaDoor.Oct
