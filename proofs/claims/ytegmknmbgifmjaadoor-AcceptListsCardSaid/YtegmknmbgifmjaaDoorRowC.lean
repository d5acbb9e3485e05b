/- Rows of bytes told by their cells, whatever mark lies behind them: what '[]byte(s)' makes, and append onto it. No program is mentioned. -/
import Derived.Test.YtegmknmbgifmjaaDoorOctMath
import Derived.ArgAppend
import Derived.Laws.IdiomCopy
import Derived.Lib.ConvBytes
set_option linter.unusedVariables false
set_option linter.unusedSimpArgs false
namespace Go.Proofs.YtegmknmbgifmjaaDoor.Mem
open Go.RowKit Oct

/-- A row of the call's own that holds the bytes zs; all its cells are there and may be written. -/
def RowC (w : World) (base : Nat) (v : Value) (zs : List Int) : Prop :=
  ∃ g cap, v = .slice (some ⟨g, 0, none⟩) zs.length cap ∧ base ≤ g ∧ g < w.heap.size ∧ zs.length ≤ cap ∧ cap ≤ maxLen ∧
    (∀ j, j < zs.length → w.cell? ⟨g, j, none⟩ = some (.int .u8 (zs.getD j 0))) ∧ (∀ j, j < cap → (w.cell? ⟨g, j, none⟩).isSome = true ∧ w.frozen? ⟨g, j, none⟩ = false)
theorem RowC.below {w w' : World} {base : Nat} {v : Value} {zs : List Int} (h : RowC w base v zs) (hb : Below w.heap.size w w') : RowC w' base v zs := by
  obtain ⟨g, cap, hv, hg, hl, hn, hm, hc, hf⟩ := h
  refine ⟨g, cap, hv, hg, Nat.lt_of_lt_of_le hl hb.size, hn, hm, fun j hj => (hb.cell (p := ⟨g, j, none⟩) hl).trans (hc j hj), fun j hj => ?_⟩
  rw [hb.cell (p := ⟨g, j, none⟩) hl, hb.frozen (p := ⟨g, j, none⟩) hl]
  exact hf j hj
theorem RowC.ints {w : World} {base n c : Nat} {A : Option Addr} {zs : List Int} (h : RowC w base (.slice A n c) zs) : Ints .u8 w w.heap.size A zs ∧ zs.length = n ∧ n ≤ c ∧ c ≤ 9223372036854775807 := by
  obtain ⟨g, cap, hv, hg, hl, hn, hm, hc, hf⟩ := h
  injection hv with hA hz hcap
  subst hA hz hcap
  exact ⟨.inr ⟨g, 0, rfl, hl, fun j hj => by rw [Nat.zero_add]; exact hc j hj⟩, rfl, hn, by unfold maxLen at hm; omega⟩
theorem RowC.form {w : World} {base : Nat} {v : Value} {zs : List Int} (h : RowC w base v zs) : ∃ A c, v = .slice A zs.length c := by
  obtain ⟨g, cap, hv, _⟩ := h
  exact ⟨_, _, hv⟩
theorem RowC.own {w : World} {base base' n : Nat} {e : TypeId} {v : Value} {zs : List Int} (h : w.ownsRow base' e 1 v n (zs.map (Value.int .u8))) (hb : base ≤ base') (hn : 0 < n) : RowC w base v zs := by
  have hl := h.1
  simp at hl
  rcases h.2 with ⟨hv, h0⟩ | ⟨g, cap, cur, hv, hbg, hg, hnc, hcm, hcs, htake⟩
  · omega
  · have hlt : g < w.heap.size := by
      rcases Nat.lt_or_ge g w.heap.size with hlt | hge
      · exact hlt
      · rw [Array.getElem?_eq_none hge] at hg; cases hg
    rw [Nat.mul_one] at hcs htake
    refine ⟨g, cap, by rw [hl]; exact hv, by omega, hlt, by omega, hcm, fun j hj => ?_, fun j hj => ⟨?_, frozen_of_row w g j cur e hg⟩⟩
    · rw [cell_of_row w g j cur e (0, 0) hg]
      have : (cur.toList.take n)[j]? = some (.int .u8 (zs.getD j 0)) := by rw [htake]; simp [List.getD, List.getElem?_eq_getElem hj]
      rw [List.getElem?_take, if_pos (by omega)] at this
      simpa using this
    · rw [cell_of_row w g j cur e (0, 0) hg]
      simp; omega
theorem RowC.conv (w : World) (e : TypeId) (s : ByteArray) (hs : s.size ≤ maxLen) : RowC (Lib.bytesWorld w e s) w.heap.size (.slice (some ⟨w.heap.size, 0, none⟩) s.size (grownCap w s.size 0 e)) (chL s) := by
  have hg := Lib.bytesWorld_at_new w e s
  have hge := grownCap_ge w s.size 0 e
  have hsz : (Lib.bytesCells w e s).size = grownCap w s.size 0 e := by
    unfold Lib.bytesCells
    simp only [Array.size_append, Array.size_map, Array.size_replicate]
    show s.size + _ = _
    omega
  refine ⟨w.heap.size, grownCap w s.size 0 e, by rw [chL_len], Nat.le_refl _, by rw [Lib.bytesWorld_size]; omega, by rw [chL_len]; exact hge, grownCap_le_maxLen w _ _ _ hs, fun j hj => ?_, fun j hj => ⟨?_, ?_⟩⟩
  · rw [chL_len] at hj
    rw [Lib.bytesWorld_cell w e s j hj]
    have h' : j < s.data.toList.length := by simpa using hj
    simp only [chL, List.getD, List.getElem?_map, List.getElem?_eq_getElem h', Option.map_some, Option.getD_some]
  · simp only [World.cell?, hg]
    rw [Array.getElem?_eq_getElem (by rw [hsz]; exact hj)]; rfl
  · simp only [World.frozen?, hg]
    simp [hsz]; omega
section
variable {P : Program} {w : World}
theorem wpList_append_rowc {ops : Array Oper} {rest : List Oper} {o : Oper} {a : Act} {Q : Exit → Act → World → Prop} (hgd : o.guard = none) (s x : Operand) (t : TypeId)
    (ho : o.op = .call { callee := .builtin .append, args := #[s, x], argTypes := #[t, t] })
    (base : Nat) (e : TypeId) (i : TypeInfo) (z : Value) (ht : P.underlying t = some (.slice e)) (hi : P.info? e = some i) (hz : i.zero = some z)
    (hsize : i.size = 1) (hby : i.bytes = 1) (hzs : z.cells.size = 1)
    (v : Value) (zs : List Int) (hs : a.eval s = v) (hrow : RowC w base v zs)
    (B : Nat) (A : Option Addr) (m c : Nat) (xs : List Int) (hx : a.eval x = .slice A m c) (hm : xs.length = m) (hpos : 0 < m) (hr : Ints .u8 w B A xs)
    (hlen : zs.length + m ≤ 140737488355328) (hbase : base ≤ w.heap.size)
    (h : ∀ v' w', RowC w' base v' (zs ++ xs) → Below base w w' → wpList P ops Q rest (a.put o.dst v') w') : wpList P ops Q (o :: rest) a w := by
  obtain ⟨g, cap, rfl, hg, hl, hn, hcm, hc, hf⟩ := hrow
  obtain ⟨b, off, rfl, hb, hcell⟩ := hr.at_ (i := 0) (by omega)
  have hzl : (xs.map (Value.int .u8)).length = m := by simp [hm]
  refine wpList_append_arg w hgd s x t ho e i z 1 1 ht hi hz hsize hby hzs (by decide) g 0 zs.length cap (zs.map (Value.int .u8)) hs (by simp) ?_ ⟨b, off, none⟩ m c (xs.map (Value.int .u8)) hx (by simp [hm]) ?_ (ints_oneCell .u8 xs) ?_ (by unfold maxLen; omega) (by omega) ?_ ?_
  · intro j u hj
    have hjl : j < zs.length := by
      rcases Nat.lt_or_ge j zs.length with h | h
      · exact h
      · rw [List.getElem?_eq_none (by simpa using h)] at hj; cases hj
    rw [Nat.zero_add, hc j hjl]
    simp [List.getElem?_map, List.getElem?_eq_getElem hjl] at hj
    simp [List.getD, List.getElem?_eq_getElem hjl, hj]
  · intro j u hj
    have hjl : j < xs.length := by
      rcases Nat.lt_or_ge j xs.length with h | h
      · exact h
      · rw [List.getElem?_eq_none (by simpa using h)] at hj; cases hj
    rw [Addr.add_lit, hcell j hjl]
    simp [List.getElem?_map, List.getElem?_eq_getElem hjl] at hj
    simp [List.getD, List.getElem?_eq_getElem hjl, hj]
  · intro hroom j hj
    rw [hzl] at hj
    rw [Nat.zero_add, Nat.mul_one]
    exact hf _ (by omega)
  · intro hroom
    rw [Nat.zero_add, Nat.mul_one]
    have hin := World.cell?_setCells_in g (xs.map (Value.int .u8)) zs.length w (fun j hj => (hf _ (by rw [hzl] at hj; omega)).1)
    have hk := World.keptBut_setCells g (may := fun p => p.block = g) (xs.map (Value.int .u8)) zs.length w (fun _ _ => rfl)
    have hout : ∀ j, j < zs.length → (w.setCells g zs.length (xs.map (Value.int .u8))).cell? ⟨g, j, none⟩ = w.cell? ⟨g, j, none⟩ := fun j hj => World.cell?_setCells_out g _ _ w ⟨g, j, none⟩ (fun _ _ => .inl hj)
    have hbel : ∀ (vs : List Value) (o : Nat) (w0 w1 : World), Below base w0 w1 → Below base w0 (w1.setCells g o vs) := by
      intro vs
      induction vs with
      | nil => intro o w0 w1 h; exact h
      | cons v r ih => intro o w0 w1 h; exact ih (o + 1) w0 _ (h.setCell (p := ⟨g, o, none⟩) hg v)
    have hB := hbel (xs.map (Value.int .u8)) zs.length w w (Below.refl base w)
    refine h _ _ ⟨g, cap, by rw [List.length_append, hm], hg, Nat.lt_of_lt_of_le hl hB.size, by rw [List.length_append]; omega, hcm, fun j hj => ?_, fun j hj => ⟨?_, ?_⟩⟩ hB
    · by_cases h1 : j < zs.length
      · rw [hout j h1, hc j h1]
        simp [List.getD, List.getElem?_append_left h1]
      · rw [List.length_append] at hj
        have := hin (j - zs.length) (by rw [hzl]; omega)
        rw [show zs.length + (j - zs.length) = j by omega] at this
        rw [this]
        simp [List.getD, List.getElem?_append_right (Nat.le_of_not_lt h1), List.getElem?_eq_getElem (show j - zs.length < xs.length by omega)]
    · by_cases h1 : zs.length ≤ j ∧ j < zs.length + m
      · have := hin (j - zs.length) (by rw [hzl]; omega)
        rw [show zs.length + (j - zs.length) = j by omega] at this
        rw [this]; rfl
      · rw [World.cell?_setCells_out g _ _ w ⟨g, j, none⟩ (fun _ _ => by rw [hzl]; show j < _ ∨ _ ≤ j; omega)]
        exact (hf j hj).1
    · rw [World.frozen?_setCells]
      exact (hf j hj).2
  · intro hgrow v' w' hown hgr
    have hbel : Below base w w' := (Below.refl base w).grown hgr hbase (fun r e => by cases e)
    refine h v' w' (RowC.own (e := e) (n := zs.length + m) ?_ hbase (by omega)) hbel
    rw [List.map_append]; exact hown
end
end Go.Proofs.YtegmknmbgifmjaaDoor.Mem
