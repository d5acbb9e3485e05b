/- Control PDUs: whichever operation of the table comes up next, the invariant is kept. -/
import Derived.Test.YtpoagepchlfemaaCpInv
import Derived.Test.YtpoagepchlfemaaCpCall
set_option linter.unusedVariables false
set_option linter.unusedSimpArgs false
namespace Go.Proofs.Ytpoagepchlfemaa.Cp
open Go.RowKit Mem Oct Rw Av
open Draw MapKept
open Base (thenB)
/-- The region is the one of the table. -/
structure Dig (ops : Array Oper) : Prop where
  sz : ops.size = 60
  at_ : ∀ i, i < 60 → ∃ o, ops[i]? = some o ∧ o.guard = none ∧ o.dst = dstT.getD i none ∧ o.op = opT.getD i (.move (.const undef)) ∧ ∀ d ∈ depT.getD i [], ∃ e ∈ o.after, Region.binds .any e = true ∧ e.on = d
  back : ∀ i o, ops[i]? = some o → ∀ e ∈ o.after, Region.binds .any e = true → e.on < i
theorem dig_of {ops : Array Oper} (h0 : ops.size = 60) (h1 : ops.toList.map (fun o => (o.guard, o.dst, o.op)) = (dstT.zip opT).map fun x => (none, x.1, x.2))
    (h2 : ((List.range 60).all fun i => (depT.getD i []).all fun d => ((ops[i]?).map fun o => o.after.toList.any fun e => Region.binds .any e && e.on == d).getD false) = true)
    (h3 : ((List.range 60).all fun i => ((ops[i]?).map fun o => o.after.toList.all fun e => !Region.binds .any e || decide (e.on < i)).getD true) = true) : Dig ops := by
  have hz : dstT.length = 60 ∧ opT.length = 60 := ⟨rfl, rfl⟩
  refine ⟨h0, fun i hi => ?_, fun i o ho e he hb => ?_⟩
  · have hi' : i < ops.size := by omega
    refine ⟨ops[i], by simp [hi'], ?_⟩
    have hm := congrArg (fun l => l[i]?) h1
    simp only [List.getElem?_map] at hm
    have e1 : ops.toList[i]? = some ops[i] := by simp [hi']
    have e2 : (dstT.zip opT)[i]? = some (dstT.getD i none, opT.getD i (.move (.const undef))) := by
      rw [List.getElem?_zip_eq_some]
      simp [List.getD, List.getElem?_eq_getElem, hz.1, hz.2, hi]
    rw [e1, e2] at hm
    simp only [Option.map_some, Option.some.injEq, Prod.mk.injEq] at hm
    refine ⟨hm.1, hm.2.1, hm.2.2, fun d hd => ?_⟩
    have := List.all_eq_true.1 h2 i (List.mem_range.2 hi)
    have := List.all_eq_true.1 this d hd
    simp only [show ops[i]? = some ops[i] by simp [hi'], Option.map_some, Option.getD_some, List.any_eq_true, Bool.and_eq_true, beq_iff_eq, Array.mem_toList_iff] at this
    obtain ⟨e, he, h4, h5⟩ := this
    exact ⟨e, he, h4, h5⟩
  · have hi : i < 60 := by
      rcases Nat.lt_or_ge i ops.size with h | h
      · omega
      · rw [Array.getElem?_eq_none h] at ho; cases ho
    have := List.all_eq_true.1 h3 i (List.mem_range.2 hi)
    simp only [ho, Option.map_some, Option.getD_some, List.all_eq_true, Bool.or_eq_true, Bool.not_eq_true', decide_eq_true_eq, Array.mem_toList_iff] at this
    rcases this e he with h | h
    · rw [hb] at h; cases h
    · exact h
def BoxAt (W0 : World) (T0 : Array Value) (s : Nat) (p : Pt) : Prop := ∃ b v0 v1 v2 v3, T0.getD s undef = .pointer (some ⟨b, 0, none⟩) ∧ Blk W0 b 107 #[v0, v1, v2, v3] ∧ PartAt W0 (.agg #[v0, v1, v2, v3]) p
structure Boxes (k : Int) (W0 : World) (T0 : Array Value) : Prop where
  t0 : T0.getD 0 undef = .int .i64 k
  b4 : BoxAt W0 T0 4 .rs
  b5 : BoxAt W0 T0 5 .rj
  b6 : BoxAt W0 T0 6 .vs
  b7 : BoxAt W0 T0 7 .ln
  b8 : BoxAt W0 T0 8 .sa
  b9 : BoxAt W0 T0 9 .mk
  b10 : BoxAt W0 T0 10 .fe
theorem info_pt : (Try.prog.info? 107).map (fun i => (i.zero, i.size, i.bytes)) = some (some (.agg #[.slice none 0 0, .nilFunc, .nilFunc, .nilFunc]), 4, 48) := by kernel_rfl
theorem info_ptx : ∃ ie, Try.prog.info? 107 = some ie ∧ ie.zero = some (.agg #[.slice none 0 0, .nilFunc, .nilFunc, .nilFunc]) ∧ ie.size = 4 := by
  cases hq : Try.prog.info? 107 with
  | none => have := info_pt; rw [hq] at this; cases this
  | some i =>
    have := info_pt
    rw [hq] at this
    simp only [Option.map_some, Option.some.injEq, Prod.mk.injEq] at this
    exact ⟨i, rfl, this.1, this.2.1⟩
section
variable {k : Int} {W0 : World} {T0 : Array Value} {listed : Array Bool} {a : Act} {w : World} {ops : Array Oper} {Q : Exit → Act → World → Prop} {o : Oper}
theorem s_load (I : Inv k W0 T0 listed a w) {i d s : Nat} {p : Pt} (ho : ops[i]? = some o) (hg : o.guard = none) (hdst : o.dst = some d) (hop : o.op = .load 107 (.tmp s)) (hl : listed.getD i true = false) (hd : dstT[i]? = some (some d)) (hk : kdT.getD i .mk = .part p) (h0 : i ≠ 0) (h52 : i ≠ 52) (hni : ∀ e ∈ insT, e.2.1 ≠ i) (hs : s < 11) (hb : BoxAt W0 T0 s p) :
    wpOp Try.prog ops Q i (fun a' w' => Inv k W0 T0 (listed.setIfInBounds i true) a' w') a w := by
  obtain ⟨b, v0, v1, v2, v3, e1, kb, hp⟩ := hb
  have kb' : Blk w b 107 #[v0, v1, v2, v3] := kb.below I.bel kb.lt
  refine wpOp_of ho hg (wp_value (ex_load hop (by show a.tmps.getD s undef = _; rw [I.old s hs]; exact e1) kb' Try.underlying107 rfl (by kernel_rfl)) ?_)
  rw [hdst]
  exact I.put hl hd h0 (Below.refl _ _) (by rw [hk]; exact ⟨v0, v1, v2, v3, rfl, hp.keep (keeps_below I.bel)⟩) (fun h => absurd h h52) hni
theorem s_call (I : Inv k W0 T0 listed a w) {i d f : Nat} {p : Pt} (ho : ops[i]? = some o) (hg : o.guard = none) (hdst : o.dst = some d) (hx : (execOp a.eval o).run Try.prog w = .ok (.enter f #[]) w) (hl : listed.getD i true = false) (hd : dstT[i]? = some (some d)) (hk : kdT.getD i .mk = .part p) (h0 : i ≠ 0) (h52 : i ≠ 52) (hni : ∀ e ∈ insT, e.2.1 ≠ i)
    (hc : Calls Try.prog f #[] w fun e w' => ∃ V, e = .returned (.agg V) ∧ V.size = 4 ∧ PartAt w' (.agg V) p ∧ Below w.heap.size w w') :
    wpOp Try.prog ops Q i (fun a' w' => Inv k W0 T0 (listed.setIfInBounds i true) a' w') a w := by
  refine wpOp_of ho hg (wp_enter (R := fun v w' => Good k w' v (.part p) ∧ Below w.heap.size w w') hx (hc.mono ?_) ?_)
  · rintro e w' ⟨V, rfl, _, hp, hb⟩
    obtain ⟨S, f1, c1, f2, c2, f3, c3, eV, _⟩ := part_form hp
    exact ⟨_, rfl, ⟨S, _, _, _, eV, by rw [← eV]; exact hp⟩, hb⟩
  · intro v w' ⟨hgd, hb⟩
    rw [hdst]
    exact I.put hl hd h0 hb (by rw [hk]; exact hgd) (fun h => absurd h h52) hni
theorem s_sl0 (I : Inv k W0 T0 listed a w) {i d : Nat} (ho : ops[i]? = some o) (hg : o.guard = none) (hdst : o.dst = some d) (hop : o.op = .buildSlice 100 0 #[]) (hl : listed.getD i true = false) (hd : dstT[i]? = some (some d)) (hk : kdT.getD i .mk = .sl []) (h0 : i ≠ 0) (h52 : i ≠ 52) (hni : ∀ e ∈ insT, e.2.1 ≠ i) :
    wpOp Try.prog ops Q i (fun a' w' => Inv k W0 T0 (listed.setIfInBounds i true) a' w') a w := by
  obtain ⟨ie, hi, hz, hs⟩ := info_ptx
  refine wpOp_of ho hg (wp_value (ex_buildNone hop Try.underlying100 hi) ?_)
  rw [hdst]
  exact I.put hl hd h0 ((Below.refl _ _).alloc (Nat.le_refl _) _) (by rw [hk]; exact ⟨_, _, rfl, Blk.fresh w 107 #[], fun j p hj => by simp at hj⟩) (fun h => absurd h h52) hni
theorem s_sl1 (I : Inv k W0 T0 listed a w) {i d s j : Nat} {p : Pt} (ho : ops[i]? = some o) (hg : o.guard = none) (hdst : o.dst = some d) (hop : o.op = .buildSlice 100 1 #[(0, .tmp s)]) (hl : listed.getD i true = false) (hd : dstT[i]? = some (some d)) (hk : kdT.getD i .mk = .sl [p]) (h0 : i ≠ 0) (h52 : i ≠ 52) (hni : ∀ e ∈ insT, e.2.1 ≠ i)
    (hj : listed.getD j false = true) (hjd : dstT[j]? = some (some s)) (hjk : kdT.getD j .mk = .part p) :
    wpOp Try.prog ops Q i (fun a' w' => Inv k W0 T0 (listed.setIfInBounds i true) a' w') a w := by
  obtain ⟨ie, hi, hz, hs⟩ := info_ptx
  have hv := I.val j s hj hjd
  rw [hjk] at hv
  obtain ⟨v0, v1, v2, v3, e, hp⟩ := hv
  refine wpOp_of ho hg (wp_value (ex_buildSlice (cells := #[v0, v1, v2, v3]) hop Try.underlying100 hi hz (by rw [hs]; decide) (by rw [hs]; decide) ?_) ?_)
  · rw [hs, show (Array.map (fun x : Nat × Operand => (x.1, a.eval x.2)) #[(0, Operand.tmp s)]).toList = [(0, Value.agg #[v0, v1, v2, v3])] by simp only [Array.toList_map, List.map_cons, List.map_nil]; show [(0, a.tmps.getD s undef)] = _; rw [e]]
    kernel_rfl
  · rw [hdst]
    have hb : Below w.heap.size w (w.alloc (.cells #[v0, v1, v2, v3] 107)) := (Below.refl _ _).alloc (Nat.le_refl _) _
    refine I.put hl hd h0 hb (by
      rw [hk]
      refine ⟨_, _, rfl, Blk.fresh w 107 #[v0, v1, v2, v3], fun j p' hj => ?_⟩
      cases j with
      | zero => simp at hj; subst hj; exact ⟨v0, v1, v2, v3, hp.keep (keeps_below hb), rfl, rfl, rfl, rfl⟩
      | succ j => simp at hj) (fun h => absurd h h52) hni
theorem s_sl2 (I : Inv k W0 T0 listed a w) {i d s j s' j' : Nat} {p p' : Pt} (ho : ops[i]? = some o) (hg : o.guard = none) (hdst : o.dst = some d) (hop : o.op = .buildSlice 100 2 #[(0, .tmp s), (1, .tmp s')]) (hl : listed.getD i true = false) (hd : dstT[i]? = some (some d)) (hk : kdT.getD i .mk = .sl [p, p']) (h0 : i ≠ 0) (h52 : i ≠ 52) (hni : ∀ e ∈ insT, e.2.1 ≠ i)
    (hj : listed.getD j false = true) (hjd : dstT[j]? = some (some s)) (hjk : kdT.getD j .mk = .part p) (hj' : listed.getD j' false = true) (hjd' : dstT[j']? = some (some s')) (hjk' : kdT.getD j' .mk = .part p') :
    wpOp Try.prog ops Q i (fun a' w' => Inv k W0 T0 (listed.setIfInBounds i true) a' w') a w := by
  obtain ⟨ie, hi, hz, hs⟩ := info_ptx
  have hv := I.val j s hj hjd
  rw [hjk] at hv
  obtain ⟨v0, v1, v2, v3, e, hp⟩ := hv
  have hv' := I.val j' s' hj' hjd'
  rw [hjk'] at hv'
  obtain ⟨u0, u1, u2, u3, e', hp'⟩ := hv'
  refine wpOp_of ho hg (wp_value (ex_buildSlice (cells := #[v0, v1, v2, v3, u0, u1, u2, u3]) hop Try.underlying100 hi hz (by rw [hs]; decide) (by rw [hs]; decide) ?_) ?_)
  · rw [hs, show (Array.map (fun x : Nat × Operand => (x.1, a.eval x.2)) #[(0, Operand.tmp s), (1, Operand.tmp s')]).toList = [(0, Value.agg #[v0, v1, v2, v3]), (1, Value.agg #[u0, u1, u2, u3])] by simp only [Array.toList_map, List.map_cons, List.map_nil]; show [(0, a.tmps.getD s undef), (1, a.tmps.getD s' undef)] = _; rw [e, e']]
    kernel_rfl
  · rw [hdst]
    have hb : Below w.heap.size w (w.alloc (.cells #[v0, v1, v2, v3, u0, u1, u2, u3] 107)) := (Below.refl _ _).alloc (Nat.le_refl _) _
    refine I.put hl hd h0 hb (by
      rw [hk]
      refine ⟨_, _, rfl, Blk.fresh w 107 #[v0, v1, v2, v3, u0, u1, u2, u3], fun j q hj => ?_⟩
      match j, hj with
      | 0, hj => simp at hj; subst hj; exact ⟨v0, v1, v2, v3, hp.keep (keeps_below hb), rfl, rfl, rfl, rfl⟩
      | 1, hj => simp at hj; subst hj; exact ⟨u0, u1, u2, u3, hp'.keep (keeps_below hb), rfl, rfl, rfl, rfl⟩
      | j + 2, hj => simp at hj) (fun h => absurd h h52) hni
theorem s_ins (I : Inv k W0 T0 listed a w) {i s j : Nat} {key : Int} {ps : List Pt} (ho : ops[i]? = some o) (hg : o.guard = none) (hdst : o.dst = none) (hop : o.op = .insert 123 (.tmp 21) (.const (.int .i64 key)) (.tmp s)) (hl : listed.getD i true = false) (he : (key, i, ps) ∈ insT) (h0 : listed.getD 0 false = true)
    (hj : listed.getD j false = true) (hjd : dstT[j]? = some (some s)) (hjk : kdT.getD j .mk = .sl ps) :
    wpOp Try.prog ops Q i (fun a' w' => Inv k W0 T0 (listed.setIfInBounds i true) a' w') a w := by
  have hv := I.val j s hj hjd
  rw [hjk] at hv
  obtain ⟨g, es, c, e1, e2, e3, I'⟩ := I.ins hl he h0 hv
  refine wpOp_of ho hg (Draw.wp_skip (ex_insert hop (by
    show (Instr.mapUpdate 123 (a.tmps.getD 21 undef) (.int .i64 key) (a.tmps.getD s undef)).run Try.prog w = _
    rw [e1]
    exact run_insert key _ Try.underlying123 Try.underlying3 e2 e3)) ?_)
  rw [hdst]
  exact I'
theorem s_put (I : Inv k W0 T0 listed a w) {i d : Nat} {v : Value} (ho : ops[i]? = some o) (hg : o.guard = none) (hdst : o.dst = some d) (hx : (execOp a.eval o).run Try.prog w = .ok (.value v) w) (hl : listed.getD i true = false) (hd : dstT[i]? = some (some d)) (h0 : i ≠ 0) (hgd : Good k w v (kdT.getD i .mk))
    (h52 : i = 52 → v = a.tmps.getD 21 undef ∧ listed.getD 0 false = true ∧ ∀ e ∈ insT, listed.getD e.2.1 false = true) (hni : ∀ e ∈ insT, e.2.1 ≠ i) :
    wpOp Try.prog ops Q i (fun a' w' => Inv k W0 T0 (listed.setIfInBounds i true) a' w') a w := by
  refine wpOp_of ho hg (wp_value hx ?_)
  rw [hdst]
  exact I.put hl hd h0 (Below.refl _ _) hgd h52 hni
end
set_option maxRecDepth 100000 in
set_option maxHeartbeats 4000000 in
theorem step_0 {k : Int} {W0 : World} {T0 : Array Value} {listed : Array Bool} {a : Act} {w : World} {ops : Array Oper} {Q : Exit → Act → World → Prop} (D : Dig ops) (B : Boxes k W0 T0) (I : Inv k W0 T0 listed a w) (i : Nat) (h1 : 0 ≤ i) (h2 : i < 15) (hl : listed.getD i true = false)
    (haft : ∀ o, ops[i]? = some o → ∀ e ∈ o.after, Region.binds .any e = true → listed.getD e.on false = true) : wpOp Try.prog ops Q i (fun a' w' => Inv k W0 T0 (listed.setIfInBounds i true) a' w') a w := by
  have hcs : i = 0 ∨ i = 1 ∨ i = 2 ∨ i = 3 ∨ i = 4 ∨ i = 5 ∨ i = 6 ∨ i = 7 ∨ i = 8 ∨ i = 9 ∨ i = 10 ∨ i = 11 ∨ i = 12 ∨ i = 13 ∨ i = 14 := by omega
  rcases hcs with rfl | rfl | rfl | rfl | rfl | rfl | rfl | rfl | rfl | rfl | rfl | rfl | rfl | rfl | rfl
  · skip
    obtain ⟨o, ho, hg, hdst, hop, hdep⟩ := D.at_ 0 (by decide)
    have dp : ∀ d, d ∈ depT.getD 0 [] → listed.getD d false = true := fun d hd => by
      obtain ⟨e, he, h4, h5⟩ := hdep d hd
      exact h5 ▸ haft o ho e he h4
    refine wpOp_of ho hg (wp_value (ex_makeMap hop) ?_)
    rw [hdst]
    exact I.mk0 hl
  · skip
    obtain ⟨o, ho, hg, hdst, hop, hdep⟩ := D.at_ 1 (by decide)
    have dp : ∀ d, d ∈ depT.getD 1 [] → listed.getD d false = true := fun d hd => by
      obtain ⟨e, he, h4, h5⟩ := hdep d hd
      exact h5 ▸ haft o ho e he h4
    exact s_call I ho hg hdst (f := 71) (by have hop' : o.op = Op.call { callee := Callee.value (Operand.func 71), args := #[], argTypes := #[] } := hop; unfold execOp; rw [hop']; go_simp) hl rfl rfl (by decide) (by decide) (by decide) (make_up w)
  · skip
    obtain ⟨o, ho, hg, hdst, hop, hdep⟩ := D.at_ 2 (by decide)
    have dp : ∀ d, d ∈ depT.getD 2 [] → listed.getD d false = true := fun d hd => by
      obtain ⟨e, he, h4, h5⟩ := hdep d hd
      exact h5 ▸ haft o ho e he h4
    exact s_call I ho hg hdst (f := 72) (by have hop' : o.op = Op.call { callee := Callee.value (Operand.func 72), args := #[], argTypes := #[] } := hop; unfold execOp; rw [hop']; go_simp) hl rfl rfl (by decide) (by decide) (by decide) (make_im w)
  · skip
    obtain ⟨o, ho, hg, hdst, hop, hdep⟩ := D.at_ 3 (by decide)
    have dp : ∀ d, d ∈ depT.getD 3 [] → listed.getD d false = true := fun d hd => by
      obtain ⟨e, he, h4, h5⟩ := hdep d hd
      exact h5 ▸ haft o ho e he h4
    exact s_sl2 I (j := 1) (j' := 2) ho hg hdst hop hl rfl rfl (by decide) (by decide) (by decide) (dp _ (by decide)) rfl rfl (dp _ (by decide)) rfl rfl
  · skip
    obtain ⟨o, ho, hg, hdst, hop, hdep⟩ := D.at_ 4 (by decide)
    have dp : ∀ d, d ∈ depT.getD 4 [] → listed.getD d false = true := fun d hd => by
      obtain ⟨e, he, h4, h5⟩ := hdep d hd
      exact h5 ▸ haft o ho e he h4
    exact s_ins I (j := 3) (ps := [.up, .im]) ho hg hdst hop hl (by decide) (dp 0 (by decide)) (dp _ (by decide)) rfl rfl
  · skip
    obtain ⟨o, ho, hg, hdst, hop, hdep⟩ := D.at_ 5 (by decide)
    have dp : ∀ d, d ∈ depT.getD 5 [] → listed.getD d false = true := fun d hd => by
      obtain ⟨e, he, h4, h5⟩ := hdep d hd
      exact h5 ▸ haft o ho e he h4
    exact s_call I ho hg hdst (f := 73) (by have hop' : o.op = Op.call { callee := Callee.value (Operand.func 73), args := #[], argTypes := #[] } := hop; unfold execOp; rw [hop']; go_simp) hl rfl rfl (by decide) (by decide) (by decide) (make_ch w)
  · skip
    obtain ⟨o, ho, hg, hdst, hop, hdep⟩ := D.at_ 6 (by decide)
    have dp : ∀ d, d ∈ depT.getD 6 [] → listed.getD d false = true := fun d hd => by
      obtain ⟨e, he, h4, h5⟩ := hdep d hd
      exact h5 ▸ haft o ho e he h4
    exact s_call I ho hg hdst (f := 72) (by have hop' : o.op = Op.call { callee := Callee.value (Operand.func 72), args := #[], argTypes := #[] } := hop; unfold execOp; rw [hop']; go_simp) hl rfl rfl (by decide) (by decide) (by decide) (make_im w)
  · skip
    obtain ⟨o, ho, hg, hdst, hop, hdep⟩ := D.at_ 7 (by decide)
    have dp : ∀ d, d ∈ depT.getD 7 [] → listed.getD d false = true := fun d hd => by
      obtain ⟨e, he, h4, h5⟩ := hdep d hd
      exact h5 ▸ haft o ho e he h4
    exact s_sl2 I (j := 5) (j' := 6) ho hg hdst hop hl rfl rfl (by decide) (by decide) (by decide) (dp _ (by decide)) rfl rfl (dp _ (by decide)) rfl rfl
  · skip
    obtain ⟨o, ho, hg, hdst, hop, hdep⟩ := D.at_ 8 (by decide)
    have dp : ∀ d, d ∈ depT.getD 8 [] → listed.getD d false = true := fun d hd => by
      obtain ⟨e, he, h4, h5⟩ := hdep d hd
      exact h5 ▸ haft o ho e he h4
    exact s_ins I (j := 7) (ps := [.ch, .im]) ho hg hdst hop hl (by decide) (dp 0 (by decide)) (dp _ (by decide)) rfl rfl
  · skip
    obtain ⟨o, ho, hg, hdst, hop, hdep⟩ := D.at_ 9 (by decide)
    have dp : ∀ d, d ∈ depT.getD 9 [] → listed.getD d false = true := fun d hd => by
      obtain ⟨e, he, h4, h5⟩ := hdep d hd
      exact h5 ▸ haft o ho e he h4
    exact s_load I ho hg hdst hop hl rfl rfl (by decide) (by decide) (by decide) (by decide) B.b4
  · skip
    obtain ⟨o, ho, hg, hdst, hop, hdep⟩ := D.at_ 10 (by decide)
    have dp : ∀ d, d ∈ depT.getD 10 [] → listed.getD d false = true := fun d hd => by
      obtain ⟨e, he, h4, h5⟩ := hdep d hd
      exact h5 ▸ haft o ho e he h4
    exact s_sl1 I (j := 9) ho hg hdst hop hl rfl rfl (by decide) (by decide) (by decide) (dp _ (by decide)) rfl rfl
  · skip
    obtain ⟨o, ho, hg, hdst, hop, hdep⟩ := D.at_ 11 (by decide)
    have dp : ∀ d, d ∈ depT.getD 11 [] → listed.getD d false = true := fun d hd => by
      obtain ⟨e, he, h4, h5⟩ := hdep d hd
      exact h5 ▸ haft o ho e he h4
    exact s_ins I (j := 10) (ps := [.rs]) ho hg hdst hop hl (by decide) (dp 0 (by decide)) (dp _ (by decide)) rfl rfl
  · skip
    obtain ⟨o, ho, hg, hdst, hop, hdep⟩ := D.at_ 12 (by decide)
    have dp : ∀ d, d ∈ depT.getD 12 [] → listed.getD d false = true := fun d hd => by
      obtain ⟨e, he, h4, h5⟩ := hdep d hd
      exact h5 ▸ haft o ho e he h4
    exact s_load I ho hg hdst hop hl rfl rfl (by decide) (by decide) (by decide) (by decide) B.b8
  · skip
    obtain ⟨o, ho, hg, hdst, hop, hdep⟩ := D.at_ 13 (by decide)
    have dp : ∀ d, d ∈ depT.getD 13 [] → listed.getD d false = true := fun d hd => by
      obtain ⟨e, he, h4, h5⟩ := hdep d hd
      exact h5 ▸ haft o ho e he h4
    exact s_load I ho hg hdst hop hl rfl rfl (by decide) (by decide) (by decide) (by decide) B.b9
  · skip
    obtain ⟨o, ho, hg, hdst, hop, hdep⟩ := D.at_ 14 (by decide)
    have dp : ∀ d, d ∈ depT.getD 14 [] → listed.getD d false = true := fun d hd => by
      obtain ⟨e, he, h4, h5⟩ := hdep d hd
      exact h5 ▸ haft o ho e he h4
    exact s_sl2 I (j := 12) (j' := 13) ho hg hdst hop hl rfl rfl (by decide) (by decide) (by decide) (dp _ (by decide)) rfl rfl (dp _ (by decide)) rfl rfl
set_option maxRecDepth 100000 in
set_option maxHeartbeats 4000000 in
theorem step_1 {k : Int} {W0 : World} {T0 : Array Value} {listed : Array Bool} {a : Act} {w : World} {ops : Array Oper} {Q : Exit → Act → World → Prop} (D : Dig ops) (B : Boxes k W0 T0) (I : Inv k W0 T0 listed a w) (i : Nat) (h1 : 15 ≤ i) (h2 : i < 30) (hl : listed.getD i true = false)
    (haft : ∀ o, ops[i]? = some o → ∀ e ∈ o.after, Region.binds .any e = true → listed.getD e.on false = true) : wpOp Try.prog ops Q i (fun a' w' => Inv k W0 T0 (listed.setIfInBounds i true) a' w') a w := by
  have hcs : i = 15 ∨ i = 16 ∨ i = 17 ∨ i = 18 ∨ i = 19 ∨ i = 20 ∨ i = 21 ∨ i = 22 ∨ i = 23 ∨ i = 24 ∨ i = 25 ∨ i = 26 ∨ i = 27 ∨ i = 28 ∨ i = 29 := by omega
  rcases hcs with rfl | rfl | rfl | rfl | rfl | rfl | rfl | rfl | rfl | rfl | rfl | rfl | rfl | rfl | rfl
  · skip
    obtain ⟨o, ho, hg, hdst, hop, hdep⟩ := D.at_ 15 (by decide)
    have dp : ∀ d, d ∈ depT.getD 15 [] → listed.getD d false = true := fun d hd => by
      obtain ⟨e, he, h4, h5⟩ := hdep d hd
      exact h5 ▸ haft o ho e he h4
    exact s_ins I (j := 14) (ps := [.sa, .mk]) ho hg hdst hop hl (by decide) (dp 0 (by decide)) (dp _ (by decide)) rfl rfl
  · skip
    obtain ⟨o, ho, hg, hdst, hop, hdep⟩ := D.at_ 16 (by decide)
    have dp : ∀ d, d ∈ depT.getD 16 [] → listed.getD d false = true := fun d hd => by
      obtain ⟨e, he, h4, h5⟩ := hdep d hd
      exact h5 ▸ haft o ho e he h4
    exact s_load I ho hg hdst hop hl rfl rfl (by decide) (by decide) (by decide) (by decide) B.b8
  · skip
    obtain ⟨o, ho, hg, hdst, hop, hdep⟩ := D.at_ 17 (by decide)
    have dp : ∀ d, d ∈ depT.getD 17 [] → listed.getD d false = true := fun d hd => by
      obtain ⟨e, he, h4, h5⟩ := hdep d hd
      exact h5 ▸ haft o ho e he h4
    exact s_sl1 I (j := 16) ho hg hdst hop hl rfl rfl (by decide) (by decide) (by decide) (dp _ (by decide)) rfl rfl
  · skip
    obtain ⟨o, ho, hg, hdst, hop, hdep⟩ := D.at_ 18 (by decide)
    have dp : ∀ d, d ∈ depT.getD 18 [] → listed.getD d false = true := fun d hd => by
      obtain ⟨e, he, h4, h5⟩ := hdep d hd
      exact h5 ▸ haft o ho e he h4
    exact s_ins I (j := 17) (ps := [.sa]) ho hg hdst hop hl (by decide) (dp 0 (by decide)) (dp _ (by decide)) rfl rfl
  · skip
    obtain ⟨o, ho, hg, hdst, hop, hdep⟩ := D.at_ 19 (by decide)
    have dp : ∀ d, d ∈ depT.getD 19 [] → listed.getD d false = true := fun d hd => by
      obtain ⟨e, he, h4, h5⟩ := hdep d hd
      exact h5 ▸ haft o ho e he h4
    exact s_sl0 I ho hg hdst hop hl rfl rfl (by decide) (by decide) (by decide)
  · skip
    obtain ⟨o, ho, hg, hdst, hop, hdep⟩ := D.at_ 20 (by decide)
    have dp : ∀ d, d ∈ depT.getD 20 [] → listed.getD d false = true := fun d hd => by
      obtain ⟨e, he, h4, h5⟩ := hdep d hd
      exact h5 ▸ haft o ho e he h4
    exact s_ins I (j := 19) (ps := []) ho hg hdst hop hl (by decide) (dp 0 (by decide)) (dp _ (by decide)) rfl rfl
  · skip
    obtain ⟨o, ho, hg, hdst, hop, hdep⟩ := D.at_ 21 (by decide)
    have dp : ∀ d, d ∈ depT.getD 21 [] → listed.getD d false = true := fun d hd => by
      obtain ⟨e, he, h4, h5⟩ := hdep d hd
      exact h5 ▸ haft o ho e he h4
    exact s_sl0 I ho hg hdst hop hl rfl rfl (by decide) (by decide) (by decide)
  · skip
    obtain ⟨o, ho, hg, hdst, hop, hdep⟩ := D.at_ 22 (by decide)
    have dp : ∀ d, d ∈ depT.getD 22 [] → listed.getD d false = true := fun d hd => by
      obtain ⟨e, he, h4, h5⟩ := hdep d hd
      exact h5 ▸ haft o ho e he h4
    exact s_ins I (j := 21) (ps := []) ho hg hdst hop hl (by decide) (dp 0 (by decide)) (dp _ (by decide)) rfl rfl
  · skip
    obtain ⟨o, ho, hg, hdst, hop, hdep⟩ := D.at_ 23 (by decide)
    have dp : ∀ d, d ∈ depT.getD 23 [] → listed.getD d false = true := fun d hd => by
      obtain ⟨e, he, h4, h5⟩ := hdep d hd
      exact h5 ▸ haft o ho e he h4
    exact s_load I ho hg hdst hop hl rfl rfl (by decide) (by decide) (by decide) (by decide) B.b5
  · skip
    obtain ⟨o, ho, hg, hdst, hop, hdep⟩ := D.at_ 24 (by decide)
    have dp : ∀ d, d ∈ depT.getD 24 [] → listed.getD d false = true := fun d hd => by
      obtain ⟨e, he, h4, h5⟩ := hdep d hd
      exact h5 ▸ haft o ho e he h4
    exact s_sl1 I (j := 23) ho hg hdst hop hl rfl rfl (by decide) (by decide) (by decide) (dp _ (by decide)) rfl rfl
  · skip
    obtain ⟨o, ho, hg, hdst, hop, hdep⟩ := D.at_ 25 (by decide)
    have dp : ∀ d, d ∈ depT.getD 25 [] → listed.getD d false = true := fun d hd => by
      obtain ⟨e, he, h4, h5⟩ := hdep d hd
      exact h5 ▸ haft o ho e he h4
    exact s_ins I (j := 24) (ps := [.rj]) ho hg hdst hop hl (by decide) (dp 0 (by decide)) (dp _ (by decide)) rfl rfl
  · skip
    obtain ⟨o, ho, hg, hdst, hop, hdep⟩ := D.at_ 26 (by decide)
    have dp : ∀ d, d ∈ depT.getD 26 [] → listed.getD d false = true := fun d hd => by
      obtain ⟨e, he, h4, h5⟩ := hdep d hd
      exact h5 ▸ haft o ho e he h4
    exact s_load I ho hg hdst hop hl rfl rfl (by decide) (by decide) (by decide) (by decide) B.b10
  · skip
    obtain ⟨o, ho, hg, hdst, hop, hdep⟩ := D.at_ 27 (by decide)
    have dp : ∀ d, d ∈ depT.getD 27 [] → listed.getD d false = true := fun d hd => by
      obtain ⟨e, he, h4, h5⟩ := hdep d hd
      exact h5 ▸ haft o ho e he h4
    exact s_sl1 I (j := 26) ho hg hdst hop hl rfl rfl (by decide) (by decide) (by decide) (dp _ (by decide)) rfl rfl
  · skip
    obtain ⟨o, ho, hg, hdst, hop, hdep⟩ := D.at_ 28 (by decide)
    have dp : ∀ d, d ∈ depT.getD 28 [] → listed.getD d false = true := fun d hd => by
      obtain ⟨e, he, h4, h5⟩ := hdep d hd
      exact h5 ▸ haft o ho e he h4
    exact s_ins I (j := 27) (ps := [.fe]) ho hg hdst hop hl (by decide) (dp 0 (by decide)) (dp _ (by decide)) rfl rfl
  · skip
    obtain ⟨o, ho, hg, hdst, hop, hdep⟩ := D.at_ 29 (by decide)
    have dp : ∀ d, d ∈ depT.getD 29 [] → listed.getD d false = true := fun d hd => by
      obtain ⟨e, he, h4, h5⟩ := hdep d hd
      exact h5 ▸ haft o ho e he h4
    exact s_load I ho hg hdst hop hl rfl rfl (by decide) (by decide) (by decide) (by decide) B.b10
set_option maxRecDepth 100000 in
set_option maxHeartbeats 4000000 in
theorem step_2 {k : Int} {W0 : World} {T0 : Array Value} {listed : Array Bool} {a : Act} {w : World} {ops : Array Oper} {Q : Exit → Act → World → Prop} (D : Dig ops) (B : Boxes k W0 T0) (I : Inv k W0 T0 listed a w) (i : Nat) (h1 : 30 ≤ i) (h2 : i < 45) (hl : listed.getD i true = false)
    (haft : ∀ o, ops[i]? = some o → ∀ e ∈ o.after, Region.binds .any e = true → listed.getD e.on false = true) : wpOp Try.prog ops Q i (fun a' w' => Inv k W0 T0 (listed.setIfInBounds i true) a' w') a w := by
  have hcs : i = 30 ∨ i = 31 ∨ i = 32 ∨ i = 33 ∨ i = 34 ∨ i = 35 ∨ i = 36 ∨ i = 37 ∨ i = 38 ∨ i = 39 ∨ i = 40 ∨ i = 41 ∨ i = 42 ∨ i = 43 ∨ i = 44 := by omega
  rcases hcs with rfl | rfl | rfl | rfl | rfl | rfl | rfl | rfl | rfl | rfl | rfl | rfl | rfl | rfl | rfl
  · skip
    obtain ⟨o, ho, hg, hdst, hop, hdep⟩ := D.at_ 30 (by decide)
    have dp : ∀ d, d ∈ depT.getD 30 [] → listed.getD d false = true := fun d hd => by
      obtain ⟨e, he, h4, h5⟩ := hdep d hd
      exact h5 ▸ haft o ho e he h4
    exact s_sl1 I (j := 29) ho hg hdst hop hl rfl rfl (by decide) (by decide) (by decide) (dp _ (by decide)) rfl rfl
  · skip
    obtain ⟨o, ho, hg, hdst, hop, hdep⟩ := D.at_ 31 (by decide)
    have dp : ∀ d, d ∈ depT.getD 31 [] → listed.getD d false = true := fun d hd => by
      obtain ⟨e, he, h4, h5⟩ := hdep d hd
      exact h5 ▸ haft o ho e he h4
    exact s_ins I (j := 30) (ps := [.fe]) ho hg hdst hop hl (by decide) (dp 0 (by decide)) (dp _ (by decide)) rfl rfl
  · skip
    obtain ⟨o, ho, hg, hdst, hop, hdep⟩ := D.at_ 32 (by decide)
    have dp : ∀ d, d ∈ depT.getD 32 [] → listed.getD d false = true := fun d hd => by
      obtain ⟨e, he, h4, h5⟩ := hdep d hd
      exact h5 ▸ haft o ho e he h4
    exact s_load I ho hg hdst hop hl rfl rfl (by decide) (by decide) (by decide) (by decide) B.b6
  · skip
    obtain ⟨o, ho, hg, hdst, hop, hdep⟩ := D.at_ 33 (by decide)
    have dp : ∀ d, d ∈ depT.getD 33 [] → listed.getD d false = true := fun d hd => by
      obtain ⟨e, he, h4, h5⟩ := hdep d hd
      exact h5 ▸ haft o ho e he h4
    exact s_sl1 I (j := 32) ho hg hdst hop hl rfl rfl (by decide) (by decide) (by decide) (dp _ (by decide)) rfl rfl
  · skip
    obtain ⟨o, ho, hg, hdst, hop, hdep⟩ := D.at_ 34 (by decide)
    have dp : ∀ d, d ∈ depT.getD 34 [] → listed.getD d false = true := fun d hd => by
      obtain ⟨e, he, h4, h5⟩ := hdep d hd
      exact h5 ▸ haft o ho e he h4
    exact s_ins I (j := 33) (ps := [.vs]) ho hg hdst hop hl (by decide) (dp 0 (by decide)) (dp _ (by decide)) rfl rfl
  · skip
    obtain ⟨o, ho, hg, hdst, hop, hdep⟩ := D.at_ 35 (by decide)
    have dp : ∀ d, d ∈ depT.getD 35 [] → listed.getD d false = true := fun d hd => by
      obtain ⟨e, he, h4, h5⟩ := hdep d hd
      exact h5 ▸ haft o ho e he h4
    exact s_load I ho hg hdst hop hl rfl rfl (by decide) (by decide) (by decide) (by decide) B.b4
  · skip
    obtain ⟨o, ho, hg, hdst, hop, hdep⟩ := D.at_ 36 (by decide)
    have dp : ∀ d, d ∈ depT.getD 36 [] → listed.getD d false = true := fun d hd => by
      obtain ⟨e, he, h4, h5⟩ := hdep d hd
      exact h5 ▸ haft o ho e he h4
    exact s_load I ho hg hdst hop hl rfl rfl (by decide) (by decide) (by decide) (by decide) B.b5
  · skip
    obtain ⟨o, ho, hg, hdst, hop, hdep⟩ := D.at_ 37 (by decide)
    have dp : ∀ d, d ∈ depT.getD 37 [] → listed.getD d false = true := fun d hd => by
      obtain ⟨e, he, h4, h5⟩ := hdep d hd
      exact h5 ▸ haft o ho e he h4
    exact s_sl2 I (j := 35) (j' := 36) ho hg hdst hop hl rfl rfl (by decide) (by decide) (by decide) (dp _ (by decide)) rfl rfl (dp _ (by decide)) rfl rfl
  · skip
    obtain ⟨o, ho, hg, hdst, hop, hdep⟩ := D.at_ 38 (by decide)
    have dp : ∀ d, d ∈ depT.getD 38 [] → listed.getD d false = true := fun d hd => by
      obtain ⟨e, he, h4, h5⟩ := hdep d hd
      exact h5 ▸ haft o ho e he h4
    exact s_ins I (j := 37) (ps := [.rs, .rj]) ho hg hdst hop hl (by decide) (dp 0 (by decide)) (dp _ (by decide)) rfl rfl
  · skip
    obtain ⟨o, ho, hg, hdst, hop, hdep⟩ := D.at_ 39 (by decide)
    have dp : ∀ d, d ∈ depT.getD 39 [] → listed.getD d false = true := fun d hd => by
      obtain ⟨e, he, h4, h5⟩ := hdep d hd
      exact h5 ▸ haft o ho e he h4
    exact s_call I ho hg hdst (f := 71) (by have hop' : o.op = Op.call { callee := Callee.value (Operand.func 71), args := #[], argTypes := #[] } := hop; unfold execOp; rw [hop']; go_simp) hl rfl rfl (by decide) (by decide) (by decide) (make_up w)
  · skip
    obtain ⟨o, ho, hg, hdst, hop, hdep⟩ := D.at_ 40 (by decide)
    have dp : ∀ d, d ∈ depT.getD 40 [] → listed.getD d false = true := fun d hd => by
      obtain ⟨e, he, h4, h5⟩ := hdep d hd
      exact h5 ▸ haft o ho e he h4
    exact s_sl1 I (j := 39) ho hg hdst hop hl rfl rfl (by decide) (by decide) (by decide) (dp _ (by decide)) rfl rfl
  · skip
    obtain ⟨o, ho, hg, hdst, hop, hdep⟩ := D.at_ 41 (by decide)
    have dp : ∀ d, d ∈ depT.getD 41 [] → listed.getD d false = true := fun d hd => by
      obtain ⟨e, he, h4, h5⟩ := hdep d hd
      exact h5 ▸ haft o ho e he h4
    exact s_ins I (j := 40) (ps := [.up]) ho hg hdst hop hl (by decide) (dp 0 (by decide)) (dp _ (by decide)) rfl rfl
  · skip
    obtain ⟨o, ho, hg, hdst, hop, hdep⟩ := D.at_ 42 (by decide)
    have dp : ∀ d, d ∈ depT.getD 42 [] → listed.getD d false = true := fun d hd => by
      obtain ⟨e, he, h4, h5⟩ := hdep d hd
      exact h5 ▸ haft o ho e he h4
    exact s_sl0 I ho hg hdst hop hl rfl rfl (by decide) (by decide) (by decide)
  · skip
    obtain ⟨o, ho, hg, hdst, hop, hdep⟩ := D.at_ 43 (by decide)
    have dp : ∀ d, d ∈ depT.getD 43 [] → listed.getD d false = true := fun d hd => by
      obtain ⟨e, he, h4, h5⟩ := hdep d hd
      exact h5 ▸ haft o ho e he h4
    exact s_ins I (j := 42) (ps := []) ho hg hdst hop hl (by decide) (dp 0 (by decide)) (dp _ (by decide)) rfl rfl
  · skip
    obtain ⟨o, ho, hg, hdst, hop, hdep⟩ := D.at_ 44 (by decide)
    have dp : ∀ d, d ∈ depT.getD 44 [] → listed.getD d false = true := fun d hd => by
      obtain ⟨e, he, h4, h5⟩ := hdep d hd
      exact h5 ▸ haft o ho e he h4
    exact s_sl0 I ho hg hdst hop hl rfl rfl (by decide) (by decide) (by decide)
set_option maxRecDepth 100000 in
set_option maxHeartbeats 4000000 in
theorem step_3 {k : Int} {W0 : World} {T0 : Array Value} {listed : Array Bool} {a : Act} {w : World} {ops : Array Oper} {Q : Exit → Act → World → Prop} (D : Dig ops) (B : Boxes k W0 T0) (I : Inv k W0 T0 listed a w) (i : Nat) (h1 : 45 ≤ i) (h2 : i < 60) (hl : listed.getD i true = false)
    (haft : ∀ o, ops[i]? = some o → ∀ e ∈ o.after, Region.binds .any e = true → listed.getD e.on false = true) : wpOp Try.prog ops Q i (fun a' w' => Inv k W0 T0 (listed.setIfInBounds i true) a' w') a w := by
  have hcs : i = 45 ∨ i = 46 ∨ i = 47 ∨ i = 48 ∨ i = 49 ∨ i = 50 ∨ i = 51 ∨ i = 52 ∨ i = 53 ∨ i = 54 ∨ i = 55 ∨ i = 56 ∨ i = 57 ∨ i = 58 ∨ i = 59 := by omega
  rcases hcs with rfl | rfl | rfl | rfl | rfl | rfl | rfl | rfl | rfl | rfl | rfl | rfl | rfl | rfl | rfl
  · skip
    obtain ⟨o, ho, hg, hdst, hop, hdep⟩ := D.at_ 45 (by decide)
    have dp : ∀ d, d ∈ depT.getD 45 [] → listed.getD d false = true := fun d hd => by
      obtain ⟨e, he, h4, h5⟩ := hdep d hd
      exact h5 ▸ haft o ho e he h4
    exact s_ins I (j := 44) (ps := []) ho hg hdst hop hl (by decide) (dp 0 (by decide)) (dp _ (by decide)) rfl rfl
  · skip
    obtain ⟨o, ho, hg, hdst, hop, hdep⟩ := D.at_ 46 (by decide)
    have dp : ∀ d, d ∈ depT.getD 46 [] → listed.getD d false = true := fun d hd => by
      obtain ⟨e, he, h4, h5⟩ := hdep d hd
      exact h5 ▸ haft o ho e he h4
    exact s_load I ho hg hdst hop hl rfl rfl (by decide) (by decide) (by decide) (by decide) B.b7
  · skip
    obtain ⟨o, ho, hg, hdst, hop, hdep⟩ := D.at_ 47 (by decide)
    have dp : ∀ d, d ∈ depT.getD 47 [] → listed.getD d false = true := fun d hd => by
      obtain ⟨e, he, h4, h5⟩ := hdep d hd
      exact h5 ▸ haft o ho e he h4
    exact s_sl1 I (j := 46) ho hg hdst hop hl rfl rfl (by decide) (by decide) (by decide) (dp _ (by decide)) rfl rfl
  · skip
    obtain ⟨o, ho, hg, hdst, hop, hdep⟩ := D.at_ 48 (by decide)
    have dp : ∀ d, d ∈ depT.getD 48 [] → listed.getD d false = true := fun d hd => by
      obtain ⟨e, he, h4, h5⟩ := hdep d hd
      exact h5 ▸ haft o ho e he h4
    exact s_ins I (j := 47) (ps := [.ln]) ho hg hdst hop hl (by decide) (dp 0 (by decide)) (dp _ (by decide)) rfl rfl
  · skip
    obtain ⟨o, ho, hg, hdst, hop, hdep⟩ := D.at_ 49 (by decide)
    have dp : ∀ d, d ∈ depT.getD 49 [] → listed.getD d false = true := fun d hd => by
      obtain ⟨e, he, h4, h5⟩ := hdep d hd
      exact h5 ▸ haft o ho e he h4
    exact s_load I ho hg hdst hop hl rfl rfl (by decide) (by decide) (by decide) (by decide) B.b7
  · skip
    obtain ⟨o, ho, hg, hdst, hop, hdep⟩ := D.at_ 50 (by decide)
    have dp : ∀ d, d ∈ depT.getD 50 [] → listed.getD d false = true := fun d hd => by
      obtain ⟨e, he, h4, h5⟩ := hdep d hd
      exact h5 ▸ haft o ho e he h4
    exact s_sl1 I (j := 49) ho hg hdst hop hl rfl rfl (by decide) (by decide) (by decide) (dp _ (by decide)) rfl rfl
  · skip
    obtain ⟨o, ho, hg, hdst, hop, hdep⟩ := D.at_ 51 (by decide)
    have dp : ∀ d, d ∈ depT.getD 51 [] → listed.getD d false = true := fun d hd => by
      obtain ⟨e, he, h4, h5⟩ := hdep d hd
      exact h5 ▸ haft o ho e he h4
    exact s_ins I (j := 50) (ps := [.ln]) ho hg hdst hop hl (by decide) (dp 0 (by decide)) (dp _ (by decide)) rfl rfl
  · skip
    obtain ⟨o, ho, hg, hdst, hop, hdep⟩ := D.at_ 52 (by decide)
    have dp : ∀ d, d ∈ depT.getD 52 [] → listed.getD d false = true := fun d hd => by
      obtain ⟨e, he, h4, h5⟩ := hdep d hd
      exact h5 ▸ haft o ho e he h4
    exact s_put I ho hg hdst (ex_move (.inl hop)) hl rfl (by decide) trivial (fun _ => ⟨rfl, dp 0 (by decide), fun e he => dp _ (by have := ins_bd e he; exact List.mem_range.2 (show e.2.1 < 52 from this.2))⟩) (by decide)
  · skip
    obtain ⟨o, ho, hg, hdst, hop, hdep⟩ := D.at_ 53 (by decide)
    have dp : ∀ d, d ∈ depT.getD 53 [] → listed.getD d false = true := fun d hd => by
      obtain ⟨e, he, h4, h5⟩ := hdep d hd
      exact h5 ▸ haft o ho e he h4
    exact s_put I ho hg hdst (ex_move (.inl hop)) hl rfl (by decide) ((I.old 0 (by decide)).trans B.t0) (fun h => absurd h (by decide)) (by decide)
  · skip
    obtain ⟨o, ho, hg, hdst, hop, hdep⟩ := D.at_ 54 (by decide)
    have dp : ∀ d, d ∈ depT.getD 54 [] → listed.getD d false = true := fun d hd => by
      obtain ⟨e, he, h4, h5⟩ := hdep d hd
      exact h5 ▸ haft o ho e he h4
    have h53 := I.val 53 57 (dp 53 (by decide)) rfl
    obtain ⟨g, es, c, e1, e2, hf⟩ := I.look (dp 52 (by decide))
    have ek : a.tmps.getD 57 undef = .int .i64 k := h53
    rcases hf with ⟨j, v, h1, h2, h3⟩ | ⟨h1, h2, h3⟩
    · exact s_put I ho hg hdst (v := .tuple #[v, .bool true]) (ex_lookup hop (by show (Instr.lookup 123 (a.tmps.getD 56 undef) (a.tmps.getD 57 undef) true).run Try.prog w = _; rw [e1, ek]; exact run_look_some Try.underlying123 Try.underlying3 e2 h1)) hl rfl (by decide) ⟨v, by rw [h2], h3⟩ (fun h => absurd h (by decide)) (by decide)
    · exact s_put I ho hg hdst (v := .tuple #[.slice none 0 0, .bool false]) (ex_lookup hop (by show (Instr.lookup 123 (a.tmps.getD 56 undef) (a.tmps.getD 57 undef) true).run Try.prog w = _; rw [e1, ek]; exact run_look_none Try.underlying123 Try.underlying3 (by go_simp) e2 h1)) hl rfl (by decide) ⟨_, by rw [h2], h3⟩ (fun h => absurd h (by decide)) (by decide)
  · skip
    obtain ⟨o, ho, hg, hdst, hop, hdep⟩ := D.at_ 55 (by decide)
    have dp : ∀ d, d ∈ depT.getD 55 [] → listed.getD d false = true := fun d hd => by
      obtain ⟨e, he, h4, h5⟩ := hdep d hd
      exact h5 ▸ haft o ho e he h4
    have hv := I.val 54 58 (dp 54 (by decide)) rfl
    exact s_put I ho hg hdst (ex_move (.inl hop)) hl rfl (by decide) hv (fun h => absurd h (by decide)) (by decide)
  · skip
    obtain ⟨o, ho, hg, hdst, hop, hdep⟩ := D.at_ 56 (by decide)
    have dp : ∀ d, d ∈ depT.getD 56 [] → listed.getD d false = true := fun d hd => by
      obtain ⟨e, he, h4, h5⟩ := hdep d hd
      exact h5 ▸ haft o ho e he h4
    have hv := I.val 55 20 (dp 55 (by decide)) rfl
    obtain ⟨r, e, hr⟩ := hv
    exact s_put I ho hg hdst (ex_extract hop e rfl) hl rfl (by decide) hr (fun h => absurd h (by decide)) (by decide)
  · skip
    obtain ⟨o, ho, hg, hdst, hop, hdep⟩ := D.at_ 57 (by decide)
    have dp : ∀ d, d ∈ depT.getD 57 [] → listed.getD d false = true := fun d hd => by
      obtain ⟨e, he, h4, h5⟩ := hdep d hd
      exact h5 ▸ haft o ho e he h4
    have hv := I.val 55 20 (dp 55 (by decide)) rfl
    obtain ⟨r, e, hr⟩ := hv
    exact s_put I ho hg hdst (ex_extract hop e rfl) hl rfl (by decide) rfl (fun h => absurd h (by decide)) (by decide)
  · skip
    obtain ⟨o, ho, hg, hdst, hop, hdep⟩ := D.at_ 58 (by decide)
    have dp : ∀ d, d ∈ depT.getD 58 [] → listed.getD d false = true := fun d hd => by
      obtain ⟨e, he, h4, h5⟩ := hdep d hd
      exact h5 ▸ haft o ho e he h4
    have hv := I.val 56 59 (dp 56 (by decide)) rfl
    exact s_put I ho hg hdst (ex_move (.inr hop)) hl rfl (by decide) hv (fun h => absurd h (by decide)) (by decide)
  · skip
    obtain ⟨o, ho, hg, hdst, hop, hdep⟩ := D.at_ 59 (by decide)
    have dp : ∀ d, d ∈ depT.getD 59 [] → listed.getD d false = true := fun d hd => by
      obtain ⟨e, he, h4, h5⟩ := hdep d hd
      exact h5 ▸ haft o ho e he h4
    have hv := I.val 57 60 (dp 57 (by decide)) rfl
    exact s_put I ho hg hdst (ex_move (.inr hop)) hl rfl (by decide) hv (fun h => absurd h (by decide)) (by decide)
theorem step_any {k : Int} {W0 : World} {T0 : Array Value} {ops : Array Oper} {Q : Exit → Act → World → Prop} (D : Dig ops) (B : Boxes k W0 T0) (listed : Array Bool) (a : Act) (w : World) (i : Nat) (I : Inv k W0 T0 listed a w) (hr : i ∈ Region.ready .any ops listed) :
    wpOp Try.prog ops Q i (fun a' w' => Inv k W0 T0 (listed.setIfInBounds i true) a' w') a w := by
  obtain ⟨hl, o, ho, hall⟩ := mem_ready.1 hr
  have haft : ∀ o, ops[i]? = some o → ∀ e ∈ o.after, Region.binds .any e = true → listed.getD e.on false = true := fun o' ho' => by
    rw [ho] at ho'; injection ho' with ho'; subst ho'; exact hall
  have hi : i < 60 := by
    rcases Nat.lt_or_ge i ops.size with h | h
    · have := D.sz; omega
    · rw [Array.getElem?_eq_none h] at ho; cases ho
  rcases Nat.lt_or_ge i 15 with h1 | h1
  · exact step_0 D B I i (Nat.zero_le _) h1 hl haft
  · rcases Nat.lt_or_ge i 30 with h2 | h2
    · exact step_1 D B I i h1 h2 hl haft
    · rcases Nat.lt_or_ge i 45 with h3 | h3
      · exact step_2 D B I i h2 h3 hl haft
      · exact step_3 D B I i h3 hi hl haft
/-- When all have come up. -/
theorem done_any {k : Int} {W0 : World} {T0 : Array Value} {ops : Array Oper} (D : Dig ops) {listed : Array Bool} {a : Act} {w : World} (I : Inv k W0 T0 listed a w) (h : Region.ready .any ops listed = []) :
    a.tmps.size = 63 ∧ a.defers = [] ∧ Res k w (a.tmps.getD 11 undef) ∧ a.tmps.getD 12 undef = .bool (ptsK k).isSome ∧ Below W0.heap.size W0 w := by
  have hall := all_done (md := .any) (ops := ops) (by rw [I.ls, D.sz]) D.back h
  have h58 := I.val 58 11 (hall 58 (by rw [D.sz]; decide)) rfl
  have h59 := I.val 59 12 (hall 59 (by rw [D.sz]; decide)) rfl
  exact ⟨I.ts, I.df, h58, h59, I.bel⟩
theorem start_any (k : Int) (W0 : World) (T0 : Array Value) (hs : T0.size = 63) : Inv k W0 T0 (Array.replicate 60 false) ⟨T0, []⟩ W0 := by
  have hn : ∀ i, (Array.replicate 60 false).getD i false = true → False := fun i h => by
    rcases Nat.lt_or_ge i 60 with h1 | h1
    · simp [Array.getD, h1] at h
    · simp [Array.getD, Nat.not_lt.mpr h1] at h
  exact ⟨by simp, hs, rfl, fun _ _ => rfl, Below.refl _ _, fun i d h => (hn i h).elim, fun e _ h => (hn _ h).elim, fun h => (hn _ h).elim, fun h => (hn _ h).elim⟩
end Go.Proofs.Ytpoagepchlfemaa.Cp
