/- Control PDUs: the table of parts, whatever the order in which it is made. -/
import Derived.Test.YtpoagepchlfemaaCpPart
import Derived.Test.YtpoagepchlfemaaCpIns
set_option linter.unusedVariables false
set_option linter.unusedSimpArgs false
namespace Go.Proofs.Ytpoagepchlfemaa.Cp
open Go.RowKit Mem Oct Rw Av
open Draw MapKept
open Base (thenB)
/-- A slice of parts in memory. -/
def SliceAt (w : World) (V : Value) (ps : List Pt) : Prop := ∃ g cs, V = .slice (some ⟨g, 0, none⟩) ps.length ps.length ∧ Blk w g 107 cs ∧ ∀ (j : Nat) p, ps[j]? = some p → ∃ v0 v1 v2 v3 : Value, PartAt w (.agg #[v0, v1, v2, v3]) p ∧ cs[j * 4]? = some v0 ∧ cs[j * 4 + 1]? = some v1 ∧ cs[j * 4 + 2]? = some v2 ∧ cs[j * 4 + 3]? = some v3
theorem SliceAt.keep {w w' : World} {V : Value} {ps : List Pt} (h : SliceAt w V ps) (k : Keeps w w') : SliceAt w' V ps := by
  obtain ⟨g, cs, e, hb, hp⟩ := h
  refine ⟨g, cs, e, k _ _ _ (by decide) hb, fun j p hj => ?_⟩
  obtain ⟨v0, v1, v2, v3, h, r⟩ := hp j p hj
  exact ⟨v0, v1, v2, v3, h.keep k, r⟩
inductive Kd where
  | mk | part (p : Pt) | sl (ps : List Pt) | ins | mvm | mvk | tup | res | ok
def kdT : List Kd := [.mk, .part .up, .part .im, .sl [.up, .im], .ins, .part .ch, .part .im, .sl [.ch, .im], .ins, .part .rs, .sl [.rs], .ins, .part .sa, .part .mk, .sl [.sa, .mk], .ins, .part .sa, .sl [.sa], .ins, .sl [], .ins, .sl [], .ins, .part .rj, .sl [.rj], .ins, .part .fe, .sl [.fe], .ins, .part .fe, .sl [.fe], .ins, .part .vs, .sl [.vs], .ins, .part .rs, .part .rj, .sl [.rs, .rj], .ins, .part .up, .sl [.up], .ins, .sl [], .ins, .sl [], .ins, .part .ln, .sl [.ln], .ins, .part .ln, .sl [.ln], .ins, .mvm, .mvk, .tup, .tup, .res, .ok, .res, .ok]
def dstT : List (Option Nat) := [some 21, some 22, some 23, some 24, none, some 25, some 26, some 27, none, some 28, some 29, none, some 30, some 31, some 32, none, some 33, some 34, none, some 35, none, some 36, none, some 37, some 38, none, some 39, some 40, none, some 41, some 42, none, some 43, some 44, none, some 45, some 46, some 47, none, some 48, some 49, none, some 50, none, some 51, none, some 52, some 53, none, some 54, some 55, none, some 56, some 57, some 58, some 20, some 59, some 60, some 11, some 12]
def depT : List (List Nat) := [[], [], [], [1, 2], [0, 3], [], [], [5, 6], [0, 7], [], [9], [0, 10], [], [], [12, 13], [0, 14], [], [16], [0, 17], [], [0, 19], [], [0, 21], [], [23], [0, 24], [], [26], [0, 27], [], [29], [0, 30], [], [32], [0, 33], [], [], [35, 36], [0, 37], [], [39], [0, 40], [], [0, 42], [], [0, 44], [], [46], [0, 47], [], [49], [0, 50], [0, 1, 2, 3, 4, 5, 6, 7, 8, 9, 10, 11, 12, 13, 14, 15, 16, 17, 18, 19, 20, 21, 22, 23, 24, 25, 26, 27, 28, 29, 30, 31, 32, 33, 34, 35, 36, 37, 38, 39, 40, 41, 42, 43, 44, 45, 46, 47, 48, 49, 50, 51], [], [52, 53], [54], [55], [55], [56], [57]]
def insT : List (Int × Nat × List Pt) := [(0, 4, [.up, .im]), (1, 8, [.ch, .im]), (2, 11, [.rs]), (3, 15, [.sa, .mk]), (4, 18, [.sa]), (5, 20, []), (6, 22, []), (7, 25, [.rj]), (8, 28, [.fe]), (9, 31, [.fe]), (12, 34, [.vs]), (13, 38, [.rs, .rj]), (15, 41, [.up]), (18, 43, []), (19, 45, []), (20, 48, [.ln]), (21, 51, [.ln])]
def opT : List Op := [
  Op.makeMap 123 none,
  Op.call { callee := Callee.value (Operand.func 71), args := #[], argTypes := #[] },
  Op.call { callee := Callee.value (Operand.func 72), args := #[], argTypes := #[] },
  Op.buildSlice 100 2 #[(0, Operand.tmp 22), (1, Operand.tmp 23)],
  Op.insert 123 (Operand.tmp 21) (Operand.const (Value.int IntKind.i64 0)) (Operand.tmp 24),
  Op.call { callee := Callee.value (Operand.func 73), args := #[], argTypes := #[] },
  Op.call { callee := Callee.value (Operand.func 72), args := #[], argTypes := #[] },
  Op.buildSlice 100 2 #[(0, Operand.tmp 25), (1, Operand.tmp 26)],
  Op.insert 123 (Operand.tmp 21) (Operand.const (Value.int IntKind.i64 1)) (Operand.tmp 27),
  Op.load 107 (Operand.tmp 4),
  Op.buildSlice 100 1 #[(0, Operand.tmp 28)],
  Op.insert 123 (Operand.tmp 21) (Operand.const (Value.int IntKind.i64 2)) (Operand.tmp 29),
  Op.load 107 (Operand.tmp 8),
  Op.load 107 (Operand.tmp 9),
  Op.buildSlice 100 2 #[(0, Operand.tmp 30), (1, Operand.tmp 31)],
  Op.insert 123 (Operand.tmp 21) (Operand.const (Value.int IntKind.i64 3)) (Operand.tmp 32),
  Op.load 107 (Operand.tmp 8),
  Op.buildSlice 100 1 #[(0, Operand.tmp 33)],
  Op.insert 123 (Operand.tmp 21) (Operand.const (Value.int IntKind.i64 4)) (Operand.tmp 34),
  Op.buildSlice 100 0 #[],
  Op.insert 123 (Operand.tmp 21) (Operand.const (Value.int IntKind.i64 5)) (Operand.tmp 35),
  Op.buildSlice 100 0 #[],
  Op.insert 123 (Operand.tmp 21) (Operand.const (Value.int IntKind.i64 6)) (Operand.tmp 36),
  Op.load 107 (Operand.tmp 5),
  Op.buildSlice 100 1 #[(0, Operand.tmp 37)],
  Op.insert 123 (Operand.tmp 21) (Operand.const (Value.int IntKind.i64 7)) (Operand.tmp 38),
  Op.load 107 (Operand.tmp 10),
  Op.buildSlice 100 1 #[(0, Operand.tmp 39)],
  Op.insert 123 (Operand.tmp 21) (Operand.const (Value.int IntKind.i64 8)) (Operand.tmp 40),
  Op.load 107 (Operand.tmp 10),
  Op.buildSlice 100 1 #[(0, Operand.tmp 41)],
  Op.insert 123 (Operand.tmp 21) (Operand.const (Value.int IntKind.i64 9)) (Operand.tmp 42),
  Op.load 107 (Operand.tmp 6),
  Op.buildSlice 100 1 #[(0, Operand.tmp 43)],
  Op.insert 123 (Operand.tmp 21) (Operand.const (Value.int IntKind.i64 12)) (Operand.tmp 44),
  Op.load 107 (Operand.tmp 4),
  Op.load 107 (Operand.tmp 5),
  Op.buildSlice 100 2 #[(0, Operand.tmp 45), (1, Operand.tmp 46)],
  Op.insert 123 (Operand.tmp 21) (Operand.const (Value.int IntKind.i64 13)) (Operand.tmp 47),
  Op.call { callee := Callee.value (Operand.func 71), args := #[], argTypes := #[] },
  Op.buildSlice 100 1 #[(0, Operand.tmp 48)],
  Op.insert 123 (Operand.tmp 21) (Operand.const (Value.int IntKind.i64 15)) (Operand.tmp 49),
  Op.buildSlice 100 0 #[],
  Op.insert 123 (Operand.tmp 21) (Operand.const (Value.int IntKind.i64 18)) (Operand.tmp 50),
  Op.buildSlice 100 0 #[],
  Op.insert 123 (Operand.tmp 21) (Operand.const (Value.int IntKind.i64 19)) (Operand.tmp 51),
  Op.load 107 (Operand.tmp 7),
  Op.buildSlice 100 1 #[(0, Operand.tmp 52)],
  Op.insert 123 (Operand.tmp 21) (Operand.const (Value.int IntKind.i64 20)) (Operand.tmp 53),
  Op.load 107 (Operand.tmp 7),
  Op.buildSlice 100 1 #[(0, Operand.tmp 54)],
  Op.insert 123 (Operand.tmp 21) (Operand.const (Value.int IntKind.i64 21)) (Operand.tmp 55),
  Op.move (Operand.tmp 21),
  Op.move (Operand.tmp 0),
  Op.lookup 123 (Operand.tmp 56) (Operand.tmp 57) true,
  Op.move (Operand.tmp 58),
  Op.extract (Operand.tmp 20) 0,
  Op.extract (Operand.tmp 20) 1,
  Op.assign (Operand.tmp 59),
  Op.assign (Operand.tmp 60)]
/-- What the table gives for a kind. -/
def Res (k : Int) (w : World) (r : Value) : Prop := match ptsK k with | some ps => SliceAt w r ps | none => r = .slice none 0 0
def Good (k : Int) (w : World) (v : Value) : Kd → Prop
  | .part p => ∃ v0 v1 v2 v3, v = .agg #[v0, v1, v2, v3] ∧ PartAt w (.agg #[v0, v1, v2, v3]) p
  | .sl ps => SliceAt w v ps
  | .mvk => v = .int .i64 k
  | .tup => ∃ r, v = .tuple #[r, .bool (ptsK k).isSome] ∧ Res k w r
  | .res => Res k w v
  | .ok => v = .bool (ptsK k).isSome
  | _ => True
theorem Res.keep {k : Int} {w w' : World} {r : Value} (h : Res k w r) (kp : Keeps w w') : Res k w' r := by
  unfold Res at *
  cases hk : ptsK k with
  | none => rw [hk] at h; exact h
  | some ps => rw [hk] at h; exact SliceAt.keep h kp
theorem Good.keep {k : Int} {w w' : World} {v : Value} {q : Kd} (h : Good k w v q) (kp : Keeps w w') : Good k w' v q := by
  cases q
  case part p => obtain ⟨v0, v1, v2, v3, e, hp⟩ := h; exact ⟨v0, v1, v2, v3, e, hp.keep kp⟩
  case sl ps => exact SliceAt.keep h kp
  case tup => obtain ⟨r, e, hr⟩ := h; exact ⟨r, e, hr.keep kp⟩
  case res => exact Res.keep h kp
  all_goals exact h
def MapOK (listed : Array Bool) (w : World) (es : Array MapEntry) : Prop :=
  (∀ x ∈ es.toList, ∃ e ∈ insT, x.key = .int .i64 e.1 ∧ listed.getD e.2.1 false = true ∧ SliceAt w x.val e.2.2) ∧ (∀ e ∈ insT, listed.getD e.2.1 false = true → ∃ x ∈ es.toList, x.key = .int .i64 e.1)
structure Inv (k : Int) (W0 : World) (T0 : Array Value) (listed : Array Bool) (a : Act) (w : World) : Prop where
  ls : listed.size = 60
  ts : a.tmps.size = 63
  df : a.defers = []
  old : ∀ s, s < 11 → a.tmps.getD s undef = T0.getD s undef
  bel : Below W0.heap.size W0 w
  val : ∀ i d : Nat, listed.getD i false = true → dstT[i]? = some (some d) → Good k w (a.tmps.getD d undef) (kdT.getD i .mk)
  dep : ∀ e ∈ insT, listed.getD e.2.1 false = true → listed.getD 0 false = true
  d52 : listed.getD 52 false = true → listed.getD 0 false = true ∧ ∀ e ∈ insT, listed.getD e.2.1 false = true
  mp : listed.getD 0 false = true → ∃ g es c, a.tmps.getD 21 undef = .map (some g) ∧ W0.heap.size ≤ g ∧ w.heap[g]? = some (.map es c) ∧ MapOK listed w es ∧ (listed.getD 52 false = true → a.tmps.getD 56 undef = .map (some g))
theorem getD_set {α : Type} (a : Array α) (d s : Nat) (v x : α) (hd : d < a.size) : (a.setIfInBounds d v).getD s x = if s = d then v else a.getD s x := by
  by_cases h : s = d
  · subst h
    simp [hd]
  · rw [if_neg h]
    simp [Array.getD_eq_getD_getElem?, Array.getElem?_setIfInBounds, Ne.symm h]
theorem set_same {listed : Array Bool} {i : Nat} (hi : i < listed.size) : (listed.setIfInBounds i true).getD i false = true := by rw [getD_set _ _ _ _ _ hi, if_pos rfl]
theorem set_other {listed : Array Bool} {i j : Nat} (hi : i < listed.size) (hne : j ≠ i) : (listed.setIfInBounds i true).getD j false = listed.getD j false := by rw [getD_set _ _ _ _ _ hi, if_neg hne]
set_option maxRecDepth 100000 in
theorem dst_bd : ∀ i d : Nat, dstT[i]? = some (some d) → 11 ≤ d ∧ d < 63 := by
  intro i d h
  have hm : some d ∈ dstT := List.mem_of_getElem? h
  have : ∀ x ∈ dstT, ∀ d, x = some d → 11 ≤ d ∧ d < 63 := by
    have hb : (dstT.all fun x => match x with | some d => decide (11 ≤ d ∧ d < 63) | none => true) = true := by decide
    intro x hx d e
    have := List.all_eq_true.1 hb x hx
    subst e
    simpa using this
  exact this _ hm _ rfl
def nodupB : List (Option Nat) → Bool
  | [] => true
  | none :: r => nodupB r
  | some d :: r => !r.contains (some d) && nodupB r
theorem nodup_at : ∀ (l : List (Option Nat)), nodupB l = true → ∀ i j d : Nat, l[i]? = some (some d) → l[j]? = some (some d) → i = j
  | [], _, i, j, d, h, _ => by simp at h
  | x :: r, hn, i, j, d, h, h' => by
    have hr : nodupB r = true := by cases x <;> simp [nodupB] at hn <;> first | exact hn | exact hn.2
    cases i with
    | zero =>
      cases j with
      | zero => rfl
      | succ j =>
        simp at h; subst h
        simp at h'
        simp [nodupB] at hn
        exact absurd (List.mem_of_getElem? h') hn.1
    | succ i =>
      cases j with
      | zero =>
        simp at h'; subst h'
        simp at h
        simp [nodupB] at hn
        exact absurd (List.mem_of_getElem? h) hn.1
      | succ j =>
        have := nodup_at r hr i j d (by simpa using h) (by simpa using h')
        omega
set_option maxRecDepth 100000 in
theorem dst_inj {i j d : Nat} (h : dstT[i]? = some (some d)) (h' : dstT[j]? = some (some d)) : i = j := nodup_at dstT (by decide) i j d h h'
set_option maxRecDepth 100000 in
theorem ins_inj : ∀ e ∈ insT, ∀ e' ∈ insT, (e.1 = e'.1 ∨ e.2.1 = e'.2.1) → e = e' := by decide
set_option maxRecDepth 100000 in
theorem ins_key : ∀ e ∈ insT, ptsK e.1 = some e.2.2 := by decide
set_option maxRecDepth 100000 in
theorem ins_bd : ∀ e ∈ insT, 0 < e.2.1 ∧ e.2.1 < 52 := by decide
theorem ptsK_ins {k : Int} {ps : List Pt} (h : ptsK k = some ps) : ∃ i, (k, i, ps) ∈ insT := by
  have key : ∀ (l : List (Int × Nat × List Pt)), (l.map fun e => (e.1, e.2.2)).lookup k = some ps → ∃ i, (k, i, ps) ∈ l := by
    intro l
    induction l with
    | nil => intro h; simp at h
    | cons e r ih =>
      intro h
      simp only [List.map_cons, List.lookup_cons] at h
      split at h
      · rename_i hk
        have hk := eq_of_beq hk
        injection h with h
        exact ⟨e.2.1, by rw [hk, ← h]; exact List.mem_cons_self⟩
      · obtain ⟨i, hi⟩ := ih h
        exact ⟨i, List.mem_cons_of_mem _ hi⟩
  exact key insT h
section
variable {k : Int} {W0 : World} {T0 : Array Value} {listed : Array Bool} {a : Act} {w w' : World}
theorem Inv.put (I : Inv k W0 T0 listed a w) {i d : Nat} {v : Value} (hl : listed.getD i true = false) (hd : dstT[i]? = some (some d)) (h0 : i ≠ 0) (hb : Below w.heap.size w w') (hg : Good k w' v (kdT.getD i .mk))
    (h52 : i = 52 → v = a.tmps.getD 21 undef ∧ listed.getD 0 false = true ∧ ∀ e ∈ insT, listed.getD e.2.1 false = true) (hni : ∀ e ∈ insT, e.2.1 ≠ i) : Inv k W0 T0 (listed.setIfInBounds i true) (a.put (some d) v) w' := by
  have hi : i < listed.size := by
    rcases Nat.lt_or_ge i listed.size with h | h
    · exact h
    · simp [Array.getD, Nat.not_lt.mpr h] at hl
  obtain ⟨hd1, hd2⟩ := dst_bd i d hd
  have hdt : d < a.tmps.size := by rw [I.ts]; exact hd2
  have hdo : ∀ s, s ≠ d → (a.put (some d) v).tmps.getD s undef = a.tmps.getD s undef := fun s hs => by
    show (a.tmps.setIfInBounds d v).getD s undef = _
    rw [getD_set _ _ _ _ _ hdt, if_neg hs]
  have hdd : (a.put (some d) v).tmps.getD d undef = v := by
    show (a.tmps.setIfInBounds d v).getD d undef = _
    rw [getD_set _ _ _ _ _ hdt, if_pos rfl]
  have kp := keeps_below hb
  refine ⟨by simp [I.ls], by show (a.tmps.setIfInBounds d v).size = 63; simp [I.ts], I.df, fun s hs => ?_, thenB I.bel hb, fun j e hj he => ?_, fun e he hx => ?_, fun h => ?_, fun h => ?_⟩
  · rw [hdo s (by omega)]; exact I.old s hs
  · by_cases hji : j = i
    · subst hji
      obtain rfl : e = d := by rw [hd] at he; injection he with he; injection he with he; exact he.symm
      rw [hdd]; exact hg
    · rw [set_other hi hji] at hj
      rw [hdo e (fun h => hji (dst_inj (h ▸ he) hd))]
      exact (I.val j e hj he).keep kp
  · rw [set_other hi (hni e he)] at hx
    rw [set_other hi (Ne.symm h0)]
    exact I.dep e he hx
  · rw [set_other hi (Ne.symm h0)]
    by_cases h2 : i = 52
    · obtain ⟨_, h3, h4⟩ := h52 h2
      exact ⟨h3, fun e he => by rw [set_other hi (hni e he)]; exact h4 e he⟩
    · rw [set_other hi (Ne.symm h2)] at h
      obtain ⟨h3, h4⟩ := I.d52 h
      exact ⟨h3, fun e he => by rw [set_other hi (hni e he)]; exact h4 e he⟩
  · rw [set_other hi (Ne.symm h0)] at h
    obtain ⟨g, es, c, e1, e2, e3, ⟨m1, m2⟩, e4⟩ := I.mp h
    have hgl : g < w.heap.size := (Array.getElem?_eq_some_iff.1 e3).1
    have h21 : d ≠ 21 := fun h9 => h0 (dst_inj hd (by rw [h9]; rfl))
    refine ⟨g, es, c, by rw [hdo 21 (Ne.symm h21)]; exact e1, e2, (hb.block g hgl).trans e3, ⟨fun x hx => ?_, fun e he hx => ?_⟩, fun h9 => ?_⟩
    · obtain ⟨e, he, k1, k2, k3⟩ := m1 x hx
      exact ⟨e, he, k1, by rw [set_other hi (hni e he)]; exact k2, k3.keep kp⟩
    · rw [set_other hi (hni e he)] at hx
      exact m2 e he hx
    · by_cases h2 : i = 52
      · obtain ⟨hv, _⟩ := h52 h2
        obtain rfl : d = 56 := by subst h2; have : dstT[52]? = some (some 56) := rfl; rw [this] at hd; injection hd with hd; injection hd with hd; exact hd.symm
        rw [hdd, hv]; exact e1
      · rw [set_other hi (Ne.symm h2)] at h9
        rw [hdo 56 (fun h8 => h2 (dst_inj (h8 ▸ hd) rfl))]
        exact e4 h9
theorem Inv.mk0 (I : Inv k W0 T0 listed a w) (hl : listed.getD 0 true = false) : Inv k W0 T0 (listed.setIfInBounds 0 true) (a.put (some 21) (.map (some w.heap.size))) (w.alloc (.map #[] 0)) := by
  have hi : 0 < listed.size := by rw [I.ls]; decide
  have hb : Below w.heap.size w (w.alloc (.map #[] 0)) := (Below.refl _ _).alloc (Nat.le_refl _) _
  have hl' : listed.getD 0 false = false := by
    simp only [Array.getD, hi, dite_true] at hl ⊢
    exact hl
  have hdt : 21 < a.tmps.size := by rw [I.ts]; decide
  have hdo : ∀ s, s ≠ 21 → (a.put (some 21) (.map (some w.heap.size))).tmps.getD s undef = a.tmps.getD s undef := fun s hs => by
    show (a.tmps.setIfInBounds 21 _).getD s undef = _
    rw [getD_set _ _ _ _ _ hdt, if_neg hs]
  have hdd : (a.put (some 21) (.map (some w.heap.size))).tmps.getD 21 undef = .map (some w.heap.size) := by
    show (a.tmps.setIfInBounds 21 _).getD 21 undef = _
    rw [getD_set _ _ _ _ _ hdt, if_pos rfl]
  have hno : ∀ e ∈ insT, listed.getD e.2.1 false = true → False := fun e he hx => by have := I.dep e he hx; rw [hl'] at this; cases this
  refine ⟨by simp [I.ls], by show (a.tmps.setIfInBounds 21 _).size = 63; simp [I.ts], I.df, fun s hs => ?_, thenB I.bel hb, fun j e hj he => ?_, fun e he hx => set_same hi, fun h => ?_, fun h => ?_⟩
  · rw [hdo s (by omega)]; exact I.old s hs
  · by_cases hji : j = 0
    · subst hji; exact trivial
    · rw [set_other hi hji] at hj
      rw [hdo e (fun h => hji (dst_inj (h ▸ he) rfl))]
      exact (I.val j e hj he).keep (keeps_below hb)
  · rw [set_other hi (by decide)] at h
    have := (I.d52 h).1
    rw [hl'] at this; cases this
  · refine ⟨w.heap.size, #[], 0, hdd, I.bel.size, (MapKept.heap_alloc w _).1, ⟨fun x hx => by simp at hx, fun e he hx => ?_⟩, fun h9 => ?_⟩
    · rw [set_other hi (by have := (ins_bd e he).1; omega)] at hx
      exact (hno e he hx).elim
    · rw [set_other hi (by decide)] at h9
      have := (I.d52 h9).1
      rw [hl'] at this; cases this
theorem Inv.ins (I : Inv k W0 T0 listed a w) {i : Nat} {key : Int} {ps : List Pt} {V : Value} (hl : listed.getD i true = false) (he : (key, i, ps) ∈ insT) (h0 : listed.getD 0 false = true) (hs : SliceAt w V ps) :
    ∃ g es c, a.tmps.getD 21 undef = .map (some g) ∧ w.heap[g]? = some (.map es c) ∧ Instr.findNow (.int .i64) (.int .i64 key) es.toList 0 = some none ∧
      Inv k W0 T0 (listed.setIfInBounds i true) a { w with heap := w.heap.setIfInBounds g (.map (es.push { key := .int .i64 key, val := V, born := c }) (c + 1)) } := by
  obtain ⟨g, es, c, e1, e2, e3, ⟨m1, m2⟩, e4⟩ := I.mp h0
  obtain ⟨hb1, hb2⟩ := ins_bd _ he
  simp only at hb1 hb2
  have hi : i < listed.size := by rw [I.ls]; omega
  have hl' : listed.getD i false = false := by
    simp only [Array.getD, hi, dite_true] at hl ⊢
    exact hl
  have hfree : ∀ x ∈ es.toList, x.key ≠ .int .i64 key := fun x hx hk => by
    obtain ⟨e, he', k1, k2, _⟩ := m1 x hx
    rw [hk] at k1
    injection k1 with _ k1
    have := ins_inj _ he _ he' (.inl k1)
    subst this
    rw [hl'] at k2; cases k2
  have hks : ∀ x ∈ es.toList, IsKey (.int .i64) x.key := fun x hx => by
    obtain ⟨e, _, k1, _⟩ := m1 x hx
    rw [k1]; exact rfl
  have hfn : Instr.findNow (.int .i64) (.int .i64 key) es.toList 0 = some none := by
    rcases findNow_spec (d := .int .i64) (k := .int .i64 key) rfl es.toList 0 hks with ⟨h1, _⟩ | ⟨j, e, h1, h2, h3⟩
    · exact h1
    · exact absurd h3 (hfree e (List.mem_of_getElem? h2))
  have hgl : g < w.heap.size := (Array.getElem?_eq_some_iff.1 e3).1
  refine ⟨g, es, c, e1, e3, hfn, ?_⟩
  have kp : Keeps w { w with heap := w.heap.setIfInBounds g (.map (es.push { key := .int .i64 key, val := V, born := c }) (c + 1)) } := fun b t cs ht hb => by
    have hne : b ≠ g := by
      rintro rfl
      unfold Blk at hb
      rw [e3] at hb; cases hb
    unfold Blk at hb ⊢
    rw [← hb]
    exact (heap_set e3).2 b hne
  have hbel : Below W0.heap.size W0 { w with heap := w.heap.setIfInBounds g (.map (es.push { key := .int .i64 key, val := V, born := c }) (c + 1)) } :=
    ⟨I.bel.os, I.bel.tape, I.bel.output, by simpa using I.bel.size, fun b hb => ((heap_set e3).2 b (by omega)).trans (I.bel.block b hb)⟩
  have hne52 : (52 : Nat) ≠ i := by omega
  have hne0 : (0 : Nat) ≠ i := by omega
  refine ⟨by simp [I.ls], I.ts, I.df, I.old, hbel, fun j d hj hd => ?_, fun e he' hx => by rw [set_other hi hne0]; exact h0, fun h => ?_, fun h => ?_⟩
  · by_cases hji : j = i
    · subst hji
      have hnone : ∀ e ∈ insT, dstT[e.2.1]? = some none := by decide
      have := hnone _ he
      simp only at this
      rw [this] at hd; cases hd
    · rw [set_other hi hji] at hj
      exact (I.val j d hj hd).keep kp
  · rw [set_other hi hne52] at h
    have := (I.d52 h).2 _ he
    simp only at this
    rw [hl'] at this; cases this
  · refine ⟨g, es.push { key := .int .i64 key, val := V, born := c }, c + 1, e1, e2, (heap_set e3).1, ⟨fun x hx => ?_, fun e he' hx => ?_⟩, fun h9 => by rw [set_other hi hne52] at h9; exact e4 h9⟩
    · rw [Array.toList_push, List.mem_append] at hx
      rcases hx with hx | hx
      · obtain ⟨e, he', k1, k2, k3⟩ := m1 x hx
        refine ⟨e, he', k1, ?_, k3.keep kp⟩
        by_cases hei : e.2.1 = i
        · rw [hei]; exact set_same hi
        · rw [set_other hi hei]; exact k2
      · simp at hx; subst hx
        exact ⟨_, he, rfl, set_same hi, hs.keep kp⟩
    · rw [Array.toList_push]
      by_cases hei : e.2.1 = i
      · obtain rfl := ins_inj _ he' _ he (.inr hei)
        exact ⟨_, List.mem_append_right _ (List.mem_singleton.2 rfl), rfl⟩
      · rw [set_other hi hei] at hx
        obtain ⟨x, hx1, hx2⟩ := m2 e he' hx
        exact ⟨x, List.mem_append_left _ hx1, hx2⟩
/-- What a key finds when all entries are laid. -/
theorem Inv.look (I : Inv k W0 T0 listed a w) (h52 : listed.getD 52 false = true) : ∃ g es c, a.tmps.getD 56 undef = .map (some g) ∧ w.heap[g]? = some (.map es c) ∧
    ((∃ j v, Instr.findNow (.int .i64) (.int .i64 k) es.toList 0 = some (some (j, v)) ∧ (ptsK k).isSome = true ∧ Res k w v) ∨ (Instr.findNow (.int .i64) (.int .i64 k) es.toList 0 = some none ∧ (ptsK k).isSome = false ∧ Res k w (.slice none 0 0))) := by
  obtain ⟨h0, hall⟩ := I.d52 h52
  obtain ⟨g, es, c, e1, e2, e3, ⟨m1, m2⟩, e4⟩ := I.mp h0
  refine ⟨g, es, c, e4 h52, e3, ?_⟩
  have hks : ∀ x ∈ es.toList, IsKey (.int .i64) x.key := fun x hx => by
    obtain ⟨e, _, k1, _⟩ := m1 x hx
    rw [k1]; exact rfl
  rcases findNow_spec (d := .int .i64) (k := .int .i64 k) rfl es.toList 0 hks with ⟨h1, h2⟩ | ⟨j, e, h1, h2, h3⟩
  · right
    have hn : ptsK k = none := by
      cases hk : ptsK k with
      | none => rfl
      | some ps =>
        obtain ⟨i, hi⟩ := ptsK_ins hk
        obtain ⟨x, hx1, hx2⟩ := m2 _ hi (hall _ hi)
        exact absurd hx2 (h2 x hx1)
    exact ⟨h1, by rw [hn]; rfl, by unfold Res; rw [hn]⟩
  · left
    obtain ⟨q, hq, k1, k2, k3⟩ := m1 e (List.mem_of_getElem? h2)
    rw [h3] at k1
    injection k1 with _ k1
    have hp : ptsK k = some q.2.2 := by rw [k1]; exact ins_key q hq
    exact ⟨0 + j, e.val, h1, by rw [hp]; rfl, by unfold Res; rw [hp]; exact k3⟩
end
end Go.Proofs.Ytpoagepchlfemaa.Cp
