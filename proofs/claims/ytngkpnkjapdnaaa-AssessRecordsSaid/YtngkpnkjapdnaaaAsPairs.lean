/- Words for memory: a slice that reads as a list of pairs of integers; append and copy of one onto a row of the call's own. No program is mentioned. -/
import Derived.Test.YtngkpnkjapdnaaaMem
import Derived.Laws.CopyRow
import Derived.Laws.OwnMore
set_option linter.unusedVariables false
set_option linter.unusedSimpArgs false
namespace Go.Proofs.Ytngkpnkjapdnaaa.As
open Go.RowKit Mem

/-- The slice that begins at A reads the pairs fs, and lies in a block below B. -/
def PairsAt (w : World) (B : Nat) (A : Option Addr) (fs : List (Int × Int)) : Prop :=
  fs = [] ∨ ∃ b off, A = some ⟨b, off, none⟩ ∧ b < B ∧ ∀ j f, fs[j]? = some f → w.cell? ⟨b, off + j * 2, none⟩ = some (.int .i64 f.1) ∧ w.cell? ⟨b, off + j * 2 + 1, none⟩ = some (.int .i64 f.2)
theorem PairsAt.below {w w' : World} {B : Nat} {A : Option Addr} {fs : List (Int × Int)} (h : PairsAt w B A fs) (hb : Below B w w') : PairsAt w' B A fs := by
  rcases h with h | ⟨b, off, e, hlt, hc⟩
  · exact .inl h
  · exact .inr ⟨b, off, e, hlt, fun j p hj => ⟨(hb.cell (p := ⟨b, off + j * 2, none⟩) hlt).trans (hc j p hj).1, (hb.cell (p := ⟨b, off + j * 2 + 1, none⟩) hlt).trans (hc j p hj).2⟩⟩
theorem PairsAt.more {w : World} {B B' : Nat} {A : Option Addr} {fs : List (Int × Int)} (h : PairsAt w B A fs) (hB : B ≤ B') : PairsAt w B' A fs := by
  rcases h with h | ⟨b, off, e, hlt, hc⟩
  · exact .inl h
  · exact .inr ⟨b, off, e, by omega, hc⟩
theorem PairsAt.alloc {w : World} {B : Nat} {A : Option Addr} {fs : List (Int × Int)} (h : PairsAt w B A fs) (hB : B ≤ w.heap.size) (o : Obj) : PairsAt (w.alloc o) B A fs := h.below ((Below.refl _ _).alloc hB o)
theorem PairsAt.drew {w : World} {B : Nat} {A : Option Addr} {fs : List (Int × Int)} (h : PairsAt w B A fs) : PairsAt w.drew B A fs := h
theorem PairsAt.later {w w' : World} {A : Option Addr} {fs : List (Int × Int)} (h : PairsAt w w.heap.size A fs) (hb : Below w.heap.size w w') : PairsAt w' w'.heap.size A fs := (h.below hb).more hb.size
theorem PairsAt.at_ {w : World} {B : Nat} {A : Option Addr} {fs : List (Int × Int)} {i : Nat} (h : PairsAt w B A fs) (hi : i < fs.length) :
    ∃ b off, A = some ⟨b, off, none⟩ ∧ b < B ∧ ∀ j f, fs[j]? = some f → w.cell? ⟨b, off + j * 2, none⟩ = some (.int .i64 f.1) ∧ w.cell? ⟨b, off + j * 2 + 1, none⟩ = some (.int .i64 f.2) := by
  rcases h with rfl | h
  · simp at hi
  · exact h
/-- The cells of pairs. -/
def flat : List (Int × Int) → List Value
  | [] => []
  | f :: r => .int .i64 f.1 :: .int .i64 f.2 :: flat r
theorem flat_len (fs : List (Int × Int)) : (flat fs).length = fs.length * 2 := by
  induction fs with
  | nil => rfl
  | cons f r ih => simp [flat, ih]; omega
theorem flat_one (fs : List (Int × Int)) : ∀ u ∈ flat fs, u.oneCell' = true := by
  induction fs with
  | nil => intro u hu; cases hu
  | cons f r ih =>
    intro u hu
    simp only [flat, List.mem_cons] at hu
    rcases hu with rfl | rfl | hu
    · rfl
    · rfl
    · exact ih u hu
theorem flat_append (fs gs : List (Int × Int)) : flat (fs ++ gs) = flat fs ++ flat gs := by
  induction fs with
  | nil => rfl
  | cons f r ih => simp [flat, ih]
theorem flat_get (fs : List (Int × Int)) (j : Nat) (f : Int × Int) (h : fs[j]? = some f) : (flat fs)[j * 2]? = some (.int .i64 f.1) ∧ (flat fs)[j * 2 + 1]? = some (.int .i64 f.2) := by
  induction fs generalizing j with
  | nil => simp at h
  | cons g r ih =>
    cases j with
    | zero => simp at h; subst h; exact ⟨rfl, rfl⟩
    | succ j =>
      have := ih j (by simpa using h)
      rw [show (j + 1) * 2 = j * 2 + 1 + 1 by omega]
      simp only [flat, List.getElem?_cons_succ]
      exact this
theorem flat_set (fs : List (Int × Int)) (j : Nat) (f : Int × Int) (h : fs[j]? = some f) (x : Int) :
    (flat fs).set (j * 2) (.int .i64 x) = flat (fs.set j (x, f.2)) ∧ (flat fs).set (j * 2 + 1) (.int .i64 x) = flat (fs.set j (f.1, x)) := by
  induction fs generalizing j with
  | nil => simp at h
  | cons g r ih =>
    cases j with
    | zero => simp at h; subst h; exact ⟨rfl, rfl⟩
    | succ j =>
      have := ih j (by simpa using h)
      rw [show (j + 1) * 2 = j * 2 + 1 + 1 by omega]
      simp only [flat, List.set_cons_succ]
      exact ⟨by rw [this.1], by rw [this.2]⟩
theorem flat_at {w : World} {b off : Nat} {fs : List (Int × Int)} (hc : ∀ j f, fs[j]? = some f → w.cell? ⟨b, off + j * 2, none⟩ = some (.int .i64 f.1) ∧ w.cell? ⟨b, off + j * 2 + 1, none⟩ = some (.int .i64 f.2)) :
    ∀ j u, (flat fs)[j]? = some u → w.cell? ⟨b, off + j, none⟩ = some u := by
  intro j u hu
  have hj : j < fs.length * 2 := by
    rcases Nat.lt_or_ge j (fs.length * 2) with h | h
    · exact h
    · rw [List.getElem?_eq_none (by rw [flat_len]; exact h)] at hu; cases hu
  have hq : j / 2 < fs.length := by omega
  have hf : fs[j / 2]? = some (fs[j / 2]'hq) := List.getElem?_eq_getElem hq
  have hg := flat_get fs (j / 2) _ hf
  have hh := hc (j / 2) _ hf
  rcases Nat.mod_two_eq_zero_or_one j with h | h
  · have e : j = j / 2 * 2 := by omega
    rw [e] at hu ⊢
    rw [hg.1] at hu
    rw [← hu]; exact hh.1
  · have e : j = j / 2 * 2 + 1 := by omega
    rw [e] at hu ⊢
    rw [hg.2] at hu
    rw [← hu, ← Nat.add_assoc]; exact hh.2
theorem plain_add (b off i : Nat) : (⟨b, off, none⟩ : Addr).add i = ⟨b, off + i, none⟩ := by
  unfold Addr.add
  by_cases h0 : i = 0
  · simp [h0]
  · simp [h0]
/-- A row of the call's own that holds pairs. -/
theorem PairsAt.own {w : World} {base n c : Nat} {e : TypeId} {A : Option Addr} {fs : List (Int × Int)} (h : w.ownsRow base e 2 (.slice A n c) n (flat fs)) : PairsAt w w.heap.size A fs ∧ fs.length = n := by
  have hl : fs.length = n := by have := h.1; rw [flat_len] at this; omega
  refine ⟨?_, hl⟩
  rcases h.2 with ⟨hv, hn⟩ | ⟨g, cap, cur, hv, hbg, hg, hnc, hcm, hcs, htake⟩
  · left; rw [hn] at hl; exact List.eq_nil_of_length_eq_zero hl
  · right
    injection hv with hA hn hc
    subst hA
    have hlt : g < w.heap.size := by
      rcases Nat.lt_or_ge g w.heap.size with hlt | hge
      · exact hlt
      · rw [Array.getElem?_eq_none hge] at hg; cases hg
    refine ⟨g, 0, rfl, hlt, fun j f hj => ?_⟩
    have hg2 := flat_get fs j f hj
    have h1 := h.cells (g := g) rfl (j * 2) _ hg2.1
    have h2 := h.cells (g := g) rfl (j * 2 + 1) _ hg2.2
    rw [plain_add] at h1 h2
    exact ⟨h1, by rw [Nat.add_assoc]; exact h2⟩
/-- A new block of some pairs, as the model lays a literal. -/
theorem PairsAt.lit (w : World) (fs : List (Int × Int)) (cs : Array Value) (e : TypeId) (h : cs = (flat fs).toArray) : PairsAt (w.alloc (.cells cs e)) (w.alloc (.cells cs e)).heap.size (some ⟨w.heap.size, 0, none⟩) fs := by
  right
  refine ⟨w.heap.size, 0, rfl, by simp, fun j f hj => ?_⟩
  have hg := flat_get fs j f hj
  rw [World.cell?_alloc_at _ _ _ _ rfl, World.cell?_alloc_at _ _ _ _ rfl, h]
  simp only [List.getElem?_toArray, Nat.zero_add]
  exact hg
section
variable {P : Program} {w : World}
theorem run_append_pairs (base : Nat) (t ty e : TypeId) (i : TypeInfo) (z : Value) (bytes : Nat) (ht : P.underlying t = some (.slice e)) (hi : P.info? e = some i) (hz : i.zero = some z)
    (hsize : i.size = 2) (hby : i.bytes = bytes) (hzs : z.cells.size = 2)
    (v : Value) (n : Nat) (xs : List Value) (hown : w.ownsRow base e 2 v n xs)
    (B : Nat) (A : Option Addr) (m c : Nat) (fs : List (Int × Int)) (hm : fs.length = m) (hr : PairsAt w B A fs)
    (h63 : n + m ≤ maxLen) (hbytes : (n + m) * bytes ≤ 140737488355328) (hbase : base ≤ w.heap.size) :
    ∃ v' w', (Builtin.append_ #[t, t] ty #[v, .slice A m c]).run P w = .ok v' w' ∧ w'.ownsRow base e 2 v' (n + m) (xs ++ flat fs) ∧ w.grownBy w' v.ownBlock := by
  have go : ∀ ad : Addr, (∀ j u, (flat fs)[j]? = some u → w.cell? (ad.add j) = some u) →
      ∃ v' w', (Builtin.append_ #[t, t] ty #[v, .slice (some ad) m c]).run P w = .ok v' w' ∧ w'.ownsRow base e 2 v' (n + m) (xs ++ flat fs) ∧ w.grownBy w' v.ownBlock := fun ad hc => by
    obtain ⟨v', w', h2, h3, h4, _⟩ := run_append_own (P := P) w base t ty e i z 2 bytes ht hi hz hsize hby hzs (by decide) v n xs hown ad m c (flat fs) (by rw [flat_len, hm]) hc (flat_one fs) h63 hbytes hbase
    exact ⟨v', w', h2, h3, h4⟩
  rcases hr with hnil | ⟨b, off, rfl, _, hc⟩
  · subst hnil
    have hm0 : m = 0 := by simpa using hm.symm
    subst hm0
    cases A with
    | none =>
      refine ⟨v, w, ?_, by simpa [flat] using hown, World.grownBy.refl w _⟩
      rcases hown.2 with ⟨rfl, rfl⟩ | ⟨g, cap, cur, rfl, _, _, hnc, _⟩
      · simp [Builtin.append_, run_underlying ht, sizeOf, typeInfo, hi, Builtin.lenOf, Builtin.firstCells]
      · simp [Builtin.append_, run_underlying ht, sizeOf, typeInfo, hi, Builtin.lenOf, Builtin.firstCells, hnc, storeCells]
    | some ad => exact go ad (by simp [flat])
  · refine go _ fun j u hu => ?_
    rw [plain_add]; exact flat_at hc j u hu
theorem wpList_append_pairs {ops : Array Oper} {rest : List Oper} {o : Oper} {a : Act} {Q : Exit → Act → World → Prop} (hgd : o.guard = none) (s x : Operand) (t : TypeId)
    (ho : o.op = .call { callee := .builtin .append, args := #[s, x], argTypes := #[t, t] })
    (base : Nat) (e : TypeId) (i : TypeInfo) (z : Value) (bytes : Nat) (ht : P.underlying t = some (.slice e)) (hi : P.info? e = some i) (hz : i.zero = some z)
    (hsize : i.size = 2) (hby : i.bytes = bytes) (hzs : z.cells.size = 2)
    (v : Value) (n : Nat) (xs : List Value) (hs : a.eval s = v) (hown : w.ownsRow base e 2 v n xs)
    (B : Nat) (A : Option Addr) (m c : Nat) (fs : List (Int × Int)) (hx : a.eval x = .slice A m c) (hm : fs.length = m) (hr : PairsAt w B A fs)
    (h63 : n + m ≤ maxLen) (hbytes : (n + m) * bytes ≤ 140737488355328) (hbase : base ≤ w.heap.size)
    (h : ∀ v' w', w'.ownsRow base e 2 v' (n + m) (xs ++ flat fs) → Below base w w' → w.grownBy w' v.ownBlock → wpList P ops Q rest (a.put o.dst v') w') : wpList P ops Q (o :: rest) a w := by
  refine wpList_plain hgd fun K hK => ?_
  obtain ⟨v', w', hrun, h2, h3⟩ := run_append_pairs (P := P) base t o.type e i z bytes ht hi hz hsize hby hzs v n xs hown B A m c fs hm hr h63 hbytes hbase
  unfold Oper.wp execOp
  simp only [ho, resolve, invoke, builtin, Sem.run_bind, Sem.run_pure, Result.andThen_ok, List.map_toArray, List.map_cons, List.map_nil, hs, hx, hrun]
  exact hK _ _ (h v' w' h2 ((Below.refl base w).grown h3 hbase fun g hg => (hown.lt g hg).1) h3)
/-- The same as one step of a region that draws its order. -/
theorem step_append_pairs {ops : Array Oper} {o : Oper} {a : Act} {K : Act → World → Prop} {Q : Exit → Act → World → Prop} {E : Prop} (hgd : o.guard = none) (s x : Operand) (t : TypeId)
    (ho : o.op = .call { callee := .builtin .append, args := #[s, x], argTypes := #[t, t] })
    (base : Nat) (e : TypeId) (i : TypeInfo) (z : Value) (bytes : Nat) (ht : P.underlying t = some (.slice e)) (hi : P.info? e = some i) (hz : i.zero = some z)
    (hsize : i.size = 2) (hby : i.bytes = bytes) (hzs : z.cells.size = 2)
    (v : Value) (n : Nat) (xs : List Value) (hs : a.eval s = v) (hown : w.ownsRow base e 2 v n xs)
    (B : Nat) (A : Option Addr) (m c : Nat) (fs : List (Int × Int)) (hx : a.eval x = .slice A m c) (hm : fs.length = m) (hr : PairsAt w B A fs)
    (h63 : n + m ≤ maxLen) (hbytes : (n + m) * bytes ≤ 140737488355328) (hbase : base ≤ w.heap.size)
    (h : ∀ v' w', w'.ownsRow base e 2 v' (n + m) (xs ++ flat fs) → Below base w w' → w.grownBy w' v.ownBlock → K (a.put o.dst v') w') :
    if Region.wanted o (yielded ops a.tmps) = true then Oper.wp P o a w K Q else E := by
  have hw : Region.wanted o (yielded ops a.tmps) = true := by simp [Region.wanted, hgd]
  rw [if_pos hw]
  obtain ⟨v', w', hrun, h2, h3⟩ := run_append_pairs (P := P) base t o.type e i z bytes ht hi hz hsize hby hzs v n xs hown B A m c fs hm hr h63 hbytes hbase
  unfold Oper.wp execOp
  simp only [ho, resolve, invoke, builtin, Sem.run_bind, Sem.run_pure, Result.andThen_ok, List.map_toArray, List.map_cons, List.map_nil, hs, hx, hrun]
  exact h v' w' h2 ((Below.refl base w).grown h3 hbase fun g hg => (hown.lt g hg).1) h3
/-- 'copy' of cells of elements of any size onto a block that is known whole. -/
theorem run_copy_many (w : World) (dT sT ty elem : TypeId) (g o dLen dCap : Nat) (a : Addr) (sLen sCap size : Nat) (cur : Array Value) (t : TypeId) (cs : List Value)
    (hu : P.underlying dT = some (.slice elem)) (hs : (P.info? elem).map (·.size) = some size)
    (hg : w.heap[g]? = some (.cells cur t (0, 0))) (hn : cs.length = Nat.min sLen dLen * size)
    (hsrc : ∀ j v, cs[j]? = some v → w.cell? (a.add j) = some v) (hfit : o + cs.length ≤ cur.size) (h1 : ∀ v ∈ cs, v.oneCell' = true) :
    (Builtin.copy_ #[dT, sT] ty #[.slice (some ⟨g, o, none⟩) dLen dCap, .slice (some a) sLen sCap]).run P w =
      .ok (goInt (Nat.min sLen dLen)) (w.setRow g (cur.toList.take o ++ cs ++ cur.toList.drop (o + cs.length)).toArray) := by
  have hl := run_loadCells_list (P := P) w a cs hsrc
  have hst := run_storeCells_at P g o t cs 0 cur w hg (by simpa using hfit) h1
  cases hq : P.info? elem with
  | none => simp [hq] at hs
  | some i =>
    have hi : i.size = size := by simpa [hq] using hs
    simp [Builtin.copy_, run_underlying hu, Builtin.lenOf, Builtin.firstCells, sizeOf, typeInfo, hq, hi, ← hn, hl, hst]
/-- The whole of a slice of pairs is copied onto a row of the call's own of the same length. -/
theorem run_copy_pairs (base : Nat) (t e ty : TypeId) (i : TypeInfo) (ht : P.underlying t = some (.slice e)) (hi : P.info? e = some i) (hsize : i.size = 2)
    (g n cap : Nat) (xs : List Value) (hown : w.ownsRow base e 2 (.slice (some ⟨g, 0, none⟩) n cap) n xs)
    (B : Nat) (A : Option Addr) (c : Nat) (fs : List (Int × Int)) (hm : fs.length = n) (hr : PairsAt w B A fs) :
    ∃ w', (Builtin.copy_ #[t, t] ty #[.slice (some ⟨g, 0, none⟩) n cap, .slice A n c]).run P w = .ok (goInt n) w' ∧ w'.ownsRow base e 2 (.slice (some ⟨g, 0, none⟩) n cap) n (flat fs) ∧ w.grownBy w' (some g) := by
  have hs : (P.info? e).map (·.size) = some 2 := by rw [hi]; simp [hsize]
  rcases hown.2 with ⟨hv, _⟩ | ⟨g', cap', cur, hv, hbg, hg, hnc, hcm, hcs, htake⟩
  · simp at hv
  · simp only [Value.slice.injEq, Option.some.injEq, Addr.mk.injEq, and_true, true_and] at hv
    obtain ⟨rfl, rfl⟩ := hv
    have hcur : n * 2 ≤ cur.size := by rw [hcs]; exact Nat.mul_le_mul_right _ hnc
    have hlen : (flat fs).length = n * 2 := by rw [flat_len, hm]
    have go : ∀ ad : Addr, (∀ j u, (flat fs)[j]? = some u → w.cell? (ad.add j) = some u) →
        ∃ w', (Builtin.copy_ #[t, t] ty #[.slice (some ⟨g, 0, none⟩) n cap, .slice (some ad) n c]).run P w = .ok (goInt n) w' ∧ w'.ownsRow base e 2 (.slice (some ⟨g, 0, none⟩) n cap) n (flat fs) ∧ w.grownBy w' (some g) := fun ad hc => by
      have hrun := run_copy_many (P := P) w t t ty e g 0 n cap ad n c 2 cur e (flat fs) ht hs hg (by rw [hlen]; simp [Nat.min_self]) hc (by rw [hlen]; omega) (flat_one fs)
      rw [show Nat.min n n = n from Nat.min_self n] at hrun
      refine ⟨_, hrun, ⟨hlen, .inr ⟨g, cap, _, rfl, hbg, setRow_heap w g cur _ e _ hg, hnc, hcm, ?_, ?_⟩⟩, ⟨rfl, rfl, rfl, by simp [World.setRow], fun k _ hk => setRow_other w g k _ (fun e => hk (by simp [e]))⟩⟩
      · simp only [List.size_toArray, List.length_append, List.length_take, List.length_drop, Array.length_toList]
        omega
      · simp only [List.take_zero, List.nil_append, ← hlen]
        exact List.take_left
    rcases hr with hnil | ⟨b, off, rfl, _, hc⟩
    · subst hnil
      have hn0 : n = 0 := by simpa using hm.symm
      subst hn0
      cases A with
      | none =>
        refine ⟨w, ?_, by simpa [flat] using (show w.ownsRow base e 2 (.slice (some ⟨g, 0, none⟩) 0 cap) 0 [] from ⟨by simp, .inr ⟨g, cap, cur, rfl, hbg, hg, hnc, hcm, hcs, by simp⟩⟩), World.grownBy.refl w _⟩
        simp [Builtin.copy_, run_underlying ht, Builtin.lenOf, Builtin.firstCells, sizeOf, typeInfo, hi, storeCells]
      | some ad => exact go ad (by simp [flat])
    · refine go _ fun j u hu => ?_
      rw [plain_add]; exact flat_at hc j u hu
theorem wpList_copy_pairs {ops : Array Oper} {rest : List Oper} {o : Oper} {a : Act} {Q : Exit → Act → World → Prop} (hgd : o.guard = none) (d s : Operand) (t : TypeId)
    (ho : o.op = .call { callee := .builtin .copy, args := #[d, s], argTypes := #[t, t] })
    (base : Nat) (e : TypeId) (i : TypeInfo) (ht : P.underlying t = some (.slice e)) (hi : P.info? e = some i) (hsize : i.size = 2)
    (g n cap : Nat) (xs : List Value) (hd : a.eval d = .slice (some ⟨g, 0, none⟩) n cap) (hown : w.ownsRow base e 2 (.slice (some ⟨g, 0, none⟩) n cap) n xs)
    (B : Nat) (A : Option Addr) (c : Nat) (fs : List (Int × Int)) (hx : a.eval s = .slice A n c) (hm : fs.length = n) (hr : PairsAt w B A fs)
    (h : ∀ w', w'.ownsRow base e 2 (.slice (some ⟨g, 0, none⟩) n cap) n (flat fs) → w.grownBy w' (some g) → wpList P ops Q rest (a.put o.dst (goInt n)) w') : wpList P ops Q (o :: rest) a w := by
  refine wpList_plain hgd fun K hK => ?_
  obtain ⟨w', hrun, h2, h3⟩ := run_copy_pairs (P := P) base t e o.type i ht hi hsize g n cap xs hown B A c fs hm hr
  unfold Oper.wp execOp
  simp only [ho, resolve, invoke, builtin, Sem.run_bind, Sem.run_pure, Result.andThen_ok, List.map_toArray, List.map_cons, List.map_nil, hd, hx, hrun]
  exact hK _ _ (h w' h2 h3)
end
end Go.Proofs.Ytngkpnkjapdnaaa.As
