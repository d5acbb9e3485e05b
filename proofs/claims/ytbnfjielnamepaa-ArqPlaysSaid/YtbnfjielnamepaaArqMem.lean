/- Packets, queues and rows of packets in memory: what stays of them when memory changes. No function is mentioned. -/
import Derived.Test.YtbnfjielnamepaaArqMath
import Derived.Test.YtbnfjielnamepaaDpArgs
import Derived.Test.YtbnfjielnamepaaDpDec2
import Derived.Test.YtbnfjielnamepaaAirOwn0
import Derived.Maps.AppendAt
set_option linter.unusedVariables false
set_option linter.unusedSimpArgs false
namespace Go.Proofs.Ytbnfjielnamepaa.Arq
open Go.RowKit Mem Oct Rw Av Dp

/-- Only block g, of type t, and new blocks differ. -/
structure Stp (w w' : World) (g : Nat) (t : TypeId) : Prop where
  gr : w.grownBy w' (some g)
  ty : ∃ cs, Blk w g t cs
theorem Stp.blk {w w' : World} {g : Nat} {t : TypeId} (h : Stp w w' g t) {b : Nat} {t' : TypeId} {cs : Array Value} (hb : Blk w b t' cs) (hne : t' ≠ t) : Blk w' b t' cs := by
  have : b ≠ g := by
    rintro rfl
    obtain ⟨c2, h2⟩ := h.ty
    unfold Blk at hb h2
    rw [hb] at h2
    injection h2 with h2
    injection h2 with _ h2
    exact hne h2
  unfold Blk at hb ⊢
  rw [h.gr.block b (Blk.lt hb) (by simpa using this)]; exact hb
theorem Stp.blk_ne {w w' : World} {g : Nat} {t : TypeId} (h : Stp w w' g t) {b : Nat} {t' : TypeId} {cs : Array Value} (hb : Blk w b t' cs) (hne : b ≠ g) : Blk w' b t' cs := by
  unfold Blk at hb ⊢
  rw [h.gr.block b (Blk.lt hb) (by simpa using hne)]; exact hb
theorem stp_row {w : World} {g : Nat} {t : TypeId} {old : Array Value} (h : Blk w g t old) (cs : Array Value) : Stp w (w.setRow g cs) g t :=
  ⟨⟨rfl, rfl, rfl, by rw [size_setRow]; exact Nat.le_refl _, fun k _ hk => setRow_other w g k cs (fun e => hk (by rw [e]))⟩, ⟨_, h⟩⟩
theorem stp_cell {w : World} {g i : Nat} {t : TypeId} {old : Array Value} (h : Blk w g t old) (x : Value) : Stp w (w.setCell ⟨g, i, none⟩ x) g t :=
  ⟨⟨rfl, rfl, rfl, by simp, fun k _ hk => Below.heap_setCell w ⟨g, i, none⟩ x k (fun e => hk (by simpa using e))⟩, ⟨_, h⟩⟩

/-- Cells read from a block of type t that is not older than m. -/
def TB (w : World) (t : TypeId) (m : Nat) (A : Option Addr) (ys : List Value) : Prop :=
  ys = [] ∨ ∃ b off cs, A = some ⟨b, off, none⟩ ∧ m ≤ b ∧ Blk w b t cs ∧ ∀ (q : Nat) u, ys[q]? = some u → cs[off + q]? = some u
section
variable {w w' : World} {t : TypeId} {m m' o o' : Nat} {A : Option Addr} {ys : List Value}
theorem TB.below (h : TB w t m A ys) (hb : Below w.heap.size w w') : TB w' t m A ys := by
  rcases h with h | ⟨b, off, cs, e, hm, hk, hc⟩
  · exact .inl h
  · exact .inr ⟨b, off, cs, e, hm, hk.below hb hk.lt, hc⟩
theorem TB.less (h : TB w t m A ys) (hm : m' ≤ m) : TB w t m' A ys := by
  rcases h with h | ⟨b, off, cs, e, hm', hk, hc⟩
  · exact .inl h
  · exact .inr ⟨b, off, cs, e, by omega, hk, hc⟩
theorem TB.cells (h : TB w t m A ys) : CellsAt w w.heap.size A ys := by
  rcases h with h | ⟨b, off, cs, e, hm, hk, hc⟩
  · exact .inl h
  · exact .inr ⟨b, off, e, hk.lt, fun q u hq => by rw [hk.cell]; exact hc q u hq⟩
theorem TB.own {base n c k : Nat} (h : w.ownsRow base t k (.slice A n c) n ys) : TB w t base A ys := by
  rcases h.2 with ⟨hv, hn⟩ | ⟨g, cap, cur, hv, hbg, hg, hnc, hcm, hcs, htake⟩
  · left
    have := h.1
    subst hn
    simpa using this
  · injection hv with hA hn hc
    refine .inr ⟨g, 0, cur, hA, hbg, hg, fun q u hq => ?_⟩
    rw [← htake, List.getElem?_take] at hq
    split at hq
    · simpa using hq
    · cases hq
theorem TB.step {g : Nat} {t' : TypeId} (h : TB w t m A ys) (hs : Stp w w' g t') (hne : t ≠ t') : TB w' t m A ys := by
  rcases h with h | ⟨b, off, cs, e, hm, hk, hc⟩
  · exact .inl h
  · exact .inr ⟨b, off, cs, e, hm, hs.blk hk hne, hc⟩
theorem TB.step_ne {g : Nat} {t' : TypeId} (h : TB w t m A ys) (hs : Stp w w' g t') (hne : ∀ a, A = some a → a.block ≠ g) : TB w' t m A ys := by
  rcases h with h | ⟨b, off, cs, e, hm, hk, hc⟩
  · exact .inl h
  · exact .inr ⟨b, off, cs, e, hm, hs.blk_ne hk (hne _ e), hc⟩
end
/-- Bytes in a block of bytes, or in one that is older than o. -/
def PB (w : World) (o : Nat) (A : Option Addr) (zs : List Int) : Prop :=
  TB w 5 0 A (zs.map (Value.int .u8)) ∨ (∃ b off, A = some ⟨b, off, none⟩ ∧ b < o ∧ b < w.heap.size ∧ ∀ j, j < zs.length → w.cell? ⟨b, off + j, none⟩ = some (.int .u8 (zs.getD j 0)))
/-- A packet that is read in a world. -/
def GP (w : World) (x : Pm) : Prop := x.v.length ≤ x.c ∧ x.v.length ≤ 140737488351232 ∧ Bytes x.v ∧ Ints .u8 w w.heap.size x.A x.v
/-- A packet with a payload that stores into other blocks leave. -/
def PP (w : World) (o : Nat) (x : Pm) : Prop := x.v.length ≤ x.c ∧ x.v.length ≤ 140737488351232 ∧ Bytes x.v ∧ PB w o x.A x.v
def QI (w : World) (V : Value) (l : List Pm) : Prop := ∃ A c, V = .slice A l.length c ∧ l.length ≤ c ∧ ListAt encK w w.heap.size A l ∧ ∀ x ∈ l, GP w x
def QQ (w : World) (m o : Nat) (V : Value) (l : List Pm) : Prop := (∃ A c, V = .slice A l.length c ∧ l.length ≤ c ∧ TB w 24 m A (l.flatMap encK)) ∧ (∀ x ∈ l, PP w o x) ∧ ∀ g, V.ownBlock = some g → m ≤ g ∧ g < w.heap.size
def RR (w : World) (m o : Nat) (V : Value) (l : List Pm) : Prop := w.ownsRow m 24 2 V l.length (l.flatMap encK) ∧ ∀ x ∈ l, PP w o x
section
variable {w w' : World} {m m' o o' : Nat} {A : Option Addr} {zs : List Int} {x : Pm} {V : Value} {l : List Pm}
theorem PB.ints (h : PB w o A zs) : Ints .u8 w w.heap.size A zs := by
  rcases h with h | ⟨b, off, e, _, hb, hc⟩
  · exact ints_of h.cells
  · exact .inr ⟨b, off, e, hb, hc⟩
theorem PB.below (h : PB w o A zs) (hb : Below w.heap.size w w') : PB w' o A zs := by
  rcases h with h | ⟨b, off, e, h1, h2, hc⟩
  · exact .inl (h.below hb)
  · exact .inr ⟨b, off, e, h1, by have := hb.size; omega, fun j hj => (hb.cell (p := ⟨b, off + j, none⟩) h2).trans (hc j hj)⟩
theorem PB.more (h : PB w o A zs) (ho : o ≤ o') : PB w o' A zs := by
  rcases h with h | ⟨b, off, e, h1, h2, hc⟩
  · exact .inl h
  · exact .inr ⟨b, off, e, by omega, h2, hc⟩
theorem PB.step {g : Nat} {t : TypeId} (h : PB w o A zs) (hs : Stp w w' g t) (hne : 5 ≠ t) (hg : o ≤ g) : PB w' o A zs := by
  rcases h with h | ⟨b, off, e, h1, h2, hc⟩
  · exact .inl (h.step hs hne)
  · refine .inr ⟨b, off, e, h1, by have := hs.gr.size; omega, fun j hj => ?_⟩
    rw [World.cell?_of_block (a := ⟨b, off + j, none⟩) (hs.gr.block b h2 (by simp; omega))]
    exact hc j hj
theorem PB.old (h : Ints .u8 w w.heap.size A zs) : PB w w.heap.size A zs := by
  rcases h with rfl | ⟨b, off, e, hb, hc⟩
  · exact .inl (.inl rfl)
  · exact .inr ⟨b, off, e, hb, hb, hc⟩
theorem PB.own {base n c : Nat} (h : w.ownsRow base 5 1 (.slice A n c) n (zs.map (Value.int .u8))) : PB w o A zs := .inl ((TB.own h).less (Nat.zero_le _))
theorem PP.gp (h : PP w o x) : GP w x := ⟨h.1, h.2.1, h.2.2.1, h.2.2.2.ints⟩
theorem PP.below (h : PP w o x) (hb : Below w.heap.size w w') : PP w' o x := ⟨h.1, h.2.1, h.2.2.1, h.2.2.2.below hb⟩
theorem PP.more (h : PP w o x) (ho : o ≤ o') : PP w o' x := ⟨h.1, h.2.1, h.2.2.1, h.2.2.2.more ho⟩
theorem PP.step {g : Nat} {t : TypeId} (h : PP w o x) (hs : Stp w w' g t) (hne : 5 ≠ t) (hg : o ≤ g) : PP w' o x := ⟨h.1, h.2.1, h.2.2.1, h.2.2.2.step hs hne hg⟩
theorem GP.later (h : GP w x) (hb : Below w.heap.size w w') : GP w' x := ⟨h.1, h.2.1, h.2.2.1, Base.later h.2.2.2 hb⟩
theorem GP.old (h : GP w x) : PP w w.heap.size x := ⟨h.1, h.2.1, h.2.2.1, PB.old h.2.2.2⟩
theorem QI.later (h : QI w V l) (hb : Below w.heap.size w w') : QI w' V l := by
  obtain ⟨A, c, e, h1, h2, h3⟩ := h
  exact ⟨A, c, e, h1, CellsAt.later h2 hb, fun x hx => (h3 x hx).later hb⟩
theorem QQ.qi (h : QQ w m o V l) : QI w V l := by
  obtain ⟨⟨A, c, e, h1, h2⟩, h3, h4⟩ := h
  exact ⟨A, c, e, h1, h2.cells, fun x hx => (h3 x hx).gp⟩
theorem QQ.below (h : QQ w m o V l) (hb : Below w.heap.size w w') : QQ w' m o V l := by
  obtain ⟨⟨A, c, e, h1, h2⟩, h3, h4⟩ := h
  exact ⟨⟨A, c, e, h1, h2.below hb⟩, fun x hx => (h3 x hx).below hb, fun g hg => ⟨(h4 g hg).1, by have := (h4 g hg).2; have := hb.size; omega⟩⟩
theorem QQ.less (h : QQ w m o V l) (hm : m' ≤ m) (ho : o ≤ o') : QQ w m' o' V l := by
  obtain ⟨⟨A, c, e, h1, h2⟩, h3, h4⟩ := h
  exact ⟨⟨A, c, e, h1, h2.less hm⟩, fun x hx => (h3 x hx).more ho, fun g hg => ⟨by have := (h4 g hg).1; omega, (h4 g hg).2⟩⟩
theorem QQ.step {g : Nat} {t : TypeId} (h : QQ w m o V l) (hs : Stp w w' g t) (hne : 5 ≠ t) (hne2 : 24 ≠ t) (hg : o ≤ g) : QQ w' m o V l := by
  obtain ⟨⟨A, c, e, h1, h2⟩, h3, h4⟩ := h
  exact ⟨⟨A, c, e, h1, h2.step hs hne2⟩, fun x hx => (h3 x hx).step hs hne hg, fun k hk => ⟨(h4 k hk).1, by have := (h4 k hk).2; have := hs.gr.size; omega⟩⟩
theorem QQ.step_ne {g : Nat} {t : TypeId} (h : QQ w m o V l) (hs : Stp w w' g t) (hne : 5 ≠ t) (hne2 : V.ownBlock ≠ some g) (hg : o ≤ g) : QQ w' m o V l := by
  obtain ⟨⟨A, c, e, h1, h2⟩, h3, h4⟩ := h
  refine ⟨⟨A, c, e, h1, h2.step_ne hs fun a ha hb => hne2 ?_⟩, fun x hx => (h3 x hx).step hs hne hg, fun k hk => ⟨(h4 k hk).1, by have := (h4 k hk).2; have := hs.gr.size; omega⟩⟩
  rw [e, ha]; simp [Value.ownBlock, hb]
theorem RR.qq (h : RR w m o V l) : QQ w m o V l := by
  obtain ⟨h1, h2⟩ := h
  obtain ⟨A, c, rfl⟩ := own_form h1
  exact ⟨⟨A, c, rfl, own_capK h1, TB.own h1⟩, h2, fun g hg => h1.lt g hg⟩
theorem RR.below (h : RR w m o V l) (hb : Below w.heap.size w w') : RR w' m o V l := ⟨own_below h.1 hb, fun x hx => (h.2 x hx).below hb⟩
theorem RR.less (h : RR w m o V l) (hm : m' ≤ m) (ho : o ≤ o') : RR w m' o' V l := ⟨own_base h.1 hm, fun x hx => (h.2 x hx).more ho⟩
theorem RR.nil (w : World) (m o : Nat) : RR w m o (.slice none 0 0) [] := ⟨World.ownsRow_nil _ _ _ _, by simp⟩
theorem RR.step {g : Nat} {t : TypeId} (h : RR w m o V l) (hs : Stp w w' g t) (hne : 5 ≠ t) (hne2 : 24 ≠ t) (hg : o ≤ g) : RR w' m o V l := by
  refine ⟨⟨h.1.1, ?_⟩, fun x hx => (h.2 x hx).step hs hne hg⟩
  rcases h.1.2 with h' | ⟨g', cap, cur, hv, hbg, hk, r⟩
  · exact .inl h'
  · exact .inr ⟨g', cap, cur, hv, hbg, hs.blk (b := g') hk hne2, r⟩
theorem RR.step_ne {g : Nat} {t : TypeId} (h : RR w m o V l) (hs : Stp w w' g t) (hne : 5 ≠ t) (hne2 : V.ownBlock ≠ some g) (hg : o ≤ g) : RR w' m o V l := by
  refine ⟨⟨h.1.1, ?_⟩, fun x hx => (h.2 x hx).step hs hne hg⟩
  rcases h.1.2 with h' | ⟨g', cap, cur, hv, hbg, hk, r⟩
  · exact .inl h'
  · refine .inr ⟨g', cap, cur, hv, hbg, hs.blk_ne (b := g') hk (fun e => hne2 ?_), r⟩
    rw [hv]; simp [Value.ownBlock, e]
theorem RR.lt (h : RR w m o V l) : ∀ g, V.ownBlock = some g → m ≤ g ∧ g < w.heap.size := fun g hg => h.1.lt g hg
theorem len_map {l l' : List Pm} (h : l'.map Pm.p = l.map Pm.p) : l'.length = l.length := by
  have := congrArg List.length h
  simpa using this
end

/-! ### Two sides' memory -/
def Far (V V' : Value) : Prop := ∀ g, V.ownBlock = some g → V'.ownBlock ≠ some g
theorem Far.symm {V V' : Value} (h : Far V V') : Far V' V := fun g h1 h2 => h g h2 h1
theorem Far.nil (V : Value) : Far (.slice none 0 0) V := fun g h => by simp [Value.ownBlock] at h
structure All (w : World) (m o : Nat) (V0 V1 V2 V3 V4 V5 : Value) (l0 l1 l2 l3 l4 l5 : List Pm) : Prop where
  q0 : QQ w m o V0 l0
  q1 : QQ w m o V1 l1
  r2 : RR w m o V2 l2
  r3 : RR w m o V3 l3
  r4 : RR w m o V4 l4
  r5 : RR w m o V5 l5
  f02 : Far V0 V2
  f03 : Far V0 V3
  f04 : Far V0 V4
  f05 : Far V0 V5
  f12 : Far V1 V2
  f13 : Far V1 V3
  f14 : Far V1 V4
  f15 : Far V1 V5
  f23 : Far V2 V3
  f24 : Far V2 V4
  f25 : Far V2 V5
  f34 : Far V3 V4
  f35 : Far V3 V5
  f45 : Far V4 V5
section
variable {w w' : World} {m o : Nat} {V0 V1 V2 V3 V4 V5 : Value} {l0 l1 l2 l3 l4 l5 : List Pm}
theorem All.nil (w : World) (m o : Nat) : All w m o (.slice none 0 0) (.slice none 0 0) (.slice none 0 0) (.slice none 0 0) (.slice none 0 0) (.slice none 0 0) [] [] [] [] [] [] :=
  ⟨(RR.nil w m o).qq, (RR.nil w m o).qq, RR.nil w m o, RR.nil w m o, RR.nil w m o, RR.nil w m o, Far.nil _, Far.nil _, Far.nil _, Far.nil _, Far.nil _, Far.nil _, Far.nil _, Far.nil _, Far.nil _, Far.nil _, Far.nil _, Far.nil _, Far.nil _, Far.nil _⟩
theorem All.below (h : All w m o V0 V1 V2 V3 V4 V5 l0 l1 l2 l3 l4 l5) (hb : Below w.heap.size w w') : All w' m o V0 V1 V2 V3 V4 V5 l0 l1 l2 l3 l4 l5 :=
  ⟨h.q0.below hb, h.q1.below hb, h.r2.below hb, h.r3.below hb, h.r4.below hb, h.r5.below hb, h.f02, h.f03, h.f04, h.f05, h.f12, h.f13, h.f14, h.f15, h.f23, h.f24, h.f25, h.f34, h.f35, h.f45⟩
theorem All.step {g : Nat} {t : TypeId} (h : All w m o V0 V1 V2 V3 V4 V5 l0 l1 l2 l3 l4 l5) (hs : Stp w w' g t) (hne : 5 ≠ t) (hne2 : 24 ≠ t) (hg : o ≤ g) : All w' m o V0 V1 V2 V3 V4 V5 l0 l1 l2 l3 l4 l5 :=
  ⟨h.q0.step hs hne hne2 hg, h.q1.step hs hne hne2 hg, h.r2.step hs hne hne2 hg, h.r3.step hs hne hne2 hg, h.r4.step hs hne hne2 hg, h.r5.step hs hne hne2 hg, h.f02, h.f03, h.f04, h.f05, h.f12, h.f13, h.f14, h.f15, h.f23, h.f24, h.f25, h.f34, h.f35, h.f45⟩
theorem grow_p {V : Value} {x : Pm} {n : Nat} {ys : List Value} (h : PP w o x) (hr : w.ownsRow m 24 2 V n ys) (hg : w.grownBy w' V.ownBlock) (ho : o ≤ m) : PP w' o x := by
  rcases hr.2 with ⟨rfl, _⟩ | ⟨g, cap, cur, hv, hbg, hk, _⟩
  · have hb : Below w.heap.size w w' := ⟨hg.os, hg.tape, hg.output, hg.size, fun k hk => hg.block k hk (by simp [Value.ownBlock])⟩
    exact h.below hb
  · have e : V.ownBlock = some g := by rw [hv]; rfl
    rw [e] at hg
    exact h.step ⟨hg, _, hk⟩ (by decide) (by omega)
/-- A row that grew by one packet. -/
theorem grow_own {V V' : Value} {l : List Pm} {x : Pm} (h : RR w m o V l) (hx : PP w o x) (hg : w.grownBy w' V.ownBlock) (ho : o ≤ m) (hown : w'.ownsRow m 24 2 V' (l.length + 1) (l.flatMap encK ++ encK x)) : RR w' m o V' (l ++ [x]) := by
  refine ⟨by simpa using hown, fun y hy => ?_⟩
  rcases List.mem_append.mp hy with hy | hy
  · exact grow_p (h.2 y hy) h.1 hg ho
  · rw [List.mem_singleton.mp hy]; exact grow_p hx h.1 hg ho
end
section
variable {P : Program} {w : World}
end
end Go.Proofs.Ytbnfjielnamepaa.Arq
