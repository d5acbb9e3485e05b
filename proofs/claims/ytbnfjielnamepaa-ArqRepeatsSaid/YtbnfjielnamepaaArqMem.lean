/- Packets, queues and rows of packets in memory: what stays of them when memory changes. No function is mentioned. -/
import Derived.Test.YtbnfjielnamepaaArqMath
import Derived.Test.YtbnfjielnamepaaDpArgs
import Derived.Test.YtbnfjielnamepaaDpDec2
import Derived.Test.YtbnfjielnamepaaAirOwn0
import Derived.Maps.AppendAt
set_option linter.unusedVariables false
set_option linter.unusedSimpArgs false
namespace Go.Proofs.Ytbnfjielnamepaa.Arq
open Go.RowKit Mem Oct Rw Av Dp

/-- Only block g, of type t, and new blocks differ. -/
structure Stp (w w' : World) (g : Nat) (t : TypeId) : Prop where
  gr : w.grownBy w' (some g)
  ty : ∃ cs, Blk w g t cs
theorem Stp.blk {w w' : World} {g : Nat} {t : TypeId} (h : Stp w w' g t) {b : Nat} {t' : TypeId} {cs : Array Value} (hb : Blk w b t' cs) (hne : t' ≠ t) : Blk w' b t' cs := by
  have : b ≠ g := by
    rintro rfl
    obtain ⟨c2, h2⟩ := h.ty
    unfold Blk at hb h2
    rw [hb] at h2
    injection h2 with h2
    injection h2 with _ h2
    exact hne h2
  unfold Blk at hb ⊢
  rw [h.gr.block b (Blk.lt hb) (by simpa using this)]; exact hb
theorem Stp.blk_ne {w w' : World} {g : Nat} {t : TypeId} (h : Stp w w' g t) {b : Nat} {t' : TypeId} {cs : Array Value} (hb : Blk w b t' cs) (hne : b ≠ g) : Blk w' b t' cs := by
  unfold Blk at hb ⊢
  rw [h.gr.block b (Blk.lt hb) (by simpa using hne)]; exact hb
theorem stp_row {w : World} {g : Nat} {t : TypeId} {old : Array Value} (h : Blk w g t old) (cs : Array Value) : Stp w (w.setRow g cs) g t :=
  ⟨⟨rfl, rfl, rfl, by rw [size_setRow]; exact Nat.le_refl _, fun k _ hk => setRow_other w g k cs (fun e => hk (by rw [e]))⟩, ⟨_, h⟩⟩
theorem stp_cell {w : World} {g i : Nat} {t : TypeId} {old : Array Value} (h : Blk w g t old) (x : Value) : Stp w (w.setCell ⟨g, i, none⟩ x) g t :=
  ⟨⟨rfl, rfl, rfl, by simp, fun k _ hk => Below.heap_setCell w ⟨g, i, none⟩ x k (fun e => hk (by simpa using e))⟩, ⟨_, h⟩⟩

/-- Cells read from a block of type t that is not older than m. -/
def TB (w : World) (t : TypeId) (m : Nat) (A : Option Addr) (ys : List Value) : Prop :=
  ys = [] ∨ ∃ b off cs, A = some ⟨b, off, none⟩ ∧ m ≤ b ∧ Blk w b t cs ∧ ∀ (q : Nat) u, ys[q]? = some u → cs[off + q]? = some u
section
variable {w w' : World} {t : TypeId} {m m' o o' : Nat} {A : Option Addr} {ys : List Value}
theorem TB.below (h : TB w t m A ys) (hb : Below w.heap.size w w') : TB w' t m A ys := by
  rcases h with h | ⟨b, off, cs, e, hm, hk, hc⟩
  · exact .inl h
  · exact .inr ⟨b, off, cs, e, hm, hk.below hb hk.lt, hc⟩
theorem TB.less (h : TB w t m A ys) (hm : m' ≤ m) : TB w t m' A ys := by
  rcases h with h | ⟨b, off, cs, e, hm', hk, hc⟩
  · exact .inl h
  · exact .inr ⟨b, off, cs, e, by omega, hk, hc⟩
theorem TB.cells (h : TB w t m A ys) : CellsAt w w.heap.size A ys := by
  rcases h with h | ⟨b, off, cs, e, hm, hk, hc⟩
  · exact .inl h
  · exact .inr ⟨b, off, e, hk.lt, fun q u hq => by rw [hk.cell]; exact hc q u hq⟩
theorem TB.own {base n c k : Nat} (h : w.ownsRow base t k (.slice A n c) n ys) : TB w t base A ys := by
  rcases h.2 with ⟨hv, hn⟩ | ⟨g, cap, cur, hv, hbg, hg, hnc, hcm, hcs, htake⟩
  · left
    have := h.1
    subst hn
    simpa using this
  · injection hv with hA hn hc
    refine .inr ⟨g, 0, cur, hA, hbg, hg, fun q u hq => ?_⟩
    rw [← htake, List.getElem?_take] at hq
    split at hq
    · simpa using hq
    · cases hq
theorem TB.step {g : Nat} {t' : TypeId} (h : TB w t m A ys) (hs : Stp w w' g t') (hne : t ≠ t') : TB w' t m A ys := by
  rcases h with h | ⟨b, off, cs, e, hm, hk, hc⟩
  · exact .inl h
  · exact .inr ⟨b, off, cs, e, hm, hs.blk hk hne, hc⟩
theorem TB.step_ne {g : Nat} {t' : TypeId} (h : TB w t m A ys) (hs : Stp w w' g t') (hne : ∀ a, A = some a → a.block ≠ g) : TB w' t m A ys := by
  rcases h with h | ⟨b, off, cs, e, hm, hk, hc⟩
  · exact .inl h
  · exact .inr ⟨b, off, cs, e, hm, hs.blk_ne hk (hne _ e), hc⟩
end
/-- Bytes in a block of bytes, or in one that is older than o. -/
def PB (w : World) (o : Nat) (A : Option Addr) (zs : List Int) : Prop :=
  TB w 5 0 A (zs.map (Value.int .u8)) ∨ (∃ b off, A = some ⟨b, off, none⟩ ∧ b < o ∧ b < w.heap.size ∧ ∀ j, j < zs.length → w.cell? ⟨b, off + j, none⟩ = some (.int .u8 (zs.getD j 0)))
/-- A packet that is read in a world. -/
def GP (w : World) (x : Pm) : Prop := x.v.length ≤ x.c ∧ x.v.length ≤ 140737488351232 ∧ Bytes x.v ∧ Ints .u8 w w.heap.size x.A x.v
/-- A packet with a payload that stores into other blocks leave. -/
def PP (w : World) (o : Nat) (x : Pm) : Prop := x.v.length ≤ x.c ∧ x.v.length ≤ 140737488351232 ∧ Bytes x.v ∧ PB w o x.A x.v
def QI (w : World) (V : Value) (l : List Pm) : Prop := ∃ A c, V = .slice A l.length c ∧ l.length ≤ c ∧ ListAt encK w w.heap.size A l ∧ ∀ x ∈ l, GP w x
def QQ (w : World) (m o : Nat) (V : Value) (l : List Pm) : Prop := (∃ A c, V = .slice A l.length c ∧ l.length ≤ c ∧ TB w 24 m A (l.flatMap encK)) ∧ (∀ x ∈ l, PP w o x) ∧ ∀ g, V.ownBlock = some g → m ≤ g ∧ g < w.heap.size
def RR (w : World) (m o : Nat) (V : Value) (l : List Pm) : Prop := w.ownsRow m 24 2 V l.length (l.flatMap encK) ∧ ∀ x ∈ l, PP w o x
section
variable {w w' : World} {m m' o o' : Nat} {A : Option Addr} {zs : List Int} {x : Pm} {V : Value} {l : List Pm}
theorem PB.ints (h : PB w o A zs) : Ints .u8 w w.heap.size A zs := by
  rcases h with h | ⟨b, off, e, _, hb, hc⟩
  · exact ints_of h.cells
  · exact .inr ⟨b, off, e, hb, hc⟩
theorem PB.below (h : PB w o A zs) (hb : Below w.heap.size w w') : PB w' o A zs := by
  rcases h with h | ⟨b, off, e, h1, h2, hc⟩
  · exact .inl (h.below hb)
  · exact .inr ⟨b, off, e, h1, by have := hb.size; omega, fun j hj => (hb.cell (p := ⟨b, off + j, none⟩) h2).trans (hc j hj)⟩
theorem PB.more (h : PB w o A zs) (ho : o ≤ o') : PB w o' A zs := by
  rcases h with h | ⟨b, off, e, h1, h2, hc⟩
  · exact .inl h
  · exact .inr ⟨b, off, e, by omega, h2, hc⟩
theorem PB.step {g : Nat} {t : TypeId} (h : PB w o A zs) (hs : Stp w w' g t) (hne : 5 ≠ t) (hg : o ≤ g) : PB w' o A zs := by
  rcases h with h | ⟨b, off, e, h1, h2, hc⟩
  · exact .inl (h.step hs hne)
  · refine .inr ⟨b, off, e, h1, by have := hs.gr.size; omega, fun j hj => ?_⟩
    rw [World.cell?_of_block (a := ⟨b, off + j, none⟩) (hs.gr.block b h2 (by simp; omega))]
    exact hc j hj
theorem PB.old (h : Ints .u8 w w.heap.size A zs) : PB w w.heap.size A zs := by
  rcases h with rfl | ⟨b, off, e, hb, hc⟩
  · exact .inl (.inl rfl)
  · exact .inr ⟨b, off, e, hb, hb, hc⟩
theorem PB.own {base n c : Nat} (h : w.ownsRow base 5 1 (.slice A n c) n (zs.map (Value.int .u8))) : PB w o A zs := .inl ((TB.own h).less (Nat.zero_le _))
theorem PP.gp (h : PP w o x) : GP w x := ⟨h.1, h.2.1, h.2.2.1, h.2.2.2.ints⟩
theorem PP.below (h : PP w o x) (hb : Below w.heap.size w w') : PP w' o x := ⟨h.1, h.2.1, h.2.2.1, h.2.2.2.below hb⟩
theorem PP.more (h : PP w o x) (ho : o ≤ o') : PP w o' x := ⟨h.1, h.2.1, h.2.2.1, h.2.2.2.more ho⟩
theorem PP.step {g : Nat} {t : TypeId} (h : PP w o x) (hs : Stp w w' g t) (hne : 5 ≠ t) (hg : o ≤ g) : PP w' o x := ⟨h.1, h.2.1, h.2.2.1, h.2.2.2.step hs hne hg⟩
theorem GP.later (h : GP w x) (hb : Below w.heap.size w w') : GP w' x := ⟨h.1, h.2.1, h.2.2.1, Base.later h.2.2.2 hb⟩
theorem GP.old (h : GP w x) : PP w w.heap.size x := ⟨h.1, h.2.1, h.2.2.1, PB.old h.2.2.2⟩
theorem QI.later (h : QI w V l) (hb : Below w.heap.size w w') : QI w' V l := by
  obtain ⟨A, c, e, h1, h2, h3⟩ := h
  exact ⟨A, c, e, h1, CellsAt.later h2 hb, fun x hx => (h3 x hx).later hb⟩
theorem QQ.qi (h : QQ w m o V l) : QI w V l := by
  obtain ⟨⟨A, c, e, h1, h2⟩, h3, h4⟩ := h
  exact ⟨A, c, e, h1, h2.cells, fun x hx => (h3 x hx).gp⟩
theorem QQ.below (h : QQ w m o V l) (hb : Below w.heap.size w w') : QQ w' m o V l := by
  obtain ⟨⟨A, c, e, h1, h2⟩, h3, h4⟩ := h
  exact ⟨⟨A, c, e, h1, h2.below hb⟩, fun x hx => (h3 x hx).below hb, fun g hg => ⟨(h4 g hg).1, by have := (h4 g hg).2; have := hb.size; omega⟩⟩
theorem QQ.less (h : QQ w m o V l) (hm : m' ≤ m) (ho : o ≤ o') : QQ w m' o' V l := by
  obtain ⟨⟨A, c, e, h1, h2⟩, h3, h4⟩ := h
  exact ⟨⟨A, c, e, h1, h2.less hm⟩, fun x hx => (h3 x hx).more ho, fun g hg => ⟨by have := (h4 g hg).1; omega, (h4 g hg).2⟩⟩
theorem QQ.step {g : Nat} {t : TypeId} (h : QQ w m o V l) (hs : Stp w w' g t) (hne : 5 ≠ t) (hne2 : 24 ≠ t) (hg : o ≤ g) : QQ w' m o V l := by
  obtain ⟨⟨A, c, e, h1, h2⟩, h3, h4⟩ := h
  exact ⟨⟨A, c, e, h1, h2.step hs hne2⟩, fun x hx => (h3 x hx).step hs hne hg, fun k hk => ⟨(h4 k hk).1, by have := (h4 k hk).2; have := hs.gr.size; omega⟩⟩
theorem QQ.step_ne {g : Nat} {t : TypeId} (h : QQ w m o V l) (hs : Stp w w' g t) (hne : 5 ≠ t) (hne2 : V.ownBlock ≠ some g) (hg : o ≤ g) : QQ w' m o V l := by
  obtain ⟨⟨A, c, e, h1, h2⟩, h3, h4⟩ := h
  refine ⟨⟨A, c, e, h1, h2.step_ne hs fun a ha hb => hne2 ?_⟩, fun x hx => (h3 x hx).step hs hne hg, fun k hk => ⟨(h4 k hk).1, by have := (h4 k hk).2; have := hs.gr.size; omega⟩⟩
  rw [e, ha]; simp [Value.ownBlock, hb]
theorem RR.qq (h : RR w m o V l) : QQ w m o V l := by
  obtain ⟨h1, h2⟩ := h
  obtain ⟨A, c, rfl⟩ := own_form h1
  exact ⟨⟨A, c, rfl, own_capK h1, TB.own h1⟩, h2, fun g hg => h1.lt g hg⟩
theorem RR.below (h : RR w m o V l) (hb : Below w.heap.size w w') : RR w' m o V l := ⟨own_below h.1 hb, fun x hx => (h.2 x hx).below hb⟩
theorem RR.less (h : RR w m o V l) (hm : m' ≤ m) (ho : o ≤ o') : RR w m' o' V l := ⟨own_base h.1 hm, fun x hx => (h.2 x hx).more ho⟩
theorem RR.nil (w : World) (m o : Nat) : RR w m o (.slice none 0 0) [] := ⟨World.ownsRow_nil _ _ _ _, by simp⟩
theorem RR.step {g : Nat} {t : TypeId} (h : RR w m o V l) (hs : Stp w w' g t) (hne : 5 ≠ t) (hne2 : 24 ≠ t) (hg : o ≤ g) : RR w' m o V l := by
  refine ⟨⟨h.1.1, ?_⟩, fun x hx => (h.2 x hx).step hs hne hg⟩
  rcases h.1.2 with h' | ⟨g', cap, cur, hv, hbg, hk, r⟩
  · exact .inl h'
  · exact .inr ⟨g', cap, cur, hv, hbg, hs.blk (b := g') hk hne2, r⟩
theorem RR.step_ne {g : Nat} {t : TypeId} (h : RR w m o V l) (hs : Stp w w' g t) (hne : 5 ≠ t) (hne2 : V.ownBlock ≠ some g) (hg : o ≤ g) : RR w' m o V l := by
  refine ⟨⟨h.1.1, ?_⟩, fun x hx => (h.2 x hx).step hs hne hg⟩
  rcases h.1.2 with h' | ⟨g', cap, cur, hv, hbg, hk, r⟩
  · exact .inl h'
  · refine .inr ⟨g', cap, cur, hv, hbg, hs.blk_ne (b := g') hk (fun e => hne2 ?_), r⟩
    rw [hv]; simp [Value.ownBlock, e]
theorem RR.lt (h : RR w m o V l) : ∀ g, V.ownBlock = some g → m ≤ g ∧ g < w.heap.size := fun g hg => h.1.lt g hg
theorem len_map {l l' : List Pm} (h : l'.map Pm.p = l.map Pm.p) : l'.length = l.length := by
  have := congrArg List.length h
  simpa using this
end

/-! ### Two sides' memory -/
def Far (V V' : Value) : Prop := ∀ g, V.ownBlock = some g → V'.ownBlock ≠ some g
theorem Far.symm {V V' : Value} (h : Far V V') : Far V' V := fun g h1 h2 => h g h2 h1
theorem Far.of_lt {V V' : Value} {K : Nat} (h : ∀ g, V.ownBlock = some g → K ≤ g) (h' : ∀ g, V'.ownBlock = some g → g < K) : Far V V' := fun g h1 h2 => by
  have := h g h1; have := h' g h2; omega
theorem Far.nil (V : Value) : Far (.slice none 0 0) V := fun g h => by simp [Value.ownBlock] at h
structure All (w : World) (m o : Nat) (V0 V1 V2 V3 V4 V5 : Value) (l0 l1 l2 l3 l4 l5 : List Pm) : Prop where
  q0 : QQ w m o V0 l0
  q1 : QQ w m o V1 l1
  r2 : RR w m o V2 l2
  r3 : RR w m o V3 l3
  r4 : RR w m o V4 l4
  r5 : RR w m o V5 l5
  f02 : Far V0 V2
  f03 : Far V0 V3
  f04 : Far V0 V4
  f05 : Far V0 V5
  f12 : Far V1 V2
  f13 : Far V1 V3
  f14 : Far V1 V4
  f15 : Far V1 V5
  f23 : Far V2 V3
  f24 : Far V2 V4
  f25 : Far V2 V5
  f34 : Far V3 V4
  f35 : Far V3 V5
  f45 : Far V4 V5
section
variable {w w' : World} {m o : Nat} {V0 V1 V2 V3 V4 V5 : Value} {l0 l1 l2 l3 l4 l5 : List Pm}
theorem All.nil (w : World) (m o : Nat) : All w m o (.slice none 0 0) (.slice none 0 0) (.slice none 0 0) (.slice none 0 0) (.slice none 0 0) (.slice none 0 0) [] [] [] [] [] [] :=
  ⟨(RR.nil w m o).qq, (RR.nil w m o).qq, RR.nil w m o, RR.nil w m o, RR.nil w m o, RR.nil w m o, Far.nil _, Far.nil _, Far.nil _, Far.nil _, Far.nil _, Far.nil _, Far.nil _, Far.nil _, Far.nil _, Far.nil _, Far.nil _, Far.nil _, Far.nil _, Far.nil _⟩
theorem All.below (h : All w m o V0 V1 V2 V3 V4 V5 l0 l1 l2 l3 l4 l5) (hb : Below w.heap.size w w') : All w' m o V0 V1 V2 V3 V4 V5 l0 l1 l2 l3 l4 l5 :=
  ⟨h.q0.below hb, h.q1.below hb, h.r2.below hb, h.r3.below hb, h.r4.below hb, h.r5.below hb, h.f02, h.f03, h.f04, h.f05, h.f12, h.f13, h.f14, h.f15, h.f23, h.f24, h.f25, h.f34, h.f35, h.f45⟩
theorem All.step {g : Nat} {t : TypeId} (h : All w m o V0 V1 V2 V3 V4 V5 l0 l1 l2 l3 l4 l5) (hs : Stp w w' g t) (hne : 5 ≠ t) (hne2 : 24 ≠ t) (hg : o ≤ g) : All w' m o V0 V1 V2 V3 V4 V5 l0 l1 l2 l3 l4 l5 :=
  ⟨h.q0.step hs hne hne2 hg, h.q1.step hs hne hne2 hg, h.r2.step hs hne hne2 hg, h.r3.step hs hne hne2 hg, h.r4.step hs hne hne2 hg, h.r5.step hs hne hne2 hg, h.f02, h.f03, h.f04, h.f05, h.f12, h.f13, h.f14, h.f15, h.f23, h.f24, h.f25, h.f34, h.f35, h.f45⟩
theorem All.set0 {V : Value} {l : List Pm} (h : All w m o V0 V1 V2 V3 V4 V5 l0 l1 l2 l3 l4 l5) (hm : m ≤ w.heap.size) (hb : Below w.heap.size w w') (hq : QQ w' w.heap.size 0 V l) : All w' m o V V1 V2 V3 V4 V5 l l1 l2 l3 l4 l5 := by
  have k : ∀ g, V.ownBlock = some g → w.heap.size ≤ g := fun g hg => (hq.2.2 g hg).1
  have h' := h.below hb
  exact ⟨hq.less hm (Nat.zero_le _), h'.q1, h'.r2, h'.r3, h'.r4, h'.r5, Far.of_lt k fun g hg => (h.r2.lt g hg).2, Far.of_lt k fun g hg => (h.r3.lt g hg).2, Far.of_lt k fun g hg => (h.r4.lt g hg).2, Far.of_lt k fun g hg => (h.r5.lt g hg).2, h.f12, h.f13, h.f14, h.f15, h.f23, h.f24, h.f25, h.f34, h.f35, h.f45⟩
theorem All.set1 {V : Value} {l : List Pm} (h : All w m o V0 V1 V2 V3 V4 V5 l0 l1 l2 l3 l4 l5) (hm : m ≤ w.heap.size) (hb : Below w.heap.size w w') (hq : QQ w' w.heap.size 0 V l) : All w' m o V0 V V2 V3 V4 V5 l0 l l2 l3 l4 l5 := by
  have k : ∀ g, V.ownBlock = some g → w.heap.size ≤ g := fun g hg => (hq.2.2 g hg).1
  have h' := h.below hb
  exact ⟨h'.q0, hq.less hm (Nat.zero_le _), h'.r2, h'.r3, h'.r4, h'.r5, h.f02, h.f03, h.f04, h.f05, Far.of_lt k fun g hg => (h.r2.lt g hg).2, Far.of_lt k fun g hg => (h.r3.lt g hg).2, Far.of_lt k fun g hg => (h.r4.lt g hg).2, Far.of_lt k fun g hg => (h.r5.lt g hg).2, h.f23, h.f24, h.f25, h.f34, h.f35, h.f45⟩
/-- The other sides and rows, when a row grew. -/
theorem grow_q {V V' U : Value} {l : List Pm} {n : Nat} {ys : List Value} (h : QQ w m o U l) (hr : w.ownsRow m 24 2 V n ys) (hg : w.grownBy w' V.ownBlock) (hf : Far U V) (ho : o ≤ m) : QQ w' m o U l := by
  rcases hr.2 with ⟨rfl, _⟩ | ⟨g, cap, cur, hv, hbg, hk, _⟩
  · obtain ⟨⟨A, c, e, h1, h2⟩, h3, h4⟩ := h
    have hb : Below w.heap.size w w' := ⟨hg.os, hg.tape, hg.output, hg.size, fun k hk => hg.block k hk (by simp [Value.ownBlock])⟩
    exact QQ.below ⟨⟨A, c, e, h1, h2⟩, h3, h4⟩ hb
  · have e : V.ownBlock = some g := by rw [hv]; rfl
    rw [e] at hg
    exact h.step_ne ⟨hg, _, hk⟩ (by decide) (fun he => hf g he e) (by omega)
theorem grow_r {V U : Value} {l : List Pm} {n : Nat} {ys : List Value} (h : RR w m o U l) (hr : w.ownsRow m 24 2 V n ys) (hg : w.grownBy w' V.ownBlock) (hf : Far U V) (ho : o ≤ m) : RR w' m o U l := by
  rcases hr.2 with ⟨rfl, _⟩ | ⟨g, cap, cur, hv, hbg, hk, _⟩
  · have hb : Below w.heap.size w w' := ⟨hg.os, hg.tape, hg.output, hg.size, fun k hk => hg.block k hk (by simp [Value.ownBlock])⟩
    exact h.below hb
  · have e : V.ownBlock = some g := by rw [hv]; rfl
    rw [e] at hg
    exact h.step_ne ⟨hg, _, hk⟩ (by decide) (fun he => hf g he e) (by omega)
theorem grow_p {V : Value} {x : Pm} {n : Nat} {ys : List Value} (h : PP w o x) (hr : w.ownsRow m 24 2 V n ys) (hg : w.grownBy w' V.ownBlock) (ho : o ≤ m) : PP w' o x := by
  rcases hr.2 with ⟨rfl, _⟩ | ⟨g, cap, cur, hv, hbg, hk, _⟩
  · have hb : Below w.heap.size w w' := ⟨hg.os, hg.tape, hg.output, hg.size, fun k hk => hg.block k hk (by simp [Value.ownBlock])⟩
    exact h.below hb
  · have e : V.ownBlock = some g := by rw [hv]; rfl
    rw [e] at hg
    exact h.step ⟨hg, _, hk⟩ (by decide) (by omega)
/-- A row that grew by one packet. -/
theorem grow_own {V V' : Value} {l : List Pm} {x : Pm} (h : RR w m o V l) (hx : PP w o x) (hg : w.grownBy w' V.ownBlock) (ho : o ≤ m) (hown : w'.ownsRow m 24 2 V' (l.length + 1) (l.flatMap encK ++ encK x)) : RR w' m o V' (l ++ [x]) := by
  refine ⟨by simpa using hown, fun y hy => ?_⟩
  rcases List.mem_append.mp hy with hy | hy
  · exact grow_p (h.2 y hy) h.1 hg ho
  · rw [List.mem_singleton.mp hy]; exact grow_p hx h.1 hg ho
theorem far_grow {U V V' : Value} (h : Far U V) (hl : ∀ g, U.ownBlock = some g → g < w.heap.size) (hp : V'.ownBlock = V.ownBlock ∨ V'.ownBlock = some w.heap.size) : Far U V' := fun g h1 h2 => by
  rcases hp with e | e
  · exact h g h1 (by rw [← e]; exact h2)
  · rw [e] at h2
    have := hl g h1
    injection h2 with h2
    omega
theorem All.app2 {V : Value} {x : Pm} (h : All w m o V0 V1 V2 V3 V4 V5 l0 l1 l2 l3 l4 l5) (hx : PP w o x) (ho : o ≤ m) (hg : w.grownBy w' V2.ownBlock) (hp : V.ownBlock = V2.ownBlock ∨ V.ownBlock = some w.heap.size) (hown : w'.ownsRow m 24 2 V (l2.length + 1) (l2.flatMap encK ++ encK x)) : All w' m o V0 V1 V V3 V4 V5 l0 l1 (l2 ++ [x]) l3 l4 l5 :=
  ⟨grow_q (V' := V) h.q0 h.r2.1 hg h.f02 ho, grow_q (V' := V) h.q1 h.r2.1 hg h.f12 ho, grow_own h.r2 hx hg ho hown, grow_r h.r3 h.r2.1 hg h.f23.symm ho, grow_r h.r4 h.r2.1 hg h.f24.symm ho, grow_r h.r5 h.r2.1 hg h.f25.symm ho,
    far_grow h.f02 (fun g hg => (h.q0.2.2 g hg).2) hp, h.f03, h.f04, h.f05, far_grow h.f12 (fun g hg => (h.q1.2.2 g hg).2) hp, h.f13, h.f14, h.f15, (far_grow h.f23.symm (fun g hg => (h.r3.lt g hg).2) hp).symm, (far_grow h.f24.symm (fun g hg => (h.r4.lt g hg).2) hp).symm, (far_grow h.f25.symm (fun g hg => (h.r5.lt g hg).2) hp).symm, h.f34, h.f35, h.f45⟩
theorem All.app3 {V : Value} {x : Pm} (h : All w m o V0 V1 V2 V3 V4 V5 l0 l1 l2 l3 l4 l5) (hx : PP w o x) (ho : o ≤ m) (hg : w.grownBy w' V3.ownBlock) (hp : V.ownBlock = V3.ownBlock ∨ V.ownBlock = some w.heap.size) (hown : w'.ownsRow m 24 2 V (l3.length + 1) (l3.flatMap encK ++ encK x)) : All w' m o V0 V1 V2 V V4 V5 l0 l1 l2 (l3 ++ [x]) l4 l5 :=
  ⟨grow_q (V' := V) h.q0 h.r3.1 hg h.f03 ho, grow_q (V' := V) h.q1 h.r3.1 hg h.f13 ho, grow_r h.r2 h.r3.1 hg h.f23 ho, grow_own h.r3 hx hg ho hown, grow_r h.r4 h.r3.1 hg h.f34.symm ho, grow_r h.r5 h.r3.1 hg h.f35.symm ho,
    h.f02, far_grow h.f03 (fun g hg => (h.q0.2.2 g hg).2) hp, h.f04, h.f05, h.f12, far_grow h.f13 (fun g hg => (h.q1.2.2 g hg).2) hp, h.f14, h.f15, far_grow h.f23 (fun g hg => (h.r2.lt g hg).2) hp, h.f24, h.f25, (far_grow h.f34.symm (fun g hg => (h.r4.lt g hg).2) hp).symm, (far_grow h.f35.symm (fun g hg => (h.r5.lt g hg).2) hp).symm, h.f45⟩
theorem All.app4 {V : Value} {x : Pm} (h : All w m o V0 V1 V2 V3 V4 V5 l0 l1 l2 l3 l4 l5) (hx : PP w o x) (ho : o ≤ m) (hg : w.grownBy w' V4.ownBlock) (hp : V.ownBlock = V4.ownBlock ∨ V.ownBlock = some w.heap.size) (hown : w'.ownsRow m 24 2 V (l4.length + 1) (l4.flatMap encK ++ encK x)) : All w' m o V0 V1 V2 V3 V V5 l0 l1 l2 l3 (l4 ++ [x]) l5 :=
  ⟨grow_q (V' := V) h.q0 h.r4.1 hg h.f04 ho, grow_q (V' := V) h.q1 h.r4.1 hg h.f14 ho, grow_r h.r2 h.r4.1 hg h.f24 ho, grow_r h.r3 h.r4.1 hg h.f34 ho, grow_own h.r4 hx hg ho hown, grow_r h.r5 h.r4.1 hg h.f45.symm ho,
    h.f02, h.f03, far_grow h.f04 (fun g hg => (h.q0.2.2 g hg).2) hp, h.f05, h.f12, h.f13, far_grow h.f14 (fun g hg => (h.q1.2.2 g hg).2) hp, h.f15, h.f23, far_grow h.f24 (fun g hg => (h.r2.lt g hg).2) hp, h.f25, far_grow h.f34 (fun g hg => (h.r3.lt g hg).2) hp, h.f35, (far_grow h.f45.symm (fun g hg => (h.r5.lt g hg).2) hp).symm⟩
theorem All.app5 {V : Value} {x : Pm} (h : All w m o V0 V1 V2 V3 V4 V5 l0 l1 l2 l3 l4 l5) (hx : PP w o x) (ho : o ≤ m) (hg : w.grownBy w' V5.ownBlock) (hp : V.ownBlock = V5.ownBlock ∨ V.ownBlock = some w.heap.size) (hown : w'.ownsRow m 24 2 V (l5.length + 1) (l5.flatMap encK ++ encK x)) : All w' m o V0 V1 V2 V3 V4 V l0 l1 l2 l3 l4 (l5 ++ [x]) :=
  ⟨grow_q (V' := V) h.q0 h.r5.1 hg h.f05 ho, grow_q (V' := V) h.q1 h.r5.1 hg h.f15 ho, grow_r h.r2 h.r5.1 hg h.f25 ho, grow_r h.r3 h.r5.1 hg h.f35 ho, grow_r h.r4 h.r5.1 hg h.f45 ho, grow_own h.r5 hx hg ho hown,
    h.f02, h.f03, h.f04, far_grow h.f05 (fun g hg => (h.q0.2.2 g hg).2) hp, h.f12, h.f13, h.f14, far_grow h.f15 (fun g hg => (h.q1.2.2 g hg).2) hp, h.f23, h.f24, far_grow h.f25 (fun g hg => (h.r2.lt g hg).2) hp, h.f34, far_grow h.f35 (fun g hg => (h.r3.lt g hg).2) hp, far_grow h.f45 (fun g hg => (h.r4.lt g hg).2) hp⟩
end
section
variable {P : Program} {w : World}
/-- append of one packet onto a row, as one step of a region that draws its order: where the new row lies. -/
theorem step_append_at {ops : Array Oper} {o : Oper} {a : Act} {K : Act → World → Prop} {Q : Exit → Act → World → Prop} {E : Prop} (hgd : o.guard = none) (s x : Operand) (t : TypeId)
    (ho : o.op = .call { callee := .builtin .append, args := #[s, x], argTypes := #[t, t] })
    (base : Nat) (e : TypeId) (i : TypeInfo) (z : Value) (k bytes : Nat) (ht : P.underlying t = some (.slice e)) (hi : P.info? e = some i) (hz : i.zero = some z)
    (hsize : i.size = k) (hby : i.bytes = bytes) (hzs : z.cells.size = k) (hk0 : 0 < k)
    (v : Value) (n : Nat) (xs : List Value) (hs : a.eval s = v) (hown : w.ownsRow base e k v n xs)
    (g m c : Nat) (ys : List Value) (hx : a.eval x = .slice (some ⟨g, 0, none⟩) m c) (hm : ys.length = m * k) (h1 : ∀ u ∈ ys, u.oneCell' = true) (hr : CellsAt w w.heap.size (some ⟨g, 0, none⟩) ys)
    (h63 : n + m ≤ maxLen) (hbytes : (n + m) * bytes ≤ 140737488355328) (hbase : base ≤ w.heap.size)
    (h : ∀ v' w', w'.ownsRow base e k v' (n + m) (xs ++ ys) → w.grownBy w' v.ownBlock → (v'.ownBlock = v.ownBlock ∨ v'.ownBlock = some w.heap.size) → K (a.put o.dst v') w') :
    if Region.wanted o (yielded ops a.tmps) = true then Oper.wp P o a w K Q else E := by
  have hw : Region.wanted o (yielded ops a.tmps) = true := by simp [Region.wanted, hgd]
  rw [if_pos hw]
  obtain ⟨v', w', hrun, h2, h3, _, h4⟩ := run_append_own_at (P := P) w base t o.type e i z k bytes ht hi hz hsize hby hzs hk0 v n xs hown ⟨g, 0, none⟩ m c ys hm (fun j u hj => by
    rcases hr with hr | ⟨b, off, e, _, hc⟩
    · rw [hr] at hj; simp at hj
    · injection e with e
      injection e with e1 e2 e3
      subst e1; subst e2
      rw [plain_add]
      exact hc j u hj) h1 h63 hbytes hbase
  unfold Oper.wp execOp
  simp only [ho, resolve, invoke, builtin, Sem.run_bind, Sem.run_pure, Result.andThen_ok, List.map_toArray, List.map_cons, List.map_nil, hs, hx, hrun]
  exact h v' w' h2 h3 h4
end
end Go.Proofs.Ytbnfjielnamepaa.Arq
