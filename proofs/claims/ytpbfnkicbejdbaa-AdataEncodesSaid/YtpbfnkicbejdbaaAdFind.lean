/- The first value of a kind; the name: contracts over the program. -/
import Derived.Test.YtpbfnkicbejdbaaAdVals
set_option linter.unusedVariables false
set_option linter.unusedSimpArgs false
namespace Go.Proofs.Ytpbfnkicbejdbaa.Ad
open Go.RowKit Go.Shelf Mem Rw Oct
open Base (thenB later kept)
attribute [local go_sem] Oper.semAt_some

/-- What Find returns. -/
def Fnd (w w' : World) (e : Ending) (r : List Int × Bool) : Prop :=
  ∃ A c, e = .returned (.tuple #[.slice A r.1.length c, .bool r.2]) ∧ r.1.length ≤ c ∧ (r.1.length ≤ 31 ∧ Bytes r.1) ∧ Ints .u8 w' w'.heap.size A r.1 ∧ Below w.heap.size w w'
def InvF (w V : World) (pre : List Vl) (W : World) : Prop := (((pre = []) ∧ (Boxed W w.heap.size 24 (.slice none 0 0) ∧ Boxed W (w.heap.size + 1) 4 (.bool false))) ∧ Below w.heap.size w W) ∧ V.heap.size ≤ W.heap.size
def OutF (w : World) (pre : List Vl) (W : World) : Prop := (∃ x : Vl, pre = [x] ∧ TellV x W ∧ Boxed W w.heap.size 24 (.slice x.A x.v.length x.c) ∧ Boxed W (w.heap.size + 1) 4 (.bool true)) ∧ Below w.heap.size w W
theorem tellV_grown {W W' : World} {row : Option Nat} {x : Vl} (h : TellV x W) (hg : W.grownBy W' row) (hr : ∀ r, row = some r → ∃ o : Obj, W.heap[r]? = some o ∧ o.isCells = false) : TellV x W' := by
  obtain ⟨h1, h2, b0, h3⟩ := h
  exact ⟨h1, h2, b0, own_grown h3 hg hr⟩
theorem box_grown {W W' : World} {row : Option Nat} {B : Nat} {t : TypeId} {v : Value} (h : Boxed W B t v) (hg : W.grownBy W' row) (hr : ∀ r, row = some r → ∃ o : Obj, W.heap[r]? = some o ∧ o.isCells = false) : Boxed W' B t v :=
  h.kept hg (fun e => by obtain ⟨o, ho, hc⟩ := hr B e.symm; rw [show W.heap[B]? = _ from h] at ho; cases ho; cases hc)
theorem invF_own (w V : World) (hs : V.heap.size = w.heap.size + 4) : OwnFrom V.heap.size (InvF w V) := by
  rintro s W W' row ⟨⟨⟨h1, h2, h3⟩, h4⟩, h5⟩ hg hr
  exact ⟨⟨⟨h1, box_grown h2 hg (fun r e => (hr r e).2), box_grown h3 hg (fun r e => (hr r e).2)⟩, ownFrom_below (β := Unit) (n₀ := w.heap.size) (Nat.le_refl _) (by omega) () W W' row h4 hg hr⟩, Nat.le_trans h5 hg.size⟩
theorem outF_own (w V : World) (hs : V.heap.size = w.heap.size + 4) : OwnFrom V.heap.size (OutF w) := by
  rintro s W W' row ⟨⟨x, h1, h2, h3, h4⟩, h5⟩ hg hr
  exact ⟨⟨x, h1, tellV_grown h2 hg (fun r e => (hr r e).2), box_grown h3 hg (fun r e => (hr r e).2), box_grown h4 hg (fun r e => (hr r e).2)⟩, ownFrom_below (β := Unit) (n₀ := w.heap.size) (Nat.le_refl _) (by omega) () W W' row h5 hg hr⟩
theorem TellV.alloc {x : Vl} {w : World} (h : TellV x w) (o : Obj) : TellV x (w.alloc o) := ⟨h.1, h.2.1, h.2.2.choose, World.ownsRow.alloc h.2.2.choose_spec o⟩
theorem TellV.set {x : Vl} {w : World} (h : TellV x w) {B : Nat} {t : TypeId} {v : Value} (hb : Boxed w B t v) (ht : t ≠ 5) (v' : Value) : TellV x (w.setCell ⟨B, 0, none⟩ v') := by
  obtain ⟨h1, h2, b0, h3⟩ := h
  exact ⟨h1, h2, b0, own_set h3 hb (Ne.symm ht) 0 v'⟩
theorem TellV.read {x : Vl} {w : World} (h : TellV x w) : Ints .u8 w w.heap.size x.A x.v := Ints.own h.2.2.choose_spec
set_option maxRecDepth 100000 in
set_option maxHeartbeats 4000000 in
theorem find_any (A : Option Addr) (n c : Nat) (kd : Int) (xs : List Int) (w : World) (hx : xs.length = n) (hnc : n ≤ c) (hm : n ≤ 140737488355328) (bx : Bytes xs) (hr : Ints .u8 w w.heap.size A xs) :
    Calls Try.prog 18 #[.slice A n c, .int .i64 kd] w fun e w' => Fnd w w' e (findR xs kd) := by
  refine (callsIn_wide (n := 3)).1 ?_
  refine callsIn_of_wp_marks Try.func18 rfl trivial ?_ rfl
  simp only [Try.ntmps18, List.size_toArray, List.length_cons, List.length_nil, Nat.reduceAdd, Nat.reduceSub, Array.replicate_succ, Array.replicate_zero, List.push_toArray, List.append_toArray, List.nil_append, List.cons_append]
  gi_wp2_with (refine ⟨trivial, ?_⟩; gi_at_call 28; refine (callsIn_wide.2 (values_any _ _ _ _ _)).mono ?_; rintro e w2 ⟨rfl, rfl⟩)
  have b0 := (((Boxed.new w 24 (.slice none 0 0)).alloc (.cells #[.bool false] 4)).alloc (.cells #[.slice A n c] 24)).alloc (.cells #[.int .i64 kd] 3)
  have b1 := ((Boxed.new (w.alloc (.cells #[.slice none 0 0] 24)) 4 (.bool false)).alloc (.cells #[.slice A n c] 24)).alloc (.cells #[.int .i64 kd] 3)
  have b2 := (Boxed.new ((w.alloc (.cells #[.slice none 0 0] 24)).alloc (.cells #[.bool false] 4)) 24 (.slice A n c)).alloc (.cells #[.int .i64 kd] 3)
  have b3 := Boxed.new (((w.alloc (.cells #[.slice none 0 0] 24)).alloc (.cells #[.bool false] 4)).alloc (.cells #[.slice A n c] 24)) 3 (.int .i64 kd)
  simp only [World.size_alloc] at b1 b2 b3
  have hB : Below w.heap.size w _ := ((((Below.refl w.heap.size w).alloc (Nat.le_refl _) (.cells #[.slice none 0 0] 24)).alloc (by simp) (.cells #[.bool false] 4)).alloc (by simp; omega) (.cells #[.slice A n c] 24)).alloc (by simp; omega) (.cells #[.int .i64 kd] 3)
  have hs : ((((w.alloc (.cells #[.slice none 0 0] 24)).alloc (.cells #[.bool false] 4)).alloc (.cells #[.slice A n c] 24)).alloc (.cells #[.int .i64 kd] 3)).heap.size = w.heap.size + 4 := by simp
  generalize (((w.alloc (.cells #[.slice none 0 0] 24)).alloc (.cells #[.bool false] 4)).alloc (.cells #[.slice A n c] 24)).alloc (.cells #[.int .i64 kd] 3) = V at *
  refine wpIn_range_tells rfl (by omega) (gf := 36) (lb := #[.pointer (some ⟨w.heap.size + 1 + 1, 0, none⟩), .pointer (some ⟨w.heap.size + 1 + 1 + 1, 0, none⟩)]) rfl trivial (enters_of Try.func36 (by kernel_rfl) rfl)
    (values_tells (3 - 1) (by omega) (w.heap.size + 1 + 1) (w.heap.size + 1 + 1 + 1) A n c kd xs hx hm hnc bx V b2 b3 (later hr hB)) (fun h k => h.trans k) (fun W l o o' hl ho hc => KeepT.put W l o o' ho hc) (fun _ => rfl)
    (InvF w V) (OutF w) (invF_own w V hs) (outF_own w V hs)
    ⟨⟨⟨rfl, b0, b1⟩, hB⟩, Nat.le_refl _⟩
    (fun x a' W => a' = { tmps := #[.slice A n c, .int .i64 kd, undef, undef, .pointer (some ⟨w.heap.size, 0, none⟩), .pointer (some ⟨w.heap.size + 1, 0, none⟩), .slice x.A x.v.length x.c, .slice A n c, .int .i64 kd, .func (.func 36) #[] #[.pointer (some ⟨w.heap.size + 1 + 1, 0, none⟩), .pointer (some ⟨w.heap.size + 1 + 1 + 1, 0, none⟩)], .slice x.A x.v.length x.c, undef], defers := [] } ∧ Hid (TellV x W))
    (fun x a' s W W' row h hg hr => ⟨h.1, Lib.hid (tellV_grown h.2.out hg (fun r e => (hr r e).2))⟩) ?assign ?body ?done ?stop
  case assign =>
    intro l pre x W K hI hG hK
    have HG := Lib.hid hG
    have HK := Lib.hid hK
    have HI := Lib.hid hI
    clear hG hK hI
    simp only [encV]
    gi_wp2
    exact HK.out _ _ (KeepsFrom.refl _ _) (KeepT.refl _) HI.out ⟨rfl, HG⟩
  case body =>
    rintro l pre ⟨xA, xc, xv⟩ a' W ⟨⟨⟨rfl, hb0, hb1⟩, hbel⟩, hsz⟩ ⟨rfl, hT⟩ hlen
    simp only
    obtain ⟨q, hq⟩ : ∃ q, xv.length = q := ⟨_, rfl⟩
    have HQ := Lib.hid hq
    simp only [hq]
    clear hq
    have z1 := hb1.other (B' := w.heap.size) (by omega) (.slice xA q xc)
    have c0 := hb0.cell
    have c1 := z1.cell
    have f0 := hb0.frozen
    have f1 := z1.frozen
    have HBx : Hid (Boxed ((W.setCell ⟨w.heap.size, 0, none⟩ (.slice xA q xc)).setCell ⟨w.heap.size + 1, 0, none⟩ (.bool true)) w.heap.size 24 (.slice xA q xc) ∧ Boxed ((W.setCell ⟨w.heap.size, 0, none⟩ (.slice xA q xc)).setCell ⟨w.heap.size + 1, 0, none⟩ (.bool true)) (w.heap.size + 1) 4 (.bool true)) := Lib.hid ⟨(hb0.set _).other (by omega) _, z1.set _⟩
    have HBl : Hid (Below w.heap.size w ((W.setCell ⟨w.heap.size, 0, none⟩ (.slice xA q xc)).setCell ⟨w.heap.size + 1, 0, none⟩ (.bool true))) := Lib.hid ((hbel.setCell (p := ⟨w.heap.size, 0, none⟩) (Nat.le_refl _) _).setCell (p := ⟨w.heap.size + 1, 0, none⟩) (by show w.heap.size ≤ w.heap.size + 1; omega) _)
    have HT : Hid (TellV ⟨xA, xc, xv⟩ ((W.setCell ⟨w.heap.size, 0, none⟩ (.slice xA q xc)).setCell ⟨w.heap.size + 1, 0, none⟩ (.bool true))) := Lib.hid ((hT.out.set hb0 (by decide) _).set z1 (by decide) _)
    clear hT hb0 hb1 z1
    gi_wp2
    refine ⟨((KeepsOthers.setCell _ _ _).trans (KeepsOthers.setCell _ _ _)).from _, ⟨⟨xA, xc, xv⟩, rfl, HT.out, ?_, HBx.out.2⟩, HBl.out⟩
    simp only [HQ.out]
    exact HBx.out.1
  case done =>
    rintro D ys W hD hS ⟨⟨⟨rfl, hb0, hb1⟩, hbel⟩, hsz⟩ hK
    have HR : Hid (findR xs kd = ([], false)) := Lib.hid (by unfold findR; rw [← show [] = vals xs kd from hS])
    clear hS
    have c0 := hb0.cell
    have f0 := hb0.frozen
    have z1 := hb1.other (B' := w.heap.size) (by omega) (.slice none 0 0)
    have c1 := z1.cell
    have f1 := z1.frozen
    have y0 := (hb0.set (.slice none 0 0)).other (B' := w.heap.size + 1) (by omega) (.bool false)
    have y1 := z1.set (.bool false)
    have HBl : Hid (Below w.heap.size w ((W.setCell ⟨w.heap.size, 0, none⟩ (.slice none 0 0)).setCell ⟨w.heap.size + 1, 0, none⟩ (.bool false))) := Lib.hid ((hbel.setCell (p := ⟨w.heap.size, 0, none⟩) (Nat.le_refl _) _).setCell (p := ⟨w.heap.size + 1, 0, none⟩) (by show w.heap.size ≤ w.heap.size + 1; omega) _)
    have hK2 := ((KeepsOthers.setCell W ⟨w.heap.size, 0, none⟩ (.slice none 0 0)).trans (KeepsOthers.setCell _ ⟨w.heap.size + 1, 0, none⟩ (.bool false))).same D _ hK rfl
    gi_wp2
    refine ⟨by simp, .inl ⟨_, _, rfl, run_takeDeferred hK2, ?_⟩⟩
    have r0 := cell_kept y0.cell (grownBy_putObj' _ D (.deferred none)) (fun r e => by cases e; exact ⟨_, hK2, rfl⟩)
    have r1 := cell_kept y1.cell (grownBy_putObj' _ D (.deferred none)) (fun r e => by cases e; exact ⟨_, hK2, rfl⟩)
    refine ⟨.tuple #[.slice none 0 0, .bool false], ?_, ?_⟩
    · simp [results, Try.f18, go_sem, r0, r1]
    · rw [HR.out]
      exact ⟨none, 0, rfl, Nat.le_refl _, ⟨by simp, fun z hz => by cases hz⟩, .inl rfl, HBl.out.trans (below_put _ (by omega) hK2)⟩
  case stop =>
    rintro D pre W hD hSp ⟨⟨⟨xA, xc, xv⟩, rfl, hT, hb0, hb1⟩, hbel⟩ hK
    have HR : Hid (findR xs kd = (xv, true)) := Lib.hid (by
      obtain ⟨t, ht⟩ := hSp
      unfold findR
      rw [← ht]; rfl)
    clear hSp
    simp only at hb0
    gi_wp2
    refine ⟨by simp, .inl ⟨_, _, rfl, run_takeDeferred hK, ?_⟩⟩
    have r0 := cell_kept hb0.cell (grownBy_putObj' _ D (.deferred none)) (fun r e => by cases e; exact ⟨_, hK, rfl⟩)
    have r1 := cell_kept hb1.cell (grownBy_putObj' _ D (.deferred none)) (fun r e => by cases e; exact ⟨_, hK, rfl⟩)
    refine ⟨.tuple #[.slice xA xv.length xc, .bool true], ?_, ?_⟩
    · simp [results, Try.f18, go_sem, r0, r1]
    · rw [HR.out]
      have hT2 : TellV ⟨xA, xc, xv⟩ (W.putObj D (.deferred none)) := tellV_grown hT (grownBy_putObj' _ D (.deferred none)) (fun r e => by cases e; exact ⟨_, hK, rfl⟩)
      exact ⟨xA, xc, rfl, hT2.2.1, hT2.1, hT2.read, hbel.trans (below_put _ (by omega) hK)⟩
end Go.Proofs.Ytpbfnkicbejdbaa.Ad
