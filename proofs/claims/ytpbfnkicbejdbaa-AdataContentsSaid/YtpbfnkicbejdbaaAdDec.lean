/- The elements that bytes are: contracts over the program. -/
import Derived.Test.YtpbfnkicbejdbaaAdIter
set_option linter.unusedVariables false
set_option linter.unusedSimpArgs false
namespace Go.Proofs.Ytpbfnkicbejdbaa.Ad
open Go.RowKit Go.Shelf Mem Rw Oct
open Base (thenB later kept)
attribute [local go_sem] Oper.semAt_some

theorem info_el : (Try.prog.info? 49).map (fun i => (i.zero, i.size, i.bytes)) = some (some (.agg #[.int .i64 0, .slice none 0 0]), 2, 32) := by kernel_rfl
theorem below_put {b0 : Nat} {W : World} {l : Nat} {o : Obj} (o' : Obj) (hl : b0 ≤ l) (h : W.heap[l]? = some o) : Below b0 W (W.putObj l o') :=
  (Below.refl b0 W).grown (grownBy_putObj' W l o') (by have := (Array.getElem?_eq_some_iff.1 h).1; omega) (fun k e => by cases e; omega)
theorem own_grown {W W' : World} {row : Option Nat} {base size n : Nat} {e : TypeId} {v : Value} {xs : List Value} (h : W.ownsRow base e size v n xs) (hg : W.grownBy W' row) (hr : ∀ r, row = some r → ∃ o : Obj, W.heap[r]? = some o ∧ o.isCells = false) : W'.ownsRow base e size v n xs := by
  refine h.kept hg ?_
  rcases h.2 with ⟨rfl, _⟩ | ⟨g, cap, cur, rfl, _, hgb, _⟩
  · exact .inl rfl
  · refine .inr fun e' => ?_
    obtain ⟨o, ho, hc⟩ := hr g (by simpa [Value.ownBlock] using e'.symm)
    rw [hgb] at ho; cases ho; cases hc
theorem mines_own {β : Type} (base B : Nat) (f : β → List El) : OwnFrom B (fun s W => ∀ x ∈ f s, Mine W base x ∧ x.v.length ≤ 31) := fun s W W' row hs hg hr x hx =>
  ⟨own_grown (hs x hx).1 hg (fun r e => (hr r e).2), (hs x hx).2⟩
theorem blk_grown {W W' : World} {row : Option Nat} {g : Nat} {t : TypeId} {cs : Array Value} (h : Blk W g t cs) (hg : W.grownBy W' row) (hr : ∀ r, row = some r → ∃ o : Obj, W.heap[r]? = some o ∧ o.isCells = false) : Blk W' g t cs := by
  have hl := h.lt
  unfold Blk at *
  rw [hg.block g hl (fun e => by obtain ⟨o, ho, hc⟩ := hr g e.symm; rw [h] at ho; cases ho; cases hc)]
  exact h
theorem Mine.alloc {w : World} {base : Nat} {x : El} (h : Mine w base x) (o : Obj) : Mine (w.alloc o) base x := World.ownsRow.alloc h o
theorem cells_new (w : World) (xs : List Value) (cs : Array Value) (e : TypeId) (h : cs = xs.toArray) : ∀ (j : Nat) u, xs[j]? = some u → (w.alloc (.cells cs e)).cell? ((⟨w.heap.size, 0, none⟩ : Addr).add j) = some u := by
  intro j u hj
  rw [plain_add, World.cell?_alloc_at _ _ _ _ rfl, h]
  simpa using hj
/-- What Decode makes. -/
def Decd (w w' : World) (e : Ending) (r : List E × Int) : Prop :=
  ∃ (LA : Option Addr) (lc : Nat) (l : List El), e = .returned (.tuple #[.slice LA l.length lc, .int .i64 r.2]) ∧ l.map El.e = r.1 ∧ w'.ownsRow w.heap.size 49 2 (.slice LA l.length lc) l.length (l.flatMap encE) ∧ (∀ x ∈ l, Mine w' w.heap.size x ∧ x.v.length ≤ 31) ∧ Below w.heap.size w w'
theorem decd_err {w w' : World} {e : Ending} {r : List E × Int} {x : Int} (hr : r = ([], x)) (he : e = .returned (.tuple #[.slice none 0 0, .int .i64 x])) (hb : Below w.heap.size w w') : Decd w w' e r := by
  subst hr
  exact ⟨none, 0, [], he, rfl, World.ownsRow_nil _ _ _ _, by simp, hb⟩
set_option maxHeartbeats 2000000 in
theorem decode_long (A : Option Addr) (n c : Nat) (xs : List Int) (w : World) (hx : xs.length = n) (hn : 31 < n) (hm : n ≤ 140737488355328) :
    Calls Try.prog 14 #[.slice A n c] w fun e w' => Decd w w' e (decR xs) := by
  have HR : Hid (decR xs = ([], 4)) := Lib.hid (by unfold decR; rw [if_pos (by omega)])
  have g1 : (31 : Int) < (n : Int) := by omega
  clear hx
  have b0 := (Boxed.new w 22 (.slice none 0 0)).alloc (.cells #[.int .i64 0] 25)
  have b1 := Boxed.new (w.alloc (.cells #[.slice none 0 0] 22)) 25 (.int .i64 0)
  rw [World.size_alloc] at b1
  have hB := ((Below.refl w.heap.size w).alloc (Nat.le_refl _) (.cells #[.slice none 0 0] 22)).alloc (by simp) (.cells #[.int .i64 0] 25)
  go_enter Try.func14, Try.ntmps14
  go_upto_region 2 with fail
  generalize (w.alloc (.cells #[.slice none 0 0] 22)).alloc (.cells #[.int .i64 0] 25) = W at *
  have c0 := b0.cell
  have c1 := b1.cell
  have d0 := b0.set (.slice none 0 0)
  have d1 := b1.other (B' := w.heap.size) (by omega) (.slice none 0 0)
  have f0 := b0.frozen
  have f1 := d1.frozen
  have e0 := (d0.other (B' := w.heap.size + 1) (by omega) (.int .i64 4)).cell
  have e1 := (d1.set (.int .i64 4)).cell
  have k1 := d1.cell
  have hB := (hB.setCell (p := ⟨w.heap.size, 0, none⟩) (Nat.le_refl _) (.slice none 0 0)).setCell (p := ⟨w.heap.size + 1, 0, none⟩) (by show w.heap.size ≤ w.heap.size + 1; omega) (.int .i64 4)
  go_wp2_with fail
  refine bodyPost_ret (v := .tuple #[.slice none 0 0, .int .i64 4]) ?_ rfl (decd_err HR.out rfl hB)
  simp [results, Try.f14, go_sem, e0, e1]
theorem elements_tells (n : Nat) (hn : 1 ≤ n) (g b0 : Nat) (A0 : Option Addr) (m c0 : Nat) (xs : List Int) (hx : xs.length = m) (hm : m ≤ 31) (hc0 : m ≤ c0) (bx : Bytes xs) (w : World) (hb0 : b0 ≤ w.heap.size) (bB : Boxed w g 24 (.slice A0 m c0)) (hr : Ints .u8 w b0 A0 xs) :
    Tells Fence.wide Try.prog n 33 #[.pointer (some ⟨g, 0, none⟩)] encY (Below b0) (Tell b0) (DoneY xs) (PartY xs) 32 w := fun l J Jx W hW hJ hY h0 =>
  elements1_in n hn l g b0 A0 m c0 xs hx hm hc0 bx J Jx W hJ (Nat.le_trans hb0 hW.size) hY (boxed_below bB hW) (hr.below (hW.mono hb0)) h0
def heads (pre : List (El × Int)) : List El := pre.map (·.1)
theorem heads_snoc (pre : List (El × Int)) (x : El × Int) : heads (pre ++ [x]) = heads pre ++ [x.1] := by simp [heads]
/-- Between two rounds; behind a return. -/
def InvD (w V : World) (pre : List (El × Int)) (W : World) : Prop := (((((∃ v, Boxed W (w.heap.size + 1 + 1) 22 v ∧ W.ownsRow w.heap.size 49 2 v (heads pre).length ((heads pre).flatMap encE) ∧ True) ∧ (∀ x ∈ heads pre, Mine W w.heap.size x ∧ x.v.length ≤ 31)) ∧ (Boxed W w.heap.size 22 (.slice none 0 0) ∧ Boxed W (w.heap.size + 1) 25 (.int .i64 0))) ∧ (pre.length = (heads pre).length ∧ ∀ p ∈ pre, p.2 = 0)) ∧ Below w.heap.size w W) ∧ V.heap.size ≤ W.heap.size
def OutD (w : World) (pre : List (El × Int)) (W : World) : Prop := (∃ k x, pre = k ++ [x] ∧ x.2 ≠ 0 ∧ Boxed W w.heap.size 22 (.slice none 0 0) ∧ Boxed W (w.heap.size + 1) 25 (.int .i64 x.2)) ∧ Below w.heap.size w W
theorem invD_own (w V : World) (hs : V.heap.size = w.heap.size + 4) : OwnFrom V.heap.size (InvD w V) :=
  ((OwnFrom.and (OwnFrom.and (OwnFrom.and (OwnFrom.and (OwnFrom.and (Own.from (holdsRow_own w.heap.size (w.heap.size + 1 + 1) 22 49 2 (fun pre => (heads pre).length) (fun pre => (heads pre).flatMap encE) (fun _ _ => True)) _) (mines_own _ _ heads)) (OwnFrom.and (Own.from (boxed_own _ _ _) _) (Own.from (boxed_own _ _ _) _))) (ownFrom_pure _ _)) (ownFrom_below (Nat.le_refl _) (by omega))) (fun _ _ _ _ hs hg _ => Nat.le_trans hs hg.size)) : OwnFrom V.heap.size (fun (pre : List (El × Int)) (W : World) => (((((∃ v, Boxed W (w.heap.size + 1 + 1) 22 v ∧ W.ownsRow w.heap.size 49 2 v (heads pre).length ((heads pre).flatMap encE) ∧ True) ∧ (∀ x ∈ heads pre, Mine W w.heap.size x ∧ x.v.length ≤ 31)) ∧ (Boxed W w.heap.size 22 (.slice none 0 0) ∧ Boxed W (w.heap.size + 1) 25 (.int .i64 0))) ∧ (pre.length = (heads pre).length ∧ ∀ p ∈ pre, p.2 = 0)) ∧ Below w.heap.size w W) ∧ V.heap.size ≤ W.heap.size))
theorem outD_own (w V : World) (hs : V.heap.size = w.heap.size + 4) : OwnFrom V.heap.size (OutD w) :=
  ((OwnFrom.and (fun s W W' row h hg hr => by
      obtain ⟨k, x, e, hne, h0, h1⟩ := h
      exact ⟨k, x, e, hne, boxed_own w.heap.size 22 (fun _ : Unit => .slice none 0 0) () W W' row h0 hg (fun r e => (hr r e).2), boxed_own (w.heap.size + 1) 25 (fun _ : Unit => .int .i64 x.2) () W W' row h1 hg (fun r e => (hr r e).2)⟩) (ownFrom_below (Nat.le_refl _) (by omega))) : OwnFrom V.heap.size (fun (pre : List (El × Int)) (W : World) => (∃ k x, pre = k ++ [x] ∧ x.2 ≠ 0 ∧ Boxed W w.heap.size 22 (.slice none 0 0) ∧ Boxed W (w.heap.size + 1) 25 (.int .i64 x.2)) ∧ Below w.heap.size w W))
set_option maxRecDepth 100000 in
set_option maxHeartbeats 4000000 in
theorem decode_main (A : Option Addr) (n c : Nat) (xs : List Int) (w : World) (hx : xs.length = n) (hn : n ≤ 31) (hnc : n ≤ c) (bx : Bytes xs) (hr : Ints .u8 w w.heap.size A xs) :
    Calls Try.prog 14 #[.slice A n c] w fun e w' => Decd w w' e (decR xs) := by
  obtain ⟨i0, hi, hz0, hz1, hz2, hz3⟩ := info_parts2 info_el rfl
  have g1 : ¬ (31 : Int) < (n : Int) := by omega
  have HRun : Hid (decR xs = run 32 [] xs) := Lib.hid (by unfold decR; rw [if_neg (by omega)])
  refine (callsIn_wide (n := 3)).1 ?_
  refine callsIn_of_wp_marks Try.func14 rfl trivial ?_ rfl
  simp only [Try.ntmps14, List.size_toArray, List.length_cons, List.length_nil, Nat.reduceAdd, Nat.reduceSub, Array.replicate_succ, Array.replicate_zero, List.push_toArray, List.append_toArray, List.nil_append, List.cons_append]
  gi_wp2_with (refine ⟨trivial, ?_⟩; gi_at_call 27; refine (callsIn_wide.2 (elements_any _ _ _ _)).mono ?_; rintro e w2 ⟨rfl, rfl⟩)
  have b0 := (((Boxed.new w 22 (.slice none 0 0)).alloc (.cells #[.int .i64 0] 25)).alloc (.cells #[.slice none 0 0] 22)).alloc (.cells #[.slice A n c] 24)
  have b1 := ((Boxed.new (w.alloc (.cells #[.slice none 0 0] 22)) 25 (.int .i64 0)).alloc (.cells #[.slice none 0 0] 22)).alloc (.cells #[.slice A n c] 24)
  have b2 := (Boxed.new ((w.alloc (.cells #[.slice none 0 0] 22)).alloc (.cells #[.int .i64 0] 25)) 22 (.slice none 0 0)).alloc (.cells #[.slice A n c] 24)
  have b3 := Boxed.new (((w.alloc (.cells #[.slice none 0 0] 22)).alloc (.cells #[.int .i64 0] 25)).alloc (.cells #[.slice none 0 0] 22)) 24 (.slice A n c)
  simp only [World.size_alloc] at b1 b2 b3
  have hB : Below w.heap.size w _ := ((((Below.refl w.heap.size w).alloc (Nat.le_refl _) (.cells #[.slice none 0 0] 22)).alloc (by simp) (.cells #[.int .i64 0] 25)).alloc (by simp; omega) (.cells #[.slice none 0 0] 22)).alloc (by simp; omega) (.cells #[.slice A n c] 24)
  have hs : ((((w.alloc (.cells #[.slice none 0 0] 22)).alloc (.cells #[.int .i64 0] 25)).alloc (.cells #[.slice none 0 0] 22)).alloc (.cells #[.slice A n c] 24)).heap.size = w.heap.size + 4 := by simp
  generalize (((w.alloc (.cells #[.slice none 0 0] 22)).alloc (.cells #[.int .i64 0] 25)).alloc (.cells #[.slice none 0 0] 22)).alloc (.cells #[.slice A n c] 24) = V at *
  refine wpIn_range_tells rfl (by omega) (gf := 33) (lb := #[.pointer (some ⟨w.heap.size + 1 + 1 + 1, 0, none⟩)]) rfl trivial (enters_of Try.func33 (by kernel_rfl) rfl)
    (elements_tells (3 - 1) (by omega) (w.heap.size + 1 + 1 + 1) w.heap.size A n c xs hx hn hnc bx V (by omega) b3 (hr.below hB)) (fun h k => h.trans k) (fun W l o o' hl ho hc => below_put o' (by omega) ho) (fun _ => rfl)
    (InvD w V) (OutD w)
    (invD_own w V hs) (outD_own w V hs)
    ⟨⟨⟨⟨⟨⟨_, b2, World.ownsRow_nil _ _ _ _, trivial⟩, by simp [heads]⟩, b0, b1⟩, rfl, by simp⟩, hB⟩, Nat.le_refl _⟩
    (fun x a' W => ∃ Bx, (V.heap.size ≤ Bx ∧ a' = { tmps := #[.slice A n c, undef, .pointer (some ⟨w.heap.size, 0, none⟩), .pointer (some ⟨w.heap.size + 1, 0, none⟩), .pointer (some ⟨w.heap.size + 1 + 1, 0, none⟩), .pointer (some ⟨Bx, 0, none⟩), .int .i64 x.2, .slice A n c, .int .i64 (n : Int), .bool false, .slice A n c, .func (.func 33) #[] #[.pointer (some ⟨w.heap.size + 1 + 1 + 1, 0, none⟩)], .agg #[.int .i64 x.1.k, .slice x.1.A x.1.v.length x.1.c], .int .i64 x.2, undef, undef, undef, undef, undef, undef, undef, undef], defers := [] }) ∧ Blk W Bx 49 #[.int .i64 x.1.k, .slice x.1.A x.1.v.length x.1.c] ∧ Hid (Tell w.heap.size x W))
    (fun x a' s W W' row h hg hr => by
      obtain ⟨Bx, h1, h2, h3⟩ := h
      exact ⟨Bx, h1, blk_grown h2 hg (fun r e => (hr r e).2), Lib.hid fun h0 => ⟨own_grown (h3.out h0).1 hg (fun r e => (hr r e).2), (h3.out h0).2⟩⟩) ?assign ?body ?done ?stop
  case assign =>
    intro l pre x W K hI hG hK
    obtain ⟨⟨⟨⟨⟨⟨v, hv, hrow, ht⟩, hm⟩, hb0, hb1⟩, hp⟩, hbel⟩, hsz⟩ := hI
    have HG := Lib.hid hG
    have HK := Lib.hid hK
    clear hG hK
    simp only [encY]
    gi_wp2
    exact HK.out _ _ ((KeepsOthers.alloc _ _).from _) ((Below.refl _ W).alloc hbel.size _) ⟨⟨⟨⟨⟨⟨v, hv.alloc _, hrow.alloc _, ht⟩, fun y hy => ⟨(hm y hy).1.alloc _, (hm y hy).2⟩⟩, hb0.alloc _, hb1.alloc _⟩, hp⟩, hbel.alloc hbel.size _⟩, by simp; omega⟩ ⟨W.heap.size, ⟨hsz, rfl⟩, Blk.fresh W _ _, Lib.hid fun h0 => ⟨(HG.out h0).1.alloc _, (HG.out h0).2⟩⟩
  case body =>
    rintro l pre ⟨⟨k0, EA, ec, ev⟩, er⟩ a' W ⟨⟨⟨⟨⟨⟨v, hv, hrow, _⟩, hm⟩, hb0, hb1⟩, hp⟩, hbel⟩, hsz⟩ ⟨Bx, ⟨hBx, rfl⟩, hE, hT⟩ hlen
    simp only at hE hT ⊢
    have HP := Lib.hid hp
    have HS := Lib.hid (heads_snoc pre (⟨k0, EA, ec, ev⟩, er))
    have hlk : (heads pre).length < 32 := by rw [← hp.1]; exact hlen
    by_cases he : er = 0
    · subst he
      have HM : Hid (Mine W w.heap.size ⟨k0, EA, ec, ev⟩ ∧ ev.length ≤ 31) := Lib.hid (hT.out rfl)
      have HH := Lib.hid hm
      obtain ⟨j, hj⟩ : ∃ j, ev.length = j := ⟨_, rfl⟩
      simp only [hj] at hE
      have HJ := Lib.hid hj
      simp only [hj]
      have c2 := hv.cell
      have e0 : W.cell? ⟨Bx, 0, none⟩ = some (.int .i64 k0) := hE.cell 0
      have e1 : W.cell? ⟨Bx, 1, none⟩ = some (.slice EA j ec) := hE.cell 1
      clear hj hm hp hE hT hlen
      generalize heads pre = F at *
      obtain ⟨q, hq⟩ : ∃ q, F.length = q := ⟨_, rfl⟩
      rw [hq] at hrow hlk
      have HQ := Lib.hid hq
      clear hq
      gi_wp2_with (gi_at_builtin; refine wpListIn_append_own _ rfl _ _ 22 rfl w.heap.size 49 i0 _ 2 32 Try.underlying22 hi hz0 hz1 hz2 hz3 (by decide) _ _ _ rfl (hrow.alloc _) ⟨W.heap.size, 0, none⟩ 1 1 [.int .i64 k0, .slice EA j ec] rfl rfl (cells_new _ _ _ _ rfl) (by simp [Value.oneCell']) (by unfold maxLen; omega) (by omega) (by have := hbel.size; simp; omega) ?_; intro v' w1 hown' hgrow _; obtain ⟨g', cap', rfl⟩ := ownsRow_succ hown'; obtain ⟨hv1, hv2, hr2, hk2, hb2⟩ := hv.appended (by decide) hrow hbel.size (by omega) hown' hgrow; have hc1 := hv1.cell; have hf1 := hv1.frozen; have HR : Hid (W.ownsRow w.heap.size 49 2 v q (F.flatMap encE) ∧ (W.alloc (.cells #[.int .i64 k0, .slice EA j ec] 49)).grownBy w1 v.ownBlock) := Lib.hid ⟨hrow, hgrow⟩)
      have HMo : ∀ y : El, Mine W w.heap.size y → Mine (w1.setCell ⟨w.heap.size + 1 + 1, 0, none⟩ (.slice (some ⟨g', 0, none⟩) (q + 1) cap')) w.heap.size y := fun y hy =>
        own_set (own_other (hy.alloc (.cells #[.int .i64 k0, .slice EA j ec] 49)) (HR.out.1.alloc (.cells #[.int .i64 k0, .slice EA j ec] 49)) (by decide) HR.out.2) hv1 (by decide) 0 _
      have x0 := ((hb0.alloc (.cells #[.int .i64 k0, .slice EA j ec] 49)).kept HR.out.2 ((hb0.alloc (.cells #[.int .i64 k0, .slice EA j ec] 49)).not_row (by decide) (HR.out.1.alloc (.cells #[.int .i64 k0, .slice EA j ec] 49)))).other (B' := w.heap.size + 1 + 1) (by omega) (.slice (some ⟨g', 0, none⟩) (q + 1) cap')
      have x1 := ((hb1.alloc (.cells #[.int .i64 k0, .slice EA j ec] 49)).kept HR.out.2 ((hb1.alloc (.cells #[.int .i64 k0, .slice EA j ec] 49)).not_row (by decide) (HR.out.1.alloc (.cells #[.int .i64 k0, .slice EA j ec] 49)))).other (B' := w.heap.size + 1 + 1) (by omega) (.slice (some ⟨g', 0, none⟩) (q + 1) cap')
      refine ⟨hk2.from _, hb2, ⟨⟨⟨⟨⟨⟨_, hv2, ?_, trivial⟩, ?_⟩, x0, x1⟩, ?_, ?_⟩, hbel.trans hb2⟩, by have := hb2.size; omega⟩⟩
      · rw [HS.out, List.length_append, List.length_singleton, HQ.out, flat_append]
        have e : List.flatMap encE [(⟨k0, EA, ec, ev⟩ : El)] = [.int .i64 k0, .slice EA j ec] := by simp [encE, HJ.out]
        rw [e]; exact hr2
      · rw [HS.out]
        intro y hy
        rcases List.mem_append.mp hy with hy | hy
        · exact ⟨HMo y (HH.out y hy).1, (HH.out y hy).2⟩
        · rw [List.mem_singleton.mp hy]; exact ⟨HMo _ HM.out.1, HM.out.2⟩
      · rw [HS.out]; simp [HP.out.1]
      · intro p hp
        rcases List.mem_append.mp hp with hp | hp
        · exact HP.out.2 p hp
        · rw [List.mem_singleton.mp hp]
    · have d0 : (er == 0) = false := by simpa using he
      have HN := Lib.hid he
      have HBx : Hid (Boxed ((W.setCell ⟨w.heap.size, 0, none⟩ (.slice none 0 0)).setCell ⟨w.heap.size + 1, 0, none⟩ (.int .i64 er)) w.heap.size 22 (.slice none 0 0) ∧ Boxed ((W.setCell ⟨w.heap.size, 0, none⟩ (.slice none 0 0)).setCell ⟨w.heap.size + 1, 0, none⟩ (.int .i64 er)) (w.heap.size + 1) 25 (.int .i64 er)) := Lib.hid ⟨(hb0.set _).other (by omega) _, (hb1.other (by omega) _).set _⟩
      have z1 := hb1.other (B' := w.heap.size) (by omega) (.slice none 0 0)
      have k0' := hb0.cell
      have k1' := z1.cell
      have f0 := hb0.frozen
      have f1 := z1.frozen
      have HBl : Hid (Below w.heap.size w ((W.setCell ⟨w.heap.size, 0, none⟩ (.slice none 0 0)).setCell ⟨w.heap.size + 1, 0, none⟩ (.int .i64 er))) := Lib.hid ((hbel.setCell (p := ⟨w.heap.size, 0, none⟩) (Nat.le_refl _) _).setCell (p := ⟨w.heap.size + 1, 0, none⟩) (by show w.heap.size ≤ w.heap.size + 1; omega) _)
      clear he hT hE hm hp hrow hv
      gi_wp2
      exact ⟨((KeepsOthers.setCell _ _ _).trans (KeepsOthers.setCell _ _ _)).from _, ⟨pre, _, rfl, HN.out, HBx.out.1, HBx.out.2⟩, HBl.out⟩
  case done =>
    rintro D ys W hD hS ⟨⟨⟨⟨⟨⟨v, hv, hrow, _⟩, hm⟩, hb0, hb1⟩, hp⟩, hbel⟩, hsz⟩ hK
    obtain ⟨LA, lc, rfl⟩ := own_form hrow
    have HR : Hid (decR xs = ((heads ys).map El.e, 0)) := Lib.hid (by rw [HRun.out, hS.2 hp.2]; simp [heads])
    have HM := Lib.hid hm
    obtain ⟨q, hq⟩ : ∃ q, (heads ys).length = q := ⟨_, rfl⟩
    rw [hq] at hrow hv
    have HQ := Lib.hid hq
    have HO := Lib.hid hrow
    clear hq hm hp hS hrow
    generalize heads ys = F at *
    have c2 := hv.cell
    have k0' := hb0.cell
    have f0 := hb0.frozen
    have z1 := hb1.other (B' := w.heap.size) (by omega) (.slice LA q lc)
    have k1' := z1.cell
    have f1 := z1.frozen
    have y0 := (hb0.set (.slice LA q lc)).other (B' := w.heap.size + 1) (by omega) (.int .i64 0)
    have y1 := z1.set (.int .i64 0)
    have HBl : Hid (Below w.heap.size w ((W.setCell ⟨w.heap.size, 0, none⟩ (.slice LA q lc)).setCell ⟨w.heap.size + 1, 0, none⟩ (.int .i64 0))) := Lib.hid ((hbel.setCell (p := ⟨w.heap.size, 0, none⟩) (Nat.le_refl _) _).setCell (p := ⟨w.heap.size + 1, 0, none⟩) (by show w.heap.size ≤ w.heap.size + 1; omega) _)
    have HOw : Hid (((W.setCell ⟨w.heap.size, 0, none⟩ (.slice LA q lc)).setCell ⟨w.heap.size + 1, 0, none⟩ (.int .i64 0)).ownsRow w.heap.size 49 2 (.slice LA q lc) q (F.flatMap encE)) := Lib.hid (own_set (own_set HO.out hb0 (by decide) 0 _) z1 (by decide) 0 _)
    have HMi : Hid (∀ x ∈ F, Mine ((W.setCell ⟨w.heap.size, 0, none⟩ (.slice LA q lc)).setCell ⟨w.heap.size + 1, 0, none⟩ (.int .i64 0)) w.heap.size x ∧ x.v.length ≤ 31) := Lib.hid fun x hx => ⟨own_set (own_set (HM.out x hx).1 hb0 (by decide) 0 _) z1 (by decide) 0 _, (HM.out x hx).2⟩
    have hK2 := ((KeepsOthers.setCell W ⟨w.heap.size, 0, none⟩ (.slice LA q lc)).trans (KeepsOthers.setCell _ ⟨w.heap.size + 1, 0, none⟩ (.int .i64 0))).same D _ hK rfl
    gi_wp2
    refine ⟨by simp, .inl ⟨_, _, rfl, run_takeDeferred hK2, ?_⟩⟩
    have r0 := cell_kept y0.cell (grownBy_putObj' _ D (.deferred none)) (fun r e => by cases e; exact ⟨_, hK2, rfl⟩)
    have r1 := cell_kept y1.cell (grownBy_putObj' _ D (.deferred none)) (fun r e => by cases e; exact ⟨_, hK2, rfl⟩)
    refine ⟨.tuple #[.slice LA q lc, .int .i64 0], ?_, ?_⟩
    · simp [results, Try.f14, go_sem, r0, r1]
    · refine ⟨LA, lc, F, by rw [HR.out, HQ.out], by rw [HR.out], ?_, fun x hx => ⟨own_grown (HMi.out x hx).1 (grownBy_putObj' _ D (.deferred none)) (fun r e => by cases e; exact ⟨_, hK2, rfl⟩), (HMi.out x hx).2⟩, HBl.out.trans (below_put _ (by omega) hK2)⟩
      rw [HQ.out]
      exact own_grown HOw.out (grownBy_putObj' _ D (.deferred none)) (fun r e => by cases e; exact ⟨_, hK2, rfl⟩)
  case stop =>
    rintro D pre W hD hSp ⟨⟨k, x, rfl, hne, hb0, hb1⟩, hbel⟩ hK
    have HR : Hid (decR xs = ([], x.2)) := Lib.hid (by rw [HRun.out]; exact hSp x (by simp) hne)
    clear hSp
    obtain ⟨xe, er⟩ := x
    simp only at hne hb1 HR
    gi_wp2
    refine ⟨by simp, .inl ⟨_, _, rfl, run_takeDeferred hK, ?_⟩⟩
    have r0 := cell_kept hb0.cell (grownBy_putObj' _ D (.deferred none)) (fun r e => by cases e; exact ⟨_, hK, rfl⟩)
    have r1 := cell_kept hb1.cell (grownBy_putObj' _ D (.deferred none)) (fun r e => by cases e; exact ⟨_, hK, rfl⟩)
    refine ⟨.tuple #[.slice none 0 0, .int .i64 er], ?_, decd_err HR.out rfl (hbel.trans (below_put _ (by omega) hK))⟩
    simp [results, Try.f14, go_sem, r0, r1]
theorem decode_any (A : Option Addr) (n c : Nat) (xs : List Int) (w : World) (hx : xs.length = n) (hnc : n ≤ c) (hm : n ≤ 140737488355328) (bx : Bytes xs) (hr : Ints .u8 w w.heap.size A xs) :
    Calls Try.prog 14 #[.slice A n c] w fun e w' => Decd w w' e (decR xs) := by
  by_cases h : n ≤ 31
  · exact decode_main A n c xs w hx h hnc bx hr
  · exact decode_long A n c xs w hx (by omega) hm
end Go.Proofs.Ytpbfnkicbejdbaa.Ad
