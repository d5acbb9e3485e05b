/- Control procedures: Answer, Quiet, the document's New, sameness of states: contracts over the program. -/
import Derived.Test.YtpoagepchlfemaaPcW9
set_option linter.unusedVariables false
set_option linter.unusedSimpArgs false
namespace Go.Proofs.Ytpoagepchlfemaa.Pc
open Go.RowKit Mem Rw Cp
open Base (thenB)
open Av (Row)

theorem row_form {w : World} {m n : Nat} {V : Value} {ys : List Value} (h : Row w m V n ys) : ∃ A c, V = .slice A n c := by
  obtain ⟨A, c, e, _⟩ := h; exact ⟨A, c, e⟩
theorem row_at {w : World} {m n c : Nat} {A : Option Addr} {ys : List Value} (h : Row w m (.slice A n c) n ys) (hy : ys ≠ []) : ∃ b off, A = some ⟨b, off, none⟩ ∧ b < w.heap.size ∧ ∀ (q : Nat) u, ys[q]? = some u → w.cell? ⟨b, off + q, none⟩ = some u := by
  obtain ⟨A', c', e, _, h | ⟨b, off, e2, hm, hb, hq⟩⟩ := h
  · exact absurd h hy
  · injection e with e1 _ _
    exact ⟨b, off, by rw [e1, e2], hb, hq⟩
theorem row_lit {w : World} {m n : Nat} {ys : List Value} (t : TypeId) (cs : Array Value) (h : cs = ys.toArray) (hm : m ≤ w.heap.size) : Row (w.alloc (.cells cs t)) m (.slice (some ⟨w.heap.size, 0, none⟩) n n) n ys := by
  refine ⟨_, n, rfl, Nat.le_refl _, .inr ⟨w.heap.size, 0, rfl, hm, by simp, fun q u hu => ?_⟩⟩
  have := (Blk.fresh w t cs).cell q
  rw [Nat.zero_add, this, h]
  simpa using hu
theorem st_new {w X : World} {o : Obj} (G : Grw w.heap.size (w.alloc o) X) : Below w.heap.size w X := ((Below.refl _ _).alloc (Nat.le_refl _) o).trans (G.below (Nat.le_refl _) (by simp))
theorem chk_of {c : Ct} {ps : List Pt} (h : ptsK c.k = some ps) (h1 : c = usedC c ps) (h2 : errP c ps = 0) : chkC c = 0 := by
  unfold chkC; rw [h]; simp only; rw [if_pos h1]; exact h2
set_option maxRecDepth 100000 in
set_option maxHeartbeats 8000000 in
theorem Answer_yes (x : Pr) (salt : Int) (w : World) (h1 : x.V1 = nilV) (h2 : x.V2 = nilV) (he : x.en = 0) (hr : x.r = 1) (hc : x.cr = 1) : Calls Try.prog 17 #[.agg (prC x), .bool true, .int .u64 salt] w fun e w' => ∃ Q, e = .returned (.tuple #[.agg (prC { x with sa := salt, cr := 3 }), Q]) ∧ Row w' w.heap.size Q 2 (ctL { onlyK 4 with st := salt } ++ ctL (onlyK 5)) ∧ Below w.heap.size w w' := by
  have HCp : Hid (∀ X, Calls Try.prog 23 #[.agg (prC x)] X fun e w' => e = .returned (.agg (prC x)) ∧ Below X.heap.size X w') := Lib.hid fun X => copied_nil x X h1 h2
  obtain ⟨xr, xo, xs, V1, xq, xt, V2, xd, xf, xc, xk, xw, xv, xl, xm, xa, xp, xy, xz, xn⟩ := x
  simp only [nilV] at h1 h2 he hr hc
  subst h1; subst h2; subst he; subst hr; subst hc
  dsimp only [prC, nilV] at *
  have BX : Below w.heap.size w ((w.alloc (.cells #[.int .i64 1, .int .i64 xo, .int .i64 xs, .slice none 0 0, .int .i64 xq, .int .i64 xt, .slice none 0 0, .bool xd, .int .u64 xf, .int .u64 xc, .bool xk, .bool xw, .int .i64 xv, .int .i64 xl, .int .i64 xm, .int .u64 xa, .int .u64 xp, .int .u64 xy, .int .i64 1, .int .i64 0] 27)).alloc (.cells #[.int .i64 0, .int .i64 0, .int .i64 0, .slice none 0 0, .int .i64 0, .int .i64 0, .slice none 0 0, .bool false, .int .u64 0, .int .u64 0, .bool false, .bool false, .int .i64 0, .int .i64 0, .int .i64 0, .int .u64 0, .int .u64 0, .int .u64 0, .int .i64 0, .int .i64 0] 27)) := ((Below.refl _ _).alloc (Nat.le_refl _) _).alloc (by simp) _
  have K1 : Blk ((w.alloc (.cells #[.int .i64 1, .int .i64 xo, .int .i64 xs, .slice none 0 0, .int .i64 xq, .int .i64 xt, .slice none 0 0, .bool xd, .int .u64 xf, .int .u64 xc, .bool xk, .bool xw, .int .i64 xv, .int .i64 xl, .int .i64 xm, .int .u64 xa, .int .u64 xp, .int .u64 xy, .int .i64 1, .int .i64 0] 27)).alloc (.cells #[.int .i64 0, .int .i64 0, .int .i64 0, .slice none 0 0, .int .i64 0, .int .i64 0, .slice none 0 0, .bool false, .int .u64 0, .int .u64 0, .bool false, .bool false, .int .i64 0, .int .i64 0, .int .i64 0, .int .u64 0, .int .u64 0, .int .u64 0, .int .i64 0, .int .i64 0] 27)) w.heap.size 27 #[.int .i64 1, .int .i64 xo, .int .i64 xs, .slice none 0 0, .int .i64 xq, .int .i64 xt, .slice none 0 0, .bool xd, .int .u64 xf, .int .u64 xc, .bool xk, .bool xw, .int .i64 xv, .int .i64 xl, .int .i64 xm, .int .u64 xa, .int .u64 xp, .int .u64 xy, .int .i64 1, .int .i64 0] := (Blk.fresh _ _ _).alloc _
  have K2 : Blk ((w.alloc (.cells #[.int .i64 1, .int .i64 xo, .int .i64 xs, .slice none 0 0, .int .i64 xq, .int .i64 xt, .slice none 0 0, .bool xd, .int .u64 xf, .int .u64 xc, .bool xk, .bool xw, .int .i64 xv, .int .i64 xl, .int .i64 xm, .int .u64 xa, .int .u64 xp, .int .u64 xy, .int .i64 1, .int .i64 0] 27)).alloc (.cells #[.int .i64 0, .int .i64 0, .int .i64 0, .slice none 0 0, .int .i64 0, .int .i64 0, .slice none 0 0, .bool false, .int .u64 0, .int .u64 0, .bool false, .bool false, .int .i64 0, .int .i64 0, .int .i64 0, .int .u64 0, .int .u64 0, .int .u64 0, .int .i64 0, .int .i64 0] 27)) (w.heap.size + 1) 27 #[.int .i64 0, .int .i64 0, .int .i64 0, .slice none 0 0, .int .i64 0, .int .i64 0, .slice none 0 0, .bool false, .int .u64 0, .int .u64 0, .bool false, .bool false, .int .i64 0, .int .i64 0, .int .i64 0, .int .u64 0, .int .u64 0, .int .u64 0, .int .i64 0, .int .i64 0] := Av.Blk.next
  have H1 : (#[.int .i64 1, .int .i64 xo, .int .i64 xs, .slice none 0 0, .int .i64 xq, .int .i64 xt, .slice none 0 0, .bool xd, .int .u64 xf, .int .u64 xc, .bool xk, .bool xw, .int .i64 xv, .int .i64 xl, .int .i64 xm, .int .u64 xa, .int .u64 xp, .int .u64 xy, .int .i64 1, .int .i64 0] : Array Value).all (·.oneCell') = true := by rw [← Array.all_toList]; rfl
  have H2 : (#[.int .i64 1, .int .i64 xo, .int .i64 xs, .slice none 0 0, .int .i64 xq, .int .i64 xt, .slice none 0 0, .bool xd, .int .u64 xf, .int .u64 xc, .bool xk, .bool xw, .int .i64 xv, .int .i64 xl, .int .i64 xm, .int .u64 salt, .int .u64 xp, .int .u64 xy, .int .i64 3, .int .i64 0] : Array Value).all (·.oneCell') = true := by rw [← Array.all_toList]; rfl
  go_enter Try.func17, Try.ntmps17
  go_upto_region 1 with (fail)
  generalize (w.alloc (.cells #[.int .i64 1, .int .i64 xo, .int .i64 xs, .slice none 0 0, .int .i64 xq, .int .i64 xt, .slice none 0 0, .bool xd, .int .u64 xf, .int .u64 xc, .bool xk, .bool xw, .int .i64 xv, .int .i64 xl, .int .i64 xm, .int .u64 xa, .int .u64 xp, .int .u64 xy, .int .i64 1, .int .i64 0] 27)).alloc (.cells #[.int .i64 0, .int .i64 0, .int .i64 0, .slice none 0 0, .int .i64 0, .int .i64 0, .slice none 0 0, .bool false, .int .u64 0, .int .u64 0, .bool false, .bool false, .int .i64 0, .int .i64 0, .int .i64 0, .int .u64 0, .int .u64 0, .int .u64 0, .int .i64 0, .int .i64 0] 27) = W0 at *
  go_upto_region 2 with (first | (refine wpList_load_row_w rfl 27 (.tmp 3) rfl w.heap.size rfl 27 _ (0, 0) _ K1 Try.underlying27 rfl (by kernel_rfl) ?_) | (go_at_call 23; refine (HCp.out W0).mono ?_; rintro e W1 ⟨rfl, b9⟩; replace K1 := K1.below b9 K1.lt; replace K2 := K2.below b9 K2.lt; replace BX := thenB BX b9; clear b9) | (refine wpList_setR rfl 27 (.tmp 3) _ rfl w.heap.size #[.int .i64 1, .int .i64 xo, .int .i64 xs, .slice none 0 0, .int .i64 xq, .int .i64 xt, .slice none 0 0, .bool xd, .int .u64 xf, .int .u64 xc, .bool xk, .bool xw, .int .i64 xv, .int .i64 xl, .int .i64 xm, .int .u64 xa, .int .u64 xp, .int .u64 xy, .int .i64 1, .int .i64 0] rfl rfl 27 _ K1 (by kernel_rfl) rfl H1 ?_; intro W2 K9 G9; replace K2 := G9.blk K2 (by omega); replace BX := BX.trans (G9.below (Nat.le_refl _) BX.size); replace K1 := K9; clear K9 G9))
  have k0 := K1.cell 0
  have k19 := K1.cell 19
  have k18 := K1.cell 18
  go_upto_region 8 with (first | (refine wpList_set rfl _ _ _ rfl w.heap.size 15 (.int .u64 salt) rfl rfl 27 _ K1 (by show 15 < 20; decide) (by kernel_rfl) rfl #[.int .i64 1, .int .i64 xo, .int .i64 xs, .slice none 0 0, .int .i64 xq, .int .i64 xt, .slice none 0 0, .bool xd, .int .u64 xf, .int .u64 xc, .bool xk, .bool xw, .int .i64 xv, .int .i64 xl, .int .i64 xm, .int .u64 salt, .int .u64 xp, .int .u64 xy, .int .i64 1, .int .i64 0] rfl ?_; intro X9 K9 G9; replace K2 := G9.blk K2 (by omega); replace BX := BX.trans (G9.below (Nat.le_refl _) BX.size); replace K1 := K9; have hX9 := K2.lt; clear K9 G9) | (refine wpList_set rfl _ _ _ rfl w.heap.size 18 (.int .i64 3) rfl rfl 27 _ K1 (by show 18 < 20; decide) (by kernel_rfl) rfl #[.int .i64 1, .int .i64 xo, .int .i64 xs, .slice none 0 0, .int .i64 xq, .int .i64 xt, .slice none 0 0, .bool xd, .int .u64 xf, .int .u64 xc, .bool xk, .bool xw, .int .i64 xv, .int .i64 xl, .int .i64 xm, .int .u64 salt, .int .u64 xp, .int .u64 xy, .int .i64 3, .int .i64 0] rfl ?_; intro X9 K9 G9; replace K2 := G9.blk K2 (by omega); replace BX := BX.trans (G9.below (Nat.le_refl _) BX.size); replace K1 := K9; have hX9 := K2.lt; clear K9 G9))
  clear k0 k19 k18
  go_wp2_with (first | (refine wpList_load_row_w rfl 27 (.tmp 3) rfl w.heap.size rfl 27 _ (0, 0) _ K1 Try.underlying27 rfl (by kernel_rfl) ?_) | (refine wpList_setR rfl 27 (.tmp 6) _ rfl (w.heap.size + 1) #[.int .i64 1, .int .i64 xo, .int .i64 xs, .slice none 0 0, .int .i64 xq, .int .i64 xt, .slice none 0 0, .bool xd, .int .u64 xf, .int .u64 xc, .bool xk, .bool xw, .int .i64 xv, .int .i64 xl, .int .i64 xm, .int .u64 salt, .int .u64 xp, .int .u64 xy, .int .i64 3, .int .i64 0] rfl rfl 27 _ (K2.alloc (.cells #[.int .i64 4, .int .i64 0, .int .i64 0, .int .i64 0, .int .i64 0, .int .i64 0, .int .u64 0, .int .u16 0, .int .i64 0, .int .i64 0, .int .u64 salt, .int .u64 0, .int .u64 0, .int .i64 0, .int .i64 0, .int .i64 5, .int .i64 0, .int .i64 0, .int .i64 0, .int .i64 0, .int .i64 0, .int .u64 0, .int .u16 0, .int .i64 0, .int .i64 0, .int .u64 0, .int .u64 0, .int .u64 0, .int .i64 0, .int .i64 0] 57)) (by kernel_rfl) rfl H2 ?_; intro Y KR GR))
  have RQ := GR.row (row_lit (m := w.heap.size + 2) (n := 2) 57 #[.int .i64 4, .int .i64 0, .int .i64 0, .int .i64 0, .int .i64 0, .int .i64 0, .int .u64 0, .int .u16 0, .int .i64 0, .int .i64 0, .int .u64 salt, .int .u64 0, .int .u64 0, .int .i64 0, .int .i64 0, .int .i64 5, .int .i64 0, .int .i64 0, .int .i64 0, .int .i64 0, .int .i64 0, .int .u64 0, .int .u16 0, .int .i64 0, .int .i64 0, .int .u64 0, .int .u64 0, .int .u64 0, .int .i64 0, .int .i64 0] (ys := [.int .i64 4, .int .i64 0, .int .i64 0, .int .i64 0, .int .i64 0, .int .i64 0, .int .u64 0, .int .u16 0, .int .i64 0, .int .i64 0, .int .u64 salt, .int .u64 0, .int .u64 0, .int .i64 0, .int .i64 0, .int .i64 5, .int .i64 0, .int .i64 0, .int .i64 0, .int .i64 0, .int .i64 0, .int .u64 0, .int .u16 0, .int .i64 0, .int .i64 0, .int .u64 0, .int .u64 0, .int .u64 0, .int .i64 0, .int .i64 0]) rfl (by omega)) (by omega)
  refine bodyPost_ret (v := .tuple #[.agg #[.int .i64 1, .int .i64 xo, .int .i64 xs, .slice none 0 0, .int .i64 xq, .int .i64 xt, .slice none 0 0, .bool xd, .int .u64 xf, .int .u64 xc, .bool xk, .bool xw, .int .i64 xv, .int .i64 xl, .int .i64 xm, .int .u64 salt, .int .u64 xp, .int .u64 xy, .int .i64 3, .int .i64 0], _]) ?_ rfl ⟨_, rfl, RQ.less (show w.heap.size ≤ w.heap.size + 2 by omega), (BX.alloc BX.size _).trans (GR.below (by omega) (BX.alloc BX.size _).size)⟩
  clear K1 K2 RQ
  have HL := run_loadVar_row (P := Try.prog) Y (w.heap.size + 1) 27 27 #[.int .i64 1, .int .i64 xo, .int .i64 xs, .slice none 0 0, .int .i64 xq, .int .i64 xt, .slice none 0 0, .bool xd, .int .u64 xf, .int .u64 xc, .bool xk, .bool xw, .int .i64 xv, .int .i64 xl, .int .i64 xm, .int .u64 salt, .int .u64 xp, .int .u64 xy, .int .i64 3, .int .i64 0] (0, 0) _ KR Try.underlying27 rfl (by kernel_rfl)
  generalize (#[.int .i64 1, .int .i64 xo, .int .i64 xs, .slice none 0 0, .int .i64 xq, .int .i64 xt, .slice none 0 0, .bool xd, .int .u64 xf, .int .u64 xc, .bool xk, .bool xw, .int .i64 xv, .int .i64 xl, .int .i64 xm, .int .u64 salt, .int .u64 xp, .int .u64 xy, .int .i64 3, .int .i64 0] : Array Value) = CS at *
  simp [results, show (Try.f17).results = #[.cell 6 27, .slot 7] from rfl, asAddr, HL, Act.put]
set_option maxRecDepth 100000 in
set_option maxHeartbeats 8000000 in
theorem Answer_no (x : Pr) (salt : Int) (w : World) (h1 : x.V1 = nilV) (h2 : x.V2 = nilV) (he : x.en = 0) (hr : x.r = 1) (hc : x.cr = 1) : Calls Try.prog 17 #[.agg (prC x), .bool false, .int .u64 salt] w fun e w' => ∃ Q, e = .returned (.tuple #[.agg (prC { x with cr := 0, q := -1 }), Q]) ∧ Row w' w.heap.size Q 1 (ctL { onlyK 13 with rs := 6, rj := 3 }) ∧ Below w.heap.size w w' := by
  have HCp : Hid (∀ X, Calls Try.prog 23 #[.agg (prC x)] X fun e w' => e = .returned (.agg (prC x)) ∧ Below X.heap.size X w') := Lib.hid fun X => copied_nil x X h1 h2
  obtain ⟨xr, xo, xs, V1, xq, xt, V2, xd, xf, xc, xk, xw, xv, xl, xm, xa, xp, xy, xz, xn⟩ := x
  simp only [nilV] at h1 h2 he hr hc
  subst h1; subst h2; subst he; subst hr; subst hc
  dsimp only [prC, nilV] at *
  have BX : Below w.heap.size w ((w.alloc (.cells #[.int .i64 1, .int .i64 xo, .int .i64 xs, .slice none 0 0, .int .i64 xq, .int .i64 xt, .slice none 0 0, .bool xd, .int .u64 xf, .int .u64 xc, .bool xk, .bool xw, .int .i64 xv, .int .i64 xl, .int .i64 xm, .int .u64 xa, .int .u64 xp, .int .u64 xy, .int .i64 1, .int .i64 0] 27)).alloc (.cells #[.int .i64 0, .int .i64 0, .int .i64 0, .slice none 0 0, .int .i64 0, .int .i64 0, .slice none 0 0, .bool false, .int .u64 0, .int .u64 0, .bool false, .bool false, .int .i64 0, .int .i64 0, .int .i64 0, .int .u64 0, .int .u64 0, .int .u64 0, .int .i64 0, .int .i64 0] 27)) := ((Below.refl _ _).alloc (Nat.le_refl _) _).alloc (by simp) _
  have K1 : Blk ((w.alloc (.cells #[.int .i64 1, .int .i64 xo, .int .i64 xs, .slice none 0 0, .int .i64 xq, .int .i64 xt, .slice none 0 0, .bool xd, .int .u64 xf, .int .u64 xc, .bool xk, .bool xw, .int .i64 xv, .int .i64 xl, .int .i64 xm, .int .u64 xa, .int .u64 xp, .int .u64 xy, .int .i64 1, .int .i64 0] 27)).alloc (.cells #[.int .i64 0, .int .i64 0, .int .i64 0, .slice none 0 0, .int .i64 0, .int .i64 0, .slice none 0 0, .bool false, .int .u64 0, .int .u64 0, .bool false, .bool false, .int .i64 0, .int .i64 0, .int .i64 0, .int .u64 0, .int .u64 0, .int .u64 0, .int .i64 0, .int .i64 0] 27)) w.heap.size 27 #[.int .i64 1, .int .i64 xo, .int .i64 xs, .slice none 0 0, .int .i64 xq, .int .i64 xt, .slice none 0 0, .bool xd, .int .u64 xf, .int .u64 xc, .bool xk, .bool xw, .int .i64 xv, .int .i64 xl, .int .i64 xm, .int .u64 xa, .int .u64 xp, .int .u64 xy, .int .i64 1, .int .i64 0] := (Blk.fresh _ _ _).alloc _
  have K2 : Blk ((w.alloc (.cells #[.int .i64 1, .int .i64 xo, .int .i64 xs, .slice none 0 0, .int .i64 xq, .int .i64 xt, .slice none 0 0, .bool xd, .int .u64 xf, .int .u64 xc, .bool xk, .bool xw, .int .i64 xv, .int .i64 xl, .int .i64 xm, .int .u64 xa, .int .u64 xp, .int .u64 xy, .int .i64 1, .int .i64 0] 27)).alloc (.cells #[.int .i64 0, .int .i64 0, .int .i64 0, .slice none 0 0, .int .i64 0, .int .i64 0, .slice none 0 0, .bool false, .int .u64 0, .int .u64 0, .bool false, .bool false, .int .i64 0, .int .i64 0, .int .i64 0, .int .u64 0, .int .u64 0, .int .u64 0, .int .i64 0, .int .i64 0] 27)) (w.heap.size + 1) 27 #[.int .i64 0, .int .i64 0, .int .i64 0, .slice none 0 0, .int .i64 0, .int .i64 0, .slice none 0 0, .bool false, .int .u64 0, .int .u64 0, .bool false, .bool false, .int .i64 0, .int .i64 0, .int .i64 0, .int .u64 0, .int .u64 0, .int .u64 0, .int .i64 0, .int .i64 0] := Av.Blk.next
  have H1 : (#[.int .i64 1, .int .i64 xo, .int .i64 xs, .slice none 0 0, .int .i64 xq, .int .i64 xt, .slice none 0 0, .bool xd, .int .u64 xf, .int .u64 xc, .bool xk, .bool xw, .int .i64 xv, .int .i64 xl, .int .i64 xm, .int .u64 xa, .int .u64 xp, .int .u64 xy, .int .i64 1, .int .i64 0] : Array Value).all (·.oneCell') = true := by rw [← Array.all_toList]; rfl
  have H2 : (#[.int .i64 1, .int .i64 xo, .int .i64 xs, .slice none 0 0, .int .i64 (-1), .int .i64 xt, .slice none 0 0, .bool xd, .int .u64 xf, .int .u64 xc, .bool xk, .bool xw, .int .i64 xv, .int .i64 xl, .int .i64 xm, .int .u64 xa, .int .u64 xp, .int .u64 xy, .int .i64 0, .int .i64 0] : Array Value).all (·.oneCell') = true := by rw [← Array.all_toList]; rfl
  go_enter Try.func17, Try.ntmps17
  go_upto_region 1 with (fail)
  generalize (w.alloc (.cells #[.int .i64 1, .int .i64 xo, .int .i64 xs, .slice none 0 0, .int .i64 xq, .int .i64 xt, .slice none 0 0, .bool xd, .int .u64 xf, .int .u64 xc, .bool xk, .bool xw, .int .i64 xv, .int .i64 xl, .int .i64 xm, .int .u64 xa, .int .u64 xp, .int .u64 xy, .int .i64 1, .int .i64 0] 27)).alloc (.cells #[.int .i64 0, .int .i64 0, .int .i64 0, .slice none 0 0, .int .i64 0, .int .i64 0, .slice none 0 0, .bool false, .int .u64 0, .int .u64 0, .bool false, .bool false, .int .i64 0, .int .i64 0, .int .i64 0, .int .u64 0, .int .u64 0, .int .u64 0, .int .i64 0, .int .i64 0] 27) = W0 at *
  go_upto_region 2 with (first | (refine wpList_load_row_w rfl 27 (.tmp 3) rfl w.heap.size rfl 27 _ (0, 0) _ K1 Try.underlying27 rfl (by kernel_rfl) ?_) | (go_at_call 23; refine (HCp.out W0).mono ?_; rintro e W1 ⟨rfl, b9⟩; replace K1 := K1.below b9 K1.lt; replace K2 := K2.below b9 K2.lt; replace BX := thenB BX b9; clear b9) | (refine wpList_setR rfl 27 (.tmp 3) _ rfl w.heap.size #[.int .i64 1, .int .i64 xo, .int .i64 xs, .slice none 0 0, .int .i64 xq, .int .i64 xt, .slice none 0 0, .bool xd, .int .u64 xf, .int .u64 xc, .bool xk, .bool xw, .int .i64 xv, .int .i64 xl, .int .i64 xm, .int .u64 xa, .int .u64 xp, .int .u64 xy, .int .i64 1, .int .i64 0] rfl rfl 27 _ K1 (by kernel_rfl) rfl H1 ?_; intro W2 K9 G9; replace K2 := G9.blk K2 (by omega); replace BX := BX.trans (G9.below (Nat.le_refl _) BX.size); replace K1 := K9; clear K9 G9))
  have k0 := K1.cell 0
  have k19 := K1.cell 19
  have k18 := K1.cell 18
  go_upto_region 6 with (first | (refine wpList_set rfl _ _ _ rfl w.heap.size 18 (.int .i64 0) rfl rfl 27 _ K1 (by show 18 < 20; decide) (by kernel_rfl) rfl #[.int .i64 1, .int .i64 xo, .int .i64 xs, .slice none 0 0, .int .i64 xq, .int .i64 xt, .slice none 0 0, .bool xd, .int .u64 xf, .int .u64 xc, .bool xk, .bool xw, .int .i64 xv, .int .i64 xl, .int .i64 xm, .int .u64 xa, .int .u64 xp, .int .u64 xy, .int .i64 0, .int .i64 0] rfl ?_; intro X9 K9 G9; replace K2 := G9.blk K2 (by omega); replace BX := BX.trans (G9.below (Nat.le_refl _) BX.size); replace K1 := K9; have hX9 := K2.lt; clear K9 G9) | (refine wpList_set rfl _ _ _ rfl w.heap.size 4 (.int .i64 (-1)) rfl rfl 27 _ K1 (by show 4 < 20; decide) (by kernel_rfl) rfl #[.int .i64 1, .int .i64 xo, .int .i64 xs, .slice none 0 0, .int .i64 (-1), .int .i64 xt, .slice none 0 0, .bool xd, .int .u64 xf, .int .u64 xc, .bool xk, .bool xw, .int .i64 xv, .int .i64 xl, .int .i64 xm, .int .u64 xa, .int .u64 xp, .int .u64 xy, .int .i64 0, .int .i64 0] rfl ?_; intro X9 K9 G9; replace K2 := G9.blk K2 (by omega); replace BX := BX.trans (G9.below (Nat.le_refl _) BX.size); replace K1 := K9; have hX9 := K2.lt; clear K9 G9))
  clear k0 k19 k18
  go_wp2_with (first | (refine wpList_load_row_w rfl 27 (.tmp 3) rfl w.heap.size rfl 27 _ (0, 0) _ K1 Try.underlying27 rfl (by kernel_rfl) ?_) | (refine wpList_setR rfl 27 (.tmp 6) _ rfl (w.heap.size + 1) #[.int .i64 1, .int .i64 xo, .int .i64 xs, .slice none 0 0, .int .i64 (-1), .int .i64 xt, .slice none 0 0, .bool xd, .int .u64 xf, .int .u64 xc, .bool xk, .bool xw, .int .i64 xv, .int .i64 xl, .int .i64 xm, .int .u64 xa, .int .u64 xp, .int .u64 xy, .int .i64 0, .int .i64 0] rfl rfl 27 _ (K2.alloc (.cells #[.int .i64 13, .int .i64 0, .int .i64 0, .int .i64 0, .int .i64 0, .int .i64 0, .int .u64 0, .int .u16 0, .int .i64 6, .int .i64 3, .int .u64 0, .int .u64 0, .int .u64 0, .int .i64 0, .int .i64 0] 57)) (by kernel_rfl) rfl H2 ?_; intro Y KR GR))
  have RQ := GR.row (row_lit (m := w.heap.size + 2) (n := 1) 57 #[.int .i64 13, .int .i64 0, .int .i64 0, .int .i64 0, .int .i64 0, .int .i64 0, .int .u64 0, .int .u16 0, .int .i64 6, .int .i64 3, .int .u64 0, .int .u64 0, .int .u64 0, .int .i64 0, .int .i64 0] (ys := [.int .i64 13, .int .i64 0, .int .i64 0, .int .i64 0, .int .i64 0, .int .i64 0, .int .u64 0, .int .u16 0, .int .i64 6, .int .i64 3, .int .u64 0, .int .u64 0, .int .u64 0, .int .i64 0, .int .i64 0]) rfl (by omega)) (by omega)
  refine bodyPost_ret (v := .tuple #[.agg #[.int .i64 1, .int .i64 xo, .int .i64 xs, .slice none 0 0, .int .i64 (-1), .int .i64 xt, .slice none 0 0, .bool xd, .int .u64 xf, .int .u64 xc, .bool xk, .bool xw, .int .i64 xv, .int .i64 xl, .int .i64 xm, .int .u64 xa, .int .u64 xp, .int .u64 xy, .int .i64 0, .int .i64 0], _]) ?_ rfl ⟨_, rfl, RQ.less (show w.heap.size ≤ w.heap.size + 2 by omega), (BX.alloc BX.size _).trans (GR.below (by omega) (BX.alloc BX.size _).size)⟩
  clear K1 K2 RQ
  have HL := run_loadVar_row (P := Try.prog) Y (w.heap.size + 1) 27 27 #[.int .i64 1, .int .i64 xo, .int .i64 xs, .slice none 0 0, .int .i64 (-1), .int .i64 xt, .slice none 0 0, .bool xd, .int .u64 xf, .int .u64 xc, .bool xk, .bool xw, .int .i64 xv, .int .i64 xl, .int .i64 xm, .int .u64 xa, .int .u64 xp, .int .u64 xy, .int .i64 0, .int .i64 0] (0, 0) _ KR Try.underlying27 rfl (by kernel_rfl)
  generalize (#[.int .i64 1, .int .i64 xo, .int .i64 xs, .slice none 0 0, .int .i64 (-1), .int .i64 xt, .slice none 0 0, .bool xd, .int .u64 xf, .int .u64 xc, .bool xk, .bool xw, .int .i64 xv, .int .i64 xl, .int .i64 xm, .int .u64 xa, .int .u64 xp, .int .u64 xy, .int .i64 0, .int .i64 0] : Array Value) = CS at *
  simp [results, show (Try.f17).results = #[.cell 6 27, .slot 7] from rfl, asAddr, HL, Act.put]
theorem quiet0 (x : Pr) (w : World) (hc : x.cr = 0) : Calls Try.prog 15 #[.agg (prC x)] w fun e w' => e = .returned (.bool false) ∧ Below w.heap.size w w' := by
  obtain ⟨xr, xo, xs, V1, xq, xt, V2, xd, xf, xc, xk, xw, xv, xl, xm, xa, xp, xy, xz, xn⟩ := x
  simp only at hc
  subst hc
  dsimp only [prC]
  have BX : Below w.heap.size w (w.alloc (.cells #[.int .i64 xr, .int .i64 xo, .int .i64 xs, V1, .int .i64 xq, .int .i64 xt, V2, .bool xd, .int .u64 xf, .int .u64 xc, .bool xk, .bool xw, .int .i64 xv, .int .i64 xl, .int .i64 xm, .int .u64 xa, .int .u64 xp, .int .u64 xy, .int .i64 0, .int .i64 xn] 27)) := (Below.refl _ _).alloc (Nat.le_refl _) _
  have K1 : Blk (w.alloc (.cells #[.int .i64 xr, .int .i64 xo, .int .i64 xs, V1, .int .i64 xq, .int .i64 xt, V2, .bool xd, .int .u64 xf, .int .u64 xc, .bool xk, .bool xw, .int .i64 xv, .int .i64 xl, .int .i64 xm, .int .u64 xa, .int .u64 xp, .int .u64 xy, .int .i64 0, .int .i64 xn] 27)) w.heap.size 27 #[.int .i64 xr, .int .i64 xo, .int .i64 xs, V1, .int .i64 xq, .int .i64 xt, V2, .bool xd, .int .u64 xf, .int .u64 xc, .bool xk, .bool xw, .int .i64 xv, .int .i64 xl, .int .i64 xm, .int .u64 xa, .int .u64 xp, .int .u64 xy, .int .i64 0, .int .i64 xn] := Blk.fresh _ _ _
  have k18 := K1.cell 18
  go_enter Try.func15, Try.ntmps15
  go_upto_region 1 with (fail)
  generalize w.alloc (.cells #[.int .i64 xr, .int .i64 xo, .int .i64 xs, V1, .int .i64 xq, .int .i64 xt, V2, .bool xd, .int .u64 xf, .int .u64 xc, .bool xk, .bool xw, .int .i64 xv, .int .i64 xl, .int .i64 xm, .int .u64 xa, .int .u64 xp, .int .u64 xy, .int .i64 0, .int .i64 xn] 27) = W0 at *
  go_wp2_with fail
  go_ret
  exact ⟨rfl, BX⟩
theorem quiet1 (x : Pr) (w : World) (hc : x.cr = 1) : Calls Try.prog 15 #[.agg (prC x)] w fun e w' => e = .returned (.bool true) ∧ Below w.heap.size w w' := by
  obtain ⟨xr, xo, xs, V1, xq, xt, V2, xd, xf, xc, xk, xw, xv, xl, xm, xa, xp, xy, xz, xn⟩ := x
  simp only at hc
  subst hc
  dsimp only [prC]
  have BX : Below w.heap.size w (w.alloc (.cells #[.int .i64 xr, .int .i64 xo, .int .i64 xs, V1, .int .i64 xq, .int .i64 xt, V2, .bool xd, .int .u64 xf, .int .u64 xc, .bool xk, .bool xw, .int .i64 xv, .int .i64 xl, .int .i64 xm, .int .u64 xa, .int .u64 xp, .int .u64 xy, .int .i64 1, .int .i64 xn] 27)) := (Below.refl _ _).alloc (Nat.le_refl _) _
  have K1 : Blk (w.alloc (.cells #[.int .i64 xr, .int .i64 xo, .int .i64 xs, V1, .int .i64 xq, .int .i64 xt, V2, .bool xd, .int .u64 xf, .int .u64 xc, .bool xk, .bool xw, .int .i64 xv, .int .i64 xl, .int .i64 xm, .int .u64 xa, .int .u64 xp, .int .u64 xy, .int .i64 1, .int .i64 xn] 27)) w.heap.size 27 #[.int .i64 xr, .int .i64 xo, .int .i64 xs, V1, .int .i64 xq, .int .i64 xt, V2, .bool xd, .int .u64 xf, .int .u64 xc, .bool xk, .bool xw, .int .i64 xv, .int .i64 xl, .int .i64 xm, .int .u64 xa, .int .u64 xp, .int .u64 xy, .int .i64 1, .int .i64 xn] := Blk.fresh _ _ _
  have k18 := K1.cell 18
  go_enter Try.func15, Try.ntmps15
  go_upto_region 1 with (fail)
  generalize w.alloc (.cells #[.int .i64 xr, .int .i64 xo, .int .i64 xs, V1, .int .i64 xq, .int .i64 xt, V2, .bool xd, .int .u64 xf, .int .u64 xc, .bool xk, .bool xw, .int .i64 xv, .int .i64 xl, .int .i64 xm, .int .u64 xa, .int .u64 xp, .int .u64 xy, .int .i64 1, .int .i64 xn] 27) = W0 at *
  go_wp2_with fail
  go_ret
  exact ⟨rfl, BX⟩
theorem quiet2 (x : Pr) (w : World) (hc : x.cr = 2) : Calls Try.prog 15 #[.agg (prC x)] w fun e w' => e = .returned (.bool true) ∧ Below w.heap.size w w' := by
  obtain ⟨xr, xo, xs, V1, xq, xt, V2, xd, xf, xc, xk, xw, xv, xl, xm, xa, xp, xy, xz, xn⟩ := x
  simp only at hc
  subst hc
  dsimp only [prC]
  have BX : Below w.heap.size w (w.alloc (.cells #[.int .i64 xr, .int .i64 xo, .int .i64 xs, V1, .int .i64 xq, .int .i64 xt, V2, .bool xd, .int .u64 xf, .int .u64 xc, .bool xk, .bool xw, .int .i64 xv, .int .i64 xl, .int .i64 xm, .int .u64 xa, .int .u64 xp, .int .u64 xy, .int .i64 2, .int .i64 xn] 27)) := (Below.refl _ _).alloc (Nat.le_refl _) _
  have K1 : Blk (w.alloc (.cells #[.int .i64 xr, .int .i64 xo, .int .i64 xs, V1, .int .i64 xq, .int .i64 xt, V2, .bool xd, .int .u64 xf, .int .u64 xc, .bool xk, .bool xw, .int .i64 xv, .int .i64 xl, .int .i64 xm, .int .u64 xa, .int .u64 xp, .int .u64 xy, .int .i64 2, .int .i64 xn] 27)) w.heap.size 27 #[.int .i64 xr, .int .i64 xo, .int .i64 xs, V1, .int .i64 xq, .int .i64 xt, V2, .bool xd, .int .u64 xf, .int .u64 xc, .bool xk, .bool xw, .int .i64 xv, .int .i64 xl, .int .i64 xm, .int .u64 xa, .int .u64 xp, .int .u64 xy, .int .i64 2, .int .i64 xn] := Blk.fresh _ _ _
  have k18 := K1.cell 18
  go_enter Try.func15, Try.ntmps15
  go_upto_region 1 with (fail)
  generalize w.alloc (.cells #[.int .i64 xr, .int .i64 xo, .int .i64 xs, V1, .int .i64 xq, .int .i64 xt, V2, .bool xd, .int .u64 xf, .int .u64 xc, .bool xk, .bool xw, .int .i64 xv, .int .i64 xl, .int .i64 xm, .int .u64 xa, .int .u64 xp, .int .u64 xy, .int .i64 2, .int .i64 xn] 27) = W0 at *
  go_wp2_with fail
  go_ret
  exact ⟨rfl, BX⟩
theorem quiet3 (x : Pr) (w : World) (hc : x.cr = 3) : Calls Try.prog 15 #[.agg (prC x)] w fun e w' => e = .returned (.bool true) ∧ Below w.heap.size w w' := by
  obtain ⟨xr, xo, xs, V1, xq, xt, V2, xd, xf, xc, xk, xw, xv, xl, xm, xa, xp, xy, xz, xn⟩ := x
  simp only at hc
  subst hc
  dsimp only [prC]
  have BX : Below w.heap.size w (w.alloc (.cells #[.int .i64 xr, .int .i64 xo, .int .i64 xs, V1, .int .i64 xq, .int .i64 xt, V2, .bool xd, .int .u64 xf, .int .u64 xc, .bool xk, .bool xw, .int .i64 xv, .int .i64 xl, .int .i64 xm, .int .u64 xa, .int .u64 xp, .int .u64 xy, .int .i64 3, .int .i64 xn] 27)) := (Below.refl _ _).alloc (Nat.le_refl _) _
  have K1 : Blk (w.alloc (.cells #[.int .i64 xr, .int .i64 xo, .int .i64 xs, V1, .int .i64 xq, .int .i64 xt, V2, .bool xd, .int .u64 xf, .int .u64 xc, .bool xk, .bool xw, .int .i64 xv, .int .i64 xl, .int .i64 xm, .int .u64 xa, .int .u64 xp, .int .u64 xy, .int .i64 3, .int .i64 xn] 27)) w.heap.size 27 #[.int .i64 xr, .int .i64 xo, .int .i64 xs, V1, .int .i64 xq, .int .i64 xt, V2, .bool xd, .int .u64 xf, .int .u64 xc, .bool xk, .bool xw, .int .i64 xv, .int .i64 xl, .int .i64 xm, .int .u64 xa, .int .u64 xp, .int .u64 xy, .int .i64 3, .int .i64 xn] := Blk.fresh _ _ _
  have k18 := K1.cell 18
  go_enter Try.func15, Try.ntmps15
  go_upto_region 1 with (fail)
  generalize w.alloc (.cells #[.int .i64 xr, .int .i64 xo, .int .i64 xs, V1, .int .i64 xq, .int .i64 xt, V2, .bool xd, .int .u64 xf, .int .u64 xc, .bool xk, .bool xw, .int .i64 xv, .int .i64 xl, .int .i64 xm, .int .u64 xa, .int .u64 xp, .int .u64 xy, .int .i64 3, .int .i64 xn] 27) = W0 at *
  go_wp2_with fail
  go_ret
  exact ⟨rfl, BX⟩
theorem quiet4 (x : Pr) (w : World) (hc : x.cr = 4) : Calls Try.prog 15 #[.agg (prC x)] w fun e w' => e = .returned (.bool false) ∧ Below w.heap.size w w' := by
  obtain ⟨xr, xo, xs, V1, xq, xt, V2, xd, xf, xc, xk, xw, xv, xl, xm, xa, xp, xy, xz, xn⟩ := x
  simp only at hc
  subst hc
  dsimp only [prC]
  have BX : Below w.heap.size w (w.alloc (.cells #[.int .i64 xr, .int .i64 xo, .int .i64 xs, V1, .int .i64 xq, .int .i64 xt, V2, .bool xd, .int .u64 xf, .int .u64 xc, .bool xk, .bool xw, .int .i64 xv, .int .i64 xl, .int .i64 xm, .int .u64 xa, .int .u64 xp, .int .u64 xy, .int .i64 4, .int .i64 xn] 27)) := (Below.refl _ _).alloc (Nat.le_refl _) _
  have K1 : Blk (w.alloc (.cells #[.int .i64 xr, .int .i64 xo, .int .i64 xs, V1, .int .i64 xq, .int .i64 xt, V2, .bool xd, .int .u64 xf, .int .u64 xc, .bool xk, .bool xw, .int .i64 xv, .int .i64 xl, .int .i64 xm, .int .u64 xa, .int .u64 xp, .int .u64 xy, .int .i64 4, .int .i64 xn] 27)) w.heap.size 27 #[.int .i64 xr, .int .i64 xo, .int .i64 xs, V1, .int .i64 xq, .int .i64 xt, V2, .bool xd, .int .u64 xf, .int .u64 xc, .bool xk, .bool xw, .int .i64 xv, .int .i64 xl, .int .i64 xm, .int .u64 xa, .int .u64 xp, .int .u64 xy, .int .i64 4, .int .i64 xn] := Blk.fresh _ _ _
  have k18 := K1.cell 18
  go_enter Try.func15, Try.ntmps15
  go_upto_region 1 with (fail)
  generalize w.alloc (.cells #[.int .i64 xr, .int .i64 xo, .int .i64 xs, V1, .int .i64 xq, .int .i64 xt, V2, .bool xd, .int .u64 xf, .int .u64 xc, .bool xk, .bool xw, .int .i64 xv, .int .i64 xl, .int .i64 xm, .int .u64 xa, .int .u64 xp, .int .u64 xy, .int .i64 4, .int .i64 xn] 27) = W0 at *
  go_wp2_with fail
  go_ret
  exact ⟨rfl, BX⟩
set_option maxRecDepth 100000 in
set_option maxHeartbeats 8000000 in
theorem rnew0_any (role f lim : Int) (w : World) (h : ¬ role = 1) : Calls Try.prog 10 #[.int .i64 role, .int .u64 f, .int .i64 lim] w fun e w' => e = .returned (.agg #[.int .i64 0, .int .i64 (-1), .int .i64 0, .slice none 0 0, .int .i64 (-1), .int .i64 0, .slice none 0 0, .bool false, .int .u64 f, .int .u64 0, .bool false, .bool false, .int .i64 (-1), .int .i64 27, .int .i64 (min (max lim 27) 251), .int .u64 0, .int .u64 0, .int .u64 0, .int .i64 0, .int .i64 0]) ∧ Below w.heap.size w w' := by
  have B0 : Below w.heap.size w ((w.alloc (.cells #[.int .i64 0, .int .i64 0, .int .i64 0, .slice none 0 0, .int .i64 0, .int .i64 0, .slice none 0 0, .bool false, .int .u64 0, .int .u64 0, .bool false, .bool false, .int .i64 0, .int .i64 0, .int .i64 0, .int .u64 0, .int .u64 0, .int .u64 0, .int .i64 0, .int .i64 0] 27)).alloc (.cells #[.int .i64 0, .int .i64 0, .int .i64 0, .slice none 0 0, .int .i64 0, .int .i64 0, .slice none 0 0, .bool false, .int .u64 0, .int .u64 0, .bool false, .bool false, .int .i64 0, .int .i64 0, .int .i64 0, .int .u64 0, .int .u64 0, .int .u64 0, .int .i64 0, .int .i64 0] 27)) := ((Below.refl _ _).alloc (Nat.le_refl _) _).alloc (by simp) _
  have K := (Blk.fresh w 27 #[.int .i64 0, .int .i64 0, .int .i64 0, .slice none 0 0, .int .i64 0, .int .i64 0, .slice none 0 0, .bool false, .int .u64 0, .int .u64 0, .bool false, .bool false, .int .i64 0, .int .i64 0, .int .i64 0, .int .u64 0, .int .u64 0, .int .u64 0, .int .i64 0, .int .i64 0]).alloc (.cells #[.int .i64 0, .int .i64 0, .int .i64 0, .slice none 0 0, .int .i64 0, .int .i64 0, .slice none 0 0, .bool false, .int .u64 0, .int .u64 0, .bool false, .bool false, .int .i64 0, .int .i64 0, .int .i64 0, .int .u64 0, .int .u64 0, .int .u64 0, .int .i64 0, .int .i64 0] 27)
  have L : Blk ((w.alloc (.cells #[.int .i64 0, .int .i64 0, .int .i64 0, .slice none 0 0, .int .i64 0, .int .i64 0, .slice none 0 0, .bool false, .int .u64 0, .int .u64 0, .bool false, .bool false, .int .i64 0, .int .i64 0, .int .i64 0, .int .u64 0, .int .u64 0, .int .u64 0, .int .i64 0, .int .i64 0] 27)).alloc (.cells #[.int .i64 0, .int .i64 0, .int .i64 0, .slice none 0 0, .int .i64 0, .int .i64 0, .slice none 0 0, .bool false, .int .u64 0, .int .u64 0, .bool false, .bool false, .int .i64 0, .int .i64 0, .int .i64 0, .int .u64 0, .int .u64 0, .int .u64 0, .int .i64 0, .int .i64 0] 27)) (w.heap.size + 1) 27 #[.int .i64 0, .int .i64 0, .int .i64 0, .slice none 0 0, .int .i64 0, .int .i64 0, .slice none 0 0, .bool false, .int .u64 0, .int .u64 0, .bool false, .bool false, .int .i64 0, .int .i64 0, .int .i64 0, .int .u64 0, .int .u64 0, .int .u64 0, .int .i64 0, .int .i64 0] := Av.Blk.next
  have H0 : (#[.int .i64 0, .int .i64 (-1), .int .i64 0, .slice none 0 0, .int .i64 (-1), .int .i64 0, .slice none 0 0, .bool false, .int .u64 f, .int .u64 0, .bool false, .bool false, .int .i64 (-1), .int .i64 27, .int .i64 (min (max lim 27) 251), .int .u64 0, .int .u64 0, .int .u64 0, .int .i64 0, .int .i64 0] : Array Value).all (·.oneCell') = true := by rw [← Array.all_toList]; rfl
  have H1 : (#[.int .i64 0, .int .i64 (-1), .int .i64 0, .slice none 0 0, .int .i64 (-1), .int .i64 0, .slice none 0 0, .bool false, .int .u64 f, .int .u64 0, .bool false, .bool false, .int .i64 (-1), .int .i64 27, .int .i64 (min (max lim 27) 251), .int .u64 0, .int .u64 0, .int .u64 0, .int .i64 0, .int .i64 0] : Array Value).all (·.oneCell') = true := by rw [← Array.all_toList]; rfl
  have g1 : (role == 1) = false := by simpa using h
  go_enter Try.func10, Try.ntmps10
  go_upto_region 2 with (refine wpList_setR rfl 27 (.tmp 7) _ rfl (w.heap.size + 1) #[.int .i64 0, .int .i64 (-1), .int .i64 0, .slice none 0 0, .int .i64 (-1), .int .i64 0, .slice none 0 0, .bool false, .int .u64 f, .int .u64 0, .bool false, .bool false, .int .i64 (-1), .int .i64 27, .int .i64 (min (max lim 27) 251), .int .u64 0, .int .u64 0, .int .u64 0, .int .i64 0, .int .i64 0] (by go_simp) rfl 27 _ L (by kernel_rfl) rfl H0 ?_; intro X1 L1 G1)
  replace K := G1.blk K (by omega)
  replace B0 := B0.trans (G1.below (Nat.le_succ _) B0.size)
  go_wp2_with (first | (refine wpList_set rfl _ _ _ rfl (w.heap.size + 1) 0 (.int .i64 1) rfl rfl 27 _ L1 (by show 0 < 20; decide) (by kernel_rfl) rfl #[.int .i64 0, .int .i64 (-1), .int .i64 0, .slice none 0 0, .int .i64 (-1), .int .i64 0, .slice none 0 0, .bool false, .int .u64 f, .int .u64 0, .bool false, .bool false, .int .i64 (-1), .int .i64 27, .int .i64 (min (max lim 27) 251), .int .u64 0, .int .u64 0, .int .u64 0, .int .i64 0, .int .i64 0] rfl ?_; intro X9 K9 G9; replace K := G9.blk K (by omega); replace B0 := B0.trans (G9.below (Nat.le_succ _) B0.size); replace L1 := K9; clear K9 G9) | (refine wpList_load_row_w rfl 27 (.tmp 7) rfl (w.heap.size + 1) rfl 27 _ (0, 0) _ L1 Try.underlying27 rfl (by kernel_rfl) ?_) | (refine wpList_setR rfl 27 (.tmp 6) _ rfl w.heap.size #[.int .i64 0, .int .i64 (-1), .int .i64 0, .slice none 0 0, .int .i64 (-1), .int .i64 0, .slice none 0 0, .bool false, .int .u64 f, .int .u64 0, .bool false, .bool false, .int .i64 (-1), .int .i64 27, .int .i64 (min (max lim 27) 251), .int .u64 0, .int .u64 0, .int .u64 0, .int .i64 0, .int .i64 0] rfl rfl 27 _ K (by kernel_rfl) rfl H1 ?_; intro Y KR GR))
  refine bodyPost_ret (v := .agg #[.int .i64 0, .int .i64 (-1), .int .i64 0, .slice none 0 0, .int .i64 (-1), .int .i64 0, .slice none 0 0, .bool false, .int .u64 f, .int .u64 0, .bool false, .bool false, .int .i64 (-1), .int .i64 27, .int .i64 (min (max lim 27) 251), .int .u64 0, .int .u64 0, .int .u64 0, .int .i64 0, .int .i64 0]) ?_ rfl ⟨rfl, B0.trans (GR.below (Nat.le_refl _) B0.size)⟩
  clear L1
  have HL := run_loadVar_row (P := Try.prog) Y (w.heap.size) 27 27 #[.int .i64 0, .int .i64 (-1), .int .i64 0, .slice none 0 0, .int .i64 (-1), .int .i64 0, .slice none 0 0, .bool false, .int .u64 f, .int .u64 0, .bool false, .bool false, .int .i64 (-1), .int .i64 27, .int .i64 (min (max lim 27) 251), .int .u64 0, .int .u64 0, .int .u64 0, .int .i64 0, .int .i64 0] (0, 0) _ KR Try.underlying27 rfl (by kernel_rfl)
  generalize (#[.int .i64 0, .int .i64 (-1), .int .i64 0, .slice none 0 0, .int .i64 (-1), .int .i64 0, .slice none 0 0, .bool false, .int .u64 f, .int .u64 0, .bool false, .bool false, .int .i64 (-1), .int .i64 27, .int .i64 (min (max lim 27) 251), .int .u64 0, .int .u64 0, .int .u64 0, .int .i64 0, .int .i64 0] : Array Value) = CS at *
  simp [results, show (Try.f10).results = #[.cell 6 27] from rfl, asAddr, HL, Act.put]
set_option maxRecDepth 100000 in
set_option maxHeartbeats 8000000 in
theorem rnew1_any (role f lim : Int) (w : World) (h : role = 1) : Calls Try.prog 10 #[.int .i64 role, .int .u64 f, .int .i64 lim] w fun e w' => e = .returned (.agg #[.int .i64 1, .int .i64 (-1), .int .i64 0, .slice none 0 0, .int .i64 (-1), .int .i64 0, .slice none 0 0, .bool false, .int .u64 f, .int .u64 0, .bool false, .bool false, .int .i64 (-1), .int .i64 27, .int .i64 (min (max lim 27) 251), .int .u64 0, .int .u64 0, .int .u64 0, .int .i64 0, .int .i64 0]) ∧ Below w.heap.size w w' := by
  have B0 : Below w.heap.size w ((w.alloc (.cells #[.int .i64 0, .int .i64 0, .int .i64 0, .slice none 0 0, .int .i64 0, .int .i64 0, .slice none 0 0, .bool false, .int .u64 0, .int .u64 0, .bool false, .bool false, .int .i64 0, .int .i64 0, .int .i64 0, .int .u64 0, .int .u64 0, .int .u64 0, .int .i64 0, .int .i64 0] 27)).alloc (.cells #[.int .i64 0, .int .i64 0, .int .i64 0, .slice none 0 0, .int .i64 0, .int .i64 0, .slice none 0 0, .bool false, .int .u64 0, .int .u64 0, .bool false, .bool false, .int .i64 0, .int .i64 0, .int .i64 0, .int .u64 0, .int .u64 0, .int .u64 0, .int .i64 0, .int .i64 0] 27)) := ((Below.refl _ _).alloc (Nat.le_refl _) _).alloc (by simp) _
  have K := (Blk.fresh w 27 #[.int .i64 0, .int .i64 0, .int .i64 0, .slice none 0 0, .int .i64 0, .int .i64 0, .slice none 0 0, .bool false, .int .u64 0, .int .u64 0, .bool false, .bool false, .int .i64 0, .int .i64 0, .int .i64 0, .int .u64 0, .int .u64 0, .int .u64 0, .int .i64 0, .int .i64 0]).alloc (.cells #[.int .i64 0, .int .i64 0, .int .i64 0, .slice none 0 0, .int .i64 0, .int .i64 0, .slice none 0 0, .bool false, .int .u64 0, .int .u64 0, .bool false, .bool false, .int .i64 0, .int .i64 0, .int .i64 0, .int .u64 0, .int .u64 0, .int .u64 0, .int .i64 0, .int .i64 0] 27)
  have L : Blk ((w.alloc (.cells #[.int .i64 0, .int .i64 0, .int .i64 0, .slice none 0 0, .int .i64 0, .int .i64 0, .slice none 0 0, .bool false, .int .u64 0, .int .u64 0, .bool false, .bool false, .int .i64 0, .int .i64 0, .int .i64 0, .int .u64 0, .int .u64 0, .int .u64 0, .int .i64 0, .int .i64 0] 27)).alloc (.cells #[.int .i64 0, .int .i64 0, .int .i64 0, .slice none 0 0, .int .i64 0, .int .i64 0, .slice none 0 0, .bool false, .int .u64 0, .int .u64 0, .bool false, .bool false, .int .i64 0, .int .i64 0, .int .i64 0, .int .u64 0, .int .u64 0, .int .u64 0, .int .i64 0, .int .i64 0] 27)) (w.heap.size + 1) 27 #[.int .i64 0, .int .i64 0, .int .i64 0, .slice none 0 0, .int .i64 0, .int .i64 0, .slice none 0 0, .bool false, .int .u64 0, .int .u64 0, .bool false, .bool false, .int .i64 0, .int .i64 0, .int .i64 0, .int .u64 0, .int .u64 0, .int .u64 0, .int .i64 0, .int .i64 0] := Av.Blk.next
  have H0 : (#[.int .i64 0, .int .i64 (-1), .int .i64 0, .slice none 0 0, .int .i64 (-1), .int .i64 0, .slice none 0 0, .bool false, .int .u64 f, .int .u64 0, .bool false, .bool false, .int .i64 (-1), .int .i64 27, .int .i64 (min (max lim 27) 251), .int .u64 0, .int .u64 0, .int .u64 0, .int .i64 0, .int .i64 0] : Array Value).all (·.oneCell') = true := by rw [← Array.all_toList]; rfl
  have H1 : (#[.int .i64 1, .int .i64 (-1), .int .i64 0, .slice none 0 0, .int .i64 (-1), .int .i64 0, .slice none 0 0, .bool false, .int .u64 f, .int .u64 0, .bool false, .bool false, .int .i64 (-1), .int .i64 27, .int .i64 (min (max lim 27) 251), .int .u64 0, .int .u64 0, .int .u64 0, .int .i64 0, .int .i64 0] : Array Value).all (·.oneCell') = true := by rw [← Array.all_toList]; rfl
  subst h
  go_enter Try.func10, Try.ntmps10
  go_upto_region 2 with (refine wpList_setR rfl 27 (.tmp 7) _ rfl (w.heap.size + 1) #[.int .i64 0, .int .i64 (-1), .int .i64 0, .slice none 0 0, .int .i64 (-1), .int .i64 0, .slice none 0 0, .bool false, .int .u64 f, .int .u64 0, .bool false, .bool false, .int .i64 (-1), .int .i64 27, .int .i64 (min (max lim 27) 251), .int .u64 0, .int .u64 0, .int .u64 0, .int .i64 0, .int .i64 0] (by go_simp) rfl 27 _ L (by kernel_rfl) rfl H0 ?_; intro X1 L1 G1)
  replace K := G1.blk K (by omega)
  replace B0 := B0.trans (G1.below (Nat.le_succ _) B0.size)
  go_wp2_with (first | (refine wpList_set rfl _ _ _ rfl (w.heap.size + 1) 0 (.int .i64 1) rfl rfl 27 _ L1 (by show 0 < 20; decide) (by kernel_rfl) rfl #[.int .i64 1, .int .i64 (-1), .int .i64 0, .slice none 0 0, .int .i64 (-1), .int .i64 0, .slice none 0 0, .bool false, .int .u64 f, .int .u64 0, .bool false, .bool false, .int .i64 (-1), .int .i64 27, .int .i64 (min (max lim 27) 251), .int .u64 0, .int .u64 0, .int .u64 0, .int .i64 0, .int .i64 0] rfl ?_; intro X9 K9 G9; replace K := G9.blk K (by omega); replace B0 := B0.trans (G9.below (Nat.le_succ _) B0.size); replace L1 := K9; clear K9 G9) | (refine wpList_load_row_w rfl 27 (.tmp 7) rfl (w.heap.size + 1) rfl 27 _ (0, 0) _ L1 Try.underlying27 rfl (by kernel_rfl) ?_) | (refine wpList_setR rfl 27 (.tmp 6) _ rfl w.heap.size #[.int .i64 1, .int .i64 (-1), .int .i64 0, .slice none 0 0, .int .i64 (-1), .int .i64 0, .slice none 0 0, .bool false, .int .u64 f, .int .u64 0, .bool false, .bool false, .int .i64 (-1), .int .i64 27, .int .i64 (min (max lim 27) 251), .int .u64 0, .int .u64 0, .int .u64 0, .int .i64 0, .int .i64 0] rfl rfl 27 _ K (by kernel_rfl) rfl H1 ?_; intro Y KR GR))
  refine bodyPost_ret (v := .agg #[.int .i64 1, .int .i64 (-1), .int .i64 0, .slice none 0 0, .int .i64 (-1), .int .i64 0, .slice none 0 0, .bool false, .int .u64 f, .int .u64 0, .bool false, .bool false, .int .i64 (-1), .int .i64 27, .int .i64 (min (max lim 27) 251), .int .u64 0, .int .u64 0, .int .u64 0, .int .i64 0, .int .i64 0]) ?_ rfl ⟨rfl, B0.trans (GR.below (Nat.le_refl _) B0.size)⟩
  clear L1
  have HL := run_loadVar_row (P := Try.prog) Y (w.heap.size) 27 27 #[.int .i64 1, .int .i64 (-1), .int .i64 0, .slice none 0 0, .int .i64 (-1), .int .i64 0, .slice none 0 0, .bool false, .int .u64 f, .int .u64 0, .bool false, .bool false, .int .i64 (-1), .int .i64 27, .int .i64 (min (max lim 27) 251), .int .u64 0, .int .u64 0, .int .u64 0, .int .i64 0, .int .i64 0] (0, 0) _ KR Try.underlying27 rfl (by kernel_rfl)
  generalize (#[.int .i64 1, .int .i64 (-1), .int .i64 0, .slice none 0 0, .int .i64 (-1), .int .i64 0, .slice none 0 0, .bool false, .int .u64 f, .int .u64 0, .bool false, .bool false, .int .i64 (-1), .int .i64 27, .int .i64 (min (max lim 27) 251), .int .u64 0, .int .u64 0, .int .u64 0, .int .i64 0, .int .i64 0] : Array Value) = CS at *
  simp [results, show (Try.f10).results = #[.cell 6 27] from rfl, asAddr, HL, Act.put]
theorem samec_nil (w : World) : Calls Try.prog 18 #[.slice none 0 0, .slice none 0 0] w fun e w' => e = .returned (.bool true) ∧ w = w' := by
  go_enter Try.func18, Try.ntmps18
  go_wp2_with fail
  go_loopw [5] (fun s5 wr => s5 = .int .i64 0 ∧ wr = w) (fun _ _ => 0)
  case atStart => exact ⟨rfl, rfl⟩
  case round =>
    obtain ⟨rfl, rfl⟩ := hrel
    go_wp2_with fail
    go_ret
    exact ⟨rfl, rfl⟩
theorem samech_nil (w : World) : Calls Try.prog 19 #[.slice none 0 0, .slice none 0 0] w fun e w' => e = .returned (.bool true) ∧ w = w' := by
  go_enter Try.func19, Try.ntmps19
  go_wp2_with fail
  go_loopw [5] (fun s5 wr => s5 = .int .i64 0 ∧ wr = w) (fun _ _ => 0)
  case atStart => exact ⟨rfl, rfl⟩
  case round =>
    obtain ⟨rfl, rfl⟩ := hrel
    go_wp2_with fail
    go_ret
    exact ⟨rfl, rfl⟩
set_option maxRecDepth 100000 in
set_option maxHeartbeats 8000000 in
theorem sameprocs_nil (x : Pr) (w : World) (h1 : x.V1 = nilV) (h2 : x.V2 = nilV) : Calls Try.prog 8 #[.agg (prC x), .agg (prC x)] w fun e w' => e = .returned (.bool true) ∧ Below w.heap.size w w' := by
  obtain ⟨xr, xo, xs, V1, xq, xt, V2, xd, xf, xc, xk, xw, xv, xl, xm, xa, xp, xy, xz, xn⟩ := x
  simp only [nilV] at h1 h2
  subst h1; subst h2
  dsimp only [prC]
  have BX : Below w.heap.size w ((w.alloc (.cells #[.int .i64 xr, .int .i64 xo, .int .i64 xs, .slice none 0 0, .int .i64 xq, .int .i64 xt, .slice none 0 0, .bool xd, .int .u64 xf, .int .u64 xc, .bool xk, .bool xw, .int .i64 xv, .int .i64 xl, .int .i64 xm, .int .u64 xa, .int .u64 xp, .int .u64 xy, .int .i64 xz, .int .i64 xn] 27)).alloc (.cells #[.int .i64 xr, .int .i64 xo, .int .i64 xs, .slice none 0 0, .int .i64 xq, .int .i64 xt, .slice none 0 0, .bool xd, .int .u64 xf, .int .u64 xc, .bool xk, .bool xw, .int .i64 xv, .int .i64 xl, .int .i64 xm, .int .u64 xa, .int .u64 xp, .int .u64 xy, .int .i64 xz, .int .i64 xn] 27)) := ((Below.refl _ _).alloc (Nat.le_refl _) _).alloc (by simp) _
  have K1 : Blk ((w.alloc (.cells #[.int .i64 xr, .int .i64 xo, .int .i64 xs, .slice none 0 0, .int .i64 xq, .int .i64 xt, .slice none 0 0, .bool xd, .int .u64 xf, .int .u64 xc, .bool xk, .bool xw, .int .i64 xv, .int .i64 xl, .int .i64 xm, .int .u64 xa, .int .u64 xp, .int .u64 xy, .int .i64 xz, .int .i64 xn] 27)).alloc (.cells #[.int .i64 xr, .int .i64 xo, .int .i64 xs, .slice none 0 0, .int .i64 xq, .int .i64 xt, .slice none 0 0, .bool xd, .int .u64 xf, .int .u64 xc, .bool xk, .bool xw, .int .i64 xv, .int .i64 xl, .int .i64 xm, .int .u64 xa, .int .u64 xp, .int .u64 xy, .int .i64 xz, .int .i64 xn] 27)) w.heap.size 27 #[.int .i64 xr, .int .i64 xo, .int .i64 xs, .slice none 0 0, .int .i64 xq, .int .i64 xt, .slice none 0 0, .bool xd, .int .u64 xf, .int .u64 xc, .bool xk, .bool xw, .int .i64 xv, .int .i64 xl, .int .i64 xm, .int .u64 xa, .int .u64 xp, .int .u64 xy, .int .i64 xz, .int .i64 xn] := (Blk.fresh _ _ _).alloc _
  have K2 : Blk ((w.alloc (.cells #[.int .i64 xr, .int .i64 xo, .int .i64 xs, .slice none 0 0, .int .i64 xq, .int .i64 xt, .slice none 0 0, .bool xd, .int .u64 xf, .int .u64 xc, .bool xk, .bool xw, .int .i64 xv, .int .i64 xl, .int .i64 xm, .int .u64 xa, .int .u64 xp, .int .u64 xy, .int .i64 xz, .int .i64 xn] 27)).alloc (.cells #[.int .i64 xr, .int .i64 xo, .int .i64 xs, .slice none 0 0, .int .i64 xq, .int .i64 xt, .slice none 0 0, .bool xd, .int .u64 xf, .int .u64 xc, .bool xk, .bool xw, .int .i64 xv, .int .i64 xl, .int .i64 xm, .int .u64 xa, .int .u64 xp, .int .u64 xy, .int .i64 xz, .int .i64 xn] 27)) (w.heap.size + 1) 27 #[.int .i64 xr, .int .i64 xo, .int .i64 xs, .slice none 0 0, .int .i64 xq, .int .i64 xt, .slice none 0 0, .bool xd, .int .u64 xf, .int .u64 xc, .bool xk, .bool xw, .int .i64 xv, .int .i64 xl, .int .i64 xm, .int .u64 xa, .int .u64 xp, .int .u64 xy, .int .i64 xz, .int .i64 xn] := Av.Blk.next
  have k0 := K1.cell 0
  have m0 := K2.cell 0
  have k1 := K1.cell 1
  have m1 := K2.cell 1
  have k2 := K1.cell 2
  have m2 := K2.cell 2
  have k3 := K1.cell 3
  have m3 := K2.cell 3
  have k4 := K1.cell 4
  have m4 := K2.cell 4
  have k5 := K1.cell 5
  have m5 := K2.cell 5
  have k6 := K1.cell 6
  have m6 := K2.cell 6
  have k7 := K1.cell 7
  have m7 := K2.cell 7
  have k8 := K1.cell 8
  have m8 := K2.cell 8
  have k9 := K1.cell 9
  have m9 := K2.cell 9
  have k10 := K1.cell 10
  have m10 := K2.cell 10
  have k11 := K1.cell 11
  have m11 := K2.cell 11
  have k12 := K1.cell 12
  have m12 := K2.cell 12
  have k13 := K1.cell 13
  have m13 := K2.cell 13
  have k14 := K1.cell 14
  have m14 := K2.cell 14
  have k15 := K1.cell 15
  have m15 := K2.cell 15
  have k16 := K1.cell 16
  have m16 := K2.cell 16
  have k17 := K1.cell 17
  have m17 := K2.cell 17
  have k18 := K1.cell 18
  have m18 := K2.cell 18
  have k19 := K1.cell 19
  have m19 := K2.cell 19
  have er : (xr != xr) = false := by simp
  have eo : (xo != xo) = false := by simp
  have es : (xs != xs) = false := by simp
  have eq : (xq != xq) = false := by simp
  have et : (xt != xt) = false := by simp
  have etd : (xd != xd) = false := by simp
  have ef : (xf != xf) = false := by simp
  have ec : (xc != xc) = false := by simp
  have ekn : (xk != xk) = false := by simp
  have evt : (xw != xw) = false := by simp
  have ev : (xv != xv) = false := by simp
  have el : (xl != xl) = false := by simp
  have em : (xm != xm) = false := by simp
  have esa : (xa != xa) = false := by simp
  have epe : (xp != xp) = false := by simp
  have emr : (xy != xy) = false := by simp
  have ecr : (xz != xz) = false := by simp
  have een : (xn != xn) = false := by simp
  go_enter Try.func8, Try.ntmps8
  go_upto_region 1 with (fail)
  generalize (w.alloc (.cells #[.int .i64 xr, .int .i64 xo, .int .i64 xs, .slice none 0 0, .int .i64 xq, .int .i64 xt, .slice none 0 0, .bool xd, .int .u64 xf, .int .u64 xc, .bool xk, .bool xw, .int .i64 xv, .int .i64 xl, .int .i64 xm, .int .u64 xa, .int .u64 xp, .int .u64 xy, .int .i64 xz, .int .i64 xn] 27)).alloc (.cells #[.int .i64 xr, .int .i64 xo, .int .i64 xs, .slice none 0 0, .int .i64 xq, .int .i64 xt, .slice none 0 0, .bool xd, .int .u64 xf, .int .u64 xc, .bool xk, .bool xw, .int .i64 xv, .int .i64 xl, .int .i64 xm, .int .u64 xa, .int .u64 xp, .int .u64 xy, .int .i64 xz, .int .i64 xn] 27) = W0 at *
  go_wp2_with (first | (go_at_call 18; refine (samec_nil _).mono ?_; rintro e X9 ⟨rfl, rfl⟩) | (go_at_call 19; refine (samech_nil _).mono ?_; rintro e X9 ⟨rfl, rfl⟩))
  go_ret
  exact ⟨rfl, BX⟩
end Go.Proofs.Ytpoagepchlfemaa.Pc
