/- Data PDUs: their bytes, by the layer and the document: contracts over the program. -/
import Derived.Test.YtakfjemkgajehaaDpWalks
import Derived.Test.YtakfjemkgajehaaOctJoin
import Derived.Deep.CutRange
set_option linter.unusedVariables false
set_option linter.unusedSimpArgs false
namespace Go.Proofs.Ytakfjemkgajehaa.Dp
open Go.RowKit Mem Oct Rw
open Base (thenB)

theorem or_2 : ∀ (f : Fin 4) (b : Fin 2), bits BinOp.or IntKind.i64 (f.val : Int) ((b.val : Int) * 4) = (f.val : Int) + (b.val : Int) * 4 := by decide +kernel
theorem or_3 : ∀ (f : Fin 8) (b : Fin 2), bits BinOp.or IntKind.i64 (f.val : Int) ((b.val : Int) * 8) = (f.val : Int) + (b.val : Int) * 8 := by decide +kernel
theorem or_4 : ∀ (f : Fin 16) (b : Fin 2), bits BinOp.or IntKind.i64 (f.val : Int) ((b.val : Int) * 16) = (f.val : Int) + (b.val : Int) * 16 := by decide +kernel
theorem of_fin {f : Int} {n : Nat} (h : 0 ≤ f ∧ f < n) : ∃ x : Fin n, (x.val : Int) = f := ⟨⟨f.toNat, by omega⟩, by simp; omega⟩
/-- A new value in the one cell of a block: nothing else changes. -/
def Puts (w w' : World) (g : Nat) (f' : Int) : Prop := Blk w' g 3 #[.int .i64 f'] ∧ w'.heap.size = w.heap.size ∧ (∀ B, B ≤ g → Below B w w') ∧ ∀ g' t cs, g' ≠ g → Blk w g' t cs → Blk w' g' t cs
theorem puts_of {w : World} {g : Nat} {f f' : Int} (K : Blk w g 3 #[.int .i64 f]) : Puts w (w.drew.setCell ⟨g, 0, none⟩ (.int .i64 f')) g f' :=
  ⟨Av.bset K.drew 0 _ rfl, by simp, fun B hB => ((Below.refl _ _).drew).setCell hB _, fun g' t cs hne h => Av.bother h.drew (Ne.symm hne) _⟩
set_option maxHeartbeats 1000000 in
theorem collect_any (num b f f' : Int) (p : Nat) (g : Nat) (w : World) (hn : num = 2 ∧ p = 4 ∨ num = 3 ∧ p = 8 ∨ num = 4 ∧ p = 16) (hb : b = 0 ∨ b = 1) (K : Blk w g 3 #[.int .i64 f]) (h0 : 0 ≤ f ∧ f < p) (hf : f' = f + b * p) :
    Calls Try.prog 46 #[.int .i64 num, .int .i64 b, .pointer (some ⟨g, 0, none⟩)] w fun e w' => e = .returned (.tuple #[]) ∧ Puts w w' g f' := by
  have c0 := K.cell 0
  have z0 := Av.bfrz K 0
  have HK := Lib.hid K
  obtain ⟨y, hy⟩ : ∃ y : Fin 2, (y.val : Int) = b := of_fin (by omega)
  obtain ⟨x, hx⟩ := of_fin h0
  rcases hn with ⟨rfl, rfl⟩ | ⟨rfl, rfl⟩ | ⟨rfl, rfl⟩
  · have HO := or_2 x y
    rw [hx, hy] at HO
    have e : f + b * 4 = f' := by rw [hf]; rfl
    rw [e] at HO
    clear hf e hx hy h0 K x y
    go_enter Try.func46, Try.ntmps46
    go_region
    all_goals
      go_end0
      exact ⟨rfl, puts_of HK.out⟩
  · have HO := or_3 x y
    rw [hx, hy] at HO
    have e : f + b * 8 = f' := by rw [hf]; rfl
    rw [e] at HO
    clear hf e hx hy h0 K x y
    go_enter Try.func46, Try.ntmps46
    go_region
    all_goals
      go_end0
      exact ⟨rfl, puts_of HK.out⟩
  · have HO := or_4 x y
    rw [hx, hy] at HO
    have e : f + b * 16 = f' := by rw [hf]; rfl
    rw [e] at HO
    clear hf e hx hy h0 K x y
    go_enter Try.func46, Try.ntmps46
    go_region
    all_goals
      go_end0
      exact ⟨rfl, puts_of HK.out⟩
/-- A call returns bytes in memory of its own, and an error. -/
def Gives (w w' : World) (e : Ending) (r : List Int × Int) : Prop := ∃ A c, e = .returned (.tuple #[.slice A r.1.length c, .int .i64 r.2]) ∧ w'.ownsRow w.heap.size 5 1 (.slice A r.1.length c) r.1.length (r.1.map (Value.int .u8)) ∧ Below w.heap.size w w'
theorem gives_of {w w' : World} {e : Ending} {l : List Int} {r : List Int × Int} {x : Int} {v : Value} {n B : Nat} (hr : r = (l, x)) (he : e = .returned (.tuple #[v, .int .i64 x])) (hn : l.length = n) (ho : w'.ownsRow B 5 1 v n (l.map (Value.int .u8))) (hB : w.heap.size ≤ B) (hb : Below w.heap.size w w') : Gives w w' e r := by
  obtain ⟨A, c, rfl⟩ := own_form ho
  subst hn; subst hr
  exact ⟨A, c, he, own_base ho hB, hb⟩
theorem Gives.len {w w' : World} {e : Ending} {l : List Int} {x : Int} (h : Gives w w' e (l, x)) {n : Nat} (hn : l.length = n) : ∃ A c, e = .returned (.tuple #[.slice A n c, .int .i64 x]) ∧ w'.ownsRow w.heap.size 5 1 (.slice A n c) n (l.map (Value.int .u8)) ∧ Below w.heap.size w w' := by
  subst hn; exact h
theorem gives_no {w w' : World} {e : Ending} {p : Pd} {x : Int} (hc : chk p = x) (hx : x ≠ 0) (he : e = .returned (.tuple #[.slice none 0 0, .int .i64 x])) (hb : Below w.heap.size w w') : Gives w w' e (encR p) := by
  subst hc
  exact gives_of (encR_no hx) he rfl (World.ownsRow_nil _ _ _ _) (Nat.le_refl _) hb
theorem omakes_len {w w' : World} {e : Ending} {zs : List Int} (h : Oct.Makes w w' e zs) {n : Nat} (hn : zs.length = n) : ∃ A c, e = .returned (.slice A n c) ∧ w'.ownsRow w.heap.size 5 1 (.slice A n c) n (zs.map (Value.int .u8)) ∧ Below w.heap.size w w' := by
  subst hn; exact h
theorem thenB' {B : Nat} {w a b : World} (h : Below B w a) (k : Below B a b) : Below B w b := h.trans k
set_option maxHeartbeats 4000000 in
theorem encode_any (sn nesn md k : Int) (A : Option Addr) (n c : Nat) (xs : List Int) (w : World) (hx : xs.length = n) (hr : Ints .u8 w w.heap.size A xs) :
    Calls Try.prog 18 #[.agg #[.int .i64 sn, .int .i64 nesn, .int .i64 md, .int .i64 k, .slice A n c]] w fun e w' => Gives w w' e (encR ⟨sn, nesn, md, (k, xs)⟩) := by
  have B0 : Below w.heap.size w (w.alloc (.cells #[.int .i64 sn, .int .i64 nesn, .int .i64 md, .int .i64 k, .slice A n c] 26)) := (Below.refl _ _).alloc (Nat.le_refl _) _
  have K0 := Blk.fresh w 26 #[.int .i64 sn, .int .i64 nesn, .int .i64 md, .int .i64 k, .slice A n c]
  have HC := Lib.hid (check_any sn nesn md k A n c)
  have HE : Hid (chk ⟨sn, nesn, md, (k, xs)⟩ = chkN sn nesn md k n) := Lib.hid (by rw [← hx]; rfl)
  obtain ⟨R, hR⟩ : ∃ R, chkN sn nesn md k n = R := ⟨_, rfl⟩
  rw [hR] at HC HE
  by_cases h0 : R = 0
  · subst h0
    obtain ⟨h1, h2, h3, h4, h5, h6⟩ := chkN_ok hR
    have HO : Hid (encR ⟨sn, nesn, md, (k, xs)⟩ = (headN sn nesn md k :: (n : Int) :: xs, 0)) := Lib.hid (by rw [encR_ok HE.out, ← hx]; rfl)
    have hh := head_bd h1 h2 h3 h4
    have HC2 := Lib.hid (fun (W : World) (g : Nat) (K : Blk W g 3 #[.int .i64 k]) => collect_any 2 nesn k (k + 4 * nesn) 4 g W (.inl ⟨rfl, rfl⟩) h2 K (by omega) (by omega))
    have HC3 := Lib.hid (fun (W : World) (g : Nat) (K : Blk W g 3 #[.int .i64 (k + 4 * nesn)]) => collect_any 3 sn (k + 4 * nesn) (k + 4 * nesn + 8 * sn) 8 g W (.inr (.inl ⟨rfl, rfl⟩)) h1 K (by omega) (by omega))
    have HC4 := Lib.hid (fun (W : World) (g : Nat) (K : Blk W g 3 #[.int .i64 (k + 4 * nesn + 8 * sn)]) => collect_any 4 md (k + 4 * nesn + 8 * sn) (headN sn nesn md k) 16 g W (.inr (.inr ⟨rfl, rfl⟩)) h3 K (by omega) (by unfold headN; omega))
    have e8 : IntKind.u8.wrap (headN sn nesn md k) = headN sn nesn md k := by simp only [IntKind.wrap, IntKind.bits, IntKind.signed]; simp; omega
    have e9 : IntKind.u8.wrap (n : Int) = (n : Int) := by simp only [IntKind.wrap, IntKind.bits, IntKind.signed]; simp; omega
    generalize headN sn nesn md k = H at *
    generalize k + 4 * nesn + 8 * sn = f3 at *
    generalize k + 4 * nesn = f2 at *
    clear h1 h2 h3 h4 h6 HE hR hh
    have HJ : Hid (∀ A2 A3 : Option Addr, ∀ c2, Oct.joinL [(A2, c2, [H, (n : Int)]), (A3, c, xs)] = H :: (n : Int) :: xs) := Lib.hid fun _ _ _ => by simp [Oct.joinL]
    have HL : Hid ((H :: (n : Int) :: xs).length = n + 2) := Lib.hid (by simp [hx])
    have HI := Lib.hid hr
    have HX := Lib.hid hx
    clear hr hx
    go_enter Try.func18, Try.ntmps18
    go_upto_region 4 with (go_at_call 14; refine (HC.out _).mono ?_; rintro e w2 ⟨rfl, b2⟩; have K2 := K0.below b2 K0.lt; have c3 := K2.cell 3; have b3 := thenB B0 b2)
    go_upto_region 6 with (fail)
    have b4 : Below w.heap.size w (w2.alloc (.cells #[.int .i64 k] 3)) := b3.alloc b3.size _
    have KP := K2.alloc (.cells #[.int .i64 k] 3)
    have hne : w2.heap.size ≠ w.heap.size := by have := K2.lt; omega
    have KF := Blk.fresh w2 3 #[.int .i64 k]
    have hb2 := b3.size
    generalize w2.heap.size = g at *
    generalize w2.alloc (.cells #[.int .i64 k] 3) = W3 at *
    have c1 := KP.cell 1
    clear c3 K2
    go_upto_region 7 with (go_at_call 46; refine (HC2.out W3 g KF).mono ?_; rintro e W4 ⟨rfl, KF4, -, p4, o4⟩; have b5 := thenB' b4 (p4 _ hb2); have KP4 := o4 _ _ _ (Ne.symm hne) KP; have d0 := KP4.cell 0)
    go_upto_region 8 with (go_at_call 46; refine (HC3.out W4 g KF4).mono ?_; rintro e W5 ⟨rfl, KF5, -, p5, o5⟩; have b6 := thenB' b5 (p5 _ hb2); have KP5 := o5 _ _ _ (Ne.symm hne) KP4; have d2 := KP5.cell 2)
    go_upto_region 9 with (go_at_call 46; refine (HC4.out W5 g KF5).mono ?_; rintro e W6 ⟨rfl, KF6, -, p6, o6⟩; have b7 := thenB' b6 (p6 _ hb2); have KP6 := o6 _ _ _ (Ne.symm hne) KP5; have d4 := KP6.cell 4; have df := KF6.cell 0)
    have HP : Hid (Oct.PartsAt ((W6.alloc (.cells #[.int .u8 H, .int .u8 n] 5)).alloc (.cells #[.slice (some ⟨W6.heap.size, 0, none⟩) 2 2, .slice A n c] 22)) ((W6.alloc (.cells #[.int .u8 H, .int .u8 n] 5)).alloc (.cells #[.slice (some ⟨W6.heap.size, 0, none⟩) 2 2, .slice A n c] 22)).heap.size (some ⟨W6.heap.size + 1, 0, none⟩) [(some ⟨W6.heap.size, 0, none⟩, 2, [H, (n : Int)]), (A, c, xs)]) := Lib.hid (Oct.parts_lit _ _ _ _ _ (by simp) (by simp [HX.out]) (by
      intro p hp
      simp only [List.mem_cons, List.not_mem_nil, or_false] at hp
      rcases hp with rfl | rfl
      · exact Base.lit1 .u8 _ _ _ _ rfl
      · exact Base.kept (Base.later HI.out b7) _))
    have b8 := (b7.alloc b7.size (.cells #[.int .u8 H, .int .u8 n] 5)).alloc (by have := b7.size; simp; omega) (.cells #[.slice (some ⟨W6.heap.size, 0, none⟩) 2 2, .slice A n c] 22)
    go_wp2_with (go_at_call 47; refine (Oct.join_any _ 2 2 _ _ rfl (by omega) HP.out (by rw [HJ.out, HL.out]; omega)).mono ?_; rintro e W7 m7; rw [HJ.out] at m7; obtain ⟨A7, c7, rfl, own7, b9⟩ := omakes_len m7 HL.out)
    go_ret2
    exact gives_of HO.out rfl HL.out own7 b8.size (thenB b8 b9)
  · have g0 : (R != 0) = true := by simpa using h0
    have HO := Lib.hid h0
    clear hr hx hR h0
    go_enter Try.func18, Try.ntmps18
    go_wp2_with (go_at_call 14; refine (HC.out _).mono ?_; rintro e w2 ⟨rfl, b2⟩)
    go_ret2
    exact gives_no HE.out HO.out rfl (thenB B0 b2)
theorem row_lit (w : World) (base : Nat) (hb : base ≤ w.heap.size) (e : TypeId) (k n : Nat) (cs : Array Value) (ys : List Value) (h : cs = ys.toArray) (hn : ys.length = n * k) (hm : n ≤ maxLen) : (w.alloc (.cells cs e)).ownsRow base e k (.slice (some ⟨w.heap.size, 0, none⟩) n n) n ys := by
  subst h
  exact ⟨hn, .inr ⟨w.heap.size, n, ys.toArray, rfl, hb, heap_alloc_new w _, Nat.le_refl _, hm, by simp [hn], by simp [← hn]⟩⟩
set_option maxHeartbeats 4000000 in
theorem rencode_any (sn nesn md k : Int) (A : Option Addr) (n c : Nat) (xs : List Int) (w : World) (hx : xs.length = n) (hr : Ints .u8 w w.heap.size A xs) :
    Calls Try.prog 19 #[.agg #[.int .i64 sn, .int .i64 nesn, .int .i64 md, .int .i64 k, .slice A n c]] w fun e w' => Gives w w' e (encR ⟨sn, nesn, md, (k, xs)⟩) := by
  have B0 : Below w.heap.size w (w.alloc (.cells #[.int .i64 sn, .int .i64 nesn, .int .i64 md, .int .i64 k, .slice A n c] 26)) := (Below.refl _ _).alloc (Nat.le_refl _) _
  have K0 := Blk.fresh w 26 #[.int .i64 sn, .int .i64 nesn, .int .i64 md, .int .i64 k, .slice A n c]
  have HC := Lib.hid (rcheck_any sn nesn md k A n c)
  have HE : Hid (chk ⟨sn, nesn, md, (k, xs)⟩ = chkN sn nesn md k n) := Lib.hid (by rw [← hx]; rfl)
  obtain ⟨R, hR⟩ : ∃ R, chkN sn nesn md k n = R := ⟨_, rfl⟩
  rw [hR] at HC HE
  obtain ⟨i0, hi0, hz0, hz1, hz2⟩ := info_parts Base.info_u8
  by_cases h0 : R = 0
  · subst h0
    obtain ⟨h1, h2, h3, h4, h5, h6⟩ := chkN_ok hR
    have HO : Hid (encR ⟨sn, nesn, md, (k, xs)⟩ = (headN sn nesn md k :: (n : Int) :: xs, 0)) := Lib.hid (by rw [encR_ok HE.out, ← hx]; rfl)
    have hh := head_bd h1 h2 h3 h4
    have hN : headN sn nesn md k = k + 4 * nesn + 8 * sn + 16 * md := rfl
    have f1 : IntKind.i64.wrap (4 * nesn) = 4 * nesn := by rw [IntWalk.i64_in _ (by omega)]
    have f2 : IntKind.i64.wrap (k + 4 * nesn) = k + 4 * nesn := by rw [IntWalk.i64_in _ (by omega)]
    have f3 : IntKind.i64.wrap (8 * sn) = 8 * sn := by rw [IntWalk.i64_in _ (by omega)]
    have f4 : IntKind.i64.wrap (k + 4 * nesn + 8 * sn) = k + 4 * nesn + 8 * sn := by rw [IntWalk.i64_in _ (by omega)]
    have f5 : IntKind.i64.wrap (16 * md) = 16 * md := by rw [IntWalk.i64_in _ (by omega)]
    have f6 : IntKind.i64.wrap (k + 4 * nesn + 8 * sn + 16 * md) = k + 4 * nesn + 8 * sn + 16 * md := by rw [IntWalk.i64_in _ (by omega)]
    have e8 : IntKind.u8.wrap (k + 4 * nesn + 8 * sn + 16 * md) = k + 4 * nesn + 8 * sn + 16 * md := by simp only [IntKind.wrap, IntKind.bits, IntKind.signed]; simp; omega
    have e9 : IntKind.u8.wrap (n : Int) = (n : Int) := by simp only [IntKind.wrap, IntKind.bits, IntKind.signed]; simp; omega
    rw [hN] at HO
    clear h1 h2 h3 h4 h6 HE hR hh hN
    have HL : Hid (((k + 4 * nesn + 8 * sn + 16 * md) :: (n : Int) :: xs).length = n + 2) := Lib.hid (by simp [hx])
    have HI := Lib.hid hr
    have HX := Lib.hid hx
    clear hr hx
    go_enter Try.func19, Try.ntmps19
    go_upto_region 4 with (go_at_call 15; refine (HC.out _).mono ?_; rintro e w2 ⟨rfl, b2⟩; have K2 := K0.below b2 K0.lt; have c0 := K2.cell 0; have c1 := K2.cell 1; have c2 := K2.cell 2; have c3 := K2.cell 3; have c4 := K2.cell 4; have b3 := thenB B0 b2)
    go_upto_region 5 with (fail)
    have own := row_lit w2 w.heap.size b3.size 5 1 2 #[.int .u8 (k + 4 * nesn + 8 * sn + 16 * md), .int .u8 (n : Int)] _ rfl rfl (by unfold maxLen; omega)
    have b4 := b3.alloc b3.size (.cells #[.int .u8 (k + 4 * nesn + 8 * sn + 16 * md), .int .u8 (n : Int)] 5)
    have c4' := (K2.alloc (.cells #[.int .u8 (k + 4 * nesn + 8 * sn + 16 * md), .int .u8 (n : Int)] 5)).cell 4
    have hI2 : Ints .u8 (w2.alloc (.cells #[.int .u8 (k + 4 * nesn + 8 * sn + 16 * md), .int .u8 (n : Int)] 5)) w.heap.size A xs := HI.out.below b4
    go_wp2_with (at_builtin; refine wpList_append_ints rfl _ _ 22 rfl .u8 w.heap.size 5 i0 _ 1 Try.underlying22 hi0 hz0 hz1 hz2 rfl _ 2 _ rfl own w.heap.size A n c xs rfl HX.out hI2 ?c1 ?c2 ?c3 ?_; (case c1 => unfold maxLen; omega); (case c2 => omega); (case c3 => exact b4.size); intro v5 w5 own5 b5 g5)
    go_ret2
    exact gives_of HO.out rfl HL.out (by rw [Nat.add_comm n 2]; exact own5) (Nat.le_refl _) (b4.trans b5)
  · have g0 : (R != 0) = true := by simpa using h0
    have HO := Lib.hid h0
    clear hr hx hR h0
    go_enter Try.func19, Try.ntmps19
    go_wp2_with (go_at_call 15; refine (HC.out _).mono ?_; rintro e w2 ⟨rfl, b2⟩)
    go_ret2
    exact gives_no HE.out HO.out rfl (thenB B0 b2)
end Go.Proofs.Ytakfjemkgajehaa.Dp
