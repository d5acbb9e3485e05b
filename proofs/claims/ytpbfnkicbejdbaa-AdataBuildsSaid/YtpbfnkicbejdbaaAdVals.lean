/- The values of a kind, one after the other; the first of them; the name: contracts over the program. -/
import Derived.Test.YtpbfnkicbejdbaaAdDec
set_option linter.unusedVariables false
set_option linter.unusedSimpArgs false
namespace Go.Proofs.Ytpbfnkicbejdbaa.Ad
open Go.RowKit Go.Shelf Mem Rw Oct
open Base (thenB later kept)
attribute [local go_sem] Oper.semAt_some

theorem values_any (A : Option Addr) (n c : Nat) (kd : Int) (w : World) :
    Calls Try.prog 28 #[.slice A n c, .int .i64 kd] w fun e w' => e = .returned (.func (.func 36) #[] #[.pointer (some ⟨w.heap.size, 0, none⟩), .pointer (some ⟨w.heap.size + 1, 0, none⟩)]) ∧ w' = (w.alloc (.cells #[.slice A n c] 24)).alloc (.cells #[.int .i64 kd] 3) := by
  have hmf : ∀ (fn : Fn) (first cap : Array Value) (w : World), (Instr.makeFunc fn first cap).run Try.prog w = .ok (.func fn first cap) w := fun _ _ _ _ => rfl
  go_enter Try.func28, Try.ntmps28
  go_wp2
  go_ret
  exact ⟨rfl, rfl⟩
/-- Elements, bytes and integers stay. -/
def KeepT (W W' : World) : Prop := W.heap.size ≤ W'.heap.size ∧ ∀ (r : Nat) cs t m, (t = 49 ∨ t = 5 ∨ t = 3) → W.heap[r]? = some (Obj.cells cs t m) → W'.heap[r]? = some (Obj.cells cs t m)
theorem KeepT.refl (W : World) : KeepT W W := ⟨Nat.le_refl _, fun _ _ _ _ _ h => h⟩
theorem KeepT.trans {A B C : World} (h : KeepT A B) (k : KeepT B C) : KeepT A C := ⟨Nat.le_trans h.1 k.1, fun r cs t m ht hb => k.2 r cs t m ht (h.2 r cs t m ht hb)⟩
theorem KeepT.below {A B : World} (h : Below A.heap.size A B) : KeepT A B := ⟨h.size, fun r cs t m _ hb => (h.block r (Array.getElem?_eq_some_iff.1 hb).1).trans hb⟩
theorem KeepT.put (W : World) (l : Nat) (o o' : Obj) (hl : W.heap[l]? = some o) (ho : o.isCells = false) : KeepT W (W.putObj l o') :=
  ⟨(grownBy_putObj' W l o').size, fun r cs t m _ hb => ((grownBy_putObj' W l o').block r (Array.getElem?_eq_some_iff.1 hb).1 (fun e => by
    obtain rfl : r = l := by simpa using e
    rw [hb] at hl; cases hl; cases ho)).trans hb⟩
theorem KeepT.grown {A B : World} {base : Nat} {e : TypeId} {size k : Nat} {v : Value} {xs : List Value} (hr : A.ownsRow base e size v k xs) (he : ¬ (e = 49 ∨ e = 5 ∨ e = 3)) (h : A.grownBy B v.ownBlock) : KeepT A B :=
  ⟨h.size, fun r cs t m ht hb => (h.block r (Array.getElem?_eq_some_iff.1 hb).1 (fun e' => by
    rcases hr.2 with ⟨rfl, _⟩ | ⟨g, cap, cur, rfl, _, hgb, _⟩
    · simp [Value.ownBlock] at e'
    · obtain rfl : r = g := by simpa [Value.ownBlock] using e'
      rw [hb] at hgb; cases hgb; exact he ht)).trans hb⟩
theorem KeepT.set {W : World} {B : Nat} {t : TypeId} {v : Value} (hb : Boxed W B t v) (ht : ¬ (t = 49 ∨ t = 5 ∨ t = 3)) (v' : Value) : KeepT W (W.setCell ⟨B, 0, none⟩ v') :=
  ⟨(grownBy_setCell' W B v').size, fun r cs t' m ht' hb' => ((grownBy_setCell' W B v').block r (Array.getElem?_eq_some_iff.1 hb').1 (fun e => by
    obtain rfl : r = B := by simpa using e
    have := (show W.heap[r]? = _ from hb).symm.trans hb'
    simp at this
    exact ht (this.2.1 ▸ ht'))).trans hb'⟩
theorem KeepT.alloc (W : World) (o : Obj) : KeepT W (W.alloc o) := KeepT.below ((Below.refl _ _).alloc (Nat.le_refl _) o)
theorem KeepT.own {W W' : World} (h : KeepT W W') {base size n : Nat} {e : TypeId} {v : Value} {xs : List Value} (ht : e = 49 ∨ e = 5 ∨ e = 3) (ho : W.ownsRow base e size v n xs) : W'.ownsRow base e size v n xs := by
  refine ⟨ho.1, ?_⟩
  rcases ho.2 with h' | ⟨g, cap, cur, hv, hbg, hg, r⟩
  · exact .inl h'
  · exact .inr ⟨g, cap, cur, hv, hbg, h.2 _ _ _ _ ht hg, r⟩
theorem KeepT.box {W W' : World} (h : KeepT W W') {r : Nat} {v : Value} (hb : Boxed W r 3 v) : Boxed W' r 3 v := h.2 r _ _ _ (.inr (.inr rfl)) hb
/-- A value of the kind, where it lies. -/
structure Vl where
  A : Option Addr
  c : Nat
  v : List Int
def encV (x : Vl) : Array Value := #[.slice x.A x.v.length x.c]
def TellV (x : Vl) (w : World) : Prop := (x.v.length ≤ 31 ∧ Bytes x.v) ∧ x.v.length ≤ x.c ∧ ∃ b0, w.ownsRow b0 5 1 (.slice x.A x.v.length x.c) x.v.length (x.v.map (Value.int .u8))
def El.vl (x : El) : Vl := ⟨x.A, x.c, x.v⟩
def pick (kd : Int) (l : List El) : List Vl := (l.filter (fun x => x.k == kd)).map El.vl
theorem pick_yes {kd : Int} {l : List El} {j : Nat} {x : El} (h : l[j]? = some x) (hk : x.k = kd) : pick kd (l.take (j + 1)) = pick kd (l.take j) ++ [x.vl] := by
  have hj : j < l.length := (List.getElem?_eq_some_iff.1 h).1
  unfold pick
  rw [List.take_succ_eq_append_getElem hj, (List.getElem?_eq_some_iff.1 h).2, List.filter_append, List.map_append]
  simp [hk]
theorem pick_no {kd : Int} {l : List El} {j : Nat} {x : El} (h : l[j]? = some x) (hk : x.k ≠ kd) : pick kd (l.take (j + 1)) = pick kd (l.take j) := by
  have hj : j < l.length := (List.getElem?_eq_some_iff.1 h).1
  unfold pick
  rw [List.take_succ_eq_append_getElem hj, (List.getElem?_eq_some_iff.1 h).2, List.filter_append, List.map_append]
  simp [hk]
theorem pick_vals {xs : List Int} {l : List El} (h : l.map El.e = (decR xs).1) (kd : Int) : (pick kd l).map (·.v) = vals xs kd := by
  unfold pick vals
  rw [← h, List.map_map, List.filter_map, List.map_map]
  rfl
theorem pick_len (kd : Int) (l : List El) (j : Nat) : (pick kd (l.take j)).length ≤ j := by
  unfold pick
  rw [List.length_map]
  exact Nat.le_trans (List.length_filter_le _ _) (List.length_take_le _ _)
def DoneV (xs : List Int) (kd : Int) (ys : List Vl) : Prop := ys.map (·.v) = vals xs kd
def PartV (xs : List Int) (kd : Int) (pre : List Vl) : Prop := ∃ t, pre.map (·.v) ++ t = vals xs kd
theorem part_of_take {xs : List Int} {l : List El} (h : l.map El.e = (decR xs).1) (kd : Int) (j : Nat) : PartV xs kd (pick kd (l.take j)) := by
  refine ⟨(pick kd (l.drop j)).map (·.v), ?_⟩
  rw [← pick_vals h, ← List.map_append]
  congr 1
  unfold pick
  rw [← List.map_append, ← List.filter_append, List.take_append_drop]
theorem run_len (f : Nat) : ∀ (acc : List E) (xs : List Int), (run f acc xs).1.length ≤ acc.length + xs.length := by
  induction f with
  | zero => intro acc xs; simp [run]
  | succ f ih =>
    intro acc xs
    cases xs with
    | nil => simp [run]
    | cons n r =>
      by_cases h : n = 0
      · rw [run_zero h]; simp
      · by_cases h2 : (r.length : Int) < n
        · rw [run_short h h2]; simp
        · rw [run_step h h2]
          have := ih (acc ++ [(r.headD 0, (r.drop 1).take (n.toNat - 1))]) (r.drop n.toNat)
          simp only [List.length_append, List.length_drop, List.length_cons, List.length_nil] at this ⊢
          omega
theorem run_bytes (f : Nat) : ∀ (acc : List E) (xs : List Int), Bytes xs → (∀ e ∈ acc, (0 ≤ e.1 ∧ e.1 ≤ 255) ∧ Bytes e.2) → ∀ e ∈ (run f acc xs).1, (0 ≤ e.1 ∧ e.1 ≤ 255) ∧ Bytes e.2 := by
  induction f with
  | zero => intro acc xs _ h; simpa [run] using h
  | succ f ih =>
    intro acc xs hb h
    cases xs with
    | nil => simpa [run] using h
    | cons n r =>
      by_cases h0 : n = 0
      · rw [run_zero h0]; intro e he; cases he
      · by_cases h2 : (r.length : Int) < n
        · rw [run_short h0 h2]; intro e he; cases he
        · rw [run_step h0 h2]
          have hn := hb n (by simp)
          have hr : Bytes r := fun z hz => hb z (by simp [hz])
          refine ih _ _ (fun z hz => hr z (List.mem_of_mem_drop hz)) fun e he => ?_
          rcases List.mem_append.mp he with he | he
          · exact h e he
          · rw [List.mem_singleton.mp he]
            refine ⟨?_, fun z hz => hr z (List.mem_of_mem_drop (List.mem_of_mem_take hz))⟩
            cases r with
            | nil => simp at h2; omega
            | cons y r' => exact hr y (by simp)
theorem decR_bytes {xs : List Int} (hb : Bytes xs) : ∀ e ∈ (decR xs).1, (0 ≤ e.1 ∧ e.1 ≤ 255) ∧ Bytes e.2 := by
  unfold decR
  split
  · intro e he; cases he
  · exact run_bytes 32 [] xs hb (by simp)
theorem decR_len (xs : List Int) : (decR xs).1.length ≤ 31 := by
  unfold decR
  split
  · simp
  · have := run_len 32 [] xs
    simp at this
    omega
set_option maxRecDepth 100000 in
set_option maxHeartbeats 4000000 in
theorem values1_in (n : Nat) (hn : 1 ≤ n) (l g h : Nat) (A0 : Option Addr) (m c0 : Nat) (kd : Int) (xs : List Int) (hx : xs.length = m) (hm : m ≤ 140737488355328) (hc0 : m ≤ c0) (bx : Bytes xs) (J Jx : List Vl → World → Prop) (W : World) (hJ : AbidesFrom W.heap.size J)
    (hY : ∀ pre x W1, J pre W1 → TellV x W1 → pre.length < 32 → YieldAt Fence.wide (n - 1) Try.prog l (encV x) W1 fun e W' =>
      (e = .returned (.bool true) ∧ J (pre ++ [x]) W' ∧ KeepT W1 W') ∨ (e = .returned (.bool false) ∧ Jx (pre ++ [x]) W'))
    (bB : Boxed W g 24 (.slice A0 m c0)) (bK : Boxed W h 3 (.int .i64 kd)) (hr : Ints .u8 W W.heap.size A0 xs) (h0 : J [] W) :
    CallsIn Fence.wide n Try.prog 36 #[.func (.yield l) #[] #[], .pointer (some ⟨g, 0, none⟩), .pointer (some ⟨h, 0, none⟩)] W fun e W' => (∃ v, e = .returned v) ∧
      ((∃ ys, DoneV xs kd ys ∧ J ys W') ∨ (∃ pre, PartV xs kd pre ∧ Jx pre W')) := by
  have cB := bB.cell
  have HD := Lib.hid (decode_any A0 m c0 xs W hx hc0 hm bx hr)
  refine callsIn_of_wp Try.func36 rfl trivial ?_ rfl
  simp only [Try.ntmps36, List.size_toArray, List.length_cons, List.length_nil, Nat.reduceAdd, Nat.reduceSub, Array.replicate_succ, Array.replicate_zero, List.push_toArray, List.append_toArray, List.nil_append, List.cons_append]
  gi_wp2_with (refine ⟨trivial, ?_⟩; gi_at_call 14; refine (callsIn_wide.2 HD.out).mono ?_; rintro e w2 ⟨LA, lc, L, rfl, hL, hown, hmine, hbel⟩; obtain ⟨q, hq⟩ : ∃ q, L.length = q := ⟨_, rfl⟩; rw [hq] at hown ⊢)
  have hq31 : q ≤ 31 := by
    have := decR_len xs
    rw [← hL, List.length_map, hq] at this
    exact this
  have HL := Lib.hid hL
  have HBy : Hid (∀ x ∈ L, Bytes x.v) := Lib.hid fun x hx => (decR_bytes bx x.e (by rw [← hL]; exact List.mem_map_of_mem hx)).2
  have HN := Lib.hid (fun j (h : j < q) => has hq h)
  have hJ2 := hJ _ _ _ none h0 (grown_of hbel) (fun r e => by cases e)
  have bK2 := boxed_below bK hbel
  clear hL cB bB bK hr HD h0
  gi_loopw [15] (fun s15 wr => ∃ j : Nat, j ≤ q ∧ s15 = .int .i64 j ∧ J (pick kd (L.take j)) wr ∧ Hid (wr.ownsRow W.heap.size 49 2 (.slice LA q lc) q (L.flatMap encE)) ∧ Hid (∀ x ∈ L, Mine wr W.heap.size x ∧ x.v.length ≤ 31) ∧ Boxed wr h 3 (.int .i64 kd)) (fun s15 _ => q - (intOf s15).toNat)
  case atStart => exact ⟨0, by omega, rfl, by simpa [pick] using hJ2, Lib.hid hown, Lib.hid hmine, bK2⟩
  case round =>
    obtain ⟨j, hj, rfl, hJs, HO, HM, bKr⟩ := hrel
    clear hJ2 hown hmine bK2
    have cK := bKr.cell
    by_cases c1 : j < q
    · obtain ⟨x, hxj, hxm⟩ := HN.out j c1
      have hEl : ElsAt wr wr.heap.size LA L := ⟨CellsAt.own HO.out, fun y hy => (HM.out y hy).1.own (by have := (HM.out y hy).2; omega)⟩
      obtain ⟨b, off, rfl, hbl, hc⟩ := el_cells hEl (by omega)
      obtain ⟨e0, e1⟩ := hc j x hxj
      have hMx := HM.out x hxm
      have HX := Lib.hid hxj
      have hbv := HBy.out x hxm
      obtain ⟨xk, xA, xc, xv⟩ := x
      simp only at e0 e1 hMx hbv
      obtain ⟨p, hp⟩ : ∃ p, xv.length = p := ⟨_, rfl⟩
      rw [hp] at e1 hMx
      have HP := Lib.hid hp
      have g1 : (0 : Int) ≤ (j : Int) ∧ (j : Int) < (q : Int) := by omega
      clear hc hEl hxj hxm hp
      by_cases hk : xk = kd
      · subst hk
        have hJ1 := hJ _ _ (wr.alloc (.cells #[.int .i64 xk, .slice xA p xc] 49)) none hJs (World.grownBy_alloc _ _ _) (fun r e => by cases e)
        have hT : TellV ⟨xA, xc, xv⟩ (wr.alloc (.cells #[.int .i64 xk, .slice xA p xc] 49)) := by
          refine ⟨⟨by simp only [HP.out]; exact hMx.2, hbv⟩, ?_, W.heap.size, World.ownsRow.alloc hMx.1 _⟩
          exact own_cap hMx.1
        obtain ⟨fn, tmps, assign, body, hy, hR⟩ := hY (pick xk (L.take j)) ⟨xA, xc, xv⟩ _ hJ1 hT (by have := pick_len xk L j; omega)
        simp only [encV, HP.out] at hy
        have HJ : Hid (pick xk (L.take (j + 1)) = pick xk (L.take j) ++ [⟨xA, xc, xv⟩]) := Lib.hid (pick_yes HX.out rfl)
        have HPt : Hid (PartV xs xk (pick xk (L.take j) ++ [⟨xA, xc, xv⟩])) := Lib.hid (by rw [← HJ.out]; exact part_of_take HL.out xk (j + 1))
        have cK1 := (bKr.alloc (.cells #[.int .i64 xk, .slice xA p xc] 49)).cell
        clear hJ1 hT hMx
        gi_wp2
        refine hR.mono ?_
        rintro e W3 (⟨rfl, hJ3, hk3⟩ | ⟨rfl, hJx3⟩)
        · gi_wp2
          go_roundw
          case rel => exact ⟨j + 1, by omega, by go_num, by rw [HJ.out]; exact hJ3, Lib.hid (hk3.own (.inl rfl) (HO.out.alloc _)), Lib.hid fun y hy => ⟨hk3.own (.inr (.inl rfl)) (World.ownsRow.alloc (HM.out y hy).1 _), (HM.out y hy).2⟩, hk3.box (bKr.alloc _)⟩
          case measure => simp [intOf]; omega
        · gi_wp2
          refine bodyPost_ret (results_none rfl _ _ _) rfl ?_
          exact ⟨⟨_, rfl⟩, .inr ⟨_, HPt.out, hJx3⟩⟩
      · have d0 : (xk == kd) = false := by simpa using hk
        have hJ1 := hJ _ _ (wr.alloc (.cells #[.int .i64 xk, .slice xA p xc] 49)) none hJs (World.grownBy_alloc _ _ _) (fun r e => by cases e)
        have HJ : Hid (pick kd (L.take (j + 1)) = pick kd (L.take j)) := Lib.hid (pick_no HX.out hk)
        have cK1 := (bKr.alloc (.cells #[.int .i64 xk, .slice xA p xc] 49)).cell
        clear hMx hk
        gi_wp2
        refine ⟨fun _ h => (by cases h), ?_⟩
        gi_wp2
        go_roundw
        case rel => exact ⟨j + 1, by omega, by go_num, by rw [HJ.out]; exact hJ1, Lib.hid (HO.out.alloc _), Lib.hid fun y hy => ⟨World.ownsRow.alloc (HM.out y hy).1 _, (HM.out y hy).2⟩, bKr.alloc _⟩
        case measure => simp [intOf]; omega
    · obtain rfl : j = q := by omega
      have HF : Hid (DoneV xs kd (pick kd (L.take j))) := Lib.hid (by unfold DoneV; rw [List.take_of_length_le (by omega)]; exact pick_vals HL.out kd)
      gi_wp2
      go_end0
      exact ⟨⟨_, rfl⟩, .inl ⟨_, HF.out, hJs⟩⟩
theorem values_tells (n : Nat) (hn : 1 ≤ n) (g h : Nat) (A0 : Option Addr) (m c0 : Nat) (kd : Int) (xs : List Int) (hx : xs.length = m) (hm : m ≤ 140737488355328) (hc0 : m ≤ c0) (bx : Bytes xs) (w : World) (bB : Boxed w g 24 (.slice A0 m c0)) (bK : Boxed w h 3 (.int .i64 kd)) (hr : Ints .u8 w w.heap.size A0 xs) :
    Tells Fence.wide Try.prog n 36 #[.pointer (some ⟨g, 0, none⟩), .pointer (some ⟨h, 0, none⟩)] encV KeepT TellV (DoneV xs kd) (PartV xs kd) 32 w := fun l J Jx W hW hJ hY h0 =>
  values1_in n hn l g h A0 m c0 kd xs hx hm hc0 bx J Jx W hJ hY (boxed_below bB hW) (boxed_below bK hW) (later hr hW) h0
end Go.Proofs.Ytpbfnkicbejdbaa.Ad
