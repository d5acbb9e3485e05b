/- The elements of bytes, one after the other: how long an element is; the iterator: contracts over the program. -/
import Derived.LoopNIn
import Derived.LoopIn
import Derived.Maps.AppendAt
import Derived.Deep.CutRange
import Derived.Deep.RegionHeld3
import Derived.Test.YtpbfnkicbejdbaaAdRange
import Derived.Test.YtpbfnkicbejdbaaAdMath
import Derived.Test.YtpbfnkicbejdbaaOctJoin
import Derived.Test.YtpbfnkicbejdbaaBase
set_option linter.unusedVariables false
set_option linter.unusedSimpArgs false
namespace Go.Proofs.Ytpbfnkicbejdbaa.Ad
open Go.RowKit Go.Shelf Mem Rw Oct
open Base (thenB later kept)
attribute [local go_sem] Oper.semAt_some

/-! ### Memory -/
theorem boxed_below {W W' : World} {B : Nat} {t : TypeId} {v : Value} (h : Boxed W B t v) (hb : Below W.heap.size W W') : Boxed W' B t v := (hb.block B h.lt).trans h
theorem grown_of {W W' : World} (h : Below W.heap.size W W') : W.grownBy W' none := ⟨h.os, h.tape, h.output, h.size, fun k hk _ => h.block k hk⟩
theorem frz {w : World} {a : Nat} {t : TypeId} {c : Array Value} (h : Mem.Blk w a t c) (j : Nat) : w.frozen? ⟨a, j, none⟩ = false := frozen_of_row w a j _ _ h
theorem cellof {w w' : World} {b o : Nat} {v : Value} (h : Below w.heap.size w w') (hc : w.cell? ⟨b, o, none⟩ = some v) : w'.cell? ⟨b, o, none⟩ = some v := (h.cell (p := ⟨b, o, none⟩) (World.block_lt_of_cell? _ _ hc)).trans hc
theorem blk_setc {w : World} {g : Nat} {t : TypeId} {cs : Array Value} (h : Blk w g t cs) (i : Nat) (v : Value) : Blk (w.setCell ⟨g, i, none⟩ v) g t (cs.setIfInBounds i v) := by
  have hg : g < w.heap.size := h.lt
  unfold Blk at h ⊢
  unfold World.setCell
  simp only [Array.getElem?_modify, if_true, h]
  simp
theorem blk_set_ne {w : World} {g b i : Nat} {t : TypeId} {cs : Array Value} (h : Blk w g t cs) (hb : b ≠ g) (v : Value) : Blk (w.setCell ⟨b, i, none⟩ v) g t cs := by
  unfold Blk at h ⊢
  unfold World.setCell
  simp only [Array.getElem?_modify, h]
  simp [hb]
theorem own_set {w : World} {base n size g : Nat} {e t : TypeId} {v : Value} {xs : List Value} {cs : Array Value} (h : w.ownsRow base e size v n xs) (hb : Blk w g t cs) (hne : e ≠ t) (i : Nat) (u : Value) : (w.setCell ⟨g, i, none⟩ u).ownsRow base e size v n xs := by
  refine ⟨h.1, ?_⟩
  rcases h.2 with h' | ⟨q, cap, cur, hv, hbg, hg, r⟩
  · exact .inl h'
  · refine .inr ⟨q, cap, cur, hv, hbg, ?_, r⟩
    have hq : g ≠ q := fun e' => by
      subst e'
      unfold Blk at hb
      rw [hb] at hg
      injection hg with hg; injection hg with _ hg
      exact hne hg.symm
    unfold World.setCell
    simp only [Array.getElem?_modify, hg]
    simp [hq]
theorem el_set {X : World} {g : Nat} {t : TypeId} {z0 z1 : Value} (v0 v1 : Value) (h : Blk X g t #[z0, z1]) : Blk ((X.setCell ⟨g, 0, none⟩ v0).setCell ⟨g, 1, none⟩ v1) g t #[v0, v1] := by
  have := blk_setc (blk_setc h 0 v0) 1 v1
  simpa using this
/-- What lies in a part of a slice. -/
theorem cut_lh (b off n c i j : Nat) (hij : i ≤ j) (hj : j ≤ c) : ∃ b' off', (∀ w : World, (Instr.slice 24 (.slice (some ⟨b, off, none⟩) n c) (some (.int .i64 (i : Int))) (some (.int .i64 (j : Int))) none).run Try.prog w = .ok (.slice (some ⟨b', off', none⟩) (j - i) (c - i)) w) ∧
    ∀ (w : World) (B : Nat) (zs : List Int), Ints .u8 w B (some ⟨b, off, none⟩) zs → Ints .u8 w B (some ⟨b', off', none⟩) ((zs.drop i).take (j - i)) := by
  have hs : ∀ w' : World, (sizeOf (Try.prog.elem 24)).run Try.prog w' = .ok 1 w' := fun w' => by kernel_rfl
  have e1 : (j : Int).toNat = j := by omega
  have e2 : (i : Int).toNat = i := by omega
  by_cases hc : c = i
  · refine ⟨b, off, fun w => ?_, fun w B zs _ => ?_⟩
    · rw [run_slice_lh w 24 (some ⟨b, off, none⟩) n c (by kernel_rfl) .i64 .i64 (i : Int) (j : Int) (by omega) (by omega) (by omega), hs]
      simp only [Result.andThen, sliced, e1, e2]
      rw [if_pos hc]
    · left; rw [show j - i = 0 by omega, List.take_zero]
  · refine ⟨b, off + i, fun w => ?_, fun w B zs h => ?_⟩
    · rw [run_slice_lh w 24 (some ⟨b, off, none⟩) n c (by kernel_rfl) .i64 .i64 (i : Int) (j : Int) (by omega) (by omega) (by omega), hs]
      simp only [Result.andThen, sliced, e1, e2]
      rw [if_neg (by omega)]
      simp [plain_add]
    · rcases h with h | ⟨b', off', e, hlt, hcl⟩
      · left; rw [h]; simp
      · cases e
        refine .inr ⟨b, off + i, rfl, hlt, fun q hq => ?_⟩
        rw [List.length_take, List.length_drop] at hq
        rw [Nat.add_assoc, hcl (i + q) (by omega)]
        simp [List.getD, List.getElem?_drop, List.getElem?_take, show q < j - i by omega]
theorem cut_l (b off n c i : Nat) (hi : i ≤ n) (hn : n ≤ c) : ∃ b' off', (∀ w : World, (Instr.slice 24 (.slice (some ⟨b, off, none⟩) n c) (some (.int .i64 (i : Int))) none none).run Try.prog w = .ok (.slice (some ⟨b', off', none⟩) (n - i) (c - i)) w) ∧
    ∀ (w : World) (B : Nat) (zs : List Int), zs.length = n → Ints .u8 w B (some ⟨b, off, none⟩) zs → Ints .u8 w B (some ⟨b', off', none⟩) (zs.drop i) := by
  have hs : ∀ w' : World, (sizeOf (Try.prog.elem 24)).run Try.prog w' = .ok 1 w' := fun w' => by kernel_rfl
  have e2 : (i : Int).toNat = i := by omega
  by_cases hc : c = i
  · refine ⟨b, off, fun w => ?_, fun w B zs hz _ => ?_⟩
    · rw [run_slice_l w 24 (some ⟨b, off, none⟩) n c (by kernel_rfl) .i64 (i : Int) (by omega) (by omega), hs]
      simp only [Result.andThen, sliced, e2]
      rw [if_pos hc]
    · left; rw [List.drop_of_length_le (by omega)]
  · refine ⟨b, off + i, fun w => ?_, fun w B zs hz h => ?_⟩
    · rw [run_slice_l w 24 (some ⟨b, off, none⟩) n c (by kernel_rfl) .i64 (i : Int) (by omega) (by omega), hs]
      simp only [Result.andThen, sliced, e2]
      rw [if_neg (by omega)]
      simp [plain_add]
    · rcases h with h | ⟨b', off', e, hlt, hcl⟩
      · left; rw [h]; simp
      · cases e
        refine .inr ⟨b, off + i, rfl, hlt, fun q hq => ?_⟩
        rw [List.length_drop] at hq
        rw [Nat.add_assoc, hcl (i + q) (by omega)]
        simp [List.getD, List.getElem?_drop]
/-- The value of an element lies in memory of the call's own. -/
def Mine (w : World) (base : Nat) (x : El) : Prop := w.ownsRow base 5 1 (.slice x.A x.v.length x.c) x.v.length (x.v.map (Value.int .u8))
theorem Mine.own {w : World} {base : Nat} {x : El} (h : Mine w base x) (hl : x.v.length ≤ 140737488355328) : OwnE w w.heap.size x := ⟨own_cap h, hl, Ints.own h⟩

/-! ### The length of an element -/
def measR (xs : List Int) : Int × Int := if xs.headD 0 = 0 then (0, 2) else if (xs.length : Int) < 1 + xs.headD 0 then (0, 3) else (1 + xs.headD 0, 0)
theorem measure_any (A : Option Addr) (n c : Nat) (xs : List Int) (w : World) (hx : xs.length = n) (hn0 : 0 < n) (hn1 : n ≤ 31) (bx : Bytes xs) {B : Nat} (hr : Ints .u8 w B A xs) (hB : B ≤ w.heap.size) :
    Calls Try.prog 34 #[.slice A n c] w fun e w' => e = .returned (.tuple #[.int .i64 (measR xs).1, .int .i64 (measR xs).2]) ∧ w = w' := by
  obtain ⟨b, off, rfl, hb, hc⟩ := hr.at_ (i := 0) (by omega)
  have f0 := hc 0 (by omega)
  have bz := bytes_get bx 0
  have e0 : xs.headD 0 = xs.getD 0 0 := by cases xs <;> rfl
  unfold measR
  rw [e0, hx]
  clear hc e0 hr
  obtain ⟨z, hz⟩ : ∃ z, xs.getD 0 0 = z := ⟨_, rfl⟩
  rw [hz] at f0 bz ⊢
  rw [Nat.add_zero] at f0
  clear hz hx bx
  have g1 : (0 : Int) ≤ 0 ∧ (0 : Int) < (n : Int) := by omega
  have g2 : (0 : Nat) < n := hn0
  by_cases h0 : z = 0
  · subst h0
    rw [if_pos rfl]
    go_enter Try.func34, Try.ntmps34
    go_wp2_with fail
    go_ret2
    exact ⟨rfl, rfl⟩
  · rw [if_neg h0]
    have d0 : (z == 0) = false := by simpa using h0
    have e1 : IntKind.i64.wrap z = z := by rw [IntWalk.i64_in _ (by omega)]
    have e2 : IntKind.i64.wrap (1 + z) = 1 + z := by rw [IntWalk.i64_in _ (by omega)]
    by_cases h1 : (n : Int) < 1 + z
    · rw [if_pos h1]
      go_enter Try.func34, Try.ntmps34
      go_wp2_with fail
      go_ret2
      exact ⟨rfl, rfl⟩
    · rw [if_neg h1]
      go_enter Try.func34, Try.ntmps34
      go_wp2_with fail
      go_ret2
      exact ⟨rfl, rfl⟩
theorem elements_any (A : Option Addr) (n c : Nat) (w : World) :
    Calls Try.prog 27 #[.slice A n c] w fun e w' => e = .returned (.func (.func 33) #[] #[.pointer (some ⟨w.heap.size, 0, none⟩)]) ∧ w' = w.alloc (.cells #[.slice A n c] 24) := by
  have hmf : ∀ (fn : Fn) (first cap : Array Value) (w : World), (Instr.makeFunc fn first cap).run Try.prog w = .ok (.func fn first cap) w := fun _ _ _ _ => rfl
  go_enter Try.func27, Try.ntmps27
  go_wp2
  go_ret
  exact ⟨rfl, rfl⟩
/-- What is handed over: an element and an error. -/
def encY (x : El × Int) : Array Value := #[.agg #[.int .i64 x.1.k, .slice x.1.A x.1.v.length x.1.c], .int .i64 x.2]
def Tell (b0 : Nat) (x : El × Int) (w : World) : Prop := x.2 = 0 → Mine w b0 x.1 ∧ x.1.v.length ≤ 31
def PartY (xs : List Int) (pre : List (El × Int)) : Prop := ∀ p ∈ pre, p.2 ≠ 0 → run 32 [] xs = ([], p.2)
def DoneY (xs : List Int) (ys : List (El × Int)) : Prop := PartY xs ys ∧ ((∀ p ∈ ys, p.2 = 0) → run 32 [] xs = (ys.map fun p => p.1.e, 0))
def lenS : Value → Nat
  | .slice _ n _ => n
  | _ => 0
theorem part_of {xs : List Int} {pre : List (El × Int)} (h : ∀ p ∈ pre, p.2 = 0) : PartY xs pre := fun p hp he => absurd (h p hp) he
theorem part_err {xs : List Int} {pre : List (El × Int)} {x : El × Int} (h : ∀ p ∈ pre, p.2 = 0) (hr : run 32 [] xs = ([], x.2)) : PartY xs (pre ++ [x]) := fun p hp he => by
  rcases List.mem_append.mp hp with hp | hp
  · exact absurd (h p hp) he
  · rw [List.mem_singleton.mp hp] at he ⊢; exact hr
theorem done_err {xs : List Int} {pre : List (El × Int)} {x : El × Int} (h : ∀ p ∈ pre, p.2 = 0) (hr : run 32 [] xs = ([], x.2)) (hx : x.2 ≠ 0) : DoneY xs (pre ++ [x]) :=
  ⟨part_err h hr, fun ha => absurd (ha x (by simp)) hx⟩
set_option maxRecDepth 100000 in
set_option maxHeartbeats 4000000 in
theorem elements1_in (n : Nat) (hn : 1 ≤ n) (l g b0 : Nat) (A0 : Option Addr) (m c0 : Nat) (xs : List Int) (hx : xs.length = m) (hm : m ≤ 31) (hc0 : m ≤ c0) (bx : Bytes xs) (J Jx : List (El × Int) → World → Prop) (W : World) (hJ : AbidesFrom W.heap.size J) (hb0 : b0 ≤ W.heap.size)
    (hY : ∀ pre x W1, J pre W1 → Tell b0 x W1 → pre.length < 32 → YieldAt Fence.wide (n - 1) Try.prog l (encY x) W1 fun e W' =>
      (e = .returned (.bool true) ∧ J (pre ++ [x]) W' ∧ Below b0 W1 W') ∨ (e = .returned (.bool false) ∧ Jx (pre ++ [x]) W'))
    (bB : Boxed W g 24 (.slice A0 m c0)) (hr : Ints .u8 W b0 A0 xs) (h0 : J [] W) :
    CallsIn Fence.wide n Try.prog 33 #[.func (.yield l) #[] #[], .pointer (some ⟨g, 0, none⟩)] W fun e W' => (∃ v, e = .returned v) ∧
      ((∃ ys, DoneY xs ys ∧ J ys W') ∨ (∃ pre, PartY xs pre ∧ Jx pre W')) := by
  have cB := bB.cell
  refine callsIn_of_wp Try.func33 rfl trivial ?_ rfl
  simp only [Try.ntmps33, List.size_toArray, List.length_cons, List.length_nil, Nat.reduceAdd, Nat.reduceSub, Array.replicate_succ, Array.replicate_zero, List.push_toArray, List.append_toArray, List.nil_append, List.cons_append]
  gi_wp2
  gi_loopw [3] (fun s3 wr => ∃ (pre : List (El × Int)) (A : Option Addr) (k c : Nat) (zs : List Int) (f : Nat), s3 = .slice A k c ∧ zs.length = k ∧ k ≤ c ∧ k + pre.length ≤ 31 ∧ k < f ∧ Hid (Bytes zs) ∧ Hid (Ints .u8 wr b0 A zs) ∧ Hid (run f (pre.map fun p => p.1.e) zs = run 32 [] xs) ∧ Hid (∀ p ∈ pre, p.2 = 0) ∧ J pre wr ∧ W.heap.size ≤ wr.heap.size) (fun s3 _ => lenS s3)
  case atStart => exact ⟨[], A0, m, c0, xs, 32, rfl, hx, hc0, by simpa using hm, by omega, Lib.hid bx, Lib.hid hr, Lib.hid rfl, Lib.hid (by simp), h0, Nat.le_refl _⟩
  case round =>
    obtain ⟨pre, A, k, c, zs, f, rfl, hz, hkc, hkp, hkf, HB, HI0, HR, HE, hJs, hsz⟩ := hrel
    clear bB cB
    rcases Nat.eq_zero_or_pos k with hk0 | hk0
    · subst hk0
      have hzn : zs = [] := List.eq_nil_of_length_eq_zero hz
      have HD : Hid (DoneY xs pre) := Lib.hid ⟨part_of HE.out, fun _ => by rw [← HR.out, hzn, run_nil]⟩
      clear hzn hz hkf
      gi_wp2
      go_end0
      exact ⟨⟨_, rfl⟩, .inl ⟨_, HD.out, hJs⟩⟩
    · have gk : ((0 : Int) < (k : Int)) ∧ 0 < k := by omega
      obtain ⟨f, rfl⟩ : ∃ f', f = f' + 1 := ⟨f - 1, by omega⟩
      have HMe : Hid (∀ w', w' = wr → Calls Try.prog 34 #[.slice A k c] w' fun e w2 => e = .returned (.tuple #[.int .i64 (measR zs).1, .int .i64 (measR zs).2]) ∧ w' = w2) := Lib.hid fun w' h => by
        subst h; exact measure_any A k c zs _ hz hk0 (by omega) HB.out HI0.out (by omega)
      obtain ⟨z, r, rfl⟩ : ∃ z r, zs = z :: r := by
        cases zs with
        | nil => simp at hz; omega
        | cons z r => exact ⟨z, r, rfl⟩
      have hrl : r.length + 1 = k := by simpa using hz
      have bz : 0 ≤ z ∧ z ≤ 255 := HB.out z (by simp)
      have hzk : (((z :: r).length : Nat) : Int) = (k : Int) := by rw [hz]
      by_cases hbad : z = 0 ∨ (k : Int) < 1 + z
      · obtain ⟨ec, he1, he2, he3⟩ : ∃ ec : Int, (measR (z :: r)) = (0, ec) ∧ ec ≠ 0 ∧ run 32 [] xs = ([], ec) := by
          by_cases h0 : z = 0
          · exact ⟨2, by unfold measR; simp [h0], by decide, by rw [← HR.out, run_zero h0]⟩
          · have h1 : (k : Int) < 1 + z := by rcases hbad with h | h; exact absurd h h0; exact h
            exact ⟨3, by unfold measR; rw [List.headD_cons, if_neg h0, if_pos (by rw [hzk]; exact h1)], by decide, by rw [← HR.out, run_short h0 (by omega)]⟩
        rw [he1] at HMe
        have d0 : (ec == 0) = false := by simpa using he2
        have HP : Hid (PartY xs (pre ++ [(⟨0, none, 0, []⟩, ec)])) := Lib.hid (part_err HE.out he3)
        have HD : Hid (DoneY xs (pre ++ [(⟨0, none, 0, []⟩, ec)])) := Lib.hid (done_err HE.out he3 he2)
        obtain ⟨fn, tmps, assign, body, hy, hR⟩ := hY pre (⟨0, none, 0, []⟩, ec) wr hJs (fun h => absurd h he2) (by omega)
        simp only [encY, List.length_nil] at hy
        clear he1 he2 he3 hbad HR HE HB HI0
        gi_wp2_with (refine ⟨trivial, ?_⟩; gi_at_call 34; refine (callsIn_wide.2 (HMe.out _ rfl)).mono ?_; rintro e w2 ⟨rfl, rfl⟩)
        refine hR.mono ?_
        rintro e W3 (⟨rfl, hJ3, hk3⟩ | ⟨rfl, hJx3⟩)
        · gi_wp2
          refine bodyPost_ret (results_none rfl _ _ _) rfl ?_
          exact ⟨⟨_, rfl⟩, .inl ⟨_, HD.out, hJ3⟩⟩
        · gi_wp2
          refine bodyPost_ret (results_none rfl _ _ _) rfl ?_
          exact ⟨⟨_, rfl⟩, .inr ⟨_, HP.out, hJx3⟩⟩
      · have hz0 : z ≠ 0 := fun h => hbad (.inl h)
        have hz1 : ¬ (k : Int) < 1 + z := fun h => hbad (.inr h)
        obtain ⟨s, hs⟩ : ∃ s : Nat, 1 + z = (s : Int) := ⟨(1 + z).toNat, by omega⟩
        have he1 : measR (z :: r) = ((s : Int), 0) := by unfold measR; rw [List.headD_cons, if_neg hz0, if_neg (by rw [hzk]; exact hz1), hs]
        rw [he1] at HMe
        have hs2 : 2 ≤ s ∧ s ≤ k := by omega
        obtain ⟨b, off, rfl, hbb, hcl⟩ := HI0.out.at_ (i := 0) (by simp)
        obtain ⟨b2, o2, hcut, hcutI⟩ := cut_lh b off k c 2 s hs2.1 (by omega)
        obtain ⟨b3, o3, hcut3, hcutI3⟩ := cut_l b off k c s hs2.2 hkc
        obtain ⟨y, r', rfl⟩ : ∃ y r', r = y :: r' := by
          cases r with
          | nil => simp at hrl; omega
          | cons y r' => exact ⟨y, r', rfl⟩
        have T0 : wr.cell? ⟨b, off + 1, none⟩ = some (.int .u8 y) := hcl 1 (by simp)
        have by_ : 0 ≤ y ∧ y ≤ 255 := HB.out y (by simp)
        have ey : IntKind.i64.wrap y = y := by rw [IntWalk.i64_in _ (by omega)]
        obtain ⟨q, hq⟩ : ∃ q, s - 2 = q := ⟨_, rfl⟩
        rw [hq] at hcut hcutI
        replace hcut : ∀ w : World, (Instr.slice 24 (.slice (some ⟨b, off, none⟩) k c) (some (.int .i64 2)) (some (.int .i64 (s : Int))) none).run Try.prog w = .ok (.slice (some ⟨b2, o2, none⟩) q (c - 2)) w := hcut
        obtain ⟨vs, hvs⟩ : ∃ vs, r'.take q = vs := ⟨_, rfl⟩
        have hvl : vs.length = q := by rw [← hvs, List.length_take]; simp at hrl; omega
        have HQ := Lib.hid hvl
        have HI : Hid (∀ w', Below wr.heap.size wr w' → Ints .u8 w' w'.heap.size (some ⟨b2, o2, none⟩) vs) := Lib.hid fun w' hb => by
          have := hcutI w' b0 (z :: y :: r') (HI0.out.below (hb.mono (by omega)))
          simp only [List.drop_succ_cons, List.drop_zero, hvs] at this
          exact this.more (by have := hb.size; omega)
        have HC : Hid (∀ w', Below wr.heap.size wr w' → Ints .u8 w' w'.heap.size (some ⟨b2, o2, none⟩) vs → Calls Try.prog 35 #[.slice (some ⟨b2, o2, none⟩) q (c - 2)] w' fun e w2 => Base.Makes w' w2 e vs) := Lib.hid fun w' _ hi => clone_any _ q (c - 2) vs w' HQ.out hi (by omega) (fun h => by cases h)
        have HN : Hid (∀ w', Below b0 wr w' → Ints .u8 w' b0 (some ⟨b3, o3, none⟩) ((z :: y :: r').drop s)) := Lib.hid fun w' hb => hcutI3 w' b0 _ hz (HI0.out.below hb)
        have HL3 : Hid (((z :: y :: r').drop s).length = k - s) := Lib.hid (by rw [List.length_drop, hz])
        have HB3 : Hid (Bytes ((z :: y :: r').drop s)) := Lib.hid fun x hx => HB.out x (List.mem_of_mem_drop hx)
        have HR3 : Hid (∀ A2 c2, run f ((pre ++ [((⟨y, A2, c2, vs⟩ : El), (0 : Int))]).map fun p => p.1.e) ((z :: y :: r').drop s) = run 32 [] xs) := Lib.hid fun A2 c2 => by
          rw [← HR.out, run_step hz0 (by simp at hrl ⊢; omega)]
          have e1 : z.toNat = s - 1 := by omega
          have e2 : (z :: y :: r').drop s = (y :: r').drop (s - 1) := by
            rw [show s = (s - 1) + 1 by omega, List.drop_succ_cons]
            rfl
          rw [e1, e2, List.map_append, show s - 1 - 1 = q by omega]
          simp only [List.map_cons, List.map_nil, El.e, List.headD_cons, List.drop_succ_cons, List.drop_zero, hvs]
        have HE3 : Hid (∀ A2 c2, ∀ p ∈ pre ++ [((⟨y, A2, c2, vs⟩ : El), (0 : Int))], p.2 = 0) := Lib.hid fun A2 c2 p hp => by
          rcases List.mem_append.mp hp with hp | hp
          · exact HE.out p hp
          · rw [List.mem_singleton.mp hp]
        have hW0 : b0 ≤ wr.heap.size := by omega
        have gk1 : ¬ (k : Int) ≤ 1 ∧ (1 : Int) < (k : Int) ∧ 1 < k := by omega
        clear hcl hcutI hcutI3 HB HI0 HR HE hvs hrl hbad he1 hvl
        gi_wp2_with (refine ⟨trivial, ?_⟩; gi_at_call 34; refine (callsIn_wide.2 (HMe.out _ rfl)).mono ?_; rintro e w2 ⟨rfl, rfl⟩)
        refine wpIn_wide.2 ?_
        go_cut [6] from 22 to 30 (fun s6 wx => ∃ G A2 c2, s6 = .pointer (some ⟨G, 0, none⟩) ∧ Blk wx G 49 #[.int .i64 y, .slice A2 q c2] ∧ wx.ownsRow b0 5 1 (.slice A2 q c2) q (vs.map (Value.int .u8)) ∧ Below wr.heap.size wr wx)
        case first =>
          go_wp2_with fail
          refine wp_region_held_drew (S := (fun w' => w'.cell? ⟨b, off + 1, none⟩ = some (.int .u8 y))) (by kernel_rfl) ?_ (fun hHeld => ?_)
          · exact T0
          have BX := (Below.refl wr.heap.size wr).drew
          have T := cellof BX T0
          generalize wr.drew = X0 at *
          refine wpAnyH_take (i := 0) (v := .slice (some ⟨b, off, none⟩) k c) rfl (by kernel_rfl) (by kernel_rfl) (by kernel_rfl) (fun _ _ _ h => h) (Or.inl ⟨by first | rfl | go_simp, by intro w9 hSw; (try dsimp only at hSw); go_simp⟩) (by assumption) ?_
          simp only [List.getElem_toArray, List.getElem_cons_zero, List.getElem_cons_succ, Act.put, List.setIfInBounds_toArray, List.set_cons_zero, List.set_cons_succ]
          refine wpAnyH_take (i := 1) (v := .pointer (some ⟨b, off + 1, none⟩)) rfl (by kernel_rfl) (by kernel_rfl) (by kernel_rfl) (fun _ _ _ h => h) (Or.inl ⟨by first | rfl | go_simp, by intro w9 hSw; (try dsimp only at hSw); go_simp⟩) (by assumption) ?_
          simp only [List.getElem_toArray, List.getElem_cons_zero, List.getElem_cons_succ, Act.put, List.setIfInBounds_toArray, List.set_cons_zero, List.set_cons_succ]
          refine wpAnyH_take (i := 2) (v := .int .u8 y) rfl (by kernel_rfl) (by kernel_rfl) (by kernel_rfl) (fun _ _ _ h => h) (Or.inl ⟨by first | rfl | go_simp, by intro w9 hSw; (try dsimp only at hSw); go_simp⟩) (by assumption) ?_
          simp only [List.getElem_toArray, List.getElem_cons_zero, List.getElem_cons_succ, Act.put, List.setIfInBounds_toArray, List.set_cons_zero, List.set_cons_succ]
          refine wpAnyH_take (i := 3) (v := .int .i64 y) rfl (by kernel_rfl) (by kernel_rfl) (by kernel_rfl) (fun _ _ _ h => h) (Or.inl ⟨by first | rfl | go_simp, by intro w9 hSw; (try dsimp only at hSw); go_simp⟩) (by assumption) ?_
          simp only [List.getElem_toArray, List.getElem_cons_zero, List.getElem_cons_succ, Act.put, List.setIfInBounds_toArray, List.set_cons_zero, List.set_cons_succ]
          refine wpAnyH_take (i := 4) (v := .slice (some ⟨b, off, none⟩) k c) rfl (by kernel_rfl) (by kernel_rfl) (by kernel_rfl) (fun _ _ _ h => h) (Or.inl ⟨by first | rfl | go_simp, by intro w9 hSw; (try dsimp only at hSw); go_simp⟩) (by assumption) ?_
          simp only [List.getElem_toArray, List.getElem_cons_zero, List.getElem_cons_succ, Act.put, List.setIfInBounds_toArray, List.set_cons_zero, List.set_cons_succ]
          refine wpAnyH_take (i := 5) (v := .int .i64 (s : Int)) rfl (by kernel_rfl) (by kernel_rfl) (by kernel_rfl) (fun _ _ _ h => h) (Or.inl ⟨by first | rfl | go_simp, by intro w9 hSw; (try dsimp only at hSw); go_simp⟩) (by assumption) ?_
          simp only [List.getElem_toArray, List.getElem_cons_zero, List.getElem_cons_succ, Act.put, List.setIfInBounds_toArray, List.set_cons_zero, List.set_cons_succ]
          refine wpAnyH_take (i := 6) (v := .slice (some ⟨b2, o2, none⟩) q (c - 2)) rfl (by kernel_rfl) (by kernel_rfl) (by kernel_rfl) (fun _ _ _ h => h) (Or.inl ⟨by first | rfl | go_simp, by intro w9 hSw; (try dsimp only at hSw); go_simp⟩) (by assumption) ?_
          simp only [List.getElem_toArray, List.getElem_cons_zero, List.getElem_cons_succ, Act.put, List.setIfInBounds_toArray, List.set_cons_zero, List.set_cons_succ]
          refine wpAnyH_ready (rs := [7, 9]) (by kernel_rfl) (by simp) ?_
          refine AllReadyH.cons rfl (fun K hK => ?_) (AllReadyH.cons rfl (fun K hK => ?_) (AllReadyH.nil))
          · skip
            go_simp
            refine (HC.out _ BX (HI.out _ BX)).mono ?_
            intro e X1 hm
            obtain ⟨A2, c2, rfl, own, b9⟩ := hm.len HQ.out
            have own := own_base own (show b0 ≤ X0.heap.size from Nat.le_trans hW0 BX.size)
            have BX := thenB BX b9
            have T := cellof BX T0
            refine hK.out _ _ T (fun hHeld => ?_)
            clear hK K
            try simp only [List.getElem_toArray, List.getElem_cons_zero, List.getElem_cons_succ, Act.put, List.setIfInBounds_toArray, List.set_cons_zero, List.set_cons_succ]
            refine wpAnyH_take (i := 8) (v := .agg #[.int .i64 y, .slice A2 q c2]) rfl (by kernel_rfl) (by kernel_rfl) (by kernel_rfl) (fun _ _ _ h => h) (Or.inl ⟨by first | rfl | go_simp, by intro w9 hSw; (try dsimp only at hSw); go_simp⟩) (by assumption) ?_
            simp only [List.getElem_toArray, List.getElem_cons_zero, List.getElem_cons_succ, Act.put, List.setIfInBounds_toArray, List.set_cons_zero, List.set_cons_succ]
            refine wpAnyH_ready (rs := [9]) (by kernel_rfl) (by simp) ?_
            refine AllReadyH.cons rfl (fun K hK => ?_) (AllReadyH.nil)
            go_simp
            have b9 := (Below.refl X1.heap.size X1).alloc (Nat.le_refl _) (.cells #[.int .i64 0, .slice none 0 0] 49)
            have PE := Blk.fresh X1 49 #[.int .i64 0, .slice none 0 0]
            have gE : wr.heap.size ≤ X1.heap.size := BX.size
            generalize X1.alloc (.cells #[.int .i64 0, .slice none 0 0] 49) = X2 at *
            have BX := thenB BX b9
            have T := cellof BX T0
            have own := own_below own b9
            refine hK.out _ _ T (fun hHeld => ?_)
            clear hK K
            try simp only [List.getElem_toArray, List.getElem_cons_zero, List.getElem_cons_succ, Act.put, List.setIfInBounds_toArray, List.set_cons_zero, List.set_cons_succ]
            refine wpAnyH_ready (rs := [10]) (by kernel_rfl) (by simp) ?_
            refine AllReadyH.cons rfl (fun K hK => ?_) (AllReadyH.nil)
            have c0 := PE.cell 0
            have c1 := PE.cell 1
            have z0 := frz PE 0
            have z1 := frz PE 1
            have own := own_set (own_set own PE (by decide) 0 (.int .i64 y)) (blk_setc PE 0 (.int .i64 y)) (by decide) 1 (.slice A2 q c2)
            have BX := (BX.setCell (p := ⟨X1.heap.size, 0, none⟩) gE (.int .i64 y)).setCell (p := ⟨X1.heap.size, 1, none⟩) gE (.slice A2 q c2)
            have PE := el_set (.int .i64 y) (.slice A2 q c2) PE
            have T : _ := cellof BX T0
            go_simp
            clear c0 c1 z0 z1
            generalize (X2.setCell ⟨X1.heap.size, 0, none⟩ (.int .i64 y)).setCell ⟨X1.heap.size, 1, none⟩ (.slice A2 q c2) = X3 at *
            refine hK.out _ _ T (fun hHeld => ?_)
            clear hK K
            try simp only [List.getElem_toArray, List.getElem_cons_zero, List.getElem_cons_succ, Act.put, List.setIfInBounds_toArray, List.set_cons_zero, List.set_cons_succ]
            refine wpAnyH_done (by kernel_rfl) ?_ _
            go_wp2_with fail
            go_meet
            exact ⟨_, A2, c2, rfl, PE, own, BX⟩
          · skip
            go_simp
            have b9 := (Below.refl X0.heap.size X0).alloc (Nat.le_refl _) (.cells #[.int .i64 0, .slice none 0 0] 49)
            have PE := Blk.fresh X0 49 #[.int .i64 0, .slice none 0 0]
            have gE : wr.heap.size ≤ X0.heap.size := BX.size
            generalize X0.alloc (.cells #[.int .i64 0, .slice none 0 0] 49) = X4 at *
            have BX := thenB BX b9
            have T := cellof BX T0
            refine hK.out _ _ T (fun hHeld => ?_)
            clear hK K
            try simp only [List.getElem_toArray, List.getElem_cons_zero, List.getElem_cons_succ, Act.put, List.setIfInBounds_toArray, List.set_cons_zero, List.set_cons_succ]
            refine wpAnyH_ready (rs := [7]) (by kernel_rfl) (by simp) ?_
            refine AllReadyH.cons rfl (fun K hK => ?_) (AllReadyH.nil)
            go_simp
            refine (HC.out _ BX (HI.out _ BX)).mono ?_
            intro e X5 hm
            obtain ⟨A2, c2, rfl, own, b9⟩ := hm.len HQ.out
            have own := own_base own (show b0 ≤ X4.heap.size from Nat.le_trans hW0 BX.size)
            have BX := thenB BX b9
            have T := cellof BX T0
            have PE := PE.below b9 PE.lt
            refine hK.out _ _ T (fun hHeld => ?_)
            clear hK K
            try simp only [List.getElem_toArray, List.getElem_cons_zero, List.getElem_cons_succ, Act.put, List.setIfInBounds_toArray, List.set_cons_zero, List.set_cons_succ]
            refine wpAnyH_take (i := 8) (v := .agg #[.int .i64 y, .slice A2 q c2]) rfl (by kernel_rfl) (by kernel_rfl) (by kernel_rfl) (fun _ _ _ h => h) (Or.inl ⟨by first | rfl | go_simp, by intro w9 hSw; (try dsimp only at hSw); go_simp⟩) (by assumption) ?_
            simp only [List.getElem_toArray, List.getElem_cons_zero, List.getElem_cons_succ, Act.put, List.setIfInBounds_toArray, List.set_cons_zero, List.set_cons_succ]
            refine wpAnyH_ready (rs := [10]) (by kernel_rfl) (by simp) ?_
            refine AllReadyH.cons rfl (fun K hK => ?_) (AllReadyH.nil)
            have c0 := PE.cell 0
            have c1 := PE.cell 1
            have z0 := frz PE 0
            have z1 := frz PE 1
            have own := own_set (own_set own PE (by decide) 0 (.int .i64 y)) (blk_setc PE 0 (.int .i64 y)) (by decide) 1 (.slice A2 q c2)
            have BX := (BX.setCell (p := ⟨X0.heap.size, 0, none⟩) gE (.int .i64 y)).setCell (p := ⟨X0.heap.size, 1, none⟩) gE (.slice A2 q c2)
            have PE := el_set (.int .i64 y) (.slice A2 q c2) PE
            have T : _ := cellof BX T0
            go_simp
            clear c0 c1 z0 z1
            generalize (X5.setCell ⟨X0.heap.size, 0, none⟩ (.int .i64 y)).setCell ⟨X0.heap.size, 1, none⟩ (.slice A2 q c2) = X6 at *
            refine hK.out _ _ T (fun hHeld => ?_)
            clear hK K
            try simp only [List.getElem_toArray, List.getElem_cons_zero, List.getElem_cons_succ, Act.put, List.setIfInBounds_toArray, List.set_cons_zero, List.set_cons_succ]
            refine wpAnyH_done (by kernel_rfl) ?_ _
            go_wp2_with fail
            go_meet
            exact ⟨_, A2, c2, rfl, PE, own, BX⟩
        case rest =>
          obtain ⟨G, A2, c2, rfl, PE, own, BX⟩ := hcut
          have hJ1 := hJ _ _ _ none hJs (grown_of BX) (fun r e => by cases e)
          have hM : Mine wc b0 ⟨y, A2, c2, vs⟩ := by
            unfold Mine
            simp only [HQ.out]
            exact own
          obtain ⟨fn, tmps, assign, body, hy, hR⟩ := hY pre (⟨y, A2, c2, vs⟩, 0) wc hJ1 (fun _ => ⟨hM, by simp only [HQ.out]; omega⟩) (by omega)
          simp only [encY, HQ.out] at hy
          have c0 : wc.cell? ⟨G, 0, none⟩ = some (.int .i64 y) := PE.cell 0
          have c1 : wc.cell? ⟨G, 1, none⟩ = some (.slice A2 q c2) := PE.cell 1
          have HBx := Lib.hid BX
          clear own PE hM hJ1 hcut HI HC BX
          gi_wp2
          refine hR.mono ?_
          rintro e W3 (⟨rfl, hJ3, hk3⟩ | ⟨rfl, hJx3⟩)
          · have hB3 : Below b0 wr W3 := (HBx.out.mono hW0).trans hk3
            have hs3 : s ≤ k ∧ (0 : Int) ≤ (s : Int) ∧ (s : Int) ≤ (k : Int) := by omega
            gi_wp2
            go_roundw
            case rel => exact ⟨pre ++ [(⟨y, A2, c2, vs⟩, 0)], some ⟨b3, o3, none⟩, k - s, c - s, _, f, rfl, HL3.out, by omega, by simp; omega, by omega, HB3, Lib.hid (HN.out W3 hB3), Lib.hid (HR3.out A2 c2), Lib.hid (HE3.out A2 c2), hJ3, by have := hB3.size; omega⟩
            case measure => simp [lenS]; omega
          · gi_wp2
            refine bodyPost_ret (results_none rfl _ _ _) rfl ?_
            exact ⟨⟨_, rfl⟩, .inr ⟨_, part_of (HE3.out A2 c2), hJx3⟩⟩
end Go.Proofs.Ytpbfnkicbejdbaa.Ad
