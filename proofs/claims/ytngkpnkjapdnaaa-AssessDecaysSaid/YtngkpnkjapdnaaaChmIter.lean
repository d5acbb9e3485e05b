/- The channels of a map, one after the other: the iterator, the list, an element: contracts over the program. -/
import Derived.RangeFuncNested
import Derived.RangeFuncBound
import Derived.RangeFuncCalls
import Derived.RangeFuncLeaves
import Derived.RangeFuncBox
import Derived.Shelf.Abstract
import Derived.Shelf.RegionOpen
import Derived.WalkKit
import Derived.OwnWalkIn
import Derived.TacticsInMore
import Derived.LoopNIn
import Derived.LoopIn
import Derived.Maps.AppendAt
import Derived.Test.YtngkpnkjapdnaaaBase
import Derived.Test.YtngkpnkjapdnaaaChmWalks
set_option linter.unusedVariables false
set_option linter.unusedSimpArgs false
namespace Go.Proofs.Ytngkpnkjapdnaaa.Chm
open Go.RowKit Go.Shelf Mem
attribute [local go_sem] Oper.semAt_some

/-- The boxes of maps and of functions are kept. -/
def Kb (W W' : World) : Prop := W.heap.size ≤ W'.heap.size ∧ ∀ r t v, (t = 35 ∨ t = 35) → Boxed W r t v → Boxed W' r t v
theorem Kb.refl (W : World) : Kb W W := ⟨Nat.le_refl _, fun _ _ _ _ h => h⟩
theorem Kb.trans {A B C : World} (h : Kb A B) (k : Kb B C) : Kb A C := ⟨Nat.le_trans h.1 k.1, fun r t v ht hb => k.2 r t v ht (h.2 r t v ht hb)⟩
theorem Kb.below {A B : World} (h : Below A.heap.size A B) : Kb A B := ⟨h.size, fun r t v _ hb => (h.block r hb.lt).trans hb⟩
theorem Kb.put (W : World) (l : Nat) (o o' : Obj) (hl : W.heap[l]? = some o) (ho : o.isCells = false) : Kb W (W.putObj l o') :=
  ⟨(grownBy_putObj' W l o').size, fun r t v _ hb => hb.kept (grownBy_putObj' W l o') (fun e => by
    obtain rfl : r = l := by simpa using e
    rw [show W.heap[r]? = _ from hb] at hl; cases hl; cases ho)⟩
theorem Kb.grown {A B : World} {base : Nat} {e : TypeId} {size k : Nat} {v : Value} {xs : List Value} (hr : A.ownsRow base e size v k xs) (he : ¬ (e = 35 ∨ e = 35)) (h : A.grownBy B v.ownBlock) : Kb A B :=
  ⟨h.size, fun r t u ht hb => hb.kept h (hb.not_row (fun (x : t = e) => he (by rw [← x]; exact ht)) hr)⟩
theorem Kb.set {W : World} {B : Nat} {t : TypeId} {v : Value} (hb : Boxed W B t v) (ht : ¬ (t = 35 ∨ t = 35)) (v' : Value) : Kb W (W.setCell ⟨B, 0, none⟩ v') :=
  ⟨(grownBy_setCell' W B v').size, fun r t' u ht' hb' => hb'.kept (grownBy_setCell' W B v') (fun e => by
    obtain rfl : r = B := by simpa using e
    have := (show W.heap[r]? = _ from hb).symm.trans hb'
    simp at this
    exact ht (this.2 ▸ ht'))⟩
theorem Kb.alloc (W : World) (o : Obj) : Kb W (W.alloc o) := Kb.below ((Below.refl _ _).alloc (Nat.le_refl _) o)
theorem Kb.box {W W' : World} (h : Kb W W') {r : Nat} {v : Value} (hb : Boxed W r 35 v) : Boxed W' r 35 v := h.2 r _ v (.inl rfl) hb

theorem channels_any (m : Nat) (w : World) :
    Calls Try.prog 40 #[.int .u64 m] w fun e w' => e = .returned (.func (.func 41) #[] #[.pointer (some ⟨w.heap.size, 0, none⟩)]) ∧ w' = w.alloc (.cells #[.int .u64 m] 35) := by
  have hmf : ∀ (fn : Fn) (first cap : Array Value) (w : World), (Instr.makeFunc fn first cap).run Try.prog w = .ok (.func fn first cap) w := fun _ _ _ _ => rfl
  go_enter Try.func40, Try.ntmps40
  go_wp2
  go_ret
  exact ⟨rfl, rfl⟩
/-- The channels below c. -/
def chb (m c : Nat) : List Nat := (List.range c).filter (hasN m)
theorem chb_yes {m c : Nat} (h : hasN m c = true) : chb m (c + 1) = chb m c ++ [c] := by unfold chb; rw [List.range_succ, List.filter_append]; simp [h]
theorem chb_no {m c : Nat} (h : hasN m c = false) : chb m (c + 1) = chb m c := by unfold chb; rw [List.range_succ, List.filter_append]; simp [h]
theorem chb_len (m c : Nat) : (chb m c).length ≤ c := by
  have := List.length_filter_le (hasN m) (List.range c)
  rwa [List.length_range] at this
theorem has_to {m : Nat} {c : Nat} {b : Bool} (hm : m ≤ 18446744073709551615) (hb : hasN m c = b) (w : World) :
    Calls Try.prog 42 #[.int .u64 m, .int .i64 c] w fun e w' => e = .returned (.bool b) ∧ w = w' := by
  rw [← hb, ← hasZ_nat]; exact has_any m c w hm
theorem channels1_in (n : Nat) (hn : 1 ≤ n) (l Bs : Nat) (m : Nat) (hm : m ≤ 18446744073709551615) (J Jx : List Nat → World → Prop)
    (hY : ∀ pre c W, J pre W → pre.length < 37 → c < 37 → YieldAt Fence.wide (n - 1) Try.prog l #[.int .i64 (c : Nat)] W fun e W' =>
      (e = .returned (.bool true) ∧ J (pre ++ [c]) W' ∧ Kb W W') ∨ (e = .returned (.bool false) ∧ Jx (pre ++ [c]) W'))
    (W : World) (hBs : Boxed W Bs 35 (.int .u64 m)) (h0 : J [] W) :
    CallsIn Fence.wide n Try.prog 41 #[.func (.yield l) #[] #[], .pointer (some ⟨Bs, 0, none⟩)] W fun e W' => (∃ v, e = .returned v) ∧
      ((∃ ys, ys = chans m ∧ J ys W') ∨ (∃ pre, (∃ c, c < 37 ∧ hasN m c = true ∧ pre = chb m (c + 1)) ∧ Jx pre W')) := by
  refine callsIn_of_wp Try.func41 rfl trivial ?_ rfl
  simp only [Try.ntmps41, List.size_toArray, List.length_cons, List.length_nil, Nat.reduceAdd, Nat.reduceSub, Array.replicate_succ, Array.replicate_zero, List.push_toArray, List.append_toArray, List.nil_append, List.cons_append]
  gi_wp2
  gi_loopw [4] (fun i wr => ∃ c : Nat, c ≤ 37 ∧ i = .int .i64 c ∧ J (chb m c) wr ∧ Boxed wr Bs 35 (.int .u64 m)) (fun i _ => 37 - (intOf i).toNat)
  case atStart => exact ⟨0, by omega, rfl, h0, hBs⟩
  case round =>
    obtain ⟨c, hc, rfl, hJs, hB⟩ := hrel
    have cB := hB.cell
    by_cases h1 : c < 37
    · by_cases hb : hasN m c = true
      · have HJ := Lib.hid (chb_yes hb)
        have HP : Hid (∃ c, c < 37 ∧ hasN m c = true ∧ chb m (c + 1) = chb m (c + 1)) := Lib.hid ⟨c, h1, hb, rfl⟩
        obtain ⟨fn, tmps, assign, body, hy, hR⟩ := hY (chb m c) c wr hJs (by have := chb_len m c; omega) h1
        have HH := Lib.hid (has_to hm hb)
        have HX : Hid (hasN m c = true) := Lib.hid hb
        clear hb
        gi_wp2_with (refine ⟨trivial, ?_⟩; gi_at_call 42; refine (callsIn_wide.2 (HH.out _)).mono ?_; rintro e w' ⟨rfl, rfl⟩)
        refine hR.mono ?_
        rintro e W3 (⟨rfl, hJ3, hk3⟩ | ⟨rfl, hJx3⟩)
        · gi_wp2
          go_roundw
          case rel => exact ⟨c + 1, by omega, by go_num, by rw [HJ.out]; exact hJ3, hk3.box hB⟩
          case measure => simp [intOf]; omega
        · gi_wp2
          refine bodyPost_ret (results_none rfl _ _ _) rfl ?_
          exact ⟨⟨_, rfl⟩, .inr ⟨_, ⟨c, h1, HX.out, HJ.out.symm⟩, hJx3⟩⟩
      · have hb' : hasN m c = false := by simpa using hb
        have HJ := Lib.hid (chb_no hb')
        have HH := Lib.hid (has_to hm hb')
        clear hb hb'
        gi_wp2_with (first
          | (refine ⟨trivial, ?_⟩; gi_at_call 42; refine (callsIn_wide.2 (HH.out _)).mono ?_; rintro e w' ⟨rfl, rfl⟩)
          | fail)
        refine ⟨fun _ h => (by cases h), ?_⟩
        gi_wp2
        go_roundw
        case rel => exact ⟨c + 1, by omega, by go_num, by rw [HJ.out]; exact hJs, hB⟩
        case measure => simp [intOf]; omega
    · obtain rfl : c = 37 := by omega
      gi_wp2
      go_end0
      exact ⟨⟨_, rfl⟩, .inl ⟨_, rfl, hJs⟩⟩
theorem channels_stops (n : Nat) (hn : 1 ≤ n) (Bs : Nat) (m : Nat) (hm : m ≤ 18446744073709551615) (w : World) (hBs : Boxed w Bs 35 (.int .u64 m)) :
    SeqStopsK Fence.wide n Try.prog 41 #[.pointer (some ⟨Bs, 0, none⟩)] (fun c : Nat => #[Value.int .i64 (c : Nat)]) Kb (fun ys => ys = chans m) (fun pre => ∃ c, c < 37 ∧ hasN m c = true ∧ pre = chb m (c + 1)) 37 w := fun l J Jx W hW _ _ hY h0 =>
  channels1_in n hn l Bs m hm J Jx (fun pre c W hj hl _ => hY pre c W hj hl) W ((Kb.below hW).box hBs) h0
theorem channels37_stops (n : Nat) (hn : 1 ≤ n) (Bs : Nat) (m : Nat) (hm : m ≤ 18446744073709551615) (w : World) (hBs : Boxed w Bs 35 (.int .u64 m)) :
    SeqStopsK Fence.wide n Try.prog 41 #[.pointer (some ⟨Bs, 0, none⟩)] (fun c : Nat => #[Value.int .i64 (c % 37 : Nat)]) Kb (fun ys => ys = chans m) (fun pre => ∃ c, c < 37 ∧ hasN m c = true ∧ pre = chb m (c + 1)) 37 w := fun l J Jx W hW _ _ hY h0 =>
  channels1_in n hn l Bs m hm J Jx (fun pre c W hj hl hc => by have := hY pre c W hj hl; dsimp only at this; rwa [Nat.mod_eq_of_lt hc] at this) W ((Kb.below hW).box hBs) h0
theorem Kb.put' {w : World} (W : World) (l : Nat) (o o' : Obj) (_ : w.heap.size ≤ l) (hl : W.heap[l]? = some o) (ho : o.isCells = false) (_ : o.isWalk = false) : Kb W (W.putObj l o') := Kb.put W l o o' hl ho
theorem boxed_below {W W' : World} {B : Nat} {t : TypeId} {v : Value} (h : Boxed W B t v) (hb : Below W.heap.size W W') : Boxed W' B t v := (hb.block B h.lt).trans h
theorem info_int : (Try.prog.info? 3).map (fun i => (i.zero, i.size, i.bytes)) = some (some (.int .i64 0), 1, 8) := by kernel_rfl
/-- What a call makes of integers: a row of its own. -/
def MakesI (w w' : World) (e : Ending) (zs : List Int) : Prop :=
  ∃ A c, e = .returned (.slice A zs.length c) ∧ w'.ownsRow w.heap.size 3 1 (.slice A zs.length c) zs.length (zs.map (Value.int .i64)) ∧ Below w.heap.size w w'
theorem makesI_of {w w' : World} {e : Ending} {v : Value} {n : Nat} {zs : List Int} (he : e = .returned v) (hn : zs.length = n) (h : w'.ownsRow w.heap.size 3 1 v n (zs.map (Value.int .i64))) (hb : Below w.heap.size w w') : MakesI w w' e zs := by
  obtain ⟨A, c, hv⟩ := own_form h
  subst hn
  exact ⟨A, c, by rw [he, hv], by rw [← hv]; exact h, hb⟩
theorem MakesI.read {w w' : World} {e : Ending} {zs : List Int} (h : MakesI w w' e zs) {n : Nat} (hn : zs.length = n) : ∃ A c, e = .returned (.slice A n c) ∧ n ≤ c ∧ Ints .i64 w' w'.heap.size A zs ∧ Below w.heap.size w w' := by
  subst hn
  obtain ⟨A, c, he, ho, hb⟩ := h
  exact ⟨A, c, he, own_cap ho, Ints.own ho, hb⟩
def zs (l : List Nat) : List Int := l.map (fun c : Nat => (c : Int))
theorem zs_len (l : List Nat) : (zs l).length = l.length := by simp [zs]
theorem zs_snoc (l : List Nat) (c : Nat) : zs (l ++ [c]) = zs l ++ [(c : Int)] := by simp [zs]
set_option maxRecDepth 100000 in
set_option maxHeartbeats 2000000 in
theorem list_any (m : Nat) (w : World) (hm : m ≤ 18446744073709551615) :
    Calls Try.prog 39 #[.int .u64 m] w fun e w' => MakesI w w' e (zs (chans m)) := by
  obtain ⟨i0, hi, hz0, hz1, hz2⟩ := info_parts info_int
  refine (callsIn_wide (n := 3)).1 ?_
  refine callsIn_of_wp_marks Try.func39 rfl trivial ?_ rfl
  simp only [Try.ntmps39, List.size_toArray, List.length_cons, List.length_nil, Nat.reduceAdd, Nat.reduceSub, Array.replicate_succ, Array.replicate_zero, List.push_toArray, List.append_toArray, List.nil_append, List.cons_append]
  gi_wp2_with (refine ⟨trivial, ?_⟩; gi_at_call 40; refine (callsIn_wide.2 (channels_any m _)).mono ?_; rintro e w2 ⟨rfl, rfl⟩)
  have bL0 := (Boxed.new w 51 (.slice none 0 0)).alloc (.cells #[.int .u64 m] 35)
  have bM0 := Boxed.new (w.alloc (.cells #[.slice none 0 0] 51)) 35 (.int .u64 m)
  rw [World.size_alloc] at bM0
  have hB0 : Below w.heap.size w ((w.alloc (.cells #[.slice none 0 0] 51)).alloc (.cells #[.int .u64 m] 35)) := ((Below.refl _ w).alloc (Nat.le_refl _) _).alloc (by simp) _
  refine wpIn_rangeFunc_ownG rfl (by omega) (gf := 41) (lb := #[.pointer (some ⟨w.heap.size + 1, 0, none⟩)]) rfl trivial (enters_of Try.func41 (by kernel_rfl) rfl)
    (channels_stops (3 - 1) (by omega) (w.heap.size + 1) m hm _ bM0) (fun h k => Kb.trans h k) Kb.put' (Below.refl _ _) (fun _ => rfl)
    (fun pre W => (∃ v, Boxed W w.heap.size 51 v ∧ W.ownsRow w.heap.size 3 1 v (zs pre).length ((zs pre).map (Value.int .i64)) ∧ True) ∧ Below w.heap.size w W)
    (fun _ _ _ => False)
    (OwnFrom.and (Own.from (holdsRow_own w.heap.size w.heap.size 51 3 1 (fun pre => (zs pre).length) (fun pre => (zs pre).map (Value.int .i64)) (fun _ _ => True)) _) (ownFrom_below (Nat.le_refl _) (by simp; omega)))
    (fun _ _ _ _ _ hs _ _ => hs)
    ⟨⟨_, bL0, (show _ from World.ownsRow_nil _ _ _ _), trivial⟩, hB0⟩
    (fun c => { tmps := #[.int .u64 m, undef, .slice none 0 0, .pointer (some ⟨w.heap.size, 0, none⟩), .int .i64 (c : Nat), .int .u64 m, .func (.func 41) #[] #[.pointer (some ⟨w.heap.size + 1, 0, none⟩)], .int .i64 (c : Nat), undef, undef, undef, undef, undef], defers := [] }) ?assign ?body ?done ?stop
  case assign =>
    intro l x W K hK
    gi_wp2
    exact hK
  case body =>
    rintro l pre x W ⟨⟨v, hv, hrow, _⟩, hB⟩ hlen
    have cV := hv.cell
    have HS := Lib.hid (zs_snoc pre x)
    have HL := Lib.hid (zs_len pre)
    generalize zs pre = F at *
    obtain ⟨k, hk⟩ : ∃ k, F.length = k := ⟨_, rfl⟩
    rw [hk] at hrow
    have HK := Lib.hid hk
    have hk37 : k < 37 := by have := HL.out; omega
    clear hk
    gi_wp2_with (gi_at_builtin; refine wpListIn_append_own _ rfl _ _ 51 rfl w.heap.size 3 i0 _ 1 8 Try.underlying51 hi hz0 hz1 hz2 rfl (by decide) _ _ _ rfl (hrow.alloc _) ⟨W.heap.size, 0, none⟩ 1 1 [.int .i64 (x : Nat)] rfl rfl (cell_one_new _ _ _) (by simp [Value.oneCell']) (by unfold maxLen; omega) (by omega) (by have := hB.size; simp; omega) ?_; intro v' w1 hown' hgrow _; obtain ⟨g', cap', rfl⟩ := ownsRow_succ hown'; obtain ⟨hv1, hv2, hr2, hk2, hb2⟩ := hv.appended (by decide) hrow hB.size (Nat.le_refl _) hown' hgrow; have hc1 := hv1.cell; have hf1 := hv1.frozen; have hKb := (Kb.alloc W _).trans ((Kb.grown (hrow.alloc _) (by decide) hgrow).trans (Kb.set hv1 (by decide) (.slice (some ⟨g', 0, none⟩) (k + 1) cap'))))
    exact ⟨hk2.from _, hKb, ⟨_, hv2, by rw [HS.out, List.length_append, HK.out, List.map_append]; exact hr2, trivial⟩, hB.trans hb2⟩
  case done =>
    rintro D ys W hD rfl ⟨⟨v, hv, hrow, _⟩, hB⟩ hK
    have cV := hv.cell
    gi_wp2
    refine ⟨by simp, .inl ⟨_, _, rfl, run_takeDeferred hK, ?_⟩⟩
    refine ⟨_, results_tmp rfl _ _ _, ?_⟩
    exact makesI_of rfl rfl (ownsRow_putObj hrow _ hK rfl) (hB.trans (belowK_b (w := w) (Nat.le_refl _) W D _ _ (by simp at hD; omega) hK rfl rfl))
  case stop =>
    rintro D c pre W _ _ h _
    exact h.elim
/-- Element i of the list, or -1. -/
def nthZ (m : Nat) (i : Int) : Int := if 0 ≤ i ∧ i.toNat < (chans m).length then ((chans m).getD i.toNat 0 : Nat) else -1
theorem chb_at {m c : Nat} (hc : c < 37) (h : hasN m c = true) : (chb m c).length < (chans m).length ∧ (chans m).getD (chb m c).length 0 = c := by
  have e : chans m = chb m c ++ (c :: ((List.range' (c + 1) (36 - c)).filter (hasN m))) := by
    unfold chans chb
    have : List.range 37 = List.range c ++ (c :: List.range' (c + 1) (36 - c)) := by
      rw [List.range_eq_range', List.range_eq_range', ← List.range'_succ]
      rw [show 36 - c + 1 = 37 - c by omega]
      have := List.range'_append_1 (s := 0) (m := c) (n := 37 - c)
      rw [Nat.zero_add] at this
      rw [this]
      congr 1; omega
    rw [this, List.filter_append, List.filter_cons, if_pos h]
  rw [e]
  refine ⟨by simp, ?_⟩
  simp [List.getD]
/-- What takes the place of a channel. -/
def limC (c : Int) : Int := max 0 (min c 36)
def remapZ (m : Nat) (c : Int) : Int := if (chans m).length = 0 then -1 else if hasZ m (limC c) then limC c else nthZ m (limC c % ((chans m).length : Nat))
end Go.Proofs.Ytngkpnkjapdnaaa.Chm
