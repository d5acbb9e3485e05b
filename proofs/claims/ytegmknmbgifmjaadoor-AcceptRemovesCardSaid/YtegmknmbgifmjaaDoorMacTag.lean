/- Groups and tags: what the program's functions return: contracts over the program. -/
import Derived.RangeFuncNested
import Derived.RangeFuncBound
import Derived.RangeFuncCalls
import Derived.RangeFuncLeaves
import Derived.RangeFuncBox
import Derived.Shelf.Abstract
import Derived.Shelf.RegionOpen
import Derived.WalkKit
import Derived.OwnWalkIn
import Derived.TacticsInMore
import Derived.LoopNIn
import Derived.LoopIn
import Derived.Maps.AppendAt
import Derived.Test.YtegmknmbgifmjaaDoorMacOct
import Derived.Test.YtegmknmbgifmjaaDoorBlkWalks
import Derived.Test.YtegmknmbgifmjaaDoorMacMath
set_option linter.unusedVariables false
set_option linter.unusedSimpArgs false
namespace Go.Proofs.YtegmknmbgifmjaaDoor.Mac
open Go.RowKit Go.Shelf Mem Oct Blk Base
attribute [local go_sem] Oper.semAt_some

/-- How long a slice is. -/
def slen : Value → Nat
  | .slice _ n _ => n
  | _ => 0
theorem mnumber_to {A : Option Addr} {n c : Nat} {v : Int} (xs : List Int) (w : World) (hx : xs.length = n) (bxs : Bytes xs) (hr : Ints .u8 w w.heap.size A xs) (hn : n ≤ 8) (hv : valL xs = v) :
    Calls Tryd.prog 58 #[.slice A n c] w fun e w' => e = .returned (.int .u64 v) ∧ w = w' := by
  rw [← hv]; exact mnumber_any A n c xs w hx bxs hr hn
theorem groups_any (A : Option Addr) (n c : Nat) (w : World) :
    Calls Tryd.prog 50 #[.slice A n c] w fun e w' => e = .returned (.func (.func 57) #[] #[.pointer (some ⟨w.heap.size, 0, none⟩)]) ∧ w' = w.alloc (.cells #[.slice A n c] 72) := by
  have hmf : ∀ (fn : Fn) (first cap : Array Value) (w : World), (Instr.makeFunc fn first cap).run Tryd.prog w = .ok (.func fn first cap) w := fun _ _ _ _ => rfl
  go_enter Tryd.func50, Tryd.ntmps50
  go_wp2
  go_ret
  exact ⟨rfl, rfl⟩
theorem groups1_in (n : Nat) (hn : 1 ≤ n) (l Bs n₀ : Nat) (A : Option Addr) (len cap : Nat) (xs : List Int) (hx : xs.length = len) (bxs : Bytes xs) (hcap : len ≤ cap) (hmax : cap ≤ 9223372036854775807) (hlen : len ≤ 140737488351232) (J Jx : List Nat → World → Prop)
    (hY : ∀ pre j W, J pre W → pre.length < ngr len → YieldAt Fence.wide (n - 1) Tryd.prog l #[.int .u64 (grp xs j)] W fun e W' =>
      (e = .returned (.bool true) ∧ J (pre ++ [j]) W' ∧ Below n₀ W W') ∨ (e = .returned (.bool false) ∧ Jx (pre ++ [j]) W'))
    (W : World) (hn₀ : n₀ ≤ W.heap.size) (hBs : W.cell? ⟨Bs, 0, none⟩ = some (.slice A len cap)) (hI : Ints .u8 W n₀ A xs) (h0 : J [] W) :
    CallsIn Fence.wide n Tryd.prog 57 #[.func (.yield l) #[] #[], .pointer (some ⟨Bs, 0, none⟩)] W fun e W' => (∃ v, e = .returned v) ∧
      ((∃ ys, ys = List.range (ngr len) ∧ J ys W') ∨ (∃ pre, True ∧ Jx pre W')) := by
  refine callsIn_of_wp Tryd.func57 rfl trivial ?_ rfl
  simp only [Tryd.ntmps57, List.size_toArray, List.length_cons, List.length_nil, Nat.reduceAdd, Nat.reduceSub, Array.replicate_succ, Array.replicate_zero, List.push_toArray, List.append_toArray, List.nil_append, List.cons_append]
  gi_wp2
  gi_loopw [3] (fun p wr => ∃ (j q : Nat) (A' : Option Addr) (c' : Nat), p = .slice A' q c' ∧ q = len - 8 * j ∧ q ≤ c' ∧ c' ≤ 9223372036854775807 ∧ j ≤ ngr len ∧ Ints .u8 wr n₀ A' (xs.drop (8 * j)) ∧ J (List.range j) wr ∧ Below n₀ W wr) (fun p _ => slen p)
  case atStart => exact ⟨0, len, A, cap, rfl, by omega, hcap, hmax, by unfold ngr; omega, hI, h0, Below.refl _ _⟩
  case round =>
    obtain ⟨j, q, A', c', rfl, hq, hqc, hc', hj, hi, hJs, hbel⟩ := hrel
    have HQ := Lib.hid hq
    have HD : Hid ((xs.drop (8 * j)).length = q) := Lib.hid (by rw [List.length_drop, hx, hq])
    have hwr : n₀ ≤ wr.heap.size := Nat.le_trans hn₀ hbel.size
    by_cases h0q : 0 < q
    · obtain ⟨s, hs⟩ : ∃ s : Nat, min 8 q = s := ⟨_, rfl⟩
      have hmin : min (8 : Int) (q : Int) = (s : Int) := by omega
      have hs1 : 1 ≤ s := by omega
      have hs8 : s ≤ 8 := by omega
      have hsq : s ≤ q := by omega
      have hjn : j + 1 ≤ ngr len := by unfold ngr; omega
      have HV : Hid (valL ((xs.drop (8 * j)).take s) = grp xs j) := Lib.hid (by
        unfold grp
        by_cases h8 : s = 8
        · rw [h8]
        · rw [List.take_of_length_le (by rw [HD.out]; omega), List.take_of_length_le (i := 8) (by rw [HD.out]; omega)])
      have HL : Hid (((xs.drop (8 * j)).take s).length = s) := Lib.hid (by rw [List.length_take, HD.out]; omega)
      have HE : Hid (xs.drop (8 * j + s) = xs.drop (8 * (j + 1)) ∧ q - s = len - 8 * (j + 1)) := Lib.hid (by
        by_cases h8 : s = 8
        · rw [h8]; exact ⟨by congr 1, by omega⟩
        · exact ⟨by rw [List.drop_of_length_le (by omega), List.drop_of_length_le (by omega)], by omega⟩)
      have hcut := hi.cut (c := c') (i := s) (by rw [HD.out]; exact hsq) (by rw [HD.out]; exact hqc)
      rw [List.drop_drop, HE.out.1] at hcut
      have g1 : (s : Int) ≤ (c' : Int) := by omega
      have g2 : (s : Int) ≤ (q : Int) := by omega
      obtain ⟨fn, tmps, assign, body, hy, hR⟩ := hY (List.range j) j wr hJs (by rw [List.length_range]; omega)
      clear hq hs
      gi_wp2_with (refine ⟨trivial, ?_⟩; gi_at_call 58; refine (callsIn_wide.2 (mnumber_to ((xs.drop (8 * j)).take s) _ HL.out (bytes_take (bytes_drop bxs _) _) (hi.pre.more hwr) hs8 HV.out)).mono ?_; rintro e w' ⟨rfl, rfl⟩)
      refine hR.mono ?_
      rintro e W3 (⟨rfl, hJ3, hk3⟩ | ⟨rfl, hJx3⟩)
      · gi_wp2
        go_roundw
        case rel => exact ⟨j + 1, _, _, _, rfl, HE.out.2, by omega, by omega, hjn, hcut.below hk3, by rw [List.range_succ]; exact hJ3, hbel.trans hk3⟩
        case measure => simp [slen]; omega
      · gi_wp2
        refine bodyPost_ret (results_none rfl _ _ _) rfl ?_
        exact ⟨⟨_, rfl⟩, .inr ⟨_, trivial, hJx3⟩⟩
    · have hjn : j = ngr len := by unfold ngr at *; omega
      have h0 : decide ((0 : Int) < (q : Int)) = false := by simp; omega
      clear hq
      gi_wp2
      go_end0
      exact ⟨⟨_, rfl⟩, .inl ⟨_, by rw [hjn], hJs⟩⟩
theorem groups_stops (n : Nat) (hn : 1 ≤ n) (Bs n₀ : Nat) (A : Option Addr) (len cap : Nat) (xs : List Int) (hx : xs.length = len) (bxs : Bytes xs) (hcap : len ≤ cap) (hmax : cap ≤ 9223372036854775807) (hlen : len ≤ 140737488351232) (w : World) (hBs : Bs < w.heap.size) (hn₀ : n₀ ≤ w.heap.size)
    (hc : w.cell? ⟨Bs, 0, none⟩ = some (.slice A len cap)) (hI : Ints .u8 w n₀ A xs) :
    SeqStopsK Fence.wide n Tryd.prog 57 #[.pointer (some ⟨Bs, 0, none⟩)] (fun j : Nat => #[Value.int .u64 (grp xs j)]) (Below n₀) (fun ys => ys = List.range (ngr len)) (fun _ => True) (ngr len) w := fun l J Jx W hW _ _ hY h0 =>
  groups1_in n hn l Bs n₀ A len cap xs hx bxs hcap hmax hlen J Jx hY W (Nat.le_trans hn₀ hW.size) ((hW.cell (p := ⟨Bs, 0, none⟩) hBs).trans hc) (hI.below (hW.mono hn₀)) h0
theorem grown_of {w w' : World} (h : Below w.heap.size w w') : w.grownBy w' none := ⟨h.os, h.tape, h.output, h.size, fun k hk _ => h.block k hk⟩
theorem boxed_below {W W' : World} {B : Nat} {t : TypeId} {v : Value} (h : Boxed W B t v) (hb : Below W.heap.size W W') : Boxed W' B t v := (hb.block B h.lt).trans h
theorem keeps_of {B : Nat} {W W' : World} (h : Below W.heap.size W W') : KeepsFrom B W W' := KeepsFrom.of_grownBy (grown_of h) (fun j e => by cases e)
/-- The number after some groups. -/
def tagF (k : Int) (xs : List Int) (pre : List Nat) : Int := pre.foldl (fun a j => mixZ k (bx a (grp xs j))) (mixZ k xs.length)
theorem tagF_snoc (k : Int) (xs : List Int) (pre : List Nat) (j : Nat) : tagF k xs (pre ++ [j]) = mixZ k (bx (tagF k xs pre) (grp xs j)) := by simp [tagF]
theorem tagF_range (k : Int) (xs : List Int) (n : Nat) : tagF k xs (List.range n) = tagA k xs n := by
  induction n with
  | zero => rfl
  | succ n ih => rw [List.range_succ, tagF_snoc, ih]; rfl
theorem tagF_bd (k : Int) {xs : List Int} (h : Bytes xs) (hl : xs.length ≤ 140737488355328) (pre : List Nat) : 0 ≤ tagF k xs pre ∧ tagF k xs pre ≤ 18446744073709551615 := by
  have go : ∀ (pre : List Nat) (a : Int), 0 ≤ a ∧ a ≤ 18446744073709551615 → 0 ≤ pre.foldl (fun a j => mixZ k (bx a (grp xs j))) a ∧ pre.foldl (fun a j => mixZ k (bx a (grp xs j))) a ≤ 18446744073709551615 := by
    intro pre
    induction pre with
    | nil => intro a ha; exact ha
    | cons j pre ih => intro a ha; exact ih _ (mixZ_bd _ _ (bx64 _ _ ha (grp_bd h j)))
  exact go pre _ (mixZ_bd _ _ (by omega))
set_option maxRecDepth 100000 in
set_option maxHeartbeats 2000000 in
theorem tag_any (k : Int) (A : Option Addr) (n c : Nat) (xs : List Int) (w : World) (hk : 0 ≤ k ∧ k ≤ 18446744073709551615) (hx : xs.length = n) (bxs : Bytes xs) (hnc : n ≤ c) (hc : c ≤ 9223372036854775807) (hn : n ≤ 140737488351232) (hI : Ints .u8 w w.heap.size A xs) :
    Calls Tryd.prog 44 #[.int .u64 k, .slice A n c] w fun e w' => e = .returned (.int .u64 (tagZ k xs)) ∧ Below w.heap.size w w' := by
  refine (callsIn_wide (n := 3)).1 ?_
  refine callsIn_of_wp_marks Tryd.func44 rfl trivial ?_ rfl
  simp only [Tryd.ntmps44, List.size_toArray, List.length_cons, List.length_nil, Nat.reduceAdd, Nat.reduceSub, Array.replicate_succ, Array.replicate_zero, List.push_toArray, List.append_toArray, List.nil_append, List.cons_append]
  gi_wp2_with (first
    | (refine ⟨trivial, ?_⟩; gi_at_call 49; refine (callsIn_wide.2 (mix_any k n _ hk (by omega))).mono ?_; rintro e w1 ⟨rfl, hb1⟩)
    | (refine ⟨trivial, ?_⟩; gi_at_call 50; refine (callsIn_wide.2 (groups_any _ _ _ _)).mono ?_; rintro e w2 ⟨rfl, rfl⟩))
  have bK0 := boxed_below (Boxed.new w 47 (.int .u64 k)) hb1
  have bX0 := Boxed.new w1 23 (.int .u64 (mixZ k n))
  have bB0 := Boxed.new (w1.alloc (.cells #[.int .u64 (mixZ k n)] 23)) 72 (.slice A n c)
  rw [World.size_alloc] at bB0
  have hs1 : w.heap.size + 1 ≤ w1.heap.size := by have := hb1.size; rwa [World.size_alloc] at this
  have hw1 : Below w.heap.size w w1 := ((Below.refl _ w).alloc (Nat.le_refl _) _).trans (hb1.mono (by simp))
  have hB0 : Below w.heap.size w ((w1.alloc (.cells #[.int .u64 (mixZ k n)] 23)).alloc (.cells #[.slice A n c] 72)) := (hw1.alloc (by omega) _).alloc (by simp; omega) _
  have hF := tagF_bd k bxs (by omega)
  have hG := grp_bd bxs
  refine wpIn_rangeFunc_ownG rfl (by omega) (gf := 57) (lb := #[.pointer (some ⟨w1.heap.size + 1, 0, none⟩)]) rfl trivial (enters_of Tryd.func57 (by kernel_rfl) rfl)
    (groups_stops (3 - 1) (by omega) (w1.heap.size + 1) w.heap.size A n c xs hx bxs hnc hc hn _ (by simp) (by simp; omega) bB0.cell (hI.below hB0)) belowK_t (belowK_b (by simp; omega)) (Below.refl _ _) (fun _ => rfl)
    (fun pre W => (Boxed W w.heap.size 47 (.int .u64 k) ∧ Boxed W w1.heap.size 23 (.int .u64 (tagF k xs pre))) ∧ Below w.heap.size w W)
    (fun _ _ _ => False)
    (OwnFrom.and (OwnFrom.and (Own.from (boxed_own _ _ _) _) (Own.from (boxed_own _ _ _) _)) (ownFrom_below (Nat.le_refl _) (by simp; omega)))
    (fun _ _ _ _ _ hs _ _ => hs)
    ⟨⟨(bK0.alloc _).alloc _, by rw [show tagF k xs [] = mixZ k n by rw [← hx]; rfl]; exact bX0.alloc _⟩, hB0⟩
    (fun j => { tmps := #[.int .u64 k, .slice A n c, .pointer (some ⟨w.heap.size, 0, none⟩), undef, .int .u64 0, .pointer (some ⟨w1.heap.size, 0, none⟩), .int .u64 (grp xs j), .int .u64 k, .slice A n c, .int .i64 n, .int .u64 n, .int .u64 (mixZ k n), .slice A n c, .func (.func 57) #[] #[.pointer (some ⟨w1.heap.size + 1, 0, none⟩)], .int .u64 (grp xs j), undef, undef, undef, undef, undef, undef], defers := [] }) ?assign ?body ?done ?stop
  case assign =>
    intro l x W K hK
    gi_wp2
    exact hK
  case body =>
    rintro l pre x W ⟨⟨bK, bX⟩, hB⟩ _
    have cK := bK.cell
    have cX := bX.cell
    have h1 := hF pre
    have h2 := hG x
    have e1 := bx64_code _ _ h1 h2
    have b1 := bx64 _ _ h1 h2
    have HS : Hid (tagF k xs (pre ++ [x]) = mixZ k (bx (tagF k xs pre) (grp xs x))) := Lib.hid (tagF_snoc k xs pre x)
    generalize tagF k xs pre = T at *
    generalize grp xs x = G at *
    generalize bx T G = M at *
    gi_wp2_with (refine ⟨trivial, ?_⟩; gi_at_call 49; refine (CallsIn.inRound l (callsIn_wide.2 (mix_any k M _ hk b1))).mono ?_; rintro e W1 ⟨rfl, hb2⟩; have bK1 := boxed_below bK hb2; have bX1 := boxed_below bX hb2; have cX1 := bX1.cell; have fX1 := bX1.frozen)
    have hKp : Below w.heap.size W W1 := hb2.mono hB.size
    exact ⟨(keeps_of hb2).trans ((KeepsOthers.setCell _ _ _).from _), hKp.setCell (p := ⟨w1.heap.size, 0, none⟩) (by show w.heap.size ≤ w1.heap.size; omega) _, ⟨bK1.other (by omega) _, by rw [HS.out]; exact bX1.set _⟩, (hB.trans hKp).setCell (p := ⟨w1.heap.size, 0, none⟩) (by show w.heap.size ≤ w1.heap.size; omega) _⟩
  case done =>
    rintro D ys W hD rfl ⟨⟨bK, bX⟩, hB⟩ hK
    rw [tagF_range] at bX
    have cX := bX.cell
    gi_wp2
    refine ⟨by simp, .inl ⟨_, _, rfl, run_takeDeferred hK, ?_⟩⟩
    exact ⟨_, results_tmp rfl _ _ _, by rw [← hx]; rfl, hB.trans (belowK_b (w := w) (Nat.le_refl _) W D _ _ (by simp at hD; omega) hK rfl rfl)⟩
  case stop =>
    rintro D c pre W _ _ h _
    exact h.elim
end Go.Proofs.YtegmknmbgifmjaaDoor.Mac
