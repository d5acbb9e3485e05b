/- The ranges of a map, one after the other, and the text of a map: contracts over the program. -/
import Derived.Test.YtkpjpjjpjpimiaaDoorChmRng
import Derived.Test.YtkpjpjjpjpimiaaDoorChmRange
import Derived.Test.YtkpjpjjpjpimiaaDoorChmIter
import Derived.Test.YtkpjpjjpjpimiaaDoorChmShelf
set_option linter.unusedVariables false
set_option linter.unusedSimpArgs false
namespace Go.Proofs.YtkpjpjjpjpimiaaDoor.Chm
open Go.RowKit Go.Shelf Mem
attribute [local go_sem] Oper.semAt_some

theorem ranges_any (m : Nat) (w : World) :
    Calls Tryd.prog 48 #[.int .u64 m] w fun e w' => e = .returned (.func (.func 60) #[] #[.pointer (some ⟨w.heap.size, 0, none⟩)]) ∧ w' = w.alloc (.cells #[.int .u64 m] 23) := by
  have hmf : ∀ (fn : Fn) (first cap : Array Value) (w : World), (Instr.makeFunc fn first cap).run Tryd.prog w = .ok (.func fn first cap) w := fun _ _ _ _ => rfl
  go_enter Tryd.func48, Tryd.ntmps48
  go_wp2
  go_ret
  exact ⟨rfl, rfl⟩
theorem Kb.ybox {W W' : World} (h : Kb W W') {r : Nat} {v : Value} (hb : Boxed W r 46 v) : Boxed W' r 46 v := h.2 r _ v (.inr rfl) hb
theorem keeps_up {B B' : Nat} {W W' : World} (h : KeepsFrom B W W') (hB : B ≤ B') : KeepsFrom B' W W' := ⟨h.size, fun k o hk ho hc => h.same k o (by omega) ho hc⟩
theorem has_next {m : Nat} {c : Nat} {b : Bool} (hm : m ≤ 18446744073709551615) (hb : hasN m (c + 1) = b) (w : World) :
    Calls Tryd.prog 14 #[.int .u64 m, .int .i64 ((c : Nat) + 1)] w fun e w' => e = .returned (.bool b) ∧ w = w' := has_to (c := c + 1) hm hb w
theorem chans37 (m : Nat) : (chans m).map (· % 37) = chans m := by
  have h : (chans m).map (· % 37) = (chans m).map id := List.map_congr_left (fun c hc => Nat.mod_eq_of_lt (hasN_lt (mem_chans.1 hc)))
  rw [h, List.map_id]
theorem st_has {m X : Nat} (h : st m X = true) : hasZ m ((X : Int) - 1) = false := by
  cases X with
  | zero => rfl
  | succ X => rw [show ((X + 1 : Nat) : Int) - 1 = (X : Int) by omega, hasZ_nat]; simpa [st] using h
theorem st_not {m X : Nat} (h : st m X = false) : hasZ m ((X : Int) - 1) = true := by
  cases X with
  | zero => simp [st] at h
  | succ X => rw [show ((X + 1 : Nat) : Int) - 1 = (X : Int) by omega, hasZ_nat]; simpa [st] using h
set_option maxRecDepth 100000 in
set_option maxHeartbeats 2000000 in
theorem ranges1_in (n : Nat) (l Bs : Nat) (m : Nat) (hm : m ≤ 18446744073709551615) (J : List (Nat × Nat) → World → Prop) (W : World) (hJ : OwnFrom W.heap.size J)
    (hY : ∀ pre (x : Nat × Nat) W1, J pre W1 → pre.length < 37 → x.1 < 37 → x.2 < 37 → YieldAt Fence.wide n Tryd.prog l #[.int .i64 (x.1 : Nat), .int .i64 (x.2 : Nat)] W1 fun e W' => e = .returned (.bool true) ∧ J (pre ++ [x]) W' ∧ KeepsFrom W.heap.size W1 W' ∧ Kb W1 W')
    (bS : Boxed W Bs 23 (.int .u64 m)) (h0 : J [] W) :
    CallsIn Fence.wide n Tryd.prog 60 #[.func (.yield l) #[] #[], .pointer (some ⟨Bs, 0, none⟩)] W fun e W' => (∃ v, e = .returned v) ∧ J (rngs m) W' := by
  have hn : n = n := rfl
  refine callsIn_wide.2 ?_
  refine (callsIn_wide (n := 3)).1 ?_
  refine callsIn_of_wp_marks Tryd.func60 rfl trivial ?_ rfl
  simp only [Tryd.ntmps60, List.size_toArray, List.length_cons, List.length_nil, Nat.reduceAdd, Nat.reduceSub, Array.replicate_succ, Array.replicate_zero, List.push_toArray, List.append_toArray, List.nil_append, List.cons_append]
  have bS1 := bS.alloc (.cells #[.func (.yield l) #[] #[]] 46)
  have cS1 := bS1.cell
  gi_wp2_with (refine ⟨trivial, ?_⟩; gi_at_call 39; refine (callsIn_wide.2 (channels_any m _)).mono ?_; rintro e w2 ⟨rfl, rfl⟩)
  have bY0 := (Boxed.new W 46 (.func (.yield l) #[] #[])).alloc (.cells #[.int .u64 m] 23)
  have bS0 := bS1.alloc (.cells #[.int .u64 m] 23)
  have bM0 := Boxed.new (W.alloc (.cells #[.func (.yield l) #[] #[]] 46)) 23 (.int .u64 m)
  rw [World.size_alloc] at bM0
  have hJ0 : J [] ((W.alloc (.cells #[.func (.yield l) #[] #[]] 46)).alloc (.cells #[.int .u64 m] 23)) := hJ.alloc _ (hJ.alloc _ h0)
  have hsz : ((W.alloc (.cells #[.func (.yield l) #[] #[]] 46)).alloc (.cells #[.int .u64 m] 23)).heap.size = W.heap.size + 2 := by simp
  clear cS1 bS1 bS
  generalize (W.alloc (.cells #[.func (.yield l) #[] #[]] 46)).alloc (.cells #[.int .u64 m] 23) = W0 at *
  refine wpIn_rangeFunc_ownG rfl (by omega) (gf := 52) (lb := #[.pointer (some ⟨W.heap.size + 1, 0, none⟩)]) rfl trivial (enters_of Tryd.func52 (by kernel_rfl) rfl)
    (channels37_stops (3 - 1) (by omega) (W.heap.size + 1) m hm W0 bM0) (fun h k => Kb.trans h k) Kb.put' (Below.refl _ _) (fun _ => rfl)
    (fun pre V => (J (rfil m (pre.map (· % 37))) V ∧ Boxed V Bs 23 (.int .u64 m)) ∧ Boxed V W.heap.size 46 (.func (.yield l) #[] #[]))
    (fun _ _ _ => False)
    (OwnFrom.and (OwnFrom.and (fun s A B row hs hg hr => own_up hJ (by omega) (rfil m (s.map (· % 37))) A B row hs hg hr) (Own.from (boxed_own _ _ _) _)) (Own.from (boxed_own _ _ _) _))
    (fun _ _ _ _ _ hs _ _ => hs)
    ⟨⟨hJ0, bS0⟩, bY0⟩
    (fun c => { tmps := #[.func (.yield l) #[] #[], .pointer (some ⟨Bs, 0, none⟩), .pointer (some ⟨W.heap.size, 0, none⟩), .int .i64 (c % 37 : Nat), undef, .int .u64 m, .func (.func 52) #[] #[.pointer (some ⟨W.heap.size + 1, 0, none⟩)], .int .i64 (c % 37 : Nat), undef, undef, undef, undef, undef, undef, undef, undef, undef, undef, undef, undef, undef, undef, undef, undef], defers := [] }) ?assign ?body ?done ?stop
  case assign =>
    intro l x W K hK
    gi_wp2
    exact hK
  case body =>
    rintro l2 pre x V ⟨⟨hi, bS⟩, bY⟩ hlen
    have cS := bS.cell
    have cY := bY.cell
    obtain ⟨X, hX⟩ : ∃ X, x % 37 = X := ⟨_, rfl⟩
    have hX37 : X < 37 := by omega
    have HP : Hid ((pre ++ [x]).map (· % 37) = pre.map (· % 37) ++ [X]) := Lib.hid (by rw [List.map_append, ← hX]; rfl)
    have hpl : (rfil m (pre.map (· % 37))).length < 37 := by have := rfil_len m (pre.map (· % 37)); rw [List.length_map] at this; omega
    rw [hX]
    clear hX hlen
    generalize pre.map (· % 37) = pr at *
    by_cases hs : st m X = true
    · have HR := Lib.hid (rfil_yes pr hs)
      have HH : Hid (∀ w, Calls Tryd.prog 14 #[.int .u64 m, .int .i64 ((X : Int) - 1)] w fun e w' => e = .returned (.bool false) ∧ w = w') := Lib.hid fun w => by
        have := has_any m ((X : Int) - 1) w hm
        rwa [st_has hs] at this
      clear hs
      gi_wp2_with (refine ⟨trivial, ?_⟩; gi_at_call 14; refine (CallsIn.inRound l2 (callsIn_wide.2 (HH.out _))).mono ?_; rintro e w' ⟨rfl, rfl⟩)
      gi_loopw [4] (fun v wr => ∃ k : Nat, k ≤ 37 ∧ v = .int .i64 ((X + k : Nat) : Int) ∧ X + k < 37 ∧ Hid (runE m (37 - k) (X + k) = lastN m X) ∧ wr = V) (fun v _ => 37 - (intOf v).toNat)
      case atStart => exact ⟨0, by omega, rfl, by omega, Lib.hid rfl, rfl⟩
      case round =>
        obtain ⟨k, hk, rfl, hlt, hrun, rfl⟩ := hrel
        by_cases hb : hasN m (X + k + 1) = true
        · have hlt' := hasN_lt hb
          have HB := Lib.hid (has_next hm hb)
          have HRun : Hid (runE m (37 - (k + 1)) (X + (k + 1)) = lastN m X) := Lib.hid (by
            have h := hrun.out
            rw [show 37 - k = (37 - (k + 1)) + 1 by omega, runE_step hb] at h
            exact h)
          clear hb hrun
          obtain ⟨q, hq⟩ : ∃ q, X + k = q := ⟨_, rfl⟩
          rw [hq] at HB hlt hlt' ⊢
          have HQ : Hid (X + (k + 1) = q + 1) := Lib.hid (by omega)
          clear hq
          gi_wp2_with (refine ⟨trivial, ?_⟩; gi_at_call 14; refine (CallsIn.inRound l2 (callsIn_wide.2 (HB.out _))).mono ?_; rintro e w' ⟨rfl, rfl⟩)
          go_roundw
          case rel => exact ⟨k + 1, by have := HQ.out; omega, by rw [HQ.out]; go_num, by rw [HQ.out]; exact hlt', HRun, by trivial⟩
          case measure => simp [intOf]; omega
        · have hb' : hasN m (X + k + 1) = false := by simpa using hb
          have HB := Lib.hid (has_next hm hb')
          have hl := hrun.out
          rw [runE_stop hb'] at hl
          rw [← hl] at HR
          obtain ⟨fn, tmps, assign, body, hy, hR⟩ := hY (rfil m pr) (X, X + k) wr hi hpl hX37 hlt
          dsimp only at hy
          have HSZ := Lib.hid hsz
          clear hb hb' hrun hl
          obtain ⟨q, hq⟩ : ∃ q, X + k = q := ⟨_, rfl⟩
          rw [hq] at HB hlt hy hR HR ⊢
          clear hq
          gi_wp2_with (first
            | (refine ⟨trivial, ?_⟩; gi_at_call 14; refine (CallsIn.inRound l2 (callsIn_wide.2 (HB.out _))).mono ?_; rintro e w' ⟨rfl, rfl⟩)
            | fail)
          refine (round_in (round_deep rfl hR)).mono ?_
          rintro e W3 ⟨rfl, hJ3, hkf, hkb⟩
          gi_wp2
          exact ⟨keeps_up hkf (by have := HSZ.out; omega), hkb, ⟨by rw [HP.out, HR.out]; exact hJ3, hkb.box bS⟩, hkb.ybox bY⟩
    · have hs' : st m X = false := by simpa using hs
      have HR := Lib.hid (rfil_no pr hs')
      have HH : Hid (∀ w, Calls Tryd.prog 14 #[.int .u64 m, .int .i64 ((X : Int) - 1)] w fun e w' => e = .returned (.bool true) ∧ w = w') := Lib.hid fun w => by
        have := has_any m ((X : Int) - 1) w hm
        rwa [st_not hs'] at this
      clear hs hs'
      gi_wp2_with (refine ⟨trivial, ?_⟩; gi_at_call 14; refine (CallsIn.inRound l2 (callsIn_wide.2 (HH.out _))).mono ?_; rintro e w' ⟨rfl, rfl⟩)
      exact ⟨KeepsFrom.refl _ _, Kb.refl _, ⟨by rw [HP.out, HR.out]; exact hi, bS⟩, bY⟩
  case done =>
    rintro D ys V hD rfl ⟨⟨hi, bS⟩, bY⟩ hK
    rw [chans37] at hi
    gi_wp2
    refine ⟨by simp, .inl ⟨_, _, rfl, run_takeDeferred hK, ?_⟩⟩
    exact ⟨_, results_none rfl _ _ _, ⟨_, rfl⟩, hJ.putObj _ hi (by omega) hK rfl⟩
  case stop =>
    rintro D c pre V _ _ h _
    exact h.elim
theorem ranges_all (n : Nat) (Bs m : Nat) (hm : m ≤ 18446744073709551615) (w : World) (bS : Boxed w Bs 23 (.int .u64 m)) :
    SeqAll Fence.wide Tryd.prog n 60 #[.pointer (some ⟨Bs, 0, none⟩)] (fun x : Nat × Nat => #[Value.int .i64 (x.1 % 100 : Nat), Value.int .i64 (x.2 % 100 : Nat)]) Kb (rngs m) 37 w := fun l J W hW hJ hY h0 =>
  ranges1_in n l Bs m hm J W hJ (fun pre x W1 hj hl h1 h2 => by have := hY pre x W1 hj hl; dsimp only at this; rwa [Nat.mod_eq_of_lt (by omega : x.1 < 100), Nat.mod_eq_of_lt (by omega : x.2 < 100)] at this) ((Kb.below hW).box bS) h0
/-- The text of a range. -/
def part (r : Nat × Nat) : List UInt8 := if r.1 < r.2 then Lib.decDigits r.1 ++ 45 :: Lib.decDigits r.2 else Lib.decDigits r.1
/-- The same of whatever numbers: their remainders. -/
def partB (r : Nat × Nat) : ByteArray := ⟨(part (r.1 % 100, r.2 % 100)).toArray⟩
def textL (m : Nat) : List UInt8 := Lib.join ((rngs m).map part) [44]
theorem info_str : (Tryd.prog.info? 9).map (fun i => (i.zero, i.size, i.bytes)) = some (some (.string ByteArray.empty), 1, 16) := by kernel_rfl
theorem dec_len {u : Nat} (h : u < 100) : (Lib.decDigits u).length ≤ 2 := by
  by_cases h1 : u < 10
  · rw [Lib.decDigits_one h1]; simp
  · rw [Lib.decDigits_two h1 h]; simp
theorem part_len {r : Nat × Nat} (h1 : r.1 < 100) (h2 : r.2 < 100) : (part r).length ≤ 5 := by
  have l1 := dec_len h1
  have l2 := dec_len h2
  unfold part
  split
  · rw [List.length_append, List.length_cons]; omega
  · omega
theorem lens_le (xs : List (List UInt8)) (k : Nat) (h : ∀ x ∈ xs, x.length ≤ k) : Lib.lens xs ≤ k * xs.length := by
  induction xs with
  | nil => simp [Lib.lens]
  | cons x r ih =>
    have h1 := h x (by simp)
    have h2 := ih (fun y hy => h y (by simp [hy]))
    unfold Lib.lens at h2 ⊢
    rw [List.map_cons, List.sum_cons, List.length_cons, Nat.mul_succ]
    omega
theorem text_len (m : Nat) : (textL m).length ≤ 120 := by
  unfold textL
  have hn := rngs_len m
  have hp : ∀ x ∈ (rngs m).map part, x.length ≤ 5 := by
    intro x hx
    obtain ⟨r, hr, rfl⟩ := List.mem_map.1 hx
    have := rng_bd hr
    exact part_len (by omega) (by omega)
  have hl := lens_le _ 5 hp
  have hk : ((rngs m).map part).length = (rngs m).length := List.length_map _
  generalize (rngs m).map part = l at *
  cases l with
  | nil => simp [Lib.join_nil]
  | cons x r =>
    rw [Lib.join_length]
    simp only [List.length_cons, List.length_nil] at *
    omega
theorem text_eq (m : Nat) : Lib.join (((rngs m).map partB).map (·.data.toList)) [44] = textL m := by
  unfold textL
  rw [List.map_map]
  congr 1
  apply List.map_congr_left
  intro r hr
  have := rng_bd hr
  simp only [Function.comp, partB]
  rw [Nat.mod_eq_of_lt (by omega), Nat.mod_eq_of_lt (by omega)]
theorem own_at_row {w : World} {base g n c : Nat} {e : TypeId} {xs : List Value} (h : w.ownsRow base e 1 (.slice (some ⟨g, 0, none⟩) n c) n xs) (j : Nat) (x : Value) (hj : xs[j]? = some x) : w.cell? ⟨g, j, none⟩ = some x := by
  rcases h.2 with ⟨h', _⟩ | ⟨g', cap', cur, h', hb, hg, hnc, hcm, hcs, htake⟩
  · simp at h'
  · simp only [Value.slice.injEq, Option.some.injEq, Addr.mk.injEq, and_true, true_and] at h'
    obtain ⟨rfl, rfl⟩ := h'
    rw [cell_of_row w g j cur e (0, 0) hg]
    have h1 := congrArg (fun l => l[j]?) htake
    have hl := h.1
    have hjl : j < xs.length := (List.getElem?_eq_some_iff.1 hj).1
    rw [Nat.mul_one] at h1 hl
    rw [List.getElem?_take, if_pos (by omega), hj] at h1
    simpa using h1
theorem itoa_to (i : Nat) (hi : i < 100) (w : World) :
    Calls Tryd.prog 49 #[.int .i64 i] w fun e w' => e = .returned (.string ⟨(Lib.decDigits i).toArray⟩) ∧ w = w' := (Tryd.strconv_Itoa_small i hi w).mono fun e w' ⟨h1, h2⟩ => ⟨h1, h2.symm⟩
set_option maxRecDepth 100000 in
set_option maxHeartbeats 2000000 in
theorem text_any (m : Nat) (w : World) (hm : m ≤ 18446744073709551615) :
    Calls Tryd.prog 34 #[.int .u64 m] w fun e w' => e = .returned (.string ⟨(textL m).toArray⟩) ∧ Below w.heap.size w w' := by
  obtain ⟨i0, hi, hz0, hz1, hz2⟩ := info_parts info_str
  refine (callsIn_wide (n := 3)).1 ?_
  refine callsIn_of_wp_marks Tryd.func34 rfl trivial ?_ rfl
  simp only [Tryd.ntmps34, List.size_toArray, List.length_cons, List.length_nil, Nat.reduceAdd, Nat.reduceSub, Array.replicate_succ, Array.replicate_zero, List.push_toArray, List.append_toArray, List.nil_append, List.cons_append]
  gi_wp2_with (refine ⟨trivial, ?_⟩; gi_at_call 48; refine (callsIn_wide.2 (ranges_any m _)).mono ?_; rintro e w2 ⟨rfl, rfl⟩)
  have bL0 := (Boxed.new w 61 (.slice none 0 0)).alloc (.cells #[.int .u64 m] 23)
  have bM0 := Boxed.new (w.alloc (.cells #[.slice none 0 0] 61)) 23 (.int .u64 m)
  rw [World.size_alloc] at bM0
  have hB0 : Below w.heap.size w ((w.alloc (.cells #[.slice none 0 0] 61)).alloc (.cells #[.int .u64 m] 23)) := ((Below.refl _ w).alloc (Nat.le_refl _) _).alloc (by simp) _
  refine wpIn_range_all rfl rfl (gf := 60) (lb := #[.pointer (some ⟨w.heap.size + 1, 0, none⟩)]) rfl trivial (enters_of Tryd.func60 (by kernel_rfl) rfl)
    (ranges_all _ (w.heap.size + 1) m hm _ bM0) (fun h k => Kb.trans h k) (fun W l o o' h1 h2 => Kb.put W l o o' h1 h2) (fun _ => rfl)
    (fun (pre : List (Nat × Nat)) W => (∃ v, Boxed W w.heap.size 61 v ∧ W.ownsRow w.heap.size 9 1 v pre.length (pre.map (fun r => Value.string (partB r))) ∧ True) ∧ Below w.heap.size w W)
    (OwnFrom.and (Own.from (holdsRow_own w.heap.size w.heap.size 61 9 1 (fun pre : List (Nat × Nat) => pre.length) (fun pre => pre.map (fun r => Value.string (partB r))) (fun _ _ => True)) _) (ownFrom_below (Nat.le_refl _) (by simp; omega)))
    ⟨⟨_, bL0, (show _ from World.ownsRow_nil _ _ _ _), trivial⟩, hB0⟩
    (fun x => { tmps := #[.int .u64 m, undef, .string ByteArray.empty, .pointer (some ⟨w.heap.size, 0, none⟩), .int .i64 (x.1 % 100 : Nat), .int .i64 (x.2 % 100 : Nat), undef, .int .u64 m, .func (.func 60) #[] #[.pointer (some ⟨w.heap.size + 1, 0, none⟩)], .int .i64 (x.1 % 100 : Nat), .int .i64 (x.2 % 100 : Nat), undef, undef, undef, undef, undef, undef, undef, undef, undef, undef, undef, undef, undef, undef, undef, undef], defers := [] }) ?assign ?body ?done
  case assign =>
    intro l x W K hK
    gi_wp2
    exact hK
  case body =>
    rintro l pre x W ⟨⟨v, hv, hrow, _⟩, hB⟩ hlen
    have cV := hv.cell
    have HS : Hid ((pre ++ [x]).map (fun r => Value.string (partB r)) = pre.map (fun r => Value.string (partB r)) ++ [Value.string (partB x)]) := Lib.hid (by simp)
    have HL : Hid ((pre ++ [x]).length = pre.length + 1) := Lib.hid (by simp)
    have h1 : x.1 % 100 < 100 := Nat.mod_lt _ (by decide)
    have h2 : x.2 % 100 < 100 := Nat.mod_lt _ (by decide)
    have HI1 := Lib.hid (itoa_to (x.1 % 100) h1)
    have HI2 := Lib.hid (itoa_to (x.2 % 100) h2)
    obtain ⟨k, hk⟩ : ∃ k, pre.length = k := ⟨_, rfl⟩
    rw [hk] at hrow HL hlen
    obtain ⟨S, hS⟩ : ∃ S, partB x = S := ⟨_, rfl⟩
    rw [hS] at HS
    by_cases hlt : x.1 % 100 < x.2 % 100
    · have HP : Hid (S = ⟨(Lib.decDigits (x.1 % 100)).toArray⟩ ++ (⟨#[45]⟩ ++ ⟨(Lib.decDigits (x.2 % 100)).toArray⟩)) := Lib.hid (by
        rw [← hS]; unfold partB part; rw [if_pos hlt, ByteArray.mk_append_mk, ByteArray.mk_append_mk]; simp)
      have l1 := dec_len h1
      have l2 := dec_len h2
      clear hS hk
      generalize pre.map (fun r => Value.string (partB r)) = F at *
      generalize Lib.decDigits (x.1 % 100) = D1 at *
      generalize Lib.decDigits (x.2 % 100) = D2 at *
      generalize x.1 % 100 = X1 at *
      generalize x.2 % 100 = X2 at *
      gi_wp2_with (first
        | (refine ⟨trivial, ?_⟩; gi_at_call 49; refine (CallsIn.inRound l (callsIn_wide.2 (HI1.out _))).mono ?_; clear HI1; rintro e w' ⟨rfl, rfl⟩)
        | (refine ⟨trivial, ?_⟩; gi_at_call 49; refine (CallsIn.inRound l (callsIn_wide.2 (HI2.out _))).mono ?_; rintro e w' ⟨rfl, rfl⟩)
        | (gi_at_builtin; refine wpListIn_append_own _ rfl _ _ 61 rfl w.heap.size 9 i0 _ 1 16 Tryd.underlying61 hi hz0 hz1 hz2 rfl (by decide) _ _ _ rfl (hrow.alloc _) ⟨W.heap.size, 0, none⟩ 1 1 [Value.string (⟨D1.toArray⟩ ++ (⟨#[45]⟩ ++ ⟨D2.toArray⟩))] rfl rfl (cell_one_new _ _ _) (by simp [Value.oneCell']) (by unfold maxLen; omega) (by omega) (by have := hB.size; simp; omega) ?_; intro v' w1 hown' hgrow _; obtain ⟨g', cap', rfl⟩ := ownsRow_succ hown'; obtain ⟨hv1, hv2, hr2, hk2, hb2⟩ := hv.appended (by decide) hrow hB.size (Nat.le_refl _) hown' hgrow; have hc1 := hv1.cell; have hf1 := hv1.frozen; have hKb := (Kb.alloc W _).trans ((Kb.grown (hrow.alloc _) (by decide) hgrow).trans (Kb.set hv1 (by decide) (.slice (some ⟨g', 0, none⟩) (k + 1) cap'))))
        | fail)
      exact ⟨hk2.from _, hKb, ⟨_, hv2, by rw [HS.out, HL.out, HP.out]; exact hr2, trivial⟩, hB.trans hb2⟩
    · have HP : Hid (S = ⟨(Lib.decDigits (x.1 % 100)).toArray⟩) := Lib.hid (by
        rw [← hS]; unfold partB part; rw [if_neg hlt])
      have l1 := dec_len h1
      clear hS hk HI2
      generalize pre.map (fun r => Value.string (partB r)) = F at *
      generalize Lib.decDigits (x.1 % 100) = D1 at *
      generalize x.1 % 100 = X1 at *
      generalize x.2 % 100 = X2 at *
      gi_wp2_with (first
        | (refine ⟨trivial, ?_⟩; gi_at_call 49; refine (CallsIn.inRound l (callsIn_wide.2 (HI1.out _))).mono ?_; clear HI1; rintro e w' ⟨rfl, rfl⟩)
        | (gi_at_builtin; refine wpListIn_append_own _ rfl _ _ 61 rfl w.heap.size 9 i0 _ 1 16 Tryd.underlying61 hi hz0 hz1 hz2 rfl (by decide) _ _ _ rfl (hrow.alloc _) ⟨W.heap.size, 0, none⟩ 1 1 [Value.string ⟨D1.toArray⟩] rfl rfl (cell_one_new _ _ _) (by simp [Value.oneCell']) (by unfold maxLen; omega) (by omega) (by have := hB.size; simp; omega) ?_; intro v' w1 hown' hgrow _; obtain ⟨g', cap', rfl⟩ := ownsRow_succ hown'; obtain ⟨hv1, hv2, hr2, hk2, hb2⟩ := hv.appended (by decide) hrow hB.size (Nat.le_refl _) hown' hgrow; have hc1 := hv1.cell; have hf1 := hv1.frozen; have hKb := (Kb.alloc W _).trans ((Kb.grown (hrow.alloc _) (by decide) hgrow).trans (Kb.set hv1 (by decide) (.slice (some ⟨g', 0, none⟩) (k + 1) cap'))))
        | fail)
      exact ⟨hk2.from _, hKb, ⟨_, hv2, by rw [HS.out, HL.out, HP.out]; exact hr2, trivial⟩, hB.trans hb2⟩
  case done =>
    rintro D W hD ⟨⟨v, hv, hrow, _⟩, hB⟩ hK
    have cV := hv.cell
    have hT := text_eq m
    have hL : (Lib.join (((rngs m).map partB).map (·.data.toList)) [44]).length ≤ 140737488355328 := by rw [hT]; have := text_len m; omega
    have hN := rngs_len m
    have hxl : ((rngs m).map partB).length = (rngs m).length := List.length_map _
    obtain ⟨A, c, hvf⟩ := own_form hrow
    subst hvf
    have HJ : Hid (∀ w', Below W.heap.size W w' → w'.ownsRow w.heap.size 9 1 (.slice A (rngs m).length c) (rngs m).length ((rngs m).map (fun r => Value.string (partB r))) → Calls Tryd.prog 50 #[.slice A (rngs m).length c, .string ⟨#[44]⟩] w' fun e w'' => e = .returned (.string ⟨(textL m).toArray⟩) ∧ Below w'.heap.size w' w'') := Lib.hid fun w' _ hr => by
      rw [← hT]
      by_cases h0 : 0 < (rngs m).length
      · obtain ⟨g, rfl, hg, hlt⟩ := Base.own_block hr h0
        have := Tryd.strings_Join g 0 c ((rngs m).map partB) ⟨#[44]⟩ w' (fun j x hx => by
          rw [List.getElem?_map] at hx
          obtain ⟨r, h1, h2⟩ := Option.map_eq_some_iff.1 hx
          rw [Nat.zero_add]
          exact own_at_row hr j (.string x) (by rw [List.getElem?_map, h1, ← h2]; rfl)) hlt (by omega) (by rw [hxl]; exact own_cap hr) hL
        rwa [hxl] at this
      · have hz : (rngs m).length = 0 := by omega
        have he : rngs m = [] := List.eq_nil_of_length_eq_zero hz
        rw [hz, he]
        exact (Tryd.strings_Join_none A c ⟨#[44]⟩ w').mono fun e w'' ⟨h1, h2⟩ => ⟨h1, h2 ▸ Below.refl _ _⟩
    have HO := Lib.hid hrow
    clear hT hL hN hxl
    generalize (rngs m).length = q at *
    gi_wp2_with (refine ⟨trivial, ?_⟩; gi_at_call 50; refine (callsIn_wide.2 (HJ.out W (Below.refl _ _) HO.out)).mono ?_; rintro e w2 ⟨rfl, b2⟩)
    have hK2 : w2.heap[D]? = some (.deferred (some [])) := (b2.block D (Array.getElem?_eq_some_iff.1 hK).1).trans hK
    refine ⟨by simp, .inl ⟨_, _, rfl, run_takeDeferred hK2, ?_⟩⟩
    exact ⟨_, results_tmp rfl _ _ _, rfl, (hB.trans (b2.mono hB.size)).trans (belowK_b (w := w) (Nat.le_refl _) w2 D _ _ (by simp at hD; omega) hK2 rfl rfl)⟩
end Go.Proofs.YtkpjpjjpjpimiaaDoor.Chm
