/- Results are new memory: the last statement on the layer of bytes, walked. -/
import Derived.Test.YtljgpkiakggmkaaOctLaws2
set_option linter.unusedVariables false
set_option linter.unusedSimpArgs false
namespace Go.Proofs.Ytljgpkiakggmkaa.Oct
open Go.RowKit Mem

/-- Append under a guard that holds. -/
theorem wpList_append_guarded {P : Program} {w : World} {ops : Array Oper} {rest : List Oper} {o : Oper} {a : Act} {Q : Exit → Act → World → Prop} (hgd : Region.wanted o (yielded ops a.tmps) = true) (s x : Operand) (t : TypeId)
    (ho : o.op = .call { callee := .builtin .append, args := #[s, x], argTypes := #[t, t] })
    (k : IntKind) (base : Nat) (e : TypeId) (i : TypeInfo) (z : Value) (bytes : Nat) (ht : P.underlying t = some (.slice e)) (hi : P.info? e = some i) (hz : i.zero = some z)
    (hsize : i.size = 1) (hby : i.bytes = bytes) (hzs : z.cells.size = 1)
    (v : Value) (n : Nat) (xs : List Value) (hs : a.eval s = v) (hown : w.ownsRow base e 1 v n xs)
    (B : Nat) (A : Option Addr) (m c : Nat) (zs : List Int) (hx : a.eval x = .slice A m c) (hm : zs.length = m) (hr : Ints k w B A zs)
    (h63 : n + m ≤ maxLen) (hbytes : (n + m) * bytes ≤ 140737488355328) (hbase : base ≤ w.heap.size)
    (h : ∀ v' w', w'.ownsRow base e 1 v' (n + m) (xs ++ zs.map (Value.int k)) → Below base w w' → w.grownBy w' v.ownBlock → wpList P ops Q rest (a.put o.dst v') w') : wpList P ops Q (o :: rest) a w := by
  unfold wpList
  rw [if_pos hgd]
  left
  obtain ⟨v', w', hrun, h2, h3⟩ := run_append_ints (P := P) (w := w) k base t o.type e i z bytes ht hi hz hsize hby hzs v n xs hown B A m c zs hm hr h63 hbytes hbase
  unfold Oper.wp execOp
  simp only [ho, resolve, invoke, builtin, Sem.run_bind, Sem.run_pure, Result.andThen_ok, List.map_toArray, List.map_cons, List.map_nil, hs, hx, hrun]
  exact h v' w' h2 ((Below.refl base w).grown h3 hbase fun g hg => (hown.lt g hg).1) h3
theorem own_some {w : World} {base n c : Nat} {e : TypeId} {A : Option Addr} {xs : List Value} (h : w.ownsRow base e 1 (.slice A n c) n xs) (hn : 0 < n) : ∃ g, A = some ⟨g, 0, none⟩ := by
  rcases h.2 with ⟨hv, h0⟩ | ⟨g, cap, cur, hv, _⟩
  · omega
  · injection hv with hA; exact ⟨g, hA⟩
theorem only_trans {a b c : World} {row : Option Nat} (h : a.grownBy b row) (k : b.grownBy c row) : a.grownBy c row :=
  ⟨k.os.trans h.os, k.tape.trans h.tape, k.output.trans h.output, Nat.le_trans h.size k.size, fun i hi hne => (k.block i (Nat.lt_of_lt_of_le hi h.size) hne).trans (h.block i hi hne)⟩
/-- The row of a slice lies between two bounds. -/
def Within (v : Value) (lo hi : Nat) : Prop := ∀ g, v.ownBlock = some g → lo ≤ g ∧ g < hi
theorem apart {w w' : World} {b e n : Nat} {v v' : Value} {xs : List Value} (h : w.ownsRow b e 1 v n xs) {lo hi lo' hi' : Nat} (k : Within v lo hi) (k' : Within v' lo' hi') (hd : hi ≤ lo' ∨ hi' ≤ lo) (hg : w.grownBy w' v'.ownBlock) : w'.ownsRow b e 1 v n xs := by
  refine h.kept hg ?_
  cases hv : v.ownBlock with
  | none => exact .inl rfl
  | some g =>
    right
    intro he
    have h1 := k g hv
    have h2 := k' g he.symm
    omega
theorem law_own (A0 : Option Addr) (n0 c0 : Nat) (x0 : List Int) (A1 : Option Addr) (n1 c1 : Nat) (x1 : List Int) (w : World)
    (hx0 : x0.length = n0) (hc0 : n0 ≤ c0) (hi0 : Ints .u8 w w.heap.size A0 x0) (hb0 : Bytes x0) (hs0 : c0 ≤ 1048576)
    (hx1 : x1.length = n1) (hc1 : n1 ≤ c1) (hi1 : Ints .u8 w w.heap.size A1 x1) (hb1 : Bytes x1) (hs1 : c1 ≤ 1048576) :
    Calls Try.prog 14 #[.slice A0 n0 c0, .slice A1 n1 c1] w fun e w' => e = .returned (.bool true) ∧ Below w.heap.size w w' := by
  obtain ⟨i0, hi, hz0, hz1, hz2⟩ := info_parts info_u8
  have Hx0 := Lib.hid hx0
  have Hx1 := Lib.hid hx1
  clear hx0 hx1
  have HLX := Lib.hid (show (x0 ++ x1).length = n0 + n1 by rw [List.length_append, Hx0.out, Hx1.out])
  have HB := Lib.hid (bytes_append hb0 hb1)
  have HT := Lib.hid (show takeR x0 [] = ([], x0, 0) by simp [takeR, okZ, sumZ, numsL])
  go_enter Try.func14, Try.ntmps14
  go_wp2_with fail
  refine (copied_any A0 n0 c0 x0 w Hx0.out hi0 (by omega)).mono ?_
  rintro e w1 ⟨B1, d1, rfl, o1, hb1'⟩
  go_wp2_with fail
  refine (copied_any A1 n1 c1 x1 w1 Hx1.out (later hi1 hb1') (by omega)).mono ?_
  rintro e w2 ⟨B2, d2, rfl, o2, b2⟩
  have hb2' := hb1'.trans (b2.mono hb1'.size)
  have o1 := own_below o1 b2
  have q1 := own_cap o1
  clear b2 hb1'
  have j1 := Ints.own o1
  have j2 := Ints.own o2
  have JL := Lib.hid (show joinL [(B1, d1, x0), (B2, d2, x1)] = x0 ++ x1 by simp [joinL])
  go_wp2_with fail
  refine (join_to (ps := [(B1, d1, x0), (B2, d2, x1)]) (zs := x0 ++ x1) JL.out rfl (show 2 ≤ 1048576 by decide) (by exact parts_lit _ _ _ _ _ rfl (by simp [Hx0.out, Hx1.out]) (fun p hp => by
    simp only [List.mem_cons, List.not_mem_nil, or_false] at hp
    rcases hp with rfl | rfl
    · exact j1
    · exact j2)) (by rw [HLX.out]; omega)).mono ?_
  rintro e w3 ⟨B3, d3, rfl, o3, b3⟩
  have kk3 := alloc1 _ _ b3
  have hb3' : Below w.heap.size w w3 := hb2'.trans (kk3.mono hb2'.size)
  have L1 : Within (.slice B1 n0 d1) 0 w2.heap.size := fun g hg => ⟨Nat.zero_le _, (o1.lt g hg).2⟩
  have L2 : Within (.slice B2 n1 d2) 0 w2.heap.size := fun g hg => ⟨Nat.zero_le _, (o2.lt g hg).2⟩
  have L3 : Within (.slice B3 (x0 ++ x1).length d3) w2.heap.size w3.heap.size := fun g hg => ⟨by have := (o3.lt g hg).1; simp at this; omega, (o3.lt g hg).2⟩
  have o1 := own_below o1 kk3
  have o2 := own_below o2 kk3
  have j1 := later j1 kk3
  have j2 := later j2 kk3
  rw [HLX.out] at L3 o3
  have hlen : (x0 ++ x1).length = n0 + n1 := HLX.out
  rw [hlen]
  have z23' := kk3.size
  clear b3 kk3 hlen
  have z23 : w2.heap.size ≤ w3.heap.size := z23'
  have z03 := hb3'.size
  go_wp2_with fail
  refine (join_to (ps := [(B1, d1, x0), (B2, d2, x1)]) (zs := x0 ++ x1) JL.out rfl (show 2 ≤ 1048576 by decide) (by exact parts_lit _ _ _ _ _ rfl (by simp [Hx0.out, Hx1.out]) (fun p hp => by
    simp only [List.mem_cons, List.not_mem_nil, or_false] at hp
    rcases hp with rfl | rfl
    · exact j1
    · exact j2)) (by rw [HLX.out]; omega)).mono ?_
  rintro e w4 ⟨B4, d4, rfl, o4, b4⟩
  have kk4 := alloc1 _ _ b4
  have hb4' : Below w.heap.size w w4 := hb3'.trans (kk4.mono hb3'.size)
  have L4 : Within (.slice B4 (x0 ++ x1).length d4) w3.heap.size w4.heap.size := fun g hg => ⟨by have := (o4.lt g hg).1; simp at this; omega, (o4.lt g hg).2⟩
  have o1 := own_below o1 kk4
  have o2 := own_below o2 kk4
  have o3 := own_below o3 kk4
  have j1 := later j1 kk4
  have z34 := kk4.size
  rw [HLX.out] at L4 o4
  have hlen : (x0 ++ x1).length = n0 + n1 := HLX.out
  rw [hlen]
  clear b4 kk4 hlen hb3'
  go_wp2_with fail
  refine (take_to HT.out Hx0.out rfl q1 (by omega) (by decide) hb0 (fun z hz => by cases hz) j1 (.inl rfl)).mono ?_
  rintro e w5 ⟨A5, c5, A6, c6, rfl, o5, o6, b5⟩
  have hb5' : Below w.heap.size w w5 := hb4'.trans (b5.mono hb4'.size)
  have L6 : Within (.slice A6 x0.length c6) w4.heap.size w5.heap.size := fun g hg => o6.lt g hg
  have o1 := own_below o1 b5
  have o2 := own_below o2 b5
  have o3 := own_below o3 b5
  have o4 := own_below o4 b5
  have hlen : x0.length = n0 := Hx0.out
  simp only [hlen] at L6 o6 ⊢
  clear b5 o5 hb4' j1 j2 hlen q1
  have o3 := own_base o3 (base' := w.heap.size) (by have := hb2'.size; simp; omega)
  have o4 := own_base o4 (base' := w.heap.size) (by simp; omega)
  have o6 := own_base o6 (base' := w.heap.size) (by omega)
  have o2 := own_base o2 (base' := 0) (Nat.zero_le _)
  clear hb2'
  go_wp2_with fail
  have hs5 : w.heap.size ≤ w5.heap.size := hb5'.size
  go_loopw [12] (fun i wr => ∃ k : Nat, k ≤ n0 + n1 ∧ i = .int .i64 k ∧ ∃ zs : List Int, zs.length = n0 + n1 ∧ wr.ownsRow w.heap.size 5 1 (.slice B3 (n0 + n1) d3) (n0 + n1) (zs.map (Value.int .u8)) ∧ w5.grownBy wr (Value.slice B3 (n0 + n1) d3).ownBlock) (fun i _ => n0 + n1 - (intOf i).toNat)
  case atStart => exact ⟨0, by omega, rfl, x0 ++ x1, HLX.out, o3, World.grownBy.refl _ _⟩
  case round =>
    obtain ⟨k, hk, rfl, zs, hzs, ow, hgr⟩ := hrel
    have HZ := Lib.hid hzs
    clear hzs
    by_cases c1' : k < n0 + n1
    · obtain ⟨g, rfl⟩ := own_some ow (by omega)
      obtain ⟨z, f1⟩ := own_cell ow k (by rw [HZ.out]; omega)
      have f2 := ow.frozenAt k
      have HST := Lib.hid (ow.stored k (.int .u8 ((z + 1) % 256)))
      go_wp2_with fail
      go_roundw
      case rel => exact ⟨k + 1, by omega, by go_num, zs.set k ((z + 1) % 256), by rw [List.length_set]; exact HZ.out, by rw [List.map_set]; exact HST.out.1, only_trans hgr HST.out.2⟩
      case measure => simp [intOf]; omega
    · have hb6' : Below w.heap.size w wr := hb5'.grown hgr hs5 fun g hg => (o3.lt g hg).1
      have o1 := apart o1 L1 L3 (.inl (Nat.le_refl _)) hgr
      have o2 := apart o2 L2 L3 (.inl (Nat.le_refl _)) hgr
      have o4 := apart o4 L4 L3 (.inr (Nat.le_refl _)) hgr
      have o6 := apart o6 L6 L3 (.inr z34) hgr
      have hs6 := hb6'.size
      clear ow hgr HZ o3 hb5' hs5
      obtain ⟨wo, hwo⟩ : ∃ wo : World, wo = wr := ⟨_, rfl⟩
      subst hwo
      go_wp2_with fail
      go_loopw [13] (fun i wr => ∃ j : Nat, j ≤ n0 ∧ i = .int .i64 j ∧ ∃ zs : List Int, zs.length = n0 ∧ wr.ownsRow w.heap.size 5 1 (.slice A6 n0 c6) n0 (zs.map (Value.int .u8)) ∧ wo.grownBy wr (Value.slice A6 n0 c6).ownBlock) (fun i _ => n0 - (intOf i).toNat)
      case atStart => exact ⟨0, by omega, rfl, x0, Hx0.out, o6, World.grownBy.refl _ _⟩
      case round =>
        obtain ⟨j, hj, rfl, zs, hzs, ow, hgr⟩ := hrel
        have HZ := Lib.hid hzs
        clear hzs
        by_cases c2' : j < n0
        · obtain ⟨g, rfl⟩ := own_some ow (by omega)
          obtain ⟨z, f1⟩ := own_cell ow j (by rw [HZ.out]; omega)
          have f2 := ow.frozenAt j
          have HST := Lib.hid (ow.stored j (.int .u8 ((z + 1) % 256)))
          go_wp2_with fail
          go_roundw
          case rel => exact ⟨j + 1, by omega, by go_num, zs.set j ((z + 1) % 256), by rw [List.length_set]; exact HZ.out, by rw [List.map_set]; exact HST.out.1, only_trans hgr HST.out.2⟩
          case measure => simp [intOf]; omega
        · have hb7' : Below w.heap.size w wr := hb6'.grown hgr hs6 fun g hg => (o6.lt g hg).1
          have o1 := apart o1 L1 L6 (.inl (by omega)) hgr
          have o2 := apart o2 L2 L6 (.inl (by omega)) hgr
          have o4 := apart o4 L4 L6 (.inl (Nat.le_refl _)) hgr
          have j1 := Ints.own o1
          have j2 := Ints.own o2
          have j4 := Ints.own o4
          clear ow hgr HZ o6 o1 o2 o4 hb6' hs6 L1 L2 L3 L4 L6
          go_wp2_with fail
          refine (lives2_any wr).mono ?_
          rintro e w8 ⟨rfl, b8⟩
          have hb8 := hb7'.trans (b8.mono hb7'.size)
          have j1 := later j1 b8
          have j2 := later j2 b8
          have j4 := later j4 b8
          clear b8 hb7'
          go_wp2_with fail
          refine (same_to (b := true) (xs := x0) (ys := x0) (by simp) Hx0.out Hx0.out hb0 hb0 j1 (later hi0 hb8)).mono ?_
          rintro e w9 ⟨rfl, b9⟩
          have hb9 := hb8.trans (b9.mono hb8.size)
          have j2 := later j2 b9
          have j4 := later j4 b9
          clear b9 hb8 j1
          go_wp2_with fail
          refine (same_to (b := true) (xs := x1) (ys := x1) (by simp) Hx1.out Hx1.out hb1 hb1 j2 (later hi1 hb9)).mono ?_
          rintro e w10 ⟨rfl, b10⟩
          have hb10 := hb9.trans (b10.mono hb9.size)
          have j4 := later j4 b10
          clear b10 hb9 j2
          go_wp2_with fail
          refine (copied_any A0 n0 c0 x0 w10 Hx0.out (later hi0 hb10) (by omega)).mono ?_
          rintro e w11 ⟨B11, d11, rfl, o11, b11⟩
          have hb11 := hb10.trans (b11.mono hb10.size)
          have i1 := hi1.below hb11
          have j4 := j4.below b11
          have z11 := b11.size
          have z10 := hb10.size
          clear b11
          go_wp2_with (at_builtin; refine wpList_append_guarded (by rfl) _ _ 37 rfl .u8 w10.heap.size 5 i0 _ 1 Try.underlying37 hi hz0 hz1 hz2 rfl _ n0 _ rfl o11 w.heap.size A1 n1 c1 x1 rfl Hx1.out ?c1 ?c2 ?c3 ?c4 ?_; (case c1 => exact i1); (case c2 => unfold maxLen; omega); (case c3 => omega); (case c4 => exact z11); intro v12 w12 o12 b12 g12; obtain ⟨B12, d12, rfl⟩ := own_form o12)
          have hb12 := hb11.trans (b12.mono z10)
          have o12' : w12.ownsRow w10.heap.size 5 1 (.slice B12 (n0 + n1) d12) (n0 + n1) ((x0 ++ x1).map (Value.int .u8)) := by simpa using o12
          have j12 := Ints.own o12'
          have j4 := (j4.below b12).more (Nat.le_trans z11 b12.size)
          clear o12 o12' o11 b12 g12 i1 hb11 hb10
          refine (same_to (b := true) (xs := x0 ++ x1) (ys := x0 ++ x1) (by simp) HLX.out HLX.out HB.out HB.out j4 j12).mono ?_
          rintro e w13 ⟨rfl, b13⟩
          have hb13 := hb12.trans (b13.mono hb12.size)
          clear b13 hb12
          go_wp2_with fail
          go_ret
          exact ⟨rfl, hb13⟩
end Go.Proofs.Ytljgpkiakggmkaa.Oct
