/- Joining parts, cloning bytes, sizes and numbers of bytes: what the functions of the layer of bytes, and of its specification, return: contracts over the program. -/
import Derived.Test.YtiopeghbpnjcgaaOctWalks
import Derived.Lib.SliceRun
set_option linter.unusedVariables false
set_option linter.unusedSimpArgs false
namespace Go.Proofs.Ytiopeghbpnjcgaa.Oct
open Go.RowKit Mem

/-- A part: where it begins, its capacity, its bytes. -/
def PartsAt (w : World) (B : Nat) (A : Option Addr) (ps : List (Option Addr × Nat × List Int)) : Prop :=
  ps = [] ∨ ∃ b off, A = some ⟨b, off, none⟩ ∧ b < B ∧ ∀ j p, ps[j]? = some p → w.cell? ⟨b, off + j, none⟩ = some (.slice p.1 p.2.2.length p.2.1) ∧ Ints .u8 w B p.1 p.2.2
theorem PartsAt.below {w w' : World} {B : Nat} {A : Option Addr} {ps : List (Option Addr × Nat × List Int)} (h : PartsAt w B A ps) (hb : Below B w w') : PartsAt w' B A ps := by
  rcases h with h | ⟨b, off, e, hlt, hc⟩
  · exact .inl h
  · exact .inr ⟨b, off, e, hlt, fun j p hj => ⟨(hb.cell (p := ⟨b, off + j, none⟩) hlt).trans (hc j p hj).1, (hc j p hj).2.below hb⟩⟩
/-- Parts that were just laid side by side. -/
theorem parts_lit (w : World) (ps : List (Option Addr × Nat × List Int)) (cs : Array Value) (e : TypeId) (g : Nat) (hg : g = w.heap.size) (h : cs = (ps.map fun p => Value.slice p.1 p.2.2.length p.2.1).toArray) (hi : ∀ p ∈ ps, Ints .u8 w w.heap.size p.1 p.2.2) :
    PartsAt (w.alloc (.cells cs e)) (w.alloc (.cells cs e)).heap.size (some ⟨g, 0, none⟩) ps := by
  subst hg
  refine .inr ⟨w.heap.size, 0, rfl, by simp, fun j p hj => ⟨?_, ?_⟩⟩
  · rw [World.cell?_alloc_at _ _ _ _ rfl, h]
    simp [List.getElem?_map, hj]
  · exact ((hi p (List.mem_of_getElem? hj)).alloc (Nat.le_refl _) _).more (by simp)
def joinL (ps : List (Option Addr × Nat × List Int)) : List Int := (ps.map fun p => p.2.2).flatten
theorem joinL_snoc (ps : List (Option Addr × Nat × List Int)) (k : Nat) (p : Option Addr × Nat × List Int) (h : ps[k]? = some p) : joinL (ps.take (k + 1)) = joinL (ps.take k) ++ p.2.2 := by
  have hk : k < ps.length := by
    rcases Nat.lt_or_ge k ps.length with g | g
    · exact g
    · rw [List.getElem?_eq_none g] at h; cases h
  rw [List.getElem?_eq_getElem hk] at h
  injection h with h
  unfold joinL
  rw [List.take_succ_eq_append_getElem hk, List.map_append, List.flatten_append, h]; simp
theorem joinL_take_le (ps : List (Option Addr × Nat × List Int)) (k : Nat) : (joinL (ps.take k)).length ≤ (joinL ps).length := by
  conv => rhs; rw [← List.take_append_drop k ps]
  unfold joinL
  rw [List.map_append, List.flatten_append, List.length_append]; omega
theorem clone_any (A : Option Addr) (n c : Nat) (zs : List Int) (w : World) (hz : zs.length = n) (hr : Ints .u8 w w.heap.size A zs) (hn : n ≤ 140737488351232) (hnil : A = none → n = 0) :
    Calls Try.prog 49 #[.slice A n c] w fun e w' => Makes w w' e zs := by
  obtain ⟨i0, hi, hz0, hz1, hz2⟩ := info_parts info_u8
  cases A with
  | none =>
    obtain rfl : n = 0 := hnil rfl
    have hzs : zs = [] := List.eq_nil_of_length_eq_zero (by omega)
    have H := Lib.hid hzs
    clear hzs hz hr hn hnil
    have hq := Lib.run_eql_slice_nil (P := Try.prog) w 33 5 none 0 c 0 0 Try.underlying33
    go_enter Try.func49, Try.ntmps49
    go_wp2_with fail
    go_ret
    rw [H.out]
    exact makes_of rfl rfl (World.ownsRow_nil _ _ _ _) (Below.refl _ _)
  | some ad =>
    have hq := Lib.run_eql_slice_nil (P := Try.prog) w 33 5 (some ad) n c 0 0 Try.underlying33
    go_enter Try.func49, Try.ntmps49
    go_wp2_with (at_builtin; refine wpList_append_ints rfl _ _ 33 rfl .u8 w.heap.size 5 i0 _ 1 Try.underlying33 hi hz0 hz1 hz2 rfl (.slice (some ⟨w.heap.size, 0, none⟩) 0 0) 0 [] rfl (World.ownsRow_made _ _ 0 (Nat.le_refl _) (by unfold maxLen; omega) rfl) w.heap.size (some ad) n c zs rfl hz ?c1 ?c2 ?c3 ?c4 ?_; (case c1 => exact hr.alloc (Nat.le_refl _) _); (case c2 => unfold maxLen; omega); (case c3 => omega); (case c4 => simp); intro v' w1 hown1 hb1 _)
    go_ret
    exact makes_of rfl hz (by simpa using hown1) (((Below.refl _ _).alloc (Nat.le_refl _) _).trans hb1)
theorem valid_any (n : Int) (w : World) (hn : -9223372036854775808 ≤ n ∧ n ≤ 9223372036854775807) :
    Calls Try.prog 46 #[.int .i64 n] w fun e w' => e = .returned (.bool (decide (1 ≤ n ∧ n ≤ 8))) ∧ w = w' := by
  go_enter Try.func46, Try.ntmps46
  go_wp2
  all_goals
    go_ret
    refine ⟨Ser.ret_bool ?_, rfl⟩
    by_cases h1 : 1 ≤ n
    · by_cases h2 : n ≤ 8
      · simp [h1, h2] <;> omega
      · simp [h1, h2] <;> omega
    · simp [h1] <;> omega
theorem fits_any (v n : Int) (w : World) (hv : 0 ≤ v ∧ v ≤ 18446744073709551615) (hn : 1 ≤ n ∧ n ≤ 8) :
    Calls Try.prog 47 #[.int .u64 v, .int .i64 n] w fun e w' => e = .returned (.bool (decide (v < Ser.p2 (8 * n.toNat)))) ∧ w = w' := by
  go_enter Try.func47, Try.ntmps47
  have H := Lib.hid (fits_code v n hv.1 hn.1)
  go_wp2
  go_ret
  exact ⟨Ser.ret_bool H.out, rfl⟩
theorem number_any (A : Option Addr) (n c : Nat) (xs : List Int) (w : World) (hx : xs.length = n) (bxs : Bytes xs) (hr : Ints .u8 w w.heap.size A xs) (hn : n ≤ 8) :
    Calls Try.prog 48 #[.slice A n c] w fun e w' => e = .returned (.int .u64 (valL xs)) ∧ w = w' := by
  have Hx := Lib.hid hx
  clear hx
  go_enter Try.func48, Try.ntmps48
  go_wp2_with fail
  go_loop [3, 8] (fun v i => ∃ k : Nat, k ≤ n ∧ i = .int .i64 k ∧ v = .int .u64 (valL (xs.take k))) (fun _ i => n - (intOf i).toNat)
  case atStart => exact ⟨0, by omega, rfl, rfl⟩
  case round =>
    obtain ⟨k, hk, rfl, rfl⟩ := hrel
    by_cases c1 : k < n
    · obtain ⟨b, off, rfl, hb, hc⟩ := hr.at_ (i := k) (by rw [Hx.out]; omega)
      have f1 := hc k (by rw [Hx.out]; omega)
      clear hc
      have bk := bytes_get bxs k
      obtain ⟨x, hxk⟩ : ∃ x, xs.getD k 0 = x := ⟨_, rfl⟩
      rw [hxk] at f1 bk
      have HXK := Lib.hid hxk
      clear hxk
      have HC : Hid (bits BinOp.or IntKind.u64 (valL (xs.take k)) (IntKind.u64.wrap (x * 2 ^ (8 * k))) = valL (xs.take (k + 1))) := by
        refine Lib.hid ?_
        rw [or_code (bytes_take bxs k) (by rw [List.length_take, Hx.out]; omega) (by omega) bk, val_step (by rw [Hx.out]; omega) HXK.out]
      go_wp2_with fail
      go_round
      case rel => exact ⟨k + 1, by omega, by go_num, by rw [HC.out]⟩
      case measure => simp [intOf]; omega
    · have hkn : k = n := by omega
      have HT : Hid (xs.take k = xs) := Lib.hid (List.take_of_length_le (by rw [Hx.out]; omega))
      clear hkn
      go_wp2_with fail
      go_ret
      exact ⟨Ser.ret_int (by rw [HT.out]), rfl⟩
end Go.Proofs.Ytiopeghbpnjcgaa.Oct
