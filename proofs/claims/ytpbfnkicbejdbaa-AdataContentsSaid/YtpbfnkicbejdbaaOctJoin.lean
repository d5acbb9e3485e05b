/- Joining parts, cloning bytes, sizes and numbers of bytes: what the functions of the layer of bytes, and of its specification, return: contracts over the program. -/
import Derived.Test.YtpbfnkicbejdbaaOctWalks
import Derived.Lib.SliceRun
set_option linter.unusedVariables false
set_option linter.unusedSimpArgs false
namespace Go.Proofs.Ytpbfnkicbejdbaa.Oct
open Go.RowKit Mem

/-- A part: where it begins, its capacity, its bytes. -/
def PartsAt (w : World) (B : Nat) (A : Option Addr) (ps : List (Option Addr × Nat × List Int)) : Prop :=
  ps = [] ∨ ∃ b off, A = some ⟨b, off, none⟩ ∧ b < B ∧ ∀ j p, ps[j]? = some p → w.cell? ⟨b, off + j, none⟩ = some (.slice p.1 p.2.2.length p.2.1) ∧ Ints .u8 w B p.1 p.2.2
theorem PartsAt.below {w w' : World} {B : Nat} {A : Option Addr} {ps : List (Option Addr × Nat × List Int)} (h : PartsAt w B A ps) (hb : Below B w w') : PartsAt w' B A ps := by
  rcases h with h | ⟨b, off, e, hlt, hc⟩
  · exact .inl h
  · exact .inr ⟨b, off, e, hlt, fun j p hj => ⟨(hb.cell (p := ⟨b, off + j, none⟩) hlt).trans (hc j p hj).1, (hc j p hj).2.below hb⟩⟩
/-- Parts that were just laid side by side. -/
theorem parts_lit (w : World) (ps : List (Option Addr × Nat × List Int)) (cs : Array Value) (e : TypeId) (g : Nat) (hg : g = w.heap.size) (h : cs = (ps.map fun p => Value.slice p.1 p.2.2.length p.2.1).toArray) (hi : ∀ p ∈ ps, Ints .u8 w w.heap.size p.1 p.2.2) :
    PartsAt (w.alloc (.cells cs e)) (w.alloc (.cells cs e)).heap.size (some ⟨g, 0, none⟩) ps := by
  subst hg
  refine .inr ⟨w.heap.size, 0, rfl, by simp, fun j p hj => ⟨?_, ?_⟩⟩
  · rw [World.cell?_alloc_at _ _ _ _ rfl, h]
    simp [List.getElem?_map, hj]
  · exact ((hi p (List.mem_of_getElem? hj)).alloc (Nat.le_refl _) _).more (by simp)
def joinL (ps : List (Option Addr × Nat × List Int)) : List Int := (ps.map fun p => p.2.2).flatten
theorem joinL_snoc (ps : List (Option Addr × Nat × List Int)) (k : Nat) (p : Option Addr × Nat × List Int) (h : ps[k]? = some p) : joinL (ps.take (k + 1)) = joinL (ps.take k) ++ p.2.2 := by
  have hk : k < ps.length := by
    rcases Nat.lt_or_ge k ps.length with g | g
    · exact g
    · rw [List.getElem?_eq_none g] at h; cases h
  rw [List.getElem?_eq_getElem hk] at h
  injection h with h
  unfold joinL
  rw [List.take_succ_eq_append_getElem hk, List.map_append, List.flatten_append, h]; simp
theorem joinL_take_le (ps : List (Option Addr × Nat × List Int)) (k : Nat) : (joinL (ps.take k)).length ≤ (joinL ps).length := by
  conv => rhs; rw [← List.take_append_drop k ps]
  unfold joinL
  rw [List.map_append, List.flatten_append, List.length_append]; omega
theorem clone_any (A : Option Addr) (n c : Nat) (zs : List Int) (w : World) (hz : zs.length = n) (hr : Ints .u8 w w.heap.size A zs) (hn : n ≤ 140737488351232) (hnil : A = none → n = 0) :
    Calls Try.prog 35 #[.slice A n c] w fun e w' => Makes w w' e zs := by
  obtain ⟨i0, hi, hz0, hz1, hz2⟩ := info_parts info_u8
  cases A with
  | none =>
    obtain rfl : n = 0 := hnil rfl
    have hzs : zs = [] := List.eq_nil_of_length_eq_zero (by omega)
    have H := Lib.hid hzs
    clear hzs hz hr hn hnil
    have hq := Lib.run_eql_slice_nil (P := Try.prog) w 24 5 none 0 c 0 0 Try.underlying24
    go_enter Try.func35, Try.ntmps35
    go_wp2_with fail
    go_ret
    rw [H.out]
    exact makes_of rfl rfl (World.ownsRow_nil _ _ _ _) (Below.refl _ _)
  | some ad =>
    have hq := Lib.run_eql_slice_nil (P := Try.prog) w 24 5 (some ad) n c 0 0 Try.underlying24
    go_enter Try.func35, Try.ntmps35
    go_wp2_with (at_builtin; refine wpList_append_ints rfl _ _ 24 rfl .u8 w.heap.size 5 i0 _ 1 Try.underlying24 hi hz0 hz1 hz2 rfl (.slice (some ⟨w.heap.size, 0, none⟩) 0 0) 0 [] rfl (World.ownsRow_made _ _ 0 (Nat.le_refl _) (by unfold maxLen; omega) rfl) w.heap.size (some ad) n c zs rfl hz ?c1 ?c2 ?c3 ?c4 ?_; (case c1 => exact hr.alloc (Nat.le_refl _) _); (case c2 => unfold maxLen; omega); (case c3 => omega); (case c4 => simp); intro v' w1 hown1 hb1 _)
    go_ret
    exact makes_of rfl hz (by simpa using hown1) (((Below.refl _ _).alloc (Nat.le_refl _) _).trans hb1)
theorem valid_any (n : Int) (w : World) (hn : -9223372036854775808 ≤ n ∧ n ≤ 9223372036854775807) :
    Calls Try.prog 37 #[.int .i64 n] w fun e w' => e = .returned (.bool (decide (1 ≤ n ∧ n ≤ 8))) ∧ w = w' := by
  go_enter Try.func37, Try.ntmps37
  go_wp2
  all_goals
    go_ret
    refine ⟨Ser.ret_bool ?_, rfl⟩
    by_cases h1 : 1 ≤ n
    · by_cases h2 : n ≤ 8
      · simp [h1, h2] <;> omega
      · simp [h1, h2] <;> omega
    · simp [h1] <;> omega
theorem fits_any (v n : Int) (w : World) (hv : 0 ≤ v ∧ v ≤ 18446744073709551615) (hn : 1 ≤ n ∧ n ≤ 8) :
    Calls Try.prog 38 #[.int .u64 v, .int .i64 n] w fun e w' => e = .returned (.bool (decide (v < Ser.p2 (8 * n.toNat)))) ∧ w = w' := by
  go_enter Try.func38, Try.ntmps38
  have H := Lib.hid (fits_code v n hv.1 hn.1)
  go_wp2
  go_ret
  exact ⟨Ser.ret_bool H.out, rfl⟩
theorem value_any (A : Option Addr) (n c : Nat) (xs : List Int) (w : World) (hx : xs.length = n) (bxs : Bytes xs) (hr : Ints .u8 w w.heap.size A xs) (hn : n ≤ 8) :
    Calls Try.prog 29 #[.slice A n c] w fun e w' => e = .returned (.int .u64 (valL xs)) ∧ w = w' := by
  have Hx := Lib.hid hx
  clear hx
  go_enter Try.func29, Try.ntmps29
  go_wp2_with fail
  go_loop [3, 4] (fun v i => (i = .int .i64 (-1) ∧ v = .int .u64 (valL xs)) ∨ ∃ k : Nat, k < n ∧ i = .int .i64 k ∧ v = .int .u64 (valL (xs.drop (k + 1)))) (fun _ i => (intOf i + 1).toNat)
  case atStart =>
    rcases n with _ | n
    · exact .inl ⟨rfl, by rw [List.eq_nil_of_length_eq_zero Hx.out]; rfl⟩
    · exact .inr ⟨n, by omega, by go_num, by rw [List.drop_of_length_le (by rw [Hx.out]; omega)]; rfl⟩
  case round =>
    rcases hrel with ⟨rfl, rfl⟩ | ⟨k, hk, rfl, rfl⟩
    · go_wp2_with fail
      go_ret
      exact ⟨rfl, rfl⟩
    · obtain ⟨b, off, rfl, hb, hc⟩ := hr.at_ (i := k) (by rw [Hx.out]; omega)
      have f1 := hc k (by rw [Hx.out]; omega)
      clear hc
      have bk := bytes_get bxs k
      obtain ⟨x, hxk⟩ : ∃ x, xs.getD k 0 = x := ⟨_, rfl⟩
      rw [hxk] at f1 bk
      have HD := Lib.hid (drop_val (by rw [Hx.out]; omega) hxk)
      clear hxk
      have b1 := drop_bd' bxs (by rw [Hx.out]; omega) (k + 1) (by omega)
      have b2 := (drop_bd bxs (by rw [Hx.out]; omega) (k + 1)).1
      go_wp2_with fail
      go_round
      case rel =>
        rcases k with _ | k
        · exact .inl ⟨rfl, by rw [show valL xs = valL (xs.drop 0) from rfl, HD.out] <;> go_num⟩
        · exact .inr ⟨k, by omega, by go_num, by rw [HD.out] <;> go_num⟩
      case measure => simp [intOf] <;> omega
end Go.Proofs.Ytpbfnkicbejdbaa.Oct
