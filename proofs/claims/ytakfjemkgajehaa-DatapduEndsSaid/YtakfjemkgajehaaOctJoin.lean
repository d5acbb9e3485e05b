/- Joining parts, cloning bytes, sizes and numbers of bytes: what the functions of the layer of bytes, and of its specification, return: contracts over the program. -/
import Derived.Test.YtakfjemkgajehaaOctWalks
import Derived.Lib.SliceRun
set_option linter.unusedVariables false
set_option linter.unusedSimpArgs false
namespace Go.Proofs.Ytakfjemkgajehaa.Oct
open Go.RowKit Mem

/-- A part: where it begins, its capacity, its bytes. -/
def PartsAt (w : World) (B : Nat) (A : Option Addr) (ps : List (Option Addr × Nat × List Int)) : Prop :=
  ps = [] ∨ ∃ b off, A = some ⟨b, off, none⟩ ∧ b < B ∧ ∀ j p, ps[j]? = some p → w.cell? ⟨b, off + j, none⟩ = some (.slice p.1 p.2.2.length p.2.1) ∧ Ints .u8 w B p.1 p.2.2
theorem PartsAt.below {w w' : World} {B : Nat} {A : Option Addr} {ps : List (Option Addr × Nat × List Int)} (h : PartsAt w B A ps) (hb : Below B w w') : PartsAt w' B A ps := by
  rcases h with h | ⟨b, off, e, hlt, hc⟩
  · exact .inl h
  · exact .inr ⟨b, off, e, hlt, fun j p hj => ⟨(hb.cell (p := ⟨b, off + j, none⟩) hlt).trans (hc j p hj).1, (hc j p hj).2.below hb⟩⟩
/-- Parts that were just laid side by side. -/
theorem parts_lit (w : World) (ps : List (Option Addr × Nat × List Int)) (cs : Array Value) (e : TypeId) (g : Nat) (hg : g = w.heap.size) (h : cs = (ps.map fun p => Value.slice p.1 p.2.2.length p.2.1).toArray) (hi : ∀ p ∈ ps, Ints .u8 w w.heap.size p.1 p.2.2) :
    PartsAt (w.alloc (.cells cs e)) (w.alloc (.cells cs e)).heap.size (some ⟨g, 0, none⟩) ps := by
  subst hg
  refine .inr ⟨w.heap.size, 0, rfl, by simp, fun j p hj => ⟨?_, ?_⟩⟩
  · rw [World.cell?_alloc_at _ _ _ _ rfl, h]
    simp [List.getElem?_map, hj]
  · exact ((hi p (List.mem_of_getElem? hj)).alloc (Nat.le_refl _) _).more (by simp)
def joinL (ps : List (Option Addr × Nat × List Int)) : List Int := (ps.map fun p => p.2.2).flatten
theorem joinL_snoc (ps : List (Option Addr × Nat × List Int)) (k : Nat) (p : Option Addr × Nat × List Int) (h : ps[k]? = some p) : joinL (ps.take (k + 1)) = joinL (ps.take k) ++ p.2.2 := by
  have hk : k < ps.length := by
    rcases Nat.lt_or_ge k ps.length with g | g
    · exact g
    · rw [List.getElem?_eq_none g] at h; cases h
  rw [List.getElem?_eq_getElem hk] at h
  injection h with h
  unfold joinL
  rw [List.take_succ_eq_append_getElem hk, List.map_append, List.flatten_append, h]; simp
theorem joinL_take_le (ps : List (Option Addr × Nat × List Int)) (k : Nat) : (joinL (ps.take k)).length ≤ (joinL ps).length := by
  conv => rhs; rw [← List.take_append_drop k ps]
  unfold joinL
  rw [List.map_append, List.flatten_append, List.length_append]; omega
theorem join_any (A : Option Addr) (n c : Nat) (ps : List (Option Addr × Nat × List Int)) (w : World) (hp : ps.length = n) (hn : n ≤ 1048576) (hr : PartsAt w w.heap.size A ps) (ht : (joinL ps).length ≤ 140737488351232) :
    Calls Try.prog 47 #[.slice A n c] w fun e w' => Makes w w' e (joinL ps) := by
  obtain ⟨i0, hi, hz0, hz1, hz2⟩ := info_parts info_u8
  have Hp := Lib.hid hp
  clear hp
  go_enter Try.func47, Try.ntmps47
  go_wp2_with fail
  go_loopw [3, 8] (fun v i wr => ∃ k : Nat, k ≤ n ∧ i = .int .i64 k ∧ wr.ownsRow w.heap.size 5 1 v (joinL (ps.take k)).length ((joinL (ps.take k)).map (Value.int .u8)) ∧ Below w.heap.size w wr) (fun _ i _ => n - (intOf i).toNat)
  case atStart => exact ⟨0, by omega, rfl, World.ownsRow_nil _ _ _ _, Below.refl _ _⟩
  case round =>
    obtain ⟨k, hk, rfl, hown, hbel⟩ := hrel
    by_cases c1 : k < n
    · obtain ⟨p, hpk⟩ : ∃ p, ps[k]? = some p := ⟨ps[k]'(by rw [Hp.out]; omega), List.getElem?_eq_getElem _⟩
      rcases hr.below hbel with h | ⟨b, off, rfl, hlt, hc⟩
      · exfalso; rw [h] at hpk; simp at hpk
      obtain ⟨f1, f2⟩ := hc k p hpk
      clear hc
      have HJ := Lib.hid (joinL_snoc ps k p hpk)
      have hle := joinL_take_le ps (k + 1)
      rw [HJ.out, List.length_append] at hle
      obtain ⟨pa, pc, pz⟩ := p
      simp only at f1 f2 hle
      clear hpk
      go_wp2_with (at_builtin; refine wpList_append_ints rfl _ _ 22 rfl .u8 w.heap.size 5 i0 _ 1 Try.underlying22 hi hz0 hz1 hz2 rfl _ _ _ rfl hown w.heap.size pa pz.length pc pz rfl rfl ?c1 ?c2 ?c3 ?c4 ?_; (case c1 => exact f2); (case c2 => unfold maxLen; omega); (case c3 => omega); (case c4 => exact hbel.size); intro v2 w2 hown2 hb2 _)
      go_roundw
      case rel => exact ⟨k + 1, by omega, by go_num, by rw [HJ.out, List.length_append, List.map_append]; exact hown2, hbel.trans hb2⟩
      case measure => simp [intOf]; omega
    · have hkn : k = n := by omega
      rw [List.take_of_length_le (by rw [Hp.out]; omega)] at hown
      clear hkn
      go_wp2_with fail
      go_ret
      exact makes_of rfl rfl hown hbel
theorem clone_any (A : Option Addr) (n c : Nat) (zs : List Int) (w : World) (hz : zs.length = n) (hr : Ints .u8 w w.heap.size A zs) (hn : n ≤ 140737488351232) (hnil : A = none → n = 0) :
    Calls Try.prog 50 #[.slice A n c] w fun e w' => Makes w w' e zs := by
  obtain ⟨i0, hi, hz0, hz1, hz2⟩ := info_parts info_u8
  cases A with
  | none =>
    obtain rfl : n = 0 := hnil rfl
    have hzs : zs = [] := List.eq_nil_of_length_eq_zero (by omega)
    have H := Lib.hid hzs
    clear hzs hz hr hn hnil
    have hq := Lib.run_eql_slice_nil (P := Try.prog) w 22 5 none 0 c 0 0 Try.underlying22
    go_enter Try.func50, Try.ntmps50
    go_wp2_with fail
    go_ret
    rw [H.out]
    exact makes_of rfl rfl (World.ownsRow_nil _ _ _ _) (Below.refl _ _)
  | some ad =>
    have hq := Lib.run_eql_slice_nil (P := Try.prog) w 22 5 (some ad) n c 0 0 Try.underlying22
    go_enter Try.func50, Try.ntmps50
    go_wp2_with (at_builtin; refine wpList_append_ints rfl _ _ 22 rfl .u8 w.heap.size 5 i0 _ 1 Try.underlying22 hi hz0 hz1 hz2 rfl (.slice (some ⟨w.heap.size, 0, none⟩) 0 0) 0 [] rfl (World.ownsRow_made _ _ 0 (Nat.le_refl _) (by unfold maxLen; omega) rfl) w.heap.size (some ad) n c zs rfl hz ?c1 ?c2 ?c3 ?c4 ?_; (case c1 => exact hr.alloc (Nat.le_refl _) _); (case c2 => unfold maxLen; omega); (case c3 => omega); (case c4 => simp); intro v' w1 hown1 hb1 _)
    go_ret
    exact makes_of rfl hz (by simpa using hown1) (((Below.refl _ _).alloc (Nat.le_refl _) _).trans hb1)
end Go.Proofs.Ytakfjemkgajehaa.Oct
