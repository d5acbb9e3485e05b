/- What each function of the layer of bytes and fields, and of its specification, returns: contracts over the program. -/
import Derived.Test.YtljgpkiakggmkaaProg
import Derived.WalkKit
import Derived.Lib.MinMax
import Derived.Lib.Hide
import Derived.BigQuiet
import Derived.Deep.QuietTactic
import Derived.WalkSpells
import Derived.StillTailTactics
import Derived.Test.YtljgpkiakggmkaaOctMath
import Derived.Test.YtljgpkiakggmkaaSerWalks
set_option linter.unusedVariables false
set_option linter.unusedSimpArgs false
namespace Go.Proofs.Ytljgpkiakggmkaa.Oct
open Go.RowKit Mem

theorem info_u8 : (Try.prog.info? 5).map (fun i => (i.zero, i.size, i.bytes)) = some (some (.int .u8 0), 1, 1) := by kernel_rfl

theorem copied_any (A : Option Addr) (n c : Nat) (zs : List Int) (w : World) (hz : zs.length = n) (hr : Ints .u8 w w.heap.size A zs) (hn : n ≤ 140737488351232) :
    Calls Try.prog 34 #[.slice A n c] w fun e w' => ∃ A' c', e = .returned (.slice A' n c') ∧ w'.ownsRow w.heap.size 5 1 (.slice A' n c') n (zs.map (Value.int .u8)) ∧ Below w.heap.size w w' := by
  obtain ⟨i0, hi, hz0, hz1, hz2⟩ := info_parts info_u8
  go_enter Try.func34, Try.ntmps34
  go_wp2_with (at_builtin; refine wpList_append_ints rfl _ _ 37 rfl .u8 w.heap.size 5 i0 _ 1 Try.underlying37 hi hz0 hz1 hz2 rfl (.slice (some ⟨w.heap.size, 0, none⟩) 0 0) 0 [] rfl (World.ownsRow_made _ _ 0 (Nat.le_refl _) (by unfold maxLen; omega) rfl) w.heap.size A n c zs rfl hz ?c1 ?c2 ?c3 ?c4 ?_; (case c1 => exact hr.alloc (Nat.le_refl _) _); (case c2 => unfold maxLen; omega); (case c3 => omega); (case c4 => simp); intro v' w1 hown1 hb1 _)
  go_ret
  simp only [Nat.zero_add, List.nil_append] at hown1
  obtain ⟨A', c', hv⟩ := own_form hown1
  refine ⟨A', c', by rw [← hv]; rfl, by rw [← hv]; exact hown1, ((Below.refl _ _).alloc (Nat.le_refl _) _).trans hb1⟩
theorem same_any (A A' : Option Addr) (n n' c c' : Nat) (xs ys : List Int) (w : World) (hx : xs.length = n) (hy : ys.length = n') (bx : Bytes xs) (by_ : Bytes ys) (hr : Ints .u8 w w.heap.size A xs) (hr' : Ints .u8 w w.heap.size A' ys) :
    Calls Try.prog 32 #[.slice A n c, .slice A' n' c'] w fun e w' => e = .returned (.bool (decide (xs = ys))) ∧ w = w' := by
  have k1 := run_string_ints (P := Try.prog) 37 5 Try.underlying37 Try.underlying5 Try.underlying9 w.heap.size A n c xs hx hr
  have k2 := run_string_ints (P := Try.prog) 37 5 Try.underlying37 Try.underlying5 Try.underlying9 w.heap.size A' n' c' ys hy hr'
  go_enter Try.func32, Try.ntmps32
  go_wp2
  go_ret
  exact ⟨Ser.ret_bool (str_eq bx by_), rfl⟩
/-- What a call makes of bytes: a row of its own. -/
def Makes (w w' : World) (e : Ending) (zs : List Int) : Prop :=
  ∃ A c, e = .returned (.slice A zs.length c) ∧ w'.ownsRow w.heap.size 5 1 (.slice A zs.length c) zs.length (zs.map (Value.int .u8)) ∧ Below w.heap.size w w'
theorem makes_of {w w' : World} {e : Ending} {v : Value} {n : Nat} {zs : List Int} (he : e = .returned v) (hn : zs.length = n) (h : w'.ownsRow w.heap.size 5 1 v n (zs.map (Value.int .u8))) (hb : Below w.heap.size w w') : Makes w w' e zs := by
  obtain ⟨A, c, hv⟩ := own_form h
  subst hn
  exact ⟨A, c, by rw [he, hv], by rw [← hv]; exact h, hb⟩
theorem xor_any (A A' : Option Addr) (n n' c c' : Nat) (xs ys : List Int) (w : World) (hx : xs.length = n) (hy : ys.length = n') (bxs : Bytes xs) (bys : Bytes ys) (hr : Ints .u8 w w.heap.size A xs) (hr' : Ints .u8 w w.heap.size A' ys) (hn : n ≤ 140737488351232) (hn' : n' ≤ 140737488351232) :
    Calls Try.prog 38 #[.slice A n c, .slice A' n' c'] w fun e w' => Makes w w' e (xorL xs ys) := by
  obtain ⟨i0, hi, hz0, hz1, hz2⟩ := info_parts info_u8
  obtain ⟨m, hm⟩ : ∃ m, m = min n n' := ⟨_, rfl⟩
  have hml : (xorL xs ys).length = m := by rw [xorL_len]; omega
  have hmi : min (n : Int) (n' : Int) = (m : Int) := by omega
  have Hm := Lib.hid hm
  have m1 : m ≤ n := by omega
  have m2 : m ≤ n' := by omega
  clear hm
  go_enter Try.func38, Try.ntmps38
  go_wp2_with (at_make; refine wpList_make_full _ rfl _ _ 37 rfl w.heap.size 5 i0 _ 1 Try.underlying37 hi hz0 hz1 _ _ _ _ m rfl rfl (by omega) (by omega) ?c1 ?c2 ?c3 ?_; (case c1 => rw [hz2]; omega); (case c2 => unfold maxLen; omega); (case c3 => omega); intro w1 hown1 hg1)
  generalize hg : w.heap.size = g at *
  have hg1' : g < w1.heap.size := by have := hg1.size; have := hown1.lt g rfl; omega
  have hb1 : Below g w w1 := ⟨hg1.os, hg1.tape, hg1.output, hg1.size, fun j hj => hg1.block j (by omega) (by simp)⟩
  have H := Lib.hid hml
  have Hx := Lib.hid hx
  have Hy := Lib.hid hy
  have Hg := Lib.hid hg
  clear hml hx hy hg hg1
  go_loopw [15] (fun i wr => ∃ k : Nat, k ≤ m ∧ i = .int .i64 k ∧ wr.ownsRow g 5 1 (.slice (some ⟨g, 0, none⟩) m m) m ((fill (xorL xs ys) k).map (Value.int .u8)) ∧ Below g w wr) (fun i _ => m - (intOf i).toNat)
  case atStart =>
    refine ⟨0, by omega, rfl, ?_, hb1⟩
    rw [fill_zero, H.out, ← made_zero]
    exact hown1
  case round =>
    obtain ⟨k, hk, rfl, hown, hbel⟩ := hrel
    by_cases c1 : k < m
    · obtain ⟨b, off, rfl, hb, hc⟩ := (hr.below hbel).at_ (i := k) (by rw [Hx.out]; omega)
      obtain ⟨b', off', rfl, hb', hc'⟩ := (hr'.below hbel).at_ (i := k) (by rw [Hy.out]; omega)
      have f1 := hc k (by rw [Hx.out]; omega)
      have f2 := hc' k (by rw [Hy.out]; omega)
      clear hc hc'
      have fx := bx_code _ _ (bytes_get bxs k) (bytes_get bys k)
      simp only [List.getD_eq_getElem?_getD] at fx f1 f2
      have f3 := hown.frozenAt k
      obtain ⟨z, f4⟩ : ∃ z, wr.cell? ⟨g, k, none⟩ = some (.int .u8 z) := own_cell hown k (by rw [fill_len, H.out]; omega)
      have hst := hown.stored k (.int .u8 (bx (xs[k]?.getD 0) (ys[k]?.getD 0)))
      have HB := Lib.hid (hbel.setCell (p := ⟨g, k, none⟩) (Nat.le_refl _) (.int .u8 (bx (xs[k]?.getD 0) (ys[k]?.getD 0)))).drew
      rw [fill_map_step _ _ _ (by rw [H.out]; omega) (by rw [xorL_get _ _ _ (by rw [Hx.out]; omega) (by rw [Hy.out]; omega)]; simp)] at hst
      have HS := Lib.hid hst.1.drew
      clear hst
      go_wp2_with fail
      go_region
      all_goals
        go_wp2
        go_roundw
        case rel => exact ⟨k + 1, by omega, by go_num, HS.out, HB.out⟩
        case measure => simp [intOf]; omega
    · have hkm : k = m := by omega
      subst hkm
      go_wp2
      go_ret
      have hw : (fill (xorL xs ys) k) = xorL xs ys := by have := fill_all (xorL xs ys); rw [H.out] at this; exact this
      rw [hw] at hown
      rw [← Hg.out] at hown hbel
      exact makes_of (by rw [Hg.out]; rfl) H.out hown hbel
theorem rxor_any (A A' : Option Addr) (n n' c c' : Nat) (xs ys : List Int) (w : World) (hx : xs.length = n) (hy : ys.length = n') (bxs : Bytes xs) (bys : Bytes ys) (hr : Ints .u8 w w.heap.size A xs) (hr' : Ints .u8 w w.heap.size A' ys) (hn : n ≤ 140737488351232) (hn' : n' ≤ 140737488351232) :
    Calls Try.prog 39 #[.slice A n c, .slice A' n' c'] w fun e w' => Makes w w' e (xorL xs ys) := by
  obtain ⟨i0, hi, hz0, hz1, hz2⟩ := info_parts info_u8
  have hml := xorL_len xs ys
  go_enter Try.func39, Try.ntmps39
  go_wp2_with fail
  have H := Lib.hid hml
  have Hx := Lib.hid hx
  have Hy := Lib.hid hy
  clear hml hx hy
  go_loopw [5, 6] (fun v i wr => ∃ k : Nat, k ≤ n ∧ k ≤ n' ∧ i = .int .i64 k ∧ wr.ownsRow w.heap.size 5 1 v k (((xorL xs ys).take k).map (Value.int .u8)) ∧ Below w.heap.size w wr) (fun _ i _ => n - (intOf i).toNat)
  case atStart => exact ⟨0, by omega, by omega, rfl, World.ownsRow_made _ _ 0 (Nat.le_refl _) (by unfold maxLen; omega) rfl, (Below.refl _ _).alloc (Nat.le_refl _) _⟩
  case round =>
    obtain ⟨k, hk, hk', rfl, hown, hbel⟩ := hrel
    by_cases c1 : k < n
    · by_cases c2 : k < n'
      · obtain ⟨b, off, rfl, hb, hc⟩ := (hr.below hbel).at_ (i := k) (by rw [Hx.out]; omega)
        obtain ⟨b', off', rfl, hb', hc'⟩ := (hr'.below hbel).at_ (i := k) (by rw [Hy.out]; omega)
        have f1 := hc k (by rw [Hx.out]; omega)
        have f2 := hc' k (by rw [Hy.out]; omega)
        clear hc hc'
        have fx := bx_code _ _ (bytes_get bxs k) (bytes_get bys k)
        simp only [List.getD_eq_getElem?_getD] at fx f1 f2
        have bs := (hown.alloc (.cells #[.int .u8 (bx (xs[k]?.getD 0) (ys[k]?.getD 0))] 5)).drew
        go_wp2_with fail
        go_region_law (refine step_append_ints rfl (.tmp 20) (.tmp 30) 37 rfl .u8 w.heap.size 5 i0 _ 1 Try.underlying37 hi hz0 hz1 hz2 rfl _ k _ rfl bs (wr.heap.size + 1) _ 1 1 [bx (xs[k]?.getD 0) (ys[k]?.getD 0)] rfl rfl (Ints.drew (Ints.lit .u8 wr [bx (xs[k]?.getD 0) (ys[k]?.getD 0)] _ _ rfl)) (by unfold maxLen; omega) (by omega) (by simp; have := hbel.size; omega) ?_; intro v2 w2 hown2 hb2 _)
        all_goals
          have HS : Hid (w2.ownsRow w.heap.size 5 1 v2 (k + 1) (((xorL xs ys).take (k + 1)).map (Value.int .u8))) := by
            refine Lib.hid ?_
            rw [← snoc_map _ _ _ (by rw [H.out, Hx.out, Hy.out]; omega) (by rw [xorL_get _ _ _ (by rw [Hx.out]; omega) (by rw [Hy.out]; omega)])]
            simpa using hown2
          have HB := Lib.hid (((hbel.alloc hbel.size (.cells #[.int .u8 (bx (xs[k]?.getD 0) (ys[k]?.getD 0))] 5)).drew).trans hb2)
          clear hown2 hb2 bs
          go_wp2
          go_roundw
          case rel => exact ⟨k + 1, by omega, by omega, by go_num, HS.out, HB.out⟩
          case measure => simp [intOf]; omega
      · have hkm : k = n' := by omega
        have hlen : (xorL xs ys).length = k := by rw [H.out, Hx.out, Hy.out]; omega
        rw [List.take_of_length_le (by omega)] at hown
        have HO := Lib.hid hown
        have HL := Lib.hid hlen
        clear hlen hown hkm
        go_wp2_with fail
        go_ret
        exact makes_of rfl HL.out HO.out hbel
    · have hkm : k = n := by omega
      have hlen : (xorL xs ys).length = k := by rw [H.out, Hx.out, Hy.out]; omega
      rw [List.take_of_length_le (by omega)] at hown
      have HO := Lib.hid hown
      have HL := Lib.hid hlen
      have c1' : decide (k < n) = false := by simp; omega
      clear hlen hown hkm
      go_wp2_with fail
      go_ret
      exact makes_of rfl HL.out HO.out hbel
end Go.Proofs.Ytljgpkiakggmkaa.Oct
