/- Inverting bits: contracts over the program. -/
import Derived.Test.YthpbnipjopjfeaaDoorCrcWalks2
import Derived.Deep.RegionHeld3
set_option linter.unusedVariables false
set_option linter.unusedSimpArgs false
namespace Go.Proofs.YthpbnipjopjfeaaDoor.Crc
open Go.RowKit Mem Oct Base

theorem bit_any (j : Nat) (w : World) (hj : j ≤ 7) :
    Calls Tryd.prog 31 #[.int .i64 j] w fun e w' => e = .returned (.int .u8 (2 ^ j : Nat)) ∧ w = w' := by
  go_enter Tryd.func31, Tryd.ntmps31
  go_wp2_with fail
  go_loop [3, 4] (fun v i => ∃ k : Nat, k ≤ j ∧ i = .int .i64 k ∧ v = .int .u8 (2 ^ k : Nat)) (fun _ i => j - (intOf i).toNat)
  case atStart => exact ⟨0, by omega, rfl, rfl⟩
  case round =>
    obtain ⟨k, hk, rfl, rfl⟩ := hrel
    by_cases c1 : k < j
    · have hp : 2 ^ k ≤ 2 ^ 6 := Nat.pow_le_pow_right (by decide) (by omega)
      have HP : Hid (2 ^ k * 2 = 2 ^ (k + 1)) := Lib.hid (by rw [Nat.pow_succ])
      generalize 2 ^ k = p at *
      go_wp2_with fail
      go_round
      case rel => exact ⟨k + 1, by omega, by go_num, by rw [← HP.out]; go_num⟩
      case measure => simp [intOf]; omega
    · obtain rfl : k = j := by omega
      go_wp2_with fail
      go_ret
      exact ⟨rfl, rfl⟩
theorem bit_to {J : Int} (j : Nat) (w : World) (hJ : J = (j : Int)) (hj : j ≤ 7) :
    Calls Tryd.prog 31 #[.int .i64 J] w fun e w' => e = .returned (.int .u8 (2 ^ j : Nat)) ∧ w = w' := by
  subst hJ; exact bit_any j w hj
theorem num_set (l : List Int) (k j : Nat) (x : Int) (h : k < l.length) (hl : Bytes l) (hx : l.getD k 0 = x) : num (l.set k (bx x (2 ^ j : Nat))) = num l ^^^ 2 ^ (8 * k + j) := by
  induction l generalizing k with
  | nil => simp at h
  | cons c r ih =>
    cases k with
    | zero =>
      simp only [List.getD_cons_zero] at hx
      subst hx
      simp only [List.set_cons_zero, num]
      unfold bx
      rw [Int.toNat_natCast, Int.toNat_natCast, Nat.mul_zero, Nat.zero_add, Nat.xor_assoc, Nat.xor_comm (2 ^ j), ← Nat.xor_assoc]
    | succ k =>
      simp only [List.set_cons_succ, num]
      rw [ih k (by simpa using h) (fun z hz => hl z (by simp [hz])) (by simpa using hx), mul256_xor, ← Nat.xor_assoc]
      congr 1
      rw [show 8 * (k + 1) + j = 8 + (8 * k + j) by omega, Nat.pow_add 2 8]
theorem pat_step (p k : Nat) (h : p / 2 ^ k % 2 = 1) : p % 2 ^ (k + 1) = p % 2 ^ k ^^^ 2 ^ k := by
  rw [Nat.pow_succ, Nat.mod_mul, h, Nat.mul_one]
  have := add_xor (p % 2 ^ k) 1 k (Nat.mod_lt _ (Nat.two_pow_pos k))
  rwa [Nat.mul_one] at this
theorem pat_same (p k : Nat) (h : p / 2 ^ k % 2 ≠ 1) : p % 2 ^ (k + 1) = p % 2 ^ k := by
  rw [Nat.pow_succ, Nat.mod_mul, show p / 2 ^ k % 2 = 0 by omega, Nat.mul_zero, Nat.add_zero]
theorem flip_step (l zs : List Int) (a p k : Nat) (x : Int) (h : (a + k) / 8 < l.length) (hl : Bytes l) (hx : l.getD ((a + k) / 8) 0 = x) (hp : p / 2 ^ k % 2 = 1) (e : num l = num zs ^^^ 2 ^ a * (p % 2 ^ k)) :
    num (l.set ((a + k) / 8) (bx x (2 ^ ((a + k) % 8) : Nat))) = num zs ^^^ 2 ^ a * (p % 2 ^ (k + 1)) := by
  rw [num_set l _ _ x h hl hx, e, pat_step p k hp, pow_xor, Nat.xor_assoc]
  congr 2
  rw [← Nat.pow_add]
  congr 1; omega
theorem bytes_set {l : List Int} (h : Bytes l) (k : Nat) (x : Int) (hx : 0 ≤ x ∧ x ≤ 255) : Bytes (l.set k x) := by
  intro z hz
  rcases List.mem_or_eq_of_mem_set hz with g | rfl
  · exact h z g
  · exact hx
/-- What Flip answers. -/
def Flips (w w' : World) (e : Ending) (zs : List Int) (a : Int) (p : Nat) : Prop :=
  Below w.heap.size w w' ∧ (e = .returned (.tuple #[.slice none 0 0, .bool false]) ∨ ∃ A c out, e = .returned (.tuple #[.slice A zs.length c, .bool true]) ∧ zs.length ≤ c ∧ out.length = zs.length ∧ Bytes out ∧ Ints .u8 w' w'.heap.size A out ∧ 0 ≤ a ∧ a.toNat ≤ 8 * zs.length ∧ num out = num zs ^^^ 2 ^ a.toNat * (p % 2 ^ 24))
theorem flip_any (A : Option Addr) (n c : Nat) (zs : List Int) (a : Int) (p : Nat) (w : World) (hz : zs.length = n) (bz : Bytes zs) (hi : Ints .u8 w w.heap.size A zs) (hn : n ≤ 1048576) (ha : -9223372036854775808 ≤ a ∧ a ≤ 9223372036854775807) (hp : p < 4294967296) :
    Calls Tryd.prog 21 #[.slice A n c, .int .i64 a, .int .u32 p] w fun e w' => Flips w w' e zs a p := by
  obtain ⟨i0, hi0, hz0, hz1, hz2⟩ := info_parts info_u8
  have HZ := Lib.hid hz
  clear hz
  by_cases h1 : a < 0
  · go_enter Tryd.func21, Tryd.ntmps21
    go_wp2_with (at_builtin; refine wpList_append_ints rfl _ _ 23 rfl .u8 w.heap.size 5 i0 _ 1 Tryd.underlying23 hi0 hz0 hz1 hz2 rfl (.slice (some ⟨w.heap.size, 0, none⟩) 0 0) 0 [] rfl (World.ownsRow_made _ _ 0 (Nat.le_refl _) (by unfold maxLen; omega) rfl) w.heap.size A n c zs rfl HZ.out ?c1 ?c2 ?c3 ?c4 ?_; (case c1 => exact hi.alloc (Nat.le_refl _) _); (case c2 => unfold maxLen; omega); (case c3 => omega); (case c4 => simp); intro v2 w2 o2 b2' _; obtain ⟨A2, c2, rfl⟩ := own_form o2; simp only [Nat.zero_add, List.nil_append] at o2; have b2 : Below w.heap.size w w2 := ((Below.refl _ _).alloc (Nat.le_refl _) _).trans b2'; clear b2')
    go_ret2
    exact ⟨b2, .inl rfl⟩
  obtain ⟨a, rfl⟩ := Int.eq_ofNat_of_zero_le (Int.not_lt.1 h1)
  have h1' : decide ((a : Int) < 0) = false := by simp
  by_cases h2 : 8 * n < a
  · have h2' : (8 * (n : Int)) < (a : Int) := by omega
    go_enter Tryd.func21, Tryd.ntmps21
    go_wp2_with (at_builtin; refine wpList_append_ints rfl _ _ 23 rfl .u8 w.heap.size 5 i0 _ 1 Tryd.underlying23 hi0 hz0 hz1 hz2 rfl (.slice (some ⟨w.heap.size, 0, none⟩) 0 0) 0 [] rfl (World.ownsRow_made _ _ 0 (Nat.le_refl _) (by unfold maxLen; omega) rfl) w.heap.size A n c zs rfl HZ.out ?c1 ?c2 ?c3 ?c4 ?_; (case c1 => exact hi.alloc (Nat.le_refl _) _); (case c2 => unfold maxLen; omega); (case c3 => omega); (case c4 => simp); intro v2 w2 o2 b2' _; obtain ⟨A2, c2, rfl⟩ := own_form o2; simp only [Nat.zero_add, List.nil_append] at o2; have b2 : Below w.heap.size w w2 := ((Below.refl _ _).alloc (Nat.le_refl _) _).trans b2'; clear b2')
    go_ret2
    exact ⟨b2, .inl rfl⟩
  have h2' : decide (8 * (n : Int) < (a : Int)) = false := by simp; omega
  go_enter Tryd.func21, Tryd.ntmps21
  go_wp2_with (at_builtin; refine wpList_append_ints rfl _ _ 23 rfl .u8 w.heap.size 5 i0 _ 1 Tryd.underlying23 hi0 hz0 hz1 hz2 rfl (.slice (some ⟨w.heap.size, 0, none⟩) 0 0) 0 [] rfl (World.ownsRow_made _ _ 0 (Nat.le_refl _) (by unfold maxLen; omega) rfl) w.heap.size A n c zs rfl HZ.out ?c1 ?c2 ?c3 ?c4 ?_; (case c1 => exact hi.alloc (Nat.le_refl _) _); (case c2 => unfold maxLen; omega); (case c3 => omega); (case c4 => simp); intro v2 w2 o2 b2' _; obtain ⟨A2, c2, rfl⟩ := own_form o2; simp only [Nat.zero_add, List.nil_append] at o2; have b2 : Below w.heap.size w w2 := ((Below.refl _ _).alloc (Nat.le_refl _) _).trans b2'; clear b2')
  go_loopw [2, 9] (fun u i wr => ∃ k : Nat, ∃ out : List Int, k ≤ 24 ∧ i = .int .i64 k ∧ u = .int .u32 (p / 2 ^ k : Nat) ∧ out.length = n ∧ Bytes out ∧ wr.ownsRow w.heap.size 5 1 (.slice A2 n c2) n (out.map (Value.int .u8)) ∧ Below w.heap.size w wr ∧ num out = num zs ^^^ 2 ^ a * (p % 2 ^ k)) (fun _ i _ => 24 - (intOf i).toNat)
  case atStart => exact ⟨0, zs, by omega, rfl, by rw [Nat.pow_zero, Nat.div_one], HZ.out, bz, o2, b2, by simp [Nat.mod_one]⟩
  case round =>
    obtain ⟨k, out, hk, rfl, rfl, hlo, hbo, hown, hbel, hnum⟩ := hrel
    have HO := Lib.hid hlo
    have HN := Lib.hid hnum
    clear hlo hnum
    by_cases c1 : k < 24
    · have HD : Hid (p / 2 ^ k / 2 = p / 2 ^ (k + 1)) := Lib.hid (by rw [Nat.div_div_eq_div_mul, Nat.pow_succ])
      have hy : p / 2 ^ k ≤ p := Nat.div_le_self _ _
      by_cases c2 : p / 2 ^ k % 2 = 1
      · have HC := Lib.hid c2
        generalize hyp : p / 2 ^ k = y at *
        have HD0 := Lib.hid hyp
        clear hyp
        have c2' : ((y : Int) % 2 == 1) = true := by simp; omega
        clear c2
        by_cases c3 : (a + k) / 8 < n
        · have c3' : decide ((n : Int) ≤ ((a : Int) + (k : Int)) / 8) = false := by simp; omega
          obtain ⟨g, rfl, hg, hgl⟩ := own_block hown (by omega)
          have HF := Lib.hid (flip_step out zs a p k _ (by rw [HO.out]; exact c3) hbo rfl (by rw [HD0.out]; exact HC.out) HN.out)
          obtain ⟨t, ht⟩ : ∃ t, a + k = t := ⟨_, rfl⟩
          obtain ⟨d, hd⟩ : ∃ d, t / 8 = d := ⟨_, rfl⟩
          obtain ⟨j, hj⟩ : ∃ j, t % 8 = j := ⟨_, rfl⟩
          have e1 : IntKind.i64.wrap ((a : Int) + (k : Int)) = (t : Int) := by rw [IntWalk.i64_in _ (by omega)]; omega
          have e2 : (t : Int).tdiv 8 = (d : Int) := by rw [Int.tdiv_eq_ediv_of_nonneg (by omega)]; omega
          have e3 : IntKind.i64.wrap (d : Int) = (d : Int) := IntWalk.i64_in _ (by omega)
          have e4 : (t : Int).tmod 8 = (j : Int) := by rw [Int.tmod_eq_emod_of_nonneg (by omega)]; omega
          have e5 : IntKind.i64.wrap (j : Int) = (j : Int) := IntWalk.i64_in _ (by omega)
          have hdn : d < n := by omega
          have hj7 : j ≤ 7 := by omega
          rw [ht, hd, hj] at HF
          obtain ⟨x, hx⟩ : ∃ x, out.getD d 0 = x := ⟨_, rfl⟩
          have bo := bytes_get hbo d
          have f3 := hown.frozenAt d
          have f4 : wr.cell? ⟨g, d, none⟩ = some (.int .u8 x) := by
            rw [hown.cellAt _ (by omega), List.getElem?_map, ← hx, List.getD, List.getElem?_eq_getElem (by rw [HO.out]; exact hdn)]; rfl
          rw [hx] at HF bo
          have hp7 : 2 ^ j ≤ 2 ^ 7 := Nat.pow_le_pow_right (by decide) hj7
          rw [show (2 : Nat) ^ 7 = 128 from rfl] at hp7
          have BT := fun w => bit_any j w hj7
          generalize 2 ^ j = pj at *
          have ex : bits BinOp.xor IntKind.u8 x (pj : Int) = bx x (pj : Int) := bx_code _ _ bo (by omega)
          have bxb := bx_bd x (pj : Int) bo (by omega)
          have hst := hown.stored d (.int .u8 (bx x (pj : Int)))
          have HS : Hid ((wr.setCell ⟨g, d, none⟩ (.int .u8 (bx x (pj : Int)))).ownsRow w.heap.size 5 1 (.slice (some ⟨g, 0, none⟩) n c2) n ((out.set d (bx x (pj : Int))).map (Value.int .u8))) := Lib.hid (by rw [List.map_set]; exact hst.1)
          have HB := Lib.hid (hbel.setCell (p := ⟨g, d, none⟩) hg (.int .u8 (bx x (pj : Int))))
          have HY := Lib.hid (bytes_set hbo d _ bxb)
          have HL : Hid ((out.set d (bx x (pj : Int))).length = n) := Lib.hid (by rw [List.length_set, HO.out])
          have g1 : (0 : Int) ≤ (d : Int) := by omega
          have g2 : (d : Int) < (n : Int) := by omega
          clear hst hx bxb hp7 hown hd hj ht
          go_wp2_with fail
          go_region_with (first
            | (go_at_call 31; refine (BT _).mono ?_; rintro e w5 ⟨rfl, rfl⟩))
          all_goals
            go_wp2_with fail
            go_roundw
            case rel => exact ⟨k + 1, out.set d (bx x (pj : Int)), by omega, by go_num, by rw [← HD.out] <;> go_num, HL.out, HY.out, HS.out.drew, HB.out.drew, HF.out⟩
            case measure => simp [intOf]; omega
        · have c3' : decide ((n : Int) ≤ ((a : Int) + (k : Int)) / 8) = true := by simp; omega
          go_wp2_with fail
          go_ret2
          exact ⟨hbel, .inl rfl⟩
      · have HE : Hid (p % 2 ^ (k + 1) = p % 2 ^ k) := Lib.hid (pat_same p k c2)
        generalize p / 2 ^ k = y at *
        have c2' : ((y : Int) % 2 == 1) = false := by simp; omega
        clear c2
        go_wp2_with fail
        go_roundw
        case rel => exact ⟨k + 1, out, by omega, by go_num, by rw [← HD.out] <;> go_num, HO.out, hbo, hown, hbel, by rw [HE.out]; exact HN.out⟩
        case measure => simp [intOf]; omega
    · obtain rfl : k = 24 := by omega
      go_wp2_with fail
      go_ret2
      exact ⟨hbel, .inr ⟨A2, c2, out, by rw [HZ.out]; rfl, by rw [HZ.out]; exact own_cap hown, by rw [HO.out, HZ.out], hbo, Ints.own hown, by omega, by rw [HZ.out]; omega, HN.out⟩⟩
end Go.Proofs.YthpbnipjopjfeaaDoor.Crc
