/- Reading a text: the program's: contracts over the program. -/
import Derived.Test.YtkbjfmfkpdlogaaDoorAdrParse
import Derived.Test.YtkbjfmfkpdlogaaDoorAdrMake
import Derived.Deep.RegionWith
set_option linter.unusedVariables false
set_option linter.unusedSimpArgs false
namespace Go.Proofs.YtkbjfmfkpdlogaaDoor.Adr
open Go.RowKit Mem Oct Base

theorem join_digits (h l : Int) (hh : 0 ≤ h ∧ h ≤ 15) (hl : 0 ≤ l ∧ l ≤ 15) : bits BinOp.or IntKind.i64 (h * 16) l = 16 * h + l := by
  obtain ⟨m, rfl⟩ := Int.eq_ofNat_of_zero_le hh.1
  obtain ⟨n, rfl⟩ := Int.eq_ofNat_of_zero_le hl.1
  have key : ∀ (m n : Fin 16), bits BinOp.or IntKind.i64 ((m.val : Int) * 16) (n.val : Int) = 16 * (m.val : Int) + (n.val : Int) := by decide +kernel
  exact key ⟨m, by omega⟩ ⟨n, by omega⟩
theorem wrapI (x : Int) (h : -9223372036854775808 ≤ x ∧ x ≤ 9223372036854775807) : IntKind.i64.wrap x = x := by
  simp only [IntKind.wrap, IntKind.bits, IntKind.signed]; simp; split <;> omega
/-- What a call that reads a text hands back. -/
def Reads (w w' : World) (e : Ending) (r : (Int × Int) × Int) : Prop :=
  e = .returned (.tuple #[.agg #[.int .i64 r.1.1, .int .u64 r.1.2], .int .i64 r.2]) ∧ Below w.heap.size w w'
theorem reads_of {w w' : World} {e : Ending} {k b c : Int} {r : (Int × Int) × Int} (hr : r = ((k, b), c)) (he : e = .returned (.tuple #[.agg #[.int .i64 k, .int .u64 b], .int .i64 c])) (hb : Below w.heap.size w w') : Reads w w' e r := by
  subst hr; exact ⟨he, hb⟩
theorem parse_size (s : ByteArray) (w : World) (hs : s.size ≤ 140737488351232) (h : ¬ s.size = 19) :
    Calls Tryd.prog 19 #[.string s] w fun e w' => Reads w w' e (parseR (chL s)) := by
  have HR : Hid (parseR (chL s) = ((0, 0), 2)) := Lib.hid (parseR_bad (by rw [chL_len]; omega))
  rw [HR.out]
  have h1 : ((s.size : Int) != 19) = true := by simp; omega
  go_enter Tryd.func19, Tryd.ntmps19
  go_wp2_with fail
  refine bodyPost_ret (v := .tuple #[.agg #[.int .i64 0, .int .u64 0], .int .i64 2]) ?_ rfl ⟨rfl, (Below.refl _ _).alloc (Nat.le_refl _) _⟩
  simp [results, Tryd.f19, go_sem]
set_option maxHeartbeats 20000000 in
theorem parse_form (s : ByteArray) (w : World) (h : s.size = 19) (hT : Tab w) :
    Calls Tryd.prog 19 #[.string s] w fun e w' => Reads w w' e (parseR (chL s)) := by
  have hB : Below w.heap.size w (w.alloc (.cells #[.int .i64 0, .int .u64 0] 26)) := (Below.refl _ _).alloc (Nat.le_refl _) _
  have F := Blk.fresh w 26 #[.int .i64 0, .int .u64 0]
  have T1 := hT.below hB
  have HL : Hid ((chL s).length = 19) := Lib.hid (by rw [chL_len, h])
  have h1 : ((s.size : Int) != 19) = false := by simp; omega
  have hsz : (s.size : Int) = 19 := by omega
  go_enter Tryd.func19, Tryd.ntmps19
  go_wp2_with fail
  generalize w.alloc (.cells #[.int .i64 0, .int .u64 0] 26) = W at *
  go_loopw [4, 13] (fun v i wr => ∃ j : Nat, j ≤ 6 ∧ i = .int .i64 j ∧ v = .int .u64 (valN (chL s) j) ∧ okN (chL s) j = true ∧ Below W.heap.size W wr) (fun _ i _ => 6 - (intOf i).toNat)
  case atStart => exact ⟨0, by omega, rfl, rfl, rfl, Below.refl _ _⟩
  case round =>
    obtain ⟨j, hj, rfl, rfl, hok, hbel⟩ := hrel
    have hvb := valN_bd hok
    have HK := Lib.hid hok
    clear hok
    obtain ⟨V, hV⟩ : ∃ V, valN (chL s) j = V := ⟨_, rfl⟩
    rw [hV] at hvb ⊢
    have HV := Lib.hid hV
    clear hV
    by_cases hlt6 : j < 6
    · obtain ⟨p, hp⟩ : ∃ p, 3 * j = p := ⟨_, rfl⟩
      have hpb : p + 2 < s.size := by omega
      have w0 : IntKind.i64.wrap (3 * (j : Int)) = (p : Int) := by rw [show (3 * (j : Int)) = (p : Int) by omega]; exact wrapI _ (by omega)
      have HP := Lib.hid hp
      clear hp
      have e1 := chL_get s p (by omega)
      have e2 := chL_get s (p + 1) (by omega)
      have e3 := chL_get s (p + 2) (by omega)
      have b1 := bytes_get (chL_bytes s) p
      have b2 := bytes_get (chL_bytes s) (p + 1)
      have b3 := bytes_get (chL_bytes s) (p + 2)
      obtain ⟨x, hx⟩ : ∃ x, (chL s).getD p 0 = x := ⟨_, rfl⟩
      obtain ⟨y, hy⟩ : ∃ y, (chL s).getD (p + 1) 0 = y := ⟨_, rfl⟩
      obtain ⟨z, hz⟩ : ∃ z, (chL s).getD (p + 2) 0 = z := ⟨_, rfl⟩
      have hI : okI (chL s) j = (decide (0 ≤ dgU x) && decide (0 ≤ dgU y) && decide (z = endZ j)) := by unfold okI; rw [HP.out, hx, hy, hz]
      have hN : valN (chL s) (j + 1) = V * 256 + (16 * dgU x + dgU y) := by unfold valN; rw [HP.out, hx, hy, HV.out]
      have hO : okN (chL s) (j + 1) = okI (chL s) j := by unfold okN; rw [HK.out]; rfl
      rw [hx] at e1 b1
      rw [hy] at e2 b2
      rw [hz] at e3 b3
      have HI := Lib.hid hI
      have HN := Lib.hid hN
      have HO := Lib.hid hO
      have w1 : IntKind.i64.wrap ((p : Int) + 1) = ((p + 1 : Nat) : Int) := by rw [wrapI _ (by omega)]; omega
      have w2 : IntKind.i64.wrap ((p : Int) + 2) = (p : Int) + 2 := wrapI _ (by omega)
      have g1 : (p : Int) < s.size := by omega
      have g2 : (p : Int) + 1 < s.size := by omega
      have g2' : ((p + 1 : Nat) : Int) < s.size := by omega
      have g3 : (p : Int) + 2 < s.size := by omega
      have g3' : (0 : Int) ≤ (p : Int) + 2 := by omega
      have g4 : (0 : Int) ≤ (p : Int) := by omega
      have t2 : ((p : Int) + 2).toNat = p + 2 := by omega
      have g5 := end_at_nat j hlt6
      have g6 : 0 ≤ (j : Int) ∧ (j : Int) < 6 := by omega
      have HX : Hid (∀ w, Calls Tryd.prog 44 #[.int .u8 x] w fun e w' => e = .returned (.int .i64 (dgU x)) ∧ w = w') := Lib.hid fun w => digit_any x w b1
      have HY : Hid (∀ w, Calls Tryd.prog 44 #[.int .u8 y] w fun e w' => e = .returned (.int .i64 (dgU y)) ∧ w = w') := Lib.hid fun w => digit_any y w b2
      have dx := dgU_bd x
      have dy := dgU_bd y
      clear hx hy hz hI hN hO
      generalize dgU x = dx_ at *
      generalize dgU y = dy_ at *
      go_wp2_with fail
      go_region_held3 (fun w' => True) (trivial) (first
        | (go_at_call_of 44 y; refine (HY.out _).mono ?_; rintro e w' ⟨rfl, rfl⟩)
        | (go_at_call_of 44 x; refine (HX.out _).mono ?_; rintro e w' ⟨rfl, rfl⟩))
      all_goals go_wp2_with fail
      all_goals
        have F1 : Mem.Blk wr.drew.drew w.heap.size 26 #[.int .i64 0, .int .u64 0] := F.below hbel.drew.drew F.lt
        have hB5 : Below w.heap.size w wr.drew.drew := (thenB hB hbel).drew.drew
        have hbel5 : Below W.heap.size W wr.drew.drew := hbel.drew.drew
        have hg := F1.lt
        obtain ⟨x0, x1, f0, f1, r0, r1, hB2⟩ := wrote (x := .int .i64 0) (y := .int .u64 0) hB5 (Nat.le_refl _) F1
        by_cases k1 : dx_ < 0
        · have D1 : decide (dx_ < 0) = true := decide_eq_true k1
          have HR : Hid (parseR (chL s) = ((0, 0), 2)) := Lib.hid (parseR_bad (fun hh => by have := okN_at hh.2.1 hlt6; rw [HI.out] at this; simp at this; omega))
          clear k1
          go_region
          all_goals generalize wr.drew.drew = w5 at *
          all_goals go_wp2_with fail
          all_goals refine bodyPost_ret (v := .tuple #[.agg #[.int .i64 0, .int .u64 0], .int .i64 2]) ?_ rfl (reads_of HR.out rfl hB2)
          all_goals simp [results, Tryd.f19, go_sem, r0, r1]
        · have D1 : decide (dx_ < 0) = false := decide_eq_false k1
          by_cases k2 : dy_ < 0
          · have D2 : decide (dy_ < 0) = true := decide_eq_true k2
            have HR : Hid (parseR (chL s) = ((0, 0), 2)) := Lib.hid (parseR_bad (fun hh => by have := okN_at hh.2.1 hlt6; rw [HI.out] at this; simp at this; omega))
            clear k1 k2
            go_region
            all_goals generalize wr.drew.drew = w5 at *
            all_goals go_wp2_with fail
            all_goals refine bodyPost_ret (v := .tuple #[.agg #[.int .i64 0, .int .u64 0], .int .i64 2]) ?_ rfl (reads_of HR.out rfl hB2)
            all_goals simp [results, Tryd.f19, go_sem, r0, r1]
          · have D2 : decide (dy_ < 0) = false := decide_eq_false k2
            by_cases k3 : z = endZ j
            · have D3 : (z != endZ j) = false := by simpa using k3
              have HOK : Hid (okN (chL s) (j + 1) = true) := Lib.hid (by
                rw [HO.out, HI.out, decide_eq_true (show 0 ≤ dx_ by omega), decide_eq_true (show 0 ≤ dy_ by omega), decide_eq_true k3]; rfl)
              have dx' : 0 ≤ dx_ ∧ dx_ ≤ 15 := by omega
              have dy' : 0 ≤ dy_ ∧ dy_ ≤ 15 := by omega
              have q1 := join_digits dx_ dy_ dx' dy'
              have hp6 : (256 : Int) ^ j ≤ 1099511627776 := by
                have hj6 : j = 0 ∨ j = 1 ∨ j = 2 ∨ j = 3 ∨ j = 4 ∨ j = 5 := by omega
                rcases hj6 with rfl | rfl | rfl | rfl | rfl | rfl <;> decide
              have hv2 : 0 ≤ V ∧ V < 1099511627776 := by omega
              have q2 := or_add 8 (V * 256) (16 * dx_ + dy_) (by omega) (by omega) (by omega) (by omega) (by omega)
              clear k1 k2 k3 hvb hp6
              go_region
              all_goals generalize wr.drew.drew = w5 at *
              all_goals go_wp2_with fail
              go_roundw
              case rel => exact ⟨j + 1, by omega, by go_num, by rw [HN.out], HOK.out, hbel5⟩
              case measure => simp [intOf]; omega
            · have D3 : (z != endZ j) = true := by simpa using k3
              have HR : Hid (parseR (chL s) = ((0, 0), 2)) := Lib.hid (parseR_bad (fun hh => by have := okN_at hh.2.1 hlt6; rw [HI.out] at this; simp at this; omega))
              clear k1 k2 k3
              go_region
              all_goals generalize wr.drew.drew = w5 at *
              all_goals go_wp2_with fail
              all_goals refine bodyPost_ret (v := .tuple #[.agg #[.int .i64 0, .int .u64 0], .int .i64 2]) ?_ rfl (reads_of HR.out rfl hB2)
              all_goals simp [results, Tryd.f19, go_sem, r0, r1]
    · have hj6 : j = 6 := by omega
      subst hj6
      have F1 : Mem.Blk wr w.heap.size 26 #[.int .i64 0, .int .u64 0] := F.below hbel F.lt
      have hB5 : Below w.heap.size w wr := thenB hB hbel
      have T5 := T1.below hbel
      have hg := F1.lt
      have e1 := chL_get s 18 (by omega)
      have b1 := bytes_get (chL_bytes s) 18
      obtain ⟨x, hx⟩ : ∃ x, (chL s).getD 18 0 = x := ⟨_, rfl⟩
      rw [hx] at e1 b1
      have hv6 := val6_bd HK.out
      rw [HV.out] at hv6
      have kb := kindZ_bd x
      have HKO : Hid (∀ w, Tab w → Calls Tryd.prog 45 #[.int .u8 x] w fun e w' => e = .returned (.int .i64 (kindZ x)) ∧ w = w') := Lib.hid fun w hT => kindOf_any x w b1 hT
      by_cases h0 : kindZ x = 0
      · have HR : Hid (parseR (chL s) = ((0, 0), 2)) := Lib.hid (parseR_bad (fun hh => hh.2.2 (by rw [hx]; exact h0)))
        obtain ⟨x0, x1, f0, f1, r0, r1, hB2⟩ := wrote (x := .int .i64 0) (y := .int .u64 0) hB5 (Nat.le_refl _) F1
        rw [h0] at HKO
        clear hx h0 hvb
        go_wp2_with (go_at_call 45; refine (HKO.out _ T5).mono ?_; rintro e w' ⟨rfl, rfl⟩)
        refine bodyPost_ret (v := .tuple #[.agg #[.int .i64 0, .int .u64 0], .int .i64 2]) ?_ rfl (reads_of HR.out rfl hB2)
        simp [results, Tryd.f19, go_sem, r0, r1]
      · have hR := parseR_form (xs := chL s) ⟨HL.out, HK.out, by rw [hx]; exact h0⟩
        rw [hx, HV.out] at hR
        have hck : Hid (∀ w, Tab w → Calls Tryd.prog 36 #[.int .i64 (kindZ x), .int .u64 V] w fun e w' => e = .returned (.tuple #[.agg #[.int .i64 (if chk (kindZ x) V = 0 then kindZ x else 0), .int .u64 (if chk (kindZ x) V = 0 then V else 0)], .int .i64 (chk (kindZ x) V)]) ∧ Below w.heap.size w w') := Lib.hid fun w hT => checked_any (kindZ x) V w (by omega) (by omega) hT
        generalize kindZ x = kz at *
        generalize (if chk kz V = 0 then kz else 0) = K' at *
        generalize (if chk kz V = 0 then V else 0) = V' at *
        generalize chk kz V = C' at *
        have HR := Lib.hid hR
        have hz0 : (kz == 0) = false := by simpa using h0
        clear hx h0 hvb hR
        go_wp2_with (first
          | (go_at_call 45; refine (HKO.out _ T5).mono ?_; rintro e w' ⟨rfl, rfl⟩)
          | (go_at_call 36; refine (hck.out _ T5).mono ?_; rintro e w6 ⟨rfl, hb6⟩; have F6 := F1.below hb6 F1.lt; have hg6 := F6.lt; obtain ⟨x0, x1, f0, f1, r0, r1, hB2⟩ := wrote (x := .int .i64 K') (y := .int .u64 V') (thenB hB5 hb6) (Nat.le_refl _) F6))
        refine bodyPost_ret (v := .tuple #[.agg #[.int .i64 K', .int .u64 V'], .int .i64 C']) ?_ rfl (reads_of HR.out rfl hB2)
        simp [results, Tryd.f19, go_sem, r0, r1]
end Go.Proofs.YtkbjfmfkpdlogaaDoor.Adr
