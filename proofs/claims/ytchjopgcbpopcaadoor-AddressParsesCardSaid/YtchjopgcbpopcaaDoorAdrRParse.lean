/- Reading a text: the reference's: contracts over the program. -/
import Derived.Test.YtchjopgcbpopcaaDoorAdrFind
import Derived.Test.YtchjopgcbpopcaaDoorAdrRefAll
import Derived.Test.YtchjopgcbpopcaaDoorAdrParse2
import Derived.Deep.RegionWith
set_option linter.unusedVariables false
set_option linter.unusedSimpArgs false
namespace Go.Proofs.YtchjopgcbpopcaaDoor.Adr
open Go.RowKit Mem Oct Base

/-- Two cells that may be written. -/
structure Pair (w : World) (g : Nat) (x y : Value) : Prop where
  c0 : w.cell? ⟨g, 0, none⟩ = some x
  c1 : w.cell? ⟨g, 1, none⟩ = some y
  z0 : w.frozen? ⟨g, 0, none⟩ = false
  z1 : w.frozen? ⟨g, 1, none⟩ = false
  lt : g < w.heap.size
theorem Pair.blk {w : World} {g : Nat} {t : TypeId} {x y : Value} (h : Mem.Blk w g t #[x, y]) : Pair w g x y := ⟨h.cell 0, h.cell 1, frozen_of_row w g 0 _ t h, frozen_of_row w g 1 _ t h, h.lt⟩
theorem Pair.below {w w' : World} {g : Nat} {x y : Value} (h : Pair w g x y) (hb : Below w.heap.size w w') : Pair w' g x y :=
  ⟨(hb.cell (p := ⟨g, 0, none⟩) h.lt).trans h.c0, (hb.cell (p := ⟨g, 1, none⟩) h.lt).trans h.c1, (hb.frozen (p := ⟨g, 0, none⟩) h.lt).trans h.z0, (hb.frozen (p := ⟨g, 1, none⟩) h.lt).trans h.z1, Nat.lt_of_lt_of_le h.lt hb.size⟩
theorem Pair.put1 {w : World} {g : Nat} {x y : Value} (h : Pair w g x y) (v : Value) : Pair (w.setCell ⟨g, 1, none⟩ v) g x v := by
  have hB : Below g w (w.setCell ⟨g, 1, none⟩ v) := (Below.refl g w).setCell (p := ⟨g, 1, none⟩) (Nat.le_refl _) _
  exact ⟨(World.cell?_setCell_other _ _ _ _ (by simp)).trans h.c0, World.cell?_setCell_same' _ _ _ (by rw [h.c1]; rfl), by rw [World.frozen?_setCell]; exact h.z0, by rw [World.frozen?_setCell]; exact h.z1, Nat.lt_of_lt_of_le h.lt hB.size⟩
theorem Pair.far {w : World} {g l : Nat} {x y : Value} (h : Pair w g x y) (hne : g ≠ l) (i : Nat) (v : Value) : Pair (w.setCell ⟨l, i, none⟩ v) g x y := by
  have hB : Below l w (w.setCell ⟨l, i, none⟩ v) := (Below.refl l w).setCell (p := ⟨l, i, none⟩) (Nat.le_refl _) _
  exact ⟨(World.cell?_setCell_other _ _ _ _ (by simp [hne])).trans h.c0, (World.cell?_setCell_other _ _ _ _ (by simp [hne])).trans h.c1, by rw [World.frozen?_setCell]; exact h.z0, by rw [World.frozen?_setCell]; exact h.z1, Nat.lt_of_lt_of_le h.lt hB.size⟩
/-- Both cells written. -/
theorem Pair.both {w W : World} {B g : Nat} {x y : Value} (h : Pair W g x y) (hb : Below B w W) (hg : B ≤ g) (u v : Value) :
    ((W.setCell ⟨g, 0, none⟩ u).setCell ⟨g, 1, none⟩ v).cell? ⟨g, 0, none⟩ = some u ∧ ((W.setCell ⟨g, 0, none⟩ u).setCell ⟨g, 1, none⟩ v).cell? ⟨g, 1, none⟩ = some v ∧ Below B w ((W.setCell ⟨g, 0, none⟩ u).setCell ⟨g, 1, none⟩ v) := by
  have e0 : (W.setCell ⟨g, 0, none⟩ u).cell? ⟨g, 0, none⟩ = some u := World.cell?_setCell_same' _ _ _ (by rw [h.c0]; rfl)
  have e1 : (W.setCell ⟨g, 0, none⟩ u).cell? ⟨g, 1, none⟩ = some y := (World.cell?_setCell_other _ _ _ _ (by simp)).trans h.c1
  exact ⟨(World.cell?_setCell_other _ _ _ _ (by simp)).trans e0, World.cell?_setCell_same' _ _ _ (by rw [e1]; rfl), hb.trans ((((Below.refl B W).setCell (p := ⟨g, 0, none⟩) hg _).setCell (p := ⟨g, 1, none⟩) hg _))⟩
theorem rparse_size (s : ByteArray) (w : World) (hs : s.size ≤ 140737488351232) (h : ¬ s.size = 19) :
    Calls Tryd.prog 24 #[.string s] w fun e w' => Reads w w' e (parseR (chL s)) := by
  have HR : Hid (parseR (chL s) = ((0, 0), 2)) := Lib.hid (parseR_bad (by rw [chL_len]; omega))
  have h1 : ((s.size : Int) != 19) = true := by simp; omega
  go_enter Tryd.func24, Tryd.ntmps24
  go_wp2_with fail
  refine bodyPost_ret (v := .tuple #[.agg #[.int .i64 0, .int .u64 0], .int .i64 2]) ?_ rfl (reads_of HR.out rfl ((Below.refl _ _).alloc (Nat.le_refl _) _))
  simp [results, Tryd.f24, go_sem]
theorem rparse_slash (s : ByteArray) (w : World) (h : s.size = 19) (hne : ¬ (chL s).getD 17 0 = 47) :
    Calls Tryd.prog 24 #[.string s] w fun e w' => Reads w w' e (parseR (chL s)) := by
  have HR : Hid (parseR (chL s) = ((0, 0), 2)) := Lib.hid (parseR_bad (fun hh => by
    have := okN_at hh.2.1 (i := 5) (by omega)
    unfold okI at this
    simp only [Bool.and_eq_true, decide_eq_true_eq] at this
    exact hne this.2))
  have h1 : ((s.size : Int) != 19) = false := by simp; omega
  have hsz : (s.size : Int) = 19 := by omega
  have e1 := chL_get s 17 (by omega)
  obtain ⟨x, hx⟩ : ∃ x, (chL s).getD 17 0 = x := ⟨_, rfl⟩
  rw [hx] at e1 hne
  have hd : (x != 47) = true := by simpa using hne
  clear hx hne
  go_enter Tryd.func24, Tryd.ntmps24
  go_wp2_with fail
  refine bodyPost_ret (v := .tuple #[.agg #[.int .i64 0, .int .u64 0], .int .i64 2]) ?_ rfl (reads_of HR.out rfl ((Below.refl _ _).alloc (Nat.le_refl _) _))
  simp [results, Tryd.f24, go_sem]
set_option maxHeartbeats 8000000 in
theorem rparse_form (s : ByteArray) (w : World) (h : s.size = 19) (he : (chL s).getD 17 0 = 47) :
    Calls Tryd.prog 24 #[.string s] w fun e w' => Reads w w' e (parseR (chL s)) := by
  have HL : Hid ((chL s).length = 19) := Lib.hid (by rw [chL_len, h])
  have h1 : ((s.size : Int) != 19) = false := by simp; omega
  have hsz : (s.size : Int) = 19 := by omega
  have e17 := chL_get s 17 (by omega)
  rw [he] at e17
  have e18 := chL_get s 18 (by omega)
  have b18 := bytes_get (chL_bytes s) 18
  obtain ⟨x18, hx18⟩ : ∃ x, (chL s).getD 18 0 = x := ⟨_, rfl⟩
  rw [hx18] at e18 b18
  have kb := kindZ_bd x18
  obtain ⟨q, hq⟩ : ∃ q, kindZ x18 - 1 = q := ⟨_, rfl⟩
  have HK18 : Hid (kindZ ((chL s).getD 18 0) = 1 + q) := Lib.hid (by rw [hx18]; omega)
  have HF : Hid (∀ w, Calls Tryd.prog 40 #[.string { data := #[112, 115, 114, 97] }, .int .u8 x18] w fun e w' => e = .returned (.int .i64 q) ∧ w = w') := Lib.hid fun w => by rw [← hq]; exact findlet_any x18 w b18
  have bq : -1 ≤ q ∧ q ≤ 3 := by omega
  clear hx18 hq kb
  go_enter Tryd.func24, Tryd.ntmps24
  go_wp2_with (go_at_call 40; refine (HF.out _).mono ?_; rintro e w' ⟨rfl, rfl⟩)
  have P1 : Pair ((w.alloc (.cells #[.int .i64 0, .int .u64 0] 24)).alloc (.cells #[.int .i64 (1 + q), .int .u64 0] 24)) w.heap.size (.int .i64 0) (.int .u64 0) := Pair.blk ((Blk.fresh w 24 #[.int .i64 0, .int .u64 0]).alloc _)
  have P2 : Pair ((w.alloc (.cells #[.int .i64 0, .int .u64 0] 24)).alloc (.cells #[.int .i64 (1 + q), .int .u64 0] 24)) (w.heap.size + 1) (.int .i64 (1 + q)) (.int .u64 0) := by
    have := Pair.blk (Blk.fresh (w.alloc (.cells #[.int .i64 0, .int .u64 0] 24)) 24 #[.int .i64 (1 + q), .int .u64 0])
    rwa [World.size_alloc] at this
  have hB : Below w.heap.size w ((w.alloc (.cells #[.int .i64 0, .int .u64 0] 24)).alloc (.cells #[.int .i64 (1 + q), .int .u64 0] 24)) := ((Below.refl _ _).alloc (Nat.le_refl _) _).alloc (by simp) _
  generalize (w.alloc (.cells #[.int .i64 0, .int .u64 0] 24)).alloc (.cells #[.int .i64 (1 + q), .int .u64 0] 24) = W at *
  go_loopw [5] (fun i wr => ∃ j : Nat, j ≤ 6 ∧ i = .int .i64 j ∧ okN (chL s) j = true ∧ Pair wr w.heap.size (.int .i64 0) (.int .u64 0) ∧ Pair wr (w.heap.size + 1) (.int .i64 (1 + q)) (.int .u64 (valN (chL s) j)) ∧ Below w.heap.size w wr) (fun i _ => 6 - (intOf i).toNat)
  case atStart => exact ⟨0, by omega, rfl, rfl, P1, P2, hB⟩
  case round =>
    clear P1 P2 hB
    obtain ⟨j, hj, rfl, hok, P1, P2, hB⟩ := hrel
    have hvb := valN_bd hok
    have HK := Lib.hid hok
    clear hok
    obtain ⟨V, hV⟩ : ∃ V, valN (chL s) j = V := ⟨_, rfl⟩
    rw [hV] at hvb P2
    have HV := Lib.hid hV
    clear hV
    by_cases hlt6 : j < 6
    · obtain ⟨p, hp⟩ : ∃ p, 3 * j = p := ⟨_, rfl⟩
      have hpb : p + 2 < s.size := by omega
      have w0 : IntKind.i64.wrap (3 * (j : Int)) = (p : Int) := by rw [show (3 * (j : Int)) = (p : Int) by omega]; exact wrapI _ (by omega)
      have PJ : Hid ((3 * (j : Int)) = (p : Int)) := Lib.hid (by omega)
      have HP := Lib.hid hp
      clear hp
      have e1 := chL_get s p (by omega)
      have e2 := chL_get s (p + 1) (by omega)
      have e3 := chL_get s (p + 2) (by omega)
      have b1 := bytes_get (chL_bytes s) p
      have b2 := bytes_get (chL_bytes s) (p + 1)
      have b3 := bytes_get (chL_bytes s) (p + 2)
      obtain ⟨x, hx⟩ : ∃ x, (chL s).getD p 0 = x := ⟨_, rfl⟩
      obtain ⟨y, hy⟩ : ∃ y, (chL s).getD (p + 1) 0 = y := ⟨_, rfl⟩
      obtain ⟨z, hz⟩ : ∃ z, (chL s).getD (p + 2) 0 = z := ⟨_, rfl⟩
      have hz5 : j = 5 → z = 47 := fun e => by
        rw [← hz, show p + 2 = 17 by have := HP.out; omega]; exact he
      have hend : endZ j = if j < 5 then 58 else 47 := rfl
      have hI : okI (chL s) j = (decide (0 ≤ dgU x) && decide (0 ≤ dgU y) && decide (z = endZ j)) := by unfold okI; rw [HP.out, hx, hy, hz]
      have hN : valN (chL s) (j + 1) = V * 256 + (16 * dgU x + dgU y) := by unfold valN; rw [HP.out, hx, hy, HV.out]
      have hO : okN (chL s) (j + 1) = okI (chL s) j := by unfold okN; rw [HK.out]; rfl
      rw [hx] at e1 b1
      rw [hy] at e2 b2
      rw [hz] at e3 b3
      have HI := Lib.hid hI
      have HN := Lib.hid hN
      have HO := Lib.hid hO
      have w1 : IntKind.i64.wrap ((p : Int) + 1) = ((p + 1 : Nat) : Int) := by rw [wrapI _ (by omega)]; omega
      have w2 : IntKind.i64.wrap ((p : Int) + 2) = (p : Int) + 2 := wrapI _ (by omega)
      have g1 : (p : Int) < s.size := by omega
      have g2 : (p : Int) + 1 < s.size := by omega
      have g2' : ((p + 1 : Nat) : Int) < s.size := by omega
      have g3 : (p : Int) + 2 < s.size := by omega
      have g3' : (0 : Int) ≤ (p : Int) + 2 := by omega
      have g4 : (0 : Int) ≤ (p : Int) := by omega
      have t2 : ((p : Int) + 2).toNat = p + 2 := by omega
      have HX : Hid (∀ w, Calls Tryd.prog 40 #[.string { data := #[48, 49, 50, 51, 52, 53, 54, 55, 56, 57, 65, 66, 67, 68, 69, 70] }, .int .u8 x] w fun e w' => e = .returned (.int .i64 (dgU x)) ∧ w = w') := Lib.hid fun w => finddig_any x w b1
      have HY : Hid (∀ w, Calls Tryd.prog 40 #[.string { data := #[48, 49, 50, 51, 52, 53, 54, 55, 56, 57, 65, 66, 67, 68, 69, 70] }, .int .u8 y] w fun e w' => e = .returned (.int .i64 (dgU y)) ∧ w = w') := Lib.hid fun w => finddig_any y w b2
      have dx := dgU_bd x
      have dy := dgU_bd y
      clear hx hy hz hI hN hO
      generalize dgU x = dx_ at *
      generalize dgU y = dy_ at *
      go_wp2_with fail
      go_region_held3 (fun w' => True) (trivial) (first
        | (go_at_call_of 40 y; refine (HY.out _).mono ?_; rintro e w' ⟨rfl, rfl⟩)
        | (go_at_call_of 40 x; refine (HX.out _).mono ?_; rintro e w' ⟨rfl, rfl⟩))
      all_goals
        replace P1 : Pair wr.drew w.heap.size (.int .i64 0) (.int .u64 0) := ⟨P1.c0, P1.c1, P1.z0, P1.z1, P1.lt⟩
        replace P2 : Pair wr.drew (w.heap.size + 1) (.int .i64 (1 + q)) (.int .u64 V) := ⟨P2.c0, P2.c1, P2.z0, P2.z1, P2.lt⟩
        have hB5 : Below w.heap.size w wr.drew := hB.drew
        generalize wr.drew = w5 at *
        have pj := PJ.out
        by_cases k1 : dx_ < 0
        · have D1 : decide (dx_ < 0) = true := decide_eq_true k1
          have HR : Hid (parseR (chL s) = ((0, 0), 2)) := Lib.hid (parseR_bad (fun hh => by have := okN_at hh.2.1 hlt6; rw [HI.out] at this; simp at this; omega))
          clear hz5 hend hvb
          obtain ⟨r0, r1, hB2⟩ := P1.both hB5 (Nat.le_refl _) (.int .i64 0) (.int .u64 0)
          have x0 := P1.c0
          have x1 := P1.c1
          have f0 := P1.z0
          have f1 := P1.z1
          have hg := P1.lt
          go_wp2_with fail
          refine bodyPost_ret (v := .tuple #[.agg #[.int .i64 0, .int .u64 0], .int .i64 2]) ?_ rfl (reads_of HR.out rfl hB2)
          simp [results, Tryd.f24, go_sem, r0, r1]
        · have D1 : decide (dx_ < 0) = false := decide_eq_false k1
          by_cases k2 : dy_ < 0
          · have D2 : decide (dy_ < 0) = true := decide_eq_true k2
            have HR : Hid (parseR (chL s) = ((0, 0), 2)) := Lib.hid (parseR_bad (fun hh => by have := okN_at hh.2.1 hlt6; rw [HI.out] at this; simp at this; omega))
            clear hz5 hend hvb
            obtain ⟨r0, r1, hB2⟩ := P1.both hB5 (Nat.le_refl _) (.int .i64 0) (.int .u64 0)
            have x0 := P1.c0
            have x1 := P1.c1
            have f0 := P1.z0
            have f1 := P1.z1
            have hg := P1.lt
            go_wp2_with fail
            refine bodyPost_ret (v := .tuple #[.agg #[.int .i64 0, .int .u64 0], .int .i64 2]) ?_ rfl (reads_of HR.out rfl hB2)
            simp [results, Tryd.f24, go_sem, r0, r1]
          · have D2 : decide (dy_ < 0) = false := decide_eq_false k2
            by_cases k3 : z = endZ j
            · have HOK : Hid (okN (chL s) (j + 1) = true) := Lib.hid (by
                rw [HO.out, HI.out, decide_eq_true (show 0 ≤ dx_ by omega), decide_eq_true (show 0 ≤ dy_ by omega), decide_eq_true k3]; rfl)
              have dx' : 0 ≤ dx_ ∧ dx_ ≤ 15 := by omega
              have dy' : 0 ≤ dy_ ∧ dy_ ≤ 15 := by omega
              have hp6 : (256 : Int) ^ j ≤ 1099511627776 := by
                have hj6 : j = 0 ∨ j = 1 ∨ j = 2 ∨ j = 3 ∨ j = 4 ∨ j = 5 := by omega
                rcases hj6 with rfl | rfl | rfl | rfl | rfl | rfl <;> decide
              have hv2 : 0 ≤ V ∧ V < 1099511627776 := by omega
              by_cases k5 : j < 5
              · have D4 : decide ((j : Int) < 5) = true := decide_eq_true (by omega)
                rw [if_pos k5] at hend
                have D3 : (z != 58) = false := by simp; omega
                clear k3 hvb hp6 hend hz5
                have x0 := P1.c0
                have y0 := P2.c0
                have y1 := P2.c1
                have m0 := P2.z0
                have m1 := P2.z1
                have hg := P2.lt
                have Q1 := P1.far (Nat.ne_of_lt (Nat.lt_succ_self _)) 1 (.int .u64 (V * 256 + (16 * dx_ + dy_)))
                have Q2 := P2.put1 (.int .u64 (V * 256 + (16 * dx_ + dy_)))
                have hB2 : Below w.heap.size w (w5.setCell ⟨w.heap.size + 1, 1, none⟩ (.int .u64 (V * 256 + (16 * dx_ + dy_)))) := hB5.trans ((Below.refl w.heap.size w5).setCell (p := ⟨w.heap.size + 1, 1, none⟩) (Nat.le_succ _) _)
                go_wp2_with fail
                go_roundw
                case rel => exact ⟨j + 1, by omega, by go_num, HOK.out, Q1, by rw [HN.out]; exact Q2, hB2⟩
                case measure => simp [intOf]; omega
              · have D4 : decide ((j : Int) < 5) = false := decide_eq_false (by omega)
                clear k3 hvb hp6 hend hz5
                have x0 := P1.c0
                have y0 := P2.c0
                have y1 := P2.c1
                have m0 := P2.z0
                have m1 := P2.z1
                have hg := P2.lt
                have Q1 := P1.far (Nat.ne_of_lt (Nat.lt_succ_self _)) 1 (.int .u64 (V * 256 + (16 * dx_ + dy_)))
                have Q2 := P2.put1 (.int .u64 (V * 256 + (16 * dx_ + dy_)))
                have hB2 : Below w.heap.size w (w5.setCell ⟨w.heap.size + 1, 1, none⟩ (.int .u64 (V * 256 + (16 * dx_ + dy_)))) := hB5.trans ((Below.refl w.heap.size w5).setCell (p := ⟨w.heap.size + 1, 1, none⟩) (Nat.le_succ _) _)
                go_wp2_with fail
                go_roundw
                case rel => exact ⟨j + 1, by omega, by go_num, HOK.out, Q1, by rw [HN.out]; exact Q2, hB2⟩
                case measure => simp [intOf]; omega
            · have k5 : j < 5 := by
                rcases Nat.lt_or_ge j 5 with h5 | h5
                · exact h5
                · exfalso
                  have e5 : j = 5 := by omega
                  rw [if_neg (by omega)] at hend
                  exact k3 (by rw [hz5 e5, hend])
              have D4 : decide ((j : Int) < 5) = true := decide_eq_true (by omega)
              have D3 : (z != 58) = true := by
                rw [if_pos k5] at hend
                rw [hend] at k3
                simpa using k3
              have HR : Hid (parseR (chL s) = ((0, 0), 2)) := Lib.hid (parseR_bad (fun hh => by have := okN_at hh.2.1 hlt6; rw [HI.out] at this; simp at this; omega))
              clear hz5 hend hvb k3
              obtain ⟨r0, r1, hB2⟩ := P1.both hB5 (Nat.le_refl _) (.int .i64 0) (.int .u64 0)
              have x0 := P1.c0
              have x1 := P1.c1
              have f0 := P1.z0
              have f1 := P1.z1
              have hg := P1.lt
              go_wp2_with fail
              refine bodyPost_ret (v := .tuple #[.agg #[.int .i64 0, .int .u64 0], .int .i64 2]) ?_ rfl (reads_of HR.out rfl hB2)
              simp [results, Tryd.f24, go_sem, r0, r1]
    · have hj6 : j = 6 := by omega
      subst hj6
      have hv6 := val6_bd HK.out
      rw [HV.out] at hv6
      have bq' : (0 : Int) ≤ 1 + q ∧ 1 + q ≤ 4 := by omega
      have x0 := P1.c0
      have x1 := P1.c1
      have f0 := P1.z0
      have f1 := P1.z1
      have hg := P1.lt
      have y0 := P2.c0
      have y1 := P2.c1
      by_cases h0 : 1 + q = 0
      · have HR : Hid (parseR (chL s) = ((0, 0), 2)) := Lib.hid (parseR_bad (fun hh => hh.2.2 (by rw [HK18.out]; exact h0)))
        obtain ⟨r0, r1, hB2⟩ := P1.both hB (Nat.le_refl _) (.int .i64 0) (.int .u64 0)
        have hz0 : (1 + q == 0) = true := by simpa using h0
        clear h0 hvb
        generalize 1 + q = kz at *
        go_wp2_with fail
        refine bodyPost_ret (v := .tuple #[.agg #[.int .i64 0, .int .u64 0], .int .i64 2]) ?_ rfl (reads_of HR.out rfl hB2)
        simp [results, Tryd.f24, go_sem, r0, r1]
      · have hR := parseR_form (xs := chL s) ⟨HL.out, HK.out, by rw [HK18.out]; exact h0⟩
        rw [HK18.out, HV.out] at hR
        have hck : Hid (∀ w, Calls Tryd.prog 13 #[.agg #[.int .i64 (1 + q), .int .u64 V]] w fun e w' => e = .returned (.int .i64 (chk (1 + q) V)) ∧ Below w.heap.size w w') := Lib.hid fun w => rcheck_any (1 + q) V w (by omega) (by omega)
        have hz0 : (1 + q == 0) = false := by simpa using h0
        clear h0 hvb
        generalize 1 + q = kz at *
        have hcb := chk_bd kz V
        by_cases h1 : chk kz V = 0
        · rw [if_pos h1, if_pos h1, h1] at hR
          rw [h1] at hck
          have HR := Lib.hid hR
          clear hR h1 hcb
          go_wp2_with (go_at_call 13; refine (hck.out _).mono ?_; rintro e w6 ⟨rfl, hb6⟩; have P6 := P1.below hb6; have Q6 := P2.below hb6; have z0 := P6.c0; have z1 := P6.c1; have m0 := P6.z0; have m1 := P6.z1; have hg6 := P6.lt; have u0 := Q6.c0; have u1 := Q6.c1; obtain ⟨r0, r1, hB2⟩ := P6.both (thenB hB hb6) (Nat.le_refl _) (.int .i64 kz) (.int .u64 V))
          refine bodyPost_ret (v := .tuple #[.agg #[.int .i64 kz, .int .u64 V], .int .i64 0]) ?_ rfl (reads_of HR.out rfl hB2)
          simp [results, Tryd.f24, go_sem, r0, r1]
        · rw [if_neg h1, if_neg h1] at hR
          generalize chk kz V = C' at *
          have hc1 : (C' != 0) = true := by simpa using h1
          have HR := Lib.hid hR
          clear hR h1
          go_wp2_with (go_at_call 13; refine (hck.out _).mono ?_; rintro e w6 ⟨rfl, hb6⟩; have P6 := P1.below hb6; have z0 := P6.c0; have z1 := P6.c1; have m0 := P6.z0; have m1 := P6.z1; have hg6 := P6.lt; obtain ⟨r0, r1, hB2⟩ := P6.both (thenB hB hb6) (Nat.le_refl _) (.int .i64 0) (.int .u64 0))
          refine bodyPost_ret (v := .tuple #[.agg #[.int .i64 0, .int .u64 0], .int .i64 C']) ?_ rfl (reads_of HR.out rfl hB2)
          simp [results, Tryd.f24, go_sem, r0, r1]
theorem rparse_any (s : ByteArray) (w : World) (hs : s.size ≤ 140737488351232) :
    Calls Tryd.prog 24 #[.string s] w fun e w' => Reads w w' e (parseR (chL s)) := by
  by_cases h : s.size = 19
  · by_cases he : (chL s).getD 17 0 = 47
    · exact rparse_form s w h he
    · exact rparse_slash s w h he
  · exact rparse_size s w hs h
end Go.Proofs.YtchjopgcbpopcaaDoor.Adr
