/- The worst bad channel of a list, by the document: a contract over the program. -/
import Derived.Test.YtngkpnkjapdnaaaAsWorst
set_option linter.unusedVariables false
set_option linter.unusedSimpArgs false
namespace Go.Proofs.Ytngkpnkjapdnaaa.As
open Go.RowKit Mem Chm Base

theorem cells_below {w w' : World} {g i j : Nat} {x y : Value} (h : w.cell? ⟨g, i, none⟩ = some x ∧ w.cell? ⟨g, j, none⟩ = some y) (b : Below w.heap.size w w') : w'.cell? ⟨g, i, none⟩ = some x ∧ w'.cell? ⟨g, j, none⟩ = some y :=
  ⟨(b.cell (p := ⟨g, i, none⟩) (World.block_lt_of_cell? _ _ h.1)).trans h.1, (b.cell (p := ⟨g, j, none⟩) (World.block_lt_of_cell? _ _ h.2)).trans h.2⟩
/-- The place of the worst channel in a list, or -1. -/
def Idx (fs : List (Int × Int)) (cs : List Nat) (k : Nat) (v : Int) : Prop :=
  (v = -1 ∧ wst fs (cs.take k) = none) ∨ ∃ j d : Nat, j < k ∧ v = j ∧ cs[j]? = some d ∧ wst fs (cs.take k) = some d
set_option maxRecDepth 100000 in
set_option maxHeartbeats 4000000 in
theorem rworst_any (A A2 : Option Addr) (n c L c2 : Nat) (fs : List (Int × Int)) (cs : List Nat) (w : World) (hl : fs.length = n) (hL : cs.length = L) (hL37 : L ≤ 1000) (hr : PairsAt w w.heap.size A fs) (hi : Ints .i64 w w.heap.size A2 (zs cs)) (hn : n ≤ 8796093022208) :
    Calls Try.prog 34 #[.slice A n c, .slice A2 L c2] w fun e w' => (∃ v, e = .returned (.int .i64 v) ∧ Idx fs cs L v) ∧ Below w.heap.size w w' := by
  have HLen := Lib.hid hl
  have HC : Hid (∀ k, k < L → ∃ cc, cs[k]? = some cc ∧ (zs cs).getD k 0 = (cc : Int)) := Lib.hid fun k hk => by
    refine ⟨cs[k]'(by omega), List.getElem?_eq_getElem _, ?_⟩
    unfold zs
    rw [List.getD_eq_getElem?_getD, List.getElem?_map, List.getElem?_eq_getElem (by omega)]; rfl
  have HZ : Hid (∀ j d : Nat, cs[j]? = some d → (zs cs).getD j 0 = (d : Int) ∧ j < L) := Lib.hid fun j d hj => by
    refine ⟨?_, by rw [← hL]; exact (List.getElem?_eq_some_iff.1 hj).1⟩
    unfold zs
    rw [List.getD_eq_getElem?_getD, List.getElem?_map, hj]; rfl
  have hzl : (zs cs).length = L := by rw [zs_len, hL]
  generalize zs cs = Z at *
  clear hl hL
  go_enter Try.func34, Try.ntmps34
  go_wp2_with fail
  go_loopw [5, 6] (fun s5 s6 wr => ∃ (k : Nat) (v : Int), k ≤ L ∧ s6 = .int .i64 (k : Nat) ∧ s5 = .int .i64 v ∧ Idx fs cs k v ∧ Below w.heap.size w wr) (fun _ s6 _ => L - (intOf s6).toNat)
  case atStart => exact ⟨0, -1, by omega, rfl, rfl, .inl ⟨rfl, rfl⟩, Below.refl _ _⟩
  case round =>
    obtain ⟨k, v, hk, rfl, rfl, hv, hB⟩ := hrel
    by_cases c1 : k < L
    · obtain ⟨cc, hcc, hz⟩ := HC.out k c1
      have HS : Hid (wst fs (cs.take (k + 1)) = upd fs (wst fs (cs.take k)) cc) := Lib.hid (by rw [take_snoc_at hcc, wst_snoc])
      have HCC := Lib.hid hcc
      clear hcc
      obtain ⟨g, o, rfl, hg, hcell⟩ := hi.at_ (i := k) (by omega)
      have hc := (hB.cell (p := ⟨g, o + k, none⟩) hg).trans (hcell k (by omega))
      rw [hz] at hc
      have g1 : (0 : Int) ≤ (k : Int) := by omega
      have g2 : (k : Int) < (L : Int) := by omega
      have P1 := hr.later hB
      have hrs := hB.size
      have HO : Hid (∀ (j : Nat) w, PairsAt w w.heap.size A fs → Calls Try.prog 26 #[.slice A n c, .int .i64 j] w fun e w' => e = .returned (.agg #[.int .i64 (tal fs j).1, .int .i64 (tal fs j).2]) ∧ Below w.heap.size w w') := Lib.hid fun j w h => talof_any A n c j fs w HLen.out h
      obtain ⟨f1, f2, ht⟩ : ∃ f1 f2, tal fs cc = (f1, f2) := ⟨_, _, rfl⟩
      have HO1 : Hid (∀ w, PairsAt w w.heap.size A fs → Calls Try.prog 26 #[.slice A n c, .int .i64 cc] w fun e w' => e = .returned (.agg #[.int .i64 f1, .int .i64 f2]) ∧ Below w.heap.size w w') := Lib.hid fun w h => by
        have := HO.out cc w h
        rwa [ht] at this
      by_cases hbd : badB (f1, f2) = true
      · have HB := Lib.hid (rbad_to hbd)
        rcases hv with ⟨rfl, hw⟩ | ⟨j, d, hj, rfl, hjd, hw⟩
        · have HU : Hid (upd fs none cc = some cc) := Lib.hid (upd_first (by rw [ht]; exact hbd))
          rw [hw] at HS
          clear hbd hw ht hcell HC HZ
          go_wp2_with (first
            | (go_at_call 26; refine (HO1.out _ P1).mono ?_; rintro e w2 ⟨rfl, b2⟩; have B2 := thenB hB b2)
            | (go_at_call 19; refine (HB.out _).mono ?_; rintro e w3 ⟨rfl, b3⟩; have B3 := thenB B2 b3))
          refine wp_region_held_drew (S := (fun _ => True)) (by kernel_rfl) ?_ (fun hHeld => ?_)
          · exact trivial
          refine wpAnyH_take (i := 0) (v := .int .i64 (-1)) rfl (by kernel_rfl) (by kernel_rfl) (by kernel_rfl) (fun _ _ _ h => h) (Or.inl ⟨by first | rfl | go_simp, by intro w9 hSw; (try dsimp only at hSw); go_simp⟩) (by assumption) ?_
          simp only [List.getElem_toArray, List.getElem_cons_zero, List.getElem_cons_succ, Act.put, List.setIfInBounds_toArray, List.set_cons_zero, List.set_cons_succ]
          refine wpAnyH_take (i := 1) (v := .bool true) rfl (by kernel_rfl) (by kernel_rfl) (by kernel_rfl) (fun _ _ _ h => h) (Or.inl ⟨by first | rfl | go_simp, by intro w9 hSw; (try dsimp only at hSw); go_simp⟩) (by assumption) ?_
          simp only [List.getElem_toArray, List.getElem_cons_zero, List.getElem_cons_succ, Act.put, List.setIfInBounds_toArray, List.set_cons_zero, List.set_cons_succ]
          refine wpAnyH_take (i := 2) (v := .bool true) rfl (by kernel_rfl) (by kernel_rfl) (by kernel_rfl) (fun _ _ _ h => h) (Or.inl ⟨by first | rfl | go_simp, by intro w9 hSw; (try dsimp only at hSw); go_simp⟩) (by assumption) ?_
          simp only [List.getElem_toArray, List.getElem_cons_zero, List.getElem_cons_succ, Act.put, List.setIfInBounds_toArray, List.set_cons_zero, List.set_cons_succ]
          refine wpAnyH_take (i := 3) (v := undef) rfl (by kernel_rfl) (by kernel_rfl) (by kernel_rfl) (fun _ _ _ h => h) (Or.inr ⟨by first | rfl | go_simp, rfl⟩) (by assumption) ?_
          simp only [List.getElem_toArray, List.getElem_cons_zero, List.getElem_cons_succ, Act.put, List.setIfInBounds_toArray, List.set_cons_zero, List.set_cons_succ]
          refine wpAnyH_take (i := 4) (v := undef) rfl (by kernel_rfl) (by kernel_rfl) (by kernel_rfl) (fun _ _ _ h => h) (Or.inr ⟨by first | rfl | go_simp, rfl⟩) (by assumption) ?_
          simp only [List.getElem_toArray, List.getElem_cons_zero, List.getElem_cons_succ, Act.put, List.setIfInBounds_toArray, List.set_cons_zero, List.set_cons_succ]
          refine wpAnyH_take (i := 5) (v := undef) rfl (by kernel_rfl) (by kernel_rfl) (by kernel_rfl) (fun _ _ _ h => h) (Or.inr ⟨by first | rfl | go_simp, rfl⟩) (by assumption) ?_
          simp only [List.getElem_toArray, List.getElem_cons_zero, List.getElem_cons_succ, Act.put, List.setIfInBounds_toArray, List.set_cons_zero, List.set_cons_succ]
          refine wpAnyH_take (i := 6) (v := undef) rfl (by kernel_rfl) (by kernel_rfl) (by kernel_rfl) (fun _ _ _ h => h) (Or.inr ⟨by first | rfl | go_simp, rfl⟩) (by assumption) ?_
          simp only [List.getElem_toArray, List.getElem_cons_zero, List.getElem_cons_succ, Act.put, List.setIfInBounds_toArray, List.set_cons_zero, List.set_cons_succ]
          refine wpAnyH_take (i := 7) (v := undef) rfl (by kernel_rfl) (by kernel_rfl) (by kernel_rfl) (fun _ _ _ h => h) (Or.inr ⟨by first | rfl | go_simp, rfl⟩) (by assumption) ?_
          simp only [List.getElem_toArray, List.getElem_cons_zero, List.getElem_cons_succ, Act.put, List.setIfInBounds_toArray, List.set_cons_zero, List.set_cons_succ]
          refine wpAnyH_take (i := 8) (v := undef) rfl (by kernel_rfl) (by kernel_rfl) (by kernel_rfl) (fun _ _ _ h => h) (Or.inr ⟨by first | rfl | go_simp, rfl⟩) (by assumption) ?_
          simp only [List.getElem_toArray, List.getElem_cons_zero, List.getElem_cons_succ, Act.put, List.setIfInBounds_toArray, List.set_cons_zero, List.set_cons_succ]
          refine wpAnyH_take (i := 9) (v := undef) rfl (by kernel_rfl) (by kernel_rfl) (by kernel_rfl) (fun _ _ _ h => h) (Or.inr ⟨by first | rfl | go_simp, rfl⟩) (by assumption) ?_
          simp only [List.getElem_toArray, List.getElem_cons_zero, List.getElem_cons_succ, Act.put, List.setIfInBounds_toArray, List.set_cons_zero, List.set_cons_succ]
          refine wpAnyH_take (i := 10) (v := undef) rfl (by kernel_rfl) (by kernel_rfl) (by kernel_rfl) (fun _ _ _ h => h) (Or.inr ⟨by first | rfl | go_simp, rfl⟩) (by assumption) ?_
          simp only [List.getElem_toArray, List.getElem_cons_zero, List.getElem_cons_succ, Act.put, List.setIfInBounds_toArray, List.set_cons_zero, List.set_cons_succ]
          refine wpAnyH_take (i := 11) (v := undef) rfl (by kernel_rfl) (by kernel_rfl) (by kernel_rfl) (fun _ _ _ h => h) (Or.inr ⟨by first | rfl | go_simp, rfl⟩) (by assumption) ?_
          simp only [List.getElem_toArray, List.getElem_cons_zero, List.getElem_cons_succ, Act.put, List.setIfInBounds_toArray, List.set_cons_zero, List.set_cons_succ]
          refine wpAnyH_take (i := 12) (v := undef) rfl (by kernel_rfl) (by kernel_rfl) (by kernel_rfl) (fun _ _ _ h => h) (Or.inr ⟨by first | rfl | go_simp, rfl⟩) (by assumption) ?_
          simp only [List.getElem_toArray, List.getElem_cons_zero, List.getElem_cons_succ, Act.put, List.setIfInBounds_toArray, List.set_cons_zero, List.set_cons_succ]
          refine wpAnyH_take (i := 13) (v := undef) rfl (by kernel_rfl) (by kernel_rfl) (by kernel_rfl) (fun _ _ _ h => h) (Or.inr ⟨by first | rfl | go_simp, rfl⟩) (by assumption) ?_
          simp only [List.getElem_toArray, List.getElem_cons_zero, List.getElem_cons_succ, Act.put, List.setIfInBounds_toArray, List.set_cons_zero, List.set_cons_succ]
          refine wpAnyH_take (i := 14) (v := undef) rfl (by kernel_rfl) (by kernel_rfl) (by kernel_rfl) (fun _ _ _ h => h) (Or.inr ⟨by first | rfl | go_simp, rfl⟩) (by assumption) ?_
          simp only [List.getElem_toArray, List.getElem_cons_zero, List.getElem_cons_succ, Act.put, List.setIfInBounds_toArray, List.set_cons_zero, List.set_cons_succ]
          refine wpAnyH_take (i := 15) (v := undef) rfl (by kernel_rfl) (by kernel_rfl) (by kernel_rfl) (fun _ _ _ h => h) (Or.inr ⟨by first | rfl | go_simp, rfl⟩) (by assumption) ?_
          simp only [List.getElem_toArray, List.getElem_cons_zero, List.getElem_cons_succ, Act.put, List.setIfInBounds_toArray, List.set_cons_zero, List.set_cons_succ]
          refine wpAnyH_take (i := 16) (v := undef) rfl (by kernel_rfl) (by kernel_rfl) (by kernel_rfl) (fun _ _ _ h => h) (Or.inr ⟨by first | rfl | go_simp, rfl⟩) (by assumption) ?_
          simp only [List.getElem_toArray, List.getElem_cons_zero, List.getElem_cons_succ, Act.put, List.setIfInBounds_toArray, List.set_cons_zero, List.set_cons_succ]
          refine wpAnyH_take (i := 17) (v := undef) rfl (by kernel_rfl) (by kernel_rfl) (by kernel_rfl) (fun _ _ _ h => h) (Or.inr ⟨by first | rfl | go_simp, rfl⟩) (by assumption) ?_
          simp only [List.getElem_toArray, List.getElem_cons_zero, List.getElem_cons_succ, Act.put, List.setIfInBounds_toArray, List.set_cons_zero, List.set_cons_succ]
          refine wpAnyH_take (i := 18) (v := .bool true) rfl (by kernel_rfl) (by kernel_rfl) (by kernel_rfl) (fun _ _ _ h => h) (Or.inl ⟨by first | rfl | go_simp, by intro w9 hSw; (try dsimp only at hSw); go_simp⟩) (by assumption) ?_
          simp only [List.getElem_toArray, List.getElem_cons_zero, List.getElem_cons_succ, Act.put, List.setIfInBounds_toArray, List.set_cons_zero, List.set_cons_succ]
          refine wpAnyH_done (by kernel_rfl) ?_ _
          go_simp
          go_wp2_with fail
          go_roundw
          case rel => exact ⟨k + 1, k, by omega, by go_num, rfl, .inr ⟨k, cc, by omega, rfl, HCC.out, by rw [HS.out, HU.out]⟩, B3.drew⟩
          case measure => simp [intOf]; omega
        · obtain ⟨hzd, hjL⟩ := HZ.out j d hjd
          have hcd := (hB.cell (p := ⟨g, o + j, none⟩) hg).trans (hcell j (by omega))
          rw [hzd] at hcd
          obtain ⟨e1, e2, ht'⟩ : ∃ f1 f2, tal fs d = (f1, f2) := ⟨_, _, rfl⟩
          have HO2 : Hid (∀ w, PairsAt w w.heap.size A fs → Calls Try.prog 26 #[.slice A n c, .int .i64 d] w fun e w' => e = .returned (.agg #[.int .i64 e1, .int .i64 e2]) ∧ Below w.heap.size w w') := Lib.hid fun w h => by
            have := HO.out d w h
            rwa [ht'] at this
          have HR1 := Lib.hid (rrate_any f1 f2)
          have HR2 := Lib.hid (rrate_any e1 e2)
          have HUm : Hid (rateZ (e1, e2) < rateZ (f1, f2) → upd fs (some d) cc = some cc) := Lib.hid fun h => upd_more (by rw [ht]; exact hbd) (by rw [ht, ht']; exact h)
          have HUl : Hid (¬ rateZ (e1, e2) < rateZ (f1, f2) → upd fs (some d) cc = some d) := Lib.hid fun h => upd_less (by rw [ht, ht']; exact h)
          have HJD := Lib.hid hjd
          rw [hw] at HS
          have g6 : (0 : Int) ≤ (j : Int) := by omega
          have g7 : (j : Int) < (L : Int) := by omega
          have g8 : decide ((j : Int) < 0) = false := by simp
          have K1 : wr.cell? ⟨g, o + k, none⟩ = some (.int .i64 cc) ∧ wr.cell? ⟨g, o + j, none⟩ = some (.int .i64 d) := ⟨hc, hcd⟩
          clear hbd hw ht ht' hcell HC HZ HO hjd hzd hz
          generalize rateZ (f1, f2) = R1 at *
          generalize rateZ (e1, e2) = R2 at *
          go_wp2_with (first
            | (go_at_call 26; refine (HO1.out _ P1).mono ?_; rintro e w2 ⟨rfl, b2⟩; have B2 := thenB hB b2; have P2 := P1.later b2; have K2 := cells_below K1 b2)
            | (go_at_call 19; refine (HB.out _).mono ?_; rintro e w3 ⟨rfl, b3⟩; have B3 := (thenB B2 b3).drew; have P3 := (P2.later b3).drew; have K3a := cells_below K2 b3; have K3 : w3.drew.cell? ⟨g, o + k, none⟩ = some (.int .i64 cc) ∧ w3.drew.cell? ⟨g, o + j, none⟩ = some (.int .i64 d) := ⟨K3a.1, K3a.2⟩; clear K1 K2 K3a hc hcd))
          by_cases hR : R2 < R1
          · have HU := Lib.hid (HUm.out hR)
            have hRd : decide (R2 < R1) = true := decide_eq_true hR
            clear HUm HUl hR
            go_region_held3 (fun w' => w'.cell? ⟨g, o + k, none⟩ = some (.int .i64 cc) ∧ w'.cell? ⟨g, o + j, none⟩ = some (.int .i64 d)) (first | exact K7 | exact K6 | exact K5 | exact K4 | exact K3) (first
              | (go_at_call_of 26 cc; refine (HO1.out _ P3).mono ?_; rintro e w4 ⟨rfl, b4⟩; have B4 := thenB B3 b4; have P4 := P3.later b4; have K4 := cells_below K3 b4)
              | (go_at_call_of 17 f1; refine (HR1.out _).mono ?_; rintro e w5 ⟨rfl, b5⟩; have B5 := thenB B4 b5; have P5 := P4.later b5; have K5 := cells_below K4 b5)
              | (go_at_call_of 26 d; refine (HO2.out _ P5).mono ?_; rintro e w6 ⟨rfl, b6⟩; have B6 := thenB B5 b6; have P6 := P5.later b6; have K6 := cells_below K5 b6)
              | (go_at_call_of 17 e1; refine (HR2.out _).mono ?_; rintro e w7 ⟨rfl, b7⟩; have B7 := thenB B6 b7; have K7 := cells_below K6 b7))
            go_wp2_with fail
            go_roundw
            case rel => exact ⟨k + 1, k, by omega, by go_num, rfl, .inr ⟨k, cc, by omega, rfl, HCC.out, by rw [HS.out, HU.out]⟩, B7⟩
            case measure => simp [intOf]; omega
          · have HU := Lib.hid (HUl.out (by omega))
            have hRd : decide (R2 < R1) = false := decide_eq_false hR
            clear HUm HUl hR
            go_region_held3 (fun w' => w'.cell? ⟨g, o + k, none⟩ = some (.int .i64 cc) ∧ w'.cell? ⟨g, o + j, none⟩ = some (.int .i64 d)) (first | exact K7 | exact K6 | exact K5 | exact K4 | exact K3) (first
              | (go_at_call_of 26 cc; refine (HO1.out _ P3).mono ?_; rintro e w4 ⟨rfl, b4⟩; have B4 := thenB B3 b4; have P4 := P3.later b4; have K4 := cells_below K3 b4)
              | (go_at_call_of 17 f1; refine (HR1.out _).mono ?_; rintro e w5 ⟨rfl, b5⟩; have B5 := thenB B4 b5; have P5 := P4.later b5; have K5 := cells_below K4 b5)
              | (go_at_call_of 26 d; refine (HO2.out _ P5).mono ?_; rintro e w6 ⟨rfl, b6⟩; have B6 := thenB B5 b6; have P6 := P5.later b6; have K6 := cells_below K5 b6)
              | (go_at_call_of 17 e1; refine (HR2.out _).mono ?_; rintro e w7 ⟨rfl, b7⟩; have B7 := thenB B6 b7; have K7 := cells_below K6 b7))
            go_wp2_with fail
            go_roundw
            case rel => exact ⟨k + 1, j, by omega, by go_num, rfl, .inr ⟨j, d, by omega, rfl, HJD.out, by rw [HS.out, HU.out]⟩, B7⟩
            case measure => simp [intOf]; omega
      · have HB := Lib.hid (rbad_to (by simpa using hbd : badB (f1, f2) = false))
        have HU : Hid (∀ b, upd fs b cc = b) := Lib.hid fun b => upd_out (by rw [ht]; simpa using hbd)
        have HV : Hid (Idx fs cs (k + 1) v) := Lib.hid (by
          unfold Idx
          rw [HS.out, HU.out]
          rcases hv with ⟨h1, h2⟩ | ⟨j, d, h1, h2, h3, h4⟩
          · exact .inl ⟨h1, h2⟩
          · exact .inr ⟨j, d, by omega, h2, h3, h4⟩)
        clear hbd hv
        go_wp2_with (first
          | (go_at_call 26; refine (HO1.out _ P1).mono ?_; rintro e w2 ⟨rfl, b2⟩; have B2 := thenB hB b2)
          | (go_at_call 19; refine (HB.out _).mono ?_; rintro e w3 ⟨rfl, b3⟩; have B3 := thenB B2 b3))
        go_roundw
        case rel => exact ⟨k + 1, v, by omega, by go_num, rfl, HV.out, B3⟩
        case measure => simp [intOf]; omega
    · obtain rfl : k = L := by omega
      go_wp2_with fail
      go_ret
      exact ⟨⟨v, rfl, hv⟩, hB⟩
end Go.Proofs.Ytngkpnkjapdnaaa.As
