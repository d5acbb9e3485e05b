/- The statements on accept lists, walked: what the strictest policy allows. -/
import Derived.Test.YtegmknmbgifmjaaDoorAccLaws2
import Derived.Deep.CutRange
set_option linter.unusedVariables false
set_option linter.unusedSimpArgs false
namespace Go.Proofs.YtegmknmbgifmjaaDoor.Ace
open Go.RowKit Mem Rw Base Arg
open Prv (findZ Idents triples_below)

theorem strict_req {r : Int} (h : r = 3 ∨ r = 5) (o : Bool) : allowZ 3 r o = o := by rcases h with rfl | rfl <;> cases o <;> rfl
theorem all_yes {r : Int} (h : r = 3 ∨ r = 5) (j : Nat) (hj : j < 4) : allowZ j r true = true := by
  have : j = 0 ∨ j = 1 ∨ j = 2 ∨ j = 3 := by omega
  rcases h with rfl | rfl <;> rcases this with rfl | rfl | rfl | rfl <;> rfl

set_option maxRecDepth 100000 in
set_option maxHeartbeats 8000000 in
theorem law_policies (A : Option Addr) (c : Nat) (l : List (Int × Int)) (A' : Option Addr) (n' c' : Nat) (fs : List (Int × Int × Int)) (p0 r a1 a2 : Int) (w : World) (hr : ListAt encA w w.heap.size A l) (hg : ∀ x ∈ l, Rd.GoodA x) (hnc : l.length ≤ c) (hcb : c * 16 ≤ 140737488351232)
    (hf : fs.length = n') (hnc' : n' ≤ c') (hr' : TriplesAt w A' fs) (hI : Idents fs) (hcb' : c' * 24 ≤ 140737488351232)
    (hk : -9223372036854775808 ≤ a1 ∧ a1 ≤ 9223372036854775807) (hb : 0 ≤ a2 ∧ a2 ≤ 18446744073709551615) (hT : Adr.Tab w) :
    Calls Tryd.prog 8 #[.slice A l.length c, .slice A' n' c', .agg #[.int .i64 p0, .int .i64 r, .int .i64 a1, .int .u64 a2]] w fun e w' => e = .returned (.bool true) ∧ Below w.heap.size w w' := by
  obtain ⟨n, hl⟩ : ∃ n, l.length = n := ⟨_, rfl⟩
  rw [hl] at hnc ⊢
  have hn : n ≤ 8796093022200 := by omega
  have hn' : n' ≤ 5864062014800 := by omega
  have A0 : Below w.heap.size w (w.alloc (.cells #[.int .i64 p0, .int .i64 r, .int .i64 a1, .int .u64 a2] 37)) := (Below.refl _ _).alloc (Nat.le_refl _) _
  have TT : Four _ _ _ _ _ _ := four_new w p0 r a1 a2 37
  have TX := hT.below A0
  have HLi := Lib.hid lives_any
  obtain ⟨H, hH⟩ : ∃ H, hasB l fs (a1, a2) = H := ⟨_, rfl⟩
  have HCp : Hid (∀ w', Below w.heap.size w w' → Calls Tryd.prog 11 #[.slice A n c] w' fun e w2 => Row w' w2 e l) := Lib.hid fun w' b => copied_any A n c l w' hl (by omega) (CellsAt.later hr b)
  have HId : Hid (∀ w', Below w.heap.size w w' → Calls Tryd.prog 17 #[.slice A' n' c'] w' fun e w2 => ∃ A2 c2, e = .returned (.slice A2 n' c2) ∧ n' ≤ c2 ∧ TriplesAt w2 A2 fs ∧ Below w'.heap.size w' w2) := Lib.hid fun w' b => idents_any A' n' c' fs w' hf hn' (triples_below hr' b)
  have HHa : Hid (∀ A1 c1 A2 c2 w', ListAt encA w' w'.heap.size A1 l → TriplesAt w' A2 fs → n' ≤ c2 → Adr.Tab w' → Calls Tryd.prog 16 #[.slice A1 n c1, .slice A2 n' c2, .agg #[.int .i64 a1, .int .u64 a2]] w' fun e w2 => e = .returned (.bool H) ∧ Below w'.heap.size w' w2) := Lib.hid fun A1 c1 A2 c2 w' h1 h2 h3 h4 => by
    rw [← hH]; exact has_any A1 A2 n c1 n' c2 l fs a1 a2 w' hl hn h1 hf h3 (by omega) h2 hI hk hb h4
  have HAl : Hid (∀ (p : Int) A1 c1 A2 c2 w', ListAt encA w' w'.heap.size A1 l → TriplesAt w' A2 fs → n' ≤ c2 → Adr.Tab w' → Calls Tryd.prog 19 #[.int .i64 p, .int .i64 r, .slice A1 n c1, .slice A2 n' c2, .agg #[.int .i64 a1, .int .u64 a2]] w' fun e w2 => e = .returned (.bool (allowZ p r H)) ∧ Below w'.heap.size w' w2) := Lib.hid fun p A1 c1 A2 c2 w' h1 h2 h3 h4 => by
    rw [← hH]; exact allows_any p r A1 A2 n c1 n' c2 l fs a1 a2 w' hl hn h1 hf h3 (by omega) h2 hI hk hb h4
  have HL := Lib.hid hl
  clear hl hH hr hg hr' hI hf hT
  by_cases h1 : 100 < n
  · have g1 : (100 : Int) < (n : Int) := by omega
    go_enter Tryd.func8, Tryd.ntmps8
    go_wp2_with fail
    generalize w.alloc (.cells #[.int .i64 p0, .int .i64 r, .int .i64 a1, .int .u64 a2] 37) = W0 at *
    refine (HLi.out W0 TX).mono ?_
    rintro e W1 ⟨rfl, b1⟩
    go_wp2_with fail
    go_ret
    exact ⟨rfl, thenB A0 b1⟩
  have g1 : ¬ (100 : Int) < (n : Int) := by omega
  by_cases h2 : 20 < n'
  · have g2 : (20 : Int) < (n' : Int) := by omega
    go_enter Tryd.func8, Tryd.ntmps8
    go_wp2_with fail
    generalize w.alloc (.cells #[.int .i64 p0, .int .i64 r, .int .i64 a1, .int .u64 a2] 37) = W0 at *
    refine (HLi.out W0 TX).mono ?_
    rintro e W1 ⟨rfl, b1⟩
    go_wp2_with fail
    go_ret
    exact ⟨rfl, thenB A0 b1⟩
  have g2 : ¬ (20 : Int) < (n' : Int) := by omega
  obtain ⟨V, hV⟩ : ∃ V, allowZ 3 r H = V := ⟨_, rfl⟩
  have HA3 := Lib.hid (HAl.out 3)
  rw [hV] at HA3
  have HV : Hid ((r = 3 ∨ r = 5 → V = H) ∧ (¬ r = 3 → ¬ r = 5 → V = false)) := Lib.hid ⟨fun h => by rw [← hV]; exact strict_req h H, fun h3 h5 => by rw [← hV]; exact allow_none H h3 h5⟩
  clear hV
  go_enter Tryd.func8, Tryd.ntmps8
  go_wp2_with fail
  generalize w.alloc (.cells #[.int .i64 p0, .int .i64 r, .int .i64 a1, .int .u64 a2] 37) = W0 at *
  refine (HLi.out W0 TX).mono ?_
  rintro e W1 ⟨rfl, b1⟩
  have BX0 : Below w.heap.size w W1.drew := (thenB A0 b1).drew
  have TT0 : Four W1.drew w.heap.size p0 r a1 a2 := four_below TT b1.drew
  have TX0 : Adr.Tab W1.drew := TX.below b1.drew
  clear A0 b1 TT TX
  go_wp2_with fail
  go_region_held3 (fun w' => Four w' w.heap.size p0 r a1 a2) (first | exact TT3 | exact TT2 | exact TT1 | exact TT0) (first
    | (go_at_call 16; refine (HHa.out _ _ _ _ _ L1 I1 hc2 TX2).mono ?_; rintro e X3 ⟨rfl, b3⟩; have TT3 := four_below TT2 b3; have BX3 := thenB BX2 b3; have TX3 := TX2.below b3; clear TT2 BX2 TX2 L1 I1 b3)
    | (go_at_call 17; refine (HId.out _ BX1).mono ?_; rintro e X2 ⟨A2, c2, rfl, hc2, I1, b2⟩; have TT2 := four_below TT1 b2; have BX2 := thenB BX1 b2; have TX2 := TX1.below b2; have L1 := CellsAt.later L1 b2; clear TT1 BX1 TX1 b2)
    | (go_at_call 11; refine (HCp.out _ BX0).mono ?_; intro e X1 h; obtain ⟨A1, c1, rfl, hc1, own1, b1⟩ := h.len HL.out; have L1 : ListAt encA X1 X1.heap.size A1 l := CellsAt.own own1; have TT1 := four_below TT0 b1; have BX1 := thenB BX0 b1; have TX1 := TX0.below b1; clear h own1 TT0 BX0 TX0 b1))
  all_goals
    have BX0 : Below w.heap.size w X3.drew := BX3.drew
    have TT0 : Four X3.drew w.heap.size p0 r a1 a2 := TT3
    have TX0 : Adr.Tab X3.drew := TX3
    clear BX3 TT3 TX3
    go_wp2_with fail
    go_region_held3 (fun w' => Four w' w.heap.size p0 r a1 a2) (first | exact TT3 | exact TT2 | exact TT1 | exact TT0) (first
      | (go_at_call 19; refine (HA3.out _ _ _ _ _ L1 I1 hc2 TX2).mono ?_; rintro e X3 ⟨rfl, b3⟩; have TT3 := four_below TT2 b3; have BX3 := thenB BX2 b3; have TX3 := TX2.below b3; clear TT2 BX2 TX2 L1 I1 b3)
      | (go_at_call 17; refine (HId.out _ BX1).mono ?_; rintro e X2 ⟨A2, c2, rfl, hc2, I1, b2⟩; have TT2 := four_below TT1 b2; have BX2 := thenB BX1 b2; have TX2 := TX1.below b2; have L1 := CellsAt.later L1 b2; clear TT1 BX1 TX1 b2)
      | (go_at_call 11; refine (HCp.out _ BX0).mono ?_; intro e X1 h; obtain ⟨A1, c1, rfl, hc1, own1, b1⟩ := h.len HL.out; have L1 : ListAt encA X1 X1.heap.size A1 l := CellsAt.own own1; have TT1 := four_below TT0 b1; have BX1 := thenB BX0 b1; have TX1 := TX0.below b1; clear h own1 TT0 BX0 TX0 b1))
    all_goals
      obtain ⟨d0, d1, d2, d3⟩ := id TT3
      by_cases hq : r = 3 ∨ r = 5
      · have HVH := Lib.hid (HV.out.1 hq)
        have HYes := Lib.hid (all_yes hq)
        rw [HVH.out] at *
        rcases hq with rfl | rfl
        · cases H with
          | true =>
            go_wp2_with fail
            go_loopw [10, 11] (fun s10 _ wr => ∃ j : Nat, j ≤ 4 ∧ s10 = .int .i64 j ∧ Four wr w.heap.size p0 3 a1 a2 ∧ Adr.Tab wr ∧ Below w.heap.size w wr) (fun s10 _ _ => 4 - (intOf s10).toNat)
            case atStart => exact ⟨0, by omega, rfl, TT3, TX3, BX3⟩
            case round =>
              obtain ⟨j, hj, rfl, TT4, TX4, BX4⟩ := hrel
              clear TT3 TX3 BX3
              by_cases cj : j < 4
              · have g5 : ((j : Int) ≤ 3) := by omega
                obtain ⟨V, hV⟩ : ∃ V, allowZ j 3 true = V := ⟨_, rfl⟩
                have HAj := Lib.hid (HAl.out j)
                rw [hV] at HAj
                have HW : Hid (V = true) := Lib.hid (by rw [← hV]; exact HYes.out j cj)
                clear hV
                have TT0 : Four wr.drew w.heap.size p0 3 a1 a2 := TT4
                have TX0 : Adr.Tab wr.drew := TX4
                have BX0 : Below w.heap.size w wr.drew := BX4.drew
                clear TT4 TX4 BX4
                go_wp2_with fail
                go_region_held3 (fun w' => Four w' w.heap.size p0 3 a1 a2) (first | exact TT3 | exact TT2 | exact TT1 | exact TT0) (first
                    | (go_at_call 19; refine (HAj.out _ _ _ _ _ L1 I1 hc2 TX2).mono ?_; rintro e X3 ⟨rfl, b3⟩; have TT3 := four_below TT2 b3; have BX3 := thenB BX2 b3; have TX3 := TX2.below b3; clear TT2 BX2 TX2 L1 I1 b3)
                    | (go_at_call 17; refine (HId.out _ BX1).mono ?_; rintro e X2 ⟨A2, c2, rfl, hc2, I1, b2⟩; have TT2 := four_below TT1 b2; have BX2 := thenB BX1 b2; have TX2 := TX1.below b2; have L1 := CellsAt.later L1 b2; clear TT1 BX1 TX1 b2)
                    | (go_at_call 11; refine (HCp.out _ BX0).mono ?_; intro e X1 h; obtain ⟨A1, c1, rfl, hc1, own1, b1⟩ := h.len HL.out; have L1 : ListAt encA X1 X1.heap.size A1 l := CellsAt.own own1; have TT1 := four_below TT0 b1; have BX1 := thenB BX0 b1; have TX1 := TX0.below b1; clear h own1 TT0 BX0 TX0 b1))
                all_goals
                  have TV := HW.out
                  subst TV
                  all_goals
                    go_wp2_with fail
                    go_roundw
                    case rel => exact ⟨j + 1, by omega, by go_num, TT3, TX3, BX3⟩
                    case measure => simp [intOf]; omega
              · obtain rfl : j = 4 := by omega
                go_wp2_with fail
                go_ret
                exact ⟨rfl, BX4⟩
          | false =>
            go_wp2_with fail
            go_loopw [10, 11] (fun s10 _ wr => ∃ j : Nat, j ≤ 4 ∧ s10 = .int .i64 j ∧ Four wr w.heap.size p0 3 a1 a2 ∧ Adr.Tab wr ∧ Below w.heap.size w wr) (fun s10 _ _ => 4 - (intOf s10).toNat)
            case atStart => exact ⟨0, by omega, rfl, TT3, TX3, BX3⟩
            case round =>
              obtain ⟨j, hj, rfl, TT4, TX4, BX4⟩ := hrel
              clear TT3 TX3 BX3
              by_cases cj : j < 4
              · have g5 : ((j : Int) ≤ 3) := by omega
                obtain ⟨V, hV⟩ : ∃ V, allowZ j 3 false = V := ⟨_, rfl⟩
                have HAj := Lib.hid (HAl.out j)
                rw [hV] at HAj
                have HW : Hid (True) := Lib.hid trivial
                clear hV
                have TT0 : Four wr.drew w.heap.size p0 3 a1 a2 := TT4
                have TX0 : Adr.Tab wr.drew := TX4
                have BX0 : Below w.heap.size w wr.drew := BX4.drew
                clear TT4 TX4 BX4
                go_wp2_with fail
                go_region_held3 (fun w' => Four w' w.heap.size p0 3 a1 a2) (first | exact TT3 | exact TT2 | exact TT1 | exact TT0) (first
                    | (go_at_call 19; refine (HAj.out _ _ _ _ _ L1 I1 hc2 TX2).mono ?_; rintro e X3 ⟨rfl, b3⟩; have TT3 := four_below TT2 b3; have BX3 := thenB BX2 b3; have TX3 := TX2.below b3; clear TT2 BX2 TX2 L1 I1 b3)
                    | (go_at_call 17; refine (HId.out _ BX1).mono ?_; rintro e X2 ⟨A2, c2, rfl, hc2, I1, b2⟩; have TT2 := four_below TT1 b2; have BX2 := thenB BX1 b2; have TX2 := TX1.below b2; have L1 := CellsAt.later L1 b2; clear TT1 BX1 TX1 b2)
                    | (go_at_call 11; refine (HCp.out _ BX0).mono ?_; intro e X1 h; obtain ⟨A1, c1, rfl, hc1, own1, b1⟩ := h.len HL.out; have L1 : ListAt encA X1 X1.heap.size A1 l := CellsAt.own own1; have TT1 := four_below TT0 b1; have BX1 := thenB BX0 b1; have TX1 := TX0.below b1; clear h own1 TT0 BX0 TX0 b1))
                all_goals
                  have TV := HW.out
                  cases V
                  all_goals
                    go_wp2_with fail
                    go_roundw
                    case rel => exact ⟨j + 1, by omega, by go_num, TT3, TX3, BX3⟩
                    case measure => simp [intOf]; omega
              · obtain rfl : j = 4 := by omega
                go_wp2_with fail
                go_ret
                exact ⟨rfl, BX4⟩
        · cases H with
          | true =>
            go_wp2_with fail
            go_loopw [10, 11] (fun s10 _ wr => ∃ j : Nat, j ≤ 4 ∧ s10 = .int .i64 j ∧ Four wr w.heap.size p0 5 a1 a2 ∧ Adr.Tab wr ∧ Below w.heap.size w wr) (fun s10 _ _ => 4 - (intOf s10).toNat)
            case atStart => exact ⟨0, by omega, rfl, TT3, TX3, BX3⟩
            case round =>
              obtain ⟨j, hj, rfl, TT4, TX4, BX4⟩ := hrel
              clear TT3 TX3 BX3
              by_cases cj : j < 4
              · have g5 : ((j : Int) ≤ 3) := by omega
                obtain ⟨V, hV⟩ : ∃ V, allowZ j 5 true = V := ⟨_, rfl⟩
                have HAj := Lib.hid (HAl.out j)
                rw [hV] at HAj
                have HW : Hid (V = true) := Lib.hid (by rw [← hV]; exact HYes.out j cj)
                clear hV
                have TT0 : Four wr.drew w.heap.size p0 5 a1 a2 := TT4
                have TX0 : Adr.Tab wr.drew := TX4
                have BX0 : Below w.heap.size w wr.drew := BX4.drew
                clear TT4 TX4 BX4
                go_wp2_with fail
                go_region_held3 (fun w' => Four w' w.heap.size p0 5 a1 a2) (first | exact TT3 | exact TT2 | exact TT1 | exact TT0) (first
                    | (go_at_call 19; refine (HAj.out _ _ _ _ _ L1 I1 hc2 TX2).mono ?_; rintro e X3 ⟨rfl, b3⟩; have TT3 := four_below TT2 b3; have BX3 := thenB BX2 b3; have TX3 := TX2.below b3; clear TT2 BX2 TX2 L1 I1 b3)
                    | (go_at_call 17; refine (HId.out _ BX1).mono ?_; rintro e X2 ⟨A2, c2, rfl, hc2, I1, b2⟩; have TT2 := four_below TT1 b2; have BX2 := thenB BX1 b2; have TX2 := TX1.below b2; have L1 := CellsAt.later L1 b2; clear TT1 BX1 TX1 b2)
                    | (go_at_call 11; refine (HCp.out _ BX0).mono ?_; intro e X1 h; obtain ⟨A1, c1, rfl, hc1, own1, b1⟩ := h.len HL.out; have L1 : ListAt encA X1 X1.heap.size A1 l := CellsAt.own own1; have TT1 := four_below TT0 b1; have BX1 := thenB BX0 b1; have TX1 := TX0.below b1; clear h own1 TT0 BX0 TX0 b1))
                all_goals
                  have TV := HW.out
                  subst TV
                  all_goals
                    go_wp2_with fail
                    go_roundw
                    case rel => exact ⟨j + 1, by omega, by go_num, TT3, TX3, BX3⟩
                    case measure => simp [intOf]; omega
              · obtain rfl : j = 4 := by omega
                go_wp2_with fail
                go_ret
                exact ⟨rfl, BX4⟩
          | false =>
            go_wp2_with fail
            go_loopw [10, 11] (fun s10 _ wr => ∃ j : Nat, j ≤ 4 ∧ s10 = .int .i64 j ∧ Four wr w.heap.size p0 5 a1 a2 ∧ Adr.Tab wr ∧ Below w.heap.size w wr) (fun s10 _ _ => 4 - (intOf s10).toNat)
            case atStart => exact ⟨0, by omega, rfl, TT3, TX3, BX3⟩
            case round =>
              obtain ⟨j, hj, rfl, TT4, TX4, BX4⟩ := hrel
              clear TT3 TX3 BX3
              by_cases cj : j < 4
              · have g5 : ((j : Int) ≤ 3) := by omega
                obtain ⟨V, hV⟩ : ∃ V, allowZ j 5 false = V := ⟨_, rfl⟩
                have HAj := Lib.hid (HAl.out j)
                rw [hV] at HAj
                have HW : Hid (True) := Lib.hid trivial
                clear hV
                have TT0 : Four wr.drew w.heap.size p0 5 a1 a2 := TT4
                have TX0 : Adr.Tab wr.drew := TX4
                have BX0 : Below w.heap.size w wr.drew := BX4.drew
                clear TT4 TX4 BX4
                go_wp2_with fail
                go_region_held3 (fun w' => Four w' w.heap.size p0 5 a1 a2) (first | exact TT3 | exact TT2 | exact TT1 | exact TT0) (first
                    | (go_at_call 19; refine (HAj.out _ _ _ _ _ L1 I1 hc2 TX2).mono ?_; rintro e X3 ⟨rfl, b3⟩; have TT3 := four_below TT2 b3; have BX3 := thenB BX2 b3; have TX3 := TX2.below b3; clear TT2 BX2 TX2 L1 I1 b3)
                    | (go_at_call 17; refine (HId.out _ BX1).mono ?_; rintro e X2 ⟨A2, c2, rfl, hc2, I1, b2⟩; have TT2 := four_below TT1 b2; have BX2 := thenB BX1 b2; have TX2 := TX1.below b2; have L1 := CellsAt.later L1 b2; clear TT1 BX1 TX1 b2)
                    | (go_at_call 11; refine (HCp.out _ BX0).mono ?_; intro e X1 h; obtain ⟨A1, c1, rfl, hc1, own1, b1⟩ := h.len HL.out; have L1 : ListAt encA X1 X1.heap.size A1 l := CellsAt.own own1; have TT1 := four_below TT0 b1; have BX1 := thenB BX0 b1; have TX1 := TX0.below b1; clear h own1 TT0 BX0 TX0 b1))
                all_goals
                  have TV := HW.out
                  cases V
                  all_goals
                    go_wp2_with fail
                    go_roundw
                    case rel => exact ⟨j + 1, by omega, by go_num, TT3, TX3, BX3⟩
                    case measure => simp [intOf]; omega
              · obtain rfl : j = 4 := by omega
                go_wp2_with fail
                go_ret
                exact ⟨rfl, BX4⟩
      · have h3 : ¬ r = 3 := fun h => hq (.inl h)
        have h5 : ¬ r = 5 := fun h => hq (.inr h)
        have q3 : (r == 3) = false := by simpa using h3
        have q5 : (r == 5) = false := by simpa using h5
        have HVH := Lib.hid (HV.out.2 h3 h5)
        rw [HVH.out] at *
        have HNo := Lib.hid (fun (j : Nat) o => allow_none (p := j) (r := r) o h3 h5)
        clear h3 h5 hq
        cases H with
        | true =>
          go_wp2_with fail
          go_loopw [10, 11] (fun s10 _ wr => ∃ j : Nat, j ≤ 4 ∧ s10 = .int .i64 j ∧ Four wr w.heap.size p0 r a1 a2 ∧ Adr.Tab wr ∧ Below w.heap.size w wr) (fun s10 _ _ => 4 - (intOf s10).toNat)
          case atStart => exact ⟨0, by omega, rfl, TT3, TX3, BX3⟩
          case round =>
            obtain ⟨j, hj, rfl, TT4, TX4, BX4⟩ := hrel
            clear TT3 TX3 BX3
            by_cases cj : j < 4
            · have g5 : ((j : Int) ≤ 3) := by omega
              obtain ⟨V, hV⟩ : ∃ V, allowZ j r true = V := ⟨_, rfl⟩
              have HAj := Lib.hid (HAl.out j)
              rw [hV] at HAj
              have HW : Hid (V = false) := Lib.hid (by rw [← hV]; exact HNo.out j _)
              clear hV
              have TT0 : Four wr.drew w.heap.size p0 r a1 a2 := TT4
              have TX0 : Adr.Tab wr.drew := TX4
              have BX0 : Below w.heap.size w wr.drew := BX4.drew
              clear TT4 TX4 BX4
              go_wp2_with fail
              go_region_held3 (fun w' => Four w' w.heap.size p0 r a1 a2) (first | exact TT3 | exact TT2 | exact TT1 | exact TT0) (first
                  | (go_at_call 19; refine (HAj.out _ _ _ _ _ L1 I1 hc2 TX2).mono ?_; rintro e X3 ⟨rfl, b3⟩; have TT3 := four_below TT2 b3; have BX3 := thenB BX2 b3; have TX3 := TX2.below b3; clear TT2 BX2 TX2 L1 I1 b3)
                  | (go_at_call 17; refine (HId.out _ BX1).mono ?_; rintro e X2 ⟨A2, c2, rfl, hc2, I1, b2⟩; have TT2 := four_below TT1 b2; have BX2 := thenB BX1 b2; have TX2 := TX1.below b2; have L1 := CellsAt.later L1 b2; clear TT1 BX1 TX1 b2)
                  | (go_at_call 11; refine (HCp.out _ BX0).mono ?_; intro e X1 h; obtain ⟨A1, c1, rfl, hc1, own1, b1⟩ := h.len HL.out; have L1 : ListAt encA X1 X1.heap.size A1 l := CellsAt.own own1; have TT1 := four_below TT0 b1; have BX1 := thenB BX0 b1; have TX1 := TX0.below b1; clear h own1 TT0 BX0 TX0 b1))
              all_goals
                have TV := HW.out
                subst TV
                all_goals
                  go_wp2_with fail
                  go_roundw
                  case rel => exact ⟨j + 1, by omega, by go_num, TT3, TX3, BX3⟩
                  case measure => simp [intOf]; omega
            · obtain rfl : j = 4 := by omega
              go_wp2_with fail
              go_ret
              exact ⟨rfl, BX4⟩
        | false =>
          go_wp2_with fail
          go_loopw [10, 11] (fun s10 _ wr => ∃ j : Nat, j ≤ 4 ∧ s10 = .int .i64 j ∧ Four wr w.heap.size p0 r a1 a2 ∧ Adr.Tab wr ∧ Below w.heap.size w wr) (fun s10 _ _ => 4 - (intOf s10).toNat)
          case atStart => exact ⟨0, by omega, rfl, TT3, TX3, BX3⟩
          case round =>
            obtain ⟨j, hj, rfl, TT4, TX4, BX4⟩ := hrel
            clear TT3 TX3 BX3
            by_cases cj : j < 4
            · have g5 : ((j : Int) ≤ 3) := by omega
              obtain ⟨V, hV⟩ : ∃ V, allowZ j r false = V := ⟨_, rfl⟩
              have HAj := Lib.hid (HAl.out j)
              rw [hV] at HAj
              have HW : Hid (V = false) := Lib.hid (by rw [← hV]; exact HNo.out j _)
              clear hV
              have TT0 : Four wr.drew w.heap.size p0 r a1 a2 := TT4
              have TX0 : Adr.Tab wr.drew := TX4
              have BX0 : Below w.heap.size w wr.drew := BX4.drew
              clear TT4 TX4 BX4
              go_wp2_with fail
              go_region_held3 (fun w' => Four w' w.heap.size p0 r a1 a2) (first | exact TT3 | exact TT2 | exact TT1 | exact TT0) (first
                  | (go_at_call 19; refine (HAj.out _ _ _ _ _ L1 I1 hc2 TX2).mono ?_; rintro e X3 ⟨rfl, b3⟩; have TT3 := four_below TT2 b3; have BX3 := thenB BX2 b3; have TX3 := TX2.below b3; clear TT2 BX2 TX2 L1 I1 b3)
                  | (go_at_call 17; refine (HId.out _ BX1).mono ?_; rintro e X2 ⟨A2, c2, rfl, hc2, I1, b2⟩; have TT2 := four_below TT1 b2; have BX2 := thenB BX1 b2; have TX2 := TX1.below b2; have L1 := CellsAt.later L1 b2; clear TT1 BX1 TX1 b2)
                  | (go_at_call 11; refine (HCp.out _ BX0).mono ?_; intro e X1 h; obtain ⟨A1, c1, rfl, hc1, own1, b1⟩ := h.len HL.out; have L1 : ListAt encA X1 X1.heap.size A1 l := CellsAt.own own1; have TT1 := four_below TT0 b1; have BX1 := thenB BX0 b1; have TX1 := TX0.below b1; clear h own1 TT0 BX0 TX0 b1))
              all_goals
                have TV := HW.out
                subst TV
                all_goals
                  go_wp2_with fail
                  go_roundw
                  case rel => exact ⟨j + 1, by omega, by go_num, TT3, TX3, BX3⟩
                  case measure => simp [intOf]; omega
            · obtain rfl : j = 4 := by omega
              go_wp2_with fail
              go_ret
              exact ⟨rfl, BX4⟩
end Go.Proofs.YtegmknmbgifmjaaDoor.Ace
