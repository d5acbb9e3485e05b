/- Latency: no more events are skipped in a row than the latency permits: walks. -/
import Derived.Test.YtfkjbpgobgmmfaaLatLives
import Derived.Test.YtfkjbpgobgmmfaaLatArgs
import Derived.Deep.CutRange
set_option linter.unusedVariables false
set_option linter.unusedSimpArgs false
namespace Go.Proofs.Ytfkjbpgobgmmfaa.Lat
open Go.RowKit Mem Oct Rw Av
open Base (thenB)

set_option maxRecDepth 100000 in
set_option maxHeartbeats 4000000 in
theorem bound_any (n : Int) (A : Option Addr) (c : Nat) (xs : List Tm) (w : World) (ta : ListAt encT w w.heap.size A xs) (hc : xs.length ≤ c) (hb : c * 24 ≤ 140737488351232) : Calls Try.prog 6 #[.int .i64 n, .slice A xs.length c] w fun e w' => e = .returned (.bool true) ∧ Below w.heap.size w w' := by
  have HL := Lib.hid lives_any
  obtain ⟨q, hq⟩ : ∃ q, xs.length = q := ⟨_, rfl⟩
  rw [hq] at hc ⊢
  by_cases cl : (200 : Int) < (q : Int)
  · go_enter Try.func6, Try.ntmps6
    go_wp2_with (go_at_call 8; refine (HL.out _).mono ?_; rintro e W1 ⟨rfl, BX⟩)
    go_ret
    exact ⟨rfl, BX⟩
  · have hq2 : q ≤ 200 := by omega
    obtain ⟨mq, hm⟩ : ∃ mq : Nat, lat n = mq := ⟨(lat n).toNat, by have := lat_bd n; omega⟩
    have hmb : mq ≤ 499 := by have := lat_bd n; omega
    have hmx : max 0 (min n 499) = (mq : Int) := hm
    have HN : Hid (∀ w, Calls Try.prog 9 #[.int .i64 n] w fun e w' => e = .returned (.agg #[.int .i64 (mq : Int), .int .i64 (0 : Int), .bool true]) ∧ Below w.heap.size w w') := Lib.hid fun w => by have := new_any n w; rwa [hm] at this
    clear hm
    go_enter Try.func6, Try.ntmps6
    go_upto_region 5 with (go_at_call 8; refine (HL.out _).mono ?_; rintro e W1 ⟨rfl, BX⟩)
    go_upto_region 6 with (go_at_call 9; refine (HN.out _).mono ?_; rintro e W2 ⟨rfl, b2⟩; replace BX := thenB BX b2; clear b2)
    have hs2 := BX.size
    have K5 := Blk.fresh W2 23 #[.int .i64 (mq : Int), .int .i64 (0 : Int), .bool true]
    replace BX := BX.alloc BX.size (.cells #[.int .i64 (mq : Int), .int .i64 (0 : Int), .bool true] 23)
    obtain ⟨g5, eg5⟩ : ∃ g, W2.heap.size = g := ⟨_, rfl⟩
    rw [eg5] at K5
    try simp only [eg5]
    generalize W2.alloc (.cells #[.int .i64 (mq : Int), .int .i64 (0 : Int), .bool true] 23) = W3 at *
    have hg5 : w.heap.size ≤ g5 := by rw [← eg5]; exact hs2
    clear eg5 hs2
    go_wp2_with fail
    go_loopw [6, 7, 8, 9] (fun s6 s7 s8 s9 wr => ∃ (j m s : Nat) (f : Bool), j ≤ q ∧ s9 = .int .i64 j ∧ s6 = .int .i64 m ∧ s7 = .int .i64 s ∧ s8 = .bool f ∧ m ≤ 499 ∧ s ≤ m ∧ (f = true → s = 0) ∧ Blk wr g5 23 #[.int .i64 (m : Int), .int .i64 (s : Int), .bool f] ∧ Below w.heap.size w wr) (fun _ _ _ s9 _ => q - (intOf s9).toNat)
    case atStart => exact ⟨0, mq, 0, true, by omega, rfl, by simp [hmx], rfl, rfl, hmb, by omega, fun _ => rfl, K5, BX⟩
    case round =>
      clear hmx hmb HN
      obtain ⟨j, m, s, f, hj, rfl, rfl, rfl, rfl, hmb, hsm, hf, KJ, BJ⟩ := hrel
      clear K5 BX
      have K5 := KJ
      have BX := BJ
      clear KJ BJ
      by_cases cj : j < q
      · obtain ⟨b, off, rfl, hbl, hcl⟩ := ListAt.open_ ta sizT (by decide) (by omega)
        obtain ⟨y, hy⟩ : ∃ y, xs[j]? = some y := ⟨_, List.getElem?_eq_getElem (by omega)⟩
        obtain ⟨d, ac, l⟩ := y
        have c0 := (BX.cell (p := ⟨b, off + j * 3, none⟩) hbl).trans (hcl j _ hy 0 _ rfl)
        have c1 := (BX.cell (p := ⟨b, off + j * 3 + 1, none⟩) hbl).trans (hcl j _ hy 1 _ rfl)
        have c2 := (BX.cell (p := ⟨b, off + j * 3 + 2, none⟩) hbl).trans (hcl j _ hy 2 _ rfl)
        simp only at c0 c1 c2
        have g1 : (0 : Int) ≤ (j : Int) ∧ (j : Int) < (q : Int) := by omega
        have g2 : ¬ ((q : Int) ≤ (j : Int)) := by omega
        have e5 : IntKind.i64.wrap ((j : Int) + 1) = (j : Int) + 1 := by simp only [IntKind.wrap, IntKind.signed, IntKind.bits]; simp; omega
        clear hcl hy
        have hK5 : g5 < wr.heap.size := K5.lt
        go_upto_region 11 with (fail)
        clear c0 c1 c2
        have KX := Blk.fresh wr 35 #[.int .i64 d, .bool ac, .int .i64 l]
        replace BX := BX.alloc BX.size (.cells #[.int .i64 d, .bool ac, .int .i64 l] 35)
        replace K5 := K5.alloc (.cells #[.int .i64 d, .bool ac, .int .i64 l] 35)
        obtain ⟨gx, egx⟩ : ∃ g, wr.heap.size = g := ⟨_, rfl⟩
        rw [egx] at KX
        try simp only [egx]
        generalize wr.alloc (.cells #[.int .i64 d, .bool ac, .int .i64 l] 35) = X0 at *
        have hxg : g5 ≠ gx := by have := hK5; omega
        clear egx
        by_cases d0 : d = 0
        · subst d0
          cases hmu : mst m s f false with
          | true =>
            have HY := Lib.hid fun w => skip_no (a := (m : Int)) (s := s) (f := f) hmu w
            have HU : Hid (∀ w, Calls Try.prog 13 #[.agg #[.int .i64 (m : Int), .int .i64 (s : Int), .bool f], .bool false] w fun e w' => e = .returned (.bool true) ∧ Below w.heap.size w w') := Lib.hid fun w => by have := must_any m s f false w; rwa [hmu] at this
            have q5 : ∀ w, (binOp .neq 23 (.agg #[.int .i64 (m : Int), .int .i64 (s : Int), .bool f]) (.agg #[.int .i64 (m : Int), .int .i64 (s : Int), .bool f])).run Try.prog w = .ok (.bool false) w := fun w => by simpa using lis_neq m s f m s f w
            have q6 : ∀ w x y, (eqGuard .neq 23 x y (.agg #[.int .i64 (m : Int), .int .i64 (s : Int), .bool f]) (.agg #[.int .i64 (m : Int), .int .i64 (s : Int), .bool f])).run Try.prog w = .ok () w := fun w x y => lis_ng m s f m s f w x y
            have n1 : ¬ (m : Int) < (s : Int) := by omega
            clear hmu
            have k0 := K5.cell 0
            have k1 := K5.cell 1
            have k2 := K5.cell 2
            have y0 := KX.cell 0
            go_upto_region 14 with (go_at_call 15; refine (HY.out _).mono ?_; rintro e X1 ⟨rfl, b1⟩)
            replace BX := thenB BX b1
            replace K5 := K5.below b1 K5.lt
            replace KX := KX.below b1 KX.lt
            clear k0 k1 k2 y0
            have K8 := Blk.fresh X1 23 #[.int .i64 (m : Int), .int .i64 (s : Int), .bool f]
            replace BX := BX.alloc BX.size (.cells #[.int .i64 (m : Int), .int .i64 (s : Int), .bool f] 23)
            replace K5 := K5.alloc (.cells #[.int .i64 (m : Int), .int .i64 (s : Int), .bool f] 23)
            replace KX := KX.alloc (.cells #[.int .i64 (m : Int), .int .i64 (s : Int), .bool f] 23)
            obtain ⟨g8, eg8⟩ : ∃ g, X1.heap.size = g := ⟨_, rfl⟩
            rw [eg8] at K8
            try simp only [eg8]
            generalize X1.alloc (.cells #[.int .i64 (m : Int), .int .i64 (s : Int), .bool f] 23) = X2 at *
            clear eg8
            have k0 := K5.cell 0
            have k1 := K5.cell 1
            have k2 := K5.cell 2
            have h0 := K8.cell 0
            have h1 := K8.cell 1
            have h2 := K8.cell 2
            go_upto_region 16 with (go_at_call 13; refine (HU.out _).mono ?_; rintro e X3 ⟨rfl, b2⟩; replace BX := thenB BX b2; replace K5 := K5.below b2 K5.lt; replace KX := KX.below b2 KX.lt; replace K8 := K8.below b2 K8.lt; replace k0 := K5.cell 0; replace k1 := K5.cell 1; replace k2 := K5.cell 2; replace h0 := K8.cell 0; replace h1 := K8.cell 1; replace h2 := K8.cell 2)
            clear k0 k1 k2 h0 h1 h2
            have H1 : (#[.int .i64 (m : Int), .int .i64 (s : Int), .bool f] : Array Value).all (·.oneCell') = true := by rw [← Array.all_toList]; rfl
            go_upto_region 25 with (first | (refine wpList_load_row rfl 23 (.tmp 11) rfl g8 rfl 23 _ (0, 0) _ K8 Try.underlying23 rfl (by kernel_rfl) ?_) | (refine wpList_store_row rfl 23 (.tmp 5) _ rfl g5 #[.int .i64 (m : Int), .int .i64 (s : Int), .bool f] rfl rfl 23 _ K5 (by kernel_rfl) rfl H1 ?_))
            replace K5 := Av.bset_row (cs' := #[.int .i64 (m : Int), .int .i64 (s : Int), .bool f]) K5
            replace BX := below_setRow BX hg5 #[.int .i64 (m : Int), .int .i64 (s : Int), .bool f]
            replace KX := Av.bother_row (cs' := #[.int .i64 (m : Int), .int .i64 (s : Int), .bool f]) KX hxg
            generalize X3.setRow g5 #[.int .i64 (m : Int), .int .i64 (s : Int), .bool f] = X4 at *
            have y0 := KX.cell 0
            cases f
            · go_wp2_with fail
              go_roundw
              case rel => exact ⟨j + 1, m, s, false, by omega, by go_num, rfl, by go_num, rfl, hmb, hsm, by simp, K5, BX⟩
              case measure => simp [intOf]; omega
            · obtain rfl : s = 0 := hf rfl
              go_wp2_with fail
              go_roundw
              case rel => exact ⟨j + 1, m, 0, true, by omega, by go_num, rfl, by go_num, rfl, hmb, by omega, fun _ => rfl, K5, BX⟩
              case measure => simp [intOf]; omega
          | false =>
            have h3 : f = false ∧ s < m := by unfold mst at hmu; simp at hmu; omega
            obtain ⟨rfl, h3⟩ := h3
            have HY := Lib.hid fun w => skip_yes (a := (m : Int)) (s := s) (f := false) hmu (by omega) w
            have HU : Hid (∀ w, Calls Try.prog 13 #[.agg #[.int .i64 (m : Int), .int .i64 (s : Int), .bool false], .bool false] w fun e w' => e = .returned (.bool false) ∧ Below w.heap.size w w') := Lib.hid fun w => by have := must_any m s false false w; rwa [hmu] at this
            have n1 : ¬ (m : Int) < (s : Int) + 1 := by omega
            have e6 : IntKind.i64.wrap ((s : Int) + 1) = (s : Int) + 1 := by simp only [IntKind.wrap, IntKind.signed, IntKind.bits]; simp; omega
            clear hmu
            have k0 := K5.cell 0
            have k1 := K5.cell 1
            have k2 := K5.cell 2
            have y0 := KX.cell 0
            go_upto_region 14 with (go_at_call 15; refine (HY.out _).mono ?_; rintro e X1 ⟨rfl, b1⟩)
            replace BX := thenB BX b1
            replace K5 := K5.below b1 K5.lt
            replace KX := KX.below b1 KX.lt
            clear k0 k1 k2 y0
            have K8 := Blk.fresh X1 23 #[.int .i64 (m : Int), .int .i64 ((s : Int) + 1), .bool false]
            replace BX := BX.alloc BX.size (.cells #[.int .i64 (m : Int), .int .i64 ((s : Int) + 1), .bool false] 23)
            replace K5 := K5.alloc (.cells #[.int .i64 (m : Int), .int .i64 ((s : Int) + 1), .bool false] 23)
            replace KX := KX.alloc (.cells #[.int .i64 (m : Int), .int .i64 ((s : Int) + 1), .bool false] 23)
            obtain ⟨g8, eg8⟩ : ∃ g, X1.heap.size = g := ⟨_, rfl⟩
            rw [eg8] at K8
            try simp only [eg8]
            generalize X1.alloc (.cells #[.int .i64 (m : Int), .int .i64 ((s : Int) + 1), .bool false] 23) = X2 at *
            clear eg8
            have k0 := K5.cell 0
            have k1 := K5.cell 1
            have k2 := K5.cell 2
            have h0 := K8.cell 0
            have h1 := K8.cell 1
            have h2 := K8.cell 2
            go_upto_region 16 with (go_at_call 13; refine (HU.out _).mono ?_; rintro e X3 ⟨rfl, b2⟩; replace BX := thenB BX b2; replace K5 := K5.below b2 K5.lt; replace KX := KX.below b2 KX.lt; replace K8 := K8.below b2 K8.lt; replace k0 := K5.cell 0; replace k1 := K5.cell 1; replace k2 := K5.cell 2; replace h0 := K8.cell 0; replace h1 := K8.cell 1; replace h2 := K8.cell 2)
            clear k0 k1 k2 h0 h1 h2
            have H1 : (#[.int .i64 (m : Int), .int .i64 ((s : Int) + 1), .bool false] : Array Value).all (·.oneCell') = true := by rw [← Array.all_toList]; rfl
            go_upto_region 25 with (first | (refine wpList_load_row rfl 23 (.tmp 11) rfl g8 rfl 23 _ (0, 0) _ K8 Try.underlying23 rfl (by kernel_rfl) ?_) | (refine wpList_store_row rfl 23 (.tmp 5) _ rfl g5 #[.int .i64 (m : Int), .int .i64 ((s : Int) + 1), .bool false] rfl rfl 23 _ K5 (by kernel_rfl) rfl H1 ?_))
            replace K5 := Av.bset_row (cs' := #[.int .i64 (m : Int), .int .i64 ((s : Int) + 1), .bool false]) K5
            replace BX := below_setRow BX hg5 #[.int .i64 (m : Int), .int .i64 ((s : Int) + 1), .bool false]
            replace KX := Av.bother_row (cs' := #[.int .i64 (m : Int), .int .i64 ((s : Int) + 1), .bool false]) KX hxg
            generalize X3.setRow g5 #[.int .i64 (m : Int), .int .i64 ((s : Int) + 1), .bool false] = X4 at *
            have y0 := KX.cell 0
            go_wp2_with fail
            go_roundw
            case rel => exact ⟨j + 1, m, s + 1, false, by omega, by go_num, rfl, by go_num, rfl, hmb, by omega, by simp, K5, BX⟩
            case measure => simp [intOf]; omega
        · have d0' : (d == 0) = false := by simpa using d0
          by_cases d1 : d = 1
          · subst d1
            have y0 := KX.cell 0
            cases f <;> cases ac
            · have HA : Hid (∀ w, Calls Try.prog 17 #[.agg #[.int .i64 (m : Int), .int .i64 (s : Int), .bool false], .bool false] w fun e w' => e = .returned (.agg #[.int .i64 (m : Int), .int .i64 (0 : Int), .bool false]) ∧ Below w.heap.size w w') := Lib.hid fun w => attend_any m s false false w
              have n1 : ¬ (m : Int) < 0 := by omega
              have H1 : (#[.int .i64 (m : Int), .int .i64 (0 : Int), .bool false] : Array Value).all (·.oneCell') = true := by rw [← Array.all_toList]; rfl
              have k0 := K5.cell 0
              have k1 := K5.cell 1
              have k2 := K5.cell 2
              have y1 := KX.cell 1
              go_upto_region 21 with (first | (refine wpList_store_row rfl 23 (.tmp 5) _ rfl g5 #[.int .i64 (m : Int), .int .i64 (0 : Int), .bool false] rfl rfl 23 _ K5 (by kernel_rfl) rfl H1 ?_) | (go_at_call 17; refine (HA.out _).mono ?_; rintro e X1 ⟨rfl, b1⟩; replace BX := thenB BX b1; replace K5 := K5.below b1 K5.lt; replace KX := KX.below b1 KX.lt))
              clear k0 k1 k2 y0 y1
              replace K5 := Av.bset_row (cs' := #[.int .i64 (m : Int), .int .i64 (0 : Int), .bool false]) K5
              replace BX := below_setRow BX hg5 #[.int .i64 (m : Int), .int .i64 (0 : Int), .bool false]
              replace KX := Av.bother_row (cs' := #[.int .i64 (m : Int), .int .i64 (0 : Int), .bool false]) KX hxg
              generalize X1.setRow g5 #[.int .i64 (m : Int), .int .i64 (0 : Int), .bool false] = X4 at *
              have y1 := KX.cell 1
              go_quiet (fail)
              go_wp2_with fail
              go_roundw
              case rel => exact ⟨j + 1, m, 0, false, by omega, by go_num, rfl, by go_num, rfl, hmb, by omega, fun _ => rfl, K5, BX.trans ⟨rfl, rfl, rfl, Nat.le_refl _, fun _ _ => rfl⟩⟩
              case measure => simp [intOf]; omega
            · have HA : Hid (∀ w, Calls Try.prog 17 #[.agg #[.int .i64 (m : Int), .int .i64 (s : Int), .bool false], .bool true] w fun e w' => e = .returned (.agg #[.int .i64 (m : Int), .int .i64 (0 : Int), .bool false]) ∧ Below w.heap.size w w') := Lib.hid fun w => attend_any m s false true w
              have n1 : ¬ (m : Int) < 0 := by omega
              have H1 : (#[.int .i64 (m : Int), .int .i64 (0 : Int), .bool false] : Array Value).all (·.oneCell') = true := by rw [← Array.all_toList]; rfl
              have k0 := K5.cell 0
              have k1 := K5.cell 1
              have k2 := K5.cell 2
              have y1 := KX.cell 1
              go_upto_region 21 with (first | (refine wpList_store_row rfl 23 (.tmp 5) _ rfl g5 #[.int .i64 (m : Int), .int .i64 (0 : Int), .bool false] rfl rfl 23 _ K5 (by kernel_rfl) rfl H1 ?_) | (go_at_call 17; refine (HA.out _).mono ?_; rintro e X1 ⟨rfl, b1⟩; replace BX := thenB BX b1; replace K5 := K5.below b1 K5.lt; replace KX := KX.below b1 KX.lt))
              clear k0 k1 k2 y0 y1
              replace K5 := Av.bset_row (cs' := #[.int .i64 (m : Int), .int .i64 (0 : Int), .bool false]) K5
              replace BX := below_setRow BX hg5 #[.int .i64 (m : Int), .int .i64 (0 : Int), .bool false]
              replace KX := Av.bother_row (cs' := #[.int .i64 (m : Int), .int .i64 (0 : Int), .bool false]) KX hxg
              generalize X1.setRow g5 #[.int .i64 (m : Int), .int .i64 (0 : Int), .bool false] = X4 at *
              have y1 := KX.cell 1
              go_quiet (fail)
              go_wp2_with fail
              go_roundw
              case rel => exact ⟨j + 1, m, 0, false, by omega, by go_num, rfl, by go_num, rfl, hmb, by omega, fun _ => rfl, K5, BX.trans ⟨rfl, rfl, rfl, Nat.le_refl _, fun _ _ => rfl⟩⟩
              case measure => simp [intOf]; omega
            · obtain rfl : s = 0 := hf rfl
              clear hf
              have HA : Hid (∀ w, Calls Try.prog 17 #[.agg #[.int .i64 (m : Int), .int .i64 (0 : Int), .bool true], .bool false] w fun e w' => e = .returned (.agg #[.int .i64 (m : Int), .int .i64 (0 : Int), .bool true]) ∧ Below w.heap.size w w') := Lib.hid fun w => attend_any m 0 true false w
              have n1 : ¬ (m : Int) < 0 := by omega
              have H1 : (#[.int .i64 (m : Int), .int .i64 (0 : Int), .bool true] : Array Value).all (·.oneCell') = true := by rw [← Array.all_toList]; rfl
              have k0 := K5.cell 0
              have k1 := K5.cell 1
              have k2 := K5.cell 2
              have y1 := KX.cell 1
              go_upto_region 21 with (first | (refine wpList_store_row rfl 23 (.tmp 5) _ rfl g5 #[.int .i64 (m : Int), .int .i64 (0 : Int), .bool true] rfl rfl 23 _ K5 (by kernel_rfl) rfl H1 ?_) | (go_at_call 17; refine (HA.out _).mono ?_; rintro e X1 ⟨rfl, b1⟩; replace BX := thenB BX b1; replace K5 := K5.below b1 K5.lt; replace KX := KX.below b1 KX.lt))
              clear k0 k1 k2 y0 y1
              replace K5 := Av.bset_row (cs' := #[.int .i64 (m : Int), .int .i64 (0 : Int), .bool true]) K5
              replace BX := below_setRow BX hg5 #[.int .i64 (m : Int), .int .i64 (0 : Int), .bool true]
              replace KX := Av.bother_row (cs' := #[.int .i64 (m : Int), .int .i64 (0 : Int), .bool true]) KX hxg
              generalize X1.setRow g5 #[.int .i64 (m : Int), .int .i64 (0 : Int), .bool true] = X4 at *
              have y1 := KX.cell 1
              go_quiet (fail)
              go_wp2_with fail
              go_roundw
              case rel => exact ⟨j + 1, m, 0, true, by omega, by go_num, rfl, by go_num, rfl, hmb, by omega, fun _ => rfl, K5, BX.trans ⟨rfl, rfl, rfl, Nat.le_refl _, fun _ _ => rfl⟩⟩
              case measure => simp [intOf]; omega
            · obtain rfl : s = 0 := hf rfl
              clear hf
              have HA : Hid (∀ w, Calls Try.prog 17 #[.agg #[.int .i64 (m : Int), .int .i64 (0 : Int), .bool true], .bool true] w fun e w' => e = .returned (.agg #[.int .i64 (m : Int), .int .i64 (0 : Int), .bool false]) ∧ Below w.heap.size w w') := Lib.hid fun w => attend_any m 0 true true w
              have n1 : ¬ (m : Int) < 0 := by omega
              have H1 : (#[.int .i64 (m : Int), .int .i64 (0 : Int), .bool false] : Array Value).all (·.oneCell') = true := by rw [← Array.all_toList]; rfl
              have k0 := K5.cell 0
              have k1 := K5.cell 1
              have k2 := K5.cell 2
              have y1 := KX.cell 1
              go_upto_region 21 with (first | (refine wpList_store_row rfl 23 (.tmp 5) _ rfl g5 #[.int .i64 (m : Int), .int .i64 (0 : Int), .bool false] rfl rfl 23 _ K5 (by kernel_rfl) rfl H1 ?_) | (go_at_call 17; refine (HA.out _).mono ?_; rintro e X1 ⟨rfl, b1⟩; replace BX := thenB BX b1; replace K5 := K5.below b1 K5.lt; replace KX := KX.below b1 KX.lt))
              clear k0 k1 k2 y0 y1
              replace K5 := Av.bset_row (cs' := #[.int .i64 (m : Int), .int .i64 (0 : Int), .bool false]) K5
              replace BX := below_setRow BX hg5 #[.int .i64 (m : Int), .int .i64 (0 : Int), .bool false]
              replace KX := Av.bother_row (cs' := #[.int .i64 (m : Int), .int .i64 (0 : Int), .bool false]) KX hxg
              generalize X1.setRow g5 #[.int .i64 (m : Int), .int .i64 (0 : Int), .bool false] = X4 at *
              have y1 := KX.cell 1
              go_quiet (fail)
              go_wp2_with fail
              go_roundw
              case rel => exact ⟨j + 1, m, 0, false, by omega, by go_num, rfl, by go_num, rfl, hmb, by omega, fun _ => rfl, K5, BX.trans ⟨rfl, rfl, rfl, Nat.le_refl _, fun _ _ => rfl⟩⟩
              case measure => simp [intOf]; omega
          · have d1' : (d == 1) = false := by simpa using d1
            have y0 := KX.cell 0
            by_cases d2 : d = 2
            · subst d2
              obtain ⟨m2, hm2⟩ : ∃ m2 : Nat, lat l = m2 := ⟨(lat l).toNat, by have := lat_bd l; omega⟩
              have hmb2 : m2 ≤ 499 := by have := lat_bd l; omega
              have hmx2 : max 0 (min l 499) = (m2 : Int) := hm2
              have HS : Hid (∀ w, Calls Try.prog 11 #[.agg #[.int .i64 (m : Int), .int .i64 (s : Int), .bool f], .int .i64 l] w fun e w' => e = .returned (.agg #[.int .i64 (m2 : Int), .int .i64 (0 : Int), .bool true]) ∧ Below w.heap.size w w') := Lib.hid fun w => by have := set_any m s l f w; rwa [hm2] at this
              have n1 : ¬ max 0 (min l 499) < 0 := by omega
              have H1 : (#[.int .i64 (m2 : Int), .int .i64 (0 : Int), .bool true] : Array Value).all (·.oneCell') = true := by rw [← Array.all_toList]; rfl
              have k0 := K5.cell 0
              have k1 := K5.cell 1
              have k2 := K5.cell 2
              have y2 := KX.cell 2
              go_upto_region 24 with (first | (refine wpList_store_row rfl 23 (.tmp 5) _ rfl g5 #[.int .i64 (m2 : Int), .int .i64 (0 : Int), .bool true] rfl rfl 23 _ K5 (by kernel_rfl) rfl H1 ?_) | (go_at_call 11; refine (HS.out _).mono ?_; rintro e X1 ⟨rfl, b1⟩; replace BX := thenB BX b1; replace K5 := K5.below b1 K5.lt; replace KX := KX.below b1 KX.lt))
              clear k0 k1 k2 y0 y2
              replace K5 := Av.bset_row (cs' := #[.int .i64 (m2 : Int), .int .i64 (0 : Int), .bool true]) K5
              replace BX := below_setRow BX hg5 #[.int .i64 (m2 : Int), .int .i64 (0 : Int), .bool true]
              replace KX := Av.bother_row (cs' := #[.int .i64 (m2 : Int), .int .i64 (0 : Int), .bool true]) KX hxg
              generalize X1.setRow g5 #[.int .i64 (m2 : Int), .int .i64 (0 : Int), .bool true] = X4 at *
              have y2 := KX.cell 2
              go_wp2_with fail
              go_roundw
              case rel => exact ⟨j + 1, m2, 0, true, by omega, by go_num, by simp [hmx2], by go_num, rfl, hmb2, by omega, fun _ => rfl, K5, BX⟩
              case measure => simp [intOf]; omega
            · have d2' : (d == 2) = false := by simpa using d2
              have n1 : ¬ (m : Int) < (s : Int) := by omega
              cases f
              · go_wp2_with fail
                go_roundw
                case rel => exact ⟨j + 1, m, s, false, by omega, by go_num, rfl, by go_num, rfl, hmb, hsm, by simp, K5, BX⟩
                case measure => simp [intOf]; omega
              · obtain rfl : s = 0 := hf rfl
                go_wp2_with fail
                go_roundw
                case rel => exact ⟨j + 1, m, 0, true, by omega, by go_num, rfl, by go_num, rfl, hmb, by omega, fun _ => rfl, K5, BX⟩
                case measure => simp [intOf]; omega
      · obtain rfl : j = q := by omega
        go_wp2_with fail
        go_ret
        exact ⟨rfl, BX⟩
end Go.Proofs.Ytfkjbpgobgmmfaa.Lat
