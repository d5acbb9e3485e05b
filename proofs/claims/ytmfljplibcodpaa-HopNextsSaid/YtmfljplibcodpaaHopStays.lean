/- The statement that hopping stays within the map and visits it, walked: it returns true. -/
import Derived.Test.YtmfljplibcodpaaHopLaws
import Derived.Test.YtmfljplibcodpaaHopVis
set_option linter.unusedVariables false
set_option linter.unusedSimpArgs false
namespace Go.Proofs.Ytmfljplibcodpaa.Hop
open Go.RowKit Mem Chm Base

theorem nth_has {m : Nat} {i : Int} (h0 : 0 ≤ i) (h1 : i < (chans m).length) : hasZ m (nthZ m i) = true := by
  have hi : i.toNat < (chans m).length := by omega
  unfold nthZ
  rw [if_pos ⟨h0, hi⟩, hasZ_nat]
  apply mem_chans.1
  rw [List.getD_eq_getElem?_getD, List.getElem?_eq_getElem hi]
  exact List.getElem_mem hi
theorem remap_has {m : Nat} {c : Int} (h : (chans m).length ≠ 0) : hasZ m (remapZ m c) = true := by
  unfold remapZ
  rw [if_neg h]
  split
  · assumption
  · have h0 : 0 ≤ limC c := by unfold limC; omega
    exact nth_has (Int.emod_nonneg _ (by omega)) (Int.emod_lt_of_pos _ (by omega))
theorem remap_same {m c : Nat} (h : hasN m c = true) : remapZ m c = c := by
  have hc := hasN_lt h
  have hl : limC (c : Int) = c := by unfold limC; omega
  unfold remapZ
  rw [hl, hasZ_nat, h]
  have : (chans m).length ≠ 0 := by
    have := (chb_at hc h).1
    omega
  rw [if_neg this]; rfl
theorem mix_has {m r : Nat} (h : (chans m).length ≠ 0) (hr : r < 65536) : hasZ m (mixZ m r) = true := by
  unfold mixZ
  split
  · rw [hasZ_nat]; assumption
  · have h1 : (chans m).length * r < (chans m).length * 65536 := Nat.mul_lt_mul_of_pos_left hr (by omega)
    exact nth_has (by omega) (by omega)
/-- The channel is in the map, and is the unmapped one where that is. -/
theorem next_has (p : Par) (e : Nat) (l : Int) (hp : p.ok) (he : e ≤ 65535) (hne : (chans p.m.toNat).length ≠ 0) :
    ∃ u : Nat, u < 37 ∧ unZ p e l = u ∧ hasZ p.m.toNat (chZ p e l) = true ∧ (hasN p.m.toNat u = true → chZ p e l = u) ∧ (p.g ≠ 2 → (u : Int) = (l + p.h) % 37) := by
  obtain ⟨⟨ha0, ha1⟩, ⟨hm0, hm1⟩, hh⟩ := hp
  unfold unZ chZ
  by_cases hg : p.g = 2
  · rw [if_pos hg, if_pos hg]
    have hr := numN_lt he (show p.a.toNat ≤ 4294967295 by omega)
    refine ⟨_, by omega, rfl, mix_has hne hr, fun hb => ?_, fun h => absurd hg h⟩
    unfold mixZ
    rw [if_pos hb]
  · rw [if_neg hg, if_neg hg]
    have hs := stepZ_bd l p.h
    obtain ⟨u, hu⟩ : ∃ u : Nat, stepZ l p.h = u := ⟨(stepZ l p.h).toNat, by omega⟩
    rw [hu]
    refine ⟨u, by omega, rfl, remap_has hne, remap_same, fun _ => ?_⟩
    rw [← hu]; rfl
theorem rhas_toZ {m : Nat} {c : Int} {b : Bool} (hm : m ≤ 18446744073709551615) (hb : hasZ m c = b) (w : World) :
    Calls Try.prog 20 #[.int .u64 m, .int .i64 c] w fun e w' => e = .returned (.bool b) ∧ w = w' := by
  rw [← hb]; exact rhas_any m c w hm
theorem rof_one (g c : Nat) (w : World) (hc : c < 64) (hcell : w.cell? ⟨g, 0, none⟩ = some (.int .i64 c)) :
    Calls Try.prog 21 #[.slice (some ⟨g, 0, none⟩) 1 1] w fun e w' => e = .returned (.int .u64 ((2 ^ c : Nat) : Int)) ∧ w = w' := by
  have HP := Lib.hid fun w => rpow_any c w hc
  have hp := pow_le c hc
  have hp2 : 2 ^ c ≤ 18446744073709551615 := by
    have := Nat.pow_le_pow_right (n := 2) (by decide) (show c ≤ 63 by omega)
    omega
  generalize 2 ^ c = q at *
  clear hp
  go_enter Try.func21, Try.ntmps21
  go_wp2_with fail
  go_loop [3, 4] (fun a i => (i = .int .i64 0 ∧ a = .int .u64 0) ∨ (i = .int .i64 1 ∧ a = .int .u64 (q : Nat))) (fun _ i => 2 - (intOf i).toNat)
  case atStart => exact .inl ⟨rfl, rfl⟩
  case round =>
    rcases hrel with ⟨rfl, rfl⟩ | ⟨rfl, rfl⟩
    · go_wp2_with (go_at_call 33; refine (HP.out _).mono ?_; rintro e w' ⟨rfl, rfl⟩)
      go_round
      case rel => exact .inr ⟨by go_num, by go_num⟩
      case measure => simp [intOf]
    · go_wp2_with fail
      go_ret
      exact ⟨rfl, rfl⟩
set_option maxHeartbeats 2000000 in
theorem law_stays (p : Par) (e : Nat) (l : Int) (w : World) (hp : p.ok) (he : e ≤ 65535) (hl : -9223372036854775808 ≤ l ∧ l ≤ 9223372036854775807) :
    Calls Try.prog 7 #[.agg p.cs, .int .u16 e, .int .i64 l] w fun e w' => e = .returned (.bool true) ∧ Below w.heap.size w w' := by
  have HL := Lib.hid lives_any
  obtain ⟨m, hm⟩ : ∃ m : Nat, p.m = m := ⟨p.m.toNat, by have := hp.2.1; omega⟩
  have hm1 : m ≤ 18446744073709551615 := by have := hp.2.1; omega
  have HX : Hid ((chans m).length ≠ 0 → ∀ E L, E ≤ 65535 → ∃ u : Nat, u < 37 ∧ unZ p E L = u ∧ hasZ m (chZ p E L) = true ∧ (hasN m u = true → chZ p E L = u) ∧ (p.g ≠ 2 → (u : Int) = (L + p.h) % 37)) := Lib.hid fun hne E L hE => by
    have h := next_has p E L hp hE
    rw [hm, Int.toNat_natCast] at h
    exact h hne
  have HN : Hid (∀ E L w, E ≤ 65535 → (-9223372036854775808 ≤ L ∧ L ≤ 9223372036854775807) → Calls Try.prog 17 #[.agg p.cs, .int .u16 (E : Nat), .int .i64 L] w fun e' w' => e' = .returned (.tuple #[.int .i64 (chZ p E L), .int .i64 (unZ p E L)]) ∧ Below w.heap.size w w') := Lib.hid fun E L w hE hL => next_any p E L w hp hE hL
  have HC := Lib.hid fun w => rcount_any m w hm1
  have hh := hp.2.2
  have B0 : Below w.heap.size w (w.alloc (.cells p.cs 37)) := (Below.refl _ w).alloc (Nat.le_refl _) _
  have T0 : Mem.Blk (w.alloc (.cells p.cs 37)) w.heap.size 37 p.cs := Blk.fresh w _ _
  have hlt := T0.lt
  clear hp
  have hcs : p.cs = #[.int .u32 p.a, .int .u32 p.b, .int .i64 p.u0, .int .i64 p.u1, .int .i64 p.u2, .int .i64 p.u3, .int .i64 p.u4, .int .u64 p.m, .int .i64 p.h, .int .i64 p.d, .int .i64 p.g] := rfl
  have HT : Hid (∀ w' : World, Mem.Blk w' w.heap.size 37 p.cs → w'.cell? ⟨w.heap.size, 0, none⟩ = some (.int .u32 p.a) ∧ w'.cell? ⟨w.heap.size, 1, none⟩ = some (.int .u32 p.b) ∧ w'.cell? ⟨w.heap.size, 2, none⟩ = some (.int .i64 p.u0) ∧ w'.cell? ⟨w.heap.size, 3, none⟩ = some (.int .i64 p.u1) ∧ w'.cell? ⟨w.heap.size, 4, none⟩ = some (.int .i64 p.u2) ∧ w'.cell? ⟨w.heap.size, 5, none⟩ = some (.int .i64 p.u3) ∧ w'.cell? ⟨w.heap.size, 6, none⟩ = some (.int .i64 p.u4) ∧ w'.cell? ⟨w.heap.size, 7, none⟩ = some (.int .u64 p.m) ∧ w'.cell? ⟨w.heap.size, 8, none⟩ = some (.int .i64 p.h) ∧ w'.cell? ⟨w.heap.size, 9, none⟩ = some (.int .i64 p.d) ∧ w'.cell? ⟨w.heap.size, 10, none⟩ = some (.int .i64 p.g)) := Lib.hid fun w' h => Eleven h
  generalize chZ p = cf at *
  generalize unZ p = uf at *
  rw [hm] at hcs
  rw [hm] at HT
  rw [hcs] at HN B0 T0 hlt HT ⊢
  clear hcs hm
  generalize p.a = x0 at *
  generalize p.b = x1 at *
  generalize p.u0 = x2 at *
  generalize p.u1 = x3 at *
  generalize p.u2 = x4 at *
  generalize p.u3 = x5 at *
  generalize p.u4 = x6 at *
  generalize p.h = h at *
  generalize p.d = x9 at *
  generalize p.g = g at *
  clear p
  generalize hLL : (chans m).length = LL at *
  go_enter Try.func7, Try.ntmps7
  go_wp2_with fail
  generalize w.alloc (.cells #[.int .u32 x0, .int .u32 x1, .int .i64 x2, .int .i64 x3, .int .i64 x4, .int .i64 x5, .int .i64 x6, .int .u64 (m : Int), .int .i64 h, .int .i64 x9, .int .i64 g] 37) = W0 at *
  refine (HL.out _).mono ?_
  rintro e w1 ⟨rfl, b1⟩
  have B1 := thenB B0 b1
  have T1 := T0.below b1 hlt
  have hlt1 := T1.lt
  clear B0 T0 b1 hlt W0
  obtain ⟨k0, k1, k2, k3, k4, k5, k6, k7, k8, k9, k10⟩ := HT.out _ T1
  by_cases h0 : LL = 0
  · subst h0
    go_wp2_with (go_at_call 19; refine (HC.out _).mono ?_; rintro e w2 ⟨rfl, b2⟩; have B2 := thenB B1 b2)
    go_ret
    exact ⟨rfl, B2⟩
  have q0 : (((LL : Nat) : Int) == 0) = false := by simpa using h0
  go_wp2_with (go_at_call 19; refine (HC.out _).mono ?_; rintro e w2 ⟨rfl, b2⟩; have B2 := thenB B1 b2; have T2 := T1.below b2 hlt1; clear k0 k1 k2 k3 k4 k5 k6 k7 k8 k9 k10)
  have hlt2 := T2.lt
  clear B1 T1 b2 hlt1
  go_loopw [1, 2, 7, 8, 9] (fun ev la se vi i wr => ∃ k E S V : Nat, ∃ L : Int, k ≤ 37 ∧ i = .int .i64 (k : Nat) ∧ ev = .int .u16 (E : Nat) ∧ la = .int .i64 L ∧ se = .int .i64 (S : Nat) ∧ vi = .int .u64 (V : Nat) ∧ E ≤ 65535 ∧ (-9223372036854775808 ≤ L ∧ L ≤ 9223372036854775807) ∧ Vis (g ≠ 2 ∧ h % 37 ≠ 0) l h k S V L ∧ Below w2.heap.size w2 wr) (fun _ _ _ _ i _ => 37 - (intOf i).toNat)
  case atStart => exact ⟨0, e, 0, 0, l, by omega, rfl, rfl, rfl, rfl, rfl, he, hl, vis_zero _ _ _, Below.refl _ _⟩
  case round =>
    obtain ⟨k, E, S, V, L, hk, rfl, rfl, rfl, rfl, rfl, hE, hL, hV, hB⟩ := hrel
    by_cases c1 : k < 37
    · obtain ⟨u, hu37, hu, hc, hsame, hsum⟩ := HX.out h0 E L hE
      obtain ⟨vA, vB⟩ := vis_step hV c1 hu37 (fun g => hsum g.1) (fun g => g.2)
      have HNx := Lib.hid fun w => HN.out E L w hE hL
      have T3 := T2.below hB hlt2
      have hlt3 := T3.lt
      obtain ⟨k0, k1, k2, k3, k4, k5, k6, k7, k8, k9, k10⟩ := HT.out _ T3
      rw [hu] at HNx
      clear hu hsum
      generalize cf E L = C at *
      have eE : IntKind.u16.wrap ((E : Int) + 1) = (((E + 1) % 65536 : Nat) : Int) := by rw [Ser.wrap_u16]; omega
      have hE2 : (E + 1) % 65536 ≤ 65535 := by omega
      have hV37 := hV.lt
      have hSk := hV.le
      clear hV hE hL
      generalize (E + 1) % 65536 = E2 at *
      by_cases hb : hasN m u = true
      · obtain rfl := hsame hb
        have HU := Lib.hid (rhas_to hm1 hb)
        clear hb hsame hc
        by_cases hv : hasN V u = true
        · have HV := Lib.hid (rhas_to (m := V) (by omega) hv)
          have HA := Lib.hid (vA hv)
          clear vA vB hv
          go_wp2_with (first
            | (go_at_call 17; refine (HNx.out _).mono ?_; clear HNx; rintro e w3 ⟨rfl, b3⟩; have B3 := hB.trans (b3.mono hB.size); have T4 := T3.below b3 hlt3; clear k0 k1 k2 k3 k4 k5 k6 k7 k8 k9 k10; obtain ⟨k0, k1, k2, k3, k4, k5, k6, k7, k8, k9, k10⟩ := HT.out _ T4)
            | (go_at_call_of 20 m; refine (HU.out _).mono ?_; rintro e w' ⟨rfl, rfl⟩)
            | (go_at_call_of 20 V; refine (HV.out _).mono ?_; rintro e w' ⟨rfl, rfl⟩))
          go_roundw
          case rel => exact ⟨k + 1, E2, S, V, u, by omega, by go_num, rfl, rfl, rfl, rfl, hE2, by omega, HA.out, B3⟩
          case measure => simp [intOf]; omega
        · have hv' : hasN V u = false := by simpa using hv
          have HV := Lib.hid (rhas_to (m := V) (by omega) hv')
          have HA := Lib.hid (vB hv')
          have hpw := new_lt hV37 hu37 hv'
          have HOf := Lib.hid fun g w => rof_one g u w (by omega)
          clear vA vB hv hv'
          generalize 2 ^ u = Q at *
          go_wp2_with (first
            | (go_at_call 17; refine (HNx.out _).mono ?_; clear HNx; rintro e w3 ⟨rfl, b3⟩; have B3 := hB.trans (b3.mono hB.size); have T4 := T3.below b3 hlt3; clear k0 k1 k2 k3 k4 k5 k6 k7 k8 k9 k10; obtain ⟨k0, k1, k2, k3, k4, k5, k6, k7, k8, k9, k10⟩ := HT.out _ T4)
            | (go_at_call_of 20 m; refine (HU.out _).mono ?_; rintro e w' ⟨rfl, rfl⟩)
            | (go_at_call_of 20 V; refine (HV.out _).mono ?_; rintro e w' ⟨rfl, rfl⟩)
            | (go_at_call 21; refine (HOf.out _ _ ((Blk.fresh _ 3 #[.int .i64 u]).cell 0)).mono ?_; rintro e w' ⟨rfl, rfl⟩))
          go_roundw
          case rel => exact ⟨k + 1, E2, S + 1, V + Q, u, by omega, by go_num, rfl, rfl, by go_num, by go_num, hE2, by omega, HA.out, B3.alloc B3.size _⟩
          case measure => simp [intOf]; omega
      · have hb' : hasN m u = false := by simpa using hb
        have HU := Lib.hid (rhas_to hm1 hb')
        have HC2 := Lib.hid (rhas_toZ hm1 hc)
        clear hb hb' hsame hc
        by_cases hv : hasN V u = true
        · have HV := Lib.hid (rhas_to (m := V) (by omega) hv)
          have HA := Lib.hid (vA hv)
          clear vA vB hv
          go_wp2_with (first
            | (go_at_call 17; refine (HNx.out _).mono ?_; clear HNx; rintro e w3 ⟨rfl, b3⟩; have B3 := hB.trans (b3.mono hB.size); have T4 := T3.below b3 hlt3; clear k0 k1 k2 k3 k4 k5 k6 k7 k8 k9 k10; obtain ⟨k0, k1, k2, k3, k4, k5, k6, k7, k8, k9, k10⟩ := HT.out _ T4)
            | (go_at_call_of 20 C; refine (HC2.out _).mono ?_; rintro e w' ⟨rfl, rfl⟩)
            | (go_at_call_of 20 m; refine (HU.out _).mono ?_; rintro e w' ⟨rfl, rfl⟩)
            | (go_at_call_of 20 V; refine (HV.out _).mono ?_; rintro e w' ⟨rfl, rfl⟩))
          go_roundw
          case rel => exact ⟨k + 1, E2, S, V, u, by omega, by go_num, rfl, rfl, rfl, rfl, hE2, by omega, HA.out, B3⟩
          case measure => simp [intOf]; omega
        · have hv' : hasN V u = false := by simpa using hv
          have HV := Lib.hid (rhas_to (m := V) (by omega) hv')
          have HA := Lib.hid (vB hv')
          have hpw := new_lt hV37 hu37 hv'
          have HOf := Lib.hid fun g w => rof_one g u w (by omega)
          clear vA vB hv hv'
          generalize 2 ^ u = Q at *
          go_wp2_with (first
            | (go_at_call 17; refine (HNx.out _).mono ?_; clear HNx; rintro e w3 ⟨rfl, b3⟩; have B3 := hB.trans (b3.mono hB.size); have T4 := T3.below b3 hlt3; clear k0 k1 k2 k3 k4 k5 k6 k7 k8 k9 k10; obtain ⟨k0, k1, k2, k3, k4, k5, k6, k7, k8, k9, k10⟩ := HT.out _ T4)
            | (go_at_call_of 20 C; refine (HC2.out _).mono ?_; rintro e w' ⟨rfl, rfl⟩)
            | (go_at_call_of 20 m; refine (HU.out _).mono ?_; rintro e w' ⟨rfl, rfl⟩)
            | (go_at_call_of 20 V; refine (HV.out _).mono ?_; rintro e w' ⟨rfl, rfl⟩)
            | (go_at_call 21; refine (HOf.out _ _ ((Blk.fresh _ 3 #[.int .i64 u]).cell 0)).mono ?_; rintro e w' ⟨rfl, rfl⟩))
          go_roundw
          case rel => exact ⟨k + 1, E2, S + 1, V + Q, u, by omega, by go_num, rfl, rfl, by go_num, by go_num, hE2, by omega, HA.out, B3.alloc B3.size _⟩
          case measure => simp [intOf]; omega
    · obtain rfl : k = 37 := by omega
      have T3 := T2.below hB hlt2
      obtain ⟨k0, k1, k2, k3, k4, k5, k6, k7, k8, k9, k10⟩ := HT.out _ T3
      have BW := B2.trans (hB.mono B2.size)
      have hon := hV.on
      clear hV
      by_cases hg : g = 2
      · have hg' : (g == 2) = true := by simpa using hg
        clear hg hon
        go_wp2_with fail
        go_ret
        exact ⟨rfl, BW⟩
      · have hg' : (g == 2) = false := by simpa using hg
        have hz := tmod_zero h
        by_cases hh0 : h % 37 = 0
        · rw [decide_eq_true hh0] at hz
          clear hg hon hh0
          go_wp2_with fail
          go_ret
          exact ⟨rfl, BW⟩
        · rw [decide_eq_false hh0] at hz
          obtain ⟨rfl, _, _⟩ := hon ⟨hg, hh0⟩
          clear hg hon hh0
          go_wp2_with fail
          go_ret
          exact ⟨rfl, BW⟩
end Go.Proofs.Ytmfljplibcodpaa.Hop
