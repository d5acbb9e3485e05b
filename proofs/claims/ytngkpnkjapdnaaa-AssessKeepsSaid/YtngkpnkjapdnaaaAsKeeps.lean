/- The statement on what a proposal keeps, walked: it returns true. -/
import Derived.Test.YtngkpnkjapdnaaaAsLaws2
set_option linter.unusedVariables false
set_option linter.unusedSimpArgs false
namespace Go.Proofs.Ytngkpnkjapdnaaa.As
open Go.RowKit Mem Chm Base

/-- What is known of a proposal. -/
structure Kept (fs : List (Int × Int)) (m x K : Nat) : Prop where
  lt : x < 137438953472
  sub : ∀ c, hasN x c = true → hasN m c = true
  big : K ≤ (chans x).length
  bad : ∀ c, hasN m c = true → hasN x c = false → badB (tal fs c) = true
  same : ∀ c, hasN x c = true → badB (tal fs c) = true → (chans x).length = K
  ord : ∀ c d, hasN x c = true → badB (tal fs c) = true → hasN m d = true → hasN x d = false → rateZ (tal fs c) ≤ rateZ (tal fs d)
theorem kept_pro (fs : List (Int × Int)) (m : Nat) (least : Int) : Kept fs m (proZ fs m least) (min (leN least) (chans m).length) := by
  have hM : m % 137438953472 < 137438953472 := Nat.mod_lt _ (by decide)
  obtain ⟨h, hf⟩ := left_pro (fs := fs) (least := leN least) (M := m % 137438953472) 37 _ (chans_le _) (left_self _ _ _)
  have hle := pro_le (fs := fs) (least := leN least) 37 (m % 137438953472)
  have hx : pro fs (leN least) 37 (m % 137438953472) = proZ fs m least := rfl
  rw [hx] at h hf hle
  have hmono := count_mono h.sub
  rw [chans_mod] at hmono
  have hbig := h.big
  rw [chans_mod] at hbig
  refine ⟨by omega, fun c hc => by rw [← has_mod]; exact h.sub c hc, hbig, fun c hc hc' => h.bad c (by rw [has_mod]; exact hc) hc', fun c hc hcb => ?_, fun c d hc hcb hd hd' => h.ord c d hc hcb (by rw [has_mod]; exact hd) hd'⟩
  rcases hf with hf | hf
  · omega
  · have := hf c hc; rw [hcb] at this; cases this
theorem rhas_at {m c : Nat} {b : Bool} (hm : m ≤ 18446744073709551615) (hb : hasN m c = b) : Hid (∀ w, Calls Try.prog 25 #[.int .u64 m, .int .i64 c] w fun e w' => e = .returned (.bool b) ∧ w = w') := Lib.hid fun w => rhas_to hm hb w
set_option maxRecDepth 100000 in
set_option maxHeartbeats 4000000 in
theorem ordered_any (A : Option Addr) (n c : Nat) (fs : List (Int × Int)) (m x K : Nat) (w : World) (hl : fs.length = n) (hr : PairsAt w w.heap.size A fs) (hn : n ≤ 8796093022208) (hm : m ≤ 18446744073709551615) (hk : Kept fs m x K) :
    Calls Try.prog 27 #[.slice A n c, .int .u64 m, .int .u64 x, .int .i64 K] w fun e w' => e = .returned (.bool true) ∧ Below w.heap.size w w' := by
  have hx : x ≤ 18446744073709551615 := by have := hk.lt; omega
  have HS := Lib.hid hk.same
  have HO := Lib.hid hk.ord
  have HCt := Lib.hid fun w => rcount_any x w hx
  have HOf : Hid (∀ (j : Nat) w, PairsAt w w.heap.size A fs → Calls Try.prog 26 #[.slice A n c, .int .i64 j] w fun e w' => e = .returned (.agg #[.int .i64 (tal fs j).1, .int .i64 (tal fs j).2]) ∧ Below w.heap.size w w') := Lib.hid fun j w h => talof_any A n c j fs w hl h
  clear hk hl
  go_enter Try.func27, Try.ntmps27
  go_wp2_with fail
  go_loopw [9, 10] (fun s9 s10 wr => ∃ k : Nat, k ≤ 37 ∧ s9 = .int .i64 (k : Nat) ∧ Below w.heap.size w wr) (fun s9 _ _ => 37 - (intOf s9).toNat)
  case atStart => exact ⟨0, by omega, rfl, Below.refl _ _⟩
  case round =>
    obtain ⟨k, hk, rfl, hB⟩ := hrel
    by_cases c1 : k < 37
    · by_cases hb : hasN x k = true
      · have HH := rhas_at hx hb
        have P1 := hr.later hB
        obtain ⟨f1, f2, ht⟩ : ∃ f1 f2, tal fs k = (f1, f2) := ⟨_, _, rfl⟩
        have HO1 : Hid (∀ w, PairsAt w w.heap.size A fs → Calls Try.prog 26 #[.slice A n c, .int .i64 k] w fun e w' => e = .returned (.agg #[.int .i64 f1, .int .i64 f2]) ∧ Below w.heap.size w w') := Lib.hid fun w h => by
          have := HOf.out k w h
          rwa [ht] at this
        by_cases hbd : badB (f1, f2) = true
        · have HB := Lib.hid (bad_to hbd)
          have hc2 : (chans x).length = K := HS.out k hb (by rw [ht]; exact hbd)
          have HR1 := Lib.hid (rate_any f1 f2)
          have HLe : Hid (∀ d, hasN m d = true → hasN x d = false → rateZ (f1, f2) ≤ rateZ (tal fs d)) := Lib.hid fun d h1 h2 => by
            have := HO.out k d hb (by rw [ht]; exact hbd) h1 h2
            rwa [ht] at this
          rw [hc2] at HCt
          clear hbd hb ht hc2
          generalize rateZ (f1, f2) = R1 at *
          go_wp2_with (first
            | (go_at_call 25; refine (HH.out _).mono ?_; clear HH; rintro e w' ⟨rfl, rfl⟩)
            | (go_at_call 26; refine (HO1.out _ P1).mono ?_; rintro e w2 ⟨rfl, b2⟩; have B2 := thenB hB b2)
            | (go_at_call 18; refine (HB.out _).mono ?_; rintro e w3 ⟨rfl, b3⟩; have B3 := thenB B2 b3)
            | (go_at_call 24; refine (HCt.out _).mono ?_; rintro e w4 ⟨rfl, b4⟩; have B4 := thenB B3 b4))
          have hsz4 := B4.size
          go_loopw [10] (fun s10 wr2 => ∃ d : Nat, d ≤ 37 ∧ s10 = .int .i64 (d : Nat) ∧ Below w4.heap.size w4 wr2) (fun s10 _ => 37 - (intOf s10).toNat)
          case atStart => exact ⟨0, by omega, rfl, Below.refl _ _⟩
          case round =>
            obtain ⟨d, hd, rfl, hB5⟩ := hrel
            have BB := B4.trans (hB5.mono hsz4)
            by_cases c2 : d < 37
            · by_cases hmd : hasN m d = true
              · have HM := rhas_at hm hmd
                by_cases hxd : hasN x d = true
                · have HX := rhas_at hx hxd
                  clear hmd hxd
                  go_wp2_with (first
                    | (go_at_call_of 25 m; refine (HM.out _).mono ?_; rintro e w' ⟨rfl, rfl⟩)
                    | (go_at_call_of 25 x; refine (HX.out _).mono ?_; rintro e w' ⟨rfl, rfl⟩))
                  go_roundw
                  case rel => exact ⟨d + 1, by omega, by go_num, hB5⟩
                  case measure => simp [intOf]; omega
                · have HX := rhas_at hx (by simpa using hxd : hasN x d = false)
                  have P5 := hr.later BB
                  obtain ⟨e1, e2, ht'⟩ : ∃ f1 f2, tal fs d = (f1, f2) := ⟨_, _, rfl⟩
                  have HO2 : Hid (∀ w, PairsAt w w.heap.size A fs → Calls Try.prog 26 #[.slice A n c, .int .i64 d] w fun e w' => e = .returned (.agg #[.int .i64 e1, .int .i64 e2]) ∧ Below w.heap.size w w') := Lib.hid fun w h => by
                    have := HOf.out d w h
                    rwa [ht'] at this
                  have HR2 := Lib.hid (rate_any e1 e2)
                  have hle := HLe.out d hmd (by simpa using hxd)
                  rw [ht'] at hle
                  generalize rateZ (e1, e2) = R2 at *
                  have hRd : decide (R2 < R1) = false := decide_eq_false (by omega)
                  clear hmd hxd ht' hle
                  go_wp2_with (first
                    | (go_at_call_of 25 m; refine (HM.out _).mono ?_; rintro e w' ⟨rfl, rfl⟩)
                    | (go_at_call_of 25 x; refine (HX.out _).mono ?_; rintro e w' ⟨rfl, rfl⟩)
                    | (go_at_call_of 26 d; refine (HO2.out _ P5).mono ?_; rintro e w6 ⟨rfl, b6⟩; have B6 := hB5.trans (b6.mono hB5.size); have P6 := P5.later b6)
                    | (go_at_call_of 16 e1; refine (HR2.out _).mono ?_; rintro e w7 ⟨rfl, b7⟩; have B7 := B6.trans (b7.mono B6.size); have P7 := P6.later b7)
                    | (go_at_call_of 26 k; refine (HO1.out _ P7).mono ?_; rintro e w8 ⟨rfl, b8⟩; have B8 := B7.trans (b8.mono B7.size))
                    | (go_at_call_of 16 f1; refine (HR1.out _).mono ?_; rintro e w9 ⟨rfl, b9⟩; have B9 := B8.trans (b9.mono B8.size)))
                  go_roundw
                  case rel => exact ⟨d + 1, by omega, by go_num, B9⟩
                  case measure => simp [intOf]; omega
              · have HM := rhas_at hm (by simpa using hmd : hasN m d = false)
                clear hmd
                go_wp2_with (go_at_call_of 25 m; refine (HM.out _).mono ?_; rintro e w' ⟨rfl, rfl⟩)
                go_roundw
                case rel => exact ⟨d + 1, by omega, by go_num, hB5⟩
                case measure => simp [intOf]; omega
            · obtain rfl : d = 37 := by omega
              go_wp2_with fail
              go_roundw
              case rel => exact ⟨k + 1, by omega, by go_num, BB⟩
              case measure => simp [intOf]; omega
        · have HB := Lib.hid (bad_to (by simpa using hbd : badB (f1, f2) = false))
          clear hbd hb ht
          go_wp2_with (first
            | (go_at_call 25; refine (HH.out _).mono ?_; clear HH; rintro e w' ⟨rfl, rfl⟩)
            | (go_at_call 26; refine (HO1.out _ P1).mono ?_; rintro e w2 ⟨rfl, b2⟩; have B2 := thenB hB b2)
            | (go_at_call 18; refine (HB.out _).mono ?_; rintro e w3 ⟨rfl, b3⟩; have B3 := thenB B2 b3))
          go_roundw
          case rel => exact ⟨k + 1, by omega, by go_num, B3⟩
          case measure => simp [intOf]; omega
      · have HH := rhas_at hx (by simpa using hb : hasN x k = false)
        clear hb
        go_wp2_with (go_at_call 25; refine (HH.out _).mono ?_; rintro e w' ⟨rfl, rfl⟩)
        go_roundw
        case rel => exact ⟨k + 1, by omega, by go_num, hB⟩
        case measure => simp [intOf]; omega
    · obtain rfl : k = 37 := by omega
      go_wp2_with fail
      go_ret
      exact ⟨rfl, hB⟩
set_option maxRecDepth 100000 in
set_option maxHeartbeats 4000000 in
theorem law_keeps (A : Option Addr) (n c : Nat) (fs : List (Int × Int)) (m : Nat) (least : Int) (w : World) (hl : fs.length = n) (hc : n ≤ c) (hr : PairsAt w w.heap.size A fs) (hb : Small fs) (hs : c * 16 ≤ 140737488351232) (hm : m ≤ 18446744073709551615) :
    Calls Try.prog 7 #[.slice A n c, .int .u64 m, .int .i64 least] w fun e w' => e = .returned (.bool true) ∧ Below w.heap.size w w' := by
  have HL := Lib.hid (lives_any w)
  by_cases h0 : 100 < n
  · have g0 : (100 : Int) < (n : Int) := by omega
    go_enter Try.func7, Try.ntmps7
    go_wp2_with (go_at_call 9; refine HL.out.mono ?_; rintro e w1 ⟨rfl, b1⟩)
    go_ret
    exact ⟨rfl, b1⟩
  · have g0 : ¬ (100 : Int) < (n : Int) := by omega
    have hn : n ≤ 8796093022208 := by omega
    have hk := kept_pro fs m least
    have H4 : Hid (∀ w, PairsAt w w.heap.size A fs → Calls Try.prog 14 #[.slice A n c] w fun e w' => ∃ A c, e = .returned (.slice A n c) ∧ PairsAt w' w'.heap.size A fs ∧ Below w.heap.size w w') := Lib.hid fun w h =>
      (copied_any A n c fs w hl h (by omega)).mono fun e w' h => by
        obtain ⟨A, c, he, _, hi, hb⟩ := h.read (n := n) hl
        exact ⟨A, c, he, hi, hb⟩
    have H5 : Hid (∀ A c w, PairsAt w w.heap.size A fs → Calls Try.prog 22 #[.slice A n c, .int .u64 m, .int .i64 least] w fun e w' => e = .returned (.int .u64 (proZ fs m least : Nat)) ∧ Below w.heap.size w w') := Lib.hid fun A c w h => propose_any A n c fs m least w hl h (by omega) hm
    have e2 : max 2 (min least 37) = ((leN least : Nat) : Int) := by unfold leN; omega
    have hN := leN_bd least
    have hle := chans_le m
    have e3 : min ((leN least : Nat) : Int) (((chans m).length : Nat) : Int) = ((min (leN least) (chans m).length : Nat) : Int) := by omega
    have hx37 := hk.lt
    have hx : proZ fs m least ≤ 18446744073709551615 := by omega
    have HOrd : Hid (∀ w, PairsAt w w.heap.size A fs → Calls Try.prog 27 #[.slice A n c, .int .u64 m, .int .u64 (proZ fs m least : Nat), .int .i64 (min (leN least) (chans m).length : Nat)] w fun e w' => e = .returned (.bool true) ∧ Below w.heap.size w w') := Lib.hid fun w h => ordered_any A n c fs m _ _ w hl h hn hm hk
    have HCm := Lib.hid fun w => rcount_any m w hm
    have HCx := Lib.hid fun w => rcount_any (proZ fs m least) w hx
    have hbig := hk.big
    have HSub := Lib.hid hk.sub
    have HBad := Lib.hid hk.bad
    have HOf : Hid (∀ (j : Nat) w, PairsAt w w.heap.size A fs → Calls Try.prog 26 #[.slice A n c, .int .i64 j] w fun e w' => e = .returned (.agg #[.int .i64 (tal fs j).1, .int .i64 (tal fs j).2]) ∧ Below w.heap.size w w') := Lib.hid fun j w h => talof_any A n c j fs w hl h
    clear hk
    generalize proZ fs m least = X at *
    generalize leN least = N at *
    generalize min N (chans m).length = K at *
    generalize (chans m).length = Lm at *
    generalize (chans X).length = Lx at *
    have e4 : (X : Int) / 137438953472 = 0 := by omega
    have g1 : decide ((Lx : Int) < (K : Int)) = false := decide_eq_false (by omega)
    have g1' : decide (Lx < K) = false := decide_eq_false (by omega)
    have g0' : decide ((100 : Int) < (n : Int)) = false := decide_eq_false g0
    clear hb hl hc
    go_enter Try.func7, Try.ntmps7
    go_wp2_with (first
      | (go_at_call 9; refine HL.out.mono ?_; rintro e w4 ⟨rfl, B4⟩; have P4 := hr.later B4)
      | (go_at_call 14; refine (H4.out _ P4).mono ?_; rintro e w5 ⟨A5, c5, rfl, Q5, b5⟩; have B5 := thenB B4 b5; have P5 := P4.later b5)
      | (go_at_call 22; refine (H5.out _ _ _ Q5).mono ?_; rintro e w6 ⟨rfl, b6⟩; have B6 := thenB B5 b6; have P6 := P5.later b6)
      | (go_at_call_of 24 m; refine (HCm.out _).mono ?_; rintro e w7 ⟨rfl, b7⟩; have B7 := thenB B6 b7; have P7 := P6.later b7)
      | (go_at_call_of 24 X; refine (HCx.out _).mono ?_; rintro e w8 ⟨rfl, b8⟩; have B8 := thenB B7 b8; have P8 := P7.later b8))
    have hsz := B8.size
    clear P4 P5 P6 P7 H4 H5 HCm HCx HL
    go_loopw [9] (fun s9 wr => ∃ k : Nat, k ≤ 37 ∧ s9 = .int .i64 (k : Nat) ∧ Below w8.heap.size w8 wr) (fun s9 _ => 37 - (intOf s9).toNat)
    case atStart => exact ⟨0, by omega, rfl, Below.refl _ _⟩
    case round =>
      obtain ⟨k, hk, rfl, hB⟩ := hrel
      by_cases c1 : k < 37
      · by_cases hb : hasN X k = true
        · have HX := rhas_at hx hb
          have HM := rhas_at hm (HSub.out k hb)
          clear hb
          go_wp2_with (first
            | (go_at_call_of 25 m; refine (HM.out _).mono ?_; rintro e w' ⟨rfl, rfl⟩)
            | (go_at_call_of 25 X; refine (HX.out _).mono ?_; rintro e w' ⟨rfl, rfl⟩))
          go_roundw
          case rel => exact ⟨k + 1, by omega, by go_num, hB⟩
          case measure => simp [intOf]; omega
        · have hb' : hasN X k = false := by simpa using hb
          have HX := rhas_at hx hb'
          by_cases hmk : hasN m k = true
          · have HM := rhas_at hm hmk
            have hbad := HBad.out k hmk hb'
            have P9 := P8.later hB
            obtain ⟨f1, f2, ht⟩ : ∃ f1 f2, tal fs k = (f1, f2) := ⟨_, _, rfl⟩
            rw [ht] at hbad
            have HO1 : Hid (∀ w, PairsAt w w.heap.size A fs → Calls Try.prog 26 #[.slice A n c, .int .i64 k] w fun e w' => e = .returned (.agg #[.int .i64 f1, .int .i64 f2]) ∧ Below w.heap.size w w') := Lib.hid fun w h => by
              have := HOf.out k w h
              rwa [ht] at this
            have HB := Lib.hid (bad_to hbad)
            clear hb hb' hmk hbad ht
            go_wp2_with (first
              | (go_at_call_of 25 m; refine (HM.out _).mono ?_; rintro e w' ⟨rfl, rfl⟩)
              | (go_at_call_of 25 X; refine (HX.out _).mono ?_; rintro e w' ⟨rfl, rfl⟩)
              | (go_at_call 26; refine (HO1.out _ P9).mono ?_; rintro e w9 ⟨rfl, b9⟩; have B9 := hB.trans (b9.mono hB.size))
              | (go_at_call 18; refine (HB.out _).mono ?_; rintro e w10 ⟨rfl, b10⟩; have B10 := B9.trans (b10.mono B9.size)))
            go_roundw
            case rel => exact ⟨k + 1, by omega, by go_num, B10⟩
            case measure => simp [intOf]; omega
          · have HM := rhas_at hm (by simpa using hmk : hasN m k = false)
            clear hb hb' hmk
            go_wp2_with (first
              | (go_at_call_of 25 m; refine (HM.out _).mono ?_; rintro e w' ⟨rfl, rfl⟩)
              | (go_at_call_of 25 X; refine (HX.out _).mono ?_; rintro e w' ⟨rfl, rfl⟩))
            go_roundw
            case rel => exact ⟨k + 1, by omega, by go_num, hB⟩
            case measure => simp [intOf]; omega
      · obtain rfl : k = 37 := by omega
        have P9 := P8.later hB
        have B9 := thenB B8 hB
        go_wp2_with (go_at_call 27; refine (HOrd.out _ P9).mono ?_; rintro e w10 ⟨rfl, b10⟩; have B10 := thenB B9 b10)
        go_ret
        exact ⟨rfl, B10⟩
end Go.Proofs.Ytngkpnkjapdnaaa.As
