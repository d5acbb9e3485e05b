/- Reading a map from a text: a channel, a range, the whole: contracts over the program. -/
import Derived.Test.YtkpjpjjpjpimiaaDoorChmParse
set_option linter.unusedVariables false
set_option linter.unusedSimpArgs false
namespace Go.Proofs.YtkpjpjjpjpimiaaDoor.Chm
open Go.RowKit Mem Base

/-- The channel that a text names. -/
def chanO (l : List UInt8) : Option Nat :=
  match Lib.atoiAll l with
  | .ok v => if 0 ≤ v ∧ v < 37 then some v.toNat else none
  | _ => none
theorem chanO_lt {l : List UInt8} {c : Nat} (h : chanO l = some c) : c < 37 := by
  unfold chanO at h
  split at h
  · split at h
    · cases h; omega
    · cases h
  · cases h
def oN (o : Option Nat) : Int := (o.getD 0 : Nat)
theorem channel_any (s : ByteArray) (w : World) (hs : s.size ≤ 281474976710656) (hE : Errs w) :
    Calls Tryd.prog 59 #[.string s] w fun e w' => e = .returned (.tuple #[.int .i64 (oN (chanO s.data.toList)), .bool (chanO s.data.toList).isSome]) ∧ Below w.heap.size w w' := by
  cases h : Lib.atoiAll s.data.toList with
  | ok v =>
    obtain ⟨b1, b2⟩ := Lib.atoiAll_bounds h
    have HA : Hid (∀ w, Calls Tryd.prog 69 #[.string s] w fun e w' => e = .returned (.tuple #[.int .i64 v, .nilIface]) ∧ Below w.heap.size w w') := Lib.hid fun w =>
      (Tryd.strconv_Atoi_ok s (by omega) v h w).mono fun e w' ⟨h1, h2⟩ => ⟨h1, by
        rcases h2 with rfl | ⟨t, rfl⟩
        · exact Below.refl _ _
        · exact Lib.bytesWorld_below _ _ _⟩
    by_cases h0 : 0 ≤ v
    · by_cases h1 : v < 37
      · have hc : chanO s.data.toList = some v.toNat := by unfold chanO; rw [h]; exact if_pos ⟨h0, h1⟩
        rw [hc, show oN (some v.toNat) = v by simp [oN]; omega]
        clear hc h
        go_enter Tryd.func59, Tryd.ntmps59
        go_wp2_with (go_at_call 69; refine (HA.out _).mono ?_; rintro e w' ⟨rfl, hb⟩)
        go_ret2
        exact ⟨rfl, hb⟩
      · have hc : chanO s.data.toList = none := by unfold chanO; rw [h]; exact if_neg (by omega)
        rw [hc]
        clear hc h
        go_enter Tryd.func59, Tryd.ntmps59
        go_wp2_with (go_at_call 69; refine (HA.out _).mono ?_; rintro e w' ⟨rfl, hb⟩)
        go_ret2
        exact ⟨rfl, hb⟩
    · have hc : chanO s.data.toList = none := by unfold chanO; rw [h]; exact if_neg (by omega)
      rw [hc]
      clear hc h
      go_enter Tryd.func59, Tryd.ntmps59
      go_wp2_with (go_at_call 69; refine (HA.out _).mono ?_; rintro e w' ⟨rfl, hb⟩)
      go_ret2
      exact ⟨rfl, hb⟩
  | «syntax» =>
    have hc : chanO s.data.toList = none := by unfold chanO; rw [h]
    rw [hc]
    obtain ⟨t, p, hv⟩ := hE.s
    have HA : Hid (∃ R : Ending → World → Prop, Calls Tryd.prog 69 #[.string s] w R ∧ ∀ e w', R e w' → ∃ x p, e = .returned (.tuple #[.int .i64 x, .iface 112 p]) ∧ Below w.heap.size w w') := Lib.hid ⟨_, Tryd.strconv_Atoi_syntax s hs h _ w hv (.inr ⟨_, _, rfl⟩), fun e w' ⟨N, h1, _, _, h4⟩ => ⟨_, _, h1, h4⟩⟩
    obtain ⟨R, hR, hI⟩ := HA.out
    clear HA hc h
    go_enter Tryd.func59, Tryd.ntmps59
    go_wp2_with (go_at_call 69; refine hR.mono ?_; intro e w' hr; obtain ⟨x, p, rfl, hb⟩ := hI e w' hr)
    go_ret2
    exact ⟨rfl, hb⟩
  | range =>
    have hc : chanO s.data.toList = none := by unfold chanO; rw [h]
    rw [hc]
    obtain ⟨t, p, hv⟩ := hE.r
    have HA : Hid (∃ R : Ending → World → Prop, Calls Tryd.prog 69 #[.string s] w R ∧ ∀ e w', R e w' → ∃ x p, e = .returned (.tuple #[.int .i64 x, .iface 112 p]) ∧ Below w.heap.size w w') := Lib.hid ⟨_, Tryd.strconv_Atoi_range s hs h _ w hv (.inr ⟨_, _, rfl⟩), fun e w' ⟨N, h1, _, _, h4⟩ => ⟨_, _, h1, h4⟩⟩
    obtain ⟨R, hR, hI⟩ := HA.out
    clear HA hc h
    go_enter Tryd.func59, Tryd.ntmps59
    go_wp2_with (go_at_call 69; refine hR.mono ?_; intro e w' hr; obtain ⟨x, p, rfl, hb⟩ := hI e w' hr)
    go_ret2
    exact ⟨rfl, hb⟩
/-- The channels from f on, n of them, put into a map. -/
def orN (m f : Nat) : Nat → Nat
  | 0 => m
  | n + 1 => orN m f n ||| 2 ^ (f + n)
theorem orN_lt {m f : Nat} (hm : m < 137438953472) : ∀ n, f + n ≤ 37 → orN m f n < 137438953472 := by
  intro n
  induction n with
  | zero => intro _; exact hm
  | succ n ih =>
    intro h
    have h1 := ih (by omega)
    have h2 : 2 ^ (f + n) < 137438953472 := by
      have : 2 ^ (f + n) ≤ 2 ^ 36 := Nat.pow_le_pow_right (by decide) (by omega)
      omega
    exact Nat.or_lt_two_pow (n := 37) h1 h2
/-- The map of the channels that a part of a text names. -/
def rangeO (l : List UInt8) : Option Nat :=
  match chanO (Lib.cut l [45]).1, chanO (if (Lib.cut l [45]).2.2 then (Lib.cut l [45]).2.1 else (Lib.cut l [45]).1) with
  | some f, some g => some (orN 0 f (g + 1 - f))
  | _, _ => none
theorem rangeO_lt {l : List UInt8} {m : Nat} (h : rangeO l = some m) : m < 137438953472 := by
  unfold rangeO at h
  split at h
  · rename_i f g h1 h2
    cases h
    have := chanO_lt h2
    have := chanO_lt h1
    by_cases hfg : f ≤ g + 1
    · exact orN_lt (by decide) _ (by omega)
    · rw [show g + 1 - f = 0 by omega]; show (0 : Nat) < 137438953472; decide
  · cases h
theorem size_toList (s : ByteArray) : s.size = s.data.toList.length := rfl
theorem cut_len1 (l : List UInt8) : (Lib.cut l [45]).1.length ≤ l.length := by
  unfold Lib.cut; split
  · rw [List.length_take]; omega
  · exact Nat.le_refl _
theorem cut_len2 (l : List UInt8) : (Lib.cut l [45]).2.1.length ≤ l.length := by
  unfold Lib.cut; split
  · rw [List.length_drop]; omega
  · exact Nat.zero_le _
theorem range_any (s : ByteArray) (w : World) (hs : s.size ≤ 281474976710656) (hE : Errs w) :
    Calls Tryd.prog 45 #[.string s] w fun e w' => e = .returned (.tuple #[.int .u64 (oN (rangeO s.data.toList)), .bool (rangeO s.data.toList).isSome]) ∧ Below w.heap.size w w' := by
  have HC := Lib.hid fun w => cut_any s w hs
  have l1 := cut_len1 s.data.toList
  have l2 := cut_len2 s.data.toList
  have hl : s.data.toList.length ≤ 281474976710656 := hs
  have hr : rangeO s.data.toList = match chanO (Lib.cut s.data.toList [45]).1, chanO (if (Lib.cut s.data.toList [45]).2.2 then (Lib.cut s.data.toList [45]).2.1 else (Lib.cut s.data.toList [45]).1) with
    | some f, some g => some (orN 0 f (g + 1 - f))
    | _, _ => none := rfl
  generalize rangeO s.data.toList = R at *
  generalize (Lib.cut s.data.toList [45]).1 = A at *
  generalize (Lib.cut s.data.toList [45]).2.1 = B at *
  generalize (Lib.cut s.data.toList [45]).2.2 = C at *
  have HA : Hid (∀ w, Errs w → Calls Tryd.prog 59 #[.string ⟨A.toArray⟩] w fun e w' => e = .returned (.tuple #[.int .i64 (oN (chanO A)), .bool (chanO A).isSome]) ∧ Below w.heap.size w w') := Lib.hid fun w hE => channel_any ⟨A.toArray⟩ w (by show A.length ≤ _; omega) hE
  obtain ⟨D, hD⟩ : ∃ D, (if C = true then B else A) = D := ⟨_, rfl⟩
  have hDl : D.length ≤ 281474976710656 := by rw [← hD]; split <;> omega
  have HB : Hid (∀ w, Errs w → Calls Tryd.prog 59 #[.string ⟨D.toArray⟩] w fun e w' => e = .returned (.tuple #[.int .i64 (oN (chanO D)), .bool (chanO D).isSome]) ∧ Below w.heap.size w w') := Lib.hid fun w hE => channel_any ⟨D.toArray⟩ w (by show D.length ≤ _; omega) hE
  rw [hD] at hr
  have hF : ∀ f, chanO A = some f → f < 37 := fun f h => chanO_lt h
  have hG : ∀ f, chanO D = some f → f < 37 := fun f h => chanO_lt h
  generalize chanO A = F at *
  generalize chanO D = G at *
  have HD : Hid ((C = true → B = D) ∧ (C = false → A = D)) := Lib.hid ⟨fun h => by rw [← hD, if_pos h], fun h => by rw [← hD, if_neg (by rw [h]; decide)]⟩
  clear l1 l2 hl hD hDl hs
  have HE := Lib.hid hE
  clear hE
  cases F with
  | none =>
    subst hr
    cases C
    all_goals
      go_enter Tryd.func45, Tryd.ntmps45
      go_wp2_with (first
        | (go_at_call 58; refine (HC.out _).mono ?_; rintro e w1 ⟨rfl, b1⟩)
        | (go_at_call 59; refine (HA.out _ (HE.out.below b1)).mono ?_; rintro e w2 ⟨rfl, b2⟩))
      go_ret2
      exact ⟨rfl, thenB b1 b2⟩
  | some f =>
    have hf := hF f rfl
    cases G with
    | none =>
      subst hr
      cases C
      all_goals
        first
          | obtain rfl := HD.out.1 rfl
          | obtain rfl := HD.out.2 rfl
        go_enter Tryd.func45, Tryd.ntmps45
        go_wp2_with (first
          | (go_at_call 58; refine (HC.out _).mono ?_; rintro e w1 ⟨rfl, b1⟩)
          | (go_at_call 59; refine (HA.out _ (HE.out.below b1)).mono ?_; clear HA; rintro e w2 ⟨rfl, b2⟩; have B2 := thenB b1 b2)
          | (go_at_call 59; refine (HB.out _ (HE.out.below B2)).mono ?_; rintro e w3 ⟨rfl, b3⟩))
        go_ret2
        exact ⟨rfl, thenB B2 b3⟩
    | some g =>
      have hg := hG g rfl
      subst hr
      show Calls Tryd.prog 45 #[.string s] w fun e w' => e = .returned (.tuple #[.int .u64 ((orN 0 f (g + 1 - f) : Nat) : Int), .bool true]) ∧ Below w.heap.size w w'
      have HA2 : Hid (∀ w, Errs w → Calls Tryd.prog 59 #[.string ⟨A.toArray⟩] w fun e w' => e = .returned (.tuple #[.int .i64 (f : Nat), .bool true]) ∧ Below w.heap.size w w') := HA
      have HB2 : Hid (∀ w, Errs w → Calls Tryd.prog 59 #[.string ⟨D.toArray⟩] w fun e w' => e = .returned (.tuple #[.int .i64 (g : Nat), .bool true]) ∧ Below w.heap.size w w') := HB
      clear HA HB hF hG
      cases C
      all_goals
        first
          | obtain rfl := HD.out.1 rfl
          | obtain rfl := HD.out.2 rfl
        go_enter Tryd.func45, Tryd.ntmps45
        go_wp2_with (first
          | (go_at_call 58; refine (HC.out _).mono ?_; rintro e w1 ⟨rfl, b1⟩)
          | (go_at_call 59; refine (HA2.out _ (HE.out.below b1)).mono ?_; clear HA2; rintro e w2 ⟨rfl, b2⟩; have B2 := thenB b1 b2)
          | (go_at_call 59; refine (HB2.out _ (HE.out.below B2)).mono ?_; rintro e w3 ⟨rfl, b3⟩; have B3 := thenB B2 b3))
        go_loopw [10, 11] (fun s10 s11 wr => ∃ k : Nat, k ≤ g + 1 - f ∧ s10 = .int .u64 ((orN 0 f k : Nat) : Int) ∧ s11 = .int .i64 ((f + k : Nat) : Int) ∧ wr = w3) (fun _ s11 _ => 40 - (intOf s11).toNat)
        case atStart => exact ⟨0, by omega, rfl, rfl, rfl⟩
        case round =>
          obtain ⟨k, hk, rfl, rfl, rfl⟩ := hrel
          by_cases h1 : f + k ≤ g
          · have hs := Lib.hid fun w => single_any (f + k) w (by omega)
            have hb := orN_lt (m := 0) (f := f) (by decide) k (by omega)
            have hp := pow_le (f + k) (by omega)
            have ho : bits BinOp.or IntKind.u64 ((orN 0 f k : Nat) : Int) ((2 ^ (f + k) : Nat) : Int) = ((orN 0 f (k + 1) : Nat) : Int) := u64_or_nat _ _ (by omega) (by omega)
            have HK : Hid (k + 1 ≤ g + 1 - f) := Lib.hid (by omega)
            have HQ : Hid (f + (k + 1) = f + k + 1) := Lib.hid (by omega)
            clear hb hp
            generalize ((orN 0 f k : Nat) : Int) = M at *
            obtain ⟨M2, hM2⟩ : ∃ M2 : Int, ((orN 0 f (k + 1) : Nat) : Int) = M2 := ⟨_, rfl⟩
            rw [hM2] at ho
            have HM2 := Lib.hid hM2
            clear hM2
            generalize ((2 ^ (f + k) : Nat) : Int) = P at *
            generalize f + k = q at *
            have h2 : (q : Int) ≤ (g : Int) := by omega
            have hq : q ≤ 36 := by omega
            go_wp2_with (go_at_call 37; refine (hs.out _).mono ?_; rintro e w' ⟨rfl, rfl⟩)
            go_roundw
            case rel => exact ⟨k + 1, HK.out, by rw [HM2.out], by rw [HQ.out]; go_num, by trivial⟩
            case measure => simp [intOf]; omega
          · have hk2 : k = g + 1 - f ∨ f + k = f + k := .inr rfl
            have HEq : Hid (orN 0 f (g + 1 - f) = orN 0 f k) := Lib.hid (by rw [show g + 1 - f = k by omega])
            have h2 : ¬ (((f + k : Nat) : Int) ≤ (g : Int)) := by omega
            generalize orN 0 f k = M at *
            generalize f + k = q at *
            go_wp2
            go_ret2
            exact ⟨by rw [HEq.out]; rfl, B3⟩
end Go.Proofs.YtkpjpjjpjpimiaaDoor.Chm
