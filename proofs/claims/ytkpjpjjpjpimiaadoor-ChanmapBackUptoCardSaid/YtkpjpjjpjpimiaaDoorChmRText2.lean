/- The document's function that writes the text of a map, walked. -/
import Derived.Test.YtkpjpjjpjpimiaaDoorChmRText
set_option linter.unusedVariables false
set_option linter.unusedSimpArgs false
namespace Go.Proofs.YtkpjpjjpjpimiaaDoor.Chm
open Go.RowKit Mem Oct Base

theorem rhas_at (m : Nat) (c : Int) {b : Bool} (hm : m ≤ 18446744073709551615) (hb : hasZ m c = b) (w : World) :
    Calls Tryd.prog 15 #[.int .u64 m, .int .i64 c] w fun e w' => e = .returned (.bool b) ∧ w = w' := by
  rw [← hb]; exact rhas_any m c w hm
theorem hasZ_succ (m l : Nat) : hasZ m ((l : Int) + 1) = hasN m (l + 1) := by
  rw [show (l : Int) + 1 = ((l + 1 : Nat) : Int) by omega, hasZ_nat]
theorem str_ne {l : List UInt8} (h : l ≠ []) : ((⟨l.toArray⟩ : ByteArray) = ByteArray.empty) = False := by
  simp only [eq_iff_iff, iff_false]
  intro e
  have := congrArg (fun b : ByteArray => b.data.toList) e
  simp at this
  exact h this
theorem bcat (a b : List UInt8) : (⟨a.toArray⟩ : ByteArray) ++ ⟨b.toArray⟩ = ⟨(a ++ b).toArray⟩ := by rw [ByteArray.mk_append_mk]
set_option maxRecDepth 100000 in
set_option maxHeartbeats 2000000 in
theorem rtext_any (m : Nat) (w : World) (hm : m ≤ 18446744073709551615) :
    Calls Tryd.prog 35 #[.int .u64 m] w fun e w' => e = .returned (.string ⟨(textL m).toArray⟩) ∧ Below w.heap.size w w' := by
  have HT : Hid ((⟨(textN m 37).toArray⟩ : ByteArray) = ⟨(textL m).toArray⟩) := Lib.hid rfl
  generalize (⟨(textL m).toArray⟩ : ByteArray) = TT at *
  go_enter Tryd.func35, Tryd.ntmps35
  go_wp2_with fail
  go_loopw [3, 4, 5] (fun s3 s4 _ wr => ∃ k : Nat, k ≤ 37 ∧ s4 = .int .i64 (k : Nat) ∧ s3 = .string ⟨(textN m k).toArray⟩ ∧ Below w.heap.size w wr) (fun _ s4 _ _ => 37 - (intOf s4).toNat)
  case atStart => exact ⟨0, by omega, rfl, rfl, Below.refl _ _⟩
  case round =>
    obtain ⟨k, hk, rfl, rfl, hB⟩ := hrel
    have hl := textN_len m k hk
    by_cases h1 : k < 37
    · by_cases hb : hasN m k = true
      · have HH := Lib.hid (rhas_to hm hb)
        by_cases hs : st m k = true
        · have hz := st_has hs
          have HP := Lib.hid (rhas_at m ((k : Int) - 1) hm hz)
          obtain ⟨L, hL⟩ : ∃ L, lastN m k = L := ⟨_, rfl⟩
          have hLt := last_lt hb
          have hLe := last_ge m k
          have hLend := last_end m k
          have HI : Hid (∀ l, k ≤ l → l < L → hasZ m ((l : Int) + 1) = true) := Lib.hid fun l h1 h2 => by
            rw [hasZ_succ]; exact last_in hb (by omega) (by omega)
          have HE : Hid (hasZ m ((L : Int) + 1) = false) := Lib.hid (by rw [hasZ_succ, ← hL]; exact hLend)
          have HS := Lib.hid (textN_yes hb hs)
          rw [hL] at hLt hLe HS
          have HN1 := Lib.hid fun w => rnumber_any k w (by omega)
          have HN2 := Lib.hid fun w => rnumber_any L w (by omega)
          have d1 := dec_len (u := k) (by omega)
          have d2 := dec_len (u := L) (by omega)
          have hpt : Hid (part (k, L) = if k < L then Lib.decDigits k ++ 45 :: Lib.decDigits L else Lib.decDigits k) := Lib.hid rfl
          clear hL hLend hz hb hs
          generalize textN m k = T at *
          generalize Lib.decDigits k = D1 at *
          generalize Lib.decDigits L = D2 at *
          go_wp2_with (first
            | (go_at_call 15; refine (HH.out _).mono ?_; clear HH; rintro e w' ⟨rfl, rfl⟩)
            | (go_at_call 15; refine (HP.out _).mono ?_; rintro e w' ⟨rfl, rfl⟩))
          go_loop [5] (fun s5 => ∃ l : Nat, k ≤ l ∧ l ≤ L ∧ s5 = .int .i64 (l : Nat)) (fun s5 => 37 - (intOf s5).toNat)
          case atStart => exact ⟨k, by omega, hLe, rfl⟩
          case round =>
            obtain ⟨l, hl1, hl2, rfl⟩ := hrel
            by_cases hl : l < L
            · have HX := Lib.hid (rhas_at m ((l : Int) + 1) hm (HI.out l hl1 hl))
              go_wp2_with (go_at_call 15; refine (HX.out _).mono ?_; rintro e w' ⟨rfl, rfl⟩)
              go_round
              case rel => exact ⟨l + 1, by omega, by omega, by go_num⟩
              case measure => simp [intOf]; omega
            · obtain rfl : l = L := by omega
              have HX := Lib.hid (rhas_at m ((l : Int) + 1) hm HE.out)
              by_cases hT : T = []
              · subst hT
                by_cases hlt : k < l
                · go_wp2_with (first
                    | (go_at_call 15; refine (HX.out _).mono ?_; clear HX; rintro e w' ⟨rfl, rfl⟩)
                    | (go_at_call 51; refine (HN1.out _).mono ?_; clear HN1; rintro e w1 ⟨rfl, b1⟩)
                    | (go_at_call 51; refine (HN2.out _).mono ?_; rintro e w2 ⟨rfl, b2⟩))
                  go_roundw
                  case rel => exact ⟨k + 1, by omega, by go_num, congrArg Value.string (by simp only [bcat]; rw [HS.out, if_pos trivial, hpt.out, if_pos hlt]; simp), thenB (thenB hB b1) b2⟩
                  case measure => simp [intOf]; omega
                · go_wp2_with (first
                    | (go_at_call 15; refine (HX.out _).mono ?_; clear HX; rintro e w' ⟨rfl, rfl⟩)
                    | (go_at_call 51; refine (HN1.out _).mono ?_; clear HN1; rintro e w1 ⟨rfl, b1⟩))
                  go_roundw
                  case rel => exact ⟨k + 1, by omega, by go_num, congrArg Value.string (by simp only [bcat]; rw [HS.out, if_pos trivial, hpt.out, if_neg hlt]; simp), thenB hB b1⟩
                  case measure => simp [intOf]; omega
              · have hT1 : (!T.isEmpty) = true := by cases T <;> simp_all
                by_cases hlt : k < l
                · go_wp2_with (first
                    | (go_at_call 15; refine (HX.out _).mono ?_; clear HX; rintro e w' ⟨rfl, rfl⟩)
                    | (go_at_call 51; refine (HN1.out _).mono ?_; clear HN1; rintro e w1 ⟨rfl, b1⟩)
                    | (go_at_call 51; refine (HN2.out _).mono ?_; rintro e w2 ⟨rfl, b2⟩))
                  go_roundw
                  case rel => exact ⟨k + 1, by omega, by go_num, congrArg Value.string (by simp only [bcat]; rw [HS.out, if_neg hT, hpt.out, if_pos hlt]; simp), thenB (thenB hB b1) b2⟩
                  case measure => simp [intOf]; omega
                · go_wp2_with (first
                    | (go_at_call 15; refine (HX.out _).mono ?_; clear HX; rintro e w' ⟨rfl, rfl⟩)
                    | (go_at_call 51; refine (HN1.out _).mono ?_; clear HN1; rintro e w1 ⟨rfl, b1⟩))
                  go_roundw
                  case rel => exact ⟨k + 1, by omega, by go_num, congrArg Value.string (by simp only [bcat]; rw [HS.out, if_neg hT, hpt.out, if_neg hlt]; simp), thenB hB b1⟩
                  case measure => simp [intOf]; omega
        · have hs' : st m k = false := by simpa using hs
          have hz := st_not hs'
          have HP := Lib.hid (rhas_at m ((k : Int) - 1) hm hz)
          have HS := Lib.hid (textN_mid hb hs')
          clear hb hs hs' hz
          generalize textN m k = T at *
          go_wp2_with (first
            | (go_at_call 15; refine (HH.out _).mono ?_; clear HH; rintro e w' ⟨rfl, rfl⟩)
            | (go_at_call 15; refine (HP.out _).mono ?_; rintro e w' ⟨rfl, rfl⟩))
          go_roundw
          case rel => exact ⟨k + 1, by omega, by go_num, by rw [HS.out], hB⟩
          case measure => simp [intOf]; omega
      · have hb' : hasN m k = false := by simpa using hb
        have HH := Lib.hid (rhas_to hm hb')
        have HS := Lib.hid (textN_no hb')
        clear hb hb'
        generalize textN m k = T at *
        go_wp2_with (go_at_call 15; refine (HH.out _).mono ?_; rintro e w' ⟨rfl, rfl⟩)
        go_roundw
        case rel => exact ⟨k + 1, by omega, by go_num, by rw [HS.out], hB⟩
        case measure => simp [intOf]; omega
    · obtain rfl : k = 37 := by omega
      go_wp2_with fail
      go_ret
      exact ⟨by rw [HT.out]; rfl, hB⟩
end Go.Proofs.YtkpjpjjpjpimiaaDoor.Chm
