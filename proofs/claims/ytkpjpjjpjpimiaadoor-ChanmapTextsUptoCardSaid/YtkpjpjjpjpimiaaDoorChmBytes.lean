/- Writing and reading maps by the document's own words, and the statement on bytes. -/
import Derived.Test.YtkpjpjjpjpimiaaDoorChmLives
import Derived.Test.YtkpjpjjpjpimiaaDoorChmRef
set_option linter.unusedVariables false
set_option linter.unusedSimpArgs false
namespace Go.Proofs.YtkpjpjjpjpimiaaDoor.Chm
open Go.RowKit Mem Oct Base

theorem rencode_any (m : Nat) (w : World) (hm : m ≤ 18446744073709551615) :
    Calls Tryd.prog 28 #[.int .u64 m] w fun e w' => Gives w w' e (encR m) := by
  have HC := Lib.hid fun w => rcheck_any m w hm
  by_cases h : okM m = 0
  · have hR : Hid (encR m = (numL 5 m, 0)) := Lib.hid (by unfold encR; rw [if_pos h])
    rw [h] at HC
    obtain ⟨r, hr⟩ : ∃ r, encR m = r := ⟨_, rfl⟩
    rw [hr] at hR ⊢
    have HN := Lib.hid fun w => rnum_any 5 m w (by omega) (by omega)
    rw [show (5 : Int).toNat = 5 from rfl] at HN
    have hl := numL_len 5 (m : Int)
    generalize numL 5 (m : Int) = L at *
    clear hr h
    go_enter Tryd.func28, Tryd.ntmps28
    go_wp2_with (first
      | (go_at_call 13; refine (HC.out _).mono ?_; rintro e w1 ⟨rfl, b1⟩)
      | (go_at_call 41; refine (HN.out _).mono ?_; intro e w2 m2; obtain ⟨A2, c2, rfl, o2, b2⟩ := m2.len hl; clear m2))
    go_ret2
    exact gives_of hR.out rfl hl (own_base o2 b1.size) (thenB b1 b2)
  · have hR : Hid (encR m = ([], okM m)) := Lib.hid (by unfold encR; rw [if_neg h])
    have hne : (okM m != 0) = true := by simpa using h
    clear h
    generalize okM m = k at *
    go_enter Tryd.func28, Tryd.ntmps28
    go_wp2_with (go_at_call 13; refine (HC.out _).mono ?_; rintro e w1 ⟨rfl, b1⟩)
    go_ret2
    exact gives_of hR.out rfl rfl (World.ownsRow_nil _ _ _ _) b1
theorem rdecode_any (A : Option Addr) (n c : Nat) (xs : List Int) (w : World) (hx : xs.length = n) (hn : n ≤ 140737488351232) (bxs : Bytes xs) (hr : Ints .u8 w w.heap.size A xs) :
    Calls Tryd.prog 30 #[.slice A n c] w fun e w' => e = .returned (.tuple #[.int .u64 (decR xs).1, .int .i64 (decR xs).2]) ∧ Below w.heap.size w w' := by
  by_cases h1 : n < 5
  · rw [show decR xs = (0, 3) by unfold decR; rw [if_pos (by omega)]]
    go_enter Tryd.func30, Tryd.ntmps30
    go_wp2
    go_ret2
    exact ⟨rfl, Below.refl _ _⟩
  · by_cases h2 : 5 < n
    · rw [show decR xs = (0, 2) by unfold decR; rw [if_neg (by omega), if_pos (by omega)]]
      go_enter Tryd.func30, Tryd.ntmps30
      go_wp2
      go_ret2
      exact ⟨rfl, Below.refl _ _⟩
    · have h5 : n = 5 := by omega
      subst h5
      have bv := valL_bd bxs
      rw [hx, show Ser.p2 (8 * 5) = 1099511627776 by decide] at bv
      obtain ⟨v, hve⟩ := Int.eq_ofNat_of_zero_le bv.1
      have HV := Lib.hid (value_any A 5 c xs w hx bxs hr (by omega))
      have HC := Lib.hid fun w => rcheck_any v w (by omega)
      have hdr : decR xs = if okM v = 0 then ((v : Int), 0) else (0, okM v) := by
        unfold decR; rw [if_neg (by omega), if_neg (by omega), hve]; rfl
      rw [hdr]
      rw [hve] at HV
      clear hdr bv hve h1 h2
      by_cases h : okM v = 0
      · rw [if_pos h]
        rw [h] at HC
        clear h
        go_enter Tryd.func30, Tryd.ntmps30
        go_wp2_with (first
          | (go_at_call 43; refine HV.out.mono ?_; rintro e w1 ⟨rfl, rfl⟩)
          | (go_at_call 13; refine (HC.out _).mono ?_; rintro e w2 ⟨rfl, b2⟩))
        go_ret2
        exact ⟨rfl, b2⟩
      · rw [if_neg h]
        have hne : (okM v != 0) = true := by simpa using h
        clear h
        generalize okM v = k at *
        go_enter Tryd.func30, Tryd.ntmps30
        go_wp2_with (first
          | (go_at_call 43; refine HV.out.mono ?_; rintro e w1 ⟨rfl, rfl⟩)
          | (go_at_call 13; refine (HC.out _).mono ?_; rintro e w2 ⟨rfl, b2⟩))
        go_ret2
        exact ⟨rfl, b2⟩
theorem encR_facts (m : Nat) : Bytes (encR m).1 ∧ (encR m).1.length ≤ 5 := by
  unfold encR
  split
  · exact ⟨numL_bytes _ _, by show (numL 5 (m : Int)).length ≤ 5; rw [numL_len]; omega⟩
  · exact ⟨fun z hz => (by cases hz), by simp⟩
theorem law_bytes (m : Nat) (A : Option Addr) (n c : Nat) (xs : List Int) (w : World) (hm : m ≤ 18446744073709551615)
    (hx : xs.length = n) (hnc : n ≤ c) (hr : Ints .u8 w w.heap.size A xs) (bx : Bytes xs) (hs : c * 1 ≤ 140737488351232) (hE : Errs w) :
    Calls Tryd.prog 6 #[.int .u64 m, .slice A n c] w fun e w' => e = .returned (.bool true) ∧ Below w.heap.size w w' := by
  obtain ⟨i0, hi, hz0, hz1, hz2⟩ := info_parts info_u8
  obtain ⟨bR, lR⟩ := encR_facts m
  have H1 := Lib.hid fun w => encode_any m w hm
  have H2 := Lib.hid fun w => rencode_any m w hm
  have H3 : Hid (∀ (A : Option Addr) (c : Nat) (w : World), n ≤ c → Ints .u8 w w.heap.size A xs → Calls Tryd.prog 29 #[.slice A n c] w fun e w' => e = .returned (.tuple #[.int .u64 (decR xs).1, .int .i64 (decR xs).2]) ∧ Below w.heap.size w w') := Lib.hid fun A c w hc hr => decode_any A n c xs w hx hc (by omega) bx hr
  have H4 : Hid (∀ (A : Option Addr) (c : Nat) (w : World), Ints .u8 w w.heap.size A xs → Calls Tryd.prog 30 #[.slice A n c] w fun e w' => e = .returned (.tuple #[.int .u64 (decR xs).1, .int .i64 (decR xs).2]) ∧ Below w.heap.size w w') := Lib.hid fun A c w hr => rdecode_any A n c xs w hx (by omega) bx hr
  have HL := Lib.hid lives_any
  have Hx := Lib.hid hx
  generalize encR m = R at *
  obtain ⟨L, x⟩ := R
  generalize (decR xs).1 = X at *
  generalize (decR xs).2 = Y at *
  change Bytes L at bR
  change L.length ≤ 5 at lR
  generalize hq : L.length = q at *
  have Hq := Lib.hid hq
  clear hq hx
  go_enter Tryd.func6, Tryd.ntmps6
  go_wp2_with (first
    | (go_at_call 27; refine (H1.out _).mono ?_; intro e w1 m1; obtain ⟨A1, c1, rfl, o1, b1⟩ := m1; simp only [Hq.out] at o1; have j1 := Ints.own o1; have B1 := b1; simp only [Hq.out]; clear o1 b1)
    | (go_at_call 28; refine (H2.out _).mono ?_; intro e w2 m2; obtain ⟨A2, c2, rfl, o2, b2⟩ := m2; simp only [Hq.out] at o2; have j2 := Ints.own o2; have k1 := later j1 b2; have B2 := thenB B1 b2; simp only [Hq.out]; clear o2 b2 j1)
    | (at_builtin; refine wpList_append_ints rfl _ _ 35 rfl .u8 w2.heap.size 5 i0 _ 1 Tryd.underlying35 hi hz0 hz1 hz2 rfl (.slice (some ⟨w2.heap.size, 0, none⟩) 0 0) 0 [] rfl (World.ownsRow_made _ _ 0 (Nat.le_refl _) (by unfold maxLen; omega) rfl) w2.heap.size A n c xs rfl Hx.out ?c1 ?c2 ?c3 ?c4 ?_; (case c1 => exact (later hr B2).alloc (Nat.le_refl _) _); (case c2 => unfold maxLen; omega); (case c3 => omega); (case c4 => simp); intro v' w3 o3 b3' _; obtain ⟨A3, c3, rfl⟩ := own_form o3; simp only [Nat.zero_add, List.nil_append] at o3; have b3 : Below w2.heap.size w2 w3 := ((Below.refl _ _).alloc (Nat.le_refl _) _).trans b3'; clear b3'; have j3 := Ints.own o3; have hc3 := own_cap o3; clear o3; have n1 := later k1 b3; have n2 := later j2 b3; have B3 := thenB B2 b3)
    | (go_at_call 29; refine (H3.out _ _ _ hc3 j3).mono ?_; rintro e w4 ⟨rfl, b4⟩; have s1 := later n1 b4; have s2 := later n2 b4; have B4 := thenB B3 b4)
    | (go_at_call 30; refine (H4.out _ _ _ (later hr B4)).mono ?_; rintro e w5 ⟨rfl, b5⟩; have t1 := later s1 b5; have t2 := later s2 b5; have B5 := thenB B4 b5)
    | (go_at_call 11; refine (HL.out _ (hE.below B5)).mono ?_; rintro e w6 ⟨rfl, b6⟩; have u1 := later t1 b6; have u2 := later t2 b6)
    | (go_at_call 31; refine (same_to (b := true) (xs := L) (ys := L) (by simp) Hq.out Hq.out bR bR u1 u2).mono ?_; rintro e w' ⟨rfl, rfl⟩))
  go_ret
  exact ⟨rfl, thenB B5 b6⟩
theorem go_bytes (m : Int) (A : Option Addr) (n c : Nat) (xs : List Int) (w : World) (hm : 0 ≤ m ∧ m ≤ 18446744073709551615)
    (hx : xs.length = n) (hnc : n ≤ c) (hr : Ints .u8 w w.heap.size A xs) (bx : Bytes xs) (hs : c * 1 ≤ 140737488351232) (hE : Errs w) :
    Calls Tryd.prog 6 #[.int .u64 m, .slice A n c] w fun e w' => e = .returned (.bool true) ∧ Below w.heap.size w w' := by
  obtain ⟨k, rfl⟩ := Int.eq_ofNat_of_zero_le hm.1
  exact law_bytes k A n c xs w (by omega) hx hnc hr bx hs hE
end Go.Proofs.YtkpjpjjpjpimiaaDoor.Chm
