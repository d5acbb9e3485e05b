/- The statements on the texts of maps and on what is read back, walked: each returns true. -/
import Derived.Test.YtkpjpjjpjpimiaaDoorChmRParse2
import Derived.Test.YtkpjpjjpjpimiaaDoorChmBytes
set_option linter.unusedVariables false
set_option linter.unusedSimpArgs false
namespace Go.Proofs.YtkpjpjjpjpimiaaDoor.Chm
open Go.RowKit Mem Oct Base

theorem law_texts (m : Nat) (s : ByteArray) (w : World) (hm : m ≤ 18446744073709551615) (hs : s.size ≤ 1048576) (hE : Errs w) :
    Calls Tryd.prog 7 #[.int .u64 m, .string s] w fun e w' => e = .returned (.bool true) ∧ Below w.heap.size w w' := by
  have HL := Lib.hid lives_any
  have H1 := Lib.hid fun w hE => parse_any s w (by omega) hE
  have H2 := Lib.hid fun w => rparse_any s w (by omega)
  rw [← parse_same] at H2
  have H3 := Lib.hid fun w => text_any m w hm
  have H4 := Lib.hid fun w => rtext_any m w hm
  generalize oN (parseO s) = X at *
  generalize eN (parseO s) = Y at *
  generalize (⟨(textL m).toArray⟩ : ByteArray) = T at *
  have hB := Below.refl w.heap.size w
  go_enter Tryd.func7, Tryd.ntmps7
  go_wp2_with (first
    | (go_at_call 32; refine (H1.out _ (hE.below hB)).mono ?_; rintro e w1 ⟨rfl, b1⟩; have hB := thenB hB b1)
    | (go_at_call 33; refine (H2.out _).mono ?_; rintro e w2 ⟨rfl, b2⟩; have hB := thenB hB b2)
    | (go_at_call 11; refine (HL.out _ (hE.below hB)).mono ?_; rintro e w3 ⟨rfl, b3⟩; have hB := thenB hB b3)
    | (go_at_call 34; refine (H3.out _).mono ?_; rintro e w4 ⟨rfl, b4⟩; have hB := thenB hB b4)
    | (go_at_call 35; refine (H4.out _).mono ?_; rintro e w5 ⟨rfl, b5⟩; have hB := thenB hB b5))
  go_ret
  exact ⟨rfl, hB⟩
theorem numL_valL (l : List Int) (h : Bytes l) : numL l.length (valL l) = l := by
  induction l with
  | nil => rfl
  | cons x r ih =>
    have hx := h x (by simp)
    have hr := ih (fun z hz => h z (by simp [hz]))
    have hv := (valL_bd (fun z hz => h z (by simp [hz]) : Bytes r)).1
    show (x + 256 * valL r) % 256 :: numL r.length ((x + 256 * valL r) / 256) = x :: r
    rw [show (x + 256 * valL r) % 256 = x by omega, show (x + 256 * valL r) / 256 = valL r by omega, hr]
/-- A row of bytes with an error. -/
def RowE (w w' : World) (e : Ending) (L : List Int) (n : Nat) (x : Int) : Prop :=
  ∃ A c, e = .returned (.tuple #[.slice A n c, .int .i64 x]) ∧ n ≤ c ∧ Ints .u8 w' w'.heap.size A L ∧ Below w.heap.size w w'
theorem encode_row (m : Nat) (L : List Int) (n : Nat) (x : Int) (hm : m ≤ 18446744073709551615) (hr : encR m = (L, x)) (hl : L.length = n) (w : World) :
    Calls Tryd.prog 27 #[.int .u64 m] w fun e w' => RowE w w' e L n x :=
  (encode_any m w hm).mono fun e w' h => by
    rw [hr] at h
    obtain ⟨A, c, he, ho, hb⟩ := h
    simp only [hl] at he ho
    exact ⟨A, c, he, own_cap ho, Ints.own ho, hb⟩
theorem decR_enc {m : Nat} (h : okM m = 0) : decR (numL 5 (m : Int)) = ((m : Int), 0) := by
  have hb := (okM_bd h).1
  have hv := valL_numL 5 (m : Int) (by omega) (by rw [show Ser.p2 (8 * 5) = 1099511627776 by decide]; omega)
  unfold decR
  rw [numL_len, if_neg (by omega), if_neg (by omega), hv, Int.toNat_natCast, if_pos h]
theorem decR_ok {xs : List Int} (bx : Bytes xs) (h : (decR xs).2 = 0) : ∃ v : Nat, decR xs = ((v : Int), 0) ∧ okM v = 0 ∧ xs.length = 5 ∧ numL 5 (v : Int) = xs := by
  unfold decR at h ⊢
  split at h
  · cases h
  · split at h
    · cases h
    · rename_i h1 h2
      have h5 : xs.length = 5 := by omega
      have bv := valL_bd bx
      obtain ⟨v, hve⟩ := Int.eq_ofNat_of_zero_le bv.1
      have hn := numL_valL xs bx
      rw [h5, hve] at hn
      rw [hve, Int.toNat_natCast] at h ⊢
      split at h
      · rename_i hk
        exact ⟨v, by rw [if_neg h1, if_neg h2, if_pos hk], hk, h5, hn⟩
      · rename_i hk
        exact absurd h hk
set_option maxRecDepth 100000 in
set_option maxHeartbeats 4000000 in
theorem law_back (m : Nat) (A : Option Addr) (n c : Nat) (xs : List Int) (s : ByteArray) (w : World) (hm : m ≤ 18446744073709551615)
    (hx : xs.length = n) (hnc : n ≤ c) (hr : Ints .u8 w w.heap.size A xs) (bx : Bytes xs) (hc : c ≤ 1048576) (hs : s.size ≤ 1048576) (hE : Errs w) :
    Calls Tryd.prog 9 #[.int .u64 m, .slice A n c, .string s] w fun e w' => e = .returned (.bool true) ∧ Below w.heap.size w w' := by
  obtain ⟨i0, hi, hz0, hz1, hz2⟩ := info_parts info_u8
  have HL := Lib.hid lives_any
  have Hx := Lib.hid hx
  have hB := Below.refl w.heap.size w
  have HD2 : Hid (∀ (A : Option Addr) (c : Nat) (w : World), n ≤ c → Ints .u8 w w.heap.size A xs → Calls Tryd.prog 29 #[.slice A n c] w fun e w' => e = .returned (.tuple #[.int .u64 (decR xs).1, .int .i64 (decR xs).2]) ∧ Below w.heap.size w w') := Lib.hid fun A c w hc hr => decode_any A n c xs w hx hc (by omega) bx hr
  have HP3 := Lib.hid fun w hE => parse_any s w (by omega) hE
  have BX := Lib.hid bx
  by_cases k1 : okM m = 0
  · have HE1 := Lib.hid fun w => encode_row m _ 5 _ hm (by unfold encR; rw [if_pos k1]) (numL_len 5 _) w
    have b5 := numL_bytes 5 (m : Int)
    have HD1 : Hid (∀ (A : Option Addr) (c : Nat) (w : World), 5 ≤ c → Ints .u8 w w.heap.size A (numL 5 (m : Int)) → Calls Tryd.prog 29 #[.slice A 5 c] w fun e w' => e = .returned (.tuple #[.int .u64 m, .int .i64 0]) ∧ Below w.heap.size w w') := Lib.hid fun A c w hc hr => by
      have := decode_any A 5 c (numL 5 (m : Int)) w (numL_len 5 _) hc (by omega) b5 hr
      rwa [decR_enc k1] at this
    have HT1 := Lib.hid fun w => text_any m w hm
    have HP1 : Hid (∀ w, Errs w → Calls Tryd.prog 32 #[.string ⟨(textL m).toArray⟩] w fun e w' => e = .returned (.tuple #[.int .u64 m, .int .i64 0]) ∧ Below w.heap.size w w') := Lib.hid fun w hE => by
      have := parse_any ⟨(textL m).toArray⟩ w (by have := text_len m; show (textL m).length < _; omega) hE
      rwa [parse_text k1] at this
    generalize (⟨(textL m).toArray⟩ : ByteArray) = T1 at *
    generalize numL 5 (m : Int) = L1 at *
    clear k1 b5
    by_cases k2 : (decR xs).2 = 0
    · obtain ⟨v, e1, e2, e3, e4⟩ := decR_ok bx k2
      have vb := (okM_bd e2).1
      have HE2 := Lib.hid fun w => encode_row v xs n 0 (by omega) (by unfold encR; rw [if_pos e2, e4]) hx w
      rw [e1] at HD2
      replace HD2 : Hid (∀ (A : Option Addr) (c : Nat) (w : World), n ≤ c → Ints .u8 w w.heap.size A xs → Calls Tryd.prog 29 #[.slice A n c] w fun e w' => e = .returned (.tuple #[.int .u64 v, .int .i64 0]) ∧ Below w.heap.size w w') := HD2
      clear e1 e2 e3 e4 k2 hx
      cases hp : parseO s with
      | some k =>
        obtain ⟨k3, k4⟩ := parse_some hp
        have kb := (okM_bd k3).1
        rw [hp] at HP3
        have HC3 := Lib.hid fun w => check_to (m := k) (by omega) k3 w
        have HT3 : Hid (∀ w, Calls Tryd.prog 34 #[.int .u64 k] w fun e w' => e = .returned (.string s) ∧ Below w.heap.size w w') := Lib.hid fun w => by
          have := text_any k w (by omega)
          rwa [show (⟨(textL k).toArray⟩ : ByteArray) = s by rw [k4]] at this
        replace HP3 : Hid (∀ w, Errs w → Calls Tryd.prog 32 #[.string s] w fun e w' => e = .returned (.tuple #[.int .u64 k, .int .i64 0]) ∧ Below w.heap.size w w') := HP3
        clear hp k3 k4 bx
        go_enter Tryd.func9, Tryd.ntmps9
        go_wp2_with (first
          | (go_at_call 11; refine (HL.out _ hE).mono ?_; rintro e v ⟨rfl, b1⟩; have hB := thenB hB b1)
          | (go_at_call 27; refine (HE1.out _).mono ?_; clear HE1; rintro e v ⟨A1, c1, rfl, hc1, j1, b2⟩; have hB := thenB hB b2)
          | (go_at_call 29; refine (HD1.out _ _ _ hc1 j1).mono ?_; clear HD1; rintro e v ⟨rfl, b3⟩; have hB := thenB hB b3)
          | (go_at_call 34; refine (HT1.out _).mono ?_; clear HT1; rintro e v ⟨rfl, b4⟩; have hB := thenB hB b4)
          | (go_at_call 32; refine (HP1.out _ (hE.below hB)).mono ?_; clear HP1; rintro e v ⟨rfl, b5⟩; have hB := thenB hB b5)
          | (at_builtin; refine wpList_append_ints rfl _ _ 35 rfl .u8 w.heap.size 5 i0 _ 1 Tryd.underlying35 hi hz0 hz1 hz2 rfl (.slice (some ⟨v.heap.size, 0, none⟩) 0 0) 0 [] rfl (World.ownsRow_made _ _ 0 hB.size (by unfold maxLen; omega) rfl) v.heap.size A n c xs rfl Hx.out ?c1 ?c2 ?c3 ?c4 ?_; (case c1 => exact (later hr hB).alloc (Nat.le_refl _) _); (case c2 => unfold maxLen; omega); (case c3 => omega); (case c4 => have := hB.size; simp; omega); intro v' v o6 b6' _; obtain ⟨A6, c6, rfl⟩ := own_form o6; simp only [Nat.zero_add, List.nil_append] at o6; have hB := (hB.alloc hB.size _).trans b6'; clear b6'; have j6 := Ints.own o6; have hc6 := own_cap o6; clear o6)
          | (go_at_call 29; refine (HD2.out _ _ _ hc6 j6).mono ?_; clear HD2; rintro e v ⟨rfl, b7⟩; have hB := thenB hB b7)
          | (go_at_call 27; refine (HE2.out _).mono ?_; clear HE2; rintro e v ⟨A8, c8, rfl, hc8, j8, b8⟩; have hB := thenB hB b8)
          | (go_at_call 31; refine (same_to (b := true) (xs := xs) (ys := xs) (by simp) Hx.out Hx.out BX.out BX.out j8 (later hr hB)).mono ?_; rintro e w' ⟨rfl, rfl⟩)
          | (go_at_call 32; refine (HP3.out _ (hE.below hB)).mono ?_; clear HP3; rintro e v ⟨rfl, b9⟩; have hB := thenB hB b9)
          | (go_at_call 12; refine (HC3.out _).mono ?_; rintro e w' ⟨rfl, rfl⟩)
          | (go_at_call 34; refine (HT3.out _).mono ?_; rintro e v ⟨rfl, b10⟩; have hB := thenB hB b10))
        go_ret
        exact ⟨rfl, hB⟩
      | none =>
        rw [hp] at HP3
        replace HP3 : Hid (∀ w, Errs w → Calls Tryd.prog 32 #[.string s] w fun e w' => e = .returned (.tuple #[.int .u64 0, .int .i64 2]) ∧ Below w.heap.size w w') := HP3
        clear hp bx
        go_enter Tryd.func9, Tryd.ntmps9
        go_wp2_with (first
          | (go_at_call 11; refine (HL.out _ hE).mono ?_; rintro e v ⟨rfl, b1⟩; have hB := thenB hB b1)
          | (go_at_call 27; refine (HE1.out _).mono ?_; clear HE1; rintro e v ⟨A1, c1, rfl, hc1, j1, b2⟩; have hB := thenB hB b2)
          | (go_at_call 29; refine (HD1.out _ _ _ hc1 j1).mono ?_; clear HD1; rintro e v ⟨rfl, b3⟩; have hB := thenB hB b3)
          | (go_at_call 34; refine (HT1.out _).mono ?_; clear HT1; rintro e v ⟨rfl, b4⟩; have hB := thenB hB b4)
          | (go_at_call 32; refine (HP1.out _ (hE.below hB)).mono ?_; clear HP1; rintro e v ⟨rfl, b5⟩; have hB := thenB hB b5)
          | (at_builtin; refine wpList_append_ints rfl _ _ 35 rfl .u8 w.heap.size 5 i0 _ 1 Tryd.underlying35 hi hz0 hz1 hz2 rfl (.slice (some ⟨v.heap.size, 0, none⟩) 0 0) 0 [] rfl (World.ownsRow_made _ _ 0 hB.size (by unfold maxLen; omega) rfl) v.heap.size A n c xs rfl Hx.out ?c1 ?c2 ?c3 ?c4 ?_; (case c1 => exact (later hr hB).alloc (Nat.le_refl _) _); (case c2 => unfold maxLen; omega); (case c3 => omega); (case c4 => have := hB.size; simp; omega); intro v' v o6 b6' _; obtain ⟨A6, c6, rfl⟩ := own_form o6; simp only [Nat.zero_add, List.nil_append] at o6; have hB := (hB.alloc hB.size _).trans b6'; clear b6'; have j6 := Ints.own o6; have hc6 := own_cap o6; clear o6)
          | (go_at_call 29; refine (HD2.out _ _ _ hc6 j6).mono ?_; clear HD2; rintro e v ⟨rfl, b7⟩; have hB := thenB hB b7)
          | (go_at_call 27; refine (HE2.out _).mono ?_; clear HE2; rintro e v ⟨A8, c8, rfl, hc8, j8, b8⟩; have hB := thenB hB b8)
          | (go_at_call 31; refine (same_to (b := true) (xs := xs) (ys := xs) (by simp) Hx.out Hx.out BX.out BX.out j8 (later hr hB)).mono ?_; rintro e w' ⟨rfl, rfl⟩)
          | (go_at_call 32; refine (HP3.out _ (hE.below hB)).mono ?_; clear HP3; rintro e v ⟨rfl, b9⟩; have hB := thenB hB b9)
          | (go_at_call 12; refine (HC3.out _).mono ?_; rintro e w' ⟨rfl, rfl⟩)
          | (go_at_call 34; refine (HT3.out _).mono ?_; rintro e v ⟨rfl, b10⟩; have hB := thenB hB b10))
        go_ret
        exact ⟨rfl, hB⟩
    · generalize (decR xs).1 = X2 at *
      generalize (decR xs).2 = Y2 at *
      have ne2 : (Y2 == 0) = false := by simpa using k2
      clear hx
      cases hp : parseO s with
      | some k =>
        obtain ⟨k3, k4⟩ := parse_some hp
        have kb := (okM_bd k3).1
        rw [hp] at HP3
        have HC3 := Lib.hid fun w => check_to (m := k) (by omega) k3 w
        have HT3 : Hid (∀ w, Calls Tryd.prog 34 #[.int .u64 k] w fun e w' => e = .returned (.string s) ∧ Below w.heap.size w w') := Lib.hid fun w => by
          have := text_any k w (by omega)
          rwa [show (⟨(textL k).toArray⟩ : ByteArray) = s by rw [k4]] at this
        replace HP3 : Hid (∀ w, Errs w → Calls Tryd.prog 32 #[.string s] w fun e w' => e = .returned (.tuple #[.int .u64 k, .int .i64 0]) ∧ Below w.heap.size w w') := HP3
        clear hp k3 k4 bx
        go_enter Tryd.func9, Tryd.ntmps9
        go_wp2_with (first
          | (go_at_call 11; refine (HL.out _ hE).mono ?_; rintro e v ⟨rfl, b1⟩; have hB := thenB hB b1)
          | (go_at_call 27; refine (HE1.out _).mono ?_; clear HE1; rintro e v ⟨A1, c1, rfl, hc1, j1, b2⟩; have hB := thenB hB b2)
          | (go_at_call 29; refine (HD1.out _ _ _ hc1 j1).mono ?_; clear HD1; rintro e v ⟨rfl, b3⟩; have hB := thenB hB b3)
          | (go_at_call 34; refine (HT1.out _).mono ?_; clear HT1; rintro e v ⟨rfl, b4⟩; have hB := thenB hB b4)
          | (go_at_call 32; refine (HP1.out _ (hE.below hB)).mono ?_; clear HP1; rintro e v ⟨rfl, b5⟩; have hB := thenB hB b5)
          | (at_builtin; refine wpList_append_ints rfl _ _ 35 rfl .u8 w.heap.size 5 i0 _ 1 Tryd.underlying35 hi hz0 hz1 hz2 rfl (.slice (some ⟨v.heap.size, 0, none⟩) 0 0) 0 [] rfl (World.ownsRow_made _ _ 0 hB.size (by unfold maxLen; omega) rfl) v.heap.size A n c xs rfl Hx.out ?c1 ?c2 ?c3 ?c4 ?_; (case c1 => exact (later hr hB).alloc (Nat.le_refl _) _); (case c2 => unfold maxLen; omega); (case c3 => omega); (case c4 => have := hB.size; simp; omega); intro v' v o6 b6' _; obtain ⟨A6, c6, rfl⟩ := own_form o6; simp only [Nat.zero_add, List.nil_append] at o6; have hB := (hB.alloc hB.size _).trans b6'; clear b6'; have j6 := Ints.own o6; have hc6 := own_cap o6; clear o6)
          | (go_at_call 29; refine (HD2.out _ _ _ hc6 j6).mono ?_; clear HD2; rintro e v ⟨rfl, b7⟩; have hB := thenB hB b7)
          | (go_at_call 27; refine (HE2.out _).mono ?_; clear HE2; rintro e v ⟨A8, c8, rfl, hc8, j8, b8⟩; have hB := thenB hB b8)
          | (go_at_call 31; refine (same_to (b := true) (xs := xs) (ys := xs) (by simp) Hx.out Hx.out BX.out BX.out j8 (later hr hB)).mono ?_; rintro e w' ⟨rfl, rfl⟩)
          | (go_at_call 32; refine (HP3.out _ (hE.below hB)).mono ?_; clear HP3; rintro e v ⟨rfl, b9⟩; have hB := thenB hB b9)
          | (go_at_call 12; refine (HC3.out _).mono ?_; rintro e w' ⟨rfl, rfl⟩)
          | (go_at_call 34; refine (HT3.out _).mono ?_; rintro e v ⟨rfl, b10⟩; have hB := thenB hB b10))
        go_ret
        exact ⟨rfl, hB⟩
      | none =>
        rw [hp] at HP3
        replace HP3 : Hid (∀ w, Errs w → Calls Tryd.prog 32 #[.string s] w fun e w' => e = .returned (.tuple #[.int .u64 0, .int .i64 2]) ∧ Below w.heap.size w w') := HP3
        clear hp bx
        go_enter Tryd.func9, Tryd.ntmps9
        go_wp2_with (first
          | (go_at_call 11; refine (HL.out _ hE).mono ?_; rintro e v ⟨rfl, b1⟩; have hB := thenB hB b1)
          | (go_at_call 27; refine (HE1.out _).mono ?_; clear HE1; rintro e v ⟨A1, c1, rfl, hc1, j1, b2⟩; have hB := thenB hB b2)
          | (go_at_call 29; refine (HD1.out _ _ _ hc1 j1).mono ?_; clear HD1; rintro e v ⟨rfl, b3⟩; have hB := thenB hB b3)
          | (go_at_call 34; refine (HT1.out _).mono ?_; clear HT1; rintro e v ⟨rfl, b4⟩; have hB := thenB hB b4)
          | (go_at_call 32; refine (HP1.out _ (hE.below hB)).mono ?_; clear HP1; rintro e v ⟨rfl, b5⟩; have hB := thenB hB b5)
          | (at_builtin; refine wpList_append_ints rfl _ _ 35 rfl .u8 w.heap.size 5 i0 _ 1 Tryd.underlying35 hi hz0 hz1 hz2 rfl (.slice (some ⟨v.heap.size, 0, none⟩) 0 0) 0 [] rfl (World.ownsRow_made _ _ 0 hB.size (by unfold maxLen; omega) rfl) v.heap.size A n c xs rfl Hx.out ?c1 ?c2 ?c3 ?c4 ?_; (case c1 => exact (later hr hB).alloc (Nat.le_refl _) _); (case c2 => unfold maxLen; omega); (case c3 => omega); (case c4 => have := hB.size; simp; omega); intro v' v o6 b6' _; obtain ⟨A6, c6, rfl⟩ := own_form o6; simp only [Nat.zero_add, List.nil_append] at o6; have hB := (hB.alloc hB.size _).trans b6'; clear b6'; have j6 := Ints.own o6; have hc6 := own_cap o6; clear o6)
          | (go_at_call 29; refine (HD2.out _ _ _ hc6 j6).mono ?_; clear HD2; rintro e v ⟨rfl, b7⟩; have hB := thenB hB b7)
          | (go_at_call 27; refine (HE2.out _).mono ?_; clear HE2; rintro e v ⟨A8, c8, rfl, hc8, j8, b8⟩; have hB := thenB hB b8)
          | (go_at_call 31; refine (same_to (b := true) (xs := xs) (ys := xs) (by simp) Hx.out Hx.out BX.out BX.out j8 (later hr hB)).mono ?_; rintro e w' ⟨rfl, rfl⟩)
          | (go_at_call 32; refine (HP3.out _ (hE.below hB)).mono ?_; clear HP3; rintro e v ⟨rfl, b9⟩; have hB := thenB hB b9)
          | (go_at_call 12; refine (HC3.out _).mono ?_; rintro e w' ⟨rfl, rfl⟩)
          | (go_at_call 34; refine (HT3.out _).mono ?_; rintro e v ⟨rfl, b10⟩; have hB := thenB hB b10))
        go_ret
        exact ⟨rfl, hB⟩
  · have HE1 := Lib.hid fun w => encode_row m _ 0 _ hm (by unfold encR; rw [if_neg k1]) rfl w
    have ne1 : (okM m == 0) = false := by simpa using k1
    generalize okM m = V1 at *
    by_cases k2 : (decR xs).2 = 0
    · obtain ⟨v, e1, e2, e3, e4⟩ := decR_ok bx k2
      have vb := (okM_bd e2).1
      have HE2 := Lib.hid fun w => encode_row v xs n 0 (by omega) (by unfold encR; rw [if_pos e2, e4]) hx w
      rw [e1] at HD2
      replace HD2 : Hid (∀ (A : Option Addr) (c : Nat) (w : World), n ≤ c → Ints .u8 w w.heap.size A xs → Calls Tryd.prog 29 #[.slice A n c] w fun e w' => e = .returned (.tuple #[.int .u64 v, .int .i64 0]) ∧ Below w.heap.size w w') := HD2
      clear e1 e2 e3 e4 k2 hx
      cases hp : parseO s with
      | some k =>
        obtain ⟨k3, k4⟩ := parse_some hp
        have kb := (okM_bd k3).1
        rw [hp] at HP3
        have HC3 := Lib.hid fun w => check_to (m := k) (by omega) k3 w
        have HT3 : Hid (∀ w, Calls Tryd.prog 34 #[.int .u64 k] w fun e w' => e = .returned (.string s) ∧ Below w.heap.size w w') := Lib.hid fun w => by
          have := text_any k w (by omega)
          rwa [show (⟨(textL k).toArray⟩ : ByteArray) = s by rw [k4]] at this
        replace HP3 : Hid (∀ w, Errs w → Calls Tryd.prog 32 #[.string s] w fun e w' => e = .returned (.tuple #[.int .u64 k, .int .i64 0]) ∧ Below w.heap.size w w') := HP3
        clear hp k3 k4 bx
        go_enter Tryd.func9, Tryd.ntmps9
        go_wp2_with (first
          | (go_at_call 11; refine (HL.out _ hE).mono ?_; rintro e v ⟨rfl, b1⟩; have hB := thenB hB b1)
          | (go_at_call 27; refine (HE1.out _).mono ?_; clear HE1; rintro e v ⟨A1, c1, rfl, hc1, j1, b2⟩; have hB := thenB hB b2)
          | (go_at_call 29; refine (HD1.out _ _ _ hc1 j1).mono ?_; clear HD1; rintro e v ⟨rfl, b3⟩; have hB := thenB hB b3)
          | (go_at_call 34; refine (HT1.out _).mono ?_; clear HT1; rintro e v ⟨rfl, b4⟩; have hB := thenB hB b4)
          | (go_at_call 32; refine (HP1.out _ (hE.below hB)).mono ?_; clear HP1; rintro e v ⟨rfl, b5⟩; have hB := thenB hB b5)
          | (at_builtin; refine wpList_append_ints rfl _ _ 35 rfl .u8 w.heap.size 5 i0 _ 1 Tryd.underlying35 hi hz0 hz1 hz2 rfl (.slice (some ⟨v.heap.size, 0, none⟩) 0 0) 0 [] rfl (World.ownsRow_made _ _ 0 hB.size (by unfold maxLen; omega) rfl) v.heap.size A n c xs rfl Hx.out ?c1 ?c2 ?c3 ?c4 ?_; (case c1 => exact (later hr hB).alloc (Nat.le_refl _) _); (case c2 => unfold maxLen; omega); (case c3 => omega); (case c4 => have := hB.size; simp; omega); intro v' v o6 b6' _; obtain ⟨A6, c6, rfl⟩ := own_form o6; simp only [Nat.zero_add, List.nil_append] at o6; have hB := (hB.alloc hB.size _).trans b6'; clear b6'; have j6 := Ints.own o6; have hc6 := own_cap o6; clear o6)
          | (go_at_call 29; refine (HD2.out _ _ _ hc6 j6).mono ?_; clear HD2; rintro e v ⟨rfl, b7⟩; have hB := thenB hB b7)
          | (go_at_call 27; refine (HE2.out _).mono ?_; clear HE2; rintro e v ⟨A8, c8, rfl, hc8, j8, b8⟩; have hB := thenB hB b8)
          | (go_at_call 31; refine (same_to (b := true) (xs := xs) (ys := xs) (by simp) Hx.out Hx.out BX.out BX.out j8 (later hr hB)).mono ?_; rintro e w' ⟨rfl, rfl⟩)
          | (go_at_call 32; refine (HP3.out _ (hE.below hB)).mono ?_; clear HP3; rintro e v ⟨rfl, b9⟩; have hB := thenB hB b9)
          | (go_at_call 12; refine (HC3.out _).mono ?_; rintro e w' ⟨rfl, rfl⟩)
          | (go_at_call 34; refine (HT3.out _).mono ?_; rintro e v ⟨rfl, b10⟩; have hB := thenB hB b10))
        go_ret
        exact ⟨rfl, hB⟩
      | none =>
        rw [hp] at HP3
        replace HP3 : Hid (∀ w, Errs w → Calls Tryd.prog 32 #[.string s] w fun e w' => e = .returned (.tuple #[.int .u64 0, .int .i64 2]) ∧ Below w.heap.size w w') := HP3
        clear hp bx
        go_enter Tryd.func9, Tryd.ntmps9
        go_wp2_with (first
          | (go_at_call 11; refine (HL.out _ hE).mono ?_; rintro e v ⟨rfl, b1⟩; have hB := thenB hB b1)
          | (go_at_call 27; refine (HE1.out _).mono ?_; clear HE1; rintro e v ⟨A1, c1, rfl, hc1, j1, b2⟩; have hB := thenB hB b2)
          | (go_at_call 29; refine (HD1.out _ _ _ hc1 j1).mono ?_; clear HD1; rintro e v ⟨rfl, b3⟩; have hB := thenB hB b3)
          | (go_at_call 34; refine (HT1.out _).mono ?_; clear HT1; rintro e v ⟨rfl, b4⟩; have hB := thenB hB b4)
          | (go_at_call 32; refine (HP1.out _ (hE.below hB)).mono ?_; clear HP1; rintro e v ⟨rfl, b5⟩; have hB := thenB hB b5)
          | (at_builtin; refine wpList_append_ints rfl _ _ 35 rfl .u8 w.heap.size 5 i0 _ 1 Tryd.underlying35 hi hz0 hz1 hz2 rfl (.slice (some ⟨v.heap.size, 0, none⟩) 0 0) 0 [] rfl (World.ownsRow_made _ _ 0 hB.size (by unfold maxLen; omega) rfl) v.heap.size A n c xs rfl Hx.out ?c1 ?c2 ?c3 ?c4 ?_; (case c1 => exact (later hr hB).alloc (Nat.le_refl _) _); (case c2 => unfold maxLen; omega); (case c3 => omega); (case c4 => have := hB.size; simp; omega); intro v' v o6 b6' _; obtain ⟨A6, c6, rfl⟩ := own_form o6; simp only [Nat.zero_add, List.nil_append] at o6; have hB := (hB.alloc hB.size _).trans b6'; clear b6'; have j6 := Ints.own o6; have hc6 := own_cap o6; clear o6)
          | (go_at_call 29; refine (HD2.out _ _ _ hc6 j6).mono ?_; clear HD2; rintro e v ⟨rfl, b7⟩; have hB := thenB hB b7)
          | (go_at_call 27; refine (HE2.out _).mono ?_; clear HE2; rintro e v ⟨A8, c8, rfl, hc8, j8, b8⟩; have hB := thenB hB b8)
          | (go_at_call 31; refine (same_to (b := true) (xs := xs) (ys := xs) (by simp) Hx.out Hx.out BX.out BX.out j8 (later hr hB)).mono ?_; rintro e w' ⟨rfl, rfl⟩)
          | (go_at_call 32; refine (HP3.out _ (hE.below hB)).mono ?_; clear HP3; rintro e v ⟨rfl, b9⟩; have hB := thenB hB b9)
          | (go_at_call 12; refine (HC3.out _).mono ?_; rintro e w' ⟨rfl, rfl⟩)
          | (go_at_call 34; refine (HT3.out _).mono ?_; rintro e v ⟨rfl, b10⟩; have hB := thenB hB b10))
        go_ret
        exact ⟨rfl, hB⟩
    · generalize (decR xs).1 = X2 at *
      generalize (decR xs).2 = Y2 at *
      have ne2 : (Y2 == 0) = false := by simpa using k2
      clear hx
      cases hp : parseO s with
      | some k =>
        obtain ⟨k3, k4⟩ := parse_some hp
        have kb := (okM_bd k3).1
        rw [hp] at HP3
        have HC3 := Lib.hid fun w => check_to (m := k) (by omega) k3 w
        have HT3 : Hid (∀ w, Calls Tryd.prog 34 #[.int .u64 k] w fun e w' => e = .returned (.string s) ∧ Below w.heap.size w w') := Lib.hid fun w => by
          have := text_any k w (by omega)
          rwa [show (⟨(textL k).toArray⟩ : ByteArray) = s by rw [k4]] at this
        replace HP3 : Hid (∀ w, Errs w → Calls Tryd.prog 32 #[.string s] w fun e w' => e = .returned (.tuple #[.int .u64 k, .int .i64 0]) ∧ Below w.heap.size w w') := HP3
        clear hp k3 k4 bx
        go_enter Tryd.func9, Tryd.ntmps9
        go_wp2_with (first
          | (go_at_call 11; refine (HL.out _ hE).mono ?_; rintro e v ⟨rfl, b1⟩; have hB := thenB hB b1)
          | (go_at_call 27; refine (HE1.out _).mono ?_; clear HE1; rintro e v ⟨A1, c1, rfl, hc1, j1, b2⟩; have hB := thenB hB b2)
          | (go_at_call 29; refine (HD1.out _ _ _ hc1 j1).mono ?_; clear HD1; rintro e v ⟨rfl, b3⟩; have hB := thenB hB b3)
          | (go_at_call 34; refine (HT1.out _).mono ?_; clear HT1; rintro e v ⟨rfl, b4⟩; have hB := thenB hB b4)
          | (go_at_call 32; refine (HP1.out _ (hE.below hB)).mono ?_; clear HP1; rintro e v ⟨rfl, b5⟩; have hB := thenB hB b5)
          | (at_builtin; refine wpList_append_ints rfl _ _ 35 rfl .u8 w.heap.size 5 i0 _ 1 Tryd.underlying35 hi hz0 hz1 hz2 rfl (.slice (some ⟨v.heap.size, 0, none⟩) 0 0) 0 [] rfl (World.ownsRow_made _ _ 0 hB.size (by unfold maxLen; omega) rfl) v.heap.size A n c xs rfl Hx.out ?c1 ?c2 ?c3 ?c4 ?_; (case c1 => exact (later hr hB).alloc (Nat.le_refl _) _); (case c2 => unfold maxLen; omega); (case c3 => omega); (case c4 => have := hB.size; simp; omega); intro v' v o6 b6' _; obtain ⟨A6, c6, rfl⟩ := own_form o6; simp only [Nat.zero_add, List.nil_append] at o6; have hB := (hB.alloc hB.size _).trans b6'; clear b6'; have j6 := Ints.own o6; have hc6 := own_cap o6; clear o6)
          | (go_at_call 29; refine (HD2.out _ _ _ hc6 j6).mono ?_; clear HD2; rintro e v ⟨rfl, b7⟩; have hB := thenB hB b7)
          | (go_at_call 27; refine (HE2.out _).mono ?_; clear HE2; rintro e v ⟨A8, c8, rfl, hc8, j8, b8⟩; have hB := thenB hB b8)
          | (go_at_call 31; refine (same_to (b := true) (xs := xs) (ys := xs) (by simp) Hx.out Hx.out BX.out BX.out j8 (later hr hB)).mono ?_; rintro e w' ⟨rfl, rfl⟩)
          | (go_at_call 32; refine (HP3.out _ (hE.below hB)).mono ?_; clear HP3; rintro e v ⟨rfl, b9⟩; have hB := thenB hB b9)
          | (go_at_call 12; refine (HC3.out _).mono ?_; rintro e w' ⟨rfl, rfl⟩)
          | (go_at_call 34; refine (HT3.out _).mono ?_; rintro e v ⟨rfl, b10⟩; have hB := thenB hB b10))
        go_ret
        exact ⟨rfl, hB⟩
      | none =>
        rw [hp] at HP3
        replace HP3 : Hid (∀ w, Errs w → Calls Tryd.prog 32 #[.string s] w fun e w' => e = .returned (.tuple #[.int .u64 0, .int .i64 2]) ∧ Below w.heap.size w w') := HP3
        clear hp bx
        go_enter Tryd.func9, Tryd.ntmps9
        go_wp2_with (first
          | (go_at_call 11; refine (HL.out _ hE).mono ?_; rintro e v ⟨rfl, b1⟩; have hB := thenB hB b1)
          | (go_at_call 27; refine (HE1.out _).mono ?_; clear HE1; rintro e v ⟨A1, c1, rfl, hc1, j1, b2⟩; have hB := thenB hB b2)
          | (go_at_call 29; refine (HD1.out _ _ _ hc1 j1).mono ?_; clear HD1; rintro e v ⟨rfl, b3⟩; have hB := thenB hB b3)
          | (go_at_call 34; refine (HT1.out _).mono ?_; clear HT1; rintro e v ⟨rfl, b4⟩; have hB := thenB hB b4)
          | (go_at_call 32; refine (HP1.out _ (hE.below hB)).mono ?_; clear HP1; rintro e v ⟨rfl, b5⟩; have hB := thenB hB b5)
          | (at_builtin; refine wpList_append_ints rfl _ _ 35 rfl .u8 w.heap.size 5 i0 _ 1 Tryd.underlying35 hi hz0 hz1 hz2 rfl (.slice (some ⟨v.heap.size, 0, none⟩) 0 0) 0 [] rfl (World.ownsRow_made _ _ 0 hB.size (by unfold maxLen; omega) rfl) v.heap.size A n c xs rfl Hx.out ?c1 ?c2 ?c3 ?c4 ?_; (case c1 => exact (later hr hB).alloc (Nat.le_refl _) _); (case c2 => unfold maxLen; omega); (case c3 => omega); (case c4 => have := hB.size; simp; omega); intro v' v o6 b6' _; obtain ⟨A6, c6, rfl⟩ := own_form o6; simp only [Nat.zero_add, List.nil_append] at o6; have hB := (hB.alloc hB.size _).trans b6'; clear b6'; have j6 := Ints.own o6; have hc6 := own_cap o6; clear o6)
          | (go_at_call 29; refine (HD2.out _ _ _ hc6 j6).mono ?_; clear HD2; rintro e v ⟨rfl, b7⟩; have hB := thenB hB b7)
          | (go_at_call 27; refine (HE2.out _).mono ?_; clear HE2; rintro e v ⟨A8, c8, rfl, hc8, j8, b8⟩; have hB := thenB hB b8)
          | (go_at_call 31; refine (same_to (b := true) (xs := xs) (ys := xs) (by simp) Hx.out Hx.out BX.out BX.out j8 (later hr hB)).mono ?_; rintro e w' ⟨rfl, rfl⟩)
          | (go_at_call 32; refine (HP3.out _ (hE.below hB)).mono ?_; clear HP3; rintro e v ⟨rfl, b9⟩; have hB := thenB hB b9)
          | (go_at_call 12; refine (HC3.out _).mono ?_; rintro e w' ⟨rfl, rfl⟩)
          | (go_at_call 34; refine (HT3.out _).mono ?_; rintro e v ⟨rfl, b10⟩; have hB := thenB hB b10))
        go_ret
        exact ⟨rfl, hB⟩
end Go.Proofs.YtkpjpjjpjpimiaaDoor.Chm
