/- Reading an address from bytes: the specification's: contracts over the program. -/
import Derived.Test.YtcjlliilfecmnaaDoorKAdqDecode
import Derived.Test.YtcjlliilfecmnaaDoorKM8
import Derived.Deep.RegionWith
set_option linter.unusedVariables false
set_option linter.unusedSimpArgs false
namespace Go.Proofs.YtcjlliilfecmnaaDoor.Adr
open Go.RowKit Mem Oct Base

theorem rdecode_short (A : Option Addr) (n c : Nat) (w : World) (hn : n < 7) :
    Calls Tryd.prog 60 #[.slice A n c] w fun e w' => e = .returned (.tuple #[.agg #[.int .i64 0, .int .u64 0], .slice none 0 0, .int .i64 3]) ∧ Below w.heap.size w w' := by
  have g1 : (n : Int) < 7 := by omega
  go_enter Tryd.func60, Tryd.ntmps60
  go_wp2_with fail
  refine bodyPost_ret (v := .tuple #[.agg #[.int .i64 0, .int .u64 0], .slice none 0 0, .int .i64 3]) ?_ rfl ⟨rfl, (Below.refl _ _).alloc (Nat.le_refl _) _⟩
  simp [results, Tryd.f60, go_sem]
set_option maxHeartbeats 4000000 in
theorem rdecode_err (A : Option Addr) (n c : Nat) (xs : List Int) (w : World) (hx : xs.length = n) (hnc : n ≤ c) (hn : ¬ n < 7) (hn2 : n ≤ 1000) (bxs : Bytes xs) (hr : Ints .u8 w w.heap.size A xs) (hc : ¬ chk (xs.getD 0 0) (valL ((xs.drop 1).take 6)) = 0) :
    Calls Tryd.prog 60 #[.slice A n c] w fun e w' => e = .returned (.tuple #[.agg #[.int .i64 0, .int .u64 0], .slice none 0 0, .int .i64 (chk (xs.getD 0 0) (valL ((xs.drop 1).take 6)))]) ∧ Below w.heap.size w w' := by
  have bx := bytes_get bxs 0
  have bv := valL_bd (bytes_take (bytes_drop bxs 1) 6)
  have hl6 : ((xs.drop 1).take 6).length = 6 := by simp; omega
  rw [hl6, show Ser.p2 (8 * 6) = 281474976710656 by decide] at bv
  have hck : Hid (∀ w, Calls Tryd.prog 30 #[.agg #[.int .i64 (xs.getD 0 0), .int .u64 (valL ((xs.drop 1).take 6))]] w fun e w' => e = .returned (.int .i64 (chk (xs.getD 0 0) (valL ((xs.drop 1).take 6)))) ∧ Below w.heap.size w w') := Lib.hid fun w =>
    rcheck_any _ _ w (show -9223372036854775808 ≤ xs.getD 0 0 ∧ xs.getD 0 0 ≤ 9223372036854775807 by omega) (show 0 ≤ valL ((xs.drop 1).take 6) ∧ valL ((xs.drop 1).take 6) ≤ 18446744073709551615 by omega)
  have hv : Hid (∀ (w : World) (A : Option Addr) (c : Nat), Ints .u8 w w.heap.size A ((xs.drop 1).take 6) → Calls Tryd.prog 76 #[.slice A 6 c] w fun e w' => e = .returned (.int .u64 (valL ((xs.drop 1).take 6))) ∧ w = w') := Lib.hid fun w A c h =>
    value_any A 6 c ((xs.drop 1).take 6) w hl6 (bytes_take (bytes_drop bxs 1) 6) h (by decide)
  have hcut := (hr.cut (c := c) (i := 1) (by omega) (by omega)).pre (i := 6)
  have hne1 : ¬ c = 1 := by omega
  rw [if_neg hne1] at hcut
  obtain ⟨ad, off, rfl, hlt, hcell⟩ := hr.at_ (i := 0) (by omega)
  have h0 := hcell 0 (by omega)
  rw [Nat.add_zero] at h0
  have hne : (chk (xs.getD 0 0) (valL ((xs.drop 1).take 6)) != 0) = true := by simpa using hc
  generalize chk (xs.getD 0 0) (valL ((xs.drop 1).take 6)) = C at *
  generalize hY : (xs.drop 1).take 6 = Y at *
  clear hY hl6 hc hcell
  generalize valL Y = VV at *
  generalize xs.getD 0 0 = X0 at *
  have ew := wrapD X0 (by omega)
  have g1 : ¬ (n : Int) < 7 := by omega
  have g2 : (7 : Int) ≤ (c : Int) := by omega
  have g3 : (0 : Int) < (n : Int) := by omega
  have g3b : 0 < n := by omega
  have hB : Below w.heap.size w (w.alloc (.cells #[.int .i64 0, .int .u64 0] 24)) := (Below.refl _ _).alloc (Nat.le_refl _) _
  have F := Blk.fresh w 24 #[.int .i64 0, .int .u64 0]
  go_enter Tryd.func60, Tryd.ntmps60
  go_wp2_with fail
  generalize w.alloc (.cells #[.int .i64 0, .int .u64 0] 24) = W at *
  have s0 : W.drew.cell? ⟨ad, off, none⟩ = some (.int .u8 X0) := (hB.cell (p := ⟨ad, off, none⟩) hlt).trans h0
  have Bz : Below W.heap.size W (W.alloc (.cells #[.int .i64 0, .int .u64 0] 24)).drew := ((Below.refl W.heap.size W).alloc (Nat.le_refl _) _).drew
  have hltW : ad < W.heap.size := Nat.lt_of_lt_of_le hlt hB.size
  have s1 : (W.alloc (.cells #[.int .i64 0, .int .u64 0] 24)).drew.cell? ⟨ad, off, none⟩ = some (.int .u8 X0) := (Bz.cell (p := ⟨ad, off, none⟩) hltW).trans s0
  have Bz2 : Below W.heap.size W (W.alloc (.cells #[.int .i64 X0, .int .u64 VV] 24)).drew := ((Below.refl W.heap.size W).alloc (Nat.le_refl _) _).drew
  have s2 : (W.alloc (.cells #[.int .i64 X0, .int .u64 VV] 24)).drew.cell? ⟨ad, off, none⟩ = some (.int .u8 X0) := (Bz2.cell (p := ⟨ad, off, none⟩) hltW).trans s0
  have i1 : Ints .u8 W.drew W.drew.heap.size _ Y := (hcut.below hB).more hB.size
  have i2 : Ints .u8 (W.alloc (.cells #[.int .i64 0, .int .u64 0] 24)).drew (W.alloc (.cells #[.int .i64 0, .int .u64 0] 24)).drew.heap.size _ Y := (i1.alloc (Nat.le_refl _) _).more (by simp)
  go_region_held3 (fun w' => w'.cell? ⟨ad, off, none⟩ = some (.int .u8 X0)) (first | exact s0 | exact s1 | exact s2) (first
    | (go_at_call 76; first
        | (refine (hv.out W.drew _ _ i1).mono ?_; rintro e w' ⟨rfl, rfl⟩)
        | (refine (hv.out _ _ _ i2).mono ?_; rintro e w' ⟨rfl, rfl⟩)))
  all_goals
    go_wp2_with fail
    refine (hck.out _).mono ?_
    rintro e w2 ⟨rfl, b2⟩
    have BW := thenB Bz2 b2
    have Fr := F.below BW F.lt
    obtain ⟨x0, x1, f0, f1, r0, r1, hBZ⟩ := wrote2 (x := .int .i64 0) (y := .int .u64 0) (thenB hB BW) (Nat.le_refl _) Fr
    have hg9 := Fr.lt
    go_wp2_with fail
    refine bodyPost_ret (v := .tuple #[.agg #[.int .i64 0, .int .u64 0], .slice none 0 0, .int .i64 C]) ?_ rfl ⟨rfl, hBZ⟩
    simp [results, Tryd.f60, go_sem, r0, r1]
set_option maxHeartbeats 4000000 in
theorem rdecode_ok (A : Option Addr) (n c : Nat) (xs : List Int) (w : World) (hx : xs.length = n) (hnc : n ≤ c) (hn : ¬ n < 7) (hn2 : n ≤ 1000) (hc7 : ¬ c = 7) (bxs : Bytes xs) (hr : Ints .u8 w w.heap.size A xs) (hc : chk (xs.getD 0 0) (valL ((xs.drop 1).take 6)) = 0) :
    Calls Tryd.prog 60 #[.slice A n c] w fun e w' => ∃ A' c', e = .returned (.tuple #[.agg #[.int .i64 (xs.getD 0 0), .int .u64 (valL ((xs.drop 1).take 6))], .slice A' (n - 7) c', .int .i64 0]) ∧ n - 7 ≤ c' ∧ Ints .u8 w' w'.heap.size A' (xs.drop 7) ∧ Below w.heap.size w w' ∧ (xs.drop 7 = [] ∨ ∃ g4, A' = some ⟨g4, 0, none⟩ ∧ w.heap.size ≤ g4) := by
  have bx := bytes_get bxs 0
  have bv := valL_bd (bytes_take (bytes_drop bxs 1) 6)
  have hl6 : ((xs.drop 1).take 6).length = 6 := by simp; omega
  rw [hl6, show Ser.p2 (8 * 6) = 281474976710656 by decide] at bv
  have hck : Hid (∀ w, Calls Tryd.prog 30 #[.agg #[.int .i64 (xs.getD 0 0), .int .u64 (valL ((xs.drop 1).take 6))]] w fun e w' => e = .returned (.int .i64 0) ∧ Below w.heap.size w w') := Lib.hid fun w => by
    have := rcheck_any _ _ w (show -9223372036854775808 ≤ xs.getD 0 0 ∧ xs.getD 0 0 ≤ 9223372036854775807 by omega) (show 0 ≤ valL ((xs.drop 1).take 6) ∧ valL ((xs.drop 1).take 6) ≤ 18446744073709551615 by omega)
    rwa [hc] at this
  obtain ⟨i0, hi, hz0, hz1, hz2⟩ := info_parts Base.info_u8
  have hcut7 := hr.cut (c := c) (i := 7) (by omega) (by omega)
  rw [if_neg hc7] at hcut7
  have hd7 : (xs.drop 7).length = n - 7 := by simp; omega
  have b7 : Bytes (xs.drop 7) := bytes_drop bxs 7
  have hv : Hid (∀ (w : World) (A : Option Addr) (c : Nat), Ints .u8 w w.heap.size A ((xs.drop 1).take 6) → Calls Tryd.prog 76 #[.slice A 6 c] w fun e w' => e = .returned (.int .u64 (valL ((xs.drop 1).take 6))) ∧ w = w') := Lib.hid fun w A c h =>
    value_any A 6 c ((xs.drop 1).take 6) w hl6 (bytes_take (bytes_drop bxs 1) 6) h (by decide)
  have hcut := (hr.cut (c := c) (i := 1) (by omega) (by omega)).pre (i := 6)
  have hne1 : ¬ c = 1 := by omega
  rw [if_neg hne1] at hcut
  obtain ⟨ad, off, rfl, hlt, hcell⟩ := hr.at_ (i := 0) (by omega)
  have h0 := hcell 0 (by omega)
  rw [Nat.add_zero] at h0
  generalize hZ : xs.drop 7 = Z at *
  clear hZ
  have g7 : (7 : Int) ≤ (n : Int) := by omega
  have g7b : 7 ≤ n := by omega
  generalize hY : (xs.drop 1).take 6 = Y at *
  clear hY hl6 hc hcell
  generalize valL Y = VV at *
  generalize xs.getD 0 0 = X0 at *
  have ew := wrapD X0 (by omega)
  have g1 : ¬ (n : Int) < 7 := by omega
  have g2 : (7 : Int) ≤ (c : Int) := by omega
  have g3 : (0 : Int) < (n : Int) := by omega
  have g3b : 0 < n := by omega
  have hB : Below w.heap.size w (w.alloc (.cells #[.int .i64 0, .int .u64 0] 24)) := (Below.refl _ _).alloc (Nat.le_refl _) _
  have F := Blk.fresh w 24 #[.int .i64 0, .int .u64 0]
  go_enter Tryd.func60, Tryd.ntmps60
  go_wp2_with fail
  generalize w.alloc (.cells #[.int .i64 0, .int .u64 0] 24) = W at *
  have s0 : W.drew.cell? ⟨ad, off, none⟩ = some (.int .u8 X0) := (hB.cell (p := ⟨ad, off, none⟩) hlt).trans h0
  have Bz : Below W.heap.size W (W.alloc (.cells #[.int .i64 0, .int .u64 0] 24)).drew := ((Below.refl W.heap.size W).alloc (Nat.le_refl _) _).drew
  have hltW : ad < W.heap.size := Nat.lt_of_lt_of_le hlt hB.size
  have s1 : (W.alloc (.cells #[.int .i64 0, .int .u64 0] 24)).drew.cell? ⟨ad, off, none⟩ = some (.int .u8 X0) := (Bz.cell (p := ⟨ad, off, none⟩) hltW).trans s0
  have Bz2 : Below W.heap.size W (W.alloc (.cells #[.int .i64 X0, .int .u64 VV] 24)).drew := ((Below.refl W.heap.size W).alloc (Nat.le_refl _) _).drew
  have s2 : (W.alloc (.cells #[.int .i64 X0, .int .u64 VV] 24)).drew.cell? ⟨ad, off, none⟩ = some (.int .u8 X0) := (Bz2.cell (p := ⟨ad, off, none⟩) hltW).trans s0
  have i1 : Ints .u8 W.drew W.drew.heap.size _ Y := (hcut.below hB).more hB.size
  have i2 : Ints .u8 (W.alloc (.cells #[.int .i64 0, .int .u64 0] 24)).drew (W.alloc (.cells #[.int .i64 0, .int .u64 0] 24)).drew.heap.size _ Y := (i1.alloc (Nat.le_refl _) _).more (by simp)
  go_region_held3 (fun w' => w'.cell? ⟨ad, off, none⟩ = some (.int .u8 X0)) (first | exact s0 | exact s1 | exact s2) (first
    | (go_at_call 76; first
        | (refine (hv.out W.drew _ _ i1).mono ?_; rintro e w' ⟨rfl, rfl⟩)
        | (refine (hv.out _ _ _ i2).mono ?_; rintro e w' ⟨rfl, rfl⟩)))
  all_goals
    go_wp2_with fail
    refine (hck.out _).mono ?_
    rintro e w2 ⟨rfl, b2⟩
    have BW := thenB Bz2 b2
    have Fr := F.below BW F.lt
    have Bf := thenB hB BW
    have FB : Mem.Blk (W.alloc (.cells #[.int .i64 X0, .int .u64 VV] 24)).drew W.heap.size 24 #[.int .i64 X0, .int .u64 VV] := Blk.fresh W _ _
    have FB2 := FB.below b2 FB.lt
    have i7 := (hcut7.below Bf).more Bf.size
    clear s0 s1 s2 i1 i2 Bz Bz2 hcut hcut7 b2 FB
    go_wp2_with fail
    have t0 : w2.drew.cell? ⟨W.heap.size, 0, none⟩ = some (.int .i64 X0) ∧ w2.drew.cell? ⟨W.heap.size, 1, none⟩ = some (.int .u64 VV) := ⟨FB2.cell 0, FB2.cell 1⟩
    have hWl := FB2.lt
    have B7 : Below w2.heap.size w2 (w2.drew.alloc (.cells #[] 5)) := ((Below.refl w2.heap.size w2).drew).alloc (Nat.le_refl _) _
    have t1 : (w2.drew.alloc (.cells #[] 5)).cell? ⟨W.heap.size, 0, none⟩ = some (.int .i64 X0) ∧ (w2.drew.alloc (.cells #[] 5)).cell? ⟨W.heap.size, 1, none⟩ = some (.int .u64 VV) := ⟨(B7.cell (p := ⟨W.heap.size, 0, none⟩) hWl).trans t0.1, (B7.cell (p := ⟨W.heap.size, 1, none⟩) hWl).trans t0.2⟩
    go_region_held3 (fun w' => w'.cell? ⟨W.heap.size, 0, none⟩ = some (.int .i64 X0) ∧ w'.cell? ⟨W.heap.size, 1, none⟩ = some (.int .u64 VV)) (first | exact t0 | exact t1 | exact t2 | exact t3) (first
      | (refine step_append_ints rfl (.tmp 26) (.tmp 28) 25 rfl .u8 w2.heap.size 5 i0 _ 1 Tryd.underlying25 hi hz0 hz1 hz2 rfl (.slice (some ⟨w2.heap.size, 0, none⟩) 0 0) 0 [] rfl (World.ownsRow_made _ _ 0 (Nat.le_refl _) (by unfold maxLen; omega) rfl) w2.heap.size _ (n - 7) (c - 7) Z rfl hd7 (i7.below B7) (by unfold maxLen; omega) (by omega) (by simp) ?_; intro v6 w6 own6 b6 _; rw [Nat.zero_add, List.nil_append] at own6; obtain ⟨A6, c6, hv6⟩ := own_form own6; rw [hv6] at own6 ⊢; have hsep6 := own_sep own6 hd7; have B8 := B7.trans b6; have t2 : w6.cell? ⟨W.heap.size, 0, none⟩ = some (.int .i64 X0) ∧ w6.cell? ⟨W.heap.size, 1, none⟩ = some (.int .u64 VV) := ⟨(B8.cell (p := ⟨W.heap.size, 0, none⟩) hWl).trans t0.1, (B8.cell (p := ⟨W.heap.size, 1, none⟩) hWl).trans t0.2⟩; have hwW : w.heap.size < W.heap.size := F.lt; have Fr6 := Fr.below B8 Fr.lt; obtain ⟨x0, x1, f0, f1, r0, r1, hBZ⟩ := wrote2 (x := .int .i64 X0) (y := .int .u64 VV) (thenB Bf B8) (Nat.le_refl _) Fr6; have hg9 := Fr6.lt; have hcap := own_cap own6; have own7 := ownsRow_setCell_below (ownsRow_setCell_below own6 (a := ⟨w.heap.size, 0, none⟩) (Nat.lt_of_lt_of_le hwW (Nat.le_of_lt hWl)) (.int .i64 X0)) (a := ⟨w.heap.size, 1, none⟩) (Nat.lt_of_lt_of_le hwW (Nat.le_of_lt hWl)) (.int .u64 VV); have i9 := Ints.own own7; have t3 : ((w6.setCell ⟨w.heap.size, 0, none⟩ (.int .i64 X0)).setCell ⟨w.heap.size, 1, none⟩ (.int .u64 VV)).cell? ⟨W.heap.size, 0, none⟩ = some (.int .i64 X0) ∧ ((w6.setCell ⟨w.heap.size, 0, none⟩ (.int .i64 X0)).setCell ⟨w.heap.size, 1, none⟩ (.int .u64 VV)).cell? ⟨W.heap.size, 1, none⟩ = some (.int .u64 VV) := ⟨by rw [World.cell?_setCell_far _ _ _ _ (Nat.ne_of_lt hwW), World.cell?_setCell_far _ _ _ _ (Nat.ne_of_lt hwW)]; exact t2.1, by rw [World.cell?_setCell_far _ _ _ _ (Nat.ne_of_lt hwW), World.cell?_setCell_far _ _ _ _ (Nat.ne_of_lt hwW)]; exact t2.2⟩))
    all_goals go_wp2_with fail
    all_goals refine bodyPost_ret (v := .tuple #[.agg #[.int .i64 X0, .int .u64 VV], .slice A6 (n - 7) c6, .int .i64 0]) ?_ rfl ⟨A6, c6, rfl, hcap, i9, hBZ, hsep6.imp id fun ⟨g4, e, h⟩ => ⟨g4, e, Nat.le_trans Bf.size h⟩⟩
    all_goals simp [results, Tryd.f60, go_sem, r0, r1]
set_option maxHeartbeats 4000000 in
theorem rdecode_seven (A : Option Addr) (xs : List Int) (w : World) (hx : xs.length = 7) (bxs : Bytes xs) (hr : Ints .u8 w w.heap.size A xs) (hc : chk (xs.getD 0 0) (valL ((xs.drop 1).take 6)) = 0) :
    Calls Tryd.prog 60 #[.slice A 7 7] w fun e w' => ∃ A' c', e = .returned (.tuple #[.agg #[.int .i64 (xs.getD 0 0), .int .u64 (valL ((xs.drop 1).take 6))], .slice A' 0 c', .int .i64 0]) ∧ 0 ≤ c' ∧ Ints .u8 w' w'.heap.size A' (xs.drop 7) ∧ Below w.heap.size w w' ∧ (xs.drop 7 = [] ∨ ∃ g4, A' = some ⟨g4, 0, none⟩ ∧ w.heap.size ≤ g4) := by
  have bx := bytes_get bxs 0
  have bv := valL_bd (bytes_take (bytes_drop bxs 1) 6)
  have hl6 : ((xs.drop 1).take 6).length = 6 := by simp; omega
  rw [hl6, show Ser.p2 (8 * 6) = 281474976710656 by decide] at bv
  have hck : Hid (∀ w, Calls Tryd.prog 30 #[.agg #[.int .i64 (xs.getD 0 0), .int .u64 (valL ((xs.drop 1).take 6))]] w fun e w' => e = .returned (.int .i64 0) ∧ Below w.heap.size w w') := Lib.hid fun w => by
    have := rcheck_any _ _ w (show -9223372036854775808 ≤ xs.getD 0 0 ∧ xs.getD 0 0 ≤ 9223372036854775807 by omega) (show 0 ≤ valL ((xs.drop 1).take 6) ∧ valL ((xs.drop 1).take 6) ≤ 18446744073709551615 by omega)
    rwa [hc] at this
  obtain ⟨i0, hi, hz0, hz1, hz2⟩ := info_parts Base.info_u8
  have hcut7 := hr.cut (c := 7) (i := 7) (by omega) (by omega)
  rw [if_pos rfl] at hcut7
  have hd7 : (xs.drop 7).length = 0 := by simp; omega
  have b7 : Bytes (xs.drop 7) := bytes_drop bxs 7
  have hv : Hid (∀ (w : World) (A : Option Addr) (c : Nat), Ints .u8 w w.heap.size A ((xs.drop 1).take 6) → Calls Tryd.prog 76 #[.slice A 6 c] w fun e w' => e = .returned (.int .u64 (valL ((xs.drop 1).take 6))) ∧ w = w') := Lib.hid fun w A c h =>
    value_any A 6 c ((xs.drop 1).take 6) w hl6 (bytes_take (bytes_drop bxs 1) 6) h (by decide)
  have hcut := (hr.cut (c := 7) (i := 1) (by omega) (by omega)).pre (i := 6)
  have hne1 : ¬ (7 : Nat) = 1 := by omega
  rw [if_neg hne1] at hcut
  obtain ⟨ad, off, rfl, hlt, hcell⟩ := hr.at_ (i := 0) (by omega)
  have h0 := hcell 0 (by omega)
  rw [Nat.add_zero] at h0
  generalize hZ : xs.drop 7 = Z at *
  clear hZ
  have g7 : (7 : Int) ≤ ((7 : Nat) : Int) := by omega
  have g7b : 7 ≤ 7 := by omega
  generalize hY : (xs.drop 1).take 6 = Y at *
  clear hY hl6 hc hcell
  generalize valL Y = VV at *
  generalize xs.getD 0 0 = X0 at *
  have ew := wrapD X0 (by omega)
  have g1 : ¬ ((7 : Nat) : Int) < 7 := by omega
  have g2 : (7 : Int) ≤ ((7 : Nat) : Int) := by omega
  have g3 : (0 : Int) < ((7 : Nat) : Int) := by omega
  have g3b : 0 < 7 := by omega
  have hB : Below w.heap.size w (w.alloc (.cells #[.int .i64 0, .int .u64 0] 24)) := (Below.refl _ _).alloc (Nat.le_refl _) _
  have F := Blk.fresh w 24 #[.int .i64 0, .int .u64 0]
  go_enter Tryd.func60, Tryd.ntmps60
  go_wp2_with fail
  generalize w.alloc (.cells #[.int .i64 0, .int .u64 0] 24) = W at *
  have s0 : W.drew.cell? ⟨ad, off, none⟩ = some (.int .u8 X0) := (hB.cell (p := ⟨ad, off, none⟩) hlt).trans h0
  have Bz : Below W.heap.size W (W.alloc (.cells #[.int .i64 0, .int .u64 0] 24)).drew := ((Below.refl W.heap.size W).alloc (Nat.le_refl _) _).drew
  have hltW : ad < W.heap.size := Nat.lt_of_lt_of_le hlt hB.size
  have s1 : (W.alloc (.cells #[.int .i64 0, .int .u64 0] 24)).drew.cell? ⟨ad, off, none⟩ = some (.int .u8 X0) := (Bz.cell (p := ⟨ad, off, none⟩) hltW).trans s0
  have Bz2 : Below W.heap.size W (W.alloc (.cells #[.int .i64 X0, .int .u64 VV] 24)).drew := ((Below.refl W.heap.size W).alloc (Nat.le_refl _) _).drew
  have s2 : (W.alloc (.cells #[.int .i64 X0, .int .u64 VV] 24)).drew.cell? ⟨ad, off, none⟩ = some (.int .u8 X0) := (Bz2.cell (p := ⟨ad, off, none⟩) hltW).trans s0
  have i1 : Ints .u8 W.drew W.drew.heap.size _ Y := (hcut.below hB).more hB.size
  have i2 : Ints .u8 (W.alloc (.cells #[.int .i64 0, .int .u64 0] 24)).drew (W.alloc (.cells #[.int .i64 0, .int .u64 0] 24)).drew.heap.size _ Y := (i1.alloc (Nat.le_refl _) _).more (by simp)
  go_region_held3 (fun w' => w'.cell? ⟨ad, off, none⟩ = some (.int .u8 X0)) (first | exact s0 | exact s1 | exact s2) (first
    | (go_at_call 76; first
        | (refine (hv.out W.drew _ _ i1).mono ?_; rintro e w' ⟨rfl, rfl⟩)
        | (refine (hv.out _ _ _ i2).mono ?_; rintro e w' ⟨rfl, rfl⟩)))
  all_goals
    go_wp2_with fail
    refine (hck.out _).mono ?_
    rintro e w2 ⟨rfl, b2⟩
    have BW := thenB Bz2 b2
    have Fr := F.below BW F.lt
    have Bf := thenB hB BW
    have FB : Mem.Blk (W.alloc (.cells #[.int .i64 X0, .int .u64 VV] 24)).drew W.heap.size 24 #[.int .i64 X0, .int .u64 VV] := Blk.fresh W _ _
    have FB2 := FB.below b2 FB.lt
    have i7 := (hcut7.below Bf).more Bf.size
    clear s0 s1 s2 i1 i2 Bz Bz2 hcut hcut7 b2 FB
    go_wp2_with fail
    have t0 : w2.drew.cell? ⟨W.heap.size, 0, none⟩ = some (.int .i64 X0) ∧ w2.drew.cell? ⟨W.heap.size, 1, none⟩ = some (.int .u64 VV) := ⟨FB2.cell 0, FB2.cell 1⟩
    have hWl := FB2.lt
    have B7 : Below w2.heap.size w2 (w2.drew.alloc (.cells #[] 5)) := ((Below.refl w2.heap.size w2).drew).alloc (Nat.le_refl _) _
    have t1 : (w2.drew.alloc (.cells #[] 5)).cell? ⟨W.heap.size, 0, none⟩ = some (.int .i64 X0) ∧ (w2.drew.alloc (.cells #[] 5)).cell? ⟨W.heap.size, 1, none⟩ = some (.int .u64 VV) := ⟨(B7.cell (p := ⟨W.heap.size, 0, none⟩) hWl).trans t0.1, (B7.cell (p := ⟨W.heap.size, 1, none⟩) hWl).trans t0.2⟩
    go_region_held3 (fun w' => w'.cell? ⟨W.heap.size, 0, none⟩ = some (.int .i64 X0) ∧ w'.cell? ⟨W.heap.size, 1, none⟩ = some (.int .u64 VV)) (first | exact t0 | exact t1 | exact t2 | exact t3) (first
      | (refine step_append_ints rfl (.tmp 26) (.tmp 28) 25 rfl .u8 w2.heap.size 5 i0 _ 1 Tryd.underlying25 hi hz0 hz1 hz2 rfl (.slice (some ⟨w2.heap.size, 0, none⟩) 0 0) 0 [] rfl (World.ownsRow_made _ _ 0 (Nat.le_refl _) (by unfold maxLen; omega) rfl) w2.heap.size _ 0 0 Z rfl hd7 (i7.below B7) (by unfold maxLen; omega) (by omega) (by simp) ?_; intro v6 w6 own6 b6 _; rw [Nat.zero_add, List.nil_append] at own6; obtain ⟨A6, c6, hv6⟩ := own_form own6; rw [hv6] at own6 ⊢; have B8 := B7.trans b6; have t2 : w6.cell? ⟨W.heap.size, 0, none⟩ = some (.int .i64 X0) ∧ w6.cell? ⟨W.heap.size, 1, none⟩ = some (.int .u64 VV) := ⟨(B8.cell (p := ⟨W.heap.size, 0, none⟩) hWl).trans t0.1, (B8.cell (p := ⟨W.heap.size, 1, none⟩) hWl).trans t0.2⟩; have hwW : w.heap.size < W.heap.size := F.lt; have Fr6 := Fr.below B8 Fr.lt; obtain ⟨x0, x1, f0, f1, r0, r1, hBZ⟩ := wrote2 (x := .int .i64 X0) (y := .int .u64 VV) (thenB Bf B8) (Nat.le_refl _) Fr6; have hg9 := Fr6.lt; have hcap := own_cap own6; have own7 := ownsRow_setCell_below (ownsRow_setCell_below own6 (a := ⟨w.heap.size, 0, none⟩) (Nat.lt_of_lt_of_le hwW (Nat.le_of_lt hWl)) (.int .i64 X0)) (a := ⟨w.heap.size, 1, none⟩) (Nat.lt_of_lt_of_le hwW (Nat.le_of_lt hWl)) (.int .u64 VV); have i9 := Ints.own own7; have t3 : ((w6.setCell ⟨w.heap.size, 0, none⟩ (.int .i64 X0)).setCell ⟨w.heap.size, 1, none⟩ (.int .u64 VV)).cell? ⟨W.heap.size, 0, none⟩ = some (.int .i64 X0) ∧ ((w6.setCell ⟨w.heap.size, 0, none⟩ (.int .i64 X0)).setCell ⟨w.heap.size, 1, none⟩ (.int .u64 VV)).cell? ⟨W.heap.size, 1, none⟩ = some (.int .u64 VV) := ⟨by rw [World.cell?_setCell_far _ _ _ _ (Nat.ne_of_lt hwW), World.cell?_setCell_far _ _ _ _ (Nat.ne_of_lt hwW)]; exact t2.1, by rw [World.cell?_setCell_far _ _ _ _ (Nat.ne_of_lt hwW), World.cell?_setCell_far _ _ _ _ (Nat.ne_of_lt hwW)]; exact t2.2⟩))
    all_goals go_wp2_with fail
    all_goals refine bodyPost_ret (v := .tuple #[.agg #[.int .i64 X0, .int .u64 VV], .slice A6 0 c6, .int .i64 0]) ?_ rfl ⟨A6, c6, rfl, hcap, i9, hBZ, .inl (List.eq_nil_of_length_eq_zero (by first | omega | exact hd7))⟩
    all_goals simp [results, Tryd.f60, go_sem, r0, r1]
end Go.Proofs.YtcjlliilfecmnaaDoor.Adr
