/- The statements on bytes of parameters, walked: each returns true. -/
import Derived.Test.YtmcpgnmkjebbjaaCnLaws
import Derived.Test.YtmcpgnmkjebbjaaOpen
set_option linter.unusedVariables false
set_option linter.unusedSimpArgs false
namespace Go.Proofs.Ytmcpgnmkjebbjaa.Cn
open Go.RowKit Mem Clk Rw
open Base hiding thenB

theorem enc_bytes (a b s o i l t : Int) (m : Nat) (h d g : Int) : Bytes (encR a b s o i l t m h d g).1 := by
  unfold encR
  split
  · exact put_bytes _
  · intro z hz; cases hz
theorem dec_bad {xs : List Int} (h : (decR xs).2 ≠ 0) : (decR xs).1 = zrL := by
  unfold decR at h ⊢
  split
  · rfl
  · rename_i a
    rw [if_neg a] at h
    split
    · rfl
    · rename_i b
      rw [if_neg b] at h
      split
      · rename_i c; rw [if_pos c] at h; exact absurd rfl h
      · rfl
theorem dec_ok {xs : List Int} (bx : Bytes xs) (h : (decR xs).2 = 0) : ∃ (a b s o i l t : Int) (m : Nat) (hh d g : Int), (decR xs).1 = nmL a b s o i l t m hh d g ∧ Wide a b s o i l t m hh d g ∧ encR a b s o i l t m hh d g = (xs, 0) := by
  unfold decR at h ⊢
  by_cases a : xs.length < 25
  · rw [if_pos a] at h; cases h
  · rw [if_neg a] at h ⊢
    by_cases b : 25 < xs.length
    · rw [if_pos b] at h; cases h
    · rw [if_neg b] at h ⊢
      obtain ⟨a', b', s, o, i, l, t, m, hh, d, g, hN, hW, hP⟩ := form_of bx (by omega)
      by_cases c : okN (Oct.numsL xs szL) = 0
      · rw [if_pos c]
        refine ⟨a', b', s, o, i, l, t, m, hh, d, g, hN, hW, ?_⟩
        rw [hN, okN_nm] at c
        unfold encR; rw [if_pos c, ← hP]
      · rw [if_neg c] at h; exact absurd h c
theorem dec_enc {a b s o i l t : Int} {m : Nat} {h d g : Int} (ha : 0 ≤ a ∧ a ≤ 4294967295) (hb : 0 ≤ b) (k : okP a b s o i l t m h d g = 0) : encR a b s o i l t m h d g = (Oct.putL (flL a b s o i l t m h d g), 0) ∧ decR (Oct.putL (flL a b s o i l t m h d g)) = (nmL a b s o i l t m h d g, 0) := by
  have G := okP_good ha hb k
  refine ⟨by unfold encR; rw [if_pos k], ?_⟩
  unfold decR
  rw [fl_len, if_neg (by decide), if_neg (by decide), nums_put (good_wide G), okN_nm, if_pos k]
/-- What Decode returns, over eleven numbers. -/
theorem parN_out (n : List Int) : parN n = .agg (par (n.getD 0 0) (n.getD 1 0) (n.getD 2 0) (n.getD 3 0) (n.getD 4 0) (n.getD 5 0) (n.getD 6 0) (n.getD 7 0).toNat (n.getD 8 0) (n.getD 9 0) (n.getD 10 0)) := rfl
theorem sized_of {c : Nat} (h : c * 1 ≤ 140737488351232) : c ≤ 140737488351232 := by omega
set_option maxRecDepth 100000 in
set_option maxHeartbeats 10000000 in
theorem law_bytes (a b s o i l t h d g : Int) (m : Nat) (A : Option Addr) (n c : Nat) (xs : List Int) (w : World) (ha : 0 ≤ a ∧ a ≤ 4294967295) (hb : 0 ≤ b ∧ b ≤ 4294967295) (hm : m ≤ 18446744073709551615) (hx : xs.length = n) (hnc : n ≤ c) (hr : Ints .u8 w w.heap.size A xs) (bx : Bytes xs) (hs : c * 1 ≤ 140737488351232) :
    Calls Try.prog 4 #[.agg (par a b s o i l t m h d g), .slice A n c] w fun e w' => e = .returned (.bool true) ∧ Below w.heap.size w w' := by
  obtain ⟨i0, hi, hz0, hz1, hz2⟩ := info_parts info_u8
  have hcn := sized_of hs
  have hn : n ≤ 140737488351232 := Nat.le_trans hnc hcn
  have HL := Lib.hid lives_any
  have HE := Lib.hid fun w => encode_any a b s o i l t h d g m w ha hb hm
  have Hx := Lib.hid hx
  have F0 : Mem.Blk (w.alloc (parC a b s o i l t m h d g)) w.heap.size 28 _ := Blk.fresh w _ _
  have hbel : Below w.heap.size w (w.alloc (parC a b s o i l t m h d g)) := (Below.refl _ w).alloc (Nat.le_refl _) _
  have HRE := Lib.hid fun w => rencode_any a b s o i l t h d g m w ha hb hm
  have HB := Lib.hid (enc_bytes a b s o i l t m h d g)
  have HD := Lib.hid fun w A c hnc hr => decode_any A n c xs w hx hnc hn bx hr
  have HRD := Lib.hid fun w A c hnc hr => rdecode_any A n c xs w hx hnc hn bx hr
  rw [parN_out] at HD HRD
  generalize encR a b s o i l t m h d g = r at *
  generalize (decR xs).2 = R at *
  generalize (decR xs).1.getD 0 0 = q0 at *
  generalize (decR xs).1.getD 1 0 = q1 at *
  generalize (decR xs).1.getD 2 0 = q2 at *
  generalize (decR xs).1.getD 3 0 = q3 at *
  generalize (decR xs).1.getD 4 0 = q4 at *
  generalize (decR xs).1.getD 5 0 = q5 at *
  generalize (decR xs).1.getD 6 0 = q6 at *
  generalize ((decR xs).1.getD 7 0).toNat = q7 at *
  generalize (decR xs).1.getD 8 0 = q8 at *
  generalize (decR xs).1.getD 9 0 = q9 at *
  generalize (decR xs).1.getD 10 0 = q10 at *
  clear ha hb hm hx hs
  go_enter Try.func4, Try.ntmps4
  go_wp2_with fail
  generalize w.alloc (parC a b s o i l t m h d g) = W at *
  have hg0 := F0.lt
  obtain ⟨k0, k1, k2, k3, k4, k5, k6, k7, k8, k9, k10⟩ := elv_of F0
  go_wp2_with (first
    | (go_at_call 16; refine (HE.out _).mono ?_; clear HE; rintro e w1 ⟨A1, c1, rfl, o1, b1⟩; have B1 := thenB hbel b1; have F1 := F0.below b1 hg0; clear k0 k1 k2 k3 k4 k5 k6 k7 k8 k9 k10; obtain ⟨k0, k1, k2, k3, k4, k5, k6, k7, k8, k9, k10⟩ := elv_of F1; have i1 := Ints.own o1; clear o1)
    | (go_at_call 17; refine (HRE.out _).mono ?_; clear HRE; rintro e w2 ⟨A2, c2, rfl, o2, b2⟩; have B2 := thenB B1 b2; clear k0 k1 k2 k3 k4 k5 k6 k7 k8 k9 k10; have i1 := later i1 b2; have i2 := Ints.own o2; clear o2)
    | (at_builtin; refine wpList_append_ints rfl _ _ 34 rfl .u8 w2.heap.size 5 i0 _ 1 Try.underlying34 hi hz0 hz1 hz2 rfl (.slice (some ⟨w2.heap.size, 0, none⟩) 0 0) 0 [] rfl (World.ownsRow_made _ _ 0 (Nat.le_refl _) (by unfold maxLen; omega) rfl) w2.heap.size A n c xs rfl Hx.out ?c1 ?c2 ?c3 ?c4 ?_; (case c1 => exact (later hr B2).alloc (Nat.le_refl _) _); (case c2 => unfold maxLen; omega); (case c3 => omega); (case c4 => simp); intro v' w3 o3 b3' _; obtain ⟨A3, c3, rfl⟩ := own_form o3; simp only [Nat.zero_add, List.nil_append] at o3; have b3 : Below w2.heap.size w2 w3 := ((Below.refl _ _).alloc (Nat.le_refl _) _).trans b3'; clear b3'; have j3 := Ints.own o3; have hc3 := own_cap o3; clear o3; have i1 := later i1 b3; have i2 := later i2 b3; have B3 := thenB B2 b3)
    | (go_at_call 18; refine (HD.out _ A3 c3 hc3 j3).mono ?_; clear HD; rintro e w4 ⟨rfl, b4⟩; have B4 := thenB B3 b4; have i1 := kept (later i1 b4) (.cells #[.int .u32 q0, .int .u32 q1, .int .i64 q2, .int .i64 q3, .int .i64 q4, .int .i64 q5, .int .i64 q6, .int .u64 (q7 : Int), .int .i64 q8, .int .i64 q9, .int .i64 q10] 28); have i2 := kept (later i2 b4) (.cells #[.int .u32 q0, .int .u32 q1, .int .i64 q2, .int .i64 q3, .int .i64 q4, .int .i64 q5, .int .i64 q6, .int .u64 (q7 : Int), .int .i64 q8, .int .i64 q9, .int .i64 q10] 28); have P := Blk.fresh w4 28 #[.int .u32 q0, .int .u32 q1, .int .i64 q2, .int .i64 q3, .int .i64 q4, .int .i64 q5, .int .i64 q6, .int .u64 (q7 : Int), .int .i64 q8, .int .i64 q9, .int .i64 q10]; have B4 := B4.alloc B4.size (.cells #[.int .u32 q0, .int .u32 q1, .int .i64 q2, .int .i64 q3, .int .i64 q4, .int .i64 q5, .int .i64 q6, .int .u64 (q7 : Int), .int .i64 q8, .int .i64 q9, .int .i64 q10] 28))
    | (go_at_call 19; refine (HRD.out _ A c hnc (later hr B4)).mono ?_; clear HRD; rintro e w5 ⟨rfl, b5⟩; have B5 := thenB B4 b5; have i1 := kept (later i1 b5) (.cells #[.int .u32 q0, .int .u32 q1, .int .i64 q2, .int .i64 q3, .int .i64 q4, .int .i64 q5, .int .i64 q6, .int .u64 (q7 : Int), .int .i64 q8, .int .i64 q9, .int .i64 q10] 28); have i2 := kept (later i2 b5) (.cells #[.int .u32 q0, .int .u32 q1, .int .i64 q2, .int .i64 q3, .int .i64 q4, .int .i64 q5, .int .i64 q6, .int .u64 (q7 : Int), .int .i64 q8, .int .i64 q9, .int .i64 q10] 28); have P := (P.below b5 P.lt).alloc (.cells #[.int .u32 q0, .int .u32 q1, .int .i64 q2, .int .i64 q3, .int .i64 q4, .int .i64 q5, .int .i64 q6, .int .u64 (q7 : Int), .int .i64 q8, .int .i64 q9, .int .i64 q10] 28); have Q := Blk.fresh w5 28 #[.int .u32 q0, .int .u32 q1, .int .i64 q2, .int .i64 q3, .int .i64 q4, .int .i64 q5, .int .i64 q6, .int .u64 (q7 : Int), .int .i64 q8, .int .i64 q9, .int .i64 q10]; have B5 := B5.alloc B5.size (.cells #[.int .u32 q0, .int .u32 q1, .int .i64 q2, .int .i64 q3, .int .i64 q4, .int .i64 q5, .int .i64 q6, .int .u64 (q7 : Int), .int .i64 q8, .int .i64 q9, .int .i64 q10] 28))
    | (go_at_call 11; refine (HL.out _).mono ?_; clear HL; rintro e w6 ⟨rfl, b6⟩; have B6 := thenB B5 b6; have i1 := later i1 b6; have i2 := later i2 b6; have P := P.below b6 P.lt; have Q := Q.below b6 Q.lt; obtain ⟨x0, x1, x2, x3, x4, x5, x6, x7, x8, x9, x10⟩ := elv_of P; obtain ⟨y0, y1, y2, y3, y4, y5, y6, y7, y8, y9, y10⟩ := elv_of Q)
    | (go_at_call 20; refine (same_to (b := true) (by simp) rfl rfl HB.out HB.out i1 i2).mono ?_; rintro e w9 ⟨rfl, rfl⟩))
  go_ret
  exact ⟨rfl, B6⟩
set_option maxRecDepth 100000 in
set_option maxHeartbeats 10000000 in
theorem law_back_oo (a b s o i l t h d g : Int) (m : Nat) (A : Option Addr) (n c : Nat) (xs : List Int) (w : World) (ha : 0 ≤ a ∧ a ≤ 4294967295) (hb : 0 ≤ b ∧ b ≤ 4294967295) (hm : m ≤ 18446744073709551615) (hx : xs.length = n) (hnc : n ≤ c) (hr : Ints .u8 w w.heap.size A xs) (bx : Bytes xs) (hs : c * 1 ≤ 140737488351232)
    (k : okP a b s o i l t m h d g = 0) (kd : (decR xs).2 = 0) :
    Calls Try.prog 8 #[.agg (par a b s o i l t m h d g), .slice A n c] w fun e w' => e = .returned (.bool true) ∧ Below w.heap.size w w' := by
  obtain ⟨i0, hi, hz0, hz1, hz2⟩ := info_parts info_u8
  have hcn := sized_of hs
  have hn : n ≤ 140737488351232 := Nat.le_trans hnc hcn
  have HL := Lib.hid lives_any
  have HE := Lib.hid fun w => encode_any a b s o i l t h d g m w ha hb hm
  have Hx := Lib.hid hx
  have F0 : Mem.Blk (w.alloc (parC a b s o i l t m h d g)) w.heap.size 28 _ := Blk.fresh w _ _
  have hbel : Below w.heap.size w (w.alloc (parC a b s o i l t m h d g)) := (Below.refl _ w).alloc (Nat.le_refl _) _
  obtain ⟨hE, hD⟩ := dec_enc ha hb.1 k
  rw [hE] at HE
  have HP := Lib.hid fun w A c hc hr => decode_any A 25 c (Oct.putL (flL a b s o i l t m h d g)) w (fl_len ..) hc (by decide) (put_bytes _) hr
  rw [hD] at HP
  simp only [parN_nm] at HP
  have HF := Lib.hid (fl_len a b s o i l t m h d g)
  generalize Oct.putL (flL a b s o i l t m h d g) = ys at *
  clear hE hD
  have HD := Lib.hid fun w A c hnc hr => decode_any A n c xs w hx hnc hn bx hr
  obtain ⟨q0, q1, q2, q3, q4, q5, q6, q7, q8, q9, q10, hq, hW, hQ⟩ := dec_ok bx kd
  rw [kd, hq, parN_nm] at HD
  have HQ := Lib.hid fun w => encode_any q0 q1 q2 q3 q4 q5 q6 q8 q9 q10 q7 w hW.ha ⟨hW.hb.1, by have := hW.hb.2; omega⟩ (by have := hW.hm; omega)
  rw [hQ] at HQ
  clear hq hW hQ
  clear ha hb hm hx hs k kd
  go_enter Try.func8, Try.ntmps8
  go_wp2_with fail
  generalize w.alloc (parC a b s o i l t m h d g) = W at *
  have hg0 := F0.lt
  go_upto_region 8 with (first
    | (go_at_call 11; refine (HL.out _).mono ?_; clear HL; rintro e w1 ⟨rfl, b1⟩; have B1 := thenB hbel b1; have F1 := F0.below b1 hg0; obtain ⟨k0, k1, k2, k3, k4, k5, k6, k7, k8, k9, k10⟩ := elv_of F1)
    | (go_at_call 16; refine (HE.out _).mono ?_; clear HE; intro e w2 h2; obtain ⟨A2, c2, rfl, hc2, i2, b2⟩ := gives_ok HF.out h2; have B2 := thenB B1 b2; have F2 := F1.below b2 F1.lt; clear k0 k1 k2 k3 k4 k5 k6 k7 k8 k9 k10)
    | (go_at_call 18; refine (HP.out _ A2 c2 hc2 i2).mono ?_; clear HP; rintro e wx ⟨rfl, bX⟩; have BX := thenB B2 bX; have F2 := (F2.below bX F2.lt).alloc (parC a b s o i l t m h d g); have P := Blk.fresh wx 28 (par a b s o i l t m h d g); have BX := BX.alloc BX.size (parC a b s o i l t m h d g); obtain ⟨x0, x1, x2, x3, x4, x5, x6, x7, x8, x9, x10⟩ := elv_of F2; obtain ⟨y0, y1, y2, y3, y4, y5, y6, y7, y8, y9, y10⟩ := elv_of P))
  clear x0 x1 x2 x3 x4 x5 x6 x7 x8 x9 x10 y0 y1 y2 y3 y4 y5 y6 y7 y8 y9 y10
  clear F2 P
  generalize wx.alloc (parC a b s o i l t m h d g) = V at *
  have B2 := BX
  go_wp2_with (first
    | (at_builtin; refine wpList_append_ints rfl _ _ 34 rfl .u8 V.heap.size 5 i0 _ 1 Try.underlying34 hi hz0 hz1 hz2 rfl (.slice (some ⟨V.heap.size, 0, none⟩) 0 0) 0 [] rfl (World.ownsRow_made _ _ 0 (Nat.le_refl _) (by unfold maxLen; omega) rfl) V.heap.size A n c xs rfl Hx.out ?c1 ?c2 ?c3 ?c4 ?_; (case c1 => exact (later hr B2).alloc (Nat.le_refl _) _); (case c2 => unfold maxLen; omega); (case c3 => omega); (case c4 => simp); intro v' w3 o3 b3' _; obtain ⟨A3, c3, rfl⟩ := own_form o3; simp only [Nat.zero_add, List.nil_append] at o3; have b3 : Below V.heap.size V w3 := ((Below.refl _ _).alloc (Nat.le_refl _) _).trans b3'; clear b3'; have j3 := Ints.own o3; have hc3 := own_cap o3; clear o3; have B3 := thenB B2 b3)
    | (go_at_call 18; refine (HD.out _ A3 c3 hc3 j3).mono ?_; clear HD; rintro e w4 ⟨rfl, b4⟩; have B4 := thenB B3 b4; have Q := Blk.fresh w4 28 #[.int .u32 q0, .int .u32 q1, .int .i64 q2, .int .i64 q3, .int .i64 q4, .int .i64 q5, .int .i64 q6, .int .u64 (q7 : Int), .int .i64 q8, .int .i64 q9, .int .i64 q10]; have B4 := B4.alloc B4.size (.cells #[.int .u32 q0, .int .u32 q1, .int .i64 q2, .int .i64 q3, .int .i64 q4, .int .i64 q5, .int .i64 q6, .int .u64 (q7 : Int), .int .i64 q8, .int .i64 q9, .int .i64 q10] 28); obtain ⟨z0, z1, z2, z3, z4, z5, z6, z7, z8, z9, z10⟩ := elv_of Q)
    | (go_at_call 16; refine (HQ.out _).mono ?_; clear HQ; intro e w5 h5; obtain ⟨A5, c5, rfl, hc5, i5, b5⟩ := gives_ok Hx.out h5; have B5 := thenB B4 b5)
    | (go_at_call 20; refine (same_to (b := true) (by simp) Hx.out Hx.out bx bx i5 (later hr B5)).mono ?_; rintro e w9 ⟨rfl, rfl⟩))
  go_ret
  exact ⟨rfl, B5⟩
set_option maxRecDepth 100000 in
set_option maxHeartbeats 10000000 in
theorem law_back_on (a b s o i l t h d g : Int) (m : Nat) (A : Option Addr) (n c : Nat) (xs : List Int) (w : World) (ha : 0 ≤ a ∧ a ≤ 4294967295) (hb : 0 ≤ b ∧ b ≤ 4294967295) (hm : m ≤ 18446744073709551615) (hx : xs.length = n) (hnc : n ≤ c) (hr : Ints .u8 w w.heap.size A xs) (bx : Bytes xs) (hs : c * 1 ≤ 140737488351232)
    (k : okP a b s o i l t m h d g = 0) (kd : (decR xs).2 ≠ 0) :
    Calls Try.prog 8 #[.agg (par a b s o i l t m h d g), .slice A n c] w fun e w' => e = .returned (.bool true) ∧ Below w.heap.size w w' := by
  obtain ⟨i0, hi, hz0, hz1, hz2⟩ := info_parts info_u8
  have hcn := sized_of hs
  have hn : n ≤ 140737488351232 := Nat.le_trans hnc hcn
  have HL := Lib.hid lives_any
  have HE := Lib.hid fun w => encode_any a b s o i l t h d g m w ha hb hm
  have Hx := Lib.hid hx
  have F0 : Mem.Blk (w.alloc (parC a b s o i l t m h d g)) w.heap.size 28 _ := Blk.fresh w _ _
  have hbel : Below w.heap.size w (w.alloc (parC a b s o i l t m h d g)) := (Below.refl _ w).alloc (Nat.le_refl _) _
  obtain ⟨hE, hD⟩ := dec_enc ha hb.1 k
  rw [hE] at HE
  have HP := Lib.hid fun w A c hc hr => decode_any A 25 c (Oct.putL (flL a b s o i l t m h d g)) w (fl_len ..) hc (by decide) (put_bytes _) hr
  rw [hD] at HP
  simp only [parN_nm] at HP
  have HF := Lib.hid (fl_len a b s o i l t m h d g)
  generalize Oct.putL (flL a b s o i l t m h d g) = ys at *
  clear hE hD
  have HD := Lib.hid fun w A c hnc hr => decode_any A n c xs w hx hnc hn bx hr
  rw [dec_bad kd] at HD
  rw [show parN zrL = .agg (par 0 0 0 0 0 0 0 0 0 0 0) by simp only [zrL, parN_nm]] at HD
  obtain ⟨R2, hR2⟩ : ∃ R2, (decR xs).2 = R2 := ⟨_, rfl⟩
  rw [hR2] at HD kd
  have q1 : (R2 != 0) = true := by simpa using kd
  clear hR2
  clear ha hb hm hx hs k kd
  go_enter Try.func8, Try.ntmps8
  go_wp2_with fail
  generalize w.alloc (parC a b s o i l t m h d g) = W at *
  have hg0 := F0.lt
  go_upto_region 8 with (first
    | (go_at_call 11; refine (HL.out _).mono ?_; clear HL; rintro e w1 ⟨rfl, b1⟩; have B1 := thenB hbel b1; have F1 := F0.below b1 hg0; obtain ⟨k0, k1, k2, k3, k4, k5, k6, k7, k8, k9, k10⟩ := elv_of F1)
    | (go_at_call 16; refine (HE.out _).mono ?_; clear HE; intro e w2 h2; obtain ⟨A2, c2, rfl, hc2, i2, b2⟩ := gives_ok HF.out h2; have B2 := thenB B1 b2; have F2 := F1.below b2 F1.lt; clear k0 k1 k2 k3 k4 k5 k6 k7 k8 k9 k10)
    | (go_at_call 18; refine (HP.out _ A2 c2 hc2 i2).mono ?_; clear HP; rintro e wx ⟨rfl, bX⟩; have BX := thenB B2 bX; have F2 := (F2.below bX F2.lt).alloc (parC a b s o i l t m h d g); have P := Blk.fresh wx 28 (par a b s o i l t m h d g); have BX := BX.alloc BX.size (parC a b s o i l t m h d g); obtain ⟨x0, x1, x2, x3, x4, x5, x6, x7, x8, x9, x10⟩ := elv_of F2; obtain ⟨y0, y1, y2, y3, y4, y5, y6, y7, y8, y9, y10⟩ := elv_of P))
  clear x0 x1 x2 x3 x4 x5 x6 x7 x8 x9 x10 y0 y1 y2 y3 y4 y5 y6 y7 y8 y9 y10
  clear F2 P
  generalize wx.alloc (parC a b s o i l t m h d g) = V at *
  have B2 := BX
  go_wp2_with (first
    | (at_builtin; refine wpList_append_ints rfl _ _ 34 rfl .u8 V.heap.size 5 i0 _ 1 Try.underlying34 hi hz0 hz1 hz2 rfl (.slice (some ⟨V.heap.size, 0, none⟩) 0 0) 0 [] rfl (World.ownsRow_made _ _ 0 (Nat.le_refl _) (by unfold maxLen; omega) rfl) V.heap.size A n c xs rfl Hx.out ?c1 ?c2 ?c3 ?c4 ?_; (case c1 => exact (later hr B2).alloc (Nat.le_refl _) _); (case c2 => unfold maxLen; omega); (case c3 => omega); (case c4 => simp); intro v' w3 o3 b3' _; obtain ⟨A3, c3, rfl⟩ := own_form o3; simp only [Nat.zero_add, List.nil_append] at o3; have b3 : Below V.heap.size V w3 := ((Below.refl _ _).alloc (Nat.le_refl _) _).trans b3'; clear b3'; have j3 := Ints.own o3; have hc3 := own_cap o3; clear o3; have B3 := thenB B2 b3)
    | (go_at_call 18; refine (HD.out _ A3 c3 hc3 j3).mono ?_; clear HD; rintro e w4 ⟨rfl, b4⟩; have B4 := thenB B3 b4; have Q := Blk.fresh w4 28 #[.int .u32 0, .int .u32 0, .int .i64 0, .int .i64 0, .int .i64 0, .int .i64 0, .int .i64 0, .int .u64 0, .int .i64 0, .int .i64 0, .int .i64 0]; have B4 := B4.alloc B4.size (.cells #[.int .u32 0, .int .u32 0, .int .i64 0, .int .i64 0, .int .i64 0, .int .i64 0, .int .i64 0, .int .u64 0, .int .i64 0, .int .i64 0, .int .i64 0] 28); obtain ⟨z0, z1, z2, z3, z4, z5, z6, z7, z8, z9, z10⟩ := elv_of (m := 0) Q))
  go_ret
  exact ⟨rfl, B4⟩
set_option maxRecDepth 100000 in
set_option maxHeartbeats 10000000 in
theorem law_back_no (a b s o i l t h d g : Int) (m : Nat) (A : Option Addr) (n c : Nat) (xs : List Int) (w : World) (ha : 0 ≤ a ∧ a ≤ 4294967295) (hb : 0 ≤ b ∧ b ≤ 4294967295) (hm : m ≤ 18446744073709551615) (hx : xs.length = n) (hnc : n ≤ c) (hr : Ints .u8 w w.heap.size A xs) (bx : Bytes xs) (hs : c * 1 ≤ 140737488351232)
    (k : okP a b s o i l t m h d g ≠ 0) (kd : (decR xs).2 = 0) :
    Calls Try.prog 8 #[.agg (par a b s o i l t m h d g), .slice A n c] w fun e w' => e = .returned (.bool true) ∧ Below w.heap.size w w' := by
  obtain ⟨i0, hi, hz0, hz1, hz2⟩ := info_parts info_u8
  have hcn := sized_of hs
  have hn : n ≤ 140737488351232 := Nat.le_trans hnc hcn
  have HL := Lib.hid lives_any
  have HE := Lib.hid fun w => encode_any a b s o i l t h d g m w ha hb hm
  have Hx := Lib.hid hx
  have F0 : Mem.Blk (w.alloc (parC a b s o i l t m h d g)) w.heap.size 28 _ := Blk.fresh w _ _
  have hbel : Below w.heap.size w (w.alloc (parC a b s o i l t m h d g)) := (Below.refl _ w).alloc (Nat.le_refl _) _
  rw [enc_bad k] at HE
  generalize okP a b s o i l t m h d g = R at *
  have q0 : (R == 0) = false := by simpa using k
  have HD := Lib.hid fun w A c hnc hr => decode_any A n c xs w hx hnc hn bx hr
  obtain ⟨q0, q1, q2, q3, q4, q5, q6, q7, q8, q9, q10, hq, hW, hQ⟩ := dec_ok bx kd
  rw [kd, hq, parN_nm] at HD
  have HQ := Lib.hid fun w => encode_any q0 q1 q2 q3 q4 q5 q6 q8 q9 q10 q7 w hW.ha ⟨hW.hb.1, by have := hW.hb.2; omega⟩ (by have := hW.hm; omega)
  rw [hQ] at HQ
  clear hq hW hQ
  clear ha hb hm hx hs k kd
  go_enter Try.func8, Try.ntmps8
  go_wp2_with fail
  generalize w.alloc (parC a b s o i l t m h d g) = W at *
  have hg0 := F0.lt
  go_wp2_with (first
    | (go_at_call 11; refine (HL.out _).mono ?_; clear HL; rintro e w1 ⟨rfl, b1⟩; have B1 := thenB hbel b1; have F1 := F0.below b1 hg0; obtain ⟨k0, k1, k2, k3, k4, k5, k6, k7, k8, k9, k10⟩ := elv_of F1)
    | (go_at_call 16; refine (HE.out _).mono ?_; clear HE; rintro e w2 ⟨A2, c2, rfl, _, b2⟩; have B2 := thenB B1 b2; clear k0 k1 k2 k3 k4 k5 k6 k7 k8 k9 k10; try simp only [List.length_nil])
    | (at_builtin; refine wpList_append_ints rfl _ _ 34 rfl .u8 w2.heap.size 5 i0 _ 1 Try.underlying34 hi hz0 hz1 hz2 rfl (.slice (some ⟨w2.heap.size, 0, none⟩) 0 0) 0 [] rfl (World.ownsRow_made _ _ 0 (Nat.le_refl _) (by unfold maxLen; omega) rfl) w2.heap.size A n c xs rfl Hx.out ?c1 ?c2 ?c3 ?c4 ?_; (case c1 => exact (later hr B2).alloc (Nat.le_refl _) _); (case c2 => unfold maxLen; omega); (case c3 => omega); (case c4 => simp); intro v' w3 o3 b3' _; obtain ⟨A3, c3, rfl⟩ := own_form o3; simp only [Nat.zero_add, List.nil_append] at o3; have b3 : Below w2.heap.size w2 w3 := ((Below.refl _ _).alloc (Nat.le_refl _) _).trans b3'; clear b3'; have j3 := Ints.own o3; have hc3 := own_cap o3; clear o3; have B3 := thenB B2 b3)
    | (go_at_call 18; refine (HD.out _ A3 c3 hc3 j3).mono ?_; clear HD; rintro e w4 ⟨rfl, b4⟩; have B4 := thenB B3 b4; have Q := Blk.fresh w4 28 #[.int .u32 q0, .int .u32 q1, .int .i64 q2, .int .i64 q3, .int .i64 q4, .int .i64 q5, .int .i64 q6, .int .u64 (q7 : Int), .int .i64 q8, .int .i64 q9, .int .i64 q10]; have B4 := B4.alloc B4.size (.cells #[.int .u32 q0, .int .u32 q1, .int .i64 q2, .int .i64 q3, .int .i64 q4, .int .i64 q5, .int .i64 q6, .int .u64 (q7 : Int), .int .i64 q8, .int .i64 q9, .int .i64 q10] 28); obtain ⟨z0, z1, z2, z3, z4, z5, z6, z7, z8, z9, z10⟩ := elv_of Q)
    | (go_at_call 16; refine (HQ.out _).mono ?_; clear HQ; intro e w5 h5; obtain ⟨A5, c5, rfl, hc5, i5, b5⟩ := gives_ok Hx.out h5; have B5 := thenB B4 b5)
    | (go_at_call 20; refine (same_to (b := true) (by simp) Hx.out Hx.out bx bx i5 (later hr B5)).mono ?_; rintro e w9 ⟨rfl, rfl⟩))
  go_ret
  exact ⟨rfl, B5⟩
set_option maxRecDepth 100000 in
set_option maxHeartbeats 10000000 in
theorem law_back_nn (a b s o i l t h d g : Int) (m : Nat) (A : Option Addr) (n c : Nat) (xs : List Int) (w : World) (ha : 0 ≤ a ∧ a ≤ 4294967295) (hb : 0 ≤ b ∧ b ≤ 4294967295) (hm : m ≤ 18446744073709551615) (hx : xs.length = n) (hnc : n ≤ c) (hr : Ints .u8 w w.heap.size A xs) (bx : Bytes xs) (hs : c * 1 ≤ 140737488351232)
    (k : okP a b s o i l t m h d g ≠ 0) (kd : (decR xs).2 ≠ 0) :
    Calls Try.prog 8 #[.agg (par a b s o i l t m h d g), .slice A n c] w fun e w' => e = .returned (.bool true) ∧ Below w.heap.size w w' := by
  obtain ⟨i0, hi, hz0, hz1, hz2⟩ := info_parts info_u8
  have hcn := sized_of hs
  have hn : n ≤ 140737488351232 := Nat.le_trans hnc hcn
  have HL := Lib.hid lives_any
  have HE := Lib.hid fun w => encode_any a b s o i l t h d g m w ha hb hm
  have Hx := Lib.hid hx
  have F0 : Mem.Blk (w.alloc (parC a b s o i l t m h d g)) w.heap.size 28 _ := Blk.fresh w _ _
  have hbel : Below w.heap.size w (w.alloc (parC a b s o i l t m h d g)) := (Below.refl _ w).alloc (Nat.le_refl _) _
  rw [enc_bad k] at HE
  generalize okP a b s o i l t m h d g = R at *
  have q0 : (R == 0) = false := by simpa using k
  have HD := Lib.hid fun w A c hnc hr => decode_any A n c xs w hx hnc hn bx hr
  rw [dec_bad kd] at HD
  rw [show parN zrL = .agg (par 0 0 0 0 0 0 0 0 0 0 0) by simp only [zrL, parN_nm]] at HD
  obtain ⟨R2, hR2⟩ : ∃ R2, (decR xs).2 = R2 := ⟨_, rfl⟩
  rw [hR2] at HD kd
  have q1 : (R2 != 0) = true := by simpa using kd
  clear hR2
  clear ha hb hm hx hs k kd
  go_enter Try.func8, Try.ntmps8
  go_wp2_with fail
  generalize w.alloc (parC a b s o i l t m h d g) = W at *
  have hg0 := F0.lt
  go_wp2_with (first
    | (go_at_call 11; refine (HL.out _).mono ?_; clear HL; rintro e w1 ⟨rfl, b1⟩; have B1 := thenB hbel b1; have F1 := F0.below b1 hg0; obtain ⟨k0, k1, k2, k3, k4, k5, k6, k7, k8, k9, k10⟩ := elv_of F1)
    | (go_at_call 16; refine (HE.out _).mono ?_; clear HE; rintro e w2 ⟨A2, c2, rfl, _, b2⟩; have B2 := thenB B1 b2; clear k0 k1 k2 k3 k4 k5 k6 k7 k8 k9 k10; try simp only [List.length_nil])
    | (at_builtin; refine wpList_append_ints rfl _ _ 34 rfl .u8 w2.heap.size 5 i0 _ 1 Try.underlying34 hi hz0 hz1 hz2 rfl (.slice (some ⟨w2.heap.size, 0, none⟩) 0 0) 0 [] rfl (World.ownsRow_made _ _ 0 (Nat.le_refl _) (by unfold maxLen; omega) rfl) w2.heap.size A n c xs rfl Hx.out ?c1 ?c2 ?c3 ?c4 ?_; (case c1 => exact (later hr B2).alloc (Nat.le_refl _) _); (case c2 => unfold maxLen; omega); (case c3 => omega); (case c4 => simp); intro v' w3 o3 b3' _; obtain ⟨A3, c3, rfl⟩ := own_form o3; simp only [Nat.zero_add, List.nil_append] at o3; have b3 : Below w2.heap.size w2 w3 := ((Below.refl _ _).alloc (Nat.le_refl _) _).trans b3'; clear b3'; have j3 := Ints.own o3; have hc3 := own_cap o3; clear o3; have B3 := thenB B2 b3)
    | (go_at_call 18; refine (HD.out _ A3 c3 hc3 j3).mono ?_; clear HD; rintro e w4 ⟨rfl, b4⟩; have B4 := thenB B3 b4; have Q := Blk.fresh w4 28 #[.int .u32 0, .int .u32 0, .int .i64 0, .int .i64 0, .int .i64 0, .int .i64 0, .int .i64 0, .int .u64 0, .int .i64 0, .int .i64 0, .int .i64 0]; have B4 := B4.alloc B4.size (.cells #[.int .u32 0, .int .u32 0, .int .i64 0, .int .i64 0, .int .i64 0, .int .i64 0, .int .i64 0, .int .u64 0, .int .i64 0, .int .i64 0, .int .i64 0] 28); obtain ⟨z0, z1, z2, z3, z4, z5, z6, z7, z8, z9, z10⟩ := elv_of (m := 0) Q))
  go_ret
  exact ⟨rfl, B4⟩
theorem law_back (a b s o i l t h d g : Int) (m : Nat) (A : Option Addr) (n c : Nat) (xs : List Int) (w : World) (ha : 0 ≤ a ∧ a ≤ 4294967295) (hb : 0 ≤ b ∧ b ≤ 4294967295) (hm : m ≤ 18446744073709551615) (hx : xs.length = n) (hnc : n ≤ c) (hr : Ints .u8 w w.heap.size A xs) (bx : Bytes xs) (hs : c * 1 ≤ 140737488351232) :
    Calls Try.prog 8 #[.agg (par a b s o i l t m h d g), .slice A n c] w fun e w' => e = .returned (.bool true) ∧ Below w.heap.size w w' := by
  by_cases k : okP a b s o i l t m h d g = 0
  · by_cases kd : (decR xs).2 = 0
    · exact law_back_oo a b s o i l t h d g m A n c xs w ha hb hm hx hnc hr bx hs k kd
    · exact law_back_on a b s o i l t h d g m A n c xs w ha hb hm hx hnc hr bx hs k kd
  · by_cases kd : (decR xs).2 = 0
    · exact law_back_no a b s o i l t h d g m A n c xs w ha hb hm hx hnc hr bx hs k kd
    · exact law_back_nn a b s o i l t h d g m A n c xs w ha hb hm hx hnc hr bx hs k kd
theorem go_bytes (a b s o i l t m h d g : Int) (A : Option Addr) (n c : Nat) (xs : List Int) (w : World) (g1 : (Lit.int .u32 a).wf = true ∧ (Lit.int .u32 b).wf = true ∧ (Lit.int .u64 m).wf = true) (hx : xs.length = n) (hnc : n ≤ c) (hr : Ints .u8 w w.heap.size A xs) (bx : Bytes xs) (hs : c * 1 ≤ 140737488351232) :
    Calls Try.prog 4 #[.agg #[.int .u32 a, .int .u32 b, .int .i64 s, .int .i64 o, .int .i64 i, .int .i64 l, .int .i64 t, .int .u64 m, .int .i64 h, .int .i64 d, .int .i64 g], .slice A n c] w fun e w' => e = .returned (.bool true) ∧ Below w.heap.size w w' := by
  have hm := bounds_u64 g1.2.2
  obtain ⟨k, rfl⟩ := Int.eq_ofNat_of_zero_le hm.1
  exact law_bytes a b s o i l t h d g k A n c xs w (bounds_u32 g1.1) (bounds_u32 g1.2.1) (by omega) hx hnc hr bx hs
theorem go_back (a b s o i l t m h d g : Int) (A : Option Addr) (n c : Nat) (xs : List Int) (w : World) (g1 : (Lit.int .u32 a).wf = true ∧ (Lit.int .u32 b).wf = true ∧ (Lit.int .u64 m).wf = true) (hx : xs.length = n) (hnc : n ≤ c) (hr : Ints .u8 w w.heap.size A xs) (bx : Bytes xs) (hs : c * 1 ≤ 140737488351232) :
    Calls Try.prog 8 #[.agg #[.int .u32 a, .int .u32 b, .int .i64 s, .int .i64 o, .int .i64 i, .int .i64 l, .int .i64 t, .int .u64 m, .int .i64 h, .int .i64 d, .int .i64 g], .slice A n c] w fun e w' => e = .returned (.bool true) ∧ Below w.heap.size w w' := by
  have hm := bounds_u64 g1.2.2
  obtain ⟨k, rfl⟩ := Int.eq_ofNat_of_zero_le hm.1
  exact law_back a b s o i l t h d g k A n c xs w (bounds_u32 g1.1) (bounds_u32 g1.2.1) (by omega) hx hnc hr bx hs
end Go.Proofs.Ytmcpgnmkjebbjaa.Cn
