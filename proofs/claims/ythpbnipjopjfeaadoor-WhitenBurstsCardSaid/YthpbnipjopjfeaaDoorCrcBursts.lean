/- The statement that bursts in whitened packets are detected, walked. -/
import Derived.Test.YthpbnipjopjfeaaDoorCrcLaws4
import Derived.Test.YthpbnipjopjfeaaDoorCrcLaws5
import Derived.Test.YthpbnipjopjfeaaDoorWhWalks
set_option linter.unusedVariables false
set_option linter.unusedSimpArgs false
namespace Go.Proofs.YthpbnipjopjfeaaDoor.Crc
open Go.RowKit Mem Oct Base

theorem num_white (ch : Int) (a b : List Int) (h : a.length = b.length) (x : Nat) (hn : num a = num (Wh.appL ch b) ^^^ x) : num (Wh.appL ch a) = num b ^^^ x := by
  have hs := Wh.seqL_len (Wh.fst ch) a.length
  have e1 : num (Wh.appL ch a) = num (Wh.seqL (Wh.fst ch) a.length) ^^^ num a := by unfold Wh.appL; exact num_xorL _ _ hs
  have e2 : num (Wh.appL ch b) = num (Wh.seqL (Wh.fst ch) a.length) ^^^ num b := by unfold Wh.appL; rw [← h]; exact num_xorL _ _ (by rw [hs, h])
  rw [e1, hn, e2, ← Nat.xor_assoc, ← Nat.xor_assoc, Nat.xor_self, Nat.zero_xor]
/-- What is kept through the walk: the table, the boxed struct, the argument. -/
def Fr (w0 : World) (g : Nat) (ch at_ : Int) (p : Nat) (A0 : Option Addr) (x0 : List Int) (w : World) : Prop :=
  w.cell? ⟨g, 0, none⟩ = some (.int .i64 ch) ∧ w.cell? ⟨g, 1, none⟩ = some (.int .i64 at_) ∧ w.cell? ⟨g, 2, none⟩ = some (.int .u32 p) ∧ g < w.heap.size ∧ Tab w ∧ Below g w0 w ∧ Ints .u8 w w.heap.size A0 x0
theorem Fr.step {w0 w w' : World} {g : Nat} {ch at_ : Int} {p : Nat} {A0 : Option Addr} {x0 : List Int} (h : Fr w0 g ch at_ p A0 x0 w) (b : Below w.heap.size w w') : Fr w0 g ch at_ p A0 x0 w' := by
  obtain ⟨h0, h1, h2, h3, h4, h5, h6⟩ := h
  exact ⟨(b.cell h3).trans h0, (b.cell h3).trans h1, (b.cell h3).trans h2, Nat.lt_of_lt_of_le h3 b.size, h4.below b, h5.trans (b.mono (by omega)), later h6 b⟩
theorem law_bursts (A0 : Option Addr) (n0 c0 : Nat) (x0 : List Int) (ch at_ a2 : Int) (w : World)
    (hx0 : x0.length = n0) (hc0 : n0 ≤ c0) (hi0 : Ints .u8 w w.heap.size A0 x0) (hb0 : Bytes x0) (hs0 : c0 * 1 ≤ 140737488351232)
    (u0 : -9223372036854775808 ≤ ch ∧ ch ≤ 9223372036854775807) (u1 : -9223372036854775808 ≤ at_ ∧ at_ ≤ 9223372036854775807) (u2 : 0 ≤ a2 ∧ a2 ≤ 4294967295) (hT : Tab w) :
    Calls Tryd.prog 9 #[.slice A0 n0 c0, .agg #[.int .i64 ch, .int .i64 at_, .int .u32 a2]] w fun e w' => e = .returned (.bool true) ∧ Below w.heap.size w w' := by
  obtain ⟨p, rfl⟩ : ∃ p : Nat, a2 = (p : Int) := ⟨a2.toNat, by omega⟩
  have hq := ini_lt 5592405
  have HS := Lib.hid (sum_app (ini 5592405) hq hb0)
  have HC := Lib.hid (chk_app (ini 5592405) x0)
  have HX := Lib.hid hx0
  have HA : Hid ((appL (ini 5592405) x0).length = n0 + 3) := Lib.hid (by rw [appL_len, hx0])
  have hab := appL_bytes hq hb0
  generalize hgq : ini 5592405 = q at *
  have HQ := Lib.hid hgq
  have HAQ : Hid (appL (ini 5592405) x0 = appL q x0) := Lib.hid (by rw [hgq])
  obtain ⟨S, hS⟩ : ∃ S, appL q x0 = S := ⟨_, rfl⟩
  rw [hS] at hab HS HC HA HAQ
  have HW : Hid ((Wh.appL ch S).length = n0 + 3) := Lib.hid (by rw [Wh.appL_len, HA.out])
  have hwb := Wh.appL_bytes ch hab
  have H2 := Lib.hid (Wh.appL_twice ch hab)
  have HN := Lib.hid (fun out (h : out.length = S.length) x (hn : num out = num (Wh.appL ch S) ^^^ x) => num_white ch out S h x hn)
  clear hx0 hgq hS
  obtain ⟨V, hV⟩ : ∃ V, Wh.appL ch S = V := ⟨_, rfl⟩
  rw [hV] at HW hwb H2 HN
  have HV := Lib.hid hV
  clear hV
  by_cases hbig : 4096 < n0
  · go_enter Tryd.func9, Tryd.ntmps9
    go_wp2_with (first | (go_at_call 22; refine (Wh.lives_any _).mono ?_; rintro e w1 ⟨rfl, hb⟩))
    go_ret
    exact ⟨rfl, alloc1 _ _ hb⟩
  have hbig' : decide ((4096 : Int) < (n0 : Int)) = false := by simp; omega
  go_enter Tryd.func9, Tryd.ntmps9
  go_wp2_with fail
  refine (Wh.lives_any _).mono ?_
  rintro e w1 ⟨rfl, h1'⟩
  have h1 := alloc1 _ _ h1'
  have f0 : w1.cell? ⟨w.heap.size, 0, none⟩ = some (.int .i64 ch) := by
    rw [h1'.cell (by simp)]; simp [World.cell?_alloc_at]
  have f1 : w1.cell? ⟨w.heap.size, 1, none⟩ = some (.int .i64 at_) := by
    rw [h1'.cell (by simp)]; simp [World.cell?_alloc_at]
  have f2 : w1.cell? ⟨w.heap.size, 2, none⟩ = some (.int .u32 p) := by
    rw [h1'.cell (by simp)]; simp [World.cell?_alloc_at]
  have hg : w.heap.size < w1.heap.size := by have := h1'.size; simp at this; omega
  have T1 := hT.below h1
  have p1 := later hi0 h1
  have F1 : Fr w w.heap.size ch at_ p A0 x0 w1.drew := ⟨f0, f1, f2, hg, T1, h1.drew, p1.drew⟩
  generalize hgw0 : w.heap.size = g at *
  have HG0 := Lib.hid hgw0
  clear hT h1' hi0 hgw0 f0 f1 f2 hg T1 h1 p1
  go_wp2_with fail
  go_region_held3 (fun w' => w'.cell? ⟨g, 0, none⟩ = some (.int .i64 ch)) (first | exact F4.1 | exact F3.1 | exact F2.1 | exact F1.1) (first
    | (go_at_call 23; refine (Wh.apply_any ch A3 (n0 + 3) c3 S _ u0 HA.out hab j3 (by omega)).mono ?_; rw [HV.out]; intro e w4 m4; obtain ⟨A4, c4, rfl, k4, j4, b4⟩ := m4.read HW.out; clear m4; have F4 := F3.step b4)
    | (go_at_call 19; refine (append_any 5592405 A2 n0 c2 x0 _ (by omega) HX.out hb0 j2 (by omega) F2.2.2.2.2.1).mono ?_; rw [HAQ.out]; intro e w3 m3; obtain ⟨A3, c3, rfl, k3, j3, b3⟩ := m3.read HA.out; clear m3; have F3 := F2.step b3)
    | (go_at_call 24; refine (copied4_any A0 n0 c0 x0 _ HX.out (by exact F1.2.2.2.2.2.2) (by omega)).mono ?_; intro e w2 m2; obtain ⟨A2, c2, rfl, k2, j2, b2⟩ := m2.read HX.out; clear m2; have F2 := F1.step b2))
  clear F1 F2 F3 j2 j3 b2 b3 b4
  go_wp2_with fail
  have hbn : Below w4.heap.size w4 w4.drew := ⟨rfl, rfl, rfl, Nat.le_refl _, fun _ _ => rfl⟩
  have F5 := F4.step hbn
  have j5 := later j4 hbn
  clear F4 hbn j4
  go_region_held3 (fun w' => w'.cell? ⟨g, 0, none⟩ = some (.int .i64 ch)) (first | exact F8.1 | exact F7.1 | exact F6.1 | exact F5.1) (first
    | (go_at_call 16; refine (check_any 5592405 A7 (n0 + 3) c7 S _ (by omega) HA.out k7 hab j7 (by omega) F7.2.2.2.2.1).mono ?_; rw [HQ.out]; intro e w8 m8; obtain ⟨A8, c8, rfl, j8, b8⟩ := m8.get HC.out HX.out; clear m8; have F8 := F7.step b8; have j58 := later (later (later j5 b6) b7) b8)
    | (go_at_call 23; refine (Wh.apply_any ch A6 (n0 + 3) c6 V _ u0 HW.out hwb j6 (by omega)).mono ?_; rw [H2.out]; intro e w7 m7; obtain ⟨A7, c7, rfl, k7, j7, b7⟩ := m7.read HA.out; clear m7; have F7 := F6.step b7)
    | (go_at_call 24; refine (copied4_any A4 (n0 + 3) c4 V _ HW.out (by exact j5) (by omega)).mono ?_; intro e w6 m6; obtain ⟨A6, c6, rfl, k6, j6, b6⟩ := m6.read HW.out; clear m6; have F6 := F5.step b6))
  clear F5 F6 F7 j5 j6 j7 b6 b7 b8
  obtain ⟨f0, f1, f2, hg, T8, h8, q8⟩ := F8
  have F8 : Fr w g ch at_ p A0 x0 w8 := ⟨f0, f1, f2, hg, T8, h8, q8⟩
  go_wp2_with fail
  refine (same_to (b := true) (by simp) HX.out HX.out hb0 hb0 j8 q8).mono ?_
  rintro e w9 ⟨rfl, rfl⟩
  go_wp2_with fail
  refine (flip_any A4 (n0 + 3) c4 V at_ p _ HW.out hwb j58 (by omega) u1 (by omega)).mono ?_
  rintro e w10 ⟨b10, (rfl | ⟨A10, c10, out, rfl, k10, l10, by10, j10, g1, g2, g3⟩)⟩
  · obtain ⟨_, _, _, _, _, h10, _⟩ := F8.step b10
    go_wp2_with fail
    go_ret
    exact ⟨rfl, by rw [HG0.out]; exact h10⟩
  · have F10 := F8.step b10
    obtain ⟨f0, f1, f2, hg, T10, h10, q10⟩ := F10
    have l5 := l10.trans HW.out
    rw [HW.out] at k10 ⊢
    clear F8 b10 h8 q8 T8 j8 j58
    by_cases hp0 : p % 16777216 = 0
    · have hz : ((p : Int) % 16777216 == 0) = true := by simp; omega
      go_wp2_with fail
      go_ret
      exact ⟨rfl, by rw [HG0.out]; exact h10⟩
    · have hz : ((p : Int) % 16777216 == 0) = false := by simp; omega
      have HL : Hid ((Wh.appL ch out).length = n0 + 3) := Lib.hid (by rw [Wh.appL_len, l5])
      have hob := Wh.appL_bytes ch by10
      have HR : Hid (chkR q (Wh.appL ch out) = ([], 10)) := Lib.hid (burst q hq S (Wh.appL ch out) HS.out (by rw [HL.out, HA.out]) (by rw [HA.out]; omega) hob at_.toNat (p % 2 ^ 24) (by rw [HA.out, ← HW.out]; exact g2) (Nat.mod_lt _ (by decide)) hp0 (HN.out out (by rw [l5, HA.out]) _ g3))
      generalize hO : Wh.appL ch out = O at *
      have HO := Lib.hid hO
      clear hO l10 g1 g2 g3
      go_wp2_with fail
      refine (Wh.apply_any ch A10 (n0 + 3) c10 out _ u0 l5 by10 j10 (by omega)).mono ?_
      rw [HO.out]
      intro e w11 m11
      obtain ⟨A11, c11, rfl, k11, j11, b11⟩ := m11.read HL.out
      have T11 := T10.below b11
      go_wp2_with fail
      refine (check_any 5592405 A11 (n0 + 3) c11 O _ (by omega) HL.out k11 hob j11 (by omega) T11).mono ?_
      rw [HQ.out]
      intro e w12 m12
      obtain ⟨A12, c12, rfl, j12, b12⟩ := m12.get HR.out (n := 0) rfl
      go_wp2_with fail
      go_ret
      exact ⟨rfl, by rw [HG0.out]; exact (h10.trans (b11.mono (by omega))).trans (b12.mono (by have := b11.size; omega))⟩
end Go.Proofs.YthpbnipjopjfeaaDoor.Crc
