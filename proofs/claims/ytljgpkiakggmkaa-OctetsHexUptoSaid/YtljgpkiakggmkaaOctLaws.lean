/- The statements on the layer of bytes, walked: each returns true. -/
import Derived.Test.YtljgpkiakggmkaaOctLives
import Derived.Test.YtljgpkiakggmkaaFlds
set_option linter.unusedVariables false
set_option linter.unusedSimpArgs false
namespace Go.Proofs.Ytljgpkiakggmkaa.Oct
open Go.RowKit Mem

theorem rtake_to {xs zs : List Int} {r : List Int × List Int × Int} (hr : takeR xs zs = r) {A A' : Option Addr} {n n' c c' : Nat} {w : World} (hx : xs.length = n) (hz : zs.length = n') (hnc : n ≤ c) (hn : n ≤ 140737488351232) (hn' : n' ≤ 17592186043904) (bxs : Bytes xs) (bzs : Sizes zs) (h : Ints .u8 w w.heap.size A xs) (h' : Ints .i64 w w.heap.size A' zs) :
    Calls Try.prog 35 #[.slice A n c, .slice A' n' c'] w fun e w' => Gives3 w w' e r := by
  rw [← hr]; exact rtake_any A A' n n' c c' xs zs w hx hz hnc hn hn' bxs bzs h h'
theorem rput_to {fs : List (Int × Int)} {r : List Int × Int} (hr : putR fs = r) {A : Option Addr} {n c : Nat} {w : World} (hf : Fields fs) (hl : fs.length = n) (hn : n ≤ 8796093022208) (h : FldsAt w w.heap.size A fs) :
    Calls Try.prog 30 #[.slice A n c] w fun e w' => Gives w w' e r := by
  rw [← hr]; exact rput_any A n c fs w hf hl hn h
theorem runhex_to {s : ByteArray} {r : List Int × Int} (hr : unhexR (chL s) = r) {w : World} (hs : s.size ≤ 140737488355328) :
    Calls Try.prog 41 #[.string s] w fun e w' => Gives w w' e r := by
  rw [← hr]; exact runhex_any s w hs
theorem unhexR_bytes (l : List Int) : Bytes (unhexR l).1 := by
  unfold unhexR
  split
  · rename_i h; exact unL_bytes h.2
  · intro z hz; cases hz
theorem putR_bytes (fs : List (Int × Int)) : Bytes (putR fs).1 := by
  unfold putR
  split
  · have : ∀ l : List (Int × Int), Bytes (putL l) := by
      intro l
      induction l with
      | nil => intro z hz; cases hz
      | cons f r ih => exact bytes_append (numL_bytes _ _) ih
    exact this fs
  · intro z hz; cases hz
theorem law_take (A0 : Option Addr) (n0 c0 : Nat) (x0 : List Int) (A1 : Option Addr) (n1 c1 : Nat) (x1 : List Int) (w : World)
    (hx0 : x0.length = n0) (hc0 : n0 ≤ c0) (hi0 : Ints .u8 w w.heap.size A0 x0) (hb0 : Bytes x0) (hs0 : c0 * 1 ≤ 140737488351232)
    (hx1 : x1.length = n1) (hc1 : n1 ≤ c1) (hi1 : Ints .i64 w w.heap.size A1 x1) (hb1 : Sizes x1) (hs1 : c1 * 8 ≤ 140737488351232) :
    Calls Try.prog 10 #[.slice A0 n0 c0, .slice A1 n1 c1] w fun e w' => e = .returned (.bool true) ∧ Below w.heap.size w w' := by
  obtain ⟨i0, hi, hz0, hz1, hz2⟩ := info_parts info_int
  have Hx0 := Lib.hid hx0
  have Hx1 := Lib.hid hx1
  clear hx0 hx1
  have bR : Bytes (takeR x0 x1).2.1 := takeR_bytes hb0 x1
  have lR1 := takeR_len1 x0 x1
  have lR2 := takeR_len2 x0 x1
  rw [Hx0.out] at lR2
  rw [Hx1.out] at lR1
  obtain ⟨r, hr⟩ : ∃ r, takeR x0 x1 = r := ⟨_, rfl⟩
  have HR := Lib.hid hr
  rw [hr] at bR lR1 lR2
  clear hr
  obtain ⟨ns, bs, er⟩ := r
  simp only at bR lR1 lR2
  go_enter Try.func10, Try.ntmps10
  go_wp2_with fail
  refine (copied_any A0 n0 c0 x0 w Hx0.out hi0 (by omega)).mono ?_
  rintro e w1 ⟨A2, c2, rfl, o2, b1⟩
  have j2 := Ints.own o2
  have k2 := own_cap o2
  have j1 := hi1.below b1
  have z1 := b1.size
  clear o2
  go_wp2_with (at_builtin; refine wpList_append_ints rfl _ _ 44 rfl .i64 w1.heap.size 3 i0 _ 8 Try.underlying44 hi hz0 hz1 hz2 rfl (.slice (some ⟨w1.heap.size, 0, none⟩) 0 0) 0 [] rfl (World.ownsRow_made _ _ 0 (Nat.le_refl _) (by unfold maxLen; omega) rfl) w.heap.size A1 n1 c1 x1 rfl Hx1.out ?c1 ?c2 ?c3 ?c4 ?_; (case c1 => exact j1.alloc z1 _); (case c2 => unfold maxLen; omega); (case c3 => omega); (case c4 => simp); intro v3 w3 o3 b3 _; obtain ⟨A3, c3, rfl⟩ := own_form o3)
  simp only [Nat.zero_add, List.nil_append] at o3
  have k3 : Below w1.heap.size w1 w3 := ((Below.refl _ _).alloc (Nat.le_refl _) _).trans b3
  have j2 := later j2 k3
  have j3 := Ints.own o3
  have hb3 := b1.trans (k3.mono z1)
  clear o3 b3 k3 j1 b1 z1
  refine (take_to HR.out Hx0.out Hx1.out k2 (by omega) (by omega) hb0 hb1 j2 j3).mono ?_
  rintro e w4 ⟨A4, c4, A5, c5, rfl, o4, o5, b4⟩
  have hb4 := hb3.trans (b4.mono hb3.size)
  have j4 := Ints.own o4
  have j5 := Ints.own o5
  clear o4 o5 b4 j2 j3 hb3
  go_wp2_with fail
  refine (rtake_to HR.out Hx0.out Hx1.out hc0 (by omega) (by omega) hb0 hb1 (later hi0 hb4) (later hi1 hb4)).mono ?_
  rintro e w5 ⟨A6, c6, A7, c7, rfl, o6, o7, b5⟩
  have hb5 := hb4.trans (b5.mono hb4.size)
  have j6 := Ints.own o6
  have j7 := Ints.own o7
  have j4 := later j4 b5
  have j5 := later j5 b5
  clear o6 o7 b5 hb4
  go_wp2_with fail
  refine (lives2_any w5).mono ?_
  rintro e w6 ⟨rfl, b6⟩
  have hb6 := hb5.trans (b6.mono hb5.size)
  have j4 := later j4 b6
  have j5 := later j5 b6
  have j6 := later j6 b6
  have j7 := later j7 b6
  clear b6 hb5
  go_wp2_with fail
  refine (samenum_to (b := true) (xs := ns) (ys := ns) (by simp) rfl rfl (by omega) (by omega) j4 j6).mono ?_
  rintro e w7 ⟨rfl, b7⟩
  have hb7 := hb6.trans (b7.mono hb6.size)
  have j5 := later j5 b7
  have j7 := later j7 b7
  clear b7 hb6
  go_wp2_with fail
  refine (same_to (b := true) (xs := bs) (ys := bs) (by simp) rfl rfl bR bR j5 j7).mono ?_
  rintro e w8 ⟨rfl, b8⟩
  have hb8 := hb7.trans (b8.mono hb7.size)
  clear b8 hb7
  go_wp2_with fail
  go_ret
  exact ⟨rfl, hb8⟩
theorem law_put (A0 : Option Addr) (n0 c0 : Nat) (x0 : List (Int × Int)) (w : World)
    (hx0 : x0.length = n0) (hc0 : n0 ≤ c0) (hi0 : FldsAt w w.heap.size A0 x0) (hb0 : Fields x0) (hs0 : c0 * 16 ≤ 140737488351232) :
    Calls Try.prog 9 #[.slice A0 n0 c0] w fun e w' => e = .returned (.bool true) ∧ Below w.heap.size w w' := by
  obtain ⟨i0, hi, hz0, hz1, hz2⟩ := info_parts info_fld
  have Hx0 := Lib.hid hx0
  clear hx0
  have bR := putR_bytes x0
  obtain ⟨r, hr⟩ : ∃ r, putR x0 = r := ⟨_, rfl⟩
  have HR := Lib.hid hr
  rw [hr] at bR
  clear hr
  obtain ⟨bs, er⟩ := r
  simp only at bR
  go_enter Try.func9, Try.ntmps9
  go_wp2_with (at_builtin; refine wpList_append_flds rfl _ _ 36 rfl w.heap.size 59 i0 _ 16 Try.underlying36 hi hz0 hz1 hz2 rfl (.slice (some ⟨w.heap.size, 0, none⟩) 0 0) 0 [] rfl (World.ownsRow_made _ _ 0 (Nat.le_refl _) (by unfold maxLen; omega) rfl) w.heap.size A0 n0 c0 x0 rfl Hx0.out ?c1 ?c2 ?c3 ?c4 ?_; (case c1 => exact hi0.below ((Below.refl _ _).alloc (Nat.le_refl _) _)); (case c2 => unfold maxLen; omega); (case c3 => omega); (case c4 => simp); intro v1 w1 o1 b1; obtain ⟨A1, c1, rfl⟩ := own_form o1)
  simp only [Nat.zero_add, List.nil_append] at o1
  have hb1 : Below w.heap.size w w1 := ((Below.refl _ _).alloc (Nat.le_refl _) _).trans b1
  have j1 := (FldsAt.own o1).1
  clear b1 o1
  refine (put_to HR.out hb0 Hx0.out (by omega) j1).mono ?_
  rintro e w2 ⟨A2, c2, rfl, o2, b2⟩
  have hb2 := hb1.trans (b2.mono hb1.size)
  have j2 := Ints.own o2
  clear o2 b2 j1 hb1
  go_wp2_with fail
  refine (rput_to HR.out hb0 Hx0.out (by omega) ((hi0.below hb2).more hb2.size)).mono ?_
  rintro e w3 ⟨A3, c3, rfl, o3, b3⟩
  have hb3 := hb2.trans (b3.mono hb2.size)
  have j3 := Ints.own o3
  have j2 := later j2 b3
  clear o3 b3 hb2
  go_wp2_with fail
  refine (lives2_any w3).mono ?_
  rintro e w4 ⟨rfl, b4⟩
  have hb4 := hb3.trans (b4.mono hb3.size)
  have j2 := later j2 b4
  have j3 := later j3 b4
  clear b4 hb3
  go_wp2_with fail
  refine (same_to (b := true) (xs := bs) (ys := bs) (by simp) rfl rfl bR bR j2 j3).mono ?_
  rintro e w5 ⟨rfl, b5⟩
  have hb5 := hb4.trans (b5.mono hb4.size)
  clear b5 hb4
  go_wp2_with fail
  go_ret
  exact ⟨rfl, hb5⟩
theorem law_hex (A0 : Option Addr) (n0 c0 : Nat) (x0 : List Int) (s1 : ByteArray) (w : World)
    (hx0 : x0.length = n0) (hc0 : n0 ≤ c0) (hi0 : Ints .u8 w w.heap.size A0 x0) (hb0 : Bytes x0) (hs0 : c0 ≤ 1048576) (hs1 : s1.size ≤ 1048576) :
    Calls Try.prog 12 #[.slice A0 n0 c0, .string s1] w fun e w' => e = .returned (.bool true) ∧ Below w.heap.size w w' := by
  have Hx0 := Lib.hid hx0
  clear hx0
  have bR : Bytes (unhexR (chL s1)).1 := unhexR_bytes _
  obtain ⟨r, hr⟩ : ∃ r, unhexR (chL s1) = r := ⟨_, rfl⟩
  have HR := Lib.hid hr
  rw [hr] at bR
  clear hr
  obtain ⟨bs, er⟩ := r
  simp only at bR
  go_enter Try.func12, Try.ntmps12
  go_wp2_with fail
  refine (unhex_to HR.out (by omega)).mono ?_
  rintro e w1 ⟨A1, c1, rfl, o1, hb1⟩
  have j1 := Ints.own o1
  clear o1
  go_wp2_with fail
  refine (runhex_to HR.out (by omega)).mono ?_
  rintro e w2 ⟨A2, c2, rfl, o2, b2⟩
  have hb2 := hb1.trans (b2.mono hb1.size)
  have j2 := Ints.own o2
  have j1 := later j1 b2
  clear o2 b2 hb1
  go_wp2_with fail
  refine (lives2_any w2).mono ?_
  rintro e w3 ⟨rfl, b3⟩
  have hb3 := hb2.trans (b3.mono hb2.size)
  have j1 := later j1 b3
  have j2 := later j2 b3
  clear b3 hb2
  go_wp2_with fail
  refine (copied_any A0 n0 c0 x0 w3 Hx0.out (later hi0 hb3) (by omega)).mono ?_
  rintro e w4 ⟨A4, c4, rfl, o4, b4⟩
  have hb4 := hb3.trans (b4.mono hb3.size)
  have j1 := later j1 b4
  have j2 := later j2 b4
  have j4 := Ints.own o4
  clear b4 o4 hb3
  go_wp2_with fail
  refine (hex_any A4 n0 c4 x0 w4 Hx0.out hb0 j4 (by omega)).mono ?_
  rintro e w5 ⟨rfl, b5⟩
  have hb5 := hb4.trans (b5.mono hb4.size)
  have j1 := later j1 b5
  have j2 := later j2 b5
  clear b5 hb4 j4
  go_wp2_with fail
  refine (rhex_any A0 n0 c0 x0 w5 Hx0.out hb0 (later hi0 hb5) (by omega)).mono ?_
  rintro e w6 ⟨rfl, b6⟩
  have hb6 := hb5.trans (b6.mono hb5.size)
  have j1 := later j1 b6
  have j2 := later j2 b6
  clear b6 hb5
  go_wp2_with fail
  refine (same_to (b := true) (xs := bs) (ys := bs) (by simp) rfl rfl bR bR j1 j2).mono ?_
  rintro e w7 ⟨rfl, b7⟩
  have hb7 := hb6.trans (b7.mono hb6.size)
  clear b7 hb6
  go_wp2_with fail
  go_ret
  exact ⟨rfl, hb7⟩
end Go.Proofs.Ytljgpkiakggmkaa.Oct
