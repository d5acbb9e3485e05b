/- The laws on what advertising data are built of: walks over the program. -/
import Derived.Test.YtpbfnkicbejdbaaAdRBuild
set_option linter.unusedVariables false
set_option linter.unusedSimpArgs false
namespace Go.Proofs.Ytpbfnkicbejdbaa.Ad
open Go.RowKit Mem Rw Oct
open Base (thenB later kept)

theorem items_bytes {f : Int} {name xs : List Int} (hf : 0 ≤ f ∧ f ≤ 255) (hn : Bytes name) : ∀ y ∈ items f name xs, Bytes y.2 := by
  intro y hy
  have h1 : Bytes [f] := fun z hz => by simp at hz; subst hz; exact hf
  unfold items at hy
  by_cases hx : xs = []
  · by_cases h2 : name = []
    · simp [hx, h2] at hy; subst hy; exact h1
    · simp [hx, h2] at hy
      rcases hy with rfl | rfl
      · exact h1
      · exact hn
  · by_cases h2 : name = []
    · simp [hx, h2] at hy
      rcases hy with rfl | rfl
      · exact h1
      · exact tw_bytes xs
    · simp [hx, h2] at hy
      rcases hy with rfl | rfl | rfl
      · exact h1
      · exact tw_bytes xs
      · exact hn
theorem build_bytes (f : Int) (s : ByteArray) (xs : List Int) : Bytes (buildR f (chL s) xs).1 := by
  by_cases hf : 0 ≤ f ∧ f ≤ 255
  · rw [build_in _ _ hf]; exact encR_bytes (items_bytes hf (chL_bytes s))
  · rw [build_bad _ _ hf]; exact fun z hz => by simp at hz
set_option maxRecDepth 100000 in
set_option maxHeartbeats 4000000 in
theorem go_builds (f : Int) (s : ByteArray) (A : Option Addr) (n c : Nat) (xs : List Int) (w : World) (bf : -9223372036854775808 ≤ f ∧ f ≤ 9223372036854775807) (hs : s.size ≤ 140737488351232) (hx : xs.length = n) (hnc : n ≤ c) (hr : Ints .u16 w w.heap.size A xs) (bx : ∀ z ∈ xs, 0 ≤ z ∧ z ≤ 65535) (hs2 : c * 2 ≤ 140737488351232) :
    Calls Try.prog 6 #[.int .i64 f, .string s, .slice A n c] w fun e w' => e = .returned (.bool true) ∧ Below w.heap.size w w' := by
  obtain ⟨i0, hi, hz0, hz1, hz2⟩ := info_parts info_u16
  obtain ⟨q, hq⟩ : ∃ q, (buildR f (chL s) xs).1.length = q := ⟨_, rfl⟩
  obtain ⟨er, her⟩ : ∃ er, (buildR f (chL s) xs).2 = er := ⟨_, rfl⟩
  have HQ := Lib.hid hq
  have HE := Lib.hid her
  have HX := Lib.hid hx
  have HBx : Hid (Words16 xs) := Lib.hid bx
  have HS := Lib.hid hs
  have HB := Lib.hid (build_bytes f s xs)
  have b0 := Below.refl w.heap.size w
  clear hq her hx bx hs
  go_enter Try.func6, Try.ntmps6
  by_cases hn : n ≤ 100
  · have g0 : ¬ (100 < n) := by omega
    have g1 : ¬ ((100 : Int) < (n : Int)) := by omega
    go_wp2_with (first
      | (go_at_call 9; refine (lives_any _).mono ?_; rintro e w1 ⟨rfl, b1⟩; replace hr := later hr b1; replace b0 := thenB b0 b1; clear b1)
      | (at_builtin; refine wpList_append_ints rfl (.tmp 19) (.tmp 20) 40 rfl .u16 w1.heap.size 47 i0 _ 2 Try.underlying40 hi hz0 hz1 hz2 rfl (.slice (some ⟨w1.heap.size, 0, none⟩) 0 0) 0 [] rfl (World.ownsRow_made _ _ 0 (Nat.le_refl _) (by unfold maxLen; omega) rfl) w1.heap.size A n c xs rfl HX.out ?c1 ?c2 ?c3 ?c4 ?_; (case c1 => exact hr.alloc (Nat.le_refl _) _); (case c2 => unfold maxLen; omega); (case c3 => omega); (case c4 => simp); intro v2 w2 hown2 hb2 _; have hown2 : w2.ownsRow w1.heap.size 47 1 v2 n (xs.map (Value.int .u16)) := (by simpa using hown2); obtain ⟨A2, c2, rfl⟩ := own_form hown2; have hi2 := Ints.own hown2; have b2 := ((Below.refl w1.heap.size w1).alloc (Nat.le_refl _) (.cells #[] 47)).trans hb2; clear hb2 hown2; replace hr := later hr b2; replace b0 := thenB b0 b2; clear b2)
      | (go_at_call 25; refine (build_any f s A2 n c2 xs _ bf HS.out HX.out hn HBx.out hi2).mono ?_; intro e w3 hd; obtain ⟨V, vc, rfl, hvc, hv, b3⟩ := giv_to HQ.out HE.out hd; clear hd hi2; replace hr := later hr b3; replace b0 := thenB b0 b3; clear b3)
      | (go_at_call 26; refine (rbuild_any f s A n c xs _ HX.out HBx.out hr).mono ?_; intro e w4 hd; obtain ⟨U, uc, rfl, huc, hu, b4⟩ := giv_to HQ.out HE.out hd; clear hd hr; replace hv := later hv b4; replace b0 := thenB b0 b4; clear b4)
      | (go_at_call 13; refine (Base.same_to (b := true) (by simp) HQ.out HQ.out HB.out HB.out hv hu).mono ?_; rintro e w9 ⟨rfl, rfl⟩; clear hv hu))
    go_ret
    exact ⟨rfl, b0⟩
  · have g0 : 100 < n := by omega
    have g1 : (100 : Int) < (n : Int) := by omega
    go_wp2_with (go_at_call 9; refine (lives_any _).mono ?_; rintro e w1 ⟨rfl, b1⟩; replace hr := later hr b1; replace b0 := thenB b0 b1; clear b1)
    go_ret
    exact ⟨rfl, b0⟩
theorem str_back (s : ByteArray) : strOfNums (chL s) = s := by
  have h : strOfNums (s.data.toList.map fun b => (b.toNat : Int)) = ⟨s.data.toList.toArray⟩ := by
    unfold strOfNums
    congr 2
    rw [List.map_map]
    conv => rhs; rw [← List.map_id s.data.toList]
    apply List.map_congr_left
    intro b _
    simp
  exact h
set_option maxRecDepth 100000 in
set_option maxHeartbeats 4000000 in
theorem go_contents (f : Int) (s : ByteArray) (A : Option Addr) (n c : Nat) (xs : List Int) (w : World) (bf : -9223372036854775808 ≤ f ∧ f ≤ 9223372036854775807) (hs : s.size ≤ 140737488351232) (hx : xs.length = n) (hnc : n ≤ c) (hr : Ints .u16 w w.heap.size A xs) (bx : ∀ z ∈ xs, 0 ≤ z ∧ z ≤ 65535) (hs2 : c * 2 ≤ 140737488351232) :
    Calls Try.prog 8 #[.int .i64 f, .string s, .slice A n c] w fun e w' => e = .returned (.bool true) ∧ Below w.heap.size w w' := by
  obtain ⟨i0, hi, hz0, hz1, hz2⟩ := info_parts info_u16
  obtain ⟨q, hq⟩ : ∃ q, (buildR f (chL s) xs).1.length = q := ⟨_, rfl⟩
  obtain ⟨er, her⟩ : ∃ er, (buildR f (chL s) xs).2 = er := ⟨_, rfl⟩
  have HQ := Lib.hid hq
  have HE := Lib.hid her
  have HX := Lib.hid hx
  have HBx : Hid (Words16 xs) := Lib.hid bx
  have HS := Lib.hid hs
  have HB := Lib.hid (build_bytes f s xs)
  have HBf := Lib.hid bf
  have b0 := Below.refl w.heap.size w
  have hss := self_str s
  clear hq her hx bx hs
  go_enter Try.func8, Try.ntmps8
  by_cases hn : n ≤ 100
  · have g0 : ¬ (100 < n) := by omega
    have g1 : ¬ ((100 : Int) < (n : Int)) := by omega
    by_cases h0 : er = 0
    · subst h0
      have HF : Hid _ := Lib.hid (found (bs := (buildR f (chL s) xs).1) HBx.out (Prod.ext rfl HE.out))
      have hf := HF.out.2.2.2.1
      have hq31 : q ≤ 31 := by rw [← HQ.out]; exact HF.out.2.2.2.2
      have e1 : IntKind.i64.wrap f = f := by rw [IntWalk.i64_in _ (by omega)]
      clear hf
      go_wp2_with (first
        | (go_at_call 9; refine (lives_any _).mono ?_; rintro e w1 ⟨rfl, b1⟩; replace hr := later hr b1; replace b0 := thenB b0 b1; clear b1)
        | (at_builtin; refine wpList_append_ints rfl (.tmp 19) (.tmp 20) 40 rfl .u16 w1.heap.size 47 i0 _ 2 Try.underlying40 hi hz0 hz1 hz2 rfl (.slice (some ⟨w1.heap.size, 0, none⟩) 0 0) 0 [] rfl (World.ownsRow_made _ _ 0 (Nat.le_refl _) (by unfold maxLen; omega) rfl) w1.heap.size A n c xs rfl HX.out ?c1 ?c2 ?c3 ?c4 ?_; (case c1 => exact hr.alloc (Nat.le_refl _) _); (case c2 => unfold maxLen; omega); (case c3 => omega); (case c4 => simp); intro v2 w2 hown2 hb2 _; have hown2 : w2.ownsRow w1.heap.size 47 1 v2 n (xs.map (Value.int .u16)) := (by simpa using hown2); obtain ⟨A2, c2, rfl⟩ := own_form hown2; have hi2 := Ints.own hown2; have b2 := ((Below.refl w1.heap.size w1).alloc (Nat.le_refl _) (.cells #[] 47)).trans hb2; clear hb2 hown2; replace hr := later hr b2; replace b0 := thenB b0 b2; clear b2)
        | (go_at_call 25; refine (build_any f s A2 n c2 xs _ HBf.out HS.out HX.out hn HBx.out hi2).mono ?_; intro e w3 hd; obtain ⟨V, vc, rfl, hvc, hv, b3⟩ := giv_to HQ.out HE.out hd; clear hd hi2; replace hr := later hr b3; replace b0 := thenB b0 b3; clear b3)
        | (go_at_call 18; refine (find_any V q vc 1 _ _ HQ.out hvc (by omega) HB.out hv).mono ?_; rw [HF.out.1]; intro e w4 hd; obtain ⟨U, uc, rfl, huc, hu, b4⟩ := fnd_to (q := 1) (ok := true) rfl rfl hd; clear hd; obtain ⟨ub, uo, rfl, hub, hcu⟩ := hu.at_ (i := 0) (by simp); have f1 := hcu 0 (by simp); rw [show ([f] : List Int).getD 0 0 = f from rfl, Nat.add_zero] at f1; clear hcu; replace hr := later hr b4; replace hv := later hv b4; replace b0 := thenB b0 b4; clear b4)
        | (go_at_call 20; refine (name_any V q vc _ _ HQ.out hvc (by omega) HB.out hv).mono ?_; rw [HF.out.2.1, str_back]; rintro e w5 ⟨rfl, b5⟩; replace hr := later hr b5; replace hv := later hv b5; replace b0 := thenB b0 b5; clear b5)
        | (go_at_call 23; refine (services_any V q vc _ _ HQ.out hvc (by omega) HB.out hv).mono ?_; rw [HF.out.2.2.1]; intro e w7 hd; obtain ⟨S, sc, rfl, hsc, hS, b7⟩ := svc_to HX.out hd; clear hd hv; replace hr := later hr b7; replace b0 := thenB b0 b7; clear b7)
        | (go_at_call 22; refine (short_eq S A n sc c xs _ HX.out (by omega) hS hr).mono ?_; rintro e w10 ⟨rfl, b10⟩; replace b0 := thenB b0 b10; clear b10))
      go_ret
      exact ⟨rfl, b0⟩
    · have HN := Lib.hid (bad_is (f := f) (name := chL s) (xs := xs) (by rw [HE.out]; exact h0))
      have hq0 : q = 0 := by rw [← HQ.out, HN.out.1]; rfl
      subst hq0
      have h5 : er = 5 ↔ ¬ (0 ≤ f ∧ f ≤ 255) := by rw [← HE.out]; exact HN.out.2
      by_cases hf : 0 ≤ f ∧ f ≤ 255
      · have h6 : ¬ er = 5 := fun h => h5.1 h hf
        have k1 : ¬ f < 0 := by omega
        have k2 : ¬ 255 < f := by omega
        clear h5 hf
        go_wp2_with (first
          | (go_at_call 9; refine (lives_any _).mono ?_; rintro e w1 ⟨rfl, b1⟩; replace hr := later hr b1; replace b0 := thenB b0 b1; clear b1)
          | (at_builtin; refine wpList_append_ints rfl (.tmp 19) (.tmp 20) 40 rfl .u16 w1.heap.size 47 i0 _ 2 Try.underlying40 hi hz0 hz1 hz2 rfl (.slice (some ⟨w1.heap.size, 0, none⟩) 0 0) 0 [] rfl (World.ownsRow_made _ _ 0 (Nat.le_refl _) (by unfold maxLen; omega) rfl) w1.heap.size A n c xs rfl HX.out ?c1 ?c2 ?c3 ?c4 ?_; (case c1 => exact hr.alloc (Nat.le_refl _) _); (case c2 => unfold maxLen; omega); (case c3 => omega); (case c4 => simp); intro v2 w2 hown2 hb2 _; have hown2 : w2.ownsRow w1.heap.size 47 1 v2 n (xs.map (Value.int .u16)) := (by simpa using hown2); obtain ⟨A2, c2, rfl⟩ := own_form hown2; have hi2 := Ints.own hown2; have b2 := ((Below.refl w1.heap.size w1).alloc (Nat.le_refl _) (.cells #[] 47)).trans hb2; clear hb2 hown2; replace hr := later hr b2; replace b0 := thenB b0 b2; clear b2)
          | (go_at_call 25; refine (build_any f s A2 n c2 xs _ HBf.out HS.out HX.out hn HBx.out hi2).mono ?_; intro e w3 hd; obtain ⟨V, vc, rfl, hvc, hv, b3⟩ := giv_to HQ.out HE.out hd; clear hd hi2; replace b0 := thenB b0 b3; clear b3))
        go_ret
        exact ⟨(show Ending.returned (.bool ((er == 5) == (decide (f < 0) || decide (255 < f)))) = _ by rw [show (er == 5) = false by simpa using h6, decide_eq_false (show ¬ f < 0 by omega), decide_eq_false (show ¬ 255 < f by omega)]; rfl), b0⟩
      · obtain rfl : er = 5 := h5.2 hf
        by_cases k1 : f < 0
        · clear h5 hf h0
          go_wp2_with (first
            | (go_at_call 9; refine (lives_any _).mono ?_; rintro e w1 ⟨rfl, b1⟩; replace hr := later hr b1; replace b0 := thenB b0 b1; clear b1)
            | (at_builtin; refine wpList_append_ints rfl (.tmp 19) (.tmp 20) 40 rfl .u16 w1.heap.size 47 i0 _ 2 Try.underlying40 hi hz0 hz1 hz2 rfl (.slice (some ⟨w1.heap.size, 0, none⟩) 0 0) 0 [] rfl (World.ownsRow_made _ _ 0 (Nat.le_refl _) (by unfold maxLen; omega) rfl) w1.heap.size A n c xs rfl HX.out ?c1 ?c2 ?c3 ?c4 ?_; (case c1 => exact hr.alloc (Nat.le_refl _) _); (case c2 => unfold maxLen; omega); (case c3 => omega); (case c4 => simp); intro v2 w2 hown2 hb2 _; have hown2 : w2.ownsRow w1.heap.size 47 1 v2 n (xs.map (Value.int .u16)) := (by simpa using hown2); obtain ⟨A2, c2, rfl⟩ := own_form hown2; have hi2 := Ints.own hown2; have b2 := ((Below.refl w1.heap.size w1).alloc (Nat.le_refl _) (.cells #[] 47)).trans hb2; clear hb2 hown2; replace hr := later hr b2; replace b0 := thenB b0 b2; clear b2)
            | (go_at_call 25; refine (build_any f s A2 n c2 xs _ HBf.out HS.out HX.out hn HBx.out hi2).mono ?_; intro e w3 hd; obtain ⟨V, vc, rfl, hvc, hv, b3⟩ := giv_to HQ.out HE.out hd; clear hd hi2; replace b0 := thenB b0 b3; clear b3))
          go_ret
          exact ⟨rfl, b0⟩
        · have k2 : 255 < f := by omega
          clear h5 hf h0
          go_wp2_with (first
            | (go_at_call 9; refine (lives_any _).mono ?_; rintro e w1 ⟨rfl, b1⟩; replace hr := later hr b1; replace b0 := thenB b0 b1; clear b1)
            | (at_builtin; refine wpList_append_ints rfl (.tmp 19) (.tmp 20) 40 rfl .u16 w1.heap.size 47 i0 _ 2 Try.underlying40 hi hz0 hz1 hz2 rfl (.slice (some ⟨w1.heap.size, 0, none⟩) 0 0) 0 [] rfl (World.ownsRow_made _ _ 0 (Nat.le_refl _) (by unfold maxLen; omega) rfl) w1.heap.size A n c xs rfl HX.out ?c1 ?c2 ?c3 ?c4 ?_; (case c1 => exact hr.alloc (Nat.le_refl _) _); (case c2 => unfold maxLen; omega); (case c3 => omega); (case c4 => simp); intro v2 w2 hown2 hb2 _; have hown2 : w2.ownsRow w1.heap.size 47 1 v2 n (xs.map (Value.int .u16)) := (by simpa using hown2); obtain ⟨A2, c2, rfl⟩ := own_form hown2; have hi2 := Ints.own hown2; have b2 := ((Below.refl w1.heap.size w1).alloc (Nat.le_refl _) (.cells #[] 47)).trans hb2; clear hb2 hown2; replace hr := later hr b2; replace b0 := thenB b0 b2; clear b2)
            | (go_at_call 25; refine (build_any f s A2 n c2 xs _ HBf.out HS.out HX.out hn HBx.out hi2).mono ?_; intro e w3 hd; obtain ⟨V, vc, rfl, hvc, hv, b3⟩ := giv_to HQ.out HE.out hd; clear hd hi2; replace b0 := thenB b0 b3; clear b3))
          go_ret
          exact ⟨rfl, b0⟩
  · have g0 : 100 < n := by omega
    have g1 : (100 : Int) < (n : Int) := by omega
    go_wp2_with (go_at_call 9; refine (lives_any _).mono ?_; rintro e w1 ⟨rfl, b1⟩; replace hr := later hr b1; replace b0 := thenB b0 b1; clear b1)
    go_ret
    exact ⟨rfl, b0⟩
end Go.Proofs.Ytpbfnkicbejdbaa.Ad
