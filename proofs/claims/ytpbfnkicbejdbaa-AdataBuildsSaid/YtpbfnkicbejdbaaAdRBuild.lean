/- What advertising data are built of, by the document: a contract over the program. -/
import Derived.Test.YtpbfnkicbejdbaaAdLaws
import Derived.Test.YtpbfnkicbejdbaaAdArgs
set_option linter.unusedVariables false
set_option linter.unusedSimpArgs false
namespace Go.Proofs.Ytpbfnkicbejdbaa.Ad
open Go.RowKit Mem Rw Oct
open Base (thenB later kept)

theorem rb_one (w : World) (f : Int) : RbE (w.alloc (.cells #[.int .u8 f] 5)) ⟨1, some ⟨w.heap.size, 0, none⟩, 1, [f]⟩ := by
  refine ⟨.inr ⟨w.heap.size, 0, #[.int .u8 f], (0, 0), rfl, heap_alloc_new w _, fun j hj => ?_⟩, Nat.le_refl _, by simp⟩
  have : j = 0 := by simp at hj; omega
  subst this; rfl
theorem rst (w : World) (f : Int) : St w ((w.alloc (.cells #[.int .u8 f] 5)).alloc (.cells #[.int .i64 1, .slice (some ⟨w.heap.size, 0, none⟩) 1 1] 49)) (.slice (some ⟨w.heap.size + 1, 0, none⟩) 1 1) 1 [⟨1, some ⟨w.heap.size, 0, none⟩, 1, [f]⟩] := by
  have := St.start (w := w) (W := w.alloc (.cells #[.int .u8 f] 5)) ((Below.refl _ _).alloc (Nat.le_refl _) _) 1 _ 1 1 [f] rfl (rb_one w f)
  rwa [show (w.alloc (.cells #[.int .u8 f] 5)).heap.size = w.heap.size + 1 by simp] at this
theorem num_two {x : Int} : numL 2 x = [x % 256, x / 256 % 256] := by simp [numL]
set_option maxRecDepth 100000 in
set_option maxHeartbeats 4000000 in
theorem rbuild_00 (f : Int) (s : ByteArray) (A : Option Addr) (n c : Nat) (xs : List Int) (w : World) (hf : 0 ≤ f ∧ f ≤ 255) (hs : s.size ≤ 31) (hx : xs.length = n) (hn : n ≤ 31) (hX : xs = []) (hN : chL s = []) (bx : Words16 xs) (hr : Ints .u16 w w.heap.size A xs) :
    Calls Try.prog 26 #[.int .i64 f, .string s, .slice A n c] w fun e w' => Gives w w' e (buildR f (chL s) xs) := by
  obtain ⟨iE, hi, hz, hs0, hb, hc0⟩ := info_parts2 info_el rfl
  obtain ⟨i0, hi0, hz0, hz1, hz2⟩ := info_parts info_u8
  have hcv : ∀ w : World, (convert 9 24 (.string s)).run Try.prog w = .ok (.slice (some ⟨w.heap.size, 0, none⟩) s.size (grownCap w s.size 0 5)) (Lib.bytesWorld w 5 s) := fun w =>
    Lib.run_convert_string_bytes w 9 24 5 s Try.underlying9 Try.underlying24 Try.underlying5
  have e1 : IntKind.u8.wrap f = f := by rw [u8_mod]; omega
  have g1 : ¬ f < 0 := by omega
  have g2 : ¬ 255 < f := by omega
  have g3 : ¬ 31 < s.size := by omega
  have g4 : ¬ 31 < n := by omega
  have he : s.toList.isEmpty = true := by rw [is_nil]; simp [hN]
  have HI2 : Hid (∀ W, Below w.heap.size w W → Ints .u16 W W.heap.size A xs) := Lib.hid fun W b => later hr b
  have HB : Hid (buildR f (chL s) xs = encR (items f (chL s) xs)) := Lib.hid (build_in _ _ hf)
  have HI := Lib.hid (items_none f)
  obtain ⟨R, hR⟩ : ∃ R, buildR f (chL s) xs = R := ⟨_, rfl⟩
  have HR : Hid (encR [(1, [f])] = R) := Lib.hid (by rw [← hR, HB.out, hN, hX, HI.out])
  rw [hR]
  have n0 : ¬ 0 < n := by have := mt (List.length_eq_zero_iff (l := xs)).1 ; have := (List.length_eq_zero_iff (l := xs)).2; simp_all
  have HX := Lib.hid hx
  have HS : Hid (s.size ≤ 140737488351232) := Lib.hid (by omega)
  have HBx := Lib.hid bx
  have hS := rst w f
  clear hR HB HI hX hN hr hx bx
  go_enter Try.func26, Try.ntmps26
  go_wp2_with (first
    | (go_at_call 12; refine (rencode_any _ _ _ _ _ hS.2.1 (by omega) hS.els).mono ?_; intro e w9 hg; obtain ⟨EA, ec, rfl, ho9, hb9⟩ := gives_end hg HR.out hS.2.2.2; clear hg))
  go_ret2
  exact ⟨EA, ec, rfl, ho9, hb9⟩
set_option maxRecDepth 100000 in
set_option maxHeartbeats 4000000 in
theorem rbuild_01 (f : Int) (s : ByteArray) (A : Option Addr) (n c : Nat) (xs : List Int) (w : World) (hf : 0 ≤ f ∧ f ≤ 255) (hs : s.size ≤ 31) (hx : xs.length = n) (hn : n ≤ 31) (hX : xs = []) (hN : chL s ≠ []) (bx : Words16 xs) (hr : Ints .u16 w w.heap.size A xs) :
    Calls Try.prog 26 #[.int .i64 f, .string s, .slice A n c] w fun e w' => Gives w w' e (buildR f (chL s) xs) := by
  obtain ⟨iE, hi, hz, hs0, hb, hc0⟩ := info_parts2 info_el rfl
  obtain ⟨i0, hi0, hz0, hz1, hz2⟩ := info_parts info_u8
  have hcv : ∀ w : World, (convert 9 24 (.string s)).run Try.prog w = .ok (.slice (some ⟨w.heap.size, 0, none⟩) s.size (grownCap w s.size 0 5)) (Lib.bytesWorld w 5 s) := fun w =>
    Lib.run_convert_string_bytes w 9 24 5 s Try.underlying9 Try.underlying24 Try.underlying5
  have e1 : IntKind.u8.wrap f = f := by rw [u8_mod]; omega
  have g1 : ¬ f < 0 := by omega
  have g2 : ¬ 255 < f := by omega
  have g3 : ¬ 31 < s.size := by omega
  have g4 : ¬ 31 < n := by omega
  have he : s.toList.isEmpty = false := by rw [is_nil]; simp [hN]
  have HI2 : Hid (∀ W, Below w.heap.size w W → Ints .u16 W W.heap.size A xs) := Lib.hid fun W b => later hr b
  have HB : Hid (buildR f (chL s) xs = encR (items f (chL s) xs)) := Lib.hid (build_in _ _ hf)
  have HI := Lib.hid (items_name f hN)
  obtain ⟨R, hR⟩ : ∃ R, buildR f (chL s) xs = R := ⟨_, rfl⟩
  have HR : Hid (encR [(1, [f]), (9, chL s)] = R) := Lib.hid (by rw [← hR, HB.out, hX, HI.out])
  rw [hR]
  have n0 : ¬ 0 < n := by have := mt (List.length_eq_zero_iff (l := xs)).1 ; have := (List.length_eq_zero_iff (l := xs)).2; simp_all
  have HX := Lib.hid hx
  have HS : Hid (s.size ≤ 140737488351232) := Lib.hid (by omega)
  have HBx := Lib.hid bx
  have hS := rst w f
  clear hR HB HI hX hN hr hx bx
  go_enter Try.func26, Try.ntmps26
  go_wp2_with (first
    | (at_builtin; refine wpList_append_rows rfl (.tmp 55) (.tmp 59) 22 rfl w.heap.size 49 iE _ 2 32 Try.underlying22 hi hz hs0 hb hc0 (by decide) _ 1 _ rfl ((hS.next (conv_below _ 5 s)).alloc _).1 _ (some ⟨(Lib.bytesWorld ((w.alloc (.cells #[.int .u8 f] 5)).alloc (.cells #[.int .i64 1, .slice (some ⟨w.heap.size, 0, none⟩) 1 1] 49)) 5 s).heap.size, 0, none⟩) 1 1 [.int .i64 9, .slice (some ⟨w.heap.size + 1 + 1, 0, none⟩) s.size (grownCap (((w.alloc (.cells #[.int .u8 f] 5)).alloc (.cells #[.int .i64 1, .slice (some ⟨w.heap.size, 0, none⟩) 1 1] 49))) s.size 0 5)] rfl rfl (el_one _ _ _ _) (CellsAt.lit _ _ _ _ rfl) (by unfold maxLen; omega) (by omega) (((hS.next (conv_below _ 5 s)).alloc _).2.2.2.size) ?_; intro v5 w5 ho5 hb5 hg5; have hS := St.more (x := ⟨9, _, _, chL s⟩) ((hS.next (conv_below _ 5 s)).alloc _) ((rbE_conv _ s 9 HS.out).keep (KeepU.alloc _ _)) (by rw [show encE (⟨9, _, _, chL s⟩ : El) = [.int .i64 9, .slice (some ⟨w.heap.size + 1 + 1, 0, none⟩) s.size (grownCap (((w.alloc (.cells #[.int .u8 f] 5)).alloc (.cells #[.int .i64 1, .slice (some ⟨w.heap.size, 0, none⟩) 1 1] 49))) s.size 0 5)] by simp [encE, chL_len]]; exact ho5) hb5 hg5; obtain ⟨A5, c5, rfl⟩ := own_form ho5; have hz5 := hS.2.2.2.size; clear ho5 hb5 hg5)
    | (go_at_call 12; refine (rencode_any _ _ _ _ _ hS.2.1 (by omega) hS.els).mono ?_; intro e w9 hg; obtain ⟨EA, ec, rfl, ho9, hb9⟩ := gives_end hg HR.out hS.2.2.2; clear hg))
  go_ret2
  exact ⟨EA, ec, rfl, ho9, hb9⟩
set_option maxRecDepth 100000 in
set_option maxHeartbeats 4000000 in
theorem rbuild_10 (f : Int) (s : ByteArray) (A : Option Addr) (n c : Nat) (xs : List Int) (w : World) (hf : 0 ≤ f ∧ f ≤ 255) (hs : s.size ≤ 31) (hx : xs.length = n) (hn : n ≤ 31) (hX : xs ≠ []) (hN : chL s = []) (bx : Words16 xs) (hr : Ints .u16 w w.heap.size A xs) :
    Calls Try.prog 26 #[.int .i64 f, .string s, .slice A n c] w fun e w' => Gives w w' e (buildR f (chL s) xs) := by
  obtain ⟨iE, hi, hz, hs0, hb, hc0⟩ := info_parts2 info_el rfl
  obtain ⟨i0, hi0, hz0, hz1, hz2⟩ := info_parts info_u8
  have hcv : ∀ w : World, (convert 9 24 (.string s)).run Try.prog w = .ok (.slice (some ⟨w.heap.size, 0, none⟩) s.size (grownCap w s.size 0 5)) (Lib.bytesWorld w 5 s) := fun w =>
    Lib.run_convert_string_bytes w 9 24 5 s Try.underlying9 Try.underlying24 Try.underlying5
  have e1 : IntKind.u8.wrap f = f := by rw [u8_mod]; omega
  have g1 : ¬ f < 0 := by omega
  have g2 : ¬ 255 < f := by omega
  have g3 : ¬ 31 < s.size := by omega
  have g4 : ¬ 31 < n := by omega
  have he : s.toList.isEmpty = true := by rw [is_nil]; simp [hN]
  have HI2 : Hid (∀ W, Below w.heap.size w W → Ints .u16 W W.heap.size A xs) := Lib.hid fun W b => later hr b
  have HB : Hid (buildR f (chL s) xs = encR (items f (chL s) xs)) := Lib.hid (build_in _ _ hf)
  have HI := Lib.hid (items_svc f hX)
  obtain ⟨R, hR⟩ : ∃ R, buildR f (chL s) xs = R := ⟨_, rfl⟩
  have HR : Hid (encR [(1, [f]), (3, tw xs)] = R) := Lib.hid (by rw [← hR, HB.out, hN, HI.out])
  rw [hR]
  have n0 : 0 < n := by have := mt (List.length_eq_zero_iff (l := xs)).1 ; have := (List.length_eq_zero_iff (l := xs)).2; simp_all; omega
  have HX := Lib.hid hx
  have HS : Hid (s.size ≤ 140737488351232) := Lib.hid (by omega)
  have HBx := Lib.hid bx
  have hS := rst w f
  clear hR HB HI hX hN hr hx bx
  go_enter Try.func26, Try.ntmps26
  have hZ : ((w.alloc (.cells #[.int .u8 f] 5)).alloc (.cells #[.int .i64 1, .slice (some ⟨w.heap.size, 0, none⟩) 1 1] 49)).heap.size = w.heap.size + 1 + 1 := by simp
  go_wp2_with fail
  generalize ((w.alloc (.cells #[.int .u8 f] 5)).alloc (.cells #[.int .i64 1, .slice (some ⟨w.heap.size, 0, none⟩) 1 1] 49)) = W2 at *
  have hzw : w.heap.size ≤ W2.heap.size := by omega
  go_loopw [9, 10] (fun s9 s10 wr => ∃ j : Nat, j ≤ n ∧ s10 = .int .i64 j ∧ wr.ownsRow W2.heap.size 5 1 s9 (2 * j) ((tw (xs.take j)).map (Value.int .u8)) ∧ Below W2.heap.size W2 wr) (fun _ s10 _ => n - (intOf s10).toNat)
  case atStart => exact ⟨0, by omega, rfl, by rw [← hZ]; simpa [tw] using World.ownsRow_made W2 #[] 0 (e := 5) (base := W2.heap.size) (size := 1) (Nat.le_refl _) (by unfold maxLen; omega) rfl, (Below.refl _ _).alloc (Nat.le_refl _) _⟩
  case round =>
    obtain ⟨j, hj, rfl, hown, hbel⟩ := hrel
    obtain ⟨LA, lc, rfl⟩ := own_form hown
    by_cases c1 : j < n
    · obtain ⟨b, off, rfl, hbb, hc⟩ := (HI2.out _ (thenB hS.2.2.2 hbel)).at_ (i := j) (by rw [HX.out]; omega)
      have f1 := hc j (by rw [HX.out]; omega)
      clear hc
      obtain ⟨x, hxk⟩ : ∃ x, xs.getD j 0 = x := ⟨_, rfl⟩
      rw [hxk] at f1
      have HT := Lib.hid (tw_take (by rw [HX.out]; exact c1) hxk)
      have g1 : (0 : Int) ≤ (j : Int) ∧ (j : Int) < (n : Int) := by omega
      have bxx : 0 ≤ x ∧ x ≤ 65535 := by
        have : x ∈ xs := by rw [← hxk]; simp [List.getD, List.getElem?_eq_getElem (show j < xs.length by rw [HX.out]; exact c1)]
        exact HBx.out x this
      have e2 : IntKind.u64.wrap x = x := by rw [Ser.wrap_u64]; omega
      clear hxk
      have hbz := hbel.size
      go_wp2_with (first
        | (go_at_call 32; refine (rnum_any 2 x wr (by omega) (by omega)).mono ?_; rintro e w3 hm; obtain ⟨NA, nc, rfl, hn3, b3⟩ := Base.Makes.len (n := 2) hm (by simp [numL_len]); have hown3 := own_below hown b3; have hI3 := Ints.own hn3; have hz3 := b3.size; clear hm hn3)
        | (at_builtin; refine wpList_append_ints rfl (.tmp 40) (.tmp 46) 24 rfl .u8 W2.heap.size 5 i0 _ 1 Try.underlying24 hi0 hz0 hz1 hz2 rfl (.slice LA (2 * j) lc) (2 * j) _ rfl hown3 _ NA 2 nc (numL 2 x) rfl (by simp [numL_len]) hI3 ?c2 ?c3 ?c4 ?_; (case c2 => unfold maxLen; omega); (case c3 => omega); (case c4 => omega); intro v2 w2 hown2 hb2 _))
      go_roundw
      case rel => exact ⟨j + 1, by omega, by go_num, by rw [HT.out, List.map_append, ← num_two]; exact hown2, hbel.trans ((b3.mono hbz).trans hb2)⟩
      case measure => simp [intOf]; omega
    · obtain rfl : j = n := by omega
      have HTk : Hid (xs.take j = xs) := Lib.hid (List.take_of_length_le (by rw [HX.out]; omega))
      rw [HTk.out] at hown
      replace hS := hS.next hbel
      have hx3 := rbE_own 3 (tw_len xs |>.trans (by rw [HX.out])) (by omega) hown
      clear hown hbel
      go_wp2_with (first
        | (at_builtin; refine wpList_append_rows rfl (.tmp 48) (.tmp 51) 22 rfl w.heap.size 49 iE _ 2 32 Try.underlying22 hi hz hs0 hb hc0 (by decide) _ 1 _ rfl (hS.alloc _).1 _ (some ⟨wr.heap.size, 0, none⟩) 1 1 [.int .i64 3, .slice LA (2 * j) lc] rfl rfl (el_one _ _ _ _) (CellsAt.lit wr _ _ _ rfl) (by unfold maxLen; omega) (by omega) ((hS.alloc _).2.2.2.size) ?_; intro v4 w4 ho4 hb4 hg4; have hS := St.more (x := ⟨3, LA, lc, tw xs⟩) (hS.alloc _) (hx3.keep (KeepU.alloc _ _)) (by rw [show encE (⟨3, LA, lc, tw xs⟩ : El) = [.int .i64 3, .slice LA (2 * j) lc] by simp [encE, tw_len, HX.out]]; exact ho4) hb4 hg4; obtain ⟨A4, c4, rfl⟩ := own_form ho4; have hz4 := hS.2.2.2.size; clear ho4 hb4 hg4 hx3)
        | (go_at_call 12; refine (rencode_any _ _ _ _ _ hS.2.1 (by omega) hS.els).mono ?_; intro e w9 hg; obtain ⟨EA, ec, rfl, ho9, hb9⟩ := gives_end hg HR.out hS.2.2.2; clear hg))
      go_ret2
      exact ⟨EA, ec, rfl, ho9, hb9⟩
set_option maxRecDepth 100000 in
set_option maxHeartbeats 4000000 in
theorem rbuild_11 (f : Int) (s : ByteArray) (A : Option Addr) (n c : Nat) (xs : List Int) (w : World) (hf : 0 ≤ f ∧ f ≤ 255) (hs : s.size ≤ 31) (hx : xs.length = n) (hn : n ≤ 31) (hX : xs ≠ []) (hN : chL s ≠ []) (bx : Words16 xs) (hr : Ints .u16 w w.heap.size A xs) :
    Calls Try.prog 26 #[.int .i64 f, .string s, .slice A n c] w fun e w' => Gives w w' e (buildR f (chL s) xs) := by
  obtain ⟨iE, hi, hz, hs0, hb, hc0⟩ := info_parts2 info_el rfl
  obtain ⟨i0, hi0, hz0, hz1, hz2⟩ := info_parts info_u8
  have hcv : ∀ w : World, (convert 9 24 (.string s)).run Try.prog w = .ok (.slice (some ⟨w.heap.size, 0, none⟩) s.size (grownCap w s.size 0 5)) (Lib.bytesWorld w 5 s) := fun w =>
    Lib.run_convert_string_bytes w 9 24 5 s Try.underlying9 Try.underlying24 Try.underlying5
  have e1 : IntKind.u8.wrap f = f := by rw [u8_mod]; omega
  have g1 : ¬ f < 0 := by omega
  have g2 : ¬ 255 < f := by omega
  have g3 : ¬ 31 < s.size := by omega
  have g4 : ¬ 31 < n := by omega
  have he : s.toList.isEmpty = false := by rw [is_nil]; simp [hN]
  have HI2 : Hid (∀ W, Below w.heap.size w W → Ints .u16 W W.heap.size A xs) := Lib.hid fun W b => later hr b
  have HB : Hid (buildR f (chL s) xs = encR (items f (chL s) xs)) := Lib.hid (build_in _ _ hf)
  have HI := Lib.hid (items_all f hN hX)
  obtain ⟨R, hR⟩ : ∃ R, buildR f (chL s) xs = R := ⟨_, rfl⟩
  have HR : Hid (encR [(1, [f]), (3, tw xs), (9, chL s)] = R) := Lib.hid (by rw [← hR, HB.out, HI.out])
  rw [hR]
  have n0 : 0 < n := by have := mt (List.length_eq_zero_iff (l := xs)).1 ; have := (List.length_eq_zero_iff (l := xs)).2; simp_all; omega
  have HX := Lib.hid hx
  have HS : Hid (s.size ≤ 140737488351232) := Lib.hid (by omega)
  have HBx := Lib.hid bx
  have hS := rst w f
  clear hR HB HI hX hN hr hx bx
  go_enter Try.func26, Try.ntmps26
  have hZ : ((w.alloc (.cells #[.int .u8 f] 5)).alloc (.cells #[.int .i64 1, .slice (some ⟨w.heap.size, 0, none⟩) 1 1] 49)).heap.size = w.heap.size + 1 + 1 := by simp
  go_wp2_with fail
  generalize ((w.alloc (.cells #[.int .u8 f] 5)).alloc (.cells #[.int .i64 1, .slice (some ⟨w.heap.size, 0, none⟩) 1 1] 49)) = W2 at *
  have hzw : w.heap.size ≤ W2.heap.size := by omega
  go_loopw [9, 10] (fun s9 s10 wr => ∃ j : Nat, j ≤ n ∧ s10 = .int .i64 j ∧ wr.ownsRow W2.heap.size 5 1 s9 (2 * j) ((tw (xs.take j)).map (Value.int .u8)) ∧ Below W2.heap.size W2 wr) (fun _ s10 _ => n - (intOf s10).toNat)
  case atStart => exact ⟨0, by omega, rfl, by rw [← hZ]; simpa [tw] using World.ownsRow_made W2 #[] 0 (e := 5) (base := W2.heap.size) (size := 1) (Nat.le_refl _) (by unfold maxLen; omega) rfl, (Below.refl _ _).alloc (Nat.le_refl _) _⟩
  case round =>
    obtain ⟨j, hj, rfl, hown, hbel⟩ := hrel
    obtain ⟨LA, lc, rfl⟩ := own_form hown
    by_cases c1 : j < n
    · obtain ⟨b, off, rfl, hbb, hc⟩ := (HI2.out _ (thenB hS.2.2.2 hbel)).at_ (i := j) (by rw [HX.out]; omega)
      have f1 := hc j (by rw [HX.out]; omega)
      clear hc
      obtain ⟨x, hxk⟩ : ∃ x, xs.getD j 0 = x := ⟨_, rfl⟩
      rw [hxk] at f1
      have HT := Lib.hid (tw_take (by rw [HX.out]; exact c1) hxk)
      have g1 : (0 : Int) ≤ (j : Int) ∧ (j : Int) < (n : Int) := by omega
      have bxx : 0 ≤ x ∧ x ≤ 65535 := by
        have : x ∈ xs := by rw [← hxk]; simp [List.getD, List.getElem?_eq_getElem (show j < xs.length by rw [HX.out]; exact c1)]
        exact HBx.out x this
      have e2 : IntKind.u64.wrap x = x := by rw [Ser.wrap_u64]; omega
      clear hxk
      have hbz := hbel.size
      go_wp2_with (first
        | (go_at_call 32; refine (rnum_any 2 x wr (by omega) (by omega)).mono ?_; rintro e w3 hm; obtain ⟨NA, nc, rfl, hn3, b3⟩ := Base.Makes.len (n := 2) hm (by simp [numL_len]); have hown3 := own_below hown b3; have hI3 := Ints.own hn3; have hz3 := b3.size; clear hm hn3)
        | (at_builtin; refine wpList_append_ints rfl (.tmp 40) (.tmp 46) 24 rfl .u8 W2.heap.size 5 i0 _ 1 Try.underlying24 hi0 hz0 hz1 hz2 rfl (.slice LA (2 * j) lc) (2 * j) _ rfl hown3 _ NA 2 nc (numL 2 x) rfl (by simp [numL_len]) hI3 ?c2 ?c3 ?c4 ?_; (case c2 => unfold maxLen; omega); (case c3 => omega); (case c4 => omega); intro v2 w2 hown2 hb2 _))
      go_roundw
      case rel => exact ⟨j + 1, by omega, by go_num, by rw [HT.out, List.map_append, ← num_two]; exact hown2, hbel.trans ((b3.mono hbz).trans hb2)⟩
      case measure => simp [intOf]; omega
    · obtain rfl : j = n := by omega
      have HTk : Hid (xs.take j = xs) := Lib.hid (List.take_of_length_le (by rw [HX.out]; omega))
      rw [HTk.out] at hown
      replace hS := hS.next hbel
      have hx3 := rbE_own 3 (tw_len xs |>.trans (by rw [HX.out])) (by omega) hown
      clear hown hbel
      go_wp2_with (first
        | (at_builtin; refine wpList_append_rows rfl (.tmp 48) (.tmp 51) 22 rfl w.heap.size 49 iE _ 2 32 Try.underlying22 hi hz hs0 hb hc0 (by decide) _ 1 _ rfl (hS.alloc _).1 _ (some ⟨wr.heap.size, 0, none⟩) 1 1 [.int .i64 3, .slice LA (2 * j) lc] rfl rfl (el_one _ _ _ _) (CellsAt.lit wr _ _ _ rfl) (by unfold maxLen; omega) (by omega) ((hS.alloc _).2.2.2.size) ?_; intro v4 w4 ho4 hb4 hg4; have hS := St.more (x := ⟨3, LA, lc, tw xs⟩) (hS.alloc _) (hx3.keep (KeepU.alloc _ _)) (by rw [show encE (⟨3, LA, lc, tw xs⟩ : El) = [.int .i64 3, .slice LA (2 * j) lc] by simp [encE, tw_len, HX.out]]; exact ho4) hb4 hg4; obtain ⟨A4, c4, rfl⟩ := own_form ho4; have hz4 := hS.2.2.2.size; clear ho4 hb4 hg4 hx3)
        | (at_builtin; refine wpList_append_rows rfl (.tmp 55) (.tmp 59) 22 rfl w.heap.size 49 iE _ 2 32 Try.underlying22 hi hz hs0 hb hc0 (by decide) _ 2 _ rfl ((hS.next (conv_below _ 5 s)).alloc _).1 _ (some ⟨(Lib.bytesWorld w4 5 s).heap.size, 0, none⟩) 1 1 [.int .i64 9, .slice (some ⟨w4.heap.size, 0, none⟩) s.size (grownCap (w4) s.size 0 5)] rfl rfl (el_one _ _ _ _) (CellsAt.lit _ _ _ _ rfl) (by unfold maxLen; omega) (by omega) (((hS.next (conv_below _ 5 s)).alloc _).2.2.2.size) ?_; intro v5 w5 ho5 hb5 hg5; have hS := St.more (x := ⟨9, _, _, chL s⟩) ((hS.next (conv_below _ 5 s)).alloc _) ((rbE_conv _ s 9 HS.out).keep (KeepU.alloc _ _)) (by rw [show encE (⟨9, _, _, chL s⟩ : El) = [.int .i64 9, .slice (some ⟨w4.heap.size, 0, none⟩) s.size (grownCap (w4) s.size 0 5)] by simp [encE, chL_len]]; exact ho5) hb5 hg5; obtain ⟨A5, c5, rfl⟩ := own_form ho5; have hz5 := hS.2.2.2.size; clear ho5 hb5 hg5)
        | (go_at_call 12; refine (rencode_any _ _ _ _ _ hS.2.1 (by omega) hS.els).mono ?_; intro e w9 hg; obtain ⟨EA, ec, rfl, ho9, hb9⟩ := gives_end hg HR.out hS.2.2.2; clear hg))
      go_ret2
      exact ⟨EA, ec, rfl, ho9, hb9⟩
set_option maxRecDepth 100000 in
set_option maxHeartbeats 4000000 in
theorem rbuild_no (f : Int) (s : ByteArray) (A : Option Addr) (n c : Nat) (xs : List Int) (w : World) (hf : ¬ (0 ≤ f ∧ f ≤ 255)) :
    Calls Try.prog 26 #[.int .i64 f, .string s, .slice A n c] w fun e w' => Gives w w' e (buildR f (chL s) xs) := by
  have HB : Hid (buildR f (chL s) xs = ([], 5)) := Lib.hid (build_bad _ _ hf)
  go_enter Try.func26, Try.ntmps26
  by_cases g1 : f < 0
  · clear hf
    go_wp2_with fail
    go_ret2
    exact gives_err HB.out rfl (Below.refl _ _)
  · have g2 : 255 < f := by omega
    clear hf
    go_wp2_with fail
    go_ret2
    exact gives_err HB.out rfl (Below.refl _ _)
set_option maxRecDepth 100000 in
set_option maxHeartbeats 4000000 in
theorem rbuild_long (f : Int) (s : ByteArray) (A : Option Addr) (n c : Nat) (xs : List Int) (w : World) (hf : 0 ≤ f ∧ f ≤ 255) (hx : xs.length = n) (hl : 31 < s.size ∨ 31 < n) :
    Calls Try.prog 26 #[.int .i64 f, .string s, .slice A n c] w fun e w' => Gives w w' e (buildR f (chL s) xs) := by
  have HB : Hid (buildR f (chL s) xs = ([], 4)) := Lib.hid (build_long hf (by rw [chL_len, hx]; exact hl))
  have g1 : ¬ f < 0 := by omega
  have g2 : ¬ 255 < f := by omega
  clear hx
  go_enter Try.func26, Try.ntmps26
  by_cases g3 : 31 < s.size
  · clear hl hf
    go_wp2_with fail
    go_ret2
    exact gives_err HB.out rfl (Below.refl _ _)
  · have g4 : 31 < n := by omega
    clear hl hf
    go_wp2_with fail
    go_ret2
    exact gives_err HB.out rfl (Below.refl _ _)
theorem rbuild_any (f : Int) (s : ByteArray) (A : Option Addr) (n c : Nat) (xs : List Int) (w : World) (hx : xs.length = n) (bx : Words16 xs) (hr : Ints .u16 w w.heap.size A xs) :
    Calls Try.prog 26 #[.int .i64 f, .string s, .slice A n c] w fun e w' => Gives w w' e (buildR f (chL s) xs) := by
  by_cases hf : 0 ≤ f ∧ f ≤ 255
  · by_cases hl : 31 < s.size ∨ 31 < n
    · exact rbuild_long f s A n c xs w hf hx hl
    · by_cases hX : xs = []
      · by_cases hN : chL s = []
        · exact rbuild_00 f s A n c xs w hf (by omega) hx (by omega) hX hN bx hr
        · exact rbuild_01 f s A n c xs w hf (by omega) hx (by omega) hX hN bx hr
      · by_cases hN : chL s = []
        · exact rbuild_10 f s A n c xs w hf (by omega) hx (by omega) hX hN bx hr
        · exact rbuild_11 f s A n c xs w hf (by omega) hx (by omega) hX hN bx hr
  · exact rbuild_no f s A n c xs w hf
end Go.Proofs.Ytpbfnkicbejdbaa.Ad
