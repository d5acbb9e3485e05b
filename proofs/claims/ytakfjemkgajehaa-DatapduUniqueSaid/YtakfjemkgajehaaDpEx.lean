/- Data PDUs: the chapter's examples hold: contracts over the program. -/
import Derived.Test.YtakfjemkgajehaaDpSame
set_option linter.unusedVariables false
set_option linter.unusedSimpArgs false
namespace Go.Proofs.Ytakfjemkgajehaa.Dp
open Go.RowKit Mem Oct Rw Av
open Base (thenB)

theorem decd_of {w w' : World} {e : Ending} {xs : List Int} {p : Pd} {x : Int} (h : Decd w w' e (decR xs)) (hr : decR xs = (p, x)) {m : Nat} (hm : p.pk.2.length = m) :
    ∃ A c, e = .returned (.tuple #[.agg #[.int .i64 p.sn, .int .i64 p.nesn, .int .i64 p.md, .int .i64 p.pk.1, .slice A m c], .int .i64 x]) ∧ m ≤ c ∧ Ints .u8 w' w'.heap.size A p.pk.2 ∧ Below w.heap.size w w' := by
  rw [hr] at h
  obtain ⟨V, rfl, own, b⟩ := h
  obtain ⟨A, c, rfl⟩ := own_form own
  subst hm
  exact ⟨A, c, rfl, own_cap own, Ints.own own, b⟩
theorem ex_dec (xs : List Int) (n : Nat) (g : Nat) (W : World) (hx : xs.length = n) (hn : n ≤ 2) (bx : Bytes xs) (hr : Ints .u8 W W.heap.size (some ⟨g, 0, none⟩) xs) : Calls Try.prog 21 #[.slice (some ⟨g, 0, none⟩) n n] W fun e w' => Decd W w' e (decR xs) :=
  decode_any _ n n xs W hx (by omega) (Nat.le_refl _) bx hr
set_option maxRecDepth 100000 in
set_option maxHeartbeats 4000000 in
theorem example_any (w : World) : Calls Try.prog 13 #[] w fun e w' => e = .returned (.bool true) ∧ Below w.heap.size w w' := by
  have E1 : Hid (encR ⟨1, 0, 1, (2, [7])⟩ = ([26, 1, 7], 0)) := Lib.hid (by kernel_rfl)
  have D1 : Hid (decR [1, 0] = (⟨0, 0, 0, (1, [])⟩, 0)) := Lib.hid (by kernel_rfl)
  have D2 : Hid (decR [2, 0] = (zeroP, 1)) := Lib.hid (by kernel_rfl)
  have D3 : Hid (decR [33, 0] = (zeroP, 2)) := Lib.hid (by kernel_rfl)
  have D4 : Hid (decR [1] = (zeroP, 3)) := Lib.hid (by kernel_rfl)
  have hb : blankB 1 0 = true := by decide
  go_enter Try.func13, Try.ntmps13
  have L1 := Base.lit1 .u8 w [7] #[.int .u8 7] 5 rfl
  have BX : Below w.heap.size w (w.alloc (.cells #[.int .u8 7] 5)) := (Below.refl _ _).alloc (Nat.le_refl _) _
  go_upto_region 2 with (go_at_call 18; refine (encode_any 1 0 1 2 _ 1 1 [7] _ rfl L1).mono ?_; intro e w1 m1; rw [E1.out] at m1; obtain ⟨A1, c1, rfl, own1, b1⟩ := Gives.len m1 (n := 3) rfl)
  replace BX := thenB BX b1
  have I1 : Ints .u8 w1 w1.heap.size A1 [26, 1, 7] := Ints.own own1
  clear own1 L1
  have L2 := Base.lit1 .u8 w1 [1, 0] #[.int .u8 1, .int .u8 0] 5 rfl
  have BX := BX.alloc BX.size (.cells #[.int .u8 1, .int .u8 0] 5)
  have I1 := Base.kept I1 (.cells #[.int .u8 1, .int .u8 0] 5)
  go_upto_region 3 with (go_at_call 21; refine (ex_dec [1, 0] 2 _ _ rfl (by decide) (Base.bytes_lit _ (by decide)) L2).mono ?_; intro e v2 m2; obtain ⟨B2, d2, rfl, hc2, J2, b2⟩ := decd_of m2 D1.out rfl)
  have BX := thenB BX b2
  have I1 := Base.later I1 b2
  have BX := BX.alloc BX.size (.cells #[.int .i64 0, .int .i64 0, .int .i64 0, .int .i64 1, .slice B2 0 d2] 26)
  have I1 := Base.kept I1 (.cells #[.int .i64 0, .int .i64 0, .int .i64 0, .int .i64 1, .slice B2 0 d2] 26)
  have K3 := Blk.fresh v2 26 #[.int .i64 0, .int .i64 0, .int .i64 0, .int .i64 1, .slice B2 0 d2]
  obtain ⟨g3, hg3⟩ : ∃ g, v2.heap.size = g := ⟨_, rfl⟩
  rw [hg3] at K3
  clear m2 J2 b2 L2
  try simp only [zeroP] at *
  generalize v2.alloc (.cells #[.int .i64 0, .int .i64 0, .int .i64 0, .int .i64 1, .slice B2 0 d2] 26) = W2 at *
  have L3 := Base.lit1 .u8 W2 [2, 0] #[.int .u8 2, .int .u8 0] 5 rfl
  have BX := BX.alloc BX.size (.cells #[.int .u8 2, .int .u8 0] 5)
  have I1 := Base.kept I1 (.cells #[.int .u8 2, .int .u8 0] 5)
  have K3 := K3.alloc (.cells #[.int .u8 2, .int .u8 0] 5)
  go_upto_region 4 with (go_at_call 21; refine (ex_dec [2, 0] 2 _ _ rfl (by decide) (Base.bytes_lit _ (by decide)) L3).mono ?_; intro e v3 m3; obtain ⟨B3, d3, rfl, hc3, J3, b3⟩ := decd_of m3 D2.out rfl)
  have BX := thenB BX b3
  have I1 := Base.later I1 b3
  have K3 := K3.below b3 K3.lt
  have BX := BX.alloc BX.size (.cells #[.int .i64 0, .int .i64 0, .int .i64 0, .int .i64 0, .slice B3 0 d3] 26)
  have I1 := Base.kept I1 (.cells #[.int .i64 0, .int .i64 0, .int .i64 0, .int .i64 0, .slice B3 0 d3] 26)
  have K3 := K3.alloc (.cells #[.int .i64 0, .int .i64 0, .int .i64 0, .int .i64 0, .slice B3 0 d3] 26)
  clear m3 J3 b3 L3
  try simp only [zeroP] at *
  generalize v3.alloc (.cells #[.int .i64 0, .int .i64 0, .int .i64 0, .int .i64 0, .slice B3 0 d3] 26) = W3 at *
  have L4 := Base.lit1 .u8 W3 [33, 0] #[.int .u8 33, .int .u8 0] 5 rfl
  have BX := BX.alloc BX.size (.cells #[.int .u8 33, .int .u8 0] 5)
  have I1 := Base.kept I1 (.cells #[.int .u8 33, .int .u8 0] 5)
  have K3 := K3.alloc (.cells #[.int .u8 33, .int .u8 0] 5)
  go_upto_region 5 with (go_at_call 21; refine (ex_dec [33, 0] 2 _ _ rfl (by decide) (Base.bytes_lit _ (by decide)) L4).mono ?_; intro e v4 m4; obtain ⟨B4, d4, rfl, hc4, J4, b4⟩ := decd_of m4 D3.out rfl)
  have BX := thenB BX b4
  have I1 := Base.later I1 b4
  have K3 := K3.below b4 K3.lt
  have BX := BX.alloc BX.size (.cells #[.int .i64 0, .int .i64 0, .int .i64 0, .int .i64 0, .slice B4 0 d4] 26)
  have I1 := Base.kept I1 (.cells #[.int .i64 0, .int .i64 0, .int .i64 0, .int .i64 0, .slice B4 0 d4] 26)
  have K3 := K3.alloc (.cells #[.int .i64 0, .int .i64 0, .int .i64 0, .int .i64 0, .slice B4 0 d4] 26)
  clear m4 J4 b4 L4
  try simp only [zeroP] at *
  generalize v4.alloc (.cells #[.int .i64 0, .int .i64 0, .int .i64 0, .int .i64 0, .slice B4 0 d4] 26) = W4 at *
  have L5 := Base.lit1 .u8 W4 [1] #[.int .u8 1] 5 rfl
  have BX := BX.alloc BX.size (.cells #[.int .u8 1] 5)
  have I1 := Base.kept I1 (.cells #[.int .u8 1] 5)
  have K3 := K3.alloc (.cells #[.int .u8 1] 5)
  go_upto_region 6 with (go_at_call 21; refine (ex_dec [1] 1 _ _ rfl (by decide) (Base.bytes_lit _ (by decide)) L5).mono ?_; intro e v5 m5; obtain ⟨B5, d5, rfl, hc5, J5, b5⟩ := decd_of m5 D4.out rfl)
  have BX := thenB BX b5
  have I1 := Base.later I1 b5
  have K3 := K3.below b5 K3.lt
  have BX := BX.alloc BX.size (.cells #[.int .i64 0, .int .i64 0, .int .i64 0, .int .i64 0, .slice B5 0 d5] 26)
  have I1 := Base.kept I1 (.cells #[.int .i64 0, .int .i64 0, .int .i64 0, .int .i64 0, .slice B5 0 d5] 26)
  have K3 := K3.alloc (.cells #[.int .i64 0, .int .i64 0, .int .i64 0, .int .i64 0, .slice B5 0 d5] 26)
  clear m5 J5 b5 L5
  try simp only [zeroP] at *
  generalize v5.alloc (.cells #[.int .i64 0, .int .i64 0, .int .i64 0, .int .i64 0, .slice B5 0 d5] 26) = W5 at *
  have k3 := K3.cell 3
  have k4 := K3.cell 4
  have L6 := Base.lit1 .u8 W5 [26, 1, 7] #[.int .u8 26, .int .u8 1, .int .u8 7] 5 rfl
  have BX := BX.alloc BX.size (.cells #[.int .u8 26, .int .u8 1, .int .u8 7] 5)
  have I1 := Base.kept I1 (.cells #[.int .u8 26, .int .u8 1, .int .u8 7] 5)
  have K3 := K3.alloc (.cells #[.int .u8 26, .int .u8 1, .int .u8 7] 5)
  have k3 := K3.cell 3
  have k4 := K3.cell 4
  go_wp2_with (first | (go_at_call 20; go_loud (refine (same23_to (b := true) (xs := [26, 1, 7]) (ys := [26, 1, 7]) (by decide) rfl rfl (Base.bytes_lit _ (by decide)) (Base.bytes_lit _ (by decide)) I1 L6).mono ?_; rintro e X' ⟨rfl, rfl⟩)) | (go_at_call 16; refine (blank_to hb B2 d2 _).mono ?_; rintro e X' ⟨rfl, b9⟩))
  go_ret
  exact ⟨rfl, thenB BX b9⟩
end Go.Proofs.Ytakfjemkgajehaa.Dp
