/- The statements on tags, derived keys, key streams and sealing, walked: each returns true. -/
import Derived.Test.YtpdaeggjahcogaaMacRef2
import Derived.Test.YtpdaeggjahcogaaMacDer
set_option linter.unusedVariables false
set_option linter.unusedSimpArgs false
namespace Go.Proofs.Ytpdaeggjahcogaa.Mac
open Go.RowKit Mem Oct Blk Base

theorem ints_blk {w : World} {g : Nat} {t : TypeId} {cs : Array Value} (zs : List Int) (h : Mem.Blk w g t cs) (hc : cs = (zs.map (Value.int .u8)).toArray) : Ints .u8 w w.heap.size (some ⟨g, 0, none⟩) zs := by
  right
  refine ⟨g, 0, rfl, h.lt, fun j hj => ?_⟩
  rw [Nat.zero_add, h.cell j, hc]
  simp [List.getD, List.getElem?_eq_getElem hj]
theorem f_zero : tagZ 0 [] = 0 := by decide +kernel
theorem lives_any (w : World) : Calls Try.prog 12 #[] w fun e w' => e = .returned (.bool true) ∧ Below w.heap.size w w' := by
  have b1 : Bytes [1] := bytes_lit _ (by decide)
  have b56 : Bytes [5, 6] := bytes_lit _ (by decide)
  have b123 : Bytes [1, 2, 3] := bytes_lit _ (by decide)
  have HO := Lib.hid (open_seal 3 4 [1] b56)
  have HS := Lib.hid (openR_short 3 4 [] [1, 2, 3] (by decide))
  have HL : Hid ((sealL 3 4 [1] [5, 6]).length = 6) := Lib.hid (sealL_len _ _ _ _)
  have bS := sealL_bytes 3 4 [1] b56
  have HZ := Lib.hid f_zero
  have F6 : Mem.Blk (((w.alloc (.cells #[.int .u8 1] 5)).alloc (.cells #[.int .u8 1] 5)).alloc (.cells #[.int .u8 5, .int .u8 6] 5)) w.heap.size 5 #[.int .u8 1] := ((Blk.fresh w _ _).alloc _).alloc _
  have F7 : Mem.Blk (((w.alloc (.cells #[.int .u8 1] 5)).alloc (.cells #[.int .u8 1] 5)).alloc (.cells #[.int .u8 5, .int .u8 6] 5)) (w.heap.size + 1) 5 #[.int .u8 1] := by
    have := (Blk.fresh (w.alloc (.cells #[.int .u8 1] 5)) 5 #[.int .u8 1]).alloc (.cells #[.int .u8 5, .int .u8 6] 5)
    rwa [World.size_alloc] at this
  have F8 : Mem.Blk (((w.alloc (.cells #[.int .u8 1] 5)).alloc (.cells #[.int .u8 1] 5)).alloc (.cells #[.int .u8 5, .int .u8 6] 5)) (w.heap.size + 1 + 1) 5 #[.int .u8 5, .int .u8 6] := by
    have := Blk.fresh ((w.alloc (.cells #[.int .u8 1] 5)).alloc (.cells #[.int .u8 1] 5)) 5 #[.int .u8 5, .int .u8 6]
    rwa [World.size_alloc, World.size_alloc] at this
  have i6 := ints_blk [1] F6 rfl
  have i7 := ints_blk [1] F7 rfl
  have i8 := ints_blk [5, 6] F8 rfl
  have h0 : Below w.heap.size w (((w.alloc (.cells #[.int .u8 1] 5)).alloc (.cells #[.int .u8 1] 5)).alloc (.cells #[.int .u8 5, .int .u8 6] 5)) := (((Below.refl _ w).alloc (Nat.le_refl _) _).alloc (by simp) _).alloc (by simp; omega) _
  go_enter Try.func12, Try.ntmps12
  go_wp2_with (first
    | (go_at_call 20; refine (seal_any 3 4 _ _ 1 1 2 2 [1] [5, 6] _ (by decide) (by decide) rfl b1 i7 (by decide) rfl b56 i8 (by decide)).mono ?_; intro e w1 m1; obtain ⟨A1, c1, rfl, k1, x1, j1, b1'⟩ := readm m1 HL.out; clear m1; have h1 := thenB h0 b1')
    | (go_at_call 22; refine (open_any 3 4 _ A1 1 1 6 c1 [1] _ _ (by decide) (by decide) rfl b1 (later i6 b1') (by decide) HL.out bS j1 (by decide) k1 x1).mono ?_; rw [HO.out]; rintro e w2 ⟨A2, c2, rfl, o2, b2'⟩; clear i6; obtain ⟨g2, rfl, hg2, hl2⟩ := own_block o2 (by decide); have d0 : w2.cell? ⟨g2, 0, none⟩ = some (.int .u8 5) := o2.cellAt 0 (by decide); have d1 : w2.cell? ⟨g2, 1, none⟩ = some (.int .u8 6) := o2.cellAt 1 (by decide); have h2 := thenB h1 b2')
    | (go_at_call 22; refine (open_any 3 4 none _ 0 0 3 3 [] [1, 2, 3] _ (by decide) (by decide) rfl (by intro z hz; cases hz) (.inl rfl) (by decide) rfl b123 (by exact lit1 .u8 _ [1, 2, 3] _ _ rfl) (by decide) (by decide) (by decide)).mono ?_; rw [HS.out]; rintro e w3 ⟨A3, c3, rfl, o3, b3'⟩; have b3 := alloc1 _ _ b3'; have e0 := (b3.cell (p := ⟨g2, 0, none⟩) hl2).trans d0; have e1 := (b3.cell (p := ⟨g2, 1, none⟩) hl2).trans d1; have h3 := thenB h2 b3)
    | (go_at_call 13; refine (tag_any 0 none 0 0 [] _ (by decide) rfl (by intro z hz; cases hz) (by decide) (by decide) (by decide) (.inl rfl)).mono ?_; rw [HZ.out]; rintro e w4 ⟨rfl, b4⟩))
  go_ret
  exact ⟨rfl, thenB h3 b4⟩
end Go.Proofs.Ytpdaeggjahcogaa.Mac
