/- What lives asks. -/
import Derived.Test.YtkbhmgdmkamcfaaDoorCapLiv0
import Derived.Test.YtkbhmgdmkamcfaaDoorCapRead
set_option linter.unusedVariables false
set_option linter.unusedSimpArgs false
set_option maxRecDepth 100000
namespace Go.Proofs.YtkbhmgdmkamcfaaDoor.Cap
open Go.RowKit Mem Rw Air Base Oct

theorem own_max {w : World} {base n c size : Nat} {e : TypeId} {A : Option Addr} {xs : List Value} (h : w.ownsRow base e size (.slice A n c) n xs) : c ≤ 9223372036854775807 := by
  rcases h.2 with ⟨hv, hn⟩ | ⟨g, cap, cur, hv, _, _, _, hm, _⟩
  · cases hv; omega
  · cases hv; exact hm
theorem lit_txs (x : Tx) (X : World) (h : Own X X.heap.size x) {e : TypeId} (cs : Array Value) (hcs : cs = #[.int .i64 x.id, .int .i64 x.frm, .int .i64 x.ch, .int .i64 x.st, .slice x.A x.bs.length x.c]) :
    TxsAt (X.alloc (.cells cs e)) (X.alloc (.cells cs e)).heap.size (some ⟨X.heap.size, 0, none⟩) [x] := by
  subst hcs
  exact ⟨CellsAt.lit X _ _ _ rfl, fun y hy => by
    obtain rfl : y = x := by simpa using hy
    exact (h.below ((Below.refl _ X).alloc (Nat.le_refl _) _)).more (by simp)⟩
set_option maxHeartbeats 4000000 in
theorem lives_any (w : World) (hT : Crc.Tab w) (hK : Kinds w) (hP : Pows w) :
    Calls Tryd.prog 9 #[] w fun e w' => e = .returned (.bool true) ∧ Below w.heap.size w w' := by
  obtain ⟨i0, hi, hz0, hz1, hz2⟩ := info_parts Base.info_u8
  have sigB : strOfNums sigL = ⟨#[65, 73, 82, 49]⟩ := by decide
  go_enter Tryd.func9, Tryd.ntmps9
  go_wp2_with fail
  refine (write_any none 0 0 [] w rfl (by omega) (by omega) ⟨.inl rfl, by simp⟩ (by simp) hT).mono ?_
  rintro e w1 ⟨A1, c1, m1, rfl, hm1, hc1, j1, b1⟩
  have e1 : writeR none (([] : List Tx).map Tx.tr) sigL = (sigL, 0) := rfl
  rw [e1] at hm1 j1 ⊢
  simp only at hm1 j1 ⊢
  have hm4 : m1 = 4 := hm1.symm
  subst hm4
  go_wp2_with fail
  have I1 := lit1 .u8 w1 [10, 255] #[.int .u8 10, .int .u8 255] 5 rfl
  have T1 := lit_txs ⟨7, 37, 0, 1, some ⟨w1.heap.size, 0, none⟩, 2, [10, 255]⟩ _ ⟨by simp, by simp, I1⟩ (e := 52) #[.int .i64 7, .int .i64 37, .int .i64 0, .int .i64 1, .slice (some ⟨w1.heap.size, 0, none⟩) 2 2] rfl
  rw [show (w1.alloc (.cells #[.int .u8 10, .int .u8 255] 5)).heap.size = w1.heap.size + 1 by simp] at T1
  have B1 := ((Below.refl w1.heap.size w1).alloc (Nat.le_refl _) (.cells #[.int .u8 10, .int .u8 255] 5)).alloc (by simp) (.cells #[.int .i64 7, .int .i64 37, .int .i64 0, .int .i64 1, .slice (some ⟨w1.heap.size, 0, none⟩) 2 2] 52)
  generalize hg : w1.heap.size = s1 at *
  generalize (w1.alloc (.cells #[.int .u8 10, .int .u8 255] 5)).alloc (.cells #[.int .i64 7, .int .i64 37, .int .i64 0, .int .i64 1, .slice (some ⟨s1, 0, none⟩) 2 2] 52) = W at *
  subst hg
  have BW := thenB b1 B1
  refine (write_any _ 1 1 _ W rfl (by omega) (by omega) T1 (by intro x hx; simp at hx; subst hx; intro z hz; simp at hz; omega) (hT.below BW)).mono ?_
  rintro e w2 ⟨A2, c2, m2, rfl, hm2, hc2, j2, b2⟩
  have e2 : writeR none ([(⟨7, 37, 0, 1, some ⟨w1.heap.size, 0, none⟩, 2, [10, 255]⟩ : Tx)].map Tx.tr) sigL = (z0, 0) := z0_write
  rw [e2] at hm2 j2 ⊢
  simp only at hm2 j2 ⊢
  rw [z0_len] at hm2
  subst hm2
  have B2 := thenB BW b2
  have j1' := later (later j1 B1) b2
  clear T1 I1 j1
  go_wp2_with (at_builtin; refine wpList_append_ints rfl _ _ 32 rfl .u8 w2.heap.size 5 i0 _ 1 Tryd.underlying32 hi hz0 hz1 hz2 rfl (.slice (some ⟨w2.heap.size, 0, none⟩) 0 0) 0 [] rfl (World.ownsRow_made _ _ 0 (Nat.le_refl _) (by unfold maxLen; omega) rfl) w2.heap.size A2 22 c2 z0 rfl z0_len ?c1 ?c2 ?c3 ?c4 ?_; (case c1 => exact j2.alloc (Nat.le_refl _) _); (case c2 => unfold maxLen; omega); (case c3 => omega); (case c4 => simp); intro v' w3 hown3 hb3 _)
  have hown4 : w3.ownsRow w2.heap.size 5 1 v' 22 (z0.map (Value.int .u8)) := by simpa using hown3
  obtain ⟨A3, c3, rfl⟩ := own_form hown4
  have B3 := thenB B2 (((Below.refl _ w2).alloc (Nat.le_refl _) (.cells #[] 5)).trans hb3)
  have j1'' := later j1' (((Below.refl _ w2).alloc (Nat.le_refl _) (.cells #[] 5)).trans hb3)
  have hc3 := own_cap hown4
  have hm3 := own_max hown4
  have j3 := Ints.own hown4
  clear j1' hown3 hown4 j2
  refine (read_any A3 22 c3 z0 w3 z0_len (by omega) hm3 (by omega) z0_bytes j3 (hT.below B3)).mono ?_
  rintro e w4 ⟨RA, rc, l, rfl, hl, hrc, tl, b4⟩
  rw [z0_read] at hl ⊢
  simp only at hl ⊢
  obtain ⟨x, rfl⟩ : ∃ x, l = [x] := by
    have hl1 := congrArg List.length hl
    rw [List.length_map] at hl1
    exact List.length_eq_one_iff.1 hl1
  have hx : x.tr = r0 := by simpa using hl
  have B4 := thenB B3 b4
  have j4 := later j1'' b4
  obtain ⟨rb, ro, rfl, hrb, hcl⟩ := tx_cells tl (by simp)
  obtain ⟨f0, f1, f2, f3, f4⟩ := hcl 0 x rfl
  have ox := tl.2 x (by simp)
  obtain ⟨x0, x1, x2, x3, xA, xc, xb⟩ := x
  simp only [Tx.tr, r0, Tr.mk.injEq] at hx
  obtain ⟨rfl, rfl, rfl, rfl, rfl⟩ := hx
  simp only [Nat.zero_mul, Nat.add_zero] at f0 f1 f2 f3 f4
  have k1 := run_string_ints (P := Tryd.prog) 32 5 Tryd.underlying32 Tryd.underlying5 Tryd.underlying9 w4.heap.size A1 4 c1 sigL rfl j4
  rw [sigB] at k1
  have HL := Lib.hid (line_any 7 37 0 1 xA 2 xc [10, 255] w4 rfl (by omega) (by intro z hz; simp at hz; omega) ox.2.2 (by omega) (by omega) (by omega) (hK.below B4) (hP.below B4))
  rw [r0_line] at HL
  clear hcl ox tl hl j4 j1''
  go_wp2_with (go_at_call 24; refine HL.out.mono ?_; rintro e w5 ⟨rfl, b5⟩)
  go_ret
  exact ⟨rfl, thenB B4 b5⟩
end Go.Proofs.YtkbhmgdmkamcfaaDoor.Cap
