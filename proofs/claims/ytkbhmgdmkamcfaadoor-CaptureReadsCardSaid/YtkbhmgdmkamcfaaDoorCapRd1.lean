/- The reader of a file: its block; the next bytes, going on behind bytes; where no error ends the reading. -/
import Derived.Test.YtkbhmgdmkamcfaaDoorCapRows
import Derived.Test.YtkbhmgdmkamcfaaDoorCapMath
import Derived.Deep.RegionHeld3
set_option linter.unusedVariables false
set_option linter.unusedSimpArgs false
namespace Go.Proofs.YtkbhmgdmkamcfaaDoor.Cap
open Go.RowKit Mem Rw Air Base

theorem blk_setc {w : World} {g : Nat} {t : TypeId} {cs : Array Value} (h : Blk w g t cs) (i : Nat) (v : Value) : Blk (w.setCell ⟨g, i, none⟩ v) g t (cs.setIfInBounds i v) := by
  have hg : g < w.heap.size := h.lt
  unfold Blk at h ⊢
  unfold World.setCell
  simp only [Array.getElem?_modify, if_true, h]
  simp
/-- The reader: the bytes that follow, how many there were, the records. -/
abbrev Rdr (w : World) (g : Nat) (A : Option Addr) (n c : Nat) (k : Int) (rs : Value) : Prop := Blk w g 77 #[.slice A n c, .int .i64 k, rs]
theorem rdr_cells {w : World} {g : Nat} {A : Option Addr} {n c : Nat} {k : Int} {rs : Value} (h : Rdr w g A n c k rs) : w.cell? ⟨g, 0, none⟩ = some (.slice A n c) ∧ w.cell? ⟨g, 1, none⟩ = some (.int .i64 k) ∧ w.cell? ⟨g, 2, none⟩ = some rs ∧ w.frozen? ⟨g, 0, none⟩ = false ∧ w.frozen? ⟨g, 1, none⟩ = false ∧ w.frozen? ⟨g, 2, none⟩ = false :=
  ⟨h.cell 0, h.cell 1, h.cell 2, frozen_of_row w _ 0 _ _ h, frozen_of_row w _ 1 _ _ h, frozen_of_row w _ 2 _ _ h⟩
theorem next_ok (g n c m : Nat) (A : Option Addr) (k : Int) (rs : Value) (w : World) (h : Rdr w g A n c k rs) (hm : m ≤ n) (hn : n ≤ c) (hc : c ≤ 9223372036854775807) :
    Calls Tryd.prog 60 #[.pointer (some ⟨g, 0, none⟩), .int .i64 (m : Int)] w fun e w' => e = .returned (.slice A m c) ∧ w = w' := by
  obtain ⟨h0, h1, h2, h3, h4, h5⟩ := rdr_cells h
  have g1 : ¬ (n : Int) < (m : Int) ∧ ¬ n < m ∧ (0 : Int) ≤ (m : Int) ∧ (m : Int) ≤ (c : Int) ∧ m ≤ c := by omega
  clear h
  go_enter Tryd.func60, Tryd.ntmps60
  go_wp2_with fail
  go_ret
  exact ⟨rfl, rfl⟩
theorem stop_ok (w : World) : Calls Tryd.prog 61 #[.int .i64 0] w fun e w' => e = .returned (.tuple #[]) ∧ w = w' := by
  go_enter Tryd.func61, Tryd.ntmps61
  go_wp2_with fail
  exact bodyPost_end (v := .tuple #[]) (by simp [results, Tryd.f61, go_sem]) rfl ⟨rfl, rfl⟩
/-- Only the reader's block is another. -/
def Chg (g : Nat) (w w' : World) : Prop := w'.heap.size = w.heap.size ∧ (∀ p : Addr, p.block ≠ g → w'.cell? p = w.cell? p) ∧ (∀ B, B ≤ g → Below B w w') ∧ ∀ (base : Nat) (e : TypeId) (size n : Nat) (v : Value) (xs : List Value), g < base → w.ownsRow base e size v n xs → w'.ownsRow base e size v n xs
theorem chg_set (g i : Nat) (w : World) (v : Value) : Chg g w (w.setCell ⟨g, i, none⟩ v) :=
  ⟨by simp, fun p hp => World.cell?_setCell_other w _ p v (fun e => hp (by rw [← e])), fun B hB => (Below.refl B w).setCell (p := ⟨g, i, none⟩) hB v, fun base e size n u xs hg h => ownsRow_setCell_below h (a := ⟨g, i, none⟩) hg v⟩
theorem Chg.trans {g : Nat} {a b c : World} (h : Chg g a b) (k : Chg g b c) : Chg g a c := ⟨k.1.trans h.1, fun p hp => (k.2.1 p hp).trans (h.2.1 p hp), fun B hB => (h.2.2.1 B hB).trans (k.2.2.1 B hB), fun base e size n v xs hg r => k.2.2.2 base e size n v xs hg (h.2.2.2 base e size n v xs hg r)⟩
theorem skip_any (g n c m b off : Nat) (k : Int) (rs : Value) (w : World) (h : Rdr w g (some ⟨b, off, none⟩) n c k rs) (hm : m ≤ n) (hn : n ≤ c) (hc : c ≤ 9223372036854775807) (hk : 0 ≤ k ∧ k + (n : Int) ≤ 140737488351232) :
    Calls Tryd.prog 62 #[.pointer (some ⟨g, 0, none⟩), .int .i64 (m : Int)] w fun e w' => ∃ o', e = .returned (.tuple #[]) ∧ Rdr w' g (some ⟨b, o', none⟩) (n - m) (c - m) (k + m) rs ∧ (o' = off + m ∨ m = n) ∧ Chg g w w' := by
  obtain ⟨h0, h1, h2, h3, h4, h5⟩ := rdr_cells h
  have g1 : (0 : Int) ≤ (m : Int) ∧ (m : Int) ≤ (n : Int) ∧ m ≤ n := by omega
  have g2 : IntKind.i64.wrap (k + (m : Int)) = k + (m : Int) := by rw [IntKind.wrap_i64]; omega
  have fin : ∀ A' : Option Addr, Rdr ((w.setCell ⟨g, 0, none⟩ (.slice A' (n - m) (c - m))).setCell ⟨g, 1, none⟩ (.int .i64 (k + m))) g A' (n - m) (c - m) (k + m) rs ∧ Chg g w ((w.setCell ⟨g, 0, none⟩ (.slice A' (n - m) (c - m))).setCell ⟨g, 1, none⟩ (.int .i64 (k + m))) := fun A' => by
    refine ⟨?_, (chg_set g 0 w _).trans (chg_set g 1 _ _)⟩
    have := blk_setc (blk_setc h 0 (.slice A' (n - m) (c - m))) 1 (.int .i64 (k + m))
    simpa using this
  have HF := Lib.hid fin
  clear h fin
  by_cases hcm : c = m
  · have hmn : m = n := by omega
    subst hmn
    subst hcm
    have hF := HF.out (some ⟨b, off, none⟩)
    rw [Nat.sub_self] at hF
    have HG := Lib.hid hF
    clear hF HF
    go_enter Tryd.func62, Tryd.ntmps62
    go_wp2_with fail
    refine bodyPost_end (v := .tuple #[]) (by simp [results, Tryd.f62, go_sem]) rfl ⟨off, rfl, ?_, (by first | exact .inr rfl | exact .inr trivial | trivial), HG.out.2⟩
    rw [Nat.sub_self]; exact HG.out.1
  · go_enter Tryd.func62, Tryd.ntmps62
    go_wp2_with fail
    exact bodyPost_end (v := .tuple #[]) (by simp [results, Tryd.f62, go_sem]) rfl ⟨off + m, rfl, (HF.out _).1, .inl rfl, (HF.out _).2⟩
/-- The signature is there: it is gone behind. -/
theorem sig_ok (g n c b off : Nat) (k : Int) (rs : Value) (zs : List Int) (w : World) (h : Rdr w g (some ⟨b, off, none⟩) n c k rs) (hz : zs.length = n) (h4 : 4 ≤ n) (hn : n ≤ c) (hc : c ≤ 9223372036854775807) (hk : 0 ≤ k ∧ k + (n : Int) ≤ 140737488351232) (hi : Ints .u8 w w.heap.size (some ⟨b, off, none⟩) zs) (hs : zs.take 4 = sigL) :
    Calls Tryd.prog 39 #[.pointer (some ⟨g, 0, none⟩)] w fun e w' => ∃ o', e = .returned (.tuple #[]) ∧ Rdr w' g (some ⟨b, o', none⟩) (n - 4) (c - 4) (k + 4) rs ∧ (o' = off + 4 ∨ 4 = n) ∧ Chg g w w' := by
  have HN := Lib.hid (next_ok g n c 4 (some ⟨b, off, none⟩) k rs w h h4 hn hc)
  have HS := Lib.hid (skip_any g n c 4 b off k rs w h h4 hn hc hk)
  have hi4 : Ints .u8 w w.heap.size (some ⟨b, off, none⟩) (zs.take 4) := by
    rcases hi with hi | ⟨b', off', e, hlt, hcc⟩
    · left; rw [hi]; rfl
    · refine .inr ⟨b', off', e, hlt, fun j hj => ?_⟩
      rw [List.length_take] at hj
      rw [hcc j (by omega)]
      simp [List.getD, List.getElem?_take, show j < 4 by omega]
  have k1 := run_string_ints (P := Tryd.prog) 32 5 Tryd.underlying32 Tryd.underlying5 Tryd.underlying9 w.heap.size (some ⟨b, off, none⟩) 4 c (zs.take 4) (by rw [List.length_take]; omega) hi4
  rw [hs] at k1
  have k2 : strOfNums sigL = ⟨#[65, 73, 82, 49]⟩ := by decide
  rw [k2] at k1
  clear hi hi4 hs hz k2 h
  go_enter Tryd.func39, Tryd.ntmps39
  go_wp2_with (first
    | (go_at_call 60; refine HN.out.mono ?_; rintro e w1 ⟨rfl, rfl⟩)
    | (go_at_call 62; refine HS.out.mono ?_; rintro e w2 ⟨o', rfl, r2, r3, r4⟩))
  exact bodyPost_end (v := .tuple #[]) (by simp [results, Tryd.f39, go_sem]) rfl ⟨o', rfl, r2, r3, r4⟩
end Go.Proofs.YtkbhmgdmkamcfaaDoor.Cap
