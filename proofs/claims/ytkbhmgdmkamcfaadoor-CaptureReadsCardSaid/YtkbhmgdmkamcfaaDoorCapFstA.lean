/- The document's reading of one record, in all its ways. -/
import Derived.Test.YtkbhmgdmkamcfaaDoorCapFst2
import Derived.Test.YtkbhmgdmkamcfaaDoorCapFst3
set_option linter.unusedVariables false
set_option linter.unusedSimpArgs false
namespace Go.Proofs.YtkbhmgdmkamcfaaDoor.Cap
open Go.RowKit Mem Rw Air Base Oct

/-- What the reading of one record hands back. -/
def FirstPost (w : World) (zs : List Int) (e : Ending) (w' : World) : Prop :=
  (recE none zs ≠ 0 ∧ e = .returned (.tuple #[.agg #[.int .i64 0, .int .i64 0, .int .i64 0, .int .i64 0, .slice none 0 0], .int .i64 0, .int .i64 (recE none zs)]) ∧ Below w.heap.size w w') ∨
  (recE none zs = 0 ∧ ∃ bA bc, e = .returned (.tuple #[.agg #[.int .i64 (decR (bodZ zs).1).id, .int .i64 (decR (bodZ zs).1).frm, .int .i64 (decR (bodZ zs).1).ch, .int .i64 (decR (bodZ zs).1).st, .slice bA (recN zs) bc], .int .i64 ((recN zs + 16 : Nat) : Int), .int .i64 0]) ∧
    w'.ownsRow (w.heap.size + 1) 5 1 (.slice bA (recN zs) bc) (recN zs) ((decR (bodZ zs).1).bs.map (Value.int .u8)) ∧ (decR (bodZ zs).1).bs.length = recN zs ∧ recN zs ≤ 260 ∧ Below w.heap.size w w')
theorem chk_none (r : Tr) (h : r.bs.length ≤ 260) : chkC none r = if rightB r = true then 0 else 5 := by
  unfold chkC
  split
  · rw [if_neg (by omega)]; rfl
  · rfl
theorem recE_late {pv : Option Int} {zs : List Int} (h : recE none zs = 0) : recE pv zs = if lateB pv (decR (bodZ zs).1) = true then 13 else 0 := by
  obtain ⟨h1, h2, h3, h4, h5⟩ := recE_zero h
  obtain ⟨g1, g2, _⟩ := chk_good h5
  rw [recE_chk h1 h2 h3 h4]
  unfold chkC
  rw [if_pos g1, if_neg (by omega)]
theorem recE_same {pv : Option Int} {zs : List Int} (h : recE none zs ≠ 0) : recE pv zs = recE none zs := by
  by_cases a1 : zs.length < 13
  · unfold recE; rw [if_pos a1, if_pos a1]
  by_cases a2 : 260 < lenZ (zs.take 13)
  · unfold recE; rw [if_neg a1, if_pos a2, if_neg a1, if_pos a2]
  by_cases a3 : zs.length < 16 + recN zs
  · unfold recE; rw [if_neg a1, if_neg a2, if_pos a3, if_neg a1, if_neg a2, if_pos a3]
  by_cases a4 : (bodZ zs).2 = 0
  · have e1 := recE_chk (pv := pv) (zs := zs) (by omega) a2 (by omega) a4
    have e2 := recE_chk (pv := none) (zs := zs) (by omega) a2 (by omega) a4
    rw [e1]; rw [e2] at h ⊢
    unfold chkC at h ⊢
    split
    · rename_i hr
      rw [if_pos hr] at h
      split
      · rfl
      · rename_i hl
        rw [if_neg hl] at h
        exact absurd rfl h
    · rfl
  · rw [recE_sum (by omega) a2 (by omega) a4, recE_sum (by omega) a2 (by omega) a4]
theorem first_any (A : Option Addr) (n c : Nat) (zs : List Int) (w : World) (hz : zs.length = n) (hnc : n ≤ c) (hn : n ≤ 60000) (bz : Bytes zs) (hi : Ints .u8 w w.heap.size A zs) : Calls Tryd.prog 41 #[.slice A n c] w fun e w' => FirstPost w zs e w' := by
  by_cases a1 : n < 13
  · have e : recE none zs = 3 := by unfold recE; rw [if_pos (by omega)]
    refine (first_13 A n c zs w hz hnc hn bz hi a1).mono fun e' w' ⟨h1, h2⟩ => .inl ⟨by rw [e]; decide, by rw [e]; exact h1, h2⟩
  by_cases a2 : 260 < lenZ (zs.take 13)
  · have e : recE none zs = 4 := by unfold recE; rw [if_neg (by omega), if_pos a2]
    refine (first_long A n c zs w hz hnc hn bz hi (by omega) a2).mono fun e' w' ⟨h1, h2⟩ => .inl ⟨by rw [e]; decide, by rw [e]; exact h1, h2⟩
  by_cases a3 : n < 16 + recN zs
  · have e : recE none zs = 3 := recE_3 (by omega) a2 (by omega)
    refine (first_cut A n c zs w hz hnc hn bz hi (by omega) a2 a3).mono fun e' w' ⟨h1, h2⟩ => .inl ⟨by rw [e]; decide, by rw [e]; exact h1, h2⟩
  by_cases a4 : (bodZ zs).2 = 0
  · obtain ⟨d1, d2, d3⟩ := doc_dec bz (by omega) a4
    have hm := nm4_bd (bytes_take bz 13)
    rw [← lenZ_eq (bytes_take bz 13)] at hm
    have hrn : recN zs ≤ 260 := by unfold recN; omega
    have hbl : (decR (bodZ zs).1).bs.length = recN zs := by
      rw [← d3]; show ((zs.drop 13).take (recN zs)).length = _
      rw [List.length_take, List.length_drop]; omega
    have e := recE_chk (pv := none) (zs := zs) (by omega) a2 (by omega) a4
    rw [chk_none _ (by omega)] at e
    by_cases a5 : rightB (docT zs) = true
    · have e0 : recE none zs = 0 := by rw [e, if_pos (by rw [← d1]; exact a5)]
      have hd := d2 a5
      refine (first_rec A n c zs w hz hnc hn bz hi (by omega) a2 (by omega) a4 a5).mono ?_
      rw [hd]
      rintro e' w' ⟨bA, bc, h1, h2, h3⟩
      exact .inr ⟨e0, bA, bc, h1, h2, hbl, hrn, h3⟩
    · have a5' : rightB (docT zs) = false := by simpa using a5
      have e5 : recE none zs = 5 := by rw [e, if_neg (by rw [← d1]; exact a5)]
      refine (first_wrong A n c zs w hz hnc hn bz hi (by omega) a2 (by omega) a4 a5').mono fun e' w' ⟨h1, h2⟩ => .inl ⟨by rw [e5]; decide, by rw [e5]; exact h1, h2⟩
  · have e : recE none zs = 10 := by rw [recE_sum (by omega) a2 (by omega) a4, bod_ten (by omega) a4]
    refine (first_sum A n c zs w hz hnc hn bz hi (by omega) a2 (by omega) a4).mono fun e' w' ⟨h1, h2⟩ => .inl ⟨by rw [e]; decide, by rw [e]; exact h1, h2⟩
end Go.Proofs.YtkbhmgdmkamcfaaDoor.Cap
