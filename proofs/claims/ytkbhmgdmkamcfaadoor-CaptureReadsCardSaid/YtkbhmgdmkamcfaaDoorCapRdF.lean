/- What is read of a file: the records that are complete, how many bytes they take, the error of what follows. -/
import Derived.Test.YtkbhmgdmkamcfaaDoorCapRec
set_option linter.unusedVariables false
set_option linter.unusedSimpArgs false
namespace Go.Proofs.YtkbhmgdmkamcfaaDoor.Cap
open Go.RowKit Mem Rw Air Base Oct

/-- Records behind a last time, at most so many. -/
def readF : Nat → Option Int → List Int → List Tr × Int × Int
  | 0, _, _ => ([], 0, 0)
  | f + 1, pv, zs => if zs.length = 0 then ([], 0, 0) else if recE pv zs ≠ 0 then ([], 0, recE pv zs) else
      (decR (bodZ zs).1 :: (readF f (some (decR (bodZ zs).1).id) (zs.drop (16 + recN zs))).1, 16 + (recN zs : Int) + (readF f (some (decR (bodZ zs).1).id) (zs.drop (16 + recN zs))).2.1, (readF f (some (decR (bodZ zs).1).id) (zs.drop (16 + recN zs))).2.2)
/-- A file. -/
def readA (zs : List Int) : List Tr × Int × Int :=
  if zs.length < 4 then ([], 0, 3) else if zs.take 4 ≠ sigL then ([], 0, 2) else ((readF zs.length none (zs.drop 4)).1, 4 + (readF zs.length none (zs.drop 4)).2.1, (readF zs.length none (zs.drop 4)).2.2)
theorem readF_nil (f : Nat) (pv : Option Int) {zs : List Int} (h : zs.length = 0) : readF f pv zs = ([], 0, 0) := by
  cases f with
  | zero => rfl
  | succ f => unfold readF; rw [if_pos h]
theorem readF_bad (f : Nat) (pv : Option Int) {zs : List Int} (h : zs.length ≠ 0) (e : recE pv zs ≠ 0) : readF (f + 1) pv zs = ([], 0, recE pv zs) := by
  unfold readF; rw [if_neg h, if_pos e]
theorem readF_good (f : Nat) (pv : Option Int) {zs : List Int} (h : zs.length ≠ 0) (e : recE pv zs = 0) : readF (f + 1) pv zs =
      (decR (bodZ zs).1 :: (readF f (some (decR (bodZ zs).1).id) (zs.drop (16 + recN zs))).1, 16 + (recN zs : Int) + (readF f (some (decR (bodZ zs).1).id) (zs.drop (16 + recN zs))).2.1, (readF f (some (decR (bodZ zs).1).id) (zs.drop (16 + recN zs))).2.2) := by
  rw [readF, if_neg h, if_neg (by simp [e])]
/-- A good record: what its parts are. -/
theorem recE_zero {pv : Option Int} {zs : List Int} (e : recE pv zs = 0) : 13 ≤ zs.length ∧ ¬ 260 < lenZ (zs.take 13) ∧ 16 + recN zs ≤ zs.length ∧ (bodZ zs).2 = 0 ∧ chkC pv (decR (bodZ zs).1) = 0 := by
  unfold recE at e
  split at e
  · cases e
  · split at e
    · cases e
    · split at e
      · cases e
      · split at e
        · contradiction
        · rename_i h1 h2 h3 h4
          exact ⟨by omega, h2, by omega, by simpa using h4, e⟩
/-- What is known in the middle of a file: so much is read, and the rest will be. -/
def MidF (zs : List Int) (l : List Tr) (k : Int) (f : Nat) (pv : Option Int) (ys : List Int) : Prop :=
  readA zs = (l ++ (readF f pv ys).1, k + (readF f pv ys).2.1, (readF f pv ys).2.2) ∧ ys.length ≤ f
theorem MidF.start {zs : List Int} (h4 : 4 ≤ zs.length) (hs : zs.take 4 = sigL) : MidF zs [] 4 zs.length none (zs.drop 4) := by
  refine ⟨?_, by rw [List.length_drop]; omega⟩
  unfold readA
  rw [if_neg (by omega), if_neg (by simp [hs])]
  simp
theorem MidF.done {zs ys : List Int} {l : List Tr} {k : Int} {f : Nat} {pv : Option Int} (h : MidF zs l k f pv ys) (h0 : ys.length = 0) : readA zs = (l, k, 0) := by
  rw [h.1, readF_nil _ _ h0]; simp
theorem MidF.bad {zs ys : List Int} {l : List Tr} {k : Int} {f : Nat} {pv : Option Int} (h : MidF zs l k f pv ys) (h0 : ys.length ≠ 0) (e : recE pv ys ≠ 0) : readA zs = (l, k, recE pv ys) := by
  obtain ⟨h1, h2⟩ := h
  cases f with
  | zero => omega
  | succ f => rw [h1, readF_bad f pv h0 e]; simp
theorem MidF.next {zs ys : List Int} {l : List Tr} {k : Int} {f : Nat} {pv : Option Int} (h : MidF zs l k f pv ys) (h0 : ys.length ≠ 0) (e : recE pv ys = 0) :
    ∃ f', MidF zs (l ++ [decR (bodZ ys).1]) (k + (16 + (recN ys : Int))) f' (some (decR (bodZ ys).1).id) (ys.drop (16 + recN ys)) := by
  obtain ⟨h1, h2⟩ := h
  cases f with
  | zero => omega
  | succ f =>
    refine ⟨f, ?_, by rw [List.length_drop]; omega⟩
    rw [h1, readF_good f pv h0 e]
    refine Prod.ext (by simp) (Prod.ext ?_ rfl)
    show k + (16 + (recN ys : Int) + _) = k + (16 + (recN ys : Int)) + _
    omega
theorem recE_nz {pv : Option Int} {zs : List Int} (h : zs.length < 13 ∨ (13 ≤ zs.length ∧ 260 < lenZ (zs.take 13))) : recE pv zs = recE none zs ∧ recE none zs ≠ 0 := by
  rcases h with h | ⟨h, h1⟩
  · constructor
    · unfold recE; rw [if_pos h, if_pos h]
    · unfold recE; rw [if_pos h]; decide
  · constructor
    · unfold recE; rw [if_neg (by omega), if_pos h1, if_neg (by omega), if_pos h1]
    · unfold recE; rw [if_neg (by omega), if_pos h1]; decide
theorem recE_3 {pv : Option Int} {zs : List Int} (h : 13 ≤ zs.length) (hl : ¬ 260 < lenZ (zs.take 13)) (hs : zs.length < 16 + recN zs) : recE pv zs = 3 := by
  unfold recE; rw [if_neg (by omega), if_neg hl, if_pos hs]
theorem recE_sum {pv : Option Int} {zs : List Int} (h : 13 ≤ zs.length) (hl : ¬ 260 < lenZ (zs.take 13)) (hs : 16 + recN zs ≤ zs.length) (hb : (bodZ zs).2 ≠ 0) : recE pv zs = (bodZ zs).2 := by
  unfold recE; rw [if_neg (by omega), if_neg hl, if_neg (by omega), if_pos hb]
theorem recE_chk {pv : Option Int} {zs : List Int} (h : 13 ≤ zs.length) (hl : ¬ 260 < lenZ (zs.take 13)) (hs : 16 + recN zs ≤ zs.length) (hb : (bodZ zs).2 = 0) : recE pv zs = chkC pv (decR (bodZ zs).1) := by
  unfold recE; rw [if_neg (by omega), if_neg hl, if_neg (by omega), if_neg (by simp [hb])]
end Go.Proofs.YtkbhmgdmkamcfaaDoor.Cap
