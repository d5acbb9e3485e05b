/- What the layer of captures speaks of. A record is a transmission by its form: its time, channel, sender and kind stand for the four numbers. No program is mentioned but for the sums. -/
import Derived.Test.YtkbhmgdmkamcfaaDoorAirMath
import Derived.Test.YtkbhmgdmkamcfaaDoorCrcWalks2
import Derived.Test.YtkbhmgdmkamcfaaDoorOctPut
set_option linter.unusedVariables false
set_option linter.unusedSimpArgs false
namespace Go.Proofs.YtkbhmgdmkamcfaaDoor.Cap
open Go.RowKit Mem Rw Air Base

/-- The numbers of a record are in their ranges. -/
def rightB (r : Tr) : Bool := decide (0 ≤ r.id) && (decide (r.id ≤ 1099511627776) && (decide (0 ≤ r.frm) && (decide (r.frm < 40) && (decide (0 ≤ r.ch) && (decide (r.ch < 8) && (decide (0 ≤ r.st) && decide (r.st ≤ 4)))))))
/-- It is earlier than the last one. -/
def lateB : Option Int → Tr → Bool
  | none, _ => false
  | some p, r => decide (r.id < p)
def chkC (p : Option Int) (r : Tr) : Int := if rightB r = true then (if 260 < r.bs.length then 4 else if lateB p r = true then 13 else 0) else 5
def fldsL (r : Tr) : List (Int × Int) := [(8, r.id), (1, r.frm), (1, r.ch), (1, r.st), (2, (r.bs.length : Int))]
/-- The bytes of a record ahead of its sum, and all of them. -/
def bodL (r : Tr) : List Int := Oct.putL (fldsL r) ++ r.bs
def recL (r : Tr) : List Int := Crc.appL (Crc.ini 0) (bodL r)
/-- The file of records behind a last time, or the error of the first one that is wrong. -/
def writeR : Option Int → List Tr → List Int → List Int × Int
  | _, [], acc => (acc, 0)
  | p, r :: s, acc => if chkC p r = 0 then writeR (some r.id) s (acc ++ recL r) else ([], chkC p r)
def sigL : List Int := [65, 73, 82, 49]
theorem right_iff (r : Tr) : rightB r = true ↔ (0 ≤ r.id ∧ r.id ≤ 1099511627776 ∧ 0 ≤ r.frm ∧ r.frm < 40 ∧ 0 ≤ r.ch ∧ r.ch < 8 ∧ 0 ≤ r.st ∧ r.st ≤ 4) := by
  unfold rightB
  simp only [Bool.and_eq_true, decide_eq_true_eq]
theorem chk_good {p : Option Int} {r : Tr} (h : chkC p r = 0) : rightB r = true ∧ r.bs.length ≤ 260 ∧ lateB p r = false := by
  unfold chkC at h
  split at h
  · rename_i a
    split at h
    · cases h
    · rename_i b
      split at h
      · cases h
      · rename_i c
        exact ⟨a, by omega, by simpa using c⟩
  · cases h
theorem flds_ok {r : Tr} (h : rightB r = true) (hl : r.bs.length ≤ 260) : (fldsL r).all Oct.okF = true := by
  obtain ⟨h1, h2, h3, h4, h5, h6, h7, h8⟩ := (right_iff r).mp h
  have p8 : Ser.p2 (8 * (8 : Int).toNat) = 18446744073709551616 := by decide
  have p1 : Ser.p2 (8 * (1 : Int).toNat) = 256 := by decide
  have p2' : Ser.p2 (8 * (2 : Int).toNat) = 65536 := by decide
  simp only [fldsL, List.all_cons, List.all_nil, Oct.okF, p8, p1, p2', Bool.and_true, Bool.and_eq_true, decide_eq_true_eq]
  refine ⟨⟨by decide, by omega⟩, ⟨by decide, by omega⟩, ⟨by decide, by omega⟩, ⟨by decide, by omega⟩, ⟨by decide, by omega⟩⟩
theorem flds_put {r : Tr} (h : rightB r = true) (hl : r.bs.length ≤ 260) : Oct.putR (fldsL r) = (Oct.putL (fldsL r), 0) := Oct.putR_good (flds_ok h hl)
theorem put_len (r : Tr) : (Oct.putL (fldsL r)).length = 13 := by simp [fldsL, Oct.putL, Oct.numL_len]
theorem body_len (r : Tr) : (bodL r).length = 13 + r.bs.length := by unfold bodL; rw [List.length_append, put_len]
theorem rec_len (r : Tr) : (recL r).length = 16 + r.bs.length := by unfold recL; rw [Crc.appL_len, body_len]; omega
end Go.Proofs.YtkbhmgdmkamcfaaDoor.Cap
