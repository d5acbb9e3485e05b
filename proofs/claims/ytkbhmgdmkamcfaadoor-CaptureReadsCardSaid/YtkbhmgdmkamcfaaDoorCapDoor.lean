/- From the condition on the listed variables to what the walks ask; the door's own heap meets it. -/
import Derived.Test.YtkbhmgdmkamcfaaDoorRows
import Derived.Test.YtkbhmgdmkamcfaaDoorCapLawW
import Derived.LaidMore
import Derived.Lib.LaidTab
import Derived.ProofKit
set_option linter.unusedVariables false
namespace Go.Proofs.YtkbhmgdmkamcfaaDoor.Door
open Go.RowKit Cap

theorem gH : Tryd.prog.globalNamed "wireless/crc.halves" = some 3 := by kernel_rfl
theorem gK : Tryd.prog.globalNamed "wireless/capture.kinds" = some 0 := by kernel_rfl
theorem gP : Tryd.prog.globalNamed "internal/strconv.uint64pow10" = some 2 := by kernel_rfl
theorem tH : (Tryd.prog.globals[3]?).map (·.type) = some 151 := by kernel_rfl
theorem tK : (Tryd.prog.globals[0]?).map (·.type) = some 118 := by kernel_rfl
theorem tP : (Tryd.prog.globals[2]?).map (·.type) = some 147 := by kernel_rfl
def laid5 : List (String × DataW Unit) := [("math/bits.deBruijn32tab", Rows.laid_math_bits_deBruijn32tab), ("math/bits.deBruijn64tab", Rows.laid_math_bits_deBruijn64tab), ("internal/strconv.uint64pow10", Rows.laid_internal_strconv_uint64pow10), ("wireless/crc.halves", Rows.laid_wireless_crc_halves), ("wireless/capture.kinds", Rows.laid_wireless_capture_kinds)]
/-- The door's own heap meets the condition. -/
theorem door_met (os : Os) (args : Array Value) : laidMetH Tryd.prog laid5 ((World.doorLaid Tryd.prog 400 os).forCall (fun _ _ => 0) ⟨#[], args, []⟩).memory :=
  laidMetH_of_parts3 (fuel := 8) (laidMet_of_run' 8 (by kernel_rfl) (by kernel_rfl)) (by kernel_rfl) (by kernel_rfl)
theorem laidMet_tail {P : Program} {x : String × DataW Unit} {rest : List (String × DataW Unit)} {W : World} (h : laidMet P (x :: rest) W) : laidMet P rest W := by
  obtain ⟨ps, ⟨g', t', cs, fuel, p, q, hg', ht', hvar, hd, hr, hp⟩, hn, hc⟩ := h
  subst hp
  exact ⟨q, hr, (List.nodup_append.1 hn).2.1, fun b off hm => hc b off (List.mem_append_right _ hm)⟩
/-- An array of strings that reads as a table holds the table's strings. -/
theorem cells_of_strs {H : Type} {enc : TypeId × Value → H} {P : Program} {w : World} {base : Nat} {sp : Nat → Bool} {held : Bool} {fuel : Nat} {t e : TypeId} {n : Nat} {cs : List Value} {ss : List ByteArray} {p : List MemPlace}
    (ht : P.underlying t = some (.array n e)) (he : P.underlying e = some .string) (hce : P.cellsOf e = 1) (hct : P.cellsOf t = n)
    (h : DataW.trod enc P w base sp held fuel t cs = some (.agg (ss.map fun s => .lit (.string s.data.toList)), p)) : cs = ss.map Value.string := by
  cases fuel with
  | zero => simp [DataW.trod] at h
  | succ fuel =>
    simp only [DataW.trod, ht, hce, hct, Nat.mul_one] at h
    split at h
    · rename_i hl
      obtain ⟨xs, hm, hx⟩ := Option.map_eq_some_iff.1 h
      have hxs : xs.map (·.1) = ss.map fun s => (DataW.lit (.string s.data.toList) : DataW H) := by
        have := congrArg Prod.fst hx
        simpa using this
      have hxl : xs.length = n := by simpa using Lib.mapM_length hm
      have hzl : ss.length = n := by
        have := congrArg List.length hxs
        simp at this
        omega
      apply List.ext_getElem?
      intro i
      by_cases hi : i < n
      · obtain ⟨b, hb, hf⟩ := Lib.mapM_at hm i i (by simp [hi])
        obtain ⟨s, hc, rfl, _⟩ := DataW.trod_string he hf
        have h1 : cs[i]? = some (.string s) := by
          have := congrArg (·[0]?) hc
          simpa [List.getElem?_take, List.getElem?_drop] using this
        have h2 : (xs.map (·.1))[i]? = some (DataW.lit (.string s.data.toList) : DataW H) := by simp [hb]
        rw [hxs] at h2
        simp only [List.getElem?_map, Option.map_eq_some_iff, DataW.lit.injEq, Lit.string.injEq] at h2
        obtain ⟨s', hs', he'⟩ := h2
        have : s' = s := by
          cases s'; cases s
          simp only at he'
          congr 1
          exact Array.toList_inj.1 he'
        subst this
        simp [h1, hs']
      · rw [List.getElem?_eq_none (by omega), List.getElem?_eq_none (by simp; omega)]
    · cases h
theorem tabs_of {W : World} (h : laidMetH Tryd.prog laid5 W) : Tabs W := by
  rw [MakeChecks.laidMetH_plain _ _ _ (by kernel_rfl)] at h
  have h3 := laidMet_tail (laidMet_tail h)
  have hP := Lib.tabIs_of_head (k := .u64) (zs := Lib.pow10Tab) gP tP Tryd.underlying147 Tryd.underlying94 (by kernel_rfl) (by kernel_rfl) h3
  have h4 := laidMet_tail h3
  have hH := Lib.tabIs_of_head (k := .u32) (zs := Crc.halves) gH tH Tryd.underlying151 Tryd.underlying98 (by kernel_rfl) (by kernel_rfl) h4
  have h5 := laidMet_tail h4
  have hK : W.var? Tryd.prog "wireless/capture.kinds" = some (kindsB.map Value.string).toArray := by
    obtain ⟨ps, ⟨g', t', cs, fuel, p, q, hg', ht', hvar, hd, _, _⟩, _⟩ := h5
    obtain rfl := Option.some.inj (gK.symm.trans hg')
    obtain rfl := Option.some.inj (tK.symm.trans ht')
    rw [hvar, ← cells_of_strs (ss := kindsB) Tryd.underlying118 Tryd.underlying9 (by kernel_rfl) (by kernel_rfl) hd]
  have cH : ∀ i : Nat, i < 16 → W.cell? ⟨3, i, none⟩ = some (.int .u32 (Crc.halves.getD i 0)) := fun i hi => hH.cell gH i hi
  have cK : ∀ (i : Nat) s, kindsB[i]? = some s → W.cell? ⟨0, i, none⟩ = some (.string s) := fun i s hs => by
    have := World.var?_cell gK hK i
    rw [this]
    simp [hs]
  have lt : ∀ (g : Nat) (v : Value), W.cell? ⟨g, 0, none⟩ = some v → g < W.heap.size := fun g v hv => by
    rcases Nat.lt_or_ge g W.heap.size with hlt | hge
    · exact hlt
    · exfalso
      have : W.heap[g]? = none := Array.getElem?_eq_none hge
      simp [World.cell?, this] at hv
  exact ⟨⟨lt _ _ (cH 0 (by decide)), cH⟩, ⟨lt _ _ (cK 0 _ rfl), cK⟩, hP⟩
end Go.Proofs.YtkbhmgdmkamcfaaDoor.Door
