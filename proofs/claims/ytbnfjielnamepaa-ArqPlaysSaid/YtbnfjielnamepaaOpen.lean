/- How arguments read: slices of integers and of fields, texts; what the bound of the second form gives. -/
import Derived.Test.YtbnfjielnamepaaRows
import Derived.ProofKit
import Derived.OpenShut
import Derived.ShutString
import Derived.ChangeOld
import Derived.ChangeSame
import Derived.Deep.Slices
import Derived.Deep.Fields
import Derived.SizedLaws
import Derived.JoinedCond
import Derived.Test.YtbnfjielnamepaaMem
set_option linter.unusedVariables false
set_option linter.unusedSimpArgs false
namespace Go.Proofs.Ytbnfjielnamepaa.Arg
open Go.ChangeShapes Go.WideShapes Go.ChangeAt Go.RowKit Go.Deep Mem

section
variable {H : Type} {enc : TypeId × Value → H} {P : Program} {w : World} {base : Nat}

theorem add_plain {b off : Nat} (i : Nat) : (⟨b, off, none⟩ : Addr).add i = ⟨b, off + i, none⟩ := by
  unfold Addr.add
  by_cases h : i = 0
  · simp [h]
  · simp [h]
/-- A slice of integers reads as a list; what it is as data. -/
theorem read_ints {t e : TypeId} {k : IntKind} {A : Option Addr} {n c : Nat} {d : DataW H} {p : List MemPlace} (ht : P.underlying t = some (.slice e)) (he : P.underlying e = some (.int k)) (hc : P.cellsOf e = 1)
    (h : DataW.Trod enc P w base (fun _ => true) true t (.slice A n c) d p) :
    ∃ xs : List Int, xs.length = n ∧ n ≤ c ∧ Ints k w w.heap.size A xs ∧ (∀ z ∈ xs, (Lit.int k z).wf = true) ∧ ((d = .nil ∧ c = 0) ∨ ∃ elems spare, d = .slice elems spare ∧ elems.length + spare.length = c) := by
  obtain ⟨fuel, hf⟩ := h
  rcases open_ints ht he hc hf with ⟨hcs, hx⟩ | ⟨a, len, cap, zs, hcs, _, hl, hm, hz, hx, hcell, hwz⟩
  · simp [Value.cells] at hcs
    obtain ⟨rfl, rfl, rfl⟩ := hcs
    simp only [Prod.mk.injEq] at hx
    exact ⟨[], rfl, Nat.le_refl _, .inl rfl, by simp, .inl ⟨hx.1, rfl⟩⟩
  · simp [Value.cells] at hcs
    obtain ⟨rfl, rfl, rfl⟩ := hcs
    simp only [if_true] at hz
    simp only [Prod.mk.injEq] at hx
    refine ⟨zs.take n, by rw [List.length_take]; omega, hl, ?_, fun z hzm => hwz z (List.mem_of_mem_take hzm), .inr ⟨_, _, hx.1, ?_⟩⟩
    · by_cases hn : n = 0
      · left; rw [hn]; simp
      · right
        have h0 := hcell 0 (by omega)
        have hblk := block_lt_of_cell h0
        have hspot := World.cell?_spot h0
        obtain ⟨b, off, spot⟩ := a
        have hs : spot = none := by
          have : (Addr.add ⟨b, off, spot⟩ 0).spot = spot := by unfold Addr.add; simp
          rw [this] at hspot; exact hspot
        subst hs
        refine ⟨b, off, rfl, by simpa [add_plain] using hblk, fun j hj => ?_⟩
        have hjn : j < n := by rw [List.length_take] at hj; omega
        have := hcell j (by omega)
        rw [add_plain] at this
        rw [this]
        simp [List.getD, List.getElem?_take, hjn]
    · simp [lits]; omega
end

/-! What the bound gives. -/
theorem bound {H : Type} {l : List (DataW H)} (hk : Rows.uptoSmall H l = true) : Rows.uptoBulkAll l ≤ 1048576 := of_decide_eq_true hk
end Go.Proofs.Ytbnfjielnamepaa.Arg
