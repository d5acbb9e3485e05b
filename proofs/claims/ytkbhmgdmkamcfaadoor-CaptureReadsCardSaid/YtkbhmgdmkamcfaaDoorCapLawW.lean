/- The statements about writing and reading, walked. -/
import Derived.Test.YtkbhmgdmkamcfaaDoorCapLives
import Derived.Test.YtkbhmgdmkamcfaaDoorCapSame
import Derived.Test.YtkbhmgdmkamcfaaDoorCapRWrite
set_option linter.unusedVariables false
set_option linter.unusedSimpArgs false
set_option maxRecDepth 100000
namespace Go.Proofs.YtkbhmgdmkamcfaaDoor.Cap
open Go.RowKit Mem Rw Air Base Oct

/-- The variables that the statements' roads read. -/
def Tabs (w : World) : Prop := Crc.Tab w ∧ Kinds w ∧ Pows w
theorem Tabs.below {w w' : World} (h : Tabs w) (hb : Below w.heap.size w w') : Tabs w' := ⟨h.1.below hb, h.2.1.below hb, h.2.2.below hb⟩
theorem tabs_lives (w : World) (h : Tabs w) : Calls Tryd.prog 9 #[] w fun e w' => e = .returned (.bool true) ∧ Below w.heap.size w w' := lives_any w h.1 h.2.1 h.2.2
theorem bytes_of {l l' : List Tx} (h : l'.map Tx.tr = l.map Tx.tr) (hb : ∀ x ∈ l, Bytes x.bs) : ∀ x ∈ l', Bytes x.bs := by
  intro x hx
  have : x.tr ∈ l.map Tx.tr := h ▸ List.mem_map_of_mem hx
  obtain ⟨y, hy, he⟩ := List.mem_map.1 this
  have e : y.bs = x.bs := congrArg Tr.bs he
  exact e ▸ hb y hy
theorem law_writes (A : Option Addr) (n c : Nat) (xs : List Tx) (w : World) (hx : xs.length = n) (hc : n ≤ c) (ta : TxsAt w w.heap.size A xs) (hb : ∀ x ∈ xs, Bytes x.bs) (hT : Tabs w) :
    Calls Tryd.prog 4 #[.slice A n c] w fun e w' => e = .returned (.bool true) ∧ Below w.heap.size w w' := by
  have HL := Lib.hid (tabs_lives w hT)
  by_cases c64 : (n : Int) ≤ 64
  · have hd : decide ((n : Int) ≤ 64) = true := by simpa using c64
    have HF : Hid (∀ w', Calls Tryd.prog 16 #[.slice A n c] w' fun e w2 => e = .returned (.bool true) ∧ w' = w2) := Lib.hid fun w' => hd ▸ few_any A n c w'
    clear hd
    go_enter Tryd.func4, Tryd.ntmps4
    go_wp2_with (first
      | (go_at_call 9; refine HL.out.mono ?_; rintro e w1 ⟨rfl, b1⟩)
      | (go_at_call 16; refine (HF.out _).mono ?_; rintro e w2 ⟨rfl, rfl⟩)
      | (go_at_call 18; refine (copy_any A n c xs _ hx (by omega) (ta.later b1)).mono ?_; rintro e w3 ⟨A3, c3, l3, rfl, k3, n3, e3, t3, b3⟩; have b13 := thenB b1 b3)
      | (go_at_call 17; refine (write_any A3 n c3 l3 _ n3 (by omega) k3 t3 (bytes_of e3 hb) (hT.1.below b13)).mono ?_; rw [e3]; rintro e w4 ⟨A4, c4, m4, rfl, hm4, hc4, j4, b4⟩; have b14 := thenB b13 b4)
      | (go_at_call 19; refine (rwrite_any A n c xs _ hx (by omega) hc (ta.later b14) hb).mono ?_; rintro e w5 ⟨A5, c5, m5, rfl, hm5, hc5, j5, b5⟩; have b15 := thenB b14 b5; have e45 : m5 = m4 := hm5.symm.trans hm4; subst e45; have i4 := later j4 b5; have k1 := run_string_ints (P := Tryd.prog) 32 5 Tryd.underlying32 Tryd.underlying5 Tryd.underlying9 w5.heap.size A4 m5 c4 _ hm4 i4; have k2 := run_string_ints (P := Tryd.prog) 32 5 Tryd.underlying32 Tryd.underlying5 Tryd.underlying9 w5.heap.size A5 m5 c5 _ hm5 j5; clear i4 j4 j5 hm4 hm5))
    go_ret
    exact ⟨by simp, b15⟩
  · have hd : decide ((n : Int) ≤ 64) = false := by simpa using c64
    have HF : Hid (∀ w', Calls Tryd.prog 16 #[.slice A n c] w' fun e w2 => e = .returned (.bool false) ∧ w' = w2) := Lib.hid fun w' => hd ▸ few_any A n c w'
    clear hd
    go_enter Tryd.func4, Tryd.ntmps4
    go_wp2_with (first
      | (go_at_call 9; refine HL.out.mono ?_; rintro e w1 ⟨rfl, b1⟩)
      | (go_at_call 16; refine (HF.out _).mono ?_; rintro e w2 ⟨rfl, rfl⟩))
    go_ret
    exact ⟨rfl, b1⟩
end Go.Proofs.YtkbhmgdmkamcfaaDoor.Cap
