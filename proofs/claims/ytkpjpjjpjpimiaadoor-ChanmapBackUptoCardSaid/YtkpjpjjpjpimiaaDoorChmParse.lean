/- Reading a map from a text: the pieces, a channel, a range: contracts over the program. -/
import Derived.Test.YtkpjpjjpjpimiaaDoorChmText
import Derived.Test.YtkpjpjjpjpimiaaDoorChmCheck
set_option linter.unusedVariables false
set_option linter.unusedSimpArgs false
namespace Go.Proofs.YtkpjpjjpjpimiaaDoor.Chm
open Go.RowKit Mem Base

/-- What the library's two errors hold. -/
structure Errs (w : World) : Prop where
  s : ∃ t p, w.cell? ⟨4, 0, none⟩ = some (.iface t p)
  r : ∃ t p, w.cell? ⟨5, 0, none⟩ = some (.iface t p)
theorem Errs.below {w w' : World} (h : Errs w) (hb : Below w.heap.size w w') : Errs w' := by
  obtain ⟨⟨t, p, h1⟩, ⟨t', p', h2⟩⟩ := h
  exact ⟨⟨t, p, (hb.cell (p := ⟨4, 0, none⟩) (World.block_lt_of_cell? _ _ h1)).trans h1⟩, ⟨t', p', (hb.cell (p := ⟨5, 0, none⟩) (World.block_lt_of_cell? _ _ h2)).trans h2⟩⟩
/-- The pieces between commas. -/
def pieces (s : ByteArray) : List ByteArray := Lib.splitB ⟨#[44]⟩ 0 (Lib.countB s ⟨#[44]⟩) s
theorem index_to (s : ByteArray) (c : UInt8) (w : World) : Calls Tryd.prog 67 #[.string s, .string ⟨#[c]⟩] w fun e w' => e = .returned (.int .i64 (Lib.indexB s ⟨#[c]⟩)) ∧ w' = w := by
  have := Tryd.strings_Index_one s c w
  rwa [← Lib.index_one] at this
theorem count_to (s : ByteArray) (c : UInt8) (w : World) : Calls Tryd.prog 66 #[.string s, .string ⟨#[c]⟩] w fun e w' => e = .returned (.int .i64 (Lib.countB s ⟨#[c]⟩ : Nat)) ∧ w' = w := by
  refine (Tryd.strings_Count_one s c w).mono fun e w' ⟨he, hw⟩ => ⟨?_, hw⟩
  rw [he]
  show _ = Ending.returned (Value.int .i64 ((Lib.count s.data.toList [c] : Nat) : Int))
  rw [Lib.count_one]
  rfl
theorem pieces_len (s : ByteArray) : (pieces s).length = Lib.countB s ⟨#[44]⟩ + 1 := Lib.splitB_all ⟨#[44]⟩ (by decide) 0 _ s rfl
theorem split_any (s : ByteArray) (w : World) (hs : s.size < 4294967281) :
    Calls Tryd.prog 44 #[.string s, .string ⟨#[44]⟩] w fun e w' => e = .returned (.slice (some ⟨w.heap.size, 0, none⟩) (pieces s).length (pieces s).length) ∧ w' = w.alloc (.cells ((pieces s).map Value.string).toArray 9) := by
  have hle := Lib.countB_le ⟨#[44]⟩ (by decide) s.size s (Nat.le_refl _)
  have hlen := pieces_len s
  have c := Any.strings_genSplit_core Tryd.lays221 (by kernel_rfl) s ⟨#[44]⟩ 0 (-1) (Lib.countB s ⟨#[44]⟩ + 1) w hs (by decide) (Nat.zero_le _) (fun x c _ => index_to x 44 _) (count_to s 44 w) (by decide) (by decide) (by rw [if_pos (by decide)]; omega)
  rw [Nat.add_sub_cancel] at c
  change Calls Tryd.prog 57 _ _ _ at c
  have e2 : Lib.cellsOf (pieces s) (Lib.countB s ⟨#[44]⟩ + 1) = ((pieces s).map Value.string).toArray := by rw [← hlen]; exact Lib.cellsOf_full _
  have c2 : Calls Tryd.prog 57 #[.string s, .string ⟨#[44]⟩, .int .i64 0, .int .i64 (-1)] w fun e w' => e = .returned (.slice (some ⟨w.heap.size, 0, none⟩) (pieces s).length (pieces s).length) ∧ w' = w.alloc (.cells ((pieces s).map Value.string).toArray 9) := by
    rw [← e2]
    have h3 : (Lib.splitB ⟨#[44]⟩ 0 (Lib.countB s ⟨#[44]⟩) s).length = Lib.countB s ⟨#[44]⟩ + 1 := hlen
    refine c.mono fun e w' ⟨h1, h2⟩ => ⟨?_, h2⟩
    rw [h1, hlen, h3]
  clear c e2 hlen hle
  generalize (pieces s).map Value.string = V at *
  generalize (pieces s).length = n at *
  go_enter Tryd.func44, Tryd.ntmps44
  go_wp2_with (go_at_call 57; refine c2.mono ?_; rintro e w' ⟨rfl, rfl⟩)
  go_ret
  exact ⟨rfl, rfl⟩
theorem lcut_any (s : ByteArray) (w : World) (hs : s.size ≤ 281474976710656) :
    Calls Tryd.prog 68 #[.string s, .string ⟨#[45]⟩] w fun e w' => e = .returned (.tuple #[.string ⟨(Lib.cut s.data.toList [45]).1.toArray⟩, .string ⟨(Lib.cut s.data.toList [45]).2.1.toArray⟩, .bool (Lib.cut s.data.toList [45]).2.2]) ∧ Below w.heap.size w w' := by
  have HI : Hid (∀ w, Calls Tryd.prog 76 #[.string s, .string ⟨#[45]⟩] w fun e w' => e = .returned (.int .i64 (Lib.indexB s ⟨#[45]⟩)) ∧ w = w') := Lib.hid fun w => by
    have := Tryd.stringslite_Index_one s 45 w
    rw [← Lib.index_one] at this
    exact this.mono fun e w' ⟨h1, h2⟩ => ⟨h1, h2.symm⟩
  rcases Lib.indexB_cases s ⟨#[45]⟩ with hix | ⟨i, hix, hroom⟩
  · obtain ⟨e1, e2, e3⟩ := Lib.cutB_miss s ⟨#[45]⟩ hix
    change (⟨(Lib.cut s.data.toList [45]).1.toArray⟩ : ByteArray) = s at e1
    change (⟨(Lib.cut s.data.toList [45]).2.1.toArray⟩ : ByteArray) = _ at e2
    change (Lib.cut s.data.toList [45]).2.2 = false at e3
    rw [e1, e2, e3]
    rw [hix] at HI
    go_enter Tryd.func68, Tryd.ntmps68
    go_wp2_with (go_at_call 76; refine (HI.out _).mono ?_; rintro e w' ⟨rfl, rfl⟩)
    go_ret3
    exact ⟨rfl, Below.refl _ _⟩
  · obtain ⟨e1, e2, e3⟩ := Lib.cutB_hit s ⟨#[45]⟩ i hix
    change (⟨(Lib.cut s.data.toList [45]).1.toArray⟩ : ByteArray) = _ at e1
    change (⟨(Lib.cut s.data.toList [45]).2.1.toArray⟩ : ByteArray) = _ at e2
    change (Lib.cut s.data.toList [45]).2.2 = true at e3
    rw [e1, e2, e3]
    rw [hix] at HI
    have hz : (⟨#[45]⟩ : ByteArray).size = 1 := rfl
    rw [hz] at hroom ⊢
    have c1 : (0 : Int) ≤ (i : Int) := by omega
    have c2 : (i : Int) ≤ (s.size : Int) := by omega
    have c3 : (0 : Int) ≤ (i : Int) + 1 := by omega
    have c4 : (i : Int) + 1 ≤ (s.size : Int) := by omega
    have q0 := Below.refl w.heap.size w
    go_enter Tryd.func68, Tryd.ntmps68
    go_wp2_with (go_at_call 76; refine (HI.out _).mono ?_; rintro e w' ⟨rfl, rfl⟩)
    go_region
    all_goals go_wp2
    all_goals go_ret3
    all_goals exact ⟨rfl, q0.drew⟩
theorem cut_any (s : ByteArray) (w : World) (hs : s.size ≤ 281474976710656) :
    Calls Tryd.prog 58 #[.string s, .string ⟨#[45]⟩] w fun e w' => e = .returned (.tuple #[.string ⟨(Lib.cut s.data.toList [45]).1.toArray⟩, .string ⟨(Lib.cut s.data.toList [45]).2.1.toArray⟩, .bool (Lib.cut s.data.toList [45]).2.2]) ∧ Below w.heap.size w w' := by
  have HI := Lib.hid fun w => lcut_any s w hs
  generalize (⟨(Lib.cut s.data.toList [45]).1.toArray⟩ : ByteArray) = A at *
  generalize (⟨(Lib.cut s.data.toList [45]).2.1.toArray⟩ : ByteArray) = B at *
  generalize (Lib.cut s.data.toList [45]).2.2 = C at *
  go_enter Tryd.func58, Tryd.ntmps58
  go_wp2_with (go_at_call 68; refine (HI.out _).mono ?_; rintro e w' ⟨rfl, hb⟩)
  go_ret3
  exact ⟨rfl, hb⟩
end Go.Proofs.YtkpjpjjpjpimiaaDoor.Chm
