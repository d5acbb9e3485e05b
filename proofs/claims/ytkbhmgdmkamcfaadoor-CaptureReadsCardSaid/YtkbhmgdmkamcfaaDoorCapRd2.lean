/- How many bytes the next record has: where there are enough, and it is not too long. -/
import Derived.Test.YtkbhmgdmkamcfaaDoorCapDec
import Derived.WalkLawsBesides
set_option linter.unusedVariables false
set_option linter.unusedSimpArgs false
namespace Go.Proofs.YtkbhmgdmkamcfaaDoor.Cap
open Go.RowKit Mem Rw Air Base Oct

theorem ints_take {k : IntKind} {w : World} {B : Nat} {A : Option Addr} {zs : List Int} (h : Ints k w B A zs) (m : Nat) : Ints k w B A (zs.take m) := by
  rcases h with h | ⟨b, off, e, hlt, hc⟩
  · left; rw [h]; simp
  · refine .inr ⟨b, off, e, hlt, fun j hj => ?_⟩
    rw [List.length_take] at hj
    rw [hc j (by omega)]
    simp [List.getD, List.getElem?_take, show j < m by omega]
/-- The length that the bytes of a record name. -/
def lenZ (zs : List Int) : Int := wrap64 (nmZ zs 4)
/-- A call that ends in a panic with an error. -/
abbrev panE (c : Int) : Ending := .panicked [{ v := .iface 30 (.int .i64 c), recovered := false }]
theorem stop_err (c : Int) (w : World) (hc : c ≠ 0) : Calls Tryd.prog 61 #[.int .i64 c] w fun e w' => e = panE c ∧ w = w' := by
  go_enter Tryd.func61, Tryd.ntmps61
  go_wp2_with fail
  exact ⟨rfl, rfl, rfl⟩
theorem next_short (g n c m : Nat) (A : Option Addr) (k : Int) (rs : Value) (w : World) (h : Rdr w g A n c k rs) (hm : n < m) (hn : n ≤ c) (hc : c ≤ 9223372036854775807) :
    Calls Tryd.prog 60 #[.pointer (some ⟨g, 0, none⟩), .int .i64 (m : Int)] w fun e w' => e = panE 3 ∧ w = w' := by
  obtain ⟨h0, h1, h2, h3, h4, h5⟩ := rdr_cells h
  have g1 : (n : Int) < (m : Int) ∧ n < m := by omega
  have HS := Lib.hid (stop_err 3 w (by decide))
  clear h
  go_enter Tryd.func60, Tryd.ntmps60
  go_wp2_with (go_at_call 61; refine HS.out.mono ?_; rintro e w1 ⟨rfl, rfl⟩)
  exact ⟨rfl, rfl, rfl⟩
theorem len_ok (g n c : Nat) (A : Option Addr) (k : Int) (rs : Value) (zs : List Int) (w : World) (h : Rdr w g A n c k rs) (hz : zs.length = n) (h13 : 13 ≤ n) (hnc : n ≤ c) (hc : c ≤ 9223372036854775807) (bz : Bytes zs) (hi : Ints .u8 w w.heap.size A zs) (hlen : lenZ (zs.take 13) ≤ 260) :
    Calls Tryd.prog 63 #[.pointer (some ⟨g, 0, none⟩)] w fun e w' => e = .returned (.int .i64 (lenZ (zs.take 13))) ∧ Below w.heap.size w w' := by
  have HN : Hid (Calls Tryd.prog 60 #[.pointer (some ⟨g, 0, none⟩), .int .i64 13] w fun e w' => e = .returned (.slice A 13 c) ∧ w = w') := Lib.hid (next_ok g n c 13 A k rs w h h13 hnc hc)
  have HTk : Hid (∀ (w' : World) (A' : Option Addr), Below w.heap.size w w' → Ints .i64 w' w'.heap.size A' [8, 1, 1, 1, 2] → Calls Tryd.prog 81 #[.slice A 13 c, .slice A' 5 5] w' fun e w2 => ∃ b1 o1 c1 bA bc, e = .returned (.tuple #[.slice (some ⟨b1, o1, none⟩) 5 c1, .slice bA 0 bc, .int .i64 0]) ∧
      w2.cell? ⟨b1, o1 + 4, none⟩ = some (.int .u64 (nmZ (zs.take 13) 4)) ∧ Below w'.heap.size w' w2) := Lib.hid fun w' A' bx hA => by
    have hl : (zs.take 13).length = 13 := by rw [List.length_take]; omega
    refine (Oct.take_any A A' 13 5 c 5 (zs.take 13) [8, 1, 1, 1, 2] w' hl rfl (by omega) (by omega) (by decide) (bytes_take bz 13) (by intro z hz; simp at hz; rcases hz with rfl | rfl | rfl <;> decide) (later (ints_take hi 13) bx) hA).mono ?_
    rintro e w2 ⟨A1, c1, bA, bc, he, o1, o2, hb⟩
    rw [take13 (by omega)] at he o1 o2
    simp only [List.length_drop, hl] at he o1 o2
    rw [nums5] at he o1
    have hI := Ints.own o1
    rcases hI with hI | ⟨b, off, rfl, hlt, hc⟩
    · cases hI
    · exact ⟨b, off, c1, bA, bc, he, hc 4 (by show 4 < 5; omega), hb⟩
  unfold lenZ at hlen ⊢
  generalize nmZ (zs.take 13) 4 = u at *
  have B0 : Below w.heap.size w (w.alloc (.cells #[.int .i64 8, .int .i64 1, .int .i64 1, .int .i64 1, .int .i64 2] 3)) := (Below.refl _ w).alloc (Nat.le_refl _) _
  have hI5 : Ints .i64 (w.alloc (.cells #[.int .i64 8, .int .i64 1, .int .i64 1, .int .i64 1, .int .i64 2] 3)) (w.alloc (.cells #[.int .i64 8, .int .i64 1, .int .i64 1, .int .i64 1, .int .i64 2] 3)).heap.size (some ⟨w.heap.size, 0, none⟩) [8, 1, 1, 1, 2] := lit1 .i64 w [8, 1, 1, 1, 2] #[.int .i64 8, .int .i64 1, .int .i64 1, .int .i64 1, .int .i64 2] 3 rfl
  have gl : ¬ (260 : Int) < wrap64 u := by omega
  clear h hz bz hi hlen
  go_enter Tryd.func63, Tryd.ntmps63
  go_wp2_with (go_at_call 60; refine HN.out.mono ?_; rintro e w1 ⟨rfl, rfl⟩)
  generalize w.alloc (.cells #[.int .i64 8, .int .i64 1, .int .i64 1, .int .i64 1, .int .i64 2] 3) = W at *
  go_at_call 81
  refine (HTk.out _ _ B0 hI5).mono ?_
  rintro e V ⟨b1, o1, c1, bA, bc, rfl, m4, bV⟩
  have BV := thenB B0 bV
  go_wp2_with fail
  go_ret
  exact ⟨rfl, BV⟩
theorem len_long (g n c : Nat) (A : Option Addr) (k : Int) (rs : Value) (zs : List Int) (w : World) (h : Rdr w g A n c k rs) (hz : zs.length = n) (h13 : 13 ≤ n) (hnc : n ≤ c) (hc : c ≤ 9223372036854775807) (bz : Bytes zs) (hi : Ints .u8 w w.heap.size A zs) (hlen : ¬ lenZ (zs.take 13) ≤ 260) :
    Calls Tryd.prog 63 #[.pointer (some ⟨g, 0, none⟩)] w fun e w' => e = panE 4 ∧ Below w.heap.size w w' := by
  have HN : Hid (Calls Tryd.prog 60 #[.pointer (some ⟨g, 0, none⟩), .int .i64 13] w fun e w' => e = .returned (.slice A 13 c) ∧ w = w') := Lib.hid (next_ok g n c 13 A k rs w h h13 hnc hc)
  have HTk : Hid (∀ (w' : World) (A' : Option Addr), Below w.heap.size w w' → Ints .i64 w' w'.heap.size A' [8, 1, 1, 1, 2] → Calls Tryd.prog 81 #[.slice A 13 c, .slice A' 5 5] w' fun e w2 => ∃ b1 o1 c1 bA bc, e = .returned (.tuple #[.slice (some ⟨b1, o1, none⟩) 5 c1, .slice bA 0 bc, .int .i64 0]) ∧
      w2.cell? ⟨b1, o1 + 4, none⟩ = some (.int .u64 (nmZ (zs.take 13) 4)) ∧ Below w'.heap.size w' w2) := Lib.hid fun w' A' bx hA => by
    have hl : (zs.take 13).length = 13 := by rw [List.length_take]; omega
    refine (Oct.take_any A A' 13 5 c 5 (zs.take 13) [8, 1, 1, 1, 2] w' hl rfl (by omega) (by omega) (by decide) (bytes_take bz 13) (by intro z hz; simp at hz; rcases hz with rfl | rfl | rfl <;> decide) (later (ints_take hi 13) bx) hA).mono ?_
    rintro e w2 ⟨A1, c1, bA, bc, he, o1, o2, hb⟩
    rw [take13 (by omega)] at he o1 o2
    simp only [List.length_drop, hl] at he o1 o2
    rw [nums5] at he o1
    have hI := Ints.own o1
    rcases hI with hI | ⟨b, off, rfl, hlt, hc⟩
    · cases hI
    · exact ⟨b, off, c1, bA, bc, he, hc 4 (by show 4 < 5; omega), hb⟩
  unfold lenZ at hlen
  generalize nmZ (zs.take 13) 4 = u at *
  have B0 : Below w.heap.size w (w.alloc (.cells #[.int .i64 8, .int .i64 1, .int .i64 1, .int .i64 1, .int .i64 2] 3)) := (Below.refl _ w).alloc (Nat.le_refl _) _
  have hI5 : Ints .i64 (w.alloc (.cells #[.int .i64 8, .int .i64 1, .int .i64 1, .int .i64 1, .int .i64 2] 3)) (w.alloc (.cells #[.int .i64 8, .int .i64 1, .int .i64 1, .int .i64 1, .int .i64 2] 3)).heap.size (some ⟨w.heap.size, 0, none⟩) [8, 1, 1, 1, 2] := lit1 .i64 w [8, 1, 1, 1, 2] #[.int .i64 8, .int .i64 1, .int .i64 1, .int .i64 1, .int .i64 2] 3 rfl
  have gl : (260 : Int) < wrap64 u := by omega
  clear h hz bz hi hlen
  go_enter Tryd.func63, Tryd.ntmps63
  go_wp2_with (go_at_call 60; refine HN.out.mono ?_; rintro e w1 ⟨rfl, rfl⟩)
  generalize w.alloc (.cells #[.int .i64 8, .int .i64 1, .int .i64 1, .int .i64 1, .int .i64 2] 3) = W at *
  go_at_call 81
  refine (HTk.out _ _ B0 hI5).mono ?_
  rintro e V ⟨b1, o1, c1, bA, bc, rfl, m4, bV⟩
  have BV := thenB B0 bV
  have HS := Lib.hid (stop_err 4 V (by decide))
  go_wp2_with (go_at_call 61; refine HS.out.mono ?_; rintro e w1 ⟨rfl, rfl⟩)
  exact ⟨rfl, rfl, BV⟩
theorem len_short (g n c : Nat) (A : Option Addr) (k : Int) (rs : Value) (w : World) (h : Rdr w g A n c k rs) (h13 : n < 13) (hnc : n ≤ c) (hc : c ≤ 9223372036854775807) :
    Calls Tryd.prog 63 #[.pointer (some ⟨g, 0, none⟩)] w fun e w' => e = panE 3 ∧ w = w' := by
  have HN : Hid (Calls Tryd.prog 60 #[.pointer (some ⟨g, 0, none⟩), .int .i64 13] w fun e w' => e = panE 3 ∧ w = w') := Lib.hid (next_short g n c 13 A k rs w h h13 hnc hc)
  clear h
  go_enter Tryd.func63, Tryd.ntmps63
  go_wp2_with (go_at_call 60; refine HN.out.mono ?_; rintro e w1 ⟨rfl, rfl⟩)
  exact ⟨rfl, rfl, rfl⟩
/-- The signature is not there. -/
theorem sig_short (g n c : Nat) (A : Option Addr) (k : Int) (rs : Value) (w : World) (h : Rdr w g A n c k rs) (h4 : n < 4) (hnc : n ≤ c) (hc : c ≤ 9223372036854775807) :
    Calls Tryd.prog 39 #[.pointer (some ⟨g, 0, none⟩)] w fun e w' => e = panE 3 ∧ w = w' := by
  have HN : Hid (Calls Tryd.prog 60 #[.pointer (some ⟨g, 0, none⟩), .int .i64 4] w fun e w' => e = panE 3 ∧ w = w') := Lib.hid (next_short g n c 4 A k rs w h h4 hnc hc)
  clear h
  go_enter Tryd.func39, Tryd.ntmps39
  go_wp2_with (go_at_call 60; refine HN.out.mono ?_; rintro e w1 ⟨rfl, rfl⟩)
  exact ⟨rfl, rfl, rfl⟩
set_option maxRecDepth 100000 in
theorem sig_bad (g n c b off : Nat) (k : Int) (rs : Value) (zs : List Int) (w : World) (h : Rdr w g (some ⟨b, off, none⟩) n c k rs) (hz : zs.length = n) (h4 : 4 ≤ n) (hn : n ≤ c) (hc : c ≤ 9223372036854775807) (bz : Bytes zs) (hi : Ints .u8 w w.heap.size (some ⟨b, off, none⟩) zs) (hs : zs.take 4 ≠ sigL) :
    Calls Tryd.prog 39 #[.pointer (some ⟨g, 0, none⟩)] w fun e w' => e = panE 2 ∧ w = w' := by
  have HN := Lib.hid (next_ok g n c 4 (some ⟨b, off, none⟩) k rs w h h4 hn hc)
  have HS := Lib.hid (stop_err 2 w (by decide))
  have hi4 := ints_take hi 4
  have k1 := run_string_ints (P := Tryd.prog) 32 5 Tryd.underlying32 Tryd.underlying5 Tryd.underlying9 w.heap.size (some ⟨b, off, none⟩) 4 c (zs.take 4) (by rw [List.length_take]; omega) hi4
  have hb : Bytes sigL := by intro z hz; simp [sigL] at hz; omega
  have k2 : (strOfNums sigL) = ⟨#[65, 73, 82, 49]⟩ := by decide
  have k3 : ((strOfNums (zs.take 4)).toList == (⟨#[65, 73, 82, 49]⟩ : ByteArray).toList) = false := by
    rw [← k2, str_eq (bytes_take bz 4) hb]; simp [hs]
  have k4 : (strOfNums (zs.take 4)).toList ≠ [65, 73, 82, 49] := fun e => by
    have e2 : (⟨#[65, 73, 82, 49]⟩ : ByteArray).toList = [65, 73, 82, 49] := by rw [ByteArray.toList_eq]
    rw [e, e2] at k3; cases k3
  have k5 : ((strOfNums (zs.take 4)).toList == [65, 73, 82, 49]) = false := beq_eq_false_iff_ne.2 k4
  generalize strOfNums (zs.take 4) = s at *
  clear hi hi4 hs hz h
  go_enter Tryd.func39, Tryd.ntmps39
  go_wp2_with (first
    | (go_at_call 60; refine HN.out.mono ?_; rintro e w1 ⟨rfl, rfl⟩)
    | (go_at_call 61; refine HS.out.mono ?_; rintro e w1 ⟨rfl, rfl⟩))
  exact ⟨rfl, rfl, rfl⟩
end Go.Proofs.YtkbhmgdmkamcfaaDoor.Cap
