/- The statements on accept lists, walked: what is added and removed. -/
import Derived.Test.YtegmknmbgifmjaaDoorAccLives
import Derived.Test.YtegmknmbgifmjaaDoorAccArgs
set_option linter.unusedVariables false
set_option linter.unusedSimpArgs false
namespace Go.Proofs.YtegmknmbgifmjaaDoor.Ace
open Go.RowKit Mem Rw Base Arg
open Prv (findZ Idents triples_below)

theorem two_below {w w' : World} {g : Nat} {x y : Value} (hs : w.cell? ⟨g, 0, none⟩ = some x ∧ w.cell? ⟨g, 1, none⟩ = some y) (b : Below w.heap.size w w') : w'.cell? ⟨g, 0, none⟩ = some x ∧ w'.cell? ⟨g, 1, none⟩ = some y :=
  ⟨(b.cell (p := ⟨g, 0, none⟩) (Prv.cell_lt hs.1)).trans hs.1, (b.cell (p := ⟨g, 1, none⟩) (Prv.cell_lt hs.1)).trans hs.2⟩

theorem add_len (l : List (Int × Int)) (a : Int × Int) : (addL l a).1.length ≤ l.length + 1 := by unfold addL; split <;> (try split) <;> (try split) <;> simp
theorem rem_len (l : List (Int × Int)) (a : Int × Int) : (remL l a).1.length ≤ l.length + 1 := by
  unfold remL; split
  · have := rem_le l a; simp; omega
  · simp
set_option maxHeartbeats 2000000 in
theorem law_adds (A : Option Addr) (c : Nat) (l : List (Int × Int)) (a1 a2 : Int) (w : World) (hr : ListAt encA w w.heap.size A l) (hg : ∀ x ∈ l, Rd.GoodA x) (hnc : l.length ≤ c) (hcb : c * 16 ≤ 140737488351232)
    (hk : -9223372036854775808 ≤ a1 ∧ a1 ≤ 9223372036854775807) (hb : 0 ≤ a2 ∧ a2 ≤ 18446744073709551615) (hT : Adr.Tab w) :
    Calls Tryd.prog 3 #[.slice A l.length c, .agg #[.int .i64 a1, .int .u64 a2]] w fun e w' => e = .returned (.bool true) ∧ Below w.heap.size w w' := by
  obtain ⟨n, hl⟩ : ∃ n, l.length = n := ⟨_, rfl⟩
  rw [hl] at hnc ⊢
  have hn : n ≤ 8796093022200 := by omega
  have A0 : Below w.heap.size w (w.alloc (.cells #[.int .i64 a1, .int .u64 a2] 25)) := (Below.refl _ _).alloc (Nat.le_refl _) _
  have F0 := Adr.box_new w a1 a2
  have T0 := hT.below A0
  have HLi := Lib.hid lives_any
  obtain ⟨m, x, hmx⟩ : ∃ m x, addL l (a1, a2) = (m, x) := ⟨_, _, rfl⟩
  obtain ⟨k, hmk⟩ : ∃ k, m.length = k := ⟨_, rfl⟩
  have hkn : k ≤ n + 1 := by
    have := add_len l (a1, a2)
    rw [hmx, hmk, hl] at this; omega
  have HCp : Hid (∀ w', Below w.heap.size w w' → Calls Tryd.prog 11 #[.slice A n c] w' fun e w2 => Row w' w2 e l) := Lib.hid fun w' b => copied_any A n c l w' hl (by omega) (CellsAt.later hr b)
  have HAd : Hid (∀ A' c' w', ListAt encA w' w'.heap.size A' l → Adr.Tab w' → Calls Tryd.prog 10 #[.slice A' n c', .agg #[.int .i64 a1, .int .u64 a2]] w' fun e w2 => Pair w' w2 e (m, x)) := Lib.hid fun A' c' w' h h2 => by
    rw [← hmx]; exact add_any A' n c' l a1 a2 w' hl hn h hk hb h2
  have HRa : Hid (∀ w', Below w.heap.size w w' → Calls Tryd.prog 12 #[.slice A n c, .agg #[.int .i64 a1, .int .u64 a2]] w' fun e w2 => Pair w' w2 e (m, x)) := Lib.hid fun w' b => by
    rw [← hmx]; exact radd_any A n c l a1 a2 w' hl hn (CellsAt.later hr b) hk hb
  have HSm : Hid (∀ A1 A2 c1 c2 w', ListAt encA w' w'.heap.size A1 m → ListAt encA w' w'.heap.size A2 m → Calls Tryd.prog 13 #[.slice A1 k c1, .slice A2 k c2] w' fun e w2 => e = .returned (.bool true) ∧ Below w'.heap.size w' w2) := Lib.hid fun A1 A2 c1 c2 w' h1 h2 => by
    have := same_any A1 A2 k k c1 c2 m m w' hmk hmk (by omega) (by omega) h1 h2
    simpa using this
  have HL := Lib.hid hl
  have HK := Lib.hid hmk
  clear hl hmk hmx hr hg hT
  by_cases h100 : 100 < n
  · have g1 : (100 : Int) < (n : Int) := by omega
    go_enter Tryd.func3, Tryd.ntmps3
    go_wp2_with fail
    generalize w.alloc (.cells #[.int .i64 a1, .int .u64 a2] 25) = W0 at *
    refine (HLi.out W0 T0).mono ?_
    rintro e W1 ⟨rfl, b1⟩
    go_wp2_with fail
    go_ret
    exact ⟨rfl, thenB A0 b1⟩
  · have g1 : ¬ (100 : Int) < (n : Int) := by omega
    go_enter Tryd.func3, Tryd.ntmps3
    go_wp2_with fail
    generalize w.alloc (.cells #[.int .i64 a1, .int .u64 a2] 25) = W0 at *
    refine (HLi.out W0 T0).mono ?_
    rintro e W1 ⟨rfl, b1⟩
    have B1 : Below w.heap.size w W1.drew := (thenB A0 b1).drew
    have F1 := F0.below b1
    have T1 : Adr.Tab W1.drew := T0.below b1.drew
    have s0 : W1.drew.cell? ⟨w.heap.size, 0, none⟩ = some (.int .i64 a1) ∧ W1.drew.cell? ⟨w.heap.size, 1, none⟩ = some (.int .u64 a2) := ⟨F1.c0, F1.c1⟩
    clear F0 A0 b1 F1 T0
    go_wp2_with fail
    go_region_held3 (fun w' => w'.cell? ⟨w.heap.size, 0, none⟩ = some (.int .i64 a1) ∧ w'.cell? ⟨w.heap.size, 1, none⟩ = some (.int .u64 a2)) (first | exact s2 | exact s1 | exact s0) (first
      | (go_at_call 10; refine (HAd.out _ _ _ L1 T2).mono ?_; intro e W3 h; obtain ⟨A2, c2, rfl, hc2, own2, b3⟩ := h.len HK.out; have s2 := two_below s1 b3; have B3 := thenB B2 b3; have L2 : ListAt encA W3 W3.heap.size A2 m := CellsAt.own own2; clear h own2)
      | (go_at_call 11; refine (HCp.out _ B1).mono ?_; intro e W2 h; obtain ⟨A1, c1, rfl, hc1, own1, b2⟩ := h.len HL.out; have s1 := two_below s0 b2; have B2 := thenB B1 b2; have L1 : ListAt encA W2 W2.heap.size A1 l := CellsAt.own own1; have T2 := T1.below b2; clear h own1))
    all_goals
      obtain ⟨d0, d1⟩ := s2
      go_wp2_with fail
      refine (HRa.out _ B3).mono ?_
      intro e W4 h
      obtain ⟨A3, c3, rfl, hc3, own3, b4⟩ := h.len HK.out
      have B4 := thenB B3 b4
      have L3 : ListAt encA W4 W4.heap.size A3 m := CellsAt.own own3
      have L4 := CellsAt.later L2 b4
      clear h own3
      go_wp2_with fail
      refine (HSm.out _ _ _ _ W4 L4 L3).mono ?_
      rintro e W5 ⟨rfl, b5⟩
      go_wp2_with fail
      go_ret
      exact ⟨rfl, thenB B4 b5⟩
set_option maxHeartbeats 2000000 in
theorem law_removes (A : Option Addr) (c : Nat) (l : List (Int × Int)) (a1 a2 : Int) (w : World) (hr : ListAt encA w w.heap.size A l) (hg : ∀ x ∈ l, Rd.GoodA x) (hnc : l.length ≤ c) (hcb : c * 16 ≤ 140737488351232)
    (hk : -9223372036854775808 ≤ a1 ∧ a1 ≤ 9223372036854775807) (hb : 0 ≤ a2 ∧ a2 ≤ 18446744073709551615) (hT : Adr.Tab w) :
    Calls Tryd.prog 4 #[.slice A l.length c, .agg #[.int .i64 a1, .int .u64 a2]] w fun e w' => e = .returned (.bool true) ∧ Below w.heap.size w w' := by
  obtain ⟨n, hl⟩ : ∃ n, l.length = n := ⟨_, rfl⟩
  rw [hl] at hnc ⊢
  have hn : n ≤ 8796093022200 := by omega
  have A0 : Below w.heap.size w (w.alloc (.cells #[.int .i64 a1, .int .u64 a2] 25)) := (Below.refl _ _).alloc (Nat.le_refl _) _
  have F0 := Adr.box_new w a1 a2
  have T0 := hT.below A0
  have HLi := Lib.hid lives_any
  obtain ⟨m, x, hmx⟩ : ∃ m x, remL l (a1, a2) = (m, x) := ⟨_, _, rfl⟩
  obtain ⟨k, hmk⟩ : ∃ k, m.length = k := ⟨_, rfl⟩
  have hkn : k ≤ n + 1 := by
    have := rem_len l (a1, a2)
    rw [hmx, hmk, hl] at this; omega
  have HCp : Hid (∀ w', Below w.heap.size w w' → Calls Tryd.prog 11 #[.slice A n c] w' fun e w2 => Row w' w2 e l) := Lib.hid fun w' b => copied_any A n c l w' hl (by omega) (CellsAt.later hr b)
  have HAd : Hid (∀ A' c' w', ListAt encA w' w'.heap.size A' l → Calls Tryd.prog 14 #[.slice A' n c', .agg #[.int .i64 a1, .int .u64 a2]] w' fun e w2 => Pair w' w2 e (m, x)) := Lib.hid fun A' c' w' h => by
    rw [← hmx]; exact remove_any A' n c' l a1 a2 w' hl hn h
  have HRa : Hid (∀ w', Below w.heap.size w w' → Calls Tryd.prog 15 #[.slice A n c, .agg #[.int .i64 a1, .int .u64 a2]] w' fun e w2 => Pair w' w2 e (m, x)) := Lib.hid fun w' b => by
    rw [← hmx]; exact rremove_any A n c l a1 a2 w' hl hn (CellsAt.later hr b)
  have HSm : Hid (∀ A1 A2 c1 c2 w', ListAt encA w' w'.heap.size A1 m → ListAt encA w' w'.heap.size A2 m → Calls Tryd.prog 13 #[.slice A1 k c1, .slice A2 k c2] w' fun e w2 => e = .returned (.bool true) ∧ Below w'.heap.size w' w2) := Lib.hid fun A1 A2 c1 c2 w' h1 h2 => by
    have := same_any A1 A2 k k c1 c2 m m w' hmk hmk (by omega) (by omega) h1 h2
    simpa using this
  have HL := Lib.hid hl
  have HK := Lib.hid hmk
  clear hl hmk hmx hr hg hT
  by_cases h100 : 100 < n
  · have g1 : (100 : Int) < (n : Int) := by omega
    go_enter Tryd.func4, Tryd.ntmps4
    go_wp2_with fail
    generalize w.alloc (.cells #[.int .i64 a1, .int .u64 a2] 25) = W0 at *
    refine (HLi.out W0 T0).mono ?_
    rintro e W1 ⟨rfl, b1⟩
    go_wp2_with fail
    go_ret
    exact ⟨rfl, thenB A0 b1⟩
  · have g1 : ¬ (100 : Int) < (n : Int) := by omega
    go_enter Tryd.func4, Tryd.ntmps4
    go_wp2_with fail
    generalize w.alloc (.cells #[.int .i64 a1, .int .u64 a2] 25) = W0 at *
    refine (HLi.out W0 T0).mono ?_
    rintro e W1 ⟨rfl, b1⟩
    have B1 : Below w.heap.size w W1.drew := (thenB A0 b1).drew
    have F1 := F0.below b1
    have T1 : Adr.Tab W1.drew := T0.below b1.drew
    have s0 : W1.drew.cell? ⟨w.heap.size, 0, none⟩ = some (.int .i64 a1) ∧ W1.drew.cell? ⟨w.heap.size, 1, none⟩ = some (.int .u64 a2) := ⟨F1.c0, F1.c1⟩
    clear F0 A0 b1 F1 T0
    go_wp2_with fail
    go_region_held3 (fun w' => w'.cell? ⟨w.heap.size, 0, none⟩ = some (.int .i64 a1) ∧ w'.cell? ⟨w.heap.size, 1, none⟩ = some (.int .u64 a2)) (first | exact s2 | exact s1 | exact s0) (first
      | (go_at_call 14; refine (HAd.out _ _ _ L1).mono ?_; intro e W3 h; obtain ⟨A2, c2, rfl, hc2, own2, b3⟩ := h.len HK.out; have s2 := two_below s1 b3; have B3 := thenB B2 b3; have L2 : ListAt encA W3 W3.heap.size A2 m := CellsAt.own own2; clear h own2)
      | (go_at_call 11; refine (HCp.out _ B1).mono ?_; intro e W2 h; obtain ⟨A1, c1, rfl, hc1, own1, b2⟩ := h.len HL.out; have s1 := two_below s0 b2; have B2 := thenB B1 b2; have L1 : ListAt encA W2 W2.heap.size A1 l := CellsAt.own own1; clear h own1))
    all_goals
      obtain ⟨d0, d1⟩ := s2
      go_wp2_with fail
      refine (HRa.out _ B3).mono ?_
      intro e W4 h
      obtain ⟨A3, c3, rfl, hc3, own3, b4⟩ := h.len HK.out
      have B4 := thenB B3 b4
      have L3 : ListAt encA W4 W4.heap.size A3 m := CellsAt.own own3
      have L4 := CellsAt.later L2 b4
      clear h own3
      go_wp2_with fail
      refine (HSm.out _ _ _ _ W4 L4 L3).mono ?_
      rintro e W5 ⟨rfl, b5⟩
      go_wp2_with fail
      go_ret
      exact ⟨rfl, thenB B4 b5⟩
end Go.Proofs.YtegmknmbgifmjaaDoor.Ace
