/- The first time at which a clock shows something: contracts over the program. -/
import Derived.Test.YtmcpgnmkjebbjaaClkWalks2
set_option linter.unusedVariables false
set_option linter.unusedSimpArgs false
namespace Go.Proofs.Ytmcpgnmkjebbjaa.Clk
open Go.RowKit Mem

theorem reached_any (p s l t : Int) (bc bl : Nat) (w : World) (hb : bc < w.heap.size) (hl : bl < w.heap.size) (h0 : w.cell? ⟨bc, 0, none⟩ = some (.int .i64 p)) (h1 : w.cell? ⟨bc, 1, none⟩ = some (.int .i64 s)) (h2 : w.cell? ⟨bl, 0, none⟩ = some (.int .i64 l)) :
    Calls Try.prog 59 #[.int .i64 t, .pointer (some ⟨bc, 0, none⟩), .pointer (some ⟨bl, 0, none⟩)] w fun e w' => e = .returned (.bool (decide (l ≤ loc p s t))) ∧ Below w.heap.size w w' := by
  have HL := Lib.hid (local_any p s t)
  generalize loc p s t = V at *
  have f0 : w.drew.cell? ⟨bc, 0, none⟩ = some (.int .i64 p) := h0
  have f1 : w.drew.cell? ⟨bc, 1, none⟩ = some (.int .i64 s) := h1
  have f2 : w.drew.cell? ⟨bl, 0, none⟩ = some (.int .i64 l) := h2
  have hb' : bc < w.drew.heap.size := hb
  have hl' : bl < w.drew.heap.size := hl
  have B0 := (Below.refl w.heap.size w).drew
  clear h0 h1 h2
  go_enter Try.func59, Try.ntmps59
  go_wp2_with fail
  go_region_held3 (fun w' => w'.cell? ⟨bc, 0, none⟩ = some (.int .i64 p) ∧ w'.cell? ⟨bc, 1, none⟩ = some (.int .i64 s) ∧ w'.cell? ⟨bl, 0, none⟩ = some (.int .i64 l)) (first | exact ⟨g0, g1, g2⟩ | exact ⟨f0, f1, f2⟩) (first
    | (go_at_call 33; refine (HL.out _).mono ?_; rintro e w2 ⟨rfl, b2⟩; have g0 := (b2.cell (p := ⟨bc, 0, none⟩) hb').trans f0; have g1 := (b2.cell (p := ⟨bc, 1, none⟩) hb').trans f1; have g2 := (b2.cell (p := ⟨bl, 0, none⟩) hl').trans f2; have B3 := B0.trans b2))
  all_goals go_wp2
  all_goals go_ret
  all_goals exact ⟨rfl, B3⟩
set_option maxRecDepth 100000 in
theorem search_any (p s l : Int) (bc bl : Nat) (w : World) (hb : bc < w.heap.size) (hl : bl < w.heap.size) (h0 : w.cell? ⟨bc, 0, none⟩ = some (.int .i64 p)) (h1 : w.cell? ⟨bc, 1, none⟩ = some (.int .i64 s)) (h2 : w.cell? ⟨bl, 0, none⟩ = some (.int .i64 l)) :
    Calls Try.prog 60 #[.int .i64 1099511627776, .func (.func 59) #[] #[.pointer (some ⟨bc, 0, none⟩), .pointer (some ⟨bl, 0, none⟩)]] w fun e w' => (∃ r, e = .returned (.int .i64 r) ∧ First p s l r) ∧ Below w.heap.size w w' := by
  go_enter Try.func60, Try.ntmps60
  go_wp2
  go_loopw [5, 6] (fun s5 s6 wr => ∃ lo hi : Nat, s5 = .int .i64 lo ∧ s6 = .int .i64 hi ∧ lo ≤ hi ∧ hi ≤ 1099511627776 ∧ Below w.heap.size w wr ∧ Hid ((∀ t : Int, 0 ≤ t → t < lo → loc p s t < l) ∧ (hi < 1099511627776 → l ≤ loc p s hi))) (fun s5 s6 _ => ((intOf s6) - (intOf s5)).toNat)
  case atStart => exact ⟨0, 1099511627776, rfl, rfl, by omega, by omega, Below.refl _ _, Lib.hid ⟨fun t h h' => by omega, fun h => by omega⟩⟩
  case round =>
    obtain ⟨lo, hi, rfl, rfl, hlh, hhi, hB, H⟩ := hrel
    by_cases hlt : lo < hi
    · have hc := Lib.hid (reached_any p s l (((lo : Int) + hi) / 2) bc bl wr (Nat.lt_of_lt_of_le hb hB.size) (Nat.lt_of_lt_of_le hl hB.size) ((hB.cell (p := ⟨bc, 0, none⟩) hb).trans h0) ((hB.cell (p := ⟨bc, 1, none⟩) hb).trans h1) ((hB.cell (p := ⟨bl, 0, none⟩) hl).trans h2))
      have em : (((lo + hi) / 2 : Nat) : Int) = ((lo : Int) + hi) / 2 := by omega
      by_cases hp : l ≤ loc p s (((lo : Int) + hi) / 2)
      · have H2 : Hid ((∀ t : Int, 0 ≤ t → t < lo → loc p s t < l) ∧ ((lo + hi) / 2 < 1099511627776 → l ≤ loc p s (((lo + hi) / 2 : Nat) : Int))) := Lib.hid ⟨H.out.1, fun _ => by rw [em]; exact hp⟩
        rw [show decide (l ≤ loc p s (((lo : Int) + hi) / 2)) = true by simpa using hp] at hc
        clear hp h0 h1 h2
        go_wp2_with (go_at_call 59; refine hc.out.mono ?_; rintro e w2 ⟨rfl, b2⟩)
        go_roundw
        case rel => exact ⟨lo, (lo + hi) / 2, rfl, by rw [em], by omega, by omega, hB.trans (b2.mono hB.size), H2⟩
        case measure => simp [intOf]; omega
      · have H2 : Hid ((∀ t : Int, 0 ≤ t → t < ((lo + hi) / 2 + 1 : Nat) → loc p s t < l) ∧ (hi < 1099511627776 → l ≤ loc p s hi)) := Lib.hid ⟨fun t ht ht' => by
          have := loc_mono p s (t := t) (u := ((lo : Int) + hi) / 2) (by omega)
          omega, H.out.2⟩
        rw [show decide (l ≤ loc p s (((lo : Int) + hi) / 2)) = false by simpa using hp] at hc
        clear hp h0 h1 h2
        go_wp2_with (go_at_call 59; refine hc.out.mono ?_; rintro e w2 ⟨rfl, b2⟩)
        go_roundw
        case rel => exact ⟨(lo + hi) / 2 + 1, hi, by rw [← em]; go_num, rfl, by omega, hhi, hB.trans (b2.mono hB.size), H2⟩
        case measure => simp [intOf]; omega
    · obtain rfl : lo = hi := by omega
      have HF : Hid (First p s l lo) := Lib.hid ⟨by omega, by omega, H.out.1, fun h => H.out.2 (by omega)⟩
      clear H h0 h1 h2
      go_wp2
      go_ret
      exact ⟨⟨_, rfl, HF.out⟩, hB⟩
theorem real_any (p s l : Int) (w : World) :
    Calls Try.prog 32 #[.agg #[.int .i64 p, .int .i64 s], .int .i64 l] w fun e w' => (∃ r, e = .returned (.int .i64 r) ∧ First p s l r) ∧ Below w.heap.size w w' := by
  have hmf : ∀ (fn : Fn) (first cap : Array Value) (w : World), (Instr.makeFunc fn first cap).run Try.prog w = .ok (.func fn first cap) w := fun _ _ _ _ => rfl
  have F0 : Mem.Blk ((w.alloc (.cells #[.int .i64 p, .int .i64 s] 54)).alloc (.cells #[.int .i64 l] 3)) w.heap.size 54 #[.int .i64 p, .int .i64 s] := (Blk.fresh w _ #[.int .i64 p, .int .i64 s]).alloc _
  have G0 : Mem.Blk ((w.alloc (.cells #[.int .i64 p, .int .i64 s] 54)).alloc (.cells #[.int .i64 l] 3)) (w.heap.size + 1) 3 #[.int .i64 l] := by
    have := Blk.fresh (w.alloc (.cells #[.int .i64 p, .int .i64 s] 54)) 3 #[.int .i64 l]
    rwa [World.size_alloc] at this
  have hbel : Below w.heap.size w ((w.alloc (.cells #[.int .i64 p, .int .i64 s] 54)).alloc (.cells #[.int .i64 l] 3)) := ((Below.refl _ w).alloc (Nat.le_refl _) _).alloc (by simp) _
  go_enter Try.func32, Try.ntmps32
  go_wp2_with (go_at_call 60; refine (search_any p s l w.heap.size (w.heap.size + 1) _ F0.lt G0.lt (F0.cell 0) (F0.cell 1) (G0.cell 0)).mono ?_; rintro e w2 ⟨⟨r, rfl, hr⟩, b2⟩)
  go_ret
  exact ⟨⟨_, rfl, hr⟩, hbel.trans (b2.mono hbel.size)⟩
end Go.Proofs.Ytmcpgnmkjebbjaa.Clk
