/- Which transmission a receiver gets: its parts by the layer. -/
import Derived.Test.YtocmcjbhmjbmhaaAirDist4
import Derived.Test.YtocmcjbhmjbmhaaAirCopy
set_option linter.unusedVariables false
set_option linter.unusedSimpArgs false
namespace Go.Proofs.Ytocmcjbhmjbmhaa.Air
open Go.RowKit Mem Rw Base

/-- A transmission reaches a receiver. -/
def reachB (ls : List (Int × Int)) (l : Ln) (t : Tr) : Bool := (t.ch == l.ch && decide (l.st ≤ t.st) && decide (t.st < l.en)) && inR ls t.frm l.dev
theorem reaches_any (D i f h s d lh ls le : Int) (A J S TA : Option Addr) (n c nj cj ns cs m mc : Nat) (links : List (Int × Int)) (w : World) (hl : links.length = n) (hn : n ≤ 8796093022208) (hr : ListAt encP w w.heap.size A links) :
    Calls Try.prog 50 #[.agg #[.int .i64 D, .slice A n c, .slice J nj cj, .slice S ns cs], .agg #[.int .i64 i, .int .i64 f, .int .i64 h, .int .i64 s, .slice TA m mc], .agg #[.int .i64 d, .int .i64 lh, .int .i64 ls, .int .i64 le]] w fun e w' => e = .returned (.bool ((h == lh && decide (ls ≤ s) && decide (s < le)) && inR links f d)) ∧ Below w.heap.size w w' := by
  have HR := Lib.hid (fun (w' : World) (bb : Below w.heap.size w w') => inrange_any D f d A J S n c nj cj ns cs links w' hl hn (CellsAt.later hr bb))
  generalize inR links f d = r at *
  have B0 : Below w.heap.size w (((w.alloc (.cells #[.int .i64 D, .slice A n c, .slice J nj cj, .slice S ns cs] 34)).alloc (.cells #[.int .i64 i, .int .i64 f, .int .i64 h, .int .i64 s, .slice TA m mc] 24)).alloc (.cells #[.int .i64 d, .int .i64 lh, .int .i64 ls, .int .i64 le] 50)) := (((Below.refl _ w).alloc (Nat.le_refl _) _).alloc (by simp) _).alloc (by simp; omega) _
  have F0 : Four (((w.alloc (.cells #[.int .i64 D, .slice A n c, .slice J nj cj, .slice S ns cs] 34)).alloc (.cells #[.int .i64 i, .int .i64 f, .int .i64 h, .int .i64 s, .slice TA m mc] 24)).alloc (.cells #[.int .i64 d, .int .i64 lh, .int .i64 ls, .int .i64 le] 50)) w.heap.size D (.slice A n c) (.slice J nj cj) (.slice S ns cs) := four_of (((Blk.fresh w 34 #[.int .i64 D, .slice A n c, .slice J nj cj, .slice S ns cs]).alloc _).alloc _)
  have T0 : Five (((w.alloc (.cells #[.int .i64 D, .slice A n c, .slice J nj cj, .slice S ns cs] 34)).alloc (.cells #[.int .i64 i, .int .i64 f, .int .i64 h, .int .i64 s, .slice TA m mc] 24)).alloc (.cells #[.int .i64 d, .int .i64 lh, .int .i64 ls, .int .i64 le] 50)) (w.heap.size + 1) i f h s (.slice TA m mc) := by
    have := five_of (((Blk.fresh (w.alloc (.cells #[.int .i64 D, .slice A n c, .slice J nj cj, .slice S ns cs] 34)) 24 #[.int .i64 i, .int .i64 f, .int .i64 h, .int .i64 s, .slice TA m mc]).alloc (.cells #[.int .i64 d, .int .i64 lh, .int .i64 ls, .int .i64 le] 50)))
    simpa using this
  have L0 : Four (((w.alloc (.cells #[.int .i64 D, .slice A n c, .slice J nj cj, .slice S ns cs] 34)).alloc (.cells #[.int .i64 i, .int .i64 f, .int .i64 h, .int .i64 s, .slice TA m mc] 24)).alloc (.cells #[.int .i64 d, .int .i64 lh, .int .i64 ls, .int .i64 le] 50)) (w.heap.size + 1 + 1) d (.int .i64 lh) (.int .i64 ls) (.int .i64 le) := by
    have := four_of (Blk.fresh ((w.alloc (.cells #[.int .i64 D, .slice A n c, .slice J nj cj, .slice S ns cs] 34)).alloc (.cells #[.int .i64 i, .int .i64 f, .int .i64 h, .int .i64 s, .slice TA m mc] 24)) 50 #[.int .i64 d, .int .i64 lh, .int .i64 ls, .int .i64 le])
    simpa using this
  generalize hq1 : (h == lh) = q1 at *
  clear hr hl
  cases q1 with
  | false =>
    rw [Bool.false_and, Bool.false_and, Bool.false_and]
    go_enter Try.func50, Try.ntmps50
    go_wp2_with fail
    generalize (((w.alloc (.cells #[.int .i64 D, .slice A n c, .slice J nj cj, .slice S ns cs] 34)).alloc (.cells #[.int .i64 i, .int .i64 f, .int .i64 h, .int .i64 s, .slice TA m mc] 24)).alloc (.cells #[.int .i64 d, .int .i64 lh, .int .i64 ls, .int .i64 le] 50)) = W at *
    go_wp2_with fail
    go_ret
    exact ⟨rfl, B0⟩
  | true =>
    by_cases k1 : ls ≤ s
    · by_cases k2 : s < le
      · rw [decide_eq_true k1, decide_eq_true k2, Bool.true_and, Bool.true_and, Bool.true_and]
        go_enter Try.func50, Try.ntmps50
        go_wp2_with fail
        generalize (((w.alloc (.cells #[.int .i64 D, .slice A n c, .slice J nj cj, .slice S ns cs] 34)).alloc (.cells #[.int .i64 i, .int .i64 f, .int .i64 h, .int .i64 s, .slice TA m mc] 24)).alloc (.cells #[.int .i64 d, .int .i64 lh, .int .i64 ls, .int .i64 le] 50)) = W at *
        go_wp2_with (go_at_call 21; refine (HR.out _ B0).mono ?_; rintro e w1 ⟨rfl, b1⟩; have B1 := thenB B0 b1)
        go_ret
        exact ⟨rfl, B1⟩
      · rw [decide_eq_true k1, decide_eq_false k2, Bool.true_and, Bool.true_and, Bool.false_and]
        go_enter Try.func50, Try.ntmps50
        go_wp2_with fail
        generalize (((w.alloc (.cells #[.int .i64 D, .slice A n c, .slice J nj cj, .slice S ns cs] 34)).alloc (.cells #[.int .i64 i, .int .i64 f, .int .i64 h, .int .i64 s, .slice TA m mc] 24)).alloc (.cells #[.int .i64 d, .int .i64 lh, .int .i64 ls, .int .i64 le] 50)) = W at *
        go_wp2_with fail
        go_ret
        exact ⟨rfl, B0⟩
    · rw [decide_eq_false k1, Bool.true_and, Bool.false_and, Bool.false_and]
      go_enter Try.func50, Try.ntmps50
      go_wp2_with fail
      generalize (((w.alloc (.cells #[.int .i64 D, .slice A n c, .slice J nj cj, .slice S ns cs] 34)).alloc (.cells #[.int .i64 i, .int .i64 f, .int .i64 h, .int .i64 s, .slice TA m mc] 24)).alloc (.cells #[.int .i64 d, .int .i64 lh, .int .i64 ls, .int .i64 le] 50)) = W at *
      go_wp2_with fail
      go_ret
      exact ⟨rfl, B0⟩
theorem clone_any (A : Option Addr) (n c : Nat) (zs : List Int) (w : World) (hz : zs.length = n) (hn : n ≤ 140737488351232) (hr : Ints .u8 w w.heap.size A zs) :
    Calls Try.prog 51 #[.slice A n c] w fun e w' => ∃ A' c', e = .returned (.slice A' n c') ∧ n ≤ c' ∧ NewAt w' w.heap.size A' (zs.map (Value.int .u8)) ∧ Below w.heap.size w w' := by
  obtain ⟨i0, gi, gz, gs, gb⟩ := info_parts info_u8
  have hc := cells_ints hr
  have q22 : ∀ (w : World) (a : Option Addr) (n c n' c' : Nat), (binOp .eql 22 (.slice a n c) (.slice none n' c')).run Try.prog w = .ok (.bool a.isNone) w := fun w a n c n' c' => Lib.run_eql_slice_nil w _ _ a n c n' c' Try.underlying22
  have HL : Hid ((zs.map (Value.int .u8)).length = n * 1) := Lib.hid (by simp [hz])
  cases A with
  | none =>
    have h0 : zs = [] := by
      rcases hr with h | ⟨b, off, e, _⟩
      · exact h
      · cases e
    subst h0
    have hn0 : n = 0 := by simpa using hz.symm
    subst hn0
    go_enter Try.func51, Try.ntmps51
    go_wp2_with fail
    go_ret
    exact ⟨none, 0, rfl, Nat.le_refl _, .inl rfl, Below.refl _ _⟩
  | some a =>
    have B0 : Below w.heap.size w (w.alloc (.cells #[] 5)) := (Below.refl _ w).alloc (Nat.le_refl _) _
    have hc1 := CellsAt.below hc B0
    clear hr hc
    go_enter Try.func51, Try.ntmps51
    go_wp2_with (at_builtin; refine wpList_append_empty rfl (.tmp 5) (.tmp 6) 22 rfl 5 i0 _ 1 1 Try.underlying22 gi gz gs gb rfl (by decide) _ rfl w.heap.size (some a) n c (zs.map (Value.int .u8)) rfl HL.out (one_ints zs .u8) hc1 (by unfold maxLen; omega) (by omega) ?_; intro A1 c1 w1 l1 q1 b1)
    go_ret
    exact ⟨A1, c1, rfl, l1, q1.lower (by simp), B0.trans (b1.mono (by simp))⟩
end Go.Proofs.Ytocmcjbhmjbmhaa.Air
