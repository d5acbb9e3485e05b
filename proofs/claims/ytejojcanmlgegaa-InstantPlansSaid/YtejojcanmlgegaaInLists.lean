/- Changes at instants: lists of changes, copies and sameness: contracts over the program. -/
import Derived.Test.YtejojcanmlgegaaInWalks
set_option linter.unusedVariables false
set_option linter.unusedSimpArgs false
namespace Go.Proofs.Ytejojcanmlgegaa.Nst
open Go.RowKit Mem Rw Base

theorem info_ch : (Try.prog.info? 31).map (fun i => (i.zero, i.size, i.bytes)) = some (some (.agg (encX ⟨0, 0, 0, 0, 0, 0, 0, 0⟩)), 8, 64) := by kernel_rfl
theorem info_parts2 {P : Program} {e : TypeId} {z : Value} {s b : Nat} (h : (P.info? e).map (fun i => (i.zero, i.size, i.bytes)) = some (some z, s, b)) (hz : z.cells.size = s) : ∃ i, P.info? e = some i ∧ i.zero = some z ∧ i.size = s ∧ i.bytes = b ∧ z.cells.size = s := by
  cases hq : P.info? e with
  | none => rw [hq] at h; cases h
  | some i =>
    rw [hq] at h
    simp only [Option.map_some, Option.some.injEq, Prod.mk.injEq] at h
    exact ⟨i, rfl, h.1, h.2.1, h.2.2, hz⟩
theorem own_capA {w : World} {A : Option Addr} {base : Nat} {e : TypeId} {n c k : Nat} {xs : List Value} (h : w.ownsRow base e k (.slice A n c) n xs) : n ≤ c := by
  rcases h.2 with ⟨hv, hn⟩ | ⟨g, cap, cur, hv, hbg, hg, hnc, hcm, hcs, htake⟩
  · injection hv with hA hn' hc; omega
  · injection hv with hA hn' hc; omega
theorem own_nil (w : World) (B : Nat) : w.ownsRow B 31 8 (.slice none 0 0) 0 [] := ⟨rfl, .inl ⟨rfl, rfl⟩⟩
/-- A call returns a list. -/
def Row (w w' : World) (e : Ending) (l : List Ch) : Prop := ∃ A c, e = .returned (.slice A l.length c) ∧ l.length ≤ c ∧ ListAt encH w' w'.heap.size A l ∧ Below w.heap.size w w'
/-- A call returns a list and an error. -/
def Pair (w w' : World) (e : Ending) (r : List Ch × Int) : Prop := ∃ A c, e = .returned (.tuple #[.slice A r.1.length c, .int .i64 r.2]) ∧ r.1.length ≤ c ∧ ListAt encH w' w'.heap.size A r.1 ∧ Below w.heap.size w w'
theorem Row.len {w w' : World} {e : Ending} {l : List Ch} {n : Nat} (h : Row w w' e l) (hn : l.length = n) : ∃ A c, e = .returned (.slice A n c) ∧ n ≤ c ∧ ListAt encH w' w'.heap.size A l ∧ Below w.heap.size w w' := by subst hn; exact h
theorem Pair.len {w w' : World} {e : Ending} {l : List Ch} {x : Int} {n : Nat} (h : Pair w w' e (l, x)) (hn : l.length = n) : ∃ A c, e = .returned (.tuple #[.slice A n c, .int .i64 x]) ∧ n ≤ c ∧ ListAt encH w' w'.heap.size A l ∧ Below w.heap.size w w' := by subst hn; exact h
theorem row_of {w w' : World} {e : Ending} {l : List Ch} {v : Value} {n B : Nat} (he : e = .returned v) (hn : l.length = n) (ho : w'.ownsRow B 31 8 v n (l.flatMap encH)) (hB : w.heap.size ≤ B) (hb : Below w.heap.size w w') : Row w w' e l := by
  obtain ⟨A, c, rfl⟩ := own_form ho
  subst hn
  exact ⟨A, c, he, own_capA ho, CellsAt.own ho, hb⟩
theorem pair_of {w w' : World} {e : Ending} {l : List Ch} {r : List Ch × Int} {x : Int} {v : Value} {n B : Nat} (hr : r = (l, x)) (he : e = .returned (.tuple #[v, .int .i64 x])) (hn : l.length = n) (ho : w'.ownsRow B 31 8 v n (l.flatMap encH)) (hB : w.heap.size ≤ B) (hb : Below w.heap.size w w') : Pair w w' e r := by
  obtain ⟨A, c, rfl⟩ := own_form ho
  subst hn; subst hr
  exact ⟨A, c, he, own_capA ho, CellsAt.own ho, hb⟩
theorem cells_at {w : World} {B : Nat} {A : Option Addr} {l : List Ch} (h : ListAt encH w B A l) (hl : 0 < l.length) :
    ∃ b off, A = some ⟨b, off, none⟩ ∧ b < B ∧ ∀ (j : Nat) x, l[j]? = some x → w.cell? ⟨b, off + j * 8, none⟩ = some (.int .i64 x.k) ∧ w.cell? ⟨b, off + j * 8 + 1, none⟩ = some (.int .u16 x.i) ∧ w.cell? ⟨b, off + j * 8 + 2, none⟩ = some (.int .i64 x.a) ∧ w.cell? ⟨b, off + j * 8 + 3, none⟩ = some (.int .i64 x.b) ∧ w.cell? ⟨b, off + j * 8 + 4, none⟩ = some (.int .i64 x.c) ∧ w.cell? ⟨b, off + j * 8 + 5, none⟩ = some (.int .i64 x.e) ∧ w.cell? ⟨b, off + j * 8 + 6, none⟩ = some (.int .i64 x.f) ∧ w.cell? ⟨b, off + j * 8 + 7, none⟩ = some (.int .u64 x.m) := by
  obtain ⟨b, off, e, hb, hc⟩ := h.open_ sizH (by omega) hl
  exact ⟨b, off, e, hb, fun j x hj => ⟨hc j x hj 0 _ rfl, hc j x hj 1 _ rfl, hc j x hj 2 _ rfl, hc j x hj 3 _ rfl, hc j x hj 4 _ rfl, hc j x hj 5 _ rfl, hc j x hj 6 _ rfl, hc j x hj 7 _ rfl⟩⟩
theorem quiet_b (w : World) (k : Nat) : Below w.heap.size w (w.drewN k) := ⟨rfl, rfl, rfl, Nat.le_refl _, fun _ _ => rfl⟩
theorem quiet_c (B : Nat) (w : World) (k : Nat) : Below B w (w.drewN k) := ⟨rfl, rfl, rfl, Nat.le_refl _, fun _ _ => rfl⟩
theorem ch_eq (k i a b c e f m : Int) (w : World) : (binOp .neq 31 (.agg #[.int .i64 k, .int .u16 i, .int .i64 a, .int .i64 b, .int .i64 c, .int .i64 e, .int .i64 f, .int .u64 m]) (.agg #[.int .i64 k, .int .u16 i, .int .i64 a, .int .i64 b, .int .i64 c, .int .i64 e, .int .i64 f, .int .u64 m])).run Try.prog w = .ok (.bool false) w := by
  go_simp
theorem ch_guard (k i a b c e f m : Int) (w : World) (x y : Operand) : (eqGuard .neq 31 x y (.agg #[.int .i64 k, .int .u16 i, .int .i64 a, .int .i64 b, .int .i64 c, .int .i64 e, .int .i64 f, .int .u64 m]) (.agg #[.int .i64 k, .int .u16 i, .int .i64 a, .int .i64 b, .int .i64 c, .int .i64 e, .int .i64 f, .int .u64 m])).run Try.prog w = .ok () w := by
  go_simp
theorem copied_any (A : Option Addr) (n c : Nat) (l : List Ch) (w : World) (hl : l.length = n) (hn : n ≤ 2199023255552) (hr : ListAt encH w w.heap.size A l) :
    Calls Try.prog 15 #[.slice A n c] w fun e w' => Row w w' e l := by
  obtain ⟨iE, hi, hz, hs, hb, hc0⟩ := info_parts2 info_ch rfl
  have hf := flat_lenH hl
  have ho := flat_oneH l
  have hr0 : CellsAt (w.alloc (.cells #[] 31)) w.heap.size A (l.flatMap encH) := CellsAt.alloc hr (Nat.le_refl _) _
  go_enter Try.func15, Try.ntmps15
  go_wp2_with (at_builtin; refine wpList_append_rows rfl _ _ 35 rfl w.heap.size 31 iE _ 8 64 Try.underlying35 hi hz hs hb hc0 (by decide) (.slice (some ⟨w.heap.size, 0, none⟩) 0 0) 0 [] rfl (World.ownsRow_made _ _ 0 (Nat.le_refl _) (by unfold maxLen; omega) rfl) w.heap.size A n c (l.flatMap encH) rfl hf ho hr0 (by unfold maxLen; omega) (by omega) (by simp) ?_; intro v1 w1 own1 b1 g1)
  go_ret
  exact row_of rfl hl (by simpa using own1) (Nat.le_refl _) (((Below.refl _ _).alloc (Nat.le_refl _) _).trans b1)
theorem clone_any (A : Option Addr) (n c : Nat) (l : List Ch) (w : World) (hl : l.length = n) (hn : n ≤ 2199023255552) (hr : ListAt encH w w.heap.size A l) :
    Calls Try.prog 24 #[.slice A n c] w fun e w' => Row w w' e l := by
  obtain ⟨iE, hi, hz, hs, hb, hc0⟩ := info_parts2 info_ch rfl
  have hf := flat_lenH hl
  have ho := flat_oneH l
  have hr0 : CellsAt (w.alloc (.cells #[] 31)) w.heap.size A (l.flatMap encH) := CellsAt.alloc hr (Nat.le_refl _) _
  have q22 : ∀ (w : World) (a : Option Addr) (n c n' c' : Nat), (binOp .eql 35 (.slice a n c) (.slice none n' c')).run Try.prog w = .ok (.bool a.isNone) w := fun w a n c n' c' => Lib.run_eql_slice_nil w _ _ a n c n' c' Try.underlying35
  cases A with
  | none =>
    have h0 : l = [] := by
      rcases hr with h | ⟨b, off, e, _⟩
      · cases l with
        | nil => rfl
        | cons x r => have := flat_len sizH (x :: r); rw [h] at this; simp at this
      · cases e
    subst h0
    obtain rfl : n = 0 := by simpa using hl.symm
    clear hf ho hr0 hr hl
    go_enter Try.func24, Try.ntmps24
    go_wp2_with fail
    go_ret
    exact ⟨none, 0, rfl, Nat.le_refl _, .inl rfl, Below.refl _ _⟩
  | some a =>
    clear hr
    go_enter Try.func24, Try.ntmps24
    go_wp2_with (at_builtin; refine wpList_append_rows rfl _ _ 35 rfl w.heap.size 31 iE _ 8 64 Try.underlying35 hi hz hs hb hc0 (by decide) (.slice (some ⟨w.heap.size, 0, none⟩) 0 0) 0 [] rfl (World.ownsRow_made _ _ 0 (Nat.le_refl _) (by unfold maxLen; omega) rfl) w.heap.size (some a) n c (l.flatMap encH) rfl hf ho hr0 (by unfold maxLen; omega) (by omega) (by simp) ?_; intro v1 w1 own1 b1 g1)
    go_ret
    exact row_of rfl hl (by simpa using own1) (Nat.le_refl _) (((Below.refl _ _).alloc (Nat.le_refl _) _).trans b1)
set_option maxHeartbeats 2000000 in
theorem same_yes (A A' : Option Addr) (n c c' : Nat) (l : List Ch) (w : World) (hl : l.length = n) (hn : n ≤ 2199023255552) (hr : ListAt encH w w.heap.size A l) (hr' : ListAt encH w w.heap.size A' l) :
    Calls Try.prog 17 #[.slice A n c, .slice A' n c'] w fun e w' => e = .returned (.bool true) ∧ Below w.heap.size w w' := by
  have HN := Lib.hid (fun j (h : j < n) => has hl h)
  have HO : Hid (∀ w', Below w.heap.size w w' → 0 < n → _) := Lib.hid fun w' hb h0 => cells_at (CellsAt.below hr hb) (by omega)
  have HO' : Hid (∀ w', Below w.heap.size w w' → 0 < n → _) := Lib.hid fun w' hb h0 => cells_at (CellsAt.below hr' hb) (by omega)
  clear hl hr hr'
  go_enter Try.func17, Try.ntmps17
  go_wp2_with fail
  go_loopw [5] (fun s5 wr => ∃ j : Nat, j ≤ n ∧ s5 = .int .i64 j ∧ Below w.heap.size w wr) (fun s5 _ => n - (intOf s5).toNat)
  case atStart => exact ⟨0, by omega, rfl, Below.refl _ _⟩
  case round =>
    obtain ⟨j, hj, rfl, hbel⟩ := hrel
    by_cases cj : j < n
    · obtain ⟨x, hxj, hxm⟩ := HN.out j cj
      obtain ⟨b, off, rfl, hbl, hc⟩ := HO.out _ hbel (by omega)
      obtain ⟨b', off', rfl, hbl', hc'⟩ := HO'.out _ hbel (by omega)
      obtain ⟨h0, h1, h2, h3, h4, h5, h6, h7⟩ := hc j x hxj
      obtain ⟨m0, m1, m2, m3, m4, m5, m6, m7⟩ := hc' j x hxj
      obtain ⟨y0, y1, y2, y3, y4, y5, y6, y7⟩ := x
      simp only at h0 h1 h2 h3 h4 h5 h6 h7 m0 m1 m2 m3 m4 m5 m6 m7
      have q1 := ch_eq y0 y1 y2 y3 y4 y5 y6 y7
      have q2 := ch_guard y0 y1 y2 y3 y4 y5 y6 y7
      have g1 : (0 : Int) ≤ (j : Int) ∧ (j : Int) < (n : Int) := by omega
      clear hc hc' hxj hxm
      go_wp2_with fail
      go_quiet (fail)
      go_wp2_with fail
      go_roundw
      case rel => exact ⟨j + 1, by omega, by go_num, hbel.trans (quiet_c _ _ _)⟩
      case measure => simp [intOf]; omega
    · obtain rfl : j = n := by omega
      go_wp2_with fail
      go_ret
      exact ⟨rfl, hbel⟩
end Go.Proofs.Ytejojcanmlgegaa.Nst
