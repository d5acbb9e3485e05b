/- Whether two devices are in range: the program's answer and the document's. -/
import Derived.Test.YtocmcjbhmjbmhaaAirWalks
set_option linter.unusedVariables false
set_option linter.unusedSimpArgs false
namespace Go.Proofs.Ytocmcjbhmjbmhaa.Air
open Go.RowKit Mem Rw Base

/-- The place of the first that has a property, counted from k; -1 if there is none. -/
def fi {α : Type} (P : α → Bool) : List α → Nat → Int
  | [], _ => -1
  | x :: r, k => if P x then k else fi P r (k + 1)
theorem fi_any {α : Type} (P : α → Bool) (l : List α) (k : Nat) : decide (0 ≤ fi P l k) = l.any P := by
  induction l generalizing k with
  | nil => rfl
  | cons x r ih =>
    rw [fi, List.any_cons]
    cases h : P x with
    | true => simp
    | false => simp [ih]
theorem drop_at {α : Type} {l : List α} {k : Nat} {x : α} (h : l[k]? = some x) : l.drop k = x :: l.drop (k + 1) := by
  have hk : k < l.length := (List.getElem?_eq_some_iff.1 h).1
  rw [List.drop_eq_getElem_cons hk, (List.getElem?_eq_some_iff.1 h).2]
theorem fi_hit {α : Type} {P : α → Bool} {l : List α} {k : Nat} {x : α} {r : Int} (h : l[k]? = some x) (hP : P x = true) (he : fi P (l.drop k) k = r) : r = k := by
  rw [drop_at h, fi, if_pos hP] at he; exact he.symm
theorem fi_miss {α : Type} {P : α → Bool} {l : List α} {k : Nat} {x : α} {r : Int} (h : l[k]? = some x) (hP : P x = false) (he : fi P (l.drop k) k = r) : fi P (l.drop (k + 1)) (k + 1) = r := by
  rw [drop_at h, fi, hP] at he; exact he
theorem fi_end {α : Type} {P : α → Bool} {l : List α} {k : Nat} {r : Int} (h : l.length ≤ k) (he : fi P (l.drop k) k = r) : r = -1 := by
  rw [List.drop_eq_nil_of_le h] at he; exact he.symm
theorem has {α : Type} {l : List α} {j n : Nat} (hn : l.length = n) (h : j < n) : ∃ x, l[j]? = some x ∧ x ∈ l := ⟨l[j]'(by omega), List.getElem?_eq_getElem (by omega), List.getElem_mem _⟩

theorem pair_eq (a b c d : Int) (w : World) : (binOp .eql 70 (.agg #[.int .i64 a, .int .i64 b]) (.agg #[.int .i64 c, .int .i64 d])).run Try.prog w = .ok (.bool (a == c && b == d)) w := by
  go_simp
  by_cases h1 : a = c
  · by_cases h2 : b = d <;> simp [h1, h2]
  · simp [h1]
theorem pair_guard (a b c d : Int) (w : World) (x y : Operand) : (eqGuard .eql 70 x y (.agg #[.int .i64 a, .int .i64 b]) (.agg #[.int .i64 c, .int .i64 d])).run Try.prog w = .ok () w := by
  go_simp
theorem cell_lt {w : World} {g i : Nat} {x : Value} (h : w.cell? ⟨g, i, none⟩ = some x) : g < w.heap.size := World.block_lt_of_cell? _ _ h
set_option maxHeartbeats 1000000 in
theorem index_any (A : Option Addr) (n c : Nat) (l : List (Int × Int)) (x y : Int) (w : World) (hl : l.length = n) (hn : n ≤ 8796093022208) (hr : ListAt encP w w.heap.size A l) :
    Calls Try.prog 59 #[.slice A n c, .agg #[.int .i64 x, .int .i64 y]] w fun e w' => e = .returned (.int .i64 (fi (fun p => p.1 == x && p.2 == y) l 0)) ∧ Below w.heap.size w w' := by
  have HN := Lib.hid (fun j (h : j < n) => has hl h)
  have HE : Hid (∀ j, n ≤ j → l.length ≤ j) := Lib.hid fun j h => by omega
  have HG : Hid (∀ (j : Nat) p, l[j]? = some p → (p.1 == x && p.2 == y) = true → ∀ r, fi (fun p => p.1 == x && p.2 == y) (l.drop j) j = r → r = j) := Lib.hid fun j p h hp r he => fi_hit h hp he
  have HM : Hid (∀ (j : Nat) p, l[j]? = some p → (p.1 == x && p.2 == y) = false → ∀ r, fi (fun p => p.1 == x && p.2 == y) (l.drop j) j = r → fi (fun p => p.1 == x && p.2 == y) (l.drop (j + 1)) (j + 1) = r) := Lib.hid fun j p h hp r he => fi_miss h hp he
  have HO : Hid (∀ w', Below w.heap.size w w' → 0 < n → ∃ b off, A = some ⟨b, off, none⟩ ∧ ∀ (j : Nat) p, l[j]? = some p → w'.cell? ⟨b, off + j * 2, none⟩ = some (.int .i64 p.1) ∧ w'.cell? ⟨b, off + j * 2 + 1, none⟩ = some (.int .i64 p.2)) := Lib.hid fun w' hb h0 => by
    obtain ⟨b, off, e, _, hc⟩ := ListAt.open_ (CellsAt.below hr hb) sizP (by decide) (by omega)
    exact ⟨b, off, e, fun j p hj => ⟨hc j p hj 0 _ rfl, hc j p hj 1 _ rfl⟩⟩
  have B0 : Below w.heap.size w (w.alloc (.cells #[.int .i64 x, .int .i64 y] 70)) := (Below.refl _ w).alloc (Nat.le_refl _) _
  have F := Blk.fresh w 70 #[.int .i64 x, .int .i64 y]
  have k0 := F.cell 0
  have k1 := F.cell 1
  generalize hr0 : fi (fun p => p.1 == x && p.2 == y) l 0 = r at *
  have hr1 : Hid (fi (fun p => p.1 == x && p.2 == y) (l.drop 0) 0 = r) := Lib.hid (by rw [List.drop_zero]; exact hr0)
  clear hl hr hr0
  go_enter Try.func59, Try.ntmps59
  go_wp2_with fail
  generalize w.alloc (.cells #[.int .i64 x, .int .i64 y] 70) = W at *
  go_loopw [5, 8] (fun _ s8 wr => ∃ j : Nat, j ≤ n ∧ s8 = .int .i64 j ∧ Hid (fi (fun p => p.1 == x && p.2 == y) (l.drop j) j = r) ∧ Below w.heap.size w wr ∧ wr.cell? ⟨w.heap.size, 0, none⟩ = some (.int .i64 x) ∧ wr.cell? ⟨w.heap.size, 1, none⟩ = some (.int .i64 y)) (fun _ s8 _ => n - (intOf s8).toNat)
  case atStart => exact ⟨0, by omega, rfl, hr1, B0, k0, k1⟩
  case round =>
    obtain ⟨j, hj, rfl, hno, hbel, k0, k1⟩ := hrel
    clear hr1 B0
    by_cases c1 : j < n
    · obtain ⟨p, hpj, _⟩ := HN.out j c1
      have hit := Lib.hid (HG.out j p hpj)
      have miss := Lib.hid (HM.out j p hpj)
      obtain ⟨b, off, rfl, hc⟩ := HO.out _ hbel (by omega)
      obtain ⟨h0, h1⟩ := hc j p hpj
      obtain ⟨p1, p2⟩ := p
      simp only at h0 h1
      have pe := pair_eq x y p1 p2
      have pg := pair_guard x y p1 p2
      have es : (x == p1 && y == p2) = (p1 == x && p2 == y) := by rw [Bool.beq_comm, Bool.beq_comm (a := y)]
      have hit' : Hid ((x == p1 && y == p2) = true → ∀ r, fi (fun p => p.1 == x && p.2 == y) (l.drop j) j = r → r = j) := Lib.hid (by rw [es]; exact hit.out)
      have miss' : Hid ((x == p1 && y == p2) = false → ∀ r, fi (fun p => p.1 == x && p.2 == y) (l.drop j) j = r → fi (fun p => p.1 == x && p.2 == y) (l.drop (j + 1)) (j + 1) = r) := Lib.hid (by rw [es]; exact miss.out)
      clear hc HN HE HG HM HO hpj es hit miss
      have g1 : (0 : Int) ≤ (j : Int) ∧ (j : Int) < (n : Int) := by omega
      generalize (x == p1 && y == p2) = Q at *
      go_wp2_with fail
      go_region
      cases Q with
      | true =>
        have e := Lib.hid (hit'.out rfl r hno.out)
        go_wp2_with fail
        go_ret
        exact ⟨Ser.ret_int e.out.symm, hbel.drew⟩
      | false =>
        have e := Lib.hid (miss'.out rfl r hno.out)
        go_wp2_with fail
        go_round
        case measure => simp [intOf]; omega
        case rel => exact ⟨j + 1, by omega, by go_num, e, hbel.drew, k0, k1⟩
    · have e := Lib.hid (fi_end (HE.out j (by omega)) hno.out)
      clear HN HE HG HM HO
      have : ¬ ((j : Int) < (n : Int)) := by omega
      go_wp2_with fail
      go_ret
      exact ⟨Ser.ret_int e.out.symm, hbel⟩
theorem contains_any (A : Option Addr) (n c : Nat) (l : List (Int × Int)) (x y : Int) (w : World) (hl : l.length = n) (hn : n ≤ 8796093022208) (hr : ListAt encP w w.heap.size A l) :
    Calls Try.prog 42 #[.slice A n c, .agg #[.int .i64 x, .int .i64 y]] w fun e w' => e = .returned (.bool (l.any fun p => p.1 == x && p.2 == y)) ∧ Below w.heap.size w w' := by
  have B0 : Below w.heap.size w (w.alloc (.cells #[.int .i64 x, .int .i64 y] 70)) := (Below.refl _ w).alloc (Nat.le_refl _) _
  have HI := Lib.hid (index_any A n c l x y (w.alloc (.cells #[.int .i64 x, .int .i64 y] 70)) hl hn (CellsAt.kept hr _))
  rw [← fi_any _ l 0]
  generalize fi (fun p => p.1 == x && p.2 == y) l 0 = r at *
  clear hr hl
  go_enter Try.func42, Try.ntmps42
  go_wp2_with (go_at_call 59; refine (HI.out).mono ?_; rintro e w1 ⟨rfl, b1⟩; have B1 := thenB B0 b1)
  go_ret
  exact ⟨rfl, B1⟩
abbrev Four (w : World) (g : Nat) (d : Int) (a b c : Value) : Prop := w.cell? ⟨g, 0, none⟩ = some (.int .i64 d) ∧ w.cell? ⟨g, 1, none⟩ = some a ∧ w.cell? ⟨g, 2, none⟩ = some b ∧ w.cell? ⟨g, 3, none⟩ = some c
theorem four_of {w : World} {g : Nat} {t : TypeId} {d : Int} {x y z : Value} (b : Blk w g t #[.int .i64 d, x, y, z]) : Four w g d x y z := ⟨b.cell 0, b.cell 1, b.cell 2, b.cell 3⟩
theorem Four.below {w w' : World} {g : Nat} {d : Int} {x y z : Value} (f : Four w g d x y z) (b : Below w.heap.size w w') : Four w' g d x y z :=
  have hg := World.block_lt_of_cell? _ _ f.1
  ⟨(b.cell (p := ⟨g, 0, none⟩) hg).trans f.1, (b.cell (p := ⟨g, 1, none⟩) hg).trans f.2.1, (b.cell (p := ⟨g, 2, none⟩) hg).trans f.2.2.1, (b.cell (p := ⟨g, 3, none⟩) hg).trans f.2.2.2⟩
theorem Four.dr {w w' : World} {g : Nat} {d : Int} {x y z : Value} (f : Four w g d x y z) (b : Below w.drew.heap.size w.drew w') : Four w' g d x y z := Four.below (w := w.drew) f b
theorem inrange_any (D x y : Int) (A J S : Option Addr) (n c nj cj ns cs : Nat) (l : List (Int × Int)) (w : World) (hl : l.length = n) (hn : n ≤ 8796093022208) (hr : ListAt encP w w.heap.size A l) :
    Calls Try.prog 21 #[.agg #[.int .i64 D, .slice A n c, .slice J nj cj, .slice S ns cs], .int .i64 x, .int .i64 y] w fun e w' => e = .returned (.bool (inR l x y)) ∧ Below w.heap.size w w' := by
  have B0 : Below w.heap.size w (w.alloc (.cells #[.int .i64 D, .slice A n c, .slice J nj cj, .slice S ns cs] 34)) := (Below.refl _ w).alloc (Nat.le_refl _) _
  have F0 := four_of (Blk.fresh w 34 #[.int .i64 D, .slice A n c, .slice J nj cj, .slice S ns cs])
  have H0 : Hid (∀ x y w', Below w.heap.size w w' → Calls Try.prog 42 #[.slice A n c, .agg #[.int .i64 x, .int .i64 y]] w' fun e w2 => e = .returned (.bool (l.any fun p => p.1 == x && p.2 == y)) ∧ Below w'.heap.size w' w2) := Lib.hid fun x y w' b => contains_any A n c l x y w' hl hn (CellsAt.later hr b)
  have H1 := Lib.hid (H0.out x y)
  have H2 := Lib.hid (H0.out y x)
  unfold inR
  clear H0
  generalize (l.any fun p => p.1 == x && p.2 == y) = r1 at *
  generalize (l.any fun p => p.1 == y && p.2 == x) = r2 at *
  clear hr hl
  cases r1 with
  | true =>
    go_enter Try.func21, Try.ntmps21
    go_wp2_with fail
    generalize w.alloc (.cells #[.int .i64 D, .slice A n c, .slice J nj cj, .slice S ns cs] 34) = W at *
    go_wp2_with (go_at_call_of 42 x; refine (H1.out _ B0).mono ?_; rintro e w1 ⟨rfl, b1⟩; have B1 := thenB B0 b1)
    go_ret
    exact ⟨rfl, B1⟩
  | false =>
    go_enter Try.func21, Try.ntmps21
    go_wp2_with fail
    generalize w.alloc (.cells #[.int .i64 D, .slice A n c, .slice J nj cj, .slice S ns cs] 34) = W at *
    refine (H1.out _ B0).mono ?_
    rintro e w1 ⟨rfl, b1⟩
    have B1 := thenB B0 b1
    have F1 := F0.below b1
    clear H1 F0 B0
    go_wp2_with (first | (go_at_call 42; refine (H2.out _ B1).mono ?_; rintro e w2 ⟨rfl, b2⟩; have B2 := thenB B1 b2))
    go_ret
    exact ⟨by simp, B2⟩
set_option maxHeartbeats 1000000 in
theorem rinrange_any (D x y : Int) (A J S : Option Addr) (n c nj cj ns cs : Nat) (l : List (Int × Int)) (w : World) (hl : l.length = n) (hn : n ≤ 8796093022208) (hr : ListAt encP w w.heap.size A l) :
    Calls Try.prog 22 #[.agg #[.int .i64 D, .slice A n c, .slice J nj cj, .slice S ns cs], .int .i64 x, .int .i64 y] w fun e w' => e = .returned (.bool (inR l x y)) ∧ Below w.heap.size w w' := by
  have HN := Lib.hid (fun j (h : j < n) => has hl h)
  have HE : Hid (∀ j, n ≤ j → l.length ≤ j) := Lib.hid fun j h => by omega
  have HG : Hid (∀ (j : Nat) p, l[j]? = some p → ((p.1 == x && p.2 == y) || (p.1 == y && p.2 == x)) = true → ∀ r, ((l.drop j).any fun p => (p.1 == x && p.2 == y) || (p.1 == y && p.2 == x)) = r → r = true) := Lib.hid fun j p h hp r he => by
    rw [drop_at h, List.any_cons, hp] at he; exact he.symm
  have HM : Hid (∀ (j : Nat) p, l[j]? = some p → ((p.1 == x && p.2 == y) || (p.1 == y && p.2 == x)) = false → ∀ r, ((l.drop j).any fun p => (p.1 == x && p.2 == y) || (p.1 == y && p.2 == x)) = r → ((l.drop (j + 1)).any fun p => (p.1 == x && p.2 == y) || (p.1 == y && p.2 == x)) = r) := Lib.hid fun j p h hp r he => by
    rw [drop_at h, List.any_cons, hp, Bool.false_or] at he; exact he
  have HO : Hid (∀ w', Below w.heap.size w w' → 0 < n → ∃ b off, A = some ⟨b, off, none⟩ ∧ ∀ (j : Nat) p, l[j]? = some p → w'.cell? ⟨b, off + j * 2, none⟩ = some (.int .i64 p.1) ∧ w'.cell? ⟨b, off + j * 2 + 1, none⟩ = some (.int .i64 p.2)) := Lib.hid fun w' hb h0 => by
    obtain ⟨b, off, e, _, hc⟩ := ListAt.open_ (CellsAt.below hr hb) sizP (by decide) (by omega)
    exact ⟨b, off, e, fun j p hj => ⟨hc j p hj 0 _ rfl, hc j p hj 1 _ rfl⟩⟩
  have B0 : Below w.heap.size w (w.alloc (.cells #[.int .i64 D, .slice A n c, .slice J nj cj, .slice S ns cs] 34)) := (Below.refl _ w).alloc (Nat.le_refl _) _
  have F0 := four_of (Blk.fresh w 34 #[.int .i64 D, .slice A n c, .slice J nj cj, .slice S ns cs])
  rw [← inR_or]
  generalize hr0 : (l.any fun p => (p.1 == x && p.2 == y) || (p.1 == y && p.2 == x)) = r at *
  have hr1 : Hid (((l.drop 0).any fun p => (p.1 == x && p.2 == y) || (p.1 == y && p.2 == x)) = r) := Lib.hid (by rw [List.drop_zero]; exact hr0)
  have HZ : Hid (∀ j, n ≤ j → ((l.drop j).any fun p => (p.1 == x && p.2 == y) || (p.1 == y && p.2 == x)) = r → r = false) := Lib.hid fun j hj he => by
    rw [List.drop_eq_nil_of_le (HE.out j hj)] at he; exact he.symm
  clear hl hr hr0 HE
  go_enter Try.func22, Try.ntmps22
  go_wp2_with fail
  generalize w.alloc (.cells #[.int .i64 D, .slice A n c, .slice J nj cj, .slice S ns cs] 34) = W at *
  go_loopw [7] (fun s7 wr => ∃ j : Nat, j ≤ n ∧ s7 = .int .i64 j ∧ Hid (((l.drop j).any fun p => (p.1 == x && p.2 == y) || (p.1 == y && p.2 == x)) = r) ∧ Below w.heap.size w wr ∧ Four wr w.heap.size D (.slice A n c) (.slice J nj cj) (.slice S ns cs)) (fun s7 _ => n - (intOf s7).toNat)
  case atStart => exact ⟨0, by omega, rfl, hr1, B0, F0⟩
  case round =>
    obtain ⟨j, hj, rfl, hno, hbel, F1⟩ := hrel
    clear hr1 B0 F0
    obtain ⟨f0, f1, f2, f3⟩ := F1
    have F1 : Four wr w.heap.size D (.slice A n c) (.slice J nj cj) (.slice S ns cs) := ⟨f0, f1, f2, f3⟩
    by_cases c1 : j < n
    · obtain ⟨p, hpj, _⟩ := HN.out j c1
      have hit := Lib.hid (HG.out j p hpj)
      have miss := Lib.hid (HM.out j p hpj)
      obtain ⟨b, off, rfl, hc⟩ := HO.out _ hbel (by omega)
      obtain ⟨h0, h1⟩ := hc j p hpj
      obtain ⟨p1, p2⟩ := p
      simp only at h0 h1
      clear hc HN HG HM HO HZ hpj
      have g1 : (0 : Int) ≤ (j : Int) ∧ (j : Int) < (n : Int) := by omega
      have B1 := hbel.alloc (hbel.size) (.cells #[.int .i64 p1, .int .i64 p2] 70)
      have F2 := F1.below ((Below.refl _ wr).alloc (Nat.le_refl _) (.cells #[.int .i64 p1, .int .i64 p2] 70))
      simp only at hit miss
      generalize hq1 : (p1 == x) = q1 at *
      generalize hq2 : (p2 == y) = q2 at *
      generalize hq3 : (p1 == y) = q3 at *
      generalize hq4 : (p2 == x) = q4 at *
      cases q1
      · cases q3
        · have e := Lib.hid (miss.out (by simp) r hno.out)
          go_wp2_with fail
          go_round
          case measure => simp [intOf]; omega
          case rel => exact ⟨j + 1, by omega, by go_num, e, B1, F2⟩
        · cases q4
          · have e := Lib.hid (miss.out (by simp) r hno.out)
            go_wp2_with fail
            go_round
            case measure => simp [intOf]; omega
            case rel => exact ⟨j + 1, by omega, by go_num, e, B1, F2⟩
          · have e := Lib.hid (hit.out (by simp) r hno.out)
            go_wp2_with fail
            go_ret
            exact ⟨Ser.ret_bool e.out.symm, B1⟩
      · cases q2
        · cases q3
          · have e := Lib.hid (miss.out (by simp) r hno.out)
            go_wp2_with fail
            go_round
            case measure => simp [intOf]; omega
            case rel => exact ⟨j + 1, by omega, by go_num, e, B1, F2⟩
          · cases q4
            · have e := Lib.hid (miss.out (by simp) r hno.out)
              go_wp2_with fail
              go_round
              case measure => simp [intOf]; omega
              case rel => exact ⟨j + 1, by omega, by go_num, e, B1, F2⟩
            · have e := Lib.hid (hit.out (by simp) r hno.out)
              go_wp2_with fail
              go_ret
              exact ⟨Ser.ret_bool e.out.symm, B1⟩
        · have e := Lib.hid (hit.out (by simp) r hno.out)
          go_wp2_with fail
          go_ret
          exact ⟨Ser.ret_bool e.out.symm, B1⟩
    · have e := Lib.hid (HZ.out j (by omega) hno.out)
      clear HN HG HM HO HZ
      have : ¬ ((j : Int) < (n : Int)) := by omega
      go_wp2_with fail
      go_ret
      exact ⟨Ser.ret_bool e.out.symm, hbel⟩
end Go.Proofs.Ytocmcjbhmjbmhaa.Air
