/- Jams and losses that are wrong: by the layer. -/
import Derived.Test.YtocmcjbhmjbmhaaAirCmp
set_option linter.unusedVariables false
set_option linter.unusedSimpArgs false
namespace Go.Proofs.Ytocmcjbhmjbmhaa.Air
open Go.RowKit Mem Rw Base

def badJ (j : Jm) : Bool := (decide (j.ch ≠ -1) && !okCh j.ch) || decide (j.st < 0) || decide (j.en < j.st) || decide (1099511627776 < j.en)
set_option maxHeartbeats 1000000 in
theorem wrongjam_any (h s n : Int) (w : World) :
    Calls Try.prog 39 #[.agg #[.int .i64 h, .int .i64 s, .int .i64 n]] w fun e w' => e = .returned (.bool (badJ ⟨h, s, n⟩)) ∧ Below w.heap.size w w' := by
  have B0 : Below w.heap.size w (w.alloc (.cells #[.int .i64 h, .int .i64 s, .int .i64 n] 66)) := (Below.refl _ w).alloc (Nat.le_refl _) _
  have HC := Lib.hid (fun w => ischannel_any h w)
  have HB : badJ ⟨h, s, n⟩ = ((decide (h ≠ -1) && !okCh h) || decide (s < 0) || decide (n < s) || decide (1099511627776 < n)) := rfl
  rw [HB]
  clear HB
  generalize okCh h = q at *
  go_enter Try.func39, Try.ntmps39
  go_wp2_with (go_at_call 57; refine (HC.out _).mono ?_; rintro e w1 ⟨rfl, rfl⟩)
  all_goals go_ret
  all_goals exact ⟨by simp [*], (Below.refl _ w).alloc (Nat.le_refl _) _⟩
/-- The device of a loss is none of the medium. -/
def badS (D : Int) (s : Int × Int) : Bool := !okDev D s.2
theorem wrongloss_any (x y D : Int) (X Y Z : Value) (B : Nat) (w : World) (hF : Four w B D X Y Z) :
    Calls Try.prog 36 #[.agg #[.int .i64 x, .int .i64 y], .pointer (some ⟨B, 0, none⟩)] w fun e w' => e = .returned (.bool (badS D (x, y))) ∧ Below w.heap.size w w' := by
  have B0 : Below w.heap.size w (w.alloc (.cells #[.int .i64 x, .int .i64 y] 61)) := (Below.refl _ w).alloc (Nat.le_refl _) _
  have F0 := hF.below B0
  have T0 := two_of (Blk.fresh w 61 #[.int .i64 x, .int .i64 y])
  have HC := Lib.hid (fun w => isdevice_any D y X Y Z w)
  have HB : badS D (x, y) = !okDev D y := rfl
  rw [HB]
  clear HB
  generalize okDev D y = q at *
  obtain ⟨f0, f1, f2, f3⟩ := F0
  go_enter Try.func36, Try.ntmps36
  go_wp2_with (go_at_call 37; refine (HC.out _).mono ?_; rintro e w1 ⟨rfl, b1⟩)
  go_ret
  exact ⟨rfl, thenB B0 b1⟩
def badJc (h s n : Int) : Bool := badJ ⟨h, s, n⟩
set_option maxHeartbeats 1000000 in
theorem indexj_any (A : Option Addr) (n c : Nat) (l : List Jm) (w : World) (hl : l.length = n) (hn : n ≤ 8796093022208) (hr : ListAt encJ w w.heap.size A l) :
    Calls Try.prog 56 #[.slice A n c, .func (.func 39) #[] #[]] w fun e w' => e = .returned (.int .i64 (fi badJ l 0)) ∧ Below w.heap.size w w' := by
  have HN := Lib.hid (fun j (h : j < n) => has hl h)
  have HE : Hid (∀ j, n ≤ j → l.length ≤ j) := Lib.hid fun j h => by omega
  have HG : Hid (∀ (j : Nat) p, l[j]? = some p → badJ p = true → ∀ r, fi badJ (l.drop j) j = r → r = j) := Lib.hid fun j p h hp r he => fi_hit h hp he
  have HM : Hid (∀ (j : Nat) p, l[j]? = some p → badJ p = false → ∀ r, fi badJ (l.drop j) j = r → fi badJ (l.drop (j + 1)) (j + 1) = r) := Lib.hid fun j p h hp r he => fi_miss h hp he
  have HO : Hid (∀ w', Below w.heap.size w w' → 0 < n → ∃ b off, A = some ⟨b, off, none⟩ ∧ ∀ (j : Nat) p, l[j]? = some p → w'.cell? ⟨b, off + j * 3, none⟩ = some (.int .i64 p.ch) ∧ w'.cell? ⟨b, off + j * 3 + 1, none⟩ = some (.int .i64 p.st) ∧ w'.cell? ⟨b, off + j * 3 + 2, none⟩ = some (.int .i64 p.en)) := Lib.hid fun w' hb h0 => by
    obtain ⟨b, off, e, _, hc⟩ := ListAt.open_ (CellsAt.below hr hb) sizJ (by decide) (by omega)
    exact ⟨b, off, e, fun j p hj => ⟨hc j p hj 0 _ rfl, hc j p hj 1 _ rfl, hc j p hj 2 _ rfl⟩⟩
  have HW := Lib.hid (fun h s n w => wrongjam_any h s n w)
  generalize hr0 : fi badJ l 0 = r at *
  have hr1 : Hid (fi badJ (l.drop 0) 0 = r) := Lib.hid (by rw [List.drop_zero]; exact hr0)
  clear hl hr hr0
  go_enter Try.func56, Try.ntmps56
  go_wp2_with fail
  go_loopw [5, 8] (fun _ s8 wr => ∃ j : Nat, j ≤ n ∧ s8 = .int .i64 j ∧ Hid (fi badJ (l.drop j) j = r) ∧ Below w.heap.size w wr) (fun _ s8 _ => n - (intOf s8).toNat)
  case atStart => exact ⟨0, by omega, rfl, hr1, Below.refl _ _⟩
  case round =>
    obtain ⟨j, hj, rfl, hno, hbel⟩ := hrel
    clear hr1
    by_cases c1 : j < n
    · obtain ⟨p, hpj, _⟩ := HN.out j c1
      have hit := Lib.hid (HG.out j p hpj)
      have miss := Lib.hid (HM.out j p hpj)
      obtain ⟨b, off, rfl, hc⟩ := HO.out _ hbel (by omega)
      obtain ⟨h0, h1, h2⟩ := hc j p hpj
      obtain ⟨p1, p2, p3⟩ := p
      simp only at h0 h1 h2
      have HC := Lib.hid (HW.out p1 p2 p3)
      clear hc HN HE HG HM HO HW hpj
      have g1 : (0 : Int) ≤ (j : Int) ∧ (j : Int) < (n : Int) := by omega
      generalize badJ ⟨p1, p2, p3⟩ = Q at *
      cases Q with
      | true =>
        have e := Lib.hid (hit.out rfl r hno.out)
        go_wp2_with (go_at_call 39; refine (HC.out _).mono ?_; rintro e w2 ⟨rfl, b2⟩)
        go_ret
        exact ⟨Ser.ret_int e.out.symm, thenB hbel b2⟩
      | false =>
        have e := Lib.hid (miss.out rfl r hno.out)
        go_wp2_with (go_at_call 39; refine (HC.out _).mono ?_; rintro e w2 ⟨rfl, b2⟩)
        go_round
        case measure => simp [intOf]; omega
        case rel => exact ⟨j + 1, by omega, by go_num, e, thenB hbel b2⟩
    · have e := Lib.hid (fi_end (HE.out j (by omega)) hno.out)
      clear HN HE HG HM HO
      have : ¬ ((j : Int) < (n : Int)) := by omega
      go_wp2_with fail
      go_ret
      exact ⟨Ser.ret_int e.out.symm, hbel⟩
theorem containsj_any (A : Option Addr) (n c : Nat) (l : List Jm) (w : World) (hl : l.length = n) (hn : n ≤ 8796093022208) (hr : ListAt encJ w w.heap.size A l) :
    Calls Try.prog 38 #[.slice A n c, .func (.func 39) #[] #[]] w fun e w' => e = .returned (.bool (l.any badJ)) ∧ Below w.heap.size w w' := by
  have HI := Lib.hid (indexj_any A n c l w hl hn hr)
  rw [← fi_any _ l 0]
  generalize fi badJ l 0 = r at *
  clear hr hl
  go_enter Try.func38, Try.ntmps38
  go_wp2_with (go_at_call 56; refine (HI.out).mono ?_; rintro e w1 ⟨rfl, b1⟩)
  go_ret
  exact ⟨rfl, b1⟩
set_option maxHeartbeats 1000000 in
theorem indexs_any (D : Int) (X Y Z : Value) (B : Nat) (A : Option Addr) (n c : Nat) (l : List (Int × Int)) (w : World) (hl : l.length = n) (hn : n ≤ 8796093022208) (hr : ListAt encP w w.heap.size A l) (hF : Four w B D X Y Z) :
    Calls Try.prog 58 #[.slice A n c, .func (.func 36) #[] #[.pointer (some ⟨B, 0, none⟩)]] w fun e w' => e = .returned (.int .i64 (fi (badS D) l 0)) ∧ Below w.heap.size w w' := by
  have HN := Lib.hid (fun j (h : j < n) => has hl h)
  have HE : Hid (∀ j, n ≤ j → l.length ≤ j) := Lib.hid fun j h => by omega
  have HG : Hid (∀ (j : Nat) p, l[j]? = some p → badS D p = true → ∀ r, fi (badS D) (l.drop j) j = r → r = j) := Lib.hid fun j p h hp r he => fi_hit h hp he
  have HM : Hid (∀ (j : Nat) p, l[j]? = some p → badS D p = false → ∀ r, fi (badS D) (l.drop j) j = r → fi (badS D) (l.drop (j + 1)) (j + 1) = r) := Lib.hid fun j p h hp r he => fi_miss h hp he
  have HO : Hid (∀ w', Below w.heap.size w w' → 0 < n → ∃ b off, A = some ⟨b, off, none⟩ ∧ ∀ (j : Nat) p, l[j]? = some p → w'.cell? ⟨b, off + j * 2, none⟩ = some (.int .i64 p.1) ∧ w'.cell? ⟨b, off + j * 2 + 1, none⟩ = some (.int .i64 p.2)) := Lib.hid fun w' hb h0 => by
    obtain ⟨b, off, e, _, hc⟩ := ListAt.open_ (CellsAt.below hr hb) sizP (by decide) (by omega)
    exact ⟨b, off, e, fun j p hj => ⟨hc j p hj 0 _ rfl, hc j p hj 1 _ rfl⟩⟩
  have HW := Lib.hid (fun x y (w' : World) (b : Below w.heap.size w w') => wrongloss_any x y D X Y Z B w' (hF.below b))
  generalize hr0 : fi (badS D) l 0 = r at *
  have hr1 : Hid (fi (badS D) (l.drop 0) 0 = r) := Lib.hid (by rw [List.drop_zero]; exact hr0)
  clear hl hr hr0 hF
  go_enter Try.func58, Try.ntmps58
  go_wp2_with fail
  go_loopw [5, 8] (fun _ s8 wr => ∃ j : Nat, j ≤ n ∧ s8 = .int .i64 j ∧ Hid (fi (badS D) (l.drop j) j = r) ∧ Below w.heap.size w wr) (fun _ s8 _ => n - (intOf s8).toNat)
  case atStart => exact ⟨0, by omega, rfl, hr1, Below.refl _ _⟩
  case round =>
    obtain ⟨j, hj, rfl, hno, hbel⟩ := hrel
    clear hr1
    by_cases c1 : j < n
    · obtain ⟨p, hpj, _⟩ := HN.out j c1
      have hit := Lib.hid (HG.out j p hpj)
      have miss := Lib.hid (HM.out j p hpj)
      obtain ⟨b, off, rfl, hc⟩ := HO.out _ hbel (by omega)
      obtain ⟨h0, h1⟩ := hc j p hpj
      obtain ⟨p1, p2⟩ := p
      simp only at h0 h1
      have HC := Lib.hid (HW.out p1 p2 wr hbel)
      clear hc HN HE HG HM HO HW hpj
      have g1 : (0 : Int) ≤ (j : Int) ∧ (j : Int) < (n : Int) := by omega
      generalize badS D (p1, p2) = Q at *
      cases Q with
      | true =>
        have e := Lib.hid (hit.out rfl r hno.out)
        go_wp2_with (go_at_call 36; refine (HC.out).mono ?_; rintro e w2 ⟨rfl, b2⟩)
        go_ret
        exact ⟨Ser.ret_int e.out.symm, thenB hbel b2⟩
      | false =>
        have e := Lib.hid (miss.out rfl r hno.out)
        go_wp2_with (go_at_call 36; refine (HC.out).mono ?_; rintro e w2 ⟨rfl, b2⟩)
        go_round
        case measure => simp [intOf]; omega
        case rel => exact ⟨j + 1, by omega, by go_num, e, thenB hbel b2⟩
    · have e := Lib.hid (fi_end (HE.out j (by omega)) hno.out)
      clear HN HE HG HM HO
      have : ¬ ((j : Int) < (n : Int)) := by omega
      go_wp2_with fail
      go_ret
      exact ⟨Ser.ret_int e.out.symm, hbel⟩
theorem containss_any (D : Int) (X Y Z : Value) (B : Nat) (A : Option Addr) (n c : Nat) (l : List (Int × Int)) (w : World) (hl : l.length = n) (hn : n ≤ 8796093022208) (hr : ListAt encP w w.heap.size A l) (hF : Four w B D X Y Z) :
    Calls Try.prog 40 #[.slice A n c, .func (.func 36) #[] #[.pointer (some ⟨B, 0, none⟩)]] w fun e w' => e = .returned (.bool (l.any (badS D))) ∧ Below w.heap.size w w' := by
  have HI := Lib.hid (indexs_any D X Y Z B A n c l w hl hn hr hF)
  rw [← fi_any _ l 0]
  generalize fi (badS D) l 0 = r at *
  clear hr hl hF
  go_enter Try.func40, Try.ntmps40
  go_wp2_with (go_at_call 58; refine (HI.out).mono ?_; rintro e w1 ⟨rfl, b1⟩)
  go_ret
  exact ⟨rfl, b1⟩
end Go.Proofs.Ytocmcjbhmjbmhaa.Air
