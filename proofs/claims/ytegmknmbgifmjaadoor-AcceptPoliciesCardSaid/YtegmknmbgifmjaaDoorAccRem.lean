/- Lists of addresses: what is removed, by the layer, the document and the statements: contracts over the program. -/
import Derived.Test.YtegmknmbgifmjaaDoorAccLists
set_option linter.unusedVariables false
set_option linter.unusedSimpArgs false
namespace Go.Proofs.YtegmknmbgifmjaaDoor.Ace
open Go.RowKit Mem Rw Base

theorem one_two (x y : Int) : ∀ u ∈ [Value.int .i64 x, Value.int .u64 y], u.oneCell' = true := by intro u hu; simp at hu; rcases hu with rfl | rfl <;> rfl
theorem own_nil (w : World) (B : Nat) : w.ownsRow B 25 2 (.slice none 0 0) 0 [] := ⟨rfl, .inl ⟨rfl, rfl⟩⟩

set_option maxHeartbeats 1000000 in
theorem remove_yes (A : Option Addr) (n c : Nat) (l : List (Int × Int)) (a1 a2 : Int) (w : World) (hl : l.length = n) (hn : n ≤ 8796093022200) (hr : ListAt encA w w.heap.size A l) (ho : onB l (a1, a2) = true) :
    Calls Tryd.prog 14 #[.slice A n c, .agg #[.int .i64 a1, .int .u64 a2]] w fun e w' => Pair w w' e (remL l (a1, a2)) := by
  obtain ⟨iE, hi, hz, hs, hb2, hc0⟩ := info_parts2 info_adr rfl
  have HN := Lib.hid (fun j (h : j < n) => has hl h)
  have HO : Hid (∀ w', Below w.heap.size w w' → 0 < n → _) := Lib.hid fun w' hb h0 => cells_at (CellsAt.below hr hb) (by omega)
  have HTk : Hid (l.take n = l) := Lib.hid (by rw [List.take_of_length_le (by omega)])
  have HL := Lib.hid hl
  have A0 : Below w.heap.size w (w.alloc (.cells #[.int .i64 a1, .int .u64 a2] 25)) := (Below.refl _ _).alloc (Nat.le_refl _) _
  have F0 := Adr.box_new w a1 a2
  have HCo : Hid (∀ w', Below w.heap.size w w' → Calls Tryd.prog 25 #[.slice A n c, .agg #[.int .i64 a1, .int .u64 a2]] w' fun e w2 => e = .returned (.bool true) ∧ Below w'.heap.size w' w2) := Lib.hid fun w' b => by
    have := contains_any A n c l a1 a2 w' hl (by omega) (CellsAt.later hr b)
    rwa [ho] at this
  have HR : Hid (remL l (a1, a2) = (remR l (a1, a2), 0)) := Lib.hid (rem_has ho)
  generalize remL l (a1, a2) = R at *
  clear hl hr ho
  go_enter Tryd.func14, Tryd.ntmps14
  go_wp2_with fail
  generalize w.alloc (.cells #[.int .i64 a1, .int .u64 a2] 25) = W0 at *
  refine (HCo.out W0 A0).mono ?_
  rintro e W2 ⟨rfl, b2⟩
  have BW := thenB A0 b2
  have FW := F0.below b2
  go_wp2_with fail
  go_loopw [6, 8, 17] (fun s6 _ s17 wr => ∃ j : Nat, j ≤ n ∧ s17 = .int .i64 j ∧ ∃ (q : Nat) (A' : Option Addr) (c' : Nat) (m : List (Int × Int)), s6 = .slice A' q c' ∧ q ≤ j ∧ m.length = q ∧ Hid (m = remR (l.take j) (a1, a2)) ∧ wr.ownsRow W2.heap.size 25 2 (.slice A' q c') q (m.flatMap encA) ∧ Below W2.heap.size W2 wr) (fun _ _ s17 _ => n - (intOf s17).toNat)
  case atStart => exact ⟨0, by omega, rfl, 0, _, _, [], rfl, Nat.le_refl _, rfl, Lib.hid rfl, own_nil _ _, Below.refl _ _⟩
  case round =>
    obtain ⟨j, hj, rfl, q, A', c', m, rfl, hq, hml, hm, own, hbel⟩ := hrel
    have B1 := thenB BW hbel
    have F1 := FW.below hbel
    have hw0 := hbel.size
    by_cases cj : j < n
    · obtain ⟨x, hxj, hxm⟩ := HN.out j cj
      obtain ⟨b, off, rfl, hbl, hc⟩ := HO.out _ B1 (by omega)
      obtain ⟨h0, h1⟩ := hc j x hxj
      obtain ⟨x1, x2⟩ := x
      simp only at h0 h1
      have d0 := F1.c0
      have d1 := F1.c1
      have hlt := F1.lt
      have hs1 := B1.size
      have hblr : b < wr.heap.size := by omega
      have HY : Hid (eqA (x1, x2) (a1, a2) = true → m = remR (l.take (j + 1)) (a1, a2)) := Lib.hid fun e => by rw [hm.out, rem_yes hxj e]
      have HZ : Hid (eqA (x1, x2) (a1, a2) = false → m ++ [(x1, x2)] = remR (l.take (j + 1)) (a1, a2)) := Lib.hid fun e => by rw [hm.out, rem_no hxj e]
      have HM := Lib.hid hml
      have g1 : (0 : Int) ≤ (j : Int) ∧ (j : Int) < (n : Int) := by omega
      clear hc hxj hxm hml
      cases he : eqA (x1, x2) (a1, a2) with
      | true =>
        have := eqA_iff.1 he
        have HG := Lib.hid (HY.out he)
        injection this with e1 e2
        subst e1; subst e2
        have q1 := adr_eq' x1 x2
        have q2 := adr_guard' x1 x2 x1 x2
        go_wp2_with fail
        go_roundw
        case rel => exact ⟨j + 1, by omega, by go_num, q, A', c', m, rfl, by omega, HM.out, HG, own.alloc _, hbel.alloc hbel.size _⟩
        case measure => simp [intOf]; omega
      | false =>
        have q1 := adr_ne' x1 x2 a1 a2 he
        have q2 := adr_guard' x1 x2 a1 a2
        have HG := Lib.hid (HZ.out he)
        have HX : Hid (m.flatMap encA ++ [.int .i64 x1, .int .u64 x2] = (m ++ [(x1, x2)]).flatMap encA) := Lib.hid (by simp [encA])
        clear HY HZ
        have own := own.alloc (.cells #[.int .i64 x1, .int .u64 x2] 25)
        have BL := hbel.alloc hbel.size (.cells #[.int .i64 x1, .int .u64 x2] 25)
        have own2 := own.alloc (.cells #[.int .i64 x1, .int .u64 x2] 25)
        have CA := CellsAt.lit (wr.alloc (.cells #[.int .i64 x1, .int .u64 x2] 25)) [.int .i64 x1, .int .u64 x2] #[.int .i64 x1, .int .u64 x2] 25 rfl
        have BL2 := BL.alloc BL.size (.cells #[.int .i64 x1, .int .u64 x2] 25)
        have hA : (some (⟨wr.heap.size + 1, 0, none⟩ : Addr)) = some ⟨(wr.alloc (.cells #[.int .i64 x1, .int .u64 x2] 25)).heap.size, 0, none⟩ := by simp
        rw [← hA] at CA
        clear hA
        go_wp2_with (at_builtin; refine wpList_append_rows rfl _ _ 22 rfl W2.heap.size 25 iE _ 2 16 Tryd.underlying22 hi hz hs hb2 hc0 (by decide) (.slice A' q c') q (m.flatMap encA) rfl own2 _ (some ⟨wr.heap.size + 1, 0, none⟩) 1 1 [.int .i64 x1, .int .u64 x2] rfl rfl (one_two _ _) CA (by unfold maxLen; omega) (by omega) BL2.size ?_; intro v5 w5 own5 b5 g5; obtain ⟨A5, c5, rfl⟩ := own_form own5)
        go_roundw
        case rel => exact ⟨j + 1, by omega, by go_num, q + 1, A5, c5, m ++ [(x1, x2)], rfl, by omega, by simp [HM.out], HG, by rw [← HX.out]; exact own5, BL2.trans b5⟩
        case measure => simp [intOf]; omega
    · obtain rfl : j = n := by omega
      have HG : Hid (m = remR l (a1, a2)) := Lib.hid (by rw [hm.out, HTk.out])
      have HH := Lib.hid own
      have HM := Lib.hid hml
      clear own hml
      go_wp2_with fail
      go_ret2
      exact pair_of (by rw [HR.out, ← HG.out]) rfl HM.out HH.out BW.size B1
theorem remove_no (A : Option Addr) (n c : Nat) (l : List (Int × Int)) (a1 a2 : Int) (w : World) (hl : l.length = n) (hn : n ≤ 8796093022200) (hr : ListAt encA w w.heap.size A l) (ho : onB l (a1, a2) = false) :
    Calls Tryd.prog 14 #[.slice A n c, .agg #[.int .i64 a1, .int .u64 a2]] w fun e w' => Pair w w' e (remL l (a1, a2)) := by
  have A0 : Below w.heap.size w (w.alloc (.cells #[.int .i64 a1, .int .u64 a2] 25)) := (Below.refl _ _).alloc (Nat.le_refl _) _
  have F0 := Adr.box_new w a1 a2
  have HCo : Hid (∀ w', Below w.heap.size w w' → Calls Tryd.prog 25 #[.slice A n c, .agg #[.int .i64 a1, .int .u64 a2]] w' fun e w2 => e = .returned (.bool false) ∧ Below w'.heap.size w' w2) := Lib.hid fun w' b => by
    have := contains_any A n c l a1 a2 w' hl (by omega) (CellsAt.later hr b)
    rwa [ho] at this
  have HCl : Hid (∀ w', Below w.heap.size w w' → Calls Tryd.prog 23 #[.slice A n c] w' fun e w2 => Row w' w2 e l) := Lib.hid fun w' b => clone_any A n c l w' hl (by omega) (CellsAt.later hr b)
  have HR : Hid (remL l (a1, a2) = (l, 6)) := Lib.hid (rem_none ho)
  have HL := Lib.hid hl
  generalize remL l (a1, a2) = R at *
  clear hl hr ho
  go_enter Tryd.func14, Tryd.ntmps14
  go_wp2_with fail
  generalize w.alloc (.cells #[.int .i64 a1, .int .u64 a2] 25) = W0 at *
  refine (HCo.out W0 A0).mono ?_
  rintro e W2 ⟨rfl, b2⟩
  have BW := thenB A0 b2
  go_wp2_with fail
  refine (HCl.out W2 BW).mono ?_
  intro e W3 hrow
  obtain ⟨A1, c1, rfl, hc1, own1, b3⟩ := hrow.len HL.out
  have HH := Lib.hid own1
  clear hrow own1
  go_wp2_with fail
  go_ret2
  exact pair_of HR.out rfl HL.out HH.out BW.size (thenB BW b3)
theorem remove_any (A : Option Addr) (n c : Nat) (l : List (Int × Int)) (a1 a2 : Int) (w : World) (hl : l.length = n) (hn : n ≤ 8796093022200) (hr : ListAt encA w w.heap.size A l) :
    Calls Tryd.prog 14 #[.slice A n c, .agg #[.int .i64 a1, .int .u64 a2]] w fun e w' => Pair w w' e (remL l (a1, a2)) := by
  cases ho : onB l (a1, a2) with
  | true => exact remove_yes A n c l a1 a2 w hl hn hr ho
  | false => exact remove_no A n c l a1 a2 w hl hn hr ho
set_option maxHeartbeats 1000000 in
theorem rremove_any (A : Option Addr) (n c : Nat) (l : List (Int × Int)) (a1 a2 : Int) (w : World) (hl : l.length = n) (hn : n ≤ 8796093022200) (hr : ListAt encA w w.heap.size A l) :
    Calls Tryd.prog 15 #[.slice A n c, .agg #[.int .i64 a1, .int .u64 a2]] w fun e w' => Pair w w' e (remL l (a1, a2)) := by
  obtain ⟨iE, hi, hz, hs, hb2, hc0⟩ := info_parts2 info_adr rfl
  have HN := Lib.hid (fun j (h : j < n) => has hl h)
  have HO : Hid (∀ w', Below w.heap.size w w' → 0 < n → _) := Lib.hid fun w' hb h0 => cells_at (CellsAt.below hr hb) (by omega)
  have HTk : Hid (l.take n = l) := Lib.hid (by rw [List.take_of_length_le (by omega)])
  have HL := Lib.hid hl
  have A0 : Below w.heap.size w (w.alloc (.cells #[.int .i64 a1, .int .u64 a2] 25)) := (Below.refl _ _).alloc (Nat.le_refl _) _
  have F0 := Adr.box_new w a1 a2
  have own0 : ((w.alloc (.cells #[.int .i64 a1, .int .u64 a2] 25)).alloc (.cells #[] 25)).ownsRow (w.alloc (.cells #[.int .i64 a1, .int .u64 a2] 25)).heap.size 25 2 (.slice (some ⟨w.heap.size + 1, 0, none⟩) 0 0) 0 [] := by
    have := World.ownsRow_made (base := (w.alloc (.cells #[.int .i64 a1, .int .u64 a2] 25)).heap.size) (e := 25) (size := 2) (w.alloc (.cells #[.int .i64 a1, .int .u64 a2] 25)) #[] 0 (Nat.le_refl _) (by unfold maxLen; omega) rfl
    simpa using this
  have HY : Hid (onB l (a1, a2) = true → remL l (a1, a2) = (remR l (a1, a2), 0) ∧ (remR l (a1, a2)).length < n) := Lib.hid fun h => ⟨rem_has h, by have := rem_on h; omega⟩
  have HZ : Hid (onB l (a1, a2) = false → remL l (a1, a2) = (remR l (a1, a2), 6) ∧ (remR l (a1, a2)).length = n) := Lib.hid fun h => ⟨by rw [rem_none h, rem_off h], by rw [rem_off h]; exact hl⟩
  generalize remL l (a1, a2) = R at *
  generalize onB l (a1, a2) = O at *
  clear hl hr
  go_enter Tryd.func15, Tryd.ntmps15
  go_wp2_with fail
  generalize w.alloc (.cells #[.int .i64 a1, .int .u64 a2] 25) = W0 at *
  have BW := A0
  have FW := F0
  go_loopw [6, 7] (fun s6 s7 wr => ∃ j : Nat, j ≤ n ∧ s7 = .int .i64 j ∧ ∃ (q : Nat) (A' : Option Addr) (c' : Nat) (m : List (Int × Int)), s6 = .slice A' q c' ∧ q ≤ j ∧ m.length = q ∧ Hid (m = remR (l.take j) (a1, a2)) ∧ wr.ownsRow W0.heap.size 25 2 (.slice A' q c') q (m.flatMap encA) ∧ Below W0.heap.size W0 wr) (fun _ s7 _ => n - (intOf s7).toNat)
  case atStart => exact ⟨0, by omega, rfl, 0, _, _, [], rfl, Nat.le_refl _, rfl, Lib.hid rfl, own0, (Below.refl _ _).alloc (Nat.le_refl _) _⟩
  case round =>
    obtain ⟨j, hj, rfl, q, A', c', m, rfl, hq, hml, hm, own, hbel⟩ := hrel
    have B1 := thenB BW hbel
    have F1 := FW.below hbel
    have hw0 := hbel.size
    by_cases cj : j < n
    · obtain ⟨x, hxj, hxm⟩ := HN.out j cj
      obtain ⟨b, off, rfl, hbl, hc⟩ := HO.out _ B1 (by omega)
      obtain ⟨h0, h1⟩ := hc j x hxj
      obtain ⟨x1, x2⟩ := x
      simp only at h0 h1
      have d0 := F1.c0
      have d1 := F1.c1
      have hlt := F1.lt
      have hs1 := B1.size
      have hblr : b < wr.heap.size := by omega
      have HY : Hid (eqA (x1, x2) (a1, a2) = true → m = remR (l.take (j + 1)) (a1, a2)) := Lib.hid fun e => by rw [hm.out, rem_yes hxj e]
      have HZ : Hid (eqA (x1, x2) (a1, a2) = false → m ++ [(x1, x2)] = remR (l.take (j + 1)) (a1, a2)) := Lib.hid fun e => by rw [hm.out, rem_no hxj e]
      have HM := Lib.hid hml
      have g1 : (0 : Int) ≤ (j : Int) ∧ (j : Int) < (n : Int) := by omega
      clear hc hxj hxm hml
      cases he : eqA (x1, x2) (a1, a2) with
      | true =>
        have := eqA_iff.1 he
        have HG := Lib.hid (HY.out he)
        injection this with e1 e2
        subst e1; subst e2
        have q1 := adr_eq' x1 x2
        have q2 := adr_guard' x1 x2 x1 x2
        go_wp2_with fail
        go_quiet (fail)
        go_wp2_with fail
        go_roundw
        case rel => exact ⟨j + 1, by omega, by go_num, q, A', c', m, rfl, by omega, HM.out, HG, own, hbel.trans (quiet_c _ _ _)⟩
        case measure => simp [intOf]; omega
      | false =>
        have q1 := adr_ne' x1 x2 a1 a2 he
        have q2 := adr_guard' x1 x2 a1 a2
        have HG := Lib.hid (HZ.out he)
        have HX : Hid (m.flatMap encA ++ [.int .i64 x1, .int .u64 x2] = (m ++ [(x1, x2)]).flatMap encA) := Lib.hid (by simp [encA])
        clear HY HZ
        go_wp2_with fail
        go_quiet (fail)
        rename_i nq _
        have h0 : (wr.drewN nq).cell? ⟨b, off + j * 2, none⟩ = some (.int .i64 x1) := h0
        have h1 : (wr.drewN nq).cell? ⟨b, off + j * 2 + 1, none⟩ = some (.int .u64 x2) := h1
        have own : (wr.drewN nq).ownsRow W0.heap.size 25 2 (.slice A' q c') q (m.flatMap encA) := own
        have BL : Below W0.heap.size W0 (wr.drewN nq) := hbel.trans (quiet_c _ _ _)
        have hw1 := BL.size
        generalize wr.drewN nq = X at *
        have own2 := own.alloc (.cells #[.int .i64 x1, .int .u64 x2] 25)
        have CA := CellsAt.lit X [.int .i64 x1, .int .u64 x2] #[.int .i64 x1, .int .u64 x2] 25 rfl
        have BL2 := BL.alloc BL.size (.cells #[.int .i64 x1, .int .u64 x2] 25)
        have hA : (some (⟨X.heap.size, 0, none⟩ : Addr)) = some ⟨X.heap.size, 0, none⟩ := by simp
        rw [← hA] at CA
        clear hA
        go_wp2_with (at_builtin; refine wpList_append_rows rfl _ _ 22 rfl W0.heap.size 25 iE _ 2 16 Tryd.underlying22 hi hz hs hb2 hc0 (by decide) (.slice A' q c') q (m.flatMap encA) rfl own2 _ (some ⟨X.heap.size, 0, none⟩) 1 1 [.int .i64 x1, .int .u64 x2] rfl rfl (one_two _ _) CA (by unfold maxLen; omega) (by omega) BL2.size ?_; intro v5 w5 own5 b5 g5; obtain ⟨A5, c5, rfl⟩ := own_form own5)
        go_roundw
        case rel => exact ⟨j + 1, by omega, by go_num, q + 1, A5, c5, m ++ [(x1, x2)], rfl, by omega, by simp [HM.out], HG, by rw [← HX.out]; exact own5, BL2.trans b5⟩
        case measure => simp [intOf]; omega
    · obtain rfl : j = n := by omega
      have HG : Hid (m = remR l (a1, a2)) := Lib.hid (by rw [hm.out, HTk.out])
      have HM := Lib.hid hml
      have HH := Lib.hid own
      clear own hml hm
      cases O with
      | true =>
        obtain ⟨e1, e2⟩ := HY.out rfl
        have HR := Lib.hid e1
        rw [← HG.out, HM.out] at e2
        have g2 : ((q : Int) == (j : Int)) = false := by simpa using (by omega : ¬ (q : Int) = j)
        have g3 : (q == j) = false := by simpa using (by omega : ¬ q = j)
        clear e1 HY HZ
        go_wp2_with fail
        go_ret2
        exact pair_of (by rw [HR.out, ← HG.out]) rfl HM.out HH.out BW.size B1
      | false =>
        obtain ⟨e1, e2⟩ := HZ.out rfl
        have HR := Lib.hid e1
        rw [← HG.out, HM.out] at e2
        subst e2
        clear e1 HY HZ
        go_wp2_with fail
        go_ret2
        exact pair_of (by rw [HR.out, ← HG.out]) rfl HM.out HH.out BW.size B1
set_option maxHeartbeats 1000000 in
theorem without_any (A : Option Addr) (n c : Nat) (l : List (Int × Int)) (a1 a2 : Int) (w : World) (hl : l.length = n) (hn : n ≤ 8796093022200) (hr : ListAt encA w w.heap.size A l) :
    Calls Tryd.prog 21 #[.slice A n c, .agg #[.int .i64 a1, .int .u64 a2]] w fun e w' => Row w w' e (remR l (a1, a2)) := by
  obtain ⟨iE, hi, hz, hs, hb2, hc0⟩ := info_parts2 info_adr rfl
  have HN := Lib.hid (fun j (h : j < n) => has hl h)
  have HO : Hid (∀ w', Below w.heap.size w w' → 0 < n → _) := Lib.hid fun w' hb h0 => cells_at (CellsAt.below hr hb) (by omega)
  have HTk : Hid (l.take n = l) := Lib.hid (by rw [List.take_of_length_le (by omega)])
  have HL := Lib.hid hl
  have A0 : Below w.heap.size w (w.alloc (.cells #[.int .i64 a1, .int .u64 a2] 25)) := (Below.refl _ _).alloc (Nat.le_refl _) _
  have F0 := Adr.box_new w a1 a2
  have own0 : ((w.alloc (.cells #[.int .i64 a1, .int .u64 a2] 25)).alloc (.cells #[] 25)).ownsRow (w.alloc (.cells #[.int .i64 a1, .int .u64 a2] 25)).heap.size 25 2 (.slice (some ⟨w.heap.size + 1, 0, none⟩) 0 0) 0 [] := by
    have := World.ownsRow_made (base := (w.alloc (.cells #[.int .i64 a1, .int .u64 a2] 25)).heap.size) (e := 25) (size := 2) (w.alloc (.cells #[.int .i64 a1, .int .u64 a2] 25)) #[] 0 (Nat.le_refl _) (by unfold maxLen; omega) rfl
    simpa using this
  clear hl hr
  go_enter Tryd.func21, Tryd.ntmps21
  go_wp2_with fail
  generalize w.alloc (.cells #[.int .i64 a1, .int .u64 a2] 25) = W0 at *
  have BW := A0
  have FW := F0
  go_loopw [5, 6] (fun s5 s6 wr => ∃ j : Nat, j ≤ n ∧ s6 = .int .i64 j ∧ ∃ (q : Nat) (A' : Option Addr) (c' : Nat) (m : List (Int × Int)), s5 = .slice A' q c' ∧ q ≤ j ∧ m.length = q ∧ Hid (m = remR (l.take j) (a1, a2)) ∧ wr.ownsRow W0.heap.size 25 2 (.slice A' q c') q (m.flatMap encA) ∧ Below W0.heap.size W0 wr) (fun _ s6 _ => n - (intOf s6).toNat)
  case atStart => exact ⟨0, by omega, rfl, 0, _, _, [], rfl, Nat.le_refl _, rfl, Lib.hid rfl, own0, (Below.refl _ _).alloc (Nat.le_refl _) _⟩
  case round =>
    obtain ⟨j, hj, rfl, q, A', c', m, rfl, hq, hml, hm, own, hbel⟩ := hrel
    have B1 := thenB BW hbel
    have F1 := FW.below hbel
    have hw0 := hbel.size
    by_cases cj : j < n
    · obtain ⟨x, hxj, hxm⟩ := HN.out j cj
      obtain ⟨b, off, rfl, hbl, hc⟩ := HO.out _ B1 (by omega)
      obtain ⟨h0, h1⟩ := hc j x hxj
      obtain ⟨x1, x2⟩ := x
      simp only at h0 h1
      have d0 := F1.c0
      have d1 := F1.c1
      have hlt := F1.lt
      have hs1 := B1.size
      have hblr : b < wr.heap.size := by omega
      have HY : Hid (eqA (x1, x2) (a1, a2) = true → m = remR (l.take (j + 1)) (a1, a2)) := Lib.hid fun e => by rw [hm.out, rem_yes hxj e]
      have HZ : Hid (eqA (x1, x2) (a1, a2) = false → m ++ [(x1, x2)] = remR (l.take (j + 1)) (a1, a2)) := Lib.hid fun e => by rw [hm.out, rem_no hxj e]
      have HM := Lib.hid hml
      have g1 : (0 : Int) ≤ (j : Int) ∧ (j : Int) < (n : Int) := by omega
      clear hc hxj hxm hml
      cases he : eqA (x1, x2) (a1, a2) with
      | true =>
        have := eqA_iff.1 he
        have HG := Lib.hid (HY.out he)
        injection this with e1 e2
        subst e1; subst e2
        have q1 := adr_eq' x1 x2
        have q2 := adr_guard' x1 x2 x1 x2
        go_wp2_with fail
        go_quiet (fail)
        go_wp2_with fail
        go_roundw
        case rel => exact ⟨j + 1, by omega, by go_num, q, A', c', m, rfl, by omega, HM.out, HG, own, hbel.trans (quiet_c _ _ _)⟩
        case measure => simp [intOf]; omega
      | false =>
        have q1 := adr_ne' x1 x2 a1 a2 he
        have q2 := adr_guard' x1 x2 a1 a2
        have HG := Lib.hid (HZ.out he)
        have HX : Hid (m.flatMap encA ++ [.int .i64 x1, .int .u64 x2] = (m ++ [(x1, x2)]).flatMap encA) := Lib.hid (by simp [encA])
        clear HY HZ
        go_wp2_with fail
        go_quiet (fail)
        rename_i nq _
        have h0 : (wr.drewN nq).cell? ⟨b, off + j * 2, none⟩ = some (.int .i64 x1) := h0
        have h1 : (wr.drewN nq).cell? ⟨b, off + j * 2 + 1, none⟩ = some (.int .u64 x2) := h1
        have own : (wr.drewN nq).ownsRow W0.heap.size 25 2 (.slice A' q c') q (m.flatMap encA) := own
        have BL : Below W0.heap.size W0 (wr.drewN nq) := hbel.trans (quiet_c _ _ _)
        have hw1 := BL.size
        generalize wr.drewN nq = X at *
        have own2 := own.alloc (.cells #[.int .i64 x1, .int .u64 x2] 25)
        have CA := CellsAt.lit X [.int .i64 x1, .int .u64 x2] #[.int .i64 x1, .int .u64 x2] 25 rfl
        have BL2 := BL.alloc BL.size (.cells #[.int .i64 x1, .int .u64 x2] 25)
        have hA : (some (⟨X.heap.size, 0, none⟩ : Addr)) = some ⟨X.heap.size, 0, none⟩ := by simp
        rw [← hA] at CA
        clear hA
        go_wp2_with (at_builtin; refine wpList_append_rows rfl _ _ 22 rfl W0.heap.size 25 iE _ 2 16 Tryd.underlying22 hi hz hs hb2 hc0 (by decide) (.slice A' q c') q (m.flatMap encA) rfl own2 _ (some ⟨X.heap.size, 0, none⟩) 1 1 [.int .i64 x1, .int .u64 x2] rfl rfl (one_two _ _) CA (by unfold maxLen; omega) (by omega) BL2.size ?_; intro v5 w5 own5 b5 g5; obtain ⟨A5, c5, rfl⟩ := own_form own5)
        go_roundw
        case rel => exact ⟨j + 1, by omega, by go_num, q + 1, A5, c5, m ++ [(x1, x2)], rfl, by omega, by simp [HM.out], HG, by rw [← HX.out]; exact own5, BL2.trans b5⟩
        case measure => simp [intOf]; omega
    · obtain rfl : j = n := by omega
      have HG : Hid (m = remR l (a1, a2)) := Lib.hid (by rw [hm.out, HTk.out])
      have HM := Lib.hid hml
      have HH := Lib.hid own
      clear own hml hm
      go_wp2_with fail
      go_ret
      rw [← HG.out]
      exact row_of rfl HM.out HH.out BW.size B1
end Go.Proofs.YtegmknmbgifmjaaDoor.Ace
