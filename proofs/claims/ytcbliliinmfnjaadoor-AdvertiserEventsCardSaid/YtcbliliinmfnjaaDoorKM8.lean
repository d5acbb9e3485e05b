/- Lists of addresses: what is on them, what is added and removed, what policies allow: plain mathematics. No program is mentioned. Lists of addresses: whether an address is on one; copies: contracts over the program. Lists of addresses: copies, what is added and removed, by the layer, the document and the statements: contracts over the program. Lists of addresses: what is removed, by the layer, the document and the statements: contracts over the program. -/
import Derived.Test.YtcbliliinmfnjaaDoorKM6
import Derived.Test.YtcbliliinmfnjaaDoorKM7
import Derived.Deep.QuietTactic
import Derived.BigQuiet
import Derived.Lib.Hide
import Derived.Test.YtcbliliinmfnjaaDoorKAdqRefAll
section
set_option linter.unusedVariables false
set_option linter.unusedSimpArgs false
namespace Go.Proofs.YtcbliliinmfnjaaDoor.Ace
open Go.RowKit Mem Rw

def encA (x : Int × Int) : List Value := [.int .i64 x.1, .int .u64 x.2]
theorem sizA : Sized encA 2 := fun x => ⟨rfl, by intro u hu; simp [encA] at hu; rcases hu with rfl | rfl <;> rfl⟩
/-- Whether two addresses are equal. -/
def eqA (x a : Int × Int) : Bool := x.1 == a.1 && x.2 == a.2
theorem eqA_iff {x a : Int × Int} : eqA x a = true ↔ x = a := by
  obtain ⟨x1, x2⟩ := x; obtain ⟨a1, a2⟩ := a
  simp [eqA]
theorem eqA_not {x a : Int × Int} : eqA x a = false ↔ ¬ x = a := by
  rw [← eqA_iff]; cases eqA x a <;> simp
/-- Whether an address is on a list. -/
def onB (l : List (Int × Int)) (a : Int × Int) : Bool := l.any fun x => eqA x a
theorem take_snoc {α : Type} {l : List α} {j : Nat} {x : α} (h : l[j]? = some x) : l.take (j + 1) = l.take j ++ [x] := by
  have hk : j < l.length := (List.getElem?_eq_some_iff.1 h).1
  rw [List.take_succ_eq_append_getElem hk, (List.getElem?_eq_some_iff.1 h).2]
theorem on_snoc (l : List (Int × Int)) (x a : Int × Int) : onB (l ++ [x]) a = (onB l a || eqA x a) := by simp [onB]
theorem on_take {l : List (Int × Int)} {j : Nat} {x a : Int × Int} (h : l[j]? = some x) : onB (l.take (j + 1)) a = (onB (l.take j) a || eqA x a) := by
  rw [take_snoc h, on_snoc]
theorem on_at {l : List (Int × Int)} {j : Nat} {x a : Int × Int} (h : l[j]? = some x) (e : eqA x a = true) : onB l a = true := by
  simp only [onB, List.any_eq_true]
  exact ⟨x, List.mem_of_getElem? h, e⟩
theorem on_step {l : List (Int × Int)} {j : Nat} {x a : Int × Int} (h : l[j]? = some x) (e : eqA x a = false) (hp : onB (l.take j) a = false) : onB (l.take (j + 1)) a = false := by
  rw [on_take h, hp, e]; rfl
theorem on_all {l : List (Int × Int)} {n : Nat} {a : Int × Int} (h : l.length = n) : onB (l.take n) a = onB l a := by rw [List.take_of_length_le (by omega)]
end Go.Proofs.YtcbliliinmfnjaaDoor.Ace

end
section
set_option linter.unusedVariables false
set_option linter.unusedSimpArgs false
namespace Go.Proofs.YtcbliliinmfnjaaDoor.Ace
open Go.RowKit Mem Rw Base

theorem info_adr : (Tryd.prog.info? 24).map (fun i => (i.zero, i.size, i.bytes)) = some (some (.agg #[.int .i64 0, .int .u64 0]), 2, 16) := by kernel_rfl
theorem has {α : Type} {l : List α} {n j : Nat} (hl : l.length = n) (h : j < n) : ∃ x, l[j]? = some x ∧ x ∈ l := ⟨l[j]'(by omega), List.getElem?_eq_getElem (by omega), List.getElem_mem _⟩
theorem cells_at {w : World} {B : Nat} {A : Option Addr} {l : List (Int × Int)} (h : ListAt encA w B A l) (hl : 0 < l.length) :
    ∃ b off, A = some ⟨b, off, none⟩ ∧ b < B ∧ ∀ (j : Nat) x, l[j]? = some x → w.cell? ⟨b, off + j * 2, none⟩ = some (.int .i64 x.1) ∧ w.cell? ⟨b, off + j * 2 + 1, none⟩ = some (.int .u64 x.2) := by
  obtain ⟨b, off, e, hb, hc⟩ := h.open_ sizA (by omega) hl
  exact ⟨b, off, e, hb, fun j x hj => ⟨hc j x hj 0 _ rfl, hc j x hj 1 _ rfl⟩⟩
theorem adr_eq (k b : Int) (w : World) : (binOp .eql 24 (.agg #[.int .i64 k, .int .u64 b]) (.agg #[.int .i64 k, .int .u64 b])).run Tryd.prog w = .ok (.bool true) w := by
  go_simp
theorem adr_ne (k b k' b' : Int) (h : eqA (k, b) (k', b') = false) (w : World) : (binOp .eql 24 (.agg #[.int .i64 k, .int .u64 b]) (.agg #[.int .i64 k', .int .u64 b'])).run Tryd.prog w = .ok (.bool false) w := by
  unfold eqA at h
  go_simp
  simpa using h
theorem adr_guard (k b k' b' : Int) (w : World) (x y : Operand) : (eqGuard .eql 24 x y (.agg #[.int .i64 k, .int .u64 b]) (.agg #[.int .i64 k', .int .u64 b'])).run Tryd.prog w = .ok () w := by
  go_simp
theorem adr_eq' (k b : Int) (w : World) : (binOp .neq 24 (.agg #[.int .i64 k, .int .u64 b]) (.agg #[.int .i64 k, .int .u64 b])).run Tryd.prog w = .ok (.bool false) w := by
  go_simp
theorem adr_ne' (k b k' b' : Int) (h : eqA (k, b) (k', b') = false) (w : World) : (binOp .neq 24 (.agg #[.int .i64 k, .int .u64 b]) (.agg #[.int .i64 k', .int .u64 b'])).run Tryd.prog w = .ok (.bool true) w := by
  unfold eqA at h
  go_simp
  simpa using h
theorem adr_guard' (k b k' b' : Int) (w : World) (x y : Operand) : (eqGuard .neq 24 x y (.agg #[.int .i64 k, .int .u64 b]) (.agg #[.int .i64 k', .int .u64 b'])).run Tryd.prog w = .ok () w := by
  go_simp
theorem quiet_c (B : Nat) (w : World) (k : Nat) : Below B w (w.drewN k) := ⟨rfl, rfl, rfl, Nat.le_refl _, fun _ _ => rfl⟩
set_option maxHeartbeats 1000000 in
theorem contains_any (A : Option Addr) (n c : Nat) (l : List (Int × Int)) (a1 a2 : Int) (w : World) (hl : l.length = n) (hn : n ≤ 8796093022208) (hr : ListAt encA w w.heap.size A l) :
    Calls Tryd.prog 113 #[.slice A n c, .agg #[.int .i64 a1, .int .u64 a2]] w fun e w' => e = .returned (.bool (onB l (a1, a2))) ∧ Below w.heap.size w w' := by
  have HN := Lib.hid (fun j (h : j < n) => has hl h)
  have HO : Hid (∀ w', Below w.heap.size w w' → 0 < n → _) := Lib.hid fun w' hb h0 => cells_at (CellsAt.below hr hb) (by omega)
  have HT : Hid (onB (l.take n) (a1, a2) = onB l (a1, a2)) := Lib.hid (on_all hl)
  have A0 : Below w.heap.size w (w.alloc (.cells #[.int .i64 a1, .int .u64 a2] 24)) := (Below.refl _ _).alloc (Nat.le_refl _) _
  have F0 := Adr.box_new w a1 a2
  clear hl hr
  generalize hR : onB l (a1, a2) = R at *
  have HRR := Lib.hid hR
  clear hR
  go_enter Tryd.func113, Tryd.ntmps113
  go_wp2_with fail
  generalize w.alloc (.cells #[.int .i64 a1, .int .u64 a2] 24) = W1 at *
  go_loopw [6, 9] (fun _ s9 wr => ∃ j : Nat, j ≤ n ∧ s9 = .int .i64 j ∧ Hid (onB (l.take j) (a1, a2) = false) ∧ Below W1.heap.size W1 wr) (fun _ s9 _ => n - (intOf s9).toNat)
  case atStart => exact ⟨0, by omega, rfl, Lib.hid rfl, Below.refl _ _⟩
  case round =>
    obtain ⟨j, hj, rfl, hno, hbel⟩ := hrel
    have B1 := thenB A0 hbel
    have F1 := F0.below hbel
    by_cases cj : j < n
    · obtain ⟨x, hxj, hxm⟩ := HN.out j cj
      obtain ⟨b, off, rfl, hbl, hc⟩ := HO.out _ B1 (by omega)
      obtain ⟨h0, h1⟩ := hc j x hxj
      obtain ⟨x1, x2⟩ := x
      simp only at h0 h1
      have d0 := F1.c0
      have d1 := F1.c1
      have hs1 := B1.size
      have hlt := F1.lt
      have HS := Lib.hid (fun e => on_step hxj (a := (a1, a2)) e hno.out)
      have HA := Lib.hid (fun e => on_at hxj (a := (a1, a2)) e)
      have g1 : (0 : Int) ≤ (j : Int) ∧ (j : Int) < (n : Int) := by omega
      clear hc hxj hxm
      cases he : eqA (x1, x2) (a1, a2) with
      | true =>
        have := eqA_iff.1 he
        injection this with e1 e2
        subst e1; subst e2
        have HR : Hid (R = true) := Lib.hid (HRR.out.symm.trans (HA.out he))
        have q1 := adr_eq x1 x2
        have q2 := adr_guard x1 x2 x1 x2
        go_wp2_with fail
        go_ret
        exact ⟨Ser.ret_bool HR.out.symm, thenB B1 ((Below.refl _ _).alloc (Nat.le_refl _) _)⟩
      | false =>
        have q1 := adr_ne x1 x2 a1 a2 he
        have q2 := adr_guard x1 x2 a1 a2
        have HF := Lib.hid (HS.out he)
        clear HS HA
        go_wp2_with fail
        go_roundw
        case rel => exact ⟨j + 1, by omega, by go_num, HF, hbel.alloc hbel.size _⟩
        case measure => simp [intOf]; omega
    · obtain rfl : j = n := by omega
      have HR : Hid (R = false) := Lib.hid (by rw [← HT.out]; exact hno.out)
      go_wp2_with fail
      go_ret
      exact ⟨Ser.ret_bool HR.out.symm, B1⟩
set_option maxHeartbeats 1000000 in
theorem same_any (A A' : Option Addr) (n n' c c' : Nat) (l m : List (Int × Int)) (w : World) (hl : l.length = n) (hm : m.length = n') (hn : n ≤ 8796093022208) (hn' : n' ≤ 8796093022208) (hr : ListAt encA w w.heap.size A l) (hr' : ListAt encA w w.heap.size A' m) :
    Calls Tryd.prog 47 #[.slice A n c, .slice A' n' c'] w fun e w' => e = .returned (.bool (decide (l = m))) ∧ Below w.heap.size w w' := by
  by_cases hnn : n = n'
  · subst hnn
    have HN := Lib.hid (fun j (h : j < n) => has hl h)
    have HM := Lib.hid (fun j (h : j < n) => has hm h)
    have HO : Hid (∀ w', Below w.heap.size w w' → 0 < n → _) := Lib.hid fun w' hb h0 => cells_at (CellsAt.below hr hb) (by omega)
    have HO' : Hid (∀ w', Below w.heap.size w w' → 0 < n → _) := Lib.hid fun w' hb h0 => cells_at (CellsAt.below hr' hb) (by omega)
    have HT : Hid (l.take n = m.take n → decide (l = m) = true) := Lib.hid fun h => by
      rw [List.take_of_length_le (by omega), List.take_of_length_le (by omega)] at h; simp [h]
    have HD : Hid (∀ (j : Nat) x y, l[j]? = some x → m[j]? = some y → eqA x y = false → decide (l = m) = false) := Lib.hid fun j x y hx hy h => by
      rw [decide_eq_false]; rintro rfl
      rw [hx] at hy; injection hy with e
      rw [eqA_not] at h; exact h e
    clear hl hm hr hr'
    generalize decide (l = m) = R at *
    go_enter Tryd.func47, Tryd.ntmps47
    go_wp2_with fail
    go_loopw [5] (fun s5 wr => ∃ j : Nat, j ≤ n ∧ s5 = .int .i64 j ∧ Hid (l.take j = m.take j) ∧ Below w.heap.size w wr) (fun s5 _ => n - (intOf s5).toNat)
    case atStart => exact ⟨0, by omega, rfl, Lib.hid (by simp), Below.refl _ _⟩
    case round =>
      obtain ⟨j, hj, rfl, hno, hbel⟩ := hrel
      by_cases cj : j < n
      · obtain ⟨x, hxj, hxm⟩ := HN.out j cj
        obtain ⟨y, hyj, hym⟩ := HM.out j cj
        obtain ⟨b, off, rfl, hbl, hc⟩ := HO.out _ hbel (by omega)
        obtain ⟨b', off', rfl, hbl', hc'⟩ := HO'.out _ hbel (by omega)
        obtain ⟨h0, h1⟩ := hc j x hxj
        obtain ⟨d0, d1⟩ := hc' j y hyj
        have HS : Hid (x = y → l.take (j + 1) = m.take (j + 1)) := Lib.hid fun e => by rw [take_snoc hxj, take_snoc hyj, hno.out, e]
        have HF : Hid (eqA x y = false → R = false) := Lib.hid (HD.out j x y hxj hyj)
        obtain ⟨x1, x2⟩ := x
        obtain ⟨y1, y2⟩ := y
        simp only at h0 h1 d0 d1
        have g1 : (0 : Int) ≤ (j : Int) ∧ (j : Int) < (n : Int) := by omega
        clear hc hc' hxj hxm hyj hym
        cases he : eqA (x1, x2) (y1, y2) with
        | true =>
          have := eqA_iff.1 he
          have HG := Lib.hid (HS.out this)
          injection this with e1 e2
          subst e1; subst e2
          have q1 := adr_eq' x1 x2
          have q2 := adr_guard' x1 x2 x1 x2
          go_wp2_with fail
          go_quiet (fail)
          go_wp2_with fail
          go_roundw
          case rel => exact ⟨j + 1, by omega, by go_num, HG, hbel.trans (quiet_c _ _ _)⟩
          case measure => simp [intOf]; omega
        | false =>
          have q1 := adr_ne' x1 x2 y1 y2 he
          have q2 := adr_guard' x1 x2 y1 y2
          have HG := Lib.hid (HF.out he)
          clear HS HF
          go_wp2_with fail
          go_quiet (fail)
          go_wp2_with fail
          go_ret
          exact ⟨Ser.ret_bool HG.out.symm, hbel.trans (quiet_c _ _ _)⟩
      · obtain rfl : j = n := by omega
        have HG := Lib.hid (HT.out hno.out)
        go_wp2_with fail
        go_ret
        exact ⟨Ser.ret_bool HG.out.symm, hbel⟩
  · have hd : decide (l = m) = false := by rw [decide_eq_false]; rintro rfl; omega
    rw [hd]
    have g1 : ((n : Int) != (n' : Int)) = true := by simpa using (by omega : ¬ (n : Int) = n')
    have g2 : (n != n') = true := by simpa using hnn
    clear hl hm hr hr' hd
    go_enter Tryd.func47, Tryd.ntmps47
    go_wp2_with fail
    go_ret
    exact ⟨rfl, Below.refl _ _⟩
end Go.Proofs.YtcbliliinmfnjaaDoor.Ace

end
section
set_option linter.unusedVariables false
set_option linter.unusedSimpArgs false
namespace Go.Proofs.YtcbliliinmfnjaaDoor.Ace
open Go.RowKit Mem Rw Base

theorem info_parts2 {P : Program} {e : TypeId} {z : Value} {s b : Nat} (h : (P.info? e).map (fun i => (i.zero, i.size, i.bytes)) = some (some z, s, b)) (hz : z.cells.size = s) : ∃ i, P.info? e = some i ∧ i.zero = some z ∧ i.size = s ∧ i.bytes = b ∧ z.cells.size = s := by
  cases hq : P.info? e with
  | none => rw [hq] at h; cases h
  | some i =>
    rw [hq] at h
    simp only [Option.map_some, Option.some.injEq, Prod.mk.injEq] at h
    exact ⟨i, rfl, h.1, h.2.1, h.2.2, hz⟩
/-- A call returns a list in memory of its own. -/
def Row (w w' : World) (e : Ending) (l : List (Int × Int)) : Prop := ∃ A c, e = .returned (.slice A l.length c) ∧ l.length ≤ c ∧ w'.ownsRow w.heap.size 24 2 (.slice A l.length c) l.length (l.flatMap encA) ∧ Below w.heap.size w w'
/-- A call returns a list in memory of its own, and an error. -/
def Pair (w w' : World) (e : Ending) (r : List (Int × Int) × Int) : Prop := ∃ A c, e = .returned (.tuple #[.slice A r.1.length c, .int .i64 r.2]) ∧ r.1.length ≤ c ∧ w'.ownsRow w.heap.size 24 2 (.slice A r.1.length c) r.1.length (r.1.flatMap encA) ∧ Below w.heap.size w w'
theorem Row.len {w w' : World} {e : Ending} {l : List (Int × Int)} {n : Nat} (h : Row w w' e l) (hn : l.length = n) : ∃ A c, e = .returned (.slice A n c) ∧ n ≤ c ∧ w'.ownsRow w.heap.size 24 2 (.slice A n c) n (l.flatMap encA) ∧ Below w.heap.size w w' := by subst hn; exact h
theorem Pair.len {w w' : World} {e : Ending} {l : List (Int × Int)} {x : Int} {n : Nat} (h : Pair w w' e (l, x)) (hn : l.length = n) : ∃ A c, e = .returned (.tuple #[.slice A n c, .int .i64 x]) ∧ n ≤ c ∧ w'.ownsRow w.heap.size 24 2 (.slice A n c) n (l.flatMap encA) ∧ Below w.heap.size w w' := by subst hn; exact h
end Go.Proofs.YtcbliliinmfnjaaDoor.Ace

end
section
set_option linter.unusedVariables false
set_option linter.unusedSimpArgs false
namespace Go.Proofs.YtcbliliinmfnjaaDoor.Ace
open Go.RowKit Mem Rw Base

end Go.Proofs.YtcbliliinmfnjaaDoor.Ace

end
