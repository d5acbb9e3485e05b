/- Writing a map into bytes, and reading it from bytes: contracts over the program. -/
import Derived.Test.YtkpjpjjpjpimiaaDoorChmCheck
import Derived.Test.YtkpjpjjpjpimiaaDoorAdrOct
import Derived.Laws.OwnMore
set_option linter.unusedVariables false
set_option linter.unusedSimpArgs false
namespace Go.Proofs.YtkpjpjjpjpimiaaDoor.Chm
open Go.RowKit Mem Oct Base

def encR (m : Nat) : List Int × Int := if okM m = 0 then (numL 5 m, 0) else ([], okM m)
theorem okM_bd {m : Nat} (h : okM m = 0) : m < 137438953472 ∧ 2 ≤ (chans m).length := by
  unfold okM at h
  split at h
  · cases h
  · split at h
    · cases h
    · omega
theorem okM_cases (m : Nat) : okM m = 0 ∨ okM m = 1 ∨ okM m = 5 := by unfold okM; split <;> (try split) <;> simp
theorem put5 {m : Nat} (h : m < 137438953472) : putR [(5, (m : Int))] = (numL 5 m, 0) := by
  rw [putR_good (by simp [okF]; rw [show Ser.p2 40 = 1099511627776 by decide]; omega)]
  simp [putL]
theorem encode_any (m : Nat) (w : World) (hm : m ≤ 18446744073709551615) :
    Calls Tryd.prog 27 #[.int .u64 m] w fun e w' => Gives w w' e (encR m) := by
  have HC := Lib.hid fun w => check_any m w hm
  by_cases h : okM m = 0
  · have hR : Hid (encR m = putR [(5, (m : Int))]) := Lib.hid (by unfold encR; rw [if_pos h, put5 (okM_bd h).1])
    obtain ⟨r, hr⟩ : ∃ r, encR m = r := ⟨_, rfl⟩
    rw [hr] at hR ⊢
    rw [h] at HC
    clear hr h
    go_enter Tryd.func27, Tryd.ntmps27
    go_wp2_with (go_at_call 12; refine (HC.out _).mono ?_; rintro e w1 ⟨rfl, rfl⟩)
    have hF : FldsAt (w.alloc (.cells #[.int .i64 5, .int .u64 m] 55)) (w.alloc (.cells #[.int .i64 5, .int .u64 m] 55)).heap.size (some ⟨w.heap.size, 0, none⟩) [(5, (m : Int))] := by
      refine .inr ⟨w.heap.size, 0, rfl, by simp, fun j f hj => ?_⟩
      have B := Blk.fresh w 55 #[.int .i64 5, .int .u64 m]
      match j, hj with
      | 0, hj => cases hj; exact ⟨B.cell 0, B.cell 1⟩
      | j + 1, hj => simp at hj
    have hfs : Fields [(5, (m : Int))] := by
      intro f hf; simp at hf
      subst hf
      exact ⟨by simp, by simp; omega⟩
    refine (put_any _ 1 1 [(5, (m : Int))] _ hfs rfl (by omega) hF).mono ?_
    intro e w2 m2
    rw [← hR.out] at m2
    obtain ⟨A2, c2, rfl, own2, b2⟩ := m2
    have hB2 : Below w.heap.size w w2 := (((Below.refl w.heap.size w).alloc (Nat.le_refl _) (.cells #[.int .i64 5, .int .u64 m] 55)).trans (b2.mono (by simp)))
    have own3 := own_base own2 (base' := w.heap.size) (by simp)
    clear hR
    go_wp2_with fail
    go_ret2
    exact ⟨A2, c2, rfl, own3, hB2⟩
  · have hR : Hid (encR m = ([], okM m)) := Lib.hid (by unfold encR; rw [if_neg h])
    have hne : (okM m != 0) = true := by simpa using h
    clear h
    generalize okM m = k at *
    go_enter Tryd.func27, Tryd.ntmps27
    go_wp2_with (go_at_call 12; refine (HC.out _).mono ?_; rintro e w1 ⟨rfl, rfl⟩)
    go_ret2
    exact gives_of hR.out rfl rfl (World.ownsRow_nil _ _ _ _) (Below.refl _ _)
def decR (xs : List Int) : Int × Int := if xs.length < 5 then (0, 3) else if 5 < xs.length then (0, 2) else if okM (valL xs).toNat = 0 then (valL xs, 0) else (0, okM (valL xs).toNat)
theorem take5_short {xs : List Int} (h : xs.length < 5) : takeR xs [5] = ([], [], 3) := takeR_short (by decide) (by show (xs.length : Int) < 5; omega)
theorem take5_good {xs : List Int} (h : ¬ xs.length < 5) : takeR xs [5] = ([valL (xs.take 5)], xs.drop 5, 0) := by
  rw [takeR_good (by decide) (by show ¬ (xs.length : Int) < 5; omega)]
  simp [numsL, sumZ, valL]
theorem own_cell0 {w : World} {base g c : Nat} {x : Value} {e : TypeId} (h : w.ownsRow base e 1 (.slice (some ⟨g, 0, none⟩) 1 c) 1 [x]) : w.cell? ⟨g, 0, none⟩ = some x := by
  rcases h.2 with ⟨h', _⟩ | ⟨g', cap', cur, h', hb, hg, hnc, hcm, hcs, htake⟩
  · simp at h'
  · simp only [Value.slice.injEq, Option.some.injEq, Addr.mk.injEq, and_true, true_and] at h'
    obtain ⟨rfl, rfl⟩ := h'
    rw [cell_of_row w g 0 cur e (0, 0) hg]
    have h1 := congrArg (fun l => l[0]?) htake
    simpa [List.getElem?_take] using h1
theorem decode_any (A : Option Addr) (n c : Nat) (xs : List Int) (w : World) (hx : xs.length = n) (hnc : n ≤ c) (hn : n ≤ 140737488351232) (bxs : Bytes xs) (hr : Ints .u8 w w.heap.size A xs) :
    Calls Tryd.prog 29 #[.slice A n c] w fun e w' => e = .returned (.tuple #[.int .u64 (decR xs).1, .int .i64 (decR xs).2]) ∧ Below w.heap.size w w' := by
  have hB : Below w.heap.size w (w.alloc (.cells #[.int .i64 5] 3)) := (Below.refl _ _).alloc (Nat.le_refl _) _
  have L2 := lit1 .i64 w [5] #[.int .i64 5] 3 rfl
  have hr1 := kept hr (.cells #[.int .i64 5] 3)
  have hbs : Sizes [5] := by intro z hz; simp at hz; omega
  have HT := Lib.hid (take_any A (some ⟨w.heap.size, 0, none⟩) n 1 c 1 xs [5] _ hx rfl hnc hn (by omega) bxs hbs hr1 L2)
  by_cases h1 : n < 5
  · rw [show decR xs = (0, 3) by unfold decR; rw [if_pos (by omega)]]
    rw [take5_short (by omega)] at HT
    go_enter Tryd.func29, Tryd.ntmps29
    go_wp2_with (go_at_call 42; refine HT.out.mono ?_; rintro e w1 ⟨A3, c3, A4, c4, rfl, own3, own4, b1⟩)
    go_ret2
    exact ⟨rfl, thenB hB (b1.mono (by simp))⟩
  · rw [take5_good (by omega)] at HT
    by_cases h2 : 5 < n
    · rw [show decR xs = (0, 2) by unfold decR; rw [if_neg (by omega), if_pos (by omega)]]
      have hd5 : (xs.drop 5).length = n - 5 := by simp; omega
      have hgt : (0 : Int) < ((n - 5 : Nat) : Int) := by omega
      have hgt2 : 0 < n - 5 := by omega
      generalize valL (xs.take 5) = V at *
      generalize xs.drop 5 = R at *
      generalize n - 5 = q at *
      go_enter Tryd.func29, Tryd.ntmps29
      go_wp2_with (go_at_call 42; refine HT.out.mono ?_; rintro e w1 ⟨A3, c3, A4, c4, rfl, own3, own4, b1⟩; simp only [hd5])
      go_ret2
      exact ⟨rfl, thenB hB (b1.mono (by simp))⟩
    · have h5 : xs.length = 5 := by omega
      have bv := valL_bd bxs
      rw [h5, show Ser.p2 (8 * 5) = 1099511627776 by decide] at bv
      have hv : xs.take 5 = xs := List.take_of_length_le (by omega)
      have hd5 : xs.drop 5 = [] := List.drop_of_length_le (by omega)
      rw [hv, hd5] at HT
      obtain ⟨v, hve⟩ := Int.eq_ofNat_of_zero_le bv.1
      have HC := Lib.hid fun w => check_any v w (by omega)
      have hdr : decR xs = if okM v = 0 then ((v : Int), 0) else (0, okM v) := by
        unfold decR; rw [if_neg (by omega), if_neg (by omega), hve]; rfl
      rw [hdr]
      rw [hve] at HT
      clear hdr bv hv hd5 hve
      by_cases h : okM v = 0
      · rw [if_pos h]
        rw [h] at HC
        clear h
        go_enter Tryd.func29, Tryd.ntmps29
        go_wp2_with (first
          | (go_at_call 42; refine HT.out.mono ?_; rintro e w1 ⟨A3, c3, A4, c4, rfl, own3, own4, b1⟩; obtain ⟨g3, rfl, hg3, hl3⟩ := own_block own3 (by simp); have hc3 : w1.cell? ⟨g3, 0, none⟩ = some (.int .u64 (v : Int)) := own_cell0 own3)
          | (go_at_call 12; refine (HC.out _).mono ?_; rintro e w2 ⟨rfl, rfl⟩))
        go_ret2
        exact ⟨rfl, thenB hB (b1.mono (by simp))⟩
      · rw [if_neg h]
        have hne : (okM v != 0) = true := by simpa using h
        clear h
        generalize okM v = k at *
        go_enter Tryd.func29, Tryd.ntmps29
        go_wp2_with (first
          | (go_at_call 42; refine HT.out.mono ?_; rintro e w1 ⟨A3, c3, A4, c4, rfl, own3, own4, b1⟩; obtain ⟨g3, rfl, hg3, hl3⟩ := own_block own3 (by simp); have hc3 : w1.cell? ⟨g3, 0, none⟩ = some (.int .u64 (v : Int)) := own_cell0 own3)
          | (go_at_call 12; refine (HC.out _).mono ?_; rintro e w2 ⟨rfl, rfl⟩))
        go_ret2
        exact ⟨rfl, thenB hB (b1.mono (by simp))⟩
end Go.Proofs.YtkpjpjjpjpimiaaDoor.Chm
