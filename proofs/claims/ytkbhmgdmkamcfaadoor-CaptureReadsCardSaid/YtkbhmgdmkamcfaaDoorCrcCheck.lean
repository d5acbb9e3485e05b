/- Checking and inverting bits: contracts over the program. -/
import Derived.Test.YtkbhmgdmkamcfaaDoorCrcWalks2
set_option linter.unusedVariables false
set_option linter.unusedSimpArgs false
namespace Go.Proofs.YtkbhmgdmkamcfaaDoor.Crc
open Go.RowKit Mem Oct Base

/-- What Check answers: the bytes, and the number of the error (0 none, 3 too short, 10 a wrong checksum). -/
def chkR (q : Nat) (zs : List Int) : List Int × Int :=
  if zs.length < 3 then ([], 3) else if zs.drop (zs.length - 3) = tailL (sumN q (zs.take (zs.length - 3))) then (zs.take (zs.length - 3), 0) else ([], 10)
theorem chkR_short {q : Nat} {zs : List Int} (h : zs.length < 3) : chkR q zs = ([], 3) := by unfold chkR; rw [if_pos h]
theorem chkR_good {q : Nat} {zs : List Int} (h : ¬ zs.length < 3) (e : zs.drop (zs.length - 3) = tailL (sumN q (zs.take (zs.length - 3)))) : chkR q zs = (zs.take (zs.length - 3), 0) := by unfold chkR; rw [if_neg h, if_pos e]
theorem chkR_bad {q : Nat} {zs : List Int} (h : ¬ zs.length < 3) (e : ¬ zs.drop (zs.length - 3) = tailL (sumN q (zs.take (zs.length - 3)))) : chkR q zs = ([], 10) := by unfold chkR; rw [if_neg h, if_neg e]
/-- What a call hands back: a slice that reads so, and a number. -/
def Gives (w w' : World) (e : Ending) (r : List Int × Int) : Prop :=
  ∃ A c, e = .returned (.tuple #[.slice A r.1.length c, .int .i64 r.2]) ∧ r.1.length ≤ c ∧ Ints .u8 w' w'.heap.size A r.1 ∧ Below w.heap.size w w'
theorem Gives.of {w w' : World} {e : Ending} {r : List Int × Int} {l : List Int} {n : Int} (hr : r = (l, n)) (h : ∃ A m c, l.length = m ∧ e = .returned (.tuple #[.slice A m c, .int .i64 n]) ∧ m ≤ c ∧ Ints .u8 w' w'.heap.size A l ∧ Below w.heap.size w w') : Gives w w' e r := by
  obtain ⟨A, m, c, rfl, h1, h0, h2, h3⟩ := h
  subst hr
  exact ⟨A, c, h1, h0, h2, h3⟩
theorem check_any (r : Int) (A : Option Addr) (n c : Nat) (zs : List Int) (w : World) (hr : 0 ≤ r ∧ r ≤ 4294967295) (hz : zs.length = n) (hc : n ≤ c) (bz : Bytes zs) (hi : Ints .u8 w w.heap.size A zs) (hn : n ≤ 1048576) (hT : Tab w) :
    Calls Tryd.prog 64 #[.int .u32 r, .slice A n c] w fun e w' => Gives w w' e (chkR (ini r) zs) := by
  by_cases h3 : n < 3
  · have H : Hid (chkR (ini r) zs = ([], 3)) := Lib.hid (chkR_short (by omega))
    have c3 : ((n : Int) < 3) := by omega
    go_enter Tryd.func64, Tryd.ntmps64
    go_wp2_with fail
    go_ret2
    exact Gives.of H.out ⟨_, 0, _, rfl, rfl, Nat.zero_le _, Ints.nil_ _, Below.refl _ _⟩
  · obtain ⟨m, hm⟩ : ∃ m, n - 3 = m := ⟨_, rfl⟩
    have hnm : n = m + 3 := by omega
    have HP : Hid ((zs.take m).length = m) := Lib.hid (by rw [List.length_take]; omega)
    have HD : Hid ((zs.drop m).length = 3) := Lib.hid (by rw [List.length_drop]; omega)
    have bp := bytes_take bz m
    have bd := bytes_drop bz m
    have hl : sumN (ini r) (zs.take m) < 16777216 := sumN_lt _ _ (ini_lt r) bp
    have bt := tail_bytes _ hl
    have i1 : Ints .u8 w w.heap.size A (zs.take m) := hi.pre
    have i2 := hi.cut (c := c) (i := m) (by omega) (by omega)
    have hg : ¬ zs.length < 3 := by omega
    have e1 : zs.length - 3 = m := by omega
    have HG : Hid (zs.drop m = tailL (sumN (ini r) (zs.take m)) → chkR (ini r) zs = (zs.take m, 0)) := Lib.hid (fun e => by have := chkR_good (q := ini r) hg (by rw [e1]; exact e); rw [e1] at this; exact this)
    have HB : Hid (¬ zs.drop m = tailL (sumN (ini r) (zs.take m)) → chkR (ini r) zs = ([], 10)) := Lib.hid (fun e => chkR_bad (q := ini r) hg (by rw [e1]; exact e))
    have g0 : decide (((m : Int) + 3) < 3) = false := by simp; omega
    have g1 : (0 : Int) ≤ (m : Int) := by omega
    have g2 : (m : Int) ≤ (c : Int) := by omega
    have g3 : (m : Int) + 3 - 3 = (m : Int) := by omega
    have g4 : (m : Int) ≤ (m : Int) + 3 := by omega
    have g5 : (m : Int) + 3 ≤ (c : Int) := by omega
    clear hm hg e1 h3
    subst hnm
    have HZ := Lib.hid hz
    clear hz
    go_enter Tryd.func64, Tryd.ntmps64
    go_wp2_with fail
    go_quiet (fail)
    rw [if_neg (by omega)] at i2
    have hb0 : Below w.heap.size w (w.drewN nq) := ⟨rfl, rfl, rfl, Nat.le_refl _, fun _ _ => rfl⟩
    generalize w.drewN nq = w1 at *
    have j1 := later i1 hb0
    have j2 := later i2 hb0
    have T1 := hT.below hb0
    clear i1 i2 hT
    generalize Option.map (fun x => x.add m) A = A' at *
    go_wp2_with fail
    refine (checksum_any r A m c (zs.take m) _ hr HP.out bp j1 (by omega) T1).mono ?_
    intro e w3 m3
    obtain ⟨A3, c3, rfl, k3, j3, b3⟩ := m3.len (tail_len _)
    clear m3
    by_cases he : zs.drop m = tailL (sumN (ini r) (zs.take m))
    · have hd : decide (zs.drop m = tailL (sumN (ini r) (zs.take m))) = true := by simpa using he
      have HR := Lib.hid (HG.out he)
      clear HG HB he
      go_wp2_with fail
      refine (equal_any A' A3 3 3 (c - m) c3 (zs.drop m) (tailL (sumN (ini r) (zs.take m))) _ HD.out (tail_len _) bd bt (later j2 b3) j3).mono ?_
      rintro e w4 ⟨rfl, rfl⟩
      rw [hd]
      go_wp2_with fail
      refine (clone_any A m c (zs.take m) _ HP.out (later j1 b3) (by omega)).mono ?_
      intro e w5 m5
      obtain ⟨A5, c5, rfl, k5, j5, b5⟩ := m5.read HP.out
      go_wp2_with fail
      go_ret2
      exact Gives.of HR.out ⟨A5, m, c5, HP.out, rfl, k5, j5, thenB (thenB hb0 b3) b5⟩
    · have hd : decide (zs.drop m = tailL (sumN (ini r) (zs.take m))) = false := by simpa using he
      have HR := Lib.hid (HB.out he)
      clear HG HB he
      go_wp2_with fail
      refine (equal_any A' A3 3 3 (c - m) c3 (zs.drop m) (tailL (sumN (ini r) (zs.take m))) _ HD.out (tail_len _) bd bt (later j2 b3) j3).mono ?_
      rintro e w4 ⟨rfl, rfl⟩
      rw [hd]
      go_wp2_with fail
      go_ret2
      exact Gives.of HR.out ⟨none, 0, 0, rfl, rfl, Nat.le_refl _, Ints.nil_ _, thenB hb0 b3⟩
end Go.Proofs.YtkbhmgdmkamcfaaDoor.Crc
