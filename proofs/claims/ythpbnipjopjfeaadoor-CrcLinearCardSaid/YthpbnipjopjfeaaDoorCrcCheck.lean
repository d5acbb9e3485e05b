/- Checking and inverting bits: contracts over the program. -/
import Derived.Test.YthpbnipjopjfeaaDoorCrcWalks2
set_option linter.unusedVariables false
set_option linter.unusedSimpArgs false
namespace Go.Proofs.YthpbnipjopjfeaaDoor.Crc
open Go.RowKit Mem Oct Base

/-- What Check answers: the bytes, and the number of the error (0 none, 3 too short, 10 a wrong checksum). -/
def chkR (q : Nat) (zs : List Int) : List Int × Int :=
  if zs.length < 3 then ([], 3) else if zs.drop (zs.length - 3) = tailL (sumN q (zs.take (zs.length - 3))) then (zs.take (zs.length - 3), 0) else ([], 10)
theorem chkR_short {q : Nat} {zs : List Int} (h : zs.length < 3) : chkR q zs = ([], 3) := by unfold chkR; rw [if_pos h]
theorem chkR_good {q : Nat} {zs : List Int} (h : ¬ zs.length < 3) (e : zs.drop (zs.length - 3) = tailL (sumN q (zs.take (zs.length - 3)))) : chkR q zs = (zs.take (zs.length - 3), 0) := by unfold chkR; rw [if_neg h, if_pos e]
theorem chkR_bad {q : Nat} {zs : List Int} (h : ¬ zs.length < 3) (e : ¬ zs.drop (zs.length - 3) = tailL (sumN q (zs.take (zs.length - 3)))) : chkR q zs = ([], 10) := by unfold chkR; rw [if_neg h, if_neg e]
/-- What a call hands back: a slice that reads so, and a number. -/
def Gives (w w' : World) (e : Ending) (r : List Int × Int) : Prop :=
  ∃ A c, e = .returned (.tuple #[.slice A r.1.length c, .int .i64 r.2]) ∧ Ints .u8 w' w'.heap.size A r.1 ∧ Below w.heap.size w w'
theorem Gives.of {w w' : World} {e : Ending} {r : List Int × Int} {l : List Int} {n : Int} (hr : r = (l, n)) (h : ∃ A m c, l.length = m ∧ e = .returned (.tuple #[.slice A m c, .int .i64 n]) ∧ Ints .u8 w' w'.heap.size A l ∧ Below w.heap.size w w') : Gives w w' e r := by
  obtain ⟨A, m, c, rfl, h1, h2, h3⟩ := h
  subst hr
  exact ⟨A, c, h1, h2, h3⟩
theorem check_any (r : Int) (A : Option Addr) (n c : Nat) (zs : List Int) (w : World) (hr : 0 ≤ r ∧ r ≤ 4294967295) (hz : zs.length = n) (hc : n ≤ c) (bz : Bytes zs) (hi : Ints .u8 w w.heap.size A zs) (hn : n ≤ 1048576) (hT : Tab w) :
    Calls Tryd.prog 16 #[.int .u32 r, .slice A n c] w fun e w' => Gives w w' e (chkR (ini r) zs) := by
  by_cases h3 : n < 3
  · have H : Hid (chkR (ini r) zs = ([], 3)) := Lib.hid (chkR_short (by omega))
    have c3 : ((n : Int) < 3) := by omega
    go_enter Tryd.func16, Tryd.ntmps16
    go_wp2_with fail
    go_ret2
    exact Gives.of H.out ⟨_, 0, _, rfl, rfl, Ints.nil_ _, Below.refl _ _⟩
  · obtain ⟨m, hm⟩ : ∃ m, n - 3 = m := ⟨_, rfl⟩
    have hnm : n = m + 3 := by omega
    have HP : Hid ((zs.take m).length = m) := Lib.hid (by rw [List.length_take]; omega)
    have HD : Hid ((zs.drop m).length = 3) := Lib.hid (by rw [List.length_drop]; omega)
    have bp := bytes_take bz m
    have bd := bytes_drop bz m
    have hl : sumN (ini r) (zs.take m) < 16777216 := sumN_lt _ _ (ini_lt r) bp
    have bt := tail_bytes _ hl
    have i1 : Ints .u8 w w.heap.size A (zs.take m) := hi.pre
    have i2 := hi.cut (c := c) (i := m) (by omega) (by omega)
    have hg : ¬ zs.length < 3 := by omega
    have e1 : zs.length - 3 = m := by omega
    have HG : Hid (zs.drop m = tailL (sumN (ini r) (zs.take m)) → chkR (ini r) zs = (zs.take m, 0)) := Lib.hid (fun e => by have := chkR_good (q := ini r) hg (by rw [e1]; exact e); rw [e1] at this; exact this)
    have HB : Hid (¬ zs.drop m = tailL (sumN (ini r) (zs.take m)) → chkR (ini r) zs = ([], 10)) := Lib.hid (fun e => chkR_bad (q := ini r) hg (by rw [e1]; exact e))
    have g0 : decide (((m : Int) + 3) < 3) = false := by simp; omega
    have g1 : (0 : Int) ≤ (m : Int) := by omega
    have g2 : (m : Int) ≤ (c : Int) := by omega
    have g3 : (m : Int) + 3 - 3 = (m : Int) := by omega
    have g4 : (m : Int) ≤ (m : Int) + 3 := by omega
    have g5 : (m : Int) + 3 ≤ (c : Int) := by omega
    clear hm hg e1 h3
    subst hnm
    have HZ := Lib.hid hz
    clear hz
    go_enter Tryd.func16, Tryd.ntmps16
    go_wp2_with fail
    go_quiet (fail)
    rw [if_neg (by omega)] at i2
    have hb0 : Below w.heap.size w (w.drewN nq) := ⟨rfl, rfl, rfl, Nat.le_refl _, fun _ _ => rfl⟩
    generalize w.drewN nq = w1 at *
    have j1 := later i1 hb0
    have j2 := later i2 hb0
    have T1 := hT.below hb0
    clear i1 i2 hT
    generalize Option.map (fun x => x.add m) A = A' at *
    go_wp2_with fail
    refine (checksum_any r A m c (zs.take m) _ hr HP.out bp j1 (by omega) T1).mono ?_
    intro e w3 m3
    obtain ⟨A3, c3, rfl, k3, j3, b3⟩ := m3.len (tail_len _)
    clear m3
    by_cases he : zs.drop m = tailL (sumN (ini r) (zs.take m))
    · have hd : decide (zs.drop m = tailL (sumN (ini r) (zs.take m))) = true := by simpa using he
      have HR := Lib.hid (HG.out he)
      clear HG HB he
      go_wp2_with fail
      refine (equal_any A' A3 3 3 (c - m) c3 (zs.drop m) (tailL (sumN (ini r) (zs.take m))) _ HD.out (tail_len _) bd bt (later j2 b3) j3).mono ?_
      rintro e w4 ⟨rfl, rfl⟩
      rw [hd]
      go_wp2_with fail
      refine (clone_any A m c (zs.take m) _ HP.out (later j1 b3) (by omega)).mono ?_
      intro e w5 m5
      obtain ⟨A5, c5, rfl, k5, j5, b5⟩ := m5.read HP.out
      go_wp2_with fail
      go_ret2
      exact Gives.of HR.out ⟨A5, m, c5, HP.out, rfl, j5, thenB (thenB hb0 b3) b5⟩
    · have hd : decide (zs.drop m = tailL (sumN (ini r) (zs.take m))) = false := by simpa using he
      have HR := Lib.hid (HB.out he)
      clear HG HB he
      go_wp2_with fail
      refine (equal_any A' A3 3 3 (c - m) c3 (zs.drop m) (tailL (sumN (ini r) (zs.take m))) _ HD.out (tail_len _) bd bt (later j2 b3) j3).mono ?_
      rintro e w4 ⟨rfl, rfl⟩
      rw [hd]
      go_wp2_with fail
      go_ret2
      exact Gives.of HR.out ⟨none, 0, 0, rfl, rfl, Ints.nil_ _, thenB hb0 b3⟩
set_option maxHeartbeats 2000000 in
theorem rcheck_any (r : Int) (A : Option Addr) (n c : Nat) (zs : List Int) (w : World) (hr : 0 ≤ r ∧ r ≤ 4294967295) (hz : zs.length = n) (hc : n ≤ c) (bz : Bytes zs) (hi : Ints .u8 w w.heap.size A zs) (hn : n ≤ 1048576) :
    Calls Tryd.prog 17 #[.int .u32 r, .slice A n c] w fun e w' => Gives w w' e (chkR (ini r) zs) := by
  by_cases h3 : n < 3
  · have H : Hid (chkR (ini r) zs = ([], 3)) := Lib.hid (chkR_short (by omega))
    have c3 : ((n : Int) - 3 < 0) := by omega
    go_enter Tryd.func17, Tryd.ntmps17
    go_wp2_with fail
    go_ret2
    exact Gives.of H.out ⟨_, 0, _, rfl, rfl, Ints.nil_ _, Below.refl _ _⟩
  · obtain ⟨i0, hi0, hz0, hz1, hz2⟩ := info_parts info_u8
    obtain ⟨m, hm⟩ : ∃ m, n - 3 = m := ⟨_, rfl⟩
    have hnm : n = m + 3 := by omega
    have HP : Hid ((zs.take m).length = m) := Lib.hid (by rw [List.length_take]; omega)
    have HD : Hid ((zs.drop m).length = 3) := Lib.hid (by rw [List.length_drop]; omega)
    have bp := bytes_take bz m
    have bd := bytes_drop bz m
    have hl : sumN (ini r) (zs.take m) < 16777216 := sumN_lt _ _ (ini_lt r) bp
    have bt := tail_bytes _ hl
    have i1 : Ints .u8 w w.heap.size A (zs.take m) := hi.pre
    have i2 := hi.cut (c := c) (i := m) (by omega) (by omega)
    have hg : ¬ zs.length < 3 := by omega
    have e1 : zs.length - 3 = m := by omega
    have HG : Hid (zs.drop m = tailL (sumN (ini r) (zs.take m)) → chkR (ini r) zs = (zs.take m, 0)) := Lib.hid (fun e => by have := chkR_good (q := ini r) hg (by rw [e1]; exact e); rw [e1] at this; exact this)
    have HB : Hid (¬ zs.drop m = tailL (sumN (ini r) (zs.take m)) → chkR (ini r) zs = ([], 10)) := Lib.hid (fun e => chkR_bad (q := ini r) hg (by rw [e1]; exact e))
    have g0 : decide ((m : Int) < 0) = false := by simp
    have g1 : (0 : Int) ≤ (m : Int) := by omega
    have g2 : (m : Int) ≤ (c : Int) := by omega
    have g3 : (m : Int) + 3 - 3 = (m : Int) := by omega
    have g4 : (m : Int) ≤ (m : Int) + 3 := by omega
    have g5 : (m : Int) + 3 ≤ (c : Int) := by omega
    clear hm hg e1 h3
    subst hnm
    rw [if_neg (by omega)] at i2
    have HZ := Lib.hid hz
    clear hz
    by_cases he : zs.drop m = tailL (sumN (ini r) (zs.take m))
    · have hs := str_eq bd bt
      rw [decide_eq_true he] at hs
      have HR := Lib.hid (HG.out he)
      clear HG HB he
      go_enter Tryd.func17, Tryd.ntmps17
      go_wp2_with fail
      have hb0 : Below w.heap.size w w.drew := ⟨rfl, rfl, rfl, Nat.le_refl _, fun _ _ => rfl⟩
      have kf : ∀ w' : World, Below w.heap.size w w' → (convert 23 9 (.slice (Option.map (fun x => x.add m) A) 3 (c - m))).run Tryd.prog w' = .ok (.string (strOfNums (zs.drop m))) w' := fun w' hb => run_string_ints (P := Tryd.prog) 23 5 Tryd.underlying23 Tryd.underlying5 Tryd.underlying9 w'.heap.size _ 3 (c - m) (zs.drop m) HD.out (later i2 hb)
      have j1 : Ints .u8 w.drew w.drew.heap.size A (zs.take m) := later i1 hb0
      have kf0 := kf _ hb0
      go_region_with (first
        | (go_at_call 30; refine (tail_any _ _ hl).mono ?_; intro e w3 m3; obtain ⟨A3, c3, rfl, k3, j3, b3⟩ := m3.len (tail_len _); clear m3; have kt := run_string_ints (P := Tryd.prog) 23 5 Tryd.underlying23 Tryd.underlying5 Tryd.underlying9 w3.heap.size A3 3 c3 _ (tail_len _) j3; have kf3 := kf _ (thenB hb0 b3))
        | (go_at_call 13; refine (rsum_any r A m c (zs.take m) _ hr HP.out bp (by exact j1) (by omega)).mono ?_; rintro e w2 ⟨rfl, rfl⟩))
      all_goals
        go_wp2_with (at_builtin; refine wpList_append_ints rfl _ _ 23 rfl .u8 w3.heap.size 5 i0 _ 1 Tryd.underlying23 hi0 hz0 hz1 hz2 rfl (.slice (some ⟨w3.heap.size, 0, none⟩) 0 0) 0 [] rfl (World.ownsRow_made _ _ 0 (Nat.le_refl _) (by unfold maxLen; omega) rfl) w3.heap.size A m c (zs.take m) rfl HP.out ?c1 ?c2 ?c3 ?c4 ?_; (case c1 => exact (later j1 b3).alloc (Nat.le_refl _) _); (case c2 => unfold maxLen; omega); (case c3 => omega); (case c4 => simp); intro v2 w4 o4 b4 _; obtain ⟨A4, c4, rfl⟩ := own_form o4; simp only [Nat.zero_add, List.nil_append] at o4)
        go_ret2
        exact Gives.of HR.out ⟨A4, m, c4, HP.out, by simp, Ints.own o4, (thenB hb0 b3).trans (((Below.refl _ _).alloc (thenB hb0 b3).size _).trans (b4.mono (thenB hb0 b3).size))⟩
    · have hs := str_eq bd bt
      rw [decide_eq_false he] at hs
      have HR := Lib.hid (HB.out he)
      clear HG HB he
      go_enter Tryd.func17, Tryd.ntmps17
      go_wp2_with fail
      have hb0 : Below w.heap.size w w.drew := ⟨rfl, rfl, rfl, Nat.le_refl _, fun _ _ => rfl⟩
      have kf : ∀ w' : World, Below w.heap.size w w' → (convert 23 9 (.slice (Option.map (fun x => x.add m) A) 3 (c - m))).run Tryd.prog w' = .ok (.string (strOfNums (zs.drop m))) w' := fun w' hb => run_string_ints (P := Tryd.prog) 23 5 Tryd.underlying23 Tryd.underlying5 Tryd.underlying9 w'.heap.size _ 3 (c - m) (zs.drop m) HD.out (later i2 hb)
      have j1 : Ints .u8 w.drew w.drew.heap.size A (zs.take m) := later i1 hb0
      have kf0 := kf _ hb0
      go_region_with (first
        | (go_at_call 30; refine (tail_any _ _ hl).mono ?_; intro e w3 m3; obtain ⟨A3, c3, rfl, k3, j3, b3⟩ := m3.len (tail_len _); clear m3; have kt := run_string_ints (P := Tryd.prog) 23 5 Tryd.underlying23 Tryd.underlying5 Tryd.underlying9 w3.heap.size A3 3 c3 _ (tail_len _) j3; have kf3 := kf _ (thenB hb0 b3))
        | (go_at_call 13; refine (rsum_any r A m c (zs.take m) _ hr HP.out bp (by exact j1) (by omega)).mono ?_; rintro e w2 ⟨rfl, rfl⟩))
      all_goals
        go_wp2_with fail
        go_ret2
        exact Gives.of HR.out ⟨none, 0, 0, rfl, rfl, Ints.nil_ _, thenB hb0 b3⟩
end Go.Proofs.YthpbnipjopjfeaaDoor.Crc
