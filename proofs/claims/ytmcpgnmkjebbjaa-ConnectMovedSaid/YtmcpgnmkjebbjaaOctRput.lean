/- Fields to bytes in the specification: a contract over the program. -/
import Derived.Test.YtmcpgnmkjebbjaaOctPut
set_option linter.unusedVariables false
set_option linter.unusedSimpArgs false
namespace Go.Proofs.Ytmcpgnmkjebbjaa.Oct
open Go.RowKit Mem

theorem low_fits {s v : Int} (hs : 1 ≤ s ∧ s ≤ 8) (hv : 0 ≤ v ∧ v ≤ 18446744073709551615) (h : v < Ser.p2 (8 * s.toNat)) : Ser.lowZ v (8 * s) = v := by
  have e : Ser.keep (8 * s) = 8 * s.toNat := by unfold Ser.keep; omega
  unfold Ser.lowZ; rw [e, Int.emod_eq_of_lt hv.1 h]
theorem low_not {s v : Int} (hs : 1 ≤ s ∧ s ≤ 8) (hv : 0 ≤ v ∧ v ≤ 18446744073709551615) (h : ¬ v < Ser.p2 (8 * s.toNat)) : Ser.lowZ v (8 * s) ≠ v := by
  have e : Ser.keep (8 * s) = 8 * s.toNat := by unfold Ser.keep; omega
  unfold Ser.lowZ; rw [e]
  have := Int.emod_lt_of_pos v (show 0 < Ser.p2 (8 * s.toNat) by have := Ser.p2_pos (8 * s.toNat); omega)
  omega
theorem below_draws {B : Nat} {w w' : World} (h : Below B w w') (n : Nat) : Below B w (w'.drewN n) := h.trans ⟨rfl, rfl, rfl, Nat.le_refl _, fun _ _ => rfl⟩
theorem rput_any (A : Option Addr) (n c : Nat) (fs : List (Int × Int)) (w : World) (hf : Fields fs) (hl : fs.length = n) (hn : n ≤ 8796093022208) (hr : FldsAt w w.heap.size A fs) :
    Calls Try.prog 44 #[.slice A n c] w fun e w' => Gives w w' e (putR fs) := by
  obtain ⟨i0, hi, hz0, hz1, hz2⟩ := info_parts info_u8
  have HL := Lib.hid hl
  clear hl
  go_enter Try.func44, Try.ntmps44
  go_wp2_with fail
  go_loopw [4, 5] (fun v i wr => ∃ k : Nat, k ≤ n ∧ i = .int .i64 k ∧ wr.ownsRow w.heap.size 5 1 v (putL (fs.take k)).length ((putL (fs.take k)).map (Value.int .u8)) ∧ (fs.take k).all okF = true ∧ Below w.heap.size w wr) (fun _ i _ => n - (intOf i).toNat)
  case atStart => exact ⟨0, by omega, rfl, World.ownsRow_made _ _ 0 (Nat.le_refl _) (by unfold maxLen; omega) rfl, rfl, (Below.refl _ _).alloc (Nat.le_refl _) _⟩
  case round =>
    obtain ⟨k, hk, rfl, hown, hok, hbel⟩ := hrel
    by_cases c1 : k < n
    · obtain ⟨f, hfk⟩ : ∃ f, fs[k]? = some f := ⟨fs[k]'(by rw [HL.out]; omega), List.getElem?_eq_getElem _⟩
      rcases hr.below hbel with h | ⟨b, off, rfl, hlt, hc⟩
      · exfalso; rw [h] at hfk; simp at hfk
      obtain ⟨f1, f2⟩ := hc k f hfk
      clear hc
      have hff := hf f (List.mem_of_getElem? hfk)
      obtain ⟨s, v⟩ := f
      simp only at f1 f2 hff
      have HFK := Lib.hid hfk
      have HOK := Lib.hid hok
      clear hfk hok
      have hbl : Blk (wr.alloc (.cells #[.int .i64 s, .int .u64 v] 96)) wr.heap.size 96 #[.int .i64 s, .int .u64 v] := Blk.fresh _ _ _
      have hb0 := hbel.alloc hbel.size (.cells #[.int .i64 s, .int .u64 v] 96)
      have ho0 := hown.alloc (.cells #[.int .i64 s, .int .u64 v] 96)
      have HTL := putL_len_le fs k HOK.out
      have q8 : (1 ≤ s ∧ s ≤ 8) → IntKind.i64.wrap (8 * s) = 8 * s := fun h => IntWalk.i64_in _ (by omega)
      have hl0 : (1 ≤ s ∧ s ≤ 8) → 0 ≤ 8 * s ∧ 8 * s ≤ 64 := fun h => by omega
      by_cases d1 : s < 1
      · have HR : Hid (putR fs = ([], 5)) := Lib.hid (putR_bad HFK.out (by unfold okF; simp; omega))
        clear q8 hl0
        go_wp2_with fail
        go_quiet (fail)
        go_wp2_with fail
        go_ret2
        exact gives_of HR.out rfl rfl (World.ownsRow_nil _ _ _ _) (below_draws hb0 _)
      · have d1' : decide (s < 1) = false := by simpa using d1
        by_cases d2 : 8 < s
        · have HR : Hid (putR fs = ([], 5)) := Lib.hid (putR_bad HFK.out (by unfold okF; simp; omega))
          clear q8 hl0
          go_wp2_with fail
          go_quiet (fail)
          go_wp2_with fail
          go_ret2
          exact gives_of HR.out rfl rfl (World.ownsRow_nil _ _ _ _) (below_draws hb0 _)
        · have d2' : decide (8 < s) = false := by simpa using d2
          have hs : 1 ≤ s ∧ s ≤ 8 := by omega
          have q8' := q8 hs
          clear q8 hl0
          by_cases d3 : v < Ser.p2 (8 * s.toNat)
          · have d4 : (Ser.lowZ v (8 * s) != v) = false := by rw [low_fits hs hff.2 d3]; simp
            have HO : Hid (okF (s, v) = true) := Lib.hid (by unfold okF; simp [hs, d3])
            clear d3
            go_wp2_with fail
            go_quiet ((go_at_call 69; exact Calls.quiet_of_same ((Ser.rlow_any _ _ _ (by omega) (by omega) (by omega)).mono fun _ _ ⟨a, b⟩ => ⟨a, b.symm⟩)))
            clear q8'
            have hb1 := below_draws hb0 nq
            have hbl1 : Blk ((wr.alloc (.cells #[.int .i64 s, .int .u64 v] 96)).drewN nq) wr.heap.size 96 #[.int .i64 s, .int .u64 v] := hbl
            have ho1 : ((wr.alloc (.cells #[.int .i64 s, .int .u64 v] 96)).drewN nq).ownsRow w.heap.size 5 1 u4 (putL (fs.take k)).length ((putL (fs.take k)).map (Value.int .u8)) := ho0
            generalize (wr.alloc (.cells #[.int .i64 s, .int .u64 v] 96)).drewN nq = wq at *
            have g1 : wq.cell? ⟨wr.heap.size, 0, none⟩ = some (.int .i64 s) := hbl1.cell 0
            have g2 : wq.cell? ⟨wr.heap.size, 1, none⟩ = some (.int .u64 v) := hbl1.cell 1
            clear hbl ho0 hb0
            have HSN := Lib.hid (putL_snoc HFK.out)
            have HAF := Lib.hid (allF_snoc HFK.out HOK.out HO.out)
            have hnl := numL_len s.toNat v
            have hsn : s.toNat ≤ 8 := by omega
            go_wp2_with (first | (go_at_call 70; refine (rnum_any _ _ _ (by omega) (by omega)).mono ?_; rintro e w3 ⟨A3, c3, rfl, hown3, hb3⟩) | (at_builtin; refine wpList_append_ints rfl _ _ 34 rfl .u8 w.heap.size 5 i0 _ 1 Try.underlying34 hi hz0 hz1 hz2 rfl _ _ _ rfl (own_below ho1 hb3) w3.heap.size A3 s.toNat c3 (numL s.toNat v) rfl hnl ?c1 ?c2 ?c3 ?c4 ?_; (case c1 => exact Ints.own hown3); (case c2 => unfold maxLen; omega); (case c3 => omega); (case c4 => exact Nat.le_trans hb1.size hb3.size); intro v4 w4 hown4 hb4 _))
            go_roundw
            case rel => exact ⟨k + 1, by omega, by go_num, by rw [HSN.out, List.length_append, List.map_append, numL_len]; exact hown4, HAF.out, (hb1.trans (hb3.mono hb1.size)).trans hb4⟩
            case measure => simp [intOf]; omega
          · have d4 : (Ser.lowZ v (8 * s) != v) = true := by have := low_not hs hff.2 d3; simpa using this
            have HR : Hid (putR fs = ([], 5)) := Lib.hid (putR_bad HFK.out (by unfold okF; simp; omega))
            clear d3
            go_wp2_with fail
            go_quiet ((go_at_call 69; exact Calls.quiet_of_same ((Ser.rlow_any _ _ _ (by omega) (by omega) (by omega)).mono fun _ _ ⟨a, b⟩ => ⟨a, b.symm⟩)))
            go_wp2_with fail
            go_ret2
            exact gives_of HR.out rfl rfl (World.ownsRow_nil _ _ _ _) (below_draws hb0 _)
    · have hkn : k = n := by omega
      have HT : Hid (fs.take k = fs) := Lib.hid (List.take_of_length_le (by rw [HL.out]; omega))
      rw [HT.out] at hown hok
      have HR := Lib.hid (putR_good hok)
      clear hok hkn
      go_wp2_with fail
      go_ret2
      exact gives_of HR.out rfl rfl hown hbel
end Go.Proofs.Ytmcpgnmkjebbjaa.Oct
