/- Reading hexadecimal text: what the functions of the layer of bytes, and of its specification, return: contracts over the program. -/
import Derived.Test.YtljgpkiakggmkaaOctHex
set_option linter.unusedVariables false
set_option linter.unusedSimpArgs false
namespace Go.Proofs.Ytljgpkiakggmkaa.Oct
open Go.RowKit Mem

/-- Bytes of the call's own and an error. -/
def Gives (w w' : World) (e : Ending) (r : List Int × Int) : Prop :=
  ∃ A c, e = .returned (.tuple #[.slice A r.1.length c, .int .i64 r.2]) ∧ w'.ownsRow w.heap.size 5 1 (.slice A r.1.length c) r.1.length (r.1.map (Value.int .u8)) ∧ Below w.heap.size w w'
theorem gives_of {w w' : World} {e : Ending} {v : Value} {n : Nat} {x : Int} {r : List Int × Int} {zs : List Int} (hr : r = (zs, x)) (he : e = .returned (.tuple #[v, .int .i64 x])) (hn : zs.length = n) (h : w'.ownsRow w.heap.size 5 1 v n (zs.map (Value.int .u8))) (hb : Below w.heap.size w w') : Gives w w' e r := by
  obtain ⟨A, c, hv⟩ := own_form h
  subst hn hr
  exact ⟨A, c, by rw [he, hv], by rw [← hv]; exact h, hb⟩
theorem unhex_any (s : ByteArray) (w : World) (hs : s.size ≤ 140737488355328) :
    Calls Try.prog 40 #[.string s] w fun e w' => Gives w w' e (unhexR (chL s)) := by
  obtain ⟨i0, hi, hz0, hz1, hz2⟩ := info_parts info_u8
  have hl := chL_len s
  by_cases hodd : s.size % 2 = 0
  · have ho : (((s.size : Int) % 2) != 0) = false := by simp; omega
    have HO := Lib.hid hodd
    have HL := Lib.hid hl
    clear hodd hl
    go_enter Try.func40, Try.ntmps40
    go_wp2_with fail
    go_loopw [4, 5] (fun v i wr => ∃ k : Nat, 2 * k ≤ s.size ∧ i = .int .i64 (2 * (k : Int)) ∧ wr.ownsRow w.heap.size 5 1 v k ((unL ((chL s).take (2 * k))).map (Value.int .u8)) ∧ okL ((chL s).take (2 * k)) = true ∧ Below w.heap.size w wr) (fun _ i _ => s.size - (intOf i).toNat)
    case atStart => exact ⟨0, by omega, rfl, World.ownsRow_nil _ _ _ _, rfl, Below.refl _ _⟩
    case round =>
      obtain ⟨k, hk, rfl, hown, hok, hbel⟩ := hrel
      have HK := Lib.hid hok
      clear hok
      by_cases c1 : 2 * k < s.size
      · have c2 : 2 * k + 1 < s.size := by have := HO.out; omega
        have e1 := chL_get s (2 * k) c1
        have e2 := chL_get s (2 * k + 1) c2
        have b1 := bytes_get (chL_bytes s) (2 * k)
        have b2 := bytes_get (chL_bytes s) (2 * k + 1)
        obtain ⟨x, hx⟩ : ∃ x, (chL s).getD (2 * k) 0 = x := ⟨_, rfl⟩
        obtain ⟨y, hy⟩ : ∃ y, (chL s).getD (2 * k + 1) 0 = y := ⟨_, rfl⟩
        rw [hx] at e1 b1
        rw [hy] at e2 b2
        have HX := Lib.hid hx
        have HY := Lib.hid hy
        clear hx hy
        cases dx : digB x
        · have HR : Hid (unhexR (chL s) = ([], 2)) := Lib.hid (unhexR_bad _ (okL_no _ (2 * k) (by rw [HL.out]; omega) (by rw [HX.out]; exact dx)))
          go_wp2_with (go_at_call 52; refine (digit_any _ _ (by omega)).mono ?_; rintro e w' ⟨rfl, rfl⟩)
          go_ret2
          exact gives_of HR.out rfl rfl (World.ownsRow_nil _ _ _ _) hbel
        · cases dy : digB y
          · have HR : Hid (unhexR (chL s) = ([], 2)) := Lib.hid (unhexR_bad _ (okL_no _ (2 * k + 1) (by rw [HL.out]; omega) (by rw [HY.out]; exact dy)))
            go_wp2_with (go_at_call 52; refine (digit_any _ _ (by omega)).mono ?_; rintro e w' ⟨rfl, rfl⟩)
            go_ret2
            exact gives_of HR.out rfl rfl (World.ownsRow_nil _ _ _ _) hbel
          · have vx := digV_bd x
            have vy := digV_bd y
            have q1 := join4 _ _ vx vy
            have HZ : Hid (16 * digV x + digV y = 16 * digZ x + digZ y) := Lib.hid (by rw [(digV_yes dx).1, (digV_yes dy).1])
            have HKS := Lib.hid (okL_step (by rw [HL.out]; omega) HK.out HX.out HY.out dx dy)
            have HUS := Lib.hid (unL_step (l := chL s) (k := k) (by rw [HL.out]; omega) HX.out HY.out HZ.out)
            go_wp2_with (first | (go_at_call 52; refine (digit_any _ _ (by omega)).mono ?_; rintro e w' ⟨rfl, rfl⟩) | (at_builtin; refine wpList_append_ints rfl _ _ 37 rfl .u8 w.heap.size 5 i0 _ 1 Try.underlying37 hi hz0 hz1 hz2 rfl _ k _ rfl (hown.alloc _) (wr.heap.size + 1) _ 1 1 [16 * digV x + digV y] rfl rfl ?c1 ?c2 ?c3 ?c4 ?_; (case c1 => exact Ints.lit _ _ _ _ _ rfl); (case c2 => unfold maxLen; omega); (case c3 => omega); (case c4 => have := hbel.size; simp; omega); intro v2 w2 hown2 hb2 _))
            go_roundw
            case rel => exact ⟨k + 1, by omega, by go_num, by rw [HUS.out]; exact hown2, HKS.out, (hbel.alloc hbel.size _).trans hb2⟩
            case measure => simp [intOf]; omega
      · have hks : 2 * k = s.size := by omega
        have HR : Hid (unhexR (chL s) = (unL (chL s), 0)) := by
          refine Lib.hid (unhexR_good _ (by rw [HL.out]; exact HO.out) ?_)
          have := HK.out
          rw [List.take_of_length_le (by rw [HL.out]; omega)] at this
          exact this
        rw [List.take_of_length_le (by rw [HL.out]; omega)] at hown
        have HN : Hid ((unL (chL s)).length = k) := Lib.hid (by rw [unL_len, HL.out]; omega)
        clear hks
        go_wp2_with fail
        go_ret2
        exact gives_of HR.out rfl HN.out hown hbel
  · have ho : (((s.size : Int) % 2) != 0) = true := by simp; omega
    have HR : Hid (unhexR (chL s) = ([], 2)) := Lib.hid (unhexR_odd _ (by rw [hl]; omega))
    go_enter Try.func40, Try.ntmps40
    go_wp2_with fail
    go_ret2
    exact gives_of HR.out rfl rfl (World.ownsRow_nil _ _ _ _) (Below.refl _ _)
theorem runhex_any (s : ByteArray) (w : World) (hs : s.size ≤ 140737488355328) :
    Calls Try.prog 41 #[.string s] w fun e w' => Gives w w' e (unhexR (chL s)) := by
  obtain ⟨i0, hi, hz0, hz1, hz2⟩ := info_parts info_u8
  have hl := chL_len s
  by_cases hodd : s.size % 2 = 0
  · have ho : (((s.size : Int) % 2) != 0) = false := by simp; omega
    have HO := Lib.hid hodd
    have HL := Lib.hid hl
    clear hodd hl
    go_enter Try.func41, Try.ntmps41
    go_wp2_with fail
    go_loopw [4, 5] (fun v i wr => ∃ k : Nat, 2 * k ≤ s.size ∧ i = .int .i64 (2 * (k : Int)) ∧ wr.ownsRow w.heap.size 5 1 v k ((unL ((chL s).take (2 * k))).map (Value.int .u8)) ∧ okL ((chL s).take (2 * k)) = true ∧ Below w.heap.size w wr) (fun _ i _ => s.size - (intOf i).toNat)
    case atStart => exact ⟨0, by omega, rfl, World.ownsRow_made _ _ 0 (Nat.le_refl _) (by unfold maxLen; omega) rfl, rfl, (Below.refl _ _).alloc (Nat.le_refl _) _⟩
    case round =>
      obtain ⟨k, hk, rfl, hown, hok, hbel⟩ := hrel
      have HK := Lib.hid hok
      clear hok
      by_cases c1 : 2 * k < s.size
      · have c2 : 2 * k + 1 < s.size := by have := HO.out; omega
        have e1 := chL_get s (2 * k) c1
        have e2 := chL_get s (2 * k + 1) c2
        have b1 := bytes_get (chL_bytes s) (2 * k)
        have b2 := bytes_get (chL_bytes s) (2 * k + 1)
        obtain ⟨x, hx⟩ : ∃ x, (chL s).getD (2 * k) 0 = x := ⟨_, rfl⟩
        obtain ⟨y, hy⟩ : ∃ y, (chL s).getD (2 * k + 1) 0 = y := ⟨_, rfl⟩
        rw [hx] at e1 b1
        rw [hy] at e2 b2
        have HX := Lib.hid hx
        have HY := Lib.hid hy
        clear hx hy
        have s1 : IntKind.i64.wrap (2 * (k : Int) + 1) = 2 * (k : Int) + 1 := IntWalk.i64_in _ (by omega)
        have s2 : (2 * (k : Int) + 1).toNat = 2 * k + 1 := by omega
        have s3 : (2 * (k : Int)).toNat = 2 * k := by omega
        have s4 : 0 ≤ 2 * (k : Int) + 1 ∧ 2 * (k : Int) + 1 < s.size := by omega
        have s5 : 0 ≤ 2 * (k : Int) ∧ 2 * (k : Int) < s.size := by omega
        go_wp2_with fail
        go_quiet ((go_at_call 53; exact Calls.quiet_of_same ((rdigit_any _ _ (by omega)).mono fun _ _ ⟨a, b⟩ => ⟨a, b.symm⟩)))
        clear s1 s2 s3 s4 s5
        have zx := digZ_bd x
        have zy := digZ_bd y
        cases dx : digB x
        · have HR : Hid (unhexR (chL s) = ([], 2)) := Lib.hid (unhexR_bad _ (okL_no _ (2 * k) (by rw [HL.out]; omega) (by rw [HX.out]; exact dx)))
          have nx := digB_no dx
          go_wp2_with fail
          go_ret2
          exact gives_of HR.out rfl rfl (World.ownsRow_nil _ _ _ _) (hbel.trans ⟨rfl, rfl, rfl, Nat.le_refl _, fun _ _ => rfl⟩)
        · have px := (digV_yes dx).2
          have px' : decide (digZ x < 0) = false := by simp; omega
          cases dy : digB y
          · have HR : Hid (unhexR (chL s) = ([], 2)) := Lib.hid (unhexR_bad _ (okL_no _ (2 * k + 1) (by rw [HL.out]; omega) (by rw [HY.out]; exact dy)))
            have ny := digB_no dy
            go_wp2_with fail
            go_ret2
            exact gives_of HR.out rfl rfl (World.ownsRow_nil _ _ _ _) (hbel.trans ⟨rfl, rfl, rfl, Nat.le_refl _, fun _ _ => rfl⟩)
          · have py := (digV_yes dy).2
            have py' : decide (digZ y < 0) = false := by simp; omega
            have HKS := Lib.hid (okL_step (by rw [HL.out]; omega) HK.out HX.out HY.out dx dy)
            have HUS := Lib.hid (unL_step (l := chL s) (k := k) (z := 16 * digZ x + digZ y) (by rw [HL.out]; omega) HX.out HY.out rfl)
            have hbn : Below w.heap.size w (wr.drewN nq) := hbel.trans ⟨rfl, rfl, rfl, Nat.le_refl _, fun _ _ => rfl⟩
            have hon : (wr.drewN nq).ownsRow w.heap.size 5 1 u4 k ((unL ((chL s).take (2 * k))).map (Value.int .u8)) := hown
            generalize wr.drewN nq = wq at *
            go_wp2_with (at_builtin; refine wpList_append_ints rfl _ _ 37 rfl .u8 w.heap.size 5 i0 _ 1 Try.underlying37 hi hz0 hz1 hz2 rfl _ k _ rfl (hon.alloc _) (wq.heap.size + 1) _ 1 1 [16 * digZ x + digZ y] rfl rfl ?c1 ?c2 ?c3 ?c4 ?_; (case c1 => exact Ints.lit _ _ _ _ _ rfl); (case c2 => unfold maxLen; omega); (case c3 => omega); (case c4 => have := hbn.size; simp; omega); intro v2 w2 hown2 hb2 _)
            go_roundw
            case rel => exact ⟨k + 1, by omega, by go_num, by rw [HUS.out]; exact hown2, HKS.out, (hbn.alloc hbn.size _).trans hb2⟩
            case measure => simp [intOf]; omega
      · have hks : 2 * k = s.size := by omega
        have HR : Hid (unhexR (chL s) = (unL (chL s), 0)) := by
          refine Lib.hid (unhexR_good _ (by rw [HL.out]; exact HO.out) ?_)
          have := HK.out
          rw [List.take_of_length_le (by rw [HL.out]; omega)] at this
          exact this
        rw [List.take_of_length_le (by rw [HL.out]; omega)] at hown
        have HN : Hid ((unL (chL s)).length = k) := Lib.hid (by rw [unL_len, HL.out]; omega)
        clear hks
        go_wp2_with fail
        go_ret2
        exact gives_of HR.out rfl HN.out hown hbel
  · have ho : (((s.size : Int) % 2) != 0) = true := by simp; omega
    have HR : Hid (unhexR (chL s) = ([], 2)) := Lib.hid (unhexR_odd _ (by rw [hl]; omega))
    go_enter Try.func41, Try.ntmps41
    go_wp2_with fail
    go_ret2
    exact gives_of HR.out rfl rfl (World.ownsRow_nil _ _ _ _) (Below.refl _ _)
end Go.Proofs.Ytljgpkiakggmkaa.Oct
