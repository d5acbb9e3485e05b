/- The bytes of elements: contracts over the program and the document. -/
import Derived.Test.YtpbfnkicbejdbaaAdServ
import Derived.Test.YtpbfnkicbejdbaaOctPut
set_option linter.unusedVariables false
set_option linter.unusedSimpArgs false
namespace Go.Proofs.Ytpbfnkicbejdbaa.Ad
open Go.RowKit Mem Rw Oct
open Base (thenB later kept)

theorem info_u8 : (Try.prog.info? 5).map (fun i => (i.zero, i.size, i.bytes)) = some (some (.int .u8 0), 1, 1) := by kernel_rfl
theorem u8_mod (x : Int) : IntKind.u8.wrap x = x % 256 := by simp [IntKind.wrap, IntKind.bits, IntKind.signed]
theorem gives_err {w w' : World} {e : Ending} {r : List Int × Int} {x : Int} (hr : r = ([], x)) (he : e = .returned (.tuple #[.slice none 0 0, .int .i64 x])) (hb : Below w.heap.size w w') : Gives w w' e r :=
  gives_of hr he rfl (World.ownsRow_nil _ _ _ _) hb
theorem at_e {l : List El} {j : Nat} {x : El} (h : l[j]? = some x) : (l.map El.e)[j]? = some x.e := by rw [List.getElem?_map, h]; rfl
theorem copied_any (A : Option Addr) (n c : Nat) (zs : List Int) (w : World) (hz : zs.length = n) (hr : Ints .u8 w w.heap.size A zs) (hn : n ≤ 140737488355328) :
    Calls Try.prog 15 #[.slice A n c] w fun e w' => Base.Makes w w' e zs := by
  obtain ⟨i0, hi, hz0, hz1, hz2⟩ := info_parts info_u8
  go_enter Try.func15, Try.ntmps15
  go_wp2_with (at_builtin; refine wpList_append_ints rfl _ _ 24 rfl .u8 w.heap.size 5 i0 _ 1 Try.underlying24 hi hz0 hz1 hz2 rfl (.slice (some ⟨w.heap.size, 0, none⟩) 0 0) 0 [] rfl (World.ownsRow_made _ _ 0 (Nat.le_refl _) (by unfold maxLen; omega) rfl) w.heap.size A n c zs rfl hz ?c1 ?c2 ?c3 ?c4 ?_; (case c1 => exact hr.alloc (Nat.le_refl _) _); (case c2 => unfold maxLen; omega); (case c3 => omega); (case c4 => simp); intro v' w1 hown1 hb1 _)
  go_ret
  exact Base.makes_of rfl hz (by simpa using hown1) (((Below.refl _ _).alloc (Nat.le_refl _) _).trans hb1)
theorem kind_yes {x : El} (h : ¬ x.k < 0) (h2 : ¬ 255 < x.k) : kindOk x.e = true := by unfold kindOk El.e; simp; omega
theorem kind_no {x : El} (h : x.k < 0 ∨ 255 < x.k) : kindOk x.e = false := by unfold kindOk El.e; simp; omega
set_option maxRecDepth 100000 in
set_option maxHeartbeats 4000000 in
theorem encode_any (LA : Option Addr) (n c : Nat) (l : List El) (w : World) (hl : l.length = n) (hn : n ≤ 4398046511104) (hr : ElsAt w w.heap.size LA l) :
    Calls Try.prog 10 #[.slice LA n c] w fun e w' => Gives w w' e (encR (l.map El.e)) := by
  obtain ⟨i0, hi, hz0, hz1, hz2⟩ := info_parts info_u8
  have HN := Lib.hid (fun j (h : j < n) => has hl h)
  have HO : Hid (∀ w', Below w.heap.size w w' → 0 < n → _) := Lib.hid fun w' hb h0 => el_cells (hr.below hb) (by omega)
  have HOw : Hid (∀ x ∈ l, OwnE w w.heap.size x) := Lib.hid hr.2
  have HTk : Hid ((l.map El.e).take n = l.map El.e) := Lib.hid (List.take_of_length_le (by rw [List.length_map]; omega))
  clear hr hl
  go_enter Try.func10, Try.ntmps10
  go_wp2_with fail
  go_loopw [11] (fun s11 wr => ∃ j : Nat, j ≤ n ∧ s11 = .int .i64 j ∧ Hid (((l.map El.e).take j).all kindOk = true) ∧ Below w.heap.size w wr) (fun s11 _ => n - (intOf s11).toNat)
  case atStart => exact ⟨0, by omega, rfl, Lib.hid (by simp), Below.refl _ _⟩
  case round =>
    obtain ⟨j, hj, rfl, HA, hbel⟩ := hrel
    by_cases c1 : j < n
    · obtain ⟨x, hxj, hxm⟩ := HN.out j c1
      obtain ⟨b, off, rfl, hbl, hc⟩ := HO.out _ hbel (by omega)
      obtain ⟨h0, h1⟩ := hc j x hxj
      have HX := Lib.hid (at_e hxj)
      have g1 : (0 : Int) ≤ (j : Int) ∧ (j : Int) < (n : Int) := by omega
      have b1 := hbel.alloc hbel.size (.cells #[.int .i64 x.k, .slice x.A x.v.length x.c] 49)
      have HKy : Hid (¬ x.k < 0 → ¬ 255 < x.k → kindOk x.e = true) := Lib.hid kind_yes
      have HKn : Hid (x.k < 0 ∨ 255 < x.k → kindOk x.e = false) := Lib.hid kind_no
      have HXl : Hid (kindOk x.e = true → (((l.map El.e).take (j + 1)).all kindOk = true)) := Lib.hid fun h => all_take HX.out HA.out h
      have HXn : Hid (kindOk x.e = false → encR (l.map El.e) = ([], 5)) := Lib.hid fun h => kinds_no HX.out h
      obtain ⟨xk, xA, xc, xv⟩ := x
      simp only at h0 h1 b1 HKy HKn
      generalize xv.length = p at *
      clear hc hxj hxm
      by_cases d0 : xk < 0
      · have HF : Hid (encR (l.map El.e) = ([], 5)) := Lib.hid (HXn.out (HKn.out (.inl d0)))
        go_wp2_with fail
        go_ret2
        exact gives_err HF.out rfl b1
      · by_cases d1 : 255 < xk
        · have HF : Hid (encR (l.map El.e) = ([], 5)) := Lib.hid (HXn.out (HKn.out (.inr d1)))
          go_wp2_with fail
          go_ret2
          exact gives_err HF.out rfl b1
        · have HF := Lib.hid (HXl.out (HKy.out d0 d1))
          go_wp2_with fail
          go_roundw
          case rel => exact ⟨j + 1, by omega, by go_num, HF, b1⟩
          case measure => simp [intOf]; omega
    · obtain rfl : j = n := by omega
      have HAll : Hid ((l.map El.e).all kindOk = true) := Lib.hid (by rw [← HTk.out]; exact HA.out)
      clear HA
      go_wp2_with fail
      go_loopw [6, 26] (fun s6 s26 wx => ∃ i m : Nat, i ≤ j ∧ s26 = .int .i64 i ∧ m ≤ 31 ∧ Hid ((allB ((l.map El.e).take i)).length = m) ∧ wx.ownsRow w.heap.size 5 1 s6 m ((allB ((l.map El.e).take i)).map (Value.int .u8)) ∧ Below w.heap.size w wx) (fun _ s26 _ => j - (intOf s26).toNat)
      case atStart => exact ⟨0, 0, by omega, rfl, by omega, Lib.hid (by simp [allB]), by simpa [allB] using World.ownsRow_nil wr w.heap.size 5 1, hbel⟩
      case round =>
        obtain ⟨i, m, hij, rfl, hm, HM, hown, hbx⟩ := hrel
        obtain ⟨BA, bc, rfl⟩ := own_form hown
        by_cases c2 : i < j
        · obtain ⟨x, hxj, hxm⟩ := HN.out i c2
          obtain ⟨b, off, rfl, hbl, hc⟩ := HO.out _ hbx (by omega)
          obtain ⟨h0, h1⟩ := hc i x hxj
          obtain ⟨q1, q2, q3⟩ := (HOw.out x hxm).below hbx
          have HX := Lib.hid (at_e hxj)
          have g1 : (0 : Int) ≤ (i : Int) ∧ (i : Int) < (j : Int) := by omega
          have b1 := hbx.alloc hbx.size (.cells #[.int .i64 x.k, .slice x.A x.v.length x.c] 49)
          have HAp : Hid (allB ((l.map El.e).take (i + 1)) = allB ((l.map El.e).take i) ++ [(1 + (x.v.length : Int)) % 256, x.k % 256] ++ x.v) := Lib.hid (by rw [allB_take HX.out]; simp [encB, El.e])
          have HLo : Hid (31 < m + x.v.length + 2 → encR (l.map El.e) = ([], 4)) := Lib.hid fun h => encR_long HAll.out (by
            have h1 := allB_le (l.map El.e) (i + 1)
            rw [HAp.out] at h1
            simp [HM.out] at h1
            omega)
          obtain ⟨xk, xA, xc, xv⟩ := x
          simp only at h0 h1 b1 q1 q2 q3 HAp HLo
          obtain ⟨p, hp⟩ : ∃ p, xv.length = p := ⟨_, rfl⟩
          rw [hp] at h1 b1 q1 q2 HAp HLo
          have HP := Lib.hid hp
          have HI := Lib.hid q3
          clear hc hxj hxm hp q3
          have e1 : IntKind.i64.wrap ((m : Int) + 2) = (m : Int) + 2 := by rw [IntWalk.i64_in _ (by omega)]
          have e2 : IntKind.i64.wrap ((m : Int) + 2 + (p : Int)) = (m : Int) + 2 + (p : Int) := by rw [IntWalk.i64_in _ (by omega)]
          have e3 : IntKind.i64.wrap (1 + (p : Int)) = 1 + (p : Int) := by rw [IntWalk.i64_in _ (by omega)]
          have e4 := u8_mod (1 + (p : Int))
          have e5 := u8_mod xk
          by_cases d0 : (31 : Int) < (m : Int) + 2 + (p : Int)
          · have HF : Hid (encR (l.map El.e) = ([], 4)) := Lib.hid (HLo.out (by omega))
            go_wp2_with fail
            go_ret2
            exact gives_err HF.out rfl b1
          · have hp31 : p + m + 2 ≤ 31 := by omega
            have hw0 := b1.size
            have HB1 := Lib.hid b1
            have HBx := Lib.hid hbx
            generalize hy1 : (1 + (p : Int)) % 256 = y1 at *
            generalize hy2 : xk % 256 = y2 at *
            go_wp2_with (first
              | (at_builtin; refine wpList_append_ints rfl (.tmp 38) (.tmp 47) 24 rfl .u8 w.heap.size 5 i0 _ 1 Try.underlying24 hi hz0 hz1 hz2 rfl (.slice BA m bc) m _ rfl ((hown.alloc _).alloc _) (wr.heap.size + 1 + 1) _ 2 2 [y1, y2] rfl rfl ?c1 ?c2 ?c3 ?c4 ?_; (case c1 => have := Ints.lit .u8 (wr.alloc (.cells #[.int .i64 xk, .slice xA p xc] 49)) [y1, y2] #[.int .u8 y1, .int .u8 y2] 5 rfl; simpa using this); (case c2 => unfold maxLen; omega); (case c3 => omega); (case c4 => have := HBx.out.size; simp; omega); intro v2 w2 hown2 hb2 hg2; have k0 := ((Blk.fresh wr 49 #[.int .i64 xk, .slice xA p xc]).alloc (.cells #[.int .u8 y1, .int .u8 y2] 5)).grown ((hown.alloc _).alloc _) (by decide) hg2; have kc1 : w2.cell? ⟨wr.heap.size, 1, none⟩ = some (.slice xA p xc) := k0.cell 1; have hB2 := (HB1.out.alloc HB1.out.size (.cells #[.int .u8 y1, .int .u8 y2] 5)).trans hb2; obtain ⟨A2, c2', rfl⟩ := own_form hown2; have HI2 : Ints .u8 w2 w.heap.size xA xv := HI.out.below (((Below.refl _ _).alloc HBx.out.size (.cells #[.int .i64 xk, .slice xA p xc] 49)).alloc (by have := HBx.out.size; simp; omega) (.cells #[.int .u8 y1, .int .u8 y2] 5) |>.trans hb2))
              | (at_builtin; refine wpList_append_ints rfl (.tmp 49) (.tmp 51) 24 rfl .u8 w.heap.size 5 i0 _ 1 Try.underlying24 hi hz0 hz1 hz2 rfl (.slice A2 (m + 2) c2') (m + 2) _ rfl hown2 w.heap.size xA p xc xv rfl HP.out HI2 ?c1 ?c2 ?c3 ?_; (case c1 => unfold maxLen; omega); (case c2 => omega); (case c3 => exact hB2.size); intro v3 w3 hown3 hb3 hg3))
            go_roundw
            case rel => exact ⟨i + 1, m + 2 + p, by omega, by go_num, by omega, Lib.hid (by rw [HAp.out]; simp [HM.out, HP.out]; omega), by rw [HAp.out]; simpa [List.append_assoc] using hown3, hB2.trans hb3⟩
            case measure => simp [intOf]; omega
        · obtain rfl : i = j := by omega
          have HF : Hid (encR (l.map El.e) = (allB ((l.map El.e).take i), 0)) := Lib.hid (by rw [encR_ok HAll.out (by rw [← HTk.out, HM.out]; exact hm), HTk.out])
          go_wp2_with fail
          go_ret2
          exact gives_of HF.out rfl HM.out hown hbx
set_option maxRecDepth 100000 in
set_option maxHeartbeats 4000000 in
theorem rencode_any (LA : Option Addr) (n c : Nat) (l : List El) (w : World) (hl : l.length = n) (hn : n ≤ 4398046511104) (hr : ElsAt w w.heap.size LA l) :
    Calls Try.prog 12 #[.slice LA n c] w fun e w' => Gives w w' e (encR (l.map El.e)) := by
  obtain ⟨i0, hi, hz0, hz1, hz2⟩ := info_parts info_u8
  have HN := Lib.hid (fun j (h : j < n) => has hl h)
  have HO : Hid (∀ w', Below w.heap.size w w' → 0 < n → _) := Lib.hid fun w' hb h0 => el_cells (hr.below hb) (by omega)
  have HOw : Hid (∀ x ∈ l, OwnE w w.heap.size x) := Lib.hid hr.2
  have HTk : Hid ((l.map El.e).take n = l.map El.e) := Lib.hid (List.take_of_length_le (by rw [List.length_map]; omega))
  clear hr hl
  go_enter Try.func12, Try.ntmps12
  go_wp2_with fail
  go_loop [4] (fun s4 => ∃ j : Nat, j ≤ n ∧ s4 = .int .i64 j ∧ Hid (((l.map El.e).take j).all kindOk = true)) (fun s4 => n - (intOf s4).toNat)
  case atStart => exact ⟨0, by omega, rfl, Lib.hid (by simp)⟩
  case round =>
    obtain ⟨j, hj, rfl, HA⟩ := hrel
    by_cases c1 : j < n
    · obtain ⟨x, hxj, hxm⟩ := HN.out j c1
      obtain ⟨b, off, rfl, hbl, hc⟩ := HO.out _ (Below.refl _ _) (by omega)
      obtain ⟨h0, h1⟩ := hc j x hxj
      have HX := Lib.hid (at_e hxj)
      have g1 : (0 : Int) ≤ (j : Int) ∧ (j : Int) < (n : Int) := by omega
      have HKy : Hid (¬ x.k < 0 → ¬ 255 < x.k → kindOk x.e = true) := Lib.hid kind_yes
      have HKn : Hid (x.k < 0 ∨ 255 < x.k → kindOk x.e = false) := Lib.hid kind_no
      have HXl : Hid (kindOk x.e = true → (((l.map El.e).take (j + 1)).all kindOk = true)) := Lib.hid fun h => all_take HX.out HA.out h
      have HXn : Hid (kindOk x.e = false → encR (l.map El.e) = ([], 5)) := Lib.hid fun h => kinds_no HX.out h
      obtain ⟨xk, xA, xc, xv⟩ := x
      simp only at h0 h1 HKy HKn
      clear hc hxj hxm h1
      by_cases d0 : xk < 0
      · have HF : Hid (encR (l.map El.e) = ([], 5)) := Lib.hid (HXn.out (HKn.out (.inl d0)))
        go_wp2_with fail
        go_ret2
        exact gives_err HF.out rfl (Below.refl _ _)
      · by_cases d1 : 255 < xk
        · have HF : Hid (encR (l.map El.e) = ([], 5)) := Lib.hid (HXn.out (HKn.out (.inr d1)))
          go_wp2_with fail
          go_ret2
          exact gives_err HF.out rfl (Below.refl _ _)
        · have HF := Lib.hid (HXl.out (HKy.out d0 d1))
          go_wp2_with fail
          go_round
          case rel => exact ⟨j + 1, by omega, by go_num, HF⟩
          case measure => simp [intOf]; omega
    · obtain rfl : j = n := by omega
      have HAll : Hid ((l.map El.e).all kindOk = true) := Lib.hid (by rw [← HTk.out]; exact HA.out)
      clear HA
      go_wp2_with fail
      go_loopw [5, 6] (fun s5 s6 wr => ∃ i m : Nat, i ≤ j ∧ s6 = .int .i64 i ∧ m ≤ 64 ∧ Hid ((allB ((l.map El.e).take i)).length = m) ∧ wr.ownsRow w.heap.size 5 1 s5 m ((allB ((l.map El.e).take i)).map (Value.int .u8)) ∧ Below w.heap.size w wr) (fun _ s6 _ => j - (intOf s6).toNat)
      case atStart => exact ⟨0, 0, by omega, rfl, by omega, Lib.hid (by simp [allB]), by simpa [allB] using World.ownsRow_made w #[] 0 (e := 5) (base := w.heap.size) (size := 1) (Nat.le_refl _) (by unfold maxLen; omega) rfl, (Below.refl _ _).alloc (Nat.le_refl _) _⟩
      case round =>
        obtain ⟨i, m, hij, rfl, hm, HM, hown, hbx⟩ := hrel
        obtain ⟨BA, bc, rfl⟩ := own_form hown
        by_cases c2 : i < j
        · obtain ⟨x, hxj, hxm⟩ := HN.out i c2
          obtain ⟨b, off, rfl, hbl, hc⟩ := HO.out _ hbx (by omega)
          obtain ⟨h0, h1⟩ := hc i x hxj
          obtain ⟨q1, q2, q3⟩ := (HOw.out x hxm).below hbx
          have HX := Lib.hid (at_e hxj)
          have g1 : (0 : Int) ≤ (i : Int) ∧ (i : Int) < (j : Int) := by omega
          have HAp : Hid (allB ((l.map El.e).take (i + 1)) = allB ((l.map El.e).take i) ++ [(1 + (x.v.length : Int)) % 256, x.k % 256] ++ x.v) := Lib.hid (by rw [allB_take HX.out]; simp [encB, El.e])
          have HLo : Hid (31 < m + x.v.length + 2 → encR (l.map El.e) = ([], 4)) := Lib.hid fun h => encR_long HAll.out (by
            have h1 := allB_le (l.map El.e) (i + 1)
            rw [HAp.out] at h1
            simp [HM.out] at h1
            omega)
          obtain ⟨xk, xA, xc, xv⟩ := x
          simp only at h0 h1 q1 q2 q3 HAp HLo
          obtain ⟨p, hp⟩ : ∃ p, xv.length = p := ⟨_, rfl⟩
          rw [hp] at h1 q1 q2 HAp HLo
          have HP := Lib.hid hp
          have HI := Lib.hid q3
          clear hc hxj hxm hp q3
          have e3 : IntKind.i64.wrap (1 + (p : Int)) = 1 + (p : Int) := by rw [IntWalk.i64_in _ (by omega)]
          have e4 := u8_mod (1 + (p : Int))
          have e5 := u8_mod xk
          by_cases d0 : (31 : Int) < (p : Int)
          · have HF : Hid (encR (l.map El.e) = ([], 4)) := Lib.hid (HLo.out (by omega))
            go_wp2_with fail
            go_ret2
            exact gives_err HF.out rfl hbx
          · by_cases d1 : (31 : Int) < (m : Int)
            · have HF : Hid (encR (l.map El.e) = ([], 4)) := Lib.hid (HLo.out (by omega))
              go_wp2_with fail
              go_ret2
              exact gives_err HF.out rfl hbx
            · have hp31 : p ≤ 31 ∧ m ≤ 31 := by omega
              have hw0 := hbx.size
              generalize hy1 : (1 + (p : Int)) % 256 = y1 at *
              generalize hy2 : xk % 256 = y2 at *
              go_wp2_with fail
              refine wp_region_held_drew (S := (fun w' => w'.cell? ⟨b, off + i * 2, none⟩ = some (.int .i64 xk) ∧ w'.cell? ⟨b, off + i * 2 + 1, none⟩ = some (.slice xA p xc))) (by kernel_rfl) ?_ (fun hHeld => ?_)
              · exact ⟨h0, h1⟩
              have BW := (Below.refl w.heap.size wr).drew
              have hown : wr.drew.ownsRow w.heap.size 5 1 (.slice BA m bc) m _ := hown
              have TT := And.intro ((BW.cell (p := ⟨b, off + i * 2, none⟩) hbl).trans h0) ((BW.cell (p := ⟨b, off + i * 2 + 1, none⟩) hbl).trans h1)
              generalize wr.drew = X0 at *
              refine wpAnyH_take (i := 0) (v := .slice BA m bc) rfl (by kernel_rfl) (by kernel_rfl) (by kernel_rfl) (fun _ _ _ h => h) (Or.inl ⟨by first | rfl | go_simp, by intro w9 hSw; (try dsimp only at hSw); go_simp⟩) (by assumption) ?_
              simp only [List.getElem_toArray, List.getElem_cons_zero, List.getElem_cons_succ, Act.put, List.setIfInBounds_toArray, List.set_cons_zero, List.set_cons_succ]
              refine wpAnyH_take (i := 1) (v := .slice (some ⟨b, off, none⟩) j c) rfl (by kernel_rfl) (by kernel_rfl) (by kernel_rfl) (fun _ _ _ h => h) (Or.inl ⟨by first | rfl | go_simp, by intro w9 hSw; (try dsimp only at hSw); go_simp⟩) (by assumption) ?_
              simp only [List.getElem_toArray, List.getElem_cons_zero, List.getElem_cons_succ, Act.put, List.setIfInBounds_toArray, List.set_cons_zero, List.set_cons_succ]
              refine wpAnyH_take (i := 2) (v := .int .i64 (i : Int)) rfl (by kernel_rfl) (by kernel_rfl) (by kernel_rfl) (fun _ _ _ h => h) (Or.inl ⟨by first | rfl | go_simp, by intro w9 hSw; (try dsimp only at hSw); go_simp⟩) (by assumption) ?_
              simp only [List.getElem_toArray, List.getElem_cons_zero, List.getElem_cons_succ, Act.put, List.setIfInBounds_toArray, List.set_cons_zero, List.set_cons_succ]
              refine wpAnyH_take (i := 3) (v := .pointer (some ⟨b, off + i * 2, none⟩)) rfl (by kernel_rfl) (by kernel_rfl) (by kernel_rfl) (fun _ _ _ h => h) (Or.inl ⟨by first | rfl | go_simp, by intro w9 hSw; (try dsimp only at hSw); go_simp⟩) (by assumption) ?_
              simp only [List.getElem_toArray, List.getElem_cons_zero, List.getElem_cons_succ, Act.put, List.setIfInBounds_toArray, List.set_cons_zero, List.set_cons_succ]
              refine wpAnyH_take (i := 4) (v := .pointer (some ⟨b, off + i * 2 + 1, none⟩)) rfl (by kernel_rfl) (by kernel_rfl) (by kernel_rfl) (fun _ _ _ h => h) (Or.inl ⟨by first | rfl | go_simp, by intro w9 hSw; (try dsimp only at hSw); go_simp⟩) (by assumption) ?_
              simp only [List.getElem_toArray, List.getElem_cons_zero, List.getElem_cons_succ, Act.put, List.setIfInBounds_toArray, List.set_cons_zero, List.set_cons_succ]
              refine wpAnyH_take (i := 5) (v := .slice xA p xc) rfl (by kernel_rfl) (by kernel_rfl) (by kernel_rfl) (fun _ _ _ h => h) (Or.inl ⟨by first | rfl | go_simp, by intro w9 hSw; (try dsimp only at hSw); go_simp⟩) (by assumption) ?_
              simp only [List.getElem_toArray, List.getElem_cons_zero, List.getElem_cons_succ, Act.put, List.setIfInBounds_toArray, List.set_cons_zero, List.set_cons_succ]
              refine wpAnyH_take (i := 6) (v := .int .i64 (p : Int)) rfl (by kernel_rfl) (by kernel_rfl) (by kernel_rfl) (fun _ _ _ h => h) (Or.inl ⟨by first | rfl | go_simp, by intro w9 hSw; (try dsimp only at hSw); go_simp⟩) (by assumption) ?_
              simp only [List.getElem_toArray, List.getElem_cons_zero, List.getElem_cons_succ, Act.put, List.setIfInBounds_toArray, List.set_cons_zero, List.set_cons_succ]
              refine wpAnyH_take (i := 7) (v := .int .i64 (1 + (p : Int))) rfl (by kernel_rfl) (by kernel_rfl) (by kernel_rfl) (fun _ _ _ h => h) (Or.inl ⟨by first | rfl | go_simp, by intro w9 hSw; (try dsimp only at hSw); go_simp⟩) (by assumption) ?_
              simp only [List.getElem_toArray, List.getElem_cons_zero, List.getElem_cons_succ, Act.put, List.setIfInBounds_toArray, List.set_cons_zero, List.set_cons_succ]
              refine wpAnyH_take (i := 8) (v := .int .u8 y1) rfl (by kernel_rfl) (by kernel_rfl) (by kernel_rfl) (fun _ _ _ h => h) (Or.inl ⟨by first | rfl | go_simp, by intro w9 hSw; (try dsimp only at hSw); go_simp⟩) (by assumption) ?_
              simp only [List.getElem_toArray, List.getElem_cons_zero, List.getElem_cons_succ, Act.put, List.setIfInBounds_toArray, List.set_cons_zero, List.set_cons_succ]
              refine wpAnyH_take (i := 9) (v := .slice (some ⟨b, off, none⟩) j c) rfl (by kernel_rfl) (by kernel_rfl) (by kernel_rfl) (fun _ _ _ h => h) (Or.inl ⟨by first | rfl | go_simp, by intro w9 hSw; (try dsimp only at hSw); go_simp⟩) (by assumption) ?_
              simp only [List.getElem_toArray, List.getElem_cons_zero, List.getElem_cons_succ, Act.put, List.setIfInBounds_toArray, List.set_cons_zero, List.set_cons_succ]
              refine wpAnyH_take (i := 10) (v := .int .i64 (i : Int)) rfl (by kernel_rfl) (by kernel_rfl) (by kernel_rfl) (fun _ _ _ h => h) (Or.inl ⟨by first | rfl | go_simp, by intro w9 hSw; (try dsimp only at hSw); go_simp⟩) (by assumption) ?_
              simp only [List.getElem_toArray, List.getElem_cons_zero, List.getElem_cons_succ, Act.put, List.setIfInBounds_toArray, List.set_cons_zero, List.set_cons_succ]
              refine wpAnyH_take (i := 11) (v := .pointer (some ⟨b, off + i * 2, none⟩)) rfl (by kernel_rfl) (by kernel_rfl) (by kernel_rfl) (fun _ _ _ h => h) (Or.inl ⟨by first | rfl | go_simp, by intro w9 hSw; (try dsimp only at hSw); go_simp⟩) (by assumption) ?_
              simp only [List.getElem_toArray, List.getElem_cons_zero, List.getElem_cons_succ, Act.put, List.setIfInBounds_toArray, List.set_cons_zero, List.set_cons_succ]
              refine wpAnyH_take (i := 12) (v := .pointer (some ⟨b, off + i * 2, none⟩)) rfl (by kernel_rfl) (by kernel_rfl) (by kernel_rfl) (fun _ _ _ h => h) (Or.inl ⟨by first | rfl | go_simp, by intro w9 hSw; (try dsimp only at hSw); go_simp⟩) (by assumption) ?_
              simp only [List.getElem_toArray, List.getElem_cons_zero, List.getElem_cons_succ, Act.put, List.setIfInBounds_toArray, List.set_cons_zero, List.set_cons_succ]
              refine wpAnyH_take (i := 13) (v := .int .i64 xk) rfl (by kernel_rfl) (by kernel_rfl) (by kernel_rfl) (fun _ _ _ h => h) (Or.inl ⟨by first | rfl | go_simp, by intro w9 hSw; (try dsimp only at hSw); go_simp⟩) (by assumption) ?_
              simp only [List.getElem_toArray, List.getElem_cons_zero, List.getElem_cons_succ, Act.put, List.setIfInBounds_toArray, List.set_cons_zero, List.set_cons_succ]
              refine wpAnyH_take (i := 14) (v := .int .u8 y2) rfl (by kernel_rfl) (by kernel_rfl) (by kernel_rfl) (fun _ _ _ h => h) (Or.inl ⟨by first | rfl | go_simp, by intro w9 hSw; (try dsimp only at hSw); go_simp⟩) (by assumption) ?_
              simp only [List.getElem_toArray, List.getElem_cons_zero, List.getElem_cons_succ, Act.put, List.setIfInBounds_toArray, List.set_cons_zero, List.set_cons_succ]
              refine wpAnyH_ready (rs := [15]) (by kernel_rfl) (by simp) ?_
              refine AllReadyH.cons rfl (fun K hK => ?_) (AllReadyH.nil)
              go_simp
              have BW := BW.alloc (Nat.le_trans hw0 BW.size) (.cells #[.int .u8 y1, .int .u8 y2] 5)
              have hown := hown.alloc (.cells #[.int .u8 y1, .int .u8 y2] 5)
              have PI := Base.lit1 .u8 X0 [y1, y2] #[.int .u8 y1, .int .u8 y2] 5 rfl
              generalize X0.alloc (.cells #[.int .u8 y1, .int .u8 y2] 5) = X1 at *
              have TT := And.intro ((BW.cell (p := ⟨b, off + i * 2, none⟩) hbl).trans h0) ((BW.cell (p := ⟨b, off + i * 2 + 1, none⟩) hbl).trans h1)
              refine hK.out _ _ TT (fun hHeld => ?_)
              clear hK K
              try simp only [List.getElem_toArray, List.getElem_cons_zero, List.getElem_cons_succ, Act.put, List.setIfInBounds_toArray, List.set_cons_zero, List.set_cons_succ]
              refine wpAnyH_ready (rs := [16]) (by kernel_rfl) (by simp) ?_
              refine AllReadyH.cons rfl (fun K hK => ?_) (AllReadyH.nil)
              refine step_append_ints rfl (.tmp 46) (.tmp 61) 24 rfl .u8 w.heap.size 5 i0 _ 1 Try.underlying24 hi hz0 hz1 hz2 rfl (.slice BA m bc) m _ rfl hown X1.heap.size (some ⟨X0.heap.size, 0, none⟩) 2 2 [y1, y2] rfl rfl PI (by unfold maxLen; omega) (by omega) (Nat.le_trans hw0 BW.size) ?_
              intro v2 X2 own2 b2 g2
              obtain ⟨A2, c2', rfl⟩ := own_form own2
              have BW := BW.trans b2
              have TT := And.intro ((BW.cell (p := ⟨b, off + i * 2, none⟩) hbl).trans h0) ((BW.cell (p := ⟨b, off + i * 2 + 1, none⟩) hbl).trans h1)
              refine hK.out _ _ TT (fun hHeld => ?_)
              clear hK K
              try simp only [List.getElem_toArray, List.getElem_cons_zero, List.getElem_cons_succ, Act.put, List.setIfInBounds_toArray, List.set_cons_zero, List.set_cons_succ]
              refine wpAnyH_take (i := 17) (v := .slice A2 (m + 2) c2') rfl (by kernel_rfl) (by kernel_rfl) (by kernel_rfl) (fun _ _ _ h => h) (Or.inl ⟨by first | rfl | go_simp, by intro w9 hSw; (try dsimp only at hSw); go_simp⟩) (by assumption) ?_
              simp only [List.getElem_toArray, List.getElem_cons_zero, List.getElem_cons_succ, Act.put, List.setIfInBounds_toArray, List.set_cons_zero, List.set_cons_succ]
              refine wpAnyH_done (by kernel_rfl) ?_ _
              have HI2 : Ints .u8 X2 w.heap.size xA xv := HI.out.below BW
              have BX := hbx.trans BW
              go_wp2_with (at_builtin; refine wpList_append_ints rfl (.tmp 63) (.tmp 68) 24 rfl .u8 w.heap.size 5 i0 _ 1 Try.underlying24 hi hz0 hz1 hz2 rfl (.slice A2 (m + 2) c2') (m + 2) _ rfl own2 w.heap.size xA p xc xv rfl HP.out HI2 ?c1 ?c2 ?c3 ?_; (case c1 => unfold maxLen; omega); (case c2 => omega); (case c3 => exact BX.size); intro v3 w3 hown3 hb3 hg3)
              go_roundw
              case rel => exact ⟨i + 1, m + 2 + p, by omega, by go_num, by omega, Lib.hid (by rw [HAp.out]; simp [HM.out, HP.out]; omega), by rw [HAp.out]; simpa [List.append_assoc] using hown3, BX.trans hb3⟩
              case measure => simp [intOf]; omega
        · obtain rfl : i = j := by omega
          by_cases d1 : (31 : Int) < (m : Int)
          · have HF : Hid (encR (l.map El.e) = ([], 4)) := Lib.hid (encR_long HAll.out (by rw [← HTk.out, HM.out]; omega))
            go_wp2_with fail
            go_ret2
            exact gives_err HF.out rfl hbx
          · have HF : Hid (encR (l.map El.e) = (allB ((l.map El.e).take i), 0)) := Lib.hid (by rw [encR_ok HAll.out (by rw [← HTk.out, HM.out]; omega), HTk.out])
            go_wp2_with fail
            go_ret2
            exact gives_of HF.out rfl HM.out hown hbx
end Go.Proofs.Ytpbfnkicbejdbaa.Ad
