/- The services, by the document: contracts over the program. -/
import Derived.Test.YtpbfnkicbejdbaaAdRef
set_option linter.unusedVariables false
set_option linter.unusedSimpArgs false
namespace Go.Proofs.Ytpbfnkicbejdbaa.Ad
open Go.RowKit Mem Rw Oct
open Base (thenB later kept)

/-- The services of elements. -/
def rsv (l : List El) : List Int := (l.filter (fun x => x.k == 3)).flatMap fun x => svc x.v
theorem rsv_all {xs : List Int} {l : List El} (h : l.map El.e = (decR xs).1) : svcR xs = rsv l := by
  unfold svcR rsv
  rw [vals_of h, List.flatMap_map]
theorem rsv_yes {l : List El} {j : Nat} {x : El} (h : l[j]? = some x) (hk : x.k = 3) : rsv (l.take (j + 1)) = rsv (l.take j) ++ svc x.v := by
  have hj : j < l.length := (List.getElem?_eq_some_iff.1 h).1
  unfold rsv
  rw [List.take_succ_eq_append_getElem hj, (List.getElem?_eq_some_iff.1 h).2, List.filter_append, List.flatMap_append]
  simp [hk]
theorem rsv_no {l : List El} {j : Nat} {x : El} (h : l[j]? = some x) (hk : x.k ≠ 3) : rsv (l.take (j + 1)) = rsv (l.take j) := by
  have hj : j < l.length := (List.getElem?_eq_some_iff.1 h).1
  unfold rsv
  rw [List.take_succ_eq_append_getElem hj, (List.getElem?_eq_some_iff.1 h).2, List.filter_append, List.flatMap_append]
  simp [hk]
theorem svc_length : ∀ v : List Int, (svc v).length = v.length / 2
  | [] => rfl
  | [_] => by simp [svc]
  | a :: b :: r => by rw [svc_two, List.length_cons, svc_length r, List.length_cons, List.length_cons]; omega
theorem svc_get : ∀ (v : List Int) (t : Nat), 2 * t + 1 < v.length → (svc v)[t]? = some (v.getD (2 * t) 0 + 256 * v.getD (2 * t + 1) 0)
  | [], t, h => by simp at h
  | [_], t, h => by simp at h
  | a :: b :: r, 0, _ => rfl
  | a :: b :: r, t + 1, h => by
    rw [svc_two, List.getElem?_cons_succ, svc_get r t (by simp at h; omega)]
    rw [show 2 * (t + 1) = 2 * t + 1 + 1 by omega]
    rfl
theorem svc_step {v : List Int} {t : Nat} {a b : Int} (h : 2 * t + 1 < v.length) (ha : v.getD (2 * t) 0 = a) (hb : v.getD (2 * t + 1) 0 = b) : (svc v).take (t + 1) = (svc v).take t ++ [a + 256 * b] := by
  have h1 := svc_get v t h
  rw [ha, hb] at h1
  obtain ⟨h2, h3⟩ := List.getElem?_eq_some_iff.1 h1
  rw [List.take_succ_eq_append_getElem h2, h3]
theorem two_at {v : List Int} {t : Nat} (h : 2 * t + 1 < v.length) : (v.drop (2 * t)).take 2 = [v.getD (2 * t) 0, v.getD (2 * t + 1) 0] := by
  have h1 : 2 * t < v.length := by omega
  rw [List.drop_eq_getElem_cons h1, List.drop_eq_getElem_cons h, List.take_succ_cons, List.take_succ_cons, List.take_zero]
  simp [List.getD, List.getElem?_eq_getElem h1, List.getElem?_eq_getElem h]
theorem rsv_len (l : List El) (h : ∀ x ∈ l, x.v.length ≤ 31) : ∀ j, (rsv (l.take j)).length ≤ 31 * j := by
  intro j
  have : ∀ m : List El, (∀ x ∈ m, x.v.length ≤ 31) → (rsv m).length ≤ 31 * m.length := by
    intro m
    induction m with
    | nil => intro _; simp [rsv]
    | cons x r ih =>
      intro hm
      have h1 := ih (fun y hy => hm y (by simp [hy]))
      have h2 := hm x (by simp)
      unfold rsv at h1 ⊢
      by_cases hk : x.k = 3
      · rw [List.filter_cons_of_pos (by simpa using hk), List.flatMap_cons, List.length_append, svc_length, List.length_cons]
        omega
      · rw [List.filter_cons_of_neg (by simpa using hk), List.length_cons]
        omega
  have h1 := this (l.take j) (fun x hx => h x (List.mem_of_mem_take hx))
  have h2 : (l.take j).length ≤ j := List.length_take_le _ _
  exact Nat.le_trans h1 (Nat.mul_le_mul_left 31 h2)
set_option maxRecDepth 100000 in
set_option maxHeartbeats 4000000 in
theorem rservices_any (A : Option Addr) (n c : Nat) (xs : List Int) (w : World) (hx : xs.length = n) (hnc : n ≤ c) (bx : Bytes xs) (hr : Ints .u8 w w.heap.size A xs) :
    Calls Try.prog 24 #[.slice A n c] w fun e w' => MakesS w w' e (svcR xs) := by
  obtain ⟨i0, hi, hz0, hz1, hz2⟩ := info_parts info_u16
  have HBy := Lib.hid (decR_bytes bx)
  have HLn := Lib.hid (decR_len xs)
  have HDe := Lib.hid fun W (h : Below w.heap.size w W) => rdecode_any A n c xs W hx hnc bx (later hr h)
  have M0 : (w.alloc (.cells #[] 47)).ownsRow w.heap.size 47 1 (.slice (some ⟨w.heap.size, 0, none⟩) 0 0) 0 [] := by
    simpa using World.ownsRow_made w #[] 0 (e := 47) (base := w.heap.size) (size := 1) (Nat.le_refl _) (by unfold maxLen; omega) rfl
  have B0 := (Below.refl w.heap.size w).alloc (Nat.le_refl _) (.cells #[] 47)
  clear hr hx
  go_enter Try.func24, Try.ntmps24
  go_wp2_with (go_at_call 16; refine (HDe.out _ B0).mono ?_; clear HDe; rintro e w1 ⟨LA, lc, L, rfl, hm, hown, hmine, b1⟩; obtain ⟨q, hq⟩ : ∃ q, L.length = q := ⟨_, rfl⟩; rw [hq] at hown ⊢)
  have HM := Lib.hid hm
  have HN := Lib.hid (fun j (h : j < q) => has hq h)
  have hq31 : q ≤ 31 := by rw [← hq, ← List.length_map (f := El.e), hm]; exact HLn.out
  have HT : Hid (rsv (L.take q) = svcR xs) := Lib.hid (by rw [List.take_of_length_le (by omega), rsv_all hm])
  have HO := Lib.hid hown
  have HMi := Lib.hid hmine
  have HRl := Lib.hid (rsv_len L (fun x hx => (hmine x hx).2))
  have hrow := own_below M0 b1
  have hbel := thenB' B0 b1
  clear hown hmine hm hq
  generalize (decR xs).2 = er at *
  go_loopw [3, 6] (fun s3 s6 wr => ∃ j N : Nat, j ≤ q ∧ s6 = .int .i64 j ∧ Hid ((rsv (L.take j)).length = N) ∧ N ≤ 31 * j ∧ wr.ownsRow w.heap.size 47 1 s3 N ((rsv (L.take j)).map (Value.int .u16)) ∧ Hid (KeepT w1 wr) ∧ Below w.heap.size w wr) (fun _ s6 _ => q - (intOf s6).toNat)
  case atStart => exact ⟨0, 0, by omega, rfl, Lib.hid (by simp [rsv]), by omega, by simpa [rsv] using hrow, Lib.hid (KeepT.refl _), hbel⟩
  case round =>
    obtain ⟨j, N, hj, rfl, HNl, hN31, hr3, HK, hbr⟩ := hrel
    obtain ⟨BA, bc, rfl⟩ := own_form hr3
    clear hrow hbel
    by_cases c1 : j < q
    · obtain ⟨x, hxj, hxm⟩ := HN.out j c1
      have hEl : ElsAt wr wr.heap.size LA L := ⟨CellsAt.own (HK.out.own (.inl rfl) HO.out), fun y hy => (show Mine wr _ y from HK.out.own (.inr (.inl rfl)) (HMi.out y hy).1).own (by have := (HMi.out y hy).2; omega)⟩
      obtain ⟨b, off, rfl, hbl, hc⟩ := el_cells hEl (by have := (List.getElem?_eq_some_iff.1 hxj).1; omega)
      obtain ⟨h0, h1⟩ := hc j x hxj
      have HX := Lib.hid hxj
      have hMx : Hid (Mine w1 _ x) := Lib.hid (HMi.out x hxm).1
      have hl31 := (HMi.out x hxm).2
      have HXb : Hid (Bytes x.v) := Lib.hid ((HBy.out x.e (by rw [← HM.out]; exact List.mem_map_of_mem hxm)).2)
      have HCs : Hid (∀ W, KeepT w1 W → W.cell? ⟨b, off + j * 2, none⟩ = some (.int .i64 x.k) ∧ W.cell? ⟨b, off + j * 2 + 1, none⟩ = some (.slice x.A x.v.length x.c)) := Lib.hid fun W hk => by
        have hE2 : ElsAt W W.heap.size (some ⟨b, off, none⟩) L := ⟨CellsAt.own (hk.own (.inl rfl) HO.out), fun y hy => (show Mine W _ y from hk.own (.inr (.inl rfl)) (HMi.out y hy).1).own (by have := (HMi.out y hy).2; omega)⟩
        obtain ⟨b', off', e, _, hc'⟩ := el_cells hE2 (by have := (List.getElem?_eq_some_iff.1 HX.out).1; omega)
        cases e
        exact hc' j x HX.out
      have g1 : (0 : Int) ≤ (j : Int) ∧ (j : Int) < (q : Int) := by omega
      have HRl1 := Lib.hid (HRl.out (j + 1))
      obtain ⟨xk, xA, xc, xv⟩ := x
      simp only at h0 h1 hl31 HCs HXb
      obtain ⟨p, hp⟩ : ∃ p, xv.length = p := ⟨_, rfl⟩
      rw [hp] at h1 hl31 HCs
      have HP := Lib.hid hp
      clear hc hxj hxm hp hEl
      by_cases hk : xk = 3
      · subst hk
        have HY := Lib.hid (rsv_yes HX.out rfl)
        simp only at HY
        go_wp2_with fail
        go_loopw [3, 7] (fun s3 s7 wr => ∃ t k2 : Nat, Hid (k2 = 2 * t) ∧ k2 ≤ p ∧ t ≤ 31 ∧ s7 = .int .i64 (k2 : Int) ∧ wr.ownsRow w.heap.size 47 1 s3 (N + t) ((rsv (L.take j) ++ (svc xv).take t).map (Value.int .u16)) ∧ Hid (KeepT w1 wr) ∧ Below w.heap.size w wr) (fun _ s7 _ => p + 2 - (intOf s7).toNat)
        case atStart => exact ⟨0, 0, Lib.hid rfl, by omega, by omega, rfl, by simpa using hr3, HK, hbr⟩
        case round =>
          obtain ⟨t, k2, HK2, ht, ht31, rfl, hr4, HK4, hb4⟩ := hrel
          obtain ⟨BA4, bc4, rfl⟩ := own_form hr4
          clear h0 h1 hr3 hbr HK
          obtain ⟨h0, h1⟩ := HCs.out _ HK4.out
          have e1 : IntKind.i64.wrap ((k2 : Int) + 1) = (k2 : Int) + 1 := by rw [IntWalk.i64_in _ (by omega)]
          have e2 : IntKind.i64.wrap ((k2 : Int) + 2) = (k2 : Int) + 2 := by rw [IntWalk.i64_in _ (by omega)]
          by_cases c2 : (k2 : Int) + 1 < (p : Int)
          · have hM4 : Mine wr _ ⟨3, xA, xc, xv⟩ := HK4.out.own (.inr (.inl rfl)) hMx.out
            obtain ⟨bv, ov, hA, hbv⟩ : ∃ bv ov, xA = some ⟨bv, ov, none⟩ ∧ bv < wr.heap.size := by
              obtain ⟨g, hg1, hg2, hg3⟩ := Base.own_block hM4 (by simp only [HP.out]; omega)
              exact ⟨g, 0, hg1, hg3⟩
            subst hA
            have hpc : p ≤ xc := by have := own_cap hM4; simp only [HP.out] at this; exact this
            obtain ⟨b2, o2, hcut, hcutI⟩ := cut_lh bv ov p xc k2 (k2 + 2) (by omega) (by omega)
            rw [show k2 + 2 - k2 = 2 by omega] at hcut hcutI
            replace hcut : ∀ w : World, (Instr.slice 24 (.slice (some ⟨bv, ov, none⟩) p xc) (some (.int .i64 (k2 : Int))) (some (.int .i64 ((k2 : Int) + 2))) none).run Try.prog w = .ok (.slice (some ⟨b2, o2, none⟩) 2 (xc - k2)) w := fun w => hcut w
            obtain ⟨a, ha⟩ : ∃ a, xv.getD (2 * t) 0 = a := ⟨_, rfl⟩
            obtain ⟨bb, hbb⟩ : ∃ bb, xv.getD (2 * t + 1) 0 = bb := ⟨_, rfl⟩
            have h2t : 2 * t + 1 < xv.length := by rw [HP.out]; have := HK2.out; omega
            have HTw : Hid ((xv.drop k2).take 2 = [a, bb]) := Lib.hid (by rw [HK2.out, two_at h2t, ha, hbb])
            have HSt := Lib.hid (svc_step h2t ha hbb)
            have ba : 0 ≤ a ∧ a ≤ 255 := by rw [← ha]; exact bytes_get HXb.out _
            have bbb : 0 ≤ bb ∧ bb ≤ 255 := by rw [← hbb]; exact bytes_get HXb.out _
            have HV : Hid (Calls Try.prog 29 #[.slice (some ⟨b2, o2, none⟩) 2 (xc - k2)] wr fun e w' => e = .returned (.int .u64 (a + 256 * bb)) ∧ wr = w') := Lib.hid (by
              have hI := hcutI wr wr.heap.size xv (Ints.own hM4)
              rw [HTw.out] at hI
              have := value_any (some ⟨b2, o2, none⟩) 2 (xc - k2) [a, bb] wr rfl (fun z hz => by simp at hz; rcases hz with rfl | rfl <;> omega) hI (by omega)
              rwa [show valL [a, bb] = a + 256 * bb by simp [valL]] at this)
            have w4 : IntKind.u16.wrap (a + 256 * bb) = a + 256 * bb := by rw [Ser.wrap_u16]; omega
            have hbz := hb4.size
            have HHr := Lib.hid hr4
            clear hcutI h2t ha hbb hM4
            obtain ⟨y, hy⟩ : ∃ y, a + 256 * bb = y := ⟨_, rfl⟩
            rw [hy] at HV HSt w4
            clear hy
            go_wp2_with (first
              | (go_at_call 29; refine HV.out.mono ?_; rintro e w9 ⟨rfl, rfl⟩)
              | (at_builtin; refine wpList_append_ints rfl (.tmp 37) (.tmp 49) 40 rfl .u16 w.heap.size 47 i0 _ 2 Try.underlying40 hi hz0 hz1 hz2 rfl (.slice BA4 (N + t) bc4) (N + t) _ rfl (hr4.alloc _) (wr.heap.size + 1) _ 1 1 [y] rfl rfl ?c1 ?c2 ?c3 ?c4 ?_; (case c1 => exact Ints.lit _ _ _ _ _ rfl); (case c2 => unfold maxLen; omega); (case c3 => omega); (case c4 => simp; omega); intro v2 w2 hown2 hb2 hg2))
            go_roundw
            case rel => exact ⟨t + 1, k2 + 2, Lib.hid (by have := HK2.out; omega), by omega, by have := HK2.out; omega, by go_num, by rw [HSt.out, ← List.append_assoc, List.map_append]; exact hown2, Lib.hid (HK4.out.trans ((KeepT.alloc _ _).trans (KeepT.grown (HHr.out.alloc _) (by decide) hg2))), (hb4.alloc hb4.size _).trans hb2⟩
            case measure => simp [intOf]; omega
          · have HE : Hid ((svc xv).take t = svc xv) := Lib.hid (List.take_of_length_le (by rw [svc_length, HP.out]; have := HK2.out; omega))
            have HL2 : Hid ((svc xv).length = t) := Lib.hid (by rw [svc_length, HP.out]; have := HK2.out; omega)
            rw [HE.out] at hr4
            go_wp2_with fail
            go_roundw
            case rel => exact ⟨j + 1, N + t, by omega, by go_num, Lib.hid (by rw [HY.out, List.length_append, HNl.out, HL2.out]), by have := HRl1.out; rw [HY.out, List.length_append, HNl.out, HL2.out] at this; exact this, by rw [HY.out]; exact hr4, HK4, hb4⟩
            case measure => simp [intOf]; omega
      · have d0 : (xk == 3) = false := by simpa using hk
        have d1 : (xk != 3) = true := by simpa using hk
        have HY := Lib.hid (rsv_no HX.out hk)
        clear hk
        go_wp2_with fail
        go_roundw
        case rel => exact ⟨j + 1, N, by omega, by go_num, Lib.hid (by rw [HY.out]; exact HNl.out), by omega, by rw [HY.out]; exact hr3, HK, hbr⟩
        case measure => simp [intOf]; omega
    · obtain rfl : j = q := by omega
      go_wp2_with fail
      go_ret
      refine makesS_of rfl ?_ hbr
      rw [← HT.out, HNl.out]
      exact hr3
end Go.Proofs.Ytpbfnkicbejdbaa.Ad
