/- Which records are right, and their bytes: the document's answers. -/
import Derived.Test.YtkbhmgdmkamcfaaDoorCapWrite
import Derived.Deep.CutRange
set_option linter.unusedVariables false
set_option linter.unusedSimpArgs false
namespace Go.Proofs.YtkbhmgdmkamcfaaDoor.Cap
open Go.RowKit Mem Rw Air Base Oct

set_option maxRecDepth 100000 in
set_option maxHeartbeats 4000000 in
theorem rright_any (t h f q : Int) (bA : Option Addr) (bn bc : Nat) (bs : List Int) (w : World) :
    Calls Tryd.prog 36 #[.agg #[.int .i64 t, .int .i64 h, .int .i64 f, .int .i64 q, .slice bA bn bc]] w fun e w' => e = .returned (.bool (rightB ⟨t, h, f, q, bs⟩)) ∧ Below w.heap.size w w' := by
  have B0 : Below w.heap.size w (w.alloc (.cells #[.int .i64 t, .int .i64 h, .int .i64 f, .int .i64 q, .slice bA bn bc] 52)) := (Below.refl _ w).alloc (Nat.le_refl _) _
  by_cases c0 : 0 ≤ t
  · skip
    by_cases c1 : t ≤ 1099511627776
    · skip
      by_cases c2 : 0 ≤ h
      · skip
        by_cases c3 : h < 40
        · skip
          have y3 : h ≤ 39 := by omega
          by_cases c4 : 0 ≤ f
          · skip
            by_cases c5 : f < 8
            · skip
              have y5 : f ≤ 7 := by omega
              by_cases c6 : 0 ≤ q
              · skip
                by_cases c7 : q ≤ 4
                · skip
                  have e : rightB ⟨t, h, f, q, bs⟩ = true := (right_iff _).mpr ⟨c0, c1, c2, c3, c4, c5, c6, c7⟩
                  go_enter Tryd.func36, Tryd.ntmps36
                  go_wp2_with fail
                  go_ret
                  exact ⟨by first | rfl | exact Ser.ret_bool e.symm | simp [e], B0⟩
                · skip
                  have e : rightB ⟨t, h, f, q, bs⟩ = false := by cases hq : rightB ⟨t, h, f, q, bs⟩ with | false => rfl | true => exact absurd ((right_iff _).mp hq) (fun z => by simp only at z; omega)
                  go_enter Tryd.func36, Tryd.ntmps36
                  go_wp2_with fail
                  go_ret
                  exact ⟨by first | rfl | exact Ser.ret_bool e.symm | simp [e], B0⟩
              · skip
                have e : rightB ⟨t, h, f, q, bs⟩ = false := by cases hq : rightB ⟨t, h, f, q, bs⟩ with | false => rfl | true => exact absurd ((right_iff _).mp hq) (fun z => by simp only at z; omega)
                go_enter Tryd.func36, Tryd.ntmps36
                go_wp2_with fail
                go_ret
                exact ⟨by first | rfl | exact Ser.ret_bool e.symm | simp [e], B0⟩
            · skip
              have y5 : ¬ f ≤ 7 := by omega
              have e : rightB ⟨t, h, f, q, bs⟩ = false := by cases hq : rightB ⟨t, h, f, q, bs⟩ with | false => rfl | true => exact absurd ((right_iff _).mp hq) (fun z => by simp only at z; omega)
              go_enter Tryd.func36, Tryd.ntmps36
              go_wp2_with fail
              go_ret
              exact ⟨by first | rfl | exact Ser.ret_bool e.symm | simp [e], B0⟩
          · skip
            have e : rightB ⟨t, h, f, q, bs⟩ = false := by cases hq : rightB ⟨t, h, f, q, bs⟩ with | false => rfl | true => exact absurd ((right_iff _).mp hq) (fun z => by simp only at z; omega)
            go_enter Tryd.func36, Tryd.ntmps36
            go_wp2_with fail
            go_ret
            exact ⟨by first | rfl | exact Ser.ret_bool e.symm | simp [e], B0⟩
        · skip
          have y3 : ¬ h ≤ 39 := by omega
          have e : rightB ⟨t, h, f, q, bs⟩ = false := by cases hq : rightB ⟨t, h, f, q, bs⟩ with | false => rfl | true => exact absurd ((right_iff _).mp hq) (fun z => by simp only at z; omega)
          go_enter Tryd.func36, Tryd.ntmps36
          go_wp2_with fail
          go_ret
          exact ⟨by first | rfl | exact Ser.ret_bool e.symm | simp [e], B0⟩
      · skip
        have e : rightB ⟨t, h, f, q, bs⟩ = false := by cases hq : rightB ⟨t, h, f, q, bs⟩ with | false => rfl | true => exact absurd ((right_iff _).mp hq) (fun z => by simp only at z; omega)
        go_enter Tryd.func36, Tryd.ntmps36
        go_wp2_with fail
        go_ret
        exact ⟨by first | rfl | exact Ser.ret_bool e.symm | simp [e], B0⟩
    · skip
      have e : rightB ⟨t, h, f, q, bs⟩ = false := by cases hq : rightB ⟨t, h, f, q, bs⟩ with | false => rfl | true => exact absurd ((right_iff _).mp hq) (fun z => by simp only at z; omega)
      go_enter Tryd.func36, Tryd.ntmps36
      go_wp2_with fail
      go_ret
      exact ⟨by first | rfl | exact Ser.ret_bool e.symm | simp [e], B0⟩
  · skip
    have e : rightB ⟨t, h, f, q, bs⟩ = false := by cases hq : rightB ⟨t, h, f, q, bs⟩ with | false => rfl | true => exact absurd ((right_iff _).mp hq) (fun z => by simp only at z; omega)
    go_enter Tryd.func36, Tryd.ntmps36
    go_wp2_with fail
    go_ret
    exact ⟨by first | rfl | exact Ser.ret_bool e.symm | simp [e], B0⟩
theorem num3_tail (s : Nat) (h : s < 16777216) : Oct.numL 3 (s : Int) = Crc.tailL s := by
  simp only [Oct.numL, Crc.tailL, List.cons.injEq, and_true]
  refine ⟨?_, ?_, ?_⟩ <;> omega
theorem body_doc {t h f q : Int} {bs : List Int} (hr : rightB ⟨t, h, f, q, bs⟩ = true) : Oct.numL 8 t ++ [h, f, q] ++ Oct.numL 2 (bs.length : Int) ++ bs = bodL ⟨t, h, f, q, bs⟩ := by
  obtain ⟨h1, h2, h3, h4, h5, h6, h7, h8⟩ := (right_iff _).mp hr
  simp only at h1 h2 h3 h4 h5 h6 h7 h8
  have e : ∀ x : Int, 0 ≤ x → x < 256 → Oct.numL 1 x = [x] := fun x a b => by simp only [Oct.numL]; rw [Int.emod_eq_of_lt a b]
  unfold bodL fldsL
  simp only [Oct.putL, show (8 : Int).toNat = 8 from rfl, show (1 : Int).toNat = 1 from rfl, show (2 : Int).toNat = 2 from rfl]
  rw [e h (by omega) (by omega), e f (by omega) (by omega), e q (by omega) (by omega)]
  simp
set_option maxRecDepth 100000 in
set_option maxHeartbeats 8000000 in
theorem rbytes_any (t h f q : Int) (bA : Option Addr) (bn bc : Nat) (bs : List Int) (w : World) (hb : bs.length = bn) (hr : rightB ⟨t, h, f, q, bs⟩ = true) (hl : bn ≤ 260) (bb : Bytes bs) (hi : Ints .u8 w w.heap.size bA bs) :
    Calls Tryd.prog 37 #[.agg #[.int .i64 t, .int .i64 h, .int .i64 f, .int .i64 q, .slice bA bn bc]] w fun e w' => Base.Makes w w' e (recL ⟨t, h, f, q, bs⟩) := by
  obtain ⟨i0, hi0, hz0, hz1, hz2⟩ := info_parts Base.info_u8
  have hbd := body_doc hr
  have hbod : Bytes (bodL ⟨t, h, f, q, bs⟩) := by
    unfold bodL
    refine bytes_append ?_ bb
    simp only [fldsL, Oct.putL]
    exact bytes_append (numL_bytes _ _) (bytes_append (numL_bytes _ _) (bytes_append (numL_bytes _ _) (bytes_append (numL_bytes _ _) (bytes_append (numL_bytes _ _) (by intro z hz; cases hz)))))
  obtain ⟨h1, h2, h3, h4, h5, h6, h7, h8⟩ := (right_iff _).mp hr
  simp only at h1 h2 h3 h4 h5 h6 h7 h8
  have hw0 : IntKind.u64.wrap t = t := by rw [IntKind.wrap_u64]; omega
  have hw1 : IntKind.u8.wrap h = h := by rw [IntKind.wrap_u8]; omega
  have hw2 : IntKind.u8.wrap f = f := by rw [IntKind.wrap_u8]; omega
  have hw3 : IntKind.u8.wrap q = q := by rw [IntKind.wrap_u8]; omega
  have hw4 : IntKind.u64.wrap (bn : Int) = (bn : Int) := by rw [IntKind.wrap_u64]; omega
  have HN : ∀ (k : Nat) (v : Int) (w' : World), 1 ≤ k ∧ k ≤ 8 → 0 ≤ v ∧ v ≤ 18446744073709551615 → Calls Tryd.prog 58 #[.int .i64 (k : Int), .int .u64 v] w' fun e w2 => ∃ A1 c1, e = .returned (.slice A1 k c1) ∧ w2.ownsRow w'.heap.size 5 1 (.slice A1 k c1) k ((Oct.numL k v).map (Value.int .u8)) ∧ Below w'.heap.size w' w2 := fun k v w' hk hv => by
    refine (Oct.rnum_any (k : Int) v w' (by omega) hv).mono ?_
    rintro e w2 ⟨A1, c1, he, ho, hbl⟩
    rw [Int.toNat_natCast, Oct.numL_len] at he ho
    exact ⟨A1, c1, he, ho, hbl⟩
  have HN8 := Lib.hid (fun w' => HN 8 t w' (by decide) (by omega))
  have HN2 := Lib.hid (fun w' => HN 2 (bn : Int) w' (by decide) (by omega))
  have HN3 := Lib.hid (fun (v : Nat) (hv : v < 16777216) w' => HN 3 (v : Int) w' (by decide) (by omega))
  have HSm : Hid (∀ (w' : World) (A7 : Option Addr) (c7 : Nat), Ints .u8 w' w'.heap.size A7 (bodL ⟨t, h, f, q, bs⟩) → Calls Tryd.prog 59 #[.int .u32 0, .slice A7 (8 + 3 + 2 + bn) c7] w' fun e w2 => e = .returned (.int .u32 (Crc.sumN (Crc.ini 0) (bodL ⟨t, h, f, q, bs⟩) : Nat)) ∧ w' = w2) := Lib.hid fun w' A7 c7 g => Crc.rsum_any 0 A7 (8 + 3 + 2 + bn) c7 _ w' (by decide) (by rw [body_len]; simp only; omega) hbod g (by omega)
  have hsum : Crc.sumN (Crc.ini 0) (bodL ⟨t, h, f, q, bs⟩) < 16777216 := Crc.sumN_lt _ _ (Crc.ini_lt 0) hbod
  have HZ : Hid (((((Oct.numL 8 t).map (Value.int .u8) ++ [h, f, q].map (Value.int .u8)) ++ (Oct.numL 2 (bn : Int)).map (Value.int .u8)) ++ bs.map (Value.int .u8)) = (bodL ⟨t, h, f, q, bs⟩).map (Value.int .u8)) := Lib.hid (by rw [← hbd, ← hb]; simp only [List.map_append])
  have HT : Hid (∀ s : Nat, s < 16777216 → Oct.numL 3 (s : Int) = Crc.tailL s) := Lib.hid num3_tail
  have HR : Hid (recL ⟨t, h, f, q, bs⟩ = bodL ⟨t, h, f, q, bs⟩ ++ Crc.tailL (Crc.sumN (Crc.ini 0) (bodL ⟨t, h, f, q, bs⟩))) := Lib.hid rfl
  have B0 : Below w.heap.size w (w.alloc (.cells #[.int .i64 t, .int .i64 h, .int .i64 f, .int .i64 q, .slice bA bn bc] 52)) := (Below.refl _ w).alloc (Nat.le_refl _) _
  have U0 : (w.alloc (.cells #[.int .i64 t, .int .i64 h, .int .i64 f, .int .i64 q, .slice bA bn bc] 52)).cell? ⟨w.heap.size, 0, none⟩ = some (.int .i64 t) ∧ (w.alloc (.cells #[.int .i64 t, .int .i64 h, .int .i64 f, .int .i64 q, .slice bA bn bc] 52)).cell? ⟨w.heap.size, 1, none⟩ = some (.int .i64 h) ∧ (w.alloc (.cells #[.int .i64 t, .int .i64 h, .int .i64 f, .int .i64 q, .slice bA bn bc] 52)).cell? ⟨w.heap.size, 2, none⟩ = some (.int .i64 f) ∧ (w.alloc (.cells #[.int .i64 t, .int .i64 h, .int .i64 f, .int .i64 q, .slice bA bn bc] 52)).cell? ⟨w.heap.size, 3, none⟩ = some (.int .i64 q) ∧ (w.alloc (.cells #[.int .i64 t, .int .i64 h, .int .i64 f, .int .i64 q, .slice bA bn bc] 52)).cell? ⟨w.heap.size, 4, none⟩ = some (.slice bA bn bc) := by
    have T := Blk.fresh w 52 #[.int .i64 t, .int .i64 h, .int .i64 f, .int .i64 q, .slice bA bn bc]
    exact ⟨T.cell 0, T.cell 1, T.cell 2, T.cell 3, T.cell 4⟩
  have HK : Hid (∀ X, Below (w.alloc (.cells #[.int .i64 t, .int .i64 h, .int .i64 f, .int .i64 q, .slice bA bn bc] 52)).heap.size (w.alloc (.cells #[.int .i64 t, .int .i64 h, .int .i64 f, .int .i64 q, .slice bA bn bc] 52)) X → X.cell? ⟨w.heap.size, 0, none⟩ = some (.int .i64 t) ∧ X.cell? ⟨w.heap.size, 1, none⟩ = some (.int .i64 h) ∧ X.cell? ⟨w.heap.size, 2, none⟩ = some (.int .i64 f) ∧ X.cell? ⟨w.heap.size, 3, none⟩ = some (.int .i64 q) ∧ X.cell? ⟨w.heap.size, 4, none⟩ = some (.slice bA bn bc)) := Lib.hid fun X bb => by
    have e : w.heap.size < (w.alloc (.cells #[.int .i64 t, .int .i64 h, .int .i64 f, .int .i64 q, .slice bA bn bc] 52)).heap.size := by simp
    exact ⟨(bb.cell (p := ⟨w.heap.size, 0, none⟩) e).trans U0.1, (bb.cell (p := ⟨w.heap.size, 1, none⟩) e).trans U0.2.1, (bb.cell (p := ⟨w.heap.size, 2, none⟩) e).trans U0.2.2.1, (bb.cell (p := ⟨w.heap.size, 3, none⟩) e).trans U0.2.2.2.1, (bb.cell (p := ⟨w.heap.size, 4, none⟩) e).trans U0.2.2.2.2⟩
  have hlr : (recL ⟨t, h, f, q, bs⟩).length = 8 + 3 + 2 + bn + 3 := by rw [rec_len]; simp only; omega
  have HLr := Lib.hid hlr
  clear hr h1 h2 h3 h4 h5 h6 h7 h8 hbod hbd HN bb hlr U0
  generalize bodL ⟨t, h, f, q, bs⟩ = bd at *
  generalize hrc : recL ⟨t, h, f, q, bs⟩ = rc at *
  clear hrc
  generalize Crc.sumN (Crc.ini 0) bd = sm at *
  go_enter Tryd.func37, Tryd.ntmps37
  go_upto_region 1 with fail
  generalize w.alloc (.cells #[.int .i64 t, .int .i64 h, .int .i64 f, .int .i64 q, .slice bA bn bc] 52) = W at *
  go_cut [3] from 4 to 18 (fun s3 wx => ∃ A5 c5, s3 = .slice A5 (8 + 3) c5 ∧ wx.ownsRow W.heap.size 5 1 (.slice A5 (8 + 3) c5) (8 + 3) ((Oct.numL 8 t).map (Value.int .u8) ++ [h, f, q].map (Value.int .u8)) ∧ Below W.heap.size W wx)
  case first =>
    go_wp2_with fail
    refine wp_region_held_drew (S := (fun w' => w'.cell? ⟨w.heap.size, 0, none⟩ = some (.int .i64 t) ∧ w'.cell? ⟨w.heap.size, 1, none⟩ = some (.int .i64 h) ∧ w'.cell? ⟨w.heap.size, 2, none⟩ = some (.int .i64 f) ∧ w'.cell? ⟨w.heap.size, 3, none⟩ = some (.int .i64 q) ∧ w'.cell? ⟨w.heap.size, 4, none⟩ = some (.slice bA bn bc))) (by kernel_rfl) ?_ (fun hHeld => ?_)
    · exact HK.out _ (Below.refl _ _).drew
    have BX : Below W.heap.size W W.drew := (Below.refl _ _).drew
    generalize W.drew = X0 at *
    refine wpAnyH_take (i := 0) (v := .pointer (some ⟨w.heap.size, 0, none⟩)) rfl (by kernel_rfl) (by kernel_rfl) (by kernel_rfl) (fun _ _ _ h => h) (Or.inl ⟨by first | rfl | go_simp, by intro w9 hSw; (try dsimp only at hSw); go_simp⟩) (by assumption) ?_
    simp only [List.getElem_toArray, List.getElem_cons_zero, List.getElem_cons_succ, Act.put, List.setIfInBounds_toArray, List.set_cons_zero, List.set_cons_succ]
    refine wpAnyH_take (i := 1) (v := .int .i64 t) rfl (by kernel_rfl) (by kernel_rfl) (by kernel_rfl) (fun _ _ _ h => h) (Or.inl ⟨by first | rfl | go_simp, by intro w9 hSw; (try dsimp only at hSw); go_simp⟩) (by assumption) ?_
    simp only [List.getElem_toArray, List.getElem_cons_zero, List.getElem_cons_succ, Act.put, List.setIfInBounds_toArray, List.set_cons_zero, List.set_cons_succ]
    refine wpAnyH_take (i := 2) (v := .int .u64 t) rfl (by kernel_rfl) (by kernel_rfl) (by kernel_rfl) (fun _ _ _ h => h) (Or.inl ⟨by first | rfl | go_simp, by intro w9 hSw; (try dsimp only at hSw); go_simp⟩) (by assumption) ?_
    simp only [List.getElem_toArray, List.getElem_cons_zero, List.getElem_cons_succ, Act.put, List.setIfInBounds_toArray, List.set_cons_zero, List.set_cons_succ]
    refine wpAnyH_take (i := 4) (v := .pointer (some ⟨w.heap.size, 1, none⟩)) rfl (by kernel_rfl) (by kernel_rfl) (by kernel_rfl) (fun _ _ _ h => h) (Or.inl ⟨by first | rfl | go_simp, by intro w9 hSw; (try dsimp only at hSw); go_simp⟩) (by assumption) ?_
    simp only [List.getElem_toArray, List.getElem_cons_zero, List.getElem_cons_succ, Act.put, List.setIfInBounds_toArray, List.set_cons_zero, List.set_cons_succ]
    refine wpAnyH_take (i := 5) (v := .int .i64 h) rfl (by kernel_rfl) (by kernel_rfl) (by kernel_rfl) (fun _ _ _ h => h) (Or.inl ⟨by first | rfl | go_simp, by intro w9 hSw; (try dsimp only at hSw); go_simp⟩) (by assumption) ?_
    simp only [List.getElem_toArray, List.getElem_cons_zero, List.getElem_cons_succ, Act.put, List.setIfInBounds_toArray, List.set_cons_zero, List.set_cons_succ]
    refine wpAnyH_take (i := 6) (v := .int .u8 h) rfl (by kernel_rfl) (by kernel_rfl) (by kernel_rfl) (fun _ _ _ h => h) (Or.inl ⟨by first | rfl | go_simp, by intro w9 hSw; (try dsimp only at hSw); go_simp⟩) (by assumption) ?_
    simp only [List.getElem_toArray, List.getElem_cons_zero, List.getElem_cons_succ, Act.put, List.setIfInBounds_toArray, List.set_cons_zero, List.set_cons_succ]
    refine wpAnyH_take (i := 7) (v := .pointer (some ⟨w.heap.size, 2, none⟩)) rfl (by kernel_rfl) (by kernel_rfl) (by kernel_rfl) (fun _ _ _ h => h) (Or.inl ⟨by first | rfl | go_simp, by intro w9 hSw; (try dsimp only at hSw); go_simp⟩) (by assumption) ?_
    simp only [List.getElem_toArray, List.getElem_cons_zero, List.getElem_cons_succ, Act.put, List.setIfInBounds_toArray, List.set_cons_zero, List.set_cons_succ]
    refine wpAnyH_take (i := 8) (v := .int .i64 f) rfl (by kernel_rfl) (by kernel_rfl) (by kernel_rfl) (fun _ _ _ h => h) (Or.inl ⟨by first | rfl | go_simp, by intro w9 hSw; (try dsimp only at hSw); go_simp⟩) (by assumption) ?_
    simp only [List.getElem_toArray, List.getElem_cons_zero, List.getElem_cons_succ, Act.put, List.setIfInBounds_toArray, List.set_cons_zero, List.set_cons_succ]
    refine wpAnyH_take (i := 9) (v := .int .u8 f) rfl (by kernel_rfl) (by kernel_rfl) (by kernel_rfl) (fun _ _ _ h => h) (Or.inl ⟨by first | rfl | go_simp, by intro w9 hSw; (try dsimp only at hSw); go_simp⟩) (by assumption) ?_
    simp only [List.getElem_toArray, List.getElem_cons_zero, List.getElem_cons_succ, Act.put, List.setIfInBounds_toArray, List.set_cons_zero, List.set_cons_succ]
    refine wpAnyH_take (i := 10) (v := .pointer (some ⟨w.heap.size, 3, none⟩)) rfl (by kernel_rfl) (by kernel_rfl) (by kernel_rfl) (fun _ _ _ h => h) (Or.inl ⟨by first | rfl | go_simp, by intro w9 hSw; (try dsimp only at hSw); go_simp⟩) (by assumption) ?_
    simp only [List.getElem_toArray, List.getElem_cons_zero, List.getElem_cons_succ, Act.put, List.setIfInBounds_toArray, List.set_cons_zero, List.set_cons_succ]
    refine wpAnyH_take (i := 11) (v := .int .i64 q) rfl (by kernel_rfl) (by kernel_rfl) (by kernel_rfl) (fun _ _ _ h => h) (Or.inl ⟨by first | rfl | go_simp, by intro w9 hSw; (try dsimp only at hSw); go_simp⟩) (by assumption) ?_
    simp only [List.getElem_toArray, List.getElem_cons_zero, List.getElem_cons_succ, Act.put, List.setIfInBounds_toArray, List.set_cons_zero, List.set_cons_succ]
    refine wpAnyH_take (i := 12) (v := .int .u8 q) rfl (by kernel_rfl) (by kernel_rfl) (by kernel_rfl) (fun _ _ _ h => h) (Or.inl ⟨by first | rfl | go_simp, by intro w9 hSw; (try dsimp only at hSw); go_simp⟩) (by assumption) ?_
    simp only [List.getElem_toArray, List.getElem_cons_zero, List.getElem_cons_succ, Act.put, List.setIfInBounds_toArray, List.set_cons_zero, List.set_cons_succ]
    refine wpAnyH_ready (rs := [3, 13]) (by kernel_rfl) (by simp) ?_
    refine AllReadyH.cons rfl (fun K hK => ?_) (AllReadyH.cons rfl (fun K hK => ?_) (AllReadyH.nil))
    · skip
      go_simp
      refine (HN8.out _).mono ?_
      rintro e X1 ⟨A1, c1, rfl, o1, b1⟩
      have O1 := own_base o1 BX.size
      have BX := thenB BX b1
      refine hK.out _ _ (HK.out _ BX) (fun hHeld => ?_)
      clear hK K
      try simp only [List.getElem_toArray, List.getElem_cons_zero, List.getElem_cons_succ, Act.put, List.setIfInBounds_toArray, List.set_cons_zero, List.set_cons_succ]
      refine wpAnyH_ready (rs := [13]) (by kernel_rfl) (by simp) ?_
      refine AllReadyH.cons rfl (fun K hK => ?_) (AllReadyH.nil)
      go_simp
      have b1 := (Below.refl _ X1).alloc (Nat.le_refl _) (.cells #[.int .u8 h, .int .u8 f, .int .u8 q] 5)
      have L1 : CellsAt (X1.alloc (.cells #[.int .u8 h, .int .u8 f, .int .u8 q] 5)) (X1.alloc (.cells #[.int .u8 h, .int .u8 f, .int .u8 q] 5)).heap.size (some ⟨X1.heap.size, 0, none⟩) ([h, f, q].map (Value.int .u8)) := CellsAt.lit X1 ([h, f, q].map (Value.int .u8)) _ 5 rfl
      generalize X1.alloc (.cells #[.int .u8 h, .int .u8 f, .int .u8 q] 5) = X2 at *
      have BX := thenB BX b1
      have O1 := own_below O1 b1
      refine hK.out _ _ (HK.out _ BX) (fun hHeld => ?_)
      clear hK K
      try simp only [List.getElem_toArray, List.getElem_cons_zero, List.getElem_cons_succ, Act.put, List.setIfInBounds_toArray, List.set_cons_zero, List.set_cons_succ]
      refine wpAnyH_ready (rs := [14]) (by kernel_rfl) (by simp) ?_
      refine AllReadyH.cons rfl (fun K hK => ?_) (AllReadyH.nil)
      refine step_append_rows rfl (.tmp 7) (.tmp 17) 32 rfl W.heap.size 5 i0 _ 1 1 Tryd.underlying32 hi0 hz0 hz1 hz2 rfl (by decide) (.slice A1 8 c1) 8 ((Oct.numL 8 t).map (Value.int .u8)) rfl O1 _ (some ⟨X1.heap.size, 0, none⟩) 3 3 ([h, f, q].map (Value.int .u8)) rfl (by simp [hb, Oct.numL_len]) (one_ints _ .u8) L1 (by unfold maxLen; omega) (by omega) BX.size ?_
      intro v5 X3 O2 b5 g5
      obtain ⟨A5, c5, rfl⟩ := own_form O2
      have BX := BX.trans b5
      refine hK.out _ _ (HK.out _ BX) (fun hHeld => ?_)
      clear hK K
      try simp only [List.getElem_toArray, List.getElem_cons_zero, List.getElem_cons_succ, Act.put, List.setIfInBounds_toArray, List.set_cons_zero, List.set_cons_succ]
      refine wpAnyH_take (i := 15) (v := .slice A5 (8 + 3) c5) rfl (by kernel_rfl) (by kernel_rfl) (by kernel_rfl) (fun _ _ _ h => h) (Or.inl ⟨by first | rfl | go_simp, by intro w9 hSw; (try dsimp only at hSw); go_simp⟩) (by assumption) ?_
      simp only [List.getElem_toArray, List.getElem_cons_zero, List.getElem_cons_succ, Act.put, List.setIfInBounds_toArray, List.set_cons_zero, List.set_cons_succ]
      refine wpAnyH_done (by kernel_rfl) ?_ _
      go_wp2_with fail
      go_meet
      exact ⟨A5, c5, rfl, O2, BX⟩
    · skip
      go_simp
      have b1 := (Below.refl _ X0).alloc (Nat.le_refl _) (.cells #[.int .u8 h, .int .u8 f, .int .u8 q] 5)
      have L1 : CellsAt (X0.alloc (.cells #[.int .u8 h, .int .u8 f, .int .u8 q] 5)) (X0.alloc (.cells #[.int .u8 h, .int .u8 f, .int .u8 q] 5)).heap.size (some ⟨X0.heap.size, 0, none⟩) ([h, f, q].map (Value.int .u8)) := CellsAt.lit X0 ([h, f, q].map (Value.int .u8)) _ 5 rfl
      generalize X0.alloc (.cells #[.int .u8 h, .int .u8 f, .int .u8 q] 5) = X4 at *
      have BX := thenB BX b1
      refine hK.out _ _ (HK.out _ BX) (fun hHeld => ?_)
      clear hK K
      try simp only [List.getElem_toArray, List.getElem_cons_zero, List.getElem_cons_succ, Act.put, List.setIfInBounds_toArray, List.set_cons_zero, List.set_cons_succ]
      refine wpAnyH_ready (rs := [3]) (by kernel_rfl) (by simp) ?_
      refine AllReadyH.cons rfl (fun K hK => ?_) (AllReadyH.nil)
      go_simp
      refine (HN8.out _).mono ?_
      rintro e X5 ⟨A1, c1, rfl, o1, b1⟩
      have O1 := own_base o1 BX.size
      have BX := thenB BX b1
      have L1 := L1.later b1
      refine hK.out _ _ (HK.out _ BX) (fun hHeld => ?_)
      clear hK K
      try simp only [List.getElem_toArray, List.getElem_cons_zero, List.getElem_cons_succ, Act.put, List.setIfInBounds_toArray, List.set_cons_zero, List.set_cons_succ]
      refine wpAnyH_ready (rs := [14]) (by kernel_rfl) (by simp) ?_
      refine AllReadyH.cons rfl (fun K hK => ?_) (AllReadyH.nil)
      refine step_append_rows rfl (.tmp 7) (.tmp 17) 32 rfl W.heap.size 5 i0 _ 1 1 Tryd.underlying32 hi0 hz0 hz1 hz2 rfl (by decide) (.slice A1 8 c1) 8 ((Oct.numL 8 t).map (Value.int .u8)) rfl O1 _ (some ⟨X0.heap.size, 0, none⟩) 3 3 ([h, f, q].map (Value.int .u8)) rfl (by simp [hb, Oct.numL_len]) (one_ints _ .u8) L1 (by unfold maxLen; omega) (by omega) BX.size ?_
      intro v5 X6 O2 b5 g5
      obtain ⟨A5, c5, rfl⟩ := own_form O2
      have BX := BX.trans b5
      refine hK.out _ _ (HK.out _ BX) (fun hHeld => ?_)
      clear hK K
      try simp only [List.getElem_toArray, List.getElem_cons_zero, List.getElem_cons_succ, Act.put, List.setIfInBounds_toArray, List.set_cons_zero, List.set_cons_succ]
      refine wpAnyH_take (i := 15) (v := .slice A5 (8 + 3) c5) rfl (by kernel_rfl) (by kernel_rfl) (by kernel_rfl) (fun _ _ _ h => h) (Or.inl ⟨by first | rfl | go_simp, by intro w9 hSw; (try dsimp only at hSw); go_simp⟩) (by assumption) ?_
      simp only [List.getElem_toArray, List.getElem_cons_zero, List.getElem_cons_succ, Act.put, List.setIfInBounds_toArray, List.set_cons_zero, List.set_cons_succ]
      refine wpAnyH_done (by kernel_rfl) ?_ _
      go_wp2_with fail
      go_meet
      exact ⟨A5, c5, rfl, O2, BX⟩
  case rest =>
    obtain ⟨A5, c5, rfl, O2, BV⟩ := hcut
    clear HN8 hw0 hw1 hw2 hw3
    go_upto_region 2 with fail
    generalize wc = V at *
    go_cut [3] from 19 to 28 (fun s3 wx => ∃ A7 c7, s3 = .slice A7 (8 + 3 + 2 + bn) c7 ∧ wx.ownsRow W.heap.size 5 1 (.slice A7 (8 + 3 + 2 + bn) c7) (8 + 3 + 2 + bn) ((((Oct.numL 8 t).map (Value.int .u8) ++ [h, f, q].map (Value.int .u8)) ++ (Oct.numL 2 (bn : Int)).map (Value.int .u8)) ++ bs.map (Value.int .u8)) ∧ Below W.heap.size W wx)
    case first =>
      go_wp2_with fail
      refine wp_region_held_drew (S := (fun w' => w'.cell? ⟨w.heap.size, 0, none⟩ = some (.int .i64 t) ∧ w'.cell? ⟨w.heap.size, 1, none⟩ = some (.int .i64 h) ∧ w'.cell? ⟨w.heap.size, 2, none⟩ = some (.int .i64 f) ∧ w'.cell? ⟨w.heap.size, 3, none⟩ = some (.int .i64 q) ∧ w'.cell? ⟨w.heap.size, 4, none⟩ = some (.slice bA bn bc))) (by kernel_rfl) ?_ (fun hHeld => ?_)
      · exact HK.out _ BV.drew
      have BX : Below W.heap.size W V.drew := BV.drew
      have O2 := own_below O2 (Below.refl _ V).drew
      generalize V.drew = Y0 at *
      refine wpAnyH_take (i := 0) (v := .slice A5 (8 + 3) c5) rfl (by kernel_rfl) (by kernel_rfl) (by kernel_rfl) (fun _ _ _ h => h) (Or.inl ⟨by first | rfl | go_simp, by intro w9 hSw; (try dsimp only at hSw); go_simp⟩) (by assumption) ?_
      simp only [List.getElem_toArray, List.getElem_cons_zero, List.getElem_cons_succ, Act.put, List.setIfInBounds_toArray, List.set_cons_zero, List.set_cons_succ]
      refine wpAnyH_take (i := 1) (v := .pointer (some ⟨w.heap.size, 4, none⟩)) rfl (by kernel_rfl) (by kernel_rfl) (by kernel_rfl) (fun _ _ _ h => h) (Or.inl ⟨by first | rfl | go_simp, by intro w9 hSw; (try dsimp only at hSw); go_simp⟩) (by assumption) ?_
      simp only [List.getElem_toArray, List.getElem_cons_zero, List.getElem_cons_succ, Act.put, List.setIfInBounds_toArray, List.set_cons_zero, List.set_cons_succ]
      refine wpAnyH_take (i := 2) (v := .slice bA bn bc) rfl (by kernel_rfl) (by kernel_rfl) (by kernel_rfl) (fun _ _ _ h => h) (Or.inl ⟨by first | rfl | go_simp, by intro w9 hSw; (try dsimp only at hSw); go_simp⟩) (by assumption) ?_
      simp only [List.getElem_toArray, List.getElem_cons_zero, List.getElem_cons_succ, Act.put, List.setIfInBounds_toArray, List.set_cons_zero, List.set_cons_succ]
      refine wpAnyH_take (i := 3) (v := .int .i64 (bn : Int)) rfl (by kernel_rfl) (by kernel_rfl) (by kernel_rfl) (fun _ _ _ h => h) (Or.inl ⟨by first | rfl | go_simp, by intro w9 hSw; (try dsimp only at hSw); go_simp⟩) (by assumption) ?_
      simp only [List.getElem_toArray, List.getElem_cons_zero, List.getElem_cons_succ, Act.put, List.setIfInBounds_toArray, List.set_cons_zero, List.set_cons_succ]
      refine wpAnyH_take (i := 4) (v := .int .u64 (bn : Int)) rfl (by kernel_rfl) (by kernel_rfl) (by kernel_rfl) (fun _ _ _ h => h) (Or.inl ⟨by first | rfl | go_simp, by intro w9 hSw; (try dsimp only at hSw); go_simp⟩) (by assumption) ?_
      simp only [List.getElem_toArray, List.getElem_cons_zero, List.getElem_cons_succ, Act.put, List.setIfInBounds_toArray, List.set_cons_zero, List.set_cons_succ]
      refine wpAnyH_take (i := 7) (v := .pointer (some ⟨w.heap.size, 4, none⟩)) rfl (by kernel_rfl) (by kernel_rfl) (by kernel_rfl) (fun _ _ _ h => h) (Or.inl ⟨by first | rfl | go_simp, by intro w9 hSw; (try dsimp only at hSw); go_simp⟩) (by assumption) ?_
      simp only [List.getElem_toArray, List.getElem_cons_zero, List.getElem_cons_succ, Act.put, List.setIfInBounds_toArray, List.set_cons_zero, List.set_cons_succ]
      refine wpAnyH_take (i := 8) (v := .slice bA bn bc) rfl (by kernel_rfl) (by kernel_rfl) (by kernel_rfl) (fun _ _ _ h => h) (Or.inl ⟨by first | rfl | go_simp, by intro w9 hSw; (try dsimp only at hSw); go_simp⟩) (by assumption) ?_
      simp only [List.getElem_toArray, List.getElem_cons_zero, List.getElem_cons_succ, Act.put, List.setIfInBounds_toArray, List.set_cons_zero, List.set_cons_succ]
      refine wpAnyH_ready (rs := [5]) (by kernel_rfl) (by simp) ?_
      refine AllReadyH.cons rfl (fun K hK => ?_) (AllReadyH.nil)
      go_simp
      refine (HN2.out _).mono ?_
      rintro e Y1 ⟨A2, c2, rfl, o2, b1⟩
      have BX := thenB BX b1
      have O2 := own_below O2 b1
      refine hK.out _ _ (HK.out _ BX) (fun hHeld => ?_)
      clear hK K
      try simp only [List.getElem_toArray, List.getElem_cons_zero, List.getElem_cons_succ, Act.put, List.setIfInBounds_toArray, List.set_cons_zero, List.set_cons_succ]
      refine wpAnyH_ready (rs := [6]) (by kernel_rfl) (by simp) ?_
      refine AllReadyH.cons rfl (fun K hK => ?_) (AllReadyH.nil)
      refine step_append_rows rfl (.tmp 19) (.tmp 24) 32 rfl W.heap.size 5 i0 _ 1 1 Tryd.underlying32 hi0 hz0 hz1 hz2 rfl (by decide) (.slice A5 (8 + 3) c5) (8 + 3) (((Oct.numL 8 t).map (Value.int .u8) ++ [h, f, q].map (Value.int .u8))) rfl O2 _ A2 2 c2 ((Oct.numL 2 (bn : Int)).map (Value.int .u8)) rfl (by simp [hb, Oct.numL_len]) (one_ints _ .u8) (CellsAt.own o2) (by unfold maxLen; omega) (by omega) BX.size ?_
      intro v5 Y2 O3 b5 g5
      obtain ⟨A6, c6, rfl⟩ := own_form O3
      have BX := BX.trans b5
      refine hK.out _ _ (HK.out _ BX) (fun hHeld => ?_)
      clear hK K
      try simp only [List.getElem_toArray, List.getElem_cons_zero, List.getElem_cons_succ, Act.put, List.setIfInBounds_toArray, List.set_cons_zero, List.set_cons_succ]
      refine wpAnyH_ready (rs := [9]) (by kernel_rfl) (by simp) ?_
      refine AllReadyH.cons rfl (fun K hK => ?_) (AllReadyH.nil)
      refine step_append_rows rfl (.tmp 25) (.tmp 27) 32 rfl W.heap.size 5 i0 _ 1 1 Tryd.underlying32 hi0 hz0 hz1 hz2 rfl (by decide) (.slice A6 (8 + 3 + 2) c6) (8 + 3 + 2) ((((Oct.numL 8 t).map (Value.int .u8) ++ [h, f, q].map (Value.int .u8)) ++ (Oct.numL 2 (bn : Int)).map (Value.int .u8))) rfl O3 _ bA bn bc (bs.map (Value.int .u8)) rfl (by simp [hb, Oct.numL_len]) (one_ints _ .u8) (cells_ints (later hi (thenB B0 BX))) (by unfold maxLen; omega) (by omega) BX.size ?_
      intro v7 Y3 O4 b7 g7
      obtain ⟨A7, c7, rfl⟩ := own_form O4
      have BX := BX.trans b7
      refine hK.out _ _ (HK.out _ BX) (fun hHeld => ?_)
      clear hK K
      try simp only [List.getElem_toArray, List.getElem_cons_zero, List.getElem_cons_succ, Act.put, List.setIfInBounds_toArray, List.set_cons_zero, List.set_cons_succ]
      refine wpAnyH_take (i := 10) (v := .slice A7 (8 + 3 + 2 + bn) c7) rfl (by kernel_rfl) (by kernel_rfl) (by kernel_rfl) (fun _ _ _ h => h) (Or.inl ⟨by first | rfl | go_simp, by intro w9 hSw; (try dsimp only at hSw); go_simp⟩) (by assumption) ?_
      simp only [List.getElem_toArray, List.getElem_cons_zero, List.getElem_cons_succ, Act.put, List.setIfInBounds_toArray, List.set_cons_zero, List.set_cons_succ]
      refine wpAnyH_done (by kernel_rfl) ?_ _
      go_wp2_with fail
      go_meet
      exact ⟨A7, c7, rfl, O4, BX⟩
    case rest =>
      obtain ⟨A7, c7, rfl, O4, BV7⟩ := hcut
      clear HN2 hw4 BV O2
      rw [HZ.out] at O4
      have i7 := Ints.own O4
      have HW := IntKind.wrap_u64
      have hw5 : IntKind.u64.wrap (sm : Int) = (sm : Int) := by rw [IntKind.wrap_u64]; omega
      have HM := Lib.hid (HN3.out sm hsum)
      rw [HT.out sm hsum] at HM
      have HlT : Hid ((Crc.tailL sm).length = 3) := Lib.hid rfl
      have HlB : Hid (8 + 3 + 2 + bn + 3 ≤ 1000) := Lib.hid (by omega)
      clear HW HN3 hsum
      generalize hmm : 8 + 3 + 2 + bn = mm at *
      clear hmm
      go_wp2_with (first
        | (go_at_call 59; refine (HSm.out _ _ _ i7).mono ?_; rintro e w4 ⟨rfl, rfl⟩)
        | (go_at_call 58; refine (HM.out _).mono ?_; rintro e w5 ⟨A8, c8, rfl, o8, b8⟩)
        | (at_builtin; refine wpList_append_rows rfl (.tmp 29) (.tmp 33) 32 rfl W.heap.size 5 i0 _ 1 1 Tryd.underlying32 hi0 hz0 hz1 hz2 rfl (by decide) (.slice A7 mm c7) mm (bd.map (Value.int .u8)) rfl (own_below O4 b8) _ A8 3 c8 ((Crc.tailL sm).map (Value.int .u8)) rfl (by rw [List.length_map, HlT.out]) (one_ints _ .u8) (CellsAt.own o8) (by have := HlB.out; unfold maxLen; omega) (by have := HlB.out; omega) (Nat.le_trans BV7.size b8.size) ?_; intro v9 w9 o9 b9 g9; obtain ⟨A9, c9, rfl⟩ := own_form o9))
      go_ret
      refine Base.makes_of rfl HLr.out ?_ (B0.trans (((thenB BV7 b8).trans b9).mono B0.size))
      rw [HR.out, List.map_append]
      exact own_base o9 B0.size
end Go.Proofs.YtkbhmgdmkamcfaaDoor.Cap
