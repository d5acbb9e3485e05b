/- Data PDUs: Decode by the document: contracts over the program. -/
import Derived.Test.YtakfjemkgajehaaDpDec2
set_option linter.unusedVariables false
set_option linter.unusedSimpArgs false
namespace Go.Proofs.Ytakfjemkgajehaa.Dp
open Go.RowKit Mem Oct Rw Av
open Base (thenB)

theorem dec_err {xs : List Int} {w w' : World} {e : Ending} {x : Int} (hf : formR xs = x) (hx : x ≠ 0) (he : e = .returned (.tuple #[.agg #[.int .i64 0, .int .i64 0, .int .i64 0, .int .i64 0, .slice none 0 0], .int .i64 x])) (hb : Below w.heap.size w w') : Decd w w' e (decR xs) := by
  subst hf
  rw [decR_no hx]
  exact ⟨_, he, World.ownsRow_nil _ _ _ _, hb⟩
set_option maxHeartbeats 4000000 in
theorem rdecode_any (A : Option Addr) (n c : Nat) (xs : List Int) (w : World) (hx : xs.length = n) (hn : n ≤ 140737488351232) (hnc : n ≤ c) (bx : Bytes xs) (hr : Ints .u8 w w.heap.size A xs) :
    Calls Try.prog 22 #[.slice A n c] w fun e w' => Decd w w' e (decR xs) := by
  have B0 : Below w.heap.size w (w.alloc (.cells #[.int .i64 0, .int .i64 0, .int .i64 0, .int .i64 0, .slice none 0 0] 26)) := (Below.refl _ _).alloc (Nat.le_refl _) _
  have K2 := Blk.fresh w 26 #[.int .i64 0, .int .i64 0, .int .i64 0, .int .i64 0, .slice none 0 0]
  have H1 : (#[.int .i64 0, .int .i64 0, .int .i64 0, .int .i64 0, .slice none 0 0] : Array Value).all (·.oneCell') = true := by rw [← Array.all_toList]; rfl
  obtain ⟨i0, hi0, hz0, hz1, hz2⟩ := info_parts Base.info_u8
  by_cases hs : n < 2
  · have HF := Lib.hid (form_short (xs := xs) (by omega))
    have g1 : (n : Int) < 2 := by omega
    clear hr hx bx
    go_enter Try.func22, Try.ntmps22
    go_upto_region 1 with (fail)
    generalize w.alloc (.cells #[.int .i64 0, .int .i64 0, .int .i64 0, .int .i64 0, .slice none 0 0] 26) = W0 at *
    go_wp2_with (refine wpList_store_row rfl 26 (.tmp 2) _ rfl w.heap.size #[.int .i64 0, .int .i64 0, .int .i64 0, .int .i64 0, .slice none 0 0] rfl rfl 26 _ K2 (by kernel_rfl) rfl H1 ?_)
    have KR := setRow_heap W0 w.heap.size _ #[.int .i64 0, .int .i64 0, .int .i64 0, .int .i64 0, .slice none 0 0] 26 (0, 0) K2
    have BE := below_setRow B0 (Nat.le_refl _) #[.int .i64 0, .int .i64 0, .int .i64 0, .int .i64 0, .slice none 0 0]
    generalize W0.setRow w.heap.size #[.int .i64 0, .int .i64 0, .int .i64 0, .int .i64 0, .slice none 0 0] = Y at *
    refine bodyPost_ret (v := .tuple #[.agg #[.int .i64 0, .int .i64 0, .int .i64 0, .int .i64 0, .slice none 0 0], .int .i64 3]) ?_ rfl (dec_err HF.out (by decide) rfl BE)
    have HL := run_loadVar_row (P := Try.prog) Y w.heap.size 26 26 #[.int .i64 0, .int .i64 0, .int .i64 0, .int .i64 0, .slice none 0 0] (0, 0) _ KR Try.underlying26 rfl (by kernel_rfl)
    simp [results, show (Try.f22).results = #[.cell 2 26, .slot 3] from rfl, asAddr, HL, Act.put]
  · obtain ⟨h, z, r, rfl, hrl⟩ := two_of hx hs
    obtain ⟨b, off, rfl, hb, hc⟩ := hr.at_ (i := 0) (by simp)
    have c0 := (B0.cell (p := ⟨b, off, none⟩) hb).trans (by simpa using hc 0 (by simp))
    have c1 := (B0.cell (p := ⟨b, off + 1, none⟩) hb).trans (by simpa using hc 1 (by simp))
    have bh := bx h (by simp)
    have bz := bx z (by simp)
    have g0 : ¬ (n : Int) < 2 := by omega
    have g1 : (0 : Int) < (n : Int) ∧ (1 : Int) < (n : Int) ∧ 0 < n ∧ 1 < n ∧ 2 ≤ n ∧ (2 : Int) ≤ (n : Int) := by omega
    have t1 : h.tmod 4 = h % 4 := Int.tmod_eq_emod_of_nonneg bh.1
    have t2 : IntKind.i64.wrap (h % 4) = h % 4 := by rw [IntWalk.i64_in _ (by omega)]
    have t3 : IntKind.i64.wrap ((n : Int) - 2) = (n : Int) - 2 := by rw [IntWalk.i64_in _ (by omega)]
    have HFr : Hid (formR (h :: z :: r) = formN h z r.length) := Lib.hid rfl
    obtain ⟨m, hm⟩ : ∃ m, r.length = m := ⟨_, rfl⟩
    rw [hm] at HFr hrl
    have hcut := hr.cut (c := c) (i := 2) (by simp) (by rw [hx]; exact hnc)
    by_cases k1 : 32 ≤ h
    · have HF : Hid (formR (h :: z :: r) = 2) := Lib.hid (HFr.out.trans (fN1 k1))
      clear hc hr hx bx hrl hcut HFr
      go_enter Try.func22, Try.ntmps22
      go_upto_region 1 with (fail)
      generalize w.alloc (.cells #[.int .i64 0, .int .i64 0, .int .i64 0, .int .i64 0, .slice none 0 0] 26) = W0 at *
      go_upto_region 3 with (fail)
      replace K2 := K2.drew
      replace B0 := B0.drew
      go_region
      all_goals
        generalize W0.drew = W1 at *
        go_wp2_with (refine wpList_store_row rfl 26 (.tmp 2) _ rfl w.heap.size #[.int .i64 0, .int .i64 0, .int .i64 0, .int .i64 0, .slice none 0 0] rfl rfl 26 _ K2 (by kernel_rfl) rfl H1 ?_)
        have KR := setRow_heap W1 w.heap.size _ #[.int .i64 0, .int .i64 0, .int .i64 0, .int .i64 0, .slice none 0 0] 26 (0, 0) K2
        have BE := below_setRow B0 (Nat.le_refl _) #[.int .i64 0, .int .i64 0, .int .i64 0, .int .i64 0, .slice none 0 0]
        generalize W1.setRow w.heap.size #[.int .i64 0, .int .i64 0, .int .i64 0, .int .i64 0, .slice none 0 0] = Y at *
        refine bodyPost_ret (v := .tuple #[.agg #[.int .i64 0, .int .i64 0, .int .i64 0, .int .i64 0, .slice none 0 0], .int .i64 2]) ?_ rfl (dec_err HF.out (by decide) rfl BE)
        have HL := run_loadVar_row (P := Try.prog) Y w.heap.size 26 26 #[.int .i64 0, .int .i64 0, .int .i64 0, .int .i64 0, .slice none 0 0] (0, 0) _ KR Try.underlying26 rfl (by kernel_rfl)
        simp [results, show (Try.f22).results = #[.cell 2 26, .slot 3] from rfl, asAddr, HL, Act.put]
    · by_cases k2 : h % 4 = 0
      · have HF : Hid (formR (h :: z :: r) = 12) := Lib.hid (HFr.out.trans (fN2 k1 k2))
        clear hc hr hx bx hrl hcut HFr
        go_enter Try.func22, Try.ntmps22
        go_upto_region 1 with (fail)
        generalize w.alloc (.cells #[.int .i64 0, .int .i64 0, .int .i64 0, .int .i64 0, .slice none 0 0] 26) = W0 at *
        go_upto_region 3 with (fail)
        replace K2 := K2.drew
        replace B0 := B0.drew
        go_region
        all_goals
          generalize W0.drew = W1 at *
          go_wp2_with (refine wpList_store_row rfl 26 (.tmp 2) _ rfl w.heap.size #[.int .i64 0, .int .i64 0, .int .i64 0, .int .i64 0, .slice none 0 0] rfl rfl 26 _ K2 (by kernel_rfl) rfl H1 ?_)
          have KR := setRow_heap W1 w.heap.size _ #[.int .i64 0, .int .i64 0, .int .i64 0, .int .i64 0, .slice none 0 0] 26 (0, 0) K2
          have BE := below_setRow B0 (Nat.le_refl _) #[.int .i64 0, .int .i64 0, .int .i64 0, .int .i64 0, .slice none 0 0]
          generalize W1.setRow w.heap.size #[.int .i64 0, .int .i64 0, .int .i64 0, .int .i64 0, .slice none 0 0] = Y at *
          refine bodyPost_ret (v := .tuple #[.agg #[.int .i64 0, .int .i64 0, .int .i64 0, .int .i64 0, .slice none 0 0], .int .i64 12]) ?_ rfl (dec_err HF.out (by decide) rfl BE)
          have HL := run_loadVar_row (P := Try.prog) Y w.heap.size 26 26 #[.int .i64 0, .int .i64 0, .int .i64 0, .int .i64 0, .slice none 0 0] (0, 0) _ KR Try.underlying26 rfl (by kernel_rfl)
          simp [results, show (Try.f22).results = #[.cell 2 26, .slot 3] from rfl, asAddr, HL, Act.put]
      · have p1 : (h % 4 == 0) = false := by simpa using k2
        by_cases k3 : z = 0 ∧ h % 4 ≠ 1
        · have HF : Hid (formR (h :: z :: r) = 1) := Lib.hid (HFr.out.trans (fN3 k1 k2 k3))
          have p2 : (z == 0) = true := by simpa using k3.1
          have p3 : (h % 4 != 1) = true := by simpa using k3.2
          clear hc hr hx bx hrl hcut HFr k2 k3
          go_enter Try.func22, Try.ntmps22
          go_upto_region 1 with (fail)
          generalize w.alloc (.cells #[.int .i64 0, .int .i64 0, .int .i64 0, .int .i64 0, .slice none 0 0] 26) = W0 at *
          go_upto_region 3 with (fail)
          replace K2 := K2.drew
          replace B0 := B0.drew
          go_region
          all_goals
            generalize W0.drew = W1 at *
            go_wp2_with (refine wpList_store_row rfl 26 (.tmp 2) _ rfl w.heap.size #[.int .i64 0, .int .i64 0, .int .i64 0, .int .i64 0, .slice none 0 0] rfl rfl 26 _ K2 (by kernel_rfl) rfl H1 ?_)
            have KR := setRow_heap W1 w.heap.size _ #[.int .i64 0, .int .i64 0, .int .i64 0, .int .i64 0, .slice none 0 0] 26 (0, 0) K2
            have BE := below_setRow B0 (Nat.le_refl _) #[.int .i64 0, .int .i64 0, .int .i64 0, .int .i64 0, .slice none 0 0]
            generalize W1.setRow w.heap.size #[.int .i64 0, .int .i64 0, .int .i64 0, .int .i64 0, .slice none 0 0] = Y at *
            refine bodyPost_ret (v := .tuple #[.agg #[.int .i64 0, .int .i64 0, .int .i64 0, .int .i64 0, .slice none 0 0], .int .i64 1]) ?_ rfl (dec_err HF.out (by decide) rfl BE)
            have HL := run_loadVar_row (P := Try.prog) Y w.heap.size 26 26 #[.int .i64 0, .int .i64 0, .int .i64 0, .int .i64 0, .slice none 0 0] (0, 0) _ KR Try.underlying26 rfl (by kernel_rfl)
            simp [results, show (Try.f22).results = #[.cell 2 26, .slot 3] from rfl, asAddr, HL, Act.put]
        · have p2 : (z == 0) = false ∨ (z == 0) = true ∧ (h % 4 != 1) = false := by
            by_cases hz : z = 0
            · right
              refine ⟨by simpa using hz, ?_⟩
              rcases Decidable.em (h % 4 = 1) with g | g
              · simp [g]
              · exact absurd ⟨hz, g⟩ k3
            · left; simpa using hz
          by_cases k4 : (m : Int) < z
          · have HF : Hid (formR (h :: z :: r) = 3) := Lib.hid (HFr.out.trans (fN4 k1 k2 k3 k4))
            have p4 : (n : Int) - 2 < z := by omega
            clear hc hr hx bx hcut HFr k2 k3
            rcases p2 with p2 | ⟨p2, p3⟩
            · skip
              go_enter Try.func22, Try.ntmps22
              go_upto_region 1 with (fail)
              generalize w.alloc (.cells #[.int .i64 0, .int .i64 0, .int .i64 0, .int .i64 0, .slice none 0 0] 26) = W0 at *
              go_upto_region 3 with (fail)
              replace K2 := K2.drew
              replace B0 := B0.drew
              go_region
              all_goals
                generalize W0.drew = W1 at *
                go_wp2_with (refine wpList_store_row rfl 26 (.tmp 2) _ rfl w.heap.size #[.int .i64 0, .int .i64 0, .int .i64 0, .int .i64 0, .slice none 0 0] rfl rfl 26 _ K2 (by kernel_rfl) rfl H1 ?_)
                have KR := setRow_heap W1 w.heap.size _ #[.int .i64 0, .int .i64 0, .int .i64 0, .int .i64 0, .slice none 0 0] 26 (0, 0) K2
                have BE := below_setRow B0 (Nat.le_refl _) #[.int .i64 0, .int .i64 0, .int .i64 0, .int .i64 0, .slice none 0 0]
                generalize W1.setRow w.heap.size #[.int .i64 0, .int .i64 0, .int .i64 0, .int .i64 0, .slice none 0 0] = Y at *
                refine bodyPost_ret (v := .tuple #[.agg #[.int .i64 0, .int .i64 0, .int .i64 0, .int .i64 0, .slice none 0 0], .int .i64 3]) ?_ rfl (dec_err HF.out (by decide) rfl BE)
                have HL := run_loadVar_row (P := Try.prog) Y w.heap.size 26 26 #[.int .i64 0, .int .i64 0, .int .i64 0, .int .i64 0, .slice none 0 0] (0, 0) _ KR Try.underlying26 rfl (by kernel_rfl)
                simp [results, show (Try.f22).results = #[.cell 2 26, .slot 3] from rfl, asAddr, HL, Act.put]
            · skip
              go_enter Try.func22, Try.ntmps22
              go_upto_region 1 with (fail)
              generalize w.alloc (.cells #[.int .i64 0, .int .i64 0, .int .i64 0, .int .i64 0, .slice none 0 0] 26) = W0 at *
              go_upto_region 3 with (fail)
              replace K2 := K2.drew
              replace B0 := B0.drew
              go_region
              all_goals
                generalize W0.drew = W1 at *
                go_wp2_with (refine wpList_store_row rfl 26 (.tmp 2) _ rfl w.heap.size #[.int .i64 0, .int .i64 0, .int .i64 0, .int .i64 0, .slice none 0 0] rfl rfl 26 _ K2 (by kernel_rfl) rfl H1 ?_)
                have KR := setRow_heap W1 w.heap.size _ #[.int .i64 0, .int .i64 0, .int .i64 0, .int .i64 0, .slice none 0 0] 26 (0, 0) K2
                have BE := below_setRow B0 (Nat.le_refl _) #[.int .i64 0, .int .i64 0, .int .i64 0, .int .i64 0, .slice none 0 0]
                generalize W1.setRow w.heap.size #[.int .i64 0, .int .i64 0, .int .i64 0, .int .i64 0, .slice none 0 0] = Y at *
                refine bodyPost_ret (v := .tuple #[.agg #[.int .i64 0, .int .i64 0, .int .i64 0, .int .i64 0, .slice none 0 0], .int .i64 3]) ?_ rfl (dec_err HF.out (by decide) rfl BE)
                have HL := run_loadVar_row (P := Try.prog) Y w.heap.size 26 26 #[.int .i64 0, .int .i64 0, .int .i64 0, .int .i64 0, .slice none 0 0] (0, 0) _ KR Try.underlying26 rfl (by kernel_rfl)
                simp [results, show (Try.f22).results = #[.cell 2 26, .slot 3] from rfl, asAddr, HL, Act.put]
          · have p4 : ¬ (n : Int) - 2 < z := by omega
            by_cases k5 : z < (m : Int)
            · have HF : Hid (formR (h :: z :: r) = 2) := Lib.hid (HFr.out.trans (fN5 k1 k2 k3 k4 k5))
              have p5 : z < (n : Int) - 2 := by omega
              clear hc hr hx bx hcut HFr k2 k3
              rcases p2 with p2 | ⟨p2, p3⟩
              · skip
                go_enter Try.func22, Try.ntmps22
                go_upto_region 1 with (fail)
                generalize w.alloc (.cells #[.int .i64 0, .int .i64 0, .int .i64 0, .int .i64 0, .slice none 0 0] 26) = W0 at *
                go_upto_region 3 with (fail)
                replace K2 := K2.drew
                replace B0 := B0.drew
                go_region
                all_goals
                  generalize W0.drew = W1 at *
                  go_wp2_with (refine wpList_store_row rfl 26 (.tmp 2) _ rfl w.heap.size #[.int .i64 0, .int .i64 0, .int .i64 0, .int .i64 0, .slice none 0 0] rfl rfl 26 _ K2 (by kernel_rfl) rfl H1 ?_)
                  have KR := setRow_heap W1 w.heap.size _ #[.int .i64 0, .int .i64 0, .int .i64 0, .int .i64 0, .slice none 0 0] 26 (0, 0) K2
                  have BE := below_setRow B0 (Nat.le_refl _) #[.int .i64 0, .int .i64 0, .int .i64 0, .int .i64 0, .slice none 0 0]
                  generalize W1.setRow w.heap.size #[.int .i64 0, .int .i64 0, .int .i64 0, .int .i64 0, .slice none 0 0] = Y at *
                  refine bodyPost_ret (v := .tuple #[.agg #[.int .i64 0, .int .i64 0, .int .i64 0, .int .i64 0, .slice none 0 0], .int .i64 2]) ?_ rfl (dec_err HF.out (by decide) rfl BE)
                  have HL := run_loadVar_row (P := Try.prog) Y w.heap.size 26 26 #[.int .i64 0, .int .i64 0, .int .i64 0, .int .i64 0, .slice none 0 0] (0, 0) _ KR Try.underlying26 rfl (by kernel_rfl)
                  simp [results, show (Try.f22).results = #[.cell 2 26, .slot 3] from rfl, asAddr, HL, Act.put]
              · skip
                go_enter Try.func22, Try.ntmps22
                go_upto_region 1 with (fail)
                generalize w.alloc (.cells #[.int .i64 0, .int .i64 0, .int .i64 0, .int .i64 0, .slice none 0 0] 26) = W0 at *
                go_upto_region 3 with (fail)
                replace K2 := K2.drew
                replace B0 := B0.drew
                go_region
                all_goals
                  generalize W0.drew = W1 at *
                  go_wp2_with (refine wpList_store_row rfl 26 (.tmp 2) _ rfl w.heap.size #[.int .i64 0, .int .i64 0, .int .i64 0, .int .i64 0, .slice none 0 0] rfl rfl 26 _ K2 (by kernel_rfl) rfl H1 ?_)
                  have KR := setRow_heap W1 w.heap.size _ #[.int .i64 0, .int .i64 0, .int .i64 0, .int .i64 0, .slice none 0 0] 26 (0, 0) K2
                  have BE := below_setRow B0 (Nat.le_refl _) #[.int .i64 0, .int .i64 0, .int .i64 0, .int .i64 0, .slice none 0 0]
                  generalize W1.setRow w.heap.size #[.int .i64 0, .int .i64 0, .int .i64 0, .int .i64 0, .slice none 0 0] = Y at *
                  refine bodyPost_ret (v := .tuple #[.agg #[.int .i64 0, .int .i64 0, .int .i64 0, .int .i64 0, .slice none 0 0], .int .i64 2]) ?_ rfl (dec_err HF.out (by decide) rfl BE)
                  have HL := run_loadVar_row (P := Try.prog) Y w.heap.size 26 26 #[.int .i64 0, .int .i64 0, .int .i64 0, .int .i64 0, .slice none 0 0] (0, 0) _ KR Try.underlying26 rfl (by kernel_rfl)
                  simp [results, show (Try.f22).results = #[.cell 2 26, .slot 3] from rfl, asAddr, HL, Act.put]
            · have HF : Hid (formR (h :: z :: r) = 0) := Lib.hid (HFr.out.trans (fN6 k1 k2 k3 k4 k5))
              have p5 : ¬ z < (n : Int) - 2 := by omega
              have HRl : Hid (r.length = n - 2) := Lib.hid (by omega)
              have HV : Hid (decR (h :: z :: r) = (⟨h / 8 % 2, h / 4 % 2, h / 16 % 2, (h % 4, r)⟩, 0)) := Lib.hid (decR_ok HF.out)
              have d8 : h.tdiv 8 = h / 8 := Int.tdiv_eq_ediv_of_nonneg bh.1
              have w8 : IntKind.i64.wrap (h / 8) = h / 8 := by rw [IntWalk.i64_in _ (by omega)]
              have m8 : (h / 8).tmod 2 = h / 8 % 2 := Int.tmod_eq_emod_of_nonneg (by omega)
              have v8 : IntKind.i64.wrap (h / 8 % 2) = h / 8 % 2 := by rw [IntWalk.i64_in _ (by omega)]
              have d4 : h.tdiv 4 = h / 4 := Int.tdiv_eq_ediv_of_nonneg bh.1
              have w4 : IntKind.i64.wrap (h / 4) = h / 4 := by rw [IntWalk.i64_in _ (by omega)]
              have m4 : (h / 4).tmod 2 = h / 4 % 2 := Int.tmod_eq_emod_of_nonneg (by omega)
              have v4 : IntKind.i64.wrap (h / 4 % 2) = h / 4 % 2 := by rw [IntWalk.i64_in _ (by omega)]
              have d16 : h.tdiv 16 = h / 16 := Int.tdiv_eq_ediv_of_nonneg bh.1
              have w16 : IntKind.i64.wrap (h / 16) = h / 16 := by rw [IntWalk.i64_in _ (by omega)]
              have m16 : (h / 16).tmod 2 = h / 16 % 2 := Int.tmod_eq_emod_of_nonneg (by omega)
              have v16 : IntKind.i64.wrap (h / 16 % 2) = h / 16 % 2 := by rw [IntWalk.i64_in _ (by omega)]
              by_cases hc2 : c = 2
              · have HCut : Hid (Ints .u8 w w.heap.size (some ⟨b, off, none⟩) r) := Lib.hid (by rw [if_pos hc2] at hcut; exact hcut)
                have hcc : (c = 2) = True := by simp [hc2]
                clear hc2 hcut hc hr hx bx HFr k2 k3 hm hrl
                rcases p2 with p2 | ⟨p2, p3⟩
                · skip
                  go_enter Try.func22, Try.ntmps22
                  go_upto_region 1 with (fail)
                  generalize w.alloc (.cells #[.int .i64 0, .int .i64 0, .int .i64 0, .int .i64 0, .slice none 0 0] 26) = W0 at *
                  go_upto_region 3 with (fail)
                  replace K2 := K2.drew
                  replace B0 := B0.drew
                  go_region
                  all_goals
                    generalize W0.drew = W1 at *
                    have hb1 := B0.size
                    have hb2 := K2.lt
                    go_wp2_with (first | (at_builtin; refine wpList_append_ints rfl _ _ 22 rfl .u8 W1.heap.size 5 i0 _ 1 Try.underlying22 hi0 hz0 hz1 hz2 rfl (.slice (some ⟨W1.heap.size, 0, none⟩) 0 0) 0 [] rfl (World.ownsRow_made _ _ 0 (Nat.le_refl _) (by unfold maxLen; omega) rfl) w.heap.size (some ⟨b, off, none⟩) (n - 2) (c - 2) r rfl HRl.out ?c1 ?c2 ?c3 ?c4 ?_; (case c1 => exact HCut.out.below (B0.alloc hb1 _)); (case c2 => unfold maxLen; omega); (case c3 => omega); (case c4 => simp); intro v5 W2 own5 b5 g5; rw [Nat.zero_add] at own5; obtain ⟨A5, c5, rfl⟩ := own_form own5; replace K2 := (K2.alloc (.cells #[] 5)).below b5 hb2; have B5 := (B0.alloc hb1 (.cells #[] 5)).trans (b5.mono hb1); clear b5; have H2 : (#[.int .i64 (h / 8 % 2), .int .i64 (h / 4 % 2), .int .i64 (h / 16 % 2), .int .i64 (h % 4), .slice A5 (n - 2) c5] : Array Value).all (·.oneCell') = true := by rw [← Array.all_toList]; rfl) | (refine wpList_store_row rfl 26 (.tmp 2) _ rfl w.heap.size #[.int .i64 (h / 8 % 2), .int .i64 (h / 4 % 2), .int .i64 (h / 16 % 2), .int .i64 (h % 4), .slice A5 (n - 2) c5] rfl rfl 26 _ K2 (by kernel_rfl) rfl H2 ?_))
                    have own5 := own_setRow own5 K2 (by decide) #[.int .i64 (h / 8 % 2), .int .i64 (h / 4 % 2), .int .i64 (h / 16 % 2), .int .i64 (h % 4), .slice A5 (n - 2) c5]
                    have KR := setRow_heap W2 w.heap.size _ #[.int .i64 (h / 8 % 2), .int .i64 (h / 4 % 2), .int .i64 (h / 16 % 2), .int .i64 (h % 4), .slice A5 (n - 2) c5] 26 (0, 0) K2
                    have BE := below_setRow B5 (Nat.le_refl _) #[.int .i64 (h / 8 % 2), .int .i64 (h / 4 % 2), .int .i64 (h / 16 % 2), .int .i64 (h % 4), .slice A5 (n - 2) c5]
                    generalize W2.setRow w.heap.size #[.int .i64 (h / 8 % 2), .int .i64 (h / 4 % 2), .int .i64 (h / 16 % 2), .int .i64 (h % 4), .slice A5 (n - 2) c5] = Y at *
                    refine bodyPost_ret (v := .tuple #[.agg #[.int .i64 (h / 8 % 2), .int .i64 (h / 4 % 2), .int .i64 (h / 16 % 2), .int .i64 (h % 4), .slice A5 (n - 2) c5], .int .i64 0]) ?_ rfl (by rw [HV.out]; exact ⟨_, rfl, by rw [HRl.out]; exact own_base own5 hb1, BE⟩)
                    have HL := run_loadVar_row (P := Try.prog) Y w.heap.size 26 26 #[.int .i64 (h / 8 % 2), .int .i64 (h / 4 % 2), .int .i64 (h / 16 % 2), .int .i64 (h % 4), .slice A5 (n - 2) c5] (0, 0) _ KR Try.underlying26 rfl (by kernel_rfl)
                    simp [results, show (Try.f22).results = #[.cell 2 26, .slot 3] from rfl, asAddr, HL, Act.put]
                · skip
                  go_enter Try.func22, Try.ntmps22
                  go_upto_region 1 with (fail)
                  generalize w.alloc (.cells #[.int .i64 0, .int .i64 0, .int .i64 0, .int .i64 0, .slice none 0 0] 26) = W0 at *
                  go_upto_region 3 with (fail)
                  replace K2 := K2.drew
                  replace B0 := B0.drew
                  go_region
                  all_goals
                    generalize W0.drew = W1 at *
                    have hb1 := B0.size
                    have hb2 := K2.lt
                    go_wp2_with (first | (at_builtin; refine wpList_append_ints rfl _ _ 22 rfl .u8 W1.heap.size 5 i0 _ 1 Try.underlying22 hi0 hz0 hz1 hz2 rfl (.slice (some ⟨W1.heap.size, 0, none⟩) 0 0) 0 [] rfl (World.ownsRow_made _ _ 0 (Nat.le_refl _) (by unfold maxLen; omega) rfl) w.heap.size (some ⟨b, off, none⟩) (n - 2) (c - 2) r rfl HRl.out ?c1 ?c2 ?c3 ?c4 ?_; (case c1 => exact HCut.out.below (B0.alloc hb1 _)); (case c2 => unfold maxLen; omega); (case c3 => omega); (case c4 => simp); intro v5 W2 own5 b5 g5; rw [Nat.zero_add] at own5; obtain ⟨A5, c5, rfl⟩ := own_form own5; replace K2 := (K2.alloc (.cells #[] 5)).below b5 hb2; have B5 := (B0.alloc hb1 (.cells #[] 5)).trans (b5.mono hb1); clear b5; have H2 : (#[.int .i64 (h / 8 % 2), .int .i64 (h / 4 % 2), .int .i64 (h / 16 % 2), .int .i64 (h % 4), .slice A5 (n - 2) c5] : Array Value).all (·.oneCell') = true := by rw [← Array.all_toList]; rfl) | (refine wpList_store_row rfl 26 (.tmp 2) _ rfl w.heap.size #[.int .i64 (h / 8 % 2), .int .i64 (h / 4 % 2), .int .i64 (h / 16 % 2), .int .i64 (h % 4), .slice A5 (n - 2) c5] rfl rfl 26 _ K2 (by kernel_rfl) rfl H2 ?_))
                    have own5 := own_setRow own5 K2 (by decide) #[.int .i64 (h / 8 % 2), .int .i64 (h / 4 % 2), .int .i64 (h / 16 % 2), .int .i64 (h % 4), .slice A5 (n - 2) c5]
                    have KR := setRow_heap W2 w.heap.size _ #[.int .i64 (h / 8 % 2), .int .i64 (h / 4 % 2), .int .i64 (h / 16 % 2), .int .i64 (h % 4), .slice A5 (n - 2) c5] 26 (0, 0) K2
                    have BE := below_setRow B5 (Nat.le_refl _) #[.int .i64 (h / 8 % 2), .int .i64 (h / 4 % 2), .int .i64 (h / 16 % 2), .int .i64 (h % 4), .slice A5 (n - 2) c5]
                    generalize W2.setRow w.heap.size #[.int .i64 (h / 8 % 2), .int .i64 (h / 4 % 2), .int .i64 (h / 16 % 2), .int .i64 (h % 4), .slice A5 (n - 2) c5] = Y at *
                    refine bodyPost_ret (v := .tuple #[.agg #[.int .i64 (h / 8 % 2), .int .i64 (h / 4 % 2), .int .i64 (h / 16 % 2), .int .i64 (h % 4), .slice A5 (n - 2) c5], .int .i64 0]) ?_ rfl (by rw [HV.out]; exact ⟨_, rfl, by rw [HRl.out]; exact own_base own5 hb1, BE⟩)
                    have HL := run_loadVar_row (P := Try.prog) Y w.heap.size 26 26 #[.int .i64 (h / 8 % 2), .int .i64 (h / 4 % 2), .int .i64 (h / 16 % 2), .int .i64 (h % 4), .slice A5 (n - 2) c5] (0, 0) _ KR Try.underlying26 rfl (by kernel_rfl)
                    simp [results, show (Try.f22).results = #[.cell 2 26, .slot 3] from rfl, asAddr, HL, Act.put]
              · have HCut : Hid (Ints .u8 w w.heap.size (some ⟨b, off + 2, none⟩) r) := Lib.hid (by rw [if_neg hc2] at hcut; exact hcut)
                have hcc : (c = 2) = False := by simp [hc2]
                clear hc2 hcut hc hr hx bx HFr k2 k3 hm hrl
                rcases p2 with p2 | ⟨p2, p3⟩
                · skip
                  go_enter Try.func22, Try.ntmps22
                  go_upto_region 1 with (fail)
                  generalize w.alloc (.cells #[.int .i64 0, .int .i64 0, .int .i64 0, .int .i64 0, .slice none 0 0] 26) = W0 at *
                  go_upto_region 3 with (fail)
                  replace K2 := K2.drew
                  replace B0 := B0.drew
                  go_region
                  all_goals
                    generalize W0.drew = W1 at *
                    have hb1 := B0.size
                    have hb2 := K2.lt
                    go_wp2_with (first | (at_builtin; refine wpList_append_ints rfl _ _ 22 rfl .u8 W1.heap.size 5 i0 _ 1 Try.underlying22 hi0 hz0 hz1 hz2 rfl (.slice (some ⟨W1.heap.size, 0, none⟩) 0 0) 0 [] rfl (World.ownsRow_made _ _ 0 (Nat.le_refl _) (by unfold maxLen; omega) rfl) w.heap.size (some ⟨b, off + 2, none⟩) (n - 2) (c - 2) r rfl HRl.out ?c1 ?c2 ?c3 ?c4 ?_; (case c1 => exact HCut.out.below (B0.alloc hb1 _)); (case c2 => unfold maxLen; omega); (case c3 => omega); (case c4 => simp); intro v5 W2 own5 b5 g5; rw [Nat.zero_add] at own5; obtain ⟨A5, c5, rfl⟩ := own_form own5; replace K2 := (K2.alloc (.cells #[] 5)).below b5 hb2; have B5 := (B0.alloc hb1 (.cells #[] 5)).trans (b5.mono hb1); clear b5; have H2 : (#[.int .i64 (h / 8 % 2), .int .i64 (h / 4 % 2), .int .i64 (h / 16 % 2), .int .i64 (h % 4), .slice A5 (n - 2) c5] : Array Value).all (·.oneCell') = true := by rw [← Array.all_toList]; rfl) | (refine wpList_store_row rfl 26 (.tmp 2) _ rfl w.heap.size #[.int .i64 (h / 8 % 2), .int .i64 (h / 4 % 2), .int .i64 (h / 16 % 2), .int .i64 (h % 4), .slice A5 (n - 2) c5] rfl rfl 26 _ K2 (by kernel_rfl) rfl H2 ?_))
                    have own5 := own_setRow own5 K2 (by decide) #[.int .i64 (h / 8 % 2), .int .i64 (h / 4 % 2), .int .i64 (h / 16 % 2), .int .i64 (h % 4), .slice A5 (n - 2) c5]
                    have KR := setRow_heap W2 w.heap.size _ #[.int .i64 (h / 8 % 2), .int .i64 (h / 4 % 2), .int .i64 (h / 16 % 2), .int .i64 (h % 4), .slice A5 (n - 2) c5] 26 (0, 0) K2
                    have BE := below_setRow B5 (Nat.le_refl _) #[.int .i64 (h / 8 % 2), .int .i64 (h / 4 % 2), .int .i64 (h / 16 % 2), .int .i64 (h % 4), .slice A5 (n - 2) c5]
                    generalize W2.setRow w.heap.size #[.int .i64 (h / 8 % 2), .int .i64 (h / 4 % 2), .int .i64 (h / 16 % 2), .int .i64 (h % 4), .slice A5 (n - 2) c5] = Y at *
                    refine bodyPost_ret (v := .tuple #[.agg #[.int .i64 (h / 8 % 2), .int .i64 (h / 4 % 2), .int .i64 (h / 16 % 2), .int .i64 (h % 4), .slice A5 (n - 2) c5], .int .i64 0]) ?_ rfl (by rw [HV.out]; exact ⟨_, rfl, by rw [HRl.out]; exact own_base own5 hb1, BE⟩)
                    have HL := run_loadVar_row (P := Try.prog) Y w.heap.size 26 26 #[.int .i64 (h / 8 % 2), .int .i64 (h / 4 % 2), .int .i64 (h / 16 % 2), .int .i64 (h % 4), .slice A5 (n - 2) c5] (0, 0) _ KR Try.underlying26 rfl (by kernel_rfl)
                    simp [results, show (Try.f22).results = #[.cell 2 26, .slot 3] from rfl, asAddr, HL, Act.put]
                · skip
                  go_enter Try.func22, Try.ntmps22
                  go_upto_region 1 with (fail)
                  generalize w.alloc (.cells #[.int .i64 0, .int .i64 0, .int .i64 0, .int .i64 0, .slice none 0 0] 26) = W0 at *
                  go_upto_region 3 with (fail)
                  replace K2 := K2.drew
                  replace B0 := B0.drew
                  go_region
                  all_goals
                    generalize W0.drew = W1 at *
                    have hb1 := B0.size
                    have hb2 := K2.lt
                    go_wp2_with (first | (at_builtin; refine wpList_append_ints rfl _ _ 22 rfl .u8 W1.heap.size 5 i0 _ 1 Try.underlying22 hi0 hz0 hz1 hz2 rfl (.slice (some ⟨W1.heap.size, 0, none⟩) 0 0) 0 [] rfl (World.ownsRow_made _ _ 0 (Nat.le_refl _) (by unfold maxLen; omega) rfl) w.heap.size (some ⟨b, off + 2, none⟩) (n - 2) (c - 2) r rfl HRl.out ?c1 ?c2 ?c3 ?c4 ?_; (case c1 => exact HCut.out.below (B0.alloc hb1 _)); (case c2 => unfold maxLen; omega); (case c3 => omega); (case c4 => simp); intro v5 W2 own5 b5 g5; rw [Nat.zero_add] at own5; obtain ⟨A5, c5, rfl⟩ := own_form own5; replace K2 := (K2.alloc (.cells #[] 5)).below b5 hb2; have B5 := (B0.alloc hb1 (.cells #[] 5)).trans (b5.mono hb1); clear b5; have H2 : (#[.int .i64 (h / 8 % 2), .int .i64 (h / 4 % 2), .int .i64 (h / 16 % 2), .int .i64 (h % 4), .slice A5 (n - 2) c5] : Array Value).all (·.oneCell') = true := by rw [← Array.all_toList]; rfl) | (refine wpList_store_row rfl 26 (.tmp 2) _ rfl w.heap.size #[.int .i64 (h / 8 % 2), .int .i64 (h / 4 % 2), .int .i64 (h / 16 % 2), .int .i64 (h % 4), .slice A5 (n - 2) c5] rfl rfl 26 _ K2 (by kernel_rfl) rfl H2 ?_))
                    have own5 := own_setRow own5 K2 (by decide) #[.int .i64 (h / 8 % 2), .int .i64 (h / 4 % 2), .int .i64 (h / 16 % 2), .int .i64 (h % 4), .slice A5 (n - 2) c5]
                    have KR := setRow_heap W2 w.heap.size _ #[.int .i64 (h / 8 % 2), .int .i64 (h / 4 % 2), .int .i64 (h / 16 % 2), .int .i64 (h % 4), .slice A5 (n - 2) c5] 26 (0, 0) K2
                    have BE := below_setRow B5 (Nat.le_refl _) #[.int .i64 (h / 8 % 2), .int .i64 (h / 4 % 2), .int .i64 (h / 16 % 2), .int .i64 (h % 4), .slice A5 (n - 2) c5]
                    generalize W2.setRow w.heap.size #[.int .i64 (h / 8 % 2), .int .i64 (h / 4 % 2), .int .i64 (h / 16 % 2), .int .i64 (h % 4), .slice A5 (n - 2) c5] = Y at *
                    refine bodyPost_ret (v := .tuple #[.agg #[.int .i64 (h / 8 % 2), .int .i64 (h / 4 % 2), .int .i64 (h / 16 % 2), .int .i64 (h % 4), .slice A5 (n - 2) c5], .int .i64 0]) ?_ rfl (by rw [HV.out]; exact ⟨_, rfl, by rw [HRl.out]; exact own_base own5 hb1, BE⟩)
                    have HL := run_loadVar_row (P := Try.prog) Y w.heap.size 26 26 #[.int .i64 (h / 8 % 2), .int .i64 (h / 4 % 2), .int .i64 (h / 16 % 2), .int .i64 (h % 4), .slice A5 (n - 2) c5] (0, 0) _ KR Try.underlying26 rfl (by kernel_rfl)
                    simp [results, show (Try.f22).results = #[.cell 2 26, .slot 3] from rfl, asAddr, HL, Act.put]
end Go.Proofs.Ytakfjemkgajehaa.Dp
