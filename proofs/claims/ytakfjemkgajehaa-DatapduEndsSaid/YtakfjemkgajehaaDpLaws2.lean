/- Data PDUs: the statements Back and Ends hold: walks. -/
import Derived.Test.YtakfjemkgajehaaDpLaws
set_option linter.unusedVariables false
set_option linter.unusedSimpArgs false
namespace Go.Proofs.Ytakfjemkgajehaa.Dp
open Go.RowKit Mem Oct Rw Av
open Base (thenB)

set_option maxRecDepth 100000 in
set_option maxHeartbeats 4000000 in
theorem back_any (q : Dm) (w : World) (g : GoodD w q) :
    Calls Try.prog 6 #[.agg #[.int .i64 q.sn, .int .i64 q.nesn, .int .i64 q.md, .int .i64 q.x.k, .slice q.x.A q.x.v.length q.x.c]] w fun e w' => e = .returned (.bool true) ∧ Below w.heap.size w w' := by
  obtain ⟨sn, nesn, md, k, A, c, xs⟩ := q
  obtain ⟨hb1, hb2, hb3, hbk, hnc, hcc, bx, hr⟩ := g
  simp only at hb1 hb2 hb3 hbk hnc hcc bx hr
  show Calls _ _ #[.agg #[.int .i64 sn, .int .i64 nesn, .int .i64 md, .int .i64 k, .slice A xs.length c]] _ _
  obtain ⟨n, hx⟩ : ∃ n, xs.length = n := ⟨_, rfl⟩
  rw [hx] at hnc ⊢
  have B0 : Below w.heap.size w (w.alloc (.cells #[.int .i64 sn, .int .i64 nesn, .int .i64 md, .int .i64 k, .slice A n c] 26)) := (Below.refl _ _).alloc (Nat.le_refl _) _
  have K1 : Blk (w.alloc (.cells #[.int .i64 sn, .int .i64 nesn, .int .i64 md, .int .i64 k, .slice A n c] 26)) (w.heap.size) 26 #[.int .i64 sn, .int .i64 nesn, .int .i64 md, .int .i64 k, .slice A n c] := Blk.fresh w 26 #[.int .i64 sn, .int .i64 nesn, .int .i64 md, .int .i64 k, .slice A n c]
  have HX := Lib.hid hx
  have HR := Lib.hid hr
  have HBx := Lib.hid bx
  by_cases hl : (1000 : Int) < (n : Int)
  · clear hr hx bx hb1 hb2 hb3 hbk hnc hcc
    go_enter Try.func6, Try.ntmps6
    go_wp2_with (go_at_call 13; refine (example_any _).mono ?_; rintro e w2 ⟨rfl, b2⟩)
    go_ret
    exact ⟨rfl, thenB B0 b2⟩
  · skip
    have HC := Lib.hid (check_any sn nesn md k A n c)
    obtain ⟨R, hZ⟩ : ∃ R, chkN sn nesn md k n = R := ⟨_, rfl⟩
    rw [hZ] at HC
    by_cases hR : R = 0
    · subst hR
      have hck : chk ⟨sn, nesn, md, (k, xs)⟩ = 0 := by
        have : chk ⟨sn, nesn, md, (k, xs)⟩ = chkN sn nesn md k n := by rw [← hx]; rfl
        rw [this, hZ]
      have hn5 := (chkN_ok hZ).2.2.2.2.1
      obtain ⟨L, hL⟩ : ∃ L, encP ⟨sn, nesn, md, (k, xs)⟩ = L := ⟨_, rfl⟩
      obtain ⟨m, hm⟩ : ∃ m, n + 2 = m := ⟨_, rfl⟩
      have HM : Hid (L.length = m) := Lib.hid (by rw [← hL, encP_len, ← hm, ← hx])
      have HLb : Hid (Bytes L) := Lib.hid (by rw [← hL]; exact enc_bytes hck bx)
      have HE : Hid (∀ X, Below w.heap.size w X → Calls Try.prog 18 #[.agg #[.int .i64 sn, .int .i64 nesn, .int .i64 md, .int .i64 k, .slice A n c]] X fun e w' => Gives X w' e (L, 0)) := Lib.hid fun X b => by
        have := encode_any sn nesn md k A n c xs X HX.out (Base.later HR.out b)
        rwa [encR_ok hck, hL] at this
      have HF : Hid (∀ X (A1 : Option Addr) (c1 : Nat), m ≤ c1 → Ints .u8 X X.heap.size A1 L → Calls Try.prog 21 #[.slice A1 m c1] X fun e w' => Decd X w' e (⟨sn, nesn, md, (k, xs)⟩, 0)) := Lib.hid fun X A1 c1 h h2 => by
        have := decode_any A1 m c1 L X HM.out (by omega) h HLb.out h2
        rwa [← hL, dec_enc hck] at this
      have e1 : ((m : Int) == 2 + (n : Int)) = true := by simp; omega
      have e2 : IntKind.i64.wrap (2 + (n : Int)) = 2 + (n : Int) := by rw [IntWalk.i64_in _ (by omega)]
      clear hr hx bx hb1 hb2 hb3 hbk hnc hcc hck hL hm hZ
      go_enter Try.func6, Try.ntmps6
      go_upto_region 3 with (go_at_call 14; refine (HC.out _).mono ?_; rintro e wc ⟨rfl, bc⟩; have BX := thenB B0 bc; have K2 := K1.below bc K1.lt)
      have k0 := K2.cell 0
      have k1 := K2.cell 1
      have k2 := K2.cell 2
      have k3 := K2.cell 3
      have k4 := K2.cell 4
      go_upto_region 4 with (go_at_call 18; refine (HE.out _ BX).mono ?_; intro e w1 m1; obtain ⟨A1, c1, rfl, own1, b1⟩ := Gives.len m1 HM.out)
      have hc1 := own_cap own1
      have I1 : Ints .u8 w1 w1.heap.size A1 L := Ints.own own1
      have BX := thenB BX b1
      have K2 := K2.below b1 K2.lt
      clear k0 k1 k2 k3 k4
      go_upto_region 5 with (go_at_call 21; refine (HF.out _ A1 c1 hc1 I1).mono ?_; intro e w2 m2; obtain ⟨A2, c2, rfl, hc2, I2, b2⟩ := decd_read m2 HX.out)
      try simp only at I2
      have BX := (thenB BX b2).alloc (thenB BX b2).size (.cells #[.int .i64 sn, .int .i64 nesn, .int .i64 md, .int .i64 k, .slice A2 n c2] 26)
      have I2 := Base.kept I2 (.cells #[.int .i64 sn, .int .i64 nesn, .int .i64 md, .int .i64 k, .slice A2 n c2] 26)
      have K2 := (K2.below b2 K2.lt).alloc (.cells #[.int .i64 sn, .int .i64 nesn, .int .i64 md, .int .i64 k, .slice A2 n c2] 26)
      have k0 := K2.cell 0
      have k1 := K2.cell 1
      have k2 := K2.cell 2
      have k3 := K2.cell 3
      have k4 := K2.cell 4
      have I0 := Base.later HR.out BX
      go_wp2_with (first | (go_at_call 23; refine (samepd_yes sn nesn md k A A2 n c c2 xs _ HX.out HBx.out I0 I2).mono ?_; rintro e w8 ⟨rfl, b8⟩) | (go_at_call 13; refine (example_any _).mono ?_; rintro e w9 ⟨rfl, b9⟩))
      go_ret
      exact ⟨rfl, thenB (thenB BX b8) b9⟩
    · have g0 : (R != 0) = true := by simpa using hR
      clear hr hx bx hb1 hb2 hb3 hbk hnc hcc hR hZ
      go_enter Try.func6, Try.ntmps6
      go_wp2_with (first | (go_at_call 14; refine (HC.out _).mono ?_; rintro e wc ⟨rfl, bc⟩; have BX := thenB B0 bc; have K2 := K1.below bc K1.lt) | (go_at_call 13; refine (example_any _).mono ?_; rintro e w9 ⟨rfl, b9⟩))
      go_ret
      exact ⟨rfl, thenB BX b9⟩
set_option maxRecDepth 100000 in
set_option maxHeartbeats 4000000 in
theorem ends_any (q : Dm) (cut : Int) (A' : Option Addr) (n' c' : Nat) (ys : List Int) (w : World) (g : GoodD w q) (hct : -9223372036854775808 ≤ cut ∧ cut ≤ 9223372036854775807) (hy : ys.length = n') (hnc' : n' ≤ c') (hr' : Ints .u8 w w.heap.size A' ys) (by_ : Bytes ys) (hcs' : c' * 1 ≤ 140737488351232) :
    Calls Try.prog 8 #[.agg #[.int .i64 q.sn, .int .i64 q.nesn, .int .i64 q.md, .int .i64 q.x.k, .slice q.x.A q.x.v.length q.x.c], .int .i64 cut, .slice A' n' c'] w fun e w' => e = .returned (.bool true) ∧ Below w.heap.size w w' := by
  obtain ⟨sn, nesn, md, k, A, c, xs⟩ := q
  obtain ⟨hb1, hb2, hb3, hbk, hnc, hcc, bx, hr⟩ := g
  simp only at hb1 hb2 hb3 hbk hnc hcc bx hr
  show Calls _ _ #[.agg #[.int .i64 sn, .int .i64 nesn, .int .i64 md, .int .i64 k, .slice A xs.length c], .int .i64 cut, .slice A' n' c'] _ _
  obtain ⟨n, hx⟩ : ∃ n, xs.length = n := ⟨_, rfl⟩
  rw [hx] at hnc ⊢
  have B0 : Below w.heap.size w (w.alloc (.cells #[.int .i64 sn, .int .i64 nesn, .int .i64 md, .int .i64 k, .slice A n c] 26)) := (Below.refl _ _).alloc (Nat.le_refl _) _
  have K1 : Blk (w.alloc (.cells #[.int .i64 sn, .int .i64 nesn, .int .i64 md, .int .i64 k, .slice A n c] 26)) (w.heap.size) 26 #[.int .i64 sn, .int .i64 nesn, .int .i64 md, .int .i64 k, .slice A n c] := Blk.fresh w 26 #[.int .i64 sn, .int .i64 nesn, .int .i64 md, .int .i64 k, .slice A n c]
  have HX := Lib.hid hx
  have HR := Lib.hid hr
  have HBx := Lib.hid bx
  have HY := Lib.hid hy
  have HBy := Lib.hid by_
  have HR' := Lib.hid hr'
  obtain ⟨i0, hi0, hz0, hz1, hz2⟩ := info_parts Base.info_u8
  by_cases hl : (1000 : Int) < (n : Int)
  · clear hy hr' by_ hr hx bx hb1 hb2 hb3 hbk hnc hcc
    go_enter Try.func8, Try.ntmps8
    go_wp2_with (go_at_call 13; refine (example_any _).mono ?_; rintro e w2 ⟨rfl, b2⟩)
    go_ret
    exact ⟨rfl, thenB B0 b2⟩
  · by_cases l1 : (n' : Int) < 1
    · clear hy hr' by_ hr hx bx hb1 hb2 hb3 hbk hnc hcc
      go_enter Try.func8, Try.ntmps8
      go_wp2_with (go_at_call 13; refine (example_any _).mono ?_; rintro e w9 ⟨rfl, b9⟩)
      go_ret
      exact ⟨rfl, thenB B0 b9⟩
    · by_cases l2 : (100 : Int) < (n' : Int)
      · clear hy hr' by_ hr hx bx hb1 hb2 hb3 hbk hnc hcc
        go_enter Try.func8, Try.ntmps8
        go_wp2_with (go_at_call 13; refine (example_any _).mono ?_; rintro e w9 ⟨rfl, b9⟩)
        go_ret
        exact ⟨rfl, thenB B0 b9⟩
      · skip
        have HC := Lib.hid (check_any sn nesn md k A n c)
        obtain ⟨R, hZ⟩ : ∃ R, chkN sn nesn md k n = R := ⟨_, rfl⟩
        rw [hZ] at HC
        by_cases hR : R = 0
        · subst hR
          have hck : chk ⟨sn, nesn, md, (k, xs)⟩ = 0 := by
            have : chk ⟨sn, nesn, md, (k, xs)⟩ = chkN sn nesn md k n := by rw [← hx]; rfl
            rw [this, hZ]
          have hn5 := (chkN_ok hZ).2.2.2.2.1
          obtain ⟨L, hL⟩ : ∃ L, encP ⟨sn, nesn, md, (k, xs)⟩ = L := ⟨_, rfl⟩
          obtain ⟨m, hm⟩ : ∃ m, n + 2 = m := ⟨_, rfl⟩
          have HM : Hid (L.length = m) := Lib.hid (by rw [← hL, encP_len, ← hm, ← hx])
          have HLb : Hid (Bytes L) := Lib.hid (by rw [← hL]; exact enc_bytes hck bx)
          have HE : Hid (∀ X, Below w.heap.size w X → Calls Try.prog 18 #[.agg #[.int .i64 sn, .int .i64 nesn, .int .i64 md, .int .i64 k, .slice A n c]] X fun e w' => Gives X w' e (L, 0)) := Lib.hid fun X b => by
            have := encode_any sn nesn md k A n c xs X HX.out (Base.later HR.out b)
            rwa [encR_ok hck, hL] at this
          have hm1 : n + 2 = m := hm
          have g2 : ¬ (m : Int) < 2 ∧ (2 : Int) ≤ (m : Int) := by omega
          by_cases hcut : cut < 0 ∨ (m : Int) ≤ cut
          · have g3 : cut < 0 ∨ ¬ cut < 0 ∧ (m : Int) ≤ cut := by omega
            clear hr hx bx hb1 hb2 hb3 hbk hnc hcc hck hL hm hZ hm1 hy by_ hr' hcut
            rcases g3 with g3 | ⟨g3, g4⟩ <;>
            · go_enter Try.func8, Try.ntmps8
              go_upto_region 3 with (go_at_call 14; refine (HC.out _).mono ?_; rintro e wc ⟨rfl, bc⟩; have BX := thenB B0 bc; have K2 := K1.below bc K1.lt)
              have k0 := K2.cell 0
              have k1 := K2.cell 1
              have k2 := K2.cell 2
              have k3 := K2.cell 3
              have k4 := K2.cell 4
              go_upto_region 4 with (go_at_call 18; refine (HE.out _ BX).mono ?_; intro e w1 m1; obtain ⟨A1, c1, rfl, own1, b1⟩ := Gives.len m1 HM.out)
              have BX := thenB BX b1
              go_wp2_with (go_at_call 13; refine (example_any _).mono ?_; rintro e w9 ⟨rfl, b9⟩)
              go_ret
              exact ⟨rfl, thenB BX b9⟩
          · obtain ⟨j, rfl⟩ : ∃ j : Nat, cut = (j : Int) := ⟨cut.toNat, by omega⟩
            have hj : j < m := by omega
            have HF1 : Hid (∀ X (A1 : Option Addr) (c1 : Nat), m ≤ c1 → Ints .u8 X X.heap.size A1 L → Calls Try.prog 21 #[.slice A1 j c1] X fun e w' => Decd X w' e (zeroP, 3)) := Lib.hid fun X A1 c1 h h2 => by
              have := decode_any A1 j c1 (L.take j) X (by rw [List.length_take, HM.out]; omega) (by omega) (by omega) (fun z hz => HLb.out z (List.mem_of_mem_take hz)) h2.pre
              have hf := dec_cut hck (j := j) (by rw [hL, HM.out]; exact hj)
              rw [hL] at hf
              rwa [decR_no (by rw [hf]; decide), hf] at this
            have HF2 : Hid (∀ X (A1 : Option Addr) (c1 : Nat), m + n' ≤ c1 → Ints .u8 X X.heap.size A1 (L ++ ys) → Calls Try.prog 21 #[.slice A1 (m + n') c1] X fun e w' => Decd X w' e (zeroP, 2)) := Lib.hid fun X A1 c1 h h2 => by
              have := decode_any A1 (m + n') c1 (L ++ ys) X (by rw [List.length_append, HM.out, hy]) (by omega) h (fun z hz => by rcases List.mem_append.mp hz with hz | hz; exact HLb.out z hz; exact HBy.out z hz) h2
              have hf := dec_more hck (m := ys) (by omega)
              rw [hL] at hf
              rwa [decR_no (by rw [hf]; decide), hf] at this
            have g3 : ¬ (j : Int) < 0 ∧ ¬ (m : Int) ≤ (j : Int) ∧ (0 : Int) ≤ (j : Int) ∧ j < m ∧ j ≤ m ∧ (j : Int) ≤ (m : Int) := by omega
            have hmn : m ≤ 257 ∧ n' ≤ 100 := by omega
            clear hr hx bx hb1 hb2 hb3 hbk hnc hcc hck hL hm hZ hm1 hy by_ hr' hcut hj
            go_enter Try.func8, Try.ntmps8
            go_upto_region 3 with (go_at_call 14; refine (HC.out _).mono ?_; rintro e wc ⟨rfl, bc⟩; have BX := thenB B0 bc; have K2 := K1.below bc K1.lt)
            have k0 := K2.cell 0
            have k1 := K2.cell 1
            have k2 := K2.cell 2
            have k3 := K2.cell 3
            have k4 := K2.cell 4
            go_upto_region 4 with (go_at_call 18; refine (HE.out _ BX).mono ?_; intro e w1 m1; obtain ⟨A1, c1, rfl, own1, b1⟩ := Gives.len m1 HM.out)
            have hc1 := own_cap own1
            have hc2 : j ≤ c1 ∧ (j : Int) ≤ (c1 : Int) := by omega
            have I1 : Ints .u8 w1 w1.heap.size A1 L := Ints.own own1
            have BX := thenB BX b1
            clear k0 k1 k2 k3 k4
            go_upto_region 7 with (go_at_call 21; refine (HF1.out _ A1 c1 hc1 I1).mono ?_; intro e w2 m2; obtain ⟨A2, c2, rfl, hc2, I2, b2⟩ := decd_read m2 (m := 0) rfl)
            try simp only [zeroP]
            have BX := (thenB BX b2).alloc (thenB BX b2).size (.cells #[.int .i64 0, .int .i64 0, .int .i64 0, .int .i64 0, .slice A2 0 c2] 26)
            have I1 := Base.kept (Base.later I1 b2) (.cells #[.int .i64 0, .int .i64 0, .int .i64 0, .int .i64 0, .slice A2 0 c2] 26)
            try simp only [zeroP] at BX I1
            generalize w2.alloc (.cells #[.int .i64 0, .int .i64 0, .int .i64 0, .int .i64 0, .slice A2 0 c2] 26) = W3 at *
            have IM := Base.later HR'.out BX
            go_wp2_with (first
              | (at_builtin; refine wpList_append_ints rfl _ _ 22 rfl .u8 W3.heap.size 5 i0 _ 1 Try.underlying22 hi0 hz0 hz1 hz2 rfl (.slice (some ⟨W3.heap.size, 0, none⟩) 0 0) 0 [] rfl (World.ownsRow_made _ _ 0 (Nat.le_refl _) (by unfold maxLen; omega) rfl) W3.heap.size A1 m c1 L rfl HM.out ?a1 ?a2 ?a3 ?a4 ?_; (case a1 => exact I1.alloc (Nat.le_refl _) _); (case a2 => unfold maxLen; omega); (case a3 => omega); (case a4 => simp); intro v4 W4 own4 b4 g4; rw [Nat.zero_add] at own4; simp only [List.nil_append] at own4; have b5 := ((Below.refl W3.heap.size W3).alloc (Nat.le_refl _) (.cells #[] 5)).trans b4; have IM4 : Ints .u8 W4 W3.heap.size A' ys := IM.below b5)
              | (at_builtin; refine wpList_append_ints rfl _ _ 22 rfl .u8 W3.heap.size 5 i0 _ 1 Try.underlying22 hi0 hz0 hz1 hz2 rfl v4 m _ rfl own4 W3.heap.size A' n' c' ys rfl HY.out IM4 ?a1 ?a2 ?a3 ?_; (case a1 => unfold maxLen; omega); (case a2 => omega); (case a3 => exact b5.size); intro v6 W6 own6 b6 g6; obtain ⟨A6, c6, rfl⟩ := own_form own6; have hc6 := own_cap own6; have BX6 := BX.trans ((b5.trans b6).mono BX.size); have I6 : Ints .u8 W6 W6.heap.size A6 (L ++ ys) := Ints.own (by rw [List.map_append]; exact own6))
              | (go_at_call 21; refine (HF2.out _ A6 c6 hc6 I6).mono ?_; intro e w7 m7; obtain ⟨A7, c7, rfl, hc7, I7, b7⟩ := decd_read m7 (m := 0) rfl; have BX7 := (thenB BX6 b7).alloc (thenB BX6 b7).size (.cells #[.int .i64 0, .int .i64 0, .int .i64 0, .int .i64 0, .slice A7 0 c7] 26))
              | (go_at_call 13; refine (example_any _).mono ?_; rintro e w9 ⟨rfl, b9⟩))
            go_ret
            exact ⟨rfl, thenB BX7 b9⟩
        · have g0 : (R != 0) = true := by simpa using hR
          clear hr hx bx hb1 hb2 hb3 hbk hnc hcc hR hZ hy hr' by_
          go_enter Try.func8, Try.ntmps8
          go_wp2_with (first | (go_at_call 14; refine (HC.out _).mono ?_; rintro e wc ⟨rfl, bc⟩; have BX := thenB B0 bc; have K2 := K1.below bc K1.lt) | (go_at_call 13; refine (example_any _).mono ?_; rintro e w9 ⟨rfl, b9⟩))
          go_ret
          exact ⟨rfl, thenB BX b9⟩
end Go.Proofs.Ytakfjemkgajehaa.Dp
