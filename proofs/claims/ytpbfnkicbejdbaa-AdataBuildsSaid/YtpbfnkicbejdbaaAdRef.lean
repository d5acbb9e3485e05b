/- The first value of a kind, the name, the services, by the document; whether two lists are the same: contracts over the program. -/
import Derived.Test.YtpbfnkicbejdbaaAdOwn
set_option linter.unusedVariables false
set_option linter.unusedSimpArgs false
namespace Go.Proofs.Ytpbfnkicbejdbaa.Ad
open Go.RowKit Mem Rw Oct
open Base (thenB later kept)

theorem thenB' {w a b : World} (h : Below w.heap.size w a) (k : Below a.heap.size a b) : Below w.heap.size w b := h.trans (k.mono h.size)
theorem vals_of {xs : List Int} {l : List El} (h : l.map El.e = (decR xs).1) (kd : Int) : vals xs kd = (l.filter (fun x => x.k == kd)).map (·.v) := by
  unfold vals
  rw [← h, List.filter_map, List.map_map]
  rfl
theorem find_of {xs : List Int} {l : List El} (h : l.map El.e = (decR xs).1) {kd : Int} {j : Nat} {x : El} (hb : ∀ i y, i < j → l[i]? = some y → y.k ≠ kd) (hj : l[j]? = some x) (hx : x.k = kd) : findR xs kd = (x.v, true) := by
  have e : vals xs kd = x.v :: ((l.drop (j + 1)).filter (fun x => x.k == kd)).map (·.v) := by
    rw [vals_of h]
    have hjl : j < l.length := (List.getElem?_eq_some_iff.1 hj).1
    have hs : l = l.take j ++ x :: l.drop (j + 1) := by
      rw [← (List.getElem?_eq_some_iff.1 hj).2]
      rw [← List.drop_eq_getElem_cons hjl, List.take_append_drop]
    have h0 : (l.take j).filter (fun x => x.k == kd) = [] := by
      rw [List.filter_eq_nil_iff]
      intro y hy
      obtain ⟨i, hi⟩ := List.getElem?_of_mem hy
      rw [List.getElem?_take] at hi
      split at hi
      · rename_i hij
        simpa using hb i y hij hi
      · cases hi
    conv => lhs; rw [hs, List.filter_append, h0]
    simp [hx]
  unfold findR
  rw [e]
theorem find_none {xs : List Int} {l : List El} (h : l.map El.e = (decR xs).1) {kd : Int} (hb : ∀ i y, i < l.length → l[i]? = some y → y.k ≠ kd) : findR xs kd = ([], false) := by
  have e : vals xs kd = [] := by
    rw [vals_of h]
    have : l.filter (fun x => x.k == kd) = [] := by
      rw [List.filter_eq_nil_iff]
      intro y hy
      obtain ⟨i, hi⟩ := List.getElem?_of_mem hy
      simpa using hb i y (List.getElem?_eq_some_iff.1 hi).1 hi
    rw [this]; rfl
  unfold findR
  rw [e]
/-- What Decode makes, as it is read. -/
theorem Decd.read {w w' : World} {e : Ending} {r : List E × Int} (h : Decd w w' e r) : ∃ (LA : Option Addr) (n lc : Nat) (l : List El), e = .returned (.tuple #[.slice LA n lc, .int .i64 r.2]) ∧ l.length = n ∧ n ≤ lc ∧ l.map El.e = r.1 ∧ ElsAt w' w'.heap.size LA l ∧ (∀ x ∈ l, x.v.length ≤ 31) ∧ Below w.heap.size w w' := by
  obtain ⟨LA, lc, l, he, hm, ho, hM, hb⟩ := h
  exact ⟨LA, _, lc, l, he, rfl, own_capK ho, hm, ⟨CellsAt.own ho, fun x hx => (hM x hx).1.own (by have := (hM x hx).2; omega)⟩, fun x hx => (hM x hx).2, hb⟩
set_option maxRecDepth 100000 in
set_option maxHeartbeats 4000000 in
theorem rfind_any (A : Option Addr) (n c : Nat) (kd : Int) (xs : List Int) (w : World) (hx : xs.length = n) (hnc : n ≤ c) (bx : Bytes xs) (hr : Ints .u8 w w.heap.size A xs) :
    Calls Try.prog 19 #[.slice A n c, .int .i64 kd] w fun e w' => Fnd w w' e (findR xs kd) := by
  have HD := Lib.hid (rdecode_any A n c xs w hx hnc bx hr)
  have HBy := Lib.hid (decR_bytes bx)
  have HLn := Lib.hid (decR_len xs)
  clear hr hx
  go_enter Try.func19, Try.ntmps19
  go_wp2_with (go_at_call 16; refine HD.out.mono ?_; clear HD; intro e w1 h1; obtain ⟨LA, q, lc, l, rfl, hlq, hqc, hm, hEl, h31, b1⟩ := h1.read; clear h1)
  have HM := Lib.hid hm
  have HN := Lib.hid (fun j (h : j < q) => has hlq h)
  have HQ := Lib.hid hlq
  have hq31 : q ≤ 31 := by rw [← hlq, ← List.length_map (f := El.e), hm]; exact HLn.out
  have HO : Hid (0 < q → _) := Lib.hid fun h0 => el_cells hEl (by omega)
  have HE := Lib.hid hEl
  have H31 := Lib.hid h31
  clear hEl h31 hm hlq
  generalize (decR xs).2 = er at *
  go_loop [8] (fun s8 => ∃ j : Nat, j ≤ q ∧ s8 = .int .i64 j ∧ Hid (∀ i y, i < j → l[i]? = some y → y.k ≠ kd)) (fun s8 => q - (intOf s8).toNat)
  case atStart => exact ⟨0, by omega, rfl, Lib.hid (fun i y h => by omega)⟩
  case round =>
    obtain ⟨j, hj, rfl, HB⟩ := hrel
    by_cases c1 : j < q
    · obtain ⟨x, hxj, hxm⟩ := HN.out j c1
      obtain ⟨b, off, rfl, hbl, hc⟩ := HO.out (by omega)
      obtain ⟨h0, h1⟩ := hc j x hxj
      have HX := Lib.hid hxj
      have ho := (HE.out).2 x hxm
      have hl31 := H31.out x hxm
      have HXb : Hid (Bytes x.v) := Lib.hid ((HBy.out x.e (by rw [← HM.out]; exact List.mem_map_of_mem hxm)).2)
      have g1 : (0 : Int) ≤ (j : Int) ∧ (j : Int) < (q : Int) := by omega
      obtain ⟨xk, xA, xc, xv⟩ := x
      simp only at h0 h1 hl31
      obtain ⟨p, hp⟩ : ∃ p, xv.length = p := ⟨_, rfl⟩
      rw [hp] at h1
      have HP := Lib.hid hp
      have HOx := Lib.hid ho
      clear hc hxj hxm hp ho
      by_cases hk : xk = kd
      · have HF : Hid (findR xs kd = (xv, true)) := Lib.hid (find_of HM.out HB.out HX.out hk)
        have d0 : (xk == kd) = true := by rw [hk]; simp
        clear hk
        go_wp2_with fail
        go_ret2
        rw [HF.out]
        exact ⟨xA, xc, by rw [HP.out]; rfl, HOx.out.1, ⟨hl31, HXb.out⟩, HOx.out.2.2, b1⟩
      · have d0 : (xk == kd) = false := by simpa using hk
        have HB2 : Hid (∀ i y, i < j + 1 → l[i]? = some y → y.k ≠ kd) := Lib.hid fun i y hi hy => by
          by_cases hij : i < j
          · exact HB.out i y hij hy
          · obtain rfl : i = j := by omega
            rw [HX.out] at hy
            injection hy with hy
            subst hy
            exact hk
        clear hk
        go_wp2_with fail
        go_round
        case rel => exact ⟨j + 1, by omega, by go_num, HB2⟩
        case measure => simp [intOf]; omega
    · obtain rfl : j = q := by omega
      have HF : Hid (findR xs kd = ([], false)) := Lib.hid (find_none HM.out (fun i y hi hy => HB.out i y (by rw [← HQ.out]; exact hi) hy))
      go_wp2_with fail
      go_ret2
      rw [HF.out]
      exact ⟨none, 0, rfl, Nat.le_refl _, ⟨by simp, fun z hz => by cases hz⟩, .inl rfl, b1⟩
theorem rname_any (A : Option Addr) (n c : Nat) (xs : List Int) (w : World) (hx : xs.length = n) (hnc : n ≤ c) (bx : Bytes xs) (hr : Ints .u8 w w.heap.size A xs) :
    Calls Try.prog 21 #[.slice A n c] w fun e w' => e = .returned (.string (strOfNums (findR xs 9).1)) ∧ Below w.heap.size w w' := by
  have HF := Lib.hid (rfind_any A n c 9 xs w hx hnc bx hr)
  generalize findR xs 9 = R at *
  have hst : ∀ (w' : World) (A' : Option Addr) (c' q : Nat), R.1.length = q → Ints .u8 w' w'.heap.size A' R.1 → (convert 24 9 (.slice A' q c')).run Try.prog w' = .ok (.string (strOfNums R.1)) w' := fun w' A' c' q hq h => run_string_ints 24 5 Try.underlying24 Try.underlying5 Try.underlying9 w'.heap.size A' q c' R.1 hq h
  have HS := Lib.hid hst
  clear hst hx hr bx
  go_enter Try.func21, Try.ntmps21
  go_wp2_with (go_at_call 19; refine HF.out.mono ?_; clear HF; rintro e w1 ⟨A1, c1, rfl, h1, h2, hi1, b1⟩; have hcv := HS.out w1 A1 c1 _ rfl hi1; clear HS)
  go_ret
  exact ⟨rfl, b1⟩
end Go.Proofs.Ytpbfnkicbejdbaa.Ad
