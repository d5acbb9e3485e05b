/- Changes at instants: what is due, and what remains, by the layer and the document: contracts over the program. -/
import Derived.Test.YtejojcanmlgegaaInMem
set_option linter.unusedVariables false
set_option linter.unusedSimpArgs false
namespace Go.Proofs.Ytejojcanmlgegaa.Nst
open Go.RowKit Mem Rw Base

/-- A call returns two lists. -/
def Duo (w w' : World) (e : Ending) (l m : List Ch) : Prop := ∃ A A' c c', e = .returned (.tuple #[.slice A l.length c, .slice A' m.length c']) ∧ l.length ≤ c ∧ m.length ≤ c' ∧ ListAt encH w' w'.heap.size A l ∧ ListAt encH w' w'.heap.size A' m ∧ Below w.heap.size w w'
set_option maxHeartbeats 4000000 in
theorem due_any (A : Option Addr) (n c : Nat) (l : List Ch) (ev : Int) (w : World) (hl : l.length = n) (hn : n ≤ 2199023255550) (hr : ListAt encH w w.heap.size A l) (h0 : 0 ≤ ev ∧ ev ≤ 65535) (hx : ∀ x ∈ l, GoodI x) :
    Calls Try.prog 18 #[.slice A n c, .int .u16 ev] w fun e w' => Duo w w' e (restR l ev) (dueR l ev) := by
  obtain ⟨iE, hi, hz, hs, hb2, hc0⟩ := info_parts2 info_ch rfl
  have HN := Lib.hid (fun j (h : j < n) => has hl h)
  have HO : Hid (∀ w', Below w.heap.size w w' → 0 < n → _) := Lib.hid fun w' hb h0 => cells_at (CellsAt.below hr hb) (by omega)
  have HP : Hid (∀ x ∈ l, ∀ w', Calls Try.prog 22 #[.int .u16 ev, .int .u16 x.i] w' fun e w2 => e = .returned (.bool (isDue ev x)) ∧ w' = w2) := Lib.hid fun x h w' => Ser.passed_any ev x.i w' h0 (hx x h)
  have HTk : Hid (l.take n = l) := Lib.hid (by rw [List.take_of_length_le (by omega)])
  have HE : Hid (∀ x : Ch, encH x = [.int .i64 x.k, .int .u16 x.i, .int .i64 x.a, .int .i64 x.b, .int .i64 x.c, .int .i64 x.e, .int .i64 x.f, .int .u64 x.m]) := Lib.hid fun _ => rfl
  clear hl hr hx
  have own1 := own_nil w w.heap.size
  have own2 := own_nil w w.heap.size
  have far0 := Far.nil (.slice none 0 0)
  have B0 : Below w.heap.size w w := Below.refl _ _
  have HA1 := Lib.hid own1
  have HA2 := Lib.hid own2
  have HA3 := Lib.hid far0
  have HA4 := Lib.hid B0
  clear own1 own2 far0 B0
  go_enter Try.func18, Try.ntmps18
  go_wp2_with fail
  go_loopw [4, 5, 7, 10] (fun s4 s5 _ sj wr => ∃ j : Nat, j ≤ n ∧ sj = .int .i64 j ∧ ∃ (q q2 : Nat) (A1 A2 : Option Addr) (c1 c2 : Nat) (m1 m2 : List Ch), s4 = .slice A1 q c1 ∧ s5 = .slice A2 q2 c2 ∧ q ≤ j ∧ q2 ≤ j ∧ m1.length = q ∧ m2.length = q2 ∧ Hid (m1 = restR (l.take j) ev) ∧ Hid (m2 = dueR (l.take j) ev) ∧ wr.ownsRow w.heap.size 31 8 (.slice A1 q c1) q (m1.flatMap encH) ∧ wr.ownsRow w.heap.size 31 8 (.slice A2 q2 c2) q2 (m2.flatMap encH) ∧ Hid (Far (.slice A1 q c1) (.slice A2 q2 c2)) ∧ Below w.heap.size w wr) (fun _ _ _ sj _ => n - (intOf sj).toNat)
  case atStart => exact ⟨0, by omega, rfl, 0, 0, _, _, _, _, [], [], rfl, rfl, Nat.le_refl _, Nat.le_refl _, rfl, rfl, Lib.hid rfl, Lib.hid rfl, HA1.out, HA2.out, HA3, HA4.out⟩
  case round =>
    clear HA1 HA2 HA3 HA4
    obtain ⟨j, hj, rfl, q, q2, A1, A2, c1, c2, m1, m2, rfl, rfl, hq, hq2, hm1, hm2, e1, e2, own1, own2, far, hbel⟩ := hrel
    by_cases cj : j < n
    · obtain ⟨x, hxj, hxm⟩ := HN.out j cj
      obtain ⟨b, off, rfl, hbl, hc⟩ := HO.out _ hbel (by omega)
      obtain ⟨h0, h1, h2, h3, h4, h5, h6, h7⟩ := hc j x hxj
      have HPx := Lib.hid (HP.out x hxm)
      have HY1 : Hid (isDue ev x = true → m1 = restR (l.take (j + 1)) ev) := Lib.hid fun e => by rw [e1.out, rest_yes hxj e]
      have HY2 : Hid (isDue ev x = true → m2 ++ [x] = dueR (l.take (j + 1)) ev) := Lib.hid fun e => by rw [e2.out, due_yes hxj e]
      have HZ1 : Hid (isDue ev x = false → m1 ++ [x] = restR (l.take (j + 1)) ev) := Lib.hid fun e => by rw [e1.out, rest_no hxj e]
      have HZ2 : Hid (isDue ev x = false → m2 = dueR (l.take (j + 1)) ev) := Lib.hid fun e => by rw [e2.out, due_no hxj e]
      have HX : Hid (∀ l : List Ch, l.flatMap encH ++ encH x = (l ++ [x]).flatMap encH) := Lib.hid fun l => flat_add l x
      have hone := encH_one x
      have HM1 := Lib.hid hm1
      have HM2 := Lib.hid hm2
      have g1 : (0 : Int) ≤ (j : Int) ∧ (j : Int) < (n : Int) := by omega
      clear hc hxj hxm e1 e2 hm1 hm2
      generalize hD : isDue ev x = D at *
      clear hD
      obtain ⟨y0, y1, y2, y3, y4, y5, y6, y7⟩ := x
      dsimp only [encH] at h0 h1 h2 h3 h4 h5 h6 h7 hone HX HPx
      have hblr : b < wr.heap.size := by have := hbel.size; omega
      have K7 : Blk (wr.alloc (.cells #[.int .i64 y0, .int .u16 y1, .int .i64 y2, .int .i64 y3, .int .i64 y4, .int .i64 y5, .int .i64 y6, .int .u64 y7] 31)) wr.heap.size 31 #[.int .i64 y0, .int .u16 y1, .int .i64 y2, .int .i64 y3, .int .i64 y4, .int .i64 y5, .int .i64 y6, .int .u64 y7] := Blk.fresh _ _ _
      have own1 := own1.alloc (.cells #[.int .i64 y0, .int .u16 y1, .int .i64 y2, .int .i64 y3, .int .i64 y4, .int .i64 y5, .int .i64 y6, .int .u64 y7] 31)
      have own2 := own2.alloc (.cells #[.int .i64 y0, .int .u16 y1, .int .i64 y2, .int .i64 y3, .int .i64 y4, .int .i64 y5, .int .i64 y6, .int .u64 y7] 31)
      have hbel := hbel.alloc hbel.size (.cells #[.int .i64 y0, .int .u16 y1, .int .i64 y2, .int .i64 y3, .int .i64 y4, .int .i64 y5, .int .i64 y6, .int .u64 y7] 31)
      go_upto_region 4 with (fail)
      generalize wr.heap.size = g7 at *
      generalize wr.alloc (.cells #[.int .i64 y0, .int .u16 y1, .int .i64 y2, .int .i64 y3, .int .i64 y4, .int .i64 y5, .int .i64 y6, .int .u64 y7] 31) = X at *
      have p1 := K7.cell 1
      have HO1 := Lib.hid (own_lt own1)
      have HO2 := Lib.hid (own_lt own2)
      have CA := CellsAt.lit X [.int .i64 y0, .int .u16 y1, .int .i64 y2, .int .i64 y3, .int .i64 y4, .int .i64 y5, .int .i64 y6, .int .u64 y7] #[.int .i64 y0, .int .u16 y1, .int .i64 y2, .int .i64 y3, .int .i64 y4, .int .i64 y5, .int .i64 y6, .int .u64 y7] 31 rfl
      have BL2 := hbel.alloc hbel.size (.cells #[.int .i64 y0, .int .u16 y1, .int .i64 y2, .int .i64 y3, .int .i64 y4, .int .i64 y5, .int .i64 y6, .int .u64 y7] 31)
      have HW1 : Hid (X.ownsRow w.heap.size 31 8 (.slice A1 q c1) q (m1.flatMap encH)) := Lib.hid own1
      have HW2 : Hid (X.ownsRow w.heap.size 31 8 (.slice A2 q2 c2) q2 (m2.flatMap encH)) := Lib.hid own2
      have oa1 := own1.alloc (.cells #[.int .i64 y0, .int .u16 y1, .int .i64 y2, .int .i64 y3, .int .i64 y4, .int .i64 y5, .int .i64 y6, .int .u64 y7] 31)
      have oa2 := own2.alloc (.cells #[.int .i64 y0, .int .u16 y1, .int .i64 y2, .int .i64 y3, .int .i64 y4, .int .i64 y5, .int .i64 y6, .int .u64 y7] 31)
      have HB := Lib.hid hbel
      clear own1 own2 hbel
      cases D with
      | true =>
        go_wp2_with (first | (go_at_call 22; refine (HPx.out _).mono ?_; rintro e w9 ⟨rfl, rfl⟩) | (refine wpList_load_row rfl 31 (.tmp 7) rfl g7 rfl 31 _ (0, 0) _ K7 Try.underlying31 rfl (by kernel_rfl) ?_) | (at_builtin; refine wpList_append_at rfl _ _ 35 rfl w.heap.size 31 iE _ 8 64 Try.underlying35 hi hz hs hb2 hc0 (by decide) (.slice A2 q2 c2) q2 (m2.flatMap encH) rfl oa2 X.heap.size 1 1 [.int .i64 y0, .int .u16 y1, .int .i64 y2, .int .i64 y3, .int .i64 y4, .int .i64 y5, .int .i64 y6, .int .u64 y7] rfl rfl hone CA (by unfold maxLen; omega) (by omega) BL2.size ?_; intro v5 w5 own5 b5 gr5 pl5; obtain ⟨A5, c5, rfl⟩ := own_form own5))
        have o1 := own_grow oa1 gr5 far.out
        have f1 := far_grow far.out (fun g hg => by have := HO1.out g hg; simp; omega) pl5
        go_roundw
        case rel => exact ⟨j + 1, by omega, by go_num, q, q2 + 1, A1, A5, c1, c5, m1, m2 ++ [⟨y0, y1, y2, y3, y4, y5, y6, y7⟩], rfl, rfl, by omega, by omega, HM1.out, by simp [HM2.out], Lib.hid (HY1.out (by first | rfl | trivial)), Lib.hid (HY2.out (by first | rfl | trivial)), o1, by rw [← HX.out]; exact own5, Lib.hid f1, BL2.trans b5⟩
        case measure => simp [intOf]; omega
      | false =>
        go_wp2_with (first | (go_at_call 22; refine (HPx.out _).mono ?_; rintro e w9 ⟨rfl, rfl⟩) | (refine wpList_load_row rfl 31 (.tmp 7) rfl g7 rfl 31 _ (0, 0) _ K7 Try.underlying31 rfl (by kernel_rfl) ?_) | (at_builtin; refine wpList_append_at rfl _ _ 35 rfl w.heap.size 31 iE _ 8 64 Try.underlying35 hi hz hs hb2 hc0 (by decide) (.slice A1 q c1) q (m1.flatMap encH) rfl oa1 X.heap.size 1 1 [.int .i64 y0, .int .u16 y1, .int .i64 y2, .int .i64 y3, .int .i64 y4, .int .i64 y5, .int .i64 y6, .int .u64 y7] rfl rfl hone CA (by unfold maxLen; omega) (by omega) BL2.size ?_; intro v5 w5 own5 b5 gr5 pl5; obtain ⟨A5, c5, rfl⟩ := own_form own5))
        have o2 := own_grow oa2 gr5 far.out.symm
        have f1 := far_grow far.out.symm (fun g hg => by have := HO2.out g hg; simp; omega) pl5
        go_roundw
        case rel => exact ⟨j + 1, by omega, by go_num, q + 1, q2, A5, A2, c5, c2, m1 ++ [⟨y0, y1, y2, y3, y4, y5, y6, y7⟩], m2, rfl, rfl, by omega, by omega, by simp [HM1.out], HM2.out, Lib.hid (HZ1.out (by first | rfl | trivial)), Lib.hid (HZ2.out (by first | rfl | trivial)), by rw [← HX.out]; exact own5, o2, Lib.hid f1.symm, BL2.trans b5⟩
        case measure => simp [intOf]; omega
    · obtain rfl : j = n := by omega
      have HG1 : Hid (m1 = restR l ev) := Lib.hid (by rw [e1.out, HTk.out])
      have HG2 : Hid (m2 = dueR l ev) := Lib.hid (by rw [e2.out, HTk.out])
      have HH1 : Hid (ListAt encH wr wr.heap.size A1 m1 ∧ q ≤ c1) := Lib.hid ⟨CellsAt.own own1, own_capA own1⟩
      have HH2 : Hid (ListAt encH wr wr.heap.size A2 m2 ∧ q2 ≤ c2) := Lib.hid ⟨CellsAt.own own2, own_capA own2⟩
      have HM1 := Lib.hid hm1
      have HM2 := Lib.hid hm2
      clear own1 own2 hm1 hm2 e1 e2 far
      go_wp2_with fail
      go_ret2
      exact ⟨A1, A2, c1, c2, by (rw [← HG1.out, ← HG2.out, HM1.out, HM2.out]) <;> rfl, by rw [← HG1.out, HM1.out]; exact HH1.out.2, by rw [← HG2.out, HM2.out]; exact HH2.out.2, by rw [← HG1.out]; exact HH1.out.1, by rw [← HG2.out]; exact HH2.out.1, hbel⟩
set_option maxHeartbeats 4000000 in
theorem rdue_any (A : Option Addr) (n c : Nat) (l : List Ch) (ev : Int) (w : World) (hl : l.length = n) (hn : n ≤ 2199023255550) (hr : ListAt encH w w.heap.size A l) (h0 : 0 ≤ ev ∧ ev ≤ 65535) (hx : ∀ x ∈ l, GoodI x) :
    Calls Try.prog 19 #[.slice A n c, .int .u16 ev] w fun e w' => Duo w w' e (restR l ev) (dueR l ev) := by
  obtain ⟨iE, hi, hz, hs, hb2, hc0⟩ := info_parts2 info_ch rfl
  have HN := Lib.hid (fun j (h : j < n) => has hl h)
  have HO : Hid (∀ w', Below w.heap.size w w' → 0 < n → _) := Lib.hid fun w' hb h0 => cells_at (CellsAt.below hr hb) (by omega)
  have HP : Hid (∀ x ∈ l, ∀ w', Calls Try.prog 23 #[.int .u16 ev, .int .u16 x.i] w' fun e w2 => e = .returned (.bool (isDue ev x)) ∧ w' = w2) := Lib.hid fun x h w' => Ser.rpassed_any ev x.i w' h0 (hx x h)
  have HTk : Hid (l.take n = l) := Lib.hid (by rw [List.take_of_length_le (by omega)])
  have HE : Hid (∀ x : Ch, encH x = [.int .i64 x.k, .int .u16 x.i, .int .i64 x.a, .int .i64 x.b, .int .i64 x.c, .int .i64 x.e, .int .i64 x.f, .int .u64 x.m]) := Lib.hid fun _ => rfl
  clear hl hr hx
  have own1 : ((w.alloc (.cells #[] 31)).alloc (.cells #[] 31)).ownsRow w.heap.size 31 8 (.slice (some ⟨w.heap.size, 0, none⟩) 0 0) 0 [] := (World.ownsRow_made w #[] 0 (Nat.le_refl _) (by unfold maxLen; omega) rfl).alloc _
  have own2 : ((w.alloc (.cells #[] 31)).alloc (.cells #[] 31)).ownsRow w.heap.size 31 8 (.slice (some ⟨w.heap.size + 1, 0, none⟩) 0 0) 0 [] := by
    have := World.ownsRow_made (base := w.heap.size) (e := 31) (size := 8) (w.alloc (.cells #[] 31)) #[] 0 (by simp) (by unfold maxLen; omega) rfl
    simpa using this
  have far0 : Far (.slice (some ⟨w.heap.size, 0, none⟩) 0 0) (.slice (some ⟨w.heap.size + 1, 0, none⟩) 0 0) := fun g h1 h2 => by
    simp [Value.ownBlock] at h1 h2; omega
  have B0 : Below w.heap.size w ((w.alloc (.cells #[] 31)).alloc (.cells #[] 31)) := ((Below.refl _ _).alloc (Nat.le_refl _) _).alloc (by simp) _
  have HA1 := Lib.hid own1
  have HA2 := Lib.hid own2
  have HA3 := Lib.hid far0
  have HA4 := Lib.hid B0
  clear own1 own2 far0 B0
  go_enter Try.func19, Try.ntmps19
  go_wp2_with fail
  go_loopw [4, 5, 6] (fun s4 s5 sj wr => ∃ j : Nat, j ≤ n ∧ sj = .int .i64 j ∧ ∃ (q q2 : Nat) (A1 A2 : Option Addr) (c1 c2 : Nat) (m1 m2 : List Ch), s4 = .slice A1 q c1 ∧ s5 = .slice A2 q2 c2 ∧ q ≤ j ∧ q2 ≤ j ∧ m1.length = q ∧ m2.length = q2 ∧ Hid (m1 = restR (l.take j) ev) ∧ Hid (m2 = dueR (l.take j) ev) ∧ wr.ownsRow w.heap.size 31 8 (.slice A1 q c1) q (m1.flatMap encH) ∧ wr.ownsRow w.heap.size 31 8 (.slice A2 q2 c2) q2 (m2.flatMap encH) ∧ Hid (Far (.slice A1 q c1) (.slice A2 q2 c2)) ∧ Below w.heap.size w wr) (fun _ _ sj _ => n - (intOf sj).toNat)
  case atStart => exact ⟨0, by omega, rfl, 0, 0, _, _, _, _, [], [], rfl, rfl, Nat.le_refl _, Nat.le_refl _, rfl, rfl, Lib.hid rfl, Lib.hid rfl, HA1.out, HA2.out, HA3, HA4.out⟩
  case round =>
    clear HA1 HA2 HA3 HA4
    obtain ⟨j, hj, rfl, q, q2, A1, A2, c1, c2, m1, m2, rfl, rfl, hq, hq2, hm1, hm2, e1, e2, own1, own2, far, hbel⟩ := hrel
    by_cases cj : j < n
    · obtain ⟨x, hxj, hxm⟩ := HN.out j cj
      obtain ⟨b, off, rfl, hbl, hc⟩ := HO.out _ hbel (by omega)
      obtain ⟨h0, h1, h2, h3, h4, h5, h6, h7⟩ := hc j x hxj
      have HPx := Lib.hid (HP.out x hxm)
      have HY1 : Hid (isDue ev x = true → m1 = restR (l.take (j + 1)) ev) := Lib.hid fun e => by rw [e1.out, rest_yes hxj e]
      have HY2 : Hid (isDue ev x = true → m2 ++ [x] = dueR (l.take (j + 1)) ev) := Lib.hid fun e => by rw [e2.out, due_yes hxj e]
      have HZ1 : Hid (isDue ev x = false → m1 ++ [x] = restR (l.take (j + 1)) ev) := Lib.hid fun e => by rw [e1.out, rest_no hxj e]
      have HZ2 : Hid (isDue ev x = false → m2 = dueR (l.take (j + 1)) ev) := Lib.hid fun e => by rw [e2.out, due_no hxj e]
      have HX : Hid (∀ l : List Ch, l.flatMap encH ++ encH x = (l ++ [x]).flatMap encH) := Lib.hid fun l => flat_add l x
      have hone := encH_one x
      have HM1 := Lib.hid hm1
      have HM2 := Lib.hid hm2
      have g1 : (0 : Int) ≤ (j : Int) ∧ (j : Int) < (n : Int) := by omega
      clear hc hxj hxm e1 e2 hm1 hm2
      generalize hD : isDue ev x = D at *
      clear hD
      obtain ⟨y0, y1, y2, y3, y4, y5, y6, y7⟩ := x
      dsimp only [encH] at h0 h1 h2 h3 h4 h5 h6 h7 hone HX HPx
      have hblr : b < wr.heap.size := by have := hbel.size; omega
      have X0 : wr = wr := rfl
      clear X0
      have HO1 := Lib.hid (own_lt own1)
      have HO2 := Lib.hid (own_lt own2)
      have CA := CellsAt.lit wr [.int .i64 y0, .int .u16 y1, .int .i64 y2, .int .i64 y3, .int .i64 y4, .int .i64 y5, .int .i64 y6, .int .u64 y7] #[.int .i64 y0, .int .u16 y1, .int .i64 y2, .int .i64 y3, .int .i64 y4, .int .i64 y5, .int .i64 y6, .int .u64 y7] 31 rfl
      have BL2 := hbel.alloc hbel.size (.cells #[.int .i64 y0, .int .u16 y1, .int .i64 y2, .int .i64 y3, .int .i64 y4, .int .i64 y5, .int .i64 y6, .int .u64 y7] 31)
      have HW1 : Hid (wr.ownsRow w.heap.size 31 8 (.slice A1 q c1) q (m1.flatMap encH)) := Lib.hid own1
      have HW2 : Hid (wr.ownsRow w.heap.size 31 8 (.slice A2 q2 c2) q2 (m2.flatMap encH)) := Lib.hid own2
      have oa1 := own1.alloc (.cells #[.int .i64 y0, .int .u16 y1, .int .i64 y2, .int .i64 y3, .int .i64 y4, .int .i64 y5, .int .i64 y6, .int .u64 y7] 31)
      have oa2 := own2.alloc (.cells #[.int .i64 y0, .int .u16 y1, .int .i64 y2, .int .i64 y3, .int .i64 y4, .int .i64 y5, .int .i64 y6, .int .u64 y7] 31)
      have HB := Lib.hid hbel
      clear own1 own2 hbel
      cases D with
      | true =>
        go_wp2_with (first | (go_at_call 23; refine (HPx.out _).mono ?_; rintro e w9 ⟨rfl, rfl⟩) | fail | (at_builtin; refine wpList_append_at rfl _ _ 35 rfl w.heap.size 31 iE _ 8 64 Try.underlying35 hi hz hs hb2 hc0 (by decide) (.slice A2 q2 c2) q2 (m2.flatMap encH) rfl oa2 wr.heap.size 1 1 [.int .i64 y0, .int .u16 y1, .int .i64 y2, .int .i64 y3, .int .i64 y4, .int .i64 y5, .int .i64 y6, .int .u64 y7] rfl rfl hone CA (by unfold maxLen; omega) (by omega) BL2.size ?_; intro v5 w5 own5 b5 gr5 pl5; obtain ⟨A5, c5, rfl⟩ := own_form own5))
        have o1 := own_grow oa1 gr5 far.out
        have f1 := far_grow far.out (fun g hg => by have := HO1.out g hg; simp; omega) pl5
        go_roundw
        case rel => exact ⟨j + 1, by omega, by go_num, q, q2 + 1, A1, A5, c1, c5, m1, m2 ++ [⟨y0, y1, y2, y3, y4, y5, y6, y7⟩], rfl, rfl, by omega, by omega, HM1.out, by simp [HM2.out], Lib.hid (HY1.out (by first | rfl | trivial)), Lib.hid (HY2.out (by first | rfl | trivial)), o1, by rw [← HX.out]; exact own5, Lib.hid f1, BL2.trans b5⟩
        case measure => simp [intOf]; omega
      | false =>
        go_wp2_with (first | (go_at_call 23; refine (HPx.out _).mono ?_; rintro e w9 ⟨rfl, rfl⟩) | fail | (at_builtin; refine wpList_append_at rfl _ _ 35 rfl w.heap.size 31 iE _ 8 64 Try.underlying35 hi hz hs hb2 hc0 (by decide) (.slice A1 q c1) q (m1.flatMap encH) rfl oa1 wr.heap.size 1 1 [.int .i64 y0, .int .u16 y1, .int .i64 y2, .int .i64 y3, .int .i64 y4, .int .i64 y5, .int .i64 y6, .int .u64 y7] rfl rfl hone CA (by unfold maxLen; omega) (by omega) BL2.size ?_; intro v5 w5 own5 b5 gr5 pl5; obtain ⟨A5, c5, rfl⟩ := own_form own5))
        have o2 := own_grow oa2 gr5 far.out.symm
        have f1 := far_grow far.out.symm (fun g hg => by have := HO2.out g hg; simp; omega) pl5
        go_roundw
        case rel => exact ⟨j + 1, by omega, by go_num, q + 1, q2, A5, A2, c5, c2, m1 ++ [⟨y0, y1, y2, y3, y4, y5, y6, y7⟩], m2, rfl, rfl, by omega, by omega, by simp [HM1.out], HM2.out, Lib.hid (HZ1.out (by first | rfl | trivial)), Lib.hid (HZ2.out (by first | rfl | trivial)), by rw [← HX.out]; exact own5, o2, Lib.hid f1.symm, BL2.trans b5⟩
        case measure => simp [intOf]; omega
    · obtain rfl : j = n := by omega
      have HG1 : Hid (m1 = restR l ev) := Lib.hid (by rw [e1.out, HTk.out])
      have HG2 : Hid (m2 = dueR l ev) := Lib.hid (by rw [e2.out, HTk.out])
      have HH1 : Hid (ListAt encH wr wr.heap.size A1 m1 ∧ q ≤ c1) := Lib.hid ⟨CellsAt.own own1, own_capA own1⟩
      have HH2 : Hid (ListAt encH wr wr.heap.size A2 m2 ∧ q2 ≤ c2) := Lib.hid ⟨CellsAt.own own2, own_capA own2⟩
      have HM1 := Lib.hid hm1
      have HM2 := Lib.hid hm2
      clear own1 own2 hm1 hm2 e1 e2 far
      go_wp2_with fail
      go_ret2
      exact ⟨A1, A2, c1, c2, by (rw [← HG1.out, ← HG2.out, HM1.out, HM2.out]) <;> rfl, by rw [← HG1.out, HM1.out]; exact HH1.out.2, by rw [← HG2.out, HM2.out]; exact HH2.out.2, by rw [← HG1.out]; exact HH1.out.1, by rw [← HG2.out]; exact HH2.out.1, hbel⟩
end Go.Proofs.Ytejojcanmlgegaa.Nst
