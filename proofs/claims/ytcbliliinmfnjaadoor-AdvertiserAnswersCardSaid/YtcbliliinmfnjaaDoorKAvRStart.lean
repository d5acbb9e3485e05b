/- Advertisers: how they start, by the specification: contracts over the program. -/
import Derived.Test.YtcbliliinmfnjaaDoorKAvAns
set_option linter.unusedVariables false
set_option linter.unusedSimpArgs false
namespace Go.Proofs.YtcbliliinmfnjaaDoor.Av
open Go.RowKit Mem Oct Rw Ap Ace Prv
open Base (thenB)

/-- What the document's Start returns: its lists are those of the settings. -/
def RStR (w w' : World) (e : Ending) (a : Ad) (x : Int) : Prop := ∃ VD VS VA VI, e = .returned (.tuple #[.agg (vcel a VD VS VA VI), .int .i64 x]) ∧ Has w' 0 a.p VD VS VA VI ∧ Below w.heap.size w w'
set_option maxRecDepth 100000 in
set_option maxHeartbeats 4000000 in
theorem rstart_any (p : Pm) (VD VS VA VI : Value) (l : Int) (m : Nat) (w : World) (hW : PW p) (hH : Has w m p VD VS VA VI) :
    Calls Tryd.prog 16 #[.agg (pcel p VD VS VA VI), .int .i64 l] w fun e w' => RStR w w' e (startA p l) (stE p) := by
  have oVD := hH.d.one
  obtain ⟨AS, cS, rfl, _⟩ := id hH.s
  obtain ⟨AA, cA, rfl, _⟩ := id hH.a
  obtain ⟨AI, cI, rfl, _⟩ := id hH.i
  have HP : Hid (∀ X, Below w.heap.size w X → Calls Tryd.prog 44 #[.agg (pcel p VD (.slice AS p.sc.length cS) (.slice AA p.ac.length cA) (.slice AI p.ids.length cI))] X fun e w' => PduR X w' e (annP p)) := Lib.hid fun X b => rpdu_any p _ _ _ _ m X hW (hH.below b)
  have HA : Hid (∀ X, Below w.heap.size w X → Calls Tryd.prog 45 #[.agg (pcel p VD (.slice AS p.sc.length cS) (.slice AA p.ac.length cA) (.slice AI p.ids.length cI))] X fun e w' => PduR X w' e (ansP p)) := Lib.hid fun X b => rscan_any p _ _ _ _ m X hW (hH.below b)
  have HK := Lib.hid (fun X V (mm : Nat) (h : Row X mm V (annP p).ds.length ((annP p).ds.map (Value.int .u8))) => rchk_call (annP p) V mm X (wid_ann hW) h)
  have HK2 := Lib.hid (fun X V (mm : Nat) (h : Row X mm V (ansP p).ds.length ((ansP p).ds.map (Value.int .u8))) => rchk_call (ansP p) V mm X (wid_ans hW) h)
  have HS := Lib.hid (fun X => rscannable_any p.k X)
  have HM := Lib.hid (fun X => rplace_any l X)
  have HH : Hid (∀ X, Below w.heap.size w X → Has X 0 p VD (.slice AS p.sc.length cS) (.slice AA p.ac.length cA) (.slice AI p.ids.length cI)) := Lib.hid fun X b => (hH.below b).less (Nat.zero_le _)
  have HO := Lib.hid (@start_ok p l)
  have HN := Lib.hid (@start_no p l)
  have HR : Hid (stE p = if annB p.k = false then 12 else if p.it < 32 ∨ 16384 < p.it then 5 else if ¬ chkP (annP p) = 0 then chkP (annP p) else if ¬ scE p = 0 then scE p else
    if p.po < 0 ∨ 3 < p.po then 5 else if 64 < p.ac.length ∨ 64 < p.ids.length then 4 else 0) := Lib.hid rfl
  have HSE : Hid (scE p = if scnB p.k = true then chkP (ansP p) else if 0 < p.sc.length then 1 else 0) := Lib.hid rfl
  have HKd : Hid (annB p.k = (p.k == 0 || (p.k == 1 || (p.k == 2 || p.k == 6)))) := Lib.hid rfl
  clear hW hH
  generalize stE p = E at *
  generalize startA p l = AD at *
  generalize scE p = E3 at *
  generalize chkP (annP p) = E1 at *
  generalize chkP (ansP p) = E2 at *
  generalize annP p = q at *
  generalize ansP p = q2 at *
  generalize p.ac.length = na at *
  generalize p.ids.length = ni at *
  generalize p.sc.length = ns at *
  generalize annB p.k = K at *
  generalize scnB p.k = S at *
  generalize plc l = L at *
  have BX : Below w.heap.size w ((w.alloc (.cells #[.int .i64 p.k, .int .i64 p.it, .int .i64 p.ok, .int .u64 p.ob, .int .i64 p.tk, .int .u64 p.tb, VD, .slice AS ns cS, .int .i64 p.po, .slice AA na cA, .slice AI ni cI, .int .u64 p.sd] 29)).alloc (.cells #[.int .i64 0, .int .i64 0, .int .i64 0, .int .u64 0, .int .i64 0, .int .u64 0, .slice none 0 0, .slice none 0 0, .int .i64 0, .slice none 0 0, .slice none 0 0, .int .u64 0, .bool false, .int .i64 0, .int .i64 0] 33)) := ((Below.refl _ _).alloc (Nat.le_refl _) _).alloc (by simp) _
  have K1 : Blk ((w.alloc (.cells #[.int .i64 p.k, .int .i64 p.it, .int .i64 p.ok, .int .u64 p.ob, .int .i64 p.tk, .int .u64 p.tb, VD, .slice AS ns cS, .int .i64 p.po, .slice AA na cA, .slice AI ni cI, .int .u64 p.sd] 29)).alloc (.cells #[.int .i64 0, .int .i64 0, .int .i64 0, .int .u64 0, .int .i64 0, .int .u64 0, .slice none 0 0, .slice none 0 0, .int .i64 0, .slice none 0 0, .slice none 0 0, .int .u64 0, .bool false, .int .i64 0, .int .i64 0] 33)) (w.heap.size) 29 #[.int .i64 p.k, .int .i64 p.it, .int .i64 p.ok, .int .u64 p.ob, .int .i64 p.tk, .int .u64 p.tb, VD, .slice AS ns cS, .int .i64 p.po, .slice AA na cA, .slice AI ni cI, .int .u64 p.sd] := (Blk.fresh w 29 #[.int .i64 p.k, .int .i64 p.it, .int .i64 p.ok, .int .u64 p.ob, .int .i64 p.tk, .int .u64 p.tb, VD, .slice AS ns cS, .int .i64 p.po, .slice AA na cA, .slice AI ni cI, .int .u64 p.sd]).alloc _
  have K2 : Blk ((w.alloc (.cells #[.int .i64 p.k, .int .i64 p.it, .int .i64 p.ok, .int .u64 p.ob, .int .i64 p.tk, .int .u64 p.tb, VD, .slice AS ns cS, .int .i64 p.po, .slice AA na cA, .slice AI ni cI, .int .u64 p.sd] 29)).alloc (.cells #[.int .i64 0, .int .i64 0, .int .i64 0, .int .u64 0, .int .i64 0, .int .u64 0, .slice none 0 0, .slice none 0 0, .int .i64 0, .slice none 0 0, .slice none 0 0, .int .u64 0, .bool false, .int .i64 0, .int .i64 0] 33)) (w.heap.size + 1) 33 #[.int .i64 0, .int .i64 0, .int .i64 0, .int .u64 0, .int .i64 0, .int .u64 0, .slice none 0 0, .slice none 0 0, .int .i64 0, .slice none 0 0, .slice none 0 0, .int .u64 0, .bool false, .int .i64 0, .int .i64 0] := Av.Blk.next
  have c0 := K1.cell 0
  go_enter Tryd.func16, Tryd.ntmps16
  go_upto_region 1 with (fail)
  generalize (w.alloc (.cells #[.int .i64 p.k, .int .i64 p.it, .int .i64 p.ok, .int .u64 p.ob, .int .i64 p.tk, .int .u64 p.tb, VD, .slice AS ns cS, .int .i64 p.po, .slice AA na cA, .slice AI ni cI, .int .u64 p.sd] 29)).alloc (.cells #[.int .i64 0, .int .i64 0, .int .i64 0, .int .u64 0, .int .i64 0, .int .u64 0, .slice none 0 0, .slice none 0 0, .int .i64 0, .slice none 0 0, .slice none 0 0, .int .u64 0, .bool false, .int .i64 0, .int .i64 0] 33) = W0 at *
  go_cut [25] from 8 to 25 (fun s25 wx => s25 = .bool (!K) ∧ wx = W0)
  case first =>
    clear HR HP HA HK HK2 HS HM HH HO HN HSE
    by_cases h0 : p.k = 0
    · have e0 : (p.k != 0) = false := by simpa using h0
      have x0 : (p.k == 0) = true := by simpa using h0
      have hK : Hid (K = true) := Lib.hid (by rw [HKd.out, x0]; rfl)
      clear x0 h0 HKd
      go_wp2_with fail
      go_meet
      exact ⟨by rw [hK.out]; rfl, rfl⟩
    have e0 : (p.k != 0) = true := by simpa using h0
    have x0 : (p.k == 0) = false := by simpa using h0
    by_cases h1 : p.k = 1
    · have e1 : (p.k != 1) = false := by simpa using h1
      have x1 : (p.k == 1) = true := by simpa using h1
      have hK : Hid (K = true) := Lib.hid (by rw [HKd.out, x0, x1]; rfl)
      clear x0 x1 h0 h1 HKd
      go_wp2_with fail
      go_meet
      exact ⟨by rw [hK.out]; rfl, rfl⟩
    have e1 : (p.k != 1) = true := by simpa using h1
    have x1 : (p.k == 1) = false := by simpa using h1
    by_cases h2 : p.k = 2
    · have e2 : (p.k != 2) = false := by simpa using h2
      have x2 : (p.k == 2) = true := by simpa using h2
      have hK : Hid (K = true) := Lib.hid (by rw [HKd.out, x0, x1, x2]; rfl)
      clear x0 x1 x2 h0 h1 h2 HKd
      go_wp2_with fail
      go_meet
      exact ⟨by rw [hK.out]; rfl, rfl⟩
    have e2 : (p.k != 2) = true := by simpa using h2
    have x2 : (p.k == 2) = false := by simpa using h2
    by_cases h3 : p.k = 6
    · have e3 : (p.k != 6) = false := by simpa using h3
      have x3 : (p.k == 6) = true := by simpa using h3
      have hK : Hid (K = true) := Lib.hid (by rw [HKd.out, x0, x1, x2, x3]; rfl)
      clear x0 x1 x2 x3 h0 h1 h2 h3 HKd
      go_wp2_with fail
      go_meet
      exact ⟨by rw [hK.out]; rfl, rfl⟩
    have e3 : (p.k != 6) = true := by simpa using h3
    have x3 : (p.k == 6) = false := by simpa using h3
    have hK : Hid (K = false) := Lib.hid (by rw [HKd.out, x0, x1, x2, x3]; rfl)
    clear x0 x1 x2 x3 h0 h1 h2 h3 HKd
    go_wp2_with fail
    go_meet
    exact ⟨by rw [hK.out]; rfl, rfl⟩
  case rest =>
  obtain ⟨rfl, rfl⟩ := hcut
  generalize wc = W0 at *
  have c0 := K1.cell 0
  have c1 := K1.cell 1
  cases K with
  | false =>
    have HZ : Hid (E = 12) := Lib.hid (by rw [HR.out]; simp)
    have HQ := Lib.hid (HN.out (by rw [HZ.out]; first | decide | assumption))
    have H1 : (#[.int .i64 0, .int .i64 0, .int .i64 0, .int .u64 0, .int .i64 0, .int .u64 0, .slice none 0 0, .slice none 0 0, .int .i64 0, .slice none 0 0, .slice none 0 0, .int .u64 0, .bool false, .int .i64 0, .int .i64 0] : Array Value).all (·.oneCell') = true := by rw [← Array.all_toList]; rfl
    go_wp2_with (first | (refine wpList_store_row rfl 33 (.tmp 4) _ rfl (w.heap.size + 1) #[.int .i64 0, .int .i64 0, .int .i64 0, .int .u64 0, .int .i64 0, .int .u64 0, .slice none 0 0, .slice none 0 0, .int .i64 0, .slice none 0 0, .slice none 0 0, .int .u64 0, .bool false, .int .i64 0, .int .i64 0] rfl rfl 33 _ K2 (by kernel_rfl) rfl H1 ?_))
    have KR : Blk (W0.setRow (w.heap.size + 1) #[.int .i64 0, .int .i64 0, .int .i64 0, .int .u64 0, .int .i64 0, .int .u64 0, .slice none 0 0, .slice none 0 0, .int .i64 0, .slice none 0 0, .slice none 0 0, .int .u64 0, .bool false, .int .i64 0, .int .i64 0]) (w.heap.size + 1) 33 #[.int .i64 0, .int .i64 0, .int .i64 0, .int .u64 0, .int .i64 0, .int .u64 0, .slice none 0 0, .slice none 0 0, .int .i64 0, .slice none 0 0, .slice none 0 0, .int .u64 0, .bool false, .int .i64 0, .int .i64 0] := bset_row K2
    have BE := below_setRow BX (Nat.le_succ _) #[.int .i64 0, .int .i64 0, .int .i64 0, .int .u64 0, .int .i64 0, .int .u64 0, .slice none 0 0, .slice none 0 0, .int .i64 0, .slice none 0 0, .slice none 0 0, .int .u64 0, .bool false, .int .i64 0, .int .i64 0]
    generalize W0.setRow (w.heap.size + 1) #[.int .i64 0, .int .i64 0, .int .i64 0, .int .u64 0, .int .i64 0, .int .u64 0, .slice none 0 0, .slice none 0 0, .int .i64 0, .slice none 0 0, .slice none 0 0, .int .u64 0, .bool false, .int .i64 0, .int .i64 0] = Y at *
    refine bodyPost_ret (v := .tuple #[.agg #[.int .i64 0, .int .i64 0, .int .i64 0, .int .u64 0, .int .i64 0, .int .u64 0, .slice none 0 0, .slice none 0 0, .int .i64 0, .slice none 0 0, .slice none 0 0, .int .u64 0, .bool false, .int .i64 0, .int .i64 0], .int .i64 12]) ?_ rfl ⟨.slice none 0 0, .slice none 0 0, .slice none 0 0, .slice none 0 0, by rw [HQ.out, HZ.out]; try rfl, by rw [HQ.out]; exact has_zero _ _, BE⟩
    have HL := run_loadVar_row (P := Tryd.prog) Y (w.heap.size + 1) 33 33 #[.int .i64 0, .int .i64 0, .int .i64 0, .int .u64 0, .int .i64 0, .int .u64 0, .slice none 0 0, .slice none 0 0, .int .i64 0, .slice none 0 0, .slice none 0 0, .int .u64 0, .bool false, .int .i64 0, .int .i64 0] (0, 0) _ KR Tryd.underlying33 rfl (by kernel_rfl)
    generalize (#[.int .i64 0, .int .i64 0, .int .i64 0, .int .u64 0, .int .i64 0, .int .u64 0, .slice none 0 0, .slice none 0 0, .int .i64 0, .slice none 0 0, .slice none 0 0, .int .u64 0, .bool false, .int .i64 0, .int .i64 0] : Array Value) = CS at *
    simp [results, show (Tryd.f16).results = #[.cell 4 33, .slot 5] from rfl, asAddr, HL, Act.put]
  | true =>
  by_cases h1 : p.it < 32
  · skip
    have HZ : Hid (E = 5) := Lib.hid (by rw [HR.out]; simp [h1])
    have HQ := Lib.hid (HN.out (by rw [HZ.out]; first | decide | assumption))
    have H1 : (#[.int .i64 0, .int .i64 0, .int .i64 0, .int .u64 0, .int .i64 0, .int .u64 0, .slice none 0 0, .slice none 0 0, .int .i64 0, .slice none 0 0, .slice none 0 0, .int .u64 0, .bool false, .int .i64 0, .int .i64 0] : Array Value).all (·.oneCell') = true := by rw [← Array.all_toList]; rfl
    go_wp2_with (first | (refine wpList_store_row rfl 33 (.tmp 4) _ rfl (w.heap.size + 1) #[.int .i64 0, .int .i64 0, .int .i64 0, .int .u64 0, .int .i64 0, .int .u64 0, .slice none 0 0, .slice none 0 0, .int .i64 0, .slice none 0 0, .slice none 0 0, .int .u64 0, .bool false, .int .i64 0, .int .i64 0] rfl rfl 33 _ K2 (by kernel_rfl) rfl H1 ?_))
    have KR : Blk (W0.setRow (w.heap.size + 1) #[.int .i64 0, .int .i64 0, .int .i64 0, .int .u64 0, .int .i64 0, .int .u64 0, .slice none 0 0, .slice none 0 0, .int .i64 0, .slice none 0 0, .slice none 0 0, .int .u64 0, .bool false, .int .i64 0, .int .i64 0]) (w.heap.size + 1) 33 #[.int .i64 0, .int .i64 0, .int .i64 0, .int .u64 0, .int .i64 0, .int .u64 0, .slice none 0 0, .slice none 0 0, .int .i64 0, .slice none 0 0, .slice none 0 0, .int .u64 0, .bool false, .int .i64 0, .int .i64 0] := bset_row K2
    have BE := below_setRow BX (Nat.le_succ _) #[.int .i64 0, .int .i64 0, .int .i64 0, .int .u64 0, .int .i64 0, .int .u64 0, .slice none 0 0, .slice none 0 0, .int .i64 0, .slice none 0 0, .slice none 0 0, .int .u64 0, .bool false, .int .i64 0, .int .i64 0]
    generalize W0.setRow (w.heap.size + 1) #[.int .i64 0, .int .i64 0, .int .i64 0, .int .u64 0, .int .i64 0, .int .u64 0, .slice none 0 0, .slice none 0 0, .int .i64 0, .slice none 0 0, .slice none 0 0, .int .u64 0, .bool false, .int .i64 0, .int .i64 0] = Y at *
    refine bodyPost_ret (v := .tuple #[.agg #[.int .i64 0, .int .i64 0, .int .i64 0, .int .u64 0, .int .i64 0, .int .u64 0, .slice none 0 0, .slice none 0 0, .int .i64 0, .slice none 0 0, .slice none 0 0, .int .u64 0, .bool false, .int .i64 0, .int .i64 0], .int .i64 5]) ?_ rfl ⟨.slice none 0 0, .slice none 0 0, .slice none 0 0, .slice none 0 0, by rw [HQ.out, HZ.out]; try rfl, by rw [HQ.out]; exact has_zero _ _, BE⟩
    have HL := run_loadVar_row (P := Tryd.prog) Y (w.heap.size + 1) 33 33 #[.int .i64 0, .int .i64 0, .int .i64 0, .int .u64 0, .int .i64 0, .int .u64 0, .slice none 0 0, .slice none 0 0, .int .i64 0, .slice none 0 0, .slice none 0 0, .int .u64 0, .bool false, .int .i64 0, .int .i64 0] (0, 0) _ KR Tryd.underlying33 rfl (by kernel_rfl)
    generalize (#[.int .i64 0, .int .i64 0, .int .i64 0, .int .u64 0, .int .i64 0, .int .u64 0, .slice none 0 0, .slice none 0 0, .int .i64 0, .slice none 0 0, .slice none 0 0, .int .u64 0, .bool false, .int .i64 0, .int .i64 0] : Array Value) = CS at *
    simp [results, show (Tryd.f16).results = #[.cell 4 33, .slot 5] from rfl, asAddr, HL, Act.put]
  by_cases h2 : 16384 < p.it
  · skip
    have HZ : Hid (E = 5) := Lib.hid (by rw [HR.out]; simp [h2])
    have HQ := Lib.hid (HN.out (by rw [HZ.out]; first | decide | assumption))
    have H1 : (#[.int .i64 0, .int .i64 0, .int .i64 0, .int .u64 0, .int .i64 0, .int .u64 0, .slice none 0 0, .slice none 0 0, .int .i64 0, .slice none 0 0, .slice none 0 0, .int .u64 0, .bool false, .int .i64 0, .int .i64 0] : Array Value).all (·.oneCell') = true := by rw [← Array.all_toList]; rfl
    go_wp2_with (first | (refine wpList_store_row rfl 33 (.tmp 4) _ rfl (w.heap.size + 1) #[.int .i64 0, .int .i64 0, .int .i64 0, .int .u64 0, .int .i64 0, .int .u64 0, .slice none 0 0, .slice none 0 0, .int .i64 0, .slice none 0 0, .slice none 0 0, .int .u64 0, .bool false, .int .i64 0, .int .i64 0] rfl rfl 33 _ K2 (by kernel_rfl) rfl H1 ?_))
    have KR : Blk (W0.setRow (w.heap.size + 1) #[.int .i64 0, .int .i64 0, .int .i64 0, .int .u64 0, .int .i64 0, .int .u64 0, .slice none 0 0, .slice none 0 0, .int .i64 0, .slice none 0 0, .slice none 0 0, .int .u64 0, .bool false, .int .i64 0, .int .i64 0]) (w.heap.size + 1) 33 #[.int .i64 0, .int .i64 0, .int .i64 0, .int .u64 0, .int .i64 0, .int .u64 0, .slice none 0 0, .slice none 0 0, .int .i64 0, .slice none 0 0, .slice none 0 0, .int .u64 0, .bool false, .int .i64 0, .int .i64 0] := bset_row K2
    have BE := below_setRow BX (Nat.le_succ _) #[.int .i64 0, .int .i64 0, .int .i64 0, .int .u64 0, .int .i64 0, .int .u64 0, .slice none 0 0, .slice none 0 0, .int .i64 0, .slice none 0 0, .slice none 0 0, .int .u64 0, .bool false, .int .i64 0, .int .i64 0]
    generalize W0.setRow (w.heap.size + 1) #[.int .i64 0, .int .i64 0, .int .i64 0, .int .u64 0, .int .i64 0, .int .u64 0, .slice none 0 0, .slice none 0 0, .int .i64 0, .slice none 0 0, .slice none 0 0, .int .u64 0, .bool false, .int .i64 0, .int .i64 0] = Y at *
    refine bodyPost_ret (v := .tuple #[.agg #[.int .i64 0, .int .i64 0, .int .i64 0, .int .u64 0, .int .i64 0, .int .u64 0, .slice none 0 0, .slice none 0 0, .int .i64 0, .slice none 0 0, .slice none 0 0, .int .u64 0, .bool false, .int .i64 0, .int .i64 0], .int .i64 5]) ?_ rfl ⟨.slice none 0 0, .slice none 0 0, .slice none 0 0, .slice none 0 0, by rw [HQ.out, HZ.out]; try rfl, by rw [HQ.out]; exact has_zero _ _, BE⟩
    have HL := run_loadVar_row (P := Tryd.prog) Y (w.heap.size + 1) 33 33 #[.int .i64 0, .int .i64 0, .int .i64 0, .int .u64 0, .int .i64 0, .int .u64 0, .slice none 0 0, .slice none 0 0, .int .i64 0, .slice none 0 0, .slice none 0 0, .int .u64 0, .bool false, .int .i64 0, .int .i64 0] (0, 0) _ KR Tryd.underlying33 rfl (by kernel_rfl)
    generalize (#[.int .i64 0, .int .i64 0, .int .i64 0, .int .u64 0, .int .i64 0, .int .u64 0, .slice none 0 0, .slice none 0 0, .int .i64 0, .slice none 0 0, .slice none 0 0, .int .u64 0, .bool false, .int .i64 0, .int .i64 0] : Array Value) = CS at *
    simp [results, show (Tryd.f16).results = #[.cell 4 33, .slot 5] from rfl, asAddr, HL, Act.put]
  have HQ1 : Hid (E = if ¬ E1 = 0 then E1 else if ¬ E3 = 0 then E3 else if p.po < 0 ∨ 3 < p.po then 5 else if 64 < na ∨ 64 < ni then 4 else 0) := Lib.hid (by rw [HR.out, if_neg (by simp), if_neg (by omega)])
  go_wp2_with (refine wpList_load_row rfl 29 (.tmp 2) rfl (w.heap.size) rfl 29 _ (0, 0) _ K1 Tryd.underlying29 rfl (by kernel_rfl) ?_)
  clear h1 h2 c0 c1 HR
  refine (HP.out _ BX).mono ?_
  rintro e W1 ⟨V1, rfl, R1, b1⟩
  replace BX := thenB BX b1
  replace K1 := K1.below b1 K1.lt
  replace K2 := K2.below b1 K2.lt
  clear b1
  go_wp2_with fail
  refine (HK.out _ _ _ R1).mono ?_
  rintro e W2 ⟨rfl, b2⟩
  replace BX := thenB BX b2
  replace K1 := K1.below b2 K1.lt
  replace K2 := K2.below b2 K2.lt
  clear b2
  clear R1
  by_cases h3 : E1 = 0
  · have HQ2 : Hid (E = if ¬ E3 = 0 then E3 else if p.po < 0 ∨ 3 < p.po then 5 else if 64 < na ∨ 64 < ni then 4 else 0) := Lib.hid (by rw [HQ1.out, if_neg (by simp [h3])])
    subst h3
    have c0 := K1.cell 0
    go_wp2_with fail
    refine (HS.out _).mono ?_
    rintro e w3 ⟨rfl, rfl⟩
    clear c0
    have OKK : Hid (E3 = 0 → E = if p.po < 0 ∨ 3 < p.po then 5 else if 64 < na ∨ 64 < ni then 4 else 0) := Lib.hid (fun h => by rw [HQ2.out, if_neg (by simp [h])])
    have BAD : Hid (¬ E3 = 0 → E = E3) := Lib.hid (fun h => by rw [HQ2.out, if_pos h])
    clear HQ1 HQ2
    cases S with
    | true =>
      have HS1 : Hid (E3 = E2) := Lib.hid (by rw [HSE.out]; simp)
      clear HSE
      go_wp2_with (refine wpList_load_row rfl 29 (.tmp 2) rfl (w.heap.size) rfl 29 _ (0, 0) _ K1 Tryd.underlying29 rfl (by kernel_rfl) ?_)
      refine (HA.out _ BX).mono ?_
      rintro e W3 ⟨V2, rfl, R2, b3⟩
      replace BX := thenB BX b3
      replace K1 := K1.below b3 K1.lt
      replace K2 := K2.below b3 K2.lt
      clear b3
      go_wp2_with fail
      refine (HK2.out _ _ _ R2).mono ?_
      rintro e W4 ⟨rfl, b4⟩
      replace BX := thenB BX b4
      replace K1 := K1.below b4 K1.lt
      replace K2 := K2.below b4 K2.lt
      clear b4
      clear R2
      by_cases h4 : E2 = 0
      · have HT := Lib.hid (OKK.out (by rw [HS1.out, h4]))
        subst h4
        clear OKK BAD HS1
        have c8 := K1.cell 8
        have c9 := K1.cell 9
        have c10 := K1.cell 10
        by_cases h5 : p.po < 0
        · have HZ : Hid (E = 5) := Lib.hid (by rw [HT.out, if_pos (.inl h5)])
          have HQ := Lib.hid (HN.out (by rw [HZ.out]; decide))
          have H1 : (#[.int .i64 0, .int .i64 0, .int .i64 0, .int .u64 0, .int .i64 0, .int .u64 0, .slice none 0 0, .slice none 0 0, .int .i64 0, .slice none 0 0, .slice none 0 0, .int .u64 0, .bool false, .int .i64 0, .int .i64 0] : Array Value).all (·.oneCell') = true := by rw [← Array.all_toList]; rfl
          go_wp2_with (first | (refine wpList_store_row rfl 33 (.tmp 4) _ rfl (w.heap.size + 1) #[.int .i64 0, .int .i64 0, .int .i64 0, .int .u64 0, .int .i64 0, .int .u64 0, .slice none 0 0, .slice none 0 0, .int .i64 0, .slice none 0 0, .slice none 0 0, .int .u64 0, .bool false, .int .i64 0, .int .i64 0] rfl rfl 33 _ K2 (by kernel_rfl) rfl H1 ?_))
          have KR : Blk (W4.setRow (w.heap.size + 1) #[.int .i64 0, .int .i64 0, .int .i64 0, .int .u64 0, .int .i64 0, .int .u64 0, .slice none 0 0, .slice none 0 0, .int .i64 0, .slice none 0 0, .slice none 0 0, .int .u64 0, .bool false, .int .i64 0, .int .i64 0]) (w.heap.size + 1) 33 #[.int .i64 0, .int .i64 0, .int .i64 0, .int .u64 0, .int .i64 0, .int .u64 0, .slice none 0 0, .slice none 0 0, .int .i64 0, .slice none 0 0, .slice none 0 0, .int .u64 0, .bool false, .int .i64 0, .int .i64 0] := bset_row K2
          have BE := below_setRow BX (Nat.le_succ _) #[.int .i64 0, .int .i64 0, .int .i64 0, .int .u64 0, .int .i64 0, .int .u64 0, .slice none 0 0, .slice none 0 0, .int .i64 0, .slice none 0 0, .slice none 0 0, .int .u64 0, .bool false, .int .i64 0, .int .i64 0]
          generalize W4.setRow (w.heap.size + 1) #[.int .i64 0, .int .i64 0, .int .i64 0, .int .u64 0, .int .i64 0, .int .u64 0, .slice none 0 0, .slice none 0 0, .int .i64 0, .slice none 0 0, .slice none 0 0, .int .u64 0, .bool false, .int .i64 0, .int .i64 0] = Y at *
          refine bodyPost_ret (v := .tuple #[.agg #[.int .i64 0, .int .i64 0, .int .i64 0, .int .u64 0, .int .i64 0, .int .u64 0, .slice none 0 0, .slice none 0 0, .int .i64 0, .slice none 0 0, .slice none 0 0, .int .u64 0, .bool false, .int .i64 0, .int .i64 0], .int .i64 5]) ?_ rfl ⟨.slice none 0 0, .slice none 0 0, .slice none 0 0, .slice none 0 0, by rw [HQ.out, HZ.out]; try rfl, by rw [HQ.out]; exact has_zero _ _, BE⟩
          have HL := run_loadVar_row (P := Tryd.prog) Y (w.heap.size + 1) 33 33 #[.int .i64 0, .int .i64 0, .int .i64 0, .int .u64 0, .int .i64 0, .int .u64 0, .slice none 0 0, .slice none 0 0, .int .i64 0, .slice none 0 0, .slice none 0 0, .int .u64 0, .bool false, .int .i64 0, .int .i64 0] (0, 0) _ KR Tryd.underlying33 rfl (by kernel_rfl)
          generalize (#[.int .i64 0, .int .i64 0, .int .i64 0, .int .u64 0, .int .i64 0, .int .u64 0, .slice none 0 0, .slice none 0 0, .int .i64 0, .slice none 0 0, .slice none 0 0, .int .u64 0, .bool false, .int .i64 0, .int .i64 0] : Array Value) = CS at *
          simp [results, show (Tryd.f16).results = #[.cell 4 33, .slot 5] from rfl, asAddr, HL, Act.put]
        by_cases h6 : 3 < p.po
        · have HZ : Hid (E = 5) := Lib.hid (by rw [HT.out, if_pos (.inr h6)])
          have HQ := Lib.hid (HN.out (by rw [HZ.out]; decide))
          have H1 : (#[.int .i64 0, .int .i64 0, .int .i64 0, .int .u64 0, .int .i64 0, .int .u64 0, .slice none 0 0, .slice none 0 0, .int .i64 0, .slice none 0 0, .slice none 0 0, .int .u64 0, .bool false, .int .i64 0, .int .i64 0] : Array Value).all (·.oneCell') = true := by rw [← Array.all_toList]; rfl
          go_wp2_with (first | (refine wpList_store_row rfl 33 (.tmp 4) _ rfl (w.heap.size + 1) #[.int .i64 0, .int .i64 0, .int .i64 0, .int .u64 0, .int .i64 0, .int .u64 0, .slice none 0 0, .slice none 0 0, .int .i64 0, .slice none 0 0, .slice none 0 0, .int .u64 0, .bool false, .int .i64 0, .int .i64 0] rfl rfl 33 _ K2 (by kernel_rfl) rfl H1 ?_))
          have KR : Blk (W4.setRow (w.heap.size + 1) #[.int .i64 0, .int .i64 0, .int .i64 0, .int .u64 0, .int .i64 0, .int .u64 0, .slice none 0 0, .slice none 0 0, .int .i64 0, .slice none 0 0, .slice none 0 0, .int .u64 0, .bool false, .int .i64 0, .int .i64 0]) (w.heap.size + 1) 33 #[.int .i64 0, .int .i64 0, .int .i64 0, .int .u64 0, .int .i64 0, .int .u64 0, .slice none 0 0, .slice none 0 0, .int .i64 0, .slice none 0 0, .slice none 0 0, .int .u64 0, .bool false, .int .i64 0, .int .i64 0] := bset_row K2
          have BE := below_setRow BX (Nat.le_succ _) #[.int .i64 0, .int .i64 0, .int .i64 0, .int .u64 0, .int .i64 0, .int .u64 0, .slice none 0 0, .slice none 0 0, .int .i64 0, .slice none 0 0, .slice none 0 0, .int .u64 0, .bool false, .int .i64 0, .int .i64 0]
          generalize W4.setRow (w.heap.size + 1) #[.int .i64 0, .int .i64 0, .int .i64 0, .int .u64 0, .int .i64 0, .int .u64 0, .slice none 0 0, .slice none 0 0, .int .i64 0, .slice none 0 0, .slice none 0 0, .int .u64 0, .bool false, .int .i64 0, .int .i64 0] = Y at *
          refine bodyPost_ret (v := .tuple #[.agg #[.int .i64 0, .int .i64 0, .int .i64 0, .int .u64 0, .int .i64 0, .int .u64 0, .slice none 0 0, .slice none 0 0, .int .i64 0, .slice none 0 0, .slice none 0 0, .int .u64 0, .bool false, .int .i64 0, .int .i64 0], .int .i64 5]) ?_ rfl ⟨.slice none 0 0, .slice none 0 0, .slice none 0 0, .slice none 0 0, by rw [HQ.out, HZ.out]; try rfl, by rw [HQ.out]; exact has_zero _ _, BE⟩
          have HL := run_loadVar_row (P := Tryd.prog) Y (w.heap.size + 1) 33 33 #[.int .i64 0, .int .i64 0, .int .i64 0, .int .u64 0, .int .i64 0, .int .u64 0, .slice none 0 0, .slice none 0 0, .int .i64 0, .slice none 0 0, .slice none 0 0, .int .u64 0, .bool false, .int .i64 0, .int .i64 0] (0, 0) _ KR Tryd.underlying33 rfl (by kernel_rfl)
          generalize (#[.int .i64 0, .int .i64 0, .int .i64 0, .int .u64 0, .int .i64 0, .int .u64 0, .slice none 0 0, .slice none 0 0, .int .i64 0, .slice none 0 0, .slice none 0 0, .int .u64 0, .bool false, .int .i64 0, .int .i64 0] : Array Value) = CS at *
          simp [results, show (Tryd.f16).results = #[.cell 4 33, .slot 5] from rfl, asAddr, HL, Act.put]
        have HT2 : Hid (E = if 64 < na ∨ 64 < ni then 4 else 0) := Lib.hid (by rw [HT.out, if_neg (by omega)])
        by_cases h7 : 64 < na
        · have g7 : (64 : Int) < (na : Int) := by omega
          have HZ : Hid (E = 4) := Lib.hid (by rw [HT2.out, if_pos (.inl h7)])
          have HQ := Lib.hid (HN.out (by rw [HZ.out]; decide))
          have H1 : (#[.int .i64 0, .int .i64 0, .int .i64 0, .int .u64 0, .int .i64 0, .int .u64 0, .slice none 0 0, .slice none 0 0, .int .i64 0, .slice none 0 0, .slice none 0 0, .int .u64 0, .bool false, .int .i64 0, .int .i64 0] : Array Value).all (·.oneCell') = true := by rw [← Array.all_toList]; rfl
          go_wp2_with (first | (refine wpList_store_row rfl 33 (.tmp 4) _ rfl (w.heap.size + 1) #[.int .i64 0, .int .i64 0, .int .i64 0, .int .u64 0, .int .i64 0, .int .u64 0, .slice none 0 0, .slice none 0 0, .int .i64 0, .slice none 0 0, .slice none 0 0, .int .u64 0, .bool false, .int .i64 0, .int .i64 0] rfl rfl 33 _ K2 (by kernel_rfl) rfl H1 ?_))
          have KR : Blk (W4.setRow (w.heap.size + 1) #[.int .i64 0, .int .i64 0, .int .i64 0, .int .u64 0, .int .i64 0, .int .u64 0, .slice none 0 0, .slice none 0 0, .int .i64 0, .slice none 0 0, .slice none 0 0, .int .u64 0, .bool false, .int .i64 0, .int .i64 0]) (w.heap.size + 1) 33 #[.int .i64 0, .int .i64 0, .int .i64 0, .int .u64 0, .int .i64 0, .int .u64 0, .slice none 0 0, .slice none 0 0, .int .i64 0, .slice none 0 0, .slice none 0 0, .int .u64 0, .bool false, .int .i64 0, .int .i64 0] := bset_row K2
          have BE := below_setRow BX (Nat.le_succ _) #[.int .i64 0, .int .i64 0, .int .i64 0, .int .u64 0, .int .i64 0, .int .u64 0, .slice none 0 0, .slice none 0 0, .int .i64 0, .slice none 0 0, .slice none 0 0, .int .u64 0, .bool false, .int .i64 0, .int .i64 0]
          generalize W4.setRow (w.heap.size + 1) #[.int .i64 0, .int .i64 0, .int .i64 0, .int .u64 0, .int .i64 0, .int .u64 0, .slice none 0 0, .slice none 0 0, .int .i64 0, .slice none 0 0, .slice none 0 0, .int .u64 0, .bool false, .int .i64 0, .int .i64 0] = Y at *
          refine bodyPost_ret (v := .tuple #[.agg #[.int .i64 0, .int .i64 0, .int .i64 0, .int .u64 0, .int .i64 0, .int .u64 0, .slice none 0 0, .slice none 0 0, .int .i64 0, .slice none 0 0, .slice none 0 0, .int .u64 0, .bool false, .int .i64 0, .int .i64 0], .int .i64 4]) ?_ rfl ⟨.slice none 0 0, .slice none 0 0, .slice none 0 0, .slice none 0 0, by rw [HQ.out, HZ.out]; try rfl, by rw [HQ.out]; exact has_zero _ _, BE⟩
          have HL := run_loadVar_row (P := Tryd.prog) Y (w.heap.size + 1) 33 33 #[.int .i64 0, .int .i64 0, .int .i64 0, .int .u64 0, .int .i64 0, .int .u64 0, .slice none 0 0, .slice none 0 0, .int .i64 0, .slice none 0 0, .slice none 0 0, .int .u64 0, .bool false, .int .i64 0, .int .i64 0] (0, 0) _ KR Tryd.underlying33 rfl (by kernel_rfl)
          generalize (#[.int .i64 0, .int .i64 0, .int .i64 0, .int .u64 0, .int .i64 0, .int .u64 0, .slice none 0 0, .slice none 0 0, .int .i64 0, .slice none 0 0, .slice none 0 0, .int .u64 0, .bool false, .int .i64 0, .int .i64 0] : Array Value) = CS at *
          simp [results, show (Tryd.f16).results = #[.cell 4 33, .slot 5] from rfl, asAddr, HL, Act.put]
        have g7 : ¬ (64 : Int) < (na : Int) := by omega
        by_cases h8 : 64 < ni
        · have g8 : (64 : Int) < (ni : Int) := by omega
          have HZ : Hid (E = 4) := Lib.hid (by rw [HT2.out, if_pos (.inr h8)])
          have HQ := Lib.hid (HN.out (by rw [HZ.out]; decide))
          have H1 : (#[.int .i64 0, .int .i64 0, .int .i64 0, .int .u64 0, .int .i64 0, .int .u64 0, .slice none 0 0, .slice none 0 0, .int .i64 0, .slice none 0 0, .slice none 0 0, .int .u64 0, .bool false, .int .i64 0, .int .i64 0] : Array Value).all (·.oneCell') = true := by rw [← Array.all_toList]; rfl
          go_wp2_with (first | (refine wpList_store_row rfl 33 (.tmp 4) _ rfl (w.heap.size + 1) #[.int .i64 0, .int .i64 0, .int .i64 0, .int .u64 0, .int .i64 0, .int .u64 0, .slice none 0 0, .slice none 0 0, .int .i64 0, .slice none 0 0, .slice none 0 0, .int .u64 0, .bool false, .int .i64 0, .int .i64 0] rfl rfl 33 _ K2 (by kernel_rfl) rfl H1 ?_))
          have KR : Blk (W4.setRow (w.heap.size + 1) #[.int .i64 0, .int .i64 0, .int .i64 0, .int .u64 0, .int .i64 0, .int .u64 0, .slice none 0 0, .slice none 0 0, .int .i64 0, .slice none 0 0, .slice none 0 0, .int .u64 0, .bool false, .int .i64 0, .int .i64 0]) (w.heap.size + 1) 33 #[.int .i64 0, .int .i64 0, .int .i64 0, .int .u64 0, .int .i64 0, .int .u64 0, .slice none 0 0, .slice none 0 0, .int .i64 0, .slice none 0 0, .slice none 0 0, .int .u64 0, .bool false, .int .i64 0, .int .i64 0] := bset_row K2
          have BE := below_setRow BX (Nat.le_succ _) #[.int .i64 0, .int .i64 0, .int .i64 0, .int .u64 0, .int .i64 0, .int .u64 0, .slice none 0 0, .slice none 0 0, .int .i64 0, .slice none 0 0, .slice none 0 0, .int .u64 0, .bool false, .int .i64 0, .int .i64 0]
          generalize W4.setRow (w.heap.size + 1) #[.int .i64 0, .int .i64 0, .int .i64 0, .int .u64 0, .int .i64 0, .int .u64 0, .slice none 0 0, .slice none 0 0, .int .i64 0, .slice none 0 0, .slice none 0 0, .int .u64 0, .bool false, .int .i64 0, .int .i64 0] = Y at *
          refine bodyPost_ret (v := .tuple #[.agg #[.int .i64 0, .int .i64 0, .int .i64 0, .int .u64 0, .int .i64 0, .int .u64 0, .slice none 0 0, .slice none 0 0, .int .i64 0, .slice none 0 0, .slice none 0 0, .int .u64 0, .bool false, .int .i64 0, .int .i64 0], .int .i64 4]) ?_ rfl ⟨.slice none 0 0, .slice none 0 0, .slice none 0 0, .slice none 0 0, by rw [HQ.out, HZ.out]; try rfl, by rw [HQ.out]; exact has_zero _ _, BE⟩
          have HL := run_loadVar_row (P := Tryd.prog) Y (w.heap.size + 1) 33 33 #[.int .i64 0, .int .i64 0, .int .i64 0, .int .u64 0, .int .i64 0, .int .u64 0, .slice none 0 0, .slice none 0 0, .int .i64 0, .slice none 0 0, .slice none 0 0, .int .u64 0, .bool false, .int .i64 0, .int .i64 0] (0, 0) _ KR Tryd.underlying33 rfl (by kernel_rfl)
          generalize (#[.int .i64 0, .int .i64 0, .int .i64 0, .int .u64 0, .int .i64 0, .int .u64 0, .slice none 0 0, .slice none 0 0, .int .i64 0, .slice none 0 0, .slice none 0 0, .int .u64 0, .bool false, .int .i64 0, .int .i64 0] : Array Value) = CS at *
          simp [results, show (Tryd.f16).results = #[.cell 4 33, .slot 5] from rfl, asAddr, HL, Act.put]
        have g8 : ¬ (64 : Int) < (ni : Int) := by omega
        have HZ : Hid (E = 0) := Lib.hid (by rw [HT2.out, if_neg (by omega)])
        have HQ := Lib.hid (HO.out HZ.out)
        go_upto_region 18 with (fail)
        clear c8 c9 c10
        have K1' : Blk W4.drew (w.heap.size) 29 #[.int .i64 p.k, .int .i64 p.it, .int .i64 p.ok, .int .u64 p.ob, .int .i64 p.tk, .int .u64 p.tb, VD, .slice AS ns cS, .int .i64 p.po, .slice AA na cA, .slice AI ni cI, .int .u64 p.sd] := Mem.Blk.drew K1
        have K2' : Blk W4.drew (w.heap.size + 1) 33 #[.int .i64 0, .int .i64 0, .int .i64 0, .int .u64 0, .int .i64 0, .int .u64 0, .slice none 0 0, .slice none 0 0, .int .i64 0, .slice none 0 0, .slice none 0 0, .int .u64 0, .bool false, .int .i64 0, .int .i64 0] := Mem.Blk.drew K2
        refine wp_region_held_drew (S := (fun w' => Blk w' (w.heap.size) 29 #[.int .i64 p.k, .int .i64 p.it, .int .i64 p.ok, .int .u64 p.ob, .int .i64 p.tk, .int .u64 p.tb, VD, .slice AS ns cS, .int .i64 p.po, .slice AA na cA, .slice AI ni cI, .int .u64 p.sd])) (by kernel_rfl) ?_ (fun hHeld => ?_)
        · exact K1'
        replace K1 := K1'
        clear K1'
        replace K2 := K2'
        clear K2'
        replace BX : Below w.heap.size w W4.drew := BX.drew
        generalize W4.drew = X0 at *
        refine wpAnyH_take (i := 0) (v := .agg #[.int .i64 p.k, .int .i64 p.it, .int .i64 p.ok, .int .u64 p.ob, .int .i64 p.tk, .int .u64 p.tb, VD, .slice AS ns cS, .int .i64 p.po, .slice AA na cA, .slice AI ni cI, .int .u64 p.sd]) rfl (by kernel_rfl) (by kernel_rfl) (by kernel_rfl) (fun _ _ _ h => h) (Av.yields_part (by first | rfl | go_simp) _ _ rfl (w.heap.size) 0 rfl #[.int .i64 p.k, .int .i64 p.it, .int .i64 p.ok, .int .u64 p.ob, .int .i64 p.tk, .int .u64 p.tb, VD, .slice AS ns cS, .int .i64 p.po, .slice AA na cA, .slice AI ni cI, .int .u64 p.sd] _ 29 #[.int .i64 p.k, .int .i64 p.it, .int .i64 p.ok, .int .u64 p.ob, .int .i64 p.tk, .int .u64 p.tb, VD, .slice AS ns cS, .int .i64 p.po, .slice AA na cA, .slice AI ni cI, .int .u64 p.sd] (fun w9 hSw => hSw) rfl Tryd.underlying29 rfl (by kernel_rfl)) (by assumption) ?_
        simp only [List.getElem_toArray, List.getElem_cons_zero, List.getElem_cons_succ, Act.put, List.setIfInBounds_toArray, List.set_cons_zero, List.set_cons_succ]
        refine wpAnyH_take (i := 1) (v := .int .i64 l) rfl (by kernel_rfl) (by kernel_rfl) (by kernel_rfl) (fun _ _ _ h => h) (Or.inl ⟨by first | rfl | go_simp, by intro w9 hSw; (try dsimp only at hSw); go_simp⟩) (by assumption) ?_
        simp only [List.getElem_toArray, List.getElem_cons_zero, List.getElem_cons_succ, Act.put, List.setIfInBounds_toArray, List.set_cons_zero, List.set_cons_succ]
        refine wpAnyH_ready (rs := [2]) (by kernel_rfl) (by simp) ?_
        refine AllReadyH.cons rfl (fun K hK => ?_) (AllReadyH.nil)
        go_simp
        refine (HM.out X0).mono ?_
        rintro e X1 ⟨rfl, rfl⟩
        refine hK.out _ _ K1 (fun hHeld => ?_)
        clear hK K
        try simp only [List.getElem_toArray, List.getElem_cons_zero, List.getElem_cons_succ, Act.put, List.setIfInBounds_toArray, List.set_cons_zero, List.set_cons_succ]
        refine wpAnyH_take (i := 3) (v := .agg #[.int .i64 p.k, .int .i64 p.it, .int .i64 p.ok, .int .u64 p.ob, .int .i64 p.tk, .int .u64 p.tb, VD, .slice AS ns cS, .int .i64 p.po, .slice AA na cA, .slice AI ni cI, .int .u64 p.sd, .bool true, .int .i64 0, .int .i64 L]) rfl (by kernel_rfl) (by kernel_rfl) (by kernel_rfl) (fun _ _ _ h => h) (Av.yields_build (by first | rfl | go_simp) _ _ rfl #[.int .i64 p.k, .int .i64 p.it, .int .i64 p.ok, .int .u64 p.ob, .int .i64 p.tk, .int .u64 p.tb, VD, .slice AS ns cS, .int .i64 p.po, .slice AA na cA, .slice AI ni cI, .int .u64 p.sd, .bool true, .int .i64 0, .int .i64 L] (by kernel_rfl)) (by assumption) ?_
        simp only [List.getElem_toArray, List.getElem_cons_zero, List.getElem_cons_succ, Act.put, List.setIfInBounds_toArray, List.set_cons_zero, List.set_cons_succ]
        refine wpAnyH_ready (rs := [4]) (by kernel_rfl) (by simp) ?_
        refine AllReadyH.cons rfl (fun K hK => ?_) (AllReadyH.nil)
        have H9 : (#[.int .i64 p.k, .int .i64 p.it, .int .i64 p.ok, .int .u64 p.ob, .int .i64 p.tk, .int .u64 p.tb, VD, .slice AS ns cS, .int .i64 p.po, .slice AA na cA, .slice AI ni cI, .int .u64 p.sd, .bool true, .int .i64 0, .int .i64 L] : Array Value).all (·.oneCell') = true := by rw [← Array.all_toList]; simp only [List.all_cons, List.all_nil, oVD, Bool.and_true, Bool.and_self]; rfl
        refine Av.step_store_row rfl 33 (.tmp 4) (.tmp 81) rfl (w.heap.size + 1) #[.int .i64 p.k, .int .i64 p.it, .int .i64 p.ok, .int .u64 p.ob, .int .i64 p.tk, .int .u64 p.tb, VD, .slice AS ns cS, .int .i64 p.po, .slice AA na cA, .slice AI ni cI, .int .u64 p.sd, .bool true, .int .i64 0, .int .i64 L] rfl rfl 33 _ K2 (by kernel_rfl) rfl H9 ?_
        replace K1 : Blk (X0.setRow (w.heap.size + 1) #[.int .i64 p.k, .int .i64 p.it, .int .i64 p.ok, .int .u64 p.ob, .int .i64 p.tk, .int .u64 p.tb, VD, .slice AS ns cS, .int .i64 p.po, .slice AA na cA, .slice AI ni cI, .int .u64 p.sd, .bool true, .int .i64 0, .int .i64 L]) (w.heap.size) 29 #[.int .i64 p.k, .int .i64 p.it, .int .i64 p.ok, .int .u64 p.ob, .int .i64 p.tk, .int .u64 p.tb, VD, .slice AS ns cS, .int .i64 p.po, .slice AA na cA, .slice AI ni cI, .int .u64 p.sd] := Av.bother_row K1 (by omega)
        replace K2 : Blk (X0.setRow (w.heap.size + 1) #[.int .i64 p.k, .int .i64 p.it, .int .i64 p.ok, .int .u64 p.ob, .int .i64 p.tk, .int .u64 p.tb, VD, .slice AS ns cS, .int .i64 p.po, .slice AA na cA, .slice AI ni cI, .int .u64 p.sd, .bool true, .int .i64 0, .int .i64 L]) (w.heap.size + 1) 33 #[.int .i64 p.k, .int .i64 p.it, .int .i64 p.ok, .int .u64 p.ob, .int .i64 p.tk, .int .u64 p.tb, VD, .slice AS ns cS, .int .i64 p.po, .slice AA na cA, .slice AI ni cI, .int .u64 p.sd, .bool true, .int .i64 0, .int .i64 L] := Av.bset_row K2
        replace BX : Below w.heap.size w (X0.setRow (w.heap.size + 1) #[.int .i64 p.k, .int .i64 p.it, .int .i64 p.ok, .int .u64 p.ob, .int .i64 p.tk, .int .u64 p.tb, VD, .slice AS ns cS, .int .i64 p.po, .slice AA na cA, .slice AI ni cI, .int .u64 p.sd, .bool true, .int .i64 0, .int .i64 L]) := below_setRow BX (by omega) _
        clear H9
        generalize X0.setRow (w.heap.size + 1) #[.int .i64 p.k, .int .i64 p.it, .int .i64 p.ok, .int .u64 p.ob, .int .i64 p.tk, .int .u64 p.tb, VD, .slice AS ns cS, .int .i64 p.po, .slice AA na cA, .slice AI ni cI, .int .u64 p.sd, .bool true, .int .i64 0, .int .i64 L] = X2 at *
        refine hK.out _ _ K1 (fun hHeld => ?_)
        clear hK K
        try simp only [List.getElem_toArray, List.getElem_cons_zero, List.getElem_cons_succ, Act.put, List.setIfInBounds_toArray, List.set_cons_zero, List.set_cons_succ]
        refine wpAnyH_take (i := 5) (v := .int .i64 0) rfl (by kernel_rfl) (by kernel_rfl) (by kernel_rfl) (fun _ _ _ h => h) (Or.inl ⟨by first | rfl | go_simp, by intro w9 hSw; (try dsimp only at hSw); go_simp⟩) (by assumption) ?_
        simp only [List.getElem_toArray, List.getElem_cons_zero, List.getElem_cons_succ, Act.put, List.setIfInBounds_toArray, List.set_cons_zero, List.set_cons_succ]
        refine wpAnyH_done (by kernel_rfl) ?_ _
        go_wp2_with fail
        refine bodyPost_ret (v := .tuple #[.agg #[.int .i64 p.k, .int .i64 p.it, .int .i64 p.ok, .int .u64 p.ob, .int .i64 p.tk, .int .u64 p.tb, VD, .slice AS ns cS, .int .i64 p.po, .slice AA na cA, .slice AI ni cI, .int .u64 p.sd, .bool true, .int .i64 0, .int .i64 L], .int .i64 0]) ?_ rfl ⟨VD, .slice AS ns cS, .slice AA na cA, .slice AI ni cI, by rw [HQ.out, HZ.out]; try rfl, by rw [HQ.out]; exact HH.out _ BX, BX⟩
        clear hHeld
        have HL := run_loadVar_row (P := Tryd.prog) X2 (w.heap.size + 1) 33 33 #[.int .i64 p.k, .int .i64 p.it, .int .i64 p.ok, .int .u64 p.ob, .int .i64 p.tk, .int .u64 p.tb, VD, .slice AS ns cS, .int .i64 p.po, .slice AA na cA, .slice AI ni cI, .int .u64 p.sd, .bool true, .int .i64 0, .int .i64 L] (0, 0) _ K2 Tryd.underlying33 rfl (by kernel_rfl)
        generalize (#[.int .i64 p.k, .int .i64 p.it, .int .i64 p.ok, .int .u64 p.ob, .int .i64 p.tk, .int .u64 p.tb, VD, .slice AS ns cS, .int .i64 p.po, .slice AA na cA, .slice AI ni cI, .int .u64 p.sd, .bool true, .int .i64 0, .int .i64 L] : Array Value) = CS at *
        simp [results, show (Tryd.f16).results = #[.cell 4 33, .slot 5] from rfl, asAddr, HL, Act.put]
      · have g4 : (E2 != 0) = true := by simpa using h4
        have HZ : Hid (E = E2) := Lib.hid (by rw [BAD.out (by rw [HS1.out]; exact h4), HS1.out])
        have HQ := Lib.hid (HN.out (by rw [HZ.out]; exact h4))
        have H1 : (#[.int .i64 0, .int .i64 0, .int .i64 0, .int .u64 0, .int .i64 0, .int .u64 0, .slice none 0 0, .slice none 0 0, .int .i64 0, .slice none 0 0, .slice none 0 0, .int .u64 0, .bool false, .int .i64 0, .int .i64 0] : Array Value).all (·.oneCell') = true := by rw [← Array.all_toList]; rfl
        go_wp2_with (first | (refine wpList_store_row rfl 33 (.tmp 4) _ rfl (w.heap.size + 1) #[.int .i64 0, .int .i64 0, .int .i64 0, .int .u64 0, .int .i64 0, .int .u64 0, .slice none 0 0, .slice none 0 0, .int .i64 0, .slice none 0 0, .slice none 0 0, .int .u64 0, .bool false, .int .i64 0, .int .i64 0] rfl rfl 33 _ K2 (by kernel_rfl) rfl H1 ?_))
        have KR : Blk (W4.setRow (w.heap.size + 1) #[.int .i64 0, .int .i64 0, .int .i64 0, .int .u64 0, .int .i64 0, .int .u64 0, .slice none 0 0, .slice none 0 0, .int .i64 0, .slice none 0 0, .slice none 0 0, .int .u64 0, .bool false, .int .i64 0, .int .i64 0]) (w.heap.size + 1) 33 #[.int .i64 0, .int .i64 0, .int .i64 0, .int .u64 0, .int .i64 0, .int .u64 0, .slice none 0 0, .slice none 0 0, .int .i64 0, .slice none 0 0, .slice none 0 0, .int .u64 0, .bool false, .int .i64 0, .int .i64 0] := bset_row K2
        have BE := below_setRow BX (Nat.le_succ _) #[.int .i64 0, .int .i64 0, .int .i64 0, .int .u64 0, .int .i64 0, .int .u64 0, .slice none 0 0, .slice none 0 0, .int .i64 0, .slice none 0 0, .slice none 0 0, .int .u64 0, .bool false, .int .i64 0, .int .i64 0]
        generalize W4.setRow (w.heap.size + 1) #[.int .i64 0, .int .i64 0, .int .i64 0, .int .u64 0, .int .i64 0, .int .u64 0, .slice none 0 0, .slice none 0 0, .int .i64 0, .slice none 0 0, .slice none 0 0, .int .u64 0, .bool false, .int .i64 0, .int .i64 0] = Y at *
        refine bodyPost_ret (v := .tuple #[.agg #[.int .i64 0, .int .i64 0, .int .i64 0, .int .u64 0, .int .i64 0, .int .u64 0, .slice none 0 0, .slice none 0 0, .int .i64 0, .slice none 0 0, .slice none 0 0, .int .u64 0, .bool false, .int .i64 0, .int .i64 0], .int .i64 E2]) ?_ rfl ⟨.slice none 0 0, .slice none 0 0, .slice none 0 0, .slice none 0 0, by rw [HQ.out, HZ.out]; try rfl, by rw [HQ.out]; exact has_zero _ _, BE⟩
        have HL := run_loadVar_row (P := Tryd.prog) Y (w.heap.size + 1) 33 33 #[.int .i64 0, .int .i64 0, .int .i64 0, .int .u64 0, .int .i64 0, .int .u64 0, .slice none 0 0, .slice none 0 0, .int .i64 0, .slice none 0 0, .slice none 0 0, .int .u64 0, .bool false, .int .i64 0, .int .i64 0] (0, 0) _ KR Tryd.underlying33 rfl (by kernel_rfl)
        generalize (#[.int .i64 0, .int .i64 0, .int .i64 0, .int .u64 0, .int .i64 0, .int .u64 0, .slice none 0 0, .slice none 0 0, .int .i64 0, .slice none 0 0, .slice none 0 0, .int .u64 0, .bool false, .int .i64 0, .int .i64 0] : Array Value) = CS at *
        simp [results, show (Tryd.f16).results = #[.cell 4 33, .slot 5] from rfl, asAddr, HL, Act.put]
    | false =>
      have c7 := K1.cell 7
      by_cases h0 : 0 < ns
      · have g0 : (0 : Int) < (ns : Int) := by omega
        have HZ : Hid (E = 1) := Lib.hid (by have h9 : E3 = 1 := by (rw [HSE.out]; simp [h0])
                                             rw [BAD.out (by rw [h9]; decide), h9])
        have HQ := Lib.hid (HN.out (by rw [HZ.out]; decide))
        have H1 : (#[.int .i64 0, .int .i64 0, .int .i64 0, .int .u64 0, .int .i64 0, .int .u64 0, .slice none 0 0, .slice none 0 0, .int .i64 0, .slice none 0 0, .slice none 0 0, .int .u64 0, .bool false, .int .i64 0, .int .i64 0] : Array Value).all (·.oneCell') = true := by rw [← Array.all_toList]; rfl
        go_wp2_with (first | (refine wpList_store_row rfl 33 (.tmp 4) _ rfl (w.heap.size + 1) #[.int .i64 0, .int .i64 0, .int .i64 0, .int .u64 0, .int .i64 0, .int .u64 0, .slice none 0 0, .slice none 0 0, .int .i64 0, .slice none 0 0, .slice none 0 0, .int .u64 0, .bool false, .int .i64 0, .int .i64 0] rfl rfl 33 _ K2 (by kernel_rfl) rfl H1 ?_))
        have KR : Blk (W2.setRow (w.heap.size + 1) #[.int .i64 0, .int .i64 0, .int .i64 0, .int .u64 0, .int .i64 0, .int .u64 0, .slice none 0 0, .slice none 0 0, .int .i64 0, .slice none 0 0, .slice none 0 0, .int .u64 0, .bool false, .int .i64 0, .int .i64 0]) (w.heap.size + 1) 33 #[.int .i64 0, .int .i64 0, .int .i64 0, .int .u64 0, .int .i64 0, .int .u64 0, .slice none 0 0, .slice none 0 0, .int .i64 0, .slice none 0 0, .slice none 0 0, .int .u64 0, .bool false, .int .i64 0, .int .i64 0] := bset_row K2
        have BE := below_setRow BX (Nat.le_succ _) #[.int .i64 0, .int .i64 0, .int .i64 0, .int .u64 0, .int .i64 0, .int .u64 0, .slice none 0 0, .slice none 0 0, .int .i64 0, .slice none 0 0, .slice none 0 0, .int .u64 0, .bool false, .int .i64 0, .int .i64 0]
        generalize W2.setRow (w.heap.size + 1) #[.int .i64 0, .int .i64 0, .int .i64 0, .int .u64 0, .int .i64 0, .int .u64 0, .slice none 0 0, .slice none 0 0, .int .i64 0, .slice none 0 0, .slice none 0 0, .int .u64 0, .bool false, .int .i64 0, .int .i64 0] = Y at *
        refine bodyPost_ret (v := .tuple #[.agg #[.int .i64 0, .int .i64 0, .int .i64 0, .int .u64 0, .int .i64 0, .int .u64 0, .slice none 0 0, .slice none 0 0, .int .i64 0, .slice none 0 0, .slice none 0 0, .int .u64 0, .bool false, .int .i64 0, .int .i64 0], .int .i64 1]) ?_ rfl ⟨.slice none 0 0, .slice none 0 0, .slice none 0 0, .slice none 0 0, by rw [HQ.out, HZ.out]; try rfl, by rw [HQ.out]; exact has_zero _ _, BE⟩
        have HL := run_loadVar_row (P := Tryd.prog) Y (w.heap.size + 1) 33 33 #[.int .i64 0, .int .i64 0, .int .i64 0, .int .u64 0, .int .i64 0, .int .u64 0, .slice none 0 0, .slice none 0 0, .int .i64 0, .slice none 0 0, .slice none 0 0, .int .u64 0, .bool false, .int .i64 0, .int .i64 0] (0, 0) _ KR Tryd.underlying33 rfl (by kernel_rfl)
        generalize (#[.int .i64 0, .int .i64 0, .int .i64 0, .int .u64 0, .int .i64 0, .int .u64 0, .slice none 0 0, .slice none 0 0, .int .i64 0, .slice none 0 0, .slice none 0 0, .int .u64 0, .bool false, .int .i64 0, .int .i64 0] : Array Value) = CS at *
        simp [results, show (Tryd.f16).results = #[.cell 4 33, .slot 5] from rfl, asAddr, HL, Act.put]
      · have g0 : ¬ (0 : Int) < (ns : Int) := by omega
        have HT := Lib.hid (OKK.out (by rw [HSE.out]; simp [h0]))
        clear OKK BAD HSE h0
        have c8 := K1.cell 8
        have c9 := K1.cell 9
        have c10 := K1.cell 10
        by_cases h5 : p.po < 0
        · have HZ : Hid (E = 5) := Lib.hid (by rw [HT.out, if_pos (.inl h5)])
          have HQ := Lib.hid (HN.out (by rw [HZ.out]; decide))
          have H1 : (#[.int .i64 0, .int .i64 0, .int .i64 0, .int .u64 0, .int .i64 0, .int .u64 0, .slice none 0 0, .slice none 0 0, .int .i64 0, .slice none 0 0, .slice none 0 0, .int .u64 0, .bool false, .int .i64 0, .int .i64 0] : Array Value).all (·.oneCell') = true := by rw [← Array.all_toList]; rfl
          go_wp2_with (first | (refine wpList_store_row rfl 33 (.tmp 4) _ rfl (w.heap.size + 1) #[.int .i64 0, .int .i64 0, .int .i64 0, .int .u64 0, .int .i64 0, .int .u64 0, .slice none 0 0, .slice none 0 0, .int .i64 0, .slice none 0 0, .slice none 0 0, .int .u64 0, .bool false, .int .i64 0, .int .i64 0] rfl rfl 33 _ K2 (by kernel_rfl) rfl H1 ?_))
          have KR : Blk (W2.setRow (w.heap.size + 1) #[.int .i64 0, .int .i64 0, .int .i64 0, .int .u64 0, .int .i64 0, .int .u64 0, .slice none 0 0, .slice none 0 0, .int .i64 0, .slice none 0 0, .slice none 0 0, .int .u64 0, .bool false, .int .i64 0, .int .i64 0]) (w.heap.size + 1) 33 #[.int .i64 0, .int .i64 0, .int .i64 0, .int .u64 0, .int .i64 0, .int .u64 0, .slice none 0 0, .slice none 0 0, .int .i64 0, .slice none 0 0, .slice none 0 0, .int .u64 0, .bool false, .int .i64 0, .int .i64 0] := bset_row K2
          have BE := below_setRow BX (Nat.le_succ _) #[.int .i64 0, .int .i64 0, .int .i64 0, .int .u64 0, .int .i64 0, .int .u64 0, .slice none 0 0, .slice none 0 0, .int .i64 0, .slice none 0 0, .slice none 0 0, .int .u64 0, .bool false, .int .i64 0, .int .i64 0]
          generalize W2.setRow (w.heap.size + 1) #[.int .i64 0, .int .i64 0, .int .i64 0, .int .u64 0, .int .i64 0, .int .u64 0, .slice none 0 0, .slice none 0 0, .int .i64 0, .slice none 0 0, .slice none 0 0, .int .u64 0, .bool false, .int .i64 0, .int .i64 0] = Y at *
          refine bodyPost_ret (v := .tuple #[.agg #[.int .i64 0, .int .i64 0, .int .i64 0, .int .u64 0, .int .i64 0, .int .u64 0, .slice none 0 0, .slice none 0 0, .int .i64 0, .slice none 0 0, .slice none 0 0, .int .u64 0, .bool false, .int .i64 0, .int .i64 0], .int .i64 5]) ?_ rfl ⟨.slice none 0 0, .slice none 0 0, .slice none 0 0, .slice none 0 0, by rw [HQ.out, HZ.out]; try rfl, by rw [HQ.out]; exact has_zero _ _, BE⟩
          have HL := run_loadVar_row (P := Tryd.prog) Y (w.heap.size + 1) 33 33 #[.int .i64 0, .int .i64 0, .int .i64 0, .int .u64 0, .int .i64 0, .int .u64 0, .slice none 0 0, .slice none 0 0, .int .i64 0, .slice none 0 0, .slice none 0 0, .int .u64 0, .bool false, .int .i64 0, .int .i64 0] (0, 0) _ KR Tryd.underlying33 rfl (by kernel_rfl)
          generalize (#[.int .i64 0, .int .i64 0, .int .i64 0, .int .u64 0, .int .i64 0, .int .u64 0, .slice none 0 0, .slice none 0 0, .int .i64 0, .slice none 0 0, .slice none 0 0, .int .u64 0, .bool false, .int .i64 0, .int .i64 0] : Array Value) = CS at *
          simp [results, show (Tryd.f16).results = #[.cell 4 33, .slot 5] from rfl, asAddr, HL, Act.put]
        by_cases h6 : 3 < p.po
        · have HZ : Hid (E = 5) := Lib.hid (by rw [HT.out, if_pos (.inr h6)])
          have HQ := Lib.hid (HN.out (by rw [HZ.out]; decide))
          have H1 : (#[.int .i64 0, .int .i64 0, .int .i64 0, .int .u64 0, .int .i64 0, .int .u64 0, .slice none 0 0, .slice none 0 0, .int .i64 0, .slice none 0 0, .slice none 0 0, .int .u64 0, .bool false, .int .i64 0, .int .i64 0] : Array Value).all (·.oneCell') = true := by rw [← Array.all_toList]; rfl
          go_wp2_with (first | (refine wpList_store_row rfl 33 (.tmp 4) _ rfl (w.heap.size + 1) #[.int .i64 0, .int .i64 0, .int .i64 0, .int .u64 0, .int .i64 0, .int .u64 0, .slice none 0 0, .slice none 0 0, .int .i64 0, .slice none 0 0, .slice none 0 0, .int .u64 0, .bool false, .int .i64 0, .int .i64 0] rfl rfl 33 _ K2 (by kernel_rfl) rfl H1 ?_))
          have KR : Blk (W2.setRow (w.heap.size + 1) #[.int .i64 0, .int .i64 0, .int .i64 0, .int .u64 0, .int .i64 0, .int .u64 0, .slice none 0 0, .slice none 0 0, .int .i64 0, .slice none 0 0, .slice none 0 0, .int .u64 0, .bool false, .int .i64 0, .int .i64 0]) (w.heap.size + 1) 33 #[.int .i64 0, .int .i64 0, .int .i64 0, .int .u64 0, .int .i64 0, .int .u64 0, .slice none 0 0, .slice none 0 0, .int .i64 0, .slice none 0 0, .slice none 0 0, .int .u64 0, .bool false, .int .i64 0, .int .i64 0] := bset_row K2
          have BE := below_setRow BX (Nat.le_succ _) #[.int .i64 0, .int .i64 0, .int .i64 0, .int .u64 0, .int .i64 0, .int .u64 0, .slice none 0 0, .slice none 0 0, .int .i64 0, .slice none 0 0, .slice none 0 0, .int .u64 0, .bool false, .int .i64 0, .int .i64 0]
          generalize W2.setRow (w.heap.size + 1) #[.int .i64 0, .int .i64 0, .int .i64 0, .int .u64 0, .int .i64 0, .int .u64 0, .slice none 0 0, .slice none 0 0, .int .i64 0, .slice none 0 0, .slice none 0 0, .int .u64 0, .bool false, .int .i64 0, .int .i64 0] = Y at *
          refine bodyPost_ret (v := .tuple #[.agg #[.int .i64 0, .int .i64 0, .int .i64 0, .int .u64 0, .int .i64 0, .int .u64 0, .slice none 0 0, .slice none 0 0, .int .i64 0, .slice none 0 0, .slice none 0 0, .int .u64 0, .bool false, .int .i64 0, .int .i64 0], .int .i64 5]) ?_ rfl ⟨.slice none 0 0, .slice none 0 0, .slice none 0 0, .slice none 0 0, by rw [HQ.out, HZ.out]; try rfl, by rw [HQ.out]; exact has_zero _ _, BE⟩
          have HL := run_loadVar_row (P := Tryd.prog) Y (w.heap.size + 1) 33 33 #[.int .i64 0, .int .i64 0, .int .i64 0, .int .u64 0, .int .i64 0, .int .u64 0, .slice none 0 0, .slice none 0 0, .int .i64 0, .slice none 0 0, .slice none 0 0, .int .u64 0, .bool false, .int .i64 0, .int .i64 0] (0, 0) _ KR Tryd.underlying33 rfl (by kernel_rfl)
          generalize (#[.int .i64 0, .int .i64 0, .int .i64 0, .int .u64 0, .int .i64 0, .int .u64 0, .slice none 0 0, .slice none 0 0, .int .i64 0, .slice none 0 0, .slice none 0 0, .int .u64 0, .bool false, .int .i64 0, .int .i64 0] : Array Value) = CS at *
          simp [results, show (Tryd.f16).results = #[.cell 4 33, .slot 5] from rfl, asAddr, HL, Act.put]
        have HT2 : Hid (E = if 64 < na ∨ 64 < ni then 4 else 0) := Lib.hid (by rw [HT.out, if_neg (by omega)])
        by_cases h7 : 64 < na
        · have g7 : (64 : Int) < (na : Int) := by omega
          have HZ : Hid (E = 4) := Lib.hid (by rw [HT2.out, if_pos (.inl h7)])
          have HQ := Lib.hid (HN.out (by rw [HZ.out]; decide))
          have H1 : (#[.int .i64 0, .int .i64 0, .int .i64 0, .int .u64 0, .int .i64 0, .int .u64 0, .slice none 0 0, .slice none 0 0, .int .i64 0, .slice none 0 0, .slice none 0 0, .int .u64 0, .bool false, .int .i64 0, .int .i64 0] : Array Value).all (·.oneCell') = true := by rw [← Array.all_toList]; rfl
          go_wp2_with (first | (refine wpList_store_row rfl 33 (.tmp 4) _ rfl (w.heap.size + 1) #[.int .i64 0, .int .i64 0, .int .i64 0, .int .u64 0, .int .i64 0, .int .u64 0, .slice none 0 0, .slice none 0 0, .int .i64 0, .slice none 0 0, .slice none 0 0, .int .u64 0, .bool false, .int .i64 0, .int .i64 0] rfl rfl 33 _ K2 (by kernel_rfl) rfl H1 ?_))
          have KR : Blk (W2.setRow (w.heap.size + 1) #[.int .i64 0, .int .i64 0, .int .i64 0, .int .u64 0, .int .i64 0, .int .u64 0, .slice none 0 0, .slice none 0 0, .int .i64 0, .slice none 0 0, .slice none 0 0, .int .u64 0, .bool false, .int .i64 0, .int .i64 0]) (w.heap.size + 1) 33 #[.int .i64 0, .int .i64 0, .int .i64 0, .int .u64 0, .int .i64 0, .int .u64 0, .slice none 0 0, .slice none 0 0, .int .i64 0, .slice none 0 0, .slice none 0 0, .int .u64 0, .bool false, .int .i64 0, .int .i64 0] := bset_row K2
          have BE := below_setRow BX (Nat.le_succ _) #[.int .i64 0, .int .i64 0, .int .i64 0, .int .u64 0, .int .i64 0, .int .u64 0, .slice none 0 0, .slice none 0 0, .int .i64 0, .slice none 0 0, .slice none 0 0, .int .u64 0, .bool false, .int .i64 0, .int .i64 0]
          generalize W2.setRow (w.heap.size + 1) #[.int .i64 0, .int .i64 0, .int .i64 0, .int .u64 0, .int .i64 0, .int .u64 0, .slice none 0 0, .slice none 0 0, .int .i64 0, .slice none 0 0, .slice none 0 0, .int .u64 0, .bool false, .int .i64 0, .int .i64 0] = Y at *
          refine bodyPost_ret (v := .tuple #[.agg #[.int .i64 0, .int .i64 0, .int .i64 0, .int .u64 0, .int .i64 0, .int .u64 0, .slice none 0 0, .slice none 0 0, .int .i64 0, .slice none 0 0, .slice none 0 0, .int .u64 0, .bool false, .int .i64 0, .int .i64 0], .int .i64 4]) ?_ rfl ⟨.slice none 0 0, .slice none 0 0, .slice none 0 0, .slice none 0 0, by rw [HQ.out, HZ.out]; try rfl, by rw [HQ.out]; exact has_zero _ _, BE⟩
          have HL := run_loadVar_row (P := Tryd.prog) Y (w.heap.size + 1) 33 33 #[.int .i64 0, .int .i64 0, .int .i64 0, .int .u64 0, .int .i64 0, .int .u64 0, .slice none 0 0, .slice none 0 0, .int .i64 0, .slice none 0 0, .slice none 0 0, .int .u64 0, .bool false, .int .i64 0, .int .i64 0] (0, 0) _ KR Tryd.underlying33 rfl (by kernel_rfl)
          generalize (#[.int .i64 0, .int .i64 0, .int .i64 0, .int .u64 0, .int .i64 0, .int .u64 0, .slice none 0 0, .slice none 0 0, .int .i64 0, .slice none 0 0, .slice none 0 0, .int .u64 0, .bool false, .int .i64 0, .int .i64 0] : Array Value) = CS at *
          simp [results, show (Tryd.f16).results = #[.cell 4 33, .slot 5] from rfl, asAddr, HL, Act.put]
        have g7 : ¬ (64 : Int) < (na : Int) := by omega
        by_cases h8 : 64 < ni
        · have g8 : (64 : Int) < (ni : Int) := by omega
          have HZ : Hid (E = 4) := Lib.hid (by rw [HT2.out, if_pos (.inr h8)])
          have HQ := Lib.hid (HN.out (by rw [HZ.out]; decide))
          have H1 : (#[.int .i64 0, .int .i64 0, .int .i64 0, .int .u64 0, .int .i64 0, .int .u64 0, .slice none 0 0, .slice none 0 0, .int .i64 0, .slice none 0 0, .slice none 0 0, .int .u64 0, .bool false, .int .i64 0, .int .i64 0] : Array Value).all (·.oneCell') = true := by rw [← Array.all_toList]; rfl
          go_wp2_with (first | (refine wpList_store_row rfl 33 (.tmp 4) _ rfl (w.heap.size + 1) #[.int .i64 0, .int .i64 0, .int .i64 0, .int .u64 0, .int .i64 0, .int .u64 0, .slice none 0 0, .slice none 0 0, .int .i64 0, .slice none 0 0, .slice none 0 0, .int .u64 0, .bool false, .int .i64 0, .int .i64 0] rfl rfl 33 _ K2 (by kernel_rfl) rfl H1 ?_))
          have KR : Blk (W2.setRow (w.heap.size + 1) #[.int .i64 0, .int .i64 0, .int .i64 0, .int .u64 0, .int .i64 0, .int .u64 0, .slice none 0 0, .slice none 0 0, .int .i64 0, .slice none 0 0, .slice none 0 0, .int .u64 0, .bool false, .int .i64 0, .int .i64 0]) (w.heap.size + 1) 33 #[.int .i64 0, .int .i64 0, .int .i64 0, .int .u64 0, .int .i64 0, .int .u64 0, .slice none 0 0, .slice none 0 0, .int .i64 0, .slice none 0 0, .slice none 0 0, .int .u64 0, .bool false, .int .i64 0, .int .i64 0] := bset_row K2
          have BE := below_setRow BX (Nat.le_succ _) #[.int .i64 0, .int .i64 0, .int .i64 0, .int .u64 0, .int .i64 0, .int .u64 0, .slice none 0 0, .slice none 0 0, .int .i64 0, .slice none 0 0, .slice none 0 0, .int .u64 0, .bool false, .int .i64 0, .int .i64 0]
          generalize W2.setRow (w.heap.size + 1) #[.int .i64 0, .int .i64 0, .int .i64 0, .int .u64 0, .int .i64 0, .int .u64 0, .slice none 0 0, .slice none 0 0, .int .i64 0, .slice none 0 0, .slice none 0 0, .int .u64 0, .bool false, .int .i64 0, .int .i64 0] = Y at *
          refine bodyPost_ret (v := .tuple #[.agg #[.int .i64 0, .int .i64 0, .int .i64 0, .int .u64 0, .int .i64 0, .int .u64 0, .slice none 0 0, .slice none 0 0, .int .i64 0, .slice none 0 0, .slice none 0 0, .int .u64 0, .bool false, .int .i64 0, .int .i64 0], .int .i64 4]) ?_ rfl ⟨.slice none 0 0, .slice none 0 0, .slice none 0 0, .slice none 0 0, by rw [HQ.out, HZ.out]; try rfl, by rw [HQ.out]; exact has_zero _ _, BE⟩
          have HL := run_loadVar_row (P := Tryd.prog) Y (w.heap.size + 1) 33 33 #[.int .i64 0, .int .i64 0, .int .i64 0, .int .u64 0, .int .i64 0, .int .u64 0, .slice none 0 0, .slice none 0 0, .int .i64 0, .slice none 0 0, .slice none 0 0, .int .u64 0, .bool false, .int .i64 0, .int .i64 0] (0, 0) _ KR Tryd.underlying33 rfl (by kernel_rfl)
          generalize (#[.int .i64 0, .int .i64 0, .int .i64 0, .int .u64 0, .int .i64 0, .int .u64 0, .slice none 0 0, .slice none 0 0, .int .i64 0, .slice none 0 0, .slice none 0 0, .int .u64 0, .bool false, .int .i64 0, .int .i64 0] : Array Value) = CS at *
          simp [results, show (Tryd.f16).results = #[.cell 4 33, .slot 5] from rfl, asAddr, HL, Act.put]
        have g8 : ¬ (64 : Int) < (ni : Int) := by omega
        have HZ : Hid (E = 0) := Lib.hid (by rw [HT2.out, if_neg (by omega)])
        have HQ := Lib.hid (HO.out HZ.out)
        go_upto_region 18 with (fail)
        clear c8 c9 c10
        have K1' : Blk W2.drew (w.heap.size) 29 #[.int .i64 p.k, .int .i64 p.it, .int .i64 p.ok, .int .u64 p.ob, .int .i64 p.tk, .int .u64 p.tb, VD, .slice AS ns cS, .int .i64 p.po, .slice AA na cA, .slice AI ni cI, .int .u64 p.sd] := Mem.Blk.drew K1
        have K2' : Blk W2.drew (w.heap.size + 1) 33 #[.int .i64 0, .int .i64 0, .int .i64 0, .int .u64 0, .int .i64 0, .int .u64 0, .slice none 0 0, .slice none 0 0, .int .i64 0, .slice none 0 0, .slice none 0 0, .int .u64 0, .bool false, .int .i64 0, .int .i64 0] := Mem.Blk.drew K2
        refine wp_region_held_drew (S := (fun w' => Blk w' (w.heap.size) 29 #[.int .i64 p.k, .int .i64 p.it, .int .i64 p.ok, .int .u64 p.ob, .int .i64 p.tk, .int .u64 p.tb, VD, .slice AS ns cS, .int .i64 p.po, .slice AA na cA, .slice AI ni cI, .int .u64 p.sd])) (by kernel_rfl) ?_ (fun hHeld => ?_)
        · exact K1'
        replace K1 := K1'
        clear K1'
        replace K2 := K2'
        clear K2'
        replace BX : Below w.heap.size w W2.drew := BX.drew
        generalize W2.drew = X0 at *
        refine wpAnyH_take (i := 0) (v := .agg #[.int .i64 p.k, .int .i64 p.it, .int .i64 p.ok, .int .u64 p.ob, .int .i64 p.tk, .int .u64 p.tb, VD, .slice AS ns cS, .int .i64 p.po, .slice AA na cA, .slice AI ni cI, .int .u64 p.sd]) rfl (by kernel_rfl) (by kernel_rfl) (by kernel_rfl) (fun _ _ _ h => h) (Av.yields_part (by first | rfl | go_simp) _ _ rfl (w.heap.size) 0 rfl #[.int .i64 p.k, .int .i64 p.it, .int .i64 p.ok, .int .u64 p.ob, .int .i64 p.tk, .int .u64 p.tb, VD, .slice AS ns cS, .int .i64 p.po, .slice AA na cA, .slice AI ni cI, .int .u64 p.sd] _ 29 #[.int .i64 p.k, .int .i64 p.it, .int .i64 p.ok, .int .u64 p.ob, .int .i64 p.tk, .int .u64 p.tb, VD, .slice AS ns cS, .int .i64 p.po, .slice AA na cA, .slice AI ni cI, .int .u64 p.sd] (fun w9 hSw => hSw) rfl Tryd.underlying29 rfl (by kernel_rfl)) (by assumption) ?_
        simp only [List.getElem_toArray, List.getElem_cons_zero, List.getElem_cons_succ, Act.put, List.setIfInBounds_toArray, List.set_cons_zero, List.set_cons_succ]
        refine wpAnyH_take (i := 1) (v := .int .i64 l) rfl (by kernel_rfl) (by kernel_rfl) (by kernel_rfl) (fun _ _ _ h => h) (Or.inl ⟨by first | rfl | go_simp, by intro w9 hSw; (try dsimp only at hSw); go_simp⟩) (by assumption) ?_
        simp only [List.getElem_toArray, List.getElem_cons_zero, List.getElem_cons_succ, Act.put, List.setIfInBounds_toArray, List.set_cons_zero, List.set_cons_succ]
        refine wpAnyH_ready (rs := [2]) (by kernel_rfl) (by simp) ?_
        refine AllReadyH.cons rfl (fun K hK => ?_) (AllReadyH.nil)
        go_simp
        refine (HM.out X0).mono ?_
        rintro e X1 ⟨rfl, rfl⟩
        refine hK.out _ _ K1 (fun hHeld => ?_)
        clear hK K
        try simp only [List.getElem_toArray, List.getElem_cons_zero, List.getElem_cons_succ, Act.put, List.setIfInBounds_toArray, List.set_cons_zero, List.set_cons_succ]
        refine wpAnyH_take (i := 3) (v := .agg #[.int .i64 p.k, .int .i64 p.it, .int .i64 p.ok, .int .u64 p.ob, .int .i64 p.tk, .int .u64 p.tb, VD, .slice AS ns cS, .int .i64 p.po, .slice AA na cA, .slice AI ni cI, .int .u64 p.sd, .bool true, .int .i64 0, .int .i64 L]) rfl (by kernel_rfl) (by kernel_rfl) (by kernel_rfl) (fun _ _ _ h => h) (Av.yields_build (by first | rfl | go_simp) _ _ rfl #[.int .i64 p.k, .int .i64 p.it, .int .i64 p.ok, .int .u64 p.ob, .int .i64 p.tk, .int .u64 p.tb, VD, .slice AS ns cS, .int .i64 p.po, .slice AA na cA, .slice AI ni cI, .int .u64 p.sd, .bool true, .int .i64 0, .int .i64 L] (by kernel_rfl)) (by assumption) ?_
        simp only [List.getElem_toArray, List.getElem_cons_zero, List.getElem_cons_succ, Act.put, List.setIfInBounds_toArray, List.set_cons_zero, List.set_cons_succ]
        refine wpAnyH_ready (rs := [4]) (by kernel_rfl) (by simp) ?_
        refine AllReadyH.cons rfl (fun K hK => ?_) (AllReadyH.nil)
        have H9 : (#[.int .i64 p.k, .int .i64 p.it, .int .i64 p.ok, .int .u64 p.ob, .int .i64 p.tk, .int .u64 p.tb, VD, .slice AS ns cS, .int .i64 p.po, .slice AA na cA, .slice AI ni cI, .int .u64 p.sd, .bool true, .int .i64 0, .int .i64 L] : Array Value).all (·.oneCell') = true := by rw [← Array.all_toList]; simp only [List.all_cons, List.all_nil, oVD, Bool.and_true, Bool.and_self]; rfl
        refine Av.step_store_row rfl 33 (.tmp 4) (.tmp 81) rfl (w.heap.size + 1) #[.int .i64 p.k, .int .i64 p.it, .int .i64 p.ok, .int .u64 p.ob, .int .i64 p.tk, .int .u64 p.tb, VD, .slice AS ns cS, .int .i64 p.po, .slice AA na cA, .slice AI ni cI, .int .u64 p.sd, .bool true, .int .i64 0, .int .i64 L] rfl rfl 33 _ K2 (by kernel_rfl) rfl H9 ?_
        replace K1 : Blk (X0.setRow (w.heap.size + 1) #[.int .i64 p.k, .int .i64 p.it, .int .i64 p.ok, .int .u64 p.ob, .int .i64 p.tk, .int .u64 p.tb, VD, .slice AS ns cS, .int .i64 p.po, .slice AA na cA, .slice AI ni cI, .int .u64 p.sd, .bool true, .int .i64 0, .int .i64 L]) (w.heap.size) 29 #[.int .i64 p.k, .int .i64 p.it, .int .i64 p.ok, .int .u64 p.ob, .int .i64 p.tk, .int .u64 p.tb, VD, .slice AS ns cS, .int .i64 p.po, .slice AA na cA, .slice AI ni cI, .int .u64 p.sd] := Av.bother_row K1 (by omega)
        replace K2 : Blk (X0.setRow (w.heap.size + 1) #[.int .i64 p.k, .int .i64 p.it, .int .i64 p.ok, .int .u64 p.ob, .int .i64 p.tk, .int .u64 p.tb, VD, .slice AS ns cS, .int .i64 p.po, .slice AA na cA, .slice AI ni cI, .int .u64 p.sd, .bool true, .int .i64 0, .int .i64 L]) (w.heap.size + 1) 33 #[.int .i64 p.k, .int .i64 p.it, .int .i64 p.ok, .int .u64 p.ob, .int .i64 p.tk, .int .u64 p.tb, VD, .slice AS ns cS, .int .i64 p.po, .slice AA na cA, .slice AI ni cI, .int .u64 p.sd, .bool true, .int .i64 0, .int .i64 L] := Av.bset_row K2
        replace BX : Below w.heap.size w (X0.setRow (w.heap.size + 1) #[.int .i64 p.k, .int .i64 p.it, .int .i64 p.ok, .int .u64 p.ob, .int .i64 p.tk, .int .u64 p.tb, VD, .slice AS ns cS, .int .i64 p.po, .slice AA na cA, .slice AI ni cI, .int .u64 p.sd, .bool true, .int .i64 0, .int .i64 L]) := below_setRow BX (by omega) _
        clear H9
        generalize X0.setRow (w.heap.size + 1) #[.int .i64 p.k, .int .i64 p.it, .int .i64 p.ok, .int .u64 p.ob, .int .i64 p.tk, .int .u64 p.tb, VD, .slice AS ns cS, .int .i64 p.po, .slice AA na cA, .slice AI ni cI, .int .u64 p.sd, .bool true, .int .i64 0, .int .i64 L] = X2 at *
        refine hK.out _ _ K1 (fun hHeld => ?_)
        clear hK K
        try simp only [List.getElem_toArray, List.getElem_cons_zero, List.getElem_cons_succ, Act.put, List.setIfInBounds_toArray, List.set_cons_zero, List.set_cons_succ]
        refine wpAnyH_take (i := 5) (v := .int .i64 0) rfl (by kernel_rfl) (by kernel_rfl) (by kernel_rfl) (fun _ _ _ h => h) (Or.inl ⟨by first | rfl | go_simp, by intro w9 hSw; (try dsimp only at hSw); go_simp⟩) (by assumption) ?_
        simp only [List.getElem_toArray, List.getElem_cons_zero, List.getElem_cons_succ, Act.put, List.setIfInBounds_toArray, List.set_cons_zero, List.set_cons_succ]
        refine wpAnyH_done (by kernel_rfl) ?_ _
        go_wp2_with fail
        refine bodyPost_ret (v := .tuple #[.agg #[.int .i64 p.k, .int .i64 p.it, .int .i64 p.ok, .int .u64 p.ob, .int .i64 p.tk, .int .u64 p.tb, VD, .slice AS ns cS, .int .i64 p.po, .slice AA na cA, .slice AI ni cI, .int .u64 p.sd, .bool true, .int .i64 0, .int .i64 L], .int .i64 0]) ?_ rfl ⟨VD, .slice AS ns cS, .slice AA na cA, .slice AI ni cI, by rw [HQ.out, HZ.out]; try rfl, by rw [HQ.out]; exact HH.out _ BX, BX⟩
        clear hHeld
        have HL := run_loadVar_row (P := Tryd.prog) X2 (w.heap.size + 1) 33 33 #[.int .i64 p.k, .int .i64 p.it, .int .i64 p.ok, .int .u64 p.ob, .int .i64 p.tk, .int .u64 p.tb, VD, .slice AS ns cS, .int .i64 p.po, .slice AA na cA, .slice AI ni cI, .int .u64 p.sd, .bool true, .int .i64 0, .int .i64 L] (0, 0) _ K2 Tryd.underlying33 rfl (by kernel_rfl)
        generalize (#[.int .i64 p.k, .int .i64 p.it, .int .i64 p.ok, .int .u64 p.ob, .int .i64 p.tk, .int .u64 p.tb, VD, .slice AS ns cS, .int .i64 p.po, .slice AA na cA, .slice AI ni cI, .int .u64 p.sd, .bool true, .int .i64 0, .int .i64 L] : Array Value) = CS at *
        simp [results, show (Tryd.f16).results = #[.cell 4 33, .slot 5] from rfl, asAddr, HL, Act.put]
  · have g3 : (E1 != 0) = true := by simpa using h3
    have HZ : Hid (E = E1) := Lib.hid (by rw [HQ1.out, if_pos h3])
    have HQ := Lib.hid (HN.out (by rw [HZ.out]; exact h3))
    have H1 : (#[.int .i64 0, .int .i64 0, .int .i64 0, .int .u64 0, .int .i64 0, .int .u64 0, .slice none 0 0, .slice none 0 0, .int .i64 0, .slice none 0 0, .slice none 0 0, .int .u64 0, .bool false, .int .i64 0, .int .i64 0] : Array Value).all (·.oneCell') = true := by rw [← Array.all_toList]; rfl
    go_wp2_with (first | (refine wpList_store_row rfl 33 (.tmp 4) _ rfl (w.heap.size + 1) #[.int .i64 0, .int .i64 0, .int .i64 0, .int .u64 0, .int .i64 0, .int .u64 0, .slice none 0 0, .slice none 0 0, .int .i64 0, .slice none 0 0, .slice none 0 0, .int .u64 0, .bool false, .int .i64 0, .int .i64 0] rfl rfl 33 _ K2 (by kernel_rfl) rfl H1 ?_))
    have KR : Blk (W2.setRow (w.heap.size + 1) #[.int .i64 0, .int .i64 0, .int .i64 0, .int .u64 0, .int .i64 0, .int .u64 0, .slice none 0 0, .slice none 0 0, .int .i64 0, .slice none 0 0, .slice none 0 0, .int .u64 0, .bool false, .int .i64 0, .int .i64 0]) (w.heap.size + 1) 33 #[.int .i64 0, .int .i64 0, .int .i64 0, .int .u64 0, .int .i64 0, .int .u64 0, .slice none 0 0, .slice none 0 0, .int .i64 0, .slice none 0 0, .slice none 0 0, .int .u64 0, .bool false, .int .i64 0, .int .i64 0] := bset_row K2
    have BE := below_setRow BX (Nat.le_succ _) #[.int .i64 0, .int .i64 0, .int .i64 0, .int .u64 0, .int .i64 0, .int .u64 0, .slice none 0 0, .slice none 0 0, .int .i64 0, .slice none 0 0, .slice none 0 0, .int .u64 0, .bool false, .int .i64 0, .int .i64 0]
    generalize W2.setRow (w.heap.size + 1) #[.int .i64 0, .int .i64 0, .int .i64 0, .int .u64 0, .int .i64 0, .int .u64 0, .slice none 0 0, .slice none 0 0, .int .i64 0, .slice none 0 0, .slice none 0 0, .int .u64 0, .bool false, .int .i64 0, .int .i64 0] = Y at *
    refine bodyPost_ret (v := .tuple #[.agg #[.int .i64 0, .int .i64 0, .int .i64 0, .int .u64 0, .int .i64 0, .int .u64 0, .slice none 0 0, .slice none 0 0, .int .i64 0, .slice none 0 0, .slice none 0 0, .int .u64 0, .bool false, .int .i64 0, .int .i64 0], .int .i64 E1]) ?_ rfl ⟨.slice none 0 0, .slice none 0 0, .slice none 0 0, .slice none 0 0, by rw [HQ.out, HZ.out]; try rfl, by rw [HQ.out]; exact has_zero _ _, BE⟩
    have HL := run_loadVar_row (P := Tryd.prog) Y (w.heap.size + 1) 33 33 #[.int .i64 0, .int .i64 0, .int .i64 0, .int .u64 0, .int .i64 0, .int .u64 0, .slice none 0 0, .slice none 0 0, .int .i64 0, .slice none 0 0, .slice none 0 0, .int .u64 0, .bool false, .int .i64 0, .int .i64 0] (0, 0) _ KR Tryd.underlying33 rfl (by kernel_rfl)
    generalize (#[.int .i64 0, .int .i64 0, .int .i64 0, .int .u64 0, .int .i64 0, .int .u64 0, .slice none 0 0, .slice none 0 0, .int .i64 0, .slice none 0 0, .slice none 0 0, .int .u64 0, .bool false, .int .i64 0, .int .i64 0] : Array Value) = CS at *
    simp [results, show (Tryd.f16).results = #[.cell 4 33, .slot 5] from rfl, asAddr, HL, Act.put]
end Go.Proofs.YtcbliliinmfnjaaDoor.Av
