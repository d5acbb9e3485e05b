/- The statement on events: contracts over the program. -/
import Derived.Test.YtcbliliinmfnjaaDoorKAvLives
import Derived.Test.YtcbliliinmfnjaaDoorKAvOwn
set_option linter.unusedVariables false
set_option linter.unusedSimpArgs false
namespace Go.Proofs.YtcbliliinmfnjaaDoor.Av
open Go.RowKit Mem Oct Rw Ap Ace Prv
open Base (thenB)

/-- A struct that is read cell by cell is read at once. -/
theorem run_loadVar_cells {P : Program} (w : World) (g off : Nat) (ty : TypeId) (vs : Array Value) (d : TypeDesc) (hc : ∀ (j : Nat) v, vs.toList[j]? = some v → w.cell? ⟨g, off + j, none⟩ = some v)
    (hu : P.underlying ty = some d) (hd : (match d with | .struct _ | .array _ _ => true | _ => false) = true) (hi : (P.info? ty).map (·.size) = some vs.size) :
    (loadVar ty ⟨g, off, none⟩).run P w = .ok (.agg vs) w := by
  have hl : (loadCells ⟨g, off, none⟩ vs.toList.length).run P w = .ok vs.toList.toArray w :=
    run_loadCells_list (P := P) w ⟨g, off, none⟩ vs.toList (fun j v hj => by rw [plain_add]; exact hc j v hj)
  cases hq : P.info? ty with
  | none => simp [hq] at hi
  | some i =>
    have hs : i.size = vs.size := by simpa [hq] using hi
    have hagg : (isAgg ty).run P w = .ok true w := by
      unfold isAgg
      rw [Sem.run_bind, run_underlying hu w]
      cases d <;> simp_all
    simp only [Array.length_toList, Array.toArray_toList] at hl
    simp [loadVar, Sem.run_bind, hagg, sizeOf, typeInfo, hq, hs, hl]
theorem wpList_load_cells {P : Program} {ops : Array Oper} {rest : List Oper} {o : Oper} {a : Act} {w : World} {Q : Exit → Act → World → Prop} (hgd : o.guard = none) (ty : TypeId) (x : Operand) (ho : o.op = .load ty x)
    (g off : Nat) (hx : a.eval x = .pointer (some ⟨g, off, none⟩)) (vs : Array Value) (d : TypeDesc) (hc : ∀ (j : Nat) v, vs.toList[j]? = some v → w.cell? ⟨g, off + j, none⟩ = some v)
    (hu : P.underlying ty = some d) (hd : (match d with | .struct _ | .array _ _ => true | _ => false) = true) (hi : (P.info? ty).map (·.size) = some vs.size)
    (h : wpList P ops Q rest (a.put o.dst (.agg vs)) w) : wpList P ops Q (o :: rest) a w :=
  wpList_plain hgd fun K hK => by
    unfold Oper.wp execOp
    simp only [ho, hx, Instr.loadAt, Instr.sureAddr, Sem.run_bind, Sem.run_pure, Result.andThen_ok, run_loadVar_cells w g off ty vs d hc hu hd hi]
    exact hK _ _ h
theorem look2 (l1 l2 : List Value) (n i : Nat) (h : l1.length = n) : (l1 ++ l2)[n + i]? = l2[i]? := by
  subst h; simp [List.getElem?_append_right]
theorem lookL {l1 l2 : List Value} {i : Nat} {v : Value} (h : l1[i]? = some v) : (l1 ++ l2)[i]? = some v := by
  have hl : i < l1.length := by
    rcases Nat.lt_or_ge i l1.length with h' | h'
    · exact h'
    · rw [List.getElem?_eq_none h'] at h; cases h
  rw [List.getElem?_append_left hl]; exact h
theorem st_it {p : Pm} (h : stE p = 0) : 32 ≤ p.it ∧ p.it ≤ 16384 := by
  unfold stE at h
  by_cases h1 : annB p.k = false
  · rw [if_pos h1] at h; omega
  · rw [if_neg h1] at h
    by_cases h2 : p.it < 32 ∨ 16384 < p.it
    · rw [if_pos h2] at h; omega
    · omega
/-- An event that is due. -/
theorem ev_due (p : Pm) (j nx : Int) (h : 0 ≤ nx ∧ nx ≤ 4398046511104) :
    fireA ⟨p, true, j, nx⟩ nx = ⟨p, true, j + 1, nx + p.it * 625 + delZ p.sd j⟩ ∧ fireS ⟨p, true, j, nx⟩ nx = [⟨37, nx, annP p⟩, ⟨38, nx + 1000, annP p⟩, ⟨39, nx + 2000, annP p⟩] := by
  have hp : plc nx = nx := by unfold plc; omega
  have hf : fires ⟨p, true, j, nx⟩ nx = true := by unfold fires; rw [hp]; simp
  have := fire_yes hf
  rw [hp] at this
  exact this
/-- An event that is not due yet. -/
theorem ev_early (p : Pm) (j nx : Int) (h : 0 < nx ∧ nx ≤ 4398046511104) : fireS ⟨p, true, j, nx⟩ (nx - 1) = [] := by
  have hp : plc (nx - 1) = nx - 1 := by unfold plc; omega
  exact (fire_no (by unfold fires; rw [hp]; simp; omega)).2
/-- After a stop nothing is sent. -/
theorem ev_none (p : Pm) (j nx l : Int) : fireS ⟨p, false, j, nx⟩ l = [] := (fire_no (by unfold fires; rfl)).2
set_option maxRecDepth 100000 in
set_option maxHeartbeats 4000000 in
theorem law_events (p : Pm) (VD VS VA VI : Value) (lo tm : Int) (w : World) (hW : PW p) (hH : Has w 0 p VD VS VA VI) (hT : Adr.Tab w) :
    Calls Tryd.prog 5 #[.agg (pcel p VD VS VA VI), .int .i64 lo, .int .i64 tm] w fun e w' => e = .returned (.bool true) ∧ Below w.heap.size w w' := by
  have BX : Below w.heap.size w (w.alloc (.cells #[.int .i64 p.k, .int .i64 p.it, .int .i64 p.ok, .int .u64 p.ob, .int .i64 p.tk, .int .u64 p.tb, VD, VS, .int .i64 p.po, VA, VI, .int .u64 p.sd] 29)) := (Below.refl _ _).alloc (Nat.le_refl _) _
  have K3 : Blk (w.alloc (.cells #[.int .i64 p.k, .int .i64 p.it, .int .i64 p.ok, .int .u64 p.ob, .int .i64 p.tk, .int .u64 p.tb, VD, VS, .int .i64 p.po, VA, VI, .int .u64 p.sd] 29)) (w.heap.size) 29 #[.int .i64 p.k, .int .i64 p.it, .int .i64 p.ok, .int .u64 p.ob, .int .i64 p.tk, .int .u64 p.tb, VD, VS, .int .i64 p.po, VA, VI, .int .u64 p.sd] := Blk.fresh w 29 #[.int .i64 p.k, .int .i64 p.it, .int .i64 p.ok, .int .u64 p.ob, .int .i64 p.tk, .int .u64 p.tb, VD, VS, .int .i64 p.po, VA, VI, .int .u64 p.sd]
  have HLi : Hid (∀ X, Below w.heap.size w X → Calls Tryd.prog 12 #[] X fun e w' => e = .returned (.bool true) ∧ Below X.heap.size X w') := Lib.hid fun X b => lives_any X (hT.below b)
  have HSm : Hid (∀ X, Below w.heap.size w X → Calls Tryd.prog 13 #[.agg (pcel p VD VS VA VI)] X fun e w' => e = .returned (.bool (decide (p.ac.length ≤ 100 ∧ p.ids.length ≤ 100))) ∧ Below X.heap.size X w') := Lib.hid fun X b => small_any p _ _ _ _ 0 X (hH.below b)
  have HOw : Hid (∀ X, Below w.heap.size w X → Calls Tryd.prog 15 #[.agg (pcel p VD VS VA VI)] X fun e w' => PmR X w' e p) := Lib.hid fun X b => own_any p _ _ _ _ 0 X hW (hH.below b)
  have HSt : Hid (∀ X U1 U2 U3 U4 mm, Below w.heap.size w X → Has X mm p U1 U2 U3 U4 → Calls Tryd.prog 14 #[.agg (pcel p U1 U2 U3 U4), .int .i64 lo] X fun e w' => StaR X w' e (startA p lo) (stE p)) := Lib.hid fun X U1 U2 U3 U4 mm b h => start_any p U1 U2 U3 U4 lo mm X hW h (hT.below b)
  have HO : Hid (0 ≤ lo → lo ≤ 1099511627776 → stE p = 0 → startA p lo = ⟨p, true, 0, lo⟩) := Lib.hid fun h1 h2 h => by rw [start_ok h, show plc lo = lo by unfold plc; omega]
  have HIt : Hid (stE p = 0 → 32 ≤ p.it ∧ p.it ≤ 16384) := Lib.hid fun h => st_it h
  have HD := Lib.hid (delZ_bd p.sd)
  have HFi : Hid (∀ X U1 U2 U3 U4 (j nx l : Int) mm, 0 ≤ p.it ∧ p.it ≤ 16384 → 0 ≤ j ∧ j ≤ 1000000 → Has X mm p U1 U2 U3 U4 → Calls Tryd.prog 20 #[.agg #[.int .i64 p.k, .int .i64 p.it, .int .i64 p.ok, .int .u64 p.ob, .int .i64 p.tk, .int .u64 p.tb, U1, U2, .int .i64 p.po, U3, U4, .int .u64 p.sd, .bool true, .int .i64 j, .int .i64 nx], .int .i64 l] X fun e w' => FirR X w' e (fireA ⟨p, true, j, nx⟩ l) (fireS ⟨p, true, j, nx⟩ l)) := Lib.hid fun X U1 U2 U3 U4 j nx l mm h1 h2 h => fire_any ⟨p, true, j, nx⟩ U1 U2 U3 U4 l mm X hW h h1 h2
  have HFn : Hid (∀ X U1 U2 U3 U4 (j nx l : Int) mm, 0 ≤ p.it ∧ p.it ≤ 16384 → 0 ≤ j ∧ j ≤ 1000000 → Has X mm p U1 U2 U3 U4 → Calls Tryd.prog 20 #[.agg #[.int .i64 p.k, .int .i64 p.it, .int .i64 p.ok, .int .u64 p.ob, .int .i64 p.tk, .int .u64 p.tb, U1, U2, .int .i64 p.po, U3, U4, .int .u64 p.sd, .bool false, .int .i64 j, .int .i64 nx], .int .i64 l] X fun e w' => ∃ FG, FirR X w' e FG []) := Lib.hid fun X U1 U2 U3 U4 j nx l mm h1 h2 h => by have := fire_any ⟨p, false, j, nx⟩ U1 U2 U3 U4 l mm X hW h h1 h2; rw [ev_none] at this; exact this.mono fun e w' h => ⟨_, h⟩
  have HSp : Hid (∀ X U1 U2 U3 U4 (j nx : Int) mm, Has X mm p U1 U2 U3 U4 → Calls Tryd.prog 22 #[.agg #[.int .i64 p.k, .int .i64 p.it, .int .i64 p.ok, .int .u64 p.ob, .int .i64 p.tk, .int .u64 p.tb, U1, U2, .int .i64 p.po, U3, U4, .int .u64 p.sd, .bool true, .int .i64 j, .int .i64 nx]] X fun e w' => ∃ F1 F2 F3 F4, e = .returned (.agg #[.int .i64 p.k, .int .i64 p.it, .int .i64 p.ok, .int .u64 p.ob, .int .i64 p.tk, .int .u64 p.tb, F1, F2, .int .i64 p.po, F3, F4, .int .u64 p.sd, .bool false, .int .i64 j, .int .i64 nx]) ∧ Has w' X.heap.size p F1 F2 F3 F4 ∧ Below X.heap.size X w') := Lib.hid fun X U1 U2 U3 U4 j nx mm h => stop_any ⟨p, true, j, nx⟩ U1 U2 U3 U4 mm X hW h
  have HSS : Hid (∀ X U mm, Below w.heap.size w X → Row X mm U p.ds.length (p.ds.map (Value.int .u8)) → Calls Tryd.prog 21 #[U, VD] X fun e w' => e = .returned (.bool true) ∧ X = w') := Lib.hid fun X U mm b h => bytes_yes U VD _ mm 0 p.ds X rfl hW.hds h (hH.d.below b)
  have oVD := hH.d.one
  have q1 := Ace.adr_eq' p.ok p.ob
  have q2 := Ace.adr_guard' p.ok p.ob p.ok p.ob
  have q3 := Ace.adr_eq' p.tk p.tb
  have q4 := Ace.adr_guard' p.tk p.tb p.tk p.tb
  clear hW hH hT
  generalize startA p lo = AD at *
  generalize stE p = E at *
  generalize decide (p.ac.length ≤ 100 ∧ p.ids.length ≤ 100) = SM at *
  go_enter Tryd.func5, Tryd.ntmps5
  go_wp2_with fail
  generalize w.alloc (.cells #[.int .i64 p.k, .int .i64 p.it, .int .i64 p.ok, .int .u64 p.ob, .int .i64 p.tk, .int .u64 p.tb, VD, VS, .int .i64 p.po, VA, VI, .int .u64 p.sd] 29) = W0 at *
  refine (HLi.out _ BX).mono ?_
  rintro e W1 ⟨rfl, b1⟩
  replace BX := thenB BX b1
  replace K3 := K3.below b1 K3.lt
  clear b1
  go_wp2_with (refine wpList_load_row rfl 29 (.tmp 3) rfl w.heap.size rfl 29 _ (0, 0) _ K3 Tryd.underlying29 rfl (by kernel_rfl) ?_)
  refine (HSm.out _ BX).mono ?_
  rintro e W2 ⟨rfl, b2⟩
  replace BX := thenB BX b2
  replace K3 := K3.below b2 K3.lt
  clear b2
  cases SM with
  | false =>
    go_wp2_with fail
    go_ret
    exact ⟨rfl, BX⟩
  | true =>
  by_cases hl0 : lo < 0
  · go_wp2_with fail
    go_ret
    exact ⟨rfl, BX⟩
  by_cases hl1 : 1099511627776 < lo
  · go_wp2_with fail
    go_ret
    exact ⟨rfl, BX⟩
  by_cases ht : 20 < tm
  · go_wp2_with fail
    go_ret
    exact ⟨rfl, BX⟩
  go_wp2_with (refine wpList_load_row rfl 29 (.tmp 3) rfl w.heap.size rfl 29 _ (0, 0) _ K3 Tryd.underlying29 rfl (by kernel_rfl) ?_)
  have hlo : 0 ≤ lo ∧ lo ≤ 1099511627776 := by omega
  have htm : tm ≤ 20 := by omega
  clear hl0 hl1 ht
  refine (HOw.out _ BX).mono ?_
  rintro e W3 ⟨O1, O2, O3, O4, rfl, HO1, b3⟩
  replace BX := thenB BX b3
  replace K3 := K3.below b3 K3.lt
  clear b3
  go_wp2_with fail
  refine (HSt.out _ O1 O2 O3 O4 _ BX HO1).mono ?_
  rintro e W4 ⟨A1, A2, A3, A4, rfl, HA, b4⟩
  replace BX := thenB BX b4
  replace K3 := K3.below b4 K3.lt
  replace HO1 := HO1.below b4
  clear b4
  clear HO1
  have K7 : Blk (W4.alloc (.cells #[.int .i64 0, .int .i64 0, .int .i64 0, .int .u64 0, .int .i64 0, .int .u64 0, .slice none 0 0, .slice none 0 0, .int .i64 0, .slice none 0 0, .slice none 0 0, .int .u64 0, .bool false, .int .i64 0, .int .i64 0] 33)) W4.heap.size 33 #[.int .i64 0, .int .i64 0, .int .i64 0, .int .u64 0, .int .i64 0, .int .u64 0, .slice none 0 0, .slice none 0 0, .int .i64 0, .slice none 0 0, .slice none 0 0, .int .u64 0, .bool false, .int .i64 0, .int .i64 0] := Blk.fresh W4 33 #[.int .i64 0, .int .i64 0, .int .i64 0, .int .u64 0, .int .i64 0, .int .u64 0, .slice none 0 0, .slice none 0 0, .int .i64 0, .slice none 0 0, .slice none 0 0, .int .u64 0, .bool false, .int .i64 0, .int .i64 0]
  have l9K3 := K3.lt
  have B9 := (Below.refl W4.heap.size W4).alloc (Nat.le_refl _) (.cells #[.int .i64 0, .int .i64 0, .int .i64 0, .int .u64 0, .int .i64 0, .int .u64 0, .slice none 0 0, .slice none 0 0, .int .i64 0, .slice none 0 0, .slice none 0 0, .int .u64 0, .bool false, .int .i64 0, .int .i64 0] 33)
  replace B9 := below_setRow B9 (Nat.le_refl _) #[.int .i64 AD.p.k, .int .i64 AD.p.it, .int .i64 AD.p.ok, .int .u64 AD.p.ob, .int .i64 AD.p.tk, .int .u64 AD.p.tb, A1, A2, .int .i64 AD.p.po, A3, A4, .int .u64 AD.p.sd, .bool AD.on, .int .i64 AD.ev, .int .i64 AD.nx]
  have H1 : (#[.int .i64 AD.p.k, .int .i64 AD.p.it, .int .i64 AD.p.ok, .int .u64 AD.p.ob, .int .i64 AD.p.tk, .int .u64 AD.p.tb, A1, A2, .int .i64 AD.p.po, A3, A4, .int .u64 AD.p.sd, .bool AD.on, .int .i64 AD.ev, .int .i64 AD.nx] : Array Value).all (·.oneCell') = true := HA.one AD
  have K7' : Blk ((W4.alloc (.cells #[.int .i64 0, .int .i64 0, .int .i64 0, .int .u64 0, .int .i64 0, .int .u64 0, .slice none 0 0, .slice none 0 0, .int .i64 0, .slice none 0 0, .slice none 0 0, .int .u64 0, .bool false, .int .i64 0, .int .i64 0] 33)).setRow W4.heap.size #[.int .i64 AD.p.k, .int .i64 AD.p.it, .int .i64 AD.p.ok, .int .u64 AD.p.ob, .int .i64 AD.p.tk, .int .u64 AD.p.tb, A1, A2, .int .i64 AD.p.po, A3, A4, .int .u64 AD.p.sd, .bool AD.on, .int .i64 AD.ev, .int .i64 AD.nx]) W4.heap.size 33 #[.int .i64 AD.p.k, .int .i64 AD.p.it, .int .i64 AD.p.ok, .int .u64 AD.p.ob, .int .i64 AD.p.tk, .int .u64 AD.p.tb, A1, A2, .int .i64 AD.p.po, A3, A4, .int .u64 AD.p.sd, .bool AD.on, .int .i64 AD.ev, .int .i64 AD.nx] := bset_row K7
  go_upto_region 6 with (refine wpList_store_row rfl 33 (.tmp 7) _ rfl (W4.heap.size) #[.int .i64 AD.p.k, .int .i64 AD.p.it, .int .i64 AD.p.ok, .int .u64 AD.p.ob, .int .i64 AD.p.tk, .int .u64 AD.p.tb, A1, A2, .int .i64 AD.p.po, A3, A4, .int .u64 AD.p.sd, .bool AD.on, .int .i64 AD.ev, .int .i64 AD.nx] rfl rfl 33 _ K7 (by kernel_rfl) rfl H1 ?_)
  have hg7 : w.heap.size < W4.heap.size := K3.lt
  clear K7 H1
  have K7 := K7'
  clear K7'
  replace K3 := K3.below B9 l9K3
  replace HA := HA.below B9
  replace BX := thenB BX B9
  clear B9 l9K3
  generalize (W4.alloc (.cells #[.int .i64 0, .int .i64 0, .int .i64 0, .int .u64 0, .int .i64 0, .int .u64 0, .slice none 0 0, .slice none 0 0, .int .i64 0, .slice none 0 0, .slice none 0 0, .int .u64 0, .bool false, .int .i64 0, .int .i64 0] 33)).setRow W4.heap.size #[.int .i64 AD.p.k, .int .i64 AD.p.it, .int .i64 AD.p.ok, .int .u64 AD.p.ob, .int .i64 AD.p.tk, .int .u64 AD.p.tb, A1, A2, .int .i64 AD.p.po, A3, A4, .int .u64 AD.p.sd, .bool AD.on, .int .i64 AD.ev, .int .i64 AD.nx] = Y1 at *
  generalize W4.heap.size = g7 at *
  by_cases hE : E = 0
  rotate_left
  · have gE : (E != 0) = true := by simpa using hE
    go_wp2_with fail
    go_ret
    exact ⟨rfl, BX⟩
  have hAD := HO.out hlo.1 hlo.2 hE
  have hit := HIt.out hE
  subst hE
  subst hAD
  simp only at K7 HA
  clear HO HIt HSt HOw HSm HLi
  have HA : Has Y1 0 p A1 A2 A3 A4 := HA.less (Nat.zero_le _)
  go_wp2_with fail
  go_loopw [9] (fun s9 wr => ∃ (j : Nat) (nx : Int) (V1 V2 V3 V4 : Value), s9 = .int .i64 (j : Int) ∧ j ≤ 20 ∧ lo ≤ nx ∧ nx ≤ lo + (j : Int) * 10249999 ∧ Has wr 0 p V1 V2 V3 V4 ∧ Blk wr g7 33 #[.int .i64 p.k, .int .i64 p.it, .int .i64 p.ok, .int .u64 p.ob, .int .i64 p.tk, .int .u64 p.tb, V1, V2, .int .i64 p.po, V3, V4, .int .u64 p.sd, .bool true, .int .i64 (j : Int), .int .i64 nx] ∧ Blk wr w.heap.size 29 #[.int .i64 p.k, .int .i64 p.it, .int .i64 p.ok, .int .u64 p.ob, .int .i64 p.tk, .int .u64 p.tb, VD, VS, .int .i64 p.po, VA, VI, .int .u64 p.sd] ∧ Below w.heap.size w wr) (fun s9 _ => 20 - (intOf s9).toNat)
  case atStart => exact ⟨0, lo, A1, A2, A3, A4, rfl, by omega, by omega, by omega, HA, K7, K3, BX⟩
  case round =>
    obtain ⟨j, nx, V1, V2, V3, V4, rfl, hj, hn1, hn2, HV, K7', K3', BX'⟩ := hrel
    clear HA K7 K3 BX
    have HA := HV
    have K7 := K7'
    have K3 := K3'
    have BX := BX'
    clear HV K7' K3' BX'
    by_cases cj : (j : Int) < tm
    · have cj' : (j : Int) < 20 := by omega
      have hj0 : 0 ≤ (j : Int) ∧ (j : Int) ≤ 1000000 := by omega
      have hit0 : 0 ≤ p.it ∧ p.it ≤ 16384 := by omega
      have hnb : 0 ≤ nx ∧ nx ≤ 1304511607756 := by omega
      have hdd := HD.out (j : Int)
      have hdue := Lib.hid (ev_due p (j : Int) nx (by omega))
      generalize delZ p.sd (j : Int) = DL at *
      obtain ⟨N, hN⟩ : ∃ N, nx + p.it * 625 + DL = N := ⟨_, rfl⟩
      have hNb : lo ≤ N ∧ N ≤ lo + ((j : Int) + 1) * 10249999 := by omega
      rw [hN] at hdue
      have e1 : IntKind.i64.wrap (nx - 1) = nx - 1 := by simp only [IntKind.wrap, IntKind.signed, IntKind.bits]; simp; omega
      have e2 : IntKind.i64.wrap (N - nx) = N - nx := by simp only [IntKind.wrap, IntKind.signed, IntKind.bits]; simp; omega
      have e3 : IntKind.i64.wrap (p.it * 625) = p.it * 625 := by simp only [IntKind.wrap, IntKind.signed, IntKind.bits]; simp; omega
      have e4 : IntKind.i64.wrap (N - nx - p.it * 625) = DL := by simp only [IntKind.wrap, IntKind.signed, IntKind.bits]; simp; omega
      have e5 : IntKind.i64.wrap ((j : Int) + 1) = (j : Int) + 1 := by simp only [IntKind.wrap, IntKind.signed, IntKind.bits]; simp; omega
      have n1 : ¬ DL < 0 := by omega
      have n2 : ¬ 9999 < DL := by omega
      have n3 : ¬ nx < lo := by omega
      have n4 : ¬ 2199023255552 < nx := by omega
      have HF2 : Hid (∀ X U1 U2 U3 U4 mm, Has X mm p U1 U2 U3 U4 → Calls Tryd.prog 20 #[.agg #[.int .i64 p.k, .int .i64 p.it, .int .i64 p.ok, .int .u64 p.ob, .int .i64 p.tk, .int .u64 p.tb, U1, U2, .int .i64 p.po, U3, U4, .int .u64 p.sd, .bool true, .int .i64 (j : Int), .int .i64 nx], .int .i64 nx] X fun e w' => FirR X w' e ⟨p, true, (j : Int) + 1, N⟩ [⟨37, nx, annP p⟩, ⟨38, nx + 1000, annP p⟩, ⟨39, nx + 2000, annP p⟩]) := Lib.hid fun X U1 U2 U3 U4 mm h => by have := HFi.out X U1 U2 U3 U4 (j : Int) nx nx mm hit0 hj0 h; rwa [hdue.out.1, hdue.out.2] at this
      have HN := Lib.hid hN
      have HNB := Lib.hid hNb
      clear hN hNb hdue hdd
      have c14 := K7.cell 14
      go_wp2_with (refine wpList_load_row rfl 33 (.tmp 7) rfl g7 rfl 33 _ (0, 0) _ K7 Tryd.underlying33 rfl (by kernel_rfl) ?_)
      refine (HFi.out _ V1 V2 V3 V4 (j : Int) nx (nx - 1) _ hit0 hj0 HA).mono ?_
      rintro e W6 ⟨B1, B2, B3, B4, VE, rfl, HB, SE, b6⟩
      clear c14
      have HVE : ∃ A n c, VE = .slice A n c ∧ (0 < nx → n = 0) := by obtain ⟨Vs, h1, ⟨A, c, e, hc, _⟩, _⟩ := SE; exact ⟨A, _, c, e, fun h => by rw [ev_early p (j : Int) nx ⟨h, by omega⟩]; rfl⟩
      obtain ⟨AE, nE, cE, rfl, hnE⟩ := HVE
      clear SE
      generalize fireA ⟨p, true, (j : Int), nx⟩ (nx - 1) = FA at *
      replace BX := thenB BX b6
      replace K3 := K3.below b6 K3.lt
      replace K7 := K7.below b6 K7.lt
      replace HA := HA.below b6
      clear b6
      have K11 : Blk (W6.alloc (.cells #[.int .i64 0, .int .i64 0, .int .i64 0, .int .u64 0, .int .i64 0, .int .u64 0, .slice none 0 0, .slice none 0 0, .int .i64 0, .slice none 0 0, .slice none 0 0, .int .u64 0, .bool false, .int .i64 0, .int .i64 0] 33)) W6.heap.size 33 #[.int .i64 0, .int .i64 0, .int .i64 0, .int .u64 0, .int .i64 0, .int .u64 0, .slice none 0 0, .slice none 0 0, .int .i64 0, .slice none 0 0, .slice none 0 0, .int .u64 0, .bool false, .int .i64 0, .int .i64 0] := Blk.fresh W6 33 #[.int .i64 0, .int .i64 0, .int .i64 0, .int .u64 0, .int .i64 0, .int .u64 0, .slice none 0 0, .slice none 0 0, .int .i64 0, .slice none 0 0, .slice none 0 0, .int .u64 0, .bool false, .int .i64 0, .int .i64 0]
      have l9K3 := K3.lt
      have l9K7 := K7.lt
      have B9 := (Below.refl W6.heap.size W6).alloc (Nat.le_refl _) (.cells #[.int .i64 0, .int .i64 0, .int .i64 0, .int .u64 0, .int .i64 0, .int .u64 0, .slice none 0 0, .slice none 0 0, .int .i64 0, .slice none 0 0, .slice none 0 0, .int .u64 0, .bool false, .int .i64 0, .int .i64 0] 33)
      replace B9 := below_setRow B9 (Nat.le_refl _) #[.int .i64 FA.p.k, .int .i64 FA.p.it, .int .i64 FA.p.ok, .int .u64 FA.p.ob, .int .i64 FA.p.tk, .int .u64 FA.p.tb, B1, B2, .int .i64 FA.p.po, B3, B4, .int .u64 FA.p.sd, .bool FA.on, .int .i64 FA.ev, .int .i64 FA.nx]
      have H1 : (#[.int .i64 FA.p.k, .int .i64 FA.p.it, .int .i64 FA.p.ok, .int .u64 FA.p.ob, .int .i64 FA.p.tk, .int .u64 FA.p.tb, B1, B2, .int .i64 FA.p.po, B3, B4, .int .u64 FA.p.sd, .bool FA.on, .int .i64 FA.ev, .int .i64 FA.nx] : Array Value).all (·.oneCell') = true := HB.one FA
      have K11' : Blk ((W6.alloc (.cells #[.int .i64 0, .int .i64 0, .int .i64 0, .int .u64 0, .int .i64 0, .int .u64 0, .slice none 0 0, .slice none 0 0, .int .i64 0, .slice none 0 0, .slice none 0 0, .int .u64 0, .bool false, .int .i64 0, .int .i64 0] 33)).setRow W6.heap.size #[.int .i64 FA.p.k, .int .i64 FA.p.it, .int .i64 FA.p.ok, .int .u64 FA.p.ob, .int .i64 FA.p.tk, .int .u64 FA.p.tb, B1, B2, .int .i64 FA.p.po, B3, B4, .int .u64 FA.p.sd, .bool FA.on, .int .i64 FA.ev, .int .i64 FA.nx]) W6.heap.size 33 #[.int .i64 FA.p.k, .int .i64 FA.p.it, .int .i64 FA.p.ok, .int .u64 FA.p.ob, .int .i64 FA.p.tk, .int .u64 FA.p.tb, B1, B2, .int .i64 FA.p.po, B3, B4, .int .u64 FA.p.sd, .bool FA.on, .int .i64 FA.ev, .int .i64 FA.nx] := bset_row K11
      go_upto_region 13 with (refine wpList_store_row rfl 33 (.tmp 11) _ rfl (W6.heap.size) #[.int .i64 FA.p.k, .int .i64 FA.p.it, .int .i64 FA.p.ok, .int .u64 FA.p.ob, .int .i64 FA.p.tk, .int .u64 FA.p.tb, B1, B2, .int .i64 FA.p.po, B3, B4, .int .u64 FA.p.sd, .bool FA.on, .int .i64 FA.ev, .int .i64 FA.nx] rfl rfl 33 _ K11 (by kernel_rfl) rfl H1 ?_)
      clear K11 H1
      have K11 := K11'
      clear K11'
      replace K3 := K3.below B9 l9K3
      replace K7 := K7.below B9 l9K7
      replace HA := HA.below B9
      replace BX := thenB BX B9
      clear B9 l9K3 l9K7
      generalize (W6.alloc (.cells #[.int .i64 0, .int .i64 0, .int .i64 0, .int .u64 0, .int .i64 0, .int .u64 0, .slice none 0 0, .slice none 0 0, .int .i64 0, .slice none 0 0, .slice none 0 0, .int .u64 0, .bool false, .int .i64 0, .int .i64 0] 33)).setRow W6.heap.size #[.int .i64 FA.p.k, .int .i64 FA.p.it, .int .i64 FA.p.ok, .int .u64 FA.p.ob, .int .i64 FA.p.tk, .int .u64 FA.p.tb, B1, B2, .int .i64 FA.p.po, B3, B4, .int .u64 FA.p.sd, .bool FA.on, .int .i64 FA.ev, .int .i64 FA.nx] = Y2 at *
      generalize W6.heap.size = g11 at *
      clear K11 HB
      have c14 := K7.cell 14
      go_wp2_with (refine wpList_load_row rfl 33 (.tmp 7) rfl g7 rfl 33 _ (0, 0) _ K7 Tryd.underlying33 rfl (by kernel_rfl) ?_)
      refine (HF2.out _ V1 V2 V3 V4 _ HA).mono ?_
      rintro e W7 ⟨D1, D2, D3, D4, VL, rfl, HB, SL, b7⟩
      clear c14
      replace HB : Has W7 (g7 + 1) p D1 D2 D3 D4 := HB.less (show g7 + 1 ≤ Y2.heap.size from K7.lt)
      replace SL := SL.less (Nat.zero_le _)
      replace BX := thenB BX b7
      replace K3 := K3.below b7 K3.lt
      replace K7 := K7.below b7 K7.lt
      replace HA := HA.below b7
      clear b7
      have K13 : Blk (W7.alloc (.cells #[.int .i64 0, .int .i64 0, .int .i64 0, .int .u64 0, .int .i64 0, .int .u64 0, .slice none 0 0, .slice none 0 0, .int .i64 0, .slice none 0 0, .slice none 0 0, .int .u64 0, .bool false, .int .i64 0, .int .i64 0] 33)) W7.heap.size 33 #[.int .i64 0, .int .i64 0, .int .i64 0, .int .u64 0, .int .i64 0, .int .u64 0, .slice none 0 0, .slice none 0 0, .int .i64 0, .slice none 0 0, .slice none 0 0, .int .u64 0, .bool false, .int .i64 0, .int .i64 0] := Blk.fresh W7 33 #[.int .i64 0, .int .i64 0, .int .i64 0, .int .u64 0, .int .i64 0, .int .u64 0, .slice none 0 0, .slice none 0 0, .int .i64 0, .slice none 0 0, .slice none 0 0, .int .u64 0, .bool false, .int .i64 0, .int .i64 0]
      have l9K3 := K3.lt
      have l9K7 := K7.lt
      have B9 := (Below.refl W7.heap.size W7).alloc (Nat.le_refl _) (.cells #[.int .i64 0, .int .i64 0, .int .i64 0, .int .u64 0, .int .i64 0, .int .u64 0, .slice none 0 0, .slice none 0 0, .int .i64 0, .slice none 0 0, .slice none 0 0, .int .u64 0, .bool false, .int .i64 0, .int .i64 0] 33)
      replace B9 := below_setRow B9 (Nat.le_refl _) #[.int .i64 p.k, .int .i64 p.it, .int .i64 p.ok, .int .u64 p.ob, .int .i64 p.tk, .int .u64 p.tb, D1, D2, .int .i64 p.po, D3, D4, .int .u64 p.sd, .bool true, .int .i64 ((j : Int) + 1), .int .i64 N]
      have H1 : (#[.int .i64 p.k, .int .i64 p.it, .int .i64 p.ok, .int .u64 p.ob, .int .i64 p.tk, .int .u64 p.tb, D1, D2, .int .i64 p.po, D3, D4, .int .u64 p.sd, .bool true, .int .i64 ((j : Int) + 1), .int .i64 N] : Array Value).all (·.oneCell') = true := HB.one ⟨p, true, (j : Int) + 1, N⟩
      have K13' : Blk ((W7.alloc (.cells #[.int .i64 0, .int .i64 0, .int .i64 0, .int .u64 0, .int .i64 0, .int .u64 0, .slice none 0 0, .slice none 0 0, .int .i64 0, .slice none 0 0, .slice none 0 0, .int .u64 0, .bool false, .int .i64 0, .int .i64 0] 33)).setRow W7.heap.size #[.int .i64 p.k, .int .i64 p.it, .int .i64 p.ok, .int .u64 p.ob, .int .i64 p.tk, .int .u64 p.tb, D1, D2, .int .i64 p.po, D3, D4, .int .u64 p.sd, .bool true, .int .i64 ((j : Int) + 1), .int .i64 N]) W7.heap.size 33 #[.int .i64 p.k, .int .i64 p.it, .int .i64 p.ok, .int .u64 p.ob, .int .i64 p.tk, .int .u64 p.tb, D1, D2, .int .i64 p.po, D3, D4, .int .u64 p.sd, .bool true, .int .i64 ((j : Int) + 1), .int .i64 N] := bset_row K13
      go_upto_region 14 with (refine wpList_store_row rfl 33 (.tmp 13) _ rfl (W7.heap.size) #[.int .i64 p.k, .int .i64 p.it, .int .i64 p.ok, .int .u64 p.ob, .int .i64 p.tk, .int .u64 p.tb, D1, D2, .int .i64 p.po, D3, D4, .int .u64 p.sd, .bool true, .int .i64 ((j : Int) + 1), .int .i64 N] rfl rfl 33 _ K13 (by kernel_rfl) rfl H1 ?_)
      clear K13 H1
      have K13 := K13'
      clear K13'
      replace K3 := K3.below B9 l9K3
      replace K7 := K7.below B9 l9K7
      replace HA := HA.below B9
      replace HB := HB.below B9
      replace SL := SL.below B9
      replace BX := thenB BX B9
      clear B9 l9K3 l9K7
      generalize (W7.alloc (.cells #[.int .i64 0, .int .i64 0, .int .i64 0, .int .u64 0, .int .i64 0, .int .u64 0, .slice none 0 0, .slice none 0 0, .int .i64 0, .slice none 0 0, .slice none 0 0, .int .u64 0, .bool false, .int .i64 0, .int .i64 0] 33)).setRow W7.heap.size #[.int .i64 p.k, .int .i64 p.it, .int .i64 p.ok, .int .u64 p.ob, .int .i64 p.tk, .int .u64 p.tb, D1, D2, .int .i64 p.po, D3, D4, .int .u64 p.sd, .bool true, .int .i64 ((j : Int) + 1), .int .i64 N] = Y3 at *
      generalize W7.heap.size = g13 at *
      obtain ⟨VsM, hvm, RMs, RMd⟩ := SL
      obtain ⟨U0, U1, U2, rfl⟩ : ∃ a b c, VsM = [a, b, c] := by match VsM, hvm with | [a, b, c], _ => exact ⟨a, b, c, rfl⟩
      obtain ⟨AM, cM, rfl, hcM, RM⟩ := RMs
      rcases RM with h | ⟨bM, oM, rfl, _, hbM, hqM⟩
      · simp [encD] at h
      have hq : ∀ (q : Nat) u, ([.int .i64 37, .int .i64 nx] ++ ((#[.int .i64 p.k, .int .i64 p.ok, .int .u64 p.ob, .int .i64 p.tk, .int .u64 p.tb, U0, .int .u32 0, .int .u32 0, .int .i64 0, .int .i64 0, .int .i64 0, .int .i64 0, .int .i64 0, .int .u64 0, .int .i64 0, .int .i64 0, .int .i64 0] : Array Value).toList ++ ([.int .i64 38, .int .i64 (nx + 1000)] ++ ((#[.int .i64 p.k, .int .i64 p.ok, .int .u64 p.ob, .int .i64 p.tk, .int .u64 p.tb, U1, .int .u32 0, .int .u32 0, .int .i64 0, .int .i64 0, .int .i64 0, .int .i64 0, .int .i64 0, .int .u64 0, .int .i64 0, .int .i64 0, .int .i64 0] : Array Value).toList ++ ([.int .i64 39, .int .i64 (nx + 2000)] ++ (#[.int .i64 p.k, .int .i64 p.ok, .int .u64 p.ob, .int .i64 p.tk, .int .u64 p.tb, U2, .int .u32 0, .int .u32 0, .int .i64 0, .int .i64 0, .int .i64 0, .int .i64 0, .int .i64 0, .int .u64 0, .int .i64 0, .int .i64 0, .int .i64 0] : Array Value).toList)))))[q]? = some u → Y3.cell? ⟨bM, oM + q, none⟩ = some u := hqM
      clear hqM
      have HKq : Hid (∀ k : Nat, k < 3 → ∃ U, Row Y3 0 U p.ds.length (p.ds.map (Value.int .u8)) ∧ Y3.cell? ⟨bM, oM + k * 19, none⟩ = some (.int .i64 (37 + (k : Int))) ∧ Y3.cell? ⟨bM, oM + k * 19 + 1, none⟩ = some (.int .i64 (nx + 1000 * (k : Int))) ∧ ∀ (i : Nat) v, (#[.int .i64 p.k, .int .i64 p.ok, .int .u64 p.ob, .int .i64 p.tk, .int .u64 p.tb, U, .int .u32 0, .int .u32 0, .int .i64 0, .int .i64 0, .int .i64 0, .int .i64 0, .int .i64 0, .int .u64 0, .int .i64 0, .int .i64 0, .int .i64 0] : Array Value).toList[i]? = some v → Y3.cell? ⟨bM, oM + k * 19 + 2 + i, none⟩ = some v) := Lib.hid fun k hk => by
        obtain rfl | rfl | rfl : k = 0 ∨ k = 1 ∨ k = 2 := by omega
        · exact ⟨U0, RMd (⟨37, nx, annP p⟩, U0) (by simp), by simpa using hq 0 _ rfl, by simpa using hq 1 _ rfl, fun i v hi => by have := hq (2 + i) v (by rw [look2 _ _ 2 _ rfl]; exact lookL hi); rwa [show oM + (2 + i) = oM + 0 * 19 + 2 + i by omega] at this⟩
        · exact ⟨U1, RMd (⟨38, nx + 1000, annP p⟩, U1) (by simp), by simpa using hq 19 _ rfl, by have := hq 20 _ rfl; simpa [Nat.add_assoc] using this, fun i v hi => by have := hq (2 + (17 + (2 + i))) v (by rw [look2 _ _ 2 _ rfl, look2 _ _ 17 _ rfl, look2 _ _ 2 _ rfl]; exact lookL hi); rwa [show oM + (2 + (17 + (2 + i))) = oM + 1 * 19 + 2 + i by omega] at this⟩
        · exact ⟨U2, RMd (⟨39, nx + 2000, annP p⟩, U2) (by simp), by simpa using hq 38 _ rfl, by have := hq 39 _ rfl; simpa [Nat.add_assoc] using this, fun i v hi => by have := hq (2 + (17 + (2 + (17 + (2 + i))))) v (by rw [look2 _ _ 2 _ rfl, look2 _ _ 17 _ rfl, look2 _ _ 2 _ rfl, look2 _ _ 17 _ rfl, look2 _ _ 2 _ rfl]; exact hi); rwa [show oM + (2 + (17 + (2 + (17 + (2 + i))))) = oM + 2 * 19 + 2 + i by omega] at this⟩
      clear hq RMd hvm
      simp only [List.length_cons, List.length_nil] at hcM ⊢
      have hcM : 3 ≤ cM := hcM
      have lbM : bM < Y3.heap.size := hbM
      clear hbM
      have p12 := K13.cell 12
      have p14 := K13.cell 14
      have p1 := K3.cell 1
      by_cases h0 : 0 < nx
      · obtain rfl := hnE h0
        go_wp2_with fail
        clear p12 p14 p1
        go_loopw [16] (fun s16 wr => ∃ k : Nat, s16 = .int .i64 (k : Int) ∧ k ≤ 3 ∧ Below Y3.heap.size Y3 wr) (fun s16 _ => 3 - (intOf s16).toNat)
        case atStart => exact ⟨0, rfl, by omega, Below.refl _ _⟩
        case round =>
          obtain ⟨k, rfl, hk, b8⟩ := hrel
          have M3 := K3.below b8 K3.lt
          have M7 := K7.below b8 K7.lt
          have M13 := K13.below b8 K13.lt
          have MX := thenB BX b8
          have M9 := b8.size
          clear K3 K7 K13 BX
          by_cases ck : k < 3
          · obtain ⟨U, RU, k0, k1, kq⟩ := HKq.out k ck
            replace RU := RU.below b8
            replace k0 := (b8.cell (p := ⟨bM, oM + k * 19, none⟩) lbM).trans k0
            replace k1 := (b8.cell (p := ⟨bM, oM + k * 19 + 1, none⟩) lbM).trans k1
            replace kq := fun i v hi => (b8.cell (p := ⟨bM, oM + k * 19 + 2 + i, none⟩) lbM).trans (kq i v hi)
            have lbW : bM < wr.heap.size := Nat.lt_of_lt_of_le lbM b8.size
            have g1 : (0 : Int) ≤ (k : Int) ∧ (k : Int) < 3 := by omega
            have f1 : IntKind.i64.wrap (37 + (k : Int)) = 37 + (k : Int) := by simp only [IntKind.wrap, IntKind.signed, IntKind.bits]; simp; omega
            have f2 : IntKind.i64.wrap (1000 * (k : Int)) = 1000 * (k : Int) := by simp only [IntKind.wrap, IntKind.signed, IntKind.bits]; simp; omega
            have f3 : IntKind.i64.wrap (nx + 1000 * (k : Int)) = nx + 1000 * (k : Int) := by simp only [IntKind.wrap, IntKind.signed, IntKind.bits]; simp; omega
            go_upto_region 20 with (fail)
            have K17 : Blk (wr.alloc (.cells #[.int .i64 0, .int .i64 0, .int .u64 0, .int .i64 0, .int .u64 0, .slice none 0 0, .int .u32 0, .int .u32 0, .int .i64 0, .int .i64 0, .int .i64 0, .int .i64 0, .int .i64 0, .int .u64 0, .int .i64 0, .int .i64 0, .int .i64 0] 52)) wr.heap.size 52 #[.int .i64 0, .int .i64 0, .int .u64 0, .int .i64 0, .int .u64 0, .slice none 0 0, .int .u32 0, .int .u32 0, .int .i64 0, .int .i64 0, .int .i64 0, .int .i64 0, .int .i64 0, .int .u64 0, .int .i64 0, .int .i64 0, .int .i64 0] := Blk.fresh wr 52 _
            have oU := RU.one
            have H1 : (#[.int .i64 p.k, .int .i64 p.ok, .int .u64 p.ob, .int .i64 p.tk, .int .u64 p.tb, U, .int .u32 0, .int .u32 0, .int .i64 0, .int .i64 0, .int .i64 0, .int .i64 0, .int .i64 0, .int .u64 0, .int .i64 0, .int .i64 0, .int .i64 0] : Array Value).all (·.oneCell') = true := by rw [← Array.all_toList]; simp only [List.all_cons, List.all_nil, oU, Bool.and_true, Bool.and_self]; rfl
            have B9 := (Below.refl wr.heap.size wr).alloc (Nat.le_refl _) (.cells #[.int .i64 0, .int .i64 0, .int .u64 0, .int .i64 0, .int .u64 0, .slice none 0 0, .int .u32 0, .int .u32 0, .int .i64 0, .int .i64 0, .int .i64 0, .int .i64 0, .int .i64 0, .int .u64 0, .int .i64 0, .int .i64 0, .int .i64 0] 52)
            replace B9 := below_setRow B9 (Nat.le_refl _) #[.int .i64 p.k, .int .i64 p.ok, .int .u64 p.ob, .int .i64 p.tk, .int .u64 p.tb, U, .int .u32 0, .int .u32 0, .int .i64 0, .int .i64 0, .int .i64 0, .int .i64 0, .int .i64 0, .int .u64 0, .int .i64 0, .int .i64 0, .int .i64 0]
            have K17' : Blk ((wr.alloc (.cells #[.int .i64 0, .int .i64 0, .int .u64 0, .int .i64 0, .int .u64 0, .slice none 0 0, .int .u32 0, .int .u32 0, .int .i64 0, .int .i64 0, .int .i64 0, .int .i64 0, .int .i64 0, .int .u64 0, .int .i64 0, .int .i64 0, .int .i64 0] 52)).setRow wr.heap.size #[.int .i64 p.k, .int .i64 p.ok, .int .u64 p.ob, .int .i64 p.tk, .int .u64 p.tb, U, .int .u32 0, .int .u32 0, .int .i64 0, .int .i64 0, .int .i64 0, .int .i64 0, .int .i64 0, .int .u64 0, .int .i64 0, .int .i64 0, .int .i64 0]) wr.heap.size 52 #[.int .i64 p.k, .int .i64 p.ok, .int .u64 p.ob, .int .i64 p.tk, .int .u64 p.tb, U, .int .u32 0, .int .u32 0, .int .i64 0, .int .i64 0, .int .i64 0, .int .i64 0, .int .i64 0, .int .u64 0, .int .i64 0, .int .i64 0, .int .i64 0] := bset_row K17
            go_upto_region 21 with (first | (refine wpList_load_cells rfl 52 (.tmp 115) rfl bM (oM + k * 19 + 2) rfl #[.int .i64 p.k, .int .i64 p.ok, .int .u64 p.ob, .int .i64 p.tk, .int .u64 p.tb, U, .int .u32 0, .int .u32 0, .int .i64 0, .int .i64 0, .int .i64 0, .int .i64 0, .int .i64 0, .int .u64 0, .int .i64 0, .int .i64 0, .int .i64 0] _ kq Tryd.underlying52 rfl (by kernel_rfl) ?_) | (refine wpList_store_row rfl 52 (.tmp 17) _ rfl (wr.heap.size) #[.int .i64 p.k, .int .i64 p.ok, .int .u64 p.ob, .int .i64 p.tk, .int .u64 p.tb, U, .int .u32 0, .int .u32 0, .int .i64 0, .int .i64 0, .int .i64 0, .int .i64 0, .int .i64 0, .int .u64 0, .int .i64 0, .int .i64 0, .int .i64 0] rfl rfl 52 _ K17 (by kernel_rfl) rfl H1 ?_))
            replace k0 := (B9.cell (p := ⟨bM, oM + k * 19, none⟩) lbW).trans k0
            replace k1 := (B9.cell (p := ⟨bM, oM + k * 19 + 1, none⟩) lbW).trans k1
            replace RU := RU.below B9
            replace M3 := M3.below B9 M3.lt
            replace MX := thenB MX B9
            replace b8 := b8.trans (B9.mono b8.size)
            clear K17 H1 kq
            generalize (wr.alloc (.cells #[.int .i64 0, .int .i64 0, .int .u64 0, .int .i64 0, .int .u64 0, .slice none 0 0, .int .u32 0, .int .u32 0, .int .i64 0, .int .i64 0, .int .i64 0, .int .i64 0, .int .i64 0, .int .u64 0, .int .i64 0, .int .i64 0, .int .i64 0] 52)).setRow wr.heap.size #[.int .i64 p.k, .int .i64 p.ok, .int .u64 p.ob, .int .i64 p.tk, .int .u64 p.tb, U, .int .u32 0, .int .u32 0, .int .i64 0, .int .i64 0, .int .i64 0, .int .i64 0, .int .i64 0, .int .u64 0, .int .i64 0, .int .i64 0, .int .i64 0] = Z1 at *
            generalize wr.heap.size = g17 at *
            have a0 := M3.cell 0
            have a2 := M3.cell 2
            have a3 := M3.cell 3
            have a4 := M3.cell 4
            have a5 := M3.cell 5
            have a6 := M3.cell 6
            have m0 := K17'.cell 0
            have m1 := K17'.cell 1
            have m2 := K17'.cell 2
            have m3 := K17'.cell 3
            have m4 := K17'.cell 4
            have m5 := K17'.cell 5
            go_wp2_with fail
            refine (HSS.out _ U _ MX RU).mono ?_
            rintro e Z2 ⟨rfl, rfl⟩
            go_wp2_with fail
            go_roundw
            case rel => exact ⟨k + 1, by go_num, by omega, b8⟩
            case measure => simp [intOf]; omega
          · obtain rfl : k = 3 := by omega
            have H1 : (#[.int .i64 p.k, .int .i64 p.it, .int .i64 p.ok, .int .u64 p.ob, .int .i64 p.tk, .int .u64 p.tb, D1, D2, .int .i64 p.po, D3, D4, .int .u64 p.sd, .bool true, .int .i64 ((j : Int) + 1), .int .i64 N] : Array Value).all (·.oneCell') = true := HB.one ⟨p, true, (j : Int) + 1, N⟩
            go_wp2_with (first | (refine wpList_load_row rfl 33 (.tmp 13) rfl g13 rfl 33 _ (0, 0) _ M13 Tryd.underlying33 rfl (by kernel_rfl) ?_) | (refine wpList_store_row rfl 33 (.tmp 7) _ rfl g7 #[.int .i64 p.k, .int .i64 p.it, .int .i64 p.ok, .int .u64 p.ob, .int .i64 p.tk, .int .u64 p.tb, D1, D2, .int .i64 p.po, D3, D4, .int .u64 p.sd, .bool true, .int .i64 ((j : Int) + 1), .int .i64 N] rfl rfl 33 _ M7 (by kernel_rfl) rfl H1 ?_))
            go_roundw
            case rel => exact ⟨j + 1, N, D1, D2, D3, D4, by go_num, by omega, HNB.out.1, by have := HNB.out.2; push_cast; omega, ((HB.below b8).farR (g := g7) (by omega)).less (Nat.zero_le _), bset_row M7, bother_row M3 (by omega), below_setRow MX (by omega) _⟩
            case measure => simp [intOf]; omega
      go_wp2_with fail
      clear p12 p14 p1
      go_loopw [16] (fun s16 wr => ∃ k : Nat, s16 = .int .i64 (k : Int) ∧ k ≤ 3 ∧ Below Y3.heap.size Y3 wr) (fun s16 _ => 3 - (intOf s16).toNat)
      case atStart => exact ⟨0, rfl, by omega, Below.refl _ _⟩
      case round =>
        obtain ⟨k, rfl, hk, b8⟩ := hrel
        have M3 := K3.below b8 K3.lt
        have M7 := K7.below b8 K7.lt
        have M13 := K13.below b8 K13.lt
        have MX := thenB BX b8
        have M9 := b8.size
        clear K3 K7 K13 BX
        by_cases ck : k < 3
        · obtain ⟨U, RU, k0, k1, kq⟩ := HKq.out k ck
          replace RU := RU.below b8
          replace k0 := (b8.cell (p := ⟨bM, oM + k * 19, none⟩) lbM).trans k0
          replace k1 := (b8.cell (p := ⟨bM, oM + k * 19 + 1, none⟩) lbM).trans k1
          replace kq := fun i v hi => (b8.cell (p := ⟨bM, oM + k * 19 + 2 + i, none⟩) lbM).trans (kq i v hi)
          have lbW : bM < wr.heap.size := Nat.lt_of_lt_of_le lbM b8.size
          have g1 : (0 : Int) ≤ (k : Int) ∧ (k : Int) < 3 := by omega
          have f1 : IntKind.i64.wrap (37 + (k : Int)) = 37 + (k : Int) := by simp only [IntKind.wrap, IntKind.signed, IntKind.bits]; simp; omega
          have f2 : IntKind.i64.wrap (1000 * (k : Int)) = 1000 * (k : Int) := by simp only [IntKind.wrap, IntKind.signed, IntKind.bits]; simp; omega
          have f3 : IntKind.i64.wrap (nx + 1000 * (k : Int)) = nx + 1000 * (k : Int) := by simp only [IntKind.wrap, IntKind.signed, IntKind.bits]; simp; omega
          go_upto_region 20 with (fail)
          have K17 : Blk (wr.alloc (.cells #[.int .i64 0, .int .i64 0, .int .u64 0, .int .i64 0, .int .u64 0, .slice none 0 0, .int .u32 0, .int .u32 0, .int .i64 0, .int .i64 0, .int .i64 0, .int .i64 0, .int .i64 0, .int .u64 0, .int .i64 0, .int .i64 0, .int .i64 0] 52)) wr.heap.size 52 #[.int .i64 0, .int .i64 0, .int .u64 0, .int .i64 0, .int .u64 0, .slice none 0 0, .int .u32 0, .int .u32 0, .int .i64 0, .int .i64 0, .int .i64 0, .int .i64 0, .int .i64 0, .int .u64 0, .int .i64 0, .int .i64 0, .int .i64 0] := Blk.fresh wr 52 _
          have oU := RU.one
          have H1 : (#[.int .i64 p.k, .int .i64 p.ok, .int .u64 p.ob, .int .i64 p.tk, .int .u64 p.tb, U, .int .u32 0, .int .u32 0, .int .i64 0, .int .i64 0, .int .i64 0, .int .i64 0, .int .i64 0, .int .u64 0, .int .i64 0, .int .i64 0, .int .i64 0] : Array Value).all (·.oneCell') = true := by rw [← Array.all_toList]; simp only [List.all_cons, List.all_nil, oU, Bool.and_true, Bool.and_self]; rfl
          have B9 := (Below.refl wr.heap.size wr).alloc (Nat.le_refl _) (.cells #[.int .i64 0, .int .i64 0, .int .u64 0, .int .i64 0, .int .u64 0, .slice none 0 0, .int .u32 0, .int .u32 0, .int .i64 0, .int .i64 0, .int .i64 0, .int .i64 0, .int .i64 0, .int .u64 0, .int .i64 0, .int .i64 0, .int .i64 0] 52)
          replace B9 := below_setRow B9 (Nat.le_refl _) #[.int .i64 p.k, .int .i64 p.ok, .int .u64 p.ob, .int .i64 p.tk, .int .u64 p.tb, U, .int .u32 0, .int .u32 0, .int .i64 0, .int .i64 0, .int .i64 0, .int .i64 0, .int .i64 0, .int .u64 0, .int .i64 0, .int .i64 0, .int .i64 0]
          have K17' : Blk ((wr.alloc (.cells #[.int .i64 0, .int .i64 0, .int .u64 0, .int .i64 0, .int .u64 0, .slice none 0 0, .int .u32 0, .int .u32 0, .int .i64 0, .int .i64 0, .int .i64 0, .int .i64 0, .int .i64 0, .int .u64 0, .int .i64 0, .int .i64 0, .int .i64 0] 52)).setRow wr.heap.size #[.int .i64 p.k, .int .i64 p.ok, .int .u64 p.ob, .int .i64 p.tk, .int .u64 p.tb, U, .int .u32 0, .int .u32 0, .int .i64 0, .int .i64 0, .int .i64 0, .int .i64 0, .int .i64 0, .int .u64 0, .int .i64 0, .int .i64 0, .int .i64 0]) wr.heap.size 52 #[.int .i64 p.k, .int .i64 p.ok, .int .u64 p.ob, .int .i64 p.tk, .int .u64 p.tb, U, .int .u32 0, .int .u32 0, .int .i64 0, .int .i64 0, .int .i64 0, .int .i64 0, .int .i64 0, .int .u64 0, .int .i64 0, .int .i64 0, .int .i64 0] := bset_row K17
          go_upto_region 21 with (first | (refine wpList_load_cells rfl 52 (.tmp 115) rfl bM (oM + k * 19 + 2) rfl #[.int .i64 p.k, .int .i64 p.ok, .int .u64 p.ob, .int .i64 p.tk, .int .u64 p.tb, U, .int .u32 0, .int .u32 0, .int .i64 0, .int .i64 0, .int .i64 0, .int .i64 0, .int .i64 0, .int .u64 0, .int .i64 0, .int .i64 0, .int .i64 0] _ kq Tryd.underlying52 rfl (by kernel_rfl) ?_) | (refine wpList_store_row rfl 52 (.tmp 17) _ rfl (wr.heap.size) #[.int .i64 p.k, .int .i64 p.ok, .int .u64 p.ob, .int .i64 p.tk, .int .u64 p.tb, U, .int .u32 0, .int .u32 0, .int .i64 0, .int .i64 0, .int .i64 0, .int .i64 0, .int .i64 0, .int .u64 0, .int .i64 0, .int .i64 0, .int .i64 0] rfl rfl 52 _ K17 (by kernel_rfl) rfl H1 ?_))
          replace k0 := (B9.cell (p := ⟨bM, oM + k * 19, none⟩) lbW).trans k0
          replace k1 := (B9.cell (p := ⟨bM, oM + k * 19 + 1, none⟩) lbW).trans k1
          replace RU := RU.below B9
          replace M3 := M3.below B9 M3.lt
          replace MX := thenB MX B9
          replace b8 := b8.trans (B9.mono b8.size)
          clear K17 H1 kq
          generalize (wr.alloc (.cells #[.int .i64 0, .int .i64 0, .int .u64 0, .int .i64 0, .int .u64 0, .slice none 0 0, .int .u32 0, .int .u32 0, .int .i64 0, .int .i64 0, .int .i64 0, .int .i64 0, .int .i64 0, .int .u64 0, .int .i64 0, .int .i64 0, .int .i64 0] 52)).setRow wr.heap.size #[.int .i64 p.k, .int .i64 p.ok, .int .u64 p.ob, .int .i64 p.tk, .int .u64 p.tb, U, .int .u32 0, .int .u32 0, .int .i64 0, .int .i64 0, .int .i64 0, .int .i64 0, .int .i64 0, .int .u64 0, .int .i64 0, .int .i64 0, .int .i64 0] = Z1 at *
          generalize wr.heap.size = g17 at *
          have a0 := M3.cell 0
          have a2 := M3.cell 2
          have a3 := M3.cell 3
          have a4 := M3.cell 4
          have a5 := M3.cell 5
          have a6 := M3.cell 6
          have m0 := K17'.cell 0
          have m1 := K17'.cell 1
          have m2 := K17'.cell 2
          have m3 := K17'.cell 3
          have m4 := K17'.cell 4
          have m5 := K17'.cell 5
          go_wp2_with fail
          refine (HSS.out _ U _ MX RU).mono ?_
          rintro e Z2 ⟨rfl, rfl⟩
          go_wp2_with fail
          go_roundw
          case rel => exact ⟨k + 1, by go_num, by omega, b8⟩
          case measure => simp [intOf]; omega
        · obtain rfl : k = 3 := by omega
          have H1 : (#[.int .i64 p.k, .int .i64 p.it, .int .i64 p.ok, .int .u64 p.ob, .int .i64 p.tk, .int .u64 p.tb, D1, D2, .int .i64 p.po, D3, D4, .int .u64 p.sd, .bool true, .int .i64 ((j : Int) + 1), .int .i64 N] : Array Value).all (·.oneCell') = true := HB.one ⟨p, true, (j : Int) + 1, N⟩
          go_wp2_with (first | (refine wpList_load_row rfl 33 (.tmp 13) rfl g13 rfl 33 _ (0, 0) _ M13 Tryd.underlying33 rfl (by kernel_rfl) ?_) | (refine wpList_store_row rfl 33 (.tmp 7) _ rfl g7 #[.int .i64 p.k, .int .i64 p.it, .int .i64 p.ok, .int .u64 p.ob, .int .i64 p.tk, .int .u64 p.tb, D1, D2, .int .i64 p.po, D3, D4, .int .u64 p.sd, .bool true, .int .i64 ((j : Int) + 1), .int .i64 N] rfl rfl 33 _ M7 (by kernel_rfl) rfl H1 ?_))
          go_roundw
          case rel => exact ⟨j + 1, N, D1, D2, D3, D4, by go_num, by omega, HNB.out.1, by have := HNB.out.2; push_cast; omega, ((HB.below b8).farR (g := g7) (by omega)).less (Nat.zero_le _), bset_row M7, bother_row M3 (by omega), below_setRow MX (by omega) _⟩
          case measure => simp [intOf]; omega
    · have hj0 : 0 ≤ (j : Int) ∧ (j : Int) ≤ 1000000 := by omega
      have hit0 : 0 ≤ p.it ∧ p.it ≤ 16384 := by omega
      go_upto_region 24 with (fail)
      have K7' : Blk wr.drew (g7) 33 #[.int .i64 p.k, .int .i64 p.it, .int .i64 p.ok, .int .u64 p.ob, .int .i64 p.tk, .int .u64 p.tb, V1, V2, .int .i64 p.po, V3, V4, .int .u64 p.sd, .bool true, .int .i64 (j : Int), .int .i64 nx] := Mem.Blk.drew K7
      refine wp_region_held_drew (S := (fun w' => Blk w' (g7) 33 #[.int .i64 p.k, .int .i64 p.it, .int .i64 p.ok, .int .u64 p.ob, .int .i64 p.tk, .int .u64 p.tb, V1, V2, .int .i64 p.po, V3, V4, .int .u64 p.sd, .bool true, .int .i64 (j : Int), .int .i64 nx])) (by kernel_rfl) ?_ (fun hHeld => ?_)
      · exact K7'
      replace K7 := K7'
      clear K7'
      replace BX : Below w.heap.size w wr.drew := BX.drew
      replace HA := HA.drew
      generalize wr.drew = X0 at *
      refine wpAnyH_take (i := 0) (v := .agg #[.int .i64 p.k, .int .i64 p.it, .int .i64 p.ok, .int .u64 p.ob, .int .i64 p.tk, .int .u64 p.tb, V1, V2, .int .i64 p.po, V3, V4, .int .u64 p.sd, .bool true, .int .i64 (j : Int), .int .i64 nx]) rfl (by kernel_rfl) (by kernel_rfl) (by kernel_rfl) (fun _ _ _ h => h) (Av.yields_part (by first | rfl | go_simp) _ _ rfl (g7) 0 rfl #[.int .i64 p.k, .int .i64 p.it, .int .i64 p.ok, .int .u64 p.ob, .int .i64 p.tk, .int .u64 p.tb, V1, V2, .int .i64 p.po, V3, V4, .int .u64 p.sd, .bool true, .int .i64 (j : Int), .int .i64 nx] _ 33 #[.int .i64 p.k, .int .i64 p.it, .int .i64 p.ok, .int .u64 p.ob, .int .i64 p.tk, .int .u64 p.tb, V1, V2, .int .i64 p.po, V3, V4, .int .u64 p.sd, .bool true, .int .i64 (j : Int), .int .i64 nx] (fun w9 hSw => hSw) rfl Tryd.underlying33 rfl (by kernel_rfl)) (by assumption) ?_
      simp only [List.getElem_toArray, List.getElem_cons_zero, List.getElem_cons_succ, Act.put, List.setIfInBounds_toArray, List.set_cons_zero, List.set_cons_succ]
      refine wpAnyH_take (i := 2) (v := .pointer (some ⟨g7, 14, none⟩)) rfl (by kernel_rfl) (by kernel_rfl) (by kernel_rfl) (fun _ _ _ h => h) (Or.inl ⟨by first | rfl | go_simp, by intro w9 hSw; (try dsimp only at hSw); go_simp⟩) (by assumption) ?_
      simp only [List.getElem_toArray, List.getElem_cons_zero, List.getElem_cons_succ, Act.put, List.setIfInBounds_toArray, List.set_cons_zero, List.set_cons_succ]
      refine wpAnyH_take (i := 3) (v := .int .i64 nx) rfl (by kernel_rfl) (by kernel_rfl) (by kernel_rfl) (fun _ _ _ h => h) (Or.inl ⟨by first | rfl | go_simp, by intro w9 hSw; (try dsimp only at hSw); have c9 := hSw.cell 14; clear hSw; go_simp⟩) (by assumption) ?_
      simp only [List.getElem_toArray, List.getElem_cons_zero, List.getElem_cons_succ, Act.put, List.setIfInBounds_toArray, List.set_cons_zero, List.set_cons_succ]
      refine wpAnyH_ready (rs := [1, 8]) (by kernel_rfl) (by simp) ?_
      refine AllReadyH.cons rfl (fun K hK => ?_) (AllReadyH.cons rfl (fun K hK => ?_) (AllReadyH.nil))
      · skip
        go_simp
        refine (HSp.out X0 V1 V2 V3 V4 (j : Int) nx _ HA).mono ?_
        rintro e X1 ⟨F1, F2, F3, F4, rfl, HSX, b9⟩
        replace HSX := HSX.less (Nat.zero_le _)
        replace K7 := K7.below b9 K7.lt
        replace BX := Base.thenB BX b9
        replace HA := HA.below b9
        clear b9
        refine hK.out _ _ K7 (fun hHeld => ?_)
        clear hK K
        try simp only [List.getElem_toArray, List.getElem_cons_zero, List.getElem_cons_succ, Act.put, List.setIfInBounds_toArray, List.set_cons_zero, List.set_cons_succ]
        refine wpAnyH_ready (rs := [4, 8]) (by kernel_rfl) (by simp) ?_
        refine AllReadyH.cons rfl (fun K hK => ?_) (AllReadyH.cons rfl (fun K hK => ?_) (AllReadyH.nil))
        · skip
          go_simp
          refine (HFn.out X1 F1 F2 F3 F4 (j : Int) nx nx _ hit0 hj0 HSX).mono ?_
          rintro e X2 ⟨FG, G1, G2, G3, G4, VN, rfl, HG, SN, b9⟩
          obtain ⟨VsN, _, ⟨AN, cN, rfl, _, _⟩, _⟩ := SN
          have oG1 := HG.d.one
          have oG2 := HG.s.one
          have oG3 := HG.a.one
          have oG4 := HG.i.one
          clear HG
          simp only [List.length_nil]
          replace K7 := K7.below b9 K7.lt
          replace BX := Base.thenB BX b9
          replace HA := HA.below b9
          replace HSX := HSX.below b9
          clear b9
          refine hK.out _ _ K7 (fun hHeld => ?_)
          clear hK K
          try simp only [List.getElem_toArray, List.getElem_cons_zero, List.getElem_cons_succ, Act.put, List.setIfInBounds_toArray, List.set_cons_zero, List.set_cons_succ]
          refine wpAnyH_take (i := 5) (v := .tuple #[.agg #[.int .i64 FG.p.k, .int .i64 FG.p.it, .int .i64 FG.p.ok, .int .u64 FG.p.ob, .int .i64 FG.p.tk, .int .u64 FG.p.tb, G1, G2, .int .i64 FG.p.po, G3, G4, .int .u64 FG.p.sd, .bool FG.on, .int .i64 FG.ev, .int .i64 FG.nx], .slice AN 0 cN]) rfl (by kernel_rfl) (by kernel_rfl) (by kernel_rfl) (fun _ _ _ h => h) (Or.inl ⟨by first | rfl | go_simp, by intro w9 hSw; (try dsimp only at hSw); go_simp⟩) (by assumption) ?_
          simp only [List.getElem_toArray, List.getElem_cons_zero, List.getElem_cons_succ, Act.put, List.setIfInBounds_toArray, List.set_cons_zero, List.set_cons_succ]
          refine wpAnyH_take (i := 6) (v := .agg #[.int .i64 FG.p.k, .int .i64 FG.p.it, .int .i64 FG.p.ok, .int .u64 FG.p.ob, .int .i64 FG.p.tk, .int .u64 FG.p.tb, G1, G2, .int .i64 FG.p.po, G3, G4, .int .u64 FG.p.sd, .bool FG.on, .int .i64 FG.ev, .int .i64 FG.nx]) rfl (by kernel_rfl) (by kernel_rfl) (by kernel_rfl) (fun _ _ _ h => h) (Or.inl ⟨by first | rfl | go_simp, by intro w9 hSw; (try dsimp only at hSw); go_simp⟩) (by assumption) ?_
          simp only [List.getElem_toArray, List.getElem_cons_zero, List.getElem_cons_succ, Act.put, List.setIfInBounds_toArray, List.set_cons_zero, List.set_cons_succ]
          refine wpAnyH_take (i := 7) (v := .slice AN 0 cN) rfl (by kernel_rfl) (by kernel_rfl) (by kernel_rfl) (fun _ _ _ h => h) (Or.inl ⟨by first | rfl | go_simp, by intro w9 hSw; (try dsimp only at hSw); go_simp⟩) (by assumption) ?_
          simp only [List.getElem_toArray, List.getElem_cons_zero, List.getElem_cons_succ, Act.put, List.setIfInBounds_toArray, List.set_cons_zero, List.set_cons_succ]
          refine wpAnyH_ready (rs := [8]) (by kernel_rfl) (by simp) ?_
          refine AllReadyH.cons rfl (fun K hK => ?_) (AllReadyH.nil)
          go_simp
          have b9 := (Below.refl X2.heap.size X2).alloc (Nat.le_refl _) (.cells #[.int .i64 0, .int .i64 0, .int .i64 0, .int .u64 0, .int .i64 0, .int .u64 0, .slice none 0 0, .slice none 0 0, .int .i64 0, .slice none 0 0, .slice none 0 0, .int .u64 0, .bool false, .int .i64 0, .int .i64 0] 33)
          have KS : Blk (X2.alloc (.cells #[.int .i64 0, .int .i64 0, .int .i64 0, .int .u64 0, .int .i64 0, .int .u64 0, .slice none 0 0, .slice none 0 0, .int .i64 0, .slice none 0 0, .slice none 0 0, .int .u64 0, .bool false, .int .i64 0, .int .i64 0] 33)) (X2.heap.size) 33 #[.int .i64 0, .int .i64 0, .int .i64 0, .int .u64 0, .int .i64 0, .int .u64 0, .slice none 0 0, .slice none 0 0, .int .i64 0, .slice none 0 0, .slice none 0 0, .int .u64 0, .bool false, .int .i64 0, .int .i64 0] := Blk.fresh X2 33 #[.int .i64 0, .int .i64 0, .int .i64 0, .int .u64 0, .int .i64 0, .int .u64 0, .slice none 0 0, .slice none 0 0, .int .i64 0, .slice none 0 0, .slice none 0 0, .int .u64 0, .bool false, .int .i64 0, .int .i64 0]
          have lS : w.heap.size ≤ X2.heap.size := BX.size
          have l7 : g7 < X2.heap.size := K7.lt
          generalize X2.alloc (.cells #[.int .i64 0, .int .i64 0, .int .i64 0, .int .u64 0, .int .i64 0, .int .u64 0, .slice none 0 0, .slice none 0 0, .int .i64 0, .slice none 0 0, .slice none 0 0, .int .u64 0, .bool false, .int .i64 0, .int .i64 0] 33) = X3 at *
          replace K7 := K7.below b9 K7.lt
          replace BX := Base.thenB BX b9
          replace HA := HA.below b9
          replace HSX := HSX.below b9
          clear b9
          refine hK.out _ _ K7 (fun hHeld => ?_)
          clear hK K
          try simp only [List.getElem_toArray, List.getElem_cons_zero, List.getElem_cons_succ, Act.put, List.setIfInBounds_toArray, List.set_cons_zero, List.set_cons_succ]
          refine wpAnyH_ready (rs := [9]) (by kernel_rfl) (by simp) ?_
          refine AllReadyH.cons rfl (fun K hK => ?_) (AllReadyH.nil)
          have H9 : (#[.int .i64 FG.p.k, .int .i64 FG.p.it, .int .i64 FG.p.ok, .int .u64 FG.p.ob, .int .i64 FG.p.tk, .int .u64 FG.p.tb, G1, G2, .int .i64 FG.p.po, G3, G4, .int .u64 FG.p.sd, .bool FG.on, .int .i64 FG.ev, .int .i64 FG.nx] : Array Value).all (·.oneCell') = true := by rw [← Array.all_toList]; simp only [List.all_cons, List.all_nil, oG1, oG2, oG3, oG4, Bool.and_true, Bool.and_self]; rfl
          refine Av.step_store_row rfl 33 (.tmp 18) (.tmp 173) rfl (X2.heap.size) #[.int .i64 FG.p.k, .int .i64 FG.p.it, .int .i64 FG.p.ok, .int .u64 FG.p.ob, .int .i64 FG.p.tk, .int .u64 FG.p.tb, G1, G2, .int .i64 FG.p.po, G3, G4, .int .u64 FG.p.sd, .bool FG.on, .int .i64 FG.ev, .int .i64 FG.nx] rfl rfl 33 _ KS (by kernel_rfl) rfl H9 ?_
          replace K7 : Blk (X3.setRow (X2.heap.size) #[.int .i64 FG.p.k, .int .i64 FG.p.it, .int .i64 FG.p.ok, .int .u64 FG.p.ob, .int .i64 FG.p.tk, .int .u64 FG.p.tb, G1, G2, .int .i64 FG.p.po, G3, G4, .int .u64 FG.p.sd, .bool FG.on, .int .i64 FG.ev, .int .i64 FG.nx]) (g7) 33 #[.int .i64 p.k, .int .i64 p.it, .int .i64 p.ok, .int .u64 p.ob, .int .i64 p.tk, .int .u64 p.tb, V1, V2, .int .i64 p.po, V3, V4, .int .u64 p.sd, .bool true, .int .i64 (j : Int), .int .i64 nx] := Av.bother_row K7 (by omega)
          replace KS : Blk (X3.setRow (X2.heap.size) #[.int .i64 FG.p.k, .int .i64 FG.p.it, .int .i64 FG.p.ok, .int .u64 FG.p.ob, .int .i64 FG.p.tk, .int .u64 FG.p.tb, G1, G2, .int .i64 FG.p.po, G3, G4, .int .u64 FG.p.sd, .bool FG.on, .int .i64 FG.ev, .int .i64 FG.nx]) (X2.heap.size) 33 #[.int .i64 FG.p.k, .int .i64 FG.p.it, .int .i64 FG.p.ok, .int .u64 FG.p.ob, .int .i64 FG.p.tk, .int .u64 FG.p.tb, G1, G2, .int .i64 FG.p.po, G3, G4, .int .u64 FG.p.sd, .bool FG.on, .int .i64 FG.ev, .int .i64 FG.nx] := Av.bset_row KS
          replace BX : Below w.heap.size w (X3.setRow (X2.heap.size) #[.int .i64 FG.p.k, .int .i64 FG.p.it, .int .i64 FG.p.ok, .int .u64 FG.p.ob, .int .i64 FG.p.tk, .int .u64 FG.p.tb, G1, G2, .int .i64 FG.p.po, G3, G4, .int .u64 FG.p.sd, .bool FG.on, .int .i64 FG.ev, .int .i64 FG.nx]) := below_setRow BX (by omega) _
          clear H9
          generalize X3.setRow (X2.heap.size) #[.int .i64 FG.p.k, .int .i64 FG.p.it, .int .i64 FG.p.ok, .int .u64 FG.p.ob, .int .i64 FG.p.tk, .int .u64 FG.p.tb, G1, G2, .int .i64 FG.p.po, G3, G4, .int .u64 FG.p.sd, .bool FG.on, .int .i64 FG.ev, .int .i64 FG.nx] = X4 at *
          refine hK.out _ _ K7 (fun hHeld => ?_)
          clear hK K
          try simp only [List.getElem_toArray, List.getElem_cons_zero, List.getElem_cons_succ, Act.put, List.setIfInBounds_toArray, List.set_cons_zero, List.set_cons_succ]
          refine wpAnyH_take (i := 10) (v := .slice AN 0 cN) rfl (by kernel_rfl) (by kernel_rfl) (by kernel_rfl) (fun _ _ _ h => h) (Or.inl ⟨by first | rfl | go_simp, by intro w9 hSw; (try dsimp only at hSw); go_simp⟩) (by assumption) ?_
          simp only [List.getElem_toArray, List.getElem_cons_zero, List.getElem_cons_succ, Act.put, List.setIfInBounds_toArray, List.set_cons_zero, List.set_cons_succ]
          refine wpAnyH_done (by kernel_rfl) ?_ _
          go_wp2_with fail
          go_ret
          exact ⟨rfl, BX⟩
        · skip
          go_simp
          have b9 := (Below.refl X1.heap.size X1).alloc (Nat.le_refl _) (.cells #[.int .i64 0, .int .i64 0, .int .i64 0, .int .u64 0, .int .i64 0, .int .u64 0, .slice none 0 0, .slice none 0 0, .int .i64 0, .slice none 0 0, .slice none 0 0, .int .u64 0, .bool false, .int .i64 0, .int .i64 0] 33)
          have KS : Blk (X1.alloc (.cells #[.int .i64 0, .int .i64 0, .int .i64 0, .int .u64 0, .int .i64 0, .int .u64 0, .slice none 0 0, .slice none 0 0, .int .i64 0, .slice none 0 0, .slice none 0 0, .int .u64 0, .bool false, .int .i64 0, .int .i64 0] 33)) (X1.heap.size) 33 #[.int .i64 0, .int .i64 0, .int .i64 0, .int .u64 0, .int .i64 0, .int .u64 0, .slice none 0 0, .slice none 0 0, .int .i64 0, .slice none 0 0, .slice none 0 0, .int .u64 0, .bool false, .int .i64 0, .int .i64 0] := Blk.fresh X1 33 #[.int .i64 0, .int .i64 0, .int .i64 0, .int .u64 0, .int .i64 0, .int .u64 0, .slice none 0 0, .slice none 0 0, .int .i64 0, .slice none 0 0, .slice none 0 0, .int .u64 0, .bool false, .int .i64 0, .int .i64 0]
          have lS : w.heap.size ≤ X1.heap.size := BX.size
          have l7 : g7 < X1.heap.size := K7.lt
          generalize X1.alloc (.cells #[.int .i64 0, .int .i64 0, .int .i64 0, .int .u64 0, .int .i64 0, .int .u64 0, .slice none 0 0, .slice none 0 0, .int .i64 0, .slice none 0 0, .slice none 0 0, .int .u64 0, .bool false, .int .i64 0, .int .i64 0] 33) = X5 at *
          replace K7 := K7.below b9 K7.lt
          replace BX := Base.thenB BX b9
          replace HA := HA.below b9
          replace HSX := HSX.below b9
          clear b9
          refine hK.out _ _ K7 (fun hHeld => ?_)
          clear hK K
          try simp only [List.getElem_toArray, List.getElem_cons_zero, List.getElem_cons_succ, Act.put, List.setIfInBounds_toArray, List.set_cons_zero, List.set_cons_succ]
          refine wpAnyH_ready (rs := [4]) (by kernel_rfl) (by simp) ?_
          refine AllReadyH.cons rfl (fun K hK => ?_) (AllReadyH.nil)
          go_simp
          refine (HFn.out X5 F1 F2 F3 F4 (j : Int) nx nx _ hit0 hj0 HSX).mono ?_
          rintro e X6 ⟨FG, G1, G2, G3, G4, VN, rfl, HG, SN, b9⟩
          obtain ⟨VsN, _, ⟨AN, cN, rfl, _, _⟩, _⟩ := SN
          have oG1 := HG.d.one
          have oG2 := HG.s.one
          have oG3 := HG.a.one
          have oG4 := HG.i.one
          clear HG
          simp only [List.length_nil]
          replace K7 := K7.below b9 K7.lt
          replace KS := KS.below b9 KS.lt
          replace BX := Base.thenB BX b9
          replace HA := HA.below b9
          replace HSX := HSX.below b9
          clear b9
          refine hK.out _ _ K7 (fun hHeld => ?_)
          clear hK K
          try simp only [List.getElem_toArray, List.getElem_cons_zero, List.getElem_cons_succ, Act.put, List.setIfInBounds_toArray, List.set_cons_zero, List.set_cons_succ]
          refine wpAnyH_take (i := 5) (v := .tuple #[.agg #[.int .i64 FG.p.k, .int .i64 FG.p.it, .int .i64 FG.p.ok, .int .u64 FG.p.ob, .int .i64 FG.p.tk, .int .u64 FG.p.tb, G1, G2, .int .i64 FG.p.po, G3, G4, .int .u64 FG.p.sd, .bool FG.on, .int .i64 FG.ev, .int .i64 FG.nx], .slice AN 0 cN]) rfl (by kernel_rfl) (by kernel_rfl) (by kernel_rfl) (fun _ _ _ h => h) (Or.inl ⟨by first | rfl | go_simp, by intro w9 hSw; (try dsimp only at hSw); go_simp⟩) (by assumption) ?_
          simp only [List.getElem_toArray, List.getElem_cons_zero, List.getElem_cons_succ, Act.put, List.setIfInBounds_toArray, List.set_cons_zero, List.set_cons_succ]
          refine wpAnyH_take (i := 6) (v := .agg #[.int .i64 FG.p.k, .int .i64 FG.p.it, .int .i64 FG.p.ok, .int .u64 FG.p.ob, .int .i64 FG.p.tk, .int .u64 FG.p.tb, G1, G2, .int .i64 FG.p.po, G3, G4, .int .u64 FG.p.sd, .bool FG.on, .int .i64 FG.ev, .int .i64 FG.nx]) rfl (by kernel_rfl) (by kernel_rfl) (by kernel_rfl) (fun _ _ _ h => h) (Or.inl ⟨by first | rfl | go_simp, by intro w9 hSw; (try dsimp only at hSw); go_simp⟩) (by assumption) ?_
          simp only [List.getElem_toArray, List.getElem_cons_zero, List.getElem_cons_succ, Act.put, List.setIfInBounds_toArray, List.set_cons_zero, List.set_cons_succ]
          refine wpAnyH_take (i := 7) (v := .slice AN 0 cN) rfl (by kernel_rfl) (by kernel_rfl) (by kernel_rfl) (fun _ _ _ h => h) (Or.inl ⟨by first | rfl | go_simp, by intro w9 hSw; (try dsimp only at hSw); go_simp⟩) (by assumption) ?_
          simp only [List.getElem_toArray, List.getElem_cons_zero, List.getElem_cons_succ, Act.put, List.setIfInBounds_toArray, List.set_cons_zero, List.set_cons_succ]
          refine wpAnyH_ready (rs := [9]) (by kernel_rfl) (by simp) ?_
          refine AllReadyH.cons rfl (fun K hK => ?_) (AllReadyH.nil)
          have H9 : (#[.int .i64 FG.p.k, .int .i64 FG.p.it, .int .i64 FG.p.ok, .int .u64 FG.p.ob, .int .i64 FG.p.tk, .int .u64 FG.p.tb, G1, G2, .int .i64 FG.p.po, G3, G4, .int .u64 FG.p.sd, .bool FG.on, .int .i64 FG.ev, .int .i64 FG.nx] : Array Value).all (·.oneCell') = true := by rw [← Array.all_toList]; simp only [List.all_cons, List.all_nil, oG1, oG2, oG3, oG4, Bool.and_true, Bool.and_self]; rfl
          refine Av.step_store_row rfl 33 (.tmp 18) (.tmp 173) rfl (X1.heap.size) #[.int .i64 FG.p.k, .int .i64 FG.p.it, .int .i64 FG.p.ok, .int .u64 FG.p.ob, .int .i64 FG.p.tk, .int .u64 FG.p.tb, G1, G2, .int .i64 FG.p.po, G3, G4, .int .u64 FG.p.sd, .bool FG.on, .int .i64 FG.ev, .int .i64 FG.nx] rfl rfl 33 _ KS (by kernel_rfl) rfl H9 ?_
          replace K7 : Blk (X6.setRow (X1.heap.size) #[.int .i64 FG.p.k, .int .i64 FG.p.it, .int .i64 FG.p.ok, .int .u64 FG.p.ob, .int .i64 FG.p.tk, .int .u64 FG.p.tb, G1, G2, .int .i64 FG.p.po, G3, G4, .int .u64 FG.p.sd, .bool FG.on, .int .i64 FG.ev, .int .i64 FG.nx]) (g7) 33 #[.int .i64 p.k, .int .i64 p.it, .int .i64 p.ok, .int .u64 p.ob, .int .i64 p.tk, .int .u64 p.tb, V1, V2, .int .i64 p.po, V3, V4, .int .u64 p.sd, .bool true, .int .i64 (j : Int), .int .i64 nx] := Av.bother_row K7 (by omega)
          replace KS : Blk (X6.setRow (X1.heap.size) #[.int .i64 FG.p.k, .int .i64 FG.p.it, .int .i64 FG.p.ok, .int .u64 FG.p.ob, .int .i64 FG.p.tk, .int .u64 FG.p.tb, G1, G2, .int .i64 FG.p.po, G3, G4, .int .u64 FG.p.sd, .bool FG.on, .int .i64 FG.ev, .int .i64 FG.nx]) (X1.heap.size) 33 #[.int .i64 FG.p.k, .int .i64 FG.p.it, .int .i64 FG.p.ok, .int .u64 FG.p.ob, .int .i64 FG.p.tk, .int .u64 FG.p.tb, G1, G2, .int .i64 FG.p.po, G3, G4, .int .u64 FG.p.sd, .bool FG.on, .int .i64 FG.ev, .int .i64 FG.nx] := Av.bset_row KS
          replace BX : Below w.heap.size w (X6.setRow (X1.heap.size) #[.int .i64 FG.p.k, .int .i64 FG.p.it, .int .i64 FG.p.ok, .int .u64 FG.p.ob, .int .i64 FG.p.tk, .int .u64 FG.p.tb, G1, G2, .int .i64 FG.p.po, G3, G4, .int .u64 FG.p.sd, .bool FG.on, .int .i64 FG.ev, .int .i64 FG.nx]) := below_setRow BX (by omega) _
          clear H9
          generalize X6.setRow (X1.heap.size) #[.int .i64 FG.p.k, .int .i64 FG.p.it, .int .i64 FG.p.ok, .int .u64 FG.p.ob, .int .i64 FG.p.tk, .int .u64 FG.p.tb, G1, G2, .int .i64 FG.p.po, G3, G4, .int .u64 FG.p.sd, .bool FG.on, .int .i64 FG.ev, .int .i64 FG.nx] = X7 at *
          refine hK.out _ _ K7 (fun hHeld => ?_)
          clear hK K
          try simp only [List.getElem_toArray, List.getElem_cons_zero, List.getElem_cons_succ, Act.put, List.setIfInBounds_toArray, List.set_cons_zero, List.set_cons_succ]
          refine wpAnyH_take (i := 10) (v := .slice AN 0 cN) rfl (by kernel_rfl) (by kernel_rfl) (by kernel_rfl) (fun _ _ _ h => h) (Or.inl ⟨by first | rfl | go_simp, by intro w9 hSw; (try dsimp only at hSw); go_simp⟩) (by assumption) ?_
          simp only [List.getElem_toArray, List.getElem_cons_zero, List.getElem_cons_succ, Act.put, List.setIfInBounds_toArray, List.set_cons_zero, List.set_cons_succ]
          refine wpAnyH_done (by kernel_rfl) ?_ _
          go_wp2_with fail
          go_ret
          exact ⟨rfl, BX⟩
      · skip
        go_simp
        have b9 := (Below.refl X0.heap.size X0).alloc (Nat.le_refl _) (.cells #[.int .i64 0, .int .i64 0, .int .i64 0, .int .u64 0, .int .i64 0, .int .u64 0, .slice none 0 0, .slice none 0 0, .int .i64 0, .slice none 0 0, .slice none 0 0, .int .u64 0, .bool false, .int .i64 0, .int .i64 0] 33)
        have KS : Blk (X0.alloc (.cells #[.int .i64 0, .int .i64 0, .int .i64 0, .int .u64 0, .int .i64 0, .int .u64 0, .slice none 0 0, .slice none 0 0, .int .i64 0, .slice none 0 0, .slice none 0 0, .int .u64 0, .bool false, .int .i64 0, .int .i64 0] 33)) (X0.heap.size) 33 #[.int .i64 0, .int .i64 0, .int .i64 0, .int .u64 0, .int .i64 0, .int .u64 0, .slice none 0 0, .slice none 0 0, .int .i64 0, .slice none 0 0, .slice none 0 0, .int .u64 0, .bool false, .int .i64 0, .int .i64 0] := Blk.fresh X0 33 #[.int .i64 0, .int .i64 0, .int .i64 0, .int .u64 0, .int .i64 0, .int .u64 0, .slice none 0 0, .slice none 0 0, .int .i64 0, .slice none 0 0, .slice none 0 0, .int .u64 0, .bool false, .int .i64 0, .int .i64 0]
        have lS : w.heap.size ≤ X0.heap.size := BX.size
        have l7 : g7 < X0.heap.size := K7.lt
        generalize X0.alloc (.cells #[.int .i64 0, .int .i64 0, .int .i64 0, .int .u64 0, .int .i64 0, .int .u64 0, .slice none 0 0, .slice none 0 0, .int .i64 0, .slice none 0 0, .slice none 0 0, .int .u64 0, .bool false, .int .i64 0, .int .i64 0] 33) = X8 at *
        replace K7 := K7.below b9 K7.lt
        replace BX := Base.thenB BX b9
        replace HA := HA.below b9
        clear b9
        refine hK.out _ _ K7 (fun hHeld => ?_)
        clear hK K
        try simp only [List.getElem_toArray, List.getElem_cons_zero, List.getElem_cons_succ, Act.put, List.setIfInBounds_toArray, List.set_cons_zero, List.set_cons_succ]
        refine wpAnyH_ready (rs := [1]) (by kernel_rfl) (by simp) ?_
        refine AllReadyH.cons rfl (fun K hK => ?_) (AllReadyH.nil)
        go_simp
        refine (HSp.out X8 V1 V2 V3 V4 (j : Int) nx _ HA).mono ?_
        rintro e X9 ⟨F1, F2, F3, F4, rfl, HSX, b9⟩
        replace HSX := HSX.less (Nat.zero_le _)
        replace K7 := K7.below b9 K7.lt
        replace KS := KS.below b9 KS.lt
        replace BX := Base.thenB BX b9
        replace HA := HA.below b9
        clear b9
        refine hK.out _ _ K7 (fun hHeld => ?_)
        clear hK K
        try simp only [List.getElem_toArray, List.getElem_cons_zero, List.getElem_cons_succ, Act.put, List.setIfInBounds_toArray, List.set_cons_zero, List.set_cons_succ]
        refine wpAnyH_ready (rs := [4]) (by kernel_rfl) (by simp) ?_
        refine AllReadyH.cons rfl (fun K hK => ?_) (AllReadyH.nil)
        go_simp
        refine (HFn.out X9 F1 F2 F3 F4 (j : Int) nx nx _ hit0 hj0 HSX).mono ?_
        rintro e X10 ⟨FG, G1, G2, G3, G4, VN, rfl, HG, SN, b9⟩
        obtain ⟨VsN, _, ⟨AN, cN, rfl, _, _⟩, _⟩ := SN
        have oG1 := HG.d.one
        have oG2 := HG.s.one
        have oG3 := HG.a.one
        have oG4 := HG.i.one
        clear HG
        simp only [List.length_nil]
        replace K7 := K7.below b9 K7.lt
        replace KS := KS.below b9 KS.lt
        replace BX := Base.thenB BX b9
        replace HA := HA.below b9
        replace HSX := HSX.below b9
        clear b9
        refine hK.out _ _ K7 (fun hHeld => ?_)
        clear hK K
        try simp only [List.getElem_toArray, List.getElem_cons_zero, List.getElem_cons_succ, Act.put, List.setIfInBounds_toArray, List.set_cons_zero, List.set_cons_succ]
        refine wpAnyH_take (i := 5) (v := .tuple #[.agg #[.int .i64 FG.p.k, .int .i64 FG.p.it, .int .i64 FG.p.ok, .int .u64 FG.p.ob, .int .i64 FG.p.tk, .int .u64 FG.p.tb, G1, G2, .int .i64 FG.p.po, G3, G4, .int .u64 FG.p.sd, .bool FG.on, .int .i64 FG.ev, .int .i64 FG.nx], .slice AN 0 cN]) rfl (by kernel_rfl) (by kernel_rfl) (by kernel_rfl) (fun _ _ _ h => h) (Or.inl ⟨by first | rfl | go_simp, by intro w9 hSw; (try dsimp only at hSw); go_simp⟩) (by assumption) ?_
        simp only [List.getElem_toArray, List.getElem_cons_zero, List.getElem_cons_succ, Act.put, List.setIfInBounds_toArray, List.set_cons_zero, List.set_cons_succ]
        refine wpAnyH_take (i := 6) (v := .agg #[.int .i64 FG.p.k, .int .i64 FG.p.it, .int .i64 FG.p.ok, .int .u64 FG.p.ob, .int .i64 FG.p.tk, .int .u64 FG.p.tb, G1, G2, .int .i64 FG.p.po, G3, G4, .int .u64 FG.p.sd, .bool FG.on, .int .i64 FG.ev, .int .i64 FG.nx]) rfl (by kernel_rfl) (by kernel_rfl) (by kernel_rfl) (fun _ _ _ h => h) (Or.inl ⟨by first | rfl | go_simp, by intro w9 hSw; (try dsimp only at hSw); go_simp⟩) (by assumption) ?_
        simp only [List.getElem_toArray, List.getElem_cons_zero, List.getElem_cons_succ, Act.put, List.setIfInBounds_toArray, List.set_cons_zero, List.set_cons_succ]
        refine wpAnyH_take (i := 7) (v := .slice AN 0 cN) rfl (by kernel_rfl) (by kernel_rfl) (by kernel_rfl) (fun _ _ _ h => h) (Or.inl ⟨by first | rfl | go_simp, by intro w9 hSw; (try dsimp only at hSw); go_simp⟩) (by assumption) ?_
        simp only [List.getElem_toArray, List.getElem_cons_zero, List.getElem_cons_succ, Act.put, List.setIfInBounds_toArray, List.set_cons_zero, List.set_cons_succ]
        refine wpAnyH_ready (rs := [9]) (by kernel_rfl) (by simp) ?_
        refine AllReadyH.cons rfl (fun K hK => ?_) (AllReadyH.nil)
        have H9 : (#[.int .i64 FG.p.k, .int .i64 FG.p.it, .int .i64 FG.p.ok, .int .u64 FG.p.ob, .int .i64 FG.p.tk, .int .u64 FG.p.tb, G1, G2, .int .i64 FG.p.po, G3, G4, .int .u64 FG.p.sd, .bool FG.on, .int .i64 FG.ev, .int .i64 FG.nx] : Array Value).all (·.oneCell') = true := by rw [← Array.all_toList]; simp only [List.all_cons, List.all_nil, oG1, oG2, oG3, oG4, Bool.and_true, Bool.and_self]; rfl
        refine Av.step_store_row rfl 33 (.tmp 18) (.tmp 173) rfl (X0.heap.size) #[.int .i64 FG.p.k, .int .i64 FG.p.it, .int .i64 FG.p.ok, .int .u64 FG.p.ob, .int .i64 FG.p.tk, .int .u64 FG.p.tb, G1, G2, .int .i64 FG.p.po, G3, G4, .int .u64 FG.p.sd, .bool FG.on, .int .i64 FG.ev, .int .i64 FG.nx] rfl rfl 33 _ KS (by kernel_rfl) rfl H9 ?_
        replace K7 : Blk (X10.setRow (X0.heap.size) #[.int .i64 FG.p.k, .int .i64 FG.p.it, .int .i64 FG.p.ok, .int .u64 FG.p.ob, .int .i64 FG.p.tk, .int .u64 FG.p.tb, G1, G2, .int .i64 FG.p.po, G3, G4, .int .u64 FG.p.sd, .bool FG.on, .int .i64 FG.ev, .int .i64 FG.nx]) (g7) 33 #[.int .i64 p.k, .int .i64 p.it, .int .i64 p.ok, .int .u64 p.ob, .int .i64 p.tk, .int .u64 p.tb, V1, V2, .int .i64 p.po, V3, V4, .int .u64 p.sd, .bool true, .int .i64 (j : Int), .int .i64 nx] := Av.bother_row K7 (by omega)
        replace KS : Blk (X10.setRow (X0.heap.size) #[.int .i64 FG.p.k, .int .i64 FG.p.it, .int .i64 FG.p.ok, .int .u64 FG.p.ob, .int .i64 FG.p.tk, .int .u64 FG.p.tb, G1, G2, .int .i64 FG.p.po, G3, G4, .int .u64 FG.p.sd, .bool FG.on, .int .i64 FG.ev, .int .i64 FG.nx]) (X0.heap.size) 33 #[.int .i64 FG.p.k, .int .i64 FG.p.it, .int .i64 FG.p.ok, .int .u64 FG.p.ob, .int .i64 FG.p.tk, .int .u64 FG.p.tb, G1, G2, .int .i64 FG.p.po, G3, G4, .int .u64 FG.p.sd, .bool FG.on, .int .i64 FG.ev, .int .i64 FG.nx] := Av.bset_row KS
        replace BX : Below w.heap.size w (X10.setRow (X0.heap.size) #[.int .i64 FG.p.k, .int .i64 FG.p.it, .int .i64 FG.p.ok, .int .u64 FG.p.ob, .int .i64 FG.p.tk, .int .u64 FG.p.tb, G1, G2, .int .i64 FG.p.po, G3, G4, .int .u64 FG.p.sd, .bool FG.on, .int .i64 FG.ev, .int .i64 FG.nx]) := below_setRow BX (by omega) _
        clear H9
        generalize X10.setRow (X0.heap.size) #[.int .i64 FG.p.k, .int .i64 FG.p.it, .int .i64 FG.p.ok, .int .u64 FG.p.ob, .int .i64 FG.p.tk, .int .u64 FG.p.tb, G1, G2, .int .i64 FG.p.po, G3, G4, .int .u64 FG.p.sd, .bool FG.on, .int .i64 FG.ev, .int .i64 FG.nx] = X11 at *
        refine hK.out _ _ K7 (fun hHeld => ?_)
        clear hK K
        try simp only [List.getElem_toArray, List.getElem_cons_zero, List.getElem_cons_succ, Act.put, List.setIfInBounds_toArray, List.set_cons_zero, List.set_cons_succ]
        refine wpAnyH_take (i := 10) (v := .slice AN 0 cN) rfl (by kernel_rfl) (by kernel_rfl) (by kernel_rfl) (fun _ _ _ h => h) (Or.inl ⟨by first | rfl | go_simp, by intro w9 hSw; (try dsimp only at hSw); go_simp⟩) (by assumption) ?_
        simp only [List.getElem_toArray, List.getElem_cons_zero, List.getElem_cons_succ, Act.put, List.setIfInBounds_toArray, List.set_cons_zero, List.set_cons_succ]
        refine wpAnyH_done (by kernel_rfl) ?_ _
        go_wp2_with fail
        go_ret
        exact ⟨rfl, BX⟩
end Go.Proofs.YtcbliliinmfnjaaDoor.Av
