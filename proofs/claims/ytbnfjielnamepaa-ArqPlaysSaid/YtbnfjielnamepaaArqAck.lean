/- Acknowledgement: a side whose open packet arrived: contracts over the program. -/
import Derived.Test.YtbnfjielnamepaaArqDiv
set_option linter.unusedVariables false
set_option linter.unusedSimpArgs false
namespace Go.Proofs.Ytbnfjielnamepaa.Arq
open Go.RowKit Mem Oct Rw Av Dp
open Base (thenB)

set_option maxRecDepth 100000 in
set_option maxHeartbeats 4000000 in
theorem acked_core (sn nesn : Int) (A : Option Addr) (n c : Nat) (op em : Bool) (ack tak : Int) (A1 : Option Addr) (n1 c1 : Nat) (A2 : Option Addr) (n2 c2 : Nat) (w : World) (hsn : sn = 0 ∨ sn = 1) (hack : 0 ≤ ack ∧ ack ≤ 1000000) (hn1 : n1 ≤ 1)
    (HD : ∀ X, Below w.heap.size w X → Calls Try.prog 57 #[.agg #[.int .i64 sn, .int .i64 nesn, .slice A n c, .bool op, .bool em, .int .i64 ack, .int .i64 tak]] X fun e w' => e = .returned (.tuple #[.slice A1 n1 c1, .slice A2 n2 c2]) ∧ Below X.heap.size X w') :
    Calls Try.prog 58 #[.agg #[.int .i64 sn, .int .i64 nesn, .slice A n c, .bool op, .bool em, .int .i64 ack, .int .i64 tak]] w fun e w' => e = .returned (.agg #[.int .i64 (1 - sn), .int .i64 nesn, .slice A2 n2 c2, .bool false, .bool false, .int .i64 (ack + (n1 : Int)), .int .i64 tak]) ∧ Below w.heap.size w w' := by
  have BX : Below w.heap.size w ((w.alloc (.cells #[.int .i64 sn, .int .i64 nesn, .slice A n c, .bool op, .bool em, .int .i64 ack, .int .i64 tak] 43)).alloc (.cells #[.int .i64 0, .int .i64 0, .slice none 0 0, .bool false, .bool false, .int .i64 0, .int .i64 0] 43)) := ((Below.refl _ _).alloc (Nat.le_refl _) _).alloc (by simp) _
  have K1 : Blk ((w.alloc (.cells #[.int .i64 sn, .int .i64 nesn, .slice A n c, .bool op, .bool em, .int .i64 ack, .int .i64 tak] 43)).alloc (.cells #[.int .i64 0, .int .i64 0, .slice none 0 0, .bool false, .bool false, .int .i64 0, .int .i64 0] 43)) w.heap.size 43 #[.int .i64 sn, .int .i64 nesn, .slice A n c, .bool op, .bool em, .int .i64 ack, .int .i64 tak] := (Blk.fresh w 43 #[.int .i64 sn, .int .i64 nesn, .slice A n c, .bool op, .bool em, .int .i64 ack, .int .i64 tak]).alloc _
  have K2 : Blk ((w.alloc (.cells #[.int .i64 sn, .int .i64 nesn, .slice A n c, .bool op, .bool em, .int .i64 ack, .int .i64 tak] 43)).alloc (.cells #[.int .i64 0, .int .i64 0, .slice none 0 0, .bool false, .bool false, .int .i64 0, .int .i64 0] 43)) (w.heap.size + 1) 43 #[.int .i64 0, .int .i64 0, .slice none 0 0, .bool false, .bool false, .int .i64 0, .int .i64 0] := Av.Blk.next
  have HD := Lib.hid HD
  have e1 : IntKind.i64.wrap (1 - sn) = 1 - sn := by rw [IntWalk.i64_in _ (by omega)]
  have e2 : IntKind.i64.wrap (ack + (n1 : Int)) = ack + (n1 : Int) := by rw [IntWalk.i64_in _ (by omega)]
  have H1 : (#[.int .i64 (1 - sn), .int .i64 nesn, .slice A2 n2 c2, .bool false, .bool false, .int .i64 (ack + (n1 : Int)), .int .i64 tak] : Array Value).all (·.oneCell') = true := by rw [← Array.all_toList]; rfl
  go_enter Try.func58, Try.ntmps58
  go_upto_region 1 with (fail)
  generalize (w.alloc (.cells #[.int .i64 sn, .int .i64 nesn, .slice A n c, .bool op, .bool em, .int .i64 ack, .int .i64 tak] 43)).alloc (.cells #[.int .i64 0, .int .i64 0, .slice none 0 0, .bool false, .bool false, .int .i64 0, .int .i64 0] 43) = W0 at *
  go_upto_region 2 with (first | (go_at_call 57; refine (HD.out W0 BX).mono ?_; rintro e W1 ⟨rfl, b1⟩; replace K1 := K1.below b1 K1.lt; replace K2 := K2.below b1 K2.lt; replace BX := Base.thenB BX b1; clear b1) | (refine wpList_load_row rfl 43 (.tmp 1) rfl w.heap.size rfl 43 _ (0, 0) _ K1 Try.underlying43 rfl (by kernel_rfl) ?_))
  have p5 := K1.cell 5
  have p0 := K1.cell 0
  go_upto_region 4 with (first
    | (refine Av.wpList_store_cell rfl _ _ _ rfl w.heap.size 2 (.slice A2 n2 c2) rfl rfl 43 _ K1 (by show 2 < 7; decide) (by kernel_rfl) rfl ?_; have K11 := Av.bset K1 2 (.slice A2 n2 c2) rfl; have K21 := Av.bother (i := 2) K2 (show w.heap.size ≠ w.heap.size + 1 by omega) (.slice A2 n2 c2); have BX1 := BX.setCell (p := ⟨w.heap.size, 2, none⟩) (Nat.le_refl _) (.slice A2 n2 c2); generalize W1.setCell ⟨w.heap.size, 2, none⟩ (.slice A2 n2 c2) = Y0 at *; clear K1 K2 BX; have q00 := K11.cell 0; have q50 := K11.cell 5)
    | (refine Av.wpList_store_cell rfl _ _ _ rfl w.heap.size 5 (.int .i64 (ack + (n1 : Int))) rfl rfl 43 _ K11 (by show 5 < 7; decide) (by kernel_rfl) rfl ?_; have K12 := Av.bset K11 5 (.int .i64 (ack + (n1 : Int))) rfl; have K22 := Av.bother (i := 5) K21 (show w.heap.size ≠ w.heap.size + 1 by omega) (.int .i64 (ack + (n1 : Int))); have BX2 := BX1.setCell (p := ⟨w.heap.size, 5, none⟩) (Nat.le_refl _) (.int .i64 (ack + (n1 : Int))); generalize Y0.setCell ⟨w.heap.size, 5, none⟩ (.int .i64 (ack + (n1 : Int))) = Y1 at *; clear K11 K21 BX1; have q01 := K12.cell 0; have q51 := K12.cell 5)
    | (refine Av.wpList_store_cell rfl _ _ _ rfl w.heap.size 0 (.int .i64 (1 - sn)) rfl rfl 43 _ K12 (by show 0 < 7; decide) (by kernel_rfl) rfl ?_; have K13 := Av.bset K12 0 (.int .i64 (1 - sn)) rfl; have K23 := Av.bother (i := 0) K22 (show w.heap.size ≠ w.heap.size + 1 by omega) (.int .i64 (1 - sn)); have BX3 := BX2.setCell (p := ⟨w.heap.size, 0, none⟩) (Nat.le_refl _) (.int .i64 (1 - sn)); generalize Y1.setCell ⟨w.heap.size, 0, none⟩ (.int .i64 (1 - sn)) = Y2 at *; clear K12 K22 BX2)
    | (refine Av.wpList_store_cell rfl _ _ _ rfl w.heap.size 3 (.bool false) rfl rfl 43 _ K13 (by show 3 < 7; decide) (by kernel_rfl) rfl ?_; have K14 := Av.bset K13 3 (.bool false) rfl; have K24 := Av.bother (i := 3) K23 (show w.heap.size ≠ w.heap.size + 1 by omega) (.bool false); have BX4 := BX3.setCell (p := ⟨w.heap.size, 3, none⟩) (Nat.le_refl _) (.bool false); generalize Y2.setCell ⟨w.heap.size, 3, none⟩ (.bool false) = Y3 at *; clear K13 K23 BX3)
    | (refine Av.wpList_store_cell rfl _ _ _ rfl w.heap.size 4 (.bool false) rfl rfl 43 _ K14 (by show 4 < 7; decide) (by kernel_rfl) rfl ?_; have K15 := Av.bset K14 4 (.bool false) rfl; have K25 := Av.bother (i := 4) K24 (show w.heap.size ≠ w.heap.size + 1 by omega) (.bool false); have BX5 := BX4.setCell (p := ⟨w.heap.size, 4, none⟩) (Nat.le_refl _) (.bool false); generalize Y3.setCell ⟨w.heap.size, 4, none⟩ (.bool false) = Y4 at *; clear K14 K24 BX4))
  go_wp2_with (first | (refine wpList_store_row rfl 43 (.tmp 2) _ rfl (w.heap.size + 1) #[.int .i64 (1 - sn), .int .i64 nesn, .slice A2 n2 c2, .bool false, .bool false, .int .i64 (ack + (n1 : Int)), .int .i64 tak] rfl rfl 43 _ K25 (by kernel_rfl) rfl H1 ?_) | (refine wpList_load_row rfl 43 (.tmp 1) rfl w.heap.size rfl 43 _ (0, 0) _ K15 Try.underlying43 rfl (by kernel_rfl) ?_))
  have KR := setRow_heap Y4 (w.heap.size + 1) _ #[.int .i64 (1 - sn), .int .i64 nesn, .slice A2 n2 c2, .bool false, .bool false, .int .i64 (ack + (n1 : Int)), .int .i64 tak] 43 (0, 0) K25
  have BE := below_setRow BX5 (Nat.le_succ _) #[.int .i64 (1 - sn), .int .i64 nesn, .slice A2 n2 c2, .bool false, .bool false, .int .i64 (ack + (n1 : Int)), .int .i64 tak]
  generalize Y4.setRow (w.heap.size + 1) #[.int .i64 (1 - sn), .int .i64 nesn, .slice A2 n2 c2, .bool false, .bool false, .int .i64 (ack + (n1 : Int)), .int .i64 tak] = Y at *
  refine bodyPost_ret (v := .agg #[.int .i64 (1 - sn), .int .i64 nesn, .slice A2 n2 c2, .bool false, .bool false, .int .i64 (ack + (n1 : Int)), .int .i64 tak]) ?_ rfl ⟨rfl, BE⟩
  clear K15
  have HL := run_loadVar_row (P := Try.prog) Y (w.heap.size + 1) 43 43 #[.int .i64 (1 - sn), .int .i64 nesn, .slice A2 n2 c2, .bool false, .bool false, .int .i64 (ack + (n1 : Int)), .int .i64 tak] (0, 0) _ KR Try.underlying43 rfl (by kernel_rfl)
  generalize (#[.int .i64 (1 - sn), .int .i64 nesn, .slice A2 n2 c2, .bool false, .bool false, .int .i64 (ack + (n1 : Int)), .int .i64 tak] : Array Value) = CS at *
  simp [results, show (Try.f58).results = #[.cell 2 43] from rfl, asAddr, HL, Act.put]
/-- A side's cells. -/
def acel (s : Sd) (V : Value) : Array Value := #[.int .i64 s.sn, .int .i64 s.nesn, V, .bool s.op, .bool s.em, .int .i64 (s.ack : Int), .int .i64 (s.tak : Int)]
/-- A side whose open packet arrived. -/
theorem acked_any (s : Sd) (V : Value) (l : List Pm) (m o : Nat) (w : World) (hsn : s.sn = 0 ∨ s.sn = 1) (hack : s.ack ≤ 1000) (hn : l.length ≤ 1099511627776) (hop : s.op = true) (hq : QQ w m o V l) (hl : l.map Pm.p = s.q) :
    Calls Try.prog 58 #[.agg (acel s V)] w fun e w' => ∃ V' l', e = .returned (.agg (acel (ackd s) V')) ∧ QQ w' m o V' l' ∧ l'.map Pm.p = (ackd s).q ∧ Below w.heap.size w w' := by
  obtain ⟨sn, nesn, q, op, em, ack, tak⟩ := s
  simp only at hsn hack hop hl
  subst hop
  obtain ⟨⟨A, c, hV, hlc, _⟩, _⟩ := id hq
  subst hV
  cases em with
  | true =>
    have e : ackd ⟨sn, nesn, q, true, true, ack, tak⟩ = ⟨1 - sn, nesn, q, false, false, ack, tak⟩ := rfl
    rw [e]
    refine (acked_core sn nesn A l.length c true true (ack : Int) tak A 0 0 A l.length l.length w hsn (by omega) (by omega) (fun X b => divided_none sn nesn A l.length c true true ack tak l m o X (hq.below b) (.inl rfl) (by omega))).mono ?_
    rintro e w' ⟨rfl, b⟩
    refine ⟨_, l, ?_, (hq.below b).full, hl, b⟩
    simp [acel]
  | false =>
    cases l with
    | nil =>
      obtain rfl : q = [] := by simpa using hl.symm
      have e : ackd ⟨sn, nesn, [], true, false, ack, tak⟩ = ⟨1 - sn, nesn, [], false, false, ack, tak⟩ := rfl
      rw [e]
      refine (acked_core sn nesn A 0 c true false (ack : Int) tak A 0 0 A 0 0 w hsn (by omega) (by omega) (fun X b => divided_none sn nesn A 0 c true false ack tak [] m o X (hq.below b) (.inr rfl) (by omega))).mono ?_
      rintro e w' ⟨rfl, b⟩
      refine ⟨_, [], ?_, (hq.below b).full, rfl, b⟩
      simp [acel]
    | cons x r =>
      obtain ⟨y, q', rfl⟩ : ∃ y q', q = y :: q' := by
        cases q with
        | nil => simp at hl
        | cons y q' => exact ⟨y, q', rfl⟩
      simp only [List.map_cons, List.cons.injEq] at hl
      have e : ackd ⟨sn, nesn, y :: q', true, false, ack, tak⟩ = ⟨1 - sn, nesn, q', false, false, ack + 1, tak⟩ := rfl
      rw [e]
      obtain ⟨b, off, rfl, _⟩ := hq.at_
      refine (acked_core sn nesn (some ⟨b, off, none⟩) (x :: r).length c true false (ack : Int) tak (some ⟨b, off, none⟩) 1 1 (if (x :: r).length = 1 then some ⟨b, off, none⟩ else some ⟨b, off + 2, none⟩) ((x :: r).length - 1) ((x :: r).length - 1) w hsn (by omega) (by omega) (fun X hb => divided_one sn nesn b off (x :: r).length c ack tak X hlc (by simp) (by omega))).mono ?_
      rintro e w' ⟨rfl, hb⟩
      by_cases hr : (x :: r).length = 1
      · obtain rfl : r = [] := by simpa using hr
        refine ⟨_, [], ?_, (hq.below hb).none_ (c' := 0), by simpa using hl.2, hb⟩
        simp [acel]
      · refine ⟨_, r, ?_, (hq.below hb).tail, hl.2, hb⟩
        rw [if_neg hr]
        simp [acel]
end Go.Proofs.Ytbnfjielnamepaa.Arq
