/- Acknowledgement: small functions: contracts over the program. -/
import Derived.Test.YtbnfjielnamepaaArqMem
import Derived.Test.YtbnfjielnamepaaDpEx
import Derived.Test.YtbnfjielnamepaaDpSame
set_option linter.unusedVariables false
set_option linter.unusedSimpArgs false
namespace Go.Proofs.Ytbnfjielnamepaa.Arq
open Go.RowKit Mem Oct Rw Av Dp
open Base (thenB)

theorem info_pk : (Try.prog.info? 24).map (fun i => (i.zero, i.size, i.bytes)) = some (some (.agg #[.int .i64 0, .slice none 0 0]), 2, 32) := by kernel_rfl
theorem info_parts2 {P : Program} {e : TypeId} {z : Value} {s b : Nat} (h : (P.info? e).map (fun i => (i.zero, i.size, i.bytes)) = some (some z, s, b)) (hz : z.cells.size = s) : ∃ i, P.info? e = some i ∧ i.zero = some z ∧ i.size = s ∧ i.bytes = b ∧ z.cells.size = s := by
  cases hq : P.info? e with
  | none => rw [hq] at h; cases h
  | some i =>
    rw [hq] at h
    simp only [Option.map_some, Option.some.injEq, Prod.mk.injEq] at h
    exact ⟨i, rfl, h.1, h.2.1, h.2.2, hz⟩
theorem new_any (w : World) : Calls Try.prog 25 #[] w fun e w' => e = .returned (.agg #[.int .i64 0, .int .i64 0, .slice none 0 0, .bool false, .bool false, .int .i64 0, .int .i64 0]) ∧ Below w.heap.size w w' := by
  have B0 : Below w.heap.size w (w.alloc (.cells #[.int .i64 0, .int .i64 0, .slice none 0 0, .bool false, .bool false, .int .i64 0, .int .i64 0] 43)) := (Below.refl _ _).alloc (Nat.le_refl _) _
  have K := Blk.fresh w 43 #[.int .i64 0, .int .i64 0, .slice none 0 0, .bool false, .bool false, .int .i64 0, .int .i64 0]
  have H1 : (#[.int .i64 0, .int .i64 0, .slice none 0 0, .bool false, .bool false, .int .i64 0, .int .i64 0] : Array Value).all (·.oneCell') = true := by rw [← Array.all_toList]; rfl
  go_enter Try.func25, Try.ntmps25
  go_upto_region 1 with (fail)
  generalize w.alloc (.cells #[.int .i64 0, .int .i64 0, .slice none 0 0, .bool false, .bool false, .int .i64 0, .int .i64 0] 43) = W0 at *
  go_wp2_with (refine wpList_store_row rfl 43 (.tmp 0) _ rfl w.heap.size #[.int .i64 0, .int .i64 0, .slice none 0 0, .bool false, .bool false, .int .i64 0, .int .i64 0] rfl rfl 43 _ K (by kernel_rfl) rfl H1 ?_)
  have KR := setRow_heap W0 w.heap.size _ #[.int .i64 0, .int .i64 0, .slice none 0 0, .bool false, .bool false, .int .i64 0, .int .i64 0] 43 (0, 0) K
  have BE := below_setRow B0 (Nat.le_refl _) #[.int .i64 0, .int .i64 0, .slice none 0 0, .bool false, .bool false, .int .i64 0, .int .i64 0]
  generalize W0.setRow w.heap.size #[.int .i64 0, .int .i64 0, .slice none 0 0, .bool false, .bool false, .int .i64 0, .int .i64 0] = Y at *
  refine bodyPost_ret (v := .agg #[.int .i64 0, .int .i64 0, .slice none 0 0, .bool false, .bool false, .int .i64 0, .int .i64 0]) ?_ rfl ⟨rfl, BE⟩
  have HL := run_loadVar_row (P := Try.prog) Y (w.heap.size) 43 43 #[.int .i64 0, .int .i64 0, .slice none 0 0, .bool false, .bool false, .int .i64 0, .int .i64 0] (0, 0) _ KR Try.underlying43 rfl (by kernel_rfl)
  generalize (#[.int .i64 0, .int .i64 0, .slice none 0 0, .bool false, .bool false, .int .i64 0, .int .i64 0] : Array Value) = CS at *
  simp [results, show (Try.f25).results = #[.cell 0 43] from rfl, asAddr, HL, Act.put]
theorem rblankpk_any (w : World) : Calls Try.prog 52 #[] w fun e w' => e = .returned (.agg #[.int .i64 1, .slice none 0 0]) ∧ Below w.heap.size w w' := by
  have B0 : Below w.heap.size w (w.alloc (.cells #[.int .i64 0, .slice none 0 0] 24)) := (Below.refl _ _).alloc (Nat.le_refl _) _
  have K := Blk.fresh w 24 #[.int .i64 0, .slice none 0 0]
  have H1 : (#[.int .i64 1, .slice none 0 0] : Array Value).all (·.oneCell') = true := by rw [← Array.all_toList]; rfl
  go_enter Try.func52, Try.ntmps52
  go_upto_region 1 with (fail)
  generalize w.alloc (.cells #[.int .i64 0, .slice none 0 0] 24) = W0 at *
  go_wp2_with (refine wpList_store_row rfl 24 (.tmp 0) _ rfl w.heap.size #[.int .i64 1, .slice none 0 0] rfl rfl 24 _ K (by kernel_rfl) rfl H1 ?_)
  have KR := setRow_heap W0 w.heap.size _ #[.int .i64 1, .slice none 0 0] 24 (0, 0) K
  have BE := below_setRow B0 (Nat.le_refl _) #[.int .i64 1, .slice none 0 0]
  generalize W0.setRow w.heap.size #[.int .i64 1, .slice none 0 0] = Y at *
  refine bodyPost_ret (v := .agg #[.int .i64 1, .slice none 0 0]) ?_ rfl ⟨rfl, BE⟩
  have HL := run_loadVar_row (P := Try.prog) Y (w.heap.size) 24 24 #[.int .i64 1, .slice none 0 0] (0, 0) _ KR Try.underlying24 rfl (by kernel_rfl)
  generalize (#[.int .i64 1, .slice none 0 0] : Array Value) = CS at *
  simp [results, show (Try.f52).results = #[.cell 0 24] from rfl, asAddr, HL, Act.put]
theorem idle_any (sn nesn : Int) (A : Option Addr) (n c : Nat) (op em : Bool) (ack tak : Int) (w : World) : Calls Try.prog 37 #[.agg #[.int .i64 sn, .int .i64 nesn, .slice A n c, .bool op, .bool em, .int .i64 ack, .int .i64 tak]] w fun e w' => e = .returned (.bool ((n : Int) == 0)) ∧ Below w.heap.size w w' := by
  go_enter Try.func37, Try.ntmps37
  go_wp2_with fail
  go_ret
  exact ⟨rfl, (Below.refl _ _).alloc (Nat.le_refl _) _⟩
set_option maxRecDepth 100000 in
set_option maxHeartbeats 4000000 in
theorem cpk_any (x : Pm) (w : World) (h : GP w x) :
    Calls Try.prog 55 #[.agg #[.int .i64 x.k, .slice x.A x.v.length x.c]] w fun e w' => ∃ A c, e = .returned (.agg #[.int .i64 x.k, .slice A x.v.length c]) ∧ PP w' 0 ⟨x.k, A, c, x.v⟩ ∧ Below w.heap.size w w' := by
  have BX : Below w.heap.size w ((w.alloc (.cells #[.int .i64 x.k, .slice x.A x.v.length x.c] 24)).alloc (.cells #[.int .i64 0, .slice none 0 0] 24)) := ((Below.refl _ _).alloc (Nat.le_refl _) _).alloc (by simp) _
  have K1 : Blk ((w.alloc (.cells #[.int .i64 x.k, .slice x.A x.v.length x.c] 24)).alloc (.cells #[.int .i64 0, .slice none 0 0] 24)) w.heap.size 24 #[.int .i64 x.k, .slice x.A x.v.length x.c] := (Blk.fresh w 24 #[.int .i64 x.k, .slice x.A x.v.length x.c]).alloc _
  have K2 : Blk ((w.alloc (.cells #[.int .i64 x.k, .slice x.A x.v.length x.c] 24)).alloc (.cells #[.int .i64 0, .slice none 0 0] 24)) (w.heap.size + 1) 24 #[.int .i64 0, .slice none 0 0] := Av.Blk.next
  have HC : Hid (∀ X, Below w.heap.size w X → Calls Try.prog 50 #[.slice x.A x.v.length x.c] X fun e w' => ∃ V', e = .returned V' ∧ w'.ownsRow X.heap.size 5 1 V' x.v.length (x.v.map (Value.int .u8)) ∧ Below X.heap.size X w') := Lib.hid fun X b => bclone _ _ 0 x.v X rfl h.2.1 (Row.of_cells h.1 (of_ints (Base.later h.2.2.2 b)))
  have HV := Lib.hid (And.intro h.2.1 h.2.2.1)
  clear h
  go_enter Try.func55, Try.ntmps55
  go_upto_region 1 with (fail)
  generalize (w.alloc (.cells #[.int .i64 x.k, .slice x.A x.v.length x.c] 24)).alloc (.cells #[.int .i64 0, .slice none 0 0] 24) = W0 at *
  have k1 := K1.cell 1
  go_upto_region 2 with (first
    | (go_at_call 50; refine (HC.out W0 BX).mono ?_; rintro e W1 ⟨V2, rfl, own, b1⟩; obtain ⟨A2, c2, rfl⟩ := own_form own; replace K1 := K1.below b1 K1.lt; have hs2 : w.heap.size + 1 < W0.heap.size := K2.lt; replace K2 := K2.below b1 K2.lt; have BY := Base.thenB BX b1; clear k1 b1)
    | (refine Av.wpList_store_cell rfl _ _ _ rfl w.heap.size 1 (.slice A2 x.v.length c2) rfl rfl 24 _ K1 (by show 1 < 2; decide) (by kernel_rfl) rfl ?_))
  have hcap := own_cap own
  have own := ownsRow_setCell_below (a := ⟨w.heap.size, 1, none⟩) own (by show w.heap.size < _; omega) (.slice A2 x.v.length c2)
  have K2 := Av.bother (i := 1) K2 (show w.heap.size ≠ w.heap.size + 1 by omega) (.slice A2 x.v.length c2)
  have K1 := Av.bset K1 1 (.slice A2 x.v.length c2) rfl
  have BY := BY.setCell (p := ⟨w.heap.size, 1, none⟩) (Nat.le_refl _) (.slice A2 x.v.length c2)
  generalize W1.setCell ⟨w.heap.size, 1, none⟩ (.slice A2 x.v.length c2) = W2 at *
  have H1 : (#[.int .i64 x.k, .slice A2 x.v.length c2] : Array Value).all (·.oneCell') = true := by rw [← Array.all_toList]; rfl
  go_wp2_with (first | (refine wpList_store_row rfl 24 (.tmp 2) _ rfl (w.heap.size + 1) #[.int .i64 x.k, .slice A2 x.v.length c2] rfl rfl 24 _ K2 (by kernel_rfl) rfl H1 ?_) | (refine wpList_load_row rfl 24 (.tmp 1) rfl w.heap.size rfl 24 _ (0, 0) _ K1 Try.underlying24 rfl (by kernel_rfl) ?_))
  have own := own_setRow own K2 (by decide) #[.int .i64 x.k, .slice A2 x.v.length c2]
  have KR := setRow_heap W2 (w.heap.size + 1) _ #[.int .i64 x.k, .slice A2 x.v.length c2] 24 (0, 0) K2
  have BE := below_setRow BY (Nat.le_succ _) #[.int .i64 x.k, .slice A2 x.v.length c2]
  generalize W2.setRow (w.heap.size + 1) #[.int .i64 x.k, .slice A2 x.v.length c2] = Y at *
  refine bodyPost_ret (v := .agg #[.int .i64 x.k, .slice A2 x.v.length c2]) ?_ rfl ⟨A2, c2, rfl, ⟨hcap, HV.out.1, HV.out.2, PB.own own⟩, BE⟩
  clear K1
  have HL := run_loadVar_row (P := Try.prog) Y (w.heap.size + 1) 24 24 #[.int .i64 x.k, .slice A2 x.v.length c2] (0, 0) _ KR Try.underlying24 rfl (by kernel_rfl)
  generalize (#[.int .i64 x.k, .slice A2 x.v.length c2] : Array Value) = CS at *
  simp [results, show (Try.f55).results = #[.cell 2 24] from rfl, asAddr, HL, Act.put]
set_option maxRecDepth 100000 in
set_option maxHeartbeats 4000000 in
theorem can_any (k : Int) (A : Option Addr) (n c : Nat) (w : World) : Calls Try.prog 54 #[.agg #[.int .i64 k, .slice A n c]] w fun e w' => e = .returned (.bool (canB k n)) ∧ Below w.heap.size w w' := by
  have B0 : Below w.heap.size w (w.alloc (.cells #[.int .i64 k, .slice A n c] 24)) := (Below.refl _ _).alloc (Nat.le_refl _) _
  have K0 := Blk.fresh w 24 #[.int .i64 k, .slice A n c]
  cases hb : blankB k n with
  | true =>
    have e : canB k n = false := by unfold canB; rw [hb]; rfl
    rw [e]
    go_enter Try.func54, Try.ntmps54
    go_wp2_with (go_at_call 16; refine (blank_to hb A c _).mono ?_; rintro e w2 ⟨rfl, b2⟩)
    go_ret
    exact ⟨rfl, thenB B0 b2⟩
  | false =>
    by_cases hn : n ≤ 251
    · have e : canB k n = (chkK k n == 0) := by
        unfold canB; rw [hb, decide_eq_true hn]
        by_cases h : chkK k n = 0 <;> simp [h]
      rw [e]
      have g1 : (n : Int) ≤ 251 := by omega
      have HC := Lib.hid (check_any 0 0 0 k A n c)
      have hz : chkN 0 0 0 k n = chkK k n := by unfold chkN; rw [if_pos (by decide)]
      rw [hz] at HC
      generalize chkK k n = R at *
      clear hn e
      go_enter Try.func54, Try.ntmps54
      go_wp2_with (first | (go_at_call 16; refine (blank_to hb A c _).mono ?_; rintro e w2 ⟨rfl, b2⟩; have K2 := K0.below b2 K0.lt; have k0 := K2.cell 0; have k1 := K2.cell 1) | (go_at_call 14; refine (HC.out _).mono ?_; rintro e w3 ⟨rfl, b3⟩))
      go_ret
      exact ⟨rfl, thenB (thenB B0 b2) b3⟩
    · have e : canB k n = false := by unfold canB; rw [decide_eq_false hn, Bool.and_false]; rfl
      rw [e]
      have g1 : ¬ (n : Int) ≤ 251 := by omega
      go_enter Try.func54, Try.ntmps54
      go_wp2_with (go_at_call 16; refine (blank_to hb A c _).mono ?_; rintro e w2 ⟨rfl, b2⟩; have K2 := K0.below b2 K0.lt; have k0 := K2.cell 0; have k1 := K2.cell 1)
      go_ret
      exact ⟨rfl, thenB B0 b2⟩
set_option maxHeartbeats 1000000 in
theorem clonepk_any (V : Value) (l : List Pm) (w : World) (hn : l.length ≤ 4398046511100) (h : QI w V l) :
    Calls Try.prog 60 #[V] w fun e w' => ∃ V', e = .returned V' ∧ w'.ownsRow w.heap.size 24 2 V' l.length (l.flatMap encK) ∧ Below w.heap.size w w' := by
  obtain ⟨A, c, rfl, hc, hr, _⟩ := h
  obtain ⟨iE, hi, hz, hs, hb, hc0⟩ := info_parts2 info_pk rfl
  have hf : (l.flatMap encK).length = l.length * 2 := flat_len sizK l
  have ho : ∀ u ∈ l.flatMap encK, u.oneCell' = true := flat_one sizK l
  have hr0 : CellsAt (w.alloc (.cells #[] 24)) w.heap.size A (l.flatMap encK) := CellsAt.alloc hr (Nat.le_refl _) _
  have q22 : ∀ (w : World) (a : Option Addr) (n c n' c' : Nat), (binOp .eql 41 (.slice a n c) (.slice none n' c')).run Try.prog w = .ok (.bool a.isNone) w := fun w a n c n' c' => Lib.run_eql_slice_nil w _ _ a n c n' c' Try.underlying41
  obtain ⟨n, hl⟩ : ∃ n, l.length = n := ⟨_, rfl⟩
  rw [hl] at hf hn hc ⊢
  have hr' : CellsAt w w.heap.size A (l.flatMap encK) := hr
  generalize l.flatMap encK = ys at *
  cases A with
  | none =>
    have h0 : ys = [] := by
      rcases hr' with h | ⟨b, off, e, _⟩
      · exact h
      · cases e
    subst h0
    obtain rfl : n = 0 := by simp at hf; omega
    clear hf ho hr0 hr hl hr'
    go_enter Try.func60, Try.ntmps60
    go_wp2_with fail
    go_ret
    exact ⟨_, rfl, World.ownsRow_nil _ _ _ _, Below.refl _ _⟩
  | some a =>
    clear hr hr' hl
    go_enter Try.func60, Try.ntmps60
    go_wp2_with (at_builtin; refine wpList_append_rows rfl _ _ 41 rfl w.heap.size 24 iE _ 2 32 Try.underlying41 hi hz hs hb hc0 (by decide) (.slice (some ⟨w.heap.size, 0, none⟩) 0 0) 0 [] rfl (World.ownsRow_made _ _ 0 (Nat.le_refl _) (by unfold maxLen; omega) rfl) w.heap.size (some a) n c ys rfl hf ho hr0 (by unfold maxLen; omega) (by omega) (by simp) ?_; intro v1 w1 own1 b1 g1)
    go_ret
    simp only [Nat.zero_add, List.nil_append] at own1
    exact ⟨_, by simp, own1, ((Below.refl _ _).alloc (Nat.le_refl _) _).trans b1⟩
end Go.Proofs.Ytbnfjielnamepaa.Arq
