/- Reading an address from bytes: the program's: contracts over the program. -/
import Derived.Test.YtcjlliilfecmnaaDoorKM7
import Derived.Test.YtcjlliilfecmnaaDoorKM6
import Derived.Laws.OwnMore
set_option linter.unusedVariables false
set_option linter.unusedSimpArgs false
namespace Go.Proofs.YtcjlliilfecmnaaDoor.Adr
open Go.RowKit Mem Oct Base

/-- What Decode returns: the address, the rest, the error. -/
def decR (xs : List Int) : (Int × Int) × List Int × Int :=
  if xs.length < 7 then ((0, 0), [], 3) else
  if chk (xs.getD 0 0) (valL ((xs.drop 1).take 6)) = 0 then ((xs.getD 0 0, valL ((xs.drop 1).take 6)), xs.drop 7, 0) else ((0, 0), [], chk (xs.getD 0 0) (valL ((xs.drop 1).take 6)))
theorem take_short {xs : List Int} (h : xs.length < 7) : takeR xs [1, 6] = ([], [], 3) :=
  takeR_short (by decide) (by show (xs.length : Int) < 7; omega)
theorem take_good {xs : List Int} (h : ¬ xs.length < 7) : takeR xs [1, 6] = ([xs.getD 0 0, valL ((xs.drop 1).take 6)], xs.drop 7, 0) := by
  rw [takeR_good (by decide) (by show ¬ (xs.length : Int) < 7; omega)]
  match xs, h with
  | [], h => exact absurd (by simp) h
  | x :: r, h => simp [numsL, sumZ, valL]
theorem decode_short (A : Option Addr) (n c : Nat) (xs : List Int) (w : World) (hx : xs.length = n) (hnc : n ≤ c) (hn : n < 7) (bxs : Bytes xs) (hr : Ints .u8 w w.heap.size A xs) :
    Calls Tryd.prog 58 #[.slice A n c] w fun e w' => e = .returned (.tuple #[.agg #[.int .i64 0, .int .u64 0], .slice none 0 0, .int .i64 3]) ∧ Below w.heap.size w w' := by
  have ht := take_short (xs := xs) (by omega)
  go_enter Tryd.func58, Tryd.ntmps58
  go_wp2_with fail
  have hB : Below w.heap.size w ((w.alloc (.cells #[.int .i64 0, .int .u64 0] 24)).alloc (.cells #[.int .i64 1, .int .i64 6] 3)) := ((Below.refl _ _).alloc (Nat.le_refl _) _).alloc (by simp) _
  have F := (Blk.fresh w 24 #[.int .i64 0, .int .u64 0]).alloc (.cells #[.int .i64 1, .int .i64 6] 3)
  have L2 := lit1 .i64 (w.alloc (.cells #[.int .i64 0, .int .u64 0] 24)) [1, 6] #[.int .i64 1, .int .i64 6] 3 rfl
  have e1 : (w.alloc (.cells #[.int .i64 0, .int .u64 0] 24)).heap.size = w.heap.size + 1 := World.size_alloc _ _
  rw [e1] at L2
  have hr1 : Ints .u8 ((w.alloc (.cells #[.int .i64 0, .int .u64 0] 24)).alloc (.cells #[.int .i64 1, .int .i64 6] 3)) ((w.alloc (.cells #[.int .i64 0, .int .u64 0] 24)).alloc (.cells #[.int .i64 1, .int .i64 6] 3)).heap.size A xs := (hr.below hB).more (by simp; omega)
  generalize (w.alloc (.cells #[.int .i64 0, .int .u64 0] 24)).alloc (.cells #[.int .i64 1, .int .i64 6] 3) = W at *
  refine (take_any A _ n 2 c 2 xs [1, 6] W hx rfl hnc (by omega) (by omega) bxs (by intro z hz; simp at hz; omega) hr1 L2).mono ?_
  rw [ht]
  rintro e w1 ⟨A3, c3, A4, c4, rfl, own3, own4, b1⟩
  have F1 := F.below b1 F.lt
  obtain ⟨x0, x1, f0, f1, r0, r1, hB2⟩ := wrote2 (x := .int .i64 0) (y := .int .u64 0) (thenB hB b1) (Nat.le_refl _) F1
  have hg := F1.lt
  go_wp2_with fail
  refine bodyPost_ret (v := .tuple #[.agg #[.int .i64 0, .int .u64 0], .slice none 0 0, .int .i64 3]) ?_ rfl ⟨rfl, hB2⟩
  simp [results, Tryd.f58, go_sem, r0, r1]
theorem ints_set {k : IntKind} {w : World} {B g m : Nat} {A : Option Addr} {zs : List Int} {x y : Value} (hs : zs = [] ∨ ∃ g4, A = some ⟨g4, 0, none⟩ ∧ m ≤ g4) (h : Ints k w B A zs) (hg : m ≠ g) (hlt : g < m := by omega) :
    Ints k ((w.setCell ⟨g, 0, none⟩ x).setCell ⟨g, 1, none⟩ y) B A zs := by
  rcases hs with rfl | ⟨g4, rfl, hm⟩
  · exact .inl rfl
  · rcases h with h | ⟨b, off, hb, hl, hc⟩
    · exact .inl h
    · refine .inr ⟨b, off, hb, hl, fun j hj => ?_⟩
      have hbg : g ≠ b := by
        injection hb with hb'
        injection hb' with hb1 _ _
        omega
      rw [World.cell?_setCell_far _ _ _ _ hbg, World.cell?_setCell_far _ _ _ _ hbg]
      exact hc j hj
theorem own_sep {k : IntKind} {w : World} {base n c : Nat} {e : TypeId} {A : Option Addr} {zs : List Int} (h : w.ownsRow base e 1 (.slice A n c) n (zs.map (Value.int k))) (hz : zs.length = n) : zs = [] ∨ ∃ g4, A = some ⟨g4, 0, none⟩ ∧ base ≤ g4 := by
  by_cases h7 : 0 < n
  · obtain ⟨g4, h4, hb4, _⟩ := own_block h h7
    exact .inr ⟨g4, h4, hb4⟩
  · exact .inl (List.eq_nil_of_length_eq_zero (by omega))
theorem wrapD (x : Int) (h : -9223372036854775808 ≤ x ∧ x ≤ 9223372036854775807) : IntKind.i64.wrap x = x := by
  simp only [IntKind.wrap, IntKind.bits, IntKind.signed]; simp; split <;> omega
set_option maxHeartbeats 4000000 in
theorem decode_ok (A : Option Addr) (n c : Nat) (xs : List Int) (w : World) (hx : xs.length = n) (hnc : n ≤ c) (hn : ¬ n < 7) (hn2 : n ≤ 1000) (bxs : Bytes xs) (hr : Ints .u8 w w.heap.size A xs) (hT : Tab w) (hc : chk (xs.getD 0 0) (valL ((xs.drop 1).take 6)) = 0) :
    Calls Tryd.prog 58 #[.slice A n c] w fun e w' => ∃ A' c', e = .returned (.tuple #[.agg #[.int .i64 (xs.getD 0 0), .int .u64 (valL ((xs.drop 1).take 6))], .slice A' (n - 7) c', .int .i64 0]) ∧ n - 7 ≤ c' ∧ Ints .u8 w' w'.heap.size A' (xs.drop 7) ∧ Below w.heap.size w w' ∧ (xs.drop 7 = [] ∨ ∃ g4, A' = some ⟨g4, 0, none⟩ ∧ w.heap.size ≤ g4) := by
  have ht := take_good (xs := xs) (by omega)
  have bx := bytes_get bxs 0
  have bv := valL_bd (bytes_take (bytes_drop bxs 1) 6)
  have hl6 : ((xs.drop 1).take 6).length = 6 := by simp; omega
  rw [hl6, show Ser.p2 (8 * 6) = 281474976710656 by decide] at bv
  have hck : Hid (∀ w, Tab w → Calls Tryd.prog 75 #[.int .i64 (xs.getD 0 0), .int .u64 (valL ((xs.drop 1).take 6))] w fun e w' => e = .returned (.tuple #[.agg #[.int .i64 (xs.getD 0 0), .int .u64 (valL ((xs.drop 1).take 6))], .int .i64 0]) ∧ Below w.heap.size w w') := Lib.hid fun w hT => by
    have := checked_any _ _ w (show -9223372036854775808 ≤ xs.getD 0 0 ∧ xs.getD 0 0 ≤ 9223372036854775807 by omega) (show 0 ≤ valL ((xs.drop 1).take 6) ∧ valL ((xs.drop 1).take 6) ≤ 18446744073709551615 by omega) hT
    rwa [if_pos hc, if_pos hc, hc] at this
  have hd7 : (xs.drop 7).length = n - 7 := by simp; omega
  clear hl6 hc
  generalize xs.getD 0 0 = X0 at *
  generalize valL ((xs.drop 1).take 6) = VV at *
  have ew := wrapD X0 (by omega)
  go_enter Tryd.func58, Tryd.ntmps58
  go_wp2_with fail
  have hB : Below w.heap.size w ((w.alloc (.cells #[.int .i64 0, .int .u64 0] 24)).alloc (.cells #[.int .i64 1, .int .i64 6] 3)) := ((Below.refl _ _).alloc (Nat.le_refl _) _).alloc (by simp) _
  have F := (Blk.fresh w 24 #[.int .i64 0, .int .u64 0]).alloc (.cells #[.int .i64 1, .int .i64 6] 3)
  have L2 := lit1 .i64 (w.alloc (.cells #[.int .i64 0, .int .u64 0] 24)) [1, 6] #[.int .i64 1, .int .i64 6] 3 rfl
  have e1 : (w.alloc (.cells #[.int .i64 0, .int .u64 0] 24)).heap.size = w.heap.size + 1 := World.size_alloc _ _
  rw [e1] at L2
  have hr1 : Ints .u8 ((w.alloc (.cells #[.int .i64 0, .int .u64 0] 24)).alloc (.cells #[.int .i64 1, .int .i64 6] 3)) ((w.alloc (.cells #[.int .i64 0, .int .u64 0] 24)).alloc (.cells #[.int .i64 1, .int .i64 6] 3)).heap.size A xs := (hr.below hB).more (by simp; omega)
  generalize (w.alloc (.cells #[.int .i64 0, .int .u64 0] 24)).alloc (.cells #[.int .i64 1, .int .i64 6] 3) = W at *
  refine (take_any A _ n 2 c 2 xs [1, 6] W hx rfl hnc (by omega) (by omega) bxs (by intro z hz; simp at hz; omega) hr1 L2).mono ?_
  rw [ht]
  rintro e w1 ⟨A3, c3, A4, c4, rfl, own3, own4, b1⟩
  replace own3 : w1.ownsRow W.heap.size 22 1 (.slice A3 2 c3) 2 [.int .u64 X0, .int .u64 VV] := own3
  replace own4 : w1.ownsRow W.heap.size 5 1 (.slice A4 (xs.drop 7).length c4) (xs.drop 7).length ((xs.drop 7).map (Value.int .u8)) := own4
  have hcap := own_cap own4
  rw [hd7] at hcap ⊢
  obtain ⟨g, rfl, hg1, hg2⟩ := own_block own3 (by omega)
  have z0 : w1.cell? ⟨g, 0, none⟩ = some (.int .u64 X0) := own3.cellAt 0 (by omega)
  have z1 : w1.cell? ⟨g, 1, none⟩ = some (.int .u64 VV) := own3.cellAt 1 (by omega)
  have i4 := Ints.own own4
  have hwW : w.heap.size < W.heap.size := F.lt
  have hsep : xs.drop 7 = [] ∨ ∃ g4, A4 = some ⟨g4, 0, none⟩ ∧ W.heap.size ≤ g4 := by
    by_cases h7 : 0 < n - 7
    · rw [hd7] at own4
      obtain ⟨g4, h4, hb4, _⟩ := own_block own4 h7
      exact .inr ⟨g4, h4, hb4⟩
    · exact .inl (List.eq_nil_of_length_eq_zero (by omega))
  have T1 := (hT.below hB).below b1
  have F1 := F.below b1 F.lt
  have B1 := thenB hB b1
  clear own3 own4 hT hB F L2 e1 hr1 b1 hr hd7
  go_wp2_with fail
  have s0 : w1.drew.cell? ⟨g, 0, none⟩ = some (.int .u64 X0) ∧ w1.drew.cell? ⟨g, 1, none⟩ = some (.int .u64 VV) := ⟨z0, z1⟩
  have T2 : Tab w1.drew := T1
  have Bd : Below w1.heap.size w1 w1.drew := (Below.refl w1.heap.size w1).drew
  have Ba : Below w1.heap.size w1 (w1.alloc (.cells #[.int .i64 0, .int .u64 0] 24)).drew := ((Below.refl w1.heap.size w1).alloc (Nat.le_refl _) _).drew
  have s1 : (w1.alloc (.cells #[.int .i64 0, .int .u64 0] 24)).drew.cell? ⟨g, 0, none⟩ = some (.int .u64 X0) ∧ (w1.alloc (.cells #[.int .i64 0, .int .u64 0] 24)).drew.cell? ⟨g, 1, none⟩ = some (.int .u64 VV) := ⟨(Ba.cell (p := ⟨g, 0, none⟩) hg2).trans z0, (Ba.cell (p := ⟨g, 1, none⟩) hg2).trans z1⟩
  have T3 : Tab (w1.alloc (.cells #[.int .i64 0, .int .u64 0] 24)).drew := T1.alloc _
  have G2 : Mem.Blk (w1.alloc (.cells #[.int .i64 0, .int .u64 0] 24)).drew w1.heap.size 24 #[.int .i64 0, .int .u64 0] := Blk.fresh w1 _ _
  have hgn : g ≠ w1.heap.size := Nat.ne_of_lt hg2
  go_region_held3 (fun w' => w'.cell? ⟨g, 0, none⟩ = some (.int .u64 X0) ∧ w'.cell? ⟨g, 1, none⟩ = some (.int .u64 VV)) (first | exact s0 | exact s1 | exact s2 | exact s3 | exact s4) (first
    | (go_at_call 75; first
        | (refine (hck.out w1.drew T2).mono ?_; rintro e w2 ⟨rfl, b2⟩; have s2 : w2.cell? ⟨g, 0, none⟩ = some (.int .u64 X0) ∧ w2.cell? ⟨g, 1, none⟩ = some (.int .u64 VV) := ⟨(b2.cell (p := ⟨g, 0, none⟩) hg2).trans s0.1, (b2.cell (p := ⟨g, 1, none⟩) hg2).trans s0.2⟩; have hg3 : g < w2.heap.size := Nat.lt_of_lt_of_le hg2 b2.size; have s3 : (w2.alloc (.cells #[.int .i64 0, .int .u64 0] 24)).cell? ⟨g, 0, none⟩ = some (.int .u64 X0) ∧ (w2.alloc (.cells #[.int .i64 0, .int .u64 0] 24)).cell? ⟨g, 1, none⟩ = some (.int .u64 VV) := ⟨(((Below.refl w2.heap.size w2).alloc (Nat.le_refl _) _).cell (p := ⟨g, 0, none⟩) hg3).trans s2.1, (((Below.refl w2.heap.size w2).alloc (Nat.le_refl _) _).cell (p := ⟨g, 1, none⟩) hg3).trans s2.2⟩; have s4 : (w2.alloc (.cells #[.int .i64 X0, .int .u64 VV] 24)).cell? ⟨g, 0, none⟩ = some (.int .u64 X0) ∧ (w2.alloc (.cells #[.int .i64 X0, .int .u64 VV] 24)).cell? ⟨g, 1, none⟩ = some (.int .u64 VV) := ⟨(((Below.refl w2.heap.size w2).alloc (Nat.le_refl _) _).cell (p := ⟨g, 0, none⟩) hg3).trans s2.1, (((Below.refl w2.heap.size w2).alloc (Nat.le_refl _) _).cell (p := ⟨g, 1, none⟩) hg3).trans s2.2⟩; have BW0 := thenB Bd b2; have BW := BW0.alloc BW0.size (.cells #[.int .i64 X0, .int .u64 VV] 24); have FB := Blk.fresh w2 24 #[.int .i64 X0, .int .u64 VV]; have k0 := FB.cell 0; have k1 := FB.cell 1)
        | (refine (hck.out (w1.alloc (.cells #[.int .i64 0, .int .u64 0] 24)).drew T3).mono ?_; rintro e w2 ⟨rfl, b2⟩; have G3 := G2.below b2 G2.lt; obtain ⟨y0, y1, m0, m1, k0, k1, hq⟩ := wrote2 (x := .int .i64 X0) (y := .int .u64 VV) (Below.refl w1.heap.size w2) (Nat.le_refl _) G3; have hg6 := G3.lt; have s2 : w2.cell? ⟨g, 0, none⟩ = some (.int .u64 X0) ∧ w2.cell? ⟨g, 1, none⟩ = some (.int .u64 VV) := ⟨(b2.cell (p := ⟨g, 0, none⟩) (Nat.lt_of_lt_of_le hg2 Ba.size)).trans s1.1, (b2.cell (p := ⟨g, 1, none⟩) (Nat.lt_of_lt_of_le hg2 Ba.size)).trans s1.2⟩; have s3 : ((w2.setCell ⟨w1.heap.size, 0, none⟩ (.int .i64 X0)).setCell ⟨w1.heap.size, 1, none⟩ (.int .u64 VV)).cell? ⟨g, 0, none⟩ = some (.int .u64 X0) ∧ ((w2.setCell ⟨w1.heap.size, 0, none⟩ (.int .i64 X0)).setCell ⟨w1.heap.size, 1, none⟩ (.int .u64 VV)).cell? ⟨g, 1, none⟩ = some (.int .u64 VV) := ⟨(hq.cell (p := ⟨g, 0, none⟩) hg2).trans s2.1, (hq.cell (p := ⟨g, 1, none⟩) hg2).trans s2.2⟩; have s4 := s3; have BW := (thenB Ba b2).trans hq)))
  all_goals
    have hl1 : w.heap.size < w1.heap.size := F1.lt
    have Fr := F1.below BW F1.lt
    have Bf := thenB B1 BW
    obtain ⟨x0, x1, f0, f1, r0, r1, hBZ⟩ := wrote2 (x := .int .i64 X0) (y := .int .u64 VV) Bf (Nat.le_refl _) Fr
    have hg9 := Fr.lt
    go_wp2_with fail
    refine bodyPost_ret (v := .tuple #[.agg #[.int .i64 X0, .int .u64 VV], .slice A4 (n - 7) c4, .int .i64 0]) ?_ rfl ⟨A4, c4, rfl, hcap, (ints_set hsep ((i4.below BW).more BW.size) (Nat.ne_of_gt hwW)).more (by simp), hBZ, hsep.imp id fun ⟨g4, e, h⟩ => ⟨g4, e, Nat.le_trans (Nat.le_of_lt hwW) h⟩⟩
    simp [results, Tryd.f58, go_sem, r0, r1]
set_option maxHeartbeats 4000000 in
theorem decode_err (A : Option Addr) (n c : Nat) (xs : List Int) (w : World) (hx : xs.length = n) (hnc : n ≤ c) (hn : ¬ n < 7) (hn2 : n ≤ 1000) (bxs : Bytes xs) (hr : Ints .u8 w w.heap.size A xs) (hT : Tab w) (hc : ¬ chk (xs.getD 0 0) (valL ((xs.drop 1).take 6)) = 0) :
    Calls Tryd.prog 58 #[.slice A n c] w fun e w' => e = .returned (.tuple #[.agg #[.int .i64 0, .int .u64 0], .slice none 0 0, .int .i64 (chk (xs.getD 0 0) (valL ((xs.drop 1).take 6)))]) ∧ Below w.heap.size w w' := by
  have ht := take_good (xs := xs) (by omega)
  have bx := bytes_get bxs 0
  have bv := valL_bd (bytes_take (bytes_drop bxs 1) 6)
  have hl6 : ((xs.drop 1).take 6).length = 6 := by simp; omega
  rw [hl6, show Ser.p2 (8 * 6) = 281474976710656 by decide] at bv
  have hck : Hid (∀ w, Tab w → Calls Tryd.prog 75 #[.int .i64 (xs.getD 0 0), .int .u64 (valL ((xs.drop 1).take 6))] w fun e w' => e = .returned (.tuple #[.agg #[.int .i64 0, .int .u64 0], .int .i64 (chk (xs.getD 0 0) (valL ((xs.drop 1).take 6)))]) ∧ Below w.heap.size w w') := Lib.hid fun w hT => by
    have := checked_any _ _ w (show -9223372036854775808 ≤ xs.getD 0 0 ∧ xs.getD 0 0 ≤ 9223372036854775807 by omega) (show 0 ≤ valL ((xs.drop 1).take 6) ∧ valL ((xs.drop 1).take 6) ≤ 18446744073709551615 by omega) hT
    rwa [if_neg hc, if_neg hc] at this
  have hd7 : (xs.drop 7).length = n - 7 := by simp; omega
  have hne : (chk (xs.getD 0 0) (valL ((xs.drop 1).take 6)) != 0) = true := by simpa using hc
  generalize chk (xs.getD 0 0) (valL ((xs.drop 1).take 6)) = C at *
  clear hl6 hc
  generalize xs.getD 0 0 = X0 at *
  generalize valL ((xs.drop 1).take 6) = VV at *
  have ew := wrapD X0 (by omega)
  go_enter Tryd.func58, Tryd.ntmps58
  go_wp2_with fail
  have hB : Below w.heap.size w ((w.alloc (.cells #[.int .i64 0, .int .u64 0] 24)).alloc (.cells #[.int .i64 1, .int .i64 6] 3)) := ((Below.refl _ _).alloc (Nat.le_refl _) _).alloc (by simp) _
  have F := (Blk.fresh w 24 #[.int .i64 0, .int .u64 0]).alloc (.cells #[.int .i64 1, .int .i64 6] 3)
  have L2 := lit1 .i64 (w.alloc (.cells #[.int .i64 0, .int .u64 0] 24)) [1, 6] #[.int .i64 1, .int .i64 6] 3 rfl
  have e1 : (w.alloc (.cells #[.int .i64 0, .int .u64 0] 24)).heap.size = w.heap.size + 1 := World.size_alloc _ _
  rw [e1] at L2
  have hr1 : Ints .u8 ((w.alloc (.cells #[.int .i64 0, .int .u64 0] 24)).alloc (.cells #[.int .i64 1, .int .i64 6] 3)) ((w.alloc (.cells #[.int .i64 0, .int .u64 0] 24)).alloc (.cells #[.int .i64 1, .int .i64 6] 3)).heap.size A xs := (hr.below hB).more (by simp; omega)
  generalize (w.alloc (.cells #[.int .i64 0, .int .u64 0] 24)).alloc (.cells #[.int .i64 1, .int .i64 6] 3) = W at *
  refine (take_any A _ n 2 c 2 xs [1, 6] W hx rfl hnc (by omega) (by omega) bxs (by intro z hz; simp at hz; omega) hr1 L2).mono ?_
  rw [ht]
  rintro e w1 ⟨A3, c3, A4, c4, rfl, own3, own4, b1⟩
  replace own3 : w1.ownsRow W.heap.size 22 1 (.slice A3 2 c3) 2 [.int .u64 X0, .int .u64 VV] := own3
  replace own4 : w1.ownsRow W.heap.size 5 1 (.slice A4 (xs.drop 7).length c4) (xs.drop 7).length ((xs.drop 7).map (Value.int .u8)) := own4
  have hcap := own_cap own4
  rw [hd7] at hcap ⊢
  obtain ⟨g, rfl, hg1, hg2⟩ := own_block own3 (by omega)
  have z0 : w1.cell? ⟨g, 0, none⟩ = some (.int .u64 X0) := own3.cellAt 0 (by omega)
  have z1 : w1.cell? ⟨g, 1, none⟩ = some (.int .u64 VV) := own3.cellAt 1 (by omega)
  have i4 := Ints.own own4
  have hwW : w.heap.size < W.heap.size := F.lt
  have hsep : xs.drop 7 = [] ∨ ∃ g4, A4 = some ⟨g4, 0, none⟩ ∧ W.heap.size ≤ g4 := by
    by_cases h7 : 0 < n - 7
    · rw [hd7] at own4
      obtain ⟨g4, h4, hb4, _⟩ := own_block own4 h7
      exact .inr ⟨g4, h4, hb4⟩
    · exact .inl (List.eq_nil_of_length_eq_zero (by omega))
  have T1 := (hT.below hB).below b1
  have F1 := F.below b1 F.lt
  have B1 := thenB hB b1
  clear own3 own4 hT hB F L2 e1 hr1 b1 hr hd7
  go_wp2_with fail
  have s0 : w1.drew.cell? ⟨g, 0, none⟩ = some (.int .u64 X0) ∧ w1.drew.cell? ⟨g, 1, none⟩ = some (.int .u64 VV) := ⟨z0, z1⟩
  have T2 : Tab w1.drew := T1
  have Bd : Below w1.heap.size w1 w1.drew := (Below.refl w1.heap.size w1).drew
  have Ba : Below w1.heap.size w1 (w1.alloc (.cells #[.int .i64 0, .int .u64 0] 24)).drew := ((Below.refl w1.heap.size w1).alloc (Nat.le_refl _) _).drew
  have s1 : (w1.alloc (.cells #[.int .i64 0, .int .u64 0] 24)).drew.cell? ⟨g, 0, none⟩ = some (.int .u64 X0) ∧ (w1.alloc (.cells #[.int .i64 0, .int .u64 0] 24)).drew.cell? ⟨g, 1, none⟩ = some (.int .u64 VV) := ⟨(Ba.cell (p := ⟨g, 0, none⟩) hg2).trans z0, (Ba.cell (p := ⟨g, 1, none⟩) hg2).trans z1⟩
  have T3 : Tab (w1.alloc (.cells #[.int .i64 0, .int .u64 0] 24)).drew := T1.alloc _
  have G2 : Mem.Blk (w1.alloc (.cells #[.int .i64 0, .int .u64 0] 24)).drew w1.heap.size 24 #[.int .i64 0, .int .u64 0] := Blk.fresh w1 _ _
  have hgn : g ≠ w1.heap.size := Nat.ne_of_lt hg2
  go_region_held3 (fun w' => w'.cell? ⟨g, 0, none⟩ = some (.int .u64 X0) ∧ w'.cell? ⟨g, 1, none⟩ = some (.int .u64 VV)) (first | exact s0 | exact s1 | exact s2 | exact s3 | exact s4) (first
    | (go_at_call 75; first
        | (refine (hck.out w1.drew T2).mono ?_; rintro e w2 ⟨rfl, b2⟩; have s2 : w2.cell? ⟨g, 0, none⟩ = some (.int .u64 X0) ∧ w2.cell? ⟨g, 1, none⟩ = some (.int .u64 VV) := ⟨(b2.cell (p := ⟨g, 0, none⟩) hg2).trans s0.1, (b2.cell (p := ⟨g, 1, none⟩) hg2).trans s0.2⟩; have hg3 : g < w2.heap.size := Nat.lt_of_lt_of_le hg2 b2.size; have s3 : (w2.alloc (.cells #[.int .i64 0, .int .u64 0] 24)).cell? ⟨g, 0, none⟩ = some (.int .u64 X0) ∧ (w2.alloc (.cells #[.int .i64 0, .int .u64 0] 24)).cell? ⟨g, 1, none⟩ = some (.int .u64 VV) := ⟨(((Below.refl w2.heap.size w2).alloc (Nat.le_refl _) _).cell (p := ⟨g, 0, none⟩) hg3).trans s2.1, (((Below.refl w2.heap.size w2).alloc (Nat.le_refl _) _).cell (p := ⟨g, 1, none⟩) hg3).trans s2.2⟩; have s4 : (w2.alloc (.cells #[.int .i64 0, .int .u64 0] 24)).cell? ⟨g, 0, none⟩ = some (.int .u64 X0) ∧ (w2.alloc (.cells #[.int .i64 0, .int .u64 0] 24)).cell? ⟨g, 1, none⟩ = some (.int .u64 VV) := ⟨(((Below.refl w2.heap.size w2).alloc (Nat.le_refl _) _).cell (p := ⟨g, 0, none⟩) hg3).trans s2.1, (((Below.refl w2.heap.size w2).alloc (Nat.le_refl _) _).cell (p := ⟨g, 1, none⟩) hg3).trans s2.2⟩; have BW0 := thenB Bd b2; have BW := BW0.alloc BW0.size (.cells #[.int .i64 0, .int .u64 0] 24); have FB := Blk.fresh w2 24 #[.int .i64 0, .int .u64 0]; have k0 := FB.cell 0; have k1 := FB.cell 1)
        | (refine (hck.out (w1.alloc (.cells #[.int .i64 0, .int .u64 0] 24)).drew T3).mono ?_; rintro e w2 ⟨rfl, b2⟩; have G3 := G2.below b2 G2.lt; obtain ⟨y0, y1, m0, m1, k0, k1, hq⟩ := wrote2 (x := .int .i64 0) (y := .int .u64 0) (Below.refl w1.heap.size w2) (Nat.le_refl _) G3; have hg6 := G3.lt; have s2 : w2.cell? ⟨g, 0, none⟩ = some (.int .u64 X0) ∧ w2.cell? ⟨g, 1, none⟩ = some (.int .u64 VV) := ⟨(b2.cell (p := ⟨g, 0, none⟩) (Nat.lt_of_lt_of_le hg2 Ba.size)).trans s1.1, (b2.cell (p := ⟨g, 1, none⟩) (Nat.lt_of_lt_of_le hg2 Ba.size)).trans s1.2⟩; have s3 : ((w2.setCell ⟨w1.heap.size, 0, none⟩ (.int .i64 0)).setCell ⟨w1.heap.size, 1, none⟩ (.int .u64 0)).cell? ⟨g, 0, none⟩ = some (.int .u64 X0) ∧ ((w2.setCell ⟨w1.heap.size, 0, none⟩ (.int .i64 0)).setCell ⟨w1.heap.size, 1, none⟩ (.int .u64 0)).cell? ⟨g, 1, none⟩ = some (.int .u64 VV) := ⟨(hq.cell (p := ⟨g, 0, none⟩) hg2).trans s2.1, (hq.cell (p := ⟨g, 1, none⟩) hg2).trans s2.2⟩; have s4 := s3; have BW := (thenB Ba b2).trans hq)))
  all_goals
    have hl1 : w.heap.size < w1.heap.size := F1.lt
    have Fr := F1.below BW F1.lt
    have Bf := thenB B1 BW
    obtain ⟨x0, x1, f0, f1, r0, r1, hBZ⟩ := wrote2 (x := .int .i64 0) (y := .int .u64 0) Bf (Nat.le_refl _) Fr
    have hg9 := Fr.lt
    go_wp2_with fail
    refine bodyPost_ret (v := .tuple #[.agg #[.int .i64 0, .int .u64 0], .slice none 0 0, .int .i64 C]) ?_ rfl ⟨rfl, hBZ⟩
    simp [results, Tryd.f58, go_sem, r0, r1]
end Go.Proofs.YtcjlliilfecmnaaDoor.Adr
