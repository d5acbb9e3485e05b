/- The long-term key and the check value: what the functions return: contracts over the program. -/
import Derived.Test.YteklppgggmamaaaCnfWalks2
set_option linter.unusedVariables false
set_option linter.unusedSimpArgs false
namespace Go.Proofs.Yteklppgggmamaaa.Cnf
open Go.RowKit Mem Oct Blk Base Mac

def sLtk : ByteArray := ⟨#[108, 116, 107]⟩
def sChk : ByteArray := ⟨#[99, 104, 101, 99, 107]⟩
def ltkZ (s na nb x y : Int) : Int := tagZ s (derI sLtk [na, nb, x, y])
def chkK (n r f x y : Int) : Int := tagZ 0 (derI sChk [n, r, f, x, y])
theorem chkK_bd (n r f x y : Int) : 0 ≤ chkK n r f x y ∧ chkK n r f x y ≤ 18446744073709551615 := der_bd _ _ _ (by decide) (by simp)
/-- Two boxes of addresses. -/
def Two4 (w : World) (g : Nat) (k b k' b' : Int) : Prop :=
  w.cell? ⟨g, 0, none⟩ = some (.int .i64 k) ∧ w.cell? ⟨g, 1, none⟩ = some (.int .u64 b) ∧ w.cell? ⟨g + 1, 0, none⟩ = some (.int .i64 k') ∧ w.cell? ⟨g + 1, 1, none⟩ = some (.int .u64 b')
theorem cell_lt {w : World} {g : Nat} {v : Value} (h : w.cell? ⟨g, 0, none⟩ = some v) : g < w.heap.size := by
  rcases Nat.lt_or_ge g w.heap.size with hlt | hge
  · exact hlt
  · exfalso
    have : w.heap[g]? = none := Array.getElem?_eq_none hge
    simp [World.cell?, this] at h
theorem Two4.below {w w' : World} {g : Nat} {k b k' b' : Int} (h : Two4 w g k b k' b') (hb : Below w.heap.size w w') : Two4 w' g k b k' b' := by
  obtain ⟨h0, h1, h2, h3⟩ := h
  have l0 := cell_lt h0
  have l1 := cell_lt h2
  exact ⟨(hb.cell (p := ⟨g, 0, none⟩) l0).trans h0, (hb.cell (p := ⟨g, 1, none⟩) l0).trans h1, (hb.cell (p := ⟨g + 1, 0, none⟩) l1).trans h2, (hb.cell (p := ⟨g + 1, 1, none⟩) l1).trans h3⟩
theorem Two4.fresh (w : World) (k b k' b' : Int) (t : TypeId) : Two4 ((w.alloc (.cells #[.int .i64 k, .int .u64 b] t)).alloc (.cells #[.int .i64 k', .int .u64 b'] t)) w.heap.size k b k' b' := by
  have F := (Blk.fresh w t #[.int .i64 k, .int .u64 b]).alloc (.cells #[.int .i64 k', .int .u64 b'] t)
  have G := Blk.fresh (w.alloc (.cells #[.int .i64 k, .int .u64 b] t)) t #[.int .i64 k', .int .u64 b']
  rw [World.size_alloc] at G
  exact ⟨F.cell 0, F.cell 1, G.cell 0, G.cell 1⟩
theorem words4 {a b c d : Int} (h : 0 ≤ a ∧ a ≤ 18446744073709551615) (h2 : 0 ≤ b ∧ b ≤ 18446744073709551615) (h3 : 0 ≤ c ∧ c ≤ 18446744073709551615) (h4 : 0 ≤ d ∧ d ≤ 18446744073709551615) : Words [a, b, c, d] := by
  intro p hp; simp at hp
  rcases hp with rfl | rfl | rfl | rfl
  · exact h
  · exact h2
  · exact h3
  · exact h4
theorem words5 {a b c d f : Int} (h : 0 ≤ a ∧ a ≤ 18446744073709551615) (h2 : 0 ≤ b ∧ b ≤ 18446744073709551615) (h3 : 0 ≤ c ∧ c ≤ 18446744073709551615) (h4 : 0 ≤ d ∧ d ≤ 18446744073709551615) (h5 : 0 ≤ f ∧ f ≤ 18446744073709551615) : Words [a, b, c, d, f] := by
  intro p hp; simp at hp
  rcases hp with rfl | rfl | rfl | rfl | rfl
  · exact h
  · exact h2
  · exact h3
  · exact h4
  · exact h5
set_option maxHeartbeats 1000000 in
theorem long_any (s na nb k b k' b' : Int) (w : World) (hs : 0 ≤ s ∧ s ≤ 4294967295) (hn : 0 ≤ na ∧ na ≤ 18446744073709551615) (hm : 0 ≤ nb ∧ nb ≤ 18446744073709551615)
    (hk : -9223372036854775808 ≤ k ∧ k ≤ 9223372036854775807) (hb : 0 ≤ b ∧ b ≤ 18446744073709551615) (hk' : -9223372036854775808 ≤ k' ∧ k' ≤ 9223372036854775807) (hb' : 0 ≤ b' ∧ b' ≤ 18446744073709551615) :
    Calls Try.prog 20 #[.int .u32 s, .int .u64 na, .int .u64 nb, .agg #[.int .i64 k, .int .u64 b], .agg #[.int .i64 k', .int .u64 b']] w fun e w' => e = .returned (.int .u64 (ltkZ s na nb (adrZ k b) (adrZ k' b'))) ∧ Below w.heap.size w w' := by
  have T0 := Two4.fresh w k b k' b' 36
  have hB : Below w.heap.size w ((w.alloc (.cells #[.int .i64 k, .int .u64 b] 36)).alloc (.cells #[.int .i64 k', .int .u64 b'] 36)) := ((Below.refl _ _).alloc (Nat.le_refl _) _).alloc (by simp) _
  have bx := adrZ_bd k b
  have by_ := adrZ_bd k' b'
  have H1 : Hid (∀ w, Calls Try.prog 30 #[.agg #[.int .i64 k, .int .u64 b]] w fun e w' => e = .returned (.int .u64 (adrZ k b)) ∧ Below w.heap.size w w') := Lib.hid fun w => number_any k b w hk hb
  have H2 : Hid (∀ w, Calls Try.prog 30 #[.agg #[.int .i64 k', .int .u64 b']] w fun e w' => e = .returned (.int .u64 (adrZ k' b')) ∧ Below w.heap.size w w') := Lib.hid fun w => number_any k' b' w hk' hb'
  generalize adrZ k b = X at *
  generalize adrZ k' b' = Y at *
  have HD : Hid (∀ (w : World) (A : Option Addr), Ints .u64 w w.heap.size A [na, nb, X, Y] → Calls Try.prog 25 #[.int .u64 s, .string sLtk, .slice A 4 4] w fun e w' => e = .returned (.int .u64 (ltkZ s na nb X Y)) ∧ Below w.heap.size w w') :=
    Lib.hid fun w A hr => derive_any s sLtk A 4 4 [na, nb, X, Y] w (by omega) (by decide) rfl (words4 hn hm bx by_) hr (by decide)
  generalize ltkZ s na nb X Y = Z at *
  have ew : IntKind.u64.wrap s = s := by rw [IntKind.wrap_u64]; omega
  go_enter Try.func20, Try.ntmps20
  go_wp2_with fail
  generalize (w.alloc (.cells #[.int .i64 k, .int .u64 b] 36)).alloc (.cells #[.int .i64 k', .int .u64 b'] 36) = W at *
  have s0 : Two4 W.drew w.heap.size k b k' b' := T0
  have B0 : Below w.heap.size w W.drew := hB.drew
  go_region_held3 (fun w' => w'.cell? ⟨w.heap.size, 0, none⟩ = some (.int .i64 k) ∧ w'.cell? ⟨w.heap.size, 1, none⟩ = some (.int .u64 b) ∧ w'.cell? ⟨w.heap.size + 1, 0, none⟩ = some (.int .i64 k') ∧ w'.cell? ⟨w.heap.size + 1, 1, none⟩ = some (.int .u64 b')) (first | exact s0 | exact s1 | exact s2 | exact s2a | exact s3) (first
    | (go_at_call 25; refine (HD.out _ _ (lit1 .u64 _ [na, nb, X, Y] _ _ rfl)).mono ?_; rintro e v3 ⟨rfl, b3⟩; have B3 := thenB B2 (alloc1 _ _ b3); have s3 := s2a.below b3)
    | (go_at_call_of 30 b'; refine (H2.out _).mono ?_; rintro e v2 ⟨rfl, b2⟩; have s2 := s1.below b2; have B2 := thenB B1 b2; have s2a : Two4 (v2.alloc (.cells #[.int .u64 na, .int .u64 nb, .int .u64 X, .int .u64 Y] 22)) w.heap.size k b k' b' := s2.below ((Below.refl _ _).alloc (Nat.le_refl _) _))
    | (go_at_call_of 30 b; refine (H1.out _).mono ?_; rintro e v1 ⟨rfl, b1⟩; have s1 := s0.below b1; have B1 := thenB B0 b1))
  all_goals go_wp2_with fail
  all_goals go_ret
  all_goals exact ⟨rfl, B3⟩
set_option maxHeartbeats 1000000 in
theorem rlong_any (s na nb k b k' b' : Int) (w : World) (hs : 0 ≤ s ∧ s ≤ 4294967295) (hn : 0 ≤ na ∧ na ≤ 18446744073709551615) (hm : 0 ≤ nb ∧ nb ≤ 18446744073709551615)
    (hk : -9223372036854775808 ≤ k ∧ k ≤ 9223372036854775807) (hb : 0 ≤ b ∧ b ≤ 18446744073709551615) (hk' : -9223372036854775808 ≤ k' ∧ k' ≤ 9223372036854775807) (hb' : 0 ≤ b' ∧ b' ≤ 18446744073709551615) :
    Calls Try.prog 21 #[.int .u32 s, .int .u64 na, .int .u64 nb, .agg #[.int .i64 k, .int .u64 b], .agg #[.int .i64 k', .int .u64 b']] w fun e w' => e = .returned (.int .u64 (ltkZ s na nb (adrZ k b) (adrZ k' b'))) ∧ Below w.heap.size w w' := by
  have T0 := Two4.fresh w k b k' b' 36
  have hB : Below w.heap.size w ((w.alloc (.cells #[.int .i64 k, .int .u64 b] 36)).alloc (.cells #[.int .i64 k', .int .u64 b'] 36)) := ((Below.refl _ _).alloc (Nat.le_refl _) _).alloc (by simp) _
  have bx := adrZ_bd k b
  have by_ := adrZ_bd k' b'
  have H1 : Hid (∀ w, Calls Try.prog 31 #[.agg #[.int .i64 k, .int .u64 b]] w fun e w' => e = .returned (.int .u64 (adrZ k b)) ∧ Below w.heap.size w w') := Lib.hid fun w => rnumber_any k b w hk hb
  have H2 : Hid (∀ w, Calls Try.prog 31 #[.agg #[.int .i64 k', .int .u64 b']] w fun e w' => e = .returned (.int .u64 (adrZ k' b')) ∧ Below w.heap.size w w') := Lib.hid fun w => rnumber_any k' b' w hk' hb'
  generalize adrZ k b = X at *
  generalize adrZ k' b' = Y at *
  have HD : Hid (∀ (w : World) (A : Option Addr), Ints .u64 w w.heap.size A [na, nb, X, Y] → Calls Try.prog 28 #[.int .u64 s, .string sLtk, .slice A 4 4] w fun e w' => e = .returned (.int .u64 (ltkZ s na nb X Y)) ∧ Below w.heap.size w w') :=
    Lib.hid fun w A hr => rderive_any s sLtk A 4 4 [na, nb, X, Y] w (by omega) (by decide) rfl (words4 hn hm bx by_) hr (by decide)
  generalize ltkZ s na nb X Y = Z at *
  have ew : IntKind.u64.wrap s = s := by rw [IntKind.wrap_u64]; omega
  go_enter Try.func21, Try.ntmps21
  go_wp2_with fail
  generalize (w.alloc (.cells #[.int .i64 k, .int .u64 b] 36)).alloc (.cells #[.int .i64 k', .int .u64 b'] 36) = W at *
  have s0 : Two4 W.drew w.heap.size k b k' b' := T0
  have B0 : Below w.heap.size w W.drew := hB.drew
  go_region_held3 (fun w' => w'.cell? ⟨w.heap.size, 0, none⟩ = some (.int .i64 k) ∧ w'.cell? ⟨w.heap.size, 1, none⟩ = some (.int .u64 b) ∧ w'.cell? ⟨w.heap.size + 1, 0, none⟩ = some (.int .i64 k') ∧ w'.cell? ⟨w.heap.size + 1, 1, none⟩ = some (.int .u64 b')) (first | exact s0 | exact s1 | exact s2 | exact s2a | exact s3) (first
    | (go_at_call 28; refine (HD.out _ _ (lit1 .u64 _ [na, nb, X, Y] _ _ rfl)).mono ?_; rintro e v3 ⟨rfl, b3⟩; have B3 := thenB B2 (alloc1 _ _ b3); have s3 := s2a.below b3)
    | (go_at_call_of 31 b'; refine (H2.out _).mono ?_; rintro e v2 ⟨rfl, b2⟩; have s2 := s1.below b2; have B2 := thenB B1 b2; have s2a : Two4 (v2.alloc (.cells #[.int .u64 na, .int .u64 nb, .int .u64 X, .int .u64 Y] 22)) w.heap.size k b k' b' := s2.below ((Below.refl _ _).alloc (Nat.le_refl _) _))
    | (go_at_call_of 31 b; refine (H1.out _).mono ?_; rintro e v1 ⟨rfl, b1⟩; have s1 := s0.below b1; have B1 := thenB B0 b1))
  all_goals go_wp2_with fail
  all_goals go_ret
  all_goals exact ⟨rfl, B3⟩
/-- A box of features and two boxes of addresses. -/
def Ten (w : World) (g : Nat) (io : Int) (b1 b2 b3 b4 b5 : Bool) (k b k' b' : Int) : Prop :=
  w.cell? ⟨g, 0, none⟩ = some (.int .i64 io) ∧ w.cell? ⟨g, 1, none⟩ = some (.bool b1) ∧ w.cell? ⟨g, 2, none⟩ = some (.bool b2) ∧ w.cell? ⟨g, 3, none⟩ = some (.bool b3) ∧ w.cell? ⟨g, 4, none⟩ = some (.bool b4) ∧ w.cell? ⟨g, 5, none⟩ = some (.bool b5) ∧
  w.cell? ⟨g + 1, 0, none⟩ = some (.int .i64 k) ∧ w.cell? ⟨g + 1, 1, none⟩ = some (.int .u64 b) ∧ w.cell? ⟨g + 1 + 1, 0, none⟩ = some (.int .i64 k') ∧ w.cell? ⟨g + 1 + 1, 1, none⟩ = some (.int .u64 b')
theorem Ten.below {w w' : World} {g : Nat} {io : Int} {b1 b2 b3 b4 b5 : Bool} {k b k' b' : Int} (h : Ten w g io b1 b2 b3 b4 b5 k b k' b') (hb : Below w.heap.size w w') : Ten w' g io b1 b2 b3 b4 b5 k b k' b' := by
  obtain ⟨h0, h1, h2, h3, h4, h5, h6, h7, h8, h9⟩ := h
  have l0 := cell_lt h0
  have l1 := cell_lt h6
  have l2 := cell_lt h8
  exact ⟨(hb.cell (p := ⟨g, 0, none⟩) l0).trans h0, (hb.cell (p := ⟨g, 1, none⟩) l0).trans h1, (hb.cell (p := ⟨g, 2, none⟩) l0).trans h2, (hb.cell (p := ⟨g, 3, none⟩) l0).trans h3, (hb.cell (p := ⟨g, 4, none⟩) l0).trans h4, (hb.cell (p := ⟨g, 5, none⟩) l0).trans h5,
    (hb.cell (p := ⟨g + 1, 0, none⟩) l1).trans h6, (hb.cell (p := ⟨g + 1, 1, none⟩) l1).trans h7, (hb.cell (p := ⟨g + 1 + 1, 0, none⟩) l2).trans h8, (hb.cell (p := ⟨g + 1 + 1, 1, none⟩) l2).trans h9⟩
theorem Ten.fresh (w : World) (io : Int) (b1 b2 b3 b4 b5 : Bool) (k b k' b' : Int) (t0 t : TypeId) :
    Ten (((w.alloc (.cells #[.int .i64 io, .bool b1, .bool b2, .bool b3, .bool b4, .bool b5] t0)).alloc (.cells #[.int .i64 k, .int .u64 b] t)).alloc (.cells #[.int .i64 k', .int .u64 b'] t)) w.heap.size io b1 b2 b3 b4 b5 k b k' b' := by
  have E := ((Blk.fresh w t0 #[.int .i64 io, .bool b1, .bool b2, .bool b3, .bool b4, .bool b5]).alloc (.cells #[.int .i64 k, .int .u64 b] t)).alloc (.cells #[.int .i64 k', .int .u64 b'] t)
  have F := (Blk.fresh (w.alloc (.cells #[.int .i64 io, .bool b1, .bool b2, .bool b3, .bool b4, .bool b5] t0)) t #[.int .i64 k, .int .u64 b]).alloc (.cells #[.int .i64 k', .int .u64 b'] t)
  have G := Blk.fresh ((w.alloc (.cells #[.int .i64 io, .bool b1, .bool b2, .bool b3, .bool b4, .bool b5] t0)).alloc (.cells #[.int .i64 k, .int .u64 b] t)) t #[.int .i64 k', .int .u64 b']
  rw [World.size_alloc] at F
  rw [World.size_alloc, World.size_alloc] at G
  exact ⟨E.cell 0, E.cell 1, E.cell 2, E.cell 3, E.cell 4, E.cell 5, F.cell 0, F.cell 1, G.cell 0, G.cell 1⟩
theorem Ten.bel (w : World) (io : Int) (b1 b2 b3 b4 b5 : Bool) (k b k' b' : Int) (t0 t : TypeId) :
    Below w.heap.size w (((w.alloc (.cells #[.int .i64 io, .bool b1, .bool b2, .bool b3, .bool b4, .bool b5] t0)).alloc (.cells #[.int .i64 k, .int .u64 b] t)).alloc (.cells #[.int .i64 k', .int .u64 b'] t)) :=
  (((Below.refl _ _).alloc (Nat.le_refl _) _).alloc (by simp) _).alloc (by simp; omega) _
def chkZ (s n r f x y : Int) : Int := mixZ (chkK n r f x y) s
set_option maxHeartbeats 2000000 in
theorem check_any (s n r io : Int) (b1 b2 b3 b4 b5 : Bool) (k b k' b' : Int) (w : World) (hs : 0 ≤ s ∧ s ≤ 4294967295) (hn : 0 ≤ n ∧ n ≤ 18446744073709551615) (hr : 0 ≤ r ∧ r ≤ 18446744073709551615) (hi : -9223372036854775808 ≤ io ∧ io ≤ 9223372036854775807)
    (hk : -9223372036854775808 ≤ k ∧ k ≤ 9223372036854775807) (hb : 0 ≤ b ∧ b ≤ 18446744073709551615) (hk' : -9223372036854775808 ≤ k' ∧ k' ≤ 9223372036854775807) (hb' : 0 ≤ b' ∧ b' ≤ 18446744073709551615) :
    Calls Try.prog 22 #[.int .u32 s, .int .u64 n, .int .u64 r, .agg #[.int .i64 io, .bool b1, .bool b2, .bool b3, .bool b4, .bool b5], .agg #[.int .i64 k, .int .u64 b], .agg #[.int .i64 k', .int .u64 b']] w fun e w' => e = .returned (.int .u64 (chkZ s n r (feaZ io b1 b2 b3 b4 b5) (adrZ k b) (adrZ k' b'))) ∧ Below w.heap.size w w' := by
  have T0 := Ten.fresh w io b1 b2 b3 b4 b5 k b k' b' 41 36
  have hB := Ten.bel w io b1 b2 b3 b4 b5 k b k' b' 41 36
  have bx := adrZ_bd k b
  have by_ := adrZ_bd k' b'
  have bf := feaZ_bd io b1 b2 b3 b4 b5
  have H0 : Hid (∀ w, Calls Try.prog 32 #[.agg #[.int .i64 io, .bool b1, .bool b2, .bool b3, .bool b4, .bool b5]] w fun e w' => e = .returned (.int .u64 (feaZ io b1 b2 b3 b4 b5)) ∧ Below w.heap.size w w') := Lib.hid fun w => features_any io b1 b2 b3 b4 b5 w hi
  have H1 : Hid (∀ w, Calls Try.prog 30 #[.agg #[.int .i64 k, .int .u64 b]] w fun e w' => e = .returned (.int .u64 (adrZ k b)) ∧ Below w.heap.size w w') := Lib.hid fun w => number_any k b w hk hb
  have H2 : Hid (∀ w, Calls Try.prog 30 #[.agg #[.int .i64 k', .int .u64 b']] w fun e w' => e = .returned (.int .u64 (adrZ k' b')) ∧ Below w.heap.size w w') := Lib.hid fun w => number_any k' b' w hk' hb'
  generalize adrZ k b = X at *
  generalize adrZ k' b' = Y at *
  generalize feaZ io b1 b2 b3 b4 b5 = f at *
  have bK := chkK_bd n r f X Y
  have HD : Hid (∀ (w : World) (A : Option Addr), Ints .u64 w w.heap.size A [n, r, f, X, Y] → Calls Try.prog 25 #[.int .u64 0, .string sChk, .slice A 5 5] w fun e w' => e = .returned (.int .u64 (chkK n r f X Y)) ∧ Below w.heap.size w w') :=
    Lib.hid fun w A hi => derive_any 0 sChk A 5 5 [n, r, f, X, Y] w (by decide) (by decide) rfl (words5 hn hr bf bx by_) hi (by decide)
  unfold chkZ
  generalize chkK n r f X Y = K at *
  have ew : IntKind.u64.wrap s = s := by rw [IntKind.wrap_u64]; omega
  go_enter Try.func22, Try.ntmps22
  go_wp2_with fail
  generalize ((w.alloc (.cells #[.int .i64 io, .bool b1, .bool b2, .bool b3, .bool b4, .bool b5] 41)).alloc (.cells #[.int .i64 k, .int .u64 b] 36)).alloc (.cells #[.int .i64 k', .int .u64 b'] 36) = W at *
  have s0 : Ten W.drew w.heap.size io b1 b2 b3 b4 b5 k b k' b' := T0
  have B0 : Below w.heap.size w W.drew := hB.drew
  go_region_held3 (fun w' => w'.cell? ⟨w.heap.size, 0, none⟩ = some (.int .i64 io) ∧ w'.cell? ⟨w.heap.size, 1, none⟩ = some (.bool b1) ∧ w'.cell? ⟨w.heap.size, 2, none⟩ = some (.bool b2) ∧ w'.cell? ⟨w.heap.size, 3, none⟩ = some (.bool b3) ∧ w'.cell? ⟨w.heap.size, 4, none⟩ = some (.bool b4) ∧ w'.cell? ⟨w.heap.size, 5, none⟩ = some (.bool b5) ∧ w'.cell? ⟨w.heap.size + 1, 0, none⟩ = some (.int .i64 k) ∧ w'.cell? ⟨w.heap.size + 1, 1, none⟩ = some (.int .u64 b) ∧ w'.cell? ⟨w.heap.size + 1 + 1, 0, none⟩ = some (.int .i64 k') ∧ w'.cell? ⟨w.heap.size + 1 + 1, 1, none⟩ = some (.int .u64 b')) (first | exact s0 | exact s1 | exact s2 | exact s3 | exact s3a | exact s4) (first
    | (go_at_call 25; refine (HD.out _ _ (lit1 .u64 _ [n, r, f, X, Y] _ _ rfl)).mono ?_; rintro e v4 ⟨rfl, b4'⟩; have B4 := thenB B3 (alloc1 _ _ b4'); have s4 := s3a.below b4')
    | (go_at_call_of 30 b'; refine (H2.out _).mono ?_; rintro e v3 ⟨rfl, b3'⟩; have s3 := s2.below b3'; have B3 := thenB B2 b3'; have s3a : Ten (v3.alloc (.cells #[.int .u64 n, .int .u64 r, .int .u64 f, .int .u64 X, .int .u64 Y] 22)) w.heap.size io b1 b2 b3 b4 b5 k b k' b' := s3.below ((Below.refl _ _).alloc (Nat.le_refl _) _))
    | (go_at_call_of 30 b; refine (H1.out _).mono ?_; rintro e v2 ⟨rfl, b2'⟩; have s2 := s1.below b2'; have B2 := thenB B1 b2')
    | (go_at_call 32; refine (H0.out _).mono ?_; rintro e v1 ⟨rfl, b1'⟩; have s1 := s0.below b1'; have B1 := thenB B0 b1'))
  all_goals go_wp2_with (go_at_call 24; refine (mix_any K s _ bK (by omega)).mono ?_; rintro e v5 ⟨rfl, b5'⟩; have B5 := thenB B4 b5')
  all_goals go_ret
  all_goals exact ⟨rfl, B5⟩
set_option maxHeartbeats 2000000 in
theorem rcheck_any (s n r io : Int) (b1 b2 b3 b4 b5 : Bool) (k b k' b' : Int) (w : World) (hs : 0 ≤ s ∧ s ≤ 4294967295) (hn : 0 ≤ n ∧ n ≤ 18446744073709551615) (hr : 0 ≤ r ∧ r ≤ 18446744073709551615) (hi : -9223372036854775808 ≤ io ∧ io ≤ 9223372036854775807)
    (hk : -9223372036854775808 ≤ k ∧ k ≤ 9223372036854775807) (hb : 0 ≤ b ∧ b ≤ 18446744073709551615) (hk' : -9223372036854775808 ≤ k' ∧ k' ≤ 9223372036854775807) (hb' : 0 ≤ b' ∧ b' ≤ 18446744073709551615) :
    Calls Try.prog 23 #[.int .u32 s, .int .u64 n, .int .u64 r, .agg #[.int .i64 io, .bool b1, .bool b2, .bool b3, .bool b4, .bool b5], .agg #[.int .i64 k, .int .u64 b], .agg #[.int .i64 k', .int .u64 b']] w fun e w' => e = .returned (.int .u64 (chkZ s n r (feaZ io b1 b2 b3 b4 b5) (adrZ k b) (adrZ k' b'))) ∧ Below w.heap.size w w' := by
  have T0 := Ten.fresh w io b1 b2 b3 b4 b5 k b k' b' 41 36
  have hB := Ten.bel w io b1 b2 b3 b4 b5 k b k' b' 41 36
  have bx := adrZ_bd k b
  have by_ := adrZ_bd k' b'
  have bf := feaZ_bd io b1 b2 b3 b4 b5
  have H0 : Hid (∀ w, Calls Try.prog 33 #[.agg #[.int .i64 io, .bool b1, .bool b2, .bool b3, .bool b4, .bool b5]] w fun e w' => e = .returned (.int .u64 (feaZ io b1 b2 b3 b4 b5)) ∧ Below w.heap.size w w') := Lib.hid fun w => rfeatures_any io b1 b2 b3 b4 b5 w hi
  have H1 : Hid (∀ w, Calls Try.prog 31 #[.agg #[.int .i64 k, .int .u64 b]] w fun e w' => e = .returned (.int .u64 (adrZ k b)) ∧ Below w.heap.size w w') := Lib.hid fun w => rnumber_any k b w hk hb
  have H2 : Hid (∀ w, Calls Try.prog 31 #[.agg #[.int .i64 k', .int .u64 b']] w fun e w' => e = .returned (.int .u64 (adrZ k' b')) ∧ Below w.heap.size w w') := Lib.hid fun w => rnumber_any k' b' w hk' hb'
  generalize adrZ k b = X at *
  generalize adrZ k' b' = Y at *
  generalize feaZ io b1 b2 b3 b4 b5 = f at *
  have bK := chkK_bd n r f X Y
  have HD : Hid (∀ (w : World) (A : Option Addr), Ints .u64 w w.heap.size A [n, r, f, X, Y] → Calls Try.prog 28 #[.int .u64 0, .string sChk, .slice A 5 5] w fun e w' => e = .returned (.int .u64 (chkK n r f X Y)) ∧ Below w.heap.size w w') :=
    Lib.hid fun w A hi => rderive_any 0 sChk A 5 5 [n, r, f, X, Y] w (by decide) (by decide) rfl (words5 hn hr bf bx by_) hi (by decide)
  unfold chkZ
  generalize chkK n r f X Y = K at *
  have ew : IntKind.u64.wrap s = s := by rw [IntKind.wrap_u64]; omega
  go_enter Try.func23, Try.ntmps23
  go_wp2_with fail
  generalize ((w.alloc (.cells #[.int .i64 io, .bool b1, .bool b2, .bool b3, .bool b4, .bool b5] 41)).alloc (.cells #[.int .i64 k, .int .u64 b] 36)).alloc (.cells #[.int .i64 k', .int .u64 b'] 36) = W at *
  have s0 : Ten W.drew w.heap.size io b1 b2 b3 b4 b5 k b k' b' := T0
  have B0 : Below w.heap.size w W.drew := hB.drew
  go_region_held3 (fun w' => w'.cell? ⟨w.heap.size, 0, none⟩ = some (.int .i64 io) ∧ w'.cell? ⟨w.heap.size, 1, none⟩ = some (.bool b1) ∧ w'.cell? ⟨w.heap.size, 2, none⟩ = some (.bool b2) ∧ w'.cell? ⟨w.heap.size, 3, none⟩ = some (.bool b3) ∧ w'.cell? ⟨w.heap.size, 4, none⟩ = some (.bool b4) ∧ w'.cell? ⟨w.heap.size, 5, none⟩ = some (.bool b5) ∧ w'.cell? ⟨w.heap.size + 1, 0, none⟩ = some (.int .i64 k) ∧ w'.cell? ⟨w.heap.size + 1, 1, none⟩ = some (.int .u64 b) ∧ w'.cell? ⟨w.heap.size + 1 + 1, 0, none⟩ = some (.int .i64 k') ∧ w'.cell? ⟨w.heap.size + 1 + 1, 1, none⟩ = some (.int .u64 b')) (first | exact s0 | exact s1 | exact s2 | exact s3 | exact s3a | exact s4 | exact s5) (first
    | (go_at_call 26; refine (rmix_any K s _ bK (by omega)).mono ?_; rintro e v5 ⟨rfl, b5'⟩; have B5 := thenB B4 b5'; have s5 := s4.below b5')
    | (go_at_call 28; refine (HD.out _ _ (lit1 .u64 _ [n, r, f, X, Y] _ _ rfl)).mono ?_; rintro e v4 ⟨rfl, b4'⟩; have B4 := thenB B3 (alloc1 _ _ b4'); have s4 := s3a.below b4')
    | (go_at_call_of 31 b'; refine (H2.out _).mono ?_; rintro e v3 ⟨rfl, b3'⟩; have s3 := s2.below b3'; have B3 := thenB B2 b3'; have s3a : Ten (v3.alloc (.cells #[.int .u64 n, .int .u64 r, .int .u64 f, .int .u64 X, .int .u64 Y] 22)) w.heap.size io b1 b2 b3 b4 b5 k b k' b' := s3.below ((Below.refl _ _).alloc (Nat.le_refl _) _))
    | (go_at_call_of 31 b; refine (H1.out _).mono ?_; rintro e v2 ⟨rfl, b2'⟩; have s2 := s1.below b2'; have B2 := thenB B1 b2')
    | (go_at_call 33; refine (H0.out _).mono ?_; rintro e v1 ⟨rfl, b1'⟩; have s1 := s0.below b1'; have B1 := thenB B0 b1'))
  all_goals go_wp2_with fail
  all_goals go_ret
  all_goals exact ⟨rfl, B5⟩
end Go.Proofs.Yteklppgggmamaaa.Cnf
