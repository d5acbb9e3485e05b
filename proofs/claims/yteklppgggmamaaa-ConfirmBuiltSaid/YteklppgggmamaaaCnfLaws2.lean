/- The statements on keys and check values, and on what commitments are built of, walked: each returns true. -/
import Derived.Test.YteklppgggmamaaaCnfLaws
set_option linter.unusedVariables false
set_option linter.unusedSimpArgs false
namespace Go.Proofs.Yteklppgggmamaaa.Cnf
open Go.RowKit Mem Oct Blk Base Mac

set_option maxHeartbeats 1000000 in
theorem law_keys (s na nb k b k' b' : Int) (w : World) (hs : 0 ≤ s ∧ s ≤ 4294967295) (hn : 0 ≤ na ∧ na ≤ 18446744073709551615) (hm : 0 ≤ nb ∧ nb ≤ 18446744073709551615)
    (hk : -9223372036854775808 ≤ k ∧ k ≤ 9223372036854775807) (hb : 0 ≤ b ∧ b ≤ 18446744073709551615) (hk' : -9223372036854775808 ≤ k' ∧ k' ≤ 9223372036854775807) (hb' : 0 ≤ b' ∧ b' ≤ 18446744073709551615) :
    Calls Try.prog 7 #[.int .u32 s, .int .u64 na, .int .u64 nb, .agg #[.int .i64 k, .int .u64 b], .agg #[.int .i64 k', .int .u64 b']] w fun e w' => e = .returned (.bool true) ∧ Below w.heap.size w w' := by
  have T0 := Two4.fresh w k b k' b' 36
  have hB : Below w.heap.size w ((w.alloc (.cells #[.int .i64 k, .int .u64 b] 36)).alloc (.cells #[.int .i64 k', .int .u64 b'] 36)) := ((Below.refl _ _).alloc (Nat.le_refl _) _).alloc (by simp) _
  have H1 : Hid (∀ w, Calls Try.prog 20 #[.int .u32 s, .int .u64 na, .int .u64 nb, .agg #[.int .i64 k, .int .u64 b], .agg #[.int .i64 k', .int .u64 b']] w fun e w' => e = .returned (.int .u64 (ltkZ s na nb (adrZ k b) (adrZ k' b'))) ∧ Below w.heap.size w w') := Lib.hid fun w => long_any s na nb k b k' b' w hs hn hm hk hb hk' hb'
  have H2 : Hid (∀ w, Calls Try.prog 21 #[.int .u32 s, .int .u64 na, .int .u64 nb, .agg #[.int .i64 k, .int .u64 b], .agg #[.int .i64 k', .int .u64 b']] w fun e w' => e = .returned (.int .u64 (ltkZ s na nb (adrZ k b) (adrZ k' b'))) ∧ Below w.heap.size w w') := Lib.hid fun w => rlong_any s na nb k b k' b' w hs hn hm hk hb hk' hb'
  generalize ltkZ s na nb (adrZ k b) (adrZ k' b') = Z at *
  go_enter Try.func7, Try.ntmps7
  go_wp2_with fail
  generalize (w.alloc (.cells #[.int .i64 k, .int .u64 b] 36)).alloc (.cells #[.int .i64 k', .int .u64 b'] 36) = W at *
  have s0 : Two4 W.drew w.heap.size k b k' b' := T0
  have B0 : Below w.heap.size w W.drew := hB.drew
  go_region_held3 (fun w' => w'.cell? ⟨w.heap.size, 0, none⟩ = some (.int .i64 k) ∧ w'.cell? ⟨w.heap.size, 1, none⟩ = some (.int .u64 b) ∧ w'.cell? ⟨w.heap.size + 1, 0, none⟩ = some (.int .i64 k') ∧ w'.cell? ⟨w.heap.size + 1, 1, none⟩ = some (.int .u64 b')) (first | exact s0 | exact s1 | exact s2 | exact s3) (first
    | (go_at_call 11; refine (lives_any _).mono ?_; rintro e v1 ⟨rfl, c1⟩; have s1 := s0.below c1; have B1 := thenB B0 c1)
    | (go_at_call 20; refine (H1.out _).mono ?_; rintro e v2 ⟨rfl, c2⟩; have s2 := s1.below c2; have B2 := thenB B1 c2)
    | (go_at_call 21; refine (H2.out _).mono ?_; rintro e v3 ⟨rfl, c3⟩; have s3 := s2.below c3; have B3 := thenB B2 c3))
  all_goals go_wp2_with fail
  all_goals go_ret
  all_goals exact ⟨rfl, B3⟩
set_option maxHeartbeats 1000000 in
theorem law_checks (s n r io : Int) (b1 b2 b3 b4 b5 : Bool) (k b k' b' : Int) (w : World) (hs : 0 ≤ s ∧ s ≤ 4294967295) (hn : 0 ≤ n ∧ n ≤ 18446744073709551615) (hr : 0 ≤ r ∧ r ≤ 18446744073709551615) (hi : -9223372036854775808 ≤ io ∧ io ≤ 9223372036854775807)
    (hk : -9223372036854775808 ≤ k ∧ k ≤ 9223372036854775807) (hb : 0 ≤ b ∧ b ≤ 18446744073709551615) (hk' : -9223372036854775808 ≤ k' ∧ k' ≤ 9223372036854775807) (hb' : 0 ≤ b' ∧ b' ≤ 18446744073709551615) :
    Calls Try.prog 8 #[.int .u32 s, .int .u64 n, .int .u64 r, .agg #[.int .i64 io, .bool b1, .bool b2, .bool b3, .bool b4, .bool b5], .agg #[.int .i64 k, .int .u64 b], .agg #[.int .i64 k', .int .u64 b']] w fun e w' => e = .returned (.bool true) ∧ Below w.heap.size w w' := by
  have T0 := Ten.fresh w io b1 b2 b3 b4 b5 k b k' b' 41 36
  have hB := Ten.bel w io b1 b2 b3 b4 b5 k b k' b' 41 36
  have H1 : Hid (∀ w, Calls Try.prog 22 #[.int .u32 s, .int .u64 n, .int .u64 r, .agg #[.int .i64 io, .bool b1, .bool b2, .bool b3, .bool b4, .bool b5], .agg #[.int .i64 k, .int .u64 b], .agg #[.int .i64 k', .int .u64 b']] w fun e w' => e = .returned (.int .u64 (chkZ s n r (feaZ io b1 b2 b3 b4 b5) (adrZ k b) (adrZ k' b'))) ∧ Below w.heap.size w w') := Lib.hid fun w => check_any s n r io b1 b2 b3 b4 b5 k b k' b' w hs hn hr hi hk hb hk' hb'
  have H2 : Hid (∀ w, Calls Try.prog 23 #[.int .u32 s, .int .u64 n, .int .u64 r, .agg #[.int .i64 io, .bool b1, .bool b2, .bool b3, .bool b4, .bool b5], .agg #[.int .i64 k, .int .u64 b], .agg #[.int .i64 k', .int .u64 b']] w fun e w' => e = .returned (.int .u64 (chkZ s n r (feaZ io b1 b2 b3 b4 b5) (adrZ k b) (adrZ k' b'))) ∧ Below w.heap.size w w') := Lib.hid fun w => rcheck_any s n r io b1 b2 b3 b4 b5 k b k' b' w hs hn hr hi hk hb hk' hb'
  generalize chkZ s n r (feaZ io b1 b2 b3 b4 b5) (adrZ k b) (adrZ k' b') = Z at *
  go_enter Try.func8, Try.ntmps8
  go_wp2_with fail
  generalize ((w.alloc (.cells #[.int .i64 io, .bool b1, .bool b2, .bool b3, .bool b4, .bool b5] 41)).alloc (.cells #[.int .i64 k, .int .u64 b] 36)).alloc (.cells #[.int .i64 k', .int .u64 b'] 36) = W at *
  have s0 : Ten W.drew w.heap.size io b1 b2 b3 b4 b5 k b k' b' := T0
  have B0 : Below w.heap.size w W.drew := hB.drew
  go_region_held3 (fun w' => w'.cell? ⟨w.heap.size, 0, none⟩ = some (.int .i64 io) ∧ w'.cell? ⟨w.heap.size, 1, none⟩ = some (.bool b1) ∧ w'.cell? ⟨w.heap.size, 2, none⟩ = some (.bool b2) ∧ w'.cell? ⟨w.heap.size, 3, none⟩ = some (.bool b3) ∧ w'.cell? ⟨w.heap.size, 4, none⟩ = some (.bool b4) ∧ w'.cell? ⟨w.heap.size, 5, none⟩ = some (.bool b5) ∧ w'.cell? ⟨w.heap.size + 1, 0, none⟩ = some (.int .i64 k) ∧ w'.cell? ⟨w.heap.size + 1, 1, none⟩ = some (.int .u64 b) ∧ w'.cell? ⟨w.heap.size + 1 + 1, 0, none⟩ = some (.int .i64 k') ∧ w'.cell? ⟨w.heap.size + 1 + 1, 1, none⟩ = some (.int .u64 b')) (first | exact s0 | exact s1 | exact s2 | exact s3) (first
    | (go_at_call 11; refine (lives_any _).mono ?_; rintro e v1 ⟨rfl, c1⟩; have s1 := s0.below c1; have B1 := thenB B0 c1)
    | (go_at_call 22; refine (H1.out _).mono ?_; rintro e v2 ⟨rfl, c2⟩; have s2 := s1.below c2; have B2 := thenB B1 c2)
    | (go_at_call 23; refine (H2.out _).mono ?_; rintro e v3 ⟨rfl, c3⟩; have s3 := s2.below c3; have B3 := thenB B2 c3))
  all_goals go_wp2_with fail
  all_goals go_ret
  all_goals exact ⟨rfl, B3⟩
theorem chk_eq (s t n r f x y : Int) (hs : 0 ≤ s ∧ s ≤ 4294967295) (ht : 0 ≤ t ∧ t ≤ 4294967295) : ((chkZ s n r f x y == chkZ t n r f x y) == (s == t)) = true :=
  beq_both ⟨fun e => mix_inj _ (by omega) (by omega) e, fun e => by rw [e]⟩
set_option maxHeartbeats 1000000 in
theorem law_shows (s t n r io : Int) (b1 b2 b3 b4 b5 : Bool) (k b k' b' : Int) (w : World) (hs : 0 ≤ s ∧ s ≤ 4294967295) (ht : 0 ≤ t ∧ t ≤ 4294967295) (hn : 0 ≤ n ∧ n ≤ 18446744073709551615) (hr : 0 ≤ r ∧ r ≤ 18446744073709551615) (hi : -9223372036854775808 ≤ io ∧ io ≤ 9223372036854775807)
    (hk : -9223372036854775808 ≤ k ∧ k ≤ 9223372036854775807) (hb : 0 ≤ b ∧ b ≤ 18446744073709551615) (hk' : -9223372036854775808 ≤ k' ∧ k' ≤ 9223372036854775807) (hb' : 0 ≤ b' ∧ b' ≤ 18446744073709551615) :
    Calls Try.prog 9 #[.int .u32 s, .int .u32 t, .int .u64 n, .int .u64 r, .agg #[.int .i64 io, .bool b1, .bool b2, .bool b3, .bool b4, .bool b5], .agg #[.int .i64 k, .int .u64 b], .agg #[.int .i64 k', .int .u64 b']] w fun e w' => e = .returned (.bool true) ∧ Below w.heap.size w w' := by
  have T0 := Ten.fresh w io b1 b2 b3 b4 b5 k b k' b' 41 36
  have hB := Ten.bel w io b1 b2 b3 b4 b5 k b k' b' 41 36
  have E := chk_eq s t n r (feaZ io b1 b2 b3 b4 b5) (adrZ k b) (adrZ k' b') hs ht
  have H1 : Hid (∀ w, Calls Try.prog 22 #[.int .u32 s, .int .u64 n, .int .u64 r, .agg #[.int .i64 io, .bool b1, .bool b2, .bool b3, .bool b4, .bool b5], .agg #[.int .i64 k, .int .u64 b], .agg #[.int .i64 k', .int .u64 b']] w fun e w' => e = .returned (.int .u64 (chkZ s n r (feaZ io b1 b2 b3 b4 b5) (adrZ k b) (adrZ k' b'))) ∧ Below w.heap.size w w') := Lib.hid fun w => check_any s n r io b1 b2 b3 b4 b5 k b k' b' w hs hn hr hi hk hb hk' hb'
  have H2 : Hid (∀ w, Calls Try.prog 22 #[.int .u32 t, .int .u64 n, .int .u64 r, .agg #[.int .i64 io, .bool b1, .bool b2, .bool b3, .bool b4, .bool b5], .agg #[.int .i64 k, .int .u64 b], .agg #[.int .i64 k', .int .u64 b']] w fun e w' => e = .returned (.int .u64 (chkZ t n r (feaZ io b1 b2 b3 b4 b5) (adrZ k b) (adrZ k' b'))) ∧ Below w.heap.size w w') := Lib.hid fun w => check_any t n r io b1 b2 b3 b4 b5 k b k' b' w ht hn hr hi hk hb hk' hb'
  generalize chkZ s n r (feaZ io b1 b2 b3 b4 b5) (adrZ k b) (adrZ k' b') = Z at *
  generalize chkZ t n r (feaZ io b1 b2 b3 b4 b5) (adrZ k b) (adrZ k' b') = Y at *
  go_enter Try.func9, Try.ntmps9
  go_wp2_with fail
  generalize ((w.alloc (.cells #[.int .i64 io, .bool b1, .bool b2, .bool b3, .bool b4, .bool b5] 41)).alloc (.cells #[.int .i64 k, .int .u64 b] 36)).alloc (.cells #[.int .i64 k', .int .u64 b'] 36) = W at *
  have s0 : Ten W.drew w.heap.size io b1 b2 b3 b4 b5 k b k' b' := T0
  have B0 : Below w.heap.size w W.drew := hB.drew
  go_region_held3 (fun w' => w'.cell? ⟨w.heap.size, 0, none⟩ = some (.int .i64 io) ∧ w'.cell? ⟨w.heap.size, 1, none⟩ = some (.bool b1) ∧ w'.cell? ⟨w.heap.size, 2, none⟩ = some (.bool b2) ∧ w'.cell? ⟨w.heap.size, 3, none⟩ = some (.bool b3) ∧ w'.cell? ⟨w.heap.size, 4, none⟩ = some (.bool b4) ∧ w'.cell? ⟨w.heap.size, 5, none⟩ = some (.bool b5) ∧ w'.cell? ⟨w.heap.size + 1, 0, none⟩ = some (.int .i64 k) ∧ w'.cell? ⟨w.heap.size + 1, 1, none⟩ = some (.int .u64 b) ∧ w'.cell? ⟨w.heap.size + 1 + 1, 0, none⟩ = some (.int .i64 k') ∧ w'.cell? ⟨w.heap.size + 1 + 1, 1, none⟩ = some (.int .u64 b')) (first | exact s0 | exact s1 | exact s2 | exact s3) (first
    | (go_at_call 11; refine (lives_any _).mono ?_; rintro e v1 ⟨rfl, c1⟩; have s1 := s0.below c1; have B1 := thenB B0 c1)
    | (go_at_call_of 22 s; refine (H1.out _).mono ?_; rintro e v2 ⟨rfl, c2⟩; have s2 := s1.below c2; have B2 := thenB B1 c2)
    | (go_at_call_of 22 t; refine (H2.out _).mono ?_; rintro e v3 ⟨rfl, c3⟩; have s3 := s2.below c3; have B3 := thenB B2 c3))
  all_goals go_wp2_with fail
  all_goals go_ret
  all_goals exact ⟨rfl, B3⟩
theorem law_built (u v a b z : Int) (w : World) (hu : 0 ≤ u ∧ u ≤ 4294967295) (hv : 0 ≤ v ∧ v ≤ 4294967295) (ha : 0 ≤ a ∧ a ≤ 18446744073709551615) (hb : 0 ≤ b ∧ b ≤ 18446744073709551615) (hz : 0 ≤ z ∧ z ≤ 255) :
    Calls Try.prog 10 #[.int .u32 u, .int .u32 v, .int .u64 a, .int .u64 b, .int .u8 z] w fun e w' => e = .returned (.bool true) ∧ Below w.heap.size w w' := by
  have e1 : IntKind.u64.wrap (u * 4294967296) = u * 4294967296 := by rw [IntKind.wrap_u64]; omega
  have e2 : IntKind.u64.wrap (u * 4294967296 + v) = pairZ u v := by rw [IntKind.wrap_u64]; unfold pairZ; omega
  have e3 : u * 4294967296 + v = pairZ u v := rfl
  have bp := pairZ_bd hu hv
  have bk := comK_bd u v z
  have bt := digT_bd u v a b
  have H1 : Hid (∀ w, Calls Try.prog 14 #[.int .u32 u, .int .u32 v, .int .u64 a, .int .u8 z] w fun e w' => e = .returned (.int .u64 (mixZ (comK u v z) a)) ∧ Below w.heap.size w w') := Lib.hid fun w => commit_any u v a z w hu hv ha hz
  have H2 : Hid (∀ w, Calls Try.prog 18 #[.int .u32 u, .int .u32 v, .int .u64 a, .int .u64 b] w fun e w' => e = .returned (.int .i64 (digT u v a b % 1000000)) ∧ Below w.heap.size w w') := Lib.hid fun w => digits_any u v a b w hu hv ha hb
  have H3 : Hid (∀ (w : World) (A : Option Addr), Ints .u64 w w.heap.size A [z] → Calls Try.prog 25 #[.int .u64 (pairZ u v), .string sCom, .slice A 1 1] w fun e w' => e = .returned (.int .u64 (comK u v z)) ∧ Below w.heap.size w w') :=
    Lib.hid fun w A hr => derive_any (pairZ u v) sCom A 1 1 [z] w bp (by decide) rfl (words1 (by omega)) hr (by decide)
  have H4 : Hid (∀ (w : World) (A : Option Addr), Ints .u64 w w.heap.size A [a, b] → Calls Try.prog 25 #[.int .u64 (pairZ u v), .string sDig, .slice A 2 2] w fun e w' => e = .returned (.int .u64 (digT u v a b)) ∧ Below w.heap.size w w') :=
    Lib.hid fun w A hr => derive_any (pairZ u v) sDig A 2 2 [a, b] w bp (by decide) rfl (words2 ha hb) hr (by decide)
  generalize comK u v z = K at *
  generalize digT u v a b = T at *
  generalize pairZ u v = P at *
  have f1 : T.tmod 1000000 = T % 1000000 := Int.tmod_eq_emod_of_nonneg bt.1
  have f2 : IntKind.u64.wrap (T % 1000000) = T % 1000000 := by rw [IntKind.wrap_u64]; omega
  have H5 : Hid (∀ w, Calls Try.prog 24 #[.int .u64 K, .int .u64 a] w fun e w' => e = .returned (.int .u64 (mixZ K a)) ∧ Below w.heap.size w w') := Lib.hid fun w => mix_any K a w bk ha
  generalize mixZ K a = M at *
  go_enter Try.func10, Try.ntmps10
  go_wp2_with (first
    | (go_at_call 11; refine (lives_any _).mono ?_; rintro e w1 ⟨rfl, b1⟩; have B1 := b1)
    | (go_at_call 14; refine (H1.out _).mono ?_; rintro e w2 ⟨rfl, b2⟩; have B2 := thenB B1 b2; have i2 := lit1 .u64 w2 [z] #[.int .u64 z] 22 rfl)
    | (go_at_call_of 25 (Value.int IntKind.u64 P); refine (H3.out _ _ i2).mono ?_; clear H3; rintro e w3 ⟨rfl, b3⟩; have B3 := thenB B2 (alloc1 _ _ b3); clear i2)
    | (go_at_call 24; refine (H5.out _).mono ?_; rintro e w4 ⟨rfl, b4⟩; have B4 := thenB B3 b4)
    | (go_at_call 18; refine (H2.out _).mono ?_; rintro e w5 ⟨rfl, b5⟩; have B5 := thenB B4 b5; have i5 := lit1 .u64 w5 [a, b] #[.int .u64 a, .int .u64 b] 22 rfl)
    | (go_at_call 25; refine (H4.out _ _ i5).mono ?_; rintro e w6 ⟨rfl, b6⟩; have B6 := thenB B5 (alloc1 _ _ b6)))
  go_ret
  exact ⟨rfl, B6⟩
end Go.Proofs.Yteklppgggmamaaa.Cnf
