/- The functions of pairing and their specification: what they return: contracts over the program. -/
import Derived.Test.YteklppgggmamaaaMacDer
set_option linter.unusedVariables false
set_option linter.unusedSimpArgs false
namespace Go.Proofs.Yteklppgggmamaaa.Cnf
open Go.RowKit Mem Oct Blk Base Mac

/-- The pair of two public keys. -/
def pairZ (u v : Int) : Int := u * 4294967296 + v
theorem pairZ_bd {u v : Int} (hu : 0 ≤ u ∧ u ≤ 4294967295) (hv : 0 ≤ v ∧ v ≤ 4294967295) : 0 ≤ pairZ u v ∧ pairZ u v ≤ 18446744073709551615 := by unfold pairZ; omega
def sCom : ByteArray := ⟨#[99, 111, 109, 109, 105, 116]⟩
def sDig : ByteArray := ⟨#[100, 105, 103, 105, 116, 115]⟩
def comK (u v z : Int) : Int := tagZ (pairZ u v) (derI sCom [z])
def comZ (u v n z : Int) : Int := mixZ (comK u v z) n
def digT (u v na nb : Int) : Int := tagZ (pairZ u v) (derI sDig [na, nb])
def digZ (u v na nb : Int) : Int := digT u v na nb % 1000000
theorem der_bd (k : Int) (s : ByteArray) (ps : List Int) (hs : s.size ≤ 1048576) (hp : ps.length ≤ 1048576) : 0 ≤ tagZ k (derI s ps) ∧ tagZ k (derI s ps) ≤ 18446744073709551615 :=
  tagZ_bd k (derI_bytes s ps) (by rw [derI_len]; omega)
theorem comK_bd (u v z : Int) : 0 ≤ comK u v z ∧ comK u v z ≤ 18446744073709551615 := der_bd _ _ _ (by decide) (by simp)
theorem comZ_bd {u v n z : Int} (hn : 0 ≤ n ∧ n ≤ 18446744073709551615) : 0 ≤ comZ u v n z ∧ comZ u v n z ≤ 18446744073709551615 := mixZ_bd _ _ hn
theorem digT_bd (u v na nb : Int) : 0 ≤ digT u v na nb ∧ digT u v na nb ≤ 18446744073709551615 := der_bd _ _ _ (by decide) (by simp)
theorem words1 {a : Int} (h : 0 ≤ a ∧ a ≤ 18446744073709551615) : Words [a] := by intro p hp; simp at hp; subst hp; exact h
theorem words2 {a b : Int} (h : 0 ≤ a ∧ a ≤ 18446744073709551615) (h' : 0 ≤ b ∧ b ≤ 18446744073709551615) : Words [a, b] := by
  intro p hp; simp at hp
  rcases hp with rfl | rfl
  · exact h
  · exact h'
/-- Joining lower bits to a number that has none. -/
theorem or_add (k : Nat) (x y : Int) (hx : 0 ≤ x) (hm : x + y ≤ 18446744073709551615) (hy : 0 ≤ y) (hy' : y < 2 ^ k) (hd : x % 2 ^ k = 0) : bits BinOp.or IntKind.u64 x y = x + y := by
  obtain ⟨m, rfl⟩ := Int.eq_ofNat_of_zero_le hx
  obtain ⟨n, rfl⟩ := Int.eq_ofNat_of_zero_le hy
  rw [u64_or _ _ (by omega) (by omega) (by omega) (by omega), Int.toNat_natCast, Int.toNat_natCast]
  have hn : n < 2 ^ k := by have : ((n : Nat) : Int) < ((2 ^ k : Nat) : Int) := by push_cast; exact hy'
                            omega
  have hd' : m % 2 ^ k = 0 := by
    have : ((m % 2 ^ k : Nat) : Int) = 0 := by push_cast; exact hd
    omega
  have h := Nat.div_add_mod m (2 ^ k)
  rw [hd', Nat.add_zero] at h
  have e := Nat.two_pow_add_eq_or_of_lt hn (m / 2 ^ k)
  rw [h] at e
  rw [← e]; simp
theorem or_swap (x y : Int) (hx : 0 ≤ x ∧ x ≤ 18446744073709551615) (hy : 0 ≤ y ∧ y ≤ 18446744073709551615) : bits BinOp.or IntKind.u64 x y = bits BinOp.or IntKind.u64 y x := by
  rw [u64_or _ _ hx.1 (by omega) hy.1 (by omega), u64_or _ _ hy.1 (by omega) hx.1 (by omega), Nat.or_comm]
theorem cderive_any (u v : Int) (s : ByteArray) (A : Option Addr) (n c : Nat) (ps : List Int) (w : World) (hu : 0 ≤ u ∧ u ≤ 4294967295) (hv : 0 ≤ v ∧ v ≤ 4294967295) (hs : s.size ≤ 1048576) (hl : ps.length = n) (bp : Words ps) (hr : Ints .u64 w w.heap.size A ps) (hn : n ≤ 1048576) :
    Calls Try.prog 27 #[.int .u32 u, .int .u32 v, .string s, .slice A n c] w fun e w' => e = .returned (.int .u64 (tagZ (pairZ u v) (derI s ps))) ∧ Below w.heap.size w w' := by
  have e1 : IntKind.u64.wrap (u * 4294967296) = u * 4294967296 := by rw [IntKind.wrap_u64]; omega
  have e2 : bits BinOp.or IntKind.u64 (u * 4294967296) v = pairZ u v := or_add 32 _ _ (by omega) (by omega) (by omega) (by omega) (by omega)
  have bp' := pairZ_bd hu hv
  generalize pairZ u v = K at *
  go_enter Try.func27, Try.ntmps27
  go_wp2_with (go_at_call 25; refine (derive_any K s A n c ps _ bp' hs hl bp hr hn).mono ?_; rintro e w1 ⟨rfl, b1⟩)
  go_ret
  exact ⟨rfl, b1⟩
theorem rpair_any (u v : Int) (w : World) (hu : 0 ≤ u ∧ u ≤ 4294967295) (hv : 0 ≤ v ∧ v ≤ 4294967295) :
    Calls Try.prog 29 #[.int .u32 u, .int .u32 v] w fun e w' => e = .returned (.int .u64 (pairZ u v)) ∧ w = w' := by
  have e1 : IntKind.u64.wrap (u * 4294967296) = u * 4294967296 := by rw [IntKind.wrap_u64]; omega
  have e2 : IntKind.u64.wrap (u * 4294967296 + v) = pairZ u v := by rw [IntKind.wrap_u64]; unfold pairZ; omega
  go_enter Try.func29, Try.ntmps29
  go_wp2
  go_ret
  exact ⟨Ser.ret_int (by unfold pairZ; rfl), rfl⟩
theorem draw_any (s i : Int) (w : World) (hs : 0 ≤ s ∧ s ≤ 18446744073709551615) (hi : -9223372036854775808 ≤ i ∧ i ≤ 9223372036854775807) :
    Calls Try.prog 12 #[.int .u64 s, .int .i64 i] w fun e w' => e = .returned (.int .u64 (mixZ s (i % 18446744073709551616))) ∧ Below w.heap.size w w' := by
  have e1 : IntKind.u64.wrap i = i % 18446744073709551616 := by rw [IntKind.wrap_u64]
  have hb : 0 ≤ i % 18446744073709551616 ∧ i % 18446744073709551616 ≤ 18446744073709551615 := by omega
  generalize i % 18446744073709551616 = I at *
  go_enter Try.func12, Try.ntmps12
  go_wp2_with (go_at_call 24; refine (mix_any s I _ hs hb).mono ?_; rintro e w1 ⟨rfl, b1⟩)
  go_ret
  exact ⟨rfl, b1⟩
theorem rdraw_any (s i : Int) (w : World) (hs : 0 ≤ s ∧ s ≤ 18446744073709551615) (hi : -9223372036854775808 ≤ i ∧ i ≤ 9223372036854775807) :
    Calls Try.prog 13 #[.int .u64 s, .int .i64 i] w fun e w' => e = .returned (.int .u64 (mixZ s (i % 18446744073709551616))) ∧ Below w.heap.size w w' := by
  have e1 : IntKind.u64.wrap i = i % 18446744073709551616 := by rw [IntKind.wrap_u64]
  have hb : 0 ≤ i % 18446744073709551616 ∧ i % 18446744073709551616 ≤ 18446744073709551615 := by omega
  generalize i % 18446744073709551616 = I at *
  go_enter Try.func13, Try.ntmps13
  go_wp2_with (go_at_call 26; refine (rmix_any s I _ hs hb).mono ?_; rintro e w1 ⟨rfl, b1⟩)
  go_ret
  exact ⟨rfl, b1⟩
theorem commit_any (u v n z : Int) (w : World) (hu : 0 ≤ u ∧ u ≤ 4294967295) (hv : 0 ≤ v ∧ v ≤ 4294967295) (hn : 0 ≤ n ∧ n ≤ 18446744073709551615) (hz : 0 ≤ z ∧ z ≤ 255) :
    Calls Try.prog 14 #[.int .u32 u, .int .u32 v, .int .u64 n, .int .u8 z] w fun e w' => e = .returned (.int .u64 (comZ u v n z)) ∧ Below w.heap.size w w' := by
  have bk := comK_bd u v z
  go_enter Try.func14, Try.ntmps14
  go_wp2_with (first
    | (go_at_call 27; refine (cderive_any u v sCom _ 1 1 [z] _ hu hv (by decide) rfl (words1 (by omega)) (lit1 .u64 _ [z] _ _ rfl) (by decide)).mono ?_; rintro e w1 ⟨rfl, b1⟩)
    | (go_at_call 24; refine (mix_any (comK u v z) n _ bk hn).mono ?_; rintro e w2 ⟨rfl, b2⟩))
  go_ret
  exact ⟨rfl, thenB (alloc1 _ _ b1) b2⟩
theorem rcommit_any (u v n z : Int) (w : World) (hu : 0 ≤ u ∧ u ≤ 4294967295) (hv : 0 ≤ v ∧ v ≤ 4294967295) (hn : 0 ≤ n ∧ n ≤ 18446744073709551615) (hz : 0 ≤ z ∧ z ≤ 255) :
    Calls Try.prog 15 #[.int .u32 u, .int .u32 v, .int .u64 n, .int .u8 z] w fun e w' => e = .returned (.int .u64 (comZ u v n z)) ∧ Below w.heap.size w w' := by
  have bk := comK_bd u v z
  have bp := pairZ_bd hu hv
  go_enter Try.func15, Try.ntmps15
  go_wp2_with (first
    | (go_at_call 29; refine (rpair_any u v _ hu hv).mono ?_; rintro e w' ⟨rfl, rfl⟩)
    | (go_at_call 28; refine (rderive_any (pairZ u v) sCom _ 1 1 [z] _ bp (by decide) rfl (words1 (by omega)) (lit1 .u64 _ [z] _ _ rfl) (by decide)).mono ?_; rintro e w1 ⟨rfl, b1⟩)
    | (go_at_call 26; refine (rmix_any (comK u v z) n _ bk hn).mono ?_; rintro e w2 ⟨rfl, b2⟩))
  go_ret
  exact ⟨rfl, thenB (alloc1 _ _ b1) b2⟩
theorem digits_any (u v na nb : Int) (w : World) (hu : 0 ≤ u ∧ u ≤ 4294967295) (hv : 0 ≤ v ∧ v ≤ 4294967295) (hn : 0 ≤ na ∧ na ≤ 18446744073709551615) (hz : 0 ≤ nb ∧ nb ≤ 18446744073709551615) :
    Calls Try.prog 18 #[.int .u32 u, .int .u32 v, .int .u64 na, .int .u64 nb] w fun e w' => e = .returned (.int .i64 (digZ u v na nb)) ∧ Below w.heap.size w w' := by
  have bk := digT_bd u v na nb
  have HD : Hid (∀ (w : World) (A : Option Addr), Ints .u64 w w.heap.size A [na, nb] → Calls Try.prog 27 #[.int .u32 u, .int .u32 v, .string sDig, .slice A 2 2] w fun e w' => e = .returned (.int .u64 (digT u v na nb)) ∧ Below w.heap.size w w') :=
    Lib.hid fun w A hr => cderive_any u v sDig A 2 2 [na, nb] w hu hv (by decide) rfl (words2 hn hz) hr (by decide)
  unfold digZ
  generalize digT u v na nb = T at *
  have e1 : T.tmod 1000000 = T % 1000000 := Int.tmod_eq_emod_of_nonneg bk.1
  have e2 : IntKind.u64.wrap (T % 1000000) = T % 1000000 := by rw [IntKind.wrap_u64]; omega
  go_enter Try.func18, Try.ntmps18
  go_wp2_with (go_at_call 27; refine (HD.out _ _ (lit1 .u64 _ [na, nb] _ _ rfl)).mono ?_; rintro e w1 ⟨rfl, b1⟩)
  go_ret
  exact ⟨rfl, alloc1 _ _ b1⟩
theorem rdigits_any (u v na nb : Int) (w : World) (hu : 0 ≤ u ∧ u ≤ 4294967295) (hv : 0 ≤ v ∧ v ≤ 4294967295) (hn : 0 ≤ na ∧ na ≤ 18446744073709551615) (hz : 0 ≤ nb ∧ nb ≤ 18446744073709551615) :
    Calls Try.prog 19 #[.int .u32 u, .int .u32 v, .int .u64 na, .int .u64 nb] w fun e w' => e = .returned (.int .i64 (digZ u v na nb)) ∧ Below w.heap.size w w' := by
  have bk := digT_bd u v na nb
  have bp := pairZ_bd hu hv
  have HD : Hid (∀ (w : World) (A : Option Addr), Ints .u64 w w.heap.size A [na, nb] → Calls Try.prog 28 #[.int .u64 (pairZ u v), .string sDig, .slice A 2 2] w fun e w' => e = .returned (.int .u64 (digT u v na nb)) ∧ Below w.heap.size w w') :=
    Lib.hid fun w A hr => rderive_any (pairZ u v) sDig A 2 2 [na, nb] w bp (by decide) rfl (words2 hn hz) hr (by decide)
  unfold digZ
  generalize digT u v na nb = T at *
  have e1 : T.tmod 1000000 = T % 1000000 := Int.tmod_eq_emod_of_nonneg bk.1
  have e2 : IntKind.u64.wrap (T % 1000000) = T % 1000000 := by rw [IntKind.wrap_u64]; omega
  go_enter Try.func19, Try.ntmps19
  go_wp2_with (first
    | (go_at_call 29; refine (rpair_any u v _ hu hv).mono ?_; rintro e w' ⟨rfl, rfl⟩)
    | (go_at_call 28; refine (HD.out _ _ (lit1 .u64 _ [na, nb] _ _ rfl)).mono ?_; rintro e w1 ⟨rfl, b1⟩))
  go_ret
  exact ⟨rfl, alloc1 _ _ b1⟩
/-- What is known when two numbers are laid into a box. -/
theorem wrote {w W : World} {B g : Nat} {x y u v : Value} {t : TypeId} (hbel : Below B w W) (hg : B ≤ g) (F : Mem.Blk W g t #[u, v]) :
    W.cell? ⟨g, 0, none⟩ = some u ∧ W.cell? ⟨g, 1, none⟩ = some v ∧ W.frozen? ⟨g, 0, none⟩ = false ∧ W.frozen? ⟨g, 1, none⟩ = false ∧
    ((W.setCell ⟨g, 0, none⟩ x).setCell ⟨g, 1, none⟩ y).cell? ⟨g, 0, none⟩ = some x ∧ ((W.setCell ⟨g, 0, none⟩ x).setCell ⟨g, 1, none⟩ y).cell? ⟨g, 1, none⟩ = some y ∧
    Below B w ((W.setCell ⟨g, 0, none⟩ x).setCell ⟨g, 1, none⟩ y) := by
  have h0 : W.cell? ⟨g, 0, none⟩ = some u := F.cell 0
  have h1 : W.cell? ⟨g, 1, none⟩ = some v := F.cell 1
  have e0 : (W.setCell ⟨g, 0, none⟩ x).cell? ⟨g, 0, none⟩ = some x := World.cell?_setCell_same' _ _ _ (by rw [h0]; rfl)
  have e1 : (W.setCell ⟨g, 0, none⟩ x).cell? ⟨g, 1, none⟩ = some v := (World.cell?_setCell_other _ _ _ _ (by simp)).trans h1
  exact ⟨h0, h1, frozen_of_row W g 0 _ t F, frozen_of_row W g 1 _ t F, (World.cell?_setCell_other _ _ _ _ (by simp)).trans e0, World.cell?_setCell_same' _ _ _ (by rw [e1]; rfl),
    hbel.trans ((((Below.refl B W).setCell (p := ⟨g, 0, none⟩) hg _).setCell (p := ⟨g, 1, none⟩) hg _))⟩
theorem oob_any (u n : Int) (w : World) (hu : 0 ≤ u ∧ u ≤ 4294967295) (hn : 0 ≤ n ∧ n ≤ 18446744073709551615) :
    Calls Try.prog 16 #[.int .u32 u, .int .u64 n] w fun e w' => e = .returned (.agg #[.int .u64 (comZ u u n 0), .int .u64 n]) ∧ Below w.heap.size w w' := by
  have bk := comZ_bd (u := u) (v := u) (z := 0) hn
  go_enter Try.func16, Try.ntmps16
  go_wp2_with (go_at_call 14; refine (commit_any u u n 0 _ hu hu hn (by decide)).mono ?_; rintro e w1 ⟨rfl, b1⟩; have F := (Blk.fresh w 29 #[.int .u64 0, .int .u64 0]).below b1 (by simp); obtain ⟨c0, c1, z0, z1, r0, r1, hB⟩ := wrote (x := .int .u64 (comZ u u n 0)) (y := .int .u64 n) (alloc1 _ _ b1) (Nat.le_refl _) F; have hl := F.lt)
  refine bodyPost_ret (v := .agg #[.int .u64 (comZ u u n 0), .int .u64 n]) ?_ rfl ⟨rfl, hB⟩
  simp [results, Try.f16, go_sem, r0, r1]
theorem roob_any (u n : Int) (w : World) (hu : 0 ≤ u ∧ u ≤ 4294967295) (hn : 0 ≤ n ∧ n ≤ 18446744073709551615) :
    Calls Try.prog 17 #[.int .u32 u, .int .u64 n] w fun e w' => e = .returned (.agg #[.int .u64 (comZ u u n 0), .int .u64 n]) ∧ Below w.heap.size w w' := by
  have bk := comZ_bd (u := u) (v := u) (z := 0) hn
  go_enter Try.func17, Try.ntmps17
  go_wp2_with (go_at_call 15; refine (rcommit_any u u n 0 _ hu hu hn (by decide)).mono ?_; rintro e w1 ⟨rfl, b1⟩; have F := (Blk.fresh w 29 #[.int .u64 0, .int .u64 0]).below b1 (by simp); obtain ⟨c0, c1, z0, z1, r0, r1, hB⟩ := wrote (x := .int .u64 (comZ u u n 0)) (y := .int .u64 n) (alloc1 _ _ b1) (Nat.le_refl _) F; have hl := F.lt)
  refine bodyPost_ret (v := .agg #[.int .u64 (comZ u u n 0), .int .u64 n]) ?_ rfl ⟨rfl, hB⟩
  simp [results, Try.f17, go_sem, r0, r1]
/-- The number of an address. -/
def adrZ (k b : Int) : Int := (k * 281474976710656 + b) % 18446744073709551616
theorem adrZ_bd (k b : Int) : 0 ≤ adrZ k b ∧ adrZ k b ≤ 18446744073709551615 := by unfold adrZ; omega
theorem adr_code (k b : Int) : IntKind.u64.wrap (IntKind.u64.wrap (IntKind.u64.wrap k * 281474976710656) + b) = adrZ k b := by
  simp only [IntKind.wrap_u64]; unfold adrZ; omega
theorem number_any (k b : Int) (w : World) (hk : -9223372036854775808 ≤ k ∧ k ≤ 9223372036854775807) (hb : 0 ≤ b ∧ b ≤ 18446744073709551615) :
    Calls Try.prog 30 #[.agg #[.int .i64 k, .int .u64 b]] w fun e w' => e = .returned (.int .u64 (adrZ k b)) ∧ Below w.heap.size w w' := by
  have F := Blk.fresh w 36 #[.int .i64 k, .int .u64 b]
  have c0 := F.cell 0
  have c1 := F.cell 1
  go_enter Try.func30, Try.ntmps30
  go_wp2_with fail
  go_ret
  exact ⟨Ser.ret_int (adr_code k b), (Below.refl _ _).alloc (Nat.le_refl _) _⟩
theorem rnumber_any (k b : Int) (w : World) (hk : -9223372036854775808 ≤ k ∧ k ≤ 9223372036854775807) (hb : 0 ≤ b ∧ b ≤ 18446744073709551615) :
    Calls Try.prog 31 #[.agg #[.int .i64 k, .int .u64 b]] w fun e w' => e = .returned (.int .u64 (adrZ k b)) ∧ Below w.heap.size w w' := by
  have F := Blk.fresh w 36 #[.int .i64 k, .int .u64 b]
  have c0 := F.cell 0
  have c1 := F.cell 1
  go_enter Try.func31, Try.ntmps31
  go_wp2_with fail
  go_ret
  exact ⟨Ser.ret_int (adr_code k b), (Below.refl _ _).alloc (Nat.le_refl _) _⟩
/-- The number of features: after the first bits. -/
def bitZ (b : Bool) (n : Int) : Int := if b = true then n else 0
def feaS (io : Int) (bs : Nat → Bool) : Nat → Int
  | 0 => io % 4294967296
  | j + 1 => feaS io bs j + bitZ (bs j) (4294967296 * 2 ^ j)
theorem feaS_bd (io : Int) (bs : Nat → Bool) (j : Nat) : 0 ≤ feaS io bs j ∧ feaS io bs j < 4294967296 * 2 ^ j := by
  induction j with
  | zero => simp only [feaS]; omega
  | succ j ih =>
    simp only [feaS, Int.pow_succ]
    generalize (2 : Int) ^ j = p at *
    unfold bitZ; split <;> omega
def five (b1 b2 b3 b4 b5 : Bool) : Nat → Bool := fun j => [b1, b2, b3, b4, b5].getD j false
def feaZ (io : Int) (b1 b2 b3 b4 b5 : Bool) : Int := feaS io (five b1 b2 b3 b4 b5) 5
theorem feaZ_bd (io : Int) (b1 b2 b3 b4 b5 : Bool) : 0 ≤ feaZ io b1 b2 b3 b4 b5 ∧ feaZ io b1 b2 b3 b4 b5 ≤ 18446744073709551615 := by
  have := feaS_bd io (five b1 b2 b3 b4 b5) 5
  unfold feaZ; omega
theorem idx5 (b1 b2 b3 b4 b5 : Bool) : (∀ w : World, (Instr.index 67 (.agg #[.bool b1, .bool b2, .bool b3, .bool b4, .bool b5]) (.int .i64 0)).run Try.prog w = .ok (.bool b1) w) ∧
    (∀ w : World, (Instr.index 67 (.agg #[.bool b1, .bool b2, .bool b3, .bool b4, .bool b5]) (.int .i64 1)).run Try.prog w = .ok (.bool b2) w) ∧
    (∀ w : World, (Instr.index 67 (.agg #[.bool b1, .bool b2, .bool b3, .bool b4, .bool b5]) (.int .i64 2)).run Try.prog w = .ok (.bool b3) w) ∧
    (∀ w : World, (Instr.index 67 (.agg #[.bool b1, .bool b2, .bool b3, .bool b4, .bool b5]) (.int .i64 3)).run Try.prog w = .ok (.bool b4) w) ∧
    (∀ w : World, (Instr.index 67 (.agg #[.bool b1, .bool b2, .bool b3, .bool b4, .bool b5]) (.int .i64 4)).run Try.prog w = .ok (.bool b5) w) :=
  ⟨fun _ => by kernel_rfl, fun _ => by kernel_rfl, fun _ => by kernel_rfl, fun _ => by kernel_rfl, fun _ => by kernel_rfl⟩
theorem fea_or (j : Nat) (N : Int) (hN : 0 ≤ N ∧ N < 4294967296 * 2 ^ j) (hj : j < 5) : bits BinOp.or IntKind.u64 N (4294967296 * 2 ^ j) = N + 4294967296 * 2 ^ j := by
  have hp : (1 : Int) ≤ 2 ^ j ∧ (2 : Int) ^ j ≤ 16 := by
    have : j = 0 ∨ j = 1 ∨ j = 2 ∨ j = 3 ∨ j = 4 := by omega
    rcases this with rfl | rfl | rfl | rfl | rfl <;> decide
  rw [or_swap N _ (by omega) (by omega), or_add (32 + j) _ N (by omega) (by omega) hN.1 (by rw [Int.pow_add]; exact hN.2) (by rw [Int.pow_add]; exact Int.emod_self)]
  omega
theorem features_any (io : Int) (b1 b2 b3 b4 b5 : Bool) (w : World) (hi : -9223372036854775808 ≤ io ∧ io ≤ 9223372036854775807) :
    Calls Try.prog 32 #[.agg #[.int .i64 io, .bool b1, .bool b2, .bool b3, .bool b4, .bool b5]] w fun e w' => e = .returned (.int .u64 (feaZ io b1 b2 b3 b4 b5)) ∧ Below w.heap.size w w' := by
  have F := Blk.fresh w 41 #[.int .i64 io, .bool b1, .bool b2, .bool b3, .bool b4, .bool b5]
  have hB : Below w.heap.size w (w.alloc (.cells #[.int .i64 io, .bool b1, .bool b2, .bool b3, .bool b4, .bool b5] 41)) := (Below.refl _ _).alloc (Nat.le_refl _) _
  have c0 := F.cell 0
  have c1 := F.cell 1
  have c2 := F.cell 2
  have c3 := F.cell 3
  have c4 := F.cell 4
  have c5 := F.cell 5
  have e1 : IntKind.u32.wrap io = io % 4294967296 := by rw [IntKind.wrap_u32]
  have bd := fun j => feaS_bd io (five b1 b2 b3 b4 b5) j
  have hz : Hid (feaS io (five b1 b2 b3 b4 b5) 0 = io % 4294967296) := Lib.hid rfl
  have h0 : feaS io (five b1 b2 b3 b4 b5) (0 + 1) = feaS io (five b1 b2 b3 b4 b5) 0 + bitZ b1 (4294967296 * 2 ^ 0) := rfl
  have h1 : feaS io (five b1 b2 b3 b4 b5) (1 + 1) = feaS io (five b1 b2 b3 b4 b5) 1 + bitZ b2 (4294967296 * 2 ^ 1) := rfl
  have h2 : feaS io (five b1 b2 b3 b4 b5) (2 + 1) = feaS io (five b1 b2 b3 b4 b5) 2 + bitZ b3 (4294967296 * 2 ^ 2) := rfl
  have h3 : feaS io (five b1 b2 b3 b4 b5) (3 + 1) = feaS io (five b1 b2 b3 b4 b5) 3 + bitZ b4 (4294967296 * 2 ^ 3) := rfl
  have h4 : feaS io (five b1 b2 b3 b4 b5) (4 + 1) = feaS io (five b1 b2 b3 b4 b5) 4 + bitZ b5 (4294967296 * 2 ^ 4) := rfl
  have hZ : feaZ io b1 b2 b3 b4 b5 = feaS io (five b1 b2 b3 b4 b5) 5 := rfl
  obtain ⟨i0, i1, i2, i3, i4⟩ := idx5 b1 b2 b3 b4 b5
  generalize feaS io (five b1 b2 b3 b4 b5) = S at *
  have bI : 0 ≤ io % 4294967296 ∧ io % 4294967296 ≤ 4294967295 := by omega
  have H0 := Lib.hid h0
  have H1 := Lib.hid h1
  have H2 := Lib.hid h2
  have H3 := Lib.hid h3
  have H4 := Lib.hid h4
  have HZ := Lib.hid hZ
  have HB := Lib.hid bd
  clear h0 h1 h2 h3 h4 hZ bd F
  rw [HZ.out]
  generalize io % 4294967296 = I at *
  go_enter Try.func32, Try.ntmps32
  go_wp2_with fail
  clear c0 c1 c2 c3 c4 c5 e1
  generalize w.alloc (.cells #[.int .i64 io, .bool b1, .bool b2, .bool b3, .bool b4, .bool b5] 41) = W at *
  go_loopw [3, 21] (fun n i wr => ∃ j : Nat, j ≤ 5 ∧ i = .int .i64 j ∧ n = .int .u64 (S j) ∧ wr = W) (fun _ i _ => 5 - (intOf i).toNat)
  case atStart => exact ⟨0, by omega, rfl, by rw [hz.out], rfl⟩
  case round =>
    obtain ⟨j, hj, rfl, rfl, rfl⟩ := hrel
    have bj := HB.out j
    have hc : j = 0 ∨ j = 1 ∨ j = 2 ∨ j = 3 ∨ j = 4 ∨ j = 5 := by omega
    rcases hc with rfl | rfl | rfl | rfl | rfl | rfl
    · have hE := fea_or 0 (S 0) bj (by decide)
      generalize hN : S 0 = N at *
      have HN := Lib.hid hN
      clear hN
      replace bj : 0 ≤ N ∧ N < 4294967296 := bj
      replace hE : bits BinOp.or IntKind.u64 N 4294967296 = N + 4294967296 := hE
      cases b1 with
      | true =>
        go_wp2_with fail
        go_roundw
        case rel => exact ⟨1, by decide, by go_num, by rw [H0.out]; rfl, by first | rfl | trivial⟩
        case measure => simp [intOf]
      | false =>
        go_wp2_with fail
        go_roundw
        case rel => exact ⟨1, by decide, by go_num, by rw [H0.out]; simp [bitZ], by first | rfl | trivial⟩
        case measure => simp [intOf]
    · have hE := fea_or 1 (S 1) bj (by decide)
      generalize hN : S 1 = N at *
      have HN := Lib.hid hN
      clear hN
      replace bj : 0 ≤ N ∧ N < 8589934592 := bj
      replace hE : bits BinOp.or IntKind.u64 N 8589934592 = N + 8589934592 := hE
      cases b2 with
      | true =>
        go_wp2_with fail
        go_roundw
        case rel => exact ⟨2, by decide, by go_num, by rw [H1.out]; rfl, by first | rfl | trivial⟩
        case measure => simp [intOf]
      | false =>
        go_wp2_with fail
        go_roundw
        case rel => exact ⟨2, by decide, by go_num, by rw [H1.out]; simp [bitZ], by first | rfl | trivial⟩
        case measure => simp [intOf]
    · have hE := fea_or 2 (S 2) bj (by decide)
      generalize hN : S 2 = N at *
      have HN := Lib.hid hN
      clear hN
      replace bj : 0 ≤ N ∧ N < 17179869184 := bj
      replace hE : bits BinOp.or IntKind.u64 N 17179869184 = N + 17179869184 := hE
      cases b3 with
      | true =>
        go_wp2_with fail
        go_roundw
        case rel => exact ⟨3, by decide, by go_num, by rw [H2.out]; rfl, by first | rfl | trivial⟩
        case measure => simp [intOf]
      | false =>
        go_wp2_with fail
        go_roundw
        case rel => exact ⟨3, by decide, by go_num, by rw [H2.out]; simp [bitZ], by first | rfl | trivial⟩
        case measure => simp [intOf]
    · have hE := fea_or 3 (S 3) bj (by decide)
      generalize hN : S 3 = N at *
      have HN := Lib.hid hN
      clear hN
      replace bj : 0 ≤ N ∧ N < 34359738368 := bj
      replace hE : bits BinOp.or IntKind.u64 N 34359738368 = N + 34359738368 := hE
      cases b4 with
      | true =>
        go_wp2_with fail
        go_roundw
        case rel => exact ⟨4, by decide, by go_num, by rw [H3.out]; rfl, by first | rfl | trivial⟩
        case measure => simp [intOf]
      | false =>
        go_wp2_with fail
        go_roundw
        case rel => exact ⟨4, by decide, by go_num, by rw [H3.out]; simp [bitZ], by first | rfl | trivial⟩
        case measure => simp [intOf]
    · have hE := fea_or 4 (S 4) bj (by decide)
      generalize hN : S 4 = N at *
      have HN := Lib.hid hN
      clear hN
      replace bj : 0 ≤ N ∧ N < 68719476736 := bj
      replace hE : bits BinOp.or IntKind.u64 N 68719476736 = N + 68719476736 := hE
      cases b5 with
      | true =>
        go_wp2_with fail
        go_roundw
        case rel => exact ⟨5, by decide, by go_num, by rw [H4.out]; rfl, by first | rfl | trivial⟩
        case measure => simp [intOf]
      | false =>
        go_wp2_with fail
        go_roundw
        case rel => exact ⟨5, by decide, by go_num, by rw [H4.out]; simp [bitZ], by first | rfl | trivial⟩
        case measure => simp [intOf]
    · go_wp2_with fail
      go_ret
      exact ⟨rfl, hB⟩
end Go.Proofs.Yteklppgggmamaaa.Cnf
