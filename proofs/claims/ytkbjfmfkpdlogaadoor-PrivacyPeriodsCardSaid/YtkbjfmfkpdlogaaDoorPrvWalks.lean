/- Addresses that are made with a key: what the functions and their specification return: contracts over the program. -/
import Derived.Test.YtkbjfmfkpdlogaaDoorMacDer
import Derived.Test.YtkbjfmfkpdlogaaDoorAdqMake
import Derived.Test.YtkbjfmfkpdlogaaDoorAdqMake2
import Derived.Test.YtkbjfmfkpdlogaaDoorAdqRefAll
import Derived.Deep.RegionWith
set_option linter.unusedVariables false
set_option linter.unusedSimpArgs false
namespace Go.Proofs.YtkbjfmfkpdlogaaDoor.Prv
open Go.RowKit Mem Oct Blk Base Mac

def sRpa : ByteArray := ⟨#[114, 112, 97]⟩
def sEpo : ByteArray := ⟨#[101, 112, 111, 99, 104]⟩
def rpaT (irk n : Int) : Int := tagZ irk (derI sRpa [n])
def hshZ (irk n : Int) : Int := rpaT irk n % 16777216
def epoT (irk e : Int) : Int := tagZ irk (derI sEpo [e % 18446744073709551616])
theorem der_bd (k : Int) (s : ByteArray) (ps : List Int) (hs : s.size ≤ 1048576) (hp : ps.length ≤ 1048576) : 0 ≤ tagZ k (derI s ps) ∧ tagZ k (derI s ps) ≤ 18446744073709551615 :=
  tagZ_bd k (derI_bytes s ps) (by rw [derI_len]; omega)
theorem rpaT_bd (irk n : Int) : 0 ≤ rpaT irk n ∧ rpaT irk n ≤ 18446744073709551615 := der_bd _ _ _ (by decide) (by simp)
theorem epoT_bd (irk e : Int) : 0 ≤ epoT irk e ∧ epoT irk e ≤ 18446744073709551615 := der_bd _ _ _ (by decide) (by simp)
theorem hshZ_bd (irk n : Int) : 0 ≤ hshZ irk n ∧ hshZ irk n ≤ 16777215 := by unfold hshZ; omega
theorem words1 {a : Int} (h : 0 ≤ a ∧ a ≤ 18446744073709551615) : Words [a] := by intro p hp; simp at hp; subst hp; exact h
theorem hash_any (irk n : Int) (w : World) (hk : 0 ≤ irk ∧ irk ≤ 18446744073709551615) (hn : 0 ≤ n ∧ n ≤ 18446744073709551615) :
    Calls Tryd.prog 46 #[.int .u64 irk, .int .u64 n] w fun e w' => e = .returned (.int .u64 (hshZ irk n)) ∧ Below w.heap.size w w' := by
  have bk := rpaT_bd irk n
  have HD : Hid (∀ (w : World) (A : Option Addr), Ints .u64 w w.heap.size A [n] → Calls Tryd.prog 50 #[.int .u64 irk, .string sRpa, .slice A 1 1] w fun e w' => e = .returned (.int .u64 (rpaT irk n)) ∧ Below w.heap.size w w') :=
    Lib.hid fun w A hr => derive_any irk sRpa A 1 1 [n] w hk (by decide) rfl (words1 hn) hr (by decide)
  unfold hshZ
  generalize rpaT irk n = T at *
  have e1 : T.tmod 16777216 = T % 16777216 := Int.tmod_eq_emod_of_nonneg bk.1
  have e2 : IntKind.u64.wrap (T % 16777216) = T % 16777216 := by rw [IntKind.wrap_u64]; omega
  go_enter Tryd.func46, Tryd.ntmps46
  go_wp2_with (go_at_call 50; refine (HD.out _ _ (lit1 .u64 _ [n] _ _ rfl)).mono ?_; rintro e w1 ⟨rfl, b1⟩)
  go_ret
  exact ⟨rfl, alloc1 _ _ b1⟩
theorem rhash_any (irk n : Int) (w : World) (hk : 0 ≤ irk ∧ irk ≤ 18446744073709551615) (hn : 0 ≤ n ∧ n ≤ 18446744073709551615) :
    Calls Tryd.prog 47 #[.int .u64 irk, .int .u64 n] w fun e w' => e = .returned (.int .u64 (hshZ irk n)) ∧ Below w.heap.size w w' := by
  have bk := rpaT_bd irk n
  have HD : Hid (∀ (w : World) (A : Option Addr), Ints .u64 w w.heap.size A [n] → Calls Tryd.prog 51 #[.int .u64 irk, .string sRpa, .slice A 1 1] w fun e w' => e = .returned (.int .u64 (rpaT irk n)) ∧ Below w.heap.size w w') :=
    Lib.hid fun w A hr => rderive_any irk sRpa A 1 1 [n] w hk (by decide) rfl (words1 hn) hr (by decide)
  unfold hshZ
  generalize rpaT irk n = T at *
  have e1 : T.tmod 16777216 = T % 16777216 := Int.tmod_eq_emod_of_nonneg bk.1
  have e2 : IntKind.u64.wrap (T % 16777216) = T % 16777216 := by rw [IntKind.wrap_u64]; omega
  go_enter Tryd.func47, Tryd.ntmps47
  go_wp2_with (go_at_call 51; refine (HD.out _ _ (lit1 .u64 _ [n] _ _ rfl)).mono ?_; rintro e w1 ⟨rfl, b1⟩)
  go_ret
  exact ⟨rfl, alloc1 _ _ b1⟩
/-- The number of an address that is made with a key. -/
def rpaZ (irk p : Int) : Int := 70368744177664 + p * 16777216 + hshZ irk p
def okP (irk p : Int) : Prop := irk ≠ 0 ∧ 1 ≤ p ∧ p ≤ 4194302
def mkK (irk p : Int) : Int := if irk = 0 then 0 else if p < 1 ∨ 4194302 < p then 0 else 3
def mkV (irk p : Int) : Int := if irk = 0 then 0 else if p < 1 ∨ 4194302 < p then 0 else rpaZ irk p
def mkE (irk p : Int) : Int := if irk = 0 then 17 else if p < 1 ∨ 4194302 < p then 5 else 0
theorem mk_rpa (irk p : Int) (hp : 1 ≤ p ∧ p ≤ 4194302) : Adr.mk 3 (p * 16777216 + hshZ irk p) = rpaZ irk p := by
  have h := hshZ_bd irk p
  unfold rpaZ
  generalize hshZ irk p = x at *
  have e1 : (p * 16777216 + x) / 16777216 % 4194304 = p := by omega
  have e2 : (p * 16777216 + x) % 16777216 = x := by omega
  simp only [Adr.mk]
  rw [if_neg (by decide), if_pos trivial, e1, e2]
  unfold Adr.fit
  rw [if_neg (by omega), if_neg (by omega)]
theorem make_zero (p : Int) (w : World) (hp : 0 ≤ p ∧ p ≤ 4294967295) :
    Calls Tryd.prog 21 #[.int .u64 0, .int .u32 p] w fun e w' => e = .returned (.tuple #[.agg #[.int .i64 0, .int .u64 0], .int .i64 17]) ∧ Below w.heap.size w w' := by
  go_enter Tryd.func21, Tryd.ntmps21
  go_wp2_with fail
  refine bodyPost_ret (v := .tuple #[.agg #[.int .i64 0, .int .u64 0], .int .i64 17]) ?_ rfl ⟨rfl, (Below.refl _ _).alloc (Nat.le_refl _) _⟩
  simp [results, Tryd.f21, go_sem]
theorem make_range (irk p : Int) (w : World) (hk : 0 ≤ irk ∧ irk ≤ 18446744073709551615) (h0 : ¬ irk = 0) (hp : 0 ≤ p ∧ p ≤ 4294967295) (h : p < 1 ∨ 4194302 < p) :
    Calls Tryd.prog 21 #[.int .u64 irk, .int .u32 p] w fun e w' => e = .returned (.tuple #[.agg #[.int .i64 0, .int .u64 0], .int .i64 5]) ∧ Below w.heap.size w w' := by
  have g0 : (irk == 0) = false := by simpa using h0
  rcases h with h | h
  · go_enter Tryd.func21, Tryd.ntmps21
    go_wp2_with fail
    refine bodyPost_ret (v := .tuple #[.agg #[.int .i64 0, .int .u64 0], .int .i64 5]) ?_ rfl ⟨rfl, (Below.refl _ _).alloc (Nat.le_refl _) _⟩
    simp [results, Tryd.f21, go_sem]
  · have h1 : ¬ p < 1 := by omega
    go_enter Tryd.func21, Tryd.ntmps21
    go_wp2_with fail
    refine bodyPost_ret (v := .tuple #[.agg #[.int .i64 0, .int .u64 0], .int .i64 5]) ?_ rfl ⟨rfl, (Below.refl _ _).alloc (Nat.le_refl _) _⟩
    simp [results, Tryd.f21, go_sem]
theorem make_good (irk p : Int) (w : World) (hk : 0 ≤ irk ∧ irk ≤ 18446744073709551615) (h0 : ¬ irk = 0) (hp : 1 ≤ p ∧ p ≤ 4194302) (hT : Adr.Tab w) :
    Calls Tryd.prog 21 #[.int .u64 irk, .int .u32 p] w fun e w' => e = .returned (.tuple #[.agg #[.int .i64 3, .int .u64 (rpaZ irk p)], .int .i64 0]) ∧ Below w.heap.size w w' := by
  have g0 : (irk == 0) = false := by simpa using h0
  have g1 : ¬ p < 1 := by omega
  have g2 : ¬ 4194302 < p := by omega
  have bh := hshZ_bd irk p
  have HH : Hid (∀ w, Calls Tryd.prog 46 #[.int .u64 irk, .int .u64 p] w fun e w' => e = .returned (.int .u64 (hshZ irk p)) ∧ Below w.heap.size w w') := Lib.hid fun w => hash_any irk p w hk (by omega)
  have HR : Hid (∀ w, Adr.Tab w → Calls Tryd.prog 17 #[.int .i64 3, .int .u64 (p * 16777216 + hshZ irk p)] w fun e w' => e = .returned (.agg #[.int .i64 3, .int .u64 (rpaZ irk p)]) ∧ Below w.heap.size w w') := Lib.hid fun w hT => by
    rw [← mk_rpa irk p hp]; exact Adr.random_three _ w (by omega) hT
  generalize rpaZ irk p = R at *
  generalize hshZ irk p = x at *
  have e1 : IntKind.u64.wrap (p * 16777216) = p * 16777216 := by rw [IntKind.wrap_u64]; omega
  have e2 : IntKind.u64.wrap (p * 16777216 + x) = p * 16777216 + x := by rw [IntKind.wrap_u64]; omega
  have F := Blk.fresh w 26 #[.int .i64 0, .int .u64 0]
  have T1 := hT.alloc (.cells #[.int .i64 0, .int .u64 0] 26)
  go_enter Tryd.func21, Tryd.ntmps21
  go_wp2_with fail
  refine (HH.out _).mono ?_
  rintro e w1 ⟨rfl, b1⟩
  have F1 := F.below b1 F.lt
  have T2 := T1.below b1
  have B1 := alloc1 _ _ b1
  clear b1
  go_wp2_with fail
  refine (HR.out _ T2).mono ?_
  rintro e w2 ⟨rfl, b2⟩
  have F2 := F1.below b2 F1.lt
  have B2 := thenB B1 b2
  obtain ⟨x0, x1, f0, f1, r0, r1, hB2⟩ := Adr.wrote2 (x := .int .i64 3) (y := .int .u64 R) B2 (Nat.le_refl _) F2
  have hg := F2.lt
  go_wp2_with fail
  refine bodyPost_ret (v := .tuple #[.agg #[.int .i64 3, .int .u64 R], .int .i64 0]) ?_ rfl ⟨rfl, hB2⟩
  simp [results, Tryd.f21, go_sem, r0, r1]
theorem make_any (irk p : Int) (w : World) (hk : 0 ≤ irk ∧ irk ≤ 18446744073709551615) (hp : 0 ≤ p ∧ p ≤ 4294967295) (hT : Adr.Tab w) :
    Calls Tryd.prog 21 #[.int .u64 irk, .int .u32 p] w fun e w' => e = .returned (.tuple #[.agg #[.int .i64 (mkK irk p), .int .u64 (mkV irk p)], .int .i64 (mkE irk p)]) ∧ Below w.heap.size w w' := by
  unfold mkK mkV mkE
  by_cases h0 : irk = 0
  · subst h0
    rw [if_pos rfl, if_pos rfl, if_pos rfl]
    exact make_zero p w hp
  · by_cases h : p < 1 ∨ 4194302 < p
    · rw [if_neg h0, if_neg h0, if_neg h0, if_pos h, if_pos h, if_pos h]
      exact make_range irk p w hk h0 hp h
    · rw [if_neg h0, if_neg h0, if_neg h0, if_neg h, if_neg h, if_neg h]
      exact make_good irk p w hk h0 (by omega) hT
theorem rmake_zero (p : Int) (w : World) (hp : 0 ≤ p ∧ p ≤ 4294967295) :
    Calls Tryd.prog 22 #[.int .u64 0, .int .u32 p] w fun e w' => e = .returned (.tuple #[.agg #[.int .i64 0, .int .u64 0], .int .i64 17]) ∧ Below w.heap.size w w' := by
  go_enter Tryd.func22, Tryd.ntmps22
  go_wp2_with fail
  refine bodyPost_ret (v := .tuple #[.agg #[.int .i64 0, .int .u64 0], .int .i64 17]) ?_ rfl ⟨rfl, (Below.refl _ _).alloc (Nat.le_refl _) _⟩
  simp [results, Tryd.f22, go_sem]
theorem rmake_range (irk p : Int) (w : World) (hk : 0 ≤ irk ∧ irk ≤ 18446744073709551615) (h0 : ¬ irk = 0) (hp : 0 ≤ p ∧ p ≤ 4294967295) (h : p < 1 ∨ 4194302 < p) :
    Calls Tryd.prog 22 #[.int .u64 irk, .int .u32 p] w fun e w' => e = .returned (.tuple #[.agg #[.int .i64 0, .int .u64 0], .int .i64 5]) ∧ Below w.heap.size w w' := by
  have g0 : (irk == 0) = false := by simpa using h0
  rcases h with h | h
  · go_enter Tryd.func22, Tryd.ntmps22
    go_wp2_with fail
    refine bodyPost_ret (v := .tuple #[.agg #[.int .i64 0, .int .u64 0], .int .i64 5]) ?_ rfl ⟨rfl, (Below.refl _ _).alloc (Nat.le_refl _) _⟩
    simp [results, Tryd.f22, go_sem]
  · have h1 : ¬ p < 1 := by omega
    go_enter Tryd.func22, Tryd.ntmps22
    go_wp2_with fail
    refine bodyPost_ret (v := .tuple #[.agg #[.int .i64 0, .int .u64 0], .int .i64 5]) ?_ rfl ⟨rfl, (Below.refl _ _).alloc (Nat.le_refl _) _⟩
    simp [results, Tryd.f22, go_sem]
theorem rmake_good (irk p : Int) (w : World) (hk : 0 ≤ irk ∧ irk ≤ 18446744073709551615) (h0 : ¬ irk = 0) (hp : 1 ≤ p ∧ p ≤ 4194302) :
    Calls Tryd.prog 22 #[.int .u64 irk, .int .u32 p] w fun e w' => e = .returned (.tuple #[.agg #[.int .i64 3, .int .u64 (rpaZ irk p)], .int .i64 0]) ∧ Below w.heap.size w w' := by
  have g0 : (irk == 0) = false := by simpa using h0
  have g1 : ¬ p < 1 := by omega
  have g2 : ¬ 4194302 < p := by omega
  have bh := hshZ_bd irk p
  have HH : Hid (∀ w, Calls Tryd.prog 47 #[.int .u64 irk, .int .u64 p] w fun e w' => e = .returned (.int .u64 (hshZ irk p)) ∧ Below w.heap.size w w') := Lib.hid fun w => rhash_any irk p w hk (by omega)
  have hR : Hid (70368744177664 + p * 16777216 + hshZ irk p = rpaZ irk p) := Lib.hid rfl
  generalize rpaZ irk p = R at *
  generalize hshZ irk p = x at *
  have e1 : IntKind.u64.wrap (p * 16777216) = p * 16777216 := by rw [IntKind.wrap_u64]; omega
  have e2 : IntKind.u64.wrap (70368744177664 + p * 16777216) = 70368744177664 + p * 16777216 := by rw [IntKind.wrap_u64]; omega
  have e3 : IntKind.u64.wrap (70368744177664 + p * 16777216 + x) = R := by rw [IntKind.wrap_u64, ← hR.out]; omega
  have e4 : 70368744177664 + p * 16777216 + x = R := hR.out
  have F := Blk.fresh w 26 #[.int .i64 0, .int .u64 0]
  go_enter Tryd.func22, Tryd.ntmps22
  go_wp2_with fail
  refine (HH.out _).mono ?_
  rintro e w1 ⟨rfl, b1⟩
  have F1 := F.below b1 F.lt
  have B1 := alloc1 _ _ b1
  obtain ⟨x0, x1, f0, f1, r0, r1, hB2⟩ := Adr.wrote2 (x := .int .i64 3) (y := .int .u64 R) B1 (Nat.le_refl _) F1
  have hg := F1.lt
  go_wp2_with fail
  refine bodyPost_ret (v := .tuple #[.agg #[.int .i64 3, .int .u64 R], .int .i64 0]) ?_ rfl ⟨rfl, hB2⟩
  simp [results, Tryd.f22, go_sem, r0, r1]
theorem rmake_any (irk p : Int) (w : World) (hk : 0 ≤ irk ∧ irk ≤ 18446744073709551615) (hp : 0 ≤ p ∧ p ≤ 4294967295) :
    Calls Tryd.prog 22 #[.int .u64 irk, .int .u32 p] w fun e w' => e = .returned (.tuple #[.agg #[.int .i64 (mkK irk p), .int .u64 (mkV irk p)], .int .i64 (mkE irk p)]) ∧ Below w.heap.size w w' := by
  unfold mkK mkV mkE
  by_cases h0 : irk = 0
  · subst h0
    rw [if_pos rfl, if_pos rfl, if_pos rfl]
    exact rmake_zero p w hp
  · by_cases h : p < 1 ∨ 4194302 < p
    · rw [if_neg h0, if_neg h0, if_neg h0, if_pos h, if_pos h, if_pos h]
      exact rmake_range irk p w hk h0 hp h
    · rw [if_neg h0, if_neg h0, if_neg h0, if_neg h, if_neg h, if_neg h]
      exact rmake_good irk p w hk h0 (by omega)
/-- The number of a period. -/
def epZ (l p : Int) : Int := if p < 1 ∨ l < 0 then 0 else l / p
theorem epZ_bd {l p : Int} (hl : -9223372036854775808 ≤ l ∧ l ≤ 9223372036854775807) : 0 ≤ epZ l p ∧ epZ l p ≤ 9223372036854775807 := by
  unfold epZ
  split
  · omega
  · have h1 : 0 ≤ l / p := Int.ediv_nonneg (by omega) (by omega)
    have h2 : l / p ≤ l := Int.ediv_le_self _ (by omega)
    omega
theorem epoch_any (l p : Int) (w : World) (hl : -9223372036854775808 ≤ l ∧ l ≤ 9223372036854775807) (hp : -9223372036854775808 ≤ p ∧ p ≤ 9223372036854775807) :
    Calls Tryd.prog 28 #[.int .i64 l, .int .i64 p] w fun e w' => e = .returned (.int .i64 (epZ l p)) ∧ w = w' := by
  by_cases h1 : p < 1
  · have H : Hid (epZ l p = 0) := Lib.hid (by unfold epZ; rw [if_pos (.inl h1)])
    go_enter Tryd.func28, Tryd.ntmps28
    go_wp2
    go_ret
    exact ⟨Ser.ret_int H.out.symm, rfl⟩
  · by_cases h2 : l < 0
    · have H : Hid (epZ l p = 0) := Lib.hid (by unfold epZ; rw [if_pos (.inr h2)])
      go_enter Tryd.func28, Tryd.ntmps28
      go_wp2
      go_ret
      exact ⟨Ser.ret_int H.out.symm, rfl⟩
    · have hz : ¬ p = 0 := by omega
      have hz' : (p == 0) = false := by simpa using hz
      have e1 : l.tdiv p = l / p := Int.tdiv_eq_ediv_of_nonneg (by omega)
      have hb := epZ_bd (p := p) hl
      have hE : epZ l p = l / p := by unfold epZ; rw [if_neg (by omega)]
      have H := Lib.hid hE
      rw [hE] at hb
      have e2 : IntKind.i64.wrap (l / p) = l / p := by simp only [IntKind.wrap, IntKind.bits, IntKind.signed]; simp; split <;> omega
      clear hE
      go_enter Tryd.func28, Tryd.ntmps28
      go_wp2
      go_ret
      exact ⟨Ser.ret_int H.out.symm, rfl⟩
theorem repoch_any (l p : Int) (w : World) (hl : -9223372036854775808 ≤ l ∧ l ≤ 9223372036854775807) (hp : -9223372036854775808 ≤ p ∧ p ≤ 9223372036854775807) :
    Calls Tryd.prog 29 #[.int .i64 l, .int .i64 p] w fun e w' => e = .returned (.int .i64 (epZ l p)) ∧ w = w' := by
  by_cases h1 : p < 1
  · have H : Hid (epZ l p = 0) := Lib.hid (by unfold epZ; rw [if_pos (.inl h1)])
    go_enter Tryd.func29, Tryd.ntmps29
    go_wp2
    go_ret
    exact ⟨Ser.ret_int H.out.symm, rfl⟩
  · by_cases h2 : l < 0
    · have H : Hid (epZ l p = 0) := Lib.hid (by unfold epZ; rw [if_pos (.inr h2)])
      go_enter Tryd.func29, Tryd.ntmps29
      go_wp2
      go_ret
      exact ⟨Ser.ret_int H.out.symm, rfl⟩
    · have hz : ¬ p = 0 := by omega
      have hz' : (p == 0) = false := by simpa using hz
      have e1 : l.tdiv p = l / p := Int.tdiv_eq_ediv_of_nonneg (by omega)
      have hb := epZ_bd (p := p) hl
      have hE : epZ l p = l / p := by unfold epZ; rw [if_neg (by omega)]
      have H := Lib.hid hE
      rw [hE] at hb
      have e2 : IntKind.i64.wrap (l / p) = l / p := by simp only [IntKind.wrap, IntKind.bits, IntKind.signed]; simp; split <;> omega
      clear hE
      go_enter Tryd.func29, Tryd.ntmps29
      go_wp2
      go_ret
      exact ⟨Ser.ret_int H.out.symm, rfl⟩
/-- The random part of a period. -/
def prZ (irk e : Int) : Int := 1 + epoT irk e % 4194302
theorem prZ_bd (irk e : Int) : 1 ≤ prZ irk e ∧ prZ irk e ≤ 4194302 := by unfold prZ; omega
end Go.Proofs.YtkbjfmfkpdlogaaDoor.Prv
