/- Addresses that are made with a key: what the functions and their specification return: contracts over the program. -/
import Derived.Test.YtegmknmbgifmjaaDoorMacDer
import Derived.Test.YtegmknmbgifmjaaDoorAdqMake
import Derived.Test.YtegmknmbgifmjaaDoorAdqMake2
import Derived.Test.YtegmknmbgifmjaaDoorAdqRefAll
import Derived.Deep.RegionWith
set_option linter.unusedVariables false
set_option linter.unusedSimpArgs false
namespace Go.Proofs.YtegmknmbgifmjaaDoor.Prv
open Go.RowKit Mem Oct Blk Base Mac

def sRpa : ByteArray := ⟨#[114, 112, 97]⟩
def sEpo : ByteArray := ⟨#[101, 112, 111, 99, 104]⟩
def rpaT (irk n : Int) : Int := tagZ irk (derI sRpa [n])
def hshZ (irk n : Int) : Int := rpaT irk n % 16777216
def epoT (irk e : Int) : Int := tagZ irk (derI sEpo [e % 18446744073709551616])
theorem der_bd (k : Int) (s : ByteArray) (ps : List Int) (hs : s.size ≤ 1048576) (hp : ps.length ≤ 1048576) : 0 ≤ tagZ k (derI s ps) ∧ tagZ k (derI s ps) ≤ 18446744073709551615 :=
  tagZ_bd k (derI_bytes s ps) (by rw [derI_len]; omega)
theorem rpaT_bd (irk n : Int) : 0 ≤ rpaT irk n ∧ rpaT irk n ≤ 18446744073709551615 := der_bd _ _ _ (by decide) (by simp)
theorem epoT_bd (irk e : Int) : 0 ≤ epoT irk e ∧ epoT irk e ≤ 18446744073709551615 := der_bd _ _ _ (by decide) (by simp)
theorem hshZ_bd (irk n : Int) : 0 ≤ hshZ irk n ∧ hshZ irk n ≤ 16777215 := by unfold hshZ; omega
theorem words1 {a : Int} (h : 0 ≤ a ∧ a ≤ 18446744073709551615) : Words [a] := by intro p hp; simp at hp; subst hp; exact h
theorem hash_any (irk n : Int) (w : World) (hk : 0 ≤ irk ∧ irk ≤ 18446744073709551615) (hn : 0 ≤ n ∧ n ≤ 18446744073709551615) :
    Calls Tryd.prog 40 #[.int .u64 irk, .int .u64 n] w fun e w' => e = .returned (.int .u64 (hshZ irk n)) ∧ Below w.heap.size w w' := by
  have bk := rpaT_bd irk n
  have HD : Hid (∀ (w : World) (A : Option Addr), Ints .u64 w w.heap.size A [n] → Calls Tryd.prog 42 #[.int .u64 irk, .string sRpa, .slice A 1 1] w fun e w' => e = .returned (.int .u64 (rpaT irk n)) ∧ Below w.heap.size w w') :=
    Lib.hid fun w A hr => derive_any irk sRpa A 1 1 [n] w hk (by decide) rfl (words1 hn) hr (by decide)
  unfold hshZ
  generalize rpaT irk n = T at *
  have e1 : T.tmod 16777216 = T % 16777216 := Int.tmod_eq_emod_of_nonneg bk.1
  have e2 : IntKind.u64.wrap (T % 16777216) = T % 16777216 := by rw [IntKind.wrap_u64]; omega
  go_enter Tryd.func40, Tryd.ntmps40
  go_wp2_with (go_at_call 42; refine (HD.out _ _ (lit1 .u64 _ [n] _ _ rfl)).mono ?_; rintro e w1 ⟨rfl, b1⟩)
  go_ret
  exact ⟨rfl, alloc1 _ _ b1⟩
theorem rhash_any (irk n : Int) (w : World) (hk : 0 ≤ irk ∧ irk ≤ 18446744073709551615) (hn : 0 ≤ n ∧ n ≤ 18446744073709551615) :
    Calls Tryd.prog 41 #[.int .u64 irk, .int .u64 n] w fun e w' => e = .returned (.int .u64 (hshZ irk n)) ∧ Below w.heap.size w w' := by
  have bk := rpaT_bd irk n
  have HD : Hid (∀ (w : World) (A : Option Addr), Ints .u64 w w.heap.size A [n] → Calls Tryd.prog 43 #[.int .u64 irk, .string sRpa, .slice A 1 1] w fun e w' => e = .returned (.int .u64 (rpaT irk n)) ∧ Below w.heap.size w w') :=
    Lib.hid fun w A hr => rderive_any irk sRpa A 1 1 [n] w hk (by decide) rfl (words1 hn) hr (by decide)
  unfold hshZ
  generalize rpaT irk n = T at *
  have e1 : T.tmod 16777216 = T % 16777216 := Int.tmod_eq_emod_of_nonneg bk.1
  have e2 : IntKind.u64.wrap (T % 16777216) = T % 16777216 := by rw [IntKind.wrap_u64]; omega
  go_enter Tryd.func41, Tryd.ntmps41
  go_wp2_with (go_at_call 43; refine (HD.out _ _ (lit1 .u64 _ [n] _ _ rfl)).mono ?_; rintro e w1 ⟨rfl, b1⟩)
  go_ret
  exact ⟨rfl, alloc1 _ _ b1⟩
/-- The number of an address that is made with a key. -/
def rpaZ (irk p : Int) : Int := 70368744177664 + p * 16777216 + hshZ irk p
def okP (irk p : Int) : Prop := irk ≠ 0 ∧ 1 ≤ p ∧ p ≤ 4194302
def mkK (irk p : Int) : Int := if irk = 0 then 0 else if p < 1 ∨ 4194302 < p then 0 else 3
def mkV (irk p : Int) : Int := if irk = 0 then 0 else if p < 1 ∨ 4194302 < p then 0 else rpaZ irk p
def mkE (irk p : Int) : Int := if irk = 0 then 17 else if p < 1 ∨ 4194302 < p then 5 else 0
theorem mk_rpa (irk p : Int) (hp : 1 ≤ p ∧ p ≤ 4194302) : Adr.mk 3 (p * 16777216 + hshZ irk p) = rpaZ irk p := by
  have h := hshZ_bd irk p
  unfold rpaZ
  generalize hshZ irk p = x at *
  have e1 : (p * 16777216 + x) / 16777216 % 4194304 = p := by omega
  have e2 : (p * 16777216 + x) % 16777216 = x := by omega
  simp only [Adr.mk]
  rw [if_neg (by decide), if_pos trivial, e1, e2]
  unfold Adr.fit
  rw [if_neg (by omega), if_neg (by omega)]
/-- The number of a period. -/
def epZ (l p : Int) : Int := if p < 1 ∨ l < 0 then 0 else l / p
theorem epZ_bd {l p : Int} (hl : -9223372036854775808 ≤ l ∧ l ≤ 9223372036854775807) : 0 ≤ epZ l p ∧ epZ l p ≤ 9223372036854775807 := by
  unfold epZ
  split
  · omega
  · have h1 : 0 ≤ l / p := Int.ediv_nonneg (by omega) (by omega)
    have h2 : l / p ≤ l := Int.ediv_le_self _ (by omega)
    omega
/-- The random part of a period. -/
def prZ (irk e : Int) : Int := 1 + epoT irk e % 4194302
theorem prZ_bd (irk e : Int) : 1 ≤ prZ irk e ∧ prZ irk e ≤ 4194302 := by unfold prZ; omega
end Go.Proofs.YtegmknmbgifmjaaDoor.Prv
