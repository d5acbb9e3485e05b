/- The laws with numbers as the frame hands them. -/
import Derived.Test.YtngkpnkjapdnaaaAsKeeps
import Derived.Test.YtngkpnkjapdnaaaAsCounts
set_option linter.unusedVariables false
namespace Go.Proofs.Ytngkpnkjapdnaaa.As
open Go.RowKit Mem

theorem go_records (A : Option Addr) (n c : Nat) (fs : List (Int × Int)) (ch : Int) (ok : Bool) (w : World) (hl : fs.length = n) (hc : n ≤ c) (hr : PairsAt w w.heap.size A fs) (hb : Small fs) (hs : c * 16 ≤ 140737488351232) (hch : -9223372036854775808 ≤ ch ∧ ch ≤ 9223372036854775807) :
    Calls Try.prog 3 #[.slice A n c, .int .i64 ch, .bool ok] w fun e w' => e = .returned (.bool true) ∧ Below w.heap.size w w' :=
  law_records A n c fs ch ok w hl hc hr hb hs hch
theorem go_decays (A : Option Addr) (n c : Nat) (fs : List (Int × Int)) (w : World) (hl : fs.length = n) (hc : n ≤ c) (hr : PairsAt w w.heap.size A fs) (hb : Small fs) (hs : c * 16 ≤ 140737488351232) :
    Calls Try.prog 5 #[.slice A n c] w fun e w' => e = .returned (.bool true) ∧ Below w.heap.size w w' :=
  law_decays A n c fs w hl hc hr hb hs
theorem go_proposes (A : Option Addr) (n c : Nat) (fs : List (Int × Int)) (m least : Int) (w : World) (hl : fs.length = n) (hc : n ≤ c) (hr : PairsAt w w.heap.size A fs) (hb : Small fs) (hs : c * 16 ≤ 140737488351232) (hm : 0 ≤ m ∧ m ≤ 18446744073709551615) (hle : -9223372036854775808 ≤ least ∧ least ≤ 9223372036854775807) :
    Calls Try.prog 6 #[.slice A n c, .int .u64 m, .int .i64 least] w fun e w' => e = .returned (.bool true) ∧ Below w.heap.size w w' := by
  obtain ⟨m, rfl⟩ := Int.eq_ofNat_of_zero_le hm.1
  exact law_proposes A n c fs m least w hl hc hr hb hs (by omega)
theorem go_keeps (A : Option Addr) (n c : Nat) (fs : List (Int × Int)) (m least : Int) (w : World) (hl : fs.length = n) (hc : n ≤ c) (hr : PairsAt w w.heap.size A fs) (hb : Small fs) (hs : c * 16 ≤ 140737488351232) (hm : 0 ≤ m ∧ m ≤ 18446744073709551615) (hle : -9223372036854775808 ≤ least ∧ least ≤ 9223372036854775807) :
    Calls Try.prog 7 #[.slice A n c, .int .u64 m, .int .i64 least] w fun e w' => e = .returned (.bool true) ∧ Below w.heap.size w w' := by
  obtain ⟨m, rfl⟩ := Int.eq_ofNat_of_zero_le hm.1
  exact law_keeps A n c fs m least w hl hc hr hb hs (by omega)
end Go.Proofs.Ytngkpnkjapdnaaa.As
