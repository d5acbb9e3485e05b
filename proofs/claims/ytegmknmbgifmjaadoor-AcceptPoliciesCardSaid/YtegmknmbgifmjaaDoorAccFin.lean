/- The statements on accept lists: their walks over a request as it is read. -/
import Derived.Test.YtegmknmbgifmjaaDoorAccLaws3
set_option linter.unusedVariables false
namespace Go.Proofs.YtegmknmbgifmjaaDoor.Ace
open Go.RowKit Mem Rw Base Arg
open Prv (findZ Idents triples_below)

theorem fin_allows (A : Option Addr) (c : Nat) (l : List (Int × Int)) (A' : Option Addr) (n' c' : Nat) (fs : List (Int × Int × Int)) (p r : Int) (a1 a2 : Int) (w : World) (hr : ListAt encA w w.heap.size A l) (hg : ∀ x ∈ l, Rd.GoodA x) (hnc : l.length ≤ c) (hcb : c * 16 ≤ 140737488351232)
    (hf : fs.length = n') (hnc' : n' ≤ c') (hr' : TriplesAt w A' fs) (hI : Idents fs) (hcb' : c' * 24 ≤ 140737488351232)
    (hz : (-9223372036854775808 ≤ p ∧ p ≤ 9223372036854775807) ∧ (-9223372036854775808 ≤ r ∧ r ≤ 9223372036854775807) ∧ Rd.GoodA (a1, a2)) (hT : Adr.Tab w) :
    Calls Tryd.prog 6 #[.slice A l.length c, .slice A' n' c', .agg #[.int .i64 p, .int .i64 r, .int .i64 a1, .int .u64 a2]] w fun e w' => e = .returned (.bool true) ∧ Below w.heap.size w w' :=
  law_allows A c l A' n' c' fs p r a1 a2 w hr hg hnc hcb hf hnc' hr' hI hcb' hz.2.2.1 hz.2.2.2 hT
theorem fin_policies (A : Option Addr) (c : Nat) (l : List (Int × Int)) (A' : Option Addr) (n' c' : Nat) (fs : List (Int × Int × Int)) (p0 r a1 a2 : Int) (w : World) (hr : ListAt encA w w.heap.size A l) (hg : ∀ x ∈ l, Rd.GoodA x) (hnc : l.length ≤ c) (hcb : c * 16 ≤ 140737488351232)
    (hf : fs.length = n') (hnc' : n' ≤ c') (hr' : TriplesAt w A' fs) (hI : Idents fs) (hcb' : c' * 24 ≤ 140737488351232)
    (hz : (-9223372036854775808 ≤ p0 ∧ p0 ≤ 9223372036854775807) ∧ (-9223372036854775808 ≤ r ∧ r ≤ 9223372036854775807) ∧ Rd.GoodA (a1, a2)) (hT : Adr.Tab w) :
    Calls Tryd.prog 8 #[.slice A l.length c, .slice A' n' c', .agg #[.int .i64 p0, .int .i64 r, .int .i64 a1, .int .u64 a2]] w fun e w' => e = .returned (.bool true) ∧ Below w.heap.size w w' :=
  law_policies A c l A' n' c' fs p0 r a1 a2 w hr hg hnc hcb hf hnc' hr' hI hcb' hz.2.2.1 hz.2.2.2 hT
end Go.Proofs.YtegmknmbgifmjaaDoor.Ace
namespace Go.Proofs.YtegmknmbgifmjaaDoor.Rd
open Go.ChangeShapes Go.WideShapes Go.ChangeAt Go.RowKit Go.Deep Mem Rw Ace
set_option maxRecDepth 100000 in
theorem ask_open2 {H : Type} {enc : TypeId × Value → H} {w : World} {base b0 : Nat} {v : Value} {d : DataW H} {p : List MemPlace} (hv : Value.okWide Tryd.prog w .any b0 37 v) (h : DataW.Trod enc Tryd.prog w base (fun _ => true) true 37 v d p) (hl : Light Tryd.prog 37 d) :
    ∃ p r a b : Int, v = .agg #[.int .i64 p, .int .i64 r, .int .i64 a, .int .u64 b] ∧ ((-9223372036854775808 ≤ p ∧ p ≤ 9223372036854775807) ∧ (-9223372036854775808 ≤ r ∧ r ≤ 9223372036854775807) ∧ GoodA (a, b)) := by
  obtain ⟨x, e, g⟩ := open_struct (en := encK) (K := 4) Tryd.underlying37 (by kernel_rfl) elK hv h hl
  exact ⟨x.1, x.2.1, x.2.2.1, x.2.2.2, e, g⟩
end Go.Proofs.YtegmknmbgifmjaaDoor.Rd
