/- Sealing and opening: what the program's functions return: contracts over the program. -/
import Derived.Test.YtegmknmbgifmjaaDoorMacStream
set_option linter.unusedVariables false
set_option linter.unusedSimpArgs false
namespace Go.Proofs.YtegmknmbgifmjaaDoor.Mac
open Go.RowKit Mem Oct Blk Base

theorem own_max {w : World} {base : Nat} {e : TypeId} {size n c : Nat} {A : Option Addr} {xs : List Value} (h : w.ownsRow base e size (.slice A n c) n xs) : c ≤ 9223372036854775807 := by
  rcases h.2 with ⟨hv, _⟩ | ⟨g, cap, cur, hv, _, _, _, hcm, _⟩
  · injection hv with _ _ hc; omega
  · injection hv with _ _ hc
    unfold maxLen at hcm; omega
/-- A row of bytes with its length and its capacity, read in the world that made it. -/
theorem readm {w w' : World} {e : Ending} {zs : List Int} (h : Makes w w' e zs) {n : Nat} (hn : zs.length = n) : ∃ A c, e = .returned (.slice A n c) ∧ n ≤ c ∧ c ≤ 9223372036854775807 ∧ Ints .u8 w' w'.heap.size A zs ∧ Below w.heap.size w w' := by
  obtain ⟨A, c, he, ho, hb⟩ := h.len hn
  exact ⟨A, c, he, own_cap ho, own_max ho, Ints.own ho, hb⟩
theorem mput_any (A : Option Addr) (n c : Nat) (fs : List (Int × Int)) (w : World) (hf : Fields fs) (hl : fs.length = n) (hn : n ≤ 8796093022208) (hok : fs.all okF = true) (hr : FldsAt w w.heap.size A fs) :
    Calls Tryd.prog 46 #[.slice A n c] w fun e w' => Makes w w' e (putL fs) := by
  have HR := Lib.hid (putR_good hok)
  go_enter Tryd.func46, Tryd.ntmps46
  go_wp2_with (go_at_call 51; refine (put_any A n c fs _ hf hl hn hr).mono ?_; rw [HR.out]; rintro e w1 ⟨A1, c1, rfl, hown, hb⟩)
  go_ret
  exact makes_of rfl rfl hown hb
/-- Fields that were just laid side by side. -/
theorem flds1 (w : World) (s v : Int) (t : TypeId) : FldsAt (w.alloc (.cells #[.int .i64 s, .int .u64 v] t)) (w.alloc (.cells #[.int .i64 s, .int .u64 v] t)).heap.size (some ⟨w.heap.size, 0, none⟩) [(s, v)] := by
  have F := Blk.fresh w t #[.int .i64 s, .int .u64 v]
  refine .inr ⟨w.heap.size, 0, rfl, F.lt, fun j f hj => ?_⟩
  match j, hj with
  | 0, hj => simp at hj; subst hj; exact ⟨F.cell 0, F.cell 1⟩
  | j + 1, hj => simp at hj
theorem flds2 (w : World) (s v s' v' : Int) (t : TypeId) : FldsAt (w.alloc (.cells #[.int .i64 s, .int .u64 v, .int .i64 s', .int .u64 v'] t)) (w.alloc (.cells #[.int .i64 s, .int .u64 v, .int .i64 s', .int .u64 v'] t)).heap.size (some ⟨w.heap.size, 0, none⟩) [(s, v), (s', v')] := by
  have F := Blk.fresh w t #[.int .i64 s, .int .u64 v, .int .i64 s', .int .u64 v']
  refine .inr ⟨w.heap.size, 0, rfl, F.lt, fun j f hj => ?_⟩
  match j, hj with
  | 0, hj => simp at hj; subst hj; exact ⟨F.cell 0, F.cell 1⟩
  | 1, hj => simp at hj; subst hj; exact ⟨F.cell 2, F.cell 3⟩
  | j + 2, hj => simp at hj
theorem okF8 (v : Int) (hv : 0 ≤ v ∧ v ≤ 18446744073709551615) : okF (8, v) = true := by
  unfold okF
  simp only [show (8 : Int).toNat = 8 from rfl, show Ser.p2 (8 * 8) = 18446744073709551616 by decide]
  simp; omega
theorem okF4 (v : Int) (hv : 0 ≤ v ∧ v ≤ 4294967295) : okF (4, v) = true := by
  unfold okF
  simp only [show (4 : Int).toNat = 4 from rfl, show Ser.p2 (8 * 4) = 4294967296 by decide]
  simp; omega
end Go.Proofs.YtegmknmbgifmjaaDoor.Mac
