/- Small functions that many laws call: copies of bytes, sameness of bytes: contracts over the program. -/
import Derived.Test.YtbnfjielnamepaaProg
import Derived.WalkKit
import Derived.Lib.MinMax
import Derived.Lib.Hide
import Derived.BigQuiet
import Derived.Deep.QuietTactic
import Derived.WalkSpells
import Derived.StillTailTactics
import Derived.Lib.SliceRun
import Derived.Test.YtbnfjielnamepaaOctMath
set_option linter.unusedVariables false
set_option linter.unusedSimpArgs false
namespace Go.Proofs.Ytbnfjielnamepaa.Base
open Go.RowKit Mem Oct

theorem info_u8 : (Try.prog.info? 5).map (fun i => (i.zero, i.size, i.bytes)) = some (some (.int .u8 0), 1, 1) := by kernel_rfl
/-- What a call makes of bytes: a row of its own. -/
def Makes (w w' : World) (e : Ending) (zs : List Int) : Prop :=
  ∃ A c, e = .returned (.slice A zs.length c) ∧ w'.ownsRow w.heap.size 5 1 (.slice A zs.length c) zs.length (zs.map (Value.int .u8)) ∧ Below w.heap.size w w'
theorem makes_of {w w' : World} {e : Ending} {v : Value} {n : Nat} {zs : List Int} (he : e = .returned v) (hn : zs.length = n) (h : w'.ownsRow w.heap.size 5 1 v n (zs.map (Value.int .u8))) (hb : Below w.heap.size w w') : Makes w w' e zs := by
  obtain ⟨A, c, hv⟩ := own_form h
  subst hn
  exact ⟨A, c, by rw [he, hv], by rw [← hv]; exact h, hb⟩
/-- A row that is not empty lies in a block of its own. -/
theorem own_block {w : World} {base : Nat} {e : TypeId} {size n c : Nat} {A : Option Addr} {xs : List Value} (h : w.ownsRow base e size (.slice A n c) n xs) (hn : 0 < n) : ∃ g, A = some ⟨g, 0, none⟩ ∧ base ≤ g ∧ g < w.heap.size := by
  rcases h.2 with ⟨hv, h0⟩ | ⟨g, cap, cur, hv, hbg, hg, _⟩
  · omega
  · injection hv with hA hn' hc
    refine ⟨g, hA, hbg, ?_⟩
    rcases Nat.lt_or_ge g w.heap.size with hlt | hge
    · exact hlt
    · rw [Array.getElem?_eq_none hge] at hg; cases hg
theorem same_any (A A' : Option Addr) (n n' c c' : Nat) (xs ys : List Int) (w : World) (hx : xs.length = n) (hy : ys.length = n') (bx : Bytes xs) (by_ : Bytes ys) (hr : Ints .u8 w w.heap.size A xs) (hr' : Ints .u8 w w.heap.size A' ys) :
    Calls Try.prog 59 #[.slice A n c, .slice A' n' c'] w fun e w' => e = .returned (.bool (decide (xs = ys))) ∧ w = w' := by
  have k1 := run_string_ints (P := Try.prog) 22 5 Try.underlying22 Try.underlying5 Try.underlying9 w.heap.size A n c xs hx hr
  have k2 := run_string_ints (P := Try.prog) 22 5 Try.underlying22 Try.underlying5 Try.underlying9 w.heap.size A' n' c' ys hy hr'
  go_enter Try.func59, Try.ntmps59
  go_wp2
  go_ret
  exact ⟨Ser.ret_bool (str_eq bx by_), rfl⟩
theorem bytes_lit (l : List Int) (h : l.all (fun z => decide (0 ≤ z ∧ z ≤ 255)) = true) : Bytes l := fun z hz => by
  rw [List.all_eq_true] at h; simpa using h z hz
theorem lit1 (k : IntKind) (w : World) (zs : List Int) (cs : Array Value) (e : TypeId) (h : cs = (zs.map (Value.int k)).toArray) : Ints k (w.alloc (.cells cs e)) (w.alloc (.cells cs e)).heap.size (some ⟨w.heap.size, 0, none⟩) zs := by
  have := Ints.lit k w zs cs e h
  simpa using this
theorem kept {k : IntKind} {w : World} {A : Option Addr} {zs : List Int} (h : Ints k w w.heap.size A zs) (o : Obj) : Ints k (w.alloc o) (w.alloc o).heap.size A zs := (h.alloc (Nat.le_refl _) o).more (by simp)
/-- What is read in a world is read in a later one. -/
theorem later {k : IntKind} {w w' : World} {A : Option Addr} {zs : List Int} (h : Ints k w w.heap.size A zs) (hb : Below w.heap.size w w') : Ints k w' w'.heap.size A zs := (h.below hb).more hb.size
theorem same_to {b : Bool} {xs ys : List Int} (hr : decide (xs = ys) = b) {A A' : Option Addr} {n n' c c' : Nat} {w : World} (hx : xs.length = n) (hy : ys.length = n') (bx : Bytes xs) (by_ : Bytes ys) (h : Ints .u8 w w.heap.size A xs) (h' : Ints .u8 w w.heap.size A' ys) :
    Calls Try.prog 59 #[.slice A n c, .slice A' n' c'] w fun e w' => e = .returned (.bool b) ∧ w' = w := by
  rw [← hr]; exact (same_any A A' n n' c c' xs ys w hx hy bx by_ h h').mono fun e w' ⟨he, hw⟩ => ⟨he, hw.symm⟩
theorem Makes.len {w w' : World} {e : Ending} {zs : List Int} (h : Makes w w' e zs) {n : Nat} (hn : zs.length = n) : ∃ A c, e = .returned (.slice A n c) ∧ w'.ownsRow w.heap.size 5 1 (.slice A n c) n (zs.map (Value.int .u8)) ∧ Below w.heap.size w w' := by
  subst hn; exact h
/-- A row of bytes with its length, read in the world that made it. -/
theorem Makes.read {w w' : World} {e : Ending} {zs : List Int} (h : Makes w w' e zs) {n : Nat} (hn : zs.length = n) : ∃ A c, e = .returned (.slice A n c) ∧ n ≤ c ∧ Ints .u8 w' w'.heap.size A zs ∧ Below w.heap.size w w' := by
  obtain ⟨A, c, he, ho, hb⟩ := h.len hn
  exact ⟨A, c, he, own_cap ho, Ints.own ho, hb⟩
/-- A later step. -/
theorem thenB {w a b : World} (h : Below w.heap.size w a) (k : Below a.heap.size a b) : Below w.heap.size w b := h.trans (k.mono h.size)
end Go.Proofs.Ytbnfjielnamepaa.Base
