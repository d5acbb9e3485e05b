/- Small functions that many laws call: copies of bytes, sameness of bytes: contracts over the program. -/
import Derived.Test.YtpoagepchlfemaaProg
import Derived.WalkKit
import Derived.Lib.MinMax
import Derived.Lib.Hide
import Derived.BigQuiet
import Derived.Deep.QuietTactic
import Derived.WalkSpells
import Derived.StillTailTactics
import Derived.Lib.SliceRun
import Derived.Test.YtpoagepchlfemaaOctMath
set_option linter.unusedVariables false
set_option linter.unusedSimpArgs false
namespace Go.Proofs.Ytpoagepchlfemaa.Base
open Go.RowKit Mem Oct

theorem info_u8 : (Try.prog.info? 5).map (fun i => (i.zero, i.size, i.bytes)) = some (some (.int .u8 0), 1, 1) := by kernel_rfl
/-- What a call makes of bytes: a row of its own. -/
def Makes (w w' : World) (e : Ending) (zs : List Int) : Prop :=
  ∃ A c, e = .returned (.slice A zs.length c) ∧ w'.ownsRow w.heap.size 5 1 (.slice A zs.length c) zs.length (zs.map (Value.int .u8)) ∧ Below w.heap.size w w'
theorem makes_of {w w' : World} {e : Ending} {v : Value} {n : Nat} {zs : List Int} (he : e = .returned v) (hn : zs.length = n) (h : w'.ownsRow w.heap.size 5 1 v n (zs.map (Value.int .u8))) (hb : Below w.heap.size w w') : Makes w w' e zs := by
  obtain ⟨A, c, hv⟩ := own_form h
  subst hn
  exact ⟨A, c, by rw [he, hv], by rw [← hv]; exact h, hb⟩
/-- A row that is not empty lies in a block of its own. -/
theorem own_block {w : World} {base : Nat} {e : TypeId} {size n c : Nat} {A : Option Addr} {xs : List Value} (h : w.ownsRow base e size (.slice A n c) n xs) (hn : 0 < n) : ∃ g, A = some ⟨g, 0, none⟩ ∧ base ≤ g ∧ g < w.heap.size := by
  rcases h.2 with ⟨hv, h0⟩ | ⟨g, cap, cur, hv, hbg, hg, _⟩
  · omega
  · injection hv with hA hn' hc
    refine ⟨g, hA, hbg, ?_⟩
    rcases Nat.lt_or_ge g w.heap.size with hlt | hge
    · exact hlt
    · rw [Array.getElem?_eq_none hge] at hg; cases hg
/-- The first k of the one, then the rest of the other. -/
def mix (l m : List Int) (k : Nat) : List Int := l.take k ++ m.drop k
theorem mix_zero (l m : List Int) : mix l m 0 = m := by simp [mix]
theorem mix_all (l m : List Int) (k : Nat) (hl : l.length = k) (hm : m.length = k) : mix l m k = l := by
  unfold mix; rw [List.take_of_length_le (by omega), List.drop_of_length_le (by omega), List.append_nil]
theorem mix_len (l m : List Int) (k : Nat) (h : l.length = m.length) : (mix l m k).length = m.length := by simp [mix]; omega
theorem mix_get (l m : List Int) (k : Nat) (h : l.length = m.length) (hk : k < m.length) : (mix l m k).getD k 0 = m.getD k 0 := by
  unfold mix
  have hl : (l.take k).length = k := by rw [List.length_take]; omega
  simp [List.getD, List.getElem?_append_right, hl]
theorem mix_step (l m : List Int) (k : Nat) (x : Int) (h : l.length = m.length) (hk : k < m.length) (hx : l.getD k 0 = x) : ((mix l m k).map (Value.int .u8)).set k (.int .u8 x) = (mix l m (k + 1)).map (Value.int .u8) := by
  rw [show (Value.int .u8 x) = (Value.int .u8) x from rfl, ← List.map_set]
  congr 1
  unfold mix
  have hl : (l.take k).length = k := by rw [List.length_take]; omega
  rw [List.set_append_right _ _ (by omega), hl, Nat.sub_self, take_snoc l 0 k (by omega), hx, List.append_assoc]
  congr 1
  rw [List.drop_eq_getElem_cons hk]; rfl
theorem bytes_lit (l : List Int) (h : l.all (fun z => decide (0 ≤ z ∧ z ≤ 255)) = true) : Bytes l := fun z hz => by
  rw [List.all_eq_true] at h; simpa using h z hz
theorem lit1 (k : IntKind) (w : World) (zs : List Int) (cs : Array Value) (e : TypeId) (h : cs = (zs.map (Value.int k)).toArray) : Ints k (w.alloc (.cells cs e)) (w.alloc (.cells cs e)).heap.size (some ⟨w.heap.size, 0, none⟩) zs := by
  have := Ints.lit k w zs cs e h
  simpa using this
theorem lit2 (k : IntKind) (w : World) (zs : List Int) (cs : Array Value) (e : TypeId) (h : cs = (zs.map (Value.int k)).toArray) (o : Obj) : Ints k ((w.alloc (.cells cs e)).alloc o) ((w.alloc (.cells cs e)).alloc o).heap.size (some ⟨w.heap.size, 0, none⟩) zs :=
  ((lit1 k w zs cs e h).alloc (Nat.le_refl _) o).more (by simp)
theorem litg (k : IntKind) (w : World) (zs : List Int) (cs : Array Value) (e : TypeId) (g : Nat) (hg : g = w.heap.size) (h : cs = (zs.map (Value.int k)).toArray) : Ints k (w.alloc (.cells cs e)) (w.alloc (.cells cs e)).heap.size (some ⟨g, 0, none⟩) zs := by
  subst hg; exact lit1 k w zs cs e h
theorem alloc1 (w : World) (o : Obj) {w' : World} (h : Below (w.alloc o).heap.size (w.alloc o) w') : Below w.heap.size w w' := ((Below.refl w.heap.size w).alloc (Nat.le_refl _) _).trans (h.mono (by simp))
theorem alloc2 (w : World) (o o' : Obj) {w' : World} (h : Below ((w.alloc o).alloc o').heap.size ((w.alloc o).alloc o') w') : Below w.heap.size w w' := alloc1 w o (alloc1 _ o' h)
theorem kept {k : IntKind} {w : World} {A : Option Addr} {zs : List Int} (h : Ints k w w.heap.size A zs) (o : Obj) : Ints k (w.alloc o) (w.alloc o).heap.size A zs := (h.alloc (Nat.le_refl _) o).more (by simp)
/-- What is read in a world is read in a later one. -/
theorem later {k : IntKind} {w w' : World} {A : Option Addr} {zs : List Int} (h : Ints k w w.heap.size A zs) (hb : Below w.heap.size w w') : Ints k w' w'.heap.size A zs := (h.below hb).more hb.size
theorem Makes.len {w w' : World} {e : Ending} {zs : List Int} (h : Makes w w' e zs) {n : Nat} (hn : zs.length = n) : ∃ A c, e = .returned (.slice A n c) ∧ w'.ownsRow w.heap.size 5 1 (.slice A n c) n (zs.map (Value.int .u8)) ∧ Below w.heap.size w w' := by
  subst hn; exact h
/-- A row of bytes with its length, read in the world that made it. -/
theorem Makes.read {w w' : World} {e : Ending} {zs : List Int} (h : Makes w w' e zs) {n : Nat} (hn : zs.length = n) : ∃ A c, e = .returned (.slice A n c) ∧ n ≤ c ∧ Ints .u8 w' w'.heap.size A zs ∧ Below w.heap.size w w' := by
  obtain ⟨A, c, he, ho, hb⟩ := h.len hn
  exact ⟨A, c, he, own_cap ho, Ints.own ho, hb⟩
/-- A later step. -/
theorem thenB {w a b : World} (h : Below w.heap.size w a) (k : Below a.heap.size a b) : Below w.heap.size w b := h.trans (k.mono h.size)
end Go.Proofs.Ytpoagepchlfemaa.Base
