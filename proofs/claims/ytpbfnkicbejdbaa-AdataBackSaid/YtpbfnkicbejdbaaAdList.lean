/- Services in two bytes each; what advertising data are built of: arithmetic, memory, and one contract over the program. -/
import Derived.Test.YtpbfnkicbejdbaaAdSame
import Derived.Lib.ConvBytes
set_option linter.unusedVariables false
set_option linter.unusedSimpArgs false
namespace Go.Proofs.Ytpbfnkicbejdbaa.Ad
open Go.RowKit Mem Rw Oct
open Base (thenB later kept)

/-- Numbers of two bytes each. -/
def tw (xs : List Int) : List Int := xs.flatMap (numL 2)
def Words16 (xs : List Int) : Prop := ∀ z ∈ xs, 0 ≤ z ∧ z ≤ 65535
theorem tw_len (xs : List Int) : (tw xs).length = 2 * xs.length := by
  induction xs with
  | nil => rfl
  | cons x r ih =>
    unfold tw at ih ⊢
    rw [List.flatMap_cons, List.length_append, ih, numL_len, List.length_cons]
    omega
theorem tw_take {xs : List Int} {j : Nat} {x : Int} (h : j < xs.length) (hx : xs.getD j 0 = x) : tw (xs.take (j + 1)) = tw (xs.take j) ++ [x % 256, x / 256 % 256] := by
  have hg : xs[j] = x := by rw [← hx]; simp [List.getD, List.getElem?_eq_getElem h]
  rw [List.take_succ_eq_append_getElem h, hg]
  unfold tw
  rw [List.flatMap_append]
  simp [numL]
theorem tw_bytes (xs : List Int) : Bytes (tw xs) := by
  intro z hz
  unfold tw at hz
  obtain ⟨x, _, hx⟩ := List.mem_flatMap.mp hz
  simp [numL] at hx
  rcases hx with rfl | rfl <;> omega
theorem svc_tw : ∀ (xs : List Int), Words16 xs → svc (tw xs) = xs
  | [], _ => rfl
  | x :: r, h => by
    have hx := h x (by simp)
    have ih := svc_tw r (fun z hz => h z (by simp [hz]))
    have e : tw (x :: r) = x % 256 :: x / 256 % 256 :: tw r := by
      unfold tw
      rw [List.flatMap_cons]
      rfl
    rw [e, svc_two, ih]
    congr 1
    omega
def items (flags : Int) (name xs : List Int) : List E := [(1, [flags])] ++ (if xs = [] then [] else [(3, tw xs)]) ++ (if name = [] then [] else [(9, name)])
def buildR (flags : Int) (name xs : List Int) : List Int × Int := if 0 ≤ flags ∧ flags ≤ 255 then encR (items flags name xs) else ([], 5)
theorem items_ok (flags : Int) (name xs : List Int) : (items flags name xs).all kindOk = true := by
  unfold items
  by_cases h : xs = []
  · by_cases h2 : name = [] <;> simp [h, h2, kindOk]
  · by_cases h2 : name = [] <;> simp [h, h2, kindOk]
theorem items_len (flags : Int) (name xs : List Int) : (allB (items flags name xs)).length = 3 + (if xs = [] then 0 else 2 + 2 * xs.length) + (if name = [] then 0 else 2 + name.length) := by
  unfold items
  rw [allB_app, allB_app, List.length_append, List.length_append]
  by_cases h : xs = []
  · by_cases h2 : name = [] <;> simp [h, h2, allB, encB] <;> omega
  · by_cases h2 : name = []
    · simp [h, h2, allB, encB, tw_len]; omega
    · simp [h, h2, allB, encB, tw_len]; omega
theorem build_long {flags : Int} {name xs : List Int} (h : 0 ≤ flags ∧ flags ≤ 255) (hl : 31 < name.length ∨ 31 < xs.length) : buildR flags name xs = ([], 4) := by
  unfold buildR
  rw [if_pos h]
  refine encR_long (items_ok _ _ _) ?_
  rw [items_len]
  rcases hl with hl | hl
  · have h2 : name ≠ [] := fun e => by rw [e] at hl; simp at hl
    rw [if_neg h2]; omega
  · have h2 : xs ≠ [] := fun e => by rw [e] at hl; simp at hl
    rw [if_neg h2]; omega
theorem build_bad {flags : Int} (name xs : List Int) (h : ¬ (0 ≤ flags ∧ flags ≤ 255)) : buildR flags name xs = ([], 5) := by unfold buildR; rw [if_neg h]
theorem build_in {flags : Int} (name xs : List Int) (h : 0 ≤ flags ∧ flags ≤ 255) : buildR flags name xs = encR (items flags name xs) := by unfold buildR; rw [if_pos h]

/-! ### Memory -/
/-- Bytes stay. -/
def KeepU (W W' : World) : Prop := W.heap.size ≤ W'.heap.size ∧ ∀ (r : Nat) cs m, W.heap[r]? = some (Obj.cells cs 5 m) → W'.heap[r]? = some (Obj.cells cs 5 m)
theorem KeepU.refl (W : World) : KeepU W W := ⟨Nat.le_refl _, fun _ _ _ h => h⟩
theorem KeepU.trans {A B C : World} (h : KeepU A B) (k : KeepU B C) : KeepU A C := ⟨Nat.le_trans h.1 k.1, fun r cs m hb => k.2 r cs m (h.2 r cs m hb)⟩
theorem KeepU.below {A B : World} (h : Below A.heap.size A B) : KeepU A B := ⟨h.size, fun r cs m hb => (h.block r (Array.getElem?_eq_some_iff.1 hb).1).trans hb⟩
theorem KeepU.alloc (W : World) (o : Obj) : KeepU W (W.alloc o) := KeepU.below ((Below.refl _ _).alloc (Nat.le_refl _) o)
theorem KeepU.grown {A B : World} {base : Nat} {e : TypeId} {size k : Nat} {v : Value} {xs : List Value} (hr : A.ownsRow base e size v k xs) (he : e ≠ 5) (h : A.grownBy B v.ownBlock) : KeepU A B :=
  ⟨h.size, fun r cs m hb => (h.block r (Array.getElem?_eq_some_iff.1 hb).1 (fun e' => by
    rcases hr.2 with ⟨rfl, _⟩ | ⟨g, cap, cur, rfl, _, hgb, _⟩
    · simp [Value.ownBlock] at e'
    · obtain rfl : r = g := by simpa [Value.ownBlock] using e'
      rw [hb] at hgb; cases hgb; exact he rfl)).trans hb⟩
def Rb (w : World) (A : Option Addr) (zs : List Int) : Prop := zs = [] ∨ ∃ (g off : Nat) (cs : Array Value) (m : Nat × Nat), A = some ⟨g, off, none⟩ ∧ w.heap[g]? = some (Obj.cells cs 5 m) ∧ ∀ j, j < zs.length → cs[off + j]? = some (.int .u8 (zs.getD j 0))
theorem Rb.keep {w w' : World} {A : Option Addr} {zs : List Int} (h : Rb w A zs) (k : KeepU w w') : Rb w' A zs := by
  rcases h with h | ⟨g, off, cs, m, hA, hg, hc⟩
  · exact .inl h
  · exact .inr ⟨g, off, cs, m, hA, k.2 _ _ _ hg, hc⟩
theorem Rb.ints {w : World} {A : Option Addr} {zs : List Int} (h : Rb w A zs) : Ints .u8 w w.heap.size A zs := by
  rcases h with h | ⟨g, off, cs, m, hA, hg, hc⟩
  · exact .inl h
  · exact .inr ⟨g, off, hA, (Array.getElem?_eq_some_iff.1 hg).1, fun j hj => (cell_of_row w g (off + j) cs _ m hg).trans (hc j hj)⟩
theorem Rb.own {w : World} {base n c : Nat} {A : Option Addr} {zs : List Int} (h : w.ownsRow base 5 1 (.slice A n c) n (zs.map (Value.int .u8))) : Rb w A zs := by
  rcases rd8_of h with h | ⟨g, off, cs, hA, hg, hc⟩
  · exact .inl h
  · exact .inr ⟨g, off, cs, (0, 0), hA, hg, hc⟩
theorem conv_below (w : World) (e : TypeId) (s : ByteArray) : Below w.heap.size w (Lib.bytesWorld w e s) :=
  ⟨rfl, rfl, rfl, by rw [Lib.bytesWorld_size]; omega, fun j hj => Lib.bytesWorld_at_old w e s j hj⟩
theorem conv_rb (w : World) (s : ByteArray) : Rb (Lib.bytesWorld w 5 s) (some ⟨w.heap.size, 0, none⟩) (chL s) := by
  right
  refine ⟨w.heap.size, 0, _, _, rfl, Lib.bytesWorld_at_new w 5 s, fun j hj => ?_⟩
  rw [chL_len] at hj
  have h1 := Lib.bytesWorld_cell w 5 s j hj
  rw [cell_of_row _ _ _ _ _ _ (Lib.bytesWorld_at_new w 5 s)] at h1
  rw [Nat.zero_add, h1]
  have h' : j < s.data.toList.length := by simpa using hj
  simp only [chL, List.getD, List.getElem?_map, List.getElem?_eq_getElem h', Option.map_some, Option.getD_some]
def RbE (w : World) (x : El) : Prop := Rb w x.A x.v ∧ x.v.length ≤ x.c ∧ x.v.length ≤ 140737488355328
theorem RbE.keep {w w' : World} {x : El} (h : RbE w x) (k : KeepU w w') : RbE w' x := ⟨h.1.keep k, h.2⟩
theorem els_of {w : World} {base n c : Nat} {A : Option Addr} {l : List El} (h : w.ownsRow base 49 2 (.slice A n c) n (l.flatMap encE)) (hr : ∀ x ∈ l, RbE w x) : ElsAt w w.heap.size A l :=
  ⟨CellsAt.own h, fun x hx => ⟨(hr x hx).2.1, (hr x hx).2.2, (hr x hx).1.ints⟩⟩
theorem row_lit (w : World) (base : Nat) (hb : base ≤ w.heap.size) (k : Int) (A : Option Addr) (p c : Nat) (v : List Int) (hv : v.length = p) : (w.alloc (.cells #[.int .i64 k, .slice A p c] 49)).ownsRow base 49 2 (.slice (some ⟨w.heap.size, 0, none⟩) 1 1) 1 ([(⟨k, A, c, v⟩ : El)].flatMap encE) := by
  subst hv
  exact ⟨rfl, .inr ⟨w.heap.size, 1, #[.int .i64 k, .slice A v.length c], rfl, hb, heap_alloc_new w _, Nat.le_refl _, by unfold maxLen; omega, rfl, rfl⟩⟩
set_option maxRecDepth 100000 in
set_option maxHeartbeats 4000000 in
theorem list_any (A : Option Addr) (n c : Nat) (xs : List Int) (w : World) (hx : xs.length = n) (hn : n ≤ 1000000) (bx : Words16 xs) (hr : Ints .u16 w w.heap.size A xs) :
    Calls Try.prog 31 #[.slice A n c] w fun e w' => Base.Makes w w' e (tw xs) := by
  obtain ⟨i0, hi, hz0, hz1, hz2⟩ := info_parts info_u8
  have Hx := Lib.hid hx
  have HBx := Lib.hid bx
  clear hx bx
  go_enter Try.func31, Try.ntmps31
  go_wp2_with fail
  go_loopw [3, 8] (fun s3 s8 wr => ∃ j : Nat, j ≤ n ∧ s8 = .int .i64 j ∧ wr.ownsRow w.heap.size 5 1 s3 (2 * j) ((tw (xs.take j)).map (Value.int .u8)) ∧ Below w.heap.size w wr) (fun _ s8 _ => n - (intOf s8).toNat)
  case atStart => exact ⟨0, by omega, rfl, by simpa [tw] using World.ownsRow_nil w w.heap.size 5 1, Below.refl _ _⟩
  case round =>
    obtain ⟨j, hj, rfl, hown, hbel⟩ := hrel
    obtain ⟨BA, bc, rfl⟩ := own_form hown
    by_cases c1 : j < n
    · obtain ⟨b, off, rfl, hb, hc⟩ := (hr.below hbel).at_ (i := j) (by rw [Hx.out]; omega)
      have f1 := hc j (by rw [Hx.out]; omega)
      clear hc
      obtain ⟨x, hxk⟩ : ∃ x, xs.getD j 0 = x := ⟨_, rfl⟩
      rw [hxk] at f1
      have HT := Lib.hid (tw_take (by rw [Hx.out]; exact c1) hxk)
      have g1 : (0 : Int) ≤ (j : Int) ∧ (j : Int) < (n : Int) := by omega
      have bxx : 0 ≤ x ∧ x ≤ 65535 := by
        have : x ∈ xs := by rw [← hxk]; simp [List.getD, List.getElem?_eq_getElem (show j < xs.length by rw [Hx.out]; exact c1)]
        exact HBx.out x this
      have e1 := u8_mod x
      have e2 := u8_mod (x / 256)
      have hw0 := hbel.size
      obtain ⟨y1, hy1⟩ : ∃ y, x % 256 = y := ⟨_, rfl⟩
      obtain ⟨y2, hy2⟩ : ∃ y, x / 256 % 256 = y := ⟨_, rfl⟩
      rw [hy1, hy2] at HT
      rw [hy1] at e1
      rw [hy2] at e2
      clear hxk
      go_wp2_with (at_builtin; refine wpList_append_ints rfl (.tmp 12) (.tmp 18) 24 rfl .u8 w.heap.size 5 i0 _ 1 Try.underlying24 hi hz0 hz1 hz2 rfl (.slice BA (2 * j) bc) (2 * j) _ rfl (hown.alloc _) (wr.heap.size + 1) _ 2 2 [y1, y2] rfl rfl ?c1 ?c2 ?c3 ?c4 ?_; (case c1 => exact Ints.lit _ _ _ _ _ rfl); (case c2 => unfold maxLen; omega); (case c3 => omega); (case c4 => simp; omega); intro v2 w2 hown2 hb2 _)
      go_roundw
      case rel => exact ⟨j + 1, by omega, by go_num, by rw [HT.out, List.map_append]; exact hown2, (hbel.alloc hbel.size _).trans hb2⟩
      case measure => simp [intOf]; omega
    · obtain rfl : j = n := by omega
      have HT : Hid (xs.take j = xs) := Lib.hid (List.take_of_length_le (by rw [Hx.out]; omega))
      rw [HT.out] at hown
      go_wp2_with fail
      go_ret
      exact Base.makes_of rfl (by rw [tw_len, Hx.out]) hown hbel
end Go.Proofs.Ytpbfnkicbejdbaa.Ad
