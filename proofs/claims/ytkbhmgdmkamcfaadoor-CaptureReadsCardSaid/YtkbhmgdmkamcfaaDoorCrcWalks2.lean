/- Appending, checking: what the functions of the layer of checksums, and of the document's own answers, return: contracts over the program. -/
import Derived.Test.YtkbhmgdmkamcfaaDoorCrcWalks
import Derived.Deep.RegionHeld3
set_option linter.unusedVariables false
set_option linter.unusedSimpArgs false
namespace Go.Proofs.YtkbhmgdmkamcfaaDoor.Crc
open Go.RowKit Mem Oct Base

/-- What a call hands back: a slice that reads so. -/
def Reads (w w' : World) (e : Ending) (zs : List Int) : Prop :=
  ∃ A c, e = .returned (.slice A zs.length c) ∧ zs.length ≤ c ∧ Ints .u8 w' w'.heap.size A zs ∧ Below w.heap.size w w'
theorem Reads.len {w w' : World} {e : Ending} {zs : List Int} (h : Reads w w' e zs) {n : Nat} (hn : zs.length = n) : ∃ A c, e = .returned (.slice A n c) ∧ n ≤ c ∧ Ints .u8 w' w'.heap.size A zs ∧ Below w.heap.size w w' := by
  subst hn; exact h
theorem tail_lit (s : Nat) : #[Value.int .u8 ((s : Int) % 256), .int .u8 ((s : Int) / 256 % 256), .int .u8 ((s : Int) / 65536)] = ((tailL s).map (Value.int .u8)).toArray := by
  unfold tailL
  simp only [List.map_cons, List.map_nil]
  rw [show (s : Int) % 256 = ((s % 256 : Nat) : Int) by omega, show (s : Int) / 256 % 256 = ((s / 256 % 256 : Nat) : Int) by omega, show (s : Int) / 65536 = ((s / 65536 : Nat) : Int) by omega]
theorem checksum_any (r : Int) (A : Option Addr) (n c : Nat) (zs : List Int) (w : World) (hr : 0 ≤ r ∧ r ≤ 4294967295) (hz : zs.length = n) (bz : Bytes zs) (hi : Ints .u8 w w.heap.size A zs) (hn : n ≤ 140737488351232) (hT : Tab w) :
    Calls Tryd.prog 79 #[.int .u32 r, .slice A n c] w fun e w' => Reads w w' e (tailL (sumN (ini r) zs)) := by
  have hl : sumN (ini r) zs < 16777216 := sumN_lt _ _ (ini_lt r) bz
  go_enter Tryd.func79, Tryd.ntmps79
  go_wp2_with (go_at_call 89; refine (sum_any r A n c zs w hr hz bz hi hn hT).mono ?_; rintro e w2 ⟨rfl, rfl⟩)
  go_ret
  exact ⟨_, _, rfl, Nat.le_refl _, lit1 .u8 w _ _ _ (tail_lit _), (Below.refl _ _).alloc (Nat.le_refl _) _⟩
theorem nil_len {k : IntKind} {w : World} {B n : Nat} {A : Option Addr} {zs : List Int} (hi : Ints k w B A zs) (hz : zs.length = n) : A = none → n = 0 := by
  intro h
  rcases hi with rfl | ⟨b, off, e, _⟩
  · simpa using hz.symm
  · rw [h] at e; cases e
theorem clone_any (A : Option Addr) (n c : Nat) (zs : List Int) (w : World) (hz : zs.length = n) (hr : Ints .u8 w w.heap.size A zs) (hn : n ≤ 140737488351232) :
    Calls Tryd.prog 78 #[.slice A n c] w fun e w' => Makes w w' e zs := by
  have hnil := nil_len hr hz
  obtain ⟨i0, hi, hz0, hz1, hz2⟩ := info_parts info_u8
  cases A with
  | none =>
    obtain rfl : n = 0 := hnil rfl
    have hzs : zs = [] := List.eq_nil_of_length_eq_zero (by omega)
    have H := Lib.hid hzs
    clear hzs hz hr hn hnil
    have hq := Lib.run_eql_slice_nil (P := Tryd.prog) w 32 5 none 0 c 0 0 Tryd.underlying32
    go_enter Tryd.func78, Tryd.ntmps78
    go_wp2_with fail
    go_ret
    rw [H.out]
    exact makes_of rfl rfl (World.ownsRow_nil _ _ _ _) (Below.refl _ _)
  | some ad =>
    have hq := Lib.run_eql_slice_nil (P := Tryd.prog) w 32 5 (some ad) n c 0 0 Tryd.underlying32
    go_enter Tryd.func78, Tryd.ntmps78
    go_wp2_with (at_builtin; refine wpList_append_ints rfl _ _ 32 rfl .u8 w.heap.size 5 i0 _ 1 Tryd.underlying32 hi hz0 hz1 hz2 rfl (.slice (some ⟨w.heap.size, 0, none⟩) 0 0) 0 [] rfl (World.ownsRow_made _ _ 0 (Nat.le_refl _) (by unfold maxLen; omega) rfl) w.heap.size (some ad) n c zs rfl hz ?c1 ?c2 ?c3 ?c4 ?_; (case c1 => exact hr.alloc (Nat.le_refl _) _); (case c2 => unfold maxLen; omega); (case c3 => omega); (case c4 => simp); intro v' w1 hown1 hb1 _)
    go_ret
    exact makes_of rfl hz (by simpa using hown1) (((Below.refl _ _).alloc (Nat.le_refl _) _).trans hb1)
theorem equal_any (A A' : Option Addr) (n n' c c' : Nat) (xs ys : List Int) (w : World) (hx : xs.length = n) (hy : ys.length = n') (bx : Bytes xs) (by_ : Bytes ys) (hr : Ints .u8 w w.heap.size A xs) (hr' : Ints .u8 w w.heap.size A' ys) :
    Calls Tryd.prog 82 #[.slice A n c, .slice A' n' c'] w fun e w' => e = .returned (.bool (decide (xs = ys))) ∧ w = w' := by
  have k1 := run_string_ints (P := Tryd.prog) 32 5 Tryd.underlying32 Tryd.underlying5 Tryd.underlying9 w.heap.size A n c xs hx hr
  have k2 := run_string_ints (P := Tryd.prog) 32 5 Tryd.underlying32 Tryd.underlying5 Tryd.underlying9 w.heap.size A' n' c' ys hy hr'
  go_enter Tryd.func82, Tryd.ntmps82
  go_wp2
  go_ret
  exact ⟨Ser.ret_bool (str_eq bx by_), rfl⟩
/-- The bytes with their checksum. -/
def appL (q : Nat) (zs : List Int) : List Int := zs ++ tailL (sumN q zs)
theorem appL_len (q : Nat) (zs : List Int) : (appL q zs).length = zs.length + 3 := by simp [appL, tailL]
theorem appL_bytes {q : Nat} (hq : q < 16777216) {zs : List Int} (h : Bytes zs) : Bytes (appL q zs) := bytes_append h (tail_bytes _ (sumN_lt _ _ hq h))
theorem append_any (r : Int) (A : Option Addr) (n c : Nat) (zs : List Int) (w : World) (hr : 0 ≤ r ∧ r ≤ 4294967295) (hz : zs.length = n) (bz : Bytes zs) (hi : Ints .u8 w w.heap.size A zs) (hn : n ≤ 1048576) (hT : Tab w) :
    Calls Tryd.prog 56 #[.int .u32 r, .slice A n c] w fun e w' => Makes w w' e (appL (ini r) zs) := by
  obtain ⟨i0, hi0, hz0, hz1, hz2⟩ := info_parts info_u8
  have HA : Hid ((appL (ini r) zs).length = n + 3) := Lib.hid (by rw [appL_len, hz])
  go_enter Tryd.func56, Tryd.ntmps56
  go_wp2_with (first | (go_at_call 78; refine (clone_any A n c zs w hz hi (by omega)).mono ?_; intro e w2 m2; obtain ⟨A2, c2, rfl, o2, b2⟩ := m2.len hz; clear m2) | (go_at_call 79; refine (checksum_any r A n c zs _ hr hz bz (later hi b2) (by omega) (hT.below b2)).mono ?_; intro e w3 m3; obtain ⟨A3, c3, rfl, k3, j3, b3⟩ := m3.len (tail_len _); clear m3) | (at_builtin; refine wpList_append_ints rfl _ _ 32 rfl .u8 w.heap.size 5 i0 _ 1 Tryd.underlying32 hi0 hz0 hz1 hz2 rfl _ n _ rfl (own_below o2 b3) w3.heap.size A3 3 c3 (tailL (sumN (ini r) zs)) rfl rfl j3 ?c2 ?c3 ?c4 ?_; (case c2 => unfold maxLen; omega); (case c3 => omega); (case c4 => have := b2.size; have := b3.size; omega); intro v' w4 o4 b4 _))
  go_ret
  refine makes_of rfl HA.out ?_ ((thenB b2 b3).trans b4)
  unfold appL
  rw [List.map_append]
  exact o4
end Go.Proofs.YtkbhmgdmkamcfaaDoor.Crc
