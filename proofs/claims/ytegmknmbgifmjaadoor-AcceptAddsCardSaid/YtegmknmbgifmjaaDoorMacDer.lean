/- Keys that are derived, by the program and by the specification: contracts over the program. -/
import Derived.Test.YtegmknmbgifmjaaDoorMacRef
import Derived.Test.YtegmknmbgifmjaaDoorMacFlds
import Derived.Test.YtegmknmbgifmjaaDoorRowC
set_option linter.unusedVariables false
set_option linter.unusedSimpArgs false
namespace Go.Proofs.YtegmknmbgifmjaaDoor.Mac
open Go.RowKit Mem Oct Blk Base

/-- The bytes of numbers, eight for each. -/
def numsB : List Int → List Int
  | [] => []
  | p :: r => numL 8 p ++ numsB r
theorem numsB_append (l r : List Int) : numsB (l ++ r) = numsB l ++ numsB r := by
  induction l with
  | nil => rfl
  | cons p l ih => simp [numsB, ih]
theorem numsB_snoc (ps : List Int) (j : Nat) (h : j < ps.length) : numsB (ps.take (j + 1)) = numsB (ps.take j) ++ numL 8 (ps.getD j 0) := by
  rw [take_snoc ps 0 j h, numsB_append]; simp [numsB]
theorem numsB_len (ps : List Int) : (numsB ps).length = 8 * ps.length := by
  induction ps with
  | nil => rfl
  | cons p r ih => simp [numsB, numL_len, ih]; omega
theorem numsB_bytes (ps : List Int) : Bytes (numsB ps) := by
  induction ps with
  | nil => intro z hz; cases hz
  | cons p r ih => exact bytes_append (numL_bytes _ _) ih
/-- What a derived key is the tag of. -/
def derI (s : ByteArray) (ps : List Int) : List Int := chL s ++ (0 :: numsB ps)
theorem derI_len (s : ByteArray) (ps : List Int) : (derI s ps).length = s.size + 1 + 8 * ps.length := by unfold derI; simp [chL_len, numsB_len]; omega
theorem derI_bytes (s : ByteArray) (ps : List Int) : Bytes (derI s ps) := by
  refine bytes_append (chL_bytes s) ?_
  intro z hz
  simp only [List.mem_cons] at hz
  rcases hz with rfl | hz
  · omega
  · exact numsB_bytes ps z hz
/-- The fields of numbers. -/
def fldP (ps : List Int) : List (Int × Int) := (1, 0) :: ps.map fun p => (8, p)
theorem fldP_len (ps : List Int) : (fldP ps).length = 1 + ps.length := by simp [fldP]; omega
theorem fldP_snoc (ps : List Int) (j : Nat) (h : j < ps.length) : fldP (ps.take (j + 1)) = fldP (ps.take j) ++ [(8, ps.getD j 0)] := by
  rw [take_snoc ps 0 j h]; simp [fldP]
theorem putL_fldP (ps : List Int) : putL (fldP ps) = 0 :: numsB ps := by
  have h : putL (ps.map fun p => ((8 : Int), p)) = numsB ps := by
    induction ps with
    | nil => rfl
    | cons p r ih => simp [putL, numsB, ih]
  simp [fldP, putL, h, numL]
theorem flat_append (l r : List (Int × Int)) : flat (l ++ r) = flat l ++ flat r := by
  induction l with
  | nil => rfl
  | cons f l ih => simp [flat, ih]
/-- Integers of 64 bits without a sign. -/
def Words (ps : List Int) : Prop := ∀ p ∈ ps, 0 ≤ p ∧ p ≤ 18446744073709551615
theorem words_get {l : List Int} (h : Words l) (k : Nat) : 0 ≤ l.getD k 0 ∧ l.getD k 0 ≤ 18446744073709551615 := by
  by_cases hk : k < l.length
  · simp only [List.getD, List.getElem?_eq_getElem hk]
    exact h _ (List.getElem_mem hk)
  · simp [List.getD, List.getElem?_eq_none (Nat.le_of_not_lt hk)]
theorem fldP_fields {ps : List Int} (h : Words ps) : Fields (fldP ps) := by
  intro f hf
  simp only [fldP, List.mem_cons, List.mem_map] at hf
  rcases hf with rfl | ⟨p, hp, rfl⟩
  · exact ⟨by simp, by simp⟩
  · exact ⟨by simp, h p hp⟩
theorem fldP_ok {ps : List Int} (h : Words ps) : (fldP ps).all okF = true := by
  rw [List.all_eq_true]
  intro f hf
  simp only [fldP, List.mem_cons, List.mem_map] at hf
  rcases hf with rfl | ⟨p, hp, rfl⟩
  · decide
  · exact okF8 p (h p hp)
theorem conv_below (w : World) (e : TypeId) (s : ByteArray) : Below w.heap.size w (Lib.bytesWorld w e s) :=
  ⟨rfl, rfl, rfl, by rw [Lib.bytesWorld_size]; omega, fun j hj => Lib.bytesWorld_at_old w e s j hj⟩
theorem conv_ints (w : World) (e : TypeId) (s : ByteArray) : Ints .u8 (Lib.bytesWorld w e s) (Lib.bytesWorld w e s).heap.size (some ⟨w.heap.size, 0, none⟩) (chL s) := by
  right
  refine ⟨w.heap.size, 0, rfl, by rw [Lib.bytesWorld_size]; omega, fun j hj => ?_⟩
  rw [chL_len] at hj
  rw [Nat.zero_add, Lib.bytesWorld_cell w e s j hj]
  have h' : j < s.data.toList.length := by simpa using hj
  simp only [chL, List.getD, List.getElem?_map, List.getElem?_eq_getElem h', Option.map_some, Option.getD_some]
theorem derive_any (k : Int) (s : ByteArray) (A : Option Addr) (n c : Nat) (ps : List Int) (w : World) (hk : 0 ≤ k ∧ k ≤ 18446744073709551615) (hs : s.size ≤ 1048576) (hl : ps.length = n) (bp : Words ps) (hr : Ints .u64 w w.heap.size A ps) (hn : n ≤ 1048576) :
    Calls Tryd.prog 42 #[.int .u64 k, .string s, .slice A n c] w fun e w' => e = .returned (.int .u64 (tagZ k (derI s ps))) ∧ Below w.heap.size w w' := by
  obtain ⟨i0, hi, hz0, hz1, hz2⟩ := info_parts info_fld
  have hcv : ∀ w : World, (convert 9 72 (.string s)).run Tryd.prog w = .ok (.slice (some ⟨w.heap.size, 0, none⟩) s.size (grownCap w s.size 0 5)) (Lib.bytesWorld w 5 s) := fun w =>
    Lib.run_convert_string_bytes w 9 72 5 s Tryd.underlying9 Tryd.underlying72 Tryd.underlying5
  have HP : Hid (putL (fldP ps) = 0 :: numsB ps) := Lib.hid (putL_fldP ps)
  have HPL : Hid ((0 :: numsB ps).length = 1 + 8 * n) := Lib.hid (by simp [numsB_len, hl]; omega)
  have HF := Lib.hid (fldP_fields bp)
  have HK := Lib.hid (fldP_ok bp)
  have HC := Lib.hid (chL_len s)
  have HL := Lib.hid hl
  have HI : Hid (∀ (A1 A2 : Option Addr) (c1 c2 : Nat), joinL [(A1, c1, chL s), (A2, c2, 0 :: numsB ps)] = derI s ps) := Lib.hid (fun A1 A2 c1 c2 => by simp [joinL, derI])
  have HIL : Hid ((derI s ps).length = s.size + 1 + 8 * n) := Lib.hid (by rw [derI_len, hl])
  have bI := derI_bytes s ps
  have own0 : ∀ w : World, (w.alloc (.cells #[.int .i64 1, .int .u64 0] 69)).ownsRow w.heap.size 69 2 (.slice (some ⟨w.heap.size, 0, none⟩) 1 1) 1 (flat (fldP (ps.take 0))) := fun w =>
    ⟨rfl, .inr ⟨w.heap.size, 1, #[.int .i64 1, .int .u64 0], rfl, Nat.le_refl _, heap_alloc_new w _, Nat.le_refl _, by unfold maxLen; omega, rfl, rfl⟩⟩
  clear hl
  go_enter Tryd.func42, Tryd.ntmps42
  go_wp2_with fail
  go_loopw [7, 14] (fun v i wr => ∃ (j : Nat), j ≤ n ∧ i = .int .i64 j ∧ wr.ownsRow w.heap.size 69 2 v (1 + j) (flat (fldP (ps.take j))) ∧ Below w.heap.size w wr) (fun _ i _ => n - (intOf i).toNat)
  case atStart => exact ⟨0, by omega, rfl, own0 w, (Below.refl _ _).alloc (Nat.le_refl _) _⟩
  case round =>
    obtain ⟨j, hj, rfl, hown, hbel⟩ := hrel
    by_cases c1 : j < n
    · obtain ⟨b, off, rfl, hb, hc⟩ := (hr.below hbel).at_ (i := j) (by rw [HL.out]; exact c1)
      have f1 := hc j (by rw [HL.out]; exact c1)
      clear hc
      have bx := words_get bp j
      have HS := Lib.hid (fldP_snoc ps j (by rw [HL.out]; exact c1))
      generalize ps.getD j 0 = p at *
      go_wp2_with (at_builtin; refine wpList_append_flds rfl _ _ 70 rfl w.heap.size 69 i0 _ 16 Tryd.underlying70 hi hz0 hz1 hz2 rfl _ (1 + j) _ rfl (hown.alloc _) _ _ 1 1 [(8, p)] rfl rfl (by exact flds1 wr 8 p 69) ?c2 ?c3 ?c4 ?_; (case c2 => unfold maxLen; omega); (case c3 => omega); (case c4 => have := hbel.size; simp; omega); intro v1 w1 o1 b1)
      go_roundw
      case rel => exact ⟨j + 1, by omega, by go_num, by rw [HS.out, flat_append]; exact o1, (hbel.alloc hbel.size _).trans b1⟩
      case measure => simp [intOf]; omega
    · obtain rfl : j = n := by omega
      rw [List.take_of_length_le (by rw [HL.out]; omega)] at hown
      obtain ⟨A1, c1', rfl⟩ := own_form hown
      obtain ⟨fl, fn⟩ := FldsAt.own hown
      have cb := conv_below wr 5 s
      have ci := conv_ints wr 5 s
      have hcb := thenB hbel cb
      go_wp2_with (first
        | (go_at_call 46; refine (mput_any A1 _ c1' (fldP ps) _ HF.out fn (by omega) HK.out ((fl.below cb).more cb.size)).mono ?_; rw [HP.out]; intro e w2 m2; obtain ⟨A2, c2, rfl, k2, x2, j2, b2⟩ := readm m2 HPL.out; clear m2; have h2 := thenB hcb b2)
        | (go_at_call 45; refine (join_any _ 2 2 [(some ⟨wr.heap.size, 0, none⟩, grownCap wr s.size 0 5, chL s), (A2, c2, 0 :: numsB ps)] _ rfl (by omega) (by exact parts_lit w2 [(some ⟨wr.heap.size, 0, none⟩, grownCap wr s.size 0 5, chL s), (A2, c2, 0 :: numsB ps)] _ _ _ rfl (by have := HPL.out; have := HC.out; simp only [List.map_cons, List.map_nil, *]) (by
            intro p hp
            simp only [List.mem_cons, List.not_mem_nil, or_false] at hp
            rcases hp with rfl | rfl
            · exact later ci b2
            · exact j2)) (by rw [HI.out, HIL.out]; omega)).mono ?_; rw [HI.out]; intro e w3 m3; obtain ⟨A3, c3, rfl, k3, x3, j3, b3⟩ := readm m3 HIL.out; clear m3; have h3 := thenB h2 (alloc1 _ _ b3))
        | (go_at_call 44; refine (tag_any k A3 _ c3 (derI s ps) _ hk HIL.out bI k3 x3 (by omega) j3).mono ?_; rintro e w4 ⟨rfl, b4⟩))
      go_ret
      exact ⟨rfl, thenB h3 b4⟩
theorem rderive_any (k : Int) (s : ByteArray) (A : Option Addr) (n c : Nat) (ps : List Int) (w : World) (hk : 0 ≤ k ∧ k ≤ 18446744073709551615) (hs : s.size ≤ 1048576) (hl : ps.length = n) (bp : Words ps) (hr : Ints .u64 w w.heap.size A ps) (hn : n ≤ 1048576) :
    Calls Tryd.prog 43 #[.int .u64 k, .string s, .slice A n c] w fun e w' => e = .returned (.int .u64 (tagZ k (derI s ps))) ∧ Below w.heap.size w w' := by
  obtain ⟨i0, hi, hz0, hz1, hz2⟩ := info_parts info_u8
  have hcv : ∀ w : World, (convert 9 72 (.string s)).run Tryd.prog w = .ok (.slice (some ⟨w.heap.size, 0, none⟩) s.size (grownCap w s.size 0 5)) (Lib.bytesWorld w 5 s) := fun w =>
    Lib.run_convert_string_bytes w 9 72 5 s Tryd.underlying9 Tryd.underlying72 Tryd.underlying5
  have HC := Lib.hid (chL_len s)
  have HL := Lib.hid hl
  have HI : Hid (chL s ++ [0] ++ numsB ps = derI s ps) := Lib.hid (by simp [derI])
  have bI := derI_bytes s ps
  have HIL : Hid ((derI s ps).length = s.size + 1 + 8 * n) := Lib.hid (by rw [derI_len, hl])
  have hlen : ∀ j, j ≤ n → (chL s ++ [0] ++ numsB (ps.take j)).length = s.size + 1 + 8 * j := fun j hj => by
    simp only [List.length_append, chL_len, numsB_len, List.length_take, hl, List.length_cons, List.length_nil]
    omega
  have HN := Lib.hid hlen
  have cb := conv_below w 5 s
  have cr := RowC.conv w 5 s (by unfold maxLen; omega)
  clear hl hlen
  go_enter Tryd.func43, Tryd.ntmps43
  go_wp2_with (at_builtin; refine wpList_append_rowc rfl _ _ 72 rfl w.heap.size 5 i0 _ Tryd.underlying72 hi hz0 hz1 hz2 rfl _ (chL s) rfl (cr.below ((Below.refl _ _).alloc (Nat.le_refl _) _)) _ _ 1 1 [0] rfl rfl (by omega) (lit1 .u8 _ [0] _ _ rfl) ?c3 ?c4 ?_; (case c3 => rw [HC.out]; omega); (case c4 => have := cb.size; simp; omega); intro v1 w1 o1 b1)
  have h1 : Below w.heap.size w w1 := (cb.alloc cb.size _).trans b1
  go_loopw [7, 8] (fun v i wr => ∃ j : Nat, j ≤ n ∧ i = .int .i64 j ∧ RowC wr w.heap.size v (chL s ++ [0] ++ numsB (ps.take j)) ∧ Below w.heap.size w wr) (fun _ i _ => n - (intOf i).toNat)
  case atStart => exact ⟨0, by omega, rfl, by simpa [numsB] using o1, h1⟩
  case round =>
    obtain ⟨j, hj, rfl, hrow, hbel⟩ := hrel
    by_cases c1 : j < n
    · obtain ⟨b, off, rfl, hb, hc⟩ := (hr.below hbel).at_ (i := j) (by rw [HL.out]; exact c1)
      have f1 := hc j (by rw [HL.out]; exact c1)
      clear hc
      have bx := words_get bp j
      have HS := Lib.hid (numsB_snoc ps j (by rw [HL.out]; exact c1))
      have hlj := HN.out j (by omega)
      generalize ps.getD j 0 = p at *
      have HP : Hid ((numL 8 p).length = 8) := Lib.hid (numL_len _ _)
      have HX : Hid (chL s ++ [0] ++ numsB (ps.take (j + 1)) = (chL s ++ [0] ++ numsB (ps.take j)) ++ numL 8 p) := Lib.hid (by rw [HS.out]; simp [List.append_assoc])
      generalize chL s ++ [0] ++ numsB (ps.take j) = Y at *
      go_wp2_with (first
        | (go_at_call 47; refine (rnum_any 8 p _ (by omega) bx).mono ?_; intro e w2 m2; obtain ⟨A2, c2, rfl, k2, x2, j2, b2⟩ := readm m2 HP.out; clear m2; have hrow2 := hrow.below b2; have h2 := thenB hbel b2)
        | (at_builtin; refine wpList_append_rowc rfl _ _ 72 rfl w.heap.size 5 i0 _ Tryd.underlying72 hi hz0 hz1 hz2 rfl _ Y rfl hrow2 w2.heap.size A2 8 c2 (numL 8 p) rfl HP.out (by omega) j2 ?c3 ?c4 ?_; (case c3 => omega); (case c4 => exact h2.size); intro v3 w3 o3 b3))
      go_roundw
      case rel => exact ⟨j + 1, by omega, by go_num, by rw [HX.out]; exact o3, h2.trans b3⟩
      case measure => simp [intOf]; omega
    · obtain rfl : j = n := by omega
      rw [List.take_of_length_le (by rw [HL.out]; omega), HI.out] at hrow
      obtain ⟨A1, c1', rfl⟩ := hrow.form
      obtain ⟨ri, rl, rn, rm⟩ := hrow.ints
      have hlb : (derI s ps).length ≤ 140737488351232 := by rw [HIL.out]; omega
      go_wp2_with (go_at_call 48; refine (rtag_any k A1 _ c1' (derI s ps) _ hk rl bI rn rm hlb ri).mono ?_; rintro e w4 ⟨rfl, b4⟩)
      go_ret
      exact ⟨rfl, thenB hbel b4⟩
end Go.Proofs.YtegmknmbgifmjaaDoor.Mac
