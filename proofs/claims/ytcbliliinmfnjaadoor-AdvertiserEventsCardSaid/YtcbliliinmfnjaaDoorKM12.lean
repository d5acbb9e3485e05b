/- Keys that are derived, by the program and by the specification: contracts over the program. Making an address of a number: contracts over the program. Two numbers laid into a box. Addresses that are made with a key: what the functions and their specification return: contracts over the program. The address of a period, the current address: what the functions and their specification return: contracts over the program. Whether a key resolves an address: what the function and its specification return: contracts over the program. -/
import Derived.Test.YtcbliliinmfnjaaDoorKM11
import Derived.Test.YtcbliliinmfnjaaDoorKM6
import Derived.Test.YtcbliliinmfnjaaDoorKAdqRefAll
import Derived.Deep.RegionWith
section
set_option linter.unusedVariables false
set_option linter.unusedSimpArgs false
namespace Go.Proofs.YtcbliliinmfnjaaDoor.Mac
open Go.RowKit Mem Oct Blk Base

/-- The bytes of numbers, eight for each. -/
def numsB : List Int → List Int
  | [] => []
  | p :: r => numL 8 p ++ numsB r
theorem numsB_append (l r : List Int) : numsB (l ++ r) = numsB l ++ numsB r := by
  induction l with
  | nil => rfl
  | cons p l ih => simp [numsB, ih]
theorem numsB_snoc (ps : List Int) (j : Nat) (h : j < ps.length) : numsB (ps.take (j + 1)) = numsB (ps.take j) ++ numL 8 (ps.getD j 0) := by
  rw [take_snoc ps 0 j h, numsB_append]; simp [numsB]
theorem numsB_len (ps : List Int) : (numsB ps).length = 8 * ps.length := by
  induction ps with
  | nil => rfl
  | cons p r ih => simp [numsB, numL_len, ih]; omega
theorem numsB_bytes (ps : List Int) : Bytes (numsB ps) := by
  induction ps with
  | nil => intro z hz; cases hz
  | cons p r ih => exact bytes_append (numL_bytes _ _) ih
/-- What a derived key is the tag of. -/
def derI (s : ByteArray) (ps : List Int) : List Int := chL s ++ (0 :: numsB ps)
theorem derI_len (s : ByteArray) (ps : List Int) : (derI s ps).length = s.size + 1 + 8 * ps.length := by unfold derI; simp [chL_len, numsB_len]; omega
theorem derI_bytes (s : ByteArray) (ps : List Int) : Bytes (derI s ps) := by
  refine bytes_append (chL_bytes s) ?_
  intro z hz
  simp only [List.mem_cons] at hz
  rcases hz with rfl | hz
  · omega
  · exact numsB_bytes ps z hz
/-- The fields of numbers. -/
def fldP (ps : List Int) : List (Int × Int) := (1, 0) :: ps.map fun p => (8, p)
theorem fldP_snoc (ps : List Int) (j : Nat) (h : j < ps.length) : fldP (ps.take (j + 1)) = fldP (ps.take j) ++ [(8, ps.getD j 0)] := by
  rw [take_snoc ps 0 j h]; simp [fldP]
theorem putL_fldP (ps : List Int) : putL (fldP ps) = 0 :: numsB ps := by
  have h : putL (ps.map fun p => ((8 : Int), p)) = numsB ps := by
    induction ps with
    | nil => rfl
    | cons p r ih => simp [putL, numsB, ih]
  simp [fldP, putL, h, numL]
theorem flat_append (l r : List (Int × Int)) : flat (l ++ r) = flat l ++ flat r := by
  induction l with
  | nil => rfl
  | cons f l ih => simp [flat, ih]
/-- Integers of 64 bits without a sign. -/
def Words (ps : List Int) : Prop := ∀ p ∈ ps, 0 ≤ p ∧ p ≤ 18446744073709551615
theorem words_get {l : List Int} (h : Words l) (k : Nat) : 0 ≤ l.getD k 0 ∧ l.getD k 0 ≤ 18446744073709551615 := by
  by_cases hk : k < l.length
  · simp only [List.getD, List.getElem?_eq_getElem hk]
    exact h _ (List.getElem_mem hk)
  · simp [List.getD, List.getElem?_eq_none (Nat.le_of_not_lt hk)]
theorem fldP_fields {ps : List Int} (h : Words ps) : Fields (fldP ps) := by
  intro f hf
  simp only [fldP, List.mem_cons, List.mem_map] at hf
  rcases hf with rfl | ⟨p, hp, rfl⟩
  · exact ⟨by simp, by simp⟩
  · exact ⟨by simp, h p hp⟩
theorem fldP_ok {ps : List Int} (h : Words ps) : (fldP ps).all okF = true := by
  rw [List.all_eq_true]
  intro f hf
  simp only [fldP, List.mem_cons, List.mem_map] at hf
  rcases hf with rfl | ⟨p, hp, rfl⟩
  · decide
  · exact okF8 p (h p hp)
theorem conv_below (w : World) (e : TypeId) (s : ByteArray) : Below w.heap.size w (Lib.bytesWorld w e s) :=
  ⟨rfl, rfl, rfl, by rw [Lib.bytesWorld_size]; omega, fun j hj => Lib.bytesWorld_at_old w e s j hj⟩
theorem conv_ints (w : World) (e : TypeId) (s : ByteArray) : Ints .u8 (Lib.bytesWorld w e s) (Lib.bytesWorld w e s).heap.size (some ⟨w.heap.size, 0, none⟩) (chL s) := by
  right
  refine ⟨w.heap.size, 0, rfl, by rw [Lib.bytesWorld_size]; omega, fun j hj => ?_⟩
  rw [chL_len] at hj
  rw [Nat.zero_add, Lib.bytesWorld_cell w e s j hj]
  have h' : j < s.data.toList.length := by simpa using hj
  simp only [chL, List.getD, List.getElem?_map, List.getElem?_eq_getElem h', Option.map_some, Option.getD_some]
theorem derive_any (k : Int) (s : ByteArray) (A : Option Addr) (n c : Nat) (ps : List Int) (w : World) (hk : 0 ≤ k ∧ k ≤ 18446744073709551615) (hs : s.size ≤ 1048576) (hl : ps.length = n) (bp : Words ps) (hr : Ints .u64 w w.heap.size A ps) (hn : n ≤ 1048576) :
    Calls Tryd.prog 49 #[.int .u64 k, .string s, .slice A n c] w fun e w' => e = .returned (.int .u64 (tagZ k (derI s ps))) ∧ Below w.heap.size w w' := by
  obtain ⟨i0, hi, hz0, hz1, hz2⟩ := info_parts info_fld
  have hcv : ∀ w : World, (convert 9 25 (.string s)).run Tryd.prog w = .ok (.slice (some ⟨w.heap.size, 0, none⟩) s.size (grownCap w s.size 0 5)) (Lib.bytesWorld w 5 s) := fun w =>
    Lib.run_convert_string_bytes w 9 25 5 s Tryd.underlying9 Tryd.underlying25 Tryd.underlying5
  have HP : Hid (putL (fldP ps) = 0 :: numsB ps) := Lib.hid (putL_fldP ps)
  have HPL : Hid ((0 :: numsB ps).length = 1 + 8 * n) := Lib.hid (by simp [numsB_len, hl]; omega)
  have HF := Lib.hid (fldP_fields bp)
  have HK := Lib.hid (fldP_ok bp)
  have HC := Lib.hid (chL_len s)
  have HL := Lib.hid hl
  have HI : Hid (∀ (A1 A2 : Option Addr) (c1 c2 : Nat), joinL [(A1, c1, chL s), (A2, c2, 0 :: numsB ps)] = derI s ps) := Lib.hid (fun A1 A2 c1 c2 => by simp [joinL, derI])
  have HIL : Hid ((derI s ps).length = s.size + 1 + 8 * n) := Lib.hid (by rw [derI_len, hl])
  have bI := derI_bytes s ps
  have own0 : ∀ w : World, (w.alloc (.cells #[.int .i64 1, .int .u64 0] 125)).ownsRow w.heap.size 125 2 (.slice (some ⟨w.heap.size, 0, none⟩) 1 1) 1 (flat (fldP (ps.take 0))) := fun w =>
    ⟨rfl, .inr ⟨w.heap.size, 1, #[.int .i64 1, .int .u64 0], rfl, Nat.le_refl _, heap_alloc_new w _, Nat.le_refl _, by unfold maxLen; omega, rfl, rfl⟩⟩
  clear hl
  go_enter Tryd.func49, Tryd.ntmps49
  go_wp2_with fail
  go_loopw [7, 14] (fun v i wr => ∃ (j : Nat), j ≤ n ∧ i = .int .i64 j ∧ wr.ownsRow w.heap.size 125 2 v (1 + j) (flat (fldP (ps.take j))) ∧ Below w.heap.size w wr) (fun _ i _ => n - (intOf i).toNat)
  case atStart => exact ⟨0, by omega, rfl, own0 w, (Below.refl _ _).alloc (Nat.le_refl _) _⟩
  case round =>
    obtain ⟨j, hj, rfl, hown, hbel⟩ := hrel
    by_cases c1 : j < n
    · obtain ⟨b, off, rfl, hb, hc⟩ := (hr.below hbel).at_ (i := j) (by rw [HL.out]; exact c1)
      have f1 := hc j (by rw [HL.out]; exact c1)
      clear hc
      have bx := words_get bp j
      have HS := Lib.hid (fldP_snoc ps j (by rw [HL.out]; exact c1))
      generalize ps.getD j 0 = p at *
      go_wp2_with (at_builtin; refine wpList_append_flds rfl _ _ 126 rfl w.heap.size 125 i0 _ 16 Tryd.underlying126 hi hz0 hz1 hz2 rfl _ (1 + j) _ rfl (hown.alloc _) _ _ 1 1 [(8, p)] rfl rfl (by exact flds1 wr 8 p 125) ?c2 ?c3 ?c4 ?_; (case c2 => unfold maxLen; omega); (case c3 => omega); (case c4 => have := hbel.size; simp; omega); intro v1 w1 o1 b1)
      go_roundw
      case rel => exact ⟨j + 1, by omega, by go_num, by rw [HS.out, flat_append]; exact o1, (hbel.alloc hbel.size _).trans b1⟩
      case measure => simp [intOf]; omega
    · obtain rfl : j = n := by omega
      rw [List.take_of_length_le (by rw [HL.out]; omega)] at hown
      obtain ⟨A1, c1', rfl⟩ := own_form hown
      obtain ⟨fl, fn⟩ := FldsAt.own hown
      have cb := conv_below wr 5 s
      have ci := conv_ints wr 5 s
      have hcb := thenB hbel cb
      go_wp2_with (first
        | (go_at_call 82; refine (mput_any A1 _ c1' (fldP ps) _ HF.out fn (by omega) HK.out ((fl.below cb).more cb.size)).mono ?_; rw [HP.out]; intro e w2 m2; obtain ⟨A2, c2, rfl, k2, x2, j2, b2⟩ := readm m2 HPL.out; clear m2; have h2 := thenB hcb b2)
        | (go_at_call 81; refine (join_any _ 2 2 [(some ⟨wr.heap.size, 0, none⟩, grownCap wr s.size 0 5, chL s), (A2, c2, 0 :: numsB ps)] _ rfl (by omega) (by exact parts_lit w2 [(some ⟨wr.heap.size, 0, none⟩, grownCap wr s.size 0 5, chL s), (A2, c2, 0 :: numsB ps)] _ _ _ rfl (by have := HPL.out; have := HC.out; simp only [List.map_cons, List.map_nil, *]) (by
            intro p hp
            simp only [List.mem_cons, List.not_mem_nil, or_false] at hp
            rcases hp with rfl | rfl
            · exact later ci b2
            · exact j2)) (by rw [HI.out, HIL.out]; omega)).mono ?_; rw [HI.out]; intro e w3 m3; obtain ⟨A3, c3, rfl, k3, x3, j3, b3⟩ := readm m3 HIL.out; clear m3; have h3 := thenB h2 (alloc1 _ _ b3))
        | (go_at_call 80; refine (tag_any k A3 _ c3 (derI s ps) _ hk HIL.out bI k3 x3 (by omega) j3).mono ?_; rintro e w4 ⟨rfl, b4⟩))
      go_ret
      exact ⟨rfl, thenB h3 b4⟩
theorem rderive_any (k : Int) (s : ByteArray) (A : Option Addr) (n c : Nat) (ps : List Int) (w : World) (hk : 0 ≤ k ∧ k ≤ 18446744073709551615) (hs : s.size ≤ 1048576) (hl : ps.length = n) (bp : Words ps) (hr : Ints .u64 w w.heap.size A ps) (hn : n ≤ 1048576) :
    Calls Tryd.prog 50 #[.int .u64 k, .string s, .slice A n c] w fun e w' => e = .returned (.int .u64 (tagZ k (derI s ps))) ∧ Below w.heap.size w w' := by
  obtain ⟨i0, hi, hz0, hz1, hz2⟩ := info_parts info_u8
  have hcv : ∀ w : World, (convert 9 25 (.string s)).run Tryd.prog w = .ok (.slice (some ⟨w.heap.size, 0, none⟩) s.size (grownCap w s.size 0 5)) (Lib.bytesWorld w 5 s) := fun w =>
    Lib.run_convert_string_bytes w 9 25 5 s Tryd.underlying9 Tryd.underlying25 Tryd.underlying5
  have HC := Lib.hid (chL_len s)
  have HL := Lib.hid hl
  have HI : Hid (chL s ++ [0] ++ numsB ps = derI s ps) := Lib.hid (by simp [derI])
  have bI := derI_bytes s ps
  have HIL : Hid ((derI s ps).length = s.size + 1 + 8 * n) := Lib.hid (by rw [derI_len, hl])
  have hlen : ∀ j, j ≤ n → (chL s ++ [0] ++ numsB (ps.take j)).length = s.size + 1 + 8 * j := fun j hj => by
    simp only [List.length_append, chL_len, numsB_len, List.length_take, hl, List.length_cons, List.length_nil]
    omega
  have HN := Lib.hid hlen
  have cb := conv_below w 5 s
  have cr := RowC.conv w 5 s (by unfold maxLen; omega)
  clear hl hlen
  go_enter Tryd.func50, Tryd.ntmps50
  go_wp2_with (at_builtin; refine wpList_append_rowc rfl _ _ 25 rfl w.heap.size 5 i0 _ Tryd.underlying25 hi hz0 hz1 hz2 rfl _ (chL s) rfl (cr.below ((Below.refl _ _).alloc (Nat.le_refl _) _)) _ _ 1 1 [0] rfl rfl (by omega) (lit1 .u8 _ [0] _ _ rfl) ?c3 ?c4 ?_; (case c3 => rw [HC.out]; omega); (case c4 => have := cb.size; simp; omega); intro v1 w1 o1 b1)
  have h1 : Below w.heap.size w w1 := (cb.alloc cb.size _).trans b1
  go_loopw [7, 8] (fun v i wr => ∃ j : Nat, j ≤ n ∧ i = .int .i64 j ∧ RowC wr w.heap.size v (chL s ++ [0] ++ numsB (ps.take j)) ∧ Below w.heap.size w wr) (fun _ i _ => n - (intOf i).toNat)
  case atStart => exact ⟨0, by omega, rfl, by simpa [numsB] using o1, h1⟩
  case round =>
    obtain ⟨j, hj, rfl, hrow, hbel⟩ := hrel
    by_cases c1 : j < n
    · obtain ⟨b, off, rfl, hb, hc⟩ := (hr.below hbel).at_ (i := j) (by rw [HL.out]; exact c1)
      have f1 := hc j (by rw [HL.out]; exact c1)
      clear hc
      have bx := words_get bp j
      have HS := Lib.hid (numsB_snoc ps j (by rw [HL.out]; exact c1))
      have hlj := HN.out j (by omega)
      generalize ps.getD j 0 = p at *
      have HP : Hid ((numL 8 p).length = 8) := Lib.hid (numL_len _ _)
      have HX : Hid (chL s ++ [0] ++ numsB (ps.take (j + 1)) = (chL s ++ [0] ++ numsB (ps.take j)) ++ numL 8 p) := Lib.hid (by rw [HS.out]; simp [List.append_assoc])
      generalize chL s ++ [0] ++ numsB (ps.take j) = Y at *
      go_wp2_with (first
        | (go_at_call 83; refine (rnum_any 8 p _ (by omega) bx).mono ?_; intro e w2 m2; obtain ⟨A2, c2, rfl, k2, x2, j2, b2⟩ := readm m2 HP.out; clear m2; have hrow2 := hrow.below b2; have h2 := thenB hbel b2)
        | (at_builtin; refine wpList_append_rowc rfl _ _ 25 rfl w.heap.size 5 i0 _ Tryd.underlying25 hi hz0 hz1 hz2 rfl _ Y rfl hrow2 w2.heap.size A2 8 c2 (numL 8 p) rfl HP.out (by omega) j2 ?c3 ?c4 ?_; (case c3 => omega); (case c4 => exact h2.size); intro v3 w3 o3 b3))
      go_roundw
      case rel => exact ⟨j + 1, by omega, by go_num, by rw [HX.out]; exact o3, h2.trans b3⟩
      case measure => simp [intOf]; omega
    · obtain rfl : j = n := by omega
      rw [List.take_of_length_le (by rw [HL.out]; omega), HI.out] at hrow
      obtain ⟨A1, c1', rfl⟩ := hrow.form
      obtain ⟨ri, rl, rn, rm⟩ := hrow.ints
      have hlb : (derI s ps).length ≤ 140737488351232 := by rw [HIL.out]; omega
      go_wp2_with (go_at_call 84; refine (rtag_any k A1 _ c1' (derI s ps) _ hk rl bI rn rm hlb ri).mono ?_; rintro e w4 ⟨rfl, b4⟩)
      go_ret
      exact ⟨rfl, thenB hbel b4⟩
end Go.Proofs.YtcbliliinmfnjaaDoor.Mac

end
section
set_option linter.unusedVariables false
set_option linter.unusedSimpArgs false
namespace Go.Proofs.YtcbliliinmfnjaaDoor.Adr
open Go.RowKit Mem Oct Base

end Go.Proofs.YtcbliliinmfnjaaDoor.Adr

end
section
set_option linter.unusedVariables false
set_option linter.unusedSimpArgs false
namespace Go.Proofs.YtcbliliinmfnjaaDoor.Adr
open Go.RowKit Mem Oct Base

end Go.Proofs.YtcbliliinmfnjaaDoor.Adr

end
section
set_option linter.unusedVariables false
set_option linter.unusedSimpArgs false
namespace Go.Proofs.YtcbliliinmfnjaaDoor.Prv
open Go.RowKit Mem Oct Blk Base Mac

def sRpa : ByteArray := ⟨#[114, 112, 97]⟩
def rpaT (irk n : Int) : Int := tagZ irk (derI sRpa [n])
def hshZ (irk n : Int) : Int := rpaT irk n % 16777216
theorem der_bd (k : Int) (s : ByteArray) (ps : List Int) (hs : s.size ≤ 1048576) (hp : ps.length ≤ 1048576) : 0 ≤ tagZ k (derI s ps) ∧ tagZ k (derI s ps) ≤ 18446744073709551615 :=
  tagZ_bd k (derI_bytes s ps) (by rw [derI_len]; omega)
theorem rpaT_bd (irk n : Int) : 0 ≤ rpaT irk n ∧ rpaT irk n ≤ 18446744073709551615 := der_bd _ _ _ (by decide) (by simp)
theorem words1 {a : Int} (h : 0 ≤ a ∧ a ≤ 18446744073709551615) : Words [a] := by intro p hp; simp at hp; subst hp; exact h
theorem hash_any (irk n : Int) (w : World) (hk : 0 ≤ irk ∧ irk ≤ 18446744073709551615) (hn : 0 ≤ n ∧ n ≤ 18446744073709551615) :
    Calls Tryd.prog 134 #[.int .u64 irk, .int .u64 n] w fun e w' => e = .returned (.int .u64 (hshZ irk n)) ∧ Below w.heap.size w w' := by
  have bk := rpaT_bd irk n
  have HD : Hid (∀ (w : World) (A : Option Addr), Ints .u64 w w.heap.size A [n] → Calls Tryd.prog 49 #[.int .u64 irk, .string sRpa, .slice A 1 1] w fun e w' => e = .returned (.int .u64 (rpaT irk n)) ∧ Below w.heap.size w w') :=
    Lib.hid fun w A hr => derive_any irk sRpa A 1 1 [n] w hk (by decide) rfl (words1 hn) hr (by decide)
  unfold hshZ
  generalize rpaT irk n = T at *
  have e1 : T.tmod 16777216 = T % 16777216 := Int.tmod_eq_emod_of_nonneg bk.1
  have e2 : IntKind.u64.wrap (T % 16777216) = T % 16777216 := by rw [IntKind.wrap_u64]; omega
  go_enter Tryd.func134, Tryd.ntmps134
  go_wp2_with (go_at_call 49; refine (HD.out _ _ (lit1 .u64 _ [n] _ _ rfl)).mono ?_; rintro e w1 ⟨rfl, b1⟩)
  go_ret
  exact ⟨rfl, alloc1 _ _ b1⟩
def okP (irk p : Int) : Prop := irk ≠ 0 ∧ 1 ≤ p ∧ p ≤ 4194302
end Go.Proofs.YtcbliliinmfnjaaDoor.Prv

end
section
set_option linter.unusedVariables false
set_option linter.unusedSimpArgs false
namespace Go.Proofs.YtcbliliinmfnjaaDoor.Prv
open Go.RowKit Mem Oct Blk Base Mac

end Go.Proofs.YtcbliliinmfnjaaDoor.Prv

end
section
set_option linter.unusedVariables false
set_option linter.unusedSimpArgs false
namespace Go.Proofs.YtcbliliinmfnjaaDoor.Prv
open Go.RowKit Mem Oct Blk Base Mac

def chk3 (b : Int) : Int := Adr.chk 3 b
/-- Whether a key resolves an address. -/
def rsvZ (irk k b : Int) : Bool := if irk = 0 ∨ k ≠ 3 ∨ Adr.chk 3 b ≠ 0 then false else (b % 16777216 == hshZ irk (b / 16777216 % 4194304))
theorem resolves_zero (k b : Int) (w : World) (hk : -9223372036854775808 ≤ k ∧ k ≤ 9223372036854775807) (hb : 0 ≤ b ∧ b ≤ 18446744073709551615) :
    Calls Tryd.prog 115 #[.int .u64 0, .agg #[.int .i64 k, .int .u64 b]] w fun e w' => e = .returned (.bool false) ∧ Below w.heap.size w w' := by
  have F := Adr.box_new w k b
  have A0 : Below w.heap.size w (w.alloc (.cells #[.int .i64 k, .int .u64 b] 24)) := (Below.refl _ _).alloc (Nat.le_refl _) _
  have c0 := F.c0
  have c1 := F.c1
  go_enter Tryd.func115, Tryd.ntmps115
  go_wp2_with fail
  go_ret
  exact ⟨rfl, A0⟩
theorem resolves_kind (irk k b : Int) (w : World) (h0 : ¬ irk = 0) (h3 : ¬ k = 3) (hi : 0 ≤ irk ∧ irk ≤ 18446744073709551615) (hk : -9223372036854775808 ≤ k ∧ k ≤ 9223372036854775807) (hb : 0 ≤ b ∧ b ≤ 18446744073709551615) :
    Calls Tryd.prog 115 #[.int .u64 irk, .agg #[.int .i64 k, .int .u64 b]] w fun e w' => e = .returned (.bool false) ∧ Below w.heap.size w w' := by
  have g0 : (irk == 0) = false := by simpa using h0
  have g3 : (k != 3) = true := by simpa using h3
  have F := Adr.box_new w k b
  have A0 : Below w.heap.size w (w.alloc (.cells #[.int .i64 k, .int .u64 b] 24)) := (Below.refl _ _).alloc (Nat.le_refl _) _
  have c0 := F.c0
  have c1 := F.c1
  go_enter Tryd.func115, Tryd.ntmps115
  go_wp2_with fail
  go_ret
  exact ⟨rfl, A0⟩
theorem resolves_bad (irk b : Int) (w : World) (h0 : ¬ irk = 0) (hc : ¬ chk3 b = 0) (hi : 0 ≤ irk ∧ irk ≤ 18446744073709551615) (hb : 0 ≤ b ∧ b ≤ 18446744073709551615) (hT : Adr.Tab w) :
    Calls Tryd.prog 115 #[.int .u64 irk, .agg #[.int .i64 3, .int .u64 b]] w fun e w' => e = .returned (.bool false) ∧ Below w.heap.size w w' := by
  have g0 : (irk == 0) = false := by simpa using h0
  have HC : Hid (∀ w, Adr.Tab w → Calls Tryd.prog 87 #[.agg #[.int .i64 3, .int .u64 b]] w fun e w' => e = .returned (.int .i64 (chk3 b)) ∧ Below w.heap.size w w') := Lib.hid fun w hT => Adr.check_any 3 b w (by decide) hb hT
  generalize chk3 b = C at *
  have gc : (C != 0) = true := by simpa using hc
  have F := Adr.box_new w 3 b
  have A0 : Below w.heap.size w (w.alloc (.cells #[.int .i64 3, .int .u64 b] 24)) := (Below.refl _ _).alloc (Nat.le_refl _) _
  have c0 := F.c0
  have c1 := F.c1
  have T0 := hT.below A0
  go_enter Tryd.func115, Tryd.ntmps115
  go_wp2_with fail
  refine (HC.out _ T0).mono ?_
  rintro e w1 ⟨rfl, b1⟩
  have B1 := thenB A0 b1
  go_wp2_with fail
  go_ret
  exact ⟨rfl, B1⟩
set_option maxHeartbeats 1000000 in
theorem resolves_good (irk b : Int) (w : World) (h0 : ¬ irk = 0) (hc : chk3 b = 0) (hi : 0 ≤ irk ∧ irk ≤ 18446744073709551615) (hb : 0 ≤ b ∧ b ≤ 18446744073709551615) (hT : Adr.Tab w) :
    Calls Tryd.prog 115 #[.int .u64 irk, .agg #[.int .i64 3, .int .u64 b]] w fun e w' => e = .returned (.bool (b % 16777216 == hshZ irk (b / 16777216 % 4194304))) ∧ Below w.heap.size w w' := by
  have g0 : (irk == 0) = false := by simpa using h0
  have HC : Hid (∀ w, Adr.Tab w → Calls Tryd.prog 87 #[.agg #[.int .i64 3, .int .u64 b]] w fun e w' => e = .returned (.int .i64 0) ∧ Below w.heap.size w w') := Lib.hid fun w hT => by
    have := Adr.check_any 3 b w (by decide) hb hT
    rwa [show Adr.chk 3 b = 0 from hc] at this
  have HH : Hid (∀ w, Calls Tryd.prog 134 #[.int .u64 irk, .int .u64 (b / 16777216 % 4194304)] w fun e w' => e = .returned (.int .u64 (hshZ irk (b / 16777216 % 4194304))) ∧ Below w.heap.size w w') := Lib.hid fun w => hash_any irk _ w hi (by omega)
  have e1 : b.tmod 16777216 = b % 16777216 := Int.tmod_eq_emod_of_nonneg hb.1
  have e2 : IntKind.u64.wrap (b.tdiv 16777216) = b / 16777216 := by rw [Int.tdiv_eq_ediv_of_nonneg hb.1, IntKind.wrap_u64]; omega
  have bq : 0 ≤ b / 16777216 := by omega
  generalize hshZ irk (b / 16777216 % 4194304) = X at *
  have e3 : (b / 16777216).tmod 4194304 = b / 16777216 % 4194304 := Int.tmod_eq_emod_of_nonneg bq
  generalize b % 16777216 = L at *
  generalize b / 16777216 % 4194304 = N at *
  generalize b / 16777216 = Q at *
  clear hc
  have F := Adr.box_new w 3 b
  have A0 : Below w.heap.size w (w.alloc (.cells #[.int .i64 3, .int .u64 b] 24)) := (Below.refl _ _).alloc (Nat.le_refl _) _
  have c0 := F.c0
  have c1 := F.c1
  have T0 := hT.below A0
  go_enter Tryd.func115, Tryd.ntmps115
  go_wp2_with fail
  refine (HC.out _ T0).mono ?_
  rintro e w1 ⟨rfl, b1⟩
  have B1 := thenB A0 b1
  have F1 := F.below b1
  go_wp2_with fail
  have s0 : w1.drew.cell? ⟨w.heap.size, 1, none⟩ = some (.int .u64 b) := F1.c1
  have B2 : Below w.heap.size w w1.drew := B1.drew
  go_region_held3 (fun w' => w'.cell? ⟨w.heap.size, 1, none⟩ = some (.int .u64 b)) (first | exact s0 | exact s1) (first
    | (go_at_call 134; refine (HH.out _).mono ?_; rintro e w2 ⟨rfl, b2⟩; have s1 := (b2.cell (p := ⟨w.heap.size, 1, none⟩) F1.lt).trans s0; have B3 := thenB B2 b2))
  all_goals go_wp2_with fail
  all_goals go_ret
  all_goals exact ⟨rfl, B3⟩
theorem resolves_any (irk k b : Int) (w : World) (hi : 0 ≤ irk ∧ irk ≤ 18446744073709551615) (hk : -9223372036854775808 ≤ k ∧ k ≤ 9223372036854775807) (hb : 0 ≤ b ∧ b ≤ 18446744073709551615) (hT : Adr.Tab w) :
    Calls Tryd.prog 115 #[.int .u64 irk, .agg #[.int .i64 k, .int .u64 b]] w fun e w' => e = .returned (.bool (rsvZ irk k b)) ∧ Below w.heap.size w w' := by
  by_cases h0 : irk = 0
  · subst h0
    rw [show rsvZ 0 k b = false by unfold rsvZ; rw [if_pos (.inl rfl)]]
    exact resolves_zero k b w hk hb
  · by_cases h3 : k = 3
    · subst h3
      by_cases hc : chk3 b = 0
      · rw [show rsvZ irk 3 b = (b % 16777216 == hshZ irk (b / 16777216 % 4194304)) by unfold rsvZ; rw [if_neg (by simp only [ne_eq, not_true_eq_false, false_or]; intro h; rcases h with h | h; exact h0 h; exact h hc)]]
        exact resolves_good irk b w h0 hc hi hb hT
      · rw [show rsvZ irk 3 b = false by unfold rsvZ; rw [if_pos (.inr (.inr hc))]]
        exact resolves_bad irk b w h0 hc hi hb hT
    · rw [show rsvZ irk k b = false by unfold rsvZ; rw [if_pos (.inr (.inl h3))]]
      exact resolves_kind irk k b w h0 h3 hi hk hb
end Go.Proofs.YtcbliliinmfnjaaDoor.Prv

end
