/- Joining, combining and laying of bytes: what the functions of the layer of bytes that the tags need, and of its specification, return: contracts over the program. Plain arithmetic for the block function: rotations, the round, the halves, eight rounds forth and back. No program is mentioned. -/
import Derived.Test.YtcbliliinmfnjaaDoorKM4
section
set_option linter.unusedVariables false
set_option linter.unusedSimpArgs false
namespace Go.Proofs.YtcbliliinmfnjaaDoor.Oct
open Go.RowKit Mem Base

/-- A part: where it begins, its capacity, its bytes. -/
def PartsAt (w : World) (B : Nat) (A : Option Addr) (ps : List (Option Addr × Nat × List Int)) : Prop :=
  ps = [] ∨ ∃ b off, A = some ⟨b, off, none⟩ ∧ b < B ∧ ∀ j p, ps[j]? = some p → w.cell? ⟨b, off + j, none⟩ = some (.slice p.1 p.2.2.length p.2.1) ∧ Ints .u8 w B p.1 p.2.2
theorem PartsAt.below {w w' : World} {B : Nat} {A : Option Addr} {ps : List (Option Addr × Nat × List Int)} (h : PartsAt w B A ps) (hb : Below B w w') : PartsAt w' B A ps := by
  rcases h with h | ⟨b, off, e, hlt, hc⟩
  · exact .inl h
  · exact .inr ⟨b, off, e, hlt, fun j p hj => ⟨(hb.cell (p := ⟨b, off + j, none⟩) hlt).trans (hc j p hj).1, (hc j p hj).2.below hb⟩⟩
/-- Parts that were just laid side by side. -/
theorem parts_lit (w : World) (ps : List (Option Addr × Nat × List Int)) (cs : Array Value) (e : TypeId) (g : Nat) (hg : g = w.heap.size) (h : cs = (ps.map fun p => Value.slice p.1 p.2.2.length p.2.1).toArray) (hi : ∀ p ∈ ps, Ints .u8 w w.heap.size p.1 p.2.2) :
    PartsAt (w.alloc (.cells cs e)) (w.alloc (.cells cs e)).heap.size (some ⟨g, 0, none⟩) ps := by
  subst hg
  refine .inr ⟨w.heap.size, 0, rfl, by simp, fun j p hj => ⟨?_, ?_⟩⟩
  · rw [World.cell?_alloc_at _ _ _ _ rfl, h]
    simp [List.getElem?_map, hj]
  · exact ((hi p (List.mem_of_getElem? hj)).alloc (Nat.le_refl _) _).more (by simp)
def joinL (ps : List (Option Addr × Nat × List Int)) : List Int := (ps.map fun p => p.2.2).flatten
theorem joinL_snoc (ps : List (Option Addr × Nat × List Int)) (k : Nat) (p : Option Addr × Nat × List Int) (h : ps[k]? = some p) : joinL (ps.take (k + 1)) = joinL (ps.take k) ++ p.2.2 := by
  have hk : k < ps.length := by
    rcases Nat.lt_or_ge k ps.length with g | g
    · exact g
    · rw [List.getElem?_eq_none g] at h; cases h
  rw [List.getElem?_eq_getElem hk] at h
  injection h with h
  unfold joinL
  rw [List.take_succ_eq_append_getElem hk, List.map_append, List.flatten_append, h]; simp
theorem joinL_take_le (ps : List (Option Addr × Nat × List Int)) (k : Nat) : (joinL (ps.take k)).length ≤ (joinL ps).length := by
  conv => rhs; rw [← List.take_append_drop k ps]
  unfold joinL
  rw [List.map_append, List.flatten_append, List.length_append]; omega
theorem join_any (A : Option Addr) (n c : Nat) (ps : List (Option Addr × Nat × List Int)) (w : World) (hp : ps.length = n) (hn : n ≤ 1048576) (hr : PartsAt w w.heap.size A ps) (ht : (joinL ps).length ≤ 140737488351232) :
    Calls Tryd.prog 81 #[.slice A n c] w fun e w' => Makes w w' e (joinL ps) := by
  obtain ⟨i0, hi, hz0, hz1, hz2⟩ := info_parts info_u8
  have Hp := Lib.hid hp
  clear hp
  go_enter Tryd.func81, Tryd.ntmps81
  go_wp2_with fail
  go_loopw [3, 8] (fun v i wr => ∃ k : Nat, k ≤ n ∧ i = .int .i64 k ∧ wr.ownsRow w.heap.size 5 1 v (joinL (ps.take k)).length ((joinL (ps.take k)).map (Value.int .u8)) ∧ Below w.heap.size w wr) (fun _ i _ => n - (intOf i).toNat)
  case atStart => exact ⟨0, by omega, rfl, World.ownsRow_nil _ _ _ _, Below.refl _ _⟩
  case round =>
    obtain ⟨k, hk, rfl, hown, hbel⟩ := hrel
    by_cases c1 : k < n
    · obtain ⟨p, hpk⟩ : ∃ p, ps[k]? = some p := ⟨ps[k]'(by rw [Hp.out]; omega), List.getElem?_eq_getElem _⟩
      rcases hr.below hbel with h | ⟨b, off, rfl, hlt, hc⟩
      · exfalso; rw [h] at hpk; simp at hpk
      obtain ⟨f1, f2⟩ := hc k p hpk
      clear hc
      have HJ := Lib.hid (joinL_snoc ps k p hpk)
      have hle := joinL_take_le ps (k + 1)
      rw [HJ.out, List.length_append] at hle
      obtain ⟨pa, pc, pz⟩ := p
      simp only at f1 f2 hle
      clear hpk
      go_wp2_with (at_builtin; refine wpList_append_ints rfl _ _ 25 rfl .u8 w.heap.size 5 i0 _ 1 Tryd.underlying25 hi hz0 hz1 hz2 rfl _ _ _ rfl hown w.heap.size pa pz.length pc pz rfl rfl ?c1 ?c2 ?c3 ?c4 ?_; (case c1 => exact f2); (case c2 => unfold maxLen; omega); (case c3 => omega); (case c4 => exact hbel.size); intro v2 w2 hown2 hb2 _)
      go_roundw
      case rel => exact ⟨k + 1, by omega, by go_num, by rw [HJ.out, List.length_append, List.map_append]; exact hown2, hbel.trans hb2⟩
      case measure => simp [intOf]; omega
    · have hkn : k = n := by omega
      rw [List.take_of_length_le (by rw [Hp.out]; omega)] at hown
      clear hkn
      go_wp2_with fail
      go_ret
      exact makes_of rfl rfl hown hbel
theorem valid_any (n : Int) (w : World) (hn : -9223372036854775808 ≤ n ∧ n ≤ 9223372036854775807) :
    Calls Tryd.prog 125 #[.int .i64 n] w fun e w' => e = .returned (.bool (decide (1 ≤ n ∧ n ≤ 8))) ∧ w = w' := by
  go_enter Tryd.func125, Tryd.ntmps125
  go_wp2
  all_goals
    go_ret
    refine ⟨Ser.ret_bool ?_, rfl⟩
    by_cases h1 : 1 ≤ n
    · by_cases h2 : n ≤ 8
      · simp [h1, h2] <;> omega
      · simp [h1, h2] <;> omega
    · simp [h1] <;> omega
theorem fits_any (v n : Int) (w : World) (hv : 0 ≤ v ∧ v ≤ 18446744073709551615) (hn : 1 ≤ n ∧ n ≤ 8) :
    Calls Tryd.prog 126 #[.int .u64 v, .int .i64 n] w fun e w' => e = .returned (.bool (decide (v < Ser.p2 (8 * n.toNat)))) ∧ w = w' := by
  go_enter Tryd.func126, Tryd.ntmps126
  have H := Lib.hid (fits_code v n hv.1 hn.1)
  go_wp2
  go_ret
  exact ⟨Ser.ret_bool H.out, rfl⟩
theorem mnumber_any (A : Option Addr) (n c : Nat) (xs : List Int) (w : World) (hx : xs.length = n) (bxs : Bytes xs) (hr : Ints .u8 w w.heap.size A xs) (hn : n ≤ 8) :
    Calls Tryd.prog 124 #[.slice A n c] w fun e w' => e = .returned (.int .u64 (valL xs)) ∧ w = w' := by
  have Hx := Lib.hid hx
  clear hx
  go_enter Tryd.func124, Tryd.ntmps124
  go_wp2_with fail
  go_loop [3, 8] (fun v i => ∃ k : Nat, k ≤ n ∧ i = .int .i64 k ∧ v = .int .u64 (valL (xs.take k))) (fun _ i => n - (intOf i).toNat)
  case atStart => exact ⟨0, by omega, rfl, rfl⟩
  case round =>
    obtain ⟨k, hk, rfl, rfl⟩ := hrel
    by_cases c1 : k < n
    · obtain ⟨b, off, rfl, hb, hc⟩ := hr.at_ (i := k) (by rw [Hx.out]; omega)
      have f1 := hc k (by rw [Hx.out]; omega)
      clear hc
      have bk := bytes_get bxs k
      obtain ⟨x, hxk⟩ : ∃ x, xs.getD k 0 = x := ⟨_, rfl⟩
      rw [hxk] at f1 bk
      have HXK := Lib.hid hxk
      clear hxk
      have HC : Hid (bits BinOp.or IntKind.u64 (valL (xs.take k)) (IntKind.u64.wrap (x * 2 ^ (8 * k))) = valL (xs.take (k + 1))) := by
        refine Lib.hid ?_
        rw [or_code (bytes_take bxs k) (by rw [List.length_take, Hx.out]; omega) (by omega) bk, val_step (by rw [Hx.out]; omega) HXK.out]
      go_wp2_with fail
      go_round
      case rel => exact ⟨k + 1, by omega, by go_num, by rw [HC.out]⟩
      case measure => simp [intOf]; omega
    · have hkn : k = n := by omega
      have HT : Hid (xs.take k = xs) := Lib.hid (List.take_of_length_le (by rw [Hx.out]; omega))
      clear hkn
      go_wp2_with fail
      go_ret
      exact ⟨Ser.ret_int (by rw [HT.out]), rfl⟩
theorem value_any (A : Option Addr) (n c : Nat) (xs : List Int) (w : World) (hx : xs.length = n) (bxs : Bytes xs) (hr : Ints .u8 w w.heap.size A xs) (hn : n ≤ 8) :
    Calls Tryd.prog 107 #[.slice A n c] w fun e w' => e = .returned (.int .u64 (valL xs)) ∧ w = w' := by
  have Hx := Lib.hid hx
  clear hx
  go_enter Tryd.func107, Tryd.ntmps107
  go_wp2_with fail
  go_loop [3, 4] (fun v i => (i = .int .i64 (-1) ∧ v = .int .u64 (valL xs)) ∨ ∃ k : Nat, k < n ∧ i = .int .i64 k ∧ v = .int .u64 (valL (xs.drop (k + 1)))) (fun _ i => (intOf i + 1).toNat)
  case atStart =>
    rcases n with _ | n
    · exact .inl ⟨rfl, by rw [List.eq_nil_of_length_eq_zero Hx.out]; rfl⟩
    · exact .inr ⟨n, by omega, by go_num, by rw [List.drop_of_length_le (by rw [Hx.out]; omega)]; rfl⟩
  case round =>
    rcases hrel with ⟨rfl, rfl⟩ | ⟨k, hk, rfl, rfl⟩
    · go_wp2_with fail
      go_ret
      exact ⟨rfl, rfl⟩
    · obtain ⟨b, off, rfl, hb, hc⟩ := hr.at_ (i := k) (by rw [Hx.out]; omega)
      have f1 := hc k (by rw [Hx.out]; omega)
      clear hc
      have bk := bytes_get bxs k
      obtain ⟨x, hxk⟩ : ∃ x, xs.getD k 0 = x := ⟨_, rfl⟩
      rw [hxk] at f1 bk
      have HD := Lib.hid (drop_val (by rw [Hx.out]; omega) hxk)
      clear hxk
      have b1 := drop_bd' bxs (by rw [Hx.out]; omega) (k + 1) (by omega)
      have b2 := (drop_bd bxs (by rw [Hx.out]; omega) (k + 1)).1
      go_wp2_with fail
      go_round
      case rel =>
        rcases k with _ | k
        · exact .inl ⟨rfl, by rw [show valL xs = valL (xs.drop 0) from rfl, HD.out] <;> go_num⟩
        · exact .inr ⟨k, by omega, by go_num, by rw [HD.out] <;> go_num⟩
      case measure => simp [intOf] <;> omega
/-- What a call makes of bytes, with an error. -/
def Gives (w w' : World) (e : Ending) (r : List Int × Int) : Prop :=
  ∃ A c, e = .returned (.tuple #[.slice A r.1.length c, .int .i64 r.2]) ∧ w'.ownsRow w.heap.size 5 1 (.slice A r.1.length c) r.1.length (r.1.map (Value.int .u8)) ∧ Below w.heap.size w w'
theorem gives_of {w w' : World} {e : Ending} {v : Value} {n : Nat} {x : Int} {r : List Int × Int} {zs : List Int} (hr : r = (zs, x)) (he : e = .returned (.tuple #[v, .int .i64 x])) (hn : zs.length = n) (h : w'.ownsRow w.heap.size 5 1 v n (zs.map (Value.int .u8))) (hb : Below w.heap.size w w') : Gives w w' e r := by
  obtain ⟨A, c, hv⟩ := own_form h
  subst hn hr
  exact ⟨A, c, by rw [he, hv], by rw [← hv]; exact h, hb⟩
def Fields (fs : List (Int × Int)) : Prop := ∀ f ∈ fs, (-9223372036854775808 ≤ f.1 ∧ f.1 ≤ 9223372036854775807) ∧ 0 ≤ f.2 ∧ f.2 ≤ 18446744073709551615
def FldsAt (w : World) (B : Nat) (A : Option Addr) (fs : List (Int × Int)) : Prop :=
  fs = [] ∨ ∃ b off, A = some ⟨b, off, none⟩ ∧ b < B ∧ ∀ j f, fs[j]? = some f → w.cell? ⟨b, off + j * 2, none⟩ = some (.int .i64 f.1) ∧ w.cell? ⟨b, off + j * 2 + 1, none⟩ = some (.int .u64 f.2)
theorem FldsAt.below {w w' : World} {B : Nat} {A : Option Addr} {fs : List (Int × Int)} (h : FldsAt w B A fs) (hb : Below B w w') : FldsAt w' B A fs := by
  rcases h with h | ⟨b, off, e, hlt, hc⟩
  · exact .inl h
  · exact .inr ⟨b, off, e, hlt, fun j p hj => ⟨(hb.cell (p := ⟨b, off + j * 2, none⟩) hlt).trans (hc j p hj).1, (hb.cell (p := ⟨b, off + j * 2 + 1, none⟩) hlt).trans (hc j p hj).2⟩⟩
theorem FldsAt.more {w : World} {B B' : Nat} {A : Option Addr} {fs : List (Int × Int)} (h : FldsAt w B A fs) (hB : B ≤ B') : FldsAt w B' A fs := by
  rcases h with h | ⟨b, off, e, hlt, hc⟩
  · exact .inl h
  · exact .inr ⟨b, off, e, by omega, hc⟩
/-- A field that has bytes. -/
def okF (f : Int × Int) : Bool := decide (1 ≤ f.1 ∧ f.1 ≤ 8) && decide (f.2 < Ser.p2 (8 * f.1.toNat))
def putL : List (Int × Int) → List Int
  | [] => []
  | f :: r => numL f.1.toNat f.2 ++ putL r
def putR (fs : List (Int × Int)) : List Int × Int := if fs.all okF = true then (putL fs, 0) else ([], 5)
theorem putL_append (l r : List (Int × Int)) : putL (l ++ r) = putL l ++ putL r := by
  induction l with
  | nil => rfl
  | cons f l ih => simp [putL, ih]
theorem putL_snoc {fs : List (Int × Int)} {k : Nat} {f : Int × Int} (h : fs[k]? = some f) : putL (fs.take (k + 1)) = putL (fs.take k) ++ numL f.1.toNat f.2 := by
  have hk : k < fs.length := by
    rcases Nat.lt_or_ge k fs.length with g | g
    · exact g
    · rw [List.getElem?_eq_none g] at h; cases h
  rw [List.getElem?_eq_getElem hk] at h
  injection h with h
  rw [List.take_succ_eq_append_getElem hk, putL_append, h]; simp [putL]
theorem allF_snoc {fs : List (Int × Int)} {k : Nat} {f : Int × Int} (h : fs[k]? = some f) (ha : (fs.take k).all okF = true) (hf : okF f = true) : (fs.take (k + 1)).all okF = true := by
  have hk : k < fs.length := by
    rcases Nat.lt_or_ge k fs.length with g | g
    · exact g
    · rw [List.getElem?_eq_none g] at h; cases h
  rw [List.getElem?_eq_getElem hk] at h
  injection h with h
  rw [List.take_succ_eq_append_getElem hk, List.all_append, ha, h]; simp [hf]
theorem putR_bad {fs : List (Int × Int)} {k : Nat} {f : Int × Int} (h : fs[k]? = some f) (hf : okF f = false) : putR fs = ([], 5) := by
  unfold putR
  rw [if_neg]
  intro ha
  rw [List.all_eq_true] at ha
  have := ha f (List.mem_of_getElem? h)
  rw [hf] at this; cases this
theorem putR_good {fs : List (Int × Int)} (h : fs.all okF = true) : putR fs = (putL fs, 0) := by unfold putR; rw [if_pos h]
theorem putL_len_le (fs : List (Int × Int)) (k : Nat) (h : (fs.take k).all okF = true) : (putL (fs.take k)).length ≤ 8 * k := by
  have : ∀ l : List (Int × Int), l.all okF = true → (putL l).length ≤ 8 * l.length := by
    intro l hl
    induction l with
    | nil => simp [putL]
    | cons f l ih =>
      simp only [List.all_cons, Bool.and_eq_true] at hl
      have h8 : f.1.toNat ≤ 8 := by
        have := hl.1; unfold okF at this; simp at this; omega
      have := ih hl.2
      simp [putL, numL_len]; omega
  have h1 := this _ h
  have h2 : (fs.take k).length ≤ k := List.length_take_le _ _
  omega
theorem rnum_any (n v : Int) (w : World) (hn : 1 ≤ n ∧ n ≤ 8) (hv : 0 ≤ v ∧ v ≤ 18446744073709551615) :
    Calls Tryd.prog 83 #[.int .i64 n, .int .u64 v] w fun e w' => Makes w w' e (numL n.toNat v) := by
  obtain ⟨i0, hi, hz0, hz1, hz2⟩ := info_parts info_u8
  obtain ⟨m, rfl⟩ := Int.eq_ofNat_of_zero_le (show 0 ≤ n by omega)
  rw [Int.toNat_natCast]
  go_enter Tryd.func83, Tryd.ntmps83
  go_wp2_with fail
  go_loopw [1, 5, 6] (fun x b i wr => ∃ k : Nat, k ≤ m ∧ i = .int .i64 k ∧ x = .int .u64 (v / Ser.p2 (8 * k)) ∧ wr.ownsRow w.heap.size 5 1 b k ((numL k v).map (Value.int .u8)) ∧ Below w.heap.size w wr) (fun _ _ i _ => m - (intOf i).toNat)
  case atStart => exact ⟨0, by omega, rfl, by rw [show Ser.p2 (8 * 0) = 1 by decide]; go_num, World.ownsRow_made _ _ 0 (Nat.le_refl _) (by unfold maxLen; omega) rfl, (Below.refl _ _).alloc (Nat.le_refl _) _⟩
  case round =>
    obtain ⟨k, hk, rfl, rfl, hown, hbel⟩ := hrel
    by_cases c1 : k < m
    · have hp := Ser.p2_pos (8 * k)
      have hx0 : 0 ≤ v / Ser.p2 (8 * k) := Int.ediv_nonneg hv.1 (by omega)
      have hx1 : v / Ser.p2 (8 * k) ≤ v := Int.ediv_le_self _ hv.1
      have HS := Lib.hid (numL_snoc k v)
      have HD : Hid (v / Ser.p2 (8 * k) / 256 = v / Ser.p2 (8 * (k + 1))) := Lib.hid (by rw [p2_8, Int.ediv_ediv_of_nonneg (by omega), Int.mul_comm])
      generalize v / Ser.p2 (8 * k) = x at *
      go_wp2_with (at_builtin; refine wpList_append_ints rfl _ _ 25 rfl .u8 w.heap.size 5 i0 _ 1 Tryd.underlying25 hi hz0 hz1 hz2 rfl _ k _ rfl (hown.alloc _) (wr.heap.size + 1) _ 1 1 [x % 256] rfl rfl ?c1 ?c2 ?c3 ?c4 ?_; (case c1 => exact Ints.lit _ _ _ _ _ rfl); (case c2 => unfold maxLen; omega); (case c3 => omega); (case c4 => have := hbel.size; simp; omega); intro v2 w2 hown2 hb2 _)
      go_roundw
      case rel => exact ⟨k + 1, by omega, by go_num, by rw [HD.out], by rw [HS.out, List.map_append]; exact hown2, (hbel.alloc hbel.size _).trans hb2⟩
      case measure => simp [intOf]; omega
    · have hkm : k = m := by omega
      subst hkm
      go_wp2_with fail
      go_ret
      exact makes_of rfl (numL_len _ _) hown hbel
theorem put_any (A : Option Addr) (n c : Nat) (fs : List (Int × Int)) (w : World) (hf : Fields fs) (hl : fs.length = n) (hn : n ≤ 8796093022208) (hr : FldsAt w w.heap.size A fs) :
    Calls Tryd.prog 105 #[.slice A n c] w fun e w' => Gives w w' e (putR fs) := by
  obtain ⟨i0, hi, hz0, hz1, hz2⟩ := info_parts info_u8
  have HL := Lib.hid hl
  clear hl
  go_enter Tryd.func105, Tryd.ntmps105
  go_wp2_with fail
  go_loopw [4, 10] (fun v i wr => ∃ k : Nat, k ≤ n ∧ i = .int .i64 k ∧ wr.ownsRow w.heap.size 5 1 v (putL (fs.take k)).length ((putL (fs.take k)).map (Value.int .u8)) ∧ (fs.take k).all okF = true ∧ Below w.heap.size w wr) (fun _ i _ => n - (intOf i).toNat)
  case atStart => exact ⟨0, by omega, rfl, World.ownsRow_nil _ _ _ _, rfl, Below.refl _ _⟩
  case round =>
    obtain ⟨k, hk, rfl, hown, hok, hbel⟩ := hrel
    by_cases c1 : k < n
    · obtain ⟨f, hfk⟩ : ∃ f, fs[k]? = some f := ⟨fs[k]'(by rw [HL.out]; omega), List.getElem?_eq_getElem _⟩
      rcases hr.below hbel with h | ⟨b, off, rfl, hlt, hc⟩
      · exfalso; rw [h] at hfk; simp at hfk
      obtain ⟨f1, f2⟩ := hc k f hfk
      clear hc
      have hff := hf f (List.mem_of_getElem? hfk)
      obtain ⟨s, v⟩ := f
      simp only at f1 f2 hff
      have HFK := Lib.hid hfk
      have HOK := Lib.hid hok
      clear hfk hok
      cases hv : decide (1 ≤ s ∧ s ≤ 8)
      · have HR : Hid (putR fs = ([], 5)) := Lib.hid (putR_bad HFK.out (by unfold okF; rw [hv]; rfl))
        go_wp2_with (go_at_call 125; refine (valid_any _ _ (by omega)).mono ?_; rintro e w' ⟨rfl, rfl⟩)
        go_ret2
        exact gives_of HR.out rfl rfl (World.ownsRow_nil _ _ _ _) (hbel.alloc hbel.size _)
      · have hs : 1 ≤ s ∧ s ≤ 8 := of_decide_eq_true hv
        cases hw : decide (v < Ser.p2 (8 * s.toNat))
        · have HR : Hid (putR fs = ([], 5)) := Lib.hid (putR_bad HFK.out (by unfold okF; rw [hw, Bool.and_false]))
          go_wp2_with (first | (go_at_call 125; refine (valid_any _ _ (by omega)).mono ?_; rintro e w' ⟨rfl, rfl⟩) | (go_at_call 126; refine (fits_any _ _ _ (by omega) (by omega)).mono ?_; rintro e w' ⟨rfl, rfl⟩))
          go_ret2
          exact gives_of HR.out rfl rfl (World.ownsRow_nil _ _ _ _) (hbel.alloc hbel.size _)
        · obtain ⟨m, rfl⟩ := Int.eq_ofNat_of_zero_le (show 0 ≤ s by omega)
          have HW : Hid (okF ((m : Int), v) = true) := Lib.hid (by unfold okF; rw [hv, hw]; rfl)
          rw [Int.toNat_natCast] at hw
          obtain ⟨wo, hwo⟩ : ∃ wo : World, wo = wr := ⟨_, rfl⟩
          subst hwo
          have HTL := putL_len_le fs k HOK.out
          go_wp2_with (first | (go_at_call 125; refine (valid_any _ _ (by omega)).mono ?_; rintro e w' ⟨rfl, rfl⟩) | (go_at_call 126; refine (fits_any _ _ _ (by omega) (by omega)).mono ?_; rintro e w' ⟨rfl, rfl⟩))
          go_loopw [4, 28] (fun b i wi => ∃ j : Nat, j ≤ m ∧ i = .int .i64 j ∧ wi.ownsRow w.heap.size 5 1 b ((putL (fs.take k)).length + j) ((putL (fs.take k) ++ numL j v).map (Value.int .u8)) ∧ Below w.heap.size w wi ∧ Blk wi wo.heap.size 125 #[.int .i64 m, .int .u64 v]) (fun _ i _ => m - (intOf i).toNat)
          case atStart => exact ⟨0, by omega, rfl, by simpa [numL] using hown.alloc _, hbel.alloc hbel.size _, Blk.fresh _ _ _⟩
          case round =>
            obtain ⟨j, hj, rfl, hown', hbel', hblk⟩ := hrel
            have g1 : wr.cell? ⟨wo.heap.size, 0, none⟩ = some (.int .i64 m) := hblk.cell 0
            have g2 : wr.cell? ⟨wo.heap.size, 1, none⟩ = some (.int .u64 v) := hblk.cell 1
            by_cases c2 : j < m
            · have HS : Hid ((putL (fs.take k) ++ numL (j + 1) v).map (Value.int .u8) = (putL (fs.take k) ++ numL j v).map (Value.int .u8) ++ [.int .u8 (v / 2 ^ (8 * j) % 256)]) := by
                refine Lib.hid ?_
                rw [numL_snoc, ← List.append_assoc, List.map_append (l₁ := putL (fs.take k) ++ numL j v)]
                rfl
              go_wp2_with (at_builtin; refine wpList_append_ints rfl _ _ 25 rfl .u8 w.heap.size 5 i0 _ 1 Tryd.underlying25 hi hz0 hz1 hz2 rfl _ _ _ rfl (hown'.alloc _) (wr.heap.size + 1) _ 1 1 [v / 2 ^ (8 * j) % 256] rfl rfl ?c1 ?c2 ?c3 ?c4 ?_; (case c1 => exact Ints.lit _ _ _ _ _ rfl); (case c2 => unfold maxLen; omega); (case c3 => omega); (case c4 => have := hbel'.size; simp; omega); intro v2 w2 hown2 hb2 hg2)
              go_roundw
              case rel => exact ⟨j + 1, by omega, by go_num, by rw [HS.out]; exact hown2, (hbel'.alloc hbel'.size _).trans hb2, (hblk.alloc _).grown (hown'.alloc _) (by decide) hg2⟩
              case measure => simp [intOf]; omega
            · have hjm : j = m := by omega
              subst hjm
              have hsn := putL_snoc HFK.out
              rw [Int.toNat_natCast] at hsn
              rw [← hsn] at hown'
              have HLN : Hid ((putL (fs.take k)).length + j = (putL (fs.take (k + 1))).length) := Lib.hid (by rw [hsn, List.length_append, numL_len])
              rw [HLN.out] at hown'
              have HAF := Lib.hid (allF_snoc HFK.out HOK.out HW.out)
              clear hsn
              go_wp2_with fail
              go_roundw
              case rel => exact ⟨k + 1, by omega, by go_num, hown', HAF.out, hbel'⟩
              case measure => simp [intOf]; omega
    · have hkn : k = n := by omega
      have HT : Hid (fs.take k = fs) := Lib.hid (List.take_of_length_le (by rw [HL.out]; omega))
      rw [HT.out] at hown hok
      have HR := Lib.hid (putR_good hok)
      clear hok hkn
      go_wp2_with fail
      go_ret2
      exact gives_of HR.out rfl rfl hown hbel
end Go.Proofs.YtcbliliinmfnjaaDoor.Oct

end
section
set_option linter.unusedVariables false
namespace Go.Proofs.YtcbliliinmfnjaaDoor.Blk
open Mem Oct

/-- A number of some bits rotated left. -/
def rotZ (b : Nat) (x : Int) (s : Nat) : Int := ((x.toNat * 2 ^ s % 2 ^ b ||| x.toNat / 2 ^ (b - s) : Nat) : Int)
theorem rotZ_bd (b : Nat) (x : Int) (s : Nat) (hx : x.toNat < 2 ^ b) : 0 ≤ rotZ b x s ∧ (rotZ b x s).toNat < 2 ^ b := by
  have h1 : x.toNat * 2 ^ s % 2 ^ b < 2 ^ b := Nat.mod_lt _ (Nat.two_pow_pos b)
  have h2 : x.toNat / 2 ^ (b - s) < 2 ^ b := Nat.lt_of_le_of_lt (Nat.div_le_self _ _) hx
  have h3 : x.toNat * 2 ^ s % 2 ^ b ||| x.toNat / 2 ^ (b - s) < 2 ^ b := Nat.or_lt_two_pow h1 h2
  unfold rotZ
  exact ⟨Int.natCast_nonneg _, by rw [Int.toNat_natCast]; exact h3⟩
theorem rot64_bd (x : Int) (s : Nat) (hx : 0 ≤ x ∧ x ≤ 18446744073709551615) : 0 ≤ rotZ 64 x s ∧ rotZ 64 x s ≤ 18446744073709551615 := by
  have := rotZ_bd 64 x s (by omega)
  omega
theorem rot32_bd (x : Int) (s : Nat) (hx : 0 ≤ x ∧ x ≤ 4294967295) : 0 ≤ rotZ 32 x s ∧ rotZ 32 x s ≤ 4294967295 := by
  have := rotZ_bd 32 x s (by omega)
  omega
theorem rot64_zero (x : Int) (hx : 0 ≤ x ∧ x ≤ 18446744073709551615) : rotZ 64 x 0 = x := by
  unfold rotZ
  have h1 : x.toNat * 2 ^ 0 % 2 ^ 64 = x.toNat := by rw [Nat.pow_zero, Nat.mul_one]; exact Nat.mod_eq_of_lt (by omega)
  have h2 : x.toNat / 2 ^ (64 - 0) = 0 := Nat.div_eq_of_lt (by omega)
  rw [h1, h2, Nat.or_zero]; omega
theorem bx32 (x y : Int) (hx : 0 ≤ x ∧ x ≤ 4294967295) (hy : 0 ≤ y ∧ y ≤ 4294967295) : 0 ≤ bx x y ∧ bx x y ≤ 4294967295 := by
  have : x.toNat ^^^ y.toNat < 2 ^ 32 := Nat.xor_lt_two_pow (by omega) (by omega)
  unfold bx; omega
theorem bx64 (x y : Int) (hx : 0 ≤ x ∧ x ≤ 18446744073709551615) (hy : 0 ≤ y ∧ y ≤ 18446744073709551615) : 0 ≤ bx x y ∧ bx x y ≤ 18446744073709551615 := by
  have : x.toNat ^^^ y.toNat < 2 ^ 64 := Nat.xor_lt_two_pow (by omega) (by omega)
  unfold bx; omega
theorem bx32_code (x y : Int) (hx : 0 ≤ x ∧ x ≤ 4294967295) (hy : 0 ≤ y ∧ y ≤ 4294967295) : bits BinOp.xor IntKind.u32 x y = bx x y := u32_xor x y hx.1 (by omega) hy.1 (by omega)
theorem bx64_code (x y : Int) (hx : 0 ≤ x ∧ x ≤ 18446744073709551615) (hy : 0 ≤ y ∧ y ≤ 18446744073709551615) : bits BinOp.xor IntKind.u64 x y = bx x y := u64_xor x y hx.1 (by omega) hy.1 (by omega)

/-- By how much the key is rotated in a round. -/
def trn (i : Int) : Nat := (11 * i % 64).toNat
theorem trn_bd (i : Int) : trn i < 64 := by unfold trn; omega
/-- The low half of the rotated key. -/
def lowK (k i : Int) : Int := rotZ 64 k (trn i) % 4294967296
theorem lowK_bd (k i : Int) : 0 ≤ lowK k i ∧ lowK k i ≤ 4294967295 := by unfold lowK; omega
/-- What is rotated by seven. -/
def sumK (k i h : Int) : Int := (h + lowK k i) % 4294967296
theorem sumK_bd (k i h : Int) : 0 ≤ sumK k i h ∧ sumK k i h ≤ 4294967295 := by unfold sumK; omega
/-- The round. -/
def rnd (k i h : Int) : Int := bx (rotZ 32 (sumK k i h) 7 * 2654435761 % 4294967296) (rotZ 32 (lowK k i) 16)
theorem rnd_bd (k i h : Int) : 0 ≤ rnd k i h ∧ rnd k i h ≤ 4294967295 := by
  have h1 := rot32_bd (lowK k i) 16 (lowK_bd k i)
  exact bx32 _ _ (by omega) h1
/-- The halves. -/
def hiH (x : Int) : Int := x / 4294967296
def loH (x : Int) : Int := x % 4294967296
theorem hiH_bd (x : Int) (hx : 0 ≤ x ∧ x ≤ 18446744073709551615) : 0 ≤ hiH x ∧ hiH x ≤ 4294967295 := by unfold hiH; omega
theorem loH_bd (x : Int) : 0 ≤ loH x ∧ loH x ≤ 4294967295 := by unfold loH; omega
/-- The number of two halves. -/
def whl (p : Int × Int) : Int := p.1 * 4294967296 + p.2
def hlv (x : Int) : Int × Int := (hiH x, loH x)
/-- Two halves of 32 bits. -/
def Half (p : Int × Int) : Prop := (0 ≤ p.1 ∧ p.1 ≤ 4294967295) ∧ 0 ≤ p.2 ∧ p.2 ≤ 4294967295
theorem half_hlv (x : Int) (hx : 0 ≤ x ∧ x ≤ 18446744073709551615) : Half (hlv x) := ⟨hiH_bd x hx, loH_bd x⟩
theorem whl_bd {p : Int × Int} (h : Half p) : 0 ≤ whl p ∧ whl p ≤ 18446744073709551615 := by
  obtain ⟨h1, h2⟩ := h
  unfold whl; omega
/-- A round forth, and back. -/
def fw (k i : Int) (p : Int × Int) : Int × Int := (p.2, bx p.1 (rnd k i p.2))
theorem fw_half (k i : Int) {p : Int × Int} (h : Half p) : Half (fw k i p) := ⟨h.2, bx32 _ _ h.1 (rnd_bd _ _ _)⟩
/-- Some rounds forth, from round 0 on; some rounds back, from round 7 on. -/
def fws (k : Int) : Nat → Int × Int → Int × Int
  | 0, p => p
  | n + 1, p => fw k n (fws k n p)
theorem fws_half (k : Int) (n : Nat) {p : Int × Int} (h : Half p) : Half (fws k n p) := by
  induction n with
  | zero => exact h
  | succ n ih => exact fw_half _ _ ih
/-- The image, and the number whose image it is. -/
def mixZ (k x : Int) : Int := whl (fws k 8 (hlv x))
theorem mixZ_bd (k x : Int) (hx : 0 ≤ x ∧ x ≤ 18446744073709551615) : 0 ≤ mixZ k x ∧ mixZ k x ≤ 18446744073709551615 := whl_bd (fws_half k 8 (half_hlv x hx))
end Go.Proofs.YtcbliliinmfnjaaDoor.Blk

end
