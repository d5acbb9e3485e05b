/- Fields to bytes: what the functions of the layer of bytes, and of its specification, return: contracts over the program. Fields to bytes in the specification: a contract over the program. Words for memory: a slice of elements of k cells each that reads as a list of values of any kind; append of such a slice onto a row of the call's own. No program is mentioned. The form of parameters: the layer's Encode and the document's. -/
import Derived.Test.YtcjlliilfecmnaaDoorKM4
import Derived.Test.YtcjlliilfecmnaaDoorKM1
import Derived.Laws.CopyRow
import Derived.Laws.OwnMore
import Derived.Test.YtcjlliilfecmnaaDoorKCnCheck
section
set_option linter.unusedVariables false
set_option linter.unusedSimpArgs false
namespace Go.Proofs.YtcjlliilfecmnaaDoor.Oct
open Go.RowKit Mem

def Fields (fs : List (Int × Int)) : Prop := ∀ f ∈ fs, (-9223372036854775808 ≤ f.1 ∧ f.1 ≤ 9223372036854775807) ∧ 0 ≤ f.2 ∧ f.2 ≤ 18446744073709551615
def FldsAt (w : World) (B : Nat) (A : Option Addr) (fs : List (Int × Int)) : Prop :=
  fs = [] ∨ ∃ b off, A = some ⟨b, off, none⟩ ∧ b < B ∧ ∀ j f, fs[j]? = some f → w.cell? ⟨b, off + j * 2, none⟩ = some (.int .i64 f.1) ∧ w.cell? ⟨b, off + j * 2 + 1, none⟩ = some (.int .u64 f.2)
theorem FldsAt.below {w w' : World} {B : Nat} {A : Option Addr} {fs : List (Int × Int)} (h : FldsAt w B A fs) (hb : Below B w w') : FldsAt w' B A fs := by
  rcases h with h | ⟨b, off, e, hlt, hc⟩
  · exact .inl h
  · exact .inr ⟨b, off, e, hlt, fun j p hj => ⟨(hb.cell (p := ⟨b, off + j * 2, none⟩) hlt).trans (hc j p hj).1, (hb.cell (p := ⟨b, off + j * 2 + 1, none⟩) hlt).trans (hc j p hj).2⟩⟩
theorem FldsAt.more {w : World} {B B' : Nat} {A : Option Addr} {fs : List (Int × Int)} (h : FldsAt w B A fs) (hB : B ≤ B') : FldsAt w B' A fs := by
  rcases h with h | ⟨b, off, e, hlt, hc⟩
  · exact .inl h
  · exact .inr ⟨b, off, e, by omega, hc⟩
/-- A field that has bytes. -/
def okF (f : Int × Int) : Bool := decide (1 ≤ f.1 ∧ f.1 ≤ 8) && decide (f.2 < Ser.p2 (8 * f.1.toNat))
def putL : List (Int × Int) → List Int
  | [] => []
  | f :: r => numL f.1.toNat f.2 ++ putL r
def putR (fs : List (Int × Int)) : List Int × Int := if fs.all okF = true then (putL fs, 0) else ([], 5)
theorem putL_append (l r : List (Int × Int)) : putL (l ++ r) = putL l ++ putL r := by
  induction l with
  | nil => rfl
  | cons f l ih => simp [putL, ih]
theorem putL_snoc {fs : List (Int × Int)} {k : Nat} {f : Int × Int} (h : fs[k]? = some f) : putL (fs.take (k + 1)) = putL (fs.take k) ++ numL f.1.toNat f.2 := by
  have hk : k < fs.length := by
    rcases Nat.lt_or_ge k fs.length with g | g
    · exact g
    · rw [List.getElem?_eq_none g] at h; cases h
  rw [List.getElem?_eq_getElem hk] at h
  injection h with h
  rw [List.take_succ_eq_append_getElem hk, putL_append, h]; simp [putL]
theorem allF_snoc {fs : List (Int × Int)} {k : Nat} {f : Int × Int} (h : fs[k]? = some f) (ha : (fs.take k).all okF = true) (hf : okF f = true) : (fs.take (k + 1)).all okF = true := by
  have hk : k < fs.length := by
    rcases Nat.lt_or_ge k fs.length with g | g
    · exact g
    · rw [List.getElem?_eq_none g] at h; cases h
  rw [List.getElem?_eq_getElem hk] at h
  injection h with h
  rw [List.take_succ_eq_append_getElem hk, List.all_append, ha, h]; simp [hf]
theorem putR_bad {fs : List (Int × Int)} {k : Nat} {f : Int × Int} (h : fs[k]? = some f) (hf : okF f = false) : putR fs = ([], 5) := by
  unfold putR
  rw [if_neg]
  intro ha
  rw [List.all_eq_true] at ha
  have := ha f (List.mem_of_getElem? h)
  rw [hf] at this; cases this
theorem putR_good {fs : List (Int × Int)} (h : fs.all okF = true) : putR fs = (putL fs, 0) := by unfold putR; rw [if_pos h]
theorem putL_len_le (fs : List (Int × Int)) (k : Nat) (h : (fs.take k).all okF = true) : (putL (fs.take k)).length ≤ 8 * k := by
  have : ∀ l : List (Int × Int), l.all okF = true → (putL l).length ≤ 8 * l.length := by
    intro l hl
    induction l with
    | nil => simp [putL]
    | cons f l ih =>
      simp only [List.all_cons, Bool.and_eq_true] at hl
      have h8 : f.1.toNat ≤ 8 := by
        have := hl.1; unfold okF at this; simp at this; omega
      have := ih hl.2
      simp [putL, numL_len]; omega
  have h1 := this _ h
  have h2 : (fs.take k).length ≤ k := List.length_take_le _ _
  omega
theorem rnum_any (n v : Int) (w : World) (hn : 1 ≤ n ∧ n ≤ 8) (hv : 0 ≤ v ∧ v ≤ 18446744073709551615) :
    Calls Tryd.prog 55 #[.int .i64 n, .int .u64 v] w fun e w' => Makes w w' e (numL n.toNat v) := by
  obtain ⟨i0, hi, hz0, hz1, hz2⟩ := info_parts info_u8
  obtain ⟨m, rfl⟩ := Int.eq_ofNat_of_zero_le (show 0 ≤ n by omega)
  rw [Int.toNat_natCast]
  go_enter Tryd.func55, Tryd.ntmps55
  go_wp2_with fail
  go_loopw [1, 5, 6] (fun x b i wr => ∃ k : Nat, k ≤ m ∧ i = .int .i64 k ∧ x = .int .u64 (v / Ser.p2 (8 * k)) ∧ wr.ownsRow w.heap.size 5 1 b k ((numL k v).map (Value.int .u8)) ∧ Below w.heap.size w wr) (fun _ _ i _ => m - (intOf i).toNat)
  case atStart => exact ⟨0, by omega, rfl, by rw [show Ser.p2 (8 * 0) = 1 by decide]; go_num, World.ownsRow_made _ _ 0 (Nat.le_refl _) (by unfold maxLen; omega) rfl, (Below.refl _ _).alloc (Nat.le_refl _) _⟩
  case round =>
    obtain ⟨k, hk, rfl, rfl, hown, hbel⟩ := hrel
    by_cases c1 : k < m
    · have hp := Ser.p2_pos (8 * k)
      have hx0 : 0 ≤ v / Ser.p2 (8 * k) := Int.ediv_nonneg hv.1 (by omega)
      have hx1 : v / Ser.p2 (8 * k) ≤ v := Int.ediv_le_self _ hv.1
      have HS := Lib.hid (numL_snoc k v)
      have HD : Hid (v / Ser.p2 (8 * k) / 256 = v / Ser.p2 (8 * (k + 1))) := Lib.hid (by rw [p2_8, Int.ediv_ediv_of_nonneg (by omega), Int.mul_comm])
      generalize v / Ser.p2 (8 * k) = x at *
      go_wp2_with (at_builtin; refine wpList_append_ints rfl _ _ 25 rfl .u8 w.heap.size 5 i0 _ 1 Tryd.underlying25 hi hz0 hz1 hz2 rfl _ k _ rfl (hown.alloc _) (wr.heap.size + 1) _ 1 1 [x % 256] rfl rfl ?c1 ?c2 ?c3 ?c4 ?_; (case c1 => exact Ints.lit _ _ _ _ _ rfl); (case c2 => unfold maxLen; omega); (case c3 => omega); (case c4 => have := hbel.size; simp; omega); intro v2 w2 hown2 hb2 _)
      go_roundw
      case rel => exact ⟨k + 1, by omega, by go_num, by rw [HD.out], by rw [HS.out, List.map_append]; exact hown2, (hbel.alloc hbel.size _).trans hb2⟩
      case measure => simp [intOf]; omega
    · have hkm : k = m := by omega
      subst hkm
      go_wp2_with fail
      go_ret
      exact makes_of rfl (numL_len _ _) hown hbel
theorem put_any (A : Option Addr) (n c : Nat) (fs : List (Int × Int)) (w : World) (hf : Fields fs) (hl : fs.length = n) (hn : n ≤ 8796093022208) (hr : FldsAt w w.heap.size A fs) :
    Calls Tryd.prog 45 #[.slice A n c] w fun e w' => Gives w w' e (putR fs) := by
  obtain ⟨i0, hi, hz0, hz1, hz2⟩ := info_parts info_u8
  have HL := Lib.hid hl
  clear hl
  go_enter Tryd.func45, Tryd.ntmps45
  go_wp2_with fail
  go_loopw [4, 10] (fun v i wr => ∃ k : Nat, k ≤ n ∧ i = .int .i64 k ∧ wr.ownsRow w.heap.size 5 1 v (putL (fs.take k)).length ((putL (fs.take k)).map (Value.int .u8)) ∧ (fs.take k).all okF = true ∧ Below w.heap.size w wr) (fun _ i _ => n - (intOf i).toNat)
  case atStart => exact ⟨0, by omega, rfl, World.ownsRow_nil _ _ _ _, rfl, Below.refl _ _⟩
  case round =>
    obtain ⟨k, hk, rfl, hown, hok, hbel⟩ := hrel
    by_cases c1 : k < n
    · obtain ⟨f, hfk⟩ : ∃ f, fs[k]? = some f := ⟨fs[k]'(by rw [HL.out]; omega), List.getElem?_eq_getElem _⟩
      rcases hr.below hbel with h | ⟨b, off, rfl, hlt, hc⟩
      · exfalso; rw [h] at hfk; simp at hfk
      obtain ⟨f1, f2⟩ := hc k f hfk
      clear hc
      have hff := hf f (List.mem_of_getElem? hfk)
      obtain ⟨s, v⟩ := f
      simp only at f1 f2 hff
      have HFK := Lib.hid hfk
      have HOK := Lib.hid hok
      clear hfk hok
      cases hv : decide (1 ≤ s ∧ s ≤ 8)
      · have HR : Hid (putR fs = ([], 5)) := Lib.hid (putR_bad HFK.out (by unfold okF; rw [hv]; rfl))
        go_wp2_with (go_at_call 62; refine (valid_any _ _ (by omega)).mono ?_; rintro e w' ⟨rfl, rfl⟩)
        go_ret2
        exact gives_of HR.out rfl rfl (World.ownsRow_nil _ _ _ _) (hbel.alloc hbel.size _)
      · have hs : 1 ≤ s ∧ s ≤ 8 := of_decide_eq_true hv
        cases hw : decide (v < Ser.p2 (8 * s.toNat))
        · have HR : Hid (putR fs = ([], 5)) := Lib.hid (putR_bad HFK.out (by unfold okF; rw [hw, Bool.and_false]))
          go_wp2_with (first | (go_at_call 62; refine (valid_any _ _ (by omega)).mono ?_; rintro e w' ⟨rfl, rfl⟩) | (go_at_call 63; refine (fits_any _ _ _ (by omega) (by omega)).mono ?_; rintro e w' ⟨rfl, rfl⟩))
          go_ret2
          exact gives_of HR.out rfl rfl (World.ownsRow_nil _ _ _ _) (hbel.alloc hbel.size _)
        · obtain ⟨m, rfl⟩ := Int.eq_ofNat_of_zero_le (show 0 ≤ s by omega)
          have HW : Hid (okF ((m : Int), v) = true) := Lib.hid (by unfold okF; rw [hv, hw]; rfl)
          rw [Int.toNat_natCast] at hw
          obtain ⟨wo, hwo⟩ : ∃ wo : World, wo = wr := ⟨_, rfl⟩
          subst hwo
          have HTL := putL_len_le fs k HOK.out
          go_wp2_with (first | (go_at_call 62; refine (valid_any _ _ (by omega)).mono ?_; rintro e w' ⟨rfl, rfl⟩) | (go_at_call 63; refine (fits_any _ _ _ (by omega) (by omega)).mono ?_; rintro e w' ⟨rfl, rfl⟩))
          go_loopw [4, 28] (fun b i wi => ∃ j : Nat, j ≤ m ∧ i = .int .i64 j ∧ wi.ownsRow w.heap.size 5 1 b ((putL (fs.take k)).length + j) ((putL (fs.take k) ++ numL j v).map (Value.int .u8)) ∧ Below w.heap.size w wi ∧ Blk wi wo.heap.size 67 #[.int .i64 m, .int .u64 v]) (fun _ i _ => m - (intOf i).toNat)
          case atStart => exact ⟨0, by omega, rfl, by simpa [numL] using hown.alloc _, hbel.alloc hbel.size _, Blk.fresh _ _ _⟩
          case round =>
            obtain ⟨j, hj, rfl, hown', hbel', hblk⟩ := hrel
            have g1 : wr.cell? ⟨wo.heap.size, 0, none⟩ = some (.int .i64 m) := hblk.cell 0
            have g2 : wr.cell? ⟨wo.heap.size, 1, none⟩ = some (.int .u64 v) := hblk.cell 1
            by_cases c2 : j < m
            · have HS : Hid ((putL (fs.take k) ++ numL (j + 1) v).map (Value.int .u8) = (putL (fs.take k) ++ numL j v).map (Value.int .u8) ++ [.int .u8 (v / 2 ^ (8 * j) % 256)]) := by
                refine Lib.hid ?_
                rw [numL_snoc, ← List.append_assoc, List.map_append (l₁ := putL (fs.take k) ++ numL j v)]
                rfl
              go_wp2_with (at_builtin; refine wpList_append_ints rfl _ _ 25 rfl .u8 w.heap.size 5 i0 _ 1 Tryd.underlying25 hi hz0 hz1 hz2 rfl _ _ _ rfl (hown'.alloc _) (wr.heap.size + 1) _ 1 1 [v / 2 ^ (8 * j) % 256] rfl rfl ?c1 ?c2 ?c3 ?c4 ?_; (case c1 => exact Ints.lit _ _ _ _ _ rfl); (case c2 => unfold maxLen; omega); (case c3 => omega); (case c4 => have := hbel'.size; simp; omega); intro v2 w2 hown2 hb2 hg2)
              go_roundw
              case rel => exact ⟨j + 1, by omega, by go_num, by rw [HS.out]; exact hown2, (hbel'.alloc hbel'.size _).trans hb2, (hblk.alloc _).grown (hown'.alloc _) (by decide) hg2⟩
              case measure => simp [intOf]; omega
            · have hjm : j = m := by omega
              subst hjm
              have hsn := putL_snoc HFK.out
              rw [Int.toNat_natCast] at hsn
              rw [← hsn] at hown'
              have HLN : Hid ((putL (fs.take k)).length + j = (putL (fs.take (k + 1))).length) := Lib.hid (by rw [hsn, List.length_append, numL_len])
              rw [HLN.out] at hown'
              have HAF := Lib.hid (allF_snoc HFK.out HOK.out HW.out)
              clear hsn
              go_wp2_with fail
              go_roundw
              case rel => exact ⟨k + 1, by omega, by go_num, hown', HAF.out, hbel'⟩
              case measure => simp [intOf]; omega
    · have hkn : k = n := by omega
      have HT : Hid (fs.take k = fs) := Lib.hid (List.take_of_length_le (by rw [HL.out]; omega))
      rw [HT.out] at hown hok
      have HR := Lib.hid (putR_good hok)
      clear hok hkn
      go_wp2_with fail
      go_ret2
      exact gives_of HR.out rfl rfl hown hbel
end Go.Proofs.YtcjlliilfecmnaaDoor.Oct

end
section
set_option linter.unusedVariables false
set_option linter.unusedSimpArgs false
namespace Go.Proofs.YtcjlliilfecmnaaDoor.Oct
open Go.RowKit Mem

theorem low_fits {s v : Int} (hs : 1 ≤ s ∧ s ≤ 8) (hv : 0 ≤ v ∧ v ≤ 18446744073709551615) (h : v < Ser.p2 (8 * s.toNat)) : Ser.lowZ v (8 * s) = v := by
  have e : Ser.keep (8 * s) = 8 * s.toNat := by unfold Ser.keep; omega
  unfold Ser.lowZ; rw [e, Int.emod_eq_of_lt hv.1 h]
theorem low_not {s v : Int} (hs : 1 ≤ s ∧ s ≤ 8) (hv : 0 ≤ v ∧ v ≤ 18446744073709551615) (h : ¬ v < Ser.p2 (8 * s.toNat)) : Ser.lowZ v (8 * s) ≠ v := by
  have e : Ser.keep (8 * s) = 8 * s.toNat := by unfold Ser.keep; omega
  unfold Ser.lowZ; rw [e]
  have := Int.emod_lt_of_pos v (show 0 < Ser.p2 (8 * s.toNat) by have := Ser.p2_pos (8 * s.toNat); omega)
  omega
theorem below_draws {B : Nat} {w w' : World} (h : Below B w w') (n : Nat) : Below B w (w'.drewN n) := h.trans ⟨rfl, rfl, rfl, Nat.le_refl _, fun _ _ => rfl⟩
theorem rput_any (A : Option Addr) (n c : Nat) (fs : List (Int × Int)) (w : World) (hf : Fields fs) (hl : fs.length = n) (hn : n ≤ 8796093022208) (hr : FldsAt w w.heap.size A fs) :
    Calls Tryd.prog 56 #[.slice A n c] w fun e w' => Gives w w' e (putR fs) := by
  obtain ⟨i0, hi, hz0, hz1, hz2⟩ := info_parts info_u8
  have HL := Lib.hid hl
  clear hl
  go_enter Tryd.func56, Tryd.ntmps56
  go_wp2_with fail
  go_loopw [4, 5] (fun v i wr => ∃ k : Nat, k ≤ n ∧ i = .int .i64 k ∧ wr.ownsRow w.heap.size 5 1 v (putL (fs.take k)).length ((putL (fs.take k)).map (Value.int .u8)) ∧ (fs.take k).all okF = true ∧ Below w.heap.size w wr) (fun _ i _ => n - (intOf i).toNat)
  case atStart => exact ⟨0, by omega, rfl, World.ownsRow_made _ _ 0 (Nat.le_refl _) (by unfold maxLen; omega) rfl, rfl, (Below.refl _ _).alloc (Nat.le_refl _) _⟩
  case round =>
    obtain ⟨k, hk, rfl, hown, hok, hbel⟩ := hrel
    by_cases c1 : k < n
    · obtain ⟨f, hfk⟩ : ∃ f, fs[k]? = some f := ⟨fs[k]'(by rw [HL.out]; omega), List.getElem?_eq_getElem _⟩
      rcases hr.below hbel with h | ⟨b, off, rfl, hlt, hc⟩
      · exfalso; rw [h] at hfk; simp at hfk
      obtain ⟨f1, f2⟩ := hc k f hfk
      clear hc
      have hff := hf f (List.mem_of_getElem? hfk)
      obtain ⟨s, v⟩ := f
      simp only at f1 f2 hff
      have HFK := Lib.hid hfk
      have HOK := Lib.hid hok
      clear hfk hok
      have hbl : Blk (wr.alloc (.cells #[.int .i64 s, .int .u64 v] 67)) wr.heap.size 67 #[.int .i64 s, .int .u64 v] := Blk.fresh _ _ _
      have hb0 := hbel.alloc hbel.size (.cells #[.int .i64 s, .int .u64 v] 67)
      have ho0 := hown.alloc (.cells #[.int .i64 s, .int .u64 v] 67)
      have HTL := putL_len_le fs k HOK.out
      have q8 : (1 ≤ s ∧ s ≤ 8) → IntKind.i64.wrap (8 * s) = 8 * s := fun h => IntWalk.i64_in _ (by omega)
      have hl0 : (1 ≤ s ∧ s ≤ 8) → 0 ≤ 8 * s ∧ 8 * s ≤ 64 := fun h => by omega
      by_cases d1 : s < 1
      · have HR : Hid (putR fs = ([], 5)) := Lib.hid (putR_bad HFK.out (by unfold okF; simp; omega))
        clear q8 hl0
        go_wp2_with fail
        go_quiet (fail)
        go_wp2_with fail
        go_ret2
        exact gives_of HR.out rfl rfl (World.ownsRow_nil _ _ _ _) (below_draws hb0 _)
      · have d1' : decide (s < 1) = false := by simpa using d1
        by_cases d2 : 8 < s
        · have HR : Hid (putR fs = ([], 5)) := Lib.hid (putR_bad HFK.out (by unfold okF; simp; omega))
          clear q8 hl0
          go_wp2_with fail
          go_quiet (fail)
          go_wp2_with fail
          go_ret2
          exact gives_of HR.out rfl rfl (World.ownsRow_nil _ _ _ _) (below_draws hb0 _)
        · have d2' : decide (8 < s) = false := by simpa using d2
          have hs : 1 ≤ s ∧ s ≤ 8 := by omega
          have q8' := q8 hs
          clear q8 hl0
          by_cases d3 : v < Ser.p2 (8 * s.toNat)
          · have d4 : (Ser.lowZ v (8 * s) != v) = false := by rw [low_fits hs hff.2 d3]; simp
            have HO : Hid (okF (s, v) = true) := Lib.hid (by unfold okF; simp [hs, d3])
            clear d3
            go_wp2_with fail
            go_quiet ((go_at_call 73; exact Calls.quiet_of_same ((Ser.rlow_any _ _ _ (by omega) (by omega) (by omega)).mono fun _ _ ⟨a, b⟩ => ⟨a, b.symm⟩)))
            clear q8'
            have hb1 := below_draws hb0 nq
            have hbl1 : Blk ((wr.alloc (.cells #[.int .i64 s, .int .u64 v] 67)).drewN nq) wr.heap.size 67 #[.int .i64 s, .int .u64 v] := hbl
            have ho1 : ((wr.alloc (.cells #[.int .i64 s, .int .u64 v] 67)).drewN nq).ownsRow w.heap.size 5 1 u4 (putL (fs.take k)).length ((putL (fs.take k)).map (Value.int .u8)) := ho0
            generalize (wr.alloc (.cells #[.int .i64 s, .int .u64 v] 67)).drewN nq = wq at *
            have g1 : wq.cell? ⟨wr.heap.size, 0, none⟩ = some (.int .i64 s) := hbl1.cell 0
            have g2 : wq.cell? ⟨wr.heap.size, 1, none⟩ = some (.int .u64 v) := hbl1.cell 1
            clear hbl ho0 hb0
            have HSN := Lib.hid (putL_snoc HFK.out)
            have HAF := Lib.hid (allF_snoc HFK.out HOK.out HO.out)
            have hnl := numL_len s.toNat v
            have hsn : s.toNat ≤ 8 := by omega
            go_wp2_with (first | (go_at_call 55; refine (rnum_any _ _ _ (by omega) (by omega)).mono ?_; rintro e w3 ⟨A3, c3, rfl, hown3, hb3⟩) | (at_builtin; refine wpList_append_ints rfl _ _ 25 rfl .u8 w.heap.size 5 i0 _ 1 Tryd.underlying25 hi hz0 hz1 hz2 rfl _ _ _ rfl (own_below ho1 hb3) w3.heap.size A3 s.toNat c3 (numL s.toNat v) rfl hnl ?c1 ?c2 ?c3 ?c4 ?_; (case c1 => exact Ints.own hown3); (case c2 => unfold maxLen; omega); (case c3 => omega); (case c4 => exact Nat.le_trans hb1.size hb3.size); intro v4 w4 hown4 hb4 _))
            go_roundw
            case rel => exact ⟨k + 1, by omega, by go_num, by rw [HSN.out, List.length_append, List.map_append, numL_len]; exact hown4, HAF.out, (hb1.trans (hb3.mono hb1.size)).trans hb4⟩
            case measure => simp [intOf]; omega
          · have d4 : (Ser.lowZ v (8 * s) != v) = true := by have := low_not hs hff.2 d3; simpa using this
            have HR : Hid (putR fs = ([], 5)) := Lib.hid (putR_bad HFK.out (by unfold okF; simp; omega))
            clear d3
            go_wp2_with fail
            go_quiet ((go_at_call 73; exact Calls.quiet_of_same ((Ser.rlow_any _ _ _ (by omega) (by omega) (by omega)).mono fun _ _ ⟨a, b⟩ => ⟨a, b.symm⟩)))
            go_wp2_with fail
            go_ret2
            exact gives_of HR.out rfl rfl (World.ownsRow_nil _ _ _ _) (below_draws hb0 _)
    · have hkn : k = n := by omega
      have HT : Hid (fs.take k = fs) := Lib.hid (List.take_of_length_le (by rw [HL.out]; omega))
      rw [HT.out] at hown hok
      have HR := Lib.hid (putR_good hok)
      clear hok hkn
      go_wp2_with fail
      go_ret2
      exact gives_of HR.out rfl rfl hown hbel
end Go.Proofs.YtcjlliilfecmnaaDoor.Oct

end
section
set_option linter.unusedVariables false
set_option linter.unusedSimpArgs false
namespace Go.Proofs.YtcjlliilfecmnaaDoor.Rw
open Go.RowKit Mem

/-- The cells from A on are xs, in a block below B. -/
def CellsAt (w : World) (B : Nat) (A : Option Addr) (xs : List Value) : Prop :=
  xs = [] ∨ ∃ b off, A = some ⟨b, off, none⟩ ∧ b < B ∧ ∀ (q : Nat) u, xs[q]? = some u → w.cell? ⟨b, off + q, none⟩ = some u
section
variable {w w' : World} {B B' : Nat} {A : Option Addr} {xs : List Value}
theorem CellsAt.nil_ (A : Option Addr) : CellsAt w B A [] := .inl rfl
theorem CellsAt.below (h : CellsAt w B A xs) (hb : Below B w w') : CellsAt w' B A xs := by
  rcases h with h | ⟨b, off, e, hlt, hc⟩
  · exact .inl h
  · exact .inr ⟨b, off, e, hlt, fun q u hq => (hb.cell (p := ⟨b, off + q, none⟩) hlt).trans (hc q u hq)⟩
theorem CellsAt.more (h : CellsAt w B A xs) (hB : B ≤ B') : CellsAt w B' A xs := by
  rcases h with h | ⟨b, off, e, hlt, hc⟩
  · exact .inl h
  · exact .inr ⟨b, off, e, by omega, hc⟩
theorem CellsAt.alloc (h : CellsAt w B A xs) (hB : B ≤ w.heap.size) (o : Obj) : CellsAt (w.alloc o) B A xs := h.below ((Below.refl _ _).alloc hB o)
theorem CellsAt.later (h : CellsAt w w.heap.size A xs) (hb : Below w.heap.size w w') : CellsAt w' w'.heap.size A xs := (h.below hb).more hb.size
theorem CellsAt.kept (h : CellsAt w w.heap.size A xs) (o : Obj) : CellsAt (w.alloc o) (w.alloc o).heap.size A xs := (h.alloc (Nat.le_refl _) o).more (by simp)
theorem CellsAt.lit (w : World) (xs : List Value) (cs : Array Value) (e : TypeId) (h : cs = xs.toArray) : CellsAt (w.alloc (.cells cs e)) (w.alloc (.cells cs e)).heap.size (some ⟨w.heap.size, 0, none⟩) xs := by
  right
  refine ⟨w.heap.size, 0, rfl, by simp, fun q u hq => ?_⟩
  rw [World.cell?_alloc_at _ _ _ _ rfl, h]
  simpa using hq
theorem plain_add (b off i : Nat) : (⟨b, off, none⟩ : Addr).add i = ⟨b, off + i, none⟩ := by
  unfold Addr.add
  by_cases h0 : i = 0
  · simp [h0]
  · simp [h0]
theorem CellsAt.own {base n c k : Nat} {e : TypeId} (h : w.ownsRow base e k (.slice A n c) n xs) : CellsAt w w.heap.size A xs := by
  rcases h.2 with ⟨hv, hn⟩ | ⟨g, cap, cur, hv, hbg, hg, hnc, hcm, hcs, htake⟩
  · left
    have := h.1
    subst hn
    simp at this
    exact this
  · right
    injection hv with hA hn hc
    subst hA
    have hlt : g < w.heap.size := by
      rcases Nat.lt_or_ge g w.heap.size with hlt | hge
      · exact hlt
      · rw [Array.getElem?_eq_none hge] at hg; cases hg
    refine ⟨g, 0, rfl, hlt, fun q u hq => ?_⟩
    have := h.cells (g := g) rfl q _ hq
    rwa [plain_add] at this
end

/-! ### Lists laid flat -/
section
variable {α : Type} {enc : α → List Value} {k : Nat}
def Sized (enc : α → List Value) (k : Nat) : Prop := ∀ x, (enc x).length = k ∧ ∀ u ∈ enc x, u.oneCell' = true
theorem flat_len (hk : Sized enc k) (l : List α) : (l.flatMap enc).length = l.length * k := by
  induction l with
  | nil => simp
  | cons x r ih => rw [List.flatMap_cons, List.length_append, ih, (hk x).1, List.length_cons, Nat.add_mul, Nat.one_mul, Nat.add_comm]
theorem flat_one (hk : Sized enc k) (l : List α) : ∀ u ∈ l.flatMap enc, u.oneCell' = true := by
  intro u hu
  obtain ⟨x, _, hx⟩ := List.mem_flatMap.mp hu
  exact (hk x).2 u hx
theorem flat_get (hk : Sized enc k) (l : List α) (j i : Nat) (x : α) (v : Value) (hj : l[j]? = some x) (hi : (enc x)[i]? = some v) : (l.flatMap enc)[j * k + i]? = some v := by
  induction l generalizing j with
  | nil => simp at hj
  | cons y r ih =>
    rw [List.flatMap_cons]
    have hik : i < (enc x).length := by
      rcases Nat.lt_or_ge i (enc x).length with h | h
      · exact h
      · rw [List.getElem?_eq_none h] at hi; cases hi
    cases j with
    | zero =>
      simp at hj; subst hj
      rw [Nat.zero_mul, Nat.zero_add, List.getElem?_append_left hik]; exact hi
    | succ j =>
      have := ih j (by simpa using hj)
      rw [List.getElem?_append_right (by rw [(hk y).1, Nat.add_mul, Nat.one_mul]; omega), (hk y).1, Nat.add_mul, Nat.one_mul, show j * k + k + i - k = j * k + i by omega]
      exact this
theorem flat_append (l m : List α) : (l ++ m).flatMap enc = l.flatMap enc ++ m.flatMap enc := List.flatMap_append
end
/-- The slice that begins at A reads the list l. -/
def ListAt {α : Type} (enc : α → List Value) (w : World) (B : Nat) (A : Option Addr) (l : List α) : Prop := CellsAt w B A (l.flatMap enc)
theorem ListAt.open_ {α : Type} {enc : α → List Value} {k : Nat} {w : World} {B : Nat} {A : Option Addr} {l : List α} (h : ListAt enc w B A l) (hk : Sized enc k) (hk0 : 0 < k) (hl : 0 < l.length) :
    ∃ b off, A = some ⟨b, off, none⟩ ∧ b < B ∧ ∀ (j : Nat) x, l[j]? = some x → ∀ (i : Nat) v, (enc x)[i]? = some v → w.cell? ⟨b, off + j * k + i, none⟩ = some v := by
  rcases h with h | ⟨b, off, e, hlt, hc⟩
  · have := flat_len hk l
    rw [h] at this
    have h2 : 0 < l.length * k := Nat.mul_pos hl hk0
    simp only [List.length_nil] at this
    omega
  · exact ⟨b, off, e, hlt, fun j x hj i v hi => by rw [Nat.add_assoc]; exact hc _ _ (flat_get hk l j i x v hj hi)⟩

section
variable {P : Program} {w : World}
theorem run_append_rows (base : Nat) (t ty e : TypeId) (i : TypeInfo) (z : Value) (k bytes : Nat) (ht : P.underlying t = some (.slice e)) (hi : P.info? e = some i) (hz : i.zero = some z)
    (hsize : i.size = k) (hby : i.bytes = bytes) (hzs : z.cells.size = k) (hk0 : 0 < k)
    (v : Value) (n : Nat) (xs : List Value) (hown : w.ownsRow base e k v n xs)
    (B : Nat) (A : Option Addr) (m c : Nat) (ys : List Value) (hm : ys.length = m * k) (h1 : ∀ u ∈ ys, u.oneCell' = true) (hr : CellsAt w B A ys)
    (h63 : n + m ≤ maxLen) (hbytes : (n + m) * bytes ≤ 140737488355328) (hbase : base ≤ w.heap.size) :
    ∃ v' w', (Builtin.append_ #[t, t] ty #[v, .slice A m c]).run P w = .ok v' w' ∧ w'.ownsRow base e k v' (n + m) (xs ++ ys) ∧ w.grownBy w' v.ownBlock := by
  have go : ∀ ad : Addr, (∀ (j : Nat) u, ys[j]? = some u → w.cell? (ad.add j) = some u) →
      ∃ v' w', (Builtin.append_ #[t, t] ty #[v, .slice (some ad) m c]).run P w = .ok v' w' ∧ w'.ownsRow base e k v' (n + m) (xs ++ ys) ∧ w.grownBy w' v.ownBlock := fun ad hc => by
    obtain ⟨v', w', h2, h3, h4, _⟩ := run_append_own (P := P) w base t ty e i z k bytes ht hi hz hsize hby hzs hk0 v n xs hown ad m c ys hm hc h1 h63 hbytes hbase
    exact ⟨v', w', h2, h3, h4⟩
  rcases hr with hnil | ⟨b, off, rfl, _, hc⟩
  · subst hnil
    have hm0 : m = 0 := by
      rcases Nat.eq_zero_or_pos m with h | h
      · exact h
      · have := Nat.mul_pos h hk0; simp at hm; omega
    subst hm0
    cases A with
    | none =>
      refine ⟨v, w, ?_, by simpa using hown, World.grownBy.refl w _⟩
      rcases hown.2 with ⟨rfl, rfl⟩ | ⟨g, cap, cur, rfl, _, _, hnc, _⟩
      · simp [Builtin.append_, run_underlying ht, sizeOf, typeInfo, hi, Builtin.lenOf, Builtin.firstCells]
      · simp [Builtin.append_, run_underlying ht, sizeOf, typeInfo, hi, Builtin.lenOf, Builtin.firstCells, hnc, storeCells]
    | some ad => exact go ad (by simp)
  · refine go _ fun j u hu => ?_
    rw [plain_add]; exact hc j u hu
theorem wpList_append_rows {ops : Array Oper} {rest : List Oper} {o : Oper} {a : Act} {Q : Exit → Act → World → Prop} (hgd : o.guard = none) (s x : Operand) (t : TypeId)
    (ho : o.op = .call { callee := .builtin .append, args := #[s, x], argTypes := #[t, t] })
    (base : Nat) (e : TypeId) (i : TypeInfo) (z : Value) (k bytes : Nat) (ht : P.underlying t = some (.slice e)) (hi : P.info? e = some i) (hz : i.zero = some z)
    (hsize : i.size = k) (hby : i.bytes = bytes) (hzs : z.cells.size = k) (hk0 : 0 < k)
    (v : Value) (n : Nat) (xs : List Value) (hs : a.eval s = v) (hown : w.ownsRow base e k v n xs)
    (B : Nat) (A : Option Addr) (m c : Nat) (ys : List Value) (hx : a.eval x = .slice A m c) (hm : ys.length = m * k) (h1 : ∀ u ∈ ys, u.oneCell' = true) (hr : CellsAt w B A ys)
    (h63 : n + m ≤ maxLen) (hbytes : (n + m) * bytes ≤ 140737488355328) (hbase : base ≤ w.heap.size)
    (h : ∀ v' w', w'.ownsRow base e k v' (n + m) (xs ++ ys) → Below base w w' → w.grownBy w' v.ownBlock → wpList P ops Q rest (a.put o.dst v') w') : wpList P ops Q (o :: rest) a w := by
  refine wpList_plain hgd fun K hK => ?_
  obtain ⟨v', w', hrun, h2, h3⟩ := run_append_rows (P := P) base t o.type e i z k bytes ht hi hz hsize hby hzs hk0 v n xs hown B A m c ys hm h1 hr h63 hbytes hbase
  unfold Oper.wp execOp
  simp only [ho, resolve, invoke, builtin, Sem.run_bind, Sem.run_pure, Result.andThen_ok, List.map_toArray, List.map_cons, List.map_nil, hs, hx, hrun]
  exact hK _ _ (h v' w' h2 ((Below.refl base w).grown h3 hbase fun g hg => (hown.lt g hg).1) h3)
/-- The same as one step of a region that draws its order. -/
theorem step_append_rows {ops : Array Oper} {o : Oper} {a : Act} {K : Act → World → Prop} {Q : Exit → Act → World → Prop} {E : Prop} (hgd : o.guard = none) (s x : Operand) (t : TypeId)
    (ho : o.op = .call { callee := .builtin .append, args := #[s, x], argTypes := #[t, t] })
    (base : Nat) (e : TypeId) (i : TypeInfo) (z : Value) (k bytes : Nat) (ht : P.underlying t = some (.slice e)) (hi : P.info? e = some i) (hz : i.zero = some z)
    (hsize : i.size = k) (hby : i.bytes = bytes) (hzs : z.cells.size = k) (hk0 : 0 < k)
    (v : Value) (n : Nat) (xs : List Value) (hs : a.eval s = v) (hown : w.ownsRow base e k v n xs)
    (B : Nat) (A : Option Addr) (m c : Nat) (ys : List Value) (hx : a.eval x = .slice A m c) (hm : ys.length = m * k) (h1 : ∀ u ∈ ys, u.oneCell' = true) (hr : CellsAt w B A ys)
    (h63 : n + m ≤ maxLen) (hbytes : (n + m) * bytes ≤ 140737488355328) (hbase : base ≤ w.heap.size)
    (h : ∀ v' w', w'.ownsRow base e k v' (n + m) (xs ++ ys) → Below base w w' → w.grownBy w' v.ownBlock → K (a.put o.dst v') w') :
    if Region.wanted o (yielded ops a.tmps) = true then Oper.wp P o a w K Q else E := by
  have hw : Region.wanted o (yielded ops a.tmps) = true := by simp [Region.wanted, hgd]
  rw [if_pos hw]
  obtain ⟨v', w', hrun, h2, h3⟩ := run_append_rows (P := P) base t o.type e i z k bytes ht hi hz hsize hby hzs hk0 v n xs hown B A m c ys hm h1 hr h63 hbytes hbase
  unfold Oper.wp execOp
  simp only [ho, resolve, invoke, builtin, Sem.run_bind, Sem.run_pure, Result.andThen_ok, List.map_toArray, List.map_cons, List.map_nil, hs, hx, hrun]
  exact h v' w' h2 ((Below.refl base w).grown h3 hbase fun g hg => (hown.lt g hg).1) h3
end
end Go.Proofs.YtcjlliilfecmnaaDoor.Rw

end
section
set_option linter.unusedVariables false
set_option linter.unusedSimpArgs false
namespace Go.Proofs.YtcjlliilfecmnaaDoor.Cn
open Go.RowKit Mem Clk Rw

def szL : List Int := [4, 3, 1, 2, 2, 2, 2, 5, 1, 2, 1]
/-- The numbers of the form, and its fields. -/
def nmL (a b s o i l t : Int) (m : Nat) (h d g : Int) : List Int := [a, b, s, o, i, l, t, (m : Int), h, d, g]
def flL (a b s o i l t : Int) (m : Nat) (h d g : Int) : List (Int × Int) := [(4, a), (3, b), (1, s), (2, o), (2, i), (2, l), (2, t), (5, (m : Int)), (1, h), (2, d), (1, g)]
theorem zip_fl (a b s o i l t : Int) (m : Nat) (h d g : Int) : szL.zip (nmL a b s o i l t m h d g) = flL a b s o i l t m h d g := rfl
/-- What Encode returns. -/
def encR (a b s o i l t : Int) (m : Nat) (h d g : Int) : List Int × Int := if okP a b s o i l t m h d g = 0 then (Oct.putL (flL a b s o i l t m h d g), 0) else ([], okP a b s o i l t m h d g)
structure Good (a b s o i l t : Int) (m : Nat) (h d g : Int) : Prop where
  ha : 0 ≤ a ∧ a ≤ 4294967295
  hb : 0 ≤ b ∧ b < 16777216
  hu : Rng s o i l t
  hm : m < 137438953472
  hh : 5 ≤ h ∧ h ≤ 16
  hd : 0 ≤ d ∧ d ≤ 500
  hg : g = 1 ∨ g = 2
theorem okP_good {a b s o i l t : Int} {m : Nat} {h d g : Int} (ha : 0 ≤ a ∧ a ≤ 4294967295) (hb : 0 ≤ b) (k : okP a b s o i l t m h d g = 0) : Good a b s o i l t m h d g := by
  unfold okP at k
  split at k
  · cases k
  · split at k
    · cases k
    · split at k
      · rename_i c; exact absurd k c
      · rename_i c3
        split at k
        · rename_i c; exact absurd k c
        · rename_i c4
          split at k
          · rename_i c5
            split at k
            · rename_i c6
              refine ⟨ha, ⟨hb, by omega⟩, ?_, ?_, c5.1, c5.2, c6⟩
              · have c3' : okU s o i l t = 0 := by simpa using c3
                unfold okU at c3'
                split at c3'
                · assumption
                · cases c3'
              · have c4' : Chm.okM m = 0 := by simpa using c4
                unfold Chm.okM at c4'
                split at c4'
                · cases c4'
                · omega
            · cases k
          · cases k
theorem fl_ok {a b s o i l t : Int} {m : Nat} {h d g : Int} (k : Good a b s o i l t m h d g) : (flL a b s o i l t m h d g).all Oct.okF = true := by
  obtain ⟨ha, hb, ⟨u1, u2, u3, u4, u5, u6, u7, u8, u9, u10⟩, hm, hh, hd, hg⟩ := k
  have p4 : Ser.p2 (8 * (4 : Int).toNat) = 4294967296 := by decide
  have p3 : Ser.p2 (8 * (3 : Int).toNat) = 16777216 := by decide
  have p1 : Ser.p2 (8 * (1 : Int).toNat) = 256 := by decide
  have p2' : Ser.p2 (8 * (2 : Int).toNat) = 65536 := by decide
  have p5 : Ser.p2 (8 * (5 : Int).toNat) = 1099511627776 := by decide
  simp only [flL, List.all_cons, List.all_nil, Oct.okF, p4, p3, p1, p2', p5, Bool.and_true, Bool.and_eq_true, decide_eq_true_eq]
  refine ⟨⟨by decide, by omega⟩, ⟨by decide, by omega⟩, ⟨by decide, by omega⟩, ⟨by decide, by omega⟩, ⟨by decide, by omega⟩, ⟨by decide, by omega⟩, ⟨by decide, by omega⟩, ⟨by decide, by omega⟩, ⟨by decide, by omega⟩, ⟨by decide, by omega⟩, ⟨by decide, by omega⟩⟩
theorem fl_len (a b s o i l t : Int) (m : Nat) (h d g : Int) : (Oct.putL (flL a b s o i l t m h d g)).length = 25 := by simp [flL, Oct.putL, Oct.numL_len]
theorem enc_good {a b s o i l t : Int} {m : Nat} {h d g : Int} (ha : 0 ≤ a ∧ a ≤ 4294967295) (hb : 0 ≤ b) (k : okP a b s o i l t m h d g = 0) : Oct.putR (flL a b s o i l t m h d g) = encR a b s o i l t m h d g := by
  rw [Oct.putR_good (fl_ok (okP_good ha hb k))]
  unfold encR; rw [if_pos k]
theorem enc_bad {a b s o i l t : Int} {m : Nat} {h d g : Int} (k : okP a b s o i l t m h d g ≠ 0) : encR a b s o i l t m h d g = ([], okP a b s o i l t m h d g) := by
  unfold encR; rw [if_neg k]
def encF (f : Int × Int) : List Value := [.int .i64 f.1, .int .u64 f.2]
theorem sizF : Sized encF 2 := fun f => ⟨rfl, fun u hu => by simp [encF] at hu; rcases hu with rfl | rfl <;> rfl⟩
theorem flds_own {w : World} {base n c : Nat} {A : Option Addr} {fs : List (Int × Int)} (h : w.ownsRow base 67 2 (.slice A n c) n (fs.flatMap encF)) : Oct.FldsAt w w.heap.size A fs := by
  cases fs with
  | nil => exact .inl rfl
  | cons f r =>
    obtain ⟨b, off, e, hlt, hc⟩ := ListAt.open_ (l := f :: r) (show ListAt encF w w.heap.size A (f :: r) from CellsAt.own h) sizF (by decide) (by simp)
    exact .inr ⟨b, off, e, hlt, fun j x hj => ⟨hc j x hj 0 _ rfl, hc j x hj 1 _ rfl⟩⟩
theorem info_fld : (Tryd.prog.info? 67).map (fun i => (i.zero, i.size, i.bytes)) = some (some (.agg #[.int .i64 0, .int .u64 0]), 2, 16) := by kernel_rfl
theorem sizes_any (w : World) : Calls Tryd.prog 72 #[] w fun e w' => e = .returned (.slice (some ⟨w.heap.size, 0, none⟩) 11 11) ∧ w' = w.alloc (.cells (szL.map (Value.int .i64)).toArray 3) := by
  go_enter Tryd.func72, Tryd.ntmps72
  go_wp2_with fail
  go_ret
  exact ⟨rfl, rfl⟩
theorem sz_bd : ∀ z ∈ szL, 1 ≤ z ∧ z ≤ 8 := by decide
theorem zip_take (zs xs : List Int) (k : Nat) (z x : Int) (hz : zs[k]? = some z) (hx : xs[k]? = some x) : ((zs.zip xs).take (k + 1)).flatMap encF = ((zs.zip xs).take k).flatMap encF ++ [.int .i64 z, .int .u64 x] := by
  have h : (zs.zip xs)[k]? = some (z, x) := by simp [List.zip, List.getElem?_zipWith, hz, hx]
  have hk : k < (zs.zip xs).length := by
    rcases Nat.lt_or_ge k (zs.zip xs).length with g | g
    · exact g
    · rw [List.getElem?_eq_none g] at h; cases h
  rw [List.getElem?_eq_getElem hk] at h
  injection h with h
  rw [List.take_succ_eq_append_getElem hk, flat_append, h]; rfl
set_option maxRecDepth 100000 in
set_option maxHeartbeats 1000000 in
theorem form_any (g : Nat) (xs : List Int) (w : World) (hx : xs.length = 11) (bx : ∀ x ∈ xs, 0 ≤ x ∧ x ≤ 9223372036854775807) (hr : Ints .i64 w w.heap.size (some ⟨g, 0, none⟩) xs) :
    Calls Tryd.prog 53 #[.slice (some ⟨g, 0, none⟩) 11 11] w fun e w' => Oct.Gives w w' e (Oct.putR (szL.zip xs)) := by
  obtain ⟨i0, hi, hz0, hz1, hz2⟩ := info_parts info_fld
  have HX := Lib.hid hx
  have BX := Lib.hid bx
  have HF : Hid (Oct.Fields (szL.zip xs)) := Lib.hid fun f hf => by
    have h1 := sz_bd f.1 (List.of_mem_zip hf).1
    have h2 := bx f.2 (List.of_mem_zip hf).2
    omega
  have HL : Hid ((szL.zip xs).length = 11) := Lib.hid (by rw [List.length_zip, hx]; rfl)
  have L0 : Ints .i64 (w.alloc (.cells (szL.map (Value.int .i64)).toArray 3)) (w.heap.size + 1) (some ⟨w.heap.size, 0, none⟩) szL := Ints.lit _ _ _ _ _ rfl
  have hr1 := (hr.alloc (Nat.le_refl _) (.cells (szL.map (Value.int .i64)).toArray 3)).more (B' := w.heap.size + 1) (Nat.le_succ _)
  have hb0 : Below w.heap.size w (w.alloc (.cells (szL.map (Value.int .i64)).toArray 3)) := (Below.refl _ w).alloc (Nat.le_refl _) _
  have hsz : (w.alloc (.cells (szL.map (Value.int .i64)).toArray 3)).heap.size = w.heap.size + 1 := by simp
  rw [← hsz] at L0 hr1
  clear hx bx hr hsz
  go_enter Tryd.func53, Tryd.ntmps53
  go_wp2_with (go_at_call 72; refine (sizes_any _).mono ?_; rintro e w1 ⟨rfl, rfl⟩)
  generalize w.alloc (.cells (szL.map (Value.int .i64)).toArray 3) = W at *
  go_loopw [4, 9] (fun v i wr => ∃ k : Nat, k ≤ 11 ∧ i = .int .i64 k ∧ wr.ownsRow W.heap.size 67 2 v k (((szL.zip xs).take k).flatMap encF) ∧ Below W.heap.size W wr) (fun _ i _ => 11 - (intOf i).toNat)
  case atStart => exact ⟨0, by omega, rfl, World.ownsRow_nil _ _ _ _, Below.refl _ _⟩
  case round =>
    obtain ⟨k, hk, rfl, hown, hbel⟩ := hrel
    by_cases c1 : k < 11
    · obtain ⟨z, hzk⟩ : ∃ z, szL[k]? = some z := ⟨_, List.getElem?_eq_getElem (show k < szL.length from c1)⟩
      obtain ⟨x, hxk⟩ : ∃ x, xs[k]? = some x := ⟨_, List.getElem?_eq_getElem (by rw [HX.out]; exact c1)⟩
      have hxb := BX.out x (List.mem_of_getElem? hxk)
      have eX : IntKind.u64.wrap x = x := by rw [Ser.wrap_u64]; omega
      have HT := Lib.hid (zip_take szL xs k z x hzk hxk)
      obtain ⟨b, off, e1, hb, hc⟩ := (L0.below hbel).at_ (i := k) (show k < szL.length from c1)
      obtain ⟨b', off', e2, hb', hc'⟩ := (hr1.below hbel).at_ (i := k) (by rw [HX.out]; exact c1)
      injection e1 with e1; injection e1 with e1 e1'; subst e1; subst e1'
      injection e2 with e2; injection e2 with e2 e2'; subst e2; subst e2'
      have f1 := hc k (by exact c1)
      have f2 := hc' k (by rw [HX.out]; exact c1)
      rw [show szL.getD k 0 = z by rw [List.getD_eq_getElem?_getD, hzk]; rfl] at f1
      rw [show xs.getD k 0 = x by rw [List.getD_eq_getElem?_getD, hxk]; rfl] at f2
      simp only [Nat.zero_add] at f1 f2
      obtain ⟨A, c, rfl⟩ := own_form hown
      clear hc hc' hzk hxk
      go_wp2_with (at_builtin; refine wpList_append_rows rfl (.tmp 14) (.tmp 22) 79 rfl W.heap.size 67 i0 _ 2 16 Tryd.underlying79 hi hz0 hz1 hz2 rfl (by decide) _ k _ rfl (World.ownsRow.alloc hown _) _ (some ⟨wr.heap.size, 0, none⟩) 1 1 [.int .i64 z, .int .u64 x] rfl rfl (by intro u hu; simp at hu; rcases hu with rfl | rfl <;> rfl) (CellsAt.lit wr [.int .i64 z, .int .u64 x] _ 67 rfl) (by unfold maxLen; omega) (by omega) (by have := hbel.size; simp; omega) ?_; intro v2 w2 own2 b2 gr2)
      go_roundw
      case rel => exact ⟨k + 1, by omega, by go_num, by rw [HT.out]; exact own2, (hbel.alloc hbel.size _).trans b2⟩
      case measure => simp [intOf]; omega
    · obtain rfl : k = 11 := by omega
      have HT : Hid ((szL.zip xs).take 11 = szL.zip xs) := Lib.hid (List.take_of_length_le (by rw [HL.out]; exact Nat.le_refl _))
      rw [HT.out] at hown
      obtain ⟨A, c, rfl⟩ := own_form hown
      have HFA := Lib.hid (flds_own hown)
      have HP := Lib.hid (Oct.put_any A 11 c (szL.zip xs) wr HF.out HL.out (by decide) HFA.out)
      clear hown
      go_wp2_with (go_at_call 45; refine HP.out.mono ?_; rintro e w2 ⟨A2, c2, rfl, own2, b2⟩)
      go_ret2
      have hwW : w.heap.size ≤ wr.heap.size := Nat.le_trans hb0.size hbel.size
      exact ⟨A2, c2, rfl, own_base own2 hwW, hb0.trans ((hbel.trans (b2.mono hbel.size)).mono hb0.size)⟩
end Go.Proofs.YtcjlliilfecmnaaDoor.Cn

end
