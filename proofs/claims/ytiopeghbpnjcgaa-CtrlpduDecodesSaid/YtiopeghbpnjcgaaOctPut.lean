/- Fields to bytes: what the functions of the layer of bytes, and of its specification, return: contracts over the program. -/
import Derived.Test.YtiopeghbpnjcgaaOctJoin
import Derived.Test.YtiopeghbpnjcgaaOctUnhex
set_option linter.unusedVariables false
set_option linter.unusedSimpArgs false
namespace Go.Proofs.Ytiopeghbpnjcgaa.Oct
open Go.RowKit Mem

def Fields (fs : List (Int × Int)) : Prop := ∀ f ∈ fs, (-9223372036854775808 ≤ f.1 ∧ f.1 ≤ 9223372036854775807) ∧ 0 ≤ f.2 ∧ f.2 ≤ 18446744073709551615
def FldsAt (w : World) (B : Nat) (A : Option Addr) (fs : List (Int × Int)) : Prop :=
  fs = [] ∨ ∃ b off, A = some ⟨b, off, none⟩ ∧ b < B ∧ ∀ j f, fs[j]? = some f → w.cell? ⟨b, off + j * 2, none⟩ = some (.int .i64 f.1) ∧ w.cell? ⟨b, off + j * 2 + 1, none⟩ = some (.int .u64 f.2)
theorem FldsAt.below {w w' : World} {B : Nat} {A : Option Addr} {fs : List (Int × Int)} (h : FldsAt w B A fs) (hb : Below B w w') : FldsAt w' B A fs := by
  rcases h with h | ⟨b, off, e, hlt, hc⟩
  · exact .inl h
  · exact .inr ⟨b, off, e, hlt, fun j p hj => ⟨(hb.cell (p := ⟨b, off + j * 2, none⟩) hlt).trans (hc j p hj).1, (hb.cell (p := ⟨b, off + j * 2 + 1, none⟩) hlt).trans (hc j p hj).2⟩⟩
theorem FldsAt.more {w : World} {B B' : Nat} {A : Option Addr} {fs : List (Int × Int)} (h : FldsAt w B A fs) (hB : B ≤ B') : FldsAt w B' A fs := by
  rcases h with h | ⟨b, off, e, hlt, hc⟩
  · exact .inl h
  · exact .inr ⟨b, off, e, by omega, hc⟩
/-- A field that has bytes. -/
def okF (f : Int × Int) : Bool := decide (1 ≤ f.1 ∧ f.1 ≤ 8) && decide (f.2 < Ser.p2 (8 * f.1.toNat))
def putL : List (Int × Int) → List Int
  | [] => []
  | f :: r => numL f.1.toNat f.2 ++ putL r
def putR (fs : List (Int × Int)) : List Int × Int := if fs.all okF = true then (putL fs, 0) else ([], 5)
theorem putL_append (l r : List (Int × Int)) : putL (l ++ r) = putL l ++ putL r := by
  induction l with
  | nil => rfl
  | cons f l ih => simp [putL, ih]
theorem putL_snoc {fs : List (Int × Int)} {k : Nat} {f : Int × Int} (h : fs[k]? = some f) : putL (fs.take (k + 1)) = putL (fs.take k) ++ numL f.1.toNat f.2 := by
  have hk : k < fs.length := by
    rcases Nat.lt_or_ge k fs.length with g | g
    · exact g
    · rw [List.getElem?_eq_none g] at h; cases h
  rw [List.getElem?_eq_getElem hk] at h
  injection h with h
  rw [List.take_succ_eq_append_getElem hk, putL_append, h]; simp [putL]
theorem allF_snoc {fs : List (Int × Int)} {k : Nat} {f : Int × Int} (h : fs[k]? = some f) (ha : (fs.take k).all okF = true) (hf : okF f = true) : (fs.take (k + 1)).all okF = true := by
  have hk : k < fs.length := by
    rcases Nat.lt_or_ge k fs.length with g | g
    · exact g
    · rw [List.getElem?_eq_none g] at h; cases h
  rw [List.getElem?_eq_getElem hk] at h
  injection h with h
  rw [List.take_succ_eq_append_getElem hk, List.all_append, ha, h]; simp [hf]
theorem putR_bad {fs : List (Int × Int)} {k : Nat} {f : Int × Int} (h : fs[k]? = some f) (hf : okF f = false) : putR fs = ([], 5) := by
  unfold putR
  rw [if_neg]
  intro ha
  rw [List.all_eq_true] at ha
  have := ha f (List.mem_of_getElem? h)
  rw [hf] at this; cases this
theorem putR_good {fs : List (Int × Int)} (h : fs.all okF = true) : putR fs = (putL fs, 0) := by unfold putR; rw [if_pos h]
theorem putL_len_le (fs : List (Int × Int)) (k : Nat) (h : (fs.take k).all okF = true) : (putL (fs.take k)).length ≤ 8 * k := by
  have : ∀ l : List (Int × Int), l.all okF = true → (putL l).length ≤ 8 * l.length := by
    intro l hl
    induction l with
    | nil => simp [putL]
    | cons f l ih =>
      simp only [List.all_cons, Bool.and_eq_true] at hl
      have h8 : f.1.toNat ≤ 8 := by
        have := hl.1; unfold okF at this; simp at this; omega
      have := ih hl.2
      simp [putL, numL_len]; omega
  have h1 := this _ h
  have h2 : (fs.take k).length ≤ k := List.length_take_le _ _
  omega
theorem put_any (A : Option Addr) (n c : Nat) (fs : List (Int × Int)) (w : World) (hf : Fields fs) (hl : fs.length = n) (hn : n ≤ 8796093022208) (hr : FldsAt w w.heap.size A fs) :
    Calls Try.prog 25 #[.slice A n c] w fun e w' => Gives w w' e (putR fs) := by
  obtain ⟨i0, hi, hz0, hz1, hz2⟩ := info_parts info_u8
  have HL := Lib.hid hl
  clear hl
  go_enter Try.func25, Try.ntmps25
  go_wp2_with fail
  go_loopw [4, 10] (fun v i wr => ∃ k : Nat, k ≤ n ∧ i = .int .i64 k ∧ wr.ownsRow w.heap.size 5 1 v (putL (fs.take k)).length ((putL (fs.take k)).map (Value.int .u8)) ∧ (fs.take k).all okF = true ∧ Below w.heap.size w wr) (fun _ i _ => n - (intOf i).toNat)
  case atStart => exact ⟨0, by omega, rfl, World.ownsRow_nil _ _ _ _, rfl, Below.refl _ _⟩
  case round =>
    obtain ⟨k, hk, rfl, hown, hok, hbel⟩ := hrel
    by_cases c1 : k < n
    · obtain ⟨f, hfk⟩ : ∃ f, fs[k]? = some f := ⟨fs[k]'(by rw [HL.out]; omega), List.getElem?_eq_getElem _⟩
      rcases hr.below hbel with h | ⟨b, off, rfl, hlt, hc⟩
      · exfalso; rw [h] at hfk; simp at hfk
      obtain ⟨f1, f2⟩ := hc k f hfk
      clear hc
      have hff := hf f (List.mem_of_getElem? hfk)
      obtain ⟨s, v⟩ := f
      simp only at f1 f2 hff
      have HFK := Lib.hid hfk
      have HOK := Lib.hid hok
      clear hfk hok
      cases hv : decide (1 ≤ s ∧ s ≤ 8)
      · have HR : Hid (putR fs = ([], 5)) := Lib.hid (putR_bad HFK.out (by unfold okF; rw [hv]; rfl))
        go_wp2_with (go_at_call 46; refine (valid_any _ _ (by omega)).mono ?_; rintro e w' ⟨rfl, rfl⟩)
        go_ret2
        exact gives_of HR.out rfl rfl (World.ownsRow_nil _ _ _ _) (hbel.alloc hbel.size _)
      · have hs : 1 ≤ s ∧ s ≤ 8 := of_decide_eq_true hv
        cases hw : decide (v < Ser.p2 (8 * s.toNat))
        · have HR : Hid (putR fs = ([], 5)) := Lib.hid (putR_bad HFK.out (by unfold okF; rw [hw, Bool.and_false]))
          go_wp2_with (first | (go_at_call 46; refine (valid_any _ _ (by omega)).mono ?_; rintro e w' ⟨rfl, rfl⟩) | (go_at_call 47; refine (fits_any _ _ _ (by omega) (by omega)).mono ?_; rintro e w' ⟨rfl, rfl⟩))
          go_ret2
          exact gives_of HR.out rfl rfl (World.ownsRow_nil _ _ _ _) (hbel.alloc hbel.size _)
        · obtain ⟨m, rfl⟩ := Int.eq_ofNat_of_zero_le (show 0 ≤ s by omega)
          have HW : Hid (okF ((m : Int), v) = true) := Lib.hid (by unfold okF; rw [hv, hw]; rfl)
          rw [Int.toNat_natCast] at hw
          obtain ⟨wo, hwo⟩ : ∃ wo : World, wo = wr := ⟨_, rfl⟩
          subst hwo
          have HTL := putL_len_le fs k HOK.out
          go_wp2_with (first | (go_at_call 46; refine (valid_any _ _ (by omega)).mono ?_; rintro e w' ⟨rfl, rfl⟩) | (go_at_call 47; refine (fits_any _ _ _ (by omega) (by omega)).mono ?_; rintro e w' ⟨rfl, rfl⟩))
          go_loopw [4, 28] (fun b i wi => ∃ j : Nat, j ≤ m ∧ i = .int .i64 j ∧ wi.ownsRow w.heap.size 5 1 b ((putL (fs.take k)).length + j) ((putL (fs.take k) ++ numL j v).map (Value.int .u8)) ∧ Below w.heap.size w wi ∧ Blk wi wo.heap.size 59 #[.int .i64 m, .int .u64 v]) (fun _ i _ => m - (intOf i).toNat)
          case atStart => exact ⟨0, by omega, rfl, by simpa [numL] using hown.alloc _, hbel.alloc hbel.size _, Blk.fresh _ _ _⟩
          case round =>
            obtain ⟨j, hj, rfl, hown', hbel', hblk⟩ := hrel
            have g1 : wr.cell? ⟨wo.heap.size, 0, none⟩ = some (.int .i64 m) := hblk.cell 0
            have g2 : wr.cell? ⟨wo.heap.size, 1, none⟩ = some (.int .u64 v) := hblk.cell 1
            by_cases c2 : j < m
            · have HS : Hid ((putL (fs.take k) ++ numL (j + 1) v).map (Value.int .u8) = (putL (fs.take k) ++ numL j v).map (Value.int .u8) ++ [.int .u8 (v / 2 ^ (8 * j) % 256)]) := by
                refine Lib.hid ?_
                rw [numL_snoc, ← List.append_assoc, List.map_append (l₁ := putL (fs.take k) ++ numL j v)]
                rfl
              go_wp2_with (at_builtin; refine wpList_append_ints rfl _ _ 33 rfl .u8 w.heap.size 5 i0 _ 1 Try.underlying33 hi hz0 hz1 hz2 rfl _ _ _ rfl (hown'.alloc _) (wr.heap.size + 1) _ 1 1 [v / 2 ^ (8 * j) % 256] rfl rfl ?c1 ?c2 ?c3 ?c4 ?_; (case c1 => exact Ints.lit _ _ _ _ _ rfl); (case c2 => unfold maxLen; omega); (case c3 => omega); (case c4 => have := hbel'.size; simp; omega); intro v2 w2 hown2 hb2 hg2)
              go_roundw
              case rel => exact ⟨j + 1, by omega, by go_num, by rw [HS.out]; exact hown2, (hbel'.alloc hbel'.size _).trans hb2, (hblk.alloc _).grown (hown'.alloc _) (by decide) hg2⟩
              case measure => simp [intOf]; omega
            · have hjm : j = m := by omega
              subst hjm
              have hsn := putL_snoc HFK.out
              rw [Int.toNat_natCast] at hsn
              rw [← hsn] at hown'
              have HLN : Hid ((putL (fs.take k)).length + j = (putL (fs.take (k + 1))).length) := Lib.hid (by rw [hsn, List.length_append, numL_len])
              rw [HLN.out] at hown'
              have HAF := Lib.hid (allF_snoc HFK.out HOK.out HW.out)
              clear hsn
              go_wp2_with fail
              go_roundw
              case rel => exact ⟨k + 1, by omega, by go_num, hown', HAF.out, hbel'⟩
              case measure => simp [intOf]; omega
    · have hkn : k = n := by omega
      have HT : Hid (fs.take k = fs) := Lib.hid (List.take_of_length_le (by rw [HL.out]; omega))
      rw [HT.out] at hown hok
      have HR := Lib.hid (putR_good hok)
      clear hok hkn
      go_wp2_with fail
      go_ret2
      exact gives_of HR.out rfl rfl hown hbel
end Go.Proofs.Ytiopeghbpnjcgaa.Oct
