/- Laying and taking of bytes, numbers of bytes: what the functions of the layer of bytes that addresses need, and of its specification, return: contracts over the program. -/
import Derived.Test.YtkpjpjjpjpimiaaDoorBase
import Derived.Lib.SliceRun
set_option linter.unusedVariables false
set_option linter.unusedSimpArgs false
namespace Go.Proofs.YtkpjpjjpjpimiaaDoor.Oct
open Go.RowKit Mem Base

theorem valid_any (n : Int) (w : World) (hn : -9223372036854775808 ≤ n ∧ n ≤ 9223372036854775807) :
    Calls Tryd.prog 53 #[.int .i64 n] w fun e w' => e = .returned (.bool (decide (1 ≤ n ∧ n ≤ 8))) ∧ w = w' := by
  go_enter Tryd.func53, Tryd.ntmps53
  go_wp2
  all_goals
    go_ret
    refine ⟨Ser.ret_bool ?_, rfl⟩
    by_cases h1 : 1 ≤ n
    · by_cases h2 : n ≤ 8
      · simp [h1, h2] <;> omega
      · simp [h1, h2] <;> omega
    · simp [h1] <;> omega
theorem fits_any (v n : Int) (w : World) (hv : 0 ≤ v ∧ v ≤ 18446744073709551615) (hn : 1 ≤ n ∧ n ≤ 8) :
    Calls Tryd.prog 54 #[.int .u64 v, .int .i64 n] w fun e w' => e = .returned (.bool (decide (v < Ser.p2 (8 * n.toNat)))) ∧ w = w' := by
  go_enter Tryd.func54, Tryd.ntmps54
  have H := Lib.hid (fits_code v n hv.1 hn.1)
  go_wp2
  go_ret
  exact ⟨Ser.ret_bool H.out, rfl⟩
theorem clone_any (A : Option Addr) (n c : Nat) (zs : List Int) (w : World) (hz : zs.length = n) (hr : Ints .u8 w w.heap.size A zs) (hn : n ≤ 140737488351232) (hnil : A = none → n = 0) :
    Calls Tryd.prog 56 #[.slice A n c] w fun e w' => Makes w w' e zs := by
  obtain ⟨i0, hi, hz0, hz1, hz2⟩ := info_parts info_u8
  cases A with
  | none =>
    obtain rfl : n = 0 := hnil rfl
    have hzs : zs = [] := List.eq_nil_of_length_eq_zero (by omega)
    have H := Lib.hid hzs
    clear hzs hz hr hn hnil
    have hq := Lib.run_eql_slice_nil (P := Tryd.prog) w 35 5 none 0 c 0 0 Tryd.underlying35
    go_enter Tryd.func56, Tryd.ntmps56
    go_wp2_with fail
    go_ret
    rw [H.out]
    exact makes_of rfl rfl (World.ownsRow_nil _ _ _ _) (Below.refl _ _)
  | some ad =>
    have hq := Lib.run_eql_slice_nil (P := Tryd.prog) w 35 5 (some ad) n c 0 0 Tryd.underlying35
    go_enter Tryd.func56, Tryd.ntmps56
    go_wp2_with (at_builtin; refine wpList_append_ints rfl _ _ 35 rfl .u8 w.heap.size 5 i0 _ 1 Tryd.underlying35 hi hz0 hz1 hz2 rfl (.slice (some ⟨w.heap.size, 0, none⟩) 0 0) 0 [] rfl (World.ownsRow_made _ _ 0 (Nat.le_refl _) (by unfold maxLen; omega) rfl) w.heap.size (some ad) n c zs rfl hz ?c1 ?c2 ?c3 ?c4 ?_; (case c1 => exact hr.alloc (Nat.le_refl _) _); (case c2 => unfold maxLen; omega); (case c3 => omega); (case c4 => simp); intro v' w1 hown1 hb1 _)
    go_ret
    exact makes_of rfl hz (by simpa using hown1) (((Below.refl _ _).alloc (Nat.le_refl _) _).trans hb1)
theorem number_any (A : Option Addr) (n c : Nat) (xs : List Int) (w : World) (hx : xs.length = n) (bxs : Bytes xs) (hr : Ints .u8 w w.heap.size A xs) (hn : n ≤ 8) :
    Calls Tryd.prog 55 #[.slice A n c] w fun e w' => e = .returned (.int .u64 (valL xs)) ∧ w = w' := by
  have Hx := Lib.hid hx
  clear hx
  go_enter Tryd.func55, Tryd.ntmps55
  go_wp2_with fail
  go_loop [3, 8] (fun v i => ∃ k : Nat, k ≤ n ∧ i = .int .i64 k ∧ v = .int .u64 (valL (xs.take k))) (fun _ i => n - (intOf i).toNat)
  case atStart => exact ⟨0, by omega, rfl, rfl⟩
  case round =>
    obtain ⟨k, hk, rfl, rfl⟩ := hrel
    by_cases c1 : k < n
    · obtain ⟨b, off, rfl, hb, hc⟩ := hr.at_ (i := k) (by rw [Hx.out]; omega)
      have f1 := hc k (by rw [Hx.out]; omega)
      clear hc
      have bk := bytes_get bxs k
      obtain ⟨x, hxk⟩ : ∃ x, xs.getD k 0 = x := ⟨_, rfl⟩
      rw [hxk] at f1 bk
      have HXK := Lib.hid hxk
      clear hxk
      have HC : Hid (bits BinOp.or IntKind.u64 (valL (xs.take k)) (IntKind.u64.wrap (x * 2 ^ (8 * k))) = valL (xs.take (k + 1))) := by
        refine Lib.hid ?_
        rw [or_code (bytes_take bxs k) (by rw [List.length_take, Hx.out]; omega) (by omega) bk, val_step (by rw [Hx.out]; omega) HXK.out]
      go_wp2_with fail
      go_round
      case rel => exact ⟨k + 1, by omega, by go_num, by rw [HC.out]⟩
      case measure => simp [intOf]; omega
    · have hkn : k = n := by omega
      have HT : Hid (xs.take k = xs) := Lib.hid (List.take_of_length_le (by rw [Hx.out]; omega))
      clear hkn
      go_wp2_with fail
      go_ret
      exact ⟨Ser.ret_int (by rw [HT.out]), rfl⟩
theorem value_any (A : Option Addr) (n c : Nat) (xs : List Int) (w : World) (hx : xs.length = n) (bxs : Bytes xs) (hr : Ints .u8 w w.heap.size A xs) (hn : n ≤ 8) :
    Calls Tryd.prog 43 #[.slice A n c] w fun e w' => e = .returned (.int .u64 (valL xs)) ∧ w = w' := by
  have Hx := Lib.hid hx
  clear hx
  go_enter Tryd.func43, Tryd.ntmps43
  go_wp2_with fail
  go_loop [3, 4] (fun v i => (i = .int .i64 (-1) ∧ v = .int .u64 (valL xs)) ∨ ∃ k : Nat, k < n ∧ i = .int .i64 k ∧ v = .int .u64 (valL (xs.drop (k + 1)))) (fun _ i => (intOf i + 1).toNat)
  case atStart =>
    rcases n with _ | n
    · exact .inl ⟨rfl, by rw [List.eq_nil_of_length_eq_zero Hx.out]; rfl⟩
    · exact .inr ⟨n, by omega, by go_num, by rw [List.drop_of_length_le (by rw [Hx.out]; omega)]; rfl⟩
  case round =>
    rcases hrel with ⟨rfl, rfl⟩ | ⟨k, hk, rfl, rfl⟩
    · go_wp2_with fail
      go_ret
      exact ⟨rfl, rfl⟩
    · obtain ⟨b, off, rfl, hb, hc⟩ := hr.at_ (i := k) (by rw [Hx.out]; omega)
      have f1 := hc k (by rw [Hx.out]; omega)
      clear hc
      have bk := bytes_get bxs k
      obtain ⟨x, hxk⟩ : ∃ x, xs.getD k 0 = x := ⟨_, rfl⟩
      rw [hxk] at f1 bk
      have HD := Lib.hid (drop_val (by rw [Hx.out]; omega) hxk)
      clear hxk
      have b1 := drop_bd' bxs (by rw [Hx.out]; omega) (k + 1) (by omega)
      have b2 := (drop_bd bxs (by rw [Hx.out]; omega) (k + 1)).1
      go_wp2_with fail
      go_round
      case rel =>
        rcases k with _ | k
        · exact .inl ⟨rfl, by rw [show valL xs = valL (xs.drop 0) from rfl, HD.out] <;> go_num⟩
        · exact .inr ⟨k, by omega, by go_num, by rw [HD.out] <;> go_num⟩
      case measure => simp [intOf] <;> omega
/-- What a call makes of bytes, with an error. -/
def Gives (w w' : World) (e : Ending) (r : List Int × Int) : Prop :=
  ∃ A c, e = .returned (.tuple #[.slice A r.1.length c, .int .i64 r.2]) ∧ w'.ownsRow w.heap.size 5 1 (.slice A r.1.length c) r.1.length (r.1.map (Value.int .u8)) ∧ Below w.heap.size w w'
theorem gives_of {w w' : World} {e : Ending} {v : Value} {n : Nat} {x : Int} {r : List Int × Int} {zs : List Int} (hr : r = (zs, x)) (he : e = .returned (.tuple #[v, .int .i64 x])) (hn : zs.length = n) (h : w'.ownsRow w.heap.size 5 1 v n (zs.map (Value.int .u8))) (hb : Below w.heap.size w w') : Gives w w' e r := by
  obtain ⟨A, c, hv⟩ := own_form h
  subst hn hr
  exact ⟨A, c, by rw [he, hv], by rw [← hv]; exact h, hb⟩
def Fields (fs : List (Int × Int)) : Prop := ∀ f ∈ fs, (-9223372036854775808 ≤ f.1 ∧ f.1 ≤ 9223372036854775807) ∧ 0 ≤ f.2 ∧ f.2 ≤ 18446744073709551615
def FldsAt (w : World) (B : Nat) (A : Option Addr) (fs : List (Int × Int)) : Prop :=
  fs = [] ∨ ∃ b off, A = some ⟨b, off, none⟩ ∧ b < B ∧ ∀ j f, fs[j]? = some f → w.cell? ⟨b, off + j * 2, none⟩ = some (.int .i64 f.1) ∧ w.cell? ⟨b, off + j * 2 + 1, none⟩ = some (.int .u64 f.2)
theorem FldsAt.below {w w' : World} {B : Nat} {A : Option Addr} {fs : List (Int × Int)} (h : FldsAt w B A fs) (hb : Below B w w') : FldsAt w' B A fs := by
  rcases h with h | ⟨b, off, e, hlt, hc⟩
  · exact .inl h
  · exact .inr ⟨b, off, e, hlt, fun j p hj => ⟨(hb.cell (p := ⟨b, off + j * 2, none⟩) hlt).trans (hc j p hj).1, (hb.cell (p := ⟨b, off + j * 2 + 1, none⟩) hlt).trans (hc j p hj).2⟩⟩
theorem FldsAt.more {w : World} {B B' : Nat} {A : Option Addr} {fs : List (Int × Int)} (h : FldsAt w B A fs) (hB : B ≤ B') : FldsAt w B' A fs := by
  rcases h with h | ⟨b, off, e, hlt, hc⟩
  · exact .inl h
  · exact .inr ⟨b, off, e, by omega, hc⟩
/-- A field that has bytes. -/
def okF (f : Int × Int) : Bool := decide (1 ≤ f.1 ∧ f.1 ≤ 8) && decide (f.2 < Ser.p2 (8 * f.1.toNat))
def putL : List (Int × Int) → List Int
  | [] => []
  | f :: r => numL f.1.toNat f.2 ++ putL r
def putR (fs : List (Int × Int)) : List Int × Int := if fs.all okF = true then (putL fs, 0) else ([], 5)
theorem putL_append (l r : List (Int × Int)) : putL (l ++ r) = putL l ++ putL r := by
  induction l with
  | nil => rfl
  | cons f l ih => simp [putL, ih]
theorem putL_snoc {fs : List (Int × Int)} {k : Nat} {f : Int × Int} (h : fs[k]? = some f) : putL (fs.take (k + 1)) = putL (fs.take k) ++ numL f.1.toNat f.2 := by
  have hk : k < fs.length := by
    rcases Nat.lt_or_ge k fs.length with g | g
    · exact g
    · rw [List.getElem?_eq_none g] at h; cases h
  rw [List.getElem?_eq_getElem hk] at h
  injection h with h
  rw [List.take_succ_eq_append_getElem hk, putL_append, h]; simp [putL]
theorem allF_snoc {fs : List (Int × Int)} {k : Nat} {f : Int × Int} (h : fs[k]? = some f) (ha : (fs.take k).all okF = true) (hf : okF f = true) : (fs.take (k + 1)).all okF = true := by
  have hk : k < fs.length := by
    rcases Nat.lt_or_ge k fs.length with g | g
    · exact g
    · rw [List.getElem?_eq_none g] at h; cases h
  rw [List.getElem?_eq_getElem hk] at h
  injection h with h
  rw [List.take_succ_eq_append_getElem hk, List.all_append, ha, h]; simp [hf]
theorem putR_bad {fs : List (Int × Int)} {k : Nat} {f : Int × Int} (h : fs[k]? = some f) (hf : okF f = false) : putR fs = ([], 5) := by
  unfold putR
  rw [if_neg]
  intro ha
  rw [List.all_eq_true] at ha
  have := ha f (List.mem_of_getElem? h)
  rw [hf] at this; cases this
theorem putR_good {fs : List (Int × Int)} (h : fs.all okF = true) : putR fs = (putL fs, 0) := by unfold putR; rw [if_pos h]
theorem putL_len_le (fs : List (Int × Int)) (k : Nat) (h : (fs.take k).all okF = true) : (putL (fs.take k)).length ≤ 8 * k := by
  have : ∀ l : List (Int × Int), l.all okF = true → (putL l).length ≤ 8 * l.length := by
    intro l hl
    induction l with
    | nil => simp [putL]
    | cons f l ih =>
      simp only [List.all_cons, Bool.and_eq_true] at hl
      have h8 : f.1.toNat ≤ 8 := by
        have := hl.1; unfold okF at this; simp at this; omega
      have := ih hl.2
      simp [putL, numL_len]; omega
  have h1 := this _ h
  have h2 : (fs.take k).length ≤ k := List.length_take_le _ _
  omega
theorem rnum_any (n v : Int) (w : World) (hn : 1 ≤ n ∧ n ≤ 8) (hv : 0 ≤ v ∧ v ≤ 18446744073709551615) :
    Calls Tryd.prog 41 #[.int .i64 n, .int .u64 v] w fun e w' => Makes w w' e (numL n.toNat v) := by
  obtain ⟨i0, hi, hz0, hz1, hz2⟩ := info_parts info_u8
  obtain ⟨m, rfl⟩ := Int.eq_ofNat_of_zero_le (show 0 ≤ n by omega)
  rw [Int.toNat_natCast]
  go_enter Tryd.func41, Tryd.ntmps41
  go_wp2_with fail
  go_loopw [1, 5, 6] (fun x b i wr => ∃ k : Nat, k ≤ m ∧ i = .int .i64 k ∧ x = .int .u64 (v / Ser.p2 (8 * k)) ∧ wr.ownsRow w.heap.size 5 1 b k ((numL k v).map (Value.int .u8)) ∧ Below w.heap.size w wr) (fun _ _ i _ => m - (intOf i).toNat)
  case atStart => exact ⟨0, by omega, rfl, by rw [show Ser.p2 (8 * 0) = 1 by decide]; go_num, World.ownsRow_made _ _ 0 (Nat.le_refl _) (by unfold maxLen; omega) rfl, (Below.refl _ _).alloc (Nat.le_refl _) _⟩
  case round =>
    obtain ⟨k, hk, rfl, rfl, hown, hbel⟩ := hrel
    by_cases c1 : k < m
    · have hp := Ser.p2_pos (8 * k)
      have hx0 : 0 ≤ v / Ser.p2 (8 * k) := Int.ediv_nonneg hv.1 (by omega)
      have hx1 : v / Ser.p2 (8 * k) ≤ v := Int.ediv_le_self _ hv.1
      have HS := Lib.hid (numL_snoc k v)
      have HD : Hid (v / Ser.p2 (8 * k) / 256 = v / Ser.p2 (8 * (k + 1))) := Lib.hid (by rw [p2_8, Int.ediv_ediv_of_nonneg (by omega), Int.mul_comm])
      generalize v / Ser.p2 (8 * k) = x at *
      go_wp2_with (at_builtin; refine wpList_append_ints rfl _ _ 35 rfl .u8 w.heap.size 5 i0 _ 1 Tryd.underlying35 hi hz0 hz1 hz2 rfl _ k _ rfl (hown.alloc _) (wr.heap.size + 1) _ 1 1 [x % 256] rfl rfl ?c1 ?c2 ?c3 ?c4 ?_; (case c1 => exact Ints.lit _ _ _ _ _ rfl); (case c2 => unfold maxLen; omega); (case c3 => omega); (case c4 => have := hbel.size; simp; omega); intro v2 w2 hown2 hb2 _)
      go_roundw
      case rel => exact ⟨k + 1, by omega, by go_num, by rw [HD.out], by rw [HS.out, List.map_append]; exact hown2, (hbel.alloc hbel.size _).trans hb2⟩
      case measure => simp [intOf]; omega
    · have hkm : k = m := by omega
      subst hkm
      go_wp2_with fail
      go_ret
      exact makes_of rfl (numL_len _ _) hown hbel
theorem put_any (A : Option Addr) (n c : Nat) (fs : List (Int × Int)) (w : World) (hf : Fields fs) (hl : fs.length = n) (hn : n ≤ 8796093022208) (hr : FldsAt w w.heap.size A fs) :
    Calls Tryd.prog 40 #[.slice A n c] w fun e w' => Gives w w' e (putR fs) := by
  obtain ⟨i0, hi, hz0, hz1, hz2⟩ := info_parts info_u8
  have HL := Lib.hid hl
  clear hl
  go_enter Tryd.func40, Tryd.ntmps40
  go_wp2_with fail
  go_loopw [4, 10] (fun v i wr => ∃ k : Nat, k ≤ n ∧ i = .int .i64 k ∧ wr.ownsRow w.heap.size 5 1 v (putL (fs.take k)).length ((putL (fs.take k)).map (Value.int .u8)) ∧ (fs.take k).all okF = true ∧ Below w.heap.size w wr) (fun _ i _ => n - (intOf i).toNat)
  case atStart => exact ⟨0, by omega, rfl, World.ownsRow_nil _ _ _ _, rfl, Below.refl _ _⟩
  case round =>
    obtain ⟨k, hk, rfl, hown, hok, hbel⟩ := hrel
    by_cases c1 : k < n
    · obtain ⟨f, hfk⟩ : ∃ f, fs[k]? = some f := ⟨fs[k]'(by rw [HL.out]; omega), List.getElem?_eq_getElem _⟩
      rcases hr.below hbel with h | ⟨b, off, rfl, hlt, hc⟩
      · exfalso; rw [h] at hfk; simp at hfk
      obtain ⟨f1, f2⟩ := hc k f hfk
      clear hc
      have hff := hf f (List.mem_of_getElem? hfk)
      obtain ⟨s, v⟩ := f
      simp only at f1 f2 hff
      have HFK := Lib.hid hfk
      have HOK := Lib.hid hok
      clear hfk hok
      cases hv : decide (1 ≤ s ∧ s ≤ 8)
      · have HR : Hid (putR fs = ([], 5)) := Lib.hid (putR_bad HFK.out (by unfold okF; rw [hv]; rfl))
        go_wp2_with (go_at_call 53; refine (valid_any _ _ (by omega)).mono ?_; rintro e w' ⟨rfl, rfl⟩)
        go_ret2
        exact gives_of HR.out rfl rfl (World.ownsRow_nil _ _ _ _) (hbel.alloc hbel.size _)
      · have hs : 1 ≤ s ∧ s ≤ 8 := of_decide_eq_true hv
        cases hw : decide (v < Ser.p2 (8 * s.toNat))
        · have HR : Hid (putR fs = ([], 5)) := Lib.hid (putR_bad HFK.out (by unfold okF; rw [hw, Bool.and_false]))
          go_wp2_with (first | (go_at_call 53; refine (valid_any _ _ (by omega)).mono ?_; rintro e w' ⟨rfl, rfl⟩) | (go_at_call 54; refine (fits_any _ _ _ (by omega) (by omega)).mono ?_; rintro e w' ⟨rfl, rfl⟩))
          go_ret2
          exact gives_of HR.out rfl rfl (World.ownsRow_nil _ _ _ _) (hbel.alloc hbel.size _)
        · obtain ⟨m, rfl⟩ := Int.eq_ofNat_of_zero_le (show 0 ≤ s by omega)
          have HW : Hid (okF ((m : Int), v) = true) := Lib.hid (by unfold okF; rw [hv, hw]; rfl)
          rw [Int.toNat_natCast] at hw
          obtain ⟨wo, hwo⟩ : ∃ wo : World, wo = wr := ⟨_, rfl⟩
          subst hwo
          have HTL := putL_len_le fs k HOK.out
          go_wp2_with (first | (go_at_call 53; refine (valid_any _ _ (by omega)).mono ?_; rintro e w' ⟨rfl, rfl⟩) | (go_at_call 54; refine (fits_any _ _ _ (by omega) (by omega)).mono ?_; rintro e w' ⟨rfl, rfl⟩))
          go_loopw [4, 28] (fun b i wi => ∃ j : Nat, j ≤ m ∧ i = .int .i64 j ∧ wi.ownsRow w.heap.size 5 1 b ((putL (fs.take k)).length + j) ((putL (fs.take k) ++ numL j v).map (Value.int .u8)) ∧ Below w.heap.size w wi ∧ Blk wi wo.heap.size 55 #[.int .i64 m, .int .u64 v]) (fun _ i _ => m - (intOf i).toNat)
          case atStart => exact ⟨0, by omega, rfl, by simpa [numL] using hown.alloc _, hbel.alloc hbel.size _, Blk.fresh _ _ _⟩
          case round =>
            obtain ⟨j, hj, rfl, hown', hbel', hblk⟩ := hrel
            have g1 : wr.cell? ⟨wo.heap.size, 0, none⟩ = some (.int .i64 m) := hblk.cell 0
            have g2 : wr.cell? ⟨wo.heap.size, 1, none⟩ = some (.int .u64 v) := hblk.cell 1
            by_cases c2 : j < m
            · have HS : Hid ((putL (fs.take k) ++ numL (j + 1) v).map (Value.int .u8) = (putL (fs.take k) ++ numL j v).map (Value.int .u8) ++ [.int .u8 (v / 2 ^ (8 * j) % 256)]) := by
                refine Lib.hid ?_
                rw [numL_snoc, ← List.append_assoc, List.map_append (l₁ := putL (fs.take k) ++ numL j v)]
                rfl
              go_wp2_with (at_builtin; refine wpList_append_ints rfl _ _ 35 rfl .u8 w.heap.size 5 i0 _ 1 Tryd.underlying35 hi hz0 hz1 hz2 rfl _ _ _ rfl (hown'.alloc _) (wr.heap.size + 1) _ 1 1 [v / 2 ^ (8 * j) % 256] rfl rfl ?c1 ?c2 ?c3 ?c4 ?_; (case c1 => exact Ints.lit _ _ _ _ _ rfl); (case c2 => unfold maxLen; omega); (case c3 => omega); (case c4 => have := hbel'.size; simp; omega); intro v2 w2 hown2 hb2 hg2)
              go_roundw
              case rel => exact ⟨j + 1, by omega, by go_num, by rw [HS.out]; exact hown2, (hbel'.alloc hbel'.size _).trans hb2, (hblk.alloc _).grown (hown'.alloc _) (by decide) hg2⟩
              case measure => simp [intOf]; omega
            · have hjm : j = m := by omega
              subst hjm
              have hsn := putL_snoc HFK.out
              rw [Int.toNat_natCast] at hsn
              rw [← hsn] at hown'
              have HLN : Hid ((putL (fs.take k)).length + j = (putL (fs.take (k + 1))).length) := Lib.hid (by rw [hsn, List.length_append, numL_len])
              rw [HLN.out] at hown'
              have HAF := Lib.hid (allF_snoc HFK.out HOK.out HW.out)
              clear hsn
              go_wp2_with fail
              go_roundw
              case rel => exact ⟨k + 1, by omega, by go_num, hown', HAF.out, hbel'⟩
              case measure => simp [intOf]; omega
    · have hkn : k = n := by omega
      have HT : Hid (fs.take k = fs) := Lib.hid (List.take_of_length_le (by rw [HL.out]; omega))
      rw [HT.out] at hown hok
      have HR := Lib.hid (putR_good hok)
      clear hok hkn
      go_wp2_with fail
      go_ret2
      exact gives_of HR.out rfl rfl hown hbel
theorem info_u64 : (Tryd.prog.info? 22).map (fun i => (i.zero, i.size, i.bytes)) = some (some (.int .u64 0), 1, 8) := by kernel_rfl
/-- Three results: numbers, bytes, an error. -/
def Gives3 (w w' : World) (e : Ending) (r : List Int × List Int × Int) : Prop :=
  ∃ A c A' c', e = .returned (.tuple #[.slice A r.1.length c, .slice A' r.2.1.length c', .int .i64 r.2.2]) ∧ w'.ownsRow w.heap.size 22 1 (.slice A r.1.length c) r.1.length (r.1.map (Value.int .u64)) ∧
    w'.ownsRow w.heap.size 5 1 (.slice A' r.2.1.length c') r.2.1.length (r.2.1.map (Value.int .u8)) ∧ Below w.heap.size w w'
theorem gives3_err {w w' : World} {e : Ending} {x : Int} {r : List Int × List Int × Int} (hr : r = ([], [], x)) (he : e = .returned (.tuple #[.slice none 0 0, .slice none 0 0, .int .i64 x])) (hb : Below w.heap.size w w') : Gives3 w w' e r := by
  subst hr
  exact ⟨none, 0, none, 0, he, World.ownsRow_nil _ _ _ _, World.ownsRow_nil _ _ _ _, hb⟩
theorem gives3_of {w w' : World} {e : Ending} {v : Value} {A' : Option Addr} {m c' : Nat} {ns bs : List Int} {r : List Int × List Int × Int} (hr : r = (ns, bs, 0)) (he : e = .returned (.tuple #[v, .slice A' m c', .int .i64 0])) (hm : bs.length = m)
    (hv : w'.ownsRow w.heap.size 22 1 v ns.length (ns.map (Value.int .u64))) (ho : w'.ownsRow w.heap.size 5 1 (.slice A' bs.length c') bs.length (bs.map (Value.int .u8))) (hb : Below w.heap.size w w') : Gives3 w w' e r := by
  obtain ⟨A, c, hf⟩ := own_form hv
  subst hr hm
  exact ⟨A, c, A', c', by rw [he, hf], by rw [← hf]; exact hv, ho, hb⟩
theorem take_any (A A' : Option Addr) (n n' c c' : Nat) (xs zs : List Int) (w : World) (hx : xs.length = n) (hz : zs.length = n') (hnc : n ≤ c) (hn : n ≤ 140737488351232) (hn' : n' ≤ 17592186043904) (bxs : Bytes xs) (bzs : Sizes zs) (hr : Ints .u8 w w.heap.size A xs) (hr' : Ints .i64 w w.heap.size A' zs) :
    Calls Tryd.prog 42 #[.slice A n c, .slice A' n' c'] w fun e w' => Gives3 w w' e (takeR xs zs) := by
  obtain ⟨i0, hi, hz0, hz1, hz2⟩ := info_parts info_u64
  have Hx := Lib.hid hx
  have Hz := Lib.hid hz
  clear hx hz
  go_enter Tryd.func42, Tryd.ntmps42
  go_wp2_with fail
  go_loop [7, 15] (fun t i => ∃ k : Nat, k ≤ n' ∧ i = .int .i64 k ∧ okZ (zs.take k) = true ∧ t = .int .i64 (sumZ (zs.take k))) (fun _ i => n' - (intOf i).toNat)
  case atStart => exact ⟨0, by omega, rfl, rfl, rfl⟩
  case round =>
    obtain ⟨k, hk, rfl, hok, rfl⟩ := hrel
    have HOK := Lib.hid hok
    clear hok
    by_cases c1 : k < n'
    · obtain ⟨b, off, rfl, hb, hc⟩ := hr'.at_ (i := k) (by rw [Hz.out]; omega)
      have f1 := hc k (by rw [Hz.out]; omega)
      clear hc
      have bz := sizes_get bzs k
      obtain ⟨z, hzk⟩ : ∃ z, zs.getD k 0 = z := ⟨_, rfl⟩
      rw [hzk] at f1 bz
      have HZ := Lib.hid hzk
      clear hzk
      have hsum := sumZ_le HOK.out
      cases hv : decide (1 ≤ z ∧ z ≤ 8)
      · have HR : Hid (takeR xs zs = ([], [], 5)) := Lib.hid (takeR_size _ (by rw [Hz.out]; exact c1) (by rw [HZ.out]; exact hv))
        go_wp2_with (go_at_call 53; refine (valid_any _ _ (by omega)).mono ?_; rintro e w' ⟨rfl, rfl⟩)
        go_ret3
        exact gives3_err HR.out rfl (Below.refl _ _)
      · have hz8 : 1 ≤ z ∧ z ≤ 8 := of_decide_eq_true hv
        have HO2 := Lib.hid (okZ_snoc HOK.out (by rw [Hz.out]; exact c1) (by rw [HZ.out]; exact hv))
        have HS2 := Lib.hid (sumZ_snoc (zs := zs) (k := k) (by rw [Hz.out]; exact c1) HZ.out)
        have hlen : (zs.take k).length ≤ k := List.length_take_le _ _
        go_wp2_with (go_at_call 53; refine (valid_any _ _ (by omega)).mono ?_; rintro e w' ⟨rfl, rfl⟩)
        go_round
        case rel => exact ⟨k + 1, by omega, by go_num, HO2.out, by rw [HS2.out]⟩
        case measure => simp [intOf]; omega
    · have hkn : k = n' := by omega
      have HT : Hid (zs.take k = zs) := Lib.hid (List.take_of_length_le (by rw [Hz.out]; omega))
      rw [HT.out] at HOK ⊢
      clear hkn
      by_cases hlt : (n : Int) < sumZ zs
      · have HR : Hid (takeR xs zs = ([], [], 3)) := Lib.hid (takeR_short HOK.out (by rw [Hx.out]; exact hlt))
        go_wp2_with fail
        go_ret3
        exact gives3_err HR.out rfl (Below.refl _ _)
      · have HG := Lib.hid (takeR_good HOK.out (by rw [Hx.out]; exact hlt))
        go_wp2_with fail
        go_loopw [0, 10, 32] (fun s v i wr => ∃ j : Nat, j ≤ n' ∧ i = .int .i64 j ∧ ∃ Ab nb cb, s = .slice Ab nb cb ∧ nb ≤ cb ∧ (xs.drop (sumZ (zs.take j)).toNat).length = nb ∧ Ints .u8 wr w.heap.size Ab (xs.drop (sumZ (zs.take j)).toNat) ∧ wr.ownsRow w.heap.size 22 1 v j ((numsL xs (zs.take j)).map (Value.int .u64)) ∧ Below w.heap.size w wr) (fun _ _ i _ => n' - (intOf i).toNat)
        case atStart => exact ⟨0, by omega, rfl, A, n, c, rfl, hnc, by simpa [sumZ] using Hx.out, by simpa [sumZ] using hr, World.ownsRow_nil _ _ _ _, Below.refl _ _⟩
        case round =>
          obtain ⟨j, hj, rfl, Ab, nb, cb, rfl, hcb, hlb, hib, hown, hbel⟩ := hrel
          by_cases c2 : j < n'
          · obtain ⟨b, off, rfl, hb, hc⟩ := (hr'.below hbel).at_ (i := j) (by rw [Hz.out]; omega)
            have f1 := hc j (by rw [Hz.out]; omega)
            clear hc
            have hz8 := okZ_get HOK.out (k := j) (by rw [Hz.out]; omega)
            have HNS := Lib.hid (numsL_snoc HOK.out xs j (by rw [Hz.out]; omega))
            obtain ⟨z, hzk⟩ : ∃ z, zs.getD j 0 = z := ⟨_, rfl⟩
            have HSS := Lib.hid (sumZ_snoc (zs := zs) (k := j) (by rw [Hz.out]; omega) hzk)
            have hT := (sumZ_take_le HOK.out (j + 1)).2
            have hT0 := (sumZ_take_le HOK.out j).1
            rw [HSS.out] at hT
            rw [hzk] at f1 hz8 HNS
            clear hzk
            obtain ⟨m, rfl⟩ := Int.eq_ofNat_of_zero_le (show 0 ≤ z by omega)
            rw [Int.toNat_natCast] at HNS
            have HS3 : Hid ((sumZ (zs.take (j + 1))).toNat = (sumZ (zs.take j)).toNat + m) := Lib.hid (by rw [HSS.out]; omega)
            have hmn : m ≤ nb := by rw [List.length_drop, Hx.out] at hlb; omega
            generalize hys : xs.drop (sumZ (zs.take j)).toNat = ys at *
            have HYS := Lib.hid hys
            have HLB := Lib.hid hlb
            clear hys hlb
            have bys : Bytes ys := by rw [← HYS.out]; exact bytes_drop bxs _
            have hlm : (ys.take m).length = m := by rw [List.length_take, HLB.out]; omega
            have HLM := Lib.hid hlm
            have hpre := hib.pre (i := m)
            have hcut := hib.cut (c := cb) (i := m) (by rw [HLB.out]; exact hmn) (by rw [HLB.out]; exact hcb)
            clear hlm hT
            go_wp2_with (first | (go_at_call 55; refine (number_any _ _ _ (ys.take m) _ HLM.out (bytes_take bys m) (hpre.more hbel.size) (by omega)).mono ?_; rintro e w' ⟨rfl, rfl⟩) | (at_builtin; refine wpList_append_ints rfl _ _ 57 rfl .u64 w.heap.size 22 i0 _ 8 Tryd.underlying57 hi hz0 hz1 hz2 rfl _ j _ rfl (hown.alloc _) (wr.heap.size + 1) _ 1 1 [valL (ys.take m)] rfl rfl ?c1 ?c2 ?c3 ?c4 ?_; (case c1 => exact Ints.lit _ _ _ _ _ rfl); (case c2 => unfold maxLen; omega); (case c3 => omega); (case c4 => have := hbel.size; simp; omega); intro v2 w2 hown2 hb2 _))
            go_roundw
            case rel =>
              have hb3 := (hbel.alloc hbel.size (.cells #[.int .u64 (valL (ys.take m))] 22)).trans hb2
              refine ⟨j + 1, by omega, by go_num, _, _, _, rfl, ?_, ?_, ?_, ?_, hb3⟩
              · omega
              · rw [HS3.out, ← List.drop_drop, HYS.out, List.length_drop, HLB.out]
              · rw [HS3.out, ← List.drop_drop, HYS.out]
                exact (hcut.alloc hbel.size _).below hb2
              · rw [HNS.out, List.map_append]; exact hown2
            case measure => simp [intOf]; omega
          · have hjn : j = n' := by omega
            have HT2 : Hid (zs.take j = zs) := Lib.hid (List.take_of_length_le (by rw [Hz.out]; omega))
            rw [HT2.out] at hlb hib hown
            have HLB := Lib.hid hlb
            have HOW : Hid (wr.ownsRow w.heap.size 22 1 u10 (numsL xs zs).length ((numsL xs zs).map (Value.int .u64))) := Lib.hid (by rw [numsL_len, Hz.out, ← hjn]; exact hown)
            have hnb : nb ≤ 140737488351232 := by rw [← hlb, List.length_drop, Hx.out]; omega
            have hnil : Ab = none → nb = 0 := by
              intro e
              rcases hib with h | ⟨_, _, e', _⟩
              · rw [← hlb, h]; rfl
              · rw [e] at e'; cases e'
            clear hjn hlb
            go_wp2_with (go_at_call 56; refine (clone_any _ _ _ (xs.drop (sumZ zs).toNat) _ HLB.out (hib.more hbel.size) hnb hnil).mono ?_; rintro e w3 ⟨A3, c3, rfl, hown3, hb3⟩)
            go_ret3
            exact gives3_of HG.out rfl (by rw [List.length_drop]) (own_below HOW.out hb3) (own_base hown3 hbel.size) (hbel.trans (hb3.mono hbel.size))
end Go.Proofs.YtkpjpjjpjpimiaaDoor.Oct
