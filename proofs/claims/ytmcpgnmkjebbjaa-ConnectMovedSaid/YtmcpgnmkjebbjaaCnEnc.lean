/- The form of parameters: the layer's Encode and the document's. -/
import Derived.Test.YtmcpgnmkjebbjaaCnCheck
import Derived.Test.YtmcpgnmkjebbjaaCnRCheck
import Derived.Test.YtmcpgnmkjebbjaaOctRput
import Derived.Test.YtmcpgnmkjebbjaaRw
set_option linter.unusedVariables false
set_option linter.unusedSimpArgs false
namespace Go.Proofs.Ytmcpgnmkjebbjaa.Cn
open Go.RowKit Mem Clk Rw

def szL : List Int := [4, 3, 1, 2, 2, 2, 2, 5, 1, 2, 1]
/-- The numbers of the form, and its fields. -/
def nmL (a b s o i l t : Int) (m : Nat) (h d g : Int) : List Int := [a, b, s, o, i, l, t, (m : Int), h, d, g]
def flL (a b s o i l t : Int) (m : Nat) (h d g : Int) : List (Int × Int) := [(4, a), (3, b), (1, s), (2, o), (2, i), (2, l), (2, t), (5, (m : Int)), (1, h), (2, d), (1, g)]
theorem zip_fl (a b s o i l t : Int) (m : Nat) (h d g : Int) : szL.zip (nmL a b s o i l t m h d g) = flL a b s o i l t m h d g := rfl
/-- What Encode returns. -/
def encR (a b s o i l t : Int) (m : Nat) (h d g : Int) : List Int × Int := if okP a b s o i l t m h d g = 0 then (Oct.putL (flL a b s o i l t m h d g), 0) else ([], okP a b s o i l t m h d g)
structure Good (a b s o i l t : Int) (m : Nat) (h d g : Int) : Prop where
  ha : 0 ≤ a ∧ a ≤ 4294967295
  hb : 0 ≤ b ∧ b < 16777216
  hu : Rng s o i l t
  hm : m < 137438953472
  hh : 5 ≤ h ∧ h ≤ 16
  hd : 0 ≤ d ∧ d ≤ 500
  hg : g = 1 ∨ g = 2
theorem okP_good {a b s o i l t : Int} {m : Nat} {h d g : Int} (ha : 0 ≤ a ∧ a ≤ 4294967295) (hb : 0 ≤ b) (k : okP a b s o i l t m h d g = 0) : Good a b s o i l t m h d g := by
  unfold okP at k
  split at k
  · cases k
  · split at k
    · cases k
    · split at k
      · rename_i c; exact absurd k c
      · rename_i c3
        split at k
        · rename_i c; exact absurd k c
        · rename_i c4
          split at k
          · rename_i c5
            split at k
            · rename_i c6
              refine ⟨ha, ⟨hb, by omega⟩, ?_, ?_, c5.1, c5.2, c6⟩
              · have c3' : okU s o i l t = 0 := by simpa using c3
                unfold okU at c3'
                split at c3'
                · assumption
                · cases c3'
              · have c4' : Chm.okM m = 0 := by simpa using c4
                unfold Chm.okM at c4'
                split at c4'
                · cases c4'
                · omega
            · cases k
          · cases k
theorem fl_ok {a b s o i l t : Int} {m : Nat} {h d g : Int} (k : Good a b s o i l t m h d g) : (flL a b s o i l t m h d g).all Oct.okF = true := by
  obtain ⟨ha, hb, ⟨u1, u2, u3, u4, u5, u6, u7, u8, u9, u10⟩, hm, hh, hd, hg⟩ := k
  have p4 : Ser.p2 (8 * (4 : Int).toNat) = 4294967296 := by decide
  have p3 : Ser.p2 (8 * (3 : Int).toNat) = 16777216 := by decide
  have p1 : Ser.p2 (8 * (1 : Int).toNat) = 256 := by decide
  have p2' : Ser.p2 (8 * (2 : Int).toNat) = 65536 := by decide
  have p5 : Ser.p2 (8 * (5 : Int).toNat) = 1099511627776 := by decide
  simp only [flL, List.all_cons, List.all_nil, Oct.okF, p4, p3, p1, p2', p5, Bool.and_true, Bool.and_eq_true, decide_eq_true_eq]
  refine ⟨⟨by decide, by omega⟩, ⟨by decide, by omega⟩, ⟨by decide, by omega⟩, ⟨by decide, by omega⟩, ⟨by decide, by omega⟩, ⟨by decide, by omega⟩, ⟨by decide, by omega⟩, ⟨by decide, by omega⟩, ⟨by decide, by omega⟩, ⟨by decide, by omega⟩, ⟨by decide, by omega⟩⟩
theorem fl_len (a b s o i l t : Int) (m : Nat) (h d g : Int) : (Oct.putL (flL a b s o i l t m h d g)).length = 25 := by simp [flL, Oct.putL, Oct.numL_len]
theorem enc_good {a b s o i l t : Int} {m : Nat} {h d g : Int} (ha : 0 ≤ a ∧ a ≤ 4294967295) (hb : 0 ≤ b) (k : okP a b s o i l t m h d g = 0) : Oct.putR (flL a b s o i l t m h d g) = encR a b s o i l t m h d g := by
  rw [Oct.putR_good (fl_ok (okP_good ha hb k))]
  unfold encR; rw [if_pos k]
theorem enc_bad {a b s o i l t : Int} {m : Nat} {h d g : Int} (k : okP a b s o i l t m h d g ≠ 0) : encR a b s o i l t m h d g = ([], okP a b s o i l t m h d g) := by
  unfold encR; rw [if_neg k]
def encF (f : Int × Int) : List Value := [.int .i64 f.1, .int .u64 f.2]
theorem sizF : Sized encF 2 := fun f => ⟨rfl, fun u hu => by simp [encF] at hu; rcases hu with rfl | rfl <;> rfl⟩
theorem flds_own {w : World} {base n c : Nat} {A : Option Addr} {fs : List (Int × Int)} (h : w.ownsRow base 96 2 (.slice A n c) n (fs.flatMap encF)) : Oct.FldsAt w w.heap.size A fs := by
  cases fs with
  | nil => exact .inl rfl
  | cons f r =>
    obtain ⟨b, off, e, hlt, hc⟩ := ListAt.open_ (l := f :: r) (show ListAt encF w w.heap.size A (f :: r) from CellsAt.own h) sizF (by decide) (by simp)
    exact .inr ⟨b, off, e, hlt, fun j x hj => ⟨hc j x hj 0 _ rfl, hc j x hj 1 _ rfl⟩⟩
theorem info_fld : (Try.prog.info? 96).map (fun i => (i.zero, i.size, i.bytes)) = some (some (.agg #[.int .i64 0, .int .u64 0]), 2, 16) := by kernel_rfl
theorem sizes_any (w : World) : Calls Try.prog 47 #[] w fun e w' => e = .returned (.slice (some ⟨w.heap.size, 0, none⟩) 11 11) ∧ w' = w.alloc (.cells (szL.map (Value.int .i64)).toArray 3) := by
  go_enter Try.func47, Try.ntmps47
  go_wp2_with fail
  go_ret
  exact ⟨rfl, rfl⟩
theorem sz_bd : ∀ z ∈ szL, 1 ≤ z ∧ z ≤ 8 := by decide
theorem zip_take (zs xs : List Int) (k : Nat) (z x : Int) (hz : zs[k]? = some z) (hx : xs[k]? = some x) : ((zs.zip xs).take (k + 1)).flatMap encF = ((zs.zip xs).take k).flatMap encF ++ [.int .i64 z, .int .u64 x] := by
  have h : (zs.zip xs)[k]? = some (z, x) := by simp [List.zip, List.getElem?_zipWith, hz, hx]
  have hk : k < (zs.zip xs).length := by
    rcases Nat.lt_or_ge k (zs.zip xs).length with g | g
    · exact g
    · rw [List.getElem?_eq_none g] at h; cases h
  rw [List.getElem?_eq_getElem hk] at h
  injection h with h
  rw [List.take_succ_eq_append_getElem hk, flat_append, h]; rfl
set_option maxRecDepth 100000 in
set_option maxHeartbeats 1000000 in
theorem form_any (g : Nat) (xs : List Int) (w : World) (hx : xs.length = 11) (bx : ∀ x ∈ xs, 0 ≤ x ∧ x ≤ 9223372036854775807) (hr : Ints .i64 w w.heap.size (some ⟨g, 0, none⟩) xs) :
    Calls Try.prog 43 #[.slice (some ⟨g, 0, none⟩) 11 11] w fun e w' => Oct.Gives w w' e (Oct.putR (szL.zip xs)) := by
  obtain ⟨i0, hi, hz0, hz1, hz2⟩ := info_parts info_fld
  have HX := Lib.hid hx
  have BX := Lib.hid bx
  have HF : Hid (Oct.Fields (szL.zip xs)) := Lib.hid fun f hf => by
    have h1 := sz_bd f.1 (List.of_mem_zip hf).1
    have h2 := bx f.2 (List.of_mem_zip hf).2
    omega
  have HL : Hid ((szL.zip xs).length = 11) := Lib.hid (by rw [List.length_zip, hx]; rfl)
  have L0 : Ints .i64 (w.alloc (.cells (szL.map (Value.int .i64)).toArray 3)) (w.heap.size + 1) (some ⟨w.heap.size, 0, none⟩) szL := Ints.lit _ _ _ _ _ rfl
  have hr1 := (hr.alloc (Nat.le_refl _) (.cells (szL.map (Value.int .i64)).toArray 3)).more (B' := w.heap.size + 1) (Nat.le_succ _)
  have hb0 : Below w.heap.size w (w.alloc (.cells (szL.map (Value.int .i64)).toArray 3)) := (Below.refl _ w).alloc (Nat.le_refl _) _
  have hsz : (w.alloc (.cells (szL.map (Value.int .i64)).toArray 3)).heap.size = w.heap.size + 1 := by simp
  rw [← hsz] at L0 hr1
  clear hx bx hr hsz
  go_enter Try.func43, Try.ntmps43
  go_wp2_with (go_at_call 47; refine (sizes_any _).mono ?_; rintro e w1 ⟨rfl, rfl⟩)
  generalize w.alloc (.cells (szL.map (Value.int .i64)).toArray 3) = W at *
  go_loopw [4, 9] (fun v i wr => ∃ k : Nat, k ≤ 11 ∧ i = .int .i64 k ∧ wr.ownsRow W.heap.size 96 2 v k (((szL.zip xs).take k).flatMap encF) ∧ Below W.heap.size W wr) (fun _ i _ => 11 - (intOf i).toNat)
  case atStart => exact ⟨0, by omega, rfl, World.ownsRow_nil _ _ _ _, Below.refl _ _⟩
  case round =>
    obtain ⟨k, hk, rfl, hown, hbel⟩ := hrel
    by_cases c1 : k < 11
    · obtain ⟨z, hzk⟩ : ∃ z, szL[k]? = some z := ⟨_, List.getElem?_eq_getElem (show k < szL.length from c1)⟩
      obtain ⟨x, hxk⟩ : ∃ x, xs[k]? = some x := ⟨_, List.getElem?_eq_getElem (by rw [HX.out]; exact c1)⟩
      have hxb := BX.out x (List.mem_of_getElem? hxk)
      have eX : IntKind.u64.wrap x = x := by rw [Ser.wrap_u64]; omega
      have HT := Lib.hid (zip_take szL xs k z x hzk hxk)
      obtain ⟨b, off, e1, hb, hc⟩ := (L0.below hbel).at_ (i := k) (show k < szL.length from c1)
      obtain ⟨b', off', e2, hb', hc'⟩ := (hr1.below hbel).at_ (i := k) (by rw [HX.out]; exact c1)
      injection e1 with e1; injection e1 with e1 e1'; subst e1; subst e1'
      injection e2 with e2; injection e2 with e2 e2'; subst e2; subst e2'
      have f1 := hc k (by exact c1)
      have f2 := hc' k (by rw [HX.out]; exact c1)
      rw [show szL.getD k 0 = z by rw [List.getD_eq_getElem?_getD, hzk]; rfl] at f1
      rw [show xs.getD k 0 = x by rw [List.getD_eq_getElem?_getD, hxk]; rfl] at f2
      simp only [Nat.zero_add] at f1 f2
      obtain ⟨A, c, rfl⟩ := own_form hown
      clear hc hc' hzk hxk
      go_wp2_with (at_builtin; refine wpList_append_rows rfl (.tmp 14) (.tmp 22) 74 rfl W.heap.size 96 i0 _ 2 16 Try.underlying74 hi hz0 hz1 hz2 rfl (by decide) _ k _ rfl (World.ownsRow.alloc hown _) _ (some ⟨wr.heap.size, 0, none⟩) 1 1 [.int .i64 z, .int .u64 x] rfl rfl (by intro u hu; simp at hu; rcases hu with rfl | rfl <;> rfl) (CellsAt.lit wr [.int .i64 z, .int .u64 x] _ 96 rfl) (by unfold maxLen; omega) (by omega) (by have := hbel.size; simp; omega) ?_; intro v2 w2 own2 b2 gr2)
      go_roundw
      case rel => exact ⟨k + 1, by omega, by go_num, by rw [HT.out]; exact own2, (hbel.alloc hbel.size _).trans b2⟩
      case measure => simp [intOf]; omega
    · obtain rfl : k = 11 := by omega
      have HT : Hid ((szL.zip xs).take 11 = szL.zip xs) := Lib.hid (List.take_of_length_le (by rw [HL.out]; exact Nat.le_refl _))
      rw [HT.out] at hown
      obtain ⟨A, c, rfl⟩ := own_form hown
      have HFA := Lib.hid (flds_own hown)
      have HP := Lib.hid (Oct.put_any A 11 c (szL.zip xs) wr HF.out HL.out (by decide) HFA.out)
      clear hown
      go_wp2_with (go_at_call 68; refine HP.out.mono ?_; rintro e w2 ⟨A2, c2, rfl, own2, b2⟩)
      go_ret2
      have hwW : w.heap.size ≤ wr.heap.size := Nat.le_trans hb0.size hbel.size
      exact ⟨A2, c2, rfl, own_base own2 hwW, hb0.trans ((hbel.trans (b2.mono hbel.size)).mono hb0.size)⟩
end Go.Proofs.Ytmcpgnmkjebbjaa.Cn
