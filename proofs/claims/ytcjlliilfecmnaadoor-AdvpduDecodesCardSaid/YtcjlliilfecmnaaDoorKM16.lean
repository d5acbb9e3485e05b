/- The statements on advertising PDUs, walked: what is decoded. The statements on advertising PDUs, walked: a PDU and its bytes. The statements on advertising PDUs and their bytes: their walks over what is read. -/
import Derived.Test.YtcjlliilfecmnaaDoorKApLaws
import Derived.Test.YtcjlliilfecmnaaDoorKApRDecG
import Derived.Test.YtcjlliilfecmnaaDoorKM15
section
set_option linter.unusedVariables false
set_option linter.unusedSimpArgs false
namespace Go.Proofs.YtcjlliilfecmnaaDoor.Ap
open Go.RowKit Mem Oct
open Base (thenB)

/-- A PDU was decoded: its length has a name. -/
def Dec2 (w w' : World) (e : Ending) (q : Pd) (m : Nat) (x : Int) : Prop :=
  ∃ A c, e = .returned (.tuple #[.agg (cel q (.slice A m c)), .int .i64 x]) ∧ m ≤ c ∧ Ints .u8 w' w'.heap.size A q.ds ∧ Below w.heap.size w w'
theorem dec2_of {w w' : World} {e : Ending} {q : Pd} {m : Nat} {x : Int} (h : Decd w w' e (q, x)) (hm : q.ds.length = m) : Dec2 w w' e q m x := by
  obtain ⟨A, c, he, hc, hi, hb⟩ := h
  subst hm
  exact ⟨A, c, he, hc, hi, hb⟩
theorem dec_bytes {xs : List Int} (h : Bytes xs) : Bytes (decP xs).1.ds := by
  by_cases hx : (decP xs).2 = 0
  · exact (form_dec h hx).2.2.2
  · rw [dec_err hx]; intro z hz; cases hz
set_option maxRecDepth 100000 in
set_option maxHeartbeats 4000000 in
theorem law_decodes (A : Option Addr) (n c : Nat) (xs : List Int) (w : World) (hx : xs.length = n) (hnc : n ≤ c) (hr : Ints .u8 w w.heap.size A xs) (bxs : Bytes xs) (hn2 : n ≤ 140737488351232) (hT : Adr.Tab w) :
    Calls Tryd.prog 5 #[.slice A n c] w fun e w' => e = .returned (.bool true) ∧ Below w.heap.size w w' := by
  obtain ⟨q, x, hz⟩ : ∃ q x, decP xs = (q, x) := ⟨_, _, rfl⟩
  obtain ⟨m, hm⟩ : ∃ m, q.ds.length = m := ⟨_, rfl⟩
  have bq : Bytes q.ds := by have := dec_bytes bxs; rw [hz] at this; exact this
  have HLi := Lib.hid lives_any
  have HD : Hid (∀ A' c' w', Ints .u8 w' w'.heap.size A' xs → n ≤ c' → Adr.Tab w' → Calls Tryd.prog 16 #[.slice A' n c'] w' fun e w2 => Dec2 w' w2 e q m x) := Lib.hid fun A' c' w' h1 h2 h3 => (decode_any A' n c' xs w' hx h2 bxs h1 h3).mono fun e w2 hd => dec2_of (hz ▸ hd) hm
  have HR : Hid (∀ w', Below w.heap.size w w' → Calls Tryd.prog 17 #[.slice A n c] w' fun e w2 => Dec2 w' w2 e q m x) := Lib.hid fun w' b => (rdecode_any A n c xs w' hx hnc hn2 bxs (Base.later hr b)).mono fun e w2 hd => dec2_of (hz ▸ hd) hm
  have HS : Hid (∀ A A' c c' w', Ints .u8 w' w'.heap.size A q.ds → Ints .u8 w' w'.heap.size A' q.ds → Calls Tryd.prog 18 #[.agg (cel q (.slice A m c)), .agg (cel q (.slice A' m c'))] w' fun e w2 => e = .returned (.bool true) ∧ Below w'.heap.size w' w2) := Lib.hid fun A A' c c' w' h1 h2 => same_yes q A A' m c c' w' hm bq h1 h2
  have H1 : ∀ (A : Option Addr) (n c : Nat), (cel q (.slice A n c)).all (·.oneCell') = true := fun A n c => by rw [← Array.all_toList]; rfl
  obtain ⟨i0, hi, hz0, hz1, hz2⟩ := info_parts Base.info_u8
  have BX := Below.refl w.heap.size w
  have TX := hT
  clear hT hz hm bq bxs hnc
  go_enter Tryd.func5, Tryd.ntmps5
  have own0 : (w.alloc (.cells #[] 5)).ownsRow w.heap.size 5 1 (.slice (some ⟨w.heap.size, 0, none⟩) 0 0) 0 [] := by
    have := World.ownsRow_made (base := w.heap.size) (e := 5) (size := 1) w #[] 0 (Nat.le_refl _) (by unfold maxLen; omega) rfl
    simpa using this
  have IR := (hr).alloc (Nat.le_refl _) (.cells #[] 5)
  have bz : Below w.heap.size w (w.alloc (.cells #[] 5)) := (Below.refl _ _).alloc (Nat.le_refl _) _
  go_wp2_with (at_builtin; refine wpList_append_ints rfl _ _ 25 rfl .u8 w.heap.size 5 i0 _ 1 Tryd.underlying25 hi hz0 hz1 hz2 rfl (.slice (some ⟨w.heap.size, 0, none⟩) 0 0) 0 [] rfl own0 w.heap.size A n c xs rfl hx IR (by unfold maxLen; omega) (by omega) (by simp) ?_; intro v1 w1 own1 b1 g1; obtain ⟨A1, c1, rfl⟩ := own_form own1; simp only [Nat.zero_add, List.nil_append] at own1 ⊢)
  have I1 := Ints.own own1
  have hc1 := own_cap own1
  have BX1 := thenB BX (bz.trans b1)
  have T1 := TX.below (bz.trans b1)
  clear own0 IR bz own1 b1 g1
  clear hi hz0 hz1 hz2 BX TX
  refine (HD.out A1 c1 w1 I1 hc1 T1).mono ?_
  rintro e w2 ⟨A2, c2, rfl, hc2, I2, b2⟩
  replace BX1 := thenB BX1 b2
  replace T1 := T1.below b2
  clear b2 I1
  have K3 := Blk.fresh w2 33 #[.int .i64 0, .int .i64 0, .int .u64 0, .int .i64 0, .int .u64 0, .slice none 0 0, .int .u32 0, .int .u32 0, .int .i64 0, .int .i64 0, .int .i64 0, .int .i64 0, .int .i64 0, .int .u64 0, .int .i64 0, .int .i64 0, .int .i64 0]
  go_upto_region 2 with (refine wpList_store_row rfl 33 (.tmp 3) _ rfl w2.heap.size (cel q (.slice A2 m c2)) rfl rfl 33 _ K3 (by kernel_rfl) rfl (H1 _ _ _) ?_)
  have b9 : Below w2.heap.size w2 ((w2.alloc (.cells #[.int .i64 0, .int .i64 0, .int .u64 0, .int .i64 0, .int .u64 0, .slice none 0 0, .int .u32 0, .int .u32 0, .int .i64 0, .int .i64 0, .int .i64 0, .int .i64 0, .int .i64 0, .int .u64 0, .int .i64 0, .int .i64 0, .int .i64 0] 33)).setRow w2.heap.size (cel q (.slice A2 m c2))) := below_setRow ((Below.refl w2.heap.size w2).alloc (Nat.le_refl _) (.cells #[.int .i64 0, .int .i64 0, .int .u64 0, .int .i64 0, .int .u64 0, .slice none 0 0, .int .u32 0, .int .u32 0, .int .i64 0, .int .i64 0, .int .i64 0, .int .i64 0, .int .i64 0, .int .u64 0, .int .i64 0, .int .i64 0, .int .i64 0] 33)) (Nat.le_refl _) (cel q (.slice A2 m c2))
  replace K3 : Blk ((w2.alloc (.cells #[.int .i64 0, .int .i64 0, .int .u64 0, .int .i64 0, .int .u64 0, .slice none 0 0, .int .u32 0, .int .u32 0, .int .i64 0, .int .i64 0, .int .i64 0, .int .i64 0, .int .i64 0, .int .u64 0, .int .i64 0, .int .i64 0, .int .i64 0] 33)).setRow w2.heap.size (cel q (.slice A2 m c2))) w2.heap.size 33 (cel q (.slice A2 m c2)) := setRow_heap _ w2.heap.size _ (cel q (.slice A2 m c2)) 33 (0, 0) K3
  replace BX1 := thenB BX1 b9
  replace T1 := T1.below b9
  replace I2 := Base.later I2 b9
  clear b9
  generalize ((w2.alloc (.cells #[.int .i64 0, .int .i64 0, .int .u64 0, .int .i64 0, .int .u64 0, .slice none 0 0, .int .u32 0, .int .u32 0, .int .i64 0, .int .i64 0, .int .i64 0, .int .i64 0, .int .i64 0, .int .u64 0, .int .i64 0, .int .i64 0, .int .i64 0] 33)).setRow w2.heap.size (cel q (.slice A2 m c2))) = X2 at *
  generalize w2.heap.size = g3 at *
  go_wp2_with fail
  refine (HR.out X2 BX1).mono ?_
  rintro e w3 ⟨A3, c3, rfl, hc3, I3, b3⟩
  replace BX1 := thenB BX1 b3
  replace T1 := T1.below b3
  replace K3 := K3.below b3 K3.lt
  replace I2 := Base.later I2 b3
  clear b3
  have K5 := Blk.fresh w3 33 #[.int .i64 0, .int .i64 0, .int .u64 0, .int .i64 0, .int .u64 0, .slice none 0 0, .int .u32 0, .int .u32 0, .int .i64 0, .int .i64 0, .int .i64 0, .int .i64 0, .int .i64 0, .int .u64 0, .int .i64 0, .int .i64 0, .int .i64 0]
  go_upto_region 3 with (refine wpList_store_row rfl 33 (.tmp 5) _ rfl w3.heap.size (cel q (.slice A3 m c3)) rfl rfl 33 _ K5 (by kernel_rfl) rfl (H1 _ _ _) ?_)
  have b9 : Below w3.heap.size w3 ((w3.alloc (.cells #[.int .i64 0, .int .i64 0, .int .u64 0, .int .i64 0, .int .u64 0, .slice none 0 0, .int .u32 0, .int .u32 0, .int .i64 0, .int .i64 0, .int .i64 0, .int .i64 0, .int .i64 0, .int .u64 0, .int .i64 0, .int .i64 0, .int .i64 0] 33)).setRow w3.heap.size (cel q (.slice A3 m c3))) := below_setRow ((Below.refl w3.heap.size w3).alloc (Nat.le_refl _) (.cells #[.int .i64 0, .int .i64 0, .int .u64 0, .int .i64 0, .int .u64 0, .slice none 0 0, .int .u32 0, .int .u32 0, .int .i64 0, .int .i64 0, .int .i64 0, .int .i64 0, .int .i64 0, .int .u64 0, .int .i64 0, .int .i64 0, .int .i64 0] 33)) (Nat.le_refl _) (cel q (.slice A3 m c3))
  replace K5 : Blk ((w3.alloc (.cells #[.int .i64 0, .int .i64 0, .int .u64 0, .int .i64 0, .int .u64 0, .slice none 0 0, .int .u32 0, .int .u32 0, .int .i64 0, .int .i64 0, .int .i64 0, .int .i64 0, .int .i64 0, .int .u64 0, .int .i64 0, .int .i64 0, .int .i64 0] 33)).setRow w3.heap.size (cel q (.slice A3 m c3))) w3.heap.size 33 (cel q (.slice A3 m c3)) := setRow_heap _ w3.heap.size _ (cel q (.slice A3 m c3)) 33 (0, 0) K5
  replace BX1 := thenB BX1 b9
  replace T1 := T1.below b9
  replace I2 := Base.later I2 b9
  replace I3 := Base.later I3 b9
  replace K3 := K3.below b9 K3.lt
  clear b9
  generalize ((w3.alloc (.cells #[.int .i64 0, .int .i64 0, .int .u64 0, .int .i64 0, .int .u64 0, .slice none 0 0, .int .u32 0, .int .u32 0, .int .i64 0, .int .i64 0, .int .i64 0, .int .i64 0, .int .i64 0, .int .u64 0, .int .i64 0, .int .i64 0, .int .i64 0] 33)).setRow w3.heap.size (cel q (.slice A3 m c3))) = X3 at *
  generalize w3.heap.size = g5 at *
  go_wp2_with fail
  refine (HLi.out X3 T1).mono ?_
  rintro e w4 ⟨rfl, b4⟩
  replace BX1 := thenB BX1 b4
  replace I2 := Base.later I2 b4
  replace I3 := Base.later I3 b4
  replace K3 := K3.below b4 K3.lt
  replace K5 := K5.below b4 K5.lt
  clear b4 T1
  go_wp2_with (first | (refine wpList_on (by rfl) (wpList_load_row rfl 33 (.tmp 3) rfl g3 rfl 33 _ (0, 0) _ K3 Tryd.underlying33 rfl (by kernel_rfl) ?_)) | (refine wpList_on (by rfl) (wpList_load_row rfl 33 (.tmp 5) rfl g5 rfl 33 _ (0, 0) _ K5 Tryd.underlying33 rfl (by kernel_rfl) ?_)))
  refine (HS.out A2 A3 c2 c3 w4 I2 I3).mono ?_
  rintro e w5 ⟨rfl, b5⟩
  go_wp2_with fail
  go_ret
  exact ⟨rfl, thenB BX1 b5⟩
end Go.Proofs.YtcjlliilfecmnaaDoor.Ap

end
section
set_option linter.unusedVariables false
set_option linter.unusedSimpArgs false
namespace Go.Proofs.YtcjlliilfecmnaaDoor.Ap
open Go.RowKit Mem Oct
open Base (thenB)

theorem enc_err (p : Pd) : (encP p).2 = chkP p := by
  unfold encP
  split
  · rename_i h; exact h.symm
  · rfl
set_option maxRecDepth 100000 in
set_option maxHeartbeats 4000000 in
theorem law_back (p : Pd) (A : Option Addr) (n c : Nat) (A' : Option Addr) (n' c' : Nat) (bs : List Int) (w : World) (h : Arg w p A n c) (hx : bs.length = n') (hnc : n' ≤ c') (hr : Ints .u8 w w.heap.size A' bs) (bbs : Bytes bs) (hn2 : n' ≤ 140737488351232) (hT : Adr.Tab w) :
    Calls Tryd.prog 7 #[.agg (cel p (.slice A n c)), .slice A' n' c'] w fun e w' => e = .returned (.bool true) ∧ Below w.heap.size w w' := by
  obtain ⟨zs, x, hz⟩ : ∃ zs x, encP p = (zs, x) := ⟨_, _, rfl⟩
  obtain ⟨m, hm⟩ : ∃ m, zs.length = m := ⟨_, rfl⟩
  have hcx : chkP p = x := by have := enc_err p; rw [hz] at this; exact this.symm
  have bz' : Bytes zs := by have := enc_bytes h.bd; rw [hz] at this; exact this
  obtain ⟨q, f, hq⟩ : ∃ q f, decP bs = (q, f) := ⟨_, _, rfl⟩
  obtain ⟨m2, hm2⟩ : ∃ m2, q.ds.length = m2 := ⟨_, rfl⟩
  have HLi := Lib.hid lives_any
  have HO : Hid (∀ w', Below w.heap.size w w' → Calls Tryd.prog 11 #[.agg (cel p (.slice A n c))] w' fun e w2 => ∃ A1 c1, e = .returned (.agg (cel p (.slice A1 n c1))) ∧ Arg w2 p A1 n c1 ∧ Below w'.heap.size w' w2) := Lib.hid fun w' b => (h.later b).own
  have HE : Hid (∀ A1 c1 w', Arg w' p A1 n c1 → Adr.Tab w' → Calls Tryd.prog 13 #[.agg (cel p (.slice A1 n c1))] w' fun e w2 => Enc w' w2 e zs m x) := Lib.hid fun A1 c1 w' h' hT' => h'.enc hT' hz hm
  have HC : Hid (∀ A1 c1 w', Arg w' p A1 n c1 → Adr.Tab w' → Calls Tryd.prog 10 #[.agg (cel p (.slice A1 n c1))] w' fun e w2 => e = .returned (.int .i64 x) ∧ Below w'.heap.size w' w2) := Lib.hid fun A1 c1 w' h' hT' => by
    have := check_any p A1 n c1 w' h'.hn h'.hW hT'
    rwa [hcx] at this
  have HP : Hid (x = 0 → ∀ A1 c1 w', Ints .u8 w' w'.heap.size A1 zs → m ≤ c1 → Adr.Tab w' → Calls Tryd.prog 16 #[.slice A1 m c1] w' fun e w2 => Dec2 w' w2 e p n 0) := Lib.hid fun h0 A1 c1 w' h1 h2 h3 => by
    have hd : decP zs = (p, 0) := by
      have := dec_enc (hcx.trans h0) h.hW
      rw [hz] at this; exact this
    exact (decode_any A1 m c1 zs w' hm h2 bz' h1 h3).mono fun e w2 hd' => dec2_of (hd ▸ hd') h.hn
  have HSp : Hid (∀ A1 c1 w', Below w.heap.size w w' → Ints .u8 w' w'.heap.size A1 p.ds → Calls Tryd.prog 18 #[.agg (cel p (.slice A n c)), .agg (cel p (.slice A1 n c1))] w' fun e w2 => e = .returned (.bool true) ∧ Below w'.heap.size w' w2) := Lib.hid fun A1 c1 w' b h2 => same_yes p A A1 n c c1 w' h.hn h.bd (Base.later h.hr b) h2
  have HD : Hid (∀ A1 c1 w', Ints .u8 w' w'.heap.size A1 bs → n' ≤ c1 → Adr.Tab w' → Calls Tryd.prog 16 #[.slice A1 n' c1] w' fun e w2 => Dec2 w' w2 e q m2 f) := Lib.hid fun A1 c1 w' h1 h2 h3 => (decode_any A1 n' c1 bs w' hx h2 bbs h1 h3).mono fun e w2 hd => dec2_of (hq ▸ hd) hm2
  have HQ : Hid (f = 0 → (∀ A1 c1 w', Ints .u8 w' w'.heap.size A1 q.ds → Adr.Tab w' → Calls Tryd.prog 13 #[.agg (cel q (.slice A1 m2 c1))] w' fun e w2 => Enc w' w2 e bs n' 0) ∧ (∀ A1 c1 w', Adr.Tab w' → Calls Tryd.prog 10 #[.agg (cel q (.slice A1 m2 c1))] w' fun e w2 => e = .returned (.int .i64 0) ∧ Below w'.heap.size w' w2)) := Lib.hid fun h0 => by
    have hd := form_dec bbs (by rw [hq]; exact h0)
    rw [hq] at hd
    obtain ⟨d1, d2, d3, d4⟩ := hd
    have he : encP q = (bs, 0) := by
      unfold encP; rw [if_pos d1]
      exact congrArg (fun z => (z, (0 : Int))) d2
    exact ⟨fun A1 c1 w' h1 h2 => (encode_any q A1 m2 c1 w' hm2 d3 h1 h2).mono fun e w2 hg => enc_of (he ▸ hg) hx, fun A1 c1 w' h2 => by
      have := check_any q A1 m2 c1 w' hm2 d3 h2
      rwa [show chkP q = 0 from d1] at this⟩
  have HZ : Hid (f ≠ 0 → ∀ A1 c1 w', Calls Tryd.prog 18 #[.agg (cel q (.slice A1 m2 c1)), .agg #[.int .i64 0, .int .i64 0, .int .u64 0, .int .i64 0, .int .u64 0, .slice none 0 0, .int .u32 0, .int .u32 0, .int .i64 0, .int .i64 0, .int .i64 0, .int .i64 0, .int .i64 0, .int .u64 0, .int .i64 0, .int .i64 0, .int .i64 0]] w' fun e w2 => e = .returned (.bool true) ∧ Below w'.heap.size w' w2) := Lib.hid fun h0 A1 c1 w' => by
    have hd := dec_err (xs := bs) (by rw [hq]; exact h0)
    rw [hq] at hd
    have hd : q = zp := hd
    subst hd
    have hm0 : m2 = 0 := hm2.symm
    subst hm0
    exact same_yes zp A1 none 0 c1 0 w' rfl (fun z hz => by cases hz) (.inl rfl) (.inl rfl)
  have HB : Hid (∀ A1 c1 w', Ints .u8 w' w'.heap.size A1 bs → Below w.heap.size w w' → Calls Tryd.prog 15 #[.slice A1 n' c1, .slice A' n' c'] w' fun e w2 => e = .returned (.bool true) ∧ w' = w2) := Lib.hid fun A1 c1 w' h1 b => bytes_same_yes A1 A' n' c1 c' bs w' hx bbs h1 (Base.later hr b)
  have H1 : ∀ (A : Option Addr) (n c : Nat), (cel p (.slice A n c)).all (·.oneCell') = true := fun A n c => by rw [← Array.all_toList]; rfl
  have H2 : ∀ (A : Option Addr) (n c : Nat), (cel q (.slice A n c)).all (·.oneCell') = true := fun A n c => by rw [← Array.all_toList]; rfl
  obtain ⟨i0, hi, hz0, hz1, hz2⟩ := info_parts Base.info_u8
  have K0 := Blk.fresh w 33 (cel p (.slice A n c))
  have BX : Below w.heap.size w (w.alloc (.cells (cel p (.slice A n c)) 33)) := (Below.refl _ _).alloc (Nat.le_refl _) _
  have TX := hT.below BX
  clear hT h hz hm bz' hq hm2 bbs hnc hcx
  go_enter Tryd.func7, Tryd.ntmps7
  go_upto_region 1 with (fail)
  generalize (w.alloc (.cells (cel p (.slice A n c)) 33)) = W0 at *
  go_wp2_with fail
  refine (HLi.out W0 TX).mono ?_
  rintro e v0 ⟨rfl, b0⟩
  replace BX := thenB BX b0
  replace TX := TX.below b0
  replace K0 := K0.below b0 K0.lt
  clear b0
  go_wp2_with (refine wpList_load_row rfl 33 (.tmp 2) rfl w.heap.size rfl 33 _ (0, 0) _ K0 Tryd.underlying33 rfl (by kernel_rfl) ?_)
  refine (HO.out v0 BX).mono ?_
  rintro e v1 ⟨B1, d1, rfl, G1, b1⟩
  replace BX := thenB BX b1
  replace TX := TX.below b1
  replace K0 := K0.below b1 K0.lt
  clear b1
  go_wp2_with fail
  refine (HE.out B1 d1 v1 G1 TX).mono ?_
  rintro e v2 ⟨B2, d2, rfl, hd2, J2, b2⟩
  replace BX := thenB BX b2
  replace TX := TX.below b2
  replace K0 := K0.below b2 K0.lt
  clear b2 G1
  go_wp2_with (refine wpList_load_row rfl 33 (.tmp 2) rfl w.heap.size rfl 33 _ (0, 0) _ K0 Tryd.underlying33 rfl (by kernel_rfl) ?_)
  refine (HO.out v2 BX).mono ?_
  rintro e v3 ⟨B3, d3, rfl, G3, b3⟩
  replace BX := thenB BX b3
  replace TX := TX.below b3
  replace K0 := K0.below b3 K0.lt
  replace J2 := Base.later J2 b3
  clear b3
  go_wp2_with fail
  refine (HC.out B3 d3 v3 G3 TX).mono ?_
  rintro e v4 ⟨rfl, b4⟩
  replace BX := thenB BX b4
  replace TX := TX.below b4
  replace K0 := K0.below b4 K0.lt
  replace J2 := Base.later J2 b4
  clear b4 G3
  by_cases hx0 : x = 0
  · subst hx0
    have HP0 := Lib.hid (HP.out rfl)
    go_wp2_with fail
    refine (HP0.out B2 d2 v4 J2 hd2 TX).mono ?_
    rintro e v5 ⟨B5, d5, rfl, hd5, J5, b5⟩
    replace BX := thenB BX b5
    replace TX := TX.below b5
    replace K0 := K0.below b5 K0.lt
    clear b5 J2
    have K7 := Blk.fresh v5 33 #[.int .i64 0, .int .i64 0, .int .u64 0, .int .i64 0, .int .u64 0, .slice none 0 0, .int .u32 0, .int .u32 0, .int .i64 0, .int .i64 0, .int .i64 0, .int .i64 0, .int .i64 0, .int .u64 0, .int .i64 0, .int .i64 0, .int .i64 0]
    go_upto_region 8 with (refine wpList_store_row rfl 33 (.tmp 7) _ rfl v5.heap.size (cel p (.slice B5 n d5)) rfl rfl 33 _ K7 (by kernel_rfl) rfl (H1 _ _ _) ?_)
    have b9 : Below v5.heap.size v5 ((v5.alloc (.cells #[.int .i64 0, .int .i64 0, .int .u64 0, .int .i64 0, .int .u64 0, .slice none 0 0, .int .u32 0, .int .u32 0, .int .i64 0, .int .i64 0, .int .i64 0, .int .i64 0, .int .i64 0, .int .u64 0, .int .i64 0, .int .i64 0, .int .i64 0] 33)).setRow v5.heap.size (cel p (.slice B5 n d5))) := below_setRow ((Below.refl v5.heap.size v5).alloc (Nat.le_refl _) (.cells #[.int .i64 0, .int .i64 0, .int .u64 0, .int .i64 0, .int .u64 0, .slice none 0 0, .int .u32 0, .int .u32 0, .int .i64 0, .int .i64 0, .int .i64 0, .int .i64 0, .int .i64 0, .int .u64 0, .int .i64 0, .int .i64 0, .int .i64 0] 33)) (Nat.le_refl _) (cel p (.slice B5 n d5))
    replace K7 : Blk ((v5.alloc (.cells #[.int .i64 0, .int .i64 0, .int .u64 0, .int .i64 0, .int .u64 0, .slice none 0 0, .int .u32 0, .int .u32 0, .int .i64 0, .int .i64 0, .int .i64 0, .int .i64 0, .int .i64 0, .int .u64 0, .int .i64 0, .int .i64 0, .int .i64 0] 33)).setRow v5.heap.size (cel p (.slice B5 n d5))) v5.heap.size 33 (cel p (.slice B5 n d5)) := setRow_heap _ v5.heap.size _ (cel p (.slice B5 n d5)) 33 (0, 0) K7
    replace BX := thenB BX b9
    replace TX := TX.below b9
    replace K0 := K0.below b9 K0.lt
    replace J5 := Base.later J5 b9
    clear b9
    generalize ((v5.alloc (.cells #[.int .i64 0, .int .i64 0, .int .u64 0, .int .i64 0, .int .u64 0, .slice none 0 0, .int .u32 0, .int .u32 0, .int .i64 0, .int .i64 0, .int .i64 0, .int .i64 0, .int .i64 0, .int .u64 0, .int .i64 0, .int .i64 0, .int .i64 0] 33)).setRow v5.heap.size (cel p (.slice B5 n d5))) = V5 at *
    generalize v5.heap.size = g7 at *
    go_wp2_with (first | (refine wpList_on (by rfl) (wpList_load_row rfl 33 (.tmp 2) rfl w.heap.size rfl 33 _ (0, 0) _ K0 Tryd.underlying33 rfl (by kernel_rfl) ?_)) | (refine wpList_on (by rfl) (wpList_load_row rfl 33 (.tmp 7) rfl g7 rfl 33 _ (0, 0) _ K7 Tryd.underlying33 rfl (by kernel_rfl) ?_)))
    refine (HSp.out B5 d5 V5 BX J5).mono ?_
    rintro e v6 ⟨rfl, b6⟩
    replace BX := thenB BX b6
    replace TX := TX.below b6
    clear b6 K0 K7 J5
    go_upto_region 10 with (fail)
    have own0 : (v6.alloc (.cells #[] 5)).ownsRow v6.heap.size 5 1 (.slice (some ⟨v6.heap.size, 0, none⟩) 0 0) 0 [] := by
      have := World.ownsRow_made (base := v6.heap.size) (e := 5) (size := 1) v6 #[] 0 (Nat.le_refl _) (by unfold maxLen; omega) rfl
      simpa using this
    have IR := (Base.later hr BX).alloc (Nat.le_refl _) (.cells #[] 5)
    have bz : Below v6.heap.size v6 (v6.alloc (.cells #[] 5)) := (Below.refl _ _).alloc (Nat.le_refl _) _
    go_wp2_with (at_builtin; refine wpList_append_ints rfl _ _ 25 rfl .u8 v6.heap.size 5 i0 _ 1 Tryd.underlying25 hi hz0 hz1 hz2 rfl (.slice (some ⟨v6.heap.size, 0, none⟩) 0 0) 0 [] rfl own0 v6.heap.size A' n' c' bs rfl hx IR (by unfold maxLen; omega) (by omega) (by simp) ?_; intro v1 w1 own1 b1 g1; obtain ⟨A1, c1, rfl⟩ := own_form own1; simp only [Nat.zero_add, List.nil_append] at own1 ⊢)
    have I1 := Ints.own own1
    have hc1 := own_cap own1
    have BX1 := thenB BX (bz.trans b1)
    have T1 := TX.below (bz.trans b1)
    clear own0 IR bz own1 b1 g1
    clear hi hz0 hz1 hz2 BX TX
    refine (HD.out A1 c1 w1 I1 hc1 T1).mono ?_
    rintro e w2 ⟨A2, c2, rfl, hc2, I2, b2⟩
    replace BX1 := thenB BX1 b2
    replace T1 := T1.below b2
    clear b2 I1
    have K9 := Blk.fresh w2 33 #[.int .i64 0, .int .i64 0, .int .u64 0, .int .i64 0, .int .u64 0, .slice none 0 0, .int .u32 0, .int .u32 0, .int .i64 0, .int .i64 0, .int .i64 0, .int .i64 0, .int .i64 0, .int .u64 0, .int .i64 0, .int .i64 0, .int .i64 0]
    go_upto_region 11 with (refine wpList_store_row rfl 33 (.tmp 9) _ rfl w2.heap.size (cel q (.slice A2 m2 c2)) rfl rfl 33 _ K9 (by kernel_rfl) rfl (H2 _ _ _) ?_)
    have b9 : Below w2.heap.size w2 ((w2.alloc (.cells #[.int .i64 0, .int .i64 0, .int .u64 0, .int .i64 0, .int .u64 0, .slice none 0 0, .int .u32 0, .int .u32 0, .int .i64 0, .int .i64 0, .int .i64 0, .int .i64 0, .int .i64 0, .int .u64 0, .int .i64 0, .int .i64 0, .int .i64 0] 33)).setRow w2.heap.size (cel q (.slice A2 m2 c2))) := below_setRow ((Below.refl w2.heap.size w2).alloc (Nat.le_refl _) (.cells #[.int .i64 0, .int .i64 0, .int .u64 0, .int .i64 0, .int .u64 0, .slice none 0 0, .int .u32 0, .int .u32 0, .int .i64 0, .int .i64 0, .int .i64 0, .int .i64 0, .int .i64 0, .int .u64 0, .int .i64 0, .int .i64 0, .int .i64 0] 33)) (Nat.le_refl _) (cel q (.slice A2 m2 c2))
    replace K9 : Blk ((w2.alloc (.cells #[.int .i64 0, .int .i64 0, .int .u64 0, .int .i64 0, .int .u64 0, .slice none 0 0, .int .u32 0, .int .u32 0, .int .i64 0, .int .i64 0, .int .i64 0, .int .i64 0, .int .i64 0, .int .u64 0, .int .i64 0, .int .i64 0, .int .i64 0] 33)).setRow w2.heap.size (cel q (.slice A2 m2 c2))) w2.heap.size 33 (cel q (.slice A2 m2 c2)) := setRow_heap _ w2.heap.size _ (cel q (.slice A2 m2 c2)) 33 (0, 0) K9
    replace BX1 := thenB BX1 b9
    replace T1 := T1.below b9
    replace I2 := Base.later I2 b9
    clear b9
    generalize ((w2.alloc (.cells #[.int .i64 0, .int .i64 0, .int .u64 0, .int .i64 0, .int .u64 0, .slice none 0 0, .int .u32 0, .int .u32 0, .int .i64 0, .int .i64 0, .int .i64 0, .int .i64 0, .int .i64 0, .int .u64 0, .int .i64 0, .int .i64 0, .int .i64 0] 33)).setRow w2.heap.size (cel q (.slice A2 m2 c2))) = X2 at *
    generalize w2.heap.size = g9 at *
    by_cases hf : f = 0
    · subst hf
      have HQ0 := Lib.hid (HQ.out rfl)
      go_wp2_with (refine wpList_load_row rfl 33 (.tmp 9) rfl g9 rfl 33 _ (0, 0) _ K9 Tryd.underlying33 rfl (by kernel_rfl) ?_)
      refine (HQ0.out.1 A2 c2 X2 I2 T1).mono ?_
      rintro e w3 ⟨A3, c3, rfl, hc3, I3, b3⟩
      replace BX1 := thenB BX1 b3
      replace T1 := T1.below b3
      replace K9 := K9.below b3 K9.lt
      clear b3
      go_wp2_with fail
      refine (HB.out A3 c3 w3 I3 BX1).mono ?_
      rintro e w4 ⟨rfl, rfl⟩
      go_wp2_with (refine wpList_on (by rfl) (wpList_load_row rfl 33 (.tmp 9) rfl g9 rfl 33 _ (0, 0) _ K9 Tryd.underlying33 rfl (by kernel_rfl) ?_))
      refine (HQ0.out.2 A2 c2 w3 T1).mono ?_
      rintro e w5 ⟨rfl, b5⟩
      go_wp2_with fail
      go_ret
      exact ⟨rfl, thenB BX1 b5⟩
    · have g9e : (f != 0) = true := by simpa using hf
      have HZ0 := Lib.hid (HZ.out hf)
      go_wp2_with (refine wpList_load_row rfl 33 (.tmp 9) rfl g9 rfl 33 _ (0, 0) _ K9 Tryd.underlying33 rfl (by kernel_rfl) ?_)
      refine (HZ0.out A2 c2 X2).mono ?_
      rintro e w3 ⟨rfl, b3⟩
      go_wp2_with fail
      go_ret
      exact ⟨rfl, thenB BX1 b3⟩
  · have g1 : (x == 0) = false := by simpa using hx0
    clear K0 J2
    go_upto_region 10 with (fail)
    have own0 : (v4.alloc (.cells #[] 5)).ownsRow v4.heap.size 5 1 (.slice (some ⟨v4.heap.size, 0, none⟩) 0 0) 0 [] := by
      have := World.ownsRow_made (base := v4.heap.size) (e := 5) (size := 1) v4 #[] 0 (Nat.le_refl _) (by unfold maxLen; omega) rfl
      simpa using this
    have IR := (Base.later hr BX).alloc (Nat.le_refl _) (.cells #[] 5)
    have bz : Below v4.heap.size v4 (v4.alloc (.cells #[] 5)) := (Below.refl _ _).alloc (Nat.le_refl _) _
    go_wp2_with (at_builtin; refine wpList_append_ints rfl _ _ 25 rfl .u8 v4.heap.size 5 i0 _ 1 Tryd.underlying25 hi hz0 hz1 hz2 rfl (.slice (some ⟨v4.heap.size, 0, none⟩) 0 0) 0 [] rfl own0 v4.heap.size A' n' c' bs rfl hx IR (by unfold maxLen; omega) (by omega) (by simp) ?_; intro v1 w1 own1 b1 g1; obtain ⟨A1, c1, rfl⟩ := own_form own1; simp only [Nat.zero_add, List.nil_append] at own1 ⊢)
    have I1 := Ints.own own1
    have hc1 := own_cap own1
    have BX1 := thenB BX (bz.trans b1)
    have T1 := TX.below (bz.trans b1)
    clear own0 IR bz own1 b1 g1
    clear hi hz0 hz1 hz2 BX TX
    refine (HD.out A1 c1 w1 I1 hc1 T1).mono ?_
    rintro e w2 ⟨A2, c2, rfl, hc2, I2, b2⟩
    replace BX1 := thenB BX1 b2
    replace T1 := T1.below b2
    clear b2 I1
    have K9 := Blk.fresh w2 33 #[.int .i64 0, .int .i64 0, .int .u64 0, .int .i64 0, .int .u64 0, .slice none 0 0, .int .u32 0, .int .u32 0, .int .i64 0, .int .i64 0, .int .i64 0, .int .i64 0, .int .i64 0, .int .u64 0, .int .i64 0, .int .i64 0, .int .i64 0]
    go_upto_region 11 with (refine wpList_store_row rfl 33 (.tmp 9) _ rfl w2.heap.size (cel q (.slice A2 m2 c2)) rfl rfl 33 _ K9 (by kernel_rfl) rfl (H2 _ _ _) ?_)
    have b9 : Below w2.heap.size w2 ((w2.alloc (.cells #[.int .i64 0, .int .i64 0, .int .u64 0, .int .i64 0, .int .u64 0, .slice none 0 0, .int .u32 0, .int .u32 0, .int .i64 0, .int .i64 0, .int .i64 0, .int .i64 0, .int .i64 0, .int .u64 0, .int .i64 0, .int .i64 0, .int .i64 0] 33)).setRow w2.heap.size (cel q (.slice A2 m2 c2))) := below_setRow ((Below.refl w2.heap.size w2).alloc (Nat.le_refl _) (.cells #[.int .i64 0, .int .i64 0, .int .u64 0, .int .i64 0, .int .u64 0, .slice none 0 0, .int .u32 0, .int .u32 0, .int .i64 0, .int .i64 0, .int .i64 0, .int .i64 0, .int .i64 0, .int .u64 0, .int .i64 0, .int .i64 0, .int .i64 0] 33)) (Nat.le_refl _) (cel q (.slice A2 m2 c2))
    replace K9 : Blk ((w2.alloc (.cells #[.int .i64 0, .int .i64 0, .int .u64 0, .int .i64 0, .int .u64 0, .slice none 0 0, .int .u32 0, .int .u32 0, .int .i64 0, .int .i64 0, .int .i64 0, .int .i64 0, .int .i64 0, .int .u64 0, .int .i64 0, .int .i64 0, .int .i64 0] 33)).setRow w2.heap.size (cel q (.slice A2 m2 c2))) w2.heap.size 33 (cel q (.slice A2 m2 c2)) := setRow_heap _ w2.heap.size _ (cel q (.slice A2 m2 c2)) 33 (0, 0) K9
    replace BX1 := thenB BX1 b9
    replace T1 := T1.below b9
    replace I2 := Base.later I2 b9
    clear b9
    generalize ((w2.alloc (.cells #[.int .i64 0, .int .i64 0, .int .u64 0, .int .i64 0, .int .u64 0, .slice none 0 0, .int .u32 0, .int .u32 0, .int .i64 0, .int .i64 0, .int .i64 0, .int .i64 0, .int .i64 0, .int .u64 0, .int .i64 0, .int .i64 0, .int .i64 0] 33)).setRow w2.heap.size (cel q (.slice A2 m2 c2))) = X2 at *
    generalize w2.heap.size = g9 at *
    by_cases hf : f = 0
    · subst hf
      have HQ0 := Lib.hid (HQ.out rfl)
      go_wp2_with (refine wpList_load_row rfl 33 (.tmp 9) rfl g9 rfl 33 _ (0, 0) _ K9 Tryd.underlying33 rfl (by kernel_rfl) ?_)
      refine (HQ0.out.1 A2 c2 X2 I2 T1).mono ?_
      rintro e w3 ⟨A3, c3, rfl, hc3, I3, b3⟩
      replace BX1 := thenB BX1 b3
      replace T1 := T1.below b3
      replace K9 := K9.below b3 K9.lt
      clear b3
      go_wp2_with fail
      refine (HB.out A3 c3 w3 I3 BX1).mono ?_
      rintro e w4 ⟨rfl, rfl⟩
      go_wp2_with (refine wpList_on (by rfl) (wpList_load_row rfl 33 (.tmp 9) rfl g9 rfl 33 _ (0, 0) _ K9 Tryd.underlying33 rfl (by kernel_rfl) ?_))
      refine (HQ0.out.2 A2 c2 w3 T1).mono ?_
      rintro e w5 ⟨rfl, b5⟩
      go_wp2_with fail
      go_ret
      exact ⟨rfl, thenB BX1 b5⟩
    · have g9e : (f != 0) = true := by simpa using hf
      have HZ0 := Lib.hid (HZ.out hf)
      go_wp2_with (refine wpList_load_row rfl 33 (.tmp 9) rfl g9 rfl 33 _ (0, 0) _ K9 Tryd.underlying33 rfl (by kernel_rfl) ?_)
      refine (HZ0.out A2 c2 X2).mono ?_
      rintro e w3 ⟨rfl, b3⟩
      go_wp2_with fail
      go_ret
      exact ⟨rfl, thenB BX1 b3⟩
end Go.Proofs.YtcjlliilfecmnaaDoor.Ap

end
section
set_option linter.unusedVariables false
namespace Go.Proofs.YtcjlliilfecmnaaDoor.Ap
open Go.RowKit Mem Oct

theorem fin_decodes (A : Option Addr) (n c : Nat) (xs : List Int) (w : World) (hx : xs.length = n) (hnc : n ≤ c) (hr : Ints .u8 w w.heap.size A xs) (bxs : Bytes xs) (hs : c * 1 ≤ 140737488351232) (hT : Adr.Tab w) :
    Calls Tryd.prog 5 #[.slice A n c] w fun e w' => e = .returned (.bool true) ∧ Below w.heap.size w w' :=
  law_decodes A n c xs w hx hnc hr bxs (by omega) hT
theorem fin_back (p : Pd) (A : Option Addr) (c : Nat) (A' : Option Addr) (n' c' : Nat) (bs : List Int) (w : World) (gw : Wid p) (gb : Bytes p.ds) (hc : p.ds.length ≤ c) (hb : c ≤ 140737488351232) (gi : Ints .u8 w w.heap.size A p.ds)
    (hx : bs.length = n') (hnc : n' ≤ c') (hr : Ints .u8 w w.heap.size A' bs) (bbs : Bytes bs) (hs : c' * 1 ≤ 140737488351232) (hT : Adr.Tab w) :
    Calls Tryd.prog 7 #[.agg (cel p (.slice A p.ds.length c)), .slice A' n' c'] w fun e w' => e = .returned (.bool true) ∧ Below w.heap.size w w' :=
  law_back p A p.ds.length c A' n' c' bs w ⟨rfl, gw, gb, by omega, gi⟩ hx hnc hr bbs (by omega) hT
end Go.Proofs.YtcjlliilfecmnaaDoor.Ap

end
