/- The statement about reading, walked. -/
import Derived.Test.YtkbhmgdmkamcfaaDoorCapRRead
import Derived.Test.YtkbhmgdmkamcfaaDoorCapLawW
set_option linter.unusedVariables false
set_option linter.unusedSimpArgs false
set_option maxRecDepth 100000
namespace Go.Proofs.YtkbhmgdmkamcfaaDoor.Cap
open Go.RowKit Mem Rw Air Base Oct

theorem rread_any (A : Option Addr) (n c : Nat) (zs : List Int) (w : World) (hz : zs.length = n) (hnc : n ≤ c) (hn : n ≤ 60000) (bz : Bytes zs) (hi : Ints .u8 w w.heap.size A zs) :
    Calls Tryd.prog 21 #[.slice A n c] w fun e w' => RdPost w zs e w' := by
  by_cases h4 : n < 4
  · exact rread_short A n c zs w hz hnc hn bz hi h4
  · by_cases hs : zs.take 4 = sigL
    · exact rread_good A n c zs w hz hnc hn bz hi h4 hs
    · exact rread_bad A n c zs w hz hnc hn bz hi h4 hs
theorem readF_small (f : Nat) (pv : Option Int) (zs : List Int) : (readF f pv zs).1.length ≤ zs.length := by
  induction f generalizing pv zs with
  | zero => simp [readF]
  | succ f ih =>
    by_cases h : zs.length = 0
    · rw [readF_nil _ _ h]; simp
    · by_cases e : recE pv zs = 0
      · rw [readF_good f pv h e]
        have := ih (some (decR (bodZ zs).1).id) (zs.drop (16 + recN zs))
        rw [List.length_drop] at this
        simp only [List.length_cons]
        omega
      · rw [readF_bad f pv h e]; simp
theorem readA_small (zs : List Int) : (readA zs).1.length ≤ zs.length := by
  unfold readA
  split
  · simp
  · split
    · simp
    · have := readF_small zs.length none (zs.drop 4)
      rw [List.length_drop] at this
      simp only; omega
theorem law_reads (A : Option Addr) (n c : Nat) (zs : List Int) (w : World) (hz : zs.length = n) (hnc : n ≤ c) (hi : Ints .u8 w w.heap.size A zs) (bz : Bytes zs) (hT : Tabs w) :
    Calls Tryd.prog 5 #[.slice A n c] w fun e w' => e = .returned (.bool true) ∧ Below w.heap.size w w' := by
  obtain ⟨i0, hi0, hz0, hz1, hz2⟩ := info_parts Base.info_u8
  have HL := Lib.hid (tabs_lives w hT)
  by_cases h : (16384 : Int) < (n : Int)
  · clear hz hi bz hT
    go_enter Tryd.func5, Tryd.ntmps5
    go_wp2_with (go_at_call 9; refine HL.out.mono ?_; rintro e w1 ⟨rfl, b1⟩)
    go_ret
    exact ⟨rfl, b1⟩
  · have h' : ¬ 16384 < n := by omega
    have HZ := Lib.hid hz
    have HI : Hid (∀ w', Below w.heap.size w w' → Ints .u8 w' w'.heap.size A zs) := Lib.hid fun w' bb => later hi bb
    have HR : Hid (∀ w' A5 c5, Below w.heap.size w w' → n ≤ c5 → c5 ≤ 9223372036854775807 → Ints .u8 w' w'.heap.size A5 zs → Calls Tryd.prog 20 #[.slice A5 n c5] w' fun e w2 => RdPost w' zs e w2) := Lib.hid fun w' A5 c5 bb q1 q2 q3 => read_any A5 n c5 zs w' HZ.out q1 q2 (by omega) bz q3 (hT.below bb).1
    have HD : Hid (∀ w', Below w.heap.size w w' → Calls Tryd.prog 21 #[.slice A n c] w' fun e w2 => RdPost w' zs e w2) := Lib.hid fun w' bb => rread_any A n c zs w' HZ.out hnc (by omega) bz (HI.out w' bb)
    have HSm : Hid ((readA zs).1.length ≤ n) := Lib.hid (by have := readA_small zs; omega)
    clear hz hi bz hT
    go_enter Tryd.func5, Tryd.ntmps5
    go_wp2_with (first
      | (go_at_call 9; refine HL.out.mono ?_; rintro e w1 ⟨rfl, b1⟩)
      | (at_builtin; refine wpList_append_ints rfl _ _ 32 rfl .u8 w1.heap.size 5 i0 _ 1 Tryd.underlying32 hi0 hz0 hz1 hz2 rfl (.slice (some ⟨w1.heap.size, 0, none⟩) 0 0) 0 [] rfl (World.ownsRow_made _ _ 0 (Nat.le_refl _) (by unfold maxLen; omega) rfl) w1.heap.size A n c zs rfl HZ.out ?c1 ?c2 ?c3 ?c4 ?_; (case c1 => exact (HI.out w1 b1).alloc (Nat.le_refl _) _); (case c2 => unfold maxLen; omega); (case c3 => omega); (case c4 => simp); intro v' w5 o5 hb5 _; simp only [List.nil_append, Nat.zero_add] at o5; obtain ⟨A5, c5, rfl⟩ := own_form o5; have b15 := thenB b1 (((Below.refl _ w1).alloc (Nat.le_refl _) (.cells #[] 5)).trans hb5))
      | (go_at_call 20; refine (HR.out _ A5 c5 b15 (own_cap o5) (own_max o5) (Ints.own o5)).mono ?_; rintro e w6 ⟨RA, rc, l6, rfl, hl6, hrc6, t6, b6⟩; have b16 := thenB b15 b6)
      | (go_at_call 21; refine (HD.out _ b16).mono ?_; rintro e w7 ⟨RB, rd, l7, rfl, hl7, hrc7, t7, b7⟩; have b17 := thenB b16 b7; have h77 : (((readA zs).2.2) == ((readA zs).2.2)) = true := (by simp); have h78 : (((readA zs).2.1) == ((readA zs).2.1)) = true := (by simp); have hll : l7.length = l6.length := (by rw [← List.length_map (f := Tx.tr), hl7, ← hl6, List.length_map]); have HS7 := Lib.hid (same_any RA RB l6.length rc rd l6 l7 w7 rfl hll (by have := HSm.out; rw [← hl6, List.length_map] at this; omega) (hl6.trans hl7.symm) (t6.later b7) t7); rw [hll]; generalize (readA zs).2.2 = q2 at *; generalize (readA zs).2.1 = q1 at *)
      | (go_at_call 13; refine HS7.out.mono ?_; rintro e w8 ⟨rfl, b8⟩))
    go_ret
    exact ⟨rfl, thenB b17 b8⟩
theorem fr_reads (A : Option Addr) (n c : Nat) (zs : List Int) (w : World) (hz : zs.length = n) (hnc : n ≤ c) (hi : Ints .u8 w w.heap.size A zs) (bz : ∀ z ∈ zs, 0 ≤ z ∧ z ≤ 255) (hs : c * 1 ≤ 140737488351232) (hT : Tabs w) :
    Calls Tryd.prog 5 #[.slice A n c] w fun e w' => e = .returned (.bool true) ∧ Below w.heap.size w w' := law_reads A n c zs w hz hnc hi bz hT
end Go.Proofs.YtkbhmgdmkamcfaaDoor.Cap
