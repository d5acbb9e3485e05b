/- Records in memory of their own. -/
import Derived.Test.YtkbhmgdmkamcfaaDoorAirOwn0
import Derived.Test.YtkbhmgdmkamcfaaDoorCapRows
set_option linter.unusedVariables false
set_option linter.unusedSimpArgs false
namespace Go.Proofs.YtkbhmgdmkamcfaaDoor.Air
open Go.RowKit Mem Rw Base

theorem info_tx : (Tryd.prog.info? 52).map (fun i => (i.zero, i.size, i.bytes)) = some (some (.agg #[.int .i64 0, .int .i64 0, .int .i64 0, .int .i64 0, .slice none 0 0]), 5, 56) := by kernel_rfl
/-- The bytes of a transmission are the call's own. -/
def Mine (w : World) (base : Nat) (x : Tx) : Prop := w.ownsRow base 5 1 (.slice x.A x.bs.length x.c) x.bs.length (x.bs.map (Value.int .u8))
theorem Mine.own {w : World} {base : Nat} {x : Tx} (h : Mine w base x) (hl : x.bs.length ≤ 140737488351232) : Own w w.heap.size x := ⟨own_cap h, hl, Ints.own h⟩
theorem take_map_at {l : List Tx} {j : Nat} {x : Tx} (h : l[j]? = some x) : (l.take (j + 1)).map Tx.tr = (l.take j).map Tx.tr ++ [x.tr] := by
  have hk : j < l.length := (List.getElem?_eq_some_iff.1 h).1
  rw [List.take_succ_eq_append_getElem hk, (List.getElem?_eq_some_iff.1 h).2, List.map_append]; rfl
set_option maxHeartbeats 4000000 in
theorem copy_any (L : Option Addr) (k kc : Nat) (l : List Tx) (w : World) (hl : l.length = k) (hk : k * 56 ≤ 140737488351232) (hr : TxsAt w w.heap.size L l) :
    Calls Tryd.prog 18 #[.slice L k kc] w fun e w' => ∃ A c l', e = .returned (.slice A k c) ∧ k ≤ c ∧ l'.length = k ∧ l'.map Tx.tr = l.map Tx.tr ∧ TxsAt w' w'.heap.size A l' ∧ Below w.heap.size w w' := by
  obtain ⟨iT, hi, hz, hs, hb, hc0⟩ := info_parts2 info_tx rfl
  obtain ⟨i0, gi, gz, gs, gb⟩ := info_parts info_u8
  have HN := Lib.hid (fun j (h : j < k) => has hl h)
  have HO : Hid (∀ w', Below w.heap.size w w' → 0 < k → _) := Lib.hid fun w' hb h0 => tx_cells (hr.below hb) (by omega)
  have HOw : Hid (∀ x ∈ l, Own w w.heap.size x) := Lib.hid hr.2
  have HT : Hid (∀ (j : Nat) x, l[j]? = some x → (l.take (j + 1)).map Tx.tr = (l.take j).map Tx.tr ++ [x.tr]) := Lib.hid fun j x h => take_map_at h
  have HE : Hid ((l.take k).map Tx.tr = l.map Tx.tr) := Lib.hid (by rw [List.take_of_length_le (by omega)])
  clear hr hl
  go_enter Tryd.func18, Tryd.ntmps18
  go_wp2_with fail
  go_loopw [3, 4] (fun s3 s4 wr => ∃ j : Nat, j ≤ k ∧ s4 = .int .i64 j ∧ ∃ A c, ∃ l' : List Tx, s3 = .slice A j c ∧ l'.length = j ∧ Hid (l'.map Tx.tr = (l.take j).map Tx.tr) ∧ wr.ownsRow w.heap.size 52 5 (.slice A j c) j (l'.flatMap encT) ∧ (∀ x ∈ l', Mine wr w.heap.size x ∧ x.bs.length ≤ 140737488351232) ∧ Below w.heap.size w wr) (fun _ s4 _ => k - (intOf s4).toNat)
  case atStart => exact ⟨0, by omega, rfl, _, _, [], rfl, rfl, Lib.hid (by simp), World.ownsRow_made _ _ 0 (Nat.le_refl _) (by unfold maxLen; omega) rfl, by simp, (Below.refl _ _).alloc (Nat.le_refl _) _⟩
  case round =>
    obtain ⟨j, hj, rfl, A, c, l', rfl, hl', hm', hown, hmine, hbel⟩ := hrel
    by_cases c1 : j < k
    · obtain ⟨x, hxj, hxm⟩ := HN.out j c1
      have hmx := HT.out j x hxj
      obtain ⟨b, off, rfl, hbl, hc⟩ := HO.out _ hbel (by omega)
      obtain ⟨h0, h1, h2, h3, h4⟩ := hc j x hxj
      have ow := (HOw.out x hxm).below hbel
      obtain ⟨p0, p1, p2, p3, PA, pc, bs⟩ := x
      obtain ⟨w1, w2', w3⟩ := ow
      simp only at h0 h1 h2 h3 h4 w1 w2' w3
      have HBs := Lib.hid w3
      generalize hm : bs.length = m at *
      have HM := Lib.hid hm
      have g1 : (0 : Int) ≤ (j : Int) ∧ (j : Int) < (k : Int) := by omega
      have M0 : ((wr.alloc (.cells #[.int .i64 p0, .int .i64 p1, .int .i64 p2, .int .i64 p3, .slice PA m pc] 52)).alloc (.cells #[] 5)).ownsRow (wr.heap.size + 1) 5 1 (.slice (some ⟨wr.heap.size + 1, 0, none⟩) 0 0) 0 [] := by
        have := World.ownsRow_made (wr.alloc (.cells #[.int .i64 p0, .int .i64 p1, .int .i64 p2, .int .i64 p3, .slice PA m pc] 52)) #[] 0 (e := 5) (base := wr.heap.size + 1) (size := 1) (by simp) (by unfold maxLen; omega) rfl
        simpa using this
      have BX := (Below.refl wr.heap.size wr).alloc (Nat.le_refl _) (.cells #[.int .i64 p0, .int .i64 p1, .int .i64 p2, .int .i64 p3, .slice PA m pc] 52)
      have BY := BX.alloc (by simp) (.cells #[] 5)
      have CB : CellsAt ((wr.alloc (.cells #[.int .i64 p0, .int .i64 p1, .int .i64 p2, .int .i64 p3, .slice PA m pc] 52)).alloc (.cells #[] 5)) wr.heap.size PA (bs.map (Value.int .u8)) := ((cells_ints HBs.out).more hbel.size).below BY
      have T2 := (Blk.fresh wr 52 #[.int .i64 p0, .int .i64 p1, .int .i64 p2, .int .i64 p3, .slice PA m pc]).alloc (.cells #[] 5)
      have HMi := Lib.hid hmine
      have HOn := Lib.hid hown
      have HLn : Hid ((bs.map (Value.int .u8)).length = m * 1) := Lib.hid (by simp [HM.out])
      have HW3 : Hid (∀ w2 A2 c2, w2.ownsRow (wr.heap.size + 1) 5 1 (.slice A2 m c2) m (bs.map (Value.int .u8)) → ((wr.alloc (.cells #[.int .i64 p0, .int .i64 p1, .int .i64 p2, .int .i64 p3, .slice PA m pc] 52)).alloc (.cells #[] 5)).grownBy w2 (Value.slice (some ⟨wr.heap.size + 1, 0, none⟩) 0 0).ownBlock →
          (w2.cell? ⟨wr.heap.size, 4, none⟩ = some (.slice PA m pc) ∧ w2.frozen? ⟨wr.heap.size, 4, none⟩ = false) ∧
          ((w2.setCell ⟨wr.heap.size, 4, none⟩ (.slice A2 m c2)).cell? ⟨wr.heap.size, 0, none⟩ = some (.int .i64 p0) ∧ (w2.setCell ⟨wr.heap.size, 4, none⟩ (.slice A2 m c2)).cell? ⟨wr.heap.size, 1, none⟩ = some (.int .i64 p1) ∧ (w2.setCell ⟨wr.heap.size, 4, none⟩ (.slice A2 m c2)).cell? ⟨wr.heap.size, 2, none⟩ = some (.int .i64 p2) ∧ (w2.setCell ⟨wr.heap.size, 4, none⟩ (.slice A2 m c2)).cell? ⟨wr.heap.size, 3, none⟩ = some (.int .i64 p3) ∧ (w2.setCell ⟨wr.heap.size, 4, none⟩ (.slice A2 m c2)).cell? ⟨wr.heap.size, 4, none⟩ = some (.slice A2 m c2)) ∧
          (w2.setCell ⟨wr.heap.size, 4, none⟩ (.slice A2 m c2)).ownsRow w.heap.size 5 1 (.slice A2 m c2) m (bs.map (Value.int .u8)) ∧ Below wr.heap.size wr (w2.setCell ⟨wr.heap.size, 4, none⟩ (.slice A2 m c2))) := Lib.hid fun w2 A2 c2 own2 gr2 => by
        have T3 := T2.grown M0 (by decide) gr2
        have ne : ∀ a : Nat, a ≠ 4 → (⟨wr.heap.size, 4, none⟩ : Addr) ≠ ⟨wr.heap.size, a, none⟩ := fun a h e => by injection e with _ e2; exact h e2.symm
        refine ⟨⟨T3.cell 4, frozen_of_row w2 _ 4 _ _ T3⟩, ⟨?_, ?_, ?_, ?_, ?_⟩, ?_, ?_⟩
        · rw [World.cell?_setCell_other (h := ne 0 (by decide))]; exact T3.cell 0
        · rw [World.cell?_setCell_other (h := ne 1 (by decide))]; exact T3.cell 1
        · rw [World.cell?_setCell_other (h := ne 2 (by decide))]; exact T3.cell 2
        · rw [World.cell?_setCell_other (h := ne 3 (by decide))]; exact T3.cell 3
        · exact World.cell?_setCell_same' _ _ _ (by rw [show w2.cell? ⟨wr.heap.size, 4, none⟩ = some (.slice PA m pc) from T3.cell 4]; rfl)
        · exact own_base (ownsRow_setCell_below own2 (a := ⟨wr.heap.size, 4, none⟩) (Nat.lt_succ_self _) _) (by have := hbel.size; omega)
        · refine Below.setCell (p := ⟨wr.heap.size, 4, none⟩) ?_ (Nat.le_refl _) _
          exact BY.grown gr2 BY.size (fun g hg => by
            have e : wr.heap.size + 1 = g := by simpa [Value.ownBlock] using hg
            omega)
      have HW4 : Hid (∀ (w2 : World) (A2 : Option Addr) (c2 : Nat), (w2.setCell ⟨wr.heap.size, 4, none⟩ (.slice A2 m c2)).ownsRow w.heap.size 5 1 (.slice A2 m c2) m (bs.map (Value.int .u8)) → Below wr.heap.size wr (w2.setCell ⟨wr.heap.size, 4, none⟩ (.slice A2 m c2)) →
          (((w2.setCell ⟨wr.heap.size, 4, none⟩ (.slice A2 m c2)).alloc (.cells #[.int .i64 p0, .int .i64 p1, .int .i64 p2, .int .i64 p3, .slice A2 m c2] 52)).ownsRow w.heap.size 52 5 (.slice A j c) j (l'.flatMap encT) ∧ CellsAt ((w2.setCell ⟨wr.heap.size, 4, none⟩ (.slice A2 m c2)).alloc (.cells #[.int .i64 p0, .int .i64 p1, .int .i64 p2, .int .i64 p3, .slice A2 m c2] 52)) ((w2.setCell ⟨wr.heap.size, 4, none⟩ (.slice A2 m c2)).alloc (.cells #[.int .i64 p0, .int .i64 p1, .int .i64 p2, .int .i64 p3, .slice A2 m c2] 52)).heap.size (some ⟨w2.heap.size, 0, none⟩) [.int .i64 p0, .int .i64 p1, .int .i64 p2, .int .i64 p3, .slice A2 m c2]) ∧
          (∀ (w4 : World) (A4 : Option Addr) (c4 : Nat), w4.ownsRow w.heap.size 52 5 (.slice A4 (j + 1) c4) (j + 1) (l'.flatMap encT ++ [.int .i64 p0, .int .i64 p1, .int .i64 p2, .int .i64 p3, .slice A2 m c2]) → ((w2.setCell ⟨wr.heap.size, 4, none⟩ (.slice A2 m c2)).alloc (.cells #[.int .i64 p0, .int .i64 p1, .int .i64 p2, .int .i64 p3, .slice A2 m c2] 52)).grownBy w4 (Value.slice A j c).ownBlock → Below w.heap.size ((w2.setCell ⟨wr.heap.size, 4, none⟩ (.slice A2 m c2)).alloc (.cells #[.int .i64 p0, .int .i64 p1, .int .i64 p2, .int .i64 p3, .slice A2 m c2] 52)) w4 →
            ∃ l2 : List Tx, l2.length = j + 1 ∧ Hid (l2.map Tx.tr = (l.take (j + 1)).map Tx.tr) ∧ w4.ownsRow w.heap.size 52 5 (.slice A4 (j + 1) c4) (j + 1) (l2.flatMap encT) ∧ (∀ x ∈ l2, Mine w4 w.heap.size x ∧ x.bs.length ≤ 140737488351232) ∧ Below w.heap.size w w4)) := Lib.hid fun w2 A2 c2 mi B3 => by
        have o4 := (own_below HOn.out B3).alloc (.cells #[.int .i64 p0, .int .i64 p1, .int .i64 p2, .int .i64 p3, .slice A2 m c2] 52)
        refine ⟨⟨o4, ?_⟩, fun w4 A4 c4 own4 gr4 b4 => ?_⟩
        · have := CellsAt.lit (w2.setCell ⟨wr.heap.size, 4, none⟩ (.slice A2 m c2)) [.int .i64 p0, .int .i64 p1, .int .i64 p2, .int .i64 p3, .slice A2 m c2] #[.int .i64 p0, .int .i64 p1, .int .i64 p2, .int .i64 p3, .slice A2 m c2] 52 rfl
          rwa [show (w2.setCell ⟨wr.heap.size, 4, none⟩ (.slice A2 m c2)).heap.size = w2.heap.size by simp] at this
        · refine ⟨l' ++ [⟨p0, p1, p2, p3, A2, c2, bs⟩], by simp [hl'], Lib.hid ?_, ?_, ?_, ?_⟩
          · rw [List.map_append, hm'.out, hmx]; rfl
          · rw [flat_append]
            have e : List.flatMap encT [(⟨p0, p1, p2, p3, A2, c2, bs⟩ : Tx)] = [.int .i64 p0, .int .i64 p1, .int .i64 p2, .int .i64 p3, .slice A2 m c2] := by simp [encT, HM.out]
            rw [e]; exact own4
          · intro x hx
            rcases List.mem_append.mp hx with hx | hx
            · exact ⟨own_other ((own_below (HMi.out x hx).1 B3).alloc _) o4 (by decide) gr4, (HMi.out x hx).2⟩
            · have hx' := List.mem_singleton.mp hx
              subst hx'
              refine ⟨own_other (v1 := .slice A2 bs.length c2) ?_ o4 (by decide) gr4, by simp only; rw [HM.out]; exact w2'⟩
              simp only
              rw [HM.out]
              exact mi.alloc _
          · exact (hbel.trans ((B3.alloc B3.size _).mono hbel.size)).trans b4
      have HL1 := hl'
      clear hc HO HN HOw HT hxj hxm w3 hm hmine hown HBs T2 hl' hm' hmx HMi HOn HE
      go_wp2_with (first
        | (at_builtin; refine wpList_append_rows rfl (.tmp 17) (.tmp 19) 32 rfl (wr.heap.size + 1) 5 i0 _ 1 1 Tryd.underlying32 gi gz gs gb rfl (by decide) (.slice (some ⟨wr.heap.size + 1, 0, none⟩) 0 0) 0 [] rfl M0 wr.heap.size PA m pc (bs.map (Value.int .u8)) rfl HLn.out (one_ints bs .u8) CB (by unfold maxLen; omega) (by omega) (by simp) ?_; intro v2 w2 own2 b2 gr2; rw [Nat.zero_add] at own2; obtain ⟨A2, c2, rfl⟩ := own_form own2; obtain ⟨⟨x4, z4⟩, ⟨y0, y1, y2, y3, y4⟩, mi, B3⟩ := HW3.out w2 A2 c2 own2 gr2; obtain ⟨⟨o4, cl⟩, fin⟩ := HW4.out w2 A2 c2 mi B3; have FIN := Lib.hid fin; clear fin own2 b2 gr2 mi CB M0 BX BY HW3 HW4)
        | (at_builtin; refine wpList_append_rows rfl (.tmp 22) (.tmp 24) 35 rfl w.heap.size 52 iT _ 5 56 Tryd.underlying35 hi hz hs hb hc0 (by decide) (.slice A j c) j (l'.flatMap encT) rfl o4 _ (some ⟨w2.heap.size, 0, none⟩) 1 1 [.int .i64 p0, .int .i64 p1, .int .i64 p2, .int .i64 p3, .slice A2 m c2] rfl rfl (by intro u hu; simp at hu; rcases hu with rfl | rfl | rfl | rfl | rfl <;> rfl) cl (by unfold maxLen; omega) (by omega) (by have := hbel.size; have := B3.size; simp at *; omega) ?_; intro v4 w4 own4 b4 gr4; obtain ⟨A4, c4, rfl⟩ := own_form own4; obtain ⟨l2, u1, u2, u3, u4, u5⟩ := FIN.out w4 A4 c4 own4 gr4 b4; clear own4 b4 gr4 FIN o4 cl))
      go_round
      case measure => simp [intOf]; omega
      case rel => exact ⟨j + 1, by omega, by go_num, A4, c4, l2, rfl, u1, u2, u3, u4, u5⟩
    · obtain rfl : j = k := by omega
      have HM : Hid (l'.map Tx.tr = l.map Tx.tr) := Lib.hid (hm'.out.trans HE.out)
      have hT : TxsAt wr wr.heap.size A l' := ⟨CellsAt.own hown, fun x hx => (hmine x hx).1.own (hmine x hx).2⟩
      have hcap := own_capK hown
      have HH := Lib.hid (And.intro hT (And.intro hcap hl'))
      clear hown hmine hT HN HO HOw HT HE hm' hl' hcap
      go_wp2_with fail
      go_ret
      exact ⟨A, c, l', rfl, HH.out.2.1, HH.out.2.2, HM.out, HH.out.1, hbel⟩
end Go.Proofs.YtkbhmgdmkamcfaaDoor.Air
