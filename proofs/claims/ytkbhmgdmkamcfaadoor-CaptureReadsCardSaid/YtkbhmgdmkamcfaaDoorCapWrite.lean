/- The file of records: the layer's answer. -/
import Derived.Test.YtkbhmgdmkamcfaaDoorCapCheck
import Derived.Test.YtkbhmgdmkamcfaaDoorCapEncode
import Derived.Test.YtkbhmgdmkamcfaaDoorCapRows
import Derived.Lib.SlBytesConst
import Derived.ArgAppend
set_option linter.unusedVariables false
set_option linter.unusedSimpArgs false
namespace Go.Proofs.YtkbhmgdmkamcfaaDoor.Cap
open Go.RowKit Mem Rw Air Base

/-- A row of bytes of the call's own, or one that is full (its block may be marked as a text's). -/
def RowF (w : World) (base : Nat) (A : Option Addr) (m c : Nat) (zs : List Int) : Prop :=
  w.ownsRow base 5 1 (.slice A m c) m (zs.map (Value.int .u8)) ∨ (m = c ∧ zs.length = m ∧ ∃ g, A = some ⟨g, 0, none⟩ ∧ base ≤ g ∧ g < w.heap.size ∧ ∀ (j : Nat) u, (zs.map (Value.int .u8))[j]? = some u → w.cell? ⟨g, j, none⟩ = some u)
theorem RowF.below {w w' : World} {base : Nat} {A : Option Addr} {m c : Nat} {zs : List Int} (h : RowF w base A m c zs) (hb : Below w.heap.size w w') : RowF w' base A m c zs := by
  rcases h with h | ⟨h1, h2, g, h3, h4, h5, h6⟩
  · exact .inl (own_below h hb)
  · exact .inr ⟨h1, h2, g, h3, h4, Nat.lt_of_lt_of_le h5 hb.size, fun j u hu => (hb.cell (p := ⟨g, j, none⟩) h5).trans (h6 j u hu)⟩
theorem RowF.ints {w : World} {base : Nat} {A : Option Addr} {m c : Nat} {zs : List Int} (h : RowF w base A m c zs) : m ≤ c ∧ Ints .u8 w w.heap.size A zs := by
  rcases h with h | ⟨h1, h2, g, h3, h4, h5, h6⟩
  · exact ⟨own_cap h, Ints.own h⟩
  · refine ⟨by omega, .inr ⟨g, 0, h3, h5, fun j hj => ?_⟩⟩
    rw [Nat.zero_add]
    exact h6 j _ (by simp [hj])
theorem wp_append_rowF {w : World} {ops : Array Oper} {rest : List Oper} {o : Oper} {a : Act} {Q : Exit → Act → World → Prop} (hgd : o.guard = none) (s x : Operand)
    (ho : o.op = .call { callee := .builtin .append, args := #[s, x], argTypes := #[32, 32] })
    (base : Nat) (A A4 : Option Addr) (m c r c4 B : Nat) (zs ys : List Int) (hs : a.eval s = .slice A m c) (hF : RowF w base A m c zs) (hx : a.eval x = .slice A4 r c4) (hr : ys.length = r) (hr0 : 0 < r) (hi : CellsAt w B A4 (ys.map (Value.int .u8))) (hsz : m + r ≤ 1000000) (hbase : base ≤ w.heap.size)
    (h : ∀ A' c' w', w'.ownsRow base 5 1 (.slice A' (m + r) c') (m + r) ((zs ++ ys).map (Value.int .u8)) → Below base w w' → wpList Tryd.prog ops Q rest (a.put o.dst (.slice A' (m + r) c')) w') : wpList Tryd.prog ops Q (o :: rest) a w := by
  obtain ⟨i0, hi0, hz0, hz1, hz2⟩ := info_parts info_u8
  rcases hF with hF | ⟨h1, h2, g, h3, h4, h5, h6⟩
  · refine wpList_append_rows hgd s x 32 ho base 5 i0 _ 1 1 Tryd.underlying32 hi0 hz0 hz1 hz2 rfl (by decide) (.slice A m c) m (zs.map (Value.int .u8)) hs hF B A4 r c4 (ys.map (Value.int .u8)) hx (by simp [hr]) (one_ints ys .u8) hi (by unfold maxLen; omega) (by omega) hbase ?_
    intro v5 w5 o5 b5 g5
    obtain ⟨A5, c5, rfl⟩ := own_form o5
    exact h A5 c5 w5 (by rw [List.map_append]; exact o5) b5
  · rcases hi with hi | ⟨b', off', e4, hlt, hc⟩
    · have : (ys.map (Value.int .u8)).length = 0 := by rw [hi]; rfl
      rw [List.length_map] at this
      omega
    · subst h1
      refine wpList_append_grows w hgd s x 32 ho 5 i0 _ 1 1 Tryd.underlying32 hi0 hz0 hz1 hz2 rfl (by decide) A m m (zs.map (Value.int .u8)) hs (fun e => by rw [h3] at e; cases e) (by simp [h2]) (fun b e j u hu => by
        rw [h3] at e; cases e; rw [plain_add, Nat.zero_add]; exact h6 j u hu) ⟨b', off', none⟩ r c4 (ys.map (Value.int .u8)) (by rw [hx, e4]) (by simp [hr]) (fun j u hu => by rw [plain_add]; exact hc j u hu) (one_ints ys .u8) (by omega) (by unfold maxLen; omega) (by omega) ?_
      intro v5 w5 o5 g5
      obtain ⟨A5, c5, rfl⟩ := own_form o5
      exact h A5 c5 w5 (by rw [List.map_append]; exact own_base o5 hbase) ((Below.refl base w).grown g5 hbase (fun g hg => by cases hg))
/-- The time of the record ahead of a place. -/
def lastT (l : List Tr) (j : Nat) : Option Int := if j = 0 then none else (l[j - 1]?).map Tr.id
theorem write_at {l : List Tr} {j : Nat} {r : Tr} {acc : List Int} {R : List Int × Int} (h : l[j]? = some r) (he : writeR (lastT l j) (l.drop j) acc = R) :
    (chkC (lastT l j) r = 0 → writeR (lastT l (j + 1)) (l.drop (j + 1)) (acc ++ recL r) = R) ∧ (chkC (lastT l j) r ≠ 0 → R = ([], chkC (lastT l j) r)) := by
  have hl : lastT l (j + 1) = some r.id := by
    unfold lastT
    rw [if_neg (by omega), Nat.add_sub_cancel, h]; rfl
  rw [drop_at h, writeR] at he
  refine ⟨fun hc => ?_, fun hc => ?_⟩
  · rw [if_pos hc] at he; rw [hl]; exact he
  · rw [if_neg hc] at he; exact he.symm
theorem write_end {l : List Tr} {j : Nat} {acc : List Int} {R : List Int × Int} (h : l.length ≤ j) (he : writeR (lastT l j) (l.drop j) acc = R) : R = (acc, 0) := by
  rw [List.drop_eq_nil_of_le h, writeR] at he; exact he.symm
set_option maxRecDepth 100000 in
set_option maxHeartbeats 8000000 in
theorem write_any (A : Option Addr) (n c : Nat) (xs : List Tx) (w : World) (hx : xs.length = n) (hn : n ≤ 1000) (hc : n ≤ c) (ta : TxsAt w w.heap.size A xs) (hb : ∀ x ∈ xs, Bytes x.bs) (hT : Crc.Tab w) :
    Calls Tryd.prog 17 #[.slice A n c] w fun e w' => ∃ A' c' m, e = .returned (.tuple #[.slice A' m c', .int .i64 (writeR none (xs.map Tx.tr) sigL).2]) ∧ (writeR none (xs.map Tx.tr) sigL).1.length = m ∧ m ≤ c' ∧ Ints .u8 w' w'.heap.size A' (writeR none (xs.map Tx.tr) sigL).1 ∧ Below w.heap.size w w' := by
  obtain ⟨i0, hi0, hz0, hz1, hz2⟩ := info_parts info_u8
  have HN : Hid (∀ j, j < n → ∃ x, xs[j]? = some x ∧ (xs.map Tx.tr)[j]? = some x.tr ∧ x.bs.length ≤ 140737488351232 ∧ Bytes x.bs ∧ ∀ w', Below w.heap.size w w' → Ints .u8 w' w'.heap.size x.A x.bs) := Lib.hid fun j hj => by
    obtain ⟨x, h1, h2⟩ := has hx hj
    exact ⟨x, h1, by rw [List.getElem?_map, h1]; rfl, (ta.2 x h2).2.1, hb x h2, fun w' bb => later (ta.2 x h2).2.2 bb⟩
  have HO : Hid (∀ w', Below w.heap.size w w' → 0 < n → _) := Lib.hid fun w' bb h0 => tx_cells (ta.below bb) (by omega)
  have HE : Hid (∀ j, n ≤ j → (xs.map Tx.tr).length ≤ j) := Lib.hid fun j h => by rw [List.length_map]; omega
  generalize hL : xs.map Tx.tr = LL at *
  generalize hR : writeR none LL sigL = R at *
  have hr0 : Hid (writeR (lastT LL 0) (LL.drop 0) sigL = R) := Lib.hid (by rw [List.drop_zero]; exact hR)
  have HW : Hid (∀ (j : Nat) (r : Tr) (acc : List Int), LL[j]? = some r → writeR (lastT LL j) (LL.drop j) acc = R → (chkC (lastT LL j) r = 0 → writeR (lastT LL (j + 1)) (LL.drop (j + 1)) (acc ++ recL r) = R) ∧ (chkC (lastT LL j) r ≠ 0 → R = ([], chkC (lastT LL j) r))) := Lib.hid fun j r acc h he => write_at h he
  have HZ : Hid (∀ (j : Nat) (acc : List Int), n ≤ j → writeR (lastT LL j) (LL.drop j) acc = R → R = (acc, 0)) := Lib.hid fun j acc hj he => write_end (HE.out j hj) he
  have B0 : Below w.heap.size w (w.alloc (.cells #[.int .u8 65, .int .u8 73, .int .u8 82, .int .u8 49] 5 (4, 5))) := (Below.refl _ w).alloc (Nat.le_refl _) _
  have hcv : (convert 32 32 (.slice (some ⟨w.heap.size, 0, none⟩) 4 4)).run Tryd.prog (w.alloc (.cells #[.int .u8 65, .int .u8 73, .int .u8 82, .int .u8 49] 5)) = .ok (.slice (some ⟨w.heap.size, 0, none⟩) 4 4) (w.alloc (.cells #[.int .u8 65, .int .u8 73, .int .u8 82, .int .u8 49] 5 (4, 5))) := Lib.run_convert_bytes_const w 32 5 #[.int .u8 65, .int .u8 73, .int .u8 82, .int .u8 49] 4 4 Tryd.underlying32 Tryd.underlying5
  have O0 : RowF (w.alloc (.cells #[.int .u8 65, .int .u8 73, .int .u8 82, .int .u8 49] 5 (4, 5))) w.heap.size (some ⟨w.heap.size, 0, none⟩) 4 4 sigL := .inr ⟨rfl, rfl, w.heap.size, rfl, Nat.le_refl _, by simp, fun j u hu => by
    rw [cell_of_row _ w.heap.size j _ _ _ (heap_alloc_new w _)]
    simpa [sigL] using hu⟩
  have HLT : Hid (∀ j, j < n → 0 < j → ∃ y, xs[j - 1]? = some y ∧ lastT LL j = some y.id) := Lib.hid fun j hj h0 => by
    obtain ⟨y, h1, h2⟩ := has hx (show j - 1 < n by omega)
    refine ⟨y, h1, ?_⟩
    unfold lastT
    rw [if_neg (by omega), ← hL, List.getElem?_map, h1]; rfl
  clear hL hR HE ta hb
  go_enter Tryd.func17, Tryd.ntmps17
  go_wp2_with fail
  clear hcv
  generalize w.alloc (.cells #[.int .u8 65, .int .u8 73, .int .u8 82, .int .u8 49] 5 (4, 5)) = W at *
  go_loopw [4, 5, 12] (fun s4 _ s12 wr => ∃ (j m : Nat) (acc : List Int), ∃ A' c', j ≤ n ∧ s12 = .int .i64 j ∧ s4 = .slice A' m c' ∧ Hid (acc.length = m) ∧ m ≤ 4 + 276 * j ∧ RowF wr w.heap.size A' m c' acc ∧ Hid (writeR (lastT LL j) (LL.drop j) acc = R) ∧ Below w.heap.size w wr) (fun _ _ s12 _ => n - (intOf s12).toNat)
  case atStart => exact ⟨0, 4, sigL, _, _, by omega, rfl, rfl, Lib.hid rfl, by omega, O0, hr0, B0⟩
  case round =>
    obtain ⟨j, m, acc, A', c', hj, rfl, rfl, hm, hm2, hown, hno, hbel⟩ := hrel
    clear hr0 B0 O0
    by_cases c1 : j < n
    · obtain ⟨x, hxj, hxt, xl, xb, hxi⟩ := HN.out j c1
      have hw1 := HW.out j x.tr acc hxt hno.out
      have hlt := HLT.out j c1
      obtain ⟨b, off, rfl, hbl, hcc⟩ := HO.out _ hbel (by omega)
      obtain ⟨h0, h1, h2, h3, h4⟩ := hcc j x hxj
      have g1 : (0 : Int) ≤ (j : Int) ∧ (j : Int) < (n : Int) := by omega
      have g2 : (j : Int) ≤ (c : Int) := by omega
      have hcp : Hid (match lastT LL j with | none => j = 0 | some p => 0 < j ∧ ∃ b' off', (some ⟨b, off, none⟩ : Option Addr) = some ⟨b', off', none⟩ ∧ b' < w.heap.size ∧ wr.cell? ⟨b', off' + (j - 1) * 5, none⟩ = some (.int .i64 p)) := by
        rcases Nat.eq_zero_or_pos j with hj0 | hj0
        · rw [show lastT LL j = none by unfold lastT; rw [if_pos hj0]]; exact Lib.hid hj0
        · obtain ⟨y, hy, hl⟩ := hlt hj0
          rw [hl]
          exact Lib.hid ⟨hj0, b, off, rfl, hbl, (hcc (j - 1) y hy).1⟩
      clear hlt hcc hxj hxt HN HO HW HZ HLT
      obtain ⟨p0, p1, p2, p3, pA, pc, pb⟩ := x
      simp only at h0 h1 h2 h3 h4 xl xb hxi
      have BJ : Below wr.heap.size wr (wr.alloc (.cells #[.int .i64 p0, .int .i64 p1, .int .i64 p2, .int .i64 p3, .slice pA pb.length pc] 52)) := (Below.refl _ wr).alloc (Nat.le_refl _) _
      have TJ := Blk.fresh wr 52 #[.int .i64 p0, .int .i64 p1, .int .i64 p2, .int .i64 p3, .slice pA pb.length pc]
      have UJ : (wr.alloc (.cells #[.int .i64 p0, .int .i64 p1, .int .i64 p2, .int .i64 p3, .slice pA pb.length pc] 52)).cell? ⟨wr.heap.size, 0, none⟩ = some (.int .i64 p0) ∧ (wr.alloc (.cells #[.int .i64 p0, .int .i64 p1, .int .i64 p2, .int .i64 p3, .slice pA pb.length pc] 52)).cell? ⟨wr.heap.size, 1, none⟩ = some (.int .i64 p1) ∧ (wr.alloc (.cells #[.int .i64 p0, .int .i64 p1, .int .i64 p2, .int .i64 p3, .slice pA pb.length pc] 52)).cell? ⟨wr.heap.size, 2, none⟩ = some (.int .i64 p2) ∧ (wr.alloc (.cells #[.int .i64 p0, .int .i64 p1, .int .i64 p2, .int .i64 p3, .slice pA pb.length pc] 52)).cell? ⟨wr.heap.size, 3, none⟩ = some (.int .i64 p3) ∧ (wr.alloc (.cells #[.int .i64 p0, .int .i64 p1, .int .i64 p2, .int .i64 p3, .slice pA pb.length pc] 52)).cell? ⟨wr.heap.size, 4, none⟩ = some (.slice pA pb.length pc) := ⟨TJ.cell 0, TJ.cell 1, TJ.cell 2, TJ.cell 3, TJ.cell 4⟩
      have HCk : Hid (∀ w', Below wr.heap.size wr w' → Calls Tryd.prog 34 #[.agg #[.int .i64 p0, .int .i64 p1, .int .i64 p2, .int .i64 p3, .slice pA pb.length pc], .slice (some ⟨b, off, none⟩) j c] w' fun e w2 => e = .returned (.int .i64 (chkC (lastT LL j) ⟨p0, p1, p2, p3, pb⟩)) ∧ Below w'.heap.size w' w2) := Lib.hid fun w' bb => by
        refine check_any p0 p1 p2 p3 pA (some ⟨b, off, none⟩) pb.length pc j c pb (lastT LL j) w' rfl (by omega) ?_
        have hq := hcp.out
        revert hq
        cases lastT LL j with
        | none => exact id
        | some p =>
          rintro ⟨q1, b', off', q2, q3, q4⟩
          exact ⟨q1, b', off', q2, by have := hbel.size; have := bb.size; omega, (bb.cell (p := ⟨b', off' + (j - 1) * 5, none⟩) (by have := hbel.size; show b' < wr.heap.size; omega)).trans q4⟩
      have hgood : chkC (lastT LL j) ⟨p0, p1, p2, p3, pb⟩ = 0 → rightB ⟨p0, p1, p2, p3, pb⟩ = true ∧ pb.length ≤ 260 := fun h => ⟨(chk_good h).1, (chk_good h).2.1⟩
      have hw2 : (chkC (lastT LL j) ⟨p0, p1, p2, p3, pb⟩ = 0 → writeR (lastT LL (j + 1)) (LL.drop (j + 1)) (acc ++ recL ⟨p0, p1, p2, p3, pb⟩) = R) ∧ (chkC (lastT LL j) ⟨p0, p1, p2, p3, pb⟩ ≠ 0 → R = ([], chkC (lastT LL j) ⟨p0, p1, p2, p3, pb⟩)) := hw1
      clear hw1 hcp TJ
      generalize chkC (lastT LL j) ⟨p0, p1, p2, p3, pb⟩ = z at *
      have HB5 : Hid (wr.heap.size ≤ (wr.alloc (.cells #[.int .i64 p0, .int .i64 p1, .int .i64 p2, .int .i64 p3, .slice pA pb.length pc] 52)).heap.size ∧ wr.heap.size < (wr.alloc (.cells #[.int .i64 p0, .int .i64 p1, .int .i64 p2, .int .i64 p3, .slice pA pb.length pc] 52)).heap.size) := Lib.hid ⟨by simp, by simp⟩
      have HOw := Lib.hid (hown.below BJ)
      have HTx := Lib.hid (thenB hbel BJ)
      clear hown
      by_cases hz : z = 0
      · have hz' : (z == 0) = true := by simpa using hz
        obtain ⟨hg1, hg2⟩ := hgood hz
        have hnx := Lib.hid (hw2.1 hz)
        have HEn : Hid (∀ w', Below w.heap.size w w' → Calls Tryd.prog 35 #[.agg #[.int .i64 p0, .int .i64 p1, .int .i64 p2, .int .i64 p3, .slice pA pb.length pc]] w' fun e w2 => Base.Makes w' w2 e (recL ⟨p0, p1, p2, p3, pb⟩)) := Lib.hid fun w' bb => encode_any p0 p1 p2 p3 pA pb.length pc pb w' rfl hg1 hg2 xb (hxi w' bb) (hT.below bb)
        have hrl : (recL ⟨p0, p1, p2, p3, pb⟩).length = 16 + pb.length := rec_len _
        clear hw2 hgood hxi
        subst hz
        go_wp2_with fail
        generalize wr.alloc (.cells #[.int .i64 p0, .int .i64 p1, .int .i64 p2, .int .i64 p3, .slice pA pb.length pc] 52) = W2 at *
        go_region_held3 (fun w' => w'.cell? ⟨wr.heap.size, 0, none⟩ = some (.int .i64 p0) ∧ w'.cell? ⟨wr.heap.size, 1, none⟩ = some (.int .i64 p1) ∧ w'.cell? ⟨wr.heap.size, 2, none⟩ = some (.int .i64 p2) ∧ w'.cell? ⟨wr.heap.size, 3, none⟩ = some (.int .i64 p3) ∧ w'.cell? ⟨wr.heap.size, 4, none⟩ = some (.slice pA pb.length pc)) (first | exact K4 | exact UJ) (first | (go_at_call 34; refine (HCk.out _ BJ.drew).mono ?_; rintro e w3 ⟨rfl, b3⟩; have BV : Below W2.heap.size W2 w3 := dB (Below.refl _ _) b3; have K4 : w3.cell? ⟨wr.heap.size, 0, none⟩ = some (.int .i64 p0) ∧ w3.cell? ⟨wr.heap.size, 1, none⟩ = some (.int .i64 p1) ∧ w3.cell? ⟨wr.heap.size, 2, none⟩ = some (.int .i64 p2) ∧ w3.cell? ⟨wr.heap.size, 3, none⟩ = some (.int .i64 p3) ∧ w3.cell? ⟨wr.heap.size, 4, none⟩ = some (.slice pA pb.length pc) := ⟨One_below UJ.1 BV, One_below UJ.2.1 BV, One_below UJ.2.2.1 BV, One_below UJ.2.2.2.1 BV, One_below UJ.2.2.2.2 BV⟩))
        have BV2 := thenB HTx.out BV
        have Ow := HOw.out.below BV
        have Bsz := BV2.size
        generalize hrc : recL ⟨p0, p1, p2, p3, pb⟩ = rc at *
        have HRL := Lib.hid hrl
        clear hrl hrc
        generalize pb.length = pbl at *
        go_wp2_with (first
          | (go_at_call 35; refine (HEn.out _ BV2).mono ?_; rintro e w4 ⟨A4, c4, rfl, o4, b4⟩)
          | (at_builtin; refine wp_append_rowF rfl (.tmp 25) (.tmp 27) rfl w.heap.size A' A4 m c' rc.length c4 _ acc rc rfl (Ow.below b4) rfl rfl (by have := HRL.out; omega) (cells_ints (Ints.own o4)) (by have := HRL.out; omega) ((thenB BV2 b4).size) ?_; intro A5 c5 w5 o5 b5))
        go_round
        case measure => simp [intOf]; omega
        case rel => exact ⟨j + 1, m + rc.length, acc ++ rc, A5, c5, by omega, by go_num, rfl, Lib.hid (by rw [List.length_append, hm.out]), by have := HRL.out; omega, Or.inl o5, hnx, (thenB BV2 b4).trans b5⟩
      · have hz' : (z == 0) = false := by simpa using hz
        have hnx := Lib.hid (hw2.2 hz)
        clear hw2 hgood hxi
        go_wp2_with fail
        generalize wr.alloc (.cells #[.int .i64 p0, .int .i64 p1, .int .i64 p2, .int .i64 p3, .slice pA pb.length pc] 52) = W2 at *
        go_region_held3 (fun w' => w'.cell? ⟨wr.heap.size, 0, none⟩ = some (.int .i64 p0) ∧ w'.cell? ⟨wr.heap.size, 1, none⟩ = some (.int .i64 p1) ∧ w'.cell? ⟨wr.heap.size, 2, none⟩ = some (.int .i64 p2) ∧ w'.cell? ⟨wr.heap.size, 3, none⟩ = some (.int .i64 p3) ∧ w'.cell? ⟨wr.heap.size, 4, none⟩ = some (.slice pA pb.length pc)) (first | exact K4 | exact UJ) (first | (go_at_call 34; refine (HCk.out _ BJ.drew).mono ?_; rintro e w3 ⟨rfl, b3⟩; have BV : Below W2.heap.size W2 w3 := dB (Below.refl _ _) b3; have K4 : w3.cell? ⟨wr.heap.size, 0, none⟩ = some (.int .i64 p0) ∧ w3.cell? ⟨wr.heap.size, 1, none⟩ = some (.int .i64 p1) ∧ w3.cell? ⟨wr.heap.size, 2, none⟩ = some (.int .i64 p2) ∧ w3.cell? ⟨wr.heap.size, 3, none⟩ = some (.int .i64 p3) ∧ w3.cell? ⟨wr.heap.size, 4, none⟩ = some (.slice pA pb.length pc) := ⟨One_below UJ.1 BV, One_below UJ.2.1 BV, One_below UJ.2.2.1 BV, One_below UJ.2.2.2.1 BV, One_below UJ.2.2.2.2 BV⟩))
        have BV2 := thenB HTx.out BV
        go_wp2_with fail
        go_ret2
        rw [hnx.out]
        exact ⟨none, 0, 0, rfl, rfl, Nat.le_refl _, .inl rfl, BV2⟩
    · have e := Lib.hid (HZ.out j acc (by omega) hno.out)
      clear HN HO HW HZ HLT
      have : ¬ ((j : Int) < (n : Int)) := by omega
      go_wp2_with fail
      go_ret2
      rw [e.out]
      exact ⟨A', c', m, rfl, hm.out, hown.ints.1, hown.ints.2, hbel⟩
end Go.Proofs.YtkbhmgdmkamcfaaDoor.Cap
