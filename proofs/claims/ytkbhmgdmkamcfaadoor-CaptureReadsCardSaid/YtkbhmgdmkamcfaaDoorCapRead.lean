/- A file is read. -/
import Derived.Test.YtkbhmgdmkamcfaaDoorCapCatch
import Derived.Test.YtkbhmgdmkamcfaaDoorCapRdF
import Derived.Test.YtkbhmgdmkamcfaaDoorCapRecW
import Derived.Test.YtkbhmgdmkamcfaaDoorCapRecO
set_option linter.unusedVariables false
set_option linter.unusedSimpArgs false
set_option maxRecDepth 100000
namespace Go.Proofs.YtkbhmgdmkamcfaaDoor.Cap
open Go.RowKit Mem Rw Air Base Oct

/-- What a reading hands back. -/
def RdPost (w : World) (zs : List Int) (e : Ending) (w' : World) : Prop :=
  ∃ RA rc l, e = .returned (.tuple #[.slice RA l.length rc, .int .i64 (readA zs).2.1, .int .i64 (readA zs).2.2]) ∧ l.map Tx.tr = (readA zs).1 ∧ l.length ≤ rc ∧ TxsAt w' w'.heap.size RA l ∧ Below w.heap.size w w'
theorem Kept.txs {w : World} {base : Nat} {RA : Option Addr} {rn rc : Nat} {l : List Tx} (h : Kept w base RA rn rc l) : rn ≤ rc ∧ TxsAt w w.heap.size RA l :=
  ⟨own_capK h.2.1, CellsAt.own h.2.1, fun x hx => (h.2.2 x hx).1.own (h.2.2 x hx).2⟩
theorem Kept.fin {s : Nat} {w w' : World} {v0 v1 v2 : Value} {RA : Option Addr} {rn rc : Nat} {l : List Tx} (h : Kept w (s + 5) RA rn rc l) (f : Fin3 s w w' v0 v1 v2) : Kept w' (s + 5) RA rn rc l :=
  ⟨h.1, f.2.2.2.2.2 _ _ _ _ _ _ (by omega) h.2.1, fun x hx => ⟨f.2.2.2.2.2 _ _ _ _ _ _ (by omega) (h.2.2 x hx).1, (h.2.2 x hx).2⟩⟩
theorem rd_post {s : Nat} {w W W' : World} {zs : List Int} {RA : Option Addr} {rn rc : Nat} {l : List Tx} {k code : Int} {v0 v1 v2 : Value} (hs : w.heap.size = s) (hk : Kept W (s + 5) RA rn rc l) (hb : Below s w W) (hr : readA zs = (l.map Tx.tr, k, code)) (f : Fin3 s W W' v0 v1 v2) :
    RdPost w zs (.returned (.tuple #[.slice RA rn rc, .int .i64 k, .int .i64 code])) W' := by
  have hk' := hk.fin f
  refine ⟨RA, rc, l, ?_, ?_, ?_, hk'.txs.2, ?_⟩
  · rw [hr, hk.1]
  · rw [hr]
  · rw [hk.1]; exact hk'.txs.1
  · rw [hs]; exact hb.trans f.2.2.2.2.1
theorem read_bad (A : Option Addr) (n c : Nat) (zs : List Int) (code : Int) (w : World) (hr : readA zs = ([], 0, code))
    (HSg : ∀ w', Below w.heap.size w w' → Rdr w' (w.heap.size + 3) A n c 0 (.slice none 0 0) → Calls Tryd.prog 39 #[.pointer (some ⟨w.heap.size + 3, 0, none⟩)] w' fun e w2 => e = panE code ∧ w' = w2) :
    Calls Tryd.prog 20 #[.slice A n c] w fun e w' => RdPost w zs e w' := by
  have hmf : ∀ (fn : Fn) (first cap : Array Value) (w : World), (Instr.makeFunc fn first cap).run Tryd.prog w = .ok (.func fn first cap) w := fun _ _ _ _ => rfl
  obtain ⟨s1, s2, s3, s4⟩ := start_any A n c w _ rfl
  have HS := Lib.hid (HSg _ s3 s2)
  have HB := Lib.hid s1
  have HR := Lib.hid s2
  have HW := Lib.hid s3
  clear s1 s2 s3 s4 HSg
  go_enter_defers Tryd.func20, Tryd.ntmps20
  go_wp2_with (go_at_call 39; refine HS.out.mono ?_; rintro e w1 ⟨rfl, rfl⟩)
  exact door_pan HB.out HR.out rfl rfl rfl fun W' f => rd_post (l := []) rfl ⟨rfl, World.ownsRow_nil _ _ _ _, by simp⟩ HW.out hr f
theorem ints_drop {k : IntKind} {w : World} {B b off : Nat} {zs : List Int} (h : Ints k w B (some ⟨b, off, none⟩) zs) (m : Nat) : Ints k w B (some ⟨b, off + m, none⟩) (zs.drop m) := by
  rcases h with h | ⟨b', off', e, hlt, hc⟩
  · left; rw [h]; simp
  · cases e
    refine .inr ⟨b, off + m, rfl, hlt, fun j hj => ?_⟩
    rw [List.length_drop] at hj
    rw [Nat.add_assoc, hc (m + j) (by omega)]
    simp [List.getD, List.getElem?_drop]
/-- The middle of a reading. -/
def RdSt (s n b : Nat) (zs : List Int) (wr : World) (n' : Nat) : Prop :=
  ∃ off c' k RA rn rc l f pv ys, Rdr wr (s + 3) (some ⟨b, off, none⟩) n' c' k (.slice RA rn rc) ∧ ys.length = n' ∧ n' ≤ c' ∧ c' ≤ 9223372036854775807 ∧ Bytes ys ∧ Ints .u8 wr s (some ⟨b, off, none⟩) ys ∧ Kept wr (s + 5) RA rn rc l ∧
    MidF zs (l.map Tx.tr) k f pv ys ∧ pv = (l.getLast?).map Tx.id ∧ k + (n' : Int) = (n : Int) ∧ 16 * (rn : Int) ≤ k ∧ 4 ≤ k
theorem last_cell {w : World} {base : Nat} {RA : Option Addr} {rn rc : Nat} {l : List Tx} (h : Kept w base RA rn rc l) :
    match (l.getLast?).map Tx.id with | none => rn = 0 | some p => 0 < rn ∧ ∃ b off, RA = some ⟨b, off, none⟩ ∧ b < w.heap.size ∧ w.cell? ⟨b, off + (rn - 1) * 5, none⟩ = some (.int .i64 p) := by
  obtain ⟨h1, h2, h3⟩ := h
  cases hl : l.getLast? with
  | none => simp only [Option.map_none]; rw [List.getLast?_eq_none_iff] at hl; subst hl; exact h1.symm
  | some x =>
    simp only [Option.map_some]
    have hx : l[l.length - 1]? = some x := by rw [← List.getLast?_eq_getElem?]; exact hl
    have hpos : 0 < l.length := by
      have := (List.getElem?_eq_some_iff.1 hx).1; omega
    obtain ⟨b, off, e, hb, hc⟩ := ListAt.open_ (CellsAt.own h2 : ListAt encT w w.heap.size RA l) sizT (by decide) hpos
    refine ⟨by omega, b, off, e, hb, ?_⟩
    have := hc (l.length - 1) x hx 0 (.int .i64 x.id) rfl
    rw [h1] at this
    exact this
/-- What the next record leaves: it is kept, or the reading ends with an error. -/
def RdRound (s n b : Nat) (zs : List Int) (wr : World) (n' : Nat) (e : Ending) (w2 : World) : Prop :=
  (e = .returned (.tuple #[]) ∧ ∃ n2, n2 < n' ∧ RdSt s n b zs w2 n2 ∧ Bx s w2 ∧ Below s wr w2 ∧ s + 5 ≤ w2.heap.size) ∨
  ∃ code A n c k RA rn rc l, e = panE code ∧ Rdr w2 (s + 3) A n c k (.slice RA rn rc) ∧ Kept w2 (s + 5) RA rn rc l ∧ Bx s w2 ∧ Below s wr w2 ∧ readA zs = (l.map Tx.tr, k, code)
theorem round_any (s n b n' : Nat) (zs : List Int) (wr : World) (hS : RdSt s n b zs wr n') (hB : Bx s wr) (hs : s + 5 ≤ wr.heap.size) (hT : Crc.Tab wr) (hn : n ≤ 60000) (h0 : n' ≠ 0) :
    Calls Tryd.prog 40 #[.pointer (some ⟨s + 3, 0, none⟩)] wr fun e w2 => RdRound s n b zs wr n' e w2 := by
  obtain ⟨off, c', k, RA, rn, rc, l, f, pv, ys, r1, r2, r3, r4, r5, r6, r7, r8, r9, r10, r11, r12⟩ := hS
  have hk : 0 ≤ k ∧ k + (n' : Int) ≤ 140737488351232 := by omega
  have hi : Ints .u8 wr wr.heap.size (some ⟨b, off, none⟩) ys := r6.more (by omega)
  have hy0 : ys.length ≠ 0 := by omega
  have bad : ∀ code w2, Below wr.heap.size wr w2 → recE pv ys = code → code ≠ 0 → RdRound s n b zs wr n' (panE code) w2 := fun code w2 bb hc hne => by
    refine .inr ⟨code, _, _, _, _, RA, rn, rc, l, rfl, r1.below bb r1.lt, r7.below bb, hB.keep (bb.mono (by omega)) (bb.cell (by show s + 4 < wr.heap.size; omega)), bb.mono (by omega), ?_⟩
    rw [r8.bad hy0 (by rw [hc]; exact hne), hc]
  by_cases a1 : n' < 13 ∨ (13 ≤ n' ∧ 260 < lenZ (ys.take 13))
  · obtain ⟨e1, e2⟩ := recE_nz (pv := pv) (r2 ▸ a1)
    refine (rec_head (s + 3) n' c' b off k RA rn rc (s + 5) l ys wr r1 r2 r3 r4 hk r5 hi a1).mono ?_
    rintro e w2 ⟨rfl, bb⟩
    exact bad _ _ bb e1 e2
  have a13 : 13 ≤ n' := by omega
  have al : ¬ 260 < lenZ (ys.take 13) := fun h => a1 (.inr ⟨a13, h⟩)
  by_cases a2 : n' < 16 + recN ys
  · refine (rec_short (s + 3) n' c' b off k RA rn rc (s + 5) l ys wr r1 r2 r3 r4 hk r5 hi a13 al a2).mono ?_
    rintro e w2 ⟨rfl, bb⟩
    exact bad _ _ bb (recE_3 (by omega) al (by omega)) (by decide)
  have a2' : 16 + recN ys ≤ n' := by omega
  by_cases a3 : (bodZ ys).2 = 0
  · have hpv := last_cell r7
    rw [← r9] at hpv
    have eC := recE_chk (pv := pv) (zs := ys) (by omega) al (by omega) a3
    by_cases a4 : chkC pv (decR (bodZ ys).1) = 0
    · refine (rec_ok (s + 3) n' c' b off k RA rn rc (s + 5) l ys wr r1 r2 r3 r4 hk r5 hi hT a13 al a2' a3 (by omega) hs (by omega) r7 pv hpv a4).mono ?_
      rintro e w2 ⟨rfl, o', RA', rc', x, hx, q1, q2, q3, q4, q5⟩
      obtain ⟨f', hm⟩ := r8.next hy0 (eC.trans a4)
      have hsz := q4.size
      refine .inl ⟨rfl, n' - (16 + recN ys), by omega, ⟨o', c' - (16 + recN ys), _, RA', rn + 1, rc', l ++ [x], f', some (decR (bodZ ys).1).id, ys.drop (16 + recN ys), q1, by rw [List.length_drop]; omega, by omega, by omega, bytes_drop r5 _, ?_, q3, ?_, ?_, by push_cast; omega, by push_cast; omega, by push_cast; omega⟩, hB.keep q4 (q5 ⟨s + 4, 0, none⟩ (by show s + 4 < s + 5; omega) (by show s + 4 ≠ s + 3; omega)), q4.mono (by omega), ?_⟩
      · have hI := (r6.below (q4.mono (by omega)))
        rcases q2 with rfl | q2
        · exact ints_drop hI _
        · left; rw [List.drop_eq_nil_of_le (by omega)]
      · rw [List.map_append, List.map_singleton, hx]
        have : k + (16 + (recN ys : Int)) = k + ((16 + recN ys : Nat) : Int) := by push_cast; rfl
        rw [← this]; exact hm
      · rw [List.getLast?_append]; simp [← hx, Tx.tr]
      · omega
    · refine (rec_wrong (s + 3) n' c' b off k RA rn rc (s + 5) l ys wr r1 r2 r3 r4 hk r5 hi hT a13 al a2' a3 (by omega) hs (by omega) r7 pv hpv a4).mono ?_
      rintro e w2 ⟨rfl, bb⟩
      exact bad _ _ bb eC a4
  · refine (rec_sum (s + 3) n' c' b off k RA rn rc (s + 5) l ys wr r1 r2 r3 r4 hk r5 hi hT a13 al a2' a3).mono ?_
    rintro e w2 ⟨rfl, bb⟩
    exact bad _ _ bb (recE_sum (by omega) al (by omega) a3) a3
/-- How many bytes are left. -/
def rdLeft (s : Nat) (w : World) : Nat := match w.cell? ⟨s + 3, 0, none⟩ with | some (.slice _ n _) => n | _ => 0
theorem rdLeft_eq {s n b n' : Nat} {zs : List Int} {w : World} (h : RdSt s n b zs w n') : rdLeft s w = n' := by
  obtain ⟨off, c', k, RA, rn, rc, l, f, pv, ys, r1, _⟩ := h
  unfold rdLeft
  rw [(rdr_cells r1).1]
theorem read_good (A : Option Addr) (n c b off : Nat) (zs : List Int) (w : World) (hA : A = some ⟨b, off, none⟩) (hb : b < w.heap.size) (hz : zs.length = n) (hnc : n ≤ c) (hc : c ≤ 9223372036854775807) (hn : n ≤ 60000) (h4 : 4 ≤ n) (bz : Bytes zs) (hi : Ints .u8 w w.heap.size A zs) (hT : Crc.Tab w) (hsg : zs.take 4 = sigL) :
    Calls Tryd.prog 20 #[.slice A n c] w fun e w' => RdPost w zs e w' := by
  subst hA
  have hmf : ∀ (fn : Fn) (first cap : Array Value) (w : World), (Instr.makeFunc fn first cap).run Tryd.prog w = .ok (.func fn first cap) w := fun _ _ _ _ => rfl
  obtain ⟨s1, s2, s3, s4⟩ := start_any (some ⟨b, off, none⟩) n c w _ rfl
  have HS := Lib.hid (sig_ok (w.heap.size + 3) n c b off 0 (.slice none 0 0) zs _ s2 hz h4 hnc hc (by omega) (later hi s3) hsg)
  have HK : Hid (∀ w2 o', Rdr w2 (w.heap.size + 3) (some ⟨b, o', none⟩) (n - 4) (c - 4) (0 + ((4 : Nat) : Int)) (.slice none 0 0) → (o' = off + 4 ∨ 4 = n) → Chg (w.heap.size + 3) _ w2 → RdSt w.heap.size n b zs w2 (n - 4) ∧ Bx w.heap.size w2 ∧ Below w.heap.size w w2 ∧ w.heap.size + 5 ≤ w2.heap.size) := Lib.hid fun w2 o' q1 q2 q3 => by
    have B2 : Below w.heap.size w w2 := s3.trans (q3.2.2.1 _ (by omega))
    refine ⟨⟨o', c - 4, 4, none, 0, 0, [], zs.length, none, zs.drop 4, q1, by rw [List.length_drop]; omega, by omega, by omega, bytes_drop bz 4, ?_, ⟨rfl, World.ownsRow_nil _ _ _ _, by simp⟩, MidF.start (by omega) hsg, rfl, by omega, by omega, by omega⟩, s1.keep (q3.2.2.1 _ (Nat.le_refl _)) (q3.2.1 _ (by show w.heap.size + 4 ≠ w.heap.size + 3; omega)), B2, by rw [q3.1, s4]; omega⟩
    have hI := hi.below B2
    rcases q2 with rfl | q2
    · exact ints_drop hI 4
    · left; rw [List.drop_eq_nil_of_le (by omega)]
  have HT : Hid (∀ w2, Below w.heap.size w w2 → Crc.Tab w2) := Lib.hid fun w2 h => hT.below h
  clear s1 s2 s3 s4 hi bz hT hz
  go_enter_defers Tryd.func20, Tryd.ntmps20
  go_wp2_with (go_at_call 39; refine HS.out.mono ?_; rintro e w1 ⟨o', rfl, q1, q2, q3⟩)
  obtain ⟨k1, k2, k3, k4⟩ := HK.out w1 o' q1 q2 q3
  clear HK HS q1 q2 q3
  go_wp2_with fail
  generalize hs : w.heap.size = s at *
  go_loopw [12] (fun _ wr => ∃ n', RdSt s n b zs wr n' ∧ Bx s wr ∧ Below s w wr ∧ s + 5 ≤ wr.heap.size) (fun _ wr => rdLeft s wr)
  case atStart => exact ⟨n - 4, k1, k2, k3, k4⟩
  case round =>
    obtain ⟨n', x1, x2, x3, x4⟩ := hrel
    have hm := rdLeft_eq x1
    have HR : Hid (n' ≠ 0 → Calls Tryd.prog 40 #[.pointer (some ⟨s + 1 + 1 + 1, 0, none⟩)] wr fun e w2 => RdRound s n b zs wr n' e w2) := Lib.hid fun h0 => round_any s n b n' zs wr x1 x2 x4 (HT.out _ x3) hn h0
    have HD : Hid (n' = 0 → ∃ RA rn rc l k, Kept wr (s + 5) RA rn rc l ∧ readA zs = (l.map Tx.tr, k, 0) ∧ wr.cell? ⟨s + 1 + 1 + 1, 1, none⟩ = some (.int .i64 k) ∧ wr.cell? ⟨s + 1 + 1 + 1, 2, none⟩ = some (.slice RA rn rc)) := Lib.hid fun h0 => by
      obtain ⟨off, c', k, RA, rn, rc, l, f, pv, ys, r1, r2, r3, r4, r5, r6, r7, r8, _⟩ := x1
      exact ⟨RA, rn, rc, l, k, r7, r8.done (by omega), (rdr_cells r1).2.1, (rdr_cells r1).2.2.1⟩
    have p0 : wr.cell? ⟨s + 1 + 1 + 1 + 1, 0, none⟩ = some (.pointer (some ⟨s + 1 + 1 + 1, 0, none⟩)) := x2.1
    obtain ⟨A', c', h0⟩ : ∃ A' c', wr.cell? ⟨s + 1 + 1 + 1, 0, none⟩ = some (.slice A' n' c') := by
      obtain ⟨off, c', k, RA, rn, rc, l, f, pv, ys, r1, _⟩ := x1
      exact ⟨_, _, (rdr_cells r1).1⟩
    have X1 := Lib.hid x1
    have X2 := Lib.hid x2
    clear x1 x2
    by_cases hz : n' = 0
    · subst hz
      obtain ⟨RA, rn, rc, l, k, q1, q2, q3, q4⟩ := HD.out rfl
      obtain ⟨_, v0, v1, v2, b0, b1, b2⟩ := X2.out
      have f0 := frozen_of_row wr _ 0 _ _ b0
      have f1 := frozen_of_row wr _ 0 _ _ b1
      have f2 : wr.frozen? ⟨s + 1 + 1, 0, none⟩ = false := frozen_of_row wr _ 0 _ _ b2
      have c0 : wr.cell? ⟨s, 0, none⟩ = some v0 := b0.cell 0
      have c1 : wr.cell? ⟨s + 1, 0, none⟩ = some v1 := b1.cell 0
      have c2 : wr.cell? ⟨s + 1 + 1, 0, none⟩ = some v2 := b2.cell 0
      have HF := Lib.hid (fin3_set b0 b1 b2 (.slice RA rn rc) (.int .i64 k) (.int .i64 0)).drew
      have Q1 := Lib.hid q1
      have Q2 := Lib.hid q2
      clear HD HR b0 b1 b2 q1 q2 hm
      go_wp2_with fail
      go_region
      all_goals
        go_wp2_with fail
        exact door_idle HF.out.1 HF.out.2.1 HF.out.2.2.1 rfl rfl rfl (rd_post hs Q1.out x3 Q2.out HF.out)
    · have hpos : (0 : Int) < (n' : Int) ∧ 0 < n' := by omega
      have HR2 := Lib.hid (HR.out hz)
      clear HR HD
      go_wp2_with fail
      refine HR2.out.mono ?_
      rintro e w2 (⟨rfl, n2, y1, y2, y3, y4, y5⟩ | ⟨code, A2, na, ca, k, RA, rn, rc, l, rfl, y1, y2, y3, y4, y5⟩)
      · have hm2 := rdLeft_eq y2
        go_wp2_with fail
        go_roundw
        case rel => exact ⟨n2, y2, y3, x3.trans y4, y5⟩
        case measure => rw [hm2, hm]; exact y1
      · go_wp2_with fail
        exact door_pan y3 y1 rfl rfl rfl fun W' f => rd_post hs y2 (x3.trans y4) y5 f
/-- A file is read. -/
theorem read_any (A : Option Addr) (n c : Nat) (zs : List Int) (w : World) (hz : zs.length = n) (hnc : n ≤ c) (hc : c ≤ 9223372036854775807) (hn : n ≤ 60000) (bz : Bytes zs) (hi : Ints .u8 w w.heap.size A zs) (hT : Crc.Tab w) :
    Calls Tryd.prog 20 #[.slice A n c] w fun e w' => RdPost w zs e w' := by
  by_cases h4 : n < 4
  · exact read_bad A n c zs 3 w (by unfold readA; rw [if_pos (by omega)]) fun w' _ hr => sig_short _ n c A 0 _ w' hr h4 hnc hc
  · have hi' := hi
    rcases hi with hi | ⟨b, off, rfl, hb, _⟩
    · subst hi; simp at hz; omega
    by_cases hsg : zs.take 4 = sigL
    · exact read_good _ n c b off zs w rfl hb hz hnc hc hn (by omega) bz hi' hT hsg
    · exact read_bad _ n c zs 2 w (by unfold readA; rw [if_neg (by omega), if_pos hsg]) fun w' hb hr => sig_bad _ n c b off 0 _ zs w' hr hz (by omega) hnc hc bz (later hi' hb) hsg
end Go.Proofs.YtkbhmgdmkamcfaaDoor.Cap
