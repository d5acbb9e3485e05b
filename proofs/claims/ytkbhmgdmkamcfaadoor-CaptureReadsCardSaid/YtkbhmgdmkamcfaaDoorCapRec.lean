/- One record of a file is read and kept. -/
import Derived.Test.YtkbhmgdmkamcfaaDoorCapRd2
import Derived.Test.YtkbhmgdmkamcfaaDoorCapCheck
import Derived.Test.YtkbhmgdmkamcfaaDoorCapCopy
import Derived.Test.YtkbhmgdmkamcfaaDoorCrcCheck
set_option linter.unusedVariables false
set_option linter.unusedSimpArgs false
namespace Go.Proofs.YtkbhmgdmkamcfaaDoor.Cap
open Go.RowKit Mem Rw Air Base Oct

theorem nm4 (zs : List Int) : nmZ zs 4 = valL ((zs.drop 11).take 2) := by
  show valL (List.take 2 (List.drop 1 (List.drop 1 (List.drop 1 (List.drop 8 zs))))) = _
  simp [List.drop_drop]
theorem nm4_bd {zs : List Int} (h : Bytes zs) : 0 ≤ nmZ zs 4 ∧ nmZ zs 4 < 65536 := by
  rw [nm4]
  have b := valL_bd (bytes_take (bytes_drop h 11) 2)
  have hl : ((zs.drop 11).take 2).length = 0 ∨ ((zs.drop 11).take 2).length = 1 ∨ ((zs.drop 11).take 2).length = 2 := by
    have : ((zs.drop 11).take 2).length ≤ 2 := by rw [List.length_take]; omega
    omega
  rcases hl with e | e | e <;> rw [e] at b <;> exact ⟨b.1, Int.lt_of_lt_of_le b.2 (by decide)⟩
theorem lenZ_eq {zs : List Int} (h : Bytes zs) : lenZ zs = nmZ zs 4 := by
  have := nm4_bd h
  unfold lenZ wrap64; omega
/-- How many bytes of its own the next record has. -/
def recN (zs : List Int) : Nat := (lenZ (zs.take 13)).toNat
/-- The bytes of the next record ahead of its sum, or an error. -/
def bodZ (zs : List Int) : List Int × Int := Crc.chkR (Crc.ini 0) (zs.take (16 + recN zs))
/-- The error of the next record, behind a last time: 0 where it is good. -/
def recE (pv : Option Int) (zs : List Int) : Int :=
  if zs.length < 13 then 3 else if 260 < lenZ (zs.take 13) then 4 else if zs.length < 16 + recN zs then 3 else if (bodZ zs).2 ≠ 0 then (bodZ zs).2 else chkC pv (decR (bodZ zs).1)
theorem chkR_snd (q : Nat) (zs : List Int) (h : 3 ≤ zs.length) : (Crc.chkR q zs).2 = 0 → (Crc.chkR q zs).1 = zs.take (zs.length - 3) := by
  unfold Crc.chkR
  rw [if_neg (by omega)]
  split
  · intro _; rfl
  · intro h; cases h
theorem bodZ_len {zs : List Int} (h : 16 + recN zs ≤ zs.length) (e : (bodZ zs).2 = 0) : (bodZ zs).1.length = 13 + recN zs := by
  unfold bodZ at e ⊢
  rw [chkR_snd _ _ (by rw [List.length_take]; omega) e, List.length_take, List.length_take]; omega
theorem chkR_bytes (q : Nat) {zs : List Int} (h : Bytes zs) : Bytes (Crc.chkR q zs).1 := by
  unfold Crc.chkR
  split
  · intro z hz; cases hz
  · split
    · exact bytes_take h _
    · intro z hz; cases hz
/-- The records that were kept. -/
def Kept (w : World) (base : Nat) (RA : Option Addr) (rn rc : Nat) (l : List Tx) : Prop :=
  l.length = rn ∧ w.ownsRow base 52 5 (.slice RA rn rc) rn (l.flatMap encT) ∧ ∀ x ∈ l, Mine w base x ∧ x.bs.length ≤ 140737488351232
theorem Kept.below {w w' : World} {base : Nat} {RA : Option Addr} {rn rc : Nat} {l : List Tx} (h : Kept w base RA rn rc l) (hb : Below w.heap.size w w') : Kept w' base RA rn rc l :=
  ⟨h.1, own_below h.2.1 hb, fun x hx => ⟨own_below (h.2.2 x hx).1 hb, (h.2.2 x hx).2⟩⟩
theorem Kept.chg {w w' : World} {g base : Nat} {RA : Option Addr} {rn rc : Nat} {l : List Tx} (h : Kept w base RA rn rc l) (hg : g < base) (hb : Chg g w w') : Kept w' base RA rn rc l :=
  ⟨h.1, hb.2.2.2 _ _ _ _ _ _ hg h.2.1, fun x hx => ⟨hb.2.2.2 _ _ _ _ _ _ hg (h.2.2 x hx).1, (h.2.2 x hx).2⟩⟩
theorem kept_app {X X1 : World} {base : Nat} {RA A5 bA : Option Addr} {rn rc c5 m bc : Nat} {l : List Tx} {p0 p1 p2 p3 : Int} {bs : List Int} (kl : l.length = rn) (ko : X.ownsRow base 52 5 (.slice RA rn rc) rn (l.flatMap encT)) (km : ∀ x ∈ l, Mine X base x ∧ x.bs.length ≤ 140737488351232)
    (NW : X.ownsRow base 5 1 (.slice bA m bc) m (bs.map (Value.int .u8))) (O5 : X1.ownsRow base 52 5 (.slice A5 (rn + 1) c5) (rn + 1) (l.flatMap encT ++ [.int .i64 p0, .int .i64 p1, .int .i64 p2, .int .i64 p3, .slice bA m bc])) (g5 : X.grownBy X1 (Value.slice RA rn rc).ownBlock) (hm : bs.length = m ∧ m ≤ 260) :
    Kept X1 base A5 (rn + 1) c5 (l ++ [⟨p0, p1, p2, p3, bA, bc, bs⟩]) := by
  obtain ⟨rfl, hm2⟩ := hm
  refine ⟨by simp [kl], ?_, fun x hx => ?_⟩
  · rw [flat_append]
    have e : List.flatMap encT [(⟨p0, p1, p2, p3, bA, bc, bs⟩ : Tx)] = [.int .i64 p0, .int .i64 p1, .int .i64 p2, .int .i64 p3, .slice bA bs.length bc] := by simp [encT]
    rw [e]; exact O5
  · rcases List.mem_append.mp hx with hx | hx
    · exact ⟨own_other (km x hx).1 ko (by decide) g5, (km x hx).2⟩
    · have hx' := List.mem_singleton.mp hx
      subst hx'
      exact ⟨own_other (v1 := .slice bA bs.length bc) NW ko (by decide) g5, by simp only; omega⟩
/-- What a record that was read leaves. -/
def Left (w w' : World) (g base b off n c N : Nat) (k : Int) (rn : Nat) (l : List Tx) (r : Tr) : Prop :=
  ∃ o' RA' rc' x, x.tr = r ∧ Rdr w' g (some ⟨b, o', none⟩) (n - N) (c - N) (k + N) (.slice RA' (rn + 1) rc') ∧ (o' = off + N ∨ N = n) ∧ Kept w' base RA' (rn + 1) rc' (l ++ [x]) ∧ Below g w w' ∧ ∀ p : Addr, p.block < base → p.block ≠ g → w'.cell? p = w.cell? p
theorem rec_end {w V Y0 Y1 Y2 : World} {g base b off n c N o' : Nat} {k : Int} {rn c5 : Nat} {A5 bA : Option Addr} {bc : Nat} {l : List Tx} {p0 p1 p2 p3 : Int} {bs : List Int} {r : Tr} (hgb : g < base) (hbw : base ≤ w.heap.size) (h1 : Below w.heap.size w V) (h2 : Below base V Y0) (h3 : Chg g Y0 Y1) (h4 : Chg g Y1 Y2)
    (h5 : Kept Y0 base A5 (rn + 1) c5 (l ++ [⟨p0, p1, p2, p3, bA, bc, bs⟩])) (hr : (⟨p0, p1, p2, p3, bs⟩ : Tr) = r) (y1 : Rdr Y2 g (some ⟨b, o', none⟩) (n - N) (c - N) (k + N) (.slice A5 (rn + 1) c5)) (y2 : o' = off + N ∨ N = n) :
    Ending.returned (.tuple #[]) = .returned (.tuple #[]) ∧ Left w Y2 g base b off n c N k rn l r :=
  ⟨rfl, o', A5, c5, ⟨p0, p1, p2, p3, bA, bc, bs⟩, hr, y1, y2, (h5.chg hgb h3).chg hgb h4, ((((h1.mono hbw).trans h2).mono (Nat.le_of_lt hgb)).trans (h3.2.2.1 g (Nat.le_refl _))).trans (h4.2.2.1 g (Nat.le_refl _)), fun p hp hn => (h4.2.1 p hn).trans ((h3.2.1 p hn).trans (((h1.mono hbw).trans h2).cell hp))⟩
theorem rec_head (g n c b off : Nat) (k : Int) (RA : Option Addr) (rn rc base : Nat) (l : List Tx) (zs : List Int) (w : World) (h : Rdr w g (some ⟨b, off, none⟩) n c k (.slice RA rn rc)) (hz : zs.length = n) (hnc : n ≤ c) (hc : c ≤ 9223372036854775807) (hk : 0 ≤ k ∧ k + (n : Int) ≤ 140737488351232) (bz : Bytes zs) (hi : Ints .u8 w w.heap.size (some ⟨b, off, none⟩) zs) (h13 : n < 13 ∨ (13 ≤ n ∧ 260 < lenZ (zs.take 13))) :
    Calls Tryd.prog 40 #[.pointer (some ⟨g, 0, none⟩)] w fun e w' => e = panE (recE none zs) ∧ Below w.heap.size w w' := by
  have HL : Hid (Calls Tryd.prog 63 #[.pointer (some ⟨g, 0, none⟩)] w fun e w' => e = panE (recE none zs) ∧ Below w.heap.size w w') := Lib.hid (by
    rcases h13 with h0 | ⟨h0, h1⟩
    · rw [show recE none zs = 3 by unfold recE; rw [if_pos (by omega)]]
      exact (len_short g n c _ k _ w h h0 hnc hc).mono fun e w' ⟨a, b⟩ => ⟨a, b ▸ Below.refl _ _⟩
    · rw [show recE none zs = 4 by unfold recE; rw [if_neg (by omega), if_pos h1]]
      exact len_long g n c _ k _ zs w h hz h0 hnc hc bz hi (by omega))
  clear h hz bz hi h13
  go_enter Tryd.func40, Tryd.ntmps40
  go_wp2_with (go_at_call 63; refine HL.out.mono ?_; rintro e w1 ⟨rfl, b1⟩)
  exact ⟨rfl, rfl, b1⟩
set_option maxRecDepth 100000 in
theorem rec_short (g n c b off : Nat) (k : Int) (RA : Option Addr) (rn rc base : Nat) (l : List Tx) (zs : List Int) (w : World) (h : Rdr w g (some ⟨b, off, none⟩) n c k (.slice RA rn rc)) (hz : zs.length = n) (hnc : n ≤ c) (hc : c ≤ 9223372036854775807) (hk : 0 ≤ k ∧ k + (n : Int) ≤ 140737488351232) (bz : Bytes zs) (hi : Ints .u8 w w.heap.size (some ⟨b, off, none⟩) zs) (h13 : 13 ≤ n) (hl : ¬ 260 < lenZ (zs.take 13)) (hs : n < 16 + recN zs) :
    Calls Tryd.prog 40 #[.pointer (some ⟨g, 0, none⟩)] w fun e w' => e = panE 3 ∧ Below w.heap.size w w' := by
  obtain ⟨m, hm⟩ : ∃ m, recN zs = m := ⟨_, rfl⟩
  have hlm : lenZ (zs.take 13) = (m : Int) := by
    have := nm4_bd (bytes_take bz 13); rw [lenZ_eq (bytes_take bz 13)]; unfold recN at hm; rw [lenZ_eq (bytes_take bz 13)] at hm; omega
  obtain ⟨M, hM⟩ : ∃ M, M = 13 + m := ⟨_, rfl⟩
  obtain ⟨N, hNe⟩ : ∃ N, N = 16 + m := ⟨_, rfl⟩
  have hm260 : m ≤ 260 := by omega
  have HwN : Hid (13 + (m : Int) + 3 = (N : Int)) := Lib.hid (by omega)
  have HL : Hid (Calls Tryd.prog 63 #[.pointer (some ⟨g, 0, none⟩)] w fun e w' => e = .returned (.int .i64 (m : Int)) ∧ Below w.heap.size w w') := Lib.hid (by
    have := len_ok g n c _ k _ zs w h hz h13 hnc hc bz hi (by omega)
    rw [hlm] at this; exact this)
  have HNx : Hid (∀ w', Below w.heap.size w w' → Calls Tryd.prog 60 #[.pointer (some ⟨g, 0, none⟩), .int .i64 (13 + (m : Int) + 3)] w' fun e w2 => e = panE 3 ∧ w' = w2) := Lib.hid fun w' bb => HwN.out ▸ next_short g n c N _ k _ w' (h.below bb h.lt) (by omega) hnc hc
  clear h hz bz hi h13 hl hs hNe hM
  go_enter Tryd.func40, Tryd.ntmps40
  go_wp2_with (first
    | (go_at_call 63; refine HL.out.mono ?_; rintro e w1 ⟨rfl, b1⟩)
    | (go_at_call 60; refine (HNx.out _ b1).mono ?_; rintro e w2 ⟨rfl, rfl⟩))
  exact ⟨rfl, rfl, b1⟩
set_option maxRecDepth 100000 in
theorem rec_sum (g n c b off : Nat) (k : Int) (RA : Option Addr) (rn rc base : Nat) (l : List Tx) (zs : List Int) (w : World) (h : Rdr w g (some ⟨b, off, none⟩) n c k (.slice RA rn rc)) (hz : zs.length = n) (hnc : n ≤ c) (hc : c ≤ 9223372036854775807) (hk : 0 ≤ k ∧ k + (n : Int) ≤ 140737488351232) (bz : Bytes zs) (hi : Ints .u8 w w.heap.size (some ⟨b, off, none⟩) zs) (hT : Crc.Tab w) (h13 : 13 ≤ n) (hl : ¬ 260 < lenZ (zs.take 13)) (hs : 16 + recN zs ≤ n) (hb : (bodZ zs).2 ≠ 0) :
    Calls Tryd.prog 40 #[.pointer (some ⟨g, 0, none⟩)] w fun e w' => e = panE (bodZ zs).2 ∧ Below w.heap.size w w' := by
  obtain ⟨m, hm⟩ : ∃ m, recN zs = m := ⟨_, rfl⟩
  have hlm : lenZ (zs.take 13) = (m : Int) := by
    have := nm4_bd (bytes_take bz 13); rw [lenZ_eq (bytes_take bz 13)]; unfold recN at hm; rw [lenZ_eq (bytes_take bz 13)] at hm; omega
  obtain ⟨M, hM⟩ : ∃ M, M = 13 + m := ⟨_, rfl⟩
  obtain ⟨N, hNe⟩ : ∃ N, N = 16 + m := ⟨_, rfl⟩
  have hm260 : m ≤ 260 := by omega
  have HwN : Hid (13 + (m : Int) + 3 = (N : Int)) := Lib.hid (by omega)
  have HL : Hid (Calls Tryd.prog 63 #[.pointer (some ⟨g, 0, none⟩)] w fun e w' => e = .returned (.int .i64 (m : Int)) ∧ Below w.heap.size w w') := Lib.hid (by
    have := len_ok g n c _ k _ zs w h hz h13 hnc hc bz hi (by omega)
    rw [hlm] at this; exact this)
  have HNx : Hid (∀ w', Below w.heap.size w w' → Calls Tryd.prog 60 #[.pointer (some ⟨g, 0, none⟩), .int .i64 (13 + (m : Int) + 3)] w' fun e w2 => e = .returned (.slice (some ⟨b, off, none⟩) N c) ∧ w' = w2) := Lib.hid fun w' bb => HwN.out ▸ next_ok g n c N _ k _ w' (h.below bb h.lt) (by omega) hnc hc
  have HCr : Hid (∀ w', Below w.heap.size w w' → Calls Tryd.prog 64 #[.int .u32 0, .slice (some ⟨b, off, none⟩) N c] w' fun e w2 => Crc.Gives w' w2 e (bodZ zs)) := Lib.hid fun w' bb => by
    have hN16 : 16 + recN zs = N := by omega
    unfold bodZ
    rw [hN16]
    exact Crc.check_any 0 (some ⟨b, off, none⟩) N c (zs.take N) w' (by decide) (by rw [List.length_take]; omega) (by omega) (bytes_take bz N) (later (ints_take hi N) bb) (by omega) (hT.below bb)
  have HSt : Hid (∀ w', Calls Tryd.prog 61 #[.int .i64 (bodZ zs).2] w' fun e w2 => e = panE (bodZ zs).2 ∧ w' = w2) := Lib.hid fun w' => stop_err _ w' hb
  generalize bodZ zs = q at *
  clear h hz bz hi h13 hl hs hb hT hNe hM
  go_enter Tryd.func40, Tryd.ntmps40
  go_wp2_with (first
    | (go_at_call 63; refine HL.out.mono ?_; rintro e w1 ⟨rfl, b1⟩)
    | (go_at_call 60; refine (HNx.out _ b1).mono ?_; rintro e w2 ⟨rfl, rfl⟩)
    | (go_at_call 64; refine (HCr.out _ b1).mono ?_; rintro e w3 ⟨BA, bcc, rfl, hcp, i3, b3⟩)
    | (go_at_call 61; refine (HSt.out _).mono ?_; rintro e w4 ⟨rfl, rfl⟩))
  exact ⟨rfl, rfl, thenB b1 b3⟩
end Go.Proofs.YtkbhmgdmkamcfaaDoor.Cap
