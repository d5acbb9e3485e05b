/- The document's reading of one record: what it is, the ways that end early. -/
import Derived.Test.YtkbhmgdmkamcfaaDoorCapRef
import Derived.Test.YtkbhmgdmkamcfaaDoorCapRead
import Derived.Test.YtkbhmgdmkamcfaaDoorOctJoin
import Derived.Lib.MinMax
set_option linter.unusedVariables false
set_option linter.unusedSimpArgs false
set_option maxRecDepth 100000
namespace Go.Proofs.YtkbhmgdmkamcfaaDoor.Cap
open Go.RowKit Mem Rw Air Base Oct

theorem numL_valL {l : List Int} (h : Bytes l) : numL l.length (valL l) = l := by
  induction l with
  | nil => rfl
  | cons x l ih =>
    have hx := h x (by simp)
    have i := ih fun y hy => h y (by simp [hy])
    simp only [List.length_cons, valL, numL]
    rw [show (x + 256 * valL l) % 256 = x by omega, show (x + 256 * valL l) / 256 = valL l by omega, i]
theorem tail_iff {l : List Int} (h : Bytes l) (hl : l.length = 3) (s : Nat) (hs : s < 16777216) : valL l = (s : Int) ↔ l = Crc.tailL s := by
  constructor
  · intro e
    have := numL_valL h
    rw [hl, e, num3_tail s hs] at this
    exact this.symm
  · intro e
    rw [e, ← num3_tail s hs, valL_numL _ _ (by omega) (by rw [show Ser.p2 (8 * 3) = 16777216 by decide]; omega)]
theorem len11 {zs : List Int} (h : Bytes zs) (hl : 13 ≤ zs.length) : lenZ (zs.take 13) = valL ((zs.drop 11).take 2) := by
  rw [lenZ_eq (bytes_take h 13), nm4, List.drop_take]
  congr 1
  rw [List.take_take]; rfl
/-- The sum is there. -/
theorem bod_iff {zs : List Int} (h : Bytes zs) (hl : 16 + recN zs ≤ zs.length) : (bodZ zs).2 = 0 ↔ valL ((zs.drop (recN zs + 13)).take 3) = (Crc.sumN (Crc.ini 0) (zs.take (recN zs + 13)) : Int) := by
  have hlen : (zs.take (16 + recN zs)).length = 16 + recN zs := by rw [List.length_take]; omega
  have e3 : (zs.take (16 + recN zs)).length - 3 = recN zs + 13 := by omega
  have e1 : (zs.take (16 + recN zs)).drop (recN zs + 13) = (zs.drop (recN zs + 13)).take 3 := by
    rw [List.drop_take, show 16 + recN zs - (recN zs + 13) = 3 by omega]
  have e2 : (zs.take (16 + recN zs)).take (recN zs + 13) = zs.take (recN zs + 13) := by rw [List.take_take, Nat.min_eq_left (by omega)]
  rw [tail_iff (bytes_take (bytes_drop h _) 3) (by rw [List.length_take, List.length_drop]; omega) _ (Crc.sumN_lt _ _ (Crc.ini_lt 0) (bytes_take h _)), ← e1, ← e2]
  unfold bodZ
  constructor
  · intro e
    by_cases g : (zs.take (16 + recN zs)).drop ((zs.take (16 + recN zs)).length - 3) = Crc.tailL (Crc.sumN (Crc.ini 0) ((zs.take (16 + recN zs)).take ((zs.take (16 + recN zs)).length - 3)))
    · rwa [e3] at g
    · rw [Crc.chkR_bad (by omega) g] at e; cases e
  · intro e
    rw [← e3] at e
    rw [Crc.chkR_good (by omega) e]
theorem bod_ten {zs : List Int} (hl : 16 + recN zs ≤ zs.length) (h : (bodZ zs).2 ≠ 0) : (bodZ zs).2 = 10 := by
  have hlen : (zs.take (16 + recN zs)).length = 16 + recN zs := by rw [List.length_take]; omega
  unfold bodZ at h ⊢
  by_cases g : (zs.take (16 + recN zs)).drop ((zs.take (16 + recN zs)).length - 3) = Crc.tailL (Crc.sumN (Crc.ini 0) ((zs.take (16 + recN zs)).take ((zs.take (16 + recN zs)).length - 3)))
  · rw [Crc.chkR_good (by omega) g] at h; exact absurd rfl h
  · rw [Crc.chkR_bad (by omega) g]
theorem bod_fst {zs : List Int} (hl : 16 + recN zs ≤ zs.length) (h : (bodZ zs).2 = 0) : (bodZ zs).1 = zs.take (recN zs + 13) := by
  have hlen : (zs.take (16 + recN zs)).length = 16 + recN zs := by rw [List.length_take]; omega
  unfold bodZ at h ⊢
  rw [chkR_snd _ _ (by omega) h, hlen, List.take_take, Nat.min_eq_left (by omega)]
  congr 1; omega
/-- The record as the document reads it. -/
def docT (zs : List Int) : Tr := ⟨min (valL (zs.take 8)) 2199023255552, zs.getD 8 0, zs.getD 9 0, zs.getD 10 0, (zs.drop 13).take (recN zs)⟩
theorem getD_in' {l : List Int} (h : Bytes l) (k : Nat) : 0 ≤ l.getD k 0 ∧ l.getD k 0 ≤ 255 := by
  by_cases hk : k < l.length
  · rw [List.getD_eq_getElem?_getD, List.getElem?_eq_getElem hk]; exact h _ (List.getElem_mem _)
  · rw [List.getD_eq_getElem?_getD, List.getElem?_eq_none (by omega)]; simp
theorem val1 {zs : List Int} {i : Nat} (h : i < zs.length) : valL ((zs.drop i).take 1) = zs.getD i 0 := by
  rw [List.drop_eq_getElem_cons h, List.take_succ_cons, List.take_zero, List.getD_eq_getElem?_getD, List.getElem?_eq_getElem h]
  simp [valL]
theorem doc_dec {zs : List Int} (h : Bytes zs) (hl : 16 + recN zs ≤ zs.length) (hb : (bodZ zs).2 = 0) :
    rightB (docT zs) = rightB (decR (bodZ zs).1) ∧ (rightB (docT zs) = true → docT zs = decR (bodZ zs).1) ∧ (docT zs).bs = (decR (bodZ zs).1).bs := by
  have e := bod_fst hl hb
  have t8 : (zs.take (recN zs + 13)).take 8 = zs.take 8 := by rw [List.take_take, Nat.min_eq_left (by omega)]
  have dd : ∀ i, i < 11 → valL (((zs.take (recN zs + 13)).drop i).take 1) = zs.getD i 0 := fun i hi => by
    rw [List.drop_take, List.take_take, Nat.min_eq_left (by omega), val1 (by omega)]
  have n0 : nmZ (zs.take (recN zs + 13)) 0 = valL (zs.take 8) := by
    show valL (List.take 8 _) = _; rw [t8]
  have n1 : nmZ (zs.take (recN zs + 13)) 1 = zs.getD 8 0 := by
    show valL (List.take 1 (List.drop 8 _)) = _; exact dd 8 (by omega)
  have n2 : nmZ (zs.take (recN zs + 13)) 2 = zs.getD 9 0 := by
    show valL (List.take 1 (List.drop 1 (List.drop 8 _))) = _
    rw [List.drop_drop]; exact dd 9 (by omega)
  have n3 : nmZ (zs.take (recN zs + 13)) 3 = zs.getD 10 0 := by
    show valL (List.take 1 (List.drop 1 (List.drop 1 (List.drop 8 _)))) = _
    rw [List.drop_drop, List.drop_drop]; exact dd 10 (by omega)
  have b0 := valL_bd (bytes_take h 8)
  rw [show (zs.take 8).length = 8 by rw [List.length_take]; omega, show Ser.p2 (8 * 8) = 18446744073709551616 by decide] at b0
  have b1 := getD_in' h 8
  have b2 := getD_in' h 9
  have b3 := getD_in' h 10
  have w1 : IntKind.i64.wrap (zs.getD 8 0) = zs.getD 8 0 := by rw [IntKind.wrap_i64]; omega
  have w2 : IntKind.i64.wrap (zs.getD 9 0) = zs.getD 9 0 := by rw [IntKind.wrap_i64]; omega
  have w3 : IntKind.i64.wrap (zs.getD 10 0) = zs.getD 10 0 := by rw [IntKind.wrap_i64]; omega
  have ed : (zs.take (recN zs + 13)).drop 13 = (zs.drop 13).take (recN zs) := by rw [List.drop_take, show recN zs + 13 - 13 = recN zs by omega]
  have eD : decR (bodZ zs).1 = ⟨IntKind.i64.wrap (valL (zs.take 8)), zs.getD 8 0, zs.getD 9 0, zs.getD 10 0, (zs.drop 13).take (recN zs)⟩ := by
    unfold decR
    rw [e, n0, n1, n2, n3, w1, w2, w3, ed]
  have w0 : IntKind.i64.wrap (valL (zs.take 8)) = if valL (zs.take 8) ≤ 9223372036854775807 then valL (zs.take 8) else valL (zs.take 8) - 18446744073709551616 := by
    rw [IntKind.wrap_i64]; split <;> omega
  rw [eD]
  unfold docT
  generalize valL (zs.take 8) = T at *
  have hid : ∀ a : Int, (0 ≤ a ∧ a ≤ 1099511627776) = (0 ≤ a ∧ a ≤ 1099511627776) := fun _ => rfl
  have m0 : (0 ≤ min T 2199023255552 ∧ min T 2199023255552 ≤ 1099511627776) ↔ (0 ≤ IntKind.i64.wrap T ∧ IntKind.i64.wrap T ≤ 1099511627776) := by
    rw [w0]; split <;> constructor <;> intro ⟨_, _⟩ <;> constructor <;> omega
  have m1 : (0 ≤ min T 2199023255552 ∧ min T 2199023255552 ≤ 1099511627776) → min T 2199023255552 = IntKind.i64.wrap T := by
    rw [w0]; split <;> intro ⟨_, _⟩ <;> omega
  refine ⟨?_, fun hr => ?_, rfl⟩
  · rw [Bool.eq_iff_iff, right_iff, right_iff]
    simp only
    constructor
    · rintro ⟨q1, q2, q3⟩; exact ⟨(m0.1 ⟨q1, q2⟩).1, (m0.1 ⟨q1, q2⟩).2, q3⟩
    · rintro ⟨q1, q2, q3⟩; exact ⟨(m0.2 ⟨q1, q2⟩).1, (m0.2 ⟨q1, q2⟩).2, q3⟩
  · rw [right_iff] at hr
    rw [m1 ⟨hr.1, hr.2.1⟩]
theorem slice_part (a : Option Addr) (b off n c i j : Nat) (ha : a = some ⟨b, off, none⟩) (h : i ≤ j) (hi : i < c) (hj : j ≤ c) (w : World) : (Instr.slice 32 (.slice a n c) (some (.int .i64 (i : Int))) (some (.int .i64 (j : Int))) none).run Tryd.prog w = .ok (.slice (some ⟨b, off + i, none⟩) (j - i) (c - i)) w := by
  subst ha
  have hs : ∀ w' : World, (sizeOf (Tryd.prog.elem 32)).run Tryd.prog w' = .ok 1 w' := fun w' => by kernel_rfl
  rw [run_slice_lh w 32 (some ⟨b, off, none⟩) n c (by kernel_rfl) .i64 .i64 (i : Int) (j : Int) (by omega) (by omega) (by omega), hs]
  have e1 : (j : Int).toNat = j := by omega
  have e2 : (i : Int).toNat = i := by omega
  simp only [Result.andThen, sliced, e1, e2]
  rw [if_neg (by omega)]
  simp [plain_add]
theorem slice_to (a : Option Addr) (n c j : Nat) (hj : j ≤ c) (w : World) (b off : Nat) (ha : a = some ⟨b, off, none⟩) : (Instr.slice 32 (.slice a n c) none (some (.int .i64 (j : Int))) none).run Tryd.prog w = .ok (.slice a j c) w := by
  subst ha
  have hs : ∀ w' : World, (sizeOf (Tryd.prog.elem 32)).run Tryd.prog w' = .ok 1 w' := fun w' => by kernel_rfl
  rw [run_slice_h w 32 _ n c (by kernel_rfl) .i64 (j : Int) (by omega) (by omega), hs]
  have e1 : (j : Int).toNat = j := by omega
  simp only [Result.andThen, sliced, e1, Nat.sub_zero]
  split
  · rfl
  · simp [plain_add]
theorem ints_part {k : IntKind} {w : World} {B b off : Nat} {zs : List Int} (h : Ints k w B (some ⟨b, off, none⟩) zs) (i m : Nat) : Ints k w B (some ⟨b, off + i, none⟩) ((zs.drop i).take m) := ints_take (ints_drop h i) m
theorem own_set_other {w : World} {base n size g : Nat} {e t : TypeId} {v : Value} {xs : List Value} {cs : Array Value} (h : w.ownsRow base e size v n xs) (hb : Blk w g t cs) (hne : e ≠ t) (i : Nat) (u : Value) : (w.setCell ⟨g, i, none⟩ u).ownsRow base e size v n xs := by
  refine ⟨h.1, ?_⟩
  rcases h.2 with h' | ⟨q, cap, cur, hv, hbg, hg, r⟩
  · exact .inl h'
  · refine .inr ⟨q, cap, cur, hv, hbg, ?_, r⟩
    have hq : g ≠ q := fun e' => by
      subst e'
      unfold Blk at hb
      rw [hb] at hg
      injection hg with hg; injection hg with _ hg
      exact hne hg.symm
    unfold World.setCell
    simp only [Array.getElem?_modify, hg]
    simp [hq]
theorem blk_set_ne {w : World} {g b i : Nat} {t : TypeId} {cs : Array Value} (h : Blk w g t cs) (hb : b ≠ g) (v : Value) : Blk (w.setCell ⟨b, i, none⟩ v) g t cs := by
  unfold Blk at h ⊢
  unfold World.setCell
  simp only [Array.getElem?_modify, h]
  simp [hb]
theorem five_own {X : World} {g base n : Nat} {e t : TypeId} {v : Value} {xs : List Value} {cs : Array Value} (v0 v1 v2 v3 v4 : Value) (h : X.ownsRow base e 1 v n xs) (hb : Blk X g t cs) (hne : e ≠ t) : (((((X.setCell ⟨g, 0, none⟩ v0).setCell ⟨g, 1, none⟩ v1).setCell ⟨g, 2, none⟩ v2).setCell ⟨g, 3, none⟩ v3).setCell ⟨g, 4, none⟩ v4).ownsRow base e 1 v n xs := by
  have b0 := blk_setc hb 0 v0
  have b1 := blk_setc b0 1 v1
  have b2 := blk_setc b1 2 v2
  have b3 := blk_setc b2 3 v3
  exact own_set_other (own_set_other (own_set_other (own_set_other (own_set_other h hb hne 0 v0) b0 hne 1 v1) b1 hne 2 v2) b2 hne 3 v3) b3 hne 4 v4
theorem five_blk {X : World} {g b : Nat} {t : TypeId} {cs : Array Value} (v0 v1 v2 v3 v4 : Value) (h : Blk X b t cs) (hne : g ≠ b) : Blk (((((X.setCell ⟨g, 0, none⟩ v0).setCell ⟨g, 1, none⟩ v1).setCell ⟨g, 2, none⟩ v2).setCell ⟨g, 3, none⟩ v3).setCell ⟨g, 4, none⟩ v4) b t cs :=
  blk_set_ne (blk_set_ne (blk_set_ne (blk_set_ne (blk_set_ne h hne v0) hne v1) hne v2) hne v3) hne v4
theorem first_13 (A : Option Addr) (n c : Nat) (zs : List Int) (w : World) (hz : zs.length = n) (hnc : n ≤ c) (hn : n ≤ 60000) (bz : Bytes zs) (hi : Ints .u8 w w.heap.size A zs) (h13 : n < 13) : Calls Tryd.prog 41 #[.slice A n c] w fun e w' => e = .returned (.tuple #[.agg #[.int .i64 0, .int .i64 0, .int .i64 0, .int .i64 0, .slice none 0 0], .int .i64 0, .int .i64 3]) ∧ Below w.heap.size w w' := by
  have bY : Below w.heap.size w (w.alloc (.cells #[.int .i64 0, .int .i64 0, .int .i64 0, .int .i64 0, .slice none 0 0] 52)) := (Below.refl _ w).alloc (Nat.le_refl _) _
  have RB := Blk.fresh w 52 #[.int .i64 0, .int .i64 0, .int .i64 0, .int .i64 0, .slice none 0 0]
  obtain ⟨e0, e1, e2, e3, e4, _⟩ := blk_five RB
  have g1 : (n : Int) < 13 ∧ n < 13 := by omega
  clear hz bz hi RB
  go_enter Tryd.func41, Tryd.ntmps41
  go_wp2_with fail
  refine bodyPost_ret (v := .tuple #[.agg #[.int .i64 0, .int .i64 0, .int .i64 0, .int .i64 0, .slice none 0 0], .int .i64 0, .int .i64 3]) ?_ rfl ⟨rfl, bY⟩
  simp [results, Tryd.f41, go_sem, e0, e1, e2, e3, e4]
theorem first_long (A : Option Addr) (n c : Nat) (zs : List Int) (w : World) (hz : zs.length = n) (hnc : n ≤ c) (hn : n ≤ 60000) (bz : Bytes zs) (hi : Ints .u8 w w.heap.size A zs) (h13 : 13 ≤ n) (hl : 260 < lenZ (zs.take 13)) : Calls Tryd.prog 41 #[.slice A n c] w fun e w' => e = .returned (.tuple #[.agg #[.int .i64 0, .int .i64 0, .int .i64 0, .int .i64 0, .slice none 0 0], .int .i64 0, .int .i64 4]) ∧ Below w.heap.size w w' := by
  obtain ⟨b, off, rfl, hb⟩ : ∃ b off, A = some ⟨b, off, none⟩ ∧ b < w.heap.size := by
    rcases hi with hi | ⟨b, off, e, hb, _⟩
    · subst hi; simp at hz; omega
    · exact ⟨b, off, e, hb⟩
  have bY : Below w.heap.size w (w.alloc (.cells #[.int .i64 0, .int .i64 0, .int .i64 0, .int .i64 0, .slice none 0 0] 52)) := (Below.refl _ w).alloc (Nat.le_refl _) _
  have RB := Blk.fresh w 52 #[.int .i64 0, .int .i64 0, .int .i64 0, .int .i64 0, .slice none 0 0]
  have RE := blk_five RB
  obtain ⟨m, hm⟩ : ∃ m, recN zs = m := ⟨_, rfl⟩
  have hV := len11 bz (by omega)
  have hVb := nm4_bd (bytes_take bz 13)
  rw [← lenZ_eq (bytes_take bz 13)] at hVb
  have hVm : valL ((zs.drop 11).take 2) = (m : Int) := by
    rw [← hV, ← hm]; unfold recN; omega
  have hlm : lenZ (zs.take 13) = (m : Int) := hV.trans hVm
  have wm : IntKind.i64.wrap (m : Int) = (m : Int) := by rw [IntKind.wrap_i64]; omega
  have s11 : ∀ w' : World, (Instr.slice 32 (.slice (some ⟨b, off, none⟩) n c) (some (.int .i64 11)) (some (.int .i64 13)) none).run Tryd.prog w' = .ok (.slice (some ⟨b, off + 11, none⟩) 2 (c - 11)) w' := fun w' => slice_part _ b off n c 11 13 rfl (by omega) (by omega) (by omega) w'
  have HV1 : Hid (∀ w', Below w.heap.size w w' → Calls Tryd.prog 66 #[.slice (some ⟨b, off + 11, none⟩) 2 (c - 11)] w' fun e w2 => e = .returned (.int .u64 (m : Int)) ∧ w' = w2) := Lib.hid fun w' bb => by
    rw [← hVm]
    exact value_any _ 2 (c - 11) _ w' (by rw [List.length_take, List.length_drop]; omega) (bytes_take (bytes_drop bz 11) 2) (ints_part (later hi bb) 11 2) (by omega)
  have g1 : ¬ (n : Int) < 13 ∧ ¬ n < 13 ∧ (260 : Int) < (m : Int) ∧ 260 < m := by omega
  obtain ⟨e0, e1, e2, e3, e4, _⟩ := RE
  clear hz bz hi RB hV hVb hVm hlm hl h13
  go_enter Tryd.func41, Tryd.ntmps41
  go_wp2_with (go_at_call 66; refine (HV1.out _ bY).mono ?_; rintro e w1 ⟨rfl, rfl⟩)
  refine bodyPost_ret (v := .tuple #[.agg #[.int .i64 0, .int .i64 0, .int .i64 0, .int .i64 0, .slice none 0 0], .int .i64 0, .int .i64 4]) ?_ rfl ⟨rfl, bY⟩
  simp [results, Tryd.f41, go_sem, e0, e1, e2, e3, e4]
theorem first_cut (A : Option Addr) (n c : Nat) (zs : List Int) (w : World) (hz : zs.length = n) (hnc : n ≤ c) (hn : n ≤ 60000) (bz : Bytes zs) (hi : Ints .u8 w w.heap.size A zs) (h13 : 13 ≤ n) (hl : ¬ 260 < lenZ (zs.take 13)) (hs : n < 16 + recN zs) : Calls Tryd.prog 41 #[.slice A n c] w fun e w' => e = .returned (.tuple #[.agg #[.int .i64 0, .int .i64 0, .int .i64 0, .int .i64 0, .slice none 0 0], .int .i64 0, .int .i64 3]) ∧ Below w.heap.size w w' := by
  obtain ⟨b, off, rfl, hb⟩ : ∃ b off, A = some ⟨b, off, none⟩ ∧ b < w.heap.size := by
    rcases hi with hi | ⟨b, off, e, hb, _⟩
    · subst hi; simp at hz; omega
    · exact ⟨b, off, e, hb⟩
  have bY : Below w.heap.size w (w.alloc (.cells #[.int .i64 0, .int .i64 0, .int .i64 0, .int .i64 0, .slice none 0 0] 52)) := (Below.refl _ w).alloc (Nat.le_refl _) _
  have RB := Blk.fresh w 52 #[.int .i64 0, .int .i64 0, .int .i64 0, .int .i64 0, .slice none 0 0]
  have RE := blk_five RB
  obtain ⟨m, hm⟩ : ∃ m, recN zs = m := ⟨_, rfl⟩
  have hV := len11 bz (by omega)
  have hVb := nm4_bd (bytes_take bz 13)
  rw [← lenZ_eq (bytes_take bz 13)] at hVb
  have hVm : valL ((zs.drop 11).take 2) = (m : Int) := by
    rw [← hV, ← hm]; unfold recN; omega
  have hlm : lenZ (zs.take 13) = (m : Int) := hV.trans hVm
  have wm : IntKind.i64.wrap (m : Int) = (m : Int) := by rw [IntKind.wrap_i64]; omega
  have s11 : ∀ w' : World, (Instr.slice 32 (.slice (some ⟨b, off, none⟩) n c) (some (.int .i64 11)) (some (.int .i64 13)) none).run Tryd.prog w' = .ok (.slice (some ⟨b, off + 11, none⟩) 2 (c - 11)) w' := fun w' => slice_part _ b off n c 11 13 rfl (by omega) (by omega) (by omega) w'
  have HV1 : Hid (∀ w', Below w.heap.size w w' → Calls Tryd.prog 66 #[.slice (some ⟨b, off + 11, none⟩) 2 (c - 11)] w' fun e w2 => e = .returned (.int .u64 (m : Int)) ∧ w' = w2) := Lib.hid fun w' bb => by
    rw [← hVm]
    exact value_any _ 2 (c - 11) _ w' (by rw [List.length_take, List.length_drop]; omega) (bytes_take (bytes_drop bz 11) 2) (ints_part (later hi bb) 11 2) (by omega)
  obtain ⟨N, hN⟩ : ∃ N, m + 16 = N := ⟨_, rfl⟩
  have wN : IntKind.i64.wrap ((m : Int) + 16) = (N : Int) := by rw [IntKind.wrap_i64]; omega
  have g1 : ¬ (n : Int) < 13 ∧ ¬ n < 13 ∧ ¬ (260 : Int) < (m : Int) ∧ ¬ 260 < m ∧ (n : Int) < (N : Int) ∧ n < N := by omega
  obtain ⟨e0, e1, e2, e3, e4, _⟩ := RE
  clear hz bz hi RB hV hVb hVm hlm hl h13 hs hN
  go_enter Tryd.func41, Tryd.ntmps41
  go_wp2_with (go_at_call 66; refine (HV1.out _ bY).mono ?_; rintro e w1 ⟨rfl, rfl⟩)
  refine bodyPost_ret (v := .tuple #[.agg #[.int .i64 0, .int .i64 0, .int .i64 0, .int .i64 0, .slice none 0 0], .int .i64 0, .int .i64 3]) ?_ rfl ⟨rfl, bY⟩
  simp [results, Tryd.f41, go_sem, e0, e1, e2, e3, e4]
set_option maxHeartbeats 2000000 in
theorem first_sum (A : Option Addr) (n c : Nat) (zs : List Int) (w : World) (hz : zs.length = n) (hnc : n ≤ c) (hn : n ≤ 60000) (bz : Bytes zs) (hi : Ints .u8 w w.heap.size A zs) (h13 : 13 ≤ n) (hl : ¬ 260 < lenZ (zs.take 13)) (hs : 16 + recN zs ≤ n) (hbd : (bodZ zs).2 ≠ 0) : Calls Tryd.prog 41 #[.slice A n c] w fun e w' => e = .returned (.tuple #[.agg #[.int .i64 0, .int .i64 0, .int .i64 0, .int .i64 0, .slice none 0 0], .int .i64 0, .int .i64 10]) ∧ Below w.heap.size w w' := by
  obtain ⟨b, off, rfl, hb⟩ : ∃ b off, A = some ⟨b, off, none⟩ ∧ b < w.heap.size := by
    rcases hi with hi | ⟨b, off, e, hb, _⟩
    · subst hi; simp at hz; omega
    · exact ⟨b, off, e, hb⟩
  have bY : Below w.heap.size w (w.alloc (.cells #[.int .i64 0, .int .i64 0, .int .i64 0, .int .i64 0, .slice none 0 0] 52)) := (Below.refl _ w).alloc (Nat.le_refl _) _
  have RB := Blk.fresh w 52 #[.int .i64 0, .int .i64 0, .int .i64 0, .int .i64 0, .slice none 0 0]
  have RE := blk_five RB
  obtain ⟨m, hm⟩ : ∃ m, recN zs = m := ⟨_, rfl⟩
  have hV := len11 bz (by omega)
  have hVb := nm4_bd (bytes_take bz 13)
  rw [← lenZ_eq (bytes_take bz 13)] at hVb
  have hVm : valL ((zs.drop 11).take 2) = (m : Int) := by
    rw [← hV, ← hm]; unfold recN; omega
  have hlm : lenZ (zs.take 13) = (m : Int) := hV.trans hVm
  have wm : IntKind.i64.wrap (m : Int) = (m : Int) := by rw [IntKind.wrap_i64]; omega
  have s11 : ∀ w' : World, (Instr.slice 32 (.slice (some ⟨b, off, none⟩) n c) (some (.int .i64 11)) (some (.int .i64 13)) none).run Tryd.prog w' = .ok (.slice (some ⟨b, off + 11, none⟩) 2 (c - 11)) w' := fun w' => slice_part _ b off n c 11 13 rfl (by omega) (by omega) (by omega) w'
  have HV1 : Hid (∀ w', Below w.heap.size w w' → Calls Tryd.prog 66 #[.slice (some ⟨b, off + 11, none⟩) 2 (c - 11)] w' fun e w2 => e = .returned (.int .u64 (m : Int)) ∧ w' = w2) := Lib.hid fun w' bb => by
    rw [← hVm]
    exact value_any _ 2 (c - 11) _ w' (by rw [List.length_take, List.length_drop]; omega) (bytes_take (bytes_drop bz 11) 2) (ints_part (later hi bb) 11 2) (by omega)
  obtain ⟨N, hN⟩ : ∃ N, m + 16 = N := ⟨_, rfl⟩
  obtain ⟨P, hP⟩ : ∃ P, m + 13 = P := ⟨_, rfl⟩
  have wN : IntKind.i64.wrap ((m : Int) + 16) = (N : Int) := by rw [IntKind.wrap_i64]; omega
  have wP : IntKind.i64.wrap ((m : Int) + 13) = (P : Int) := by rw [IntKind.wrap_i64]; omega
  have g1 : ¬ (n : Int) < 13 ∧ ¬ n < 13 ∧ ¬ (260 : Int) < (m : Int) ∧ ¬ 260 < m ∧ ¬ (n : Int) < (N : Int) ∧ ¬ n < N := by omega
  obtain ⟨q, hq⟩ : ∃ q, Crc.sumN (Crc.ini 0) (zs.take P) = q := ⟨_, rfl⟩
  obtain ⟨V3, hV3⟩ : ∃ V, valL ((zs.drop P).take 3) = V := ⟨_, rfl⟩
  have hqb : q < 16777216 := hq ▸ Crc.sumN_lt _ _ (Crc.ini_lt 0) (bytes_take bz P)
  have wq : IntKind.u64.wrap (q : Int) = (q : Int) := by rw [IntKind.wrap_u64]; omega
  have hiff := bod_iff bz (by omega)
  rw [hm, hP, hq, hV3] at hiff
  have sP : ∀ w' : World, (Instr.slice 32 (.slice (some ⟨b, off, none⟩) n c) (some (.int .i64 (P : Int))) (some (.int .i64 (N : Int))) none).run Tryd.prog w' = .ok (.slice (some ⟨b, off + P, none⟩) 3 (c - P)) w' := fun w' => by
    have := slice_part (some ⟨b, off, none⟩) b off n c P N rfl (by omega) (by omega) (by omega) w'
    rwa [show N - P = 3 by omega] at this
  have sT : ∀ w' : World, (Instr.slice 32 (.slice (some ⟨b, off, none⟩) n c) none (some (.int .i64 (P : Int))) none).run Tryd.prog w' = .ok (.slice (some ⟨b, off, none⟩) P c) w' := fun w' => slice_to _ n c P (by omega) w' b off rfl
  have HV3 : Hid (∀ w', Below w.heap.size w w' → Calls Tryd.prog 66 #[.slice (some ⟨b, off + P, none⟩) 3 (c - P)] w' fun e w2 => e = .returned (.int .u64 V3) ∧ w' = w2) := Lib.hid fun w' bb => by
    rw [← hV3]
    exact value_any _ 3 (c - P) _ w' (by rw [List.length_take, List.length_drop]; omega) (bytes_take (bytes_drop bz P) 3) (ints_part (later hi bb) P 3) (by omega)
  have HSu : Hid (∀ w', Below w.heap.size w w' → Calls Tryd.prog 59 #[.int .u32 0, .slice (some ⟨b, off, none⟩) P c] w' fun e w2 => e = .returned (.int .u32 (q : Int)) ∧ w' = w2) := Lib.hid fun w' bb => by
    rw [← hq]
    exact Crc.rsum_any 0 _ P c _ w' (by decide) (by rw [List.length_take]; omega) (bytes_take bz P) (ints_take (later hi bb) P) (by omega)
  have HRB : Hid (∀ X, Below (w.alloc (.cells #[.int .i64 0, .int .i64 0, .int .i64 0, .int .i64 0, .slice none 0 0] 52)).heap.size (w.alloc (.cells #[.int .i64 0, .int .i64 0, .int .i64 0, .int .i64 0, .slice none 0 0] 52)) X → Blk X w.heap.size 52 #[.int .i64 0, .int .i64 0, .int .i64 0, .int .i64 0, .slice none 0 0]) := Lib.hid fun X bb => RB.below bb (by simp)
  have hne : (V3 != (q : Int)) = true := by
    rw [bne_iff_ne]; exact fun e => hbd (hiff.2 e)
  clear hz bz hi RB hV hVb hVm hlm hl h13 hs hN hP hq hV3 hiff hbd RE
  go_enter Tryd.func41, Tryd.ntmps41
  go_wp2_with fail
  generalize w.alloc (.cells #[.int .i64 0, .int .i64 0, .int .i64 0, .int .i64 0, .slice none 0 0] 52) = W at *
  refine (HV1.out _ bY).mono ?_
  rintro e w1 ⟨rfl, rfl⟩
  go_wp2_with fail
  refine wp_region_held_drew (S := (fun _ => True)) (by kernel_rfl) ?_ (fun hHeld => ?_)
  · trivial
  have BX : Below W.heap.size W W.drew := (Below.refl _ _).drew
  generalize W.drew = X0 at *
  refine wpAnyH_take (i := 0) (v := .slice (some ⟨b, off, none⟩) n c) rfl (by kernel_rfl) (by kernel_rfl) (by kernel_rfl) (fun _ _ _ h => h) (Or.inl ⟨by first | rfl | go_simp, by intro w9 hSw; (try dsimp only at hSw); go_simp⟩) (by assumption) ?_
  simp only [List.getElem_toArray, List.getElem_cons_zero, List.getElem_cons_succ, Act.put, List.setIfInBounds_toArray, List.set_cons_zero, List.set_cons_succ]
  refine wpAnyH_take (i := 1) (v := .int .i64 (m : Int)) rfl (by kernel_rfl) (by kernel_rfl) (by kernel_rfl) (fun _ _ _ h => h) (Or.inl ⟨by first | rfl | go_simp, by intro w9 hSw; (try dsimp only at hSw); go_simp⟩) (by assumption) ?_
  simp only [List.getElem_toArray, List.getElem_cons_zero, List.getElem_cons_succ, Act.put, List.setIfInBounds_toArray, List.set_cons_zero, List.set_cons_succ]
  refine wpAnyH_take (i := 2) (v := .int .i64 (P : Int)) rfl (by kernel_rfl) (by kernel_rfl) (by kernel_rfl) (fun _ _ _ h => h) (Or.inl ⟨by first | rfl | go_simp, by intro w9 hSw; (try dsimp only at hSw); go_simp⟩) (by assumption) ?_
  simp only [List.getElem_toArray, List.getElem_cons_zero, List.getElem_cons_succ, Act.put, List.setIfInBounds_toArray, List.set_cons_zero, List.set_cons_succ]
  refine wpAnyH_take (i := 3) (v := .int .i64 (m : Int)) rfl (by kernel_rfl) (by kernel_rfl) (by kernel_rfl) (fun _ _ _ h => h) (Or.inl ⟨by first | rfl | go_simp, by intro w9 hSw; (try dsimp only at hSw); go_simp⟩) (by assumption) ?_
  simp only [List.getElem_toArray, List.getElem_cons_zero, List.getElem_cons_succ, Act.put, List.setIfInBounds_toArray, List.set_cons_zero, List.set_cons_succ]
  refine wpAnyH_take (i := 4) (v := .int .i64 (N : Int)) rfl (by kernel_rfl) (by kernel_rfl) (by kernel_rfl) (fun _ _ _ h => h) (Or.inl ⟨by first | rfl | go_simp, by intro w9 hSw; (try dsimp only at hSw); go_simp⟩) (by assumption) ?_
  simp only [List.getElem_toArray, List.getElem_cons_zero, List.getElem_cons_succ, Act.put, List.setIfInBounds_toArray, List.set_cons_zero, List.set_cons_succ]
  refine wpAnyH_take (i := 5) (v := .slice (some ⟨b, off + P, none⟩) 3 (c - P)) rfl (by kernel_rfl) (by kernel_rfl) (by kernel_rfl) (fun _ _ _ h => h) (Or.inl ⟨by first | rfl | go_simp, by intro w9 hSw; (try dsimp only at hSw); go_simp⟩) (by assumption) ?_
  simp only [List.getElem_toArray, List.getElem_cons_zero, List.getElem_cons_succ, Act.put, List.setIfInBounds_toArray, List.set_cons_zero, List.set_cons_succ]
  refine wpAnyH_take (i := 7) (v := .slice (some ⟨b, off, none⟩) n c) rfl (by kernel_rfl) (by kernel_rfl) (by kernel_rfl) (fun _ _ _ h => h) (Or.inl ⟨by first | rfl | go_simp, by intro w9 hSw; (try dsimp only at hSw); go_simp⟩) (by assumption) ?_
  simp only [List.getElem_toArray, List.getElem_cons_zero, List.getElem_cons_succ, Act.put, List.setIfInBounds_toArray, List.set_cons_zero, List.set_cons_succ]
  refine wpAnyH_take (i := 8) (v := .int .i64 (m : Int)) rfl (by kernel_rfl) (by kernel_rfl) (by kernel_rfl) (fun _ _ _ h => h) (Or.inl ⟨by first | rfl | go_simp, by intro w9 hSw; (try dsimp only at hSw); go_simp⟩) (by assumption) ?_
  simp only [List.getElem_toArray, List.getElem_cons_zero, List.getElem_cons_succ, Act.put, List.setIfInBounds_toArray, List.set_cons_zero, List.set_cons_succ]
  refine wpAnyH_take (i := 9) (v := .int .i64 (P : Int)) rfl (by kernel_rfl) (by kernel_rfl) (by kernel_rfl) (fun _ _ _ h => h) (Or.inl ⟨by first | rfl | go_simp, by intro w9 hSw; (try dsimp only at hSw); go_simp⟩) (by assumption) ?_
  simp only [List.getElem_toArray, List.getElem_cons_zero, List.getElem_cons_succ, Act.put, List.setIfInBounds_toArray, List.set_cons_zero, List.set_cons_succ]
  refine wpAnyH_take (i := 10) (v := .slice (some ⟨b, off, none⟩) P c) rfl (by kernel_rfl) (by kernel_rfl) (by kernel_rfl) (fun _ _ _ h => h) (Or.inl ⟨by first | rfl | go_simp, by intro w9 hSw; (try dsimp only at hSw); go_simp⟩) (by assumption) ?_
  simp only [List.getElem_toArray, List.getElem_cons_zero, List.getElem_cons_succ, Act.put, List.setIfInBounds_toArray, List.set_cons_zero, List.set_cons_succ]
  refine wpAnyH_ready (rs := [6]) (by kernel_rfl) (by simp) ?_
  refine AllReadyH.cons rfl (fun K hK => ?_) (AllReadyH.nil)
  go_simp
  refine (HV3.out _ (thenB bY BX)).mono ?_
  rintro e X8 ⟨rfl, rfl⟩
  refine hK.out _ _ trivial (fun hHeld => ?_)
  clear hK K
  try simp only [List.getElem_toArray, List.getElem_cons_zero, List.getElem_cons_succ, Act.put, List.setIfInBounds_toArray, List.set_cons_zero, List.set_cons_succ]
  refine wpAnyH_ready (rs := [11]) (by kernel_rfl) (by simp) ?_
  refine AllReadyH.cons rfl (fun K hK => ?_) (AllReadyH.nil)
  go_simp
  refine (HSu.out _ (thenB bY BX)).mono ?_
  rintro e X8 ⟨rfl, rfl⟩
  refine hK.out _ _ trivial (fun hHeld => ?_)
  clear hK K
  try simp only [List.getElem_toArray, List.getElem_cons_zero, List.getElem_cons_succ, Act.put, List.setIfInBounds_toArray, List.set_cons_zero, List.set_cons_succ]
  refine wpAnyH_take (i := 12) (v := .int .u64 (q : Int)) rfl (by kernel_rfl) (by kernel_rfl) (by kernel_rfl) (fun _ _ _ h => h) (Or.inl ⟨by first | rfl | go_simp, by intro w9 hSw; (try dsimp only at hSw); go_simp⟩) (by assumption) ?_
  simp only [List.getElem_toArray, List.getElem_cons_zero, List.getElem_cons_succ, Act.put, List.setIfInBounds_toArray, List.set_cons_zero, List.set_cons_succ]
  refine wpAnyH_take (i := 13) (v := .bool true) rfl (by kernel_rfl) (by kernel_rfl) (by kernel_rfl) (fun _ _ _ h => h) (Or.inl ⟨by first | rfl | go_simp, by intro w9 hSw; (try dsimp only at hSw); go_simp⟩) (by assumption) ?_
  simp only [List.getElem_toArray, List.getElem_cons_zero, List.getElem_cons_succ, Act.put, List.setIfInBounds_toArray, List.set_cons_zero, List.set_cons_succ]
  refine wpAnyH_done (by kernel_rfl) ?_ _
  have RBX := HRB.out _ BX
  obtain ⟨q0, q1, q2, q3, q4, z0, z1, z2, z3, z4⟩ := blk_five RBX
  obtain ⟨⟨e0, e1, e2, e3, e4⟩, bY⟩ := set_five5 (.int .i64 0) (.int .i64 0) (.int .i64 0) (.int .i64 0) (.slice none 0 0) RBX (thenB bY BX) (Nat.le_refl _)
  clear RBX
  go_wp2_with fail
  refine bodyPost_ret (v := .tuple #[.agg #[.int .i64 0, .int .i64 0, .int .i64 0, .int .i64 0, .slice none 0 0], .int .i64 0, .int .i64 10]) ?_ rfl ⟨rfl, bY⟩
  simp [results, Tryd.f41, go_sem, e0, e1, e2, e3, e4]
end Go.Proofs.YtkbhmgdmkamcfaaDoor.Cap
