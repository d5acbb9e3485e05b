/- The document's reading of one record: the record. -/
import Derived.Test.YtkbhmgdmkamcfaaDoorCapFst
set_option linter.unusedVariables false
set_option linter.unusedSimpArgs false
set_option maxRecDepth 100000
namespace Go.Proofs.YtkbhmgdmkamcfaaDoor.Cap
open Go.RowKit Mem Rw Air Base Oct

set_option maxHeartbeats 8000000 in
theorem first_rec (A : Option Addr) (n c : Nat) (zs : List Int) (w : World) (hz : zs.length = n) (hnc : n ≤ c) (hn : n ≤ 60000) (bz : Bytes zs) (hi : Ints .u8 w w.heap.size A zs) (h13 : 13 ≤ n) (hl : ¬ 260 < lenZ (zs.take 13)) (hs : 16 + recN zs ≤ n) (hbd : (bodZ zs).2 = 0) (hr : rightB (docT zs) = true) : Calls Tryd.prog 41 #[.slice A n c] w fun e w' => ∃ bA bc, e = .returned (.tuple #[.agg #[.int .i64 (docT zs).id, .int .i64 (docT zs).frm, .int .i64 (docT zs).ch, .int .i64 (docT zs).st, .slice bA (recN zs) bc], .int .i64 ((recN zs + 16 : Nat) : Int), .int .i64 0]) ∧ w'.ownsRow (w.heap.size + 1) 5 1 (.slice bA (recN zs) bc) (recN zs) ((docT zs).bs.map (Value.int .u8)) ∧ Below w.heap.size w w' := by
  obtain ⟨i0, hi0, hz0, hz1, hz2⟩ := info_parts Base.info_u8
  obtain ⟨b, off, rfl, hb⟩ : ∃ b off, A = some ⟨b, off, none⟩ ∧ b < w.heap.size := by
    rcases hi with hi | ⟨b, off, e, hb, _⟩
    · subst hi; simp at hz; omega
    · exact ⟨b, off, e, hb⟩
  have bY : Below w.heap.size w (w.alloc (.cells #[.int .i64 0, .int .i64 0, .int .i64 0, .int .i64 0, .slice none 0 0] 52)) := (Below.refl _ w).alloc (Nat.le_refl _) _
  have RB := Blk.fresh w 52 #[.int .i64 0, .int .i64 0, .int .i64 0, .int .i64 0, .slice none 0 0]
  have RE := blk_five RB
  obtain ⟨m, hm⟩ : ∃ m, recN zs = m := ⟨_, rfl⟩
  have hV := len11 bz (by omega)
  have hVb := nm4_bd (bytes_take bz 13)
  rw [← lenZ_eq (bytes_take bz 13)] at hVb
  have hVm : valL ((zs.drop 11).take 2) = (m : Int) := by
    rw [← hV, ← hm]; unfold recN; omega
  have hlm : lenZ (zs.take 13) = (m : Int) := hV.trans hVm
  have wm : IntKind.i64.wrap (m : Int) = (m : Int) := by rw [IntKind.wrap_i64]; omega
  have s11 : ∀ w' : World, (Instr.slice 32 (.slice (some ⟨b, off, none⟩) n c) (some (.int .i64 11)) (some (.int .i64 13)) none).run Tryd.prog w' = .ok (.slice (some ⟨b, off + 11, none⟩) 2 (c - 11)) w' := fun w' => slice_part _ b off n c 11 13 rfl (by omega) (by omega) (by omega) w'
  have HV1 : Hid (∀ w', Below w.heap.size w w' → Calls Tryd.prog 66 #[.slice (some ⟨b, off + 11, none⟩) 2 (c - 11)] w' fun e w2 => e = .returned (.int .u64 (m : Int)) ∧ w' = w2) := Lib.hid fun w' bb => by
    rw [← hVm]
    exact value_any _ 2 (c - 11) _ w' (by rw [List.length_take, List.length_drop]; omega) (bytes_take (bytes_drop bz 11) 2) (ints_part (later hi bb) 11 2) (by omega)
  obtain ⟨N, hN⟩ : ∃ N, m + 16 = N := ⟨_, rfl⟩
  obtain ⟨P, hP⟩ : ∃ P, m + 13 = P := ⟨_, rfl⟩
  have wN : IntKind.i64.wrap ((m : Int) + 16) = (N : Int) := by rw [IntKind.wrap_i64]; omega
  have wP : IntKind.i64.wrap ((m : Int) + 13) = (P : Int) := by rw [IntKind.wrap_i64]; omega
  have g1 : ¬ (n : Int) < 13 ∧ ¬ n < 13 ∧ ¬ (260 : Int) < (m : Int) ∧ ¬ 260 < m ∧ ¬ (n : Int) < (N : Int) ∧ ¬ n < N := by omega
  obtain ⟨q, hq⟩ : ∃ q, Crc.sumN (Crc.ini 0) (zs.take P) = q := ⟨_, rfl⟩
  obtain ⟨V3, hV3⟩ : ∃ V, valL ((zs.drop P).take 3) = V := ⟨_, rfl⟩
  have hqb : q < 16777216 := hq ▸ Crc.sumN_lt _ _ (Crc.ini_lt 0) (bytes_take bz P)
  have wq : IntKind.u64.wrap (q : Int) = (q : Int) := by rw [IntKind.wrap_u64]; omega
  have hiff := bod_iff bz (by omega)
  rw [hm, hP, hq, hV3] at hiff
  have sP : ∀ w' : World, (Instr.slice 32 (.slice (some ⟨b, off, none⟩) n c) (some (.int .i64 (P : Int))) (some (.int .i64 (N : Int))) none).run Tryd.prog w' = .ok (.slice (some ⟨b, off + P, none⟩) 3 (c - P)) w' := fun w' => by
    have := slice_part (some ⟨b, off, none⟩) b off n c P N rfl (by omega) (by omega) (by omega) w'
    rwa [show N - P = 3 by omega] at this
  have sT : ∀ w' : World, (Instr.slice 32 (.slice (some ⟨b, off, none⟩) n c) none (some (.int .i64 (P : Int))) none).run Tryd.prog w' = .ok (.slice (some ⟨b, off, none⟩) P c) w' := fun w' => slice_to _ n c P (by omega) w' b off rfl
  have HV3 : Hid (∀ w', Below w.heap.size w w' → Calls Tryd.prog 66 #[.slice (some ⟨b, off + P, none⟩) 3 (c - P)] w' fun e w2 => e = .returned (.int .u64 V3) ∧ w' = w2) := Lib.hid fun w' bb => by
    rw [← hV3]
    exact value_any _ 3 (c - P) _ w' (by rw [List.length_take, List.length_drop]; omega) (bytes_take (bytes_drop bz P) 3) (ints_part (later hi bb) P 3) (by omega)
  have HSu : Hid (∀ w', Below w.heap.size w w' → Calls Tryd.prog 59 #[.int .u32 0, .slice (some ⟨b, off, none⟩) P c] w' fun e w2 => e = .returned (.int .u32 (q : Int)) ∧ w' = w2) := Lib.hid fun w' bb => by
    rw [← hq]
    exact Crc.rsum_any 0 _ P c _ w' (by decide) (by rw [List.length_take]; omega) (bytes_take bz P) (ints_take (later hi bb) P) (by omega)
  have HRB : Hid (∀ X, Below (w.alloc (.cells #[.int .i64 0, .int .i64 0, .int .i64 0, .int .i64 0, .slice none 0 0] 52)).heap.size (w.alloc (.cells #[.int .i64 0, .int .i64 0, .int .i64 0, .int .i64 0, .slice none 0 0] 52)) X → Blk X w.heap.size 52 #[.int .i64 0, .int .i64 0, .int .i64 0, .int .i64 0, .slice none 0 0]) := Lib.hid fun X bb => RB.below bb (by simp)
  have hne : (V3 != (q : Int)) = false := by
    rw [hiff.1 hbd]; simp
  have hx8 : ¬ (n : Int) ≤ 8 ∧ ¬ (n : Int) ≤ 9 ∧ ¬ (n : Int) ≤ 10 ∧ (8 : Int) < (n : Int) ∧ (9 : Int) < (n : Int) ∧ (10 : Int) < (n : Int) := by omega
  have g8 := getD_in' bz 8
  have g9 := getD_in' bz 9
  have g10 := getD_in' bz 10
  have hIc := hi
  obtain hi' | ⟨b', off', e', hb', hcell⟩ := hIc
  · subst hi'; simp at hz; omega
  cases e'
  have HS : Hid (∀ X, Below (w.alloc (.cells #[.int .i64 0, .int .i64 0, .int .i64 0, .int .i64 0, .slice none 0 0] 52)).heap.size (w.alloc (.cells #[.int .i64 0, .int .i64 0, .int .i64 0, .int .i64 0, .slice none 0 0] 52)) X → X.cell? ⟨b, off + 8, none⟩ = some (.int .u8 (zs.getD 8 0)) ∧ X.cell? ⟨b, off + 9, none⟩ = some (.int .u8 (zs.getD 9 0)) ∧ X.cell? ⟨b, off + 10, none⟩ = some (.int .u8 (zs.getD 10 0))) := Lib.hid fun X bb =>
    ⟨((thenB bY bb).cell (p := ⟨b, off + 8, none⟩) hb).trans (hcell 8 (by omega)), ((thenB bY bb).cell (p := ⟨b, off + 9, none⟩) hb).trans (hcell 9 (by omega)), ((thenB bY bb).cell (p := ⟨b, off + 10, none⟩) hb).trans (hcell 10 (by omega))⟩
  have HIn : Hid (∀ X, Below (w.alloc (.cells #[.int .i64 0, .int .i64 0, .int .i64 0, .int .i64 0, .slice none 0 0] 52)).heap.size (w.alloc (.cells #[.int .i64 0, .int .i64 0, .int .i64 0, .int .i64 0, .slice none 0 0] 52)) X → Ints .u8 X X.heap.size (some ⟨b, off + 13, none⟩) ((zs.drop 13).take m)) := Lib.hid fun X bb => ints_part (later hi (thenB bY bb)) 13 m
  have HDs : Hid (((zs.drop 13).take m).length = m) := Lib.hid (by rw [List.length_take, List.length_drop]; omega)
  have b0 := valL_bd (bytes_take bz 8)
  rw [show (zs.take 8).length = 8 by rw [List.length_take]; omega, show Ser.p2 (8 * 8) = 18446744073709551616 by decide] at b0
  obtain ⟨T2, hT2⟩ : ∃ T2, min (valL (zs.take 8)) 2199023255552 = T2 := ⟨_, rfl⟩
  have wT : IntKind.i64.wrap (min (valL (zs.take 8)) 2199023255552) = T2 := by rw [IntKind.wrap_i64]; omega
  have w8 : IntKind.i64.wrap (zs.getD 8 0) = zs.getD 8 0 := by rw [IntKind.wrap_i64]; omega
  have w9 : IntKind.i64.wrap (zs.getD 9 0) = zs.getD 9 0 := by rw [IntKind.wrap_i64]; omega
  have w10 : IntKind.i64.wrap (zs.getD 10 0) = zs.getD 10 0 := by rw [IntKind.wrap_i64]; omega
  have s8' : ∀ w' : World, (Instr.slice 32 (.slice (some ⟨b, off, none⟩) n c) none (some (.int .i64 8)) none).run Tryd.prog w' = .ok (.slice (some ⟨b, off, none⟩) 8 c) w' := fun w' => slice_to _ n c 8 (by omega) w' b off rfl
  have s13 : ∀ w' : World, (Instr.slice 32 (.slice (some ⟨b, off, none⟩) n c) (some (.int .i64 13)) (some (.int .i64 (P : Int))) none).run Tryd.prog w' = .ok (.slice (some ⟨b, off + 13, none⟩) m (c - 13)) w' := fun w' => by
    have := slice_part (some ⟨b, off, none⟩) b off n c 13 P rfl (by omega) (by omega) (by omega) w'
    rwa [show P - 13 = m by omega] at this
  have HV8 : Hid (∀ w', Below w.heap.size w w' → Calls Tryd.prog 66 #[.slice (some ⟨b, off, none⟩) 8 c] w' fun e w2 => e = .returned (.int .u64 (valL (zs.take 8))) ∧ w' = w2) := Lib.hid fun w' bb =>
    value_any _ 8 c _ w' (by rw [List.length_take]; omega) (bytes_take bz 8) (ints_take (later hi bb) 8) (by omega)
  have HRt : Hid (∀ (w' : World) (bA : Option Addr) (bc : Nat), Calls Tryd.prog 36 #[.agg #[.int .i64 (docT zs).id, .int .i64 (docT zs).frm, .int .i64 (docT zs).ch, .int .i64 (docT zs).st, .slice bA m bc]] w' fun e w2 => e = .returned (.bool true) ∧ Below w'.heap.size w' w2) := Lib.hid fun w' bA bc => by
    have := rright_any (docT zs).id (docT zs).frm (docT zs).ch (docT zs).st bA m bc (docT zs).bs w'
    rw [show (⟨(docT zs).id, (docT zs).frm, (docT zs).ch, (docT zs).st, (docT zs).bs⟩ : Tr) = docT zs from rfl, hr] at this
    exact this
  rw [hm, hN]
  unfold docT at HRt ⊢
  rw [hm] at HRt ⊢
  simp only at HRt ⊢
  have hws : (w.alloc (.cells #[.int .i64 0, .int .i64 0, .int .i64 0, .int .i64 0, .slice none 0 0] 52)).heap.size = w.heap.size + 1 := by simp
  rw [hT2] at HRt ⊢
  clear hT2
  generalize valL (zs.take 8) = T at *
  generalize zs.getD 8 0 = c8 at *
  generalize zs.getD 9 0 = c9 at *
  generalize zs.getD 10 0 = c10 at *
  generalize (zs.drop 13).take m = ds at *
  clear hz bz hi RE hV hVb hVm hlm hl h13 hs hN hP hq hV3 hiff hbd hr hcell hb b0 g8 g9 g10 RB hm
  go_enter Tryd.func41, Tryd.ntmps41
  go_wp2_with fail
  generalize w.alloc (.cells #[.int .i64 0, .int .i64 0, .int .i64 0, .int .i64 0, .slice none 0 0] 52) = W at *
  refine (HV1.out _ bY).mono ?_
  rintro e w1 ⟨rfl, rfl⟩
  go_wp2_with fail
  refine wp_region_held_drew (S := (fun _ => True)) (by kernel_rfl) ?_ (fun hHeld => ?_)
  · trivial
  have BX : Below W.heap.size W W.drew := (Below.refl _ _).drew
  generalize W.drew = X0 at *
  refine wpAnyH_take (i := 0) (v := .slice (some ⟨b, off, none⟩) n c) rfl (by kernel_rfl) (by kernel_rfl) (by kernel_rfl) (fun _ _ _ h => h) (Or.inl ⟨by first | rfl | go_simp, by intro w9 hSw; (try dsimp only at hSw); go_simp⟩) (by assumption) ?_
  simp only [List.getElem_toArray, List.getElem_cons_zero, List.getElem_cons_succ, Act.put, List.setIfInBounds_toArray, List.set_cons_zero, List.set_cons_succ]
  refine wpAnyH_take (i := 1) (v := .int .i64 (m : Int)) rfl (by kernel_rfl) (by kernel_rfl) (by kernel_rfl) (fun _ _ _ h => h) (Or.inl ⟨by first | rfl | go_simp, by intro w9 hSw; (try dsimp only at hSw); go_simp⟩) (by assumption) ?_
  simp only [List.getElem_toArray, List.getElem_cons_zero, List.getElem_cons_succ, Act.put, List.setIfInBounds_toArray, List.set_cons_zero, List.set_cons_succ]
  refine wpAnyH_take (i := 2) (v := .int .i64 (P : Int)) rfl (by kernel_rfl) (by kernel_rfl) (by kernel_rfl) (fun _ _ _ h => h) (Or.inl ⟨by first | rfl | go_simp, by intro w9 hSw; (try dsimp only at hSw); go_simp⟩) (by assumption) ?_
  simp only [List.getElem_toArray, List.getElem_cons_zero, List.getElem_cons_succ, Act.put, List.setIfInBounds_toArray, List.set_cons_zero, List.set_cons_succ]
  refine wpAnyH_take (i := 3) (v := .int .i64 (m : Int)) rfl (by kernel_rfl) (by kernel_rfl) (by kernel_rfl) (fun _ _ _ h => h) (Or.inl ⟨by first | rfl | go_simp, by intro w9 hSw; (try dsimp only at hSw); go_simp⟩) (by assumption) ?_
  simp only [List.getElem_toArray, List.getElem_cons_zero, List.getElem_cons_succ, Act.put, List.setIfInBounds_toArray, List.set_cons_zero, List.set_cons_succ]
  refine wpAnyH_take (i := 4) (v := .int .i64 (N : Int)) rfl (by kernel_rfl) (by kernel_rfl) (by kernel_rfl) (fun _ _ _ h => h) (Or.inl ⟨by first | rfl | go_simp, by intro w9 hSw; (try dsimp only at hSw); go_simp⟩) (by assumption) ?_
  simp only [List.getElem_toArray, List.getElem_cons_zero, List.getElem_cons_succ, Act.put, List.setIfInBounds_toArray, List.set_cons_zero, List.set_cons_succ]
  refine wpAnyH_take (i := 5) (v := .slice (some ⟨b, off + P, none⟩) 3 (c - P)) rfl (by kernel_rfl) (by kernel_rfl) (by kernel_rfl) (fun _ _ _ h => h) (Or.inl ⟨by first | rfl | go_simp, by intro w9 hSw; (try dsimp only at hSw); go_simp⟩) (by assumption) ?_
  simp only [List.getElem_toArray, List.getElem_cons_zero, List.getElem_cons_succ, Act.put, List.setIfInBounds_toArray, List.set_cons_zero, List.set_cons_succ]
  refine wpAnyH_take (i := 7) (v := .slice (some ⟨b, off, none⟩) n c) rfl (by kernel_rfl) (by kernel_rfl) (by kernel_rfl) (fun _ _ _ h => h) (Or.inl ⟨by first | rfl | go_simp, by intro w9 hSw; (try dsimp only at hSw); go_simp⟩) (by assumption) ?_
  simp only [List.getElem_toArray, List.getElem_cons_zero, List.getElem_cons_succ, Act.put, List.setIfInBounds_toArray, List.set_cons_zero, List.set_cons_succ]
  refine wpAnyH_take (i := 8) (v := .int .i64 (m : Int)) rfl (by kernel_rfl) (by kernel_rfl) (by kernel_rfl) (fun _ _ _ h => h) (Or.inl ⟨by first | rfl | go_simp, by intro w9 hSw; (try dsimp only at hSw); go_simp⟩) (by assumption) ?_
  simp only [List.getElem_toArray, List.getElem_cons_zero, List.getElem_cons_succ, Act.put, List.setIfInBounds_toArray, List.set_cons_zero, List.set_cons_succ]
  refine wpAnyH_take (i := 9) (v := .int .i64 (P : Int)) rfl (by kernel_rfl) (by kernel_rfl) (by kernel_rfl) (fun _ _ _ h => h) (Or.inl ⟨by first | rfl | go_simp, by intro w9 hSw; (try dsimp only at hSw); go_simp⟩) (by assumption) ?_
  simp only [List.getElem_toArray, List.getElem_cons_zero, List.getElem_cons_succ, Act.put, List.setIfInBounds_toArray, List.set_cons_zero, List.set_cons_succ]
  refine wpAnyH_take (i := 10) (v := .slice (some ⟨b, off, none⟩) P c) rfl (by kernel_rfl) (by kernel_rfl) (by kernel_rfl) (fun _ _ _ h => h) (Or.inl ⟨by first | rfl | go_simp, by intro w9 hSw; (try dsimp only at hSw); go_simp⟩) (by assumption) ?_
  simp only [List.getElem_toArray, List.getElem_cons_zero, List.getElem_cons_succ, Act.put, List.setIfInBounds_toArray, List.set_cons_zero, List.set_cons_succ]
  refine wpAnyH_ready (rs := [6]) (by kernel_rfl) (by simp) ?_
  refine AllReadyH.cons rfl (fun K hK => ?_) (AllReadyH.nil)
  go_simp
  refine (HV3.out _ (thenB bY BX)).mono ?_
  rintro e X8 ⟨rfl, rfl⟩
  refine hK.out _ _ trivial (fun hHeld => ?_)
  clear hK K
  try simp only [List.getElem_toArray, List.getElem_cons_zero, List.getElem_cons_succ, Act.put, List.setIfInBounds_toArray, List.set_cons_zero, List.set_cons_succ]
  refine wpAnyH_ready (rs := [11]) (by kernel_rfl) (by simp) ?_
  refine AllReadyH.cons rfl (fun K hK => ?_) (AllReadyH.nil)
  go_simp
  refine (HSu.out _ (thenB bY BX)).mono ?_
  rintro e X8 ⟨rfl, rfl⟩
  refine hK.out _ _ trivial (fun hHeld => ?_)
  clear hK K
  try simp only [List.getElem_toArray, List.getElem_cons_zero, List.getElem_cons_succ, Act.put, List.setIfInBounds_toArray, List.set_cons_zero, List.set_cons_succ]
  refine wpAnyH_take (i := 12) (v := .int .u64 (q : Int)) rfl (by kernel_rfl) (by kernel_rfl) (by kernel_rfl) (fun _ _ _ h => h) (Or.inl ⟨by first | rfl | go_simp, by intro w9 hSw; (try dsimp only at hSw); go_simp⟩) (by assumption) ?_
  simp only [List.getElem_toArray, List.getElem_cons_zero, List.getElem_cons_succ, Act.put, List.setIfInBounds_toArray, List.set_cons_zero, List.set_cons_succ]
  refine wpAnyH_take (i := 13) (v := .bool false) rfl (by kernel_rfl) (by kernel_rfl) (by kernel_rfl) (fun _ _ _ h => h) (Or.inl ⟨by first | rfl | go_simp, by intro w9 hSw; (try dsimp only at hSw); go_simp⟩) (by assumption) ?_
  simp only [List.getElem_toArray, List.getElem_cons_zero, List.getElem_cons_succ, Act.put, List.setIfInBounds_toArray, List.set_cons_zero, List.set_cons_succ]
  refine wpAnyH_done (by kernel_rfl) ?_ _
  have RB : Blk X0 w.heap.size 52 #[.int .i64 0, .int .i64 0, .int .i64 0, .int .i64 0, .slice none 0 0] := HRB.out _ BX
  go_wp2_with (go_at_call 66; refine (HV8.out _ (thenB bY BX)).mono ?_; rintro e X8 ⟨rfl, rfl⟩)
  refine wp_region_held_drew (S := (fun w' => w'.cell? ⟨b, off + 8, none⟩ = some (.int .u8 c8) ∧ w'.cell? ⟨b, off + 9, none⟩ = some (.int .u8 c9) ∧ w'.cell? ⟨b, off + 10, none⟩ = some (.int .u8 c10))) (by kernel_rfl) ?_ (fun hHeld => ?_)
  · exact HS.out _ BX.drew
  have BX : Below W.heap.size W X0.drew := BX.drew
  have RB : Blk X0.drew w.heap.size 52 #[.int .i64 0, .int .i64 0, .int .i64 0, .int .i64 0, .slice none 0 0] := RB
  generalize X0.drew = Y0 at *
  refine wpAnyH_take (i := 0) (v := .int .u64 T) rfl (by kernel_rfl) (by kernel_rfl) (by kernel_rfl) (fun _ _ _ h => h) (Or.inl ⟨by first | rfl | go_simp, by intro w9 hSw; (try dsimp only at hSw); go_simp⟩) (by assumption) ?_
  simp only [List.getElem_toArray, List.getElem_cons_zero, List.getElem_cons_succ, Act.put, List.setIfInBounds_toArray, List.set_cons_zero, List.set_cons_succ]
  refine wpAnyH_take (i := 1) (v := .int .u64 (min T 2199023255552)) rfl (by kernel_rfl) (by kernel_rfl) (by kernel_rfl) (fun _ _ _ h => h) (Or.inl ⟨by first | rfl | go_simp, by intro w9 hSw; (try dsimp only at hSw); go_simp⟩) (by assumption) ?_
  simp only [List.getElem_toArray, List.getElem_cons_zero, List.getElem_cons_succ, Act.put, List.setIfInBounds_toArray, List.set_cons_zero, List.set_cons_succ]
  refine wpAnyH_take (i := 2) (v := .int .i64 T2) rfl (by kernel_rfl) (by kernel_rfl) (by kernel_rfl) (fun _ _ _ h => h) (Or.inl ⟨by first | rfl | go_simp, by intro w9 hSw; (try dsimp only at hSw); go_simp⟩) (by assumption) ?_
  simp only [List.getElem_toArray, List.getElem_cons_zero, List.getElem_cons_succ, Act.put, List.setIfInBounds_toArray, List.set_cons_zero, List.set_cons_succ]
  refine wpAnyH_take (i := 3) (v := .slice (some ⟨b, off, none⟩) n c) rfl (by kernel_rfl) (by kernel_rfl) (by kernel_rfl) (fun _ _ _ h => h) (Or.inl ⟨by first | rfl | go_simp, by intro w9 hSw; (try dsimp only at hSw); go_simp⟩) (by assumption) ?_
  simp only [List.getElem_toArray, List.getElem_cons_zero, List.getElem_cons_succ, Act.put, List.setIfInBounds_toArray, List.set_cons_zero, List.set_cons_succ]
  refine wpAnyH_take (i := 4) (v := .pointer (some ⟨b, off + 8, none⟩)) rfl (by kernel_rfl) (by kernel_rfl) (by kernel_rfl) (fun _ _ _ h => h) (Or.inl ⟨by first | rfl | go_simp, by intro w9 hSw; (try dsimp only at hSw); go_simp⟩) (by assumption) ?_
  simp only [List.getElem_toArray, List.getElem_cons_zero, List.getElem_cons_succ, Act.put, List.setIfInBounds_toArray, List.set_cons_zero, List.set_cons_succ]
  refine wpAnyH_take (i := 5) (v := .int .u8 c8) rfl (by kernel_rfl) (by kernel_rfl) (by kernel_rfl) (fun _ _ _ h => h) (Or.inl ⟨by first | rfl | go_simp, by intro w9 hSw; (try dsimp only at hSw); go_simp⟩) (by assumption) ?_
  simp only [List.getElem_toArray, List.getElem_cons_zero, List.getElem_cons_succ, Act.put, List.setIfInBounds_toArray, List.set_cons_zero, List.set_cons_succ]
  refine wpAnyH_take (i := 6) (v := .int .i64 c8) rfl (by kernel_rfl) (by kernel_rfl) (by kernel_rfl) (fun _ _ _ h => h) (Or.inl ⟨by first | rfl | go_simp, by intro w9 hSw; (try dsimp only at hSw); go_simp⟩) (by assumption) ?_
  simp only [List.getElem_toArray, List.getElem_cons_zero, List.getElem_cons_succ, Act.put, List.setIfInBounds_toArray, List.set_cons_zero, List.set_cons_succ]
  refine wpAnyH_take (i := 7) (v := .slice (some ⟨b, off, none⟩) n c) rfl (by kernel_rfl) (by kernel_rfl) (by kernel_rfl) (fun _ _ _ h => h) (Or.inl ⟨by first | rfl | go_simp, by intro w9 hSw; (try dsimp only at hSw); go_simp⟩) (by assumption) ?_
  simp only [List.getElem_toArray, List.getElem_cons_zero, List.getElem_cons_succ, Act.put, List.setIfInBounds_toArray, List.set_cons_zero, List.set_cons_succ]
  refine wpAnyH_take (i := 8) (v := .pointer (some ⟨b, off + 9, none⟩)) rfl (by kernel_rfl) (by kernel_rfl) (by kernel_rfl) (fun _ _ _ h => h) (Or.inl ⟨by first | rfl | go_simp, by intro w9 hSw; (try dsimp only at hSw); go_simp⟩) (by assumption) ?_
  simp only [List.getElem_toArray, List.getElem_cons_zero, List.getElem_cons_succ, Act.put, List.setIfInBounds_toArray, List.set_cons_zero, List.set_cons_succ]
  refine wpAnyH_take (i := 9) (v := .int .u8 c9) rfl (by kernel_rfl) (by kernel_rfl) (by kernel_rfl) (fun _ _ _ h => h) (Or.inl ⟨by first | rfl | go_simp, by intro w9 hSw; (try dsimp only at hSw); go_simp⟩) (by assumption) ?_
  simp only [List.getElem_toArray, List.getElem_cons_zero, List.getElem_cons_succ, Act.put, List.setIfInBounds_toArray, List.set_cons_zero, List.set_cons_succ]
  refine wpAnyH_take (i := 10) (v := .int .i64 c9) rfl (by kernel_rfl) (by kernel_rfl) (by kernel_rfl) (fun _ _ _ h => h) (Or.inl ⟨by first | rfl | go_simp, by intro w9 hSw; (try dsimp only at hSw); go_simp⟩) (by assumption) ?_
  simp only [List.getElem_toArray, List.getElem_cons_zero, List.getElem_cons_succ, Act.put, List.setIfInBounds_toArray, List.set_cons_zero, List.set_cons_succ]
  refine wpAnyH_take (i := 11) (v := .slice (some ⟨b, off, none⟩) n c) rfl (by kernel_rfl) (by kernel_rfl) (by kernel_rfl) (fun _ _ _ h => h) (Or.inl ⟨by first | rfl | go_simp, by intro w9 hSw; (try dsimp only at hSw); go_simp⟩) (by assumption) ?_
  simp only [List.getElem_toArray, List.getElem_cons_zero, List.getElem_cons_succ, Act.put, List.setIfInBounds_toArray, List.set_cons_zero, List.set_cons_succ]
  refine wpAnyH_take (i := 12) (v := .pointer (some ⟨b, off + 10, none⟩)) rfl (by kernel_rfl) (by kernel_rfl) (by kernel_rfl) (fun _ _ _ h => h) (Or.inl ⟨by first | rfl | go_simp, by intro w9 hSw; (try dsimp only at hSw); go_simp⟩) (by assumption) ?_
  simp only [List.getElem_toArray, List.getElem_cons_zero, List.getElem_cons_succ, Act.put, List.setIfInBounds_toArray, List.set_cons_zero, List.set_cons_succ]
  refine wpAnyH_take (i := 13) (v := .int .u8 c10) rfl (by kernel_rfl) (by kernel_rfl) (by kernel_rfl) (fun _ _ _ h => h) (Or.inl ⟨by first | rfl | go_simp, by intro w9 hSw; (try dsimp only at hSw); go_simp⟩) (by assumption) ?_
  simp only [List.getElem_toArray, List.getElem_cons_zero, List.getElem_cons_succ, Act.put, List.setIfInBounds_toArray, List.set_cons_zero, List.set_cons_succ]
  refine wpAnyH_take (i := 14) (v := .int .i64 c10) rfl (by kernel_rfl) (by kernel_rfl) (by kernel_rfl) (fun _ _ _ h => h) (Or.inl ⟨by first | rfl | go_simp, by intro w9 hSw; (try dsimp only at hSw); go_simp⟩) (by assumption) ?_
  simp only [List.getElem_toArray, List.getElem_cons_zero, List.getElem_cons_succ, Act.put, List.setIfInBounds_toArray, List.set_cons_zero, List.set_cons_succ]
  refine wpAnyH_take (i := 16) (v := .slice (some ⟨b, off, none⟩) n c) rfl (by kernel_rfl) (by kernel_rfl) (by kernel_rfl) (fun _ _ _ h => h) (Or.inl ⟨by first | rfl | go_simp, by intro w9 hSw; (try dsimp only at hSw); go_simp⟩) (by assumption) ?_
  simp only [List.getElem_toArray, List.getElem_cons_zero, List.getElem_cons_succ, Act.put, List.setIfInBounds_toArray, List.set_cons_zero, List.set_cons_succ]
  refine wpAnyH_take (i := 17) (v := .int .i64 (m : Int)) rfl (by kernel_rfl) (by kernel_rfl) (by kernel_rfl) (fun _ _ _ h => h) (Or.inl ⟨by first | rfl | go_simp, by intro w9 hSw; (try dsimp only at hSw); go_simp⟩) (by assumption) ?_
  simp only [List.getElem_toArray, List.getElem_cons_zero, List.getElem_cons_succ, Act.put, List.setIfInBounds_toArray, List.set_cons_zero, List.set_cons_succ]
  refine wpAnyH_take (i := 18) (v := .int .i64 (P : Int)) rfl (by kernel_rfl) (by kernel_rfl) (by kernel_rfl) (fun _ _ _ h => h) (Or.inl ⟨by first | rfl | go_simp, by intro w9 hSw; (try dsimp only at hSw); go_simp⟩) (by assumption) ?_
  simp only [List.getElem_toArray, List.getElem_cons_zero, List.getElem_cons_succ, Act.put, List.setIfInBounds_toArray, List.set_cons_zero, List.set_cons_succ]
  refine wpAnyH_take (i := 19) (v := .slice (some ⟨b, off + 13, none⟩) m (c - 13)) rfl (by kernel_rfl) (by kernel_rfl) (by kernel_rfl) (fun _ _ _ h => h) (Or.inl ⟨by first | rfl | go_simp, by intro w9 hSw; (try dsimp only at hSw); go_simp⟩) (by assumption) ?_
  simp only [List.getElem_toArray, List.getElem_cons_zero, List.getElem_cons_succ, Act.put, List.setIfInBounds_toArray, List.set_cons_zero, List.set_cons_succ]
  refine wpAnyH_ready (rs := [15, 22]) (by kernel_rfl) (by simp) ?_
  refine AllReadyH.cons rfl (fun K hK => ?_) (AllReadyH.cons rfl (fun K hK => ?_) (AllReadyH.nil))
  · skip
    go_simp
    have b1 := (Below.refl Y0.heap.size Y0).alloc (Nat.le_refl _) (.cells #[] 5)
    have OE := World.ownsRow_made Y0 #[] 0 (e := 5) (base := Y0.heap.size) (size := 1) (Nat.le_refl _) (by unfold maxLen; omega) rfl
    have HGE : W.heap.size ≤ Y0.heap.size := BX.size
    have BX := thenB BX b1
    have RB := RB.below b1 RB.lt
    generalize hgY1 : Y0.heap.size = gY1 at *
    generalize Y0.alloc (.cells #[] 5) = Y1 at *
    refine hK.out _ _ (HS.out _ BX) (fun hHeld => ?_)
    clear hK K
    try simp only [List.getElem_toArray, List.getElem_cons_zero, List.getElem_cons_succ, Act.put, List.setIfInBounds_toArray, List.set_cons_zero, List.set_cons_succ]
    refine wpAnyH_ready (rs := [20, 22]) (by kernel_rfl) (by simp) ?_
    refine AllReadyH.cons rfl (fun K hK => ?_) (AllReadyH.cons rfl (fun K hK => ?_) (AllReadyH.nil))
    · skip
      refine step_append_ints rfl (.tmp 58) (.tmp 62) 32 rfl .u8 gY1 5 i0 _ 1 Tryd.underlying32 hi0 hz0 hz1 hz2 rfl (.slice (some ⟨gY1, 0, none⟩) 0 0) 0 [] rfl (by simpa using OE) Y1.heap.size (some ⟨b, off + 13, none⟩) m (c - 13) ds rfl HDs.out (HIn.out _ BX) (by unfold maxLen; omega) (by omega) (by have := (OE.lt gY1 (by rfl)).2; omega) ?_
      intro v5 Y2 O5 b5 g5
      simp only [List.nil_append, Nat.zero_add] at O5
      obtain ⟨bA, bc, rfl⟩ := own_form O5
      have OA := own_base O5 HGE
      have RB := RB.grown OE (by decide) g5
      have BX := BX.trans (b5.mono HGE)
      clear O5 OE HGE g5 b5
      refine hK.out _ _ (HS.out _ BX) (fun hHeld => ?_)
      clear hK K
      try simp only [List.getElem_toArray, List.getElem_cons_zero, List.getElem_cons_succ, Act.put, List.setIfInBounds_toArray, List.set_cons_zero, List.set_cons_succ]
      refine wpAnyH_take (i := 21) (v := .agg #[.int .i64 T2, .int .i64 c8, .int .i64 c9, .int .i64 c10, .slice bA m bc]) rfl (by kernel_rfl) (by kernel_rfl) (by kernel_rfl) (fun _ _ _ h => h) (Or.inl ⟨by first | rfl | go_simp, by intro w9 hSw; (try dsimp only at hSw); go_simp⟩) (by assumption) ?_
      simp only [List.getElem_toArray, List.getElem_cons_zero, List.getElem_cons_succ, Act.put, List.setIfInBounds_toArray, List.set_cons_zero, List.set_cons_succ]
      refine wpAnyH_ready (rs := [22]) (by kernel_rfl) (by simp) ?_
      refine AllReadyH.cons rfl (fun K hK => ?_) (AllReadyH.nil)
      go_simp
      have b1 := (Below.refl Y2.heap.size Y2).alloc (Nat.le_refl _) (.cells #[.int .i64 0, .int .i64 0, .int .i64 0, .int .i64 0, .slice none 0 0] 52)
      have TB := Blk.fresh Y2 52 #[.int .i64 0, .int .i64 0, .int .i64 0, .int .i64 0, .slice none 0 0]
      have HT : W.heap.size ≤ Y2.heap.size := BX.size
      have BX := thenB BX b1
      have RB := RB.below b1 RB.lt
      have OA := own_below OA b1
      generalize hgY3 : Y2.heap.size = gY3 at *
      generalize Y2.alloc (.cells #[.int .i64 0, .int .i64 0, .int .i64 0, .int .i64 0, .slice none 0 0] 52) = Y3 at *
      refine hK.out _ _ (HS.out _ BX) (fun hHeld => ?_)
      clear hK K
      try simp only [List.getElem_toArray, List.getElem_cons_zero, List.getElem_cons_succ, Act.put, List.setIfInBounds_toArray, List.set_cons_zero, List.set_cons_succ]
      refine wpAnyH_ready (rs := [23]) (by kernel_rfl) (by simp) ?_
      refine AllReadyH.cons rfl (fun K hK => ?_) (AllReadyH.nil)
      obtain ⟨q0, q1, q2, q3, q4, z0, z1, z2, z3, z4⟩ := blk_five TB
      obtain ⟨e5, bY2⟩ := set_five5 (.int .i64 T2) (.int .i64 c8) (.int .i64 c9) (.int .i64 c10) (.slice bA m bc) TB BX HT
      have E5 := Lib.hid e5
      have BY := Lib.hid bY2
      have OY := Lib.hid (five_own (.int .i64 T2) (.int .i64 c8) (.int .i64 c9) (.int .i64 c10) (.slice bA m bc) OA TB (by decide))
      have RY := Lib.hid (five_blk (.int .i64 T2) (.int .i64 c8) (.int .i64 c9) (.int .i64 c10) (.slice bA m bc) RB (show gY3 ≠ w.heap.size by omega))
      clear e5 bY2 OA TB RB BX
      go_simp
      generalize (((((Y3.setCell ⟨gY3, 0, none⟩ (.int .i64 T2)).setCell ⟨gY3, 1, none⟩ (.int .i64 c8)).setCell ⟨gY3, 2, none⟩ (.int .i64 c9)).setCell ⟨gY3, 3, none⟩ (.int .i64 c10)).setCell ⟨gY3, 4, none⟩ (.slice bA m bc)) = Y4 at *
      have BX := BY.out
      have OA := OY.out
      have RB := RY.out
      refine hK.out _ _ (HS.out _ BX) (fun hHeld => ?_)
      clear hK K
      try simp only [List.getElem_toArray, List.getElem_cons_zero, List.getElem_cons_succ, Act.put, List.setIfInBounds_toArray, List.set_cons_zero, List.set_cons_succ]
      refine wpAnyH_done (by kernel_rfl) ?_ _
      obtain ⟨f0, f1, f2, f3, f4⟩ := E5.out
      go_wp2_with fail
      refine (HRt.out _ bA bc).mono ?_
      rintro e Z ⟨rfl, bz⟩
      have BX := thenB BX bz
      have RB := RB.below bz RB.lt
      have OA := own_below OA bz
      have f0 := One_below f0 bz
      have f1 := One_below f1 bz
      have f2 := One_below f2 bz
      have f3 := One_below f3 bz
      have f4 := One_below f4 bz
      obtain ⟨q0, q1, q2, q3, q4, z0, z1, z2, z3, z4⟩ := blk_five RB
      obtain ⟨⟨e0, e1, e2, e3, e4⟩, bY2⟩ := set_five5 (.int .i64 T2) (.int .i64 c8) (.int .i64 c9) (.int .i64 c10) (.slice bA m bc) RB (thenB bY BX) (Nat.le_refl _)
      have OY2 := Lib.hid (own_five (.int .i64 T2) (.int .i64 c8) (.int .i64 c9) (.int .i64 c10) (.slice bA m bc) (show w.heap.size < w.heap.size + 1 ∧ Z.ownsRow (w.heap.size + 1) 5 1 (.slice bA m bc) m (ds.map (Value.int .u8)) from ⟨by omega, own_base OA (by omega)⟩))
      clear RB E5 BY OY RY OA
      go_wp2_with fail
      refine bodyPost_ret (v := .tuple #[.agg #[.int .i64 T2, .int .i64 c8, .int .i64 c9, .int .i64 c10, .slice bA m bc], .int .i64 (N : Int), .int .i64 0]) ?_ rfl ⟨bA, bc, rfl, OY2.out, bY2⟩
      simp [results, Tryd.f41, go_sem, e0, e1, e2, e3, e4]
    · skip
      go_simp
      have b1 := (Below.refl Y1.heap.size Y1).alloc (Nat.le_refl _) (.cells #[.int .i64 0, .int .i64 0, .int .i64 0, .int .i64 0, .slice none 0 0] 52)
      have TB := Blk.fresh Y1 52 #[.int .i64 0, .int .i64 0, .int .i64 0, .int .i64 0, .slice none 0 0]
      have HT : W.heap.size ≤ Y1.heap.size := BX.size
      have BX := thenB BX b1
      have RB := RB.below b1 RB.lt
      have OE := own_below OE b1
      generalize hgY5 : Y1.heap.size = gY5 at *
      generalize Y1.alloc (.cells #[.int .i64 0, .int .i64 0, .int .i64 0, .int .i64 0, .slice none 0 0] 52) = Y5 at *
      refine hK.out _ _ (HS.out _ BX) (fun hHeld => ?_)
      clear hK K
      try simp only [List.getElem_toArray, List.getElem_cons_zero, List.getElem_cons_succ, Act.put, List.setIfInBounds_toArray, List.set_cons_zero, List.set_cons_succ]
      refine wpAnyH_ready (rs := [20]) (by kernel_rfl) (by simp) ?_
      refine AllReadyH.cons rfl (fun K hK => ?_) (AllReadyH.nil)
      refine step_append_ints rfl (.tmp 58) (.tmp 62) 32 rfl .u8 gY1 5 i0 _ 1 Tryd.underlying32 hi0 hz0 hz1 hz2 rfl (.slice (some ⟨gY1, 0, none⟩) 0 0) 0 [] rfl (by simpa using OE) Y5.heap.size (some ⟨b, off + 13, none⟩) m (c - 13) ds rfl HDs.out (HIn.out _ BX) (by unfold maxLen; omega) (by omega) (by have := (OE.lt gY1 (by rfl)).2; omega) ?_
      intro v5 Y6 O5 b5 g5
      simp only [List.nil_append, Nat.zero_add] at O5
      obtain ⟨bA, bc, rfl⟩ := own_form O5
      have OA := own_base O5 HGE
      have RB := RB.grown OE (by decide) g5
      have TB := TB.grown OE (by decide) g5
      have BX := BX.trans (b5.mono HGE)
      clear O5 OE HGE g5 b5
      refine hK.out _ _ (HS.out _ BX) (fun hHeld => ?_)
      clear hK K
      try simp only [List.getElem_toArray, List.getElem_cons_zero, List.getElem_cons_succ, Act.put, List.setIfInBounds_toArray, List.set_cons_zero, List.set_cons_succ]
      refine wpAnyH_take (i := 21) (v := .agg #[.int .i64 T2, .int .i64 c8, .int .i64 c9, .int .i64 c10, .slice bA m bc]) rfl (by kernel_rfl) (by kernel_rfl) (by kernel_rfl) (fun _ _ _ h => h) (Or.inl ⟨by first | rfl | go_simp, by intro w9 hSw; (try dsimp only at hSw); go_simp⟩) (by assumption) ?_
      simp only [List.getElem_toArray, List.getElem_cons_zero, List.getElem_cons_succ, Act.put, List.setIfInBounds_toArray, List.set_cons_zero, List.set_cons_succ]
      refine wpAnyH_ready (rs := [23]) (by kernel_rfl) (by simp) ?_
      refine AllReadyH.cons rfl (fun K hK => ?_) (AllReadyH.nil)
      obtain ⟨q0, q1, q2, q3, q4, z0, z1, z2, z3, z4⟩ := blk_five TB
      obtain ⟨e5, bY2⟩ := set_five5 (.int .i64 T2) (.int .i64 c8) (.int .i64 c9) (.int .i64 c10) (.slice bA m bc) TB BX HT
      have E5 := Lib.hid e5
      have BY := Lib.hid bY2
      have OY := Lib.hid (five_own (.int .i64 T2) (.int .i64 c8) (.int .i64 c9) (.int .i64 c10) (.slice bA m bc) OA TB (by decide))
      have RY := Lib.hid (five_blk (.int .i64 T2) (.int .i64 c8) (.int .i64 c9) (.int .i64 c10) (.slice bA m bc) RB (show gY5 ≠ w.heap.size by omega))
      clear e5 bY2 OA TB RB BX
      go_simp
      generalize (((((Y6.setCell ⟨gY5, 0, none⟩ (.int .i64 T2)).setCell ⟨gY5, 1, none⟩ (.int .i64 c8)).setCell ⟨gY5, 2, none⟩ (.int .i64 c9)).setCell ⟨gY5, 3, none⟩ (.int .i64 c10)).setCell ⟨gY5, 4, none⟩ (.slice bA m bc)) = Y7 at *
      have BX := BY.out
      have OA := OY.out
      have RB := RY.out
      refine hK.out _ _ (HS.out _ BX) (fun hHeld => ?_)
      clear hK K
      try simp only [List.getElem_toArray, List.getElem_cons_zero, List.getElem_cons_succ, Act.put, List.setIfInBounds_toArray, List.set_cons_zero, List.set_cons_succ]
      refine wpAnyH_done (by kernel_rfl) ?_ _
      obtain ⟨f0, f1, f2, f3, f4⟩ := E5.out
      go_wp2_with fail
      refine (HRt.out _ bA bc).mono ?_
      rintro e Z ⟨rfl, bz⟩
      have BX := thenB BX bz
      have RB := RB.below bz RB.lt
      have OA := own_below OA bz
      have f0 := One_below f0 bz
      have f1 := One_below f1 bz
      have f2 := One_below f2 bz
      have f3 := One_below f3 bz
      have f4 := One_below f4 bz
      obtain ⟨q0, q1, q2, q3, q4, z0, z1, z2, z3, z4⟩ := blk_five RB
      obtain ⟨⟨e0, e1, e2, e3, e4⟩, bY2⟩ := set_five5 (.int .i64 T2) (.int .i64 c8) (.int .i64 c9) (.int .i64 c10) (.slice bA m bc) RB (thenB bY BX) (Nat.le_refl _)
      have OY2 := Lib.hid (own_five (.int .i64 T2) (.int .i64 c8) (.int .i64 c9) (.int .i64 c10) (.slice bA m bc) (show w.heap.size < w.heap.size + 1 ∧ Z.ownsRow (w.heap.size + 1) 5 1 (.slice bA m bc) m (ds.map (Value.int .u8)) from ⟨by omega, own_base OA (by omega)⟩))
      clear RB E5 BY OY RY OA
      go_wp2_with fail
      refine bodyPost_ret (v := .tuple #[.agg #[.int .i64 T2, .int .i64 c8, .int .i64 c9, .int .i64 c10, .slice bA m bc], .int .i64 (N : Int), .int .i64 0]) ?_ rfl ⟨bA, bc, rfl, OY2.out, bY2⟩
      simp [results, Tryd.f41, go_sem, e0, e1, e2, e3, e4]
  · skip
    go_simp
    have b1 := (Below.refl Y0.heap.size Y0).alloc (Nat.le_refl _) (.cells #[.int .i64 0, .int .i64 0, .int .i64 0, .int .i64 0, .slice none 0 0] 52)
    have TB := Blk.fresh Y0 52 #[.int .i64 0, .int .i64 0, .int .i64 0, .int .i64 0, .slice none 0 0]
    have HT : W.heap.size ≤ Y0.heap.size := BX.size
    have BX := thenB BX b1
    have RB := RB.below b1 RB.lt
    generalize hgY8 : Y0.heap.size = gY8 at *
    generalize Y0.alloc (.cells #[.int .i64 0, .int .i64 0, .int .i64 0, .int .i64 0, .slice none 0 0] 52) = Y8 at *
    refine hK.out _ _ (HS.out _ BX) (fun hHeld => ?_)
    clear hK K
    try simp only [List.getElem_toArray, List.getElem_cons_zero, List.getElem_cons_succ, Act.put, List.setIfInBounds_toArray, List.set_cons_zero, List.set_cons_succ]
    refine wpAnyH_ready (rs := [15]) (by kernel_rfl) (by simp) ?_
    refine AllReadyH.cons rfl (fun K hK => ?_) (AllReadyH.nil)
    go_simp
    have b1 := (Below.refl Y8.heap.size Y8).alloc (Nat.le_refl _) (.cells #[] 5)
    have OE := World.ownsRow_made Y8 #[] 0 (e := 5) (base := Y8.heap.size) (size := 1) (Nat.le_refl _) (by unfold maxLen; omega) rfl
    have HGE : W.heap.size ≤ Y8.heap.size := BX.size
    have BX := thenB BX b1
    have RB := RB.below b1 RB.lt
    have TB := TB.below b1 TB.lt
    generalize hgY9 : Y8.heap.size = gY9 at *
    generalize Y8.alloc (.cells #[] 5) = Y9 at *
    refine hK.out _ _ (HS.out _ BX) (fun hHeld => ?_)
    clear hK K
    try simp only [List.getElem_toArray, List.getElem_cons_zero, List.getElem_cons_succ, Act.put, List.setIfInBounds_toArray, List.set_cons_zero, List.set_cons_succ]
    refine wpAnyH_ready (rs := [20]) (by kernel_rfl) (by simp) ?_
    refine AllReadyH.cons rfl (fun K hK => ?_) (AllReadyH.nil)
    refine step_append_ints rfl (.tmp 58) (.tmp 62) 32 rfl .u8 gY9 5 i0 _ 1 Tryd.underlying32 hi0 hz0 hz1 hz2 rfl (.slice (some ⟨gY9, 0, none⟩) 0 0) 0 [] rfl (by simpa using OE) Y9.heap.size (some ⟨b, off + 13, none⟩) m (c - 13) ds rfl HDs.out (HIn.out _ BX) (by unfold maxLen; omega) (by omega) (by have := (OE.lt gY9 (by rfl)).2; omega) ?_
    intro v5 Y10 O5 b5 g5
    simp only [List.nil_append, Nat.zero_add] at O5
    obtain ⟨bA, bc, rfl⟩ := own_form O5
    have OA := own_base O5 HGE
    have RB := RB.grown OE (by decide) g5
    have TB := TB.grown OE (by decide) g5
    have BX := BX.trans (b5.mono HGE)
    clear O5 OE HGE g5 b5
    refine hK.out _ _ (HS.out _ BX) (fun hHeld => ?_)
    clear hK K
    try simp only [List.getElem_toArray, List.getElem_cons_zero, List.getElem_cons_succ, Act.put, List.setIfInBounds_toArray, List.set_cons_zero, List.set_cons_succ]
    refine wpAnyH_take (i := 21) (v := .agg #[.int .i64 T2, .int .i64 c8, .int .i64 c9, .int .i64 c10, .slice bA m bc]) rfl (by kernel_rfl) (by kernel_rfl) (by kernel_rfl) (fun _ _ _ h => h) (Or.inl ⟨by first | rfl | go_simp, by intro w9 hSw; (try dsimp only at hSw); go_simp⟩) (by assumption) ?_
    simp only [List.getElem_toArray, List.getElem_cons_zero, List.getElem_cons_succ, Act.put, List.setIfInBounds_toArray, List.set_cons_zero, List.set_cons_succ]
    refine wpAnyH_ready (rs := [23]) (by kernel_rfl) (by simp) ?_
    refine AllReadyH.cons rfl (fun K hK => ?_) (AllReadyH.nil)
    obtain ⟨q0, q1, q2, q3, q4, z0, z1, z2, z3, z4⟩ := blk_five TB
    obtain ⟨e5, bY2⟩ := set_five5 (.int .i64 T2) (.int .i64 c8) (.int .i64 c9) (.int .i64 c10) (.slice bA m bc) TB BX HT
    have E5 := Lib.hid e5
    have BY := Lib.hid bY2
    have OY := Lib.hid (five_own (.int .i64 T2) (.int .i64 c8) (.int .i64 c9) (.int .i64 c10) (.slice bA m bc) OA TB (by decide))
    have RY := Lib.hid (five_blk (.int .i64 T2) (.int .i64 c8) (.int .i64 c9) (.int .i64 c10) (.slice bA m bc) RB (show gY8 ≠ w.heap.size by omega))
    clear e5 bY2 OA TB RB BX
    go_simp
    generalize (((((Y10.setCell ⟨gY8, 0, none⟩ (.int .i64 T2)).setCell ⟨gY8, 1, none⟩ (.int .i64 c8)).setCell ⟨gY8, 2, none⟩ (.int .i64 c9)).setCell ⟨gY8, 3, none⟩ (.int .i64 c10)).setCell ⟨gY8, 4, none⟩ (.slice bA m bc)) = Y11 at *
    have BX := BY.out
    have OA := OY.out
    have RB := RY.out
    refine hK.out _ _ (HS.out _ BX) (fun hHeld => ?_)
    clear hK K
    try simp only [List.getElem_toArray, List.getElem_cons_zero, List.getElem_cons_succ, Act.put, List.setIfInBounds_toArray, List.set_cons_zero, List.set_cons_succ]
    refine wpAnyH_done (by kernel_rfl) ?_ _
    obtain ⟨f0, f1, f2, f3, f4⟩ := E5.out
    go_wp2_with fail
    refine (HRt.out _ bA bc).mono ?_
    rintro e Z ⟨rfl, bz⟩
    have BX := thenB BX bz
    have RB := RB.below bz RB.lt
    have OA := own_below OA bz
    have f0 := One_below f0 bz
    have f1 := One_below f1 bz
    have f2 := One_below f2 bz
    have f3 := One_below f3 bz
    have f4 := One_below f4 bz
    obtain ⟨q0, q1, q2, q3, q4, z0, z1, z2, z3, z4⟩ := blk_five RB
    obtain ⟨⟨e0, e1, e2, e3, e4⟩, bY2⟩ := set_five5 (.int .i64 T2) (.int .i64 c8) (.int .i64 c9) (.int .i64 c10) (.slice bA m bc) RB (thenB bY BX) (Nat.le_refl _)
    have OY2 := Lib.hid (own_five (.int .i64 T2) (.int .i64 c8) (.int .i64 c9) (.int .i64 c10) (.slice bA m bc) (show w.heap.size < w.heap.size + 1 ∧ Z.ownsRow (w.heap.size + 1) 5 1 (.slice bA m bc) m (ds.map (Value.int .u8)) from ⟨by omega, own_base OA (by omega)⟩))
    clear RB E5 BY OY RY OA
    go_wp2_with fail
    refine bodyPost_ret (v := .tuple #[.agg #[.int .i64 T2, .int .i64 c8, .int .i64 c9, .int .i64 c10, .slice bA m bc], .int .i64 (N : Int), .int .i64 0]) ?_ rfl ⟨bA, bc, rfl, OY2.out, bY2⟩
    simp [results, Tryd.f41, go_sem, e0, e1, e2, e3, e4]
end Go.Proofs.YtkbhmgdmkamcfaaDoor.Cap
