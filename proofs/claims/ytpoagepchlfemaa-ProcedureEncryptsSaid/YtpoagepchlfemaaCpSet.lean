/- Control PDUs: the functions that set a part: contracts over the program. -/
import Derived.Test.YtpoagepchlfemaaCpGet
import Derived.Deep.CutRange
import Derived.Maps.AppendAt
set_option linter.unusedVariables false
set_option linter.unusedSimpArgs false
namespace Go.Proofs.Ytpoagepchlfemaa.Cp
open Go.RowKit Mem Oct Rw Av
open Base (thenB)
theorem chg_cell {w X : World} {g : Nat} (h : w.grownBy X (some g)) (i : Nat) (v : Value) : w.grownBy (X.setCell ⟨g, i, none⟩ v) (some g) :=
  h.trans ⟨rfl, rfl, rfl, by simp, fun k _ hk => Below.heap_setCell X ⟨g, i, none⟩ v k (fun e => hk (by simpa using e))⟩
theorem far_cell {X : World} {ba o g : Nat} {v : Value} (h : X.cell? ⟨ba, o, none⟩ = some v) (hne : ba ≠ g) (i : Nat) (x : Value) : (X.setCell ⟨g, i, none⟩ x).cell? ⟨ba, o, none⟩ = some v :=
  (World.cell?_setCell_far _ _ _ _ (show g ≠ ba from Ne.symm hne)).trans h
theorem chg_refl (w : World) (r : Option Nat) : w.grownBy w r := ⟨rfl, rfl, rfl, Nat.le_refl _, fun _ _ _ => rfl⟩
theorem chg_drew {w X : World} {r : Option Nat} (h : w.grownBy X r) : w.grownBy X.drew r := h.trans ⟨rfl, rfl, rfl, Nat.le_refl _, fun _ _ _ => rfl⟩
/-- A part of the control PDU at g is set, and nothing else. -/
def Sets (w w' : World) (e : Ending) (g : Nat) (c : Ct) : Prop := (∃ v, e = .returned v) ∧ Blk w' g 57 (encC c) ∧ w.grownBy w' (some g)
set_option maxRecDepth 100000 in
set_option maxHeartbeats 4000000 in
theorem set_rs (c : Ct) (z0 : Int) (g b ba oa cc : Nat) (w : World) (KC : Blk w g 57 (encC c)) (KB : Blk w b 118 #[.func (.func 63) #[] #[]]) (hne : ba ≠ g) (hr : Ints .u64 w w.heap.size (some ⟨ba, oa, none⟩) [z0]) :
    Calls Try.prog 83 #[.pointer (some ⟨g, 0, none⟩), .slice (some ⟨ba, oa, none⟩) 1 cc, .pointer (some ⟨b, 0, none⟩)] w fun e w' => Sets w w' e g (setP .rs c [z0]) := by
  obtain ⟨b9, o9, e9, hb9, hc9⟩ : ∃ b' o', (some ⟨ba, oa, none⟩ : Option Addr) = some ⟨b', o', none⟩ ∧ b' < w.heap.size ∧ ∀ j, j < 1 → w.cell? ⟨b', o' + j, none⟩ = some (.int .u64 ([z0].getD j 0)) := by
    rcases hr with h | ⟨b', o', e, hb, hc⟩
    · cases h
    · exact ⟨b', o', e, hb, hc⟩
  obtain ⟨rfl, rfl⟩ : ba = b9 ∧ oa = o9 := by injection e9 with e9; injection e9 with h1 h2; exact ⟨h1, h2⟩
  have TT : w.cell? ⟨ba, oa, none⟩ = some (.int .u64 z0) := hc9 0 (by decide)
  clear hc9 hr e9 hb9
  have hgb : b ≠ g := by
    rintro rfl
    unfold Blk at KC KB
    rw [KB] at KC
    injection KC with KC
    injection KC with _ KC
    exact absurd KC (by decide)
  have GR := chg_refl w (some g)
  have BX : Below 0 w w := Below.refl _ _
  show Calls _ _ _ _ fun e w' => (∃ v, e = .returned v) ∧ Blk w' g 57 #[.int .i64 c.k, .int .i64 c.ws, .int .i64 c.wo, .int .i64 c.it, .int .i64 c.la, .int .i64 c.ti, .int .u64 (c.m : Int), .int .u16 c.ins, .int .i64 (IntKind.i64.wrap z0), .int .i64 c.rj, .int .u64 c.st, .int .u64 c.mr, .int .u64 c.ft, .int .i64 c.vs, .int .i64 c.ln] ∧ w.grownBy w' (some g)
  replace KC : Blk w g 57 #[.int .i64 c.k, .int .i64 c.ws, .int .i64 c.wo, .int .i64 c.it, .int .i64 c.la, .int .i64 c.ti, .int .u64 (c.m : Int), .int .u16 c.ins, .int .i64 c.rs, .int .i64 c.rj, .int .u64 c.st, .int .u64 c.mr, .int .u64 c.ft, .int .i64 c.vs, .int .i64 c.ln] := KC
  go_enter Try.func83, Try.ntmps83
  go_upto_region 0 with (fail)
  have KC' : Blk w.drew (g) 57 #[.int .i64 c.k, .int .i64 c.ws, .int .i64 c.wo, .int .i64 c.it, .int .i64 c.la, .int .i64 c.ti, .int .u64 (c.m : Int), .int .u16 c.ins, .int .i64 c.rs, .int .i64 c.rj, .int .u64 c.st, .int .u64 c.mr, .int .u64 c.ft, .int .i64 c.vs, .int .i64 c.ln] := Mem.Blk.drew KC
  have KB' : Blk w.drew (b) 118 #[.func (.func 63) #[] #[]] := Mem.Blk.drew KB
  refine wp_region_held_drew (S := (fun w' => Blk w' (b) 118 #[.func (.func 63) #[] #[]] ∧ w'.cell? ⟨ba, oa, none⟩ = some (.int .u64 z0))) (by kernel_rfl) ?_ (fun hHeld => ?_)
  · exact ⟨KB', TT⟩
  replace KC := KC'
  clear KC'
  replace KB := KB'
  clear KB'
  replace BX : Below 0 w w.drew := BX.drew
  replace GR := chg_drew GR
  replace TT := TT
  replace TT : w.drew.cell? ⟨ba, oa, none⟩ = some (.int .u64 z0) := TT
  generalize w.drew = X0 at *
  refine wpAnyH_take (i := 0) (v := .func (.func 63) #[] #[]) rfl (by kernel_rfl) (by kernel_rfl) (by kernel_rfl) (fun _ _ _ h => h) (Or.inl ⟨by first | rfl | go_simp, by intro w9 hSw; (try dsimp only at hSw); have c9 := hSw.1.cell 0; clear hSw; go_simp⟩) (by assumption) ?_
  simp only [List.getElem_toArray, List.getElem_cons_zero, List.getElem_cons_succ, Act.put, List.setIfInBounds_toArray, List.set_cons_zero, List.set_cons_succ]
  refine wpAnyH_take (i := 1) (v := .pointer (some ⟨g, 0, none⟩)) rfl (by kernel_rfl) (by kernel_rfl) (by kernel_rfl) (fun _ _ _ h => h) (Or.inl ⟨by first | rfl | go_simp, by intro w9 hSw; (try dsimp only at hSw); go_simp⟩) (by assumption) ?_
  simp only [List.getElem_toArray, List.getElem_cons_zero, List.getElem_cons_succ, Act.put, List.setIfInBounds_toArray, List.set_cons_zero, List.set_cons_succ]
  refine wpAnyH_take (i := 3) (v := .slice (some ⟨ba, oa, none⟩) 1 cc) rfl (by kernel_rfl) (by kernel_rfl) (by kernel_rfl) (fun _ _ _ h => h) (Or.inl ⟨by first | rfl | go_simp, by intro w9 hSw; (try dsimp only at hSw); go_simp⟩) (by assumption) ?_
  simp only [List.getElem_toArray, List.getElem_cons_zero, List.getElem_cons_succ, Act.put, List.setIfInBounds_toArray, List.set_cons_zero, List.set_cons_succ]
  refine wpAnyH_take (i := 4) (v := .pointer (some ⟨ba, oa, none⟩)) rfl (by kernel_rfl) (by kernel_rfl) (by kernel_rfl) (fun _ _ _ h => h) (Or.inl ⟨by first | rfl | go_simp, by intro w9 hSw; (try dsimp only at hSw); go_simp⟩) (by assumption) ?_
  simp only [List.getElem_toArray, List.getElem_cons_zero, List.getElem_cons_succ, Act.put, List.setIfInBounds_toArray, List.set_cons_zero, List.set_cons_succ]
  refine wpAnyH_take (i := 5) (v := .int .u64 z0) rfl (by kernel_rfl) (by kernel_rfl) (by kernel_rfl) (fun _ _ _ h => h) (Or.inl ⟨by first | rfl | go_simp, by intro w9 hSw; (try dsimp only at hSw); go_simp⟩) (by assumption) ?_
  simp only [List.getElem_toArray, List.getElem_cons_zero, List.getElem_cons_succ, Act.put, List.setIfInBounds_toArray, List.set_cons_zero, List.set_cons_succ]
  refine wpAnyH_take (i := 6) (v := .int .i64 (IntKind.i64.wrap z0)) rfl (by kernel_rfl) (by kernel_rfl) (by kernel_rfl) (fun _ _ _ h => h) (Or.inl ⟨by first | rfl | go_simp, by intro w9 hSw; (try dsimp only at hSw); go_simp⟩) (by assumption) ?_
  simp only [List.getElem_toArray, List.getElem_cons_zero, List.getElem_cons_succ, Act.put, List.setIfInBounds_toArray, List.set_cons_zero, List.set_cons_succ]
  refine wpAnyH_ready (rs := [2]) (by kernel_rfl) (by simp) ?_
  refine AllReadyH.cons rfl (fun K hK => ?_) (AllReadyH.nil)
  go_simp
  refine (fld_rs.2 _ _).mono ?_
  rintro e w9 ⟨rfl, rfl⟩
  refine hK.out _ _ ⟨KB, TT⟩ (fun hHeld => ?_)
  clear hK K
  try simp only [List.getElem_toArray, List.getElem_cons_zero, List.getElem_cons_succ, Act.put, List.setIfInBounds_toArray, List.set_cons_zero, List.set_cons_succ]
  refine wpAnyH_take (i := 7) (v := .pointer (some ⟨g, 8, none⟩)) rfl (by kernel_rfl) (by kernel_rfl) (by kernel_rfl) (fun _ _ _ h => h) (Or.inl ⟨by first | rfl | go_simp, by intro w9 hSw; (try dsimp only at hSw); go_simp⟩) (by assumption) ?_
  simp only [List.getElem_toArray, List.getElem_cons_zero, List.getElem_cons_succ, Act.put, List.setIfInBounds_toArray, List.set_cons_zero, List.set_cons_succ]
  refine wpAnyH_ready (rs := [8]) (by kernel_rfl) (by simp) ?_
  refine AllReadyH.cons rfl (fun K hK => ?_) (AllReadyH.nil)
  refine Av.step_store_cell rfl _ _ _ rfl (g) 8 (.int .i64 (IntKind.i64.wrap z0)) rfl rfl 57 _ KC (by show 8 < 15; decide) (by kernel_rfl) rfl ?_
  replace GR := (chg_cell GR 8 (.int .i64 (IntKind.i64.wrap z0)))
  replace TT := (far_cell TT hne 8 (.int .i64 (IntKind.i64.wrap z0)))
  replace KC : Blk (X0.setCell ⟨g, 8, none⟩ (.int .i64 (IntKind.i64.wrap z0))) (g) 57 #[.int .i64 c.k, .int .i64 c.ws, .int .i64 c.wo, .int .i64 c.it, .int .i64 c.la, .int .i64 c.ti, .int .u64 (c.m : Int), .int .u16 c.ins, .int .i64 (IntKind.i64.wrap z0), .int .i64 c.rj, .int .u64 c.st, .int .u64 c.mr, .int .u64 c.ft, .int .i64 c.vs, .int .i64 c.ln] := (Av.bset KC 8 (.int .i64 (IntKind.i64.wrap z0)) rfl)
  replace KB : Blk (X0.setCell ⟨g, 8, none⟩ (.int .i64 (IntKind.i64.wrap z0))) (b) 118 #[.func (.func 63) #[] #[]] := Av.bother (KB) (by omega) _
  replace BX : Below 0 w (X0.setCell ⟨g, 8, none⟩ (.int .i64 (IntKind.i64.wrap z0))) := (BX.setCell (p := ⟨g, 8, none⟩) (by simp only; omega) _)
  generalize (X0.setCell ⟨g, 8, none⟩ (.int .i64 (IntKind.i64.wrap z0))) = X2 at *
  refine hK.out _ _ ⟨KB, TT⟩ (fun hHeld => ?_)
  clear hK K
  try simp only [List.getElem_toArray, List.getElem_cons_zero, List.getElem_cons_succ, Act.put, List.setIfInBounds_toArray, List.set_cons_zero, List.set_cons_succ]
  refine wpAnyH_done (by kernel_rfl) ?_ _
  clear hHeld
  go_wp2_with fail
  refine bodyPost_end (results_none rfl _ _ _) rfl ?_
  exact ⟨⟨_, rfl⟩, KC, GR⟩
set_option maxRecDepth 100000 in
set_option maxHeartbeats 4000000 in
theorem set_rj (c : Ct) (z0 : Int) (g b ba oa cc : Nat) (w : World) (KC : Blk w g 57 (encC c)) (KB : Blk w b 118 #[.func (.func 64) #[] #[]]) (hne : ba ≠ g) (hr : Ints .u64 w w.heap.size (some ⟨ba, oa, none⟩) [z0]) :
    Calls Try.prog 83 #[.pointer (some ⟨g, 0, none⟩), .slice (some ⟨ba, oa, none⟩) 1 cc, .pointer (some ⟨b, 0, none⟩)] w fun e w' => Sets w w' e g (setP .rj c [z0]) := by
  obtain ⟨b9, o9, e9, hb9, hc9⟩ : ∃ b' o', (some ⟨ba, oa, none⟩ : Option Addr) = some ⟨b', o', none⟩ ∧ b' < w.heap.size ∧ ∀ j, j < 1 → w.cell? ⟨b', o' + j, none⟩ = some (.int .u64 ([z0].getD j 0)) := by
    rcases hr with h | ⟨b', o', e, hb, hc⟩
    · cases h
    · exact ⟨b', o', e, hb, hc⟩
  obtain ⟨rfl, rfl⟩ : ba = b9 ∧ oa = o9 := by injection e9 with e9; injection e9 with h1 h2; exact ⟨h1, h2⟩
  have TT : w.cell? ⟨ba, oa, none⟩ = some (.int .u64 z0) := hc9 0 (by decide)
  clear hc9 hr e9 hb9
  have hgb : b ≠ g := by
    rintro rfl
    unfold Blk at KC KB
    rw [KB] at KC
    injection KC with KC
    injection KC with _ KC
    exact absurd KC (by decide)
  have GR := chg_refl w (some g)
  have BX : Below 0 w w := Below.refl _ _
  show Calls _ _ _ _ fun e w' => (∃ v, e = .returned v) ∧ Blk w' g 57 #[.int .i64 c.k, .int .i64 c.ws, .int .i64 c.wo, .int .i64 c.it, .int .i64 c.la, .int .i64 c.ti, .int .u64 (c.m : Int), .int .u16 c.ins, .int .i64 c.rs, .int .i64 (IntKind.i64.wrap z0), .int .u64 c.st, .int .u64 c.mr, .int .u64 c.ft, .int .i64 c.vs, .int .i64 c.ln] ∧ w.grownBy w' (some g)
  replace KC : Blk w g 57 #[.int .i64 c.k, .int .i64 c.ws, .int .i64 c.wo, .int .i64 c.it, .int .i64 c.la, .int .i64 c.ti, .int .u64 (c.m : Int), .int .u16 c.ins, .int .i64 c.rs, .int .i64 c.rj, .int .u64 c.st, .int .u64 c.mr, .int .u64 c.ft, .int .i64 c.vs, .int .i64 c.ln] := KC
  go_enter Try.func83, Try.ntmps83
  go_upto_region 0 with (fail)
  have KC' : Blk w.drew (g) 57 #[.int .i64 c.k, .int .i64 c.ws, .int .i64 c.wo, .int .i64 c.it, .int .i64 c.la, .int .i64 c.ti, .int .u64 (c.m : Int), .int .u16 c.ins, .int .i64 c.rs, .int .i64 c.rj, .int .u64 c.st, .int .u64 c.mr, .int .u64 c.ft, .int .i64 c.vs, .int .i64 c.ln] := Mem.Blk.drew KC
  have KB' : Blk w.drew (b) 118 #[.func (.func 64) #[] #[]] := Mem.Blk.drew KB
  refine wp_region_held_drew (S := (fun w' => Blk w' (b) 118 #[.func (.func 64) #[] #[]] ∧ w'.cell? ⟨ba, oa, none⟩ = some (.int .u64 z0))) (by kernel_rfl) ?_ (fun hHeld => ?_)
  · exact ⟨KB', TT⟩
  replace KC := KC'
  clear KC'
  replace KB := KB'
  clear KB'
  replace BX : Below 0 w w.drew := BX.drew
  replace GR := chg_drew GR
  replace TT := TT
  replace TT : w.drew.cell? ⟨ba, oa, none⟩ = some (.int .u64 z0) := TT
  generalize w.drew = X0 at *
  refine wpAnyH_take (i := 0) (v := .func (.func 64) #[] #[]) rfl (by kernel_rfl) (by kernel_rfl) (by kernel_rfl) (fun _ _ _ h => h) (Or.inl ⟨by first | rfl | go_simp, by intro w9 hSw; (try dsimp only at hSw); have c9 := hSw.1.cell 0; clear hSw; go_simp⟩) (by assumption) ?_
  simp only [List.getElem_toArray, List.getElem_cons_zero, List.getElem_cons_succ, Act.put, List.setIfInBounds_toArray, List.set_cons_zero, List.set_cons_succ]
  refine wpAnyH_take (i := 1) (v := .pointer (some ⟨g, 0, none⟩)) rfl (by kernel_rfl) (by kernel_rfl) (by kernel_rfl) (fun _ _ _ h => h) (Or.inl ⟨by first | rfl | go_simp, by intro w9 hSw; (try dsimp only at hSw); go_simp⟩) (by assumption) ?_
  simp only [List.getElem_toArray, List.getElem_cons_zero, List.getElem_cons_succ, Act.put, List.setIfInBounds_toArray, List.set_cons_zero, List.set_cons_succ]
  refine wpAnyH_take (i := 3) (v := .slice (some ⟨ba, oa, none⟩) 1 cc) rfl (by kernel_rfl) (by kernel_rfl) (by kernel_rfl) (fun _ _ _ h => h) (Or.inl ⟨by first | rfl | go_simp, by intro w9 hSw; (try dsimp only at hSw); go_simp⟩) (by assumption) ?_
  simp only [List.getElem_toArray, List.getElem_cons_zero, List.getElem_cons_succ, Act.put, List.setIfInBounds_toArray, List.set_cons_zero, List.set_cons_succ]
  refine wpAnyH_take (i := 4) (v := .pointer (some ⟨ba, oa, none⟩)) rfl (by kernel_rfl) (by kernel_rfl) (by kernel_rfl) (fun _ _ _ h => h) (Or.inl ⟨by first | rfl | go_simp, by intro w9 hSw; (try dsimp only at hSw); go_simp⟩) (by assumption) ?_
  simp only [List.getElem_toArray, List.getElem_cons_zero, List.getElem_cons_succ, Act.put, List.setIfInBounds_toArray, List.set_cons_zero, List.set_cons_succ]
  refine wpAnyH_take (i := 5) (v := .int .u64 z0) rfl (by kernel_rfl) (by kernel_rfl) (by kernel_rfl) (fun _ _ _ h => h) (Or.inl ⟨by first | rfl | go_simp, by intro w9 hSw; (try dsimp only at hSw); go_simp⟩) (by assumption) ?_
  simp only [List.getElem_toArray, List.getElem_cons_zero, List.getElem_cons_succ, Act.put, List.setIfInBounds_toArray, List.set_cons_zero, List.set_cons_succ]
  refine wpAnyH_take (i := 6) (v := .int .i64 (IntKind.i64.wrap z0)) rfl (by kernel_rfl) (by kernel_rfl) (by kernel_rfl) (fun _ _ _ h => h) (Or.inl ⟨by first | rfl | go_simp, by intro w9 hSw; (try dsimp only at hSw); go_simp⟩) (by assumption) ?_
  simp only [List.getElem_toArray, List.getElem_cons_zero, List.getElem_cons_succ, Act.put, List.setIfInBounds_toArray, List.set_cons_zero, List.set_cons_succ]
  refine wpAnyH_ready (rs := [2]) (by kernel_rfl) (by simp) ?_
  refine AllReadyH.cons rfl (fun K hK => ?_) (AllReadyH.nil)
  go_simp
  refine (fld_rj.2 _ _).mono ?_
  rintro e w9 ⟨rfl, rfl⟩
  refine hK.out _ _ ⟨KB, TT⟩ (fun hHeld => ?_)
  clear hK K
  try simp only [List.getElem_toArray, List.getElem_cons_zero, List.getElem_cons_succ, Act.put, List.setIfInBounds_toArray, List.set_cons_zero, List.set_cons_succ]
  refine wpAnyH_take (i := 7) (v := .pointer (some ⟨g, 9, none⟩)) rfl (by kernel_rfl) (by kernel_rfl) (by kernel_rfl) (fun _ _ _ h => h) (Or.inl ⟨by first | rfl | go_simp, by intro w9 hSw; (try dsimp only at hSw); go_simp⟩) (by assumption) ?_
  simp only [List.getElem_toArray, List.getElem_cons_zero, List.getElem_cons_succ, Act.put, List.setIfInBounds_toArray, List.set_cons_zero, List.set_cons_succ]
  refine wpAnyH_ready (rs := [8]) (by kernel_rfl) (by simp) ?_
  refine AllReadyH.cons rfl (fun K hK => ?_) (AllReadyH.nil)
  refine Av.step_store_cell rfl _ _ _ rfl (g) 9 (.int .i64 (IntKind.i64.wrap z0)) rfl rfl 57 _ KC (by show 9 < 15; decide) (by kernel_rfl) rfl ?_
  replace GR := (chg_cell GR 9 (.int .i64 (IntKind.i64.wrap z0)))
  replace TT := (far_cell TT hne 9 (.int .i64 (IntKind.i64.wrap z0)))
  replace KC : Blk (X0.setCell ⟨g, 9, none⟩ (.int .i64 (IntKind.i64.wrap z0))) (g) 57 #[.int .i64 c.k, .int .i64 c.ws, .int .i64 c.wo, .int .i64 c.it, .int .i64 c.la, .int .i64 c.ti, .int .u64 (c.m : Int), .int .u16 c.ins, .int .i64 c.rs, .int .i64 (IntKind.i64.wrap z0), .int .u64 c.st, .int .u64 c.mr, .int .u64 c.ft, .int .i64 c.vs, .int .i64 c.ln] := (Av.bset KC 9 (.int .i64 (IntKind.i64.wrap z0)) rfl)
  replace KB : Blk (X0.setCell ⟨g, 9, none⟩ (.int .i64 (IntKind.i64.wrap z0))) (b) 118 #[.func (.func 64) #[] #[]] := Av.bother (KB) (by omega) _
  replace BX : Below 0 w (X0.setCell ⟨g, 9, none⟩ (.int .i64 (IntKind.i64.wrap z0))) := (BX.setCell (p := ⟨g, 9, none⟩) (by simp only; omega) _)
  generalize (X0.setCell ⟨g, 9, none⟩ (.int .i64 (IntKind.i64.wrap z0))) = X2 at *
  refine hK.out _ _ ⟨KB, TT⟩ (fun hHeld => ?_)
  clear hK K
  try simp only [List.getElem_toArray, List.getElem_cons_zero, List.getElem_cons_succ, Act.put, List.setIfInBounds_toArray, List.set_cons_zero, List.set_cons_succ]
  refine wpAnyH_done (by kernel_rfl) ?_ _
  clear hHeld
  go_wp2_with fail
  refine bodyPost_end (results_none rfl _ _ _) rfl ?_
  exact ⟨⟨_, rfl⟩, KC, GR⟩
set_option maxRecDepth 100000 in
set_option maxHeartbeats 4000000 in
theorem set_vs (c : Ct) (z0 : Int) (g b ba oa cc : Nat) (w : World) (KC : Blk w g 57 (encC c)) (KB : Blk w b 118 #[.func (.func 65) #[] #[]]) (hne : ba ≠ g) (hr : Ints .u64 w w.heap.size (some ⟨ba, oa, none⟩) [z0]) :
    Calls Try.prog 83 #[.pointer (some ⟨g, 0, none⟩), .slice (some ⟨ba, oa, none⟩) 1 cc, .pointer (some ⟨b, 0, none⟩)] w fun e w' => Sets w w' e g (setP .vs c [z0]) := by
  obtain ⟨b9, o9, e9, hb9, hc9⟩ : ∃ b' o', (some ⟨ba, oa, none⟩ : Option Addr) = some ⟨b', o', none⟩ ∧ b' < w.heap.size ∧ ∀ j, j < 1 → w.cell? ⟨b', o' + j, none⟩ = some (.int .u64 ([z0].getD j 0)) := by
    rcases hr with h | ⟨b', o', e, hb, hc⟩
    · cases h
    · exact ⟨b', o', e, hb, hc⟩
  obtain ⟨rfl, rfl⟩ : ba = b9 ∧ oa = o9 := by injection e9 with e9; injection e9 with h1 h2; exact ⟨h1, h2⟩
  have TT : w.cell? ⟨ba, oa, none⟩ = some (.int .u64 z0) := hc9 0 (by decide)
  clear hc9 hr e9 hb9
  have hgb : b ≠ g := by
    rintro rfl
    unfold Blk at KC KB
    rw [KB] at KC
    injection KC with KC
    injection KC with _ KC
    exact absurd KC (by decide)
  have GR := chg_refl w (some g)
  have BX : Below 0 w w := Below.refl _ _
  show Calls _ _ _ _ fun e w' => (∃ v, e = .returned v) ∧ Blk w' g 57 #[.int .i64 c.k, .int .i64 c.ws, .int .i64 c.wo, .int .i64 c.it, .int .i64 c.la, .int .i64 c.ti, .int .u64 (c.m : Int), .int .u16 c.ins, .int .i64 c.rs, .int .i64 c.rj, .int .u64 c.st, .int .u64 c.mr, .int .u64 c.ft, .int .i64 (IntKind.i64.wrap z0), .int .i64 c.ln] ∧ w.grownBy w' (some g)
  replace KC : Blk w g 57 #[.int .i64 c.k, .int .i64 c.ws, .int .i64 c.wo, .int .i64 c.it, .int .i64 c.la, .int .i64 c.ti, .int .u64 (c.m : Int), .int .u16 c.ins, .int .i64 c.rs, .int .i64 c.rj, .int .u64 c.st, .int .u64 c.mr, .int .u64 c.ft, .int .i64 c.vs, .int .i64 c.ln] := KC
  go_enter Try.func83, Try.ntmps83
  go_upto_region 0 with (fail)
  have KC' : Blk w.drew (g) 57 #[.int .i64 c.k, .int .i64 c.ws, .int .i64 c.wo, .int .i64 c.it, .int .i64 c.la, .int .i64 c.ti, .int .u64 (c.m : Int), .int .u16 c.ins, .int .i64 c.rs, .int .i64 c.rj, .int .u64 c.st, .int .u64 c.mr, .int .u64 c.ft, .int .i64 c.vs, .int .i64 c.ln] := Mem.Blk.drew KC
  have KB' : Blk w.drew (b) 118 #[.func (.func 65) #[] #[]] := Mem.Blk.drew KB
  refine wp_region_held_drew (S := (fun w' => Blk w' (b) 118 #[.func (.func 65) #[] #[]] ∧ w'.cell? ⟨ba, oa, none⟩ = some (.int .u64 z0))) (by kernel_rfl) ?_ (fun hHeld => ?_)
  · exact ⟨KB', TT⟩
  replace KC := KC'
  clear KC'
  replace KB := KB'
  clear KB'
  replace BX : Below 0 w w.drew := BX.drew
  replace GR := chg_drew GR
  replace TT := TT
  replace TT : w.drew.cell? ⟨ba, oa, none⟩ = some (.int .u64 z0) := TT
  generalize w.drew = X0 at *
  refine wpAnyH_take (i := 0) (v := .func (.func 65) #[] #[]) rfl (by kernel_rfl) (by kernel_rfl) (by kernel_rfl) (fun _ _ _ h => h) (Or.inl ⟨by first | rfl | go_simp, by intro w9 hSw; (try dsimp only at hSw); have c9 := hSw.1.cell 0; clear hSw; go_simp⟩) (by assumption) ?_
  simp only [List.getElem_toArray, List.getElem_cons_zero, List.getElem_cons_succ, Act.put, List.setIfInBounds_toArray, List.set_cons_zero, List.set_cons_succ]
  refine wpAnyH_take (i := 1) (v := .pointer (some ⟨g, 0, none⟩)) rfl (by kernel_rfl) (by kernel_rfl) (by kernel_rfl) (fun _ _ _ h => h) (Or.inl ⟨by first | rfl | go_simp, by intro w9 hSw; (try dsimp only at hSw); go_simp⟩) (by assumption) ?_
  simp only [List.getElem_toArray, List.getElem_cons_zero, List.getElem_cons_succ, Act.put, List.setIfInBounds_toArray, List.set_cons_zero, List.set_cons_succ]
  refine wpAnyH_take (i := 3) (v := .slice (some ⟨ba, oa, none⟩) 1 cc) rfl (by kernel_rfl) (by kernel_rfl) (by kernel_rfl) (fun _ _ _ h => h) (Or.inl ⟨by first | rfl | go_simp, by intro w9 hSw; (try dsimp only at hSw); go_simp⟩) (by assumption) ?_
  simp only [List.getElem_toArray, List.getElem_cons_zero, List.getElem_cons_succ, Act.put, List.setIfInBounds_toArray, List.set_cons_zero, List.set_cons_succ]
  refine wpAnyH_take (i := 4) (v := .pointer (some ⟨ba, oa, none⟩)) rfl (by kernel_rfl) (by kernel_rfl) (by kernel_rfl) (fun _ _ _ h => h) (Or.inl ⟨by first | rfl | go_simp, by intro w9 hSw; (try dsimp only at hSw); go_simp⟩) (by assumption) ?_
  simp only [List.getElem_toArray, List.getElem_cons_zero, List.getElem_cons_succ, Act.put, List.setIfInBounds_toArray, List.set_cons_zero, List.set_cons_succ]
  refine wpAnyH_take (i := 5) (v := .int .u64 z0) rfl (by kernel_rfl) (by kernel_rfl) (by kernel_rfl) (fun _ _ _ h => h) (Or.inl ⟨by first | rfl | go_simp, by intro w9 hSw; (try dsimp only at hSw); go_simp⟩) (by assumption) ?_
  simp only [List.getElem_toArray, List.getElem_cons_zero, List.getElem_cons_succ, Act.put, List.setIfInBounds_toArray, List.set_cons_zero, List.set_cons_succ]
  refine wpAnyH_take (i := 6) (v := .int .i64 (IntKind.i64.wrap z0)) rfl (by kernel_rfl) (by kernel_rfl) (by kernel_rfl) (fun _ _ _ h => h) (Or.inl ⟨by first | rfl | go_simp, by intro w9 hSw; (try dsimp only at hSw); go_simp⟩) (by assumption) ?_
  simp only [List.getElem_toArray, List.getElem_cons_zero, List.getElem_cons_succ, Act.put, List.setIfInBounds_toArray, List.set_cons_zero, List.set_cons_succ]
  refine wpAnyH_ready (rs := [2]) (by kernel_rfl) (by simp) ?_
  refine AllReadyH.cons rfl (fun K hK => ?_) (AllReadyH.nil)
  go_simp
  refine (fld_vs.2 _ _).mono ?_
  rintro e w9 ⟨rfl, rfl⟩
  refine hK.out _ _ ⟨KB, TT⟩ (fun hHeld => ?_)
  clear hK K
  try simp only [List.getElem_toArray, List.getElem_cons_zero, List.getElem_cons_succ, Act.put, List.setIfInBounds_toArray, List.set_cons_zero, List.set_cons_succ]
  refine wpAnyH_take (i := 7) (v := .pointer (some ⟨g, 13, none⟩)) rfl (by kernel_rfl) (by kernel_rfl) (by kernel_rfl) (fun _ _ _ h => h) (Or.inl ⟨by first | rfl | go_simp, by intro w9 hSw; (try dsimp only at hSw); go_simp⟩) (by assumption) ?_
  simp only [List.getElem_toArray, List.getElem_cons_zero, List.getElem_cons_succ, Act.put, List.setIfInBounds_toArray, List.set_cons_zero, List.set_cons_succ]
  refine wpAnyH_ready (rs := [8]) (by kernel_rfl) (by simp) ?_
  refine AllReadyH.cons rfl (fun K hK => ?_) (AllReadyH.nil)
  refine Av.step_store_cell rfl _ _ _ rfl (g) 13 (.int .i64 (IntKind.i64.wrap z0)) rfl rfl 57 _ KC (by show 13 < 15; decide) (by kernel_rfl) rfl ?_
  replace GR := (chg_cell GR 13 (.int .i64 (IntKind.i64.wrap z0)))
  replace TT := (far_cell TT hne 13 (.int .i64 (IntKind.i64.wrap z0)))
  replace KC : Blk (X0.setCell ⟨g, 13, none⟩ (.int .i64 (IntKind.i64.wrap z0))) (g) 57 #[.int .i64 c.k, .int .i64 c.ws, .int .i64 c.wo, .int .i64 c.it, .int .i64 c.la, .int .i64 c.ti, .int .u64 (c.m : Int), .int .u16 c.ins, .int .i64 c.rs, .int .i64 c.rj, .int .u64 c.st, .int .u64 c.mr, .int .u64 c.ft, .int .i64 (IntKind.i64.wrap z0), .int .i64 c.ln] := (Av.bset KC 13 (.int .i64 (IntKind.i64.wrap z0)) rfl)
  replace KB : Blk (X0.setCell ⟨g, 13, none⟩ (.int .i64 (IntKind.i64.wrap z0))) (b) 118 #[.func (.func 65) #[] #[]] := Av.bother (KB) (by omega) _
  replace BX : Below 0 w (X0.setCell ⟨g, 13, none⟩ (.int .i64 (IntKind.i64.wrap z0))) := (BX.setCell (p := ⟨g, 13, none⟩) (by simp only; omega) _)
  generalize (X0.setCell ⟨g, 13, none⟩ (.int .i64 (IntKind.i64.wrap z0))) = X2 at *
  refine hK.out _ _ ⟨KB, TT⟩ (fun hHeld => ?_)
  clear hK K
  try simp only [List.getElem_toArray, List.getElem_cons_zero, List.getElem_cons_succ, Act.put, List.setIfInBounds_toArray, List.set_cons_zero, List.set_cons_succ]
  refine wpAnyH_done (by kernel_rfl) ?_ _
  clear hHeld
  go_wp2_with fail
  refine bodyPost_end (results_none rfl _ _ _) rfl ?_
  exact ⟨⟨_, rfl⟩, KC, GR⟩
set_option maxRecDepth 100000 in
set_option maxHeartbeats 4000000 in
theorem set_ln (c : Ct) (z0 : Int) (g b ba oa cc : Nat) (w : World) (KC : Blk w g 57 (encC c)) (KB : Blk w b 118 #[.func (.func 66) #[] #[]]) (hne : ba ≠ g) (hr : Ints .u64 w w.heap.size (some ⟨ba, oa, none⟩) [z0]) :
    Calls Try.prog 83 #[.pointer (some ⟨g, 0, none⟩), .slice (some ⟨ba, oa, none⟩) 1 cc, .pointer (some ⟨b, 0, none⟩)] w fun e w' => Sets w w' e g (setP .ln c [z0]) := by
  obtain ⟨b9, o9, e9, hb9, hc9⟩ : ∃ b' o', (some ⟨ba, oa, none⟩ : Option Addr) = some ⟨b', o', none⟩ ∧ b' < w.heap.size ∧ ∀ j, j < 1 → w.cell? ⟨b', o' + j, none⟩ = some (.int .u64 ([z0].getD j 0)) := by
    rcases hr with h | ⟨b', o', e, hb, hc⟩
    · cases h
    · exact ⟨b', o', e, hb, hc⟩
  obtain ⟨rfl, rfl⟩ : ba = b9 ∧ oa = o9 := by injection e9 with e9; injection e9 with h1 h2; exact ⟨h1, h2⟩
  have TT : w.cell? ⟨ba, oa, none⟩ = some (.int .u64 z0) := hc9 0 (by decide)
  clear hc9 hr e9 hb9
  have hgb : b ≠ g := by
    rintro rfl
    unfold Blk at KC KB
    rw [KB] at KC
    injection KC with KC
    injection KC with _ KC
    exact absurd KC (by decide)
  have GR := chg_refl w (some g)
  have BX : Below 0 w w := Below.refl _ _
  show Calls _ _ _ _ fun e w' => (∃ v, e = .returned v) ∧ Blk w' g 57 #[.int .i64 c.k, .int .i64 c.ws, .int .i64 c.wo, .int .i64 c.it, .int .i64 c.la, .int .i64 c.ti, .int .u64 (c.m : Int), .int .u16 c.ins, .int .i64 c.rs, .int .i64 c.rj, .int .u64 c.st, .int .u64 c.mr, .int .u64 c.ft, .int .i64 c.vs, .int .i64 (IntKind.i64.wrap z0)] ∧ w.grownBy w' (some g)
  replace KC : Blk w g 57 #[.int .i64 c.k, .int .i64 c.ws, .int .i64 c.wo, .int .i64 c.it, .int .i64 c.la, .int .i64 c.ti, .int .u64 (c.m : Int), .int .u16 c.ins, .int .i64 c.rs, .int .i64 c.rj, .int .u64 c.st, .int .u64 c.mr, .int .u64 c.ft, .int .i64 c.vs, .int .i64 c.ln] := KC
  go_enter Try.func83, Try.ntmps83
  go_upto_region 0 with (fail)
  have KC' : Blk w.drew (g) 57 #[.int .i64 c.k, .int .i64 c.ws, .int .i64 c.wo, .int .i64 c.it, .int .i64 c.la, .int .i64 c.ti, .int .u64 (c.m : Int), .int .u16 c.ins, .int .i64 c.rs, .int .i64 c.rj, .int .u64 c.st, .int .u64 c.mr, .int .u64 c.ft, .int .i64 c.vs, .int .i64 c.ln] := Mem.Blk.drew KC
  have KB' : Blk w.drew (b) 118 #[.func (.func 66) #[] #[]] := Mem.Blk.drew KB
  refine wp_region_held_drew (S := (fun w' => Blk w' (b) 118 #[.func (.func 66) #[] #[]] ∧ w'.cell? ⟨ba, oa, none⟩ = some (.int .u64 z0))) (by kernel_rfl) ?_ (fun hHeld => ?_)
  · exact ⟨KB', TT⟩
  replace KC := KC'
  clear KC'
  replace KB := KB'
  clear KB'
  replace BX : Below 0 w w.drew := BX.drew
  replace GR := chg_drew GR
  replace TT := TT
  replace TT : w.drew.cell? ⟨ba, oa, none⟩ = some (.int .u64 z0) := TT
  generalize w.drew = X0 at *
  refine wpAnyH_take (i := 0) (v := .func (.func 66) #[] #[]) rfl (by kernel_rfl) (by kernel_rfl) (by kernel_rfl) (fun _ _ _ h => h) (Or.inl ⟨by first | rfl | go_simp, by intro w9 hSw; (try dsimp only at hSw); have c9 := hSw.1.cell 0; clear hSw; go_simp⟩) (by assumption) ?_
  simp only [List.getElem_toArray, List.getElem_cons_zero, List.getElem_cons_succ, Act.put, List.setIfInBounds_toArray, List.set_cons_zero, List.set_cons_succ]
  refine wpAnyH_take (i := 1) (v := .pointer (some ⟨g, 0, none⟩)) rfl (by kernel_rfl) (by kernel_rfl) (by kernel_rfl) (fun _ _ _ h => h) (Or.inl ⟨by first | rfl | go_simp, by intro w9 hSw; (try dsimp only at hSw); go_simp⟩) (by assumption) ?_
  simp only [List.getElem_toArray, List.getElem_cons_zero, List.getElem_cons_succ, Act.put, List.setIfInBounds_toArray, List.set_cons_zero, List.set_cons_succ]
  refine wpAnyH_take (i := 3) (v := .slice (some ⟨ba, oa, none⟩) 1 cc) rfl (by kernel_rfl) (by kernel_rfl) (by kernel_rfl) (fun _ _ _ h => h) (Or.inl ⟨by first | rfl | go_simp, by intro w9 hSw; (try dsimp only at hSw); go_simp⟩) (by assumption) ?_
  simp only [List.getElem_toArray, List.getElem_cons_zero, List.getElem_cons_succ, Act.put, List.setIfInBounds_toArray, List.set_cons_zero, List.set_cons_succ]
  refine wpAnyH_take (i := 4) (v := .pointer (some ⟨ba, oa, none⟩)) rfl (by kernel_rfl) (by kernel_rfl) (by kernel_rfl) (fun _ _ _ h => h) (Or.inl ⟨by first | rfl | go_simp, by intro w9 hSw; (try dsimp only at hSw); go_simp⟩) (by assumption) ?_
  simp only [List.getElem_toArray, List.getElem_cons_zero, List.getElem_cons_succ, Act.put, List.setIfInBounds_toArray, List.set_cons_zero, List.set_cons_succ]
  refine wpAnyH_take (i := 5) (v := .int .u64 z0) rfl (by kernel_rfl) (by kernel_rfl) (by kernel_rfl) (fun _ _ _ h => h) (Or.inl ⟨by first | rfl | go_simp, by intro w9 hSw; (try dsimp only at hSw); go_simp⟩) (by assumption) ?_
  simp only [List.getElem_toArray, List.getElem_cons_zero, List.getElem_cons_succ, Act.put, List.setIfInBounds_toArray, List.set_cons_zero, List.set_cons_succ]
  refine wpAnyH_take (i := 6) (v := .int .i64 (IntKind.i64.wrap z0)) rfl (by kernel_rfl) (by kernel_rfl) (by kernel_rfl) (fun _ _ _ h => h) (Or.inl ⟨by first | rfl | go_simp, by intro w9 hSw; (try dsimp only at hSw); go_simp⟩) (by assumption) ?_
  simp only [List.getElem_toArray, List.getElem_cons_zero, List.getElem_cons_succ, Act.put, List.setIfInBounds_toArray, List.set_cons_zero, List.set_cons_succ]
  refine wpAnyH_ready (rs := [2]) (by kernel_rfl) (by simp) ?_
  refine AllReadyH.cons rfl (fun K hK => ?_) (AllReadyH.nil)
  go_simp
  refine (fld_ln.2 _ _).mono ?_
  rintro e w9 ⟨rfl, rfl⟩
  refine hK.out _ _ ⟨KB, TT⟩ (fun hHeld => ?_)
  clear hK K
  try simp only [List.getElem_toArray, List.getElem_cons_zero, List.getElem_cons_succ, Act.put, List.setIfInBounds_toArray, List.set_cons_zero, List.set_cons_succ]
  refine wpAnyH_take (i := 7) (v := .pointer (some ⟨g, 14, none⟩)) rfl (by kernel_rfl) (by kernel_rfl) (by kernel_rfl) (fun _ _ _ h => h) (Or.inl ⟨by first | rfl | go_simp, by intro w9 hSw; (try dsimp only at hSw); go_simp⟩) (by assumption) ?_
  simp only [List.getElem_toArray, List.getElem_cons_zero, List.getElem_cons_succ, Act.put, List.setIfInBounds_toArray, List.set_cons_zero, List.set_cons_succ]
  refine wpAnyH_ready (rs := [8]) (by kernel_rfl) (by simp) ?_
  refine AllReadyH.cons rfl (fun K hK => ?_) (AllReadyH.nil)
  refine Av.step_store_cell rfl _ _ _ rfl (g) 14 (.int .i64 (IntKind.i64.wrap z0)) rfl rfl 57 _ KC (by show 14 < 15; decide) (by kernel_rfl) rfl ?_
  replace GR := (chg_cell GR 14 (.int .i64 (IntKind.i64.wrap z0)))
  replace TT := (far_cell TT hne 14 (.int .i64 (IntKind.i64.wrap z0)))
  replace KC : Blk (X0.setCell ⟨g, 14, none⟩ (.int .i64 (IntKind.i64.wrap z0))) (g) 57 #[.int .i64 c.k, .int .i64 c.ws, .int .i64 c.wo, .int .i64 c.it, .int .i64 c.la, .int .i64 c.ti, .int .u64 (c.m : Int), .int .u16 c.ins, .int .i64 c.rs, .int .i64 c.rj, .int .u64 c.st, .int .u64 c.mr, .int .u64 c.ft, .int .i64 c.vs, .int .i64 (IntKind.i64.wrap z0)] := (Av.bset KC 14 (.int .i64 (IntKind.i64.wrap z0)) rfl)
  replace KB : Blk (X0.setCell ⟨g, 14, none⟩ (.int .i64 (IntKind.i64.wrap z0))) (b) 118 #[.func (.func 66) #[] #[]] := Av.bother (KB) (by omega) _
  replace BX : Below 0 w (X0.setCell ⟨g, 14, none⟩ (.int .i64 (IntKind.i64.wrap z0))) := (BX.setCell (p := ⟨g, 14, none⟩) (by simp only; omega) _)
  generalize (X0.setCell ⟨g, 14, none⟩ (.int .i64 (IntKind.i64.wrap z0))) = X2 at *
  refine hK.out _ _ ⟨KB, TT⟩ (fun hHeld => ?_)
  clear hK K
  try simp only [List.getElem_toArray, List.getElem_cons_zero, List.getElem_cons_succ, Act.put, List.setIfInBounds_toArray, List.set_cons_zero, List.set_cons_succ]
  refine wpAnyH_done (by kernel_rfl) ?_ _
  clear hHeld
  go_wp2_with fail
  refine bodyPost_end (results_none rfl _ _ _) rfl ?_
  exact ⟨⟨_, rfl⟩, KC, GR⟩
set_option maxRecDepth 100000 in
set_option maxHeartbeats 4000000 in
theorem set_sa (c : Ct) (z0 : Int) (g b ba oa cc : Nat) (w : World) (KC : Blk w g 57 (encC c)) (KB : Blk w b 121 #[.func (.func 68) #[] #[]]) (hne : ba ≠ g) (hr : Ints .u64 w w.heap.size (some ⟨ba, oa, none⟩) [z0]) :
    Calls Try.prog 86 #[.pointer (some ⟨g, 0, none⟩), .slice (some ⟨ba, oa, none⟩) 1 cc, .pointer (some ⟨b, 0, none⟩)] w fun e w' => Sets w w' e g (setP .sa c [z0]) := by
  obtain ⟨b9, o9, e9, hb9, hc9⟩ : ∃ b' o', (some ⟨ba, oa, none⟩ : Option Addr) = some ⟨b', o', none⟩ ∧ b' < w.heap.size ∧ ∀ j, j < 1 → w.cell? ⟨b', o' + j, none⟩ = some (.int .u64 ([z0].getD j 0)) := by
    rcases hr with h | ⟨b', o', e, hb, hc⟩
    · cases h
    · exact ⟨b', o', e, hb, hc⟩
  obtain ⟨rfl, rfl⟩ : ba = b9 ∧ oa = o9 := by injection e9 with e9; injection e9 with h1 h2; exact ⟨h1, h2⟩
  have TT : w.cell? ⟨ba, oa, none⟩ = some (.int .u64 z0) := hc9 0 (by decide)
  clear hc9 hr e9 hb9
  have hgb : b ≠ g := by
    rintro rfl
    unfold Blk at KC KB
    rw [KB] at KC
    injection KC with KC
    injection KC with _ KC
    exact absurd KC (by decide)
  have GR := chg_refl w (some g)
  have BX : Below 0 w w := Below.refl _ _
  show Calls _ _ _ _ fun e w' => (∃ v, e = .returned v) ∧ Blk w' g 57 #[.int .i64 c.k, .int .i64 c.ws, .int .i64 c.wo, .int .i64 c.it, .int .i64 c.la, .int .i64 c.ti, .int .u64 (c.m : Int), .int .u16 c.ins, .int .i64 c.rs, .int .i64 c.rj, .int .u64 z0, .int .u64 c.mr, .int .u64 c.ft, .int .i64 c.vs, .int .i64 c.ln] ∧ w.grownBy w' (some g)
  replace KC : Blk w g 57 #[.int .i64 c.k, .int .i64 c.ws, .int .i64 c.wo, .int .i64 c.it, .int .i64 c.la, .int .i64 c.ti, .int .u64 (c.m : Int), .int .u16 c.ins, .int .i64 c.rs, .int .i64 c.rj, .int .u64 c.st, .int .u64 c.mr, .int .u64 c.ft, .int .i64 c.vs, .int .i64 c.ln] := KC
  go_enter Try.func86, Try.ntmps86
  go_upto_region 0 with (fail)
  have KC' : Blk w.drew (g) 57 #[.int .i64 c.k, .int .i64 c.ws, .int .i64 c.wo, .int .i64 c.it, .int .i64 c.la, .int .i64 c.ti, .int .u64 (c.m : Int), .int .u16 c.ins, .int .i64 c.rs, .int .i64 c.rj, .int .u64 c.st, .int .u64 c.mr, .int .u64 c.ft, .int .i64 c.vs, .int .i64 c.ln] := Mem.Blk.drew KC
  have KB' : Blk w.drew (b) 121 #[.func (.func 68) #[] #[]] := Mem.Blk.drew KB
  refine wp_region_held_drew (S := (fun w' => Blk w' (b) 121 #[.func (.func 68) #[] #[]] ∧ w'.cell? ⟨ba, oa, none⟩ = some (.int .u64 z0))) (by kernel_rfl) ?_ (fun hHeld => ?_)
  · exact ⟨KB', TT⟩
  replace KC := KC'
  clear KC'
  replace KB := KB'
  clear KB'
  replace BX : Below 0 w w.drew := BX.drew
  replace GR := chg_drew GR
  replace TT := TT
  replace TT : w.drew.cell? ⟨ba, oa, none⟩ = some (.int .u64 z0) := TT
  generalize w.drew = X0 at *
  refine wpAnyH_take (i := 0) (v := .func (.func 68) #[] #[]) rfl (by kernel_rfl) (by kernel_rfl) (by kernel_rfl) (fun _ _ _ h => h) (Or.inl ⟨by first | rfl | go_simp, by intro w9 hSw; (try dsimp only at hSw); have c9 := hSw.1.cell 0; clear hSw; go_simp⟩) (by assumption) ?_
  simp only [List.getElem_toArray, List.getElem_cons_zero, List.getElem_cons_succ, Act.put, List.setIfInBounds_toArray, List.set_cons_zero, List.set_cons_succ]
  refine wpAnyH_take (i := 1) (v := .pointer (some ⟨g, 0, none⟩)) rfl (by kernel_rfl) (by kernel_rfl) (by kernel_rfl) (fun _ _ _ h => h) (Or.inl ⟨by first | rfl | go_simp, by intro w9 hSw; (try dsimp only at hSw); go_simp⟩) (by assumption) ?_
  simp only [List.getElem_toArray, List.getElem_cons_zero, List.getElem_cons_succ, Act.put, List.setIfInBounds_toArray, List.set_cons_zero, List.set_cons_succ]
  refine wpAnyH_take (i := 3) (v := .slice (some ⟨ba, oa, none⟩) 1 cc) rfl (by kernel_rfl) (by kernel_rfl) (by kernel_rfl) (fun _ _ _ h => h) (Or.inl ⟨by first | rfl | go_simp, by intro w9 hSw; (try dsimp only at hSw); go_simp⟩) (by assumption) ?_
  simp only [List.getElem_toArray, List.getElem_cons_zero, List.getElem_cons_succ, Act.put, List.setIfInBounds_toArray, List.set_cons_zero, List.set_cons_succ]
  refine wpAnyH_take (i := 4) (v := .pointer (some ⟨ba, oa, none⟩)) rfl (by kernel_rfl) (by kernel_rfl) (by kernel_rfl) (fun _ _ _ h => h) (Or.inl ⟨by first | rfl | go_simp, by intro w9 hSw; (try dsimp only at hSw); go_simp⟩) (by assumption) ?_
  simp only [List.getElem_toArray, List.getElem_cons_zero, List.getElem_cons_succ, Act.put, List.setIfInBounds_toArray, List.set_cons_zero, List.set_cons_succ]
  refine wpAnyH_take (i := 5) (v := .int .u64 z0) rfl (by kernel_rfl) (by kernel_rfl) (by kernel_rfl) (fun _ _ _ h => h) (Or.inl ⟨by first | rfl | go_simp, by intro w9 hSw; (try dsimp only at hSw); go_simp⟩) (by assumption) ?_
  simp only [List.getElem_toArray, List.getElem_cons_zero, List.getElem_cons_succ, Act.put, List.setIfInBounds_toArray, List.set_cons_zero, List.set_cons_succ]
  refine wpAnyH_ready (rs := [2]) (by kernel_rfl) (by simp) ?_
  refine AllReadyH.cons rfl (fun K hK => ?_) (AllReadyH.nil)
  go_simp
  refine (fld_sa.2 _ _).mono ?_
  rintro e w9 ⟨rfl, rfl⟩
  refine hK.out _ _ ⟨KB, TT⟩ (fun hHeld => ?_)
  clear hK K
  try simp only [List.getElem_toArray, List.getElem_cons_zero, List.getElem_cons_succ, Act.put, List.setIfInBounds_toArray, List.set_cons_zero, List.set_cons_succ]
  refine wpAnyH_take (i := 6) (v := .pointer (some ⟨g, 10, none⟩)) rfl (by kernel_rfl) (by kernel_rfl) (by kernel_rfl) (fun _ _ _ h => h) (Or.inl ⟨by first | rfl | go_simp, by intro w9 hSw; (try dsimp only at hSw); go_simp⟩) (by assumption) ?_
  simp only [List.getElem_toArray, List.getElem_cons_zero, List.getElem_cons_succ, Act.put, List.setIfInBounds_toArray, List.set_cons_zero, List.set_cons_succ]
  refine wpAnyH_ready (rs := [7]) (by kernel_rfl) (by simp) ?_
  refine AllReadyH.cons rfl (fun K hK => ?_) (AllReadyH.nil)
  refine Av.step_store_cell rfl _ _ _ rfl (g) 10 (.int .u64 z0) rfl rfl 57 _ KC (by show 10 < 15; decide) (by kernel_rfl) rfl ?_
  replace GR := (chg_cell GR 10 (.int .u64 z0))
  replace TT := (far_cell TT hne 10 (.int .u64 z0))
  replace KC : Blk (X0.setCell ⟨g, 10, none⟩ (.int .u64 z0)) (g) 57 #[.int .i64 c.k, .int .i64 c.ws, .int .i64 c.wo, .int .i64 c.it, .int .i64 c.la, .int .i64 c.ti, .int .u64 (c.m : Int), .int .u16 c.ins, .int .i64 c.rs, .int .i64 c.rj, .int .u64 z0, .int .u64 c.mr, .int .u64 c.ft, .int .i64 c.vs, .int .i64 c.ln] := (Av.bset KC 10 (.int .u64 z0) rfl)
  replace KB : Blk (X0.setCell ⟨g, 10, none⟩ (.int .u64 z0)) (b) 121 #[.func (.func 68) #[] #[]] := Av.bother (KB) (by omega) _
  replace BX : Below 0 w (X0.setCell ⟨g, 10, none⟩ (.int .u64 z0)) := (BX.setCell (p := ⟨g, 10, none⟩) (by simp only; omega) _)
  generalize (X0.setCell ⟨g, 10, none⟩ (.int .u64 z0)) = X2 at *
  refine hK.out _ _ ⟨KB, TT⟩ (fun hHeld => ?_)
  clear hK K
  try simp only [List.getElem_toArray, List.getElem_cons_zero, List.getElem_cons_succ, Act.put, List.setIfInBounds_toArray, List.set_cons_zero, List.set_cons_succ]
  refine wpAnyH_done (by kernel_rfl) ?_ _
  clear hHeld
  go_wp2_with fail
  refine bodyPost_end (results_none rfl _ _ _) rfl ?_
  exact ⟨⟨_, rfl⟩, KC, GR⟩
set_option maxRecDepth 100000 in
set_option maxHeartbeats 4000000 in
theorem set_mk (c : Ct) (z0 : Int) (g b ba oa cc : Nat) (w : World) (KC : Blk w g 57 (encC c)) (KB : Blk w b 121 #[.func (.func 69) #[] #[]]) (hne : ba ≠ g) (hr : Ints .u64 w w.heap.size (some ⟨ba, oa, none⟩) [z0]) :
    Calls Try.prog 86 #[.pointer (some ⟨g, 0, none⟩), .slice (some ⟨ba, oa, none⟩) 1 cc, .pointer (some ⟨b, 0, none⟩)] w fun e w' => Sets w w' e g (setP .mk c [z0]) := by
  obtain ⟨b9, o9, e9, hb9, hc9⟩ : ∃ b' o', (some ⟨ba, oa, none⟩ : Option Addr) = some ⟨b', o', none⟩ ∧ b' < w.heap.size ∧ ∀ j, j < 1 → w.cell? ⟨b', o' + j, none⟩ = some (.int .u64 ([z0].getD j 0)) := by
    rcases hr with h | ⟨b', o', e, hb, hc⟩
    · cases h
    · exact ⟨b', o', e, hb, hc⟩
  obtain ⟨rfl, rfl⟩ : ba = b9 ∧ oa = o9 := by injection e9 with e9; injection e9 with h1 h2; exact ⟨h1, h2⟩
  have TT : w.cell? ⟨ba, oa, none⟩ = some (.int .u64 z0) := hc9 0 (by decide)
  clear hc9 hr e9 hb9
  have hgb : b ≠ g := by
    rintro rfl
    unfold Blk at KC KB
    rw [KB] at KC
    injection KC with KC
    injection KC with _ KC
    exact absurd KC (by decide)
  have GR := chg_refl w (some g)
  have BX : Below 0 w w := Below.refl _ _
  show Calls _ _ _ _ fun e w' => (∃ v, e = .returned v) ∧ Blk w' g 57 #[.int .i64 c.k, .int .i64 c.ws, .int .i64 c.wo, .int .i64 c.it, .int .i64 c.la, .int .i64 c.ti, .int .u64 (c.m : Int), .int .u16 c.ins, .int .i64 c.rs, .int .i64 c.rj, .int .u64 c.st, .int .u64 z0, .int .u64 c.ft, .int .i64 c.vs, .int .i64 c.ln] ∧ w.grownBy w' (some g)
  replace KC : Blk w g 57 #[.int .i64 c.k, .int .i64 c.ws, .int .i64 c.wo, .int .i64 c.it, .int .i64 c.la, .int .i64 c.ti, .int .u64 (c.m : Int), .int .u16 c.ins, .int .i64 c.rs, .int .i64 c.rj, .int .u64 c.st, .int .u64 c.mr, .int .u64 c.ft, .int .i64 c.vs, .int .i64 c.ln] := KC
  go_enter Try.func86, Try.ntmps86
  go_upto_region 0 with (fail)
  have KC' : Blk w.drew (g) 57 #[.int .i64 c.k, .int .i64 c.ws, .int .i64 c.wo, .int .i64 c.it, .int .i64 c.la, .int .i64 c.ti, .int .u64 (c.m : Int), .int .u16 c.ins, .int .i64 c.rs, .int .i64 c.rj, .int .u64 c.st, .int .u64 c.mr, .int .u64 c.ft, .int .i64 c.vs, .int .i64 c.ln] := Mem.Blk.drew KC
  have KB' : Blk w.drew (b) 121 #[.func (.func 69) #[] #[]] := Mem.Blk.drew KB
  refine wp_region_held_drew (S := (fun w' => Blk w' (b) 121 #[.func (.func 69) #[] #[]] ∧ w'.cell? ⟨ba, oa, none⟩ = some (.int .u64 z0))) (by kernel_rfl) ?_ (fun hHeld => ?_)
  · exact ⟨KB', TT⟩
  replace KC := KC'
  clear KC'
  replace KB := KB'
  clear KB'
  replace BX : Below 0 w w.drew := BX.drew
  replace GR := chg_drew GR
  replace TT := TT
  replace TT : w.drew.cell? ⟨ba, oa, none⟩ = some (.int .u64 z0) := TT
  generalize w.drew = X0 at *
  refine wpAnyH_take (i := 0) (v := .func (.func 69) #[] #[]) rfl (by kernel_rfl) (by kernel_rfl) (by kernel_rfl) (fun _ _ _ h => h) (Or.inl ⟨by first | rfl | go_simp, by intro w9 hSw; (try dsimp only at hSw); have c9 := hSw.1.cell 0; clear hSw; go_simp⟩) (by assumption) ?_
  simp only [List.getElem_toArray, List.getElem_cons_zero, List.getElem_cons_succ, Act.put, List.setIfInBounds_toArray, List.set_cons_zero, List.set_cons_succ]
  refine wpAnyH_take (i := 1) (v := .pointer (some ⟨g, 0, none⟩)) rfl (by kernel_rfl) (by kernel_rfl) (by kernel_rfl) (fun _ _ _ h => h) (Or.inl ⟨by first | rfl | go_simp, by intro w9 hSw; (try dsimp only at hSw); go_simp⟩) (by assumption) ?_
  simp only [List.getElem_toArray, List.getElem_cons_zero, List.getElem_cons_succ, Act.put, List.setIfInBounds_toArray, List.set_cons_zero, List.set_cons_succ]
  refine wpAnyH_take (i := 3) (v := .slice (some ⟨ba, oa, none⟩) 1 cc) rfl (by kernel_rfl) (by kernel_rfl) (by kernel_rfl) (fun _ _ _ h => h) (Or.inl ⟨by first | rfl | go_simp, by intro w9 hSw; (try dsimp only at hSw); go_simp⟩) (by assumption) ?_
  simp only [List.getElem_toArray, List.getElem_cons_zero, List.getElem_cons_succ, Act.put, List.setIfInBounds_toArray, List.set_cons_zero, List.set_cons_succ]
  refine wpAnyH_take (i := 4) (v := .pointer (some ⟨ba, oa, none⟩)) rfl (by kernel_rfl) (by kernel_rfl) (by kernel_rfl) (fun _ _ _ h => h) (Or.inl ⟨by first | rfl | go_simp, by intro w9 hSw; (try dsimp only at hSw); go_simp⟩) (by assumption) ?_
  simp only [List.getElem_toArray, List.getElem_cons_zero, List.getElem_cons_succ, Act.put, List.setIfInBounds_toArray, List.set_cons_zero, List.set_cons_succ]
  refine wpAnyH_take (i := 5) (v := .int .u64 z0) rfl (by kernel_rfl) (by kernel_rfl) (by kernel_rfl) (fun _ _ _ h => h) (Or.inl ⟨by first | rfl | go_simp, by intro w9 hSw; (try dsimp only at hSw); go_simp⟩) (by assumption) ?_
  simp only [List.getElem_toArray, List.getElem_cons_zero, List.getElem_cons_succ, Act.put, List.setIfInBounds_toArray, List.set_cons_zero, List.set_cons_succ]
  refine wpAnyH_ready (rs := [2]) (by kernel_rfl) (by simp) ?_
  refine AllReadyH.cons rfl (fun K hK => ?_) (AllReadyH.nil)
  go_simp
  refine (fld_mk.2 _ _).mono ?_
  rintro e w9 ⟨rfl, rfl⟩
  refine hK.out _ _ ⟨KB, TT⟩ (fun hHeld => ?_)
  clear hK K
  try simp only [List.getElem_toArray, List.getElem_cons_zero, List.getElem_cons_succ, Act.put, List.setIfInBounds_toArray, List.set_cons_zero, List.set_cons_succ]
  refine wpAnyH_take (i := 6) (v := .pointer (some ⟨g, 11, none⟩)) rfl (by kernel_rfl) (by kernel_rfl) (by kernel_rfl) (fun _ _ _ h => h) (Or.inl ⟨by first | rfl | go_simp, by intro w9 hSw; (try dsimp only at hSw); go_simp⟩) (by assumption) ?_
  simp only [List.getElem_toArray, List.getElem_cons_zero, List.getElem_cons_succ, Act.put, List.setIfInBounds_toArray, List.set_cons_zero, List.set_cons_succ]
  refine wpAnyH_ready (rs := [7]) (by kernel_rfl) (by simp) ?_
  refine AllReadyH.cons rfl (fun K hK => ?_) (AllReadyH.nil)
  refine Av.step_store_cell rfl _ _ _ rfl (g) 11 (.int .u64 z0) rfl rfl 57 _ KC (by show 11 < 15; decide) (by kernel_rfl) rfl ?_
  replace GR := (chg_cell GR 11 (.int .u64 z0))
  replace TT := (far_cell TT hne 11 (.int .u64 z0))
  replace KC : Blk (X0.setCell ⟨g, 11, none⟩ (.int .u64 z0)) (g) 57 #[.int .i64 c.k, .int .i64 c.ws, .int .i64 c.wo, .int .i64 c.it, .int .i64 c.la, .int .i64 c.ti, .int .u64 (c.m : Int), .int .u16 c.ins, .int .i64 c.rs, .int .i64 c.rj, .int .u64 c.st, .int .u64 z0, .int .u64 c.ft, .int .i64 c.vs, .int .i64 c.ln] := (Av.bset KC 11 (.int .u64 z0) rfl)
  replace KB : Blk (X0.setCell ⟨g, 11, none⟩ (.int .u64 z0)) (b) 121 #[.func (.func 69) #[] #[]] := Av.bother (KB) (by omega) _
  replace BX : Below 0 w (X0.setCell ⟨g, 11, none⟩ (.int .u64 z0)) := (BX.setCell (p := ⟨g, 11, none⟩) (by simp only; omega) _)
  generalize (X0.setCell ⟨g, 11, none⟩ (.int .u64 z0)) = X2 at *
  refine hK.out _ _ ⟨KB, TT⟩ (fun hHeld => ?_)
  clear hK K
  try simp only [List.getElem_toArray, List.getElem_cons_zero, List.getElem_cons_succ, Act.put, List.setIfInBounds_toArray, List.set_cons_zero, List.set_cons_succ]
  refine wpAnyH_done (by kernel_rfl) ?_ _
  clear hHeld
  go_wp2_with fail
  refine bodyPost_end (results_none rfl _ _ _) rfl ?_
  exact ⟨⟨_, rfl⟩, KC, GR⟩
set_option maxRecDepth 100000 in
set_option maxHeartbeats 4000000 in
theorem set_fe (c : Ct) (z0 : Int) (g b ba oa cc : Nat) (w : World) (KC : Blk w g 57 (encC c)) (KB : Blk w b 121 #[.func (.func 70) #[] #[]]) (hne : ba ≠ g) (hr : Ints .u64 w w.heap.size (some ⟨ba, oa, none⟩) [z0]) :
    Calls Try.prog 86 #[.pointer (some ⟨g, 0, none⟩), .slice (some ⟨ba, oa, none⟩) 1 cc, .pointer (some ⟨b, 0, none⟩)] w fun e w' => Sets w w' e g (setP .fe c [z0]) := by
  obtain ⟨b9, o9, e9, hb9, hc9⟩ : ∃ b' o', (some ⟨ba, oa, none⟩ : Option Addr) = some ⟨b', o', none⟩ ∧ b' < w.heap.size ∧ ∀ j, j < 1 → w.cell? ⟨b', o' + j, none⟩ = some (.int .u64 ([z0].getD j 0)) := by
    rcases hr with h | ⟨b', o', e, hb, hc⟩
    · cases h
    · exact ⟨b', o', e, hb, hc⟩
  obtain ⟨rfl, rfl⟩ : ba = b9 ∧ oa = o9 := by injection e9 with e9; injection e9 with h1 h2; exact ⟨h1, h2⟩
  have TT : w.cell? ⟨ba, oa, none⟩ = some (.int .u64 z0) := hc9 0 (by decide)
  clear hc9 hr e9 hb9
  have hgb : b ≠ g := by
    rintro rfl
    unfold Blk at KC KB
    rw [KB] at KC
    injection KC with KC
    injection KC with _ KC
    exact absurd KC (by decide)
  have GR := chg_refl w (some g)
  have BX : Below 0 w w := Below.refl _ _
  show Calls _ _ _ _ fun e w' => (∃ v, e = .returned v) ∧ Blk w' g 57 #[.int .i64 c.k, .int .i64 c.ws, .int .i64 c.wo, .int .i64 c.it, .int .i64 c.la, .int .i64 c.ti, .int .u64 (c.m : Int), .int .u16 c.ins, .int .i64 c.rs, .int .i64 c.rj, .int .u64 c.st, .int .u64 c.mr, .int .u64 z0, .int .i64 c.vs, .int .i64 c.ln] ∧ w.grownBy w' (some g)
  replace KC : Blk w g 57 #[.int .i64 c.k, .int .i64 c.ws, .int .i64 c.wo, .int .i64 c.it, .int .i64 c.la, .int .i64 c.ti, .int .u64 (c.m : Int), .int .u16 c.ins, .int .i64 c.rs, .int .i64 c.rj, .int .u64 c.st, .int .u64 c.mr, .int .u64 c.ft, .int .i64 c.vs, .int .i64 c.ln] := KC
  go_enter Try.func86, Try.ntmps86
  go_upto_region 0 with (fail)
  have KC' : Blk w.drew (g) 57 #[.int .i64 c.k, .int .i64 c.ws, .int .i64 c.wo, .int .i64 c.it, .int .i64 c.la, .int .i64 c.ti, .int .u64 (c.m : Int), .int .u16 c.ins, .int .i64 c.rs, .int .i64 c.rj, .int .u64 c.st, .int .u64 c.mr, .int .u64 c.ft, .int .i64 c.vs, .int .i64 c.ln] := Mem.Blk.drew KC
  have KB' : Blk w.drew (b) 121 #[.func (.func 70) #[] #[]] := Mem.Blk.drew KB
  refine wp_region_held_drew (S := (fun w' => Blk w' (b) 121 #[.func (.func 70) #[] #[]] ∧ w'.cell? ⟨ba, oa, none⟩ = some (.int .u64 z0))) (by kernel_rfl) ?_ (fun hHeld => ?_)
  · exact ⟨KB', TT⟩
  replace KC := KC'
  clear KC'
  replace KB := KB'
  clear KB'
  replace BX : Below 0 w w.drew := BX.drew
  replace GR := chg_drew GR
  replace TT := TT
  replace TT : w.drew.cell? ⟨ba, oa, none⟩ = some (.int .u64 z0) := TT
  generalize w.drew = X0 at *
  refine wpAnyH_take (i := 0) (v := .func (.func 70) #[] #[]) rfl (by kernel_rfl) (by kernel_rfl) (by kernel_rfl) (fun _ _ _ h => h) (Or.inl ⟨by first | rfl | go_simp, by intro w9 hSw; (try dsimp only at hSw); have c9 := hSw.1.cell 0; clear hSw; go_simp⟩) (by assumption) ?_
  simp only [List.getElem_toArray, List.getElem_cons_zero, List.getElem_cons_succ, Act.put, List.setIfInBounds_toArray, List.set_cons_zero, List.set_cons_succ]
  refine wpAnyH_take (i := 1) (v := .pointer (some ⟨g, 0, none⟩)) rfl (by kernel_rfl) (by kernel_rfl) (by kernel_rfl) (fun _ _ _ h => h) (Or.inl ⟨by first | rfl | go_simp, by intro w9 hSw; (try dsimp only at hSw); go_simp⟩) (by assumption) ?_
  simp only [List.getElem_toArray, List.getElem_cons_zero, List.getElem_cons_succ, Act.put, List.setIfInBounds_toArray, List.set_cons_zero, List.set_cons_succ]
  refine wpAnyH_take (i := 3) (v := .slice (some ⟨ba, oa, none⟩) 1 cc) rfl (by kernel_rfl) (by kernel_rfl) (by kernel_rfl) (fun _ _ _ h => h) (Or.inl ⟨by first | rfl | go_simp, by intro w9 hSw; (try dsimp only at hSw); go_simp⟩) (by assumption) ?_
  simp only [List.getElem_toArray, List.getElem_cons_zero, List.getElem_cons_succ, Act.put, List.setIfInBounds_toArray, List.set_cons_zero, List.set_cons_succ]
  refine wpAnyH_take (i := 4) (v := .pointer (some ⟨ba, oa, none⟩)) rfl (by kernel_rfl) (by kernel_rfl) (by kernel_rfl) (fun _ _ _ h => h) (Or.inl ⟨by first | rfl | go_simp, by intro w9 hSw; (try dsimp only at hSw); go_simp⟩) (by assumption) ?_
  simp only [List.getElem_toArray, List.getElem_cons_zero, List.getElem_cons_succ, Act.put, List.setIfInBounds_toArray, List.set_cons_zero, List.set_cons_succ]
  refine wpAnyH_take (i := 5) (v := .int .u64 z0) rfl (by kernel_rfl) (by kernel_rfl) (by kernel_rfl) (fun _ _ _ h => h) (Or.inl ⟨by first | rfl | go_simp, by intro w9 hSw; (try dsimp only at hSw); go_simp⟩) (by assumption) ?_
  simp only [List.getElem_toArray, List.getElem_cons_zero, List.getElem_cons_succ, Act.put, List.setIfInBounds_toArray, List.set_cons_zero, List.set_cons_succ]
  refine wpAnyH_ready (rs := [2]) (by kernel_rfl) (by simp) ?_
  refine AllReadyH.cons rfl (fun K hK => ?_) (AllReadyH.nil)
  go_simp
  refine (fld_fe.2 _ _).mono ?_
  rintro e w9 ⟨rfl, rfl⟩
  refine hK.out _ _ ⟨KB, TT⟩ (fun hHeld => ?_)
  clear hK K
  try simp only [List.getElem_toArray, List.getElem_cons_zero, List.getElem_cons_succ, Act.put, List.setIfInBounds_toArray, List.set_cons_zero, List.set_cons_succ]
  refine wpAnyH_take (i := 6) (v := .pointer (some ⟨g, 12, none⟩)) rfl (by kernel_rfl) (by kernel_rfl) (by kernel_rfl) (fun _ _ _ h => h) (Or.inl ⟨by first | rfl | go_simp, by intro w9 hSw; (try dsimp only at hSw); go_simp⟩) (by assumption) ?_
  simp only [List.getElem_toArray, List.getElem_cons_zero, List.getElem_cons_succ, Act.put, List.setIfInBounds_toArray, List.set_cons_zero, List.set_cons_succ]
  refine wpAnyH_ready (rs := [7]) (by kernel_rfl) (by simp) ?_
  refine AllReadyH.cons rfl (fun K hK => ?_) (AllReadyH.nil)
  refine Av.step_store_cell rfl _ _ _ rfl (g) 12 (.int .u64 z0) rfl rfl 57 _ KC (by show 12 < 15; decide) (by kernel_rfl) rfl ?_
  replace GR := (chg_cell GR 12 (.int .u64 z0))
  replace TT := (far_cell TT hne 12 (.int .u64 z0))
  replace KC : Blk (X0.setCell ⟨g, 12, none⟩ (.int .u64 z0)) (g) 57 #[.int .i64 c.k, .int .i64 c.ws, .int .i64 c.wo, .int .i64 c.it, .int .i64 c.la, .int .i64 c.ti, .int .u64 (c.m : Int), .int .u16 c.ins, .int .i64 c.rs, .int .i64 c.rj, .int .u64 c.st, .int .u64 c.mr, .int .u64 z0, .int .i64 c.vs, .int .i64 c.ln] := (Av.bset KC 12 (.int .u64 z0) rfl)
  replace KB : Blk (X0.setCell ⟨g, 12, none⟩ (.int .u64 z0)) (b) 121 #[.func (.func 70) #[] #[]] := Av.bother (KB) (by omega) _
  replace BX : Below 0 w (X0.setCell ⟨g, 12, none⟩ (.int .u64 z0)) := (BX.setCell (p := ⟨g, 12, none⟩) (by simp only; omega) _)
  generalize (X0.setCell ⟨g, 12, none⟩ (.int .u64 z0)) = X2 at *
  refine hK.out _ _ ⟨KB, TT⟩ (fun hHeld => ?_)
  clear hK K
  try simp only [List.getElem_toArray, List.getElem_cons_zero, List.getElem_cons_succ, Act.put, List.setIfInBounds_toArray, List.set_cons_zero, List.set_cons_succ]
  refine wpAnyH_done (by kernel_rfl) ?_ _
  clear hHeld
  go_wp2_with fail
  refine bodyPost_end (results_none rfl _ _ _) rfl ?_
  exact ⟨⟨_, rfl⟩, KC, GR⟩
set_option maxRecDepth 100000 in
set_option maxHeartbeats 4000000 in
theorem set_up (c : Ct) (z0 z1 z2 z3 z4 : Int) (g ba oa cc : Nat) (w : World) (KC : Blk w g 57 (encC c)) (hne : ba ≠ g) (hr : Ints .u64 w w.heap.size (some ⟨ba, oa, none⟩) [z0, z1, z2, z3, z4]) :
    Calls Try.prog 89 #[.pointer (some ⟨g, 0, none⟩), .slice (some ⟨ba, oa, none⟩) 5 cc] w fun e w' => Sets w w' e g (setP .up c [z0, z1, z2, z3, z4]) := by
  obtain ⟨b9, o9, e9, hb9, hc9⟩ : ∃ b' o', (some ⟨ba, oa, none⟩ : Option Addr) = some ⟨b', o', none⟩ ∧ b' < w.heap.size ∧ ∀ j, j < 5 → w.cell? ⟨b', o' + j, none⟩ = some (.int .u64 ([z0, z1, z2, z3, z4].getD j 0)) := by
    rcases hr with h | ⟨b', o', e, hb, hc⟩
    · cases h
    · exact ⟨b', o', e, hb, hc⟩
  obtain ⟨rfl, rfl⟩ : ba = b9 ∧ oa = o9 := by injection e9 with e9; injection e9 with h1 h2; exact ⟨h1, h2⟩
  have TT : w.cell? ⟨ba, oa, none⟩ = some (.int .u64 z0) ∧ w.cell? ⟨ba, oa + 1, none⟩ = some (.int .u64 z1) ∧ w.cell? ⟨ba, oa + 2, none⟩ = some (.int .u64 z2) ∧ w.cell? ⟨ba, oa + 3, none⟩ = some (.int .u64 z3) ∧ w.cell? ⟨ba, oa + 4, none⟩ = some (.int .u64 z4) := ⟨hc9 0 (by decide), hc9 1 (by decide), hc9 2 (by decide), hc9 3 (by decide), hc9 4 (by decide)⟩
  clear hc9 hr e9 hb9
  have GR := chg_refl w (some g)
  have BX : Below 0 w w := Below.refl _ _
  show Calls _ _ _ _ fun e w' => (∃ v, e = .returned v) ∧ Blk w' g 57 #[.int .i64 c.k, .int .i64 (IntKind.i64.wrap z0), .int .i64 (IntKind.i64.wrap z1), .int .i64 (IntKind.i64.wrap z2), .int .i64 (IntKind.i64.wrap z3), .int .i64 (IntKind.i64.wrap z4), .int .u64 (c.m : Int), .int .u16 c.ins, .int .i64 c.rs, .int .i64 c.rj, .int .u64 c.st, .int .u64 c.mr, .int .u64 c.ft, .int .i64 c.vs, .int .i64 c.ln] ∧ w.grownBy w' (some g)
  replace KC : Blk w g 57 #[.int .i64 c.k, .int .i64 c.ws, .int .i64 c.wo, .int .i64 c.it, .int .i64 c.la, .int .i64 c.ti, .int .u64 (c.m : Int), .int .u16 c.ins, .int .i64 c.rs, .int .i64 c.rj, .int .u64 c.st, .int .u64 c.mr, .int .u64 c.ft, .int .i64 c.vs, .int .i64 c.ln] := KC
  go_enter Try.func89, Try.ntmps89
  go_upto_region 0 with (fail)
  have KC' : Blk w.drew (g) 57 #[.int .i64 c.k, .int .i64 c.ws, .int .i64 c.wo, .int .i64 c.it, .int .i64 c.la, .int .i64 c.ti, .int .u64 (c.m : Int), .int .u16 c.ins, .int .i64 c.rs, .int .i64 c.rj, .int .u64 c.st, .int .u64 c.mr, .int .u64 c.ft, .int .i64 c.vs, .int .i64 c.ln] := Mem.Blk.drew KC
  refine wp_region_held_drew (S := (fun w' => w'.cell? ⟨ba, oa, none⟩ = some (.int .u64 z0) ∧ w'.cell? ⟨ba, oa + 1, none⟩ = some (.int .u64 z1) ∧ w'.cell? ⟨ba, oa + 2, none⟩ = some (.int .u64 z2) ∧ w'.cell? ⟨ba, oa + 3, none⟩ = some (.int .u64 z3) ∧ w'.cell? ⟨ba, oa + 4, none⟩ = some (.int .u64 z4))) (by kernel_rfl) ?_ (fun hHeld => ?_)
  · exact TT
  replace KC := KC'
  clear KC'
  replace BX : Below 0 w w.drew := BX.drew
  replace GR := chg_drew GR
  replace TT := TT
  replace TT : w.drew.cell? ⟨ba, oa, none⟩ = some (.int .u64 z0) ∧ w.drew.cell? ⟨ba, oa + 1, none⟩ = some (.int .u64 z1) ∧ w.drew.cell? ⟨ba, oa + 2, none⟩ = some (.int .u64 z2) ∧ w.drew.cell? ⟨ba, oa + 3, none⟩ = some (.int .u64 z3) ∧ w.drew.cell? ⟨ba, oa + 4, none⟩ = some (.int .u64 z4) := TT
  generalize w.drew = X0 at *
  refine wpAnyH_take (i := 0) (v := .pointer (some ⟨g, 0, none⟩)) rfl (by kernel_rfl) (by kernel_rfl) (by kernel_rfl) (fun _ _ _ h => h) (Or.inl ⟨by first | rfl | go_simp, by intro w9 hSw; (try dsimp only at hSw); go_simp⟩) (by assumption) ?_
  simp only [List.getElem_toArray, List.getElem_cons_zero, List.getElem_cons_succ, Act.put, List.setIfInBounds_toArray, List.set_cons_zero, List.set_cons_succ]
  refine wpAnyH_take (i := 1) (v := .slice (some ⟨ba, oa, none⟩) 5 cc) rfl (by kernel_rfl) (by kernel_rfl) (by kernel_rfl) (fun _ _ _ h => h) (Or.inl ⟨by first | rfl | go_simp, by intro w9 hSw; (try dsimp only at hSw); go_simp⟩) (by assumption) ?_
  simp only [List.getElem_toArray, List.getElem_cons_zero, List.getElem_cons_succ, Act.put, List.setIfInBounds_toArray, List.set_cons_zero, List.set_cons_succ]
  refine wpAnyH_take (i := 2) (v := .pointer (some ⟨ba, oa, none⟩)) rfl (by kernel_rfl) (by kernel_rfl) (by kernel_rfl) (fun _ _ _ h => h) (Or.inl ⟨by first | rfl | go_simp, by intro w9 hSw; (try dsimp only at hSw); go_simp⟩) (by assumption) ?_
  simp only [List.getElem_toArray, List.getElem_cons_zero, List.getElem_cons_succ, Act.put, List.setIfInBounds_toArray, List.set_cons_zero, List.set_cons_succ]
  refine wpAnyH_take (i := 3) (v := .int .u64 z0) rfl (by kernel_rfl) (by kernel_rfl) (by kernel_rfl) (fun _ _ _ h => h) (Or.inl ⟨by first | rfl | go_simp, by intro w9 hSw; (try dsimp only at hSw); go_simp⟩) (by assumption) ?_
  simp only [List.getElem_toArray, List.getElem_cons_zero, List.getElem_cons_succ, Act.put, List.setIfInBounds_toArray, List.set_cons_zero, List.set_cons_succ]
  refine wpAnyH_take (i := 4) (v := .int .i64 (IntKind.i64.wrap z0)) rfl (by kernel_rfl) (by kernel_rfl) (by kernel_rfl) (fun _ _ _ h => h) (Or.inl ⟨by first | rfl | go_simp, by intro w9 hSw; (try dsimp only at hSw); go_simp⟩) (by assumption) ?_
  simp only [List.getElem_toArray, List.getElem_cons_zero, List.getElem_cons_succ, Act.put, List.setIfInBounds_toArray, List.set_cons_zero, List.set_cons_succ]
  refine wpAnyH_take (i := 5) (v := .slice (some ⟨ba, oa, none⟩) 5 cc) rfl (by kernel_rfl) (by kernel_rfl) (by kernel_rfl) (fun _ _ _ h => h) (Or.inl ⟨by first | rfl | go_simp, by intro w9 hSw; (try dsimp only at hSw); go_simp⟩) (by assumption) ?_
  simp only [List.getElem_toArray, List.getElem_cons_zero, List.getElem_cons_succ, Act.put, List.setIfInBounds_toArray, List.set_cons_zero, List.set_cons_succ]
  refine wpAnyH_take (i := 6) (v := .pointer (some ⟨ba, oa + 1, none⟩)) rfl (by kernel_rfl) (by kernel_rfl) (by kernel_rfl) (fun _ _ _ h => h) (Or.inl ⟨by first | rfl | go_simp, by intro w9 hSw; (try dsimp only at hSw); go_simp⟩) (by assumption) ?_
  simp only [List.getElem_toArray, List.getElem_cons_zero, List.getElem_cons_succ, Act.put, List.setIfInBounds_toArray, List.set_cons_zero, List.set_cons_succ]
  refine wpAnyH_take (i := 7) (v := .int .u64 z1) rfl (by kernel_rfl) (by kernel_rfl) (by kernel_rfl) (fun _ _ _ h => h) (Or.inl ⟨by first | rfl | go_simp, by intro w9 hSw; (try dsimp only at hSw); go_simp⟩) (by assumption) ?_
  simp only [List.getElem_toArray, List.getElem_cons_zero, List.getElem_cons_succ, Act.put, List.setIfInBounds_toArray, List.set_cons_zero, List.set_cons_succ]
  refine wpAnyH_take (i := 8) (v := .int .i64 (IntKind.i64.wrap z1)) rfl (by kernel_rfl) (by kernel_rfl) (by kernel_rfl) (fun _ _ _ h => h) (Or.inl ⟨by first | rfl | go_simp, by intro w9 hSw; (try dsimp only at hSw); go_simp⟩) (by assumption) ?_
  simp only [List.getElem_toArray, List.getElem_cons_zero, List.getElem_cons_succ, Act.put, List.setIfInBounds_toArray, List.set_cons_zero, List.set_cons_succ]
  refine wpAnyH_take (i := 9) (v := .slice (some ⟨ba, oa, none⟩) 5 cc) rfl (by kernel_rfl) (by kernel_rfl) (by kernel_rfl) (fun _ _ _ h => h) (Or.inl ⟨by first | rfl | go_simp, by intro w9 hSw; (try dsimp only at hSw); go_simp⟩) (by assumption) ?_
  simp only [List.getElem_toArray, List.getElem_cons_zero, List.getElem_cons_succ, Act.put, List.setIfInBounds_toArray, List.set_cons_zero, List.set_cons_succ]
  refine wpAnyH_take (i := 10) (v := .pointer (some ⟨ba, oa + 2, none⟩)) rfl (by kernel_rfl) (by kernel_rfl) (by kernel_rfl) (fun _ _ _ h => h) (Or.inl ⟨by first | rfl | go_simp, by intro w9 hSw; (try dsimp only at hSw); go_simp⟩) (by assumption) ?_
  simp only [List.getElem_toArray, List.getElem_cons_zero, List.getElem_cons_succ, Act.put, List.setIfInBounds_toArray, List.set_cons_zero, List.set_cons_succ]
  refine wpAnyH_take (i := 11) (v := .int .u64 z2) rfl (by kernel_rfl) (by kernel_rfl) (by kernel_rfl) (fun _ _ _ h => h) (Or.inl ⟨by first | rfl | go_simp, by intro w9 hSw; (try dsimp only at hSw); go_simp⟩) (by assumption) ?_
  simp only [List.getElem_toArray, List.getElem_cons_zero, List.getElem_cons_succ, Act.put, List.setIfInBounds_toArray, List.set_cons_zero, List.set_cons_succ]
  refine wpAnyH_take (i := 12) (v := .int .i64 (IntKind.i64.wrap z2)) rfl (by kernel_rfl) (by kernel_rfl) (by kernel_rfl) (fun _ _ _ h => h) (Or.inl ⟨by first | rfl | go_simp, by intro w9 hSw; (try dsimp only at hSw); go_simp⟩) (by assumption) ?_
  simp only [List.getElem_toArray, List.getElem_cons_zero, List.getElem_cons_succ, Act.put, List.setIfInBounds_toArray, List.set_cons_zero, List.set_cons_succ]
  refine wpAnyH_take (i := 13) (v := .slice (some ⟨ba, oa, none⟩) 5 cc) rfl (by kernel_rfl) (by kernel_rfl) (by kernel_rfl) (fun _ _ _ h => h) (Or.inl ⟨by first | rfl | go_simp, by intro w9 hSw; (try dsimp only at hSw); go_simp⟩) (by assumption) ?_
  simp only [List.getElem_toArray, List.getElem_cons_zero, List.getElem_cons_succ, Act.put, List.setIfInBounds_toArray, List.set_cons_zero, List.set_cons_succ]
  refine wpAnyH_take (i := 14) (v := .pointer (some ⟨ba, oa + 3, none⟩)) rfl (by kernel_rfl) (by kernel_rfl) (by kernel_rfl) (fun _ _ _ h => h) (Or.inl ⟨by first | rfl | go_simp, by intro w9 hSw; (try dsimp only at hSw); go_simp⟩) (by assumption) ?_
  simp only [List.getElem_toArray, List.getElem_cons_zero, List.getElem_cons_succ, Act.put, List.setIfInBounds_toArray, List.set_cons_zero, List.set_cons_succ]
  refine wpAnyH_take (i := 15) (v := .int .u64 z3) rfl (by kernel_rfl) (by kernel_rfl) (by kernel_rfl) (fun _ _ _ h => h) (Or.inl ⟨by first | rfl | go_simp, by intro w9 hSw; (try dsimp only at hSw); go_simp⟩) (by assumption) ?_
  simp only [List.getElem_toArray, List.getElem_cons_zero, List.getElem_cons_succ, Act.put, List.setIfInBounds_toArray, List.set_cons_zero, List.set_cons_succ]
  refine wpAnyH_take (i := 16) (v := .int .i64 (IntKind.i64.wrap z3)) rfl (by kernel_rfl) (by kernel_rfl) (by kernel_rfl) (fun _ _ _ h => h) (Or.inl ⟨by first | rfl | go_simp, by intro w9 hSw; (try dsimp only at hSw); go_simp⟩) (by assumption) ?_
  simp only [List.getElem_toArray, List.getElem_cons_zero, List.getElem_cons_succ, Act.put, List.setIfInBounds_toArray, List.set_cons_zero, List.set_cons_succ]
  refine wpAnyH_take (i := 17) (v := .slice (some ⟨ba, oa, none⟩) 5 cc) rfl (by kernel_rfl) (by kernel_rfl) (by kernel_rfl) (fun _ _ _ h => h) (Or.inl ⟨by first | rfl | go_simp, by intro w9 hSw; (try dsimp only at hSw); go_simp⟩) (by assumption) ?_
  simp only [List.getElem_toArray, List.getElem_cons_zero, List.getElem_cons_succ, Act.put, List.setIfInBounds_toArray, List.set_cons_zero, List.set_cons_succ]
  refine wpAnyH_take (i := 18) (v := .pointer (some ⟨ba, oa + 4, none⟩)) rfl (by kernel_rfl) (by kernel_rfl) (by kernel_rfl) (fun _ _ _ h => h) (Or.inl ⟨by first | rfl | go_simp, by intro w9 hSw; (try dsimp only at hSw); go_simp⟩) (by assumption) ?_
  simp only [List.getElem_toArray, List.getElem_cons_zero, List.getElem_cons_succ, Act.put, List.setIfInBounds_toArray, List.set_cons_zero, List.set_cons_succ]
  refine wpAnyH_take (i := 19) (v := .int .u64 z4) rfl (by kernel_rfl) (by kernel_rfl) (by kernel_rfl) (fun _ _ _ h => h) (Or.inl ⟨by first | rfl | go_simp, by intro w9 hSw; (try dsimp only at hSw); go_simp⟩) (by assumption) ?_
  simp only [List.getElem_toArray, List.getElem_cons_zero, List.getElem_cons_succ, Act.put, List.setIfInBounds_toArray, List.set_cons_zero, List.set_cons_succ]
  refine wpAnyH_take (i := 20) (v := .int .i64 (IntKind.i64.wrap z4)) rfl (by kernel_rfl) (by kernel_rfl) (by kernel_rfl) (fun _ _ _ h => h) (Or.inl ⟨by first | rfl | go_simp, by intro w9 hSw; (try dsimp only at hSw); go_simp⟩) (by assumption) ?_
  simp only [List.getElem_toArray, List.getElem_cons_zero, List.getElem_cons_succ, Act.put, List.setIfInBounds_toArray, List.set_cons_zero, List.set_cons_succ]
  refine wpAnyH_take (i := 21) (v := .agg #[.int .i64 (IntKind.i64.wrap z0), .int .i64 (IntKind.i64.wrap z1), .int .i64 (IntKind.i64.wrap z2), .int .i64 (IntKind.i64.wrap z3), .int .i64 (IntKind.i64.wrap z4)]) rfl (by kernel_rfl) (by kernel_rfl) (by kernel_rfl) (fun _ _ _ h => h) (Av.yields_build (by first | rfl | go_simp) _ _ rfl #[.int .i64 (IntKind.i64.wrap z0), .int .i64 (IntKind.i64.wrap z1), .int .i64 (IntKind.i64.wrap z2), .int .i64 (IntKind.i64.wrap z3), .int .i64 (IntKind.i64.wrap z4)] (by kernel_rfl)) (by assumption) ?_
  simp only [List.getElem_toArray, List.getElem_cons_zero, List.getElem_cons_succ, Act.put, List.setIfInBounds_toArray, List.set_cons_zero, List.set_cons_succ]
  refine wpAnyH_take (i := 22) (v := .pointer (some ⟨g, 0, none⟩)) rfl (by kernel_rfl) (by kernel_rfl) (by kernel_rfl) (fun _ _ _ h => h) (Or.inl ⟨by first | rfl | go_simp, by intro w9 hSw; (try dsimp only at hSw); go_simp⟩) (by assumption) ?_
  simp only [List.getElem_toArray, List.getElem_cons_zero, List.getElem_cons_succ, Act.put, List.setIfInBounds_toArray, List.set_cons_zero, List.set_cons_succ]
  refine wpAnyH_take (i := 23) (v := .pointer (some ⟨g, 1, none⟩)) rfl (by kernel_rfl) (by kernel_rfl) (by kernel_rfl) (fun _ _ _ h => h) (Or.inl ⟨by first | rfl | go_simp, by intro w9 hSw; (try dsimp only at hSw); go_simp⟩) (by assumption) ?_
  simp only [List.getElem_toArray, List.getElem_cons_zero, List.getElem_cons_succ, Act.put, List.setIfInBounds_toArray, List.set_cons_zero, List.set_cons_succ]
  refine wpAnyH_ready (rs := [24]) (by kernel_rfl) (by simp) ?_
  refine AllReadyH.cons rfl (fun K hK => ?_) (AllReadyH.nil)
  have c90 := KC.cell 1
  have f90 := Av.bfrz KC 1
  have c91 := KC.cell 2
  have f91 := Av.bfrz KC 2
  have c92 := KC.cell 3
  have f92 := Av.bfrz KC 3
  have c93 := KC.cell 4
  have f93 := Av.bfrz KC 4
  have c94 := KC.cell 5
  have f94 := Av.bfrz KC 5
  go_simp
  replace GR := (chg_cell (chg_cell (chg_cell (chg_cell (chg_cell GR 1 (.int .i64 (IntKind.i64.wrap z0))) 2 (.int .i64 (IntKind.i64.wrap z1))) 3 (.int .i64 (IntKind.i64.wrap z2))) 4 (.int .i64 (IntKind.i64.wrap z3))) 5 (.int .i64 (IntKind.i64.wrap z4)))
  replace TT := And.intro (far_cell (far_cell (far_cell (far_cell (far_cell TT.1 hne 1 (.int .i64 (IntKind.i64.wrap z0))) hne 2 (.int .i64 (IntKind.i64.wrap z1))) hne 3 (.int .i64 (IntKind.i64.wrap z2))) hne 4 (.int .i64 (IntKind.i64.wrap z3))) hne 5 (.int .i64 (IntKind.i64.wrap z4))) (And.intro (far_cell (far_cell (far_cell (far_cell (far_cell TT.2.1 hne 1 (.int .i64 (IntKind.i64.wrap z0))) hne 2 (.int .i64 (IntKind.i64.wrap z1))) hne 3 (.int .i64 (IntKind.i64.wrap z2))) hne 4 (.int .i64 (IntKind.i64.wrap z3))) hne 5 (.int .i64 (IntKind.i64.wrap z4))) (And.intro (far_cell (far_cell (far_cell (far_cell (far_cell TT.2.2.1 hne 1 (.int .i64 (IntKind.i64.wrap z0))) hne 2 (.int .i64 (IntKind.i64.wrap z1))) hne 3 (.int .i64 (IntKind.i64.wrap z2))) hne 4 (.int .i64 (IntKind.i64.wrap z3))) hne 5 (.int .i64 (IntKind.i64.wrap z4))) (And.intro (far_cell (far_cell (far_cell (far_cell (far_cell TT.2.2.2.1 hne 1 (.int .i64 (IntKind.i64.wrap z0))) hne 2 (.int .i64 (IntKind.i64.wrap z1))) hne 3 (.int .i64 (IntKind.i64.wrap z2))) hne 4 (.int .i64 (IntKind.i64.wrap z3))) hne 5 (.int .i64 (IntKind.i64.wrap z4))) (far_cell (far_cell (far_cell (far_cell (far_cell TT.2.2.2.2 hne 1 (.int .i64 (IntKind.i64.wrap z0))) hne 2 (.int .i64 (IntKind.i64.wrap z1))) hne 3 (.int .i64 (IntKind.i64.wrap z2))) hne 4 (.int .i64 (IntKind.i64.wrap z3))) hne 5 (.int .i64 (IntKind.i64.wrap z4))))))
  replace KC : Blk (((((X0.setCell ⟨g, 1, none⟩ (.int .i64 (IntKind.i64.wrap z0))).setCell ⟨g, 2, none⟩ (.int .i64 (IntKind.i64.wrap z1))).setCell ⟨g, 3, none⟩ (.int .i64 (IntKind.i64.wrap z2))).setCell ⟨g, 4, none⟩ (.int .i64 (IntKind.i64.wrap z3))).setCell ⟨g, 5, none⟩ (.int .i64 (IntKind.i64.wrap z4))) (g) 57 #[.int .i64 c.k, .int .i64 (IntKind.i64.wrap z0), .int .i64 (IntKind.i64.wrap z1), .int .i64 (IntKind.i64.wrap z2), .int .i64 (IntKind.i64.wrap z3), .int .i64 (IntKind.i64.wrap z4), .int .u64 (c.m : Int), .int .u16 c.ins, .int .i64 c.rs, .int .i64 c.rj, .int .u64 c.st, .int .u64 c.mr, .int .u64 c.ft, .int .i64 c.vs, .int .i64 c.ln] := (Av.bset (Av.bset (Av.bset (Av.bset (Av.bset KC 1 (.int .i64 (IntKind.i64.wrap z0)) rfl) 2 (.int .i64 (IntKind.i64.wrap z1)) rfl) 3 (.int .i64 (IntKind.i64.wrap z2)) rfl) 4 (.int .i64 (IntKind.i64.wrap z3)) rfl) 5 (.int .i64 (IntKind.i64.wrap z4)) rfl)
  replace BX : Below 0 w (((((X0.setCell ⟨g, 1, none⟩ (.int .i64 (IntKind.i64.wrap z0))).setCell ⟨g, 2, none⟩ (.int .i64 (IntKind.i64.wrap z1))).setCell ⟨g, 3, none⟩ (.int .i64 (IntKind.i64.wrap z2))).setCell ⟨g, 4, none⟩ (.int .i64 (IntKind.i64.wrap z3))).setCell ⟨g, 5, none⟩ (.int .i64 (IntKind.i64.wrap z4))) := (((((BX.setCell (p := ⟨g, 1, none⟩) (by simp only; omega) _).setCell (p := ⟨g, 2, none⟩) (by simp only; omega) _).setCell (p := ⟨g, 3, none⟩) (by simp only; omega) _).setCell (p := ⟨g, 4, none⟩) (by simp only; omega) _).setCell (p := ⟨g, 5, none⟩) (by simp only; omega) _)
  clear c90 f90 c91 f91 c92 f92 c93 f93 c94 f94
  generalize (((((X0.setCell ⟨g, 1, none⟩ (.int .i64 (IntKind.i64.wrap z0))).setCell ⟨g, 2, none⟩ (.int .i64 (IntKind.i64.wrap z1))).setCell ⟨g, 3, none⟩ (.int .i64 (IntKind.i64.wrap z2))).setCell ⟨g, 4, none⟩ (.int .i64 (IntKind.i64.wrap z3))).setCell ⟨g, 5, none⟩ (.int .i64 (IntKind.i64.wrap z4))) = X1 at *
  refine hK.out _ _ TT (fun hHeld => ?_)
  clear hK K
  try simp only [List.getElem_toArray, List.getElem_cons_zero, List.getElem_cons_succ, Act.put, List.setIfInBounds_toArray, List.set_cons_zero, List.set_cons_succ]
  refine wpAnyH_done (by kernel_rfl) ?_ _
  clear hHeld
  go_wp2_with fail
  refine bodyPost_end (results_none rfl _ _ _) rfl ?_
  exact ⟨⟨_, rfl⟩, KC, GR⟩
set_option maxRecDepth 100000 in
set_option maxHeartbeats 4000000 in
theorem set_im (c : Ct) (z0 : Int) (g ba oa cc : Nat) (w : World) (KC : Blk w g 57 (encC c)) (hne : ba ≠ g) (hr : Ints .u64 w w.heap.size (some ⟨ba, oa, none⟩) [z0])  :
    Calls Try.prog 93 #[.pointer (some ⟨g, 0, none⟩), .slice (some ⟨ba, oa, none⟩) 1 cc] w fun e w' => Sets w w' e g (setP .im c [z0]) := by
  obtain ⟨b9, o9, e9, hb9, hc9⟩ : ∃ b' o', (some ⟨ba, oa, none⟩ : Option Addr) = some ⟨b', o', none⟩ ∧ b' < w.heap.size ∧ ∀ j, j < 1 → w.cell? ⟨b', o' + j, none⟩ = some (.int .u64 ([z0].getD j 0)) := by
    rcases hr with h | ⟨b', o', e, hb, hc⟩
    · cases h
    · exact ⟨b', o', e, hb, hc⟩
  obtain ⟨rfl, rfl⟩ : ba = b9 ∧ oa = o9 := by injection e9 with e9; injection e9 with h1 h2; exact ⟨h1, h2⟩
  have TT : w.cell? ⟨ba, oa, none⟩ = some (.int .u64 z0) := hc9 0 (by decide)
  clear hc9 hr e9 hb9
  have GR := chg_refl w (some g)
  show Calls _ _ _ _ fun e w' => (∃ v, e = .returned v) ∧ Blk w' g 57 #[.int .i64 c.k, .int .i64 c.ws, .int .i64 c.wo, .int .i64 c.it, .int .i64 c.la, .int .i64 c.ti, .int .u64 (c.m : Int), .int .u16 (IntKind.u16.wrap z0), .int .i64 c.rs, .int .i64 c.rj, .int .u64 c.st, .int .u64 c.mr, .int .u64 c.ft, .int .i64 c.vs, .int .i64 c.ln] ∧ w.grownBy w' (some g)
  replace KC : Blk w g 57 #[.int .i64 c.k, .int .i64 c.ws, .int .i64 c.wo, .int .i64 c.it, .int .i64 c.la, .int .i64 c.ti, .int .u64 (c.m : Int), .int .u16 c.ins, .int .i64 c.rs, .int .i64 c.rj, .int .u64 c.st, .int .u64 c.mr, .int .u64 c.ft, .int .i64 c.vs, .int .i64 c.ln] := KC
  go_enter Try.func93, Try.ntmps93
  go_wp2_with (refine Av.wpList_store_cell rfl _ _ _ rfl g 7 (.int .u16 (IntKind.u16.wrap z0)) rfl rfl 57 _ KC (by show 7 < 15; decide) (by kernel_rfl) rfl ?_)
  refine bodyPost_end (results_none rfl _ _ _) rfl ?_
  exact ⟨⟨_, rfl⟩, Av.bset KC 7 (.int .u16 (IntKind.u16.wrap z0)) rfl, chg_cell GR 7 (.int .u16 (IntKind.u16.wrap z0))⟩
set_option maxRecDepth 100000 in
set_option maxHeartbeats 4000000 in
theorem set_ch (c : Ct) (z0 : Int) (g ba oa cc : Nat) (w : World) (KC : Blk w g 57 (encC c)) (hne : ba ≠ g) (hr : Ints .u64 w w.heap.size (some ⟨ba, oa, none⟩) [z0]) (hz : 0 ≤ z0) :
    Calls Try.prog 95 #[.pointer (some ⟨g, 0, none⟩), .slice (some ⟨ba, oa, none⟩) 1 cc] w fun e w' => Sets w w' e g (setP .ch c [z0]) := by
  obtain ⟨b9, o9, e9, hb9, hc9⟩ : ∃ b' o', (some ⟨ba, oa, none⟩ : Option Addr) = some ⟨b', o', none⟩ ∧ b' < w.heap.size ∧ ∀ j, j < 1 → w.cell? ⟨b', o' + j, none⟩ = some (.int .u64 ([z0].getD j 0)) := by
    rcases hr with h | ⟨b', o', e, hb, hc⟩
    · cases h
    · exact ⟨b', o', e, hb, hc⟩
  obtain ⟨rfl, rfl⟩ : ba = b9 ∧ oa = o9 := by injection e9 with e9; injection e9 with h1 h2; exact ⟨h1, h2⟩
  have TT : w.cell? ⟨ba, oa, none⟩ = some (.int .u64 z0) := hc9 0 (by decide)
  clear hc9 hr e9 hb9
  have hz9 : ((z0.toNat : Nat) : Int) = z0 := by omega
  have GR := chg_refl w (some g)
  show Calls _ _ _ _ fun e w' => (∃ v, e = .returned v) ∧ Blk w' g 57 #[.int .i64 c.k, .int .i64 c.ws, .int .i64 c.wo, .int .i64 c.it, .int .i64 c.la, .int .i64 c.ti, .int .u64 ((z0.toNat : Nat) : Int), .int .u16 c.ins, .int .i64 c.rs, .int .i64 c.rj, .int .u64 c.st, .int .u64 c.mr, .int .u64 c.ft, .int .i64 c.vs, .int .i64 c.ln] ∧ w.grownBy w' (some g)
  replace KC : Blk w g 57 #[.int .i64 c.k, .int .i64 c.ws, .int .i64 c.wo, .int .i64 c.it, .int .i64 c.la, .int .i64 c.ti, .int .u64 (c.m : Int), .int .u16 c.ins, .int .i64 c.rs, .int .i64 c.rj, .int .u64 c.st, .int .u64 c.mr, .int .u64 c.ft, .int .i64 c.vs, .int .i64 c.ln] := KC
  rw [hz9]
  go_enter Try.func95, Try.ntmps95
  go_wp2_with (refine Av.wpList_store_cell rfl _ _ _ rfl g 6 (.int .u64 z0) rfl rfl 57 _ KC (by show 6 < 15; decide) (by kernel_rfl) rfl ?_)
  refine bodyPost_end (results_none rfl _ _ _) rfl ?_
  exact ⟨⟨_, rfl⟩, Av.bset KC 6 (.int .u64 z0) rfl, chg_cell GR 6 (.int .u64 z0)⟩
end Go.Proofs.Ytpoagepchlfemaa.Cp
