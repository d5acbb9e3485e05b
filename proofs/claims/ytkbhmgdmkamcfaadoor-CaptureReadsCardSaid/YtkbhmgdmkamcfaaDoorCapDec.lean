/- The record with given bytes: the layer's answer. -/
import Derived.Test.YtkbhmgdmkamcfaaDoorCapRd1
import Derived.Test.YtkbhmgdmkamcfaaDoorCapWrite
import Derived.Test.YtkbhmgdmkamcfaaDoorOctTake
set_option linter.unusedVariables false
set_option linter.unusedSimpArgs false
namespace Go.Proofs.YtkbhmgdmkamcfaaDoor.Cap
open Go.RowKit Mem Rw Air Base Oct

theorem set_five5 {X : World} {W : World} {g : Nat} {t : TypeId} {z0 z1 z2 z3 z4 : Value} (v0 v1 v2 v3 v4 : Value) (hb : Blk X g t #[z0, z1, z2, z3, z4]) (bb : Below W.heap.size W X) (hg : W.heap.size ≤ g) :
    ((((((X.setCell ⟨g, 0, none⟩ v0).setCell ⟨g, 1, none⟩ v1).setCell ⟨g, 2, none⟩ v2).setCell ⟨g, 3, none⟩ v3).setCell ⟨g, 4, none⟩ v4).cell? ⟨g, 0, none⟩ = some v0 ∧ (((((X.setCell ⟨g, 0, none⟩ v0).setCell ⟨g, 1, none⟩ v1).setCell ⟨g, 2, none⟩ v2).setCell ⟨g, 3, none⟩ v3).setCell ⟨g, 4, none⟩ v4).cell? ⟨g, 1, none⟩ = some v1 ∧ (((((X.setCell ⟨g, 0, none⟩ v0).setCell ⟨g, 1, none⟩ v1).setCell ⟨g, 2, none⟩ v2).setCell ⟨g, 3, none⟩ v3).setCell ⟨g, 4, none⟩ v4).cell? ⟨g, 2, none⟩ = some v2 ∧ (((((X.setCell ⟨g, 0, none⟩ v0).setCell ⟨g, 1, none⟩ v1).setCell ⟨g, 2, none⟩ v2).setCell ⟨g, 3, none⟩ v3).setCell ⟨g, 4, none⟩ v4).cell? ⟨g, 3, none⟩ = some v3 ∧ (((((X.setCell ⟨g, 0, none⟩ v0).setCell ⟨g, 1, none⟩ v1).setCell ⟨g, 2, none⟩ v2).setCell ⟨g, 3, none⟩ v3).setCell ⟨g, 4, none⟩ v4).cell? ⟨g, 4, none⟩ = some v4) ∧ Below W.heap.size W (((((X.setCell ⟨g, 0, none⟩ v0).setCell ⟨g, 1, none⟩ v1).setCell ⟨g, 2, none⟩ v2).setCell ⟨g, 3, none⟩ v3).setCell ⟨g, 4, none⟩ v4) := by
  have b1 := blk_setc (blk_setc (blk_setc (blk_setc (blk_setc hb 0 v0) 1 v1) 2 v2) 3 v3) 4 v4
  refine ⟨⟨?_, ?_, ?_, ?_, ?_⟩, ((((bb.setCell (p := ⟨g, 0, none⟩) hg _).setCell (p := ⟨g, 1, none⟩) hg _).setCell (p := ⟨g, 2, none⟩) hg _).setCell (p := ⟨g, 3, none⟩) hg _).setCell (p := ⟨g, 4, none⟩) hg _⟩
  · rw [b1.cell 0]; simp
  · rw [b1.cell 1]; simp
  · rw [b1.cell 2]; simp
  · rw [b1.cell 3]; simp
  · rw [b1.cell 4]; simp
theorem blk_five {X : World} {g : Nat} {t : TypeId} {z0 z1 z2 z3 z4 : Value} (hb : Blk X g t #[z0, z1, z2, z3, z4]) : X.cell? ⟨g, 0, none⟩ = some z0 ∧ X.cell? ⟨g, 1, none⟩ = some z1 ∧ X.cell? ⟨g, 2, none⟩ = some z2 ∧ X.cell? ⟨g, 3, none⟩ = some z3 ∧ X.cell? ⟨g, 4, none⟩ = some z4 ∧
    X.frozen? ⟨g, 0, none⟩ = false ∧ X.frozen? ⟨g, 1, none⟩ = false ∧ X.frozen? ⟨g, 2, none⟩ = false ∧ X.frozen? ⟨g, 3, none⟩ = false ∧ X.frozen? ⟨g, 4, none⟩ = false :=
  ⟨hb.cell 0, hb.cell 1, hb.cell 2, hb.cell 3, hb.cell 4, frozen_of_row X _ 0 _ _ hb, frozen_of_row X _ 1 _ _ hb, frozen_of_row X _ 2 _ _ hb, frozen_of_row X _ 3 _ _ hb, frozen_of_row X _ 4 _ _ hb⟩
theorem own_five {X : World} {g base n : Nat} {e : TypeId} {v : Value} {xs : List Value} (v0 v1 v2 v3 v4 : Value) (h : g < base ∧ X.ownsRow base e 1 v n xs) : (((((X.setCell ⟨g, 0, none⟩ v0).setCell ⟨g, 1, none⟩ v1).setCell ⟨g, 2, none⟩ v2).setCell ⟨g, 3, none⟩ v3).setCell ⟨g, 4, none⟩ v4).ownsRow base e 1 v n xs :=
  ownsRow_setCell_below (ownsRow_setCell_below (ownsRow_setCell_below (ownsRow_setCell_below (ownsRow_setCell_below h.2 (a := ⟨g, 0, none⟩) h.1 _) (a := ⟨g, 1, none⟩) h.1 _) (a := ⟨g, 2, none⟩) h.1 _) (a := ⟨g, 3, none⟩) h.1 _) (a := ⟨g, 4, none⟩) h.1 _
theorem own_at_least {w : World} {base b off n c size : Nat} {e : TypeId} {xs : List Value} (h : w.ownsRow base e size (.slice (some ⟨b, off, none⟩) n c) n xs) : base ≤ b := by
  rcases h.2 with ⟨hv, _⟩ | ⟨g, cap, cur, hv, hbg, _⟩
  · injection hv with h1; cases h1
  · injection hv with h1; injection h1 with h1; injection h1 with h1; omega
theorem five_other {X : World} {g b o : Nat} (v0 v1 v2 v3 v4 : Value) (h : b ≠ g) : (((((X.setCell ⟨g, 0, none⟩ v0).setCell ⟨g, 1, none⟩ v1).setCell ⟨g, 2, none⟩ v2).setCell ⟨g, 3, none⟩ v3).setCell ⟨g, 4, none⟩ v4).cell? ⟨b, o, none⟩ = X.cell? ⟨b, o, none⟩ := by
  have ne : ∀ q : Nat, (⟨g, q, none⟩ : Addr) ≠ ⟨b, o, none⟩ := fun q e => by injection e with e1 _; exact h e1.symm
  rw [World.cell?_setCell_other _ _ _ _ (ne 4), World.cell?_setCell_other _ _ _ _ (ne 3), World.cell?_setCell_other _ _ _ _ (ne 2), World.cell?_setCell_other _ _ _ _ (ne 1), World.cell?_setCell_other _ _ _ _ (ne 0)]
/-- The numbers of a record's bytes. -/
def nmZ (zs : List Int) (i : Nat) : Int := (numsL zs [8, 1, 1, 1, 2]).getD i 0
/-- The record with given bytes. -/
def decR (zs : List Int) : Tr := ⟨IntKind.i64.wrap (nmZ zs 0), IntKind.i64.wrap (nmZ zs 1), IntKind.i64.wrap (nmZ zs 2), IntKind.i64.wrap (nmZ zs 3), zs.drop 13⟩
theorem take13 {zs : List Int} (h : 13 ≤ zs.length) : takeR zs [8, 1, 1, 1, 2] = (numsL zs [8, 1, 1, 1, 2], zs.drop 13, 0) := by
  unfold takeR
  rw [if_pos (by decide), if_neg (by show ¬ (zs.length : Int) < 13; omega)]
  rfl
theorem nums5 (zs : List Int) : numsL zs [8, 1, 1, 1, 2] = [nmZ zs 0, nmZ zs 1, nmZ zs 2, nmZ zs 3, nmZ zs 4] := rfl
set_option maxRecDepth 100000 in
set_option maxHeartbeats 8000000 in
theorem decode_any (A : Option Addr) (n c : Nat) (zs : List Int) (w : World) (hz : zs.length = n) (h13 : 13 ≤ n) (hnc : n ≤ c) (hn : n ≤ 140737488351232) (bz : Bytes zs) (hi : Ints .u8 w w.heap.size A zs) :
    Calls Tryd.prog 65 #[.slice A n c] w fun e w' => ∃ bA bc, e = .returned (.agg #[.int .i64 (decR zs).id, .int .i64 (decR zs).frm, .int .i64 (decR zs).ch, .int .i64 (decR zs).st, .slice bA (n - 13) bc]) ∧ w'.ownsRow (w.heap.size + 1) 5 1 (.slice bA (n - 13) bc) (n - 13) ((zs.drop 13).map (Value.int .u8)) ∧ Below w.heap.size w w' := by
  have HTk : Hid (∀ (w' : World) (A' : Option Addr), Below w.heap.size w w' → w.heap.size + 1 ≤ w'.heap.size → Ints .i64 w' w'.heap.size A' [8, 1, 1, 1, 2] → Calls Tryd.prog 81 #[.slice A n c, .slice A' 5 5] w' fun e w2 => ∃ b1 o1 c1 bA bc, e = .returned (.tuple #[.slice (some ⟨b1, o1, none⟩) 5 c1, .slice bA (n - 13) bc, .int .i64 0]) ∧ b1 ≠ w.heap.size ∧
      (w2.cell? ⟨b1, o1, none⟩ = some (.int .u64 (nmZ zs 0)) ∧ w2.cell? ⟨b1, o1 + 1, none⟩ = some (.int .u64 (nmZ zs 1)) ∧ w2.cell? ⟨b1, o1 + 2, none⟩ = some (.int .u64 (nmZ zs 2)) ∧ w2.cell? ⟨b1, o1 + 3, none⟩ = some (.int .u64 (nmZ zs 3))) ∧ w2.ownsRow (w.heap.size + 1) 5 1 (.slice bA (n - 13) bc) (n - 13) ((zs.drop 13).map (Value.int .u8)) ∧ Below w'.heap.size w' w2) := Lib.hid fun w' A' bx hsz hA => by
    refine (Oct.take_any A A' n 5 c 5 zs [8, 1, 1, 1, 2] w' hz rfl hnc (by omega) (by decide) bz (by intro z hz; simp at hz; rcases hz with rfl | rfl | rfl <;> decide) (later hi bx) hA).mono ?_
    rintro e w2 ⟨A1, c1, bA, bc, he, o1, o2, hb⟩
    rw [take13 (by omega)] at he o1 o2
    simp only [List.length_drop, hz] at he o1 o2
    rw [nums5] at he o1
    have hI := Ints.own o1
    rcases hI with hI | ⟨b, off, rfl, hlt, hc⟩
    · cases hI
    · exact ⟨b, off, c1, bA, bc, he, by have := own_at_least o1; omega, ⟨hc 0 (by show 0 < 5; omega), hc 1 (by show 1 < 5; omega), hc 2 (by show 2 < 5; omega), hc 3 (by show 3 < 5; omega)⟩, own_base o2 hsz, hb⟩
  unfold decR
  simp only
  generalize nmZ zs 0 = u0 at *
  generalize nmZ zs 1 = u1 at *
  generalize nmZ zs 2 = u2 at *
  generalize nmZ zs 3 = u3 at *
  generalize zs.drop 13 = ds at *
  have B0 : Below w.heap.size w ((w.alloc (.cells #[.int .i64 0, .int .i64 0, .int .i64 0, .int .i64 0, .slice none 0 0] 52)).alloc (.cells #[.int .i64 8, .int .i64 1, .int .i64 1, .int .i64 1, .int .i64 2] 3)) := ((Below.refl _ w).alloc (Nat.le_refl _) _).alloc (by simp) _
  have HRB : Hid (∀ X, Below ((w.alloc (.cells #[.int .i64 0, .int .i64 0, .int .i64 0, .int .i64 0, .slice none 0 0] 52)).alloc (.cells #[.int .i64 8, .int .i64 1, .int .i64 1, .int .i64 1, .int .i64 2] 3)).heap.size ((w.alloc (.cells #[.int .i64 0, .int .i64 0, .int .i64 0, .int .i64 0, .slice none 0 0] 52)).alloc (.cells #[.int .i64 8, .int .i64 1, .int .i64 1, .int .i64 1, .int .i64 2] 3)) X → Blk X w.heap.size 52 #[.int .i64 0, .int .i64 0, .int .i64 0, .int .i64 0, .slice none 0 0]) := Lib.hid fun X bb => ((Blk.fresh w 52 #[.int .i64 0, .int .i64 0, .int .i64 0, .int .i64 0, .slice none 0 0]).alloc _).below bb (by simp; omega)
  have hI5 : Ints .i64 ((w.alloc (.cells #[.int .i64 0, .int .i64 0, .int .i64 0, .int .i64 0, .slice none 0 0] 52)).alloc (.cells #[.int .i64 8, .int .i64 1, .int .i64 1, .int .i64 1, .int .i64 2] 3)) ((w.alloc (.cells #[.int .i64 0, .int .i64 0, .int .i64 0, .int .i64 0, .slice none 0 0] 52)).alloc (.cells #[.int .i64 8, .int .i64 1, .int .i64 1, .int .i64 1, .int .i64 2] 3)).heap.size (some ⟨w.heap.size + 1, 0, none⟩) [8, 1, 1, 1, 2] := by
    have := lit1 .i64 (w.alloc (.cells #[.int .i64 0, .int .i64 0, .int .i64 0, .int .i64 0, .slice none 0 0] 52)) [8, 1, 1, 1, 2] #[.int .i64 8, .int .i64 1, .int .i64 1, .int .i64 1, .int .i64 2] 3 rfl
    simpa using this
  have hsz : w.heap.size + 1 ≤ ((w.alloc (.cells #[.int .i64 0, .int .i64 0, .int .i64 0, .int .i64 0, .slice none 0 0] 52)).alloc (.cells #[.int .i64 8, .int .i64 1, .int .i64 1, .int .i64 1, .int .i64 2] 3)).heap.size := by simp
  clear bz hi hz
  go_enter Tryd.func65, Tryd.ntmps65
  go_wp2_with fail
  generalize (w.alloc (.cells #[.int .i64 0, .int .i64 0, .int .i64 0, .int .i64 0, .slice none 0 0] 52)).alloc (.cells #[.int .i64 8, .int .i64 1, .int .i64 1, .int .i64 1, .int .i64 2] 3) = W at *
  go_at_call 81
  refine (HTk.out _ _ B0 hsz hI5).mono ?_
  rintro e V ⟨b1, o1, c1, bA, bc, rfl, hne, ⟨m0, m1, m2, m3⟩, hO, bV⟩
  have BV := thenB B0 bV
  have HRB2 : Hid (∀ X, Below V.heap.size V X → Blk X w.heap.size 52 #[.int .i64 0, .int .i64 0, .int .i64 0, .int .i64 0, .slice none 0 0]) := Lib.hid fun X bb => HRB.out X (thenB bV bb)
  have HS : Hid (∀ X, Below V.heap.size V X → X.cell? ⟨b1, o1, none⟩ = some (.int .u64 u0) ∧ X.cell? ⟨b1, o1 + 1, none⟩ = some (.int .u64 u1) ∧ X.cell? ⟨b1, o1 + 2, none⟩ = some (.int .u64 u2) ∧ X.cell? ⟨b1, o1 + 3, none⟩ = some (.int .u64 u3)) := Lib.hid fun X bb => ⟨One_below m0 bb, One_below m1 bb, One_below m2 bb, One_below m3 bb⟩
  have HOw : Hid (∀ X, Below V.heap.size V X → w.heap.size < w.heap.size + 1 ∧ X.ownsRow (w.heap.size + 1) 5 1 (.slice bA (n - 13) bc) (n - 13) (ds.map (Value.int .u8))) := Lib.hid fun X bb => ⟨by omega, own_below hO bb⟩
  clear HRB HTk hI5 hsz bV B0 hO m0 m1 m2 m3
  have HRB := HRB2
  clear HRB2
  go_wp2_with fail
  refine wp_region_held_drew (S := (fun w' => w'.cell? ⟨b1, o1, none⟩ = some (.int .u64 u0) ∧ w'.cell? ⟨b1, o1 + 1, none⟩ = some (.int .u64 u1) ∧ w'.cell? ⟨b1, o1 + 2, none⟩ = some (.int .u64 u2) ∧ w'.cell? ⟨b1, o1 + 3, none⟩ = some (.int .u64 u3))) (by kernel_rfl) ?_ (fun hHeld => ?_)
  · exact HS.out _ (Below.refl _ _).drew
  have BX : Below V.heap.size V V.drew := (Below.refl _ _).drew
  have BX' : Below w.heap.size w V.drew := BV.drew
  generalize V.drew = X0 at *
  refine wpAnyH_take (i := 0) (v := .slice (some ⟨b1, o1, none⟩) 5 c1) rfl (by kernel_rfl) (by kernel_rfl) (by kernel_rfl) (fun _ _ _ h => h) (Or.inl ⟨by first | rfl | go_simp, by intro w9 hSw; (try dsimp only at hSw); go_simp⟩) (by assumption) ?_
  simp only [List.getElem_toArray, List.getElem_cons_zero, List.getElem_cons_succ, Act.put, List.setIfInBounds_toArray, List.set_cons_zero, List.set_cons_succ]
  refine wpAnyH_take (i := 1) (v := .pointer (some ⟨b1, o1, none⟩)) rfl (by kernel_rfl) (by kernel_rfl) (by kernel_rfl) (fun _ _ _ h => h) (Or.inl ⟨by first | rfl | go_simp, by intro w9 hSw; (try dsimp only at hSw); go_simp⟩) (by assumption) ?_
  simp only [List.getElem_toArray, List.getElem_cons_zero, List.getElem_cons_succ, Act.put, List.setIfInBounds_toArray, List.set_cons_zero, List.set_cons_succ]
  refine wpAnyH_take (i := 2) (v := .int .u64 u0) rfl (by kernel_rfl) (by kernel_rfl) (by kernel_rfl) (fun _ _ _ h => h) (Or.inl ⟨by first | rfl | go_simp, by intro w9 hSw; (try dsimp only at hSw); go_simp⟩) (by assumption) ?_
  simp only [List.getElem_toArray, List.getElem_cons_zero, List.getElem_cons_succ, Act.put, List.setIfInBounds_toArray, List.set_cons_zero, List.set_cons_succ]
  refine wpAnyH_take (i := 3) (v := .int .i64 (IntKind.i64.wrap u0)) rfl (by kernel_rfl) (by kernel_rfl) (by kernel_rfl) (fun _ _ _ h => h) (Or.inl ⟨by first | rfl | go_simp, by intro w9 hSw; (try dsimp only at hSw); go_simp⟩) (by assumption) ?_
  simp only [List.getElem_toArray, List.getElem_cons_zero, List.getElem_cons_succ, Act.put, List.setIfInBounds_toArray, List.set_cons_zero, List.set_cons_succ]
  refine wpAnyH_take (i := 4) (v := .slice (some ⟨b1, o1, none⟩) 5 c1) rfl (by kernel_rfl) (by kernel_rfl) (by kernel_rfl) (fun _ _ _ h => h) (Or.inl ⟨by first | rfl | go_simp, by intro w9 hSw; (try dsimp only at hSw); go_simp⟩) (by assumption) ?_
  simp only [List.getElem_toArray, List.getElem_cons_zero, List.getElem_cons_succ, Act.put, List.setIfInBounds_toArray, List.set_cons_zero, List.set_cons_succ]
  refine wpAnyH_take (i := 5) (v := .pointer (some ⟨b1, o1 + 1, none⟩)) rfl (by kernel_rfl) (by kernel_rfl) (by kernel_rfl) (fun _ _ _ h => h) (Or.inl ⟨by first | rfl | go_simp, by intro w9 hSw; (try dsimp only at hSw); go_simp⟩) (by assumption) ?_
  simp only [List.getElem_toArray, List.getElem_cons_zero, List.getElem_cons_succ, Act.put, List.setIfInBounds_toArray, List.set_cons_zero, List.set_cons_succ]
  refine wpAnyH_take (i := 6) (v := .int .u64 u1) rfl (by kernel_rfl) (by kernel_rfl) (by kernel_rfl) (fun _ _ _ h => h) (Or.inl ⟨by first | rfl | go_simp, by intro w9 hSw; (try dsimp only at hSw); go_simp⟩) (by assumption) ?_
  simp only [List.getElem_toArray, List.getElem_cons_zero, List.getElem_cons_succ, Act.put, List.setIfInBounds_toArray, List.set_cons_zero, List.set_cons_succ]
  refine wpAnyH_take (i := 7) (v := .int .i64 (IntKind.i64.wrap u1)) rfl (by kernel_rfl) (by kernel_rfl) (by kernel_rfl) (fun _ _ _ h => h) (Or.inl ⟨by first | rfl | go_simp, by intro w9 hSw; (try dsimp only at hSw); go_simp⟩) (by assumption) ?_
  simp only [List.getElem_toArray, List.getElem_cons_zero, List.getElem_cons_succ, Act.put, List.setIfInBounds_toArray, List.set_cons_zero, List.set_cons_succ]
  refine wpAnyH_take (i := 8) (v := .slice (some ⟨b1, o1, none⟩) 5 c1) rfl (by kernel_rfl) (by kernel_rfl) (by kernel_rfl) (fun _ _ _ h => h) (Or.inl ⟨by first | rfl | go_simp, by intro w9 hSw; (try dsimp only at hSw); go_simp⟩) (by assumption) ?_
  simp only [List.getElem_toArray, List.getElem_cons_zero, List.getElem_cons_succ, Act.put, List.setIfInBounds_toArray, List.set_cons_zero, List.set_cons_succ]
  refine wpAnyH_take (i := 9) (v := .pointer (some ⟨b1, o1 + 2, none⟩)) rfl (by kernel_rfl) (by kernel_rfl) (by kernel_rfl) (fun _ _ _ h => h) (Or.inl ⟨by first | rfl | go_simp, by intro w9 hSw; (try dsimp only at hSw); go_simp⟩) (by assumption) ?_
  simp only [List.getElem_toArray, List.getElem_cons_zero, List.getElem_cons_succ, Act.put, List.setIfInBounds_toArray, List.set_cons_zero, List.set_cons_succ]
  refine wpAnyH_take (i := 10) (v := .int .u64 u2) rfl (by kernel_rfl) (by kernel_rfl) (by kernel_rfl) (fun _ _ _ h => h) (Or.inl ⟨by first | rfl | go_simp, by intro w9 hSw; (try dsimp only at hSw); go_simp⟩) (by assumption) ?_
  simp only [List.getElem_toArray, List.getElem_cons_zero, List.getElem_cons_succ, Act.put, List.setIfInBounds_toArray, List.set_cons_zero, List.set_cons_succ]
  refine wpAnyH_take (i := 11) (v := .int .i64 (IntKind.i64.wrap u2)) rfl (by kernel_rfl) (by kernel_rfl) (by kernel_rfl) (fun _ _ _ h => h) (Or.inl ⟨by first | rfl | go_simp, by intro w9 hSw; (try dsimp only at hSw); go_simp⟩) (by assumption) ?_
  simp only [List.getElem_toArray, List.getElem_cons_zero, List.getElem_cons_succ, Act.put, List.setIfInBounds_toArray, List.set_cons_zero, List.set_cons_succ]
  refine wpAnyH_take (i := 12) (v := .slice (some ⟨b1, o1, none⟩) 5 c1) rfl (by kernel_rfl) (by kernel_rfl) (by kernel_rfl) (fun _ _ _ h => h) (Or.inl ⟨by first | rfl | go_simp, by intro w9 hSw; (try dsimp only at hSw); go_simp⟩) (by assumption) ?_
  simp only [List.getElem_toArray, List.getElem_cons_zero, List.getElem_cons_succ, Act.put, List.setIfInBounds_toArray, List.set_cons_zero, List.set_cons_succ]
  refine wpAnyH_take (i := 13) (v := .pointer (some ⟨b1, o1 + 3, none⟩)) rfl (by kernel_rfl) (by kernel_rfl) (by kernel_rfl) (fun _ _ _ h => h) (Or.inl ⟨by first | rfl | go_simp, by intro w9 hSw; (try dsimp only at hSw); go_simp⟩) (by assumption) ?_
  simp only [List.getElem_toArray, List.getElem_cons_zero, List.getElem_cons_succ, Act.put, List.setIfInBounds_toArray, List.set_cons_zero, List.set_cons_succ]
  refine wpAnyH_take (i := 14) (v := .int .u64 u3) rfl (by kernel_rfl) (by kernel_rfl) (by kernel_rfl) (fun _ _ _ h => h) (Or.inl ⟨by first | rfl | go_simp, by intro w9 hSw; (try dsimp only at hSw); go_simp⟩) (by assumption) ?_
  simp only [List.getElem_toArray, List.getElem_cons_zero, List.getElem_cons_succ, Act.put, List.setIfInBounds_toArray, List.set_cons_zero, List.set_cons_succ]
  refine wpAnyH_take (i := 15) (v := .int .i64 (IntKind.i64.wrap u3)) rfl (by kernel_rfl) (by kernel_rfl) (by kernel_rfl) (fun _ _ _ h => h) (Or.inl ⟨by first | rfl | go_simp, by intro w9 hSw; (try dsimp only at hSw); go_simp⟩) (by assumption) ?_
  simp only [List.getElem_toArray, List.getElem_cons_zero, List.getElem_cons_succ, Act.put, List.setIfInBounds_toArray, List.set_cons_zero, List.set_cons_succ]
  refine wpAnyH_take (i := 16) (v := .slice bA (n - 13) bc) rfl (by kernel_rfl) (by kernel_rfl) (by kernel_rfl) (fun _ _ _ h => h) (Or.inl ⟨by first | rfl | go_simp, by intro w9 hSw; (try dsimp only at hSw); go_simp⟩) (by assumption) ?_
  simp only [List.getElem_toArray, List.getElem_cons_zero, List.getElem_cons_succ, Act.put, List.setIfInBounds_toArray, List.set_cons_zero, List.set_cons_succ]
  refine wpAnyH_take (i := 17) (v := .agg #[.int .i64 (IntKind.i64.wrap u0), .int .i64 (IntKind.i64.wrap u1), .int .i64 (IntKind.i64.wrap u2), .int .i64 (IntKind.i64.wrap u3), .slice bA (n - 13) bc]) rfl (by kernel_rfl) (by kernel_rfl) (by kernel_rfl) (fun _ _ _ h => h) (Or.inl ⟨by first | rfl | go_simp, by intro w9 hSw; (try dsimp only at hSw); go_simp⟩) (by assumption) ?_
  simp only [List.getElem_toArray, List.getElem_cons_zero, List.getElem_cons_succ, Act.put, List.setIfInBounds_toArray, List.set_cons_zero, List.set_cons_succ]
  refine wpAnyH_ready (rs := [18]) (by kernel_rfl) (by simp) ?_
  refine AllReadyH.cons rfl (fun K hK => ?_) (AllReadyH.nil)
  have RB : Blk X0 w.heap.size 52 #[.int .i64 0, .int .i64 0, .int .i64 0, .int .i64 0, .slice none 0 0] := HRB.out _ BX
  have r0 := RB.cell 0
  have r1 := RB.cell 1
  have r2 := RB.cell 2
  have r3 := RB.cell 3
  have r4 := RB.cell 4
  obtain ⟨q0, q1, q2, q3, q4, z0, z1, z2, z3, z4⟩ := blk_five RB
  obtain ⟨⟨e0, e1, e2, e3, e4⟩, bY⟩ := set_five5 (.int .i64 (IntKind.i64.wrap u0)) (.int .i64 (IntKind.i64.wrap u1)) (.int .i64 (IntKind.i64.wrap u2)) (.int .i64 (IntKind.i64.wrap u3)) (.slice bA (n - 13) bc) RB BX' (Nat.le_refl _)
  have E5 := Lib.hid (And.intro e0 (And.intro e1 (And.intro e2 (And.intro e3 (And.intro e4 bY)))))
  have HS2 := Lib.hid (show (((((X0.setCell ⟨w.heap.size, 0, none⟩ (.int .i64 (IntKind.i64.wrap u0))).setCell ⟨w.heap.size, 1, none⟩ (.int .i64 (IntKind.i64.wrap u1))).setCell ⟨w.heap.size, 2, none⟩ (.int .i64 (IntKind.i64.wrap u2))).setCell ⟨w.heap.size, 3, none⟩ (.int .i64 (IntKind.i64.wrap u3))).setCell ⟨w.heap.size, 4, none⟩ (.slice bA (n - 13) bc)).cell? ⟨b1, o1, none⟩ = some (.int .u64 u0) ∧ (((((X0.setCell ⟨w.heap.size, 0, none⟩ (.int .i64 (IntKind.i64.wrap u0))).setCell ⟨w.heap.size, 1, none⟩ (.int .i64 (IntKind.i64.wrap u1))).setCell ⟨w.heap.size, 2, none⟩ (.int .i64 (IntKind.i64.wrap u2))).setCell ⟨w.heap.size, 3, none⟩ (.int .i64 (IntKind.i64.wrap u3))).setCell ⟨w.heap.size, 4, none⟩ (.slice bA (n - 13) bc)).cell? ⟨b1, o1 + 1, none⟩ = some (.int .u64 u1) ∧ (((((X0.setCell ⟨w.heap.size, 0, none⟩ (.int .i64 (IntKind.i64.wrap u0))).setCell ⟨w.heap.size, 1, none⟩ (.int .i64 (IntKind.i64.wrap u1))).setCell ⟨w.heap.size, 2, none⟩ (.int .i64 (IntKind.i64.wrap u2))).setCell ⟨w.heap.size, 3, none⟩ (.int .i64 (IntKind.i64.wrap u3))).setCell ⟨w.heap.size, 4, none⟩ (.slice bA (n - 13) bc)).cell? ⟨b1, o1 + 2, none⟩ = some (.int .u64 u2) ∧ (((((X0.setCell ⟨w.heap.size, 0, none⟩ (.int .i64 (IntKind.i64.wrap u0))).setCell ⟨w.heap.size, 1, none⟩ (.int .i64 (IntKind.i64.wrap u1))).setCell ⟨w.heap.size, 2, none⟩ (.int .i64 (IntKind.i64.wrap u2))).setCell ⟨w.heap.size, 3, none⟩ (.int .i64 (IntKind.i64.wrap u3))).setCell ⟨w.heap.size, 4, none⟩ (.slice bA (n - 13) bc)).cell? ⟨b1, o1 + 3, none⟩ = some (.int .u64 u3) from by rw [five_other _ _ _ _ _ hne, five_other _ _ _ _ _ hne, five_other _ _ _ _ _ hne, five_other _ _ _ _ _ hne]; exact HS.out _ BX)
  have OY := Lib.hid (own_five (.int .i64 (IntKind.i64.wrap u0)) (.int .i64 (IntKind.i64.wrap u1)) (.int .i64 (IntKind.i64.wrap u2)) (.int .i64 (IntKind.i64.wrap u3)) (.slice bA (n - 13) bc) (HOw.out _ BX))
  clear e0 e1 e2 e3 e4 bY r0 r1 r2 r3 r4
  go_simp
  generalize (((((X0.setCell ⟨w.heap.size, 0, none⟩ (.int .i64 (IntKind.i64.wrap u0))).setCell ⟨w.heap.size, 1, none⟩ (.int .i64 (IntKind.i64.wrap u1))).setCell ⟨w.heap.size, 2, none⟩ (.int .i64 (IntKind.i64.wrap u2))).setCell ⟨w.heap.size, 3, none⟩ (.int .i64 (IntKind.i64.wrap u3))).setCell ⟨w.heap.size, 4, none⟩ (.slice bA (n - 13) bc)) = X1 at *
  obtain ⟨e0, e1, e2, e3, e4, bY⟩ := E5.out
  refine hK.out _ _ (by first | exact HS.out _ BX | exact HS2.out) (fun hHeld => ?_)
  clear hK K
  try simp only [List.getElem_toArray, List.getElem_cons_zero, List.getElem_cons_succ, Act.put, List.setIfInBounds_toArray, List.set_cons_zero, List.set_cons_succ]
  refine wpAnyH_done (by kernel_rfl) ?_ _
  go_wp2_with fail
  refine bodyPost_ret (v := .agg #[.int .i64 (IntKind.i64.wrap u0), .int .i64 (IntKind.i64.wrap u1), .int .i64 (IntKind.i64.wrap u2), .int .i64 (IntKind.i64.wrap u3), .slice bA (n - 13) bc]) ?_ rfl ⟨bA, bc, rfl, OY.out, bY⟩
  simp [results, Tryd.f65, go_sem, e0, e1, e2, e3, e4]
end Go.Proofs.YtkbhmgdmkamcfaaDoor.Cap
