/- Control PDUs: parts in memory, and the functions that make them: contracts over the program. -/
import Derived.Test.YtpoagepchlfemaaCpSet
import Derived.Deep.Cut
set_option linter.unusedVariables false
set_option linter.unusedSimpArgs false
namespace Go.Proofs.Ytpoagepchlfemaa.Cp
open Go.RowKit Mem Oct Rw Av
open Base (thenB)
/-- Sizes in memory. -/
def SzAt (w : World) (S : Value) (zs : List Int) : Prop := ∃ g, S = .slice (some ⟨g, 0, none⟩) zs.length zs.length ∧ Blk w g 3 (zs.map (Value.int .i64)).toArray
def SmallAt (w : World) (V : Value) (ff : Nat) (lo hi : Int) : Prop := ∃ S b l h, V = .agg #[S, .func (.func 82) #[] #[.pointer (some ⟨b, 0, none⟩)], .func (.func 83) #[] #[.pointer (some ⟨b, 0, none⟩)], .func (.func 84) #[] #[.pointer (some ⟨b, 0, none⟩), .pointer (some ⟨l, 0, none⟩), .pointer (some ⟨h, 0, none⟩)]] ∧ SzAt w S [1] ∧ Blk w b 118 #[.func (.func ff) #[] #[]] ∧ Blk w l 3 #[.int .i64 lo] ∧ Blk w h 3 #[.int .i64 hi]
def LargeAt (w : World) (V : Value) (ff : Nat) : Prop := ∃ S b, V = .agg #[S, .func (.func 85) #[] #[.pointer (some ⟨b, 0, none⟩)], .func (.func 86) #[] #[.pointer (some ⟨b, 0, none⟩)], .func (.func 87) #[] #[]] ∧ SzAt w S [8] ∧ Blk w b 121 #[.func (.func ff) #[] #[]]
/-- A part in memory. -/
def PartAt (w : World) (V : Value) : Pt → Prop
  | .up => ∃ S, V = .agg #[S, .func (.func 88) #[] #[], .func (.func 89) #[] #[], .func (.func 90) #[] #[]] ∧ SzAt w S [1, 2, 2, 2, 2]
  | .im => ∃ S, V = .agg #[S, .func (.func 92) #[] #[], .func (.func 93) #[] #[], .func (.func 87) #[] #[]] ∧ SzAt w S [2]
  | .ch => ∃ S, V = .agg #[S, .func (.func 94) #[] #[], .func (.func 95) #[] #[], .func (.func 96) #[] #[]] ∧ SzAt w S [5]
  | .rs => SmallAt w V 63 0 255
  | .rj => SmallAt w V 64 0 255
  | .vs => SmallAt w V 65 0 255
  | .ln => SmallAt w V 66 27 251
  | .sa => LargeAt w V 68
  | .mk => LargeAt w V 69
  | .fe => LargeAt w V 70
/-- Blocks of cells of other types than a control PDU's, kept. -/
def Keeps (w w' : World) : Prop := ∀ (b : Nat) (t : TypeId) (cs : Array Value), (t = 3 ∨ t = 22 ∨ t = 118 ∨ t = 121 ∨ t = 107) → Blk w b t cs → Blk w' b t cs
theorem Keeps.refl (w : World) : Keeps w w := fun _ _ _ _ h => h
theorem Keeps.trans {a b c : World} (h : Keeps a b) (k : Keeps b c) : Keeps a c := fun _ _ _ ht hb => k _ _ _ ht (h _ _ _ ht hb)
theorem keeps_below {w w' : World} (h : Below w.heap.size w w') : Keeps w w' := fun _ _ _ _ hb => hb.below h hb.lt
theorem keeps_grown {w w' : World} {g : Nat} {c : Ct} (h : w.grownBy w' (some g)) (hg : Blk w g 57 (encC c)) : Keeps w w' := fun b t cs ht hb => by
  have hne : b ≠ g := by
    rintro rfl
    unfold Blk at hg hb
    rw [hg] at hb
    injection hb with hb
    injection hb with _ hb
    subst hb
    revert ht; decide
  unfold Blk at hb ⊢
  rw [h.block b (Blk.lt hb) (by simpa using hne)]; exact hb
theorem SzAt.keep {w w' : World} {S : Value} {zs : List Int} (h : SzAt w S zs) (k : Keeps w w') : SzAt w' S zs := by
  obtain ⟨g, e, hb⟩ := h
  exact ⟨g, e, k _ _ _ (by decide) hb⟩
theorem SmallAt.keep {w w' : World} {V : Value} {ff : Nat} {lo hi : Int} (h : SmallAt w V ff lo hi) (k : Keeps w w') : SmallAt w' V ff lo hi := by
  obtain ⟨S, b, l, g, e, hs, h1, h2, h3⟩ := h
  exact ⟨S, b, l, g, e, hs.keep k, k _ _ _ (by decide) h1, k _ _ _ (by decide) h2, k _ _ _ (by decide) h3⟩
theorem LargeAt.keep {w w' : World} {V : Value} {ff : Nat} (h : LargeAt w V ff) (k : Keeps w w') : LargeAt w' V ff := by
  obtain ⟨S, b, e, hs, h1⟩ := h
  exact ⟨S, b, e, hs.keep k, k _ _ _ (by decide) h1⟩
theorem PartAt.keep {w w' : World} {V : Value} {p : Pt} (h : PartAt w V p) (k : Keeps w w') : PartAt w' V p := by
  cases p
  · obtain ⟨S, e, h⟩ := h; exact ⟨S, e, h.keep k⟩
  · obtain ⟨S, e, h⟩ := h; exact ⟨S, e, h.keep k⟩
  · obtain ⟨S, e, h⟩ := h; exact ⟨S, e, h.keep k⟩
  · exact SmallAt.keep h k
  · exact SmallAt.keep h k
  · exact SmallAt.keep h k
  · exact SmallAt.keep h k
  · exact LargeAt.keep h k
  · exact LargeAt.keep h k
  · exact LargeAt.keep h k
set_option maxRecDepth 100000 in
set_option maxHeartbeats 4000000 in
theorem make_up (w : World) : Calls Try.prog 71 #[] w fun e w' => ∃ V, e = .returned (.agg V) ∧ V.size = 4 ∧ PartAt w' (.agg V) .up ∧ Below w.heap.size w w' := by
  have BX : Below w.heap.size w ((w.alloc (.cells #[.slice none 0 0, .nilFunc, .nilFunc, .nilFunc] 107)).alloc (.cells #[.int .i64 1, .int .i64 2, .int .i64 2, .int .i64 2, .int .i64 2] 3)) := ((Below.refl _ _).alloc (Nat.le_refl _) _).alloc (by simp) _
  have K1 : Blk ((w.alloc (.cells #[.slice none 0 0, .nilFunc, .nilFunc, .nilFunc] 107)).alloc (.cells #[.int .i64 1, .int .i64 2, .int .i64 2, .int .i64 2, .int .i64 2] 3)) w.heap.size 107 #[.slice none 0 0, .nilFunc, .nilFunc, .nilFunc] := (Blk.fresh w 107 #[.slice none 0 0, .nilFunc, .nilFunc, .nilFunc]).alloc _
  have K2 : Blk ((w.alloc (.cells #[.slice none 0 0, .nilFunc, .nilFunc, .nilFunc] 107)).alloc (.cells #[.int .i64 1, .int .i64 2, .int .i64 2, .int .i64 2, .int .i64 2] 3)) (w.heap.size + 1) 3 #[.int .i64 1, .int .i64 2, .int .i64 2, .int .i64 2, .int .i64 2] := Av.Blk.next
  have H1 : (#[.slice (some ⟨w.heap.size + 1, 0, none⟩) 5 5, .func (.func 88) #[] #[], .func (.func 89) #[] #[], .func (.func 90) #[] #[]] : Array Value).all (·.oneCell') = true := by rw [← Array.all_toList]; rfl
  go_enter Try.func71, Try.ntmps71
  go_wp2_with (refine wpList_store_row rfl 107 (.tmp 0) _ rfl w.heap.size #[.slice (some ⟨w.heap.size + 1, 0, none⟩) 5 5, .func (.func 88) #[] #[], .func (.func 89) #[] #[], .func (.func 90) #[] #[]] rfl rfl 107 _ K1 (by kernel_rfl) rfl H1 ?_)
  have KR := setRow_heap ((w.alloc (.cells #[.slice none 0 0, .nilFunc, .nilFunc, .nilFunc] 107)).alloc (.cells #[.int .i64 1, .int .i64 2, .int .i64 2, .int .i64 2, .int .i64 2] 3)) w.heap.size _ #[.slice (some ⟨w.heap.size + 1, 0, none⟩) 5 5, .func (.func 88) #[] #[], .func (.func 89) #[] #[], .func (.func 90) #[] #[]] 107 (0, 0) K1
  have BE := below_setRow BX (Nat.le_refl _) #[.slice (some ⟨w.heap.size + 1, 0, none⟩) 5 5, .func (.func 88) #[] #[], .func (.func 89) #[] #[], .func (.func 90) #[] #[]]
  have K3 := Av.bother_row (cs' := #[.slice (some ⟨w.heap.size + 1, 0, none⟩) 5 5, .func (.func 88) #[] #[], .func (.func 89) #[] #[], .func (.func 90) #[] #[]]) K2 (show w.heap.size ≠ w.heap.size + 1 by omega)
  generalize World.setRow ((w.alloc (.cells #[.slice none 0 0, .nilFunc, .nilFunc, .nilFunc] 107)).alloc (.cells #[.int .i64 1, .int .i64 2, .int .i64 2, .int .i64 2, .int .i64 2] 3)) w.heap.size #[.slice (some ⟨w.heap.size + 1, 0, none⟩) 5 5, .func (.func 88) #[] #[], .func (.func 89) #[] #[], .func (.func 90) #[] #[]] = Y at *
  refine bodyPost_ret (v := .agg #[.slice (some ⟨w.heap.size + 1, 0, none⟩) 5 5, .func (.func 88) #[] #[], .func (.func 89) #[] #[], .func (.func 90) #[] #[]]) ?_ rfl ⟨_, rfl, rfl, ⟨_, rfl, _, rfl, K3⟩, BE⟩
  have HL := run_loadVar_row (P := Try.prog) Y w.heap.size 107 107 #[.slice (some ⟨w.heap.size + 1, 0, none⟩) 5 5, .func (.func 88) #[] #[], .func (.func 89) #[] #[], .func (.func 90) #[] #[]] (0, 0) _ KR Try.underlying107 rfl (by kernel_rfl)
  generalize (#[.slice (some ⟨w.heap.size + 1, 0, none⟩) 5 5, .func (.func 88) #[] #[], .func (.func 89) #[] #[], .func (.func 90) #[] #[]] : Array Value) = CS at *
  simp [results, show (Try.f71).results = #[.cell 0 107] from rfl, asAddr, HL, Act.put]
set_option maxRecDepth 100000 in
set_option maxHeartbeats 4000000 in
theorem make_im (w : World) : Calls Try.prog 72 #[] w fun e w' => ∃ V, e = .returned (.agg V) ∧ V.size = 4 ∧ PartAt w' (.agg V) .im ∧ Below w.heap.size w w' := by
  have BX : Below w.heap.size w ((w.alloc (.cells #[.slice none 0 0, .nilFunc, .nilFunc, .nilFunc] 107)).alloc (.cells #[.int .i64 2] 3)) := ((Below.refl _ _).alloc (Nat.le_refl _) _).alloc (by simp) _
  have K1 : Blk ((w.alloc (.cells #[.slice none 0 0, .nilFunc, .nilFunc, .nilFunc] 107)).alloc (.cells #[.int .i64 2] 3)) w.heap.size 107 #[.slice none 0 0, .nilFunc, .nilFunc, .nilFunc] := (Blk.fresh w 107 #[.slice none 0 0, .nilFunc, .nilFunc, .nilFunc]).alloc _
  have K2 : Blk ((w.alloc (.cells #[.slice none 0 0, .nilFunc, .nilFunc, .nilFunc] 107)).alloc (.cells #[.int .i64 2] 3)) (w.heap.size + 1) 3 #[.int .i64 2] := Av.Blk.next
  have H1 : (#[.slice (some ⟨w.heap.size + 1, 0, none⟩) 1 1, .func (.func 92) #[] #[], .func (.func 93) #[] #[], .func (.func 87) #[] #[]] : Array Value).all (·.oneCell') = true := by rw [← Array.all_toList]; rfl
  go_enter Try.func72, Try.ntmps72
  go_wp2_with (refine wpList_store_row rfl 107 (.tmp 0) _ rfl w.heap.size #[.slice (some ⟨w.heap.size + 1, 0, none⟩) 1 1, .func (.func 92) #[] #[], .func (.func 93) #[] #[], .func (.func 87) #[] #[]] rfl rfl 107 _ K1 (by kernel_rfl) rfl H1 ?_)
  have KR := setRow_heap ((w.alloc (.cells #[.slice none 0 0, .nilFunc, .nilFunc, .nilFunc] 107)).alloc (.cells #[.int .i64 2] 3)) w.heap.size _ #[.slice (some ⟨w.heap.size + 1, 0, none⟩) 1 1, .func (.func 92) #[] #[], .func (.func 93) #[] #[], .func (.func 87) #[] #[]] 107 (0, 0) K1
  have BE := below_setRow BX (Nat.le_refl _) #[.slice (some ⟨w.heap.size + 1, 0, none⟩) 1 1, .func (.func 92) #[] #[], .func (.func 93) #[] #[], .func (.func 87) #[] #[]]
  have K3 := Av.bother_row (cs' := #[.slice (some ⟨w.heap.size + 1, 0, none⟩) 1 1, .func (.func 92) #[] #[], .func (.func 93) #[] #[], .func (.func 87) #[] #[]]) K2 (show w.heap.size ≠ w.heap.size + 1 by omega)
  generalize World.setRow ((w.alloc (.cells #[.slice none 0 0, .nilFunc, .nilFunc, .nilFunc] 107)).alloc (.cells #[.int .i64 2] 3)) w.heap.size #[.slice (some ⟨w.heap.size + 1, 0, none⟩) 1 1, .func (.func 92) #[] #[], .func (.func 93) #[] #[], .func (.func 87) #[] #[]] = Y at *
  refine bodyPost_ret (v := .agg #[.slice (some ⟨w.heap.size + 1, 0, none⟩) 1 1, .func (.func 92) #[] #[], .func (.func 93) #[] #[], .func (.func 87) #[] #[]]) ?_ rfl ⟨_, rfl, rfl, ⟨_, rfl, _, rfl, K3⟩, BE⟩
  have HL := run_loadVar_row (P := Try.prog) Y w.heap.size 107 107 #[.slice (some ⟨w.heap.size + 1, 0, none⟩) 1 1, .func (.func 92) #[] #[], .func (.func 93) #[] #[], .func (.func 87) #[] #[]] (0, 0) _ KR Try.underlying107 rfl (by kernel_rfl)
  generalize (#[.slice (some ⟨w.heap.size + 1, 0, none⟩) 1 1, .func (.func 92) #[] #[], .func (.func 93) #[] #[], .func (.func 87) #[] #[]] : Array Value) = CS at *
  simp [results, show (Try.f72).results = #[.cell 0 107] from rfl, asAddr, HL, Act.put]
set_option maxRecDepth 100000 in
set_option maxHeartbeats 4000000 in
theorem make_ch (w : World) : Calls Try.prog 73 #[] w fun e w' => ∃ V, e = .returned (.agg V) ∧ V.size = 4 ∧ PartAt w' (.agg V) .ch ∧ Below w.heap.size w w' := by
  have BX : Below w.heap.size w ((w.alloc (.cells #[.slice none 0 0, .nilFunc, .nilFunc, .nilFunc] 107)).alloc (.cells #[.int .i64 5] 3)) := ((Below.refl _ _).alloc (Nat.le_refl _) _).alloc (by simp) _
  have K1 : Blk ((w.alloc (.cells #[.slice none 0 0, .nilFunc, .nilFunc, .nilFunc] 107)).alloc (.cells #[.int .i64 5] 3)) w.heap.size 107 #[.slice none 0 0, .nilFunc, .nilFunc, .nilFunc] := (Blk.fresh w 107 #[.slice none 0 0, .nilFunc, .nilFunc, .nilFunc]).alloc _
  have K2 : Blk ((w.alloc (.cells #[.slice none 0 0, .nilFunc, .nilFunc, .nilFunc] 107)).alloc (.cells #[.int .i64 5] 3)) (w.heap.size + 1) 3 #[.int .i64 5] := Av.Blk.next
  have H1 : (#[.slice (some ⟨w.heap.size + 1, 0, none⟩) 1 1, .func (.func 94) #[] #[], .func (.func 95) #[] #[], .func (.func 96) #[] #[]] : Array Value).all (·.oneCell') = true := by rw [← Array.all_toList]; rfl
  go_enter Try.func73, Try.ntmps73
  go_wp2_with (refine wpList_store_row rfl 107 (.tmp 0) _ rfl w.heap.size #[.slice (some ⟨w.heap.size + 1, 0, none⟩) 1 1, .func (.func 94) #[] #[], .func (.func 95) #[] #[], .func (.func 96) #[] #[]] rfl rfl 107 _ K1 (by kernel_rfl) rfl H1 ?_)
  have KR := setRow_heap ((w.alloc (.cells #[.slice none 0 0, .nilFunc, .nilFunc, .nilFunc] 107)).alloc (.cells #[.int .i64 5] 3)) w.heap.size _ #[.slice (some ⟨w.heap.size + 1, 0, none⟩) 1 1, .func (.func 94) #[] #[], .func (.func 95) #[] #[], .func (.func 96) #[] #[]] 107 (0, 0) K1
  have BE := below_setRow BX (Nat.le_refl _) #[.slice (some ⟨w.heap.size + 1, 0, none⟩) 1 1, .func (.func 94) #[] #[], .func (.func 95) #[] #[], .func (.func 96) #[] #[]]
  have K3 := Av.bother_row (cs' := #[.slice (some ⟨w.heap.size + 1, 0, none⟩) 1 1, .func (.func 94) #[] #[], .func (.func 95) #[] #[], .func (.func 96) #[] #[]]) K2 (show w.heap.size ≠ w.heap.size + 1 by omega)
  generalize World.setRow ((w.alloc (.cells #[.slice none 0 0, .nilFunc, .nilFunc, .nilFunc] 107)).alloc (.cells #[.int .i64 5] 3)) w.heap.size #[.slice (some ⟨w.heap.size + 1, 0, none⟩) 1 1, .func (.func 94) #[] #[], .func (.func 95) #[] #[], .func (.func 96) #[] #[]] = Y at *
  refine bodyPost_ret (v := .agg #[.slice (some ⟨w.heap.size + 1, 0, none⟩) 1 1, .func (.func 94) #[] #[], .func (.func 95) #[] #[], .func (.func 96) #[] #[]]) ?_ rfl ⟨_, rfl, rfl, ⟨_, rfl, _, rfl, K3⟩, BE⟩
  have HL := run_loadVar_row (P := Try.prog) Y w.heap.size 107 107 #[.slice (some ⟨w.heap.size + 1, 0, none⟩) 1 1, .func (.func 94) #[] #[], .func (.func 95) #[] #[], .func (.func 96) #[] #[]] (0, 0) _ KR Try.underlying107 rfl (by kernel_rfl)
  generalize (#[.slice (some ⟨w.heap.size + 1, 0, none⟩) 1 1, .func (.func 94) #[] #[], .func (.func 95) #[] #[], .func (.func 96) #[] #[]] : Array Value) = CS at *
  simp [results, show (Try.f73).results = #[.cell 0 107] from rfl, asAddr, HL, Act.put]
set_option maxRecDepth 100000 in
set_option maxHeartbeats 4000000 in
theorem make_small (ff : Nat) (lo hi : Int) (w : World) : Calls Try.prog 62 #[.int .i64 lo, .int .i64 hi, .func (.func ff) #[] #[]] w fun e w' => ∃ V, e = .returned (.agg V) ∧ V.size = 4 ∧ SmallAt w' (.agg V) ff lo hi ∧ Below w.heap.size w w' := by
  have BX : Below w.heap.size w (((((w.alloc (.cells #[.int .i64 lo] 3)).alloc (.cells #[.int .i64 hi] 3)).alloc (.cells #[.func (.func ff) #[] #[]] 118)).alloc (.cells #[.slice none 0 0, .nilFunc, .nilFunc, .nilFunc] 107)).alloc (.cells #[.int .i64 1] 3)) := (((((Below.refl _ _).alloc (Nat.le_refl _) _).alloc (by simp) _).alloc (by simp; omega) _).alloc (by simp; omega) _).alloc (by simp; omega) _
  have K0 : Blk (((((w.alloc (.cells #[.int .i64 lo] 3)).alloc (.cells #[.int .i64 hi] 3)).alloc (.cells #[.func (.func ff) #[] #[]] 118)).alloc (.cells #[.slice none 0 0, .nilFunc, .nilFunc, .nilFunc] 107)).alloc (.cells #[.int .i64 1] 3)) (w.heap.size) 3 #[.int .i64 lo] := (((((show Blk (w.alloc (.cells #[.int .i64 lo] 3)) (w.heap.size) 3 #[.int .i64 lo] from by have := Blk.fresh w 3 #[.int .i64 lo]; simpa [Nat.add_assoc] using this)).alloc _).alloc _).alloc _).alloc _
  have K1 : Blk (((((w.alloc (.cells #[.int .i64 lo] 3)).alloc (.cells #[.int .i64 hi] 3)).alloc (.cells #[.func (.func ff) #[] #[]] 118)).alloc (.cells #[.slice none 0 0, .nilFunc, .nilFunc, .nilFunc] 107)).alloc (.cells #[.int .i64 1] 3)) (w.heap.size + 1) 3 #[.int .i64 hi] := ((((show Blk ((w.alloc (.cells #[.int .i64 lo] 3)).alloc (.cells #[.int .i64 hi] 3)) (w.heap.size + 1) 3 #[.int .i64 hi] from by have := Blk.fresh (w.alloc (.cells #[.int .i64 lo] 3)) 3 #[.int .i64 hi]; simpa [Nat.add_assoc] using this)).alloc _).alloc _).alloc _
  have K2 : Blk (((((w.alloc (.cells #[.int .i64 lo] 3)).alloc (.cells #[.int .i64 hi] 3)).alloc (.cells #[.func (.func ff) #[] #[]] 118)).alloc (.cells #[.slice none 0 0, .nilFunc, .nilFunc, .nilFunc] 107)).alloc (.cells #[.int .i64 1] 3)) (w.heap.size + 2) 118 #[.func (.func ff) #[] #[]] := (((show Blk (((w.alloc (.cells #[.int .i64 lo] 3)).alloc (.cells #[.int .i64 hi] 3)).alloc (.cells #[.func (.func ff) #[] #[]] 118)) (w.heap.size + 2) 118 #[.func (.func ff) #[] #[]] from by have := Blk.fresh ((w.alloc (.cells #[.int .i64 lo] 3)).alloc (.cells #[.int .i64 hi] 3)) 118 #[.func (.func ff) #[] #[]]; simpa [Nat.add_assoc] using this)).alloc _).alloc _
  have K3 : Blk (((((w.alloc (.cells #[.int .i64 lo] 3)).alloc (.cells #[.int .i64 hi] 3)).alloc (.cells #[.func (.func ff) #[] #[]] 118)).alloc (.cells #[.slice none 0 0, .nilFunc, .nilFunc, .nilFunc] 107)).alloc (.cells #[.int .i64 1] 3)) (w.heap.size + 3) 107 #[.slice none 0 0, .nilFunc, .nilFunc, .nilFunc] := ((show Blk ((((w.alloc (.cells #[.int .i64 lo] 3)).alloc (.cells #[.int .i64 hi] 3)).alloc (.cells #[.func (.func ff) #[] #[]] 118)).alloc (.cells #[.slice none 0 0, .nilFunc, .nilFunc, .nilFunc] 107)) (w.heap.size + 3) 107 #[.slice none 0 0, .nilFunc, .nilFunc, .nilFunc] from by have := Blk.fresh (((w.alloc (.cells #[.int .i64 lo] 3)).alloc (.cells #[.int .i64 hi] 3)).alloc (.cells #[.func (.func ff) #[] #[]] 118)) 107 #[.slice none 0 0, .nilFunc, .nilFunc, .nilFunc]; simpa [Nat.add_assoc] using this)).alloc _
  have K4 : Blk (((((w.alloc (.cells #[.int .i64 lo] 3)).alloc (.cells #[.int .i64 hi] 3)).alloc (.cells #[.func (.func ff) #[] #[]] 118)).alloc (.cells #[.slice none 0 0, .nilFunc, .nilFunc, .nilFunc] 107)).alloc (.cells #[.int .i64 1] 3)) (w.heap.size + 4) 3 #[.int .i64 1] := (show Blk (((((w.alloc (.cells #[.int .i64 lo] 3)).alloc (.cells #[.int .i64 hi] 3)).alloc (.cells #[.func (.func ff) #[] #[]] 118)).alloc (.cells #[.slice none 0 0, .nilFunc, .nilFunc, .nilFunc] 107)).alloc (.cells #[.int .i64 1] 3)) (w.heap.size + 4) 3 #[.int .i64 1] from by have := Blk.fresh ((((w.alloc (.cells #[.int .i64 lo] 3)).alloc (.cells #[.int .i64 hi] 3)).alloc (.cells #[.func (.func ff) #[] #[]] 118)).alloc (.cells #[.slice none 0 0, .nilFunc, .nilFunc, .nilFunc] 107)) 3 #[.int .i64 1]; simpa [Nat.add_assoc] using this)
  have H1 : (#[.slice (some ⟨w.heap.size + 4, 0, none⟩) 1 1, .func (.func 82) #[] #[.pointer (some ⟨w.heap.size + 2, 0, none⟩)], .func (.func 83) #[] #[.pointer (some ⟨w.heap.size + 2, 0, none⟩)], .func (.func 84) #[] #[.pointer (some ⟨w.heap.size + 2, 0, none⟩), .pointer (some ⟨w.heap.size, 0, none⟩), .pointer (some ⟨w.heap.size + 1, 0, none⟩)]] : Array Value).all (·.oneCell') = true := by rw [← Array.all_toList]; rfl
  go_enter Try.func62, Try.ntmps62
  go_wp2_with (refine wpList_store_row rfl 107 (.tmp 6) _ rfl (w.heap.size + 3) #[.slice (some ⟨w.heap.size + 4, 0, none⟩) 1 1, .func (.func 82) #[] #[.pointer (some ⟨w.heap.size + 2, 0, none⟩)], .func (.func 83) #[] #[.pointer (some ⟨w.heap.size + 2, 0, none⟩)], .func (.func 84) #[] #[.pointer (some ⟨w.heap.size + 2, 0, none⟩), .pointer (some ⟨w.heap.size, 0, none⟩), .pointer (some ⟨w.heap.size + 1, 0, none⟩)]] rfl rfl 107 _ K3 (by kernel_rfl) rfl H1 ?_)
  have KR := setRow_heap (((((w.alloc (.cells #[.int .i64 lo] 3)).alloc (.cells #[.int .i64 hi] 3)).alloc (.cells #[.func (.func ff) #[] #[]] 118)).alloc (.cells #[.slice none 0 0, .nilFunc, .nilFunc, .nilFunc] 107)).alloc (.cells #[.int .i64 1] 3)) (w.heap.size + 3) _ #[.slice (some ⟨w.heap.size + 4, 0, none⟩) 1 1, .func (.func 82) #[] #[.pointer (some ⟨w.heap.size + 2, 0, none⟩)], .func (.func 83) #[] #[.pointer (some ⟨w.heap.size + 2, 0, none⟩)], .func (.func 84) #[] #[.pointer (some ⟨w.heap.size + 2, 0, none⟩), .pointer (some ⟨w.heap.size, 0, none⟩), .pointer (some ⟨w.heap.size + 1, 0, none⟩)]] 107 (0, 0) K3
  have BE := below_setRow BX (show w.heap.size ≤ w.heap.size + 3 by omega) #[.slice (some ⟨w.heap.size + 4, 0, none⟩) 1 1, .func (.func 82) #[] #[.pointer (some ⟨w.heap.size + 2, 0, none⟩)], .func (.func 83) #[] #[.pointer (some ⟨w.heap.size + 2, 0, none⟩)], .func (.func 84) #[] #[.pointer (some ⟨w.heap.size + 2, 0, none⟩), .pointer (some ⟨w.heap.size, 0, none⟩), .pointer (some ⟨w.heap.size + 1, 0, none⟩)]]
  have L0 := Av.bother_row (cs' := #[.slice (some ⟨w.heap.size + 4, 0, none⟩) 1 1, .func (.func 82) #[] #[.pointer (some ⟨w.heap.size + 2, 0, none⟩)], .func (.func 83) #[] #[.pointer (some ⟨w.heap.size + 2, 0, none⟩)], .func (.func 84) #[] #[.pointer (some ⟨w.heap.size + 2, 0, none⟩), .pointer (some ⟨w.heap.size, 0, none⟩), .pointer (some ⟨w.heap.size + 1, 0, none⟩)]]) K0 (show w.heap.size + 3 ≠ w.heap.size by omega)
  have L1 := Av.bother_row (cs' := #[.slice (some ⟨w.heap.size + 4, 0, none⟩) 1 1, .func (.func 82) #[] #[.pointer (some ⟨w.heap.size + 2, 0, none⟩)], .func (.func 83) #[] #[.pointer (some ⟨w.heap.size + 2, 0, none⟩)], .func (.func 84) #[] #[.pointer (some ⟨w.heap.size + 2, 0, none⟩), .pointer (some ⟨w.heap.size, 0, none⟩), .pointer (some ⟨w.heap.size + 1, 0, none⟩)]]) K1 (show w.heap.size + 3 ≠ w.heap.size + 1 by omega)
  have L2 := Av.bother_row (cs' := #[.slice (some ⟨w.heap.size + 4, 0, none⟩) 1 1, .func (.func 82) #[] #[.pointer (some ⟨w.heap.size + 2, 0, none⟩)], .func (.func 83) #[] #[.pointer (some ⟨w.heap.size + 2, 0, none⟩)], .func (.func 84) #[] #[.pointer (some ⟨w.heap.size + 2, 0, none⟩), .pointer (some ⟨w.heap.size, 0, none⟩), .pointer (some ⟨w.heap.size + 1, 0, none⟩)]]) K2 (show w.heap.size + 3 ≠ w.heap.size + 2 by omega)
  have L4 := Av.bother_row (cs' := #[.slice (some ⟨w.heap.size + 4, 0, none⟩) 1 1, .func (.func 82) #[] #[.pointer (some ⟨w.heap.size + 2, 0, none⟩)], .func (.func 83) #[] #[.pointer (some ⟨w.heap.size + 2, 0, none⟩)], .func (.func 84) #[] #[.pointer (some ⟨w.heap.size + 2, 0, none⟩), .pointer (some ⟨w.heap.size, 0, none⟩), .pointer (some ⟨w.heap.size + 1, 0, none⟩)]]) K4 (show w.heap.size + 3 ≠ w.heap.size + 4 by omega)
  generalize World.setRow (((((w.alloc (.cells #[.int .i64 lo] 3)).alloc (.cells #[.int .i64 hi] 3)).alloc (.cells #[.func (.func ff) #[] #[]] 118)).alloc (.cells #[.slice none 0 0, .nilFunc, .nilFunc, .nilFunc] 107)).alloc (.cells #[.int .i64 1] 3)) (w.heap.size + 3) #[.slice (some ⟨w.heap.size + 4, 0, none⟩) 1 1, .func (.func 82) #[] #[.pointer (some ⟨w.heap.size + 2, 0, none⟩)], .func (.func 83) #[] #[.pointer (some ⟨w.heap.size + 2, 0, none⟩)], .func (.func 84) #[] #[.pointer (some ⟨w.heap.size + 2, 0, none⟩), .pointer (some ⟨w.heap.size, 0, none⟩), .pointer (some ⟨w.heap.size + 1, 0, none⟩)]] = Y at *
  refine bodyPost_ret (v := .agg #[.slice (some ⟨w.heap.size + 4, 0, none⟩) 1 1, .func (.func 82) #[] #[.pointer (some ⟨w.heap.size + 2, 0, none⟩)], .func (.func 83) #[] #[.pointer (some ⟨w.heap.size + 2, 0, none⟩)], .func (.func 84) #[] #[.pointer (some ⟨w.heap.size + 2, 0, none⟩), .pointer (some ⟨w.heap.size, 0, none⟩), .pointer (some ⟨w.heap.size + 1, 0, none⟩)]]) ?_ rfl ⟨_, rfl, rfl, ⟨_, _, _, _, rfl, ⟨_, rfl, L4⟩, L2, L0, L1⟩, BE⟩
  have HL := run_loadVar_row (P := Try.prog) Y (w.heap.size + 3) 107 107 #[.slice (some ⟨w.heap.size + 4, 0, none⟩) 1 1, .func (.func 82) #[] #[.pointer (some ⟨w.heap.size + 2, 0, none⟩)], .func (.func 83) #[] #[.pointer (some ⟨w.heap.size + 2, 0, none⟩)], .func (.func 84) #[] #[.pointer (some ⟨w.heap.size + 2, 0, none⟩), .pointer (some ⟨w.heap.size, 0, none⟩), .pointer (some ⟨w.heap.size + 1, 0, none⟩)]] (0, 0) _ KR Try.underlying107 rfl (by kernel_rfl)
  generalize (#[.slice (some ⟨w.heap.size + 4, 0, none⟩) 1 1, .func (.func 82) #[] #[.pointer (some ⟨w.heap.size + 2, 0, none⟩)], .func (.func 83) #[] #[.pointer (some ⟨w.heap.size + 2, 0, none⟩)], .func (.func 84) #[] #[.pointer (some ⟨w.heap.size + 2, 0, none⟩), .pointer (some ⟨w.heap.size, 0, none⟩), .pointer (some ⟨w.heap.size + 1, 0, none⟩)]] : Array Value) = CS at *
  simp [results, show (Try.f62).results = #[.cell 6 107] from rfl, asAddr, HL, Act.put]
set_option maxRecDepth 100000 in
set_option maxHeartbeats 4000000 in
theorem make_large (ff : Nat) (w : World) : Calls Try.prog 67 #[.func (.func ff) #[] #[]] w fun e w' => ∃ V, e = .returned (.agg V) ∧ V.size = 4 ∧ LargeAt w' (.agg V) ff ∧ Below w.heap.size w w' := by
  have BX : Below w.heap.size w (((w.alloc (.cells #[.func (.func ff) #[] #[]] 121)).alloc (.cells #[.slice none 0 0, .nilFunc, .nilFunc, .nilFunc] 107)).alloc (.cells #[.int .i64 8] 3)) := (((Below.refl _ _).alloc (Nat.le_refl _) _).alloc (by simp) _).alloc (by simp; omega) _
  have K0 : Blk (((w.alloc (.cells #[.func (.func ff) #[] #[]] 121)).alloc (.cells #[.slice none 0 0, .nilFunc, .nilFunc, .nilFunc] 107)).alloc (.cells #[.int .i64 8] 3)) (w.heap.size) 121 #[.func (.func ff) #[] #[]] := (((show Blk (w.alloc (.cells #[.func (.func ff) #[] #[]] 121)) (w.heap.size) 121 #[.func (.func ff) #[] #[]] from by have := Blk.fresh w 121 #[.func (.func ff) #[] #[]]; simpa [Nat.add_assoc] using this)).alloc _).alloc _
  have K1 : Blk (((w.alloc (.cells #[.func (.func ff) #[] #[]] 121)).alloc (.cells #[.slice none 0 0, .nilFunc, .nilFunc, .nilFunc] 107)).alloc (.cells #[.int .i64 8] 3)) (w.heap.size + 1) 107 #[.slice none 0 0, .nilFunc, .nilFunc, .nilFunc] := ((show Blk ((w.alloc (.cells #[.func (.func ff) #[] #[]] 121)).alloc (.cells #[.slice none 0 0, .nilFunc, .nilFunc, .nilFunc] 107)) (w.heap.size + 1) 107 #[.slice none 0 0, .nilFunc, .nilFunc, .nilFunc] from by have := Blk.fresh (w.alloc (.cells #[.func (.func ff) #[] #[]] 121)) 107 #[.slice none 0 0, .nilFunc, .nilFunc, .nilFunc]; simpa [Nat.add_assoc] using this)).alloc _
  have K2 : Blk (((w.alloc (.cells #[.func (.func ff) #[] #[]] 121)).alloc (.cells #[.slice none 0 0, .nilFunc, .nilFunc, .nilFunc] 107)).alloc (.cells #[.int .i64 8] 3)) (w.heap.size + 2) 3 #[.int .i64 8] := (show Blk (((w.alloc (.cells #[.func (.func ff) #[] #[]] 121)).alloc (.cells #[.slice none 0 0, .nilFunc, .nilFunc, .nilFunc] 107)).alloc (.cells #[.int .i64 8] 3)) (w.heap.size + 2) 3 #[.int .i64 8] from by have := Blk.fresh ((w.alloc (.cells #[.func (.func ff) #[] #[]] 121)).alloc (.cells #[.slice none 0 0, .nilFunc, .nilFunc, .nilFunc] 107)) 3 #[.int .i64 8]; simpa [Nat.add_assoc] using this)
  have H1 : (#[.slice (some ⟨w.heap.size + 2, 0, none⟩) 1 1, .func (.func 85) #[] #[.pointer (some ⟨w.heap.size, 0, none⟩)], .func (.func 86) #[] #[.pointer (some ⟨w.heap.size, 0, none⟩)], .func (.func 87) #[] #[]] : Array Value).all (·.oneCell') = true := by rw [← Array.all_toList]; rfl
  go_enter Try.func67, Try.ntmps67
  go_wp2_with (refine wpList_store_row rfl 107 (.tmp 2) _ rfl (w.heap.size + 1) #[.slice (some ⟨w.heap.size + 2, 0, none⟩) 1 1, .func (.func 85) #[] #[.pointer (some ⟨w.heap.size, 0, none⟩)], .func (.func 86) #[] #[.pointer (some ⟨w.heap.size, 0, none⟩)], .func (.func 87) #[] #[]] rfl rfl 107 _ K1 (by kernel_rfl) rfl H1 ?_)
  have KR := setRow_heap (((w.alloc (.cells #[.func (.func ff) #[] #[]] 121)).alloc (.cells #[.slice none 0 0, .nilFunc, .nilFunc, .nilFunc] 107)).alloc (.cells #[.int .i64 8] 3)) (w.heap.size + 1) _ #[.slice (some ⟨w.heap.size + 2, 0, none⟩) 1 1, .func (.func 85) #[] #[.pointer (some ⟨w.heap.size, 0, none⟩)], .func (.func 86) #[] #[.pointer (some ⟨w.heap.size, 0, none⟩)], .func (.func 87) #[] #[]] 107 (0, 0) K1
  have BE := below_setRow BX (show w.heap.size ≤ w.heap.size + 1 by omega) #[.slice (some ⟨w.heap.size + 2, 0, none⟩) 1 1, .func (.func 85) #[] #[.pointer (some ⟨w.heap.size, 0, none⟩)], .func (.func 86) #[] #[.pointer (some ⟨w.heap.size, 0, none⟩)], .func (.func 87) #[] #[]]
  have L0 := Av.bother_row (cs' := #[.slice (some ⟨w.heap.size + 2, 0, none⟩) 1 1, .func (.func 85) #[] #[.pointer (some ⟨w.heap.size, 0, none⟩)], .func (.func 86) #[] #[.pointer (some ⟨w.heap.size, 0, none⟩)], .func (.func 87) #[] #[]]) K0 (show w.heap.size + 1 ≠ w.heap.size by omega)
  have L2 := Av.bother_row (cs' := #[.slice (some ⟨w.heap.size + 2, 0, none⟩) 1 1, .func (.func 85) #[] #[.pointer (some ⟨w.heap.size, 0, none⟩)], .func (.func 86) #[] #[.pointer (some ⟨w.heap.size, 0, none⟩)], .func (.func 87) #[] #[]]) K2 (show w.heap.size + 1 ≠ w.heap.size + 2 by omega)
  generalize World.setRow (((w.alloc (.cells #[.func (.func ff) #[] #[]] 121)).alloc (.cells #[.slice none 0 0, .nilFunc, .nilFunc, .nilFunc] 107)).alloc (.cells #[.int .i64 8] 3)) (w.heap.size + 1) #[.slice (some ⟨w.heap.size + 2, 0, none⟩) 1 1, .func (.func 85) #[] #[.pointer (some ⟨w.heap.size, 0, none⟩)], .func (.func 86) #[] #[.pointer (some ⟨w.heap.size, 0, none⟩)], .func (.func 87) #[] #[]] = Y at *
  refine bodyPost_ret (v := .agg #[.slice (some ⟨w.heap.size + 2, 0, none⟩) 1 1, .func (.func 85) #[] #[.pointer (some ⟨w.heap.size, 0, none⟩)], .func (.func 86) #[] #[.pointer (some ⟨w.heap.size, 0, none⟩)], .func (.func 87) #[] #[]]) ?_ rfl ⟨_, rfl, rfl, ⟨_, _, rfl, ⟨_, rfl, L2⟩, L0⟩, BE⟩
  have HL := run_loadVar_row (P := Try.prog) Y (w.heap.size + 1) 107 107 #[.slice (some ⟨w.heap.size + 2, 0, none⟩) 1 1, .func (.func 85) #[] #[.pointer (some ⟨w.heap.size, 0, none⟩)], .func (.func 86) #[] #[.pointer (some ⟨w.heap.size, 0, none⟩)], .func (.func 87) #[] #[]] (0, 0) _ KR Try.underlying107 rfl (by kernel_rfl)
  generalize (#[.slice (some ⟨w.heap.size + 2, 0, none⟩) 1 1, .func (.func 85) #[] #[.pointer (some ⟨w.heap.size, 0, none⟩)], .func (.func 86) #[] #[.pointer (some ⟨w.heap.size, 0, none⟩)], .func (.func 87) #[] #[]] : Array Value) = CS at *
  simp [results, show (Try.f67).results = #[.cell 2 107] from rfl, asAddr, HL, Act.put]
end Go.Proofs.Ytpoagepchlfemaa.Cp
