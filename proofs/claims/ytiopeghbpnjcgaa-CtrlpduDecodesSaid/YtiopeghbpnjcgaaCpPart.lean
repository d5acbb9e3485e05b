/- Control PDUs: parts in memory, and the functions that make them: contracts over the program. -/
import Derived.Test.YtiopeghbpnjcgaaCpSet
import Derived.Deep.Cut
set_option linter.unusedVariables false
set_option linter.unusedSimpArgs false
namespace Go.Proofs.Ytiopeghbpnjcgaa.Cp
open Go.RowKit Mem Oct Rw Av
open Base (thenB)
/-- Sizes in memory. -/
def SzAt (w : World) (S : Value) (zs : List Int) : Prop := ∃ g, S = .slice (some ⟨g, 0, none⟩) zs.length zs.length ∧ Blk w g 3 (zs.map (Value.int .i64)).toArray
def SmallAt (w : World) (V : Value) (ff : Nat) (lo hi : Int) : Prop := ∃ S b l h, V = .agg #[S, .func (.func 52) #[] #[.pointer (some ⟨b, 0, none⟩)], .func (.func 53) #[] #[.pointer (some ⟨b, 0, none⟩)], .func (.func 54) #[] #[.pointer (some ⟨b, 0, none⟩), .pointer (some ⟨l, 0, none⟩), .pointer (some ⟨h, 0, none⟩)]] ∧ SzAt w S [1] ∧ Blk w b 69 #[.func (.func ff) #[] #[]] ∧ Blk w l 3 #[.int .i64 lo] ∧ Blk w h 3 #[.int .i64 hi]
def LargeAt (w : World) (V : Value) (ff : Nat) : Prop := ∃ S b, V = .agg #[S, .func (.func 55) #[] #[.pointer (some ⟨b, 0, none⟩)], .func (.func 56) #[] #[.pointer (some ⟨b, 0, none⟩)], .func (.func 57) #[] #[]] ∧ SzAt w S [8] ∧ Blk w b 72 #[.func (.func ff) #[] #[]]
/-- A part in memory. -/
def PartAt (w : World) (V : Value) : Pt → Prop
  | .up => ∃ S, V = .agg #[S, .func (.func 58) #[] #[], .func (.func 59) #[] #[], .func (.func 60) #[] #[]] ∧ SzAt w S [1, 2, 2, 2, 2]
  | .im => ∃ S, V = .agg #[S, .func (.func 62) #[] #[], .func (.func 63) #[] #[], .func (.func 57) #[] #[]] ∧ SzAt w S [2]
  | .ch => ∃ S, V = .agg #[S, .func (.func 64) #[] #[], .func (.func 65) #[] #[], .func (.func 66) #[] #[]] ∧ SzAt w S [5]
  | .rs => SmallAt w V 32 0 255
  | .rj => SmallAt w V 33 0 255
  | .vs => SmallAt w V 34 0 255
  | .ln => SmallAt w V 35 27 251
  | .sa => LargeAt w V 37
  | .mk => LargeAt w V 38
  | .fe => LargeAt w V 39
/-- Blocks of cells of other types than a control PDU's, kept. -/
def Keeps (w w' : World) : Prop := ∀ (b : Nat) (t : TypeId) (cs : Array Value), (t = 3 ∨ t = 24 ∨ t = 69 ∨ t = 72 ∨ t = 49) → Blk w b t cs → Blk w' b t cs
theorem Keeps.refl (w : World) : Keeps w w := fun _ _ _ _ h => h
theorem Keeps.trans {a b c : World} (h : Keeps a b) (k : Keeps b c) : Keeps a c := fun _ _ _ ht hb => k _ _ _ ht (h _ _ _ ht hb)
theorem keeps_below {w w' : World} (h : Below w.heap.size w w') : Keeps w w' := fun _ _ _ _ hb => hb.below h hb.lt
theorem keeps_grown {w w' : World} {g : Nat} {c : Ct} (h : w.grownBy w' (some g)) (hg : Blk w g 28 (encC c)) : Keeps w w' := fun b t cs ht hb => by
  have hne : b ≠ g := by
    rintro rfl
    unfold Blk at hg hb
    rw [hg] at hb
    injection hb with hb
    injection hb with _ hb
    subst hb
    revert ht; decide
  unfold Blk at hb ⊢
  rw [h.block b (Blk.lt hb) (by simpa using hne)]; exact hb
theorem SzAt.keep {w w' : World} {S : Value} {zs : List Int} (h : SzAt w S zs) (k : Keeps w w') : SzAt w' S zs := by
  obtain ⟨g, e, hb⟩ := h
  exact ⟨g, e, k _ _ _ (by decide) hb⟩
theorem SmallAt.keep {w w' : World} {V : Value} {ff : Nat} {lo hi : Int} (h : SmallAt w V ff lo hi) (k : Keeps w w') : SmallAt w' V ff lo hi := by
  obtain ⟨S, b, l, g, e, hs, h1, h2, h3⟩ := h
  exact ⟨S, b, l, g, e, hs.keep k, k _ _ _ (by decide) h1, k _ _ _ (by decide) h2, k _ _ _ (by decide) h3⟩
theorem LargeAt.keep {w w' : World} {V : Value} {ff : Nat} (h : LargeAt w V ff) (k : Keeps w w') : LargeAt w' V ff := by
  obtain ⟨S, b, e, hs, h1⟩ := h
  exact ⟨S, b, e, hs.keep k, k _ _ _ (by decide) h1⟩
theorem PartAt.keep {w w' : World} {V : Value} {p : Pt} (h : PartAt w V p) (k : Keeps w w') : PartAt w' V p := by
  cases p
  · obtain ⟨S, e, h⟩ := h; exact ⟨S, e, h.keep k⟩
  · obtain ⟨S, e, h⟩ := h; exact ⟨S, e, h.keep k⟩
  · obtain ⟨S, e, h⟩ := h; exact ⟨S, e, h.keep k⟩
  · exact SmallAt.keep h k
  · exact SmallAt.keep h k
  · exact SmallAt.keep h k
  · exact SmallAt.keep h k
  · exact LargeAt.keep h k
  · exact LargeAt.keep h k
  · exact LargeAt.keep h k
set_option maxRecDepth 100000 in
set_option maxHeartbeats 4000000 in
theorem make_up (w : World) : Calls Try.prog 40 #[] w fun e w' => ∃ V, e = .returned (.agg V) ∧ V.size = 4 ∧ PartAt w' (.agg V) .up ∧ Below w.heap.size w w' := by
  have BX : Below w.heap.size w ((w.alloc (.cells #[.slice none 0 0, .nilFunc, .nilFunc, .nilFunc] 49)).alloc (.cells #[.int .i64 1, .int .i64 2, .int .i64 2, .int .i64 2, .int .i64 2] 3)) := ((Below.refl _ _).alloc (Nat.le_refl _) _).alloc (by simp) _
  have K1 : Blk ((w.alloc (.cells #[.slice none 0 0, .nilFunc, .nilFunc, .nilFunc] 49)).alloc (.cells #[.int .i64 1, .int .i64 2, .int .i64 2, .int .i64 2, .int .i64 2] 3)) w.heap.size 49 #[.slice none 0 0, .nilFunc, .nilFunc, .nilFunc] := (Blk.fresh w 49 #[.slice none 0 0, .nilFunc, .nilFunc, .nilFunc]).alloc _
  have K2 : Blk ((w.alloc (.cells #[.slice none 0 0, .nilFunc, .nilFunc, .nilFunc] 49)).alloc (.cells #[.int .i64 1, .int .i64 2, .int .i64 2, .int .i64 2, .int .i64 2] 3)) (w.heap.size + 1) 3 #[.int .i64 1, .int .i64 2, .int .i64 2, .int .i64 2, .int .i64 2] := Av.Blk.next
  have H1 : (#[.slice (some ⟨w.heap.size + 1, 0, none⟩) 5 5, .func (.func 58) #[] #[], .func (.func 59) #[] #[], .func (.func 60) #[] #[]] : Array Value).all (·.oneCell') = true := by rw [← Array.all_toList]; rfl
  go_enter Try.func40, Try.ntmps40
  go_wp2_with (refine wpList_store_row rfl 49 (.tmp 0) _ rfl w.heap.size #[.slice (some ⟨w.heap.size + 1, 0, none⟩) 5 5, .func (.func 58) #[] #[], .func (.func 59) #[] #[], .func (.func 60) #[] #[]] rfl rfl 49 _ K1 (by kernel_rfl) rfl H1 ?_)
  have KR := setRow_heap ((w.alloc (.cells #[.slice none 0 0, .nilFunc, .nilFunc, .nilFunc] 49)).alloc (.cells #[.int .i64 1, .int .i64 2, .int .i64 2, .int .i64 2, .int .i64 2] 3)) w.heap.size _ #[.slice (some ⟨w.heap.size + 1, 0, none⟩) 5 5, .func (.func 58) #[] #[], .func (.func 59) #[] #[], .func (.func 60) #[] #[]] 49 (0, 0) K1
  have BE := below_setRow BX (Nat.le_refl _) #[.slice (some ⟨w.heap.size + 1, 0, none⟩) 5 5, .func (.func 58) #[] #[], .func (.func 59) #[] #[], .func (.func 60) #[] #[]]
  have K3 := Av.bother_row (cs' := #[.slice (some ⟨w.heap.size + 1, 0, none⟩) 5 5, .func (.func 58) #[] #[], .func (.func 59) #[] #[], .func (.func 60) #[] #[]]) K2 (show w.heap.size ≠ w.heap.size + 1 by omega)
  generalize World.setRow ((w.alloc (.cells #[.slice none 0 0, .nilFunc, .nilFunc, .nilFunc] 49)).alloc (.cells #[.int .i64 1, .int .i64 2, .int .i64 2, .int .i64 2, .int .i64 2] 3)) w.heap.size #[.slice (some ⟨w.heap.size + 1, 0, none⟩) 5 5, .func (.func 58) #[] #[], .func (.func 59) #[] #[], .func (.func 60) #[] #[]] = Y at *
  refine bodyPost_ret (v := .agg #[.slice (some ⟨w.heap.size + 1, 0, none⟩) 5 5, .func (.func 58) #[] #[], .func (.func 59) #[] #[], .func (.func 60) #[] #[]]) ?_ rfl ⟨_, rfl, rfl, ⟨_, rfl, _, rfl, K3⟩, BE⟩
  have HL := run_loadVar_row (P := Try.prog) Y w.heap.size 49 49 #[.slice (some ⟨w.heap.size + 1, 0, none⟩) 5 5, .func (.func 58) #[] #[], .func (.func 59) #[] #[], .func (.func 60) #[] #[]] (0, 0) _ KR Try.underlying49 rfl (by kernel_rfl)
  generalize (#[.slice (some ⟨w.heap.size + 1, 0, none⟩) 5 5, .func (.func 58) #[] #[], .func (.func 59) #[] #[], .func (.func 60) #[] #[]] : Array Value) = CS at *
  simp [results, show (Try.f40).results = #[.cell 0 49] from rfl, asAddr, HL, Act.put]
set_option maxRecDepth 100000 in
set_option maxHeartbeats 4000000 in
theorem make_im (w : World) : Calls Try.prog 41 #[] w fun e w' => ∃ V, e = .returned (.agg V) ∧ V.size = 4 ∧ PartAt w' (.agg V) .im ∧ Below w.heap.size w w' := by
  have BX : Below w.heap.size w ((w.alloc (.cells #[.slice none 0 0, .nilFunc, .nilFunc, .nilFunc] 49)).alloc (.cells #[.int .i64 2] 3)) := ((Below.refl _ _).alloc (Nat.le_refl _) _).alloc (by simp) _
  have K1 : Blk ((w.alloc (.cells #[.slice none 0 0, .nilFunc, .nilFunc, .nilFunc] 49)).alloc (.cells #[.int .i64 2] 3)) w.heap.size 49 #[.slice none 0 0, .nilFunc, .nilFunc, .nilFunc] := (Blk.fresh w 49 #[.slice none 0 0, .nilFunc, .nilFunc, .nilFunc]).alloc _
  have K2 : Blk ((w.alloc (.cells #[.slice none 0 0, .nilFunc, .nilFunc, .nilFunc] 49)).alloc (.cells #[.int .i64 2] 3)) (w.heap.size + 1) 3 #[.int .i64 2] := Av.Blk.next
  have H1 : (#[.slice (some ⟨w.heap.size + 1, 0, none⟩) 1 1, .func (.func 62) #[] #[], .func (.func 63) #[] #[], .func (.func 57) #[] #[]] : Array Value).all (·.oneCell') = true := by rw [← Array.all_toList]; rfl
  go_enter Try.func41, Try.ntmps41
  go_wp2_with (refine wpList_store_row rfl 49 (.tmp 0) _ rfl w.heap.size #[.slice (some ⟨w.heap.size + 1, 0, none⟩) 1 1, .func (.func 62) #[] #[], .func (.func 63) #[] #[], .func (.func 57) #[] #[]] rfl rfl 49 _ K1 (by kernel_rfl) rfl H1 ?_)
  have KR := setRow_heap ((w.alloc (.cells #[.slice none 0 0, .nilFunc, .nilFunc, .nilFunc] 49)).alloc (.cells #[.int .i64 2] 3)) w.heap.size _ #[.slice (some ⟨w.heap.size + 1, 0, none⟩) 1 1, .func (.func 62) #[] #[], .func (.func 63) #[] #[], .func (.func 57) #[] #[]] 49 (0, 0) K1
  have BE := below_setRow BX (Nat.le_refl _) #[.slice (some ⟨w.heap.size + 1, 0, none⟩) 1 1, .func (.func 62) #[] #[], .func (.func 63) #[] #[], .func (.func 57) #[] #[]]
  have K3 := Av.bother_row (cs' := #[.slice (some ⟨w.heap.size + 1, 0, none⟩) 1 1, .func (.func 62) #[] #[], .func (.func 63) #[] #[], .func (.func 57) #[] #[]]) K2 (show w.heap.size ≠ w.heap.size + 1 by omega)
  generalize World.setRow ((w.alloc (.cells #[.slice none 0 0, .nilFunc, .nilFunc, .nilFunc] 49)).alloc (.cells #[.int .i64 2] 3)) w.heap.size #[.slice (some ⟨w.heap.size + 1, 0, none⟩) 1 1, .func (.func 62) #[] #[], .func (.func 63) #[] #[], .func (.func 57) #[] #[]] = Y at *
  refine bodyPost_ret (v := .agg #[.slice (some ⟨w.heap.size + 1, 0, none⟩) 1 1, .func (.func 62) #[] #[], .func (.func 63) #[] #[], .func (.func 57) #[] #[]]) ?_ rfl ⟨_, rfl, rfl, ⟨_, rfl, _, rfl, K3⟩, BE⟩
  have HL := run_loadVar_row (P := Try.prog) Y w.heap.size 49 49 #[.slice (some ⟨w.heap.size + 1, 0, none⟩) 1 1, .func (.func 62) #[] #[], .func (.func 63) #[] #[], .func (.func 57) #[] #[]] (0, 0) _ KR Try.underlying49 rfl (by kernel_rfl)
  generalize (#[.slice (some ⟨w.heap.size + 1, 0, none⟩) 1 1, .func (.func 62) #[] #[], .func (.func 63) #[] #[], .func (.func 57) #[] #[]] : Array Value) = CS at *
  simp [results, show (Try.f41).results = #[.cell 0 49] from rfl, asAddr, HL, Act.put]
set_option maxRecDepth 100000 in
set_option maxHeartbeats 4000000 in
theorem make_ch (w : World) : Calls Try.prog 42 #[] w fun e w' => ∃ V, e = .returned (.agg V) ∧ V.size = 4 ∧ PartAt w' (.agg V) .ch ∧ Below w.heap.size w w' := by
  have BX : Below w.heap.size w ((w.alloc (.cells #[.slice none 0 0, .nilFunc, .nilFunc, .nilFunc] 49)).alloc (.cells #[.int .i64 5] 3)) := ((Below.refl _ _).alloc (Nat.le_refl _) _).alloc (by simp) _
  have K1 : Blk ((w.alloc (.cells #[.slice none 0 0, .nilFunc, .nilFunc, .nilFunc] 49)).alloc (.cells #[.int .i64 5] 3)) w.heap.size 49 #[.slice none 0 0, .nilFunc, .nilFunc, .nilFunc] := (Blk.fresh w 49 #[.slice none 0 0, .nilFunc, .nilFunc, .nilFunc]).alloc _
  have K2 : Blk ((w.alloc (.cells #[.slice none 0 0, .nilFunc, .nilFunc, .nilFunc] 49)).alloc (.cells #[.int .i64 5] 3)) (w.heap.size + 1) 3 #[.int .i64 5] := Av.Blk.next
  have H1 : (#[.slice (some ⟨w.heap.size + 1, 0, none⟩) 1 1, .func (.func 64) #[] #[], .func (.func 65) #[] #[], .func (.func 66) #[] #[]] : Array Value).all (·.oneCell') = true := by rw [← Array.all_toList]; rfl
  go_enter Try.func42, Try.ntmps42
  go_wp2_with (refine wpList_store_row rfl 49 (.tmp 0) _ rfl w.heap.size #[.slice (some ⟨w.heap.size + 1, 0, none⟩) 1 1, .func (.func 64) #[] #[], .func (.func 65) #[] #[], .func (.func 66) #[] #[]] rfl rfl 49 _ K1 (by kernel_rfl) rfl H1 ?_)
  have KR := setRow_heap ((w.alloc (.cells #[.slice none 0 0, .nilFunc, .nilFunc, .nilFunc] 49)).alloc (.cells #[.int .i64 5] 3)) w.heap.size _ #[.slice (some ⟨w.heap.size + 1, 0, none⟩) 1 1, .func (.func 64) #[] #[], .func (.func 65) #[] #[], .func (.func 66) #[] #[]] 49 (0, 0) K1
  have BE := below_setRow BX (Nat.le_refl _) #[.slice (some ⟨w.heap.size + 1, 0, none⟩) 1 1, .func (.func 64) #[] #[], .func (.func 65) #[] #[], .func (.func 66) #[] #[]]
  have K3 := Av.bother_row (cs' := #[.slice (some ⟨w.heap.size + 1, 0, none⟩) 1 1, .func (.func 64) #[] #[], .func (.func 65) #[] #[], .func (.func 66) #[] #[]]) K2 (show w.heap.size ≠ w.heap.size + 1 by omega)
  generalize World.setRow ((w.alloc (.cells #[.slice none 0 0, .nilFunc, .nilFunc, .nilFunc] 49)).alloc (.cells #[.int .i64 5] 3)) w.heap.size #[.slice (some ⟨w.heap.size + 1, 0, none⟩) 1 1, .func (.func 64) #[] #[], .func (.func 65) #[] #[], .func (.func 66) #[] #[]] = Y at *
  refine bodyPost_ret (v := .agg #[.slice (some ⟨w.heap.size + 1, 0, none⟩) 1 1, .func (.func 64) #[] #[], .func (.func 65) #[] #[], .func (.func 66) #[] #[]]) ?_ rfl ⟨_, rfl, rfl, ⟨_, rfl, _, rfl, K3⟩, BE⟩
  have HL := run_loadVar_row (P := Try.prog) Y w.heap.size 49 49 #[.slice (some ⟨w.heap.size + 1, 0, none⟩) 1 1, .func (.func 64) #[] #[], .func (.func 65) #[] #[], .func (.func 66) #[] #[]] (0, 0) _ KR Try.underlying49 rfl (by kernel_rfl)
  generalize (#[.slice (some ⟨w.heap.size + 1, 0, none⟩) 1 1, .func (.func 64) #[] #[], .func (.func 65) #[] #[], .func (.func 66) #[] #[]] : Array Value) = CS at *
  simp [results, show (Try.f42).results = #[.cell 0 49] from rfl, asAddr, HL, Act.put]
set_option maxRecDepth 100000 in
set_option maxHeartbeats 4000000 in
theorem make_small (ff : Nat) (lo hi : Int) (w : World) : Calls Try.prog 31 #[.int .i64 lo, .int .i64 hi, .func (.func ff) #[] #[]] w fun e w' => ∃ V, e = .returned (.agg V) ∧ V.size = 4 ∧ SmallAt w' (.agg V) ff lo hi ∧ Below w.heap.size w w' := by
  have BX : Below w.heap.size w (((((w.alloc (.cells #[.int .i64 lo] 3)).alloc (.cells #[.int .i64 hi] 3)).alloc (.cells #[.func (.func ff) #[] #[]] 69)).alloc (.cells #[.slice none 0 0, .nilFunc, .nilFunc, .nilFunc] 49)).alloc (.cells #[.int .i64 1] 3)) := (((((Below.refl _ _).alloc (Nat.le_refl _) _).alloc (by simp) _).alloc (by simp; omega) _).alloc (by simp; omega) _).alloc (by simp; omega) _
  have K0 : Blk (((((w.alloc (.cells #[.int .i64 lo] 3)).alloc (.cells #[.int .i64 hi] 3)).alloc (.cells #[.func (.func ff) #[] #[]] 69)).alloc (.cells #[.slice none 0 0, .nilFunc, .nilFunc, .nilFunc] 49)).alloc (.cells #[.int .i64 1] 3)) (w.heap.size) 3 #[.int .i64 lo] := (((((show Blk (w.alloc (.cells #[.int .i64 lo] 3)) (w.heap.size) 3 #[.int .i64 lo] from by have := Blk.fresh w 3 #[.int .i64 lo]; simpa [Nat.add_assoc] using this)).alloc _).alloc _).alloc _).alloc _
  have K1 : Blk (((((w.alloc (.cells #[.int .i64 lo] 3)).alloc (.cells #[.int .i64 hi] 3)).alloc (.cells #[.func (.func ff) #[] #[]] 69)).alloc (.cells #[.slice none 0 0, .nilFunc, .nilFunc, .nilFunc] 49)).alloc (.cells #[.int .i64 1] 3)) (w.heap.size + 1) 3 #[.int .i64 hi] := ((((show Blk ((w.alloc (.cells #[.int .i64 lo] 3)).alloc (.cells #[.int .i64 hi] 3)) (w.heap.size + 1) 3 #[.int .i64 hi] from by have := Blk.fresh (w.alloc (.cells #[.int .i64 lo] 3)) 3 #[.int .i64 hi]; simpa [Nat.add_assoc] using this)).alloc _).alloc _).alloc _
  have K2 : Blk (((((w.alloc (.cells #[.int .i64 lo] 3)).alloc (.cells #[.int .i64 hi] 3)).alloc (.cells #[.func (.func ff) #[] #[]] 69)).alloc (.cells #[.slice none 0 0, .nilFunc, .nilFunc, .nilFunc] 49)).alloc (.cells #[.int .i64 1] 3)) (w.heap.size + 2) 69 #[.func (.func ff) #[] #[]] := (((show Blk (((w.alloc (.cells #[.int .i64 lo] 3)).alloc (.cells #[.int .i64 hi] 3)).alloc (.cells #[.func (.func ff) #[] #[]] 69)) (w.heap.size + 2) 69 #[.func (.func ff) #[] #[]] from by have := Blk.fresh ((w.alloc (.cells #[.int .i64 lo] 3)).alloc (.cells #[.int .i64 hi] 3)) 69 #[.func (.func ff) #[] #[]]; simpa [Nat.add_assoc] using this)).alloc _).alloc _
  have K3 : Blk (((((w.alloc (.cells #[.int .i64 lo] 3)).alloc (.cells #[.int .i64 hi] 3)).alloc (.cells #[.func (.func ff) #[] #[]] 69)).alloc (.cells #[.slice none 0 0, .nilFunc, .nilFunc, .nilFunc] 49)).alloc (.cells #[.int .i64 1] 3)) (w.heap.size + 3) 49 #[.slice none 0 0, .nilFunc, .nilFunc, .nilFunc] := ((show Blk ((((w.alloc (.cells #[.int .i64 lo] 3)).alloc (.cells #[.int .i64 hi] 3)).alloc (.cells #[.func (.func ff) #[] #[]] 69)).alloc (.cells #[.slice none 0 0, .nilFunc, .nilFunc, .nilFunc] 49)) (w.heap.size + 3) 49 #[.slice none 0 0, .nilFunc, .nilFunc, .nilFunc] from by have := Blk.fresh (((w.alloc (.cells #[.int .i64 lo] 3)).alloc (.cells #[.int .i64 hi] 3)).alloc (.cells #[.func (.func ff) #[] #[]] 69)) 49 #[.slice none 0 0, .nilFunc, .nilFunc, .nilFunc]; simpa [Nat.add_assoc] using this)).alloc _
  have K4 : Blk (((((w.alloc (.cells #[.int .i64 lo] 3)).alloc (.cells #[.int .i64 hi] 3)).alloc (.cells #[.func (.func ff) #[] #[]] 69)).alloc (.cells #[.slice none 0 0, .nilFunc, .nilFunc, .nilFunc] 49)).alloc (.cells #[.int .i64 1] 3)) (w.heap.size + 4) 3 #[.int .i64 1] := (show Blk (((((w.alloc (.cells #[.int .i64 lo] 3)).alloc (.cells #[.int .i64 hi] 3)).alloc (.cells #[.func (.func ff) #[] #[]] 69)).alloc (.cells #[.slice none 0 0, .nilFunc, .nilFunc, .nilFunc] 49)).alloc (.cells #[.int .i64 1] 3)) (w.heap.size + 4) 3 #[.int .i64 1] from by have := Blk.fresh ((((w.alloc (.cells #[.int .i64 lo] 3)).alloc (.cells #[.int .i64 hi] 3)).alloc (.cells #[.func (.func ff) #[] #[]] 69)).alloc (.cells #[.slice none 0 0, .nilFunc, .nilFunc, .nilFunc] 49)) 3 #[.int .i64 1]; simpa [Nat.add_assoc] using this)
  have H1 : (#[.slice (some ⟨w.heap.size + 4, 0, none⟩) 1 1, .func (.func 52) #[] #[.pointer (some ⟨w.heap.size + 2, 0, none⟩)], .func (.func 53) #[] #[.pointer (some ⟨w.heap.size + 2, 0, none⟩)], .func (.func 54) #[] #[.pointer (some ⟨w.heap.size + 2, 0, none⟩), .pointer (some ⟨w.heap.size, 0, none⟩), .pointer (some ⟨w.heap.size + 1, 0, none⟩)]] : Array Value).all (·.oneCell') = true := by rw [← Array.all_toList]; rfl
  go_enter Try.func31, Try.ntmps31
  go_wp2_with (refine wpList_store_row rfl 49 (.tmp 6) _ rfl (w.heap.size + 3) #[.slice (some ⟨w.heap.size + 4, 0, none⟩) 1 1, .func (.func 52) #[] #[.pointer (some ⟨w.heap.size + 2, 0, none⟩)], .func (.func 53) #[] #[.pointer (some ⟨w.heap.size + 2, 0, none⟩)], .func (.func 54) #[] #[.pointer (some ⟨w.heap.size + 2, 0, none⟩), .pointer (some ⟨w.heap.size, 0, none⟩), .pointer (some ⟨w.heap.size + 1, 0, none⟩)]] rfl rfl 49 _ K3 (by kernel_rfl) rfl H1 ?_)
  have KR := setRow_heap (((((w.alloc (.cells #[.int .i64 lo] 3)).alloc (.cells #[.int .i64 hi] 3)).alloc (.cells #[.func (.func ff) #[] #[]] 69)).alloc (.cells #[.slice none 0 0, .nilFunc, .nilFunc, .nilFunc] 49)).alloc (.cells #[.int .i64 1] 3)) (w.heap.size + 3) _ #[.slice (some ⟨w.heap.size + 4, 0, none⟩) 1 1, .func (.func 52) #[] #[.pointer (some ⟨w.heap.size + 2, 0, none⟩)], .func (.func 53) #[] #[.pointer (some ⟨w.heap.size + 2, 0, none⟩)], .func (.func 54) #[] #[.pointer (some ⟨w.heap.size + 2, 0, none⟩), .pointer (some ⟨w.heap.size, 0, none⟩), .pointer (some ⟨w.heap.size + 1, 0, none⟩)]] 49 (0, 0) K3
  have BE := below_setRow BX (show w.heap.size ≤ w.heap.size + 3 by omega) #[.slice (some ⟨w.heap.size + 4, 0, none⟩) 1 1, .func (.func 52) #[] #[.pointer (some ⟨w.heap.size + 2, 0, none⟩)], .func (.func 53) #[] #[.pointer (some ⟨w.heap.size + 2, 0, none⟩)], .func (.func 54) #[] #[.pointer (some ⟨w.heap.size + 2, 0, none⟩), .pointer (some ⟨w.heap.size, 0, none⟩), .pointer (some ⟨w.heap.size + 1, 0, none⟩)]]
  have L0 := Av.bother_row (cs' := #[.slice (some ⟨w.heap.size + 4, 0, none⟩) 1 1, .func (.func 52) #[] #[.pointer (some ⟨w.heap.size + 2, 0, none⟩)], .func (.func 53) #[] #[.pointer (some ⟨w.heap.size + 2, 0, none⟩)], .func (.func 54) #[] #[.pointer (some ⟨w.heap.size + 2, 0, none⟩), .pointer (some ⟨w.heap.size, 0, none⟩), .pointer (some ⟨w.heap.size + 1, 0, none⟩)]]) K0 (show w.heap.size + 3 ≠ w.heap.size by omega)
  have L1 := Av.bother_row (cs' := #[.slice (some ⟨w.heap.size + 4, 0, none⟩) 1 1, .func (.func 52) #[] #[.pointer (some ⟨w.heap.size + 2, 0, none⟩)], .func (.func 53) #[] #[.pointer (some ⟨w.heap.size + 2, 0, none⟩)], .func (.func 54) #[] #[.pointer (some ⟨w.heap.size + 2, 0, none⟩), .pointer (some ⟨w.heap.size, 0, none⟩), .pointer (some ⟨w.heap.size + 1, 0, none⟩)]]) K1 (show w.heap.size + 3 ≠ w.heap.size + 1 by omega)
  have L2 := Av.bother_row (cs' := #[.slice (some ⟨w.heap.size + 4, 0, none⟩) 1 1, .func (.func 52) #[] #[.pointer (some ⟨w.heap.size + 2, 0, none⟩)], .func (.func 53) #[] #[.pointer (some ⟨w.heap.size + 2, 0, none⟩)], .func (.func 54) #[] #[.pointer (some ⟨w.heap.size + 2, 0, none⟩), .pointer (some ⟨w.heap.size, 0, none⟩), .pointer (some ⟨w.heap.size + 1, 0, none⟩)]]) K2 (show w.heap.size + 3 ≠ w.heap.size + 2 by omega)
  have L4 := Av.bother_row (cs' := #[.slice (some ⟨w.heap.size + 4, 0, none⟩) 1 1, .func (.func 52) #[] #[.pointer (some ⟨w.heap.size + 2, 0, none⟩)], .func (.func 53) #[] #[.pointer (some ⟨w.heap.size + 2, 0, none⟩)], .func (.func 54) #[] #[.pointer (some ⟨w.heap.size + 2, 0, none⟩), .pointer (some ⟨w.heap.size, 0, none⟩), .pointer (some ⟨w.heap.size + 1, 0, none⟩)]]) K4 (show w.heap.size + 3 ≠ w.heap.size + 4 by omega)
  generalize World.setRow (((((w.alloc (.cells #[.int .i64 lo] 3)).alloc (.cells #[.int .i64 hi] 3)).alloc (.cells #[.func (.func ff) #[] #[]] 69)).alloc (.cells #[.slice none 0 0, .nilFunc, .nilFunc, .nilFunc] 49)).alloc (.cells #[.int .i64 1] 3)) (w.heap.size + 3) #[.slice (some ⟨w.heap.size + 4, 0, none⟩) 1 1, .func (.func 52) #[] #[.pointer (some ⟨w.heap.size + 2, 0, none⟩)], .func (.func 53) #[] #[.pointer (some ⟨w.heap.size + 2, 0, none⟩)], .func (.func 54) #[] #[.pointer (some ⟨w.heap.size + 2, 0, none⟩), .pointer (some ⟨w.heap.size, 0, none⟩), .pointer (some ⟨w.heap.size + 1, 0, none⟩)]] = Y at *
  refine bodyPost_ret (v := .agg #[.slice (some ⟨w.heap.size + 4, 0, none⟩) 1 1, .func (.func 52) #[] #[.pointer (some ⟨w.heap.size + 2, 0, none⟩)], .func (.func 53) #[] #[.pointer (some ⟨w.heap.size + 2, 0, none⟩)], .func (.func 54) #[] #[.pointer (some ⟨w.heap.size + 2, 0, none⟩), .pointer (some ⟨w.heap.size, 0, none⟩), .pointer (some ⟨w.heap.size + 1, 0, none⟩)]]) ?_ rfl ⟨_, rfl, rfl, ⟨_, _, _, _, rfl, ⟨_, rfl, L4⟩, L2, L0, L1⟩, BE⟩
  have HL := run_loadVar_row (P := Try.prog) Y (w.heap.size + 3) 49 49 #[.slice (some ⟨w.heap.size + 4, 0, none⟩) 1 1, .func (.func 52) #[] #[.pointer (some ⟨w.heap.size + 2, 0, none⟩)], .func (.func 53) #[] #[.pointer (some ⟨w.heap.size + 2, 0, none⟩)], .func (.func 54) #[] #[.pointer (some ⟨w.heap.size + 2, 0, none⟩), .pointer (some ⟨w.heap.size, 0, none⟩), .pointer (some ⟨w.heap.size + 1, 0, none⟩)]] (0, 0) _ KR Try.underlying49 rfl (by kernel_rfl)
  generalize (#[.slice (some ⟨w.heap.size + 4, 0, none⟩) 1 1, .func (.func 52) #[] #[.pointer (some ⟨w.heap.size + 2, 0, none⟩)], .func (.func 53) #[] #[.pointer (some ⟨w.heap.size + 2, 0, none⟩)], .func (.func 54) #[] #[.pointer (some ⟨w.heap.size + 2, 0, none⟩), .pointer (some ⟨w.heap.size, 0, none⟩), .pointer (some ⟨w.heap.size + 1, 0, none⟩)]] : Array Value) = CS at *
  simp [results, show (Try.f31).results = #[.cell 6 49] from rfl, asAddr, HL, Act.put]
set_option maxRecDepth 100000 in
set_option maxHeartbeats 4000000 in
theorem make_large (ff : Nat) (w : World) : Calls Try.prog 36 #[.func (.func ff) #[] #[]] w fun e w' => ∃ V, e = .returned (.agg V) ∧ V.size = 4 ∧ LargeAt w' (.agg V) ff ∧ Below w.heap.size w w' := by
  have BX : Below w.heap.size w (((w.alloc (.cells #[.func (.func ff) #[] #[]] 72)).alloc (.cells #[.slice none 0 0, .nilFunc, .nilFunc, .nilFunc] 49)).alloc (.cells #[.int .i64 8] 3)) := (((Below.refl _ _).alloc (Nat.le_refl _) _).alloc (by simp) _).alloc (by simp; omega) _
  have K0 : Blk (((w.alloc (.cells #[.func (.func ff) #[] #[]] 72)).alloc (.cells #[.slice none 0 0, .nilFunc, .nilFunc, .nilFunc] 49)).alloc (.cells #[.int .i64 8] 3)) (w.heap.size) 72 #[.func (.func ff) #[] #[]] := (((show Blk (w.alloc (.cells #[.func (.func ff) #[] #[]] 72)) (w.heap.size) 72 #[.func (.func ff) #[] #[]] from by have := Blk.fresh w 72 #[.func (.func ff) #[] #[]]; simpa [Nat.add_assoc] using this)).alloc _).alloc _
  have K1 : Blk (((w.alloc (.cells #[.func (.func ff) #[] #[]] 72)).alloc (.cells #[.slice none 0 0, .nilFunc, .nilFunc, .nilFunc] 49)).alloc (.cells #[.int .i64 8] 3)) (w.heap.size + 1) 49 #[.slice none 0 0, .nilFunc, .nilFunc, .nilFunc] := ((show Blk ((w.alloc (.cells #[.func (.func ff) #[] #[]] 72)).alloc (.cells #[.slice none 0 0, .nilFunc, .nilFunc, .nilFunc] 49)) (w.heap.size + 1) 49 #[.slice none 0 0, .nilFunc, .nilFunc, .nilFunc] from by have := Blk.fresh (w.alloc (.cells #[.func (.func ff) #[] #[]] 72)) 49 #[.slice none 0 0, .nilFunc, .nilFunc, .nilFunc]; simpa [Nat.add_assoc] using this)).alloc _
  have K2 : Blk (((w.alloc (.cells #[.func (.func ff) #[] #[]] 72)).alloc (.cells #[.slice none 0 0, .nilFunc, .nilFunc, .nilFunc] 49)).alloc (.cells #[.int .i64 8] 3)) (w.heap.size + 2) 3 #[.int .i64 8] := (show Blk (((w.alloc (.cells #[.func (.func ff) #[] #[]] 72)).alloc (.cells #[.slice none 0 0, .nilFunc, .nilFunc, .nilFunc] 49)).alloc (.cells #[.int .i64 8] 3)) (w.heap.size + 2) 3 #[.int .i64 8] from by have := Blk.fresh ((w.alloc (.cells #[.func (.func ff) #[] #[]] 72)).alloc (.cells #[.slice none 0 0, .nilFunc, .nilFunc, .nilFunc] 49)) 3 #[.int .i64 8]; simpa [Nat.add_assoc] using this)
  have H1 : (#[.slice (some ⟨w.heap.size + 2, 0, none⟩) 1 1, .func (.func 55) #[] #[.pointer (some ⟨w.heap.size, 0, none⟩)], .func (.func 56) #[] #[.pointer (some ⟨w.heap.size, 0, none⟩)], .func (.func 57) #[] #[]] : Array Value).all (·.oneCell') = true := by rw [← Array.all_toList]; rfl
  go_enter Try.func36, Try.ntmps36
  go_wp2_with (refine wpList_store_row rfl 49 (.tmp 2) _ rfl (w.heap.size + 1) #[.slice (some ⟨w.heap.size + 2, 0, none⟩) 1 1, .func (.func 55) #[] #[.pointer (some ⟨w.heap.size, 0, none⟩)], .func (.func 56) #[] #[.pointer (some ⟨w.heap.size, 0, none⟩)], .func (.func 57) #[] #[]] rfl rfl 49 _ K1 (by kernel_rfl) rfl H1 ?_)
  have KR := setRow_heap (((w.alloc (.cells #[.func (.func ff) #[] #[]] 72)).alloc (.cells #[.slice none 0 0, .nilFunc, .nilFunc, .nilFunc] 49)).alloc (.cells #[.int .i64 8] 3)) (w.heap.size + 1) _ #[.slice (some ⟨w.heap.size + 2, 0, none⟩) 1 1, .func (.func 55) #[] #[.pointer (some ⟨w.heap.size, 0, none⟩)], .func (.func 56) #[] #[.pointer (some ⟨w.heap.size, 0, none⟩)], .func (.func 57) #[] #[]] 49 (0, 0) K1
  have BE := below_setRow BX (show w.heap.size ≤ w.heap.size + 1 by omega) #[.slice (some ⟨w.heap.size + 2, 0, none⟩) 1 1, .func (.func 55) #[] #[.pointer (some ⟨w.heap.size, 0, none⟩)], .func (.func 56) #[] #[.pointer (some ⟨w.heap.size, 0, none⟩)], .func (.func 57) #[] #[]]
  have L0 := Av.bother_row (cs' := #[.slice (some ⟨w.heap.size + 2, 0, none⟩) 1 1, .func (.func 55) #[] #[.pointer (some ⟨w.heap.size, 0, none⟩)], .func (.func 56) #[] #[.pointer (some ⟨w.heap.size, 0, none⟩)], .func (.func 57) #[] #[]]) K0 (show w.heap.size + 1 ≠ w.heap.size by omega)
  have L2 := Av.bother_row (cs' := #[.slice (some ⟨w.heap.size + 2, 0, none⟩) 1 1, .func (.func 55) #[] #[.pointer (some ⟨w.heap.size, 0, none⟩)], .func (.func 56) #[] #[.pointer (some ⟨w.heap.size, 0, none⟩)], .func (.func 57) #[] #[]]) K2 (show w.heap.size + 1 ≠ w.heap.size + 2 by omega)
  generalize World.setRow (((w.alloc (.cells #[.func (.func ff) #[] #[]] 72)).alloc (.cells #[.slice none 0 0, .nilFunc, .nilFunc, .nilFunc] 49)).alloc (.cells #[.int .i64 8] 3)) (w.heap.size + 1) #[.slice (some ⟨w.heap.size + 2, 0, none⟩) 1 1, .func (.func 55) #[] #[.pointer (some ⟨w.heap.size, 0, none⟩)], .func (.func 56) #[] #[.pointer (some ⟨w.heap.size, 0, none⟩)], .func (.func 57) #[] #[]] = Y at *
  refine bodyPost_ret (v := .agg #[.slice (some ⟨w.heap.size + 2, 0, none⟩) 1 1, .func (.func 55) #[] #[.pointer (some ⟨w.heap.size, 0, none⟩)], .func (.func 56) #[] #[.pointer (some ⟨w.heap.size, 0, none⟩)], .func (.func 57) #[] #[]]) ?_ rfl ⟨_, rfl, rfl, ⟨_, _, rfl, ⟨_, rfl, L2⟩, L0⟩, BE⟩
  have HL := run_loadVar_row (P := Try.prog) Y (w.heap.size + 1) 49 49 #[.slice (some ⟨w.heap.size + 2, 0, none⟩) 1 1, .func (.func 55) #[] #[.pointer (some ⟨w.heap.size, 0, none⟩)], .func (.func 56) #[] #[.pointer (some ⟨w.heap.size, 0, none⟩)], .func (.func 57) #[] #[]] (0, 0) _ KR Try.underlying49 rfl (by kernel_rfl)
  generalize (#[.slice (some ⟨w.heap.size + 2, 0, none⟩) 1 1, .func (.func 55) #[] #[.pointer (some ⟨w.heap.size, 0, none⟩)], .func (.func 56) #[] #[.pointer (some ⟨w.heap.size, 0, none⟩)], .func (.func 57) #[] #[]] : Array Value) = CS at *
  simp [results, show (Try.f36).results = #[.cell 2 49] from rfl, asAddr, HL, Act.put]
end Go.Proofs.Ytiopeghbpnjcgaa.Cp
