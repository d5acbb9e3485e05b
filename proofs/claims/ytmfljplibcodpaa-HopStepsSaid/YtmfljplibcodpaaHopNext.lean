/- The channel of an event with parameters of a connection, by the layer and by the document: contracts over the program. -/
import Derived.Test.YtmfljplibcodpaaHopWalks2
set_option linter.unusedVariables false
set_option linter.unusedSimpArgs false
namespace Go.Proofs.Ytmfljplibcodpaa.Hop
open Go.RowKit Mem Chm Base

/-- Parameters of a connection: of eleven cells. -/
structure Par where
  (a b u0 u1 u2 u3 u4 m h d g : Int)
def Par.cs (p : Par) : Array Value := #[.int .u32 p.a, .int .u32 p.b, .int .i64 p.u0, .int .i64 p.u1, .int .i64 p.u2, .int .i64 p.u3, .int .i64 p.u4, .int .u64 p.m, .int .i64 p.h, .int .i64 p.d, .int .i64 p.g]
/-- The channel of the event, and its unmapped channel. -/
def unZ (p : Par) (e : Nat) (l : Int) : Int := if p.g = 2 then (numN e p.a.toNat % 37 : Nat) else stepZ l p.h
def chZ (p : Par) (e : Nat) (l : Int) : Int := if p.g = 2 then mixZ p.m.toNat (numN e p.a.toNat) else remapZ p.m.toNat (stepZ l p.h)
def Par.ok (p : Par) : Prop := (0 ≤ p.a ∧ p.a ≤ 4294967295) ∧ (0 ≤ p.m ∧ p.m ≤ 18446744073709551615) ∧ (-9223372036854775808 ≤ p.h ∧ p.h ≤ 9223372036854775807)
/-- Two of the cells. -/
structure Held (w : World) (g : Nat) (a m : Int) : Prop where
  c0 : w.cell? ⟨g, 0, none⟩ = some (.int .u32 a)
  c7 : w.cell? ⟨g, 7, none⟩ = some (.int .u64 m)
theorem Held.below {w w' : World} {g : Nat} {a m : Int} (h : Held w g a m) (k : Below w.heap.size w w') : Held w' g a m :=
  ⟨(k.cell (p := ⟨g, 0, none⟩) (World.block_lt_of_cell? _ _ h.c0)).trans h.c0, (k.cell (p := ⟨g, 7, none⟩) (World.block_lt_of_cell? _ _ h.c7)).trans h.c7⟩
theorem Held.drew {w : World} {g : Nat} {a m : Int} (h : Held w g a m) : Held w.drew g a m := ⟨h.c0, h.c7⟩
theorem Held.two {w : World} {g : Nat} {a m : Int} (h : Held w g a m) : w.cell? ⟨g, 0, none⟩ = some (.int .u32 a) ∧ w.cell? ⟨g, 7, none⟩ = some (.int .u64 m) := ⟨h.c0, h.c7⟩
theorem held_new (w : World) (t : TypeId) (cs : Array Value) (a m : Int) (h0 : cs[0]? = some (.int .u32 a)) (h7 : cs[7]? = some (.int .u64 m)) : Held (w.alloc (.cells cs t)) w.heap.size a m :=
  ⟨((Blk.fresh w t cs).cell 0).trans h0, ((Blk.fresh w t cs).cell 7).trans h7⟩
set_option maxHeartbeats 1000000 in
theorem next_any (p : Par) (e : Nat) (l : Int) (w : World) (hp : p.ok) (he : e ≤ 65535) (hl : -9223372036854775808 ≤ l ∧ l ≤ 9223372036854775807) :
    Calls Try.prog 17 #[.agg p.cs, .int .u16 e, .int .i64 l] w fun e' w' => e' = .returned (.tuple #[.int .i64 (chZ p e l), .int .i64 (unZ p e l)]) ∧ Below w.heap.size w w' := by
  obtain ⟨⟨ha0, ha1⟩, ⟨hm0, hm1⟩, hh⟩ := hp
  obtain ⟨a, b, u0, u1, u2, u3, u4, m, h, d, g⟩ := p
  simp only at ha0 ha1 hm0 hm1 hh
  obtain ⟨a, rfl⟩ := Int.eq_ofNat_of_zero_le ha0
  obtain ⟨m, rfl⟩ := Int.eq_ofNat_of_zero_le hm0
  unfold chZ unZ Par.cs
  simp only [Int.toNat_natCast]
  by_cases hg : g = 2
  · rw [if_pos hg, if_pos hg]
    have hg' : (g == 2) = true := by simpa using hg
    have HM := Lib.hid fun w => mix_any m e a w (by omega) he (by omega)
    have HU := Lib.hid fun w => unmapped_any e a w he (by omega)
    generalize mixZ m (numN e a) = C at *
    generalize ((numN e a % 37 : Nat) : Int) = U at *
    clear hg
    go_enter Try.func17, Try.ntmps17
    go_wp2_with fail
    have B0 : Below w.heap.size w (w.alloc (.cells #[.int .u32 a, .int .u32 b, .int .i64 u0, .int .i64 u1, .int .i64 u2, .int .i64 u3, .int .i64 u4, .int .u64 m, .int .i64 h, .int .i64 d, .int .i64 g] 37)) := (Below.refl _ w).alloc (Nat.le_refl _) _
    have T0 : Held (w.alloc (.cells #[.int .u32 a, .int .u32 b, .int .i64 u0, .int .i64 u1, .int .i64 u2, .int .i64 u3, .int .i64 u4, .int .u64 m, .int .i64 h, .int .i64 d, .int .i64 g] 37)) w.heap.size a m := held_new w _ _ a m rfl rfl
    generalize w.alloc (.cells #[.int .u32 a, .int .u32 b, .int .i64 u0, .int .i64 u1, .int .i64 u2, .int .i64 u3, .int .i64 u4, .int .u64 m, .int .i64 h, .int .i64 d, .int .i64 g] 37) = W at *
    have B1 := B0.drew
    have T1 := T0.drew
    clear B0 T0
    go_region_held3 (fun w' => w'.cell? ⟨w.heap.size, 0, none⟩ = some (.int .u32 a) ∧ w'.cell? ⟨w.heap.size, 7, none⟩ = some (.int .u64 m)) (first | exact T2.two | exact T1.two) (first
      | (go_at_call 15; refine (HM.out _).mono ?_; rintro e w2 ⟨rfl, b2⟩; have B2 := thenB B1 b2; have T2 := T1.below b2)
      | (go_at_call 24; refine (HU.out _).mono ?_; rintro e w' ⟨rfl, rfl⟩))
    go_wp2_with fail
    go_ret2
    exact ⟨rfl, B2⟩
  · rw [if_neg hg, if_neg hg]
    have hg' : (g == 2) = false := by simpa using hg
    have HS := Lib.hid fun w => step_any l h w hl hh
    have HR := Lib.hid fun w => remap_any m (stepZ l h) w (by omega)
    generalize remapZ m (stepZ l h) = C at *
    generalize stepZ l h = U at *
    go_enter Try.func17, Try.ntmps17
    go_wp2_with (first
      | (go_at_call 9; refine (HS.out _).mono ?_; rintro e w' ⟨rfl, rfl⟩)
      | (go_at_call 30; refine (HR.out _).mono ?_; rintro e w1 ⟨rfl, b1⟩))
    go_ret2
    exact ⟨rfl, alloc1 w _ b1⟩
set_option maxHeartbeats 1000000 in
theorem rnext_any (p : Par) (e : Nat) (l : Int) (w : World) (hp : p.ok) (he : e ≤ 65535) (hl : -9223372036854775808 ≤ l ∧ l ≤ 9223372036854775807) :
    Calls Try.prog 18 #[.agg p.cs, .int .u16 e, .int .i64 l] w fun e' w' => e' = .returned (.tuple #[.int .i64 (chZ p e l), .int .i64 (unZ p e l)]) ∧ Below w.heap.size w w' := by
  obtain ⟨⟨ha0, ha1⟩, ⟨hm0, hm1⟩, hh⟩ := hp
  obtain ⟨a, b, u0, u1, u2, u3, u4, m, h, d, g⟩ := p
  simp only at ha0 ha1 hm0 hm1 hh
  obtain ⟨a, rfl⟩ := Int.eq_ofNat_of_zero_le ha0
  obtain ⟨m, rfl⟩ := Int.eq_ofNat_of_zero_le hm0
  unfold chZ unZ Par.cs
  simp only [Int.toNat_natCast]
  by_cases hg : g = 2
  · rw [if_pos hg, if_pos hg]
    have hg' : (g == 2) = true := by simpa using hg
    have HM := Lib.hid fun w => rmix_any m e a w (by omega) he (by omega)
    have h1 := idN_lt (a := a) (by omega)
    have h2 := numN_lt he (show a ≤ 4294967295 by omega)
    have HI := Lib.hid fun w => rident_any a w (by omega)
    have HR : Hid (∀ w, Calls Try.prog 14 #[.int .u16 e, .int .u16 (idN a : Nat)] w fun e' w' => e' = .returned (.int .u16 (numN e a : Nat)) ∧ w = w') := Lib.hid fun w => rRandom_any e (idN a) w he (by omega)
    generalize mixZ m (numN e a) = C at *
    have q1 : IntKind.i64.wrap ((numN e a : Nat) : Int) = ((numN e a : Nat) : Int) := by show IntKind.i64.wrap _ = _; simp [IntKind.wrap, IntKind.bits, IntKind.signed]; omega
    have q2 : ((numN e a : Nat) : Int).tmod 37 = ((numN e a % 37 : Nat) : Int) := by rw [Int.tmod_eq_emod_of_nonneg (by omega)]; omega
    generalize ((numN e a % 37 : Nat) : Int) = U at *
    generalize numN e a = r at *
    generalize idN a = I at *
    clear hg
    go_enter Try.func18, Try.ntmps18
    go_wp2_with fail
    have B0 : Below w.heap.size w (w.alloc (.cells #[.int .u32 a, .int .u32 b, .int .i64 u0, .int .i64 u1, .int .i64 u2, .int .i64 u3, .int .i64 u4, .int .u64 m, .int .i64 h, .int .i64 d, .int .i64 g] 37)) := (Below.refl _ w).alloc (Nat.le_refl _) _
    have T0 : Held (w.alloc (.cells #[.int .u32 a, .int .u32 b, .int .i64 u0, .int .i64 u1, .int .i64 u2, .int .i64 u3, .int .i64 u4, .int .u64 m, .int .i64 h, .int .i64 d, .int .i64 g] 37)) w.heap.size a m := held_new w _ _ a m rfl rfl
    generalize w.alloc (.cells #[.int .u32 a, .int .u32 b, .int .i64 u0, .int .i64 u1, .int .i64 u2, .int .i64 u3, .int .i64 u4, .int .u64 m, .int .i64 h, .int .i64 d, .int .i64 g] 37) = W at *
    have B1 := B0.drew
    have T1 := T0.drew
    clear B0 T0
    go_region_held3 (fun w' => w'.cell? ⟨w.heap.size, 0, none⟩ = some (.int .u32 a) ∧ w'.cell? ⟨w.heap.size, 7, none⟩ = some (.int .u64 m)) (first | exact T2.two | exact T1.two) (first
      | (go_at_call 16; refine (HM.out _).mono ?_; rintro e w2 ⟨rfl, b2⟩; have B2 := thenB B1 b2; have T2 := T1.below b2)
      | (go_at_call 12; refine (HI.out _).mono ?_; rintro e w' ⟨rfl, rfl⟩)
      | (go_at_call 14; refine (HR.out _).mono ?_; rintro e w' ⟨rfl, rfl⟩))
    go_wp2_with fail
    go_ret2
    exact ⟨rfl, B2⟩
  · rw [if_neg hg, if_neg hg]
    have hg' : (g == 2) = false := by simpa using hg
    have HS := Lib.hid fun w => rstep_any l h w hl hh
    have HR := Lib.hid fun w => rremap_any m (stepZ l h) w (by omega)
    generalize remapZ m (stepZ l h) = C at *
    generalize stepZ l h = U at *
    go_enter Try.func18, Try.ntmps18
    go_wp2_with (first
      | (go_at_call 10; refine (HS.out _).mono ?_; rintro e w' ⟨rfl, rfl⟩)
      | (go_at_call 31; refine (HR.out _).mono ?_; rintro e w1 ⟨rfl, b1⟩))
    go_ret2
    exact ⟨rfl, alloc1 w _ b1⟩
end Go.Proofs.Ytmfljplibcodpaa.Hop
