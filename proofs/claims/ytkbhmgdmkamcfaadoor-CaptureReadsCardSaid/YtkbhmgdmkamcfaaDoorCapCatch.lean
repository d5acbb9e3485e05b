/- The deferred call of the reading: where a panic with an error comes, it takes what was read. -/
import Derived.Test.YtkbhmgdmkamcfaaDoorCapRd2
import Derived.Recover
set_option linter.unusedVariables false
set_option linter.unusedSimpArgs false
set_option maxRecDepth 100000
namespace Go.Proofs.YtkbhmgdmkamcfaaDoor.Cap
open Go.RowKit Mem Rw Air Base Oct

/-- Three variables are another. -/
def Fin3 (s : Nat) (w w' : World) (v0 v1 v2 : Value) : Prop :=
  w'.cell? ⟨s, 0, none⟩ = some v0 ∧ w'.cell? ⟨s + 1, 0, none⟩ = some v1 ∧ w'.cell? ⟨s + 2, 0, none⟩ = some v2 ∧ (∀ p : Addr, p.block ≠ s → p.block ≠ s + 1 → p.block ≠ s + 2 → w'.cell? p = w.cell? p) ∧ Below s w w' ∧ ∀ (base : Nat) (e : TypeId) (size n : Nat) (v : Value) (xs : List Value), s + 2 < base → w.ownsRow base e size v n xs → w'.ownsRow base e size v n xs
theorem fin3_set {s : Nat} {w : World} {t0 t1 t2 : TypeId} {u0 u1 u2 : Value} (h0 : Blk w s t0 #[u0]) (h1 : Blk w (s + 1) t1 #[u1]) (h2 : Blk w (s + 2) t2 #[u2]) (v0 v1 v2 : Value) :
    Fin3 s w (((w.setCell ⟨s, 0, none⟩ v0).setCell ⟨s + 1, 0, none⟩ v1).setCell ⟨s + 2, 0, none⟩ v2) v0 v1 v2 := by
  have c0 : w.cell? ⟨s, 0, none⟩ = some u0 := h0.cell 0
  have c1 : w.cell? ⟨s + 1, 0, none⟩ = some u1 := h1.cell 0
  have c2 : w.cell? ⟨s + 2, 0, none⟩ = some u2 := h2.cell 0
  refine ⟨?_, ?_, ?_, fun p a b c => ?_, (((Below.refl s w).setCell (p := ⟨s, 0, none⟩) (Nat.le_refl _) v0).setCell (p := ⟨s + 1, 0, none⟩) (Nat.le_succ _) v1).setCell (p := ⟨s + 2, 0, none⟩) (by show s ≤ s + 2; omega) v2, fun base e size n v xs hb r => ?_⟩
  · rw [World.cell?_setCell_other _ _ _ _ (by simp), World.cell?_setCell_other _ _ _ _ (by simp)]
    exact World.cell?_setCell_same _ _ _ c0
  · rw [World.cell?_setCell_other _ _ _ _ (by simp)]
    exact World.cell?_setCell_same _ _ _ ((World.cell?_setCell_other _ _ _ _ (by simp)).trans c1)
  · exact World.cell?_setCell_same _ _ _ ((World.cell?_setCell_other _ _ _ _ (by simp)).trans ((World.cell?_setCell_other _ _ _ _ (by simp)).trans c2))
  · rw [World.cell?_setCell_other _ _ _ _ (fun e => c (by rw [← e])), World.cell?_setCell_other _ _ _ _ (fun e => b (by rw [← e])), World.cell?_setCell_other _ _ _ _ (fun e => a (by rw [← e]))]
  · exact ownsRow_setCell_below (ownsRow_setCell_below (ownsRow_setCell_below r (a := ⟨s, 0, none⟩) (by show s < base; omega) v0) (a := ⟨s + 1, 0, none⟩) (by show s + 1 < base; omega) v1) (a := ⟨s + 2, 0, none⟩) (by show s + 2 < base; omega) v2
theorem Fin3.drew {s : Nat} {w w' : World} {v0 v1 v2 : Value} (h : Fin3 s w w' v0 v1 v2) : Fin3 s w w'.drew v0 v1 v2 := ⟨h.1, h.2.1, h.2.2.1, h.2.2.2.1, h.2.2.2.2.1.drew, h.2.2.2.2.2⟩
theorem catch_pan (s g : Nat) (A : Option Addr) (n c : Nat) (k : Int) (RA : Option Addr) (rn rc : Nat) (code : Int) (older : List PanicEntry) (v0 v1 v2 : Value) (w : World) (hR : Rdr w g A n c k (.slice RA rn rc)) (p0 : w.cell? ⟨s + 4, 0, none⟩ = some (.pointer (some ⟨g, 0, none⟩))) (h0 : Blk w s 35 #[v0]) (h1 : Blk w (s + 1) 3 #[v1]) (h2 : Blk w (s + 2) 30 #[v2]) :
    CallsD Tryd.prog 38 #[.pointer (some ⟨s + 4, 0, none⟩), .pointer (some ⟨s, 0, none⟩), .pointer (some ⟨s + 1, 0, none⟩), .pointer (some ⟨s + 2, 0, none⟩)] (.panicking ({ v := .iface 30 (.int .i64 code), recovered := false } :: older)) w fun e u' w' =>
      e = .returned (.tuple #[]) ∧ u' = .panicking ({ v := .iface 30 (.int .i64 code), recovered := true } :: older) ∧ Fin3 s w w' (.slice RA rn rc) (.int .i64 k) (.int .i64 code) := by
  have HF := Lib.hid (fin3_set h0 h1 h2 (.slice RA rn rc) (.int .i64 k) (.int .i64 code))
  obtain ⟨r0, r1, r2, _, _, _⟩ := rdr_cells hR
  have f0 := frozen_of_row w _ 0 _ _ h0
  have f1 := frozen_of_row w _ 0 _ _ h1
  have f2 := frozen_of_row w _ 0 _ _ h2
  have q0 : w.cell? ⟨s, 0, none⟩ = some v0 := h0.cell 0
  have q1 : w.cell? ⟨s + 1, 0, none⟩ = some v1 := h1.cell 0
  have q2 : w.cell? ⟨s + 2, 0, none⟩ = some v2 := h2.cell 0
  clear h0 h1 h2 hR
  have hta : ∀ w' : World, (Instr.typeAssert (.iface 30 (.int .i64 code)) 20 30 true).run Tryd.prog w' = .ok (.tuple #[.int .i64 code, .bool true]) w' := fun _ => by kernel_rfl
  refine callsD_of_wpS Tryd.func38 rfl fun c₀ cs hu => ?_
  apply wpS_seq
  apply wpS_region
  simp [wpOpsS, go_sem, recoverD, hu, hta, Tryd.ntmps38, Exit.thenS]
  apply wpS_seq
  apply wpS_region
  simp [wpOpsS, go_sem, Exit.thenS]
  refine wpS_cond (t := true) (by simp [Act.eval, Array.replicate]) ?_
  simp only [if_true]
  refine wpS_of_wp ?_
  simp [Array.replicate]
  go_region
  exact ⟨rfl, _, rfl, .tuple #[], by simp [results, Tryd.f38, go_sem], rfl, rfl, HF.out.drew⟩
theorem catch_idle (p0 p1 p2 p3 : Value) (w : World) :
    CallsD Tryd.prog 38 #[p0, p1, p2, p3] .returning w fun e u' w' => e = .returned (.tuple #[]) ∧ u' = .returning ∧ w' = w := by
  have hta : ∀ w' : World, (Instr.typeAssert .nilIface 20 30 true).run Tryd.prog w' = .ok (.tuple #[.int .i64 0, .bool false]) w' := fun _ => by kernel_rfl
  refine callsD_of_wpS Tryd.func38 rfl fun c₀ cs hu => ?_
  apply wpS_seq
  apply wpS_region
  simp [wpOpsS, go_sem, recoverD, hu, hta, Tryd.ntmps38, Exit.thenS]
  apply wpS_seq
  apply wpS_region
  simp [wpOpsS, go_sem, Exit.thenS]
  refine wpS_cond (t := false) (by simp [Act.eval, Array.replicate]) ?_
  simp only [Bool.false_eq_true, if_false]
  refine wpS_of_wp (wp_skip ?_)
  cases c₀
  simp_all [bodyPostS, results, Tryd.f38, go_sem]
/-- The variables of a reading: the results, and where the reader is. -/
def Bx (s : Nat) (w : World) : Prop :=
  w.cell? ⟨s + 4, 0, none⟩ = some (.pointer (some ⟨s + 3, 0, none⟩)) ∧ ∃ v0 v1 v2, Blk w s 35 #[v0] ∧ Blk w (s + 1) 3 #[v1] ∧ Blk w (s + 2) 30 #[v2]
theorem Bx.keep {s : Nat} {w w' : World} (h : Bx s w) (hb : Below (s + 3) w w') (hc : w'.cell? ⟨s + 4, 0, none⟩ = w.cell? ⟨s + 4, 0, none⟩) : Bx s w' := by
  obtain ⟨h1, v0, v1, v2, h2, h3, h4⟩ := h
  exact ⟨hc.trans h1, v0, v1, v2, h2.below hb (by omega), h3.below hb (by omega), h4.below hb (by omega)⟩
theorem door_pan {R : Ending → World → Prop} {s : Nat} {W : World} {tm : Array Value} {code : Int} {A RA : Option Addr} {n c rn rc : Nat} {k : Int} (hB : Bx s W) (hR : Rdr W (s + 3) A n c k (.slice RA rn rc))
    (t2 : tm[2]? = some (.pointer (some ⟨s, 0, none⟩))) (t3 : tm[3]? = some (.pointer (some ⟨s + 1, 0, none⟩))) (t4 : tm[4]? = some (.pointer (some ⟨s + 2, 0, none⟩)))
    (hp : ∀ W', Fin3 s W W' (.slice RA rn rc) (.int .i64 k) (.int .i64 code) → R (.returned (.tuple #[.slice RA rn rc, .int .i64 k, .int .i64 code])) W') :
    Leaves Tryd.prog Tryd.f20 tm R [{ target := Target.fn (Fn.func 38) #[.pointer (some ⟨s + 4, 0, none⟩), .pointer (some ⟨s, 0, none⟩), .pointer (some ⟨s + 1, 0, none⟩), .pointer (some ⟨s + 2, 0, none⟩)], args := #[] }] (.panicking [{ v := .iface 30 (.int .i64 code), recovered := false }]) W := by
  obtain ⟨h1, v0, v1, v2, h2, h3, h4⟩ := hB
  refine leaves_cons (f := 38) (args := #[.pointer (some ⟨s + 4, 0, none⟩), .pointer (some ⟨s, 0, none⟩), .pointer (some ⟨s + 1, 0, none⟩), .pointer (some ⟨s + 2, 0, none⟩)]) (by simp) (by simp [go_sem]) ?_
  refine (catch_pan s (s + 3) A n c k RA rn rc code [] v0 v1 v2 W hR h1 h2 h3 h4).mono ?_
  rintro e u' w' ⟨rfl, rfl, hF⟩
  have hq := hp w' hF
  obtain ⟨c0, c1, c2, _⟩ := hF
  refine ⟨_, ?_, hq⟩
  simp [results, Tryd.f20, go_sem, t2, t3, t4, c0, c1, c2]
theorem door_idle {R : Ending → World → Prop} {s : Nat} {W : World} {tm : Array Value} {p0 p1 p2 p3 v0 v1 v2 : Value} (c0 : W.cell? ⟨s, 0, none⟩ = some v0) (c1 : W.cell? ⟨s + 1, 0, none⟩ = some v1) (c2 : W.cell? ⟨s + 2, 0, none⟩ = some v2)
    (t2 : tm[2]? = some (.pointer (some ⟨s, 0, none⟩))) (t3 : tm[3]? = some (.pointer (some ⟨s + 1, 0, none⟩))) (t4 : tm[4]? = some (.pointer (some ⟨s + 2, 0, none⟩)))
    (hp : R (.returned (.tuple #[v0, v1, v2])) W) :
    Leaves Tryd.prog Tryd.f20 tm R [{ target := Target.fn (Fn.func 38) #[p0, p1, p2, p3], args := #[] }] .returning W := by
  refine leaves_cons (f := 38) (args := #[p0, p1, p2, p3]) (by simp) (by simp [go_sem]) ?_
  refine (catch_idle p0 p1 p2 p3 W).mono ?_
  rintro e u' w' ⟨rfl, rfl, rfl⟩
  refine ⟨_, ?_, hp⟩
  simp [results, Tryd.f20, go_sem, t2, t3, t4, c0, c1, c2]
theorem blk_set_other {w : World} {g b i : Nat} {t : TypeId} {cs : Array Value} (h : Blk w g t cs) (hb : b ≠ g) (v : Value) : Blk (w.setCell ⟨b, i, none⟩ v) g t cs := by
  unfold Blk at h ⊢
  unfold World.setCell
  simp only [Array.getElem?_modify, h]
  simp [hb]
theorem start_any (A : Option Addr) (n c : Nat) (w X : World)
    (hX : X = ((((((w.alloc (.cells #[.slice none 0 0] 35)).alloc (.cells #[.int .i64 0] 3)).alloc (.cells #[.int .i64 0] 30)).alloc (.cells #[.slice A n c, .int .i64 0, .slice none 0 0] 77)).alloc (.cells #[.pointer (some ⟨w.heap.size + 3, 0, none⟩)] 75)))) :
    Bx w.heap.size X ∧ Rdr X (w.heap.size + 3) A n c 0 (.slice none 0 0) ∧ Below w.heap.size w X ∧ X.heap.size = w.heap.size + 5 := by
  have b1 := Blk.fresh w 35 #[.slice none 0 0]
  have e1 : (w.alloc (.cells #[.slice none 0 0] 35)).heap.size = w.heap.size + 1 := by simp
  have l1 := (Below.refl w.heap.size w).alloc (Nat.le_refl _) (.cells #[.slice none 0 0] 35)
  generalize w.alloc (.cells #[.slice none 0 0] 35) = w1 at *
  have b2 := Blk.fresh w1 3 #[.int .i64 0]
  have a2 := b1.alloc (.cells #[.int .i64 0] 3)
  have e2 : (w1.alloc (.cells #[.int .i64 0] 3)).heap.size = w.heap.size + 2 := by simp [e1]
  have l2 := l1.alloc (by omega) (.cells #[.int .i64 0] 3)
  generalize w1.alloc (.cells #[.int .i64 0] 3) = w2 at *
  rw [e1] at b2
  have b3 := Blk.fresh w2 30 #[.int .i64 0]
  have a3 := a2.alloc (.cells #[.int .i64 0] 30)
  have d3 := b2.alloc (.cells #[.int .i64 0] 30)
  have e3 : (w2.alloc (.cells #[.int .i64 0] 30)).heap.size = w.heap.size + 3 := by simp [e2]
  have l3 := l2.alloc (by omega) (.cells #[.int .i64 0] 30)
  generalize w2.alloc (.cells #[.int .i64 0] 30) = w3 at *
  rw [e2] at b3
  have b4 := Blk.fresh w3 77 #[.slice A n c, .int .i64 0, .slice none 0 0]
  have a4 := a3.alloc (.cells #[.slice A n c, .int .i64 0, .slice none 0 0] 77)
  have d4 := d3.alloc (.cells #[.slice A n c, .int .i64 0, .slice none 0 0] 77)
  have f4 := b3.alloc (.cells #[.slice A n c, .int .i64 0, .slice none 0 0] 77)
  have e4 : (w3.alloc (.cells #[.slice A n c, .int .i64 0, .slice none 0 0] 77)).heap.size = w.heap.size + 4 := by simp [e3]
  have l4 := l3.alloc (by omega) (.cells #[.slice A n c, .int .i64 0, .slice none 0 0] 77)
  generalize w3.alloc (.cells #[.slice A n c, .int .i64 0, .slice none 0 0] 77) = w4 at *
  rw [e3] at b4
  have b5 := Blk.fresh w4 75 #[.pointer (some ⟨w.heap.size + 3, 0, none⟩)]
  rw [e4] at b5
  have O : Obj := (.cells #[.pointer (some ⟨w.heap.size + 3, 0, none⟩)] 75)
  subst hX
  refine ⟨⟨b5.cell 0, _, _, _, a4.alloc _, d4.alloc _, f4.alloc _⟩, b4.alloc _, l4.alloc (by omega) _, by simp [e4]⟩
end Go.Proofs.YtkbhmgdmkamcfaaDoor.Cap
