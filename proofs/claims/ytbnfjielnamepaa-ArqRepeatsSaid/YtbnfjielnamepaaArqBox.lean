/- Acknowledgement: a store into the box of two sides leaves all packets. No function is walked. -/
import Derived.Test.YtbnfjielnamepaaArqPart
set_option linter.unusedVariables false
set_option linter.unusedSimpArgs false
namespace Go.Proofs.Ytbnfjielnamepaa.Arq
open Go.RowKit Mem Oct Rw Av Dp
open Base (thenB)

theorem step_load_row {P : Program} {ops : Array Oper} {o : Oper} {a : Act} {w : World} {K : Act → World → Prop} {Q : Exit → Act → World → Prop} {E : Prop} (hgd : o.guard = none) (ty : TypeId) (x : Operand) (ho : o.op = .load ty x)
    (g : Nat) (hx : a.eval x = .pointer (some ⟨g, 0, none⟩)) (t : TypeId) (cs : Array Value) (fr : Nat × Nat) (d : TypeDesc) (hg : w.heap[g]? = some (.cells cs t fr))
    (hu : P.underlying ty = some d) (hd : (match d with | .struct _ | .array _ _ => true | _ => false) = true) (hi : (P.info? ty).map (·.size) = some cs.size)
    (h : K (a.put o.dst (.agg cs)) w) : if Region.wanted o (yielded ops a.tmps) = true then Oper.wp P o a w K Q else E := by
  have hw : Region.wanted o (yielded ops a.tmps) = true := by simp [Region.wanted, hgd]
  rw [if_pos hw]
  exact wp_load_row ty x ho g hx t cs fr d hg hu hd hi h
theorem wpList_load_row_w {P : Program} {ops : Array Oper} {rest : List Oper} {o : Oper} {a : Act} {w : World} {Q : Exit → Act → World → Prop} (hw : Region.wanted o (yielded ops a.tmps) = true) (ty : TypeId) (x : Operand) (ho : o.op = .load ty x)
    (g : Nat) (hx : a.eval x = .pointer (some ⟨g, 0, none⟩)) (t : TypeId) (cs : Array Value) (fr : Nat × Nat) (d : TypeDesc) (hg : w.heap[g]? = some (.cells cs t fr))
    (hu : P.underlying ty = some d) (hd : (match d with | .struct _ | .array _ _ => true | _ => false) = true) (hi : (P.info? ty).map (·.size) = some cs.size)
    (h : wpList P ops Q rest (a.put o.dst (.agg cs)) w) : wpList P ops Q (o :: rest) a w :=
  BigFrame.wpList_want hw fun K hK => wp_load_row ty x ho g hx t cs fr d hg hu hd hi (hK _ _ h)
theorem wpList_load_part {P : Program} {ops : Array Oper} {rest : List Oper} {o : Oper} {a : Act} {w : World} {Q : Exit → Act → World → Prop} (hw : Region.wanted o (yielded ops a.tmps) = true) (ty : TypeId) (x : Operand) (ho : o.op = .load ty x)
    (g off : Nat) (hx : a.eval x = .pointer (some ⟨g, off, none⟩)) (t : TypeId) (cs vs : Array Value) (fr : Nat × Nat) (d : TypeDesc) (hg : w.heap[g]? = some (.cells cs t fr)) (hv : (cs.toList.drop off).take vs.size = vs.toList)
    (hu : P.underlying ty = some d) (hd : (match d with | .struct _ | .array _ _ => true | _ => false) = true) (hi : (P.info? ty).map (·.size) = some vs.size)
    (h : wpList P ops Q rest (a.put o.dst (.agg vs)) w) : wpList P ops Q (o :: rest) a w :=
  BigFrame.wpList_want hw fun K hK => by
    unfold Oper.wp execOp
    simp only [ho, hx, Instr.loadAt, Instr.sureAddr, Sem.run_bind, Sem.run_pure, Result.andThen_ok, Av.run_loadVar_part w g off t ty cs vs fr d hg hv hu hd hi]
    exact hK _ _ h
/-- A store into the box of two sides leaves all packets. -/
theorem cells_no8 {x : En} {A0 A1 A2 A3 A4 A5 : Option Addr} {n0 n1 n2 n3 n4 n5 c0 c1 c2 c3 c4 c5 : Nat} (i : Nat) (z : Int) : (xcel x (.slice A0 n0 c0) (.slice A1 n1 c1) (.slice A2 n2 c2) (.slice A3 n3 c3) (.slice A4 n4 c4) (.slice A5 n5 c5))[i]? ≠ some (Value.int .u8 z) := by
  unfold xcel
  intro h
  match i, h with
  | 0, h | 1, h | 2, h | 3, h | 4, h | 5, h | 6, h | 7, h | 8, h | 9, h | 10, h | 11, h | 12, h | 13, h | 14, h | 15, h | 16, h | 17, h => simp at h
  | i + 18, h => simp at h
theorem PP.box {w : World} {g o : Nat} {x : Pm} {cs : Array Value} {t : TypeId} (h : PP w o x) (hk : Blk w g t cs) (ht : 5 ≠ t) (hc : ∀ (i : Nat) (z : Int), cs[i]? ≠ some (Value.int .u8 z)) (cs' : Array Value) : PP (w.setRow g cs') o x := by
  refine ⟨h.1, h.2.1, h.2.2.1, ?_⟩
  have hs := stp_row hk cs'
  rcases h.2.2.2 with h | ⟨b, off, e, h1, h2, hcb⟩
  · exact .inl (h.step hs ht)
  · by_cases h0 : x.v = []
    · left; left; rw [h0]; rfl
    · refine .inr ⟨b, off, e, h1, by rw [size_setRow]; exact h2, fun j hj => ?_⟩
      have hbg : b ≠ g := by
        rintro rfl
        have := hcb j hj
        rw [hk.cell] at this
        exact hc _ _ this
      rw [World.cell?_of_block (a := ⟨b, off + j, none⟩) (hs.gr.block b h2 (by simpa using hbg))]
      exact hcb j hj
theorem QQ.box {w : World} {g m o : Nat} {V : Value} {l : List Pm} {cs : Array Value} {t : TypeId} (h : QQ w m o V l) (hk : Blk w g t cs) (ht : 5 ≠ t) (ht2 : 24 ≠ t) (hc : ∀ (i : Nat) (z : Int), cs[i]? ≠ some (Value.int .u8 z)) (cs' : Array Value) : QQ (w.setRow g cs') m o V l := by
  obtain ⟨⟨A, c, e, h1, h2⟩, h3, h4⟩ := h
  exact ⟨⟨A, c, e, h1, h2.step (stp_row hk cs') ht2⟩, fun x hx => PP.box (h3 x hx) hk ht hc cs', fun k hkk => by rw [size_setRow]; exact h4 k hkk⟩
theorem RR.box {w : World} {g m o : Nat} {V : Value} {l : List Pm} {cs : Array Value} {t : TypeId} (h : RR w m o V l) (hk : Blk w g t cs) (ht : 5 ≠ t) (ht2 : 24 ≠ t) (hc : ∀ (i : Nat) (z : Int), cs[i]? ≠ some (Value.int .u8 z)) (cs' : Array Value) : RR (w.setRow g cs') m o V l := by
  refine ⟨?_, fun x hx => PP.box (h.2 x hx) hk ht hc cs'⟩
  exact own_setRow h.1 hk ht2 cs'
theorem All.box {w : World} {g m o : Nat} {V0 V1 V2 V3 V4 V5 : Value} {l0 l1 l2 l3 l4 l5 : List Pm} {cs : Array Value} {t : TypeId} (h : All w m o V0 V1 V2 V3 V4 V5 l0 l1 l2 l3 l4 l5) (hk : Blk w g t cs) (ht : 5 ≠ t) (ht2 : 24 ≠ t) (hc : ∀ (i : Nat) (z : Int), cs[i]? ≠ some (Value.int .u8 z)) (cs' : Array Value) : All (w.setRow g cs') m o V0 V1 V2 V3 V4 V5 l0 l1 l2 l3 l4 l5 :=
  ⟨h.q0.box hk ht ht2 hc cs', h.q1.box hk ht ht2 hc cs', h.r2.box hk ht ht2 hc cs', h.r3.box hk ht ht2 hc cs', h.r4.box hk ht ht2 hc cs', h.r5.box hk ht ht2 hc cs', h.f02, h.f03, h.f04, h.f05, h.f12, h.f13, h.f14, h.f15, h.f23, h.f24, h.f25, h.f34, h.f35, h.f45⟩
theorem EnAt.no8 {w : World} {m : Nat} {x : En} {V0 V1 V2 V3 V4 V5 : Value} {l0 l1 l2 l3 l4 l5 : List Pm} (h : EnAt w m x V0 V1 V2 V3 V4 V5 l0 l1 l2 l3 l4 l5) : ∀ (i : Nat) (z : Int), (xcel x V0 V1 V2 V3 V4 V5)[i]? ≠ some (Value.int .u8 z) := by
  obtain ⟨⟨A0, c0, rfl, _⟩, _⟩ := h.all.q0
  obtain ⟨⟨A1, c1, rfl, _⟩, _⟩ := h.all.q1
  obtain ⟨⟨A2, c2, rfl, _⟩, _⟩ := h.all.r2.qq
  obtain ⟨⟨A3, c3, rfl, _⟩, _⟩ := h.all.r3.qq
  obtain ⟨⟨A4, c4, rfl, _⟩, _⟩ := h.all.r4.qq
  obtain ⟨⟨A5, c5, rfl, _⟩, _⟩ := h.all.r5.qq
  exact cells_no8
theorem EnAt.box {w : World} {g m : Nat} {x : En} {V0 V1 V2 V3 V4 V5 : Value} {l0 l1 l2 l3 l4 l5 : List Pm} {cs : Array Value} {t : TypeId} (h : EnAt w m x V0 V1 V2 V3 V4 V5 l0 l1 l2 l3 l4 l5) (hk : Blk w g t cs) (ht : 5 ≠ t) (ht2 : 24 ≠ t) (hc : ∀ (i : Nat) (z : Int), cs[i]? ≠ some (Value.int .u8 z)) (cs' : Array Value) : EnAt (w.setRow g cs') m x V0 V1 V2 V3 V4 V5 l0 l1 l2 l3 l4 l5 :=
  ⟨h.all.box hk ht ht2 hc cs', h.e0, h.e1, h.e2, h.e3, h.e4, h.e5⟩
theorem EnAt.below {w w' : World} {m : Nat} {x : En} {V0 V1 V2 V3 V4 V5 : Value} {l0 l1 l2 l3 l4 l5 : List Pm} (h : EnAt w m x V0 V1 V2 V3 V4 V5 l0 l1 l2 l3 l4 l5) (b : Below w.heap.size w w') : EnAt w' m x V0 V1 V2 V3 V4 V5 l0 l1 l2 l3 l4 l5 :=
  ⟨h.all.below b, h.e0, h.e1, h.e2, h.e3, h.e4, h.e5⟩
end Go.Proofs.Ytbnfjielnamepaa.Arq
