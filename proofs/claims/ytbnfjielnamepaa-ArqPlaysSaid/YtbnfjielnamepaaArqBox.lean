/- Acknowledgement: a store into the box of two sides leaves all packets. No function is walked. -/
import Derived.Test.YtbnfjielnamepaaArqPart
set_option linter.unusedVariables false
set_option linter.unusedSimpArgs false
namespace Go.Proofs.Ytbnfjielnamepaa.Arq
open Go.RowKit Mem Oct Rw Av Dp
open Base (thenB)

theorem PP.box {w : World} {g o : Nat} {x : Pm} {cs : Array Value} {t : TypeId} (h : PP w o x) (hk : Blk w g t cs) (ht : 5 ≠ t) (hc : ∀ (i : Nat) (z : Int), cs[i]? ≠ some (Value.int .u8 z)) (cs' : Array Value) : PP (w.setRow g cs') o x := by
  refine ⟨h.1, h.2.1, h.2.2.1, ?_⟩
  have hs := stp_row hk cs'
  rcases h.2.2.2 with h | ⟨b, off, e, h1, h2, hcb⟩
  · exact .inl (h.step hs ht)
  · by_cases h0 : x.v = []
    · left; left; rw [h0]; rfl
    · refine .inr ⟨b, off, e, h1, by rw [size_setRow]; exact h2, fun j hj => ?_⟩
      have hbg : b ≠ g := by
        rintro rfl
        have := hcb j hj
        rw [hk.cell] at this
        exact hc _ _ this
      rw [World.cell?_of_block (a := ⟨b, off + j, none⟩) (hs.gr.block b h2 (by simpa using hbg))]
      exact hcb j hj
theorem QQ.box {w : World} {g m o : Nat} {V : Value} {l : List Pm} {cs : Array Value} {t : TypeId} (h : QQ w m o V l) (hk : Blk w g t cs) (ht : 5 ≠ t) (ht2 : 24 ≠ t) (hc : ∀ (i : Nat) (z : Int), cs[i]? ≠ some (Value.int .u8 z)) (cs' : Array Value) : QQ (w.setRow g cs') m o V l := by
  obtain ⟨⟨A, c, e, h1, h2⟩, h3, h4⟩ := h
  exact ⟨⟨A, c, e, h1, h2.step (stp_row hk cs') ht2⟩, fun x hx => PP.box (h3 x hx) hk ht hc cs', fun k hkk => by rw [size_setRow]; exact h4 k hkk⟩
theorem RR.box {w : World} {g m o : Nat} {V : Value} {l : List Pm} {cs : Array Value} {t : TypeId} (h : RR w m o V l) (hk : Blk w g t cs) (ht : 5 ≠ t) (ht2 : 24 ≠ t) (hc : ∀ (i : Nat) (z : Int), cs[i]? ≠ some (Value.int .u8 z)) (cs' : Array Value) : RR (w.setRow g cs') m o V l := by
  refine ⟨?_, fun x hx => PP.box (h.2 x hx) hk ht hc cs'⟩
  exact own_setRow h.1 hk ht2 cs'
theorem All.box {w : World} {g m o : Nat} {V0 V1 V2 V3 V4 V5 : Value} {l0 l1 l2 l3 l4 l5 : List Pm} {cs : Array Value} {t : TypeId} (h : All w m o V0 V1 V2 V3 V4 V5 l0 l1 l2 l3 l4 l5) (hk : Blk w g t cs) (ht : 5 ≠ t) (ht2 : 24 ≠ t) (hc : ∀ (i : Nat) (z : Int), cs[i]? ≠ some (Value.int .u8 z)) (cs' : Array Value) : All (w.setRow g cs') m o V0 V1 V2 V3 V4 V5 l0 l1 l2 l3 l4 l5 :=
  ⟨h.q0.box hk ht ht2 hc cs', h.q1.box hk ht ht2 hc cs', h.r2.box hk ht ht2 hc cs', h.r3.box hk ht ht2 hc cs', h.r4.box hk ht ht2 hc cs', h.r5.box hk ht ht2 hc cs', h.f02, h.f03, h.f04, h.f05, h.f12, h.f13, h.f14, h.f15, h.f23, h.f24, h.f25, h.f34, h.f35, h.f45⟩
theorem EnAt.box {w : World} {g m : Nat} {x : En} {V0 V1 V2 V3 V4 V5 : Value} {l0 l1 l2 l3 l4 l5 : List Pm} {cs : Array Value} {t : TypeId} (h : EnAt w m x V0 V1 V2 V3 V4 V5 l0 l1 l2 l3 l4 l5) (hk : Blk w g t cs) (ht : 5 ≠ t) (ht2 : 24 ≠ t) (hc : ∀ (i : Nat) (z : Int), cs[i]? ≠ some (Value.int .u8 z)) (cs' : Array Value) : EnAt (w.setRow g cs') m x V0 V1 V2 V3 V4 V5 l0 l1 l2 l3 l4 l5 :=
  ⟨h.all.box hk ht ht2 hc cs', h.e0, h.e1, h.e2, h.e3, h.e4, h.e5⟩
theorem EnAt.below {w w' : World} {m : Nat} {x : En} {V0 V1 V2 V3 V4 V5 : Value} {l0 l1 l2 l3 l4 l5 : List Pm} (h : EnAt w m x V0 V1 V2 V3 V4 V5 l0 l1 l2 l3 l4 l5) (b : Below w.heap.size w w') : EnAt w' m x V0 V1 V2 V3 V4 V5 l0 l1 l2 l3 l4 l5 :=
  ⟨h.all.below b, h.e0, h.e1, h.e2, h.e3, h.e4, h.e5⟩
end Go.Proofs.Ytbnfjielnamepaa.Arq
