/- Acknowledgement: a box of two sides; what they got is in order: contracts over the program. -/
import Derived.Test.YtbnfjielnamepaaArqOrd
set_option linter.unusedVariables false
set_option linter.unusedSimpArgs false
namespace Go.Proofs.Ytbnfjielnamepaa.Arq
open Go.RowKit Mem Oct Rw Av Dp
open Base (thenB)

/-- A store into the box of two sides leaves all packets. -/
theorem cells_no8 {x : En} {A0 A1 A2 A3 A4 A5 : Option Addr} {n0 n1 n2 n3 n4 n5 c0 c1 c2 c3 c4 c5 : Nat} (i : Nat) (z : Int) : (xcel x (.slice A0 n0 c0) (.slice A1 n1 c1) (.slice A2 n2 c2) (.slice A3 n3 c3) (.slice A4 n4 c4) (.slice A5 n5 c5))[i]? ≠ some (Value.int .u8 z) := by
  unfold xcel
  intro h
  match i, h with
  | 0, h | 1, h | 2, h | 3, h | 4, h | 5, h | 6, h | 7, h | 8, h | 9, h | 10, h | 11, h | 12, h | 13, h | 14, h | 15, h | 16, h | 17, h => simp at h
  | i + 18, h => simp at h
theorem PP.box {w : World} {g o : Nat} {x : Pm} {cs : Array Value} {t : TypeId} (h : PP w o x) (hk : Blk w g t cs) (ht : 5 ≠ t) (hc : ∀ (i : Nat) (z : Int), cs[i]? ≠ some (Value.int .u8 z)) (cs' : Array Value) : PP (w.setRow g cs') o x := by
  refine ⟨h.1, h.2.1, h.2.2.1, ?_⟩
  have hs := stp_row hk cs'
  rcases h.2.2.2 with h | ⟨b, off, e, h1, h2, hcb⟩
  · exact .inl (h.step hs ht)
  · by_cases h0 : x.v = []
    · left; left; rw [h0]; rfl
    · refine .inr ⟨b, off, e, h1, by rw [size_setRow]; exact h2, fun j hj => ?_⟩
      have hbg : b ≠ g := by
        rintro rfl
        have := hcb j hj
        rw [hk.cell] at this
        exact hc _ _ this
      rw [World.cell?_of_block (a := ⟨b, off + j, none⟩) (hs.gr.block b h2 (by simpa using hbg))]
      exact hcb j hj
theorem QQ.box {w : World} {g m o : Nat} {V : Value} {l : List Pm} {cs : Array Value} {t : TypeId} (h : QQ w m o V l) (hk : Blk w g t cs) (ht : 5 ≠ t) (ht2 : 24 ≠ t) (hc : ∀ (i : Nat) (z : Int), cs[i]? ≠ some (Value.int .u8 z)) (cs' : Array Value) : QQ (w.setRow g cs') m o V l := by
  obtain ⟨⟨A, c, e, h1, h2⟩, h3, h4⟩ := h
  exact ⟨⟨A, c, e, h1, h2.step (stp_row hk cs') ht2⟩, fun x hx => PP.box (h3 x hx) hk ht hc cs', fun k hkk => by rw [size_setRow]; exact h4 k hkk⟩
theorem RR.box {w : World} {g m o : Nat} {V : Value} {l : List Pm} {cs : Array Value} {t : TypeId} (h : RR w m o V l) (hk : Blk w g t cs) (ht : 5 ≠ t) (ht2 : 24 ≠ t) (hc : ∀ (i : Nat) (z : Int), cs[i]? ≠ some (Value.int .u8 z)) (cs' : Array Value) : RR (w.setRow g cs') m o V l := by
  refine ⟨?_, fun x hx => PP.box (h.2 x hx) hk ht hc cs'⟩
  exact own_setRow h.1 hk ht2 cs'
theorem All.box {w : World} {g m o : Nat} {V0 V1 V2 V3 V4 V5 : Value} {l0 l1 l2 l3 l4 l5 : List Pm} {cs : Array Value} {t : TypeId} (h : All w m o V0 V1 V2 V3 V4 V5 l0 l1 l2 l3 l4 l5) (hk : Blk w g t cs) (ht : 5 ≠ t) (ht2 : 24 ≠ t) (hc : ∀ (i : Nat) (z : Int), cs[i]? ≠ some (Value.int .u8 z)) (cs' : Array Value) : All (w.setRow g cs') m o V0 V1 V2 V3 V4 V5 l0 l1 l2 l3 l4 l5 :=
  ⟨h.q0.box hk ht ht2 hc cs', h.q1.box hk ht ht2 hc cs', h.r2.box hk ht ht2 hc cs', h.r3.box hk ht ht2 hc cs', h.r4.box hk ht ht2 hc cs', h.r5.box hk ht ht2 hc cs', h.f02, h.f03, h.f04, h.f05, h.f12, h.f13, h.f14, h.f15, h.f23, h.f24, h.f25, h.f34, h.f35, h.f45⟩
theorem EnAt.no8 {w : World} {m : Nat} {x : En} {V0 V1 V2 V3 V4 V5 : Value} {l0 l1 l2 l3 l4 l5 : List Pm} (h : EnAt w m x V0 V1 V2 V3 V4 V5 l0 l1 l2 l3 l4 l5) : ∀ (i : Nat) (z : Int), (xcel x V0 V1 V2 V3 V4 V5)[i]? ≠ some (Value.int .u8 z) := by
  obtain ⟨⟨A0, c0, rfl, _⟩, _⟩ := h.all.q0
  obtain ⟨⟨A1, c1, rfl, _⟩, _⟩ := h.all.q1
  obtain ⟨⟨A2, c2, rfl, _⟩, _⟩ := h.all.r2.qq
  obtain ⟨⟨A3, c3, rfl, _⟩, _⟩ := h.all.r3.qq
  obtain ⟨⟨A4, c4, rfl, _⟩, _⟩ := h.all.r4.qq
  obtain ⟨⟨A5, c5, rfl, _⟩, _⟩ := h.all.r5.qq
  exact cells_no8
theorem EnAt.box {w : World} {g m : Nat} {x : En} {V0 V1 V2 V3 V4 V5 : Value} {l0 l1 l2 l3 l4 l5 : List Pm} {cs : Array Value} {t : TypeId} (h : EnAt w m x V0 V1 V2 V3 V4 V5 l0 l1 l2 l3 l4 l5) (hk : Blk w g t cs) (ht : 5 ≠ t) (ht2 : 24 ≠ t) (hc : ∀ (i : Nat) (z : Int), cs[i]? ≠ some (Value.int .u8 z)) (cs' : Array Value) : EnAt (w.setRow g cs') m x V0 V1 V2 V3 V4 V5 l0 l1 l2 l3 l4 l5 :=
  ⟨h.all.box hk ht ht2 hc cs', h.e0, h.e1, h.e2, h.e3, h.e4, h.e5⟩
theorem EnAt.below {w w' : World} {m : Nat} {x : En} {V0 V1 V2 V3 V4 V5 : Value} {l0 l1 l2 l3 l4 l5 : List Pm} (h : EnAt w m x V0 V1 V2 V3 V4 V5 l0 l1 l2 l3 l4 l5) (b : Below w.heap.size w w') : EnAt w' m x V0 V1 V2 V3 V4 V5 l0 l1 l2 l3 l4 l5 :=
  ⟨h.all.below b, h.e0, h.e1, h.e2, h.e3, h.e4, h.e5⟩
theorem orderly0_any (x : En) (j m : Nat) (w : World) (V0 V1 V2 V3 V4 V5 : Value) (l0 l1 l2 l3 l4 l5 : List Pm) (HI : Inv x j) (hj : j ≤ 1000) (HX : EnAt w m x V0 V1 V2 V3 V4 V5 l0 l1 l2 l3 l4 l5) :
    Calls Try.prog 40 #[.agg (xcel x V0 V1 V2 V3 V4 V5), .int .i64 0] w fun e w' => e = .returned (.bool true) ∧ Below w.heap.size w w' := by
  have hq : l2.length = x.qa.length := by rw [← HX.e2, List.length_map]
  have hg : l5.length = x.b.tak := by
    have h1 : l5.length = x.gb.length := by rw [← HX.e5, List.length_map]
    rw [h1]; exact rel_len HI.ab
  have hu : x.b.tak ≤ l2.length := by rw [hq]; exact HI.ab.tl
  have hk : x.a.ack ≤ l2.length := by rw [hq]; exact HI.ab.le
  have hn : l2.length ≤ 1000 := by have := HI.la; have := HI.lb; omega
  have near := rel_near HI.ab
  have m1 : l5.map Pm.p = (l2.take x.b.tak).map Pm.p := by rw [List.map_take, HX.e5, HX.e2]; exact HI.ab.g
  have m2 : l0.map Pm.p = (l2.drop x.a.ack).map Pm.p := by rw [List.map_drop, HX.e0, HX.e2]; exact HI.ab.q
  have bq := HX.all.q0.qi
  have bu := HX.all.r2.qq.qi
  have bg := HX.all.r5.qq.qi
  have oV1 : V1.oneCell' = true := qq_one HX.all.q1
  have oV3 : V3.oneCell' = true := rr_one HX.all.r3
  have oV4 : V4.oneCell' = true := rr_one HX.all.r4
  obtain ⟨Aq, cq, rfl, _⟩ := id bq
  obtain ⟨Au, cu, rfl, hc, _⟩ := id bu
  obtain ⟨Ag, cg, rfl, _⟩ := id bg
  have ng : l5.length ≤ 1000000 := by omega
  have nq : l0.length ≤ 1000000 := by
    have := congrArg List.length m2
    rw [List.length_map, List.length_map, List.length_drop] at this
    omega
  have HS1 := fun X (b : Below w.heap.size w X) => samepks_yes _ _ l5 (l2.take x.b.tak) X (bg.later b) ((bu.later b).take hu) m1 ng
  have HS2 := fun X (b : Below w.heap.size w X) => samepks_yes _ _ l0 (l2.drop x.a.ack) X (bq.later b) ((bu.later b).drop hk) m2 nq
  rw [hg] at HS1 ⊢
  exact orderly0_core x.a.sn x.a.nesn x.a.op x.a.em x.a.ack x.a.tak x.b.sn x.b.nesn x.b.op x.b.em x.b.ack x.b.tak V1 V3 V4 Aq Au Ag l0.length cq l2.length cu cg w hu hk hn hc near (Lib.hid HS1) (Lib.hid HS2) oV1 oV3 oV4
theorem orderly1_any (x : En) (j m : Nat) (w : World) (V0 V1 V2 V3 V4 V5 : Value) (l0 l1 l2 l3 l4 l5 : List Pm) (HI : Inv x j) (hj : j ≤ 1000) (HX : EnAt w m x V0 V1 V2 V3 V4 V5 l0 l1 l2 l3 l4 l5) :
    Calls Try.prog 40 #[.agg (xcel x V0 V1 V2 V3 V4 V5), .int .i64 1] w fun e w' => e = .returned (.bool true) ∧ Below w.heap.size w w' := by
  have hq : l3.length = x.qb.length := by rw [← HX.e3, List.length_map]
  have hg : l4.length = x.a.tak := by
    have h1 : l4.length = x.ga.length := by rw [← HX.e4, List.length_map]
    rw [h1]; exact rel_len HI.ba
  have hu : x.a.tak ≤ l3.length := by rw [hq]; exact HI.ba.tl
  have hk : x.b.ack ≤ l3.length := by rw [hq]; exact HI.ba.le
  have hn : l3.length ≤ 1000 := by have := HI.la; have := HI.lb; omega
  have near := rel_near HI.ba
  have m1 : l4.map Pm.p = (l3.take x.a.tak).map Pm.p := by rw [List.map_take, HX.e4, HX.e3]; exact HI.ba.g
  have m2 : l1.map Pm.p = (l3.drop x.b.ack).map Pm.p := by rw [List.map_drop, HX.e1, HX.e3]; exact HI.ba.q
  have bq := HX.all.q1.qi
  have bu := HX.all.r3.qq.qi
  have bg := HX.all.r4.qq.qi
  have oV0 : V0.oneCell' = true := qq_one HX.all.q0
  have oV2 : V2.oneCell' = true := rr_one HX.all.r2
  have oV5 : V5.oneCell' = true := rr_one HX.all.r5
  obtain ⟨Aq, cq, rfl, _⟩ := id bq
  obtain ⟨Au, cu, rfl, hc, _⟩ := id bu
  obtain ⟨Ag, cg, rfl, _⟩ := id bg
  have ng : l4.length ≤ 1000000 := by omega
  have nq : l1.length ≤ 1000000 := by
    have := congrArg List.length m2
    rw [List.length_map, List.length_map, List.length_drop] at this
    omega
  have HS1 := fun X (b : Below w.heap.size w X) => samepks_yes _ _ l4 (l3.take x.a.tak) X (bg.later b) ((bu.later b).take hu) m1 ng
  have HS2 := fun X (b : Below w.heap.size w X) => samepks_yes _ _ l1 (l3.drop x.b.ack) X (bq.later b) ((bu.later b).drop hk) m2 nq
  rw [hg] at HS1 ⊢
  exact orderly1_core x.a.sn x.a.nesn x.a.op x.a.em x.a.ack x.a.tak x.b.sn x.b.nesn x.b.op x.b.em x.b.ack x.b.tak V0 V2 V5 Aq Au Ag l1.length cq l3.length cu cg w hu hk hn hc near (Lib.hid HS1) (Lib.hid HS2) oV0 oV2 oV5
end Go.Proofs.Ytbnfjielnamepaa.Arq
