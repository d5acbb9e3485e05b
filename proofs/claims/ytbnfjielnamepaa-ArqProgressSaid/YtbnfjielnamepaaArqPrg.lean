/- Acknowledgement: without losses packets arrive: contracts over the program. -/
import Derived.Test.YtbnfjielnamepaaArqMn
import Derived.Test.YtbnfjielnamepaaArqBox
import Derived.Test.YtbnfjielnamepaaArqPrgM
import Derived.Test.YtbnfjielnamepaaArqSame
import Derived.Test.YtbnfjielnamepaaArqLives
import Derived.Test.YtbnfjielnamepaaDpArgs
set_option linter.unusedVariables false
set_option linter.unusedSimpArgs false
namespace Go.Proofs.Ytbnfjielnamepaa.Arq
open Go.RowKit Mem Oct Rw Av Dp
open Base (thenB)

theorem older_nil {m : Nat} {w : World} (h : m ≤ w.heap.size) : Older m w ⟨0, none, 0, []⟩ :=
  ⟨Nat.le_refl _, Nat.zero_le _, fun x hx => (by cases hx), .inl rfl, h⟩
set_option maxRecDepth 100000 in
set_option maxHeartbeats 40000000 in
theorem progress_any (A : Option Addr) (c : Nat) (ms : List Pm) (w : World) (ta : ListAt encK w w.heap.size A ms) (gd : ∀ x ∈ ms, GoodK w w.heap.size x) (hc : ms.length ≤ c) (hb : c * 32 ≤ 140737488351232) :
    Calls Try.prog 12 #[.slice A ms.length c] w fun e w' => e = .returned (.bool true) ∧ Below w.heap.size w w' := by
  have HL := Lib.hid lives_any
  obtain ⟨n, hn⟩ : ∃ n, ms.length = n := ⟨_, rfl⟩
  rw [hn] at hc ⊢
  go_enter Try.func12, Try.ntmps12
  go_upto_region 3 with (go_at_call 24; refine (HL.out _).mono ?_; rintro e W1 ⟨rfl, BX⟩)
  go_upto_region 4 with (go_at_call 25; refine (new_any _).mono ?_; rintro e W2 ⟨rfl, b9⟩; replace BX := Base.thenB BX b9; clear b9)
  have hs2 := BX.size
  have KB : Blk (W2.alloc (.cells #[.int .i64 0, .int .i64 0, .slice none 0 0, .bool false, .bool false, .int .i64 0, .int .i64 0, .int .i64 0, .int .i64 0, .slice none 0 0, .bool false, .bool false, .int .i64 0, .int .i64 0, .slice none 0 0, .slice none 0 0, .slice none 0 0, .slice none 0 0] 62)) W2.heap.size 62 #[.int .i64 0, .int .i64 0, .slice none 0 0, .bool false, .bool false, .int .i64 0, .int .i64 0, .int .i64 0, .int .i64 0, .slice none 0 0, .bool false, .bool false, .int .i64 0, .int .i64 0, .slice none 0 0, .slice none 0 0, .slice none 0 0, .slice none 0 0] := Blk.fresh W2 62 #[.int .i64 0, .int .i64 0, .slice none 0 0, .bool false, .bool false, .int .i64 0, .int .i64 0, .int .i64 0, .int .i64 0, .slice none 0 0, .bool false, .bool false, .int .i64 0, .int .i64 0, .slice none 0 0, .slice none 0 0, .slice none 0 0, .slice none 0 0]
  replace BX := BX.alloc BX.size (.cells #[.int .i64 0, .int .i64 0, .slice none 0 0, .bool false, .bool false, .int .i64 0, .int .i64 0, .int .i64 0, .int .i64 0, .slice none 0 0, .bool false, .bool false, .int .i64 0, .int .i64 0, .slice none 0 0, .slice none 0 0, .slice none 0 0, .slice none 0 0] 62)
  obtain ⟨g, hg⟩ : ∃ g, W2.heap.size = g := ⟨_, rfl⟩
  rw [hg] at KB hs2 ⊢
  clear hg
  generalize W2.alloc (.cells #[.int .i64 0, .int .i64 0, .slice none 0 0, .bool false, .bool false, .int .i64 0, .int .i64 0, .int .i64 0, .int .i64 0, .slice none 0 0, .bool false, .bool false, .int .i64 0, .int .i64 0, .slice none 0 0, .slice none 0 0, .slice none 0 0, .slice none 0 0] 62) = W3 at *
  have HE : EnAt W3 (g + 1) en0 (.slice none 0 0) (.slice none 0 0) (.slice none 0 0) (.slice none 0 0) (.slice none 0 0) (.slice none 0 0) [] [] [] [] [] [] := ⟨All.nil _ _ _, rfl, rfl, rfl, rfl, rfl, rfl⟩
  go_wp2_with fail
  go_loopw [4] (fun s4 wr => ∃ (j : Nat) (x : En) (V0 V1 V2 V3 V4 V5 : Value) (l0 l1 l2 l3 l4 l5 : List Pm), j ≤ n ∧ j ≤ 64 ∧ s4 = .int .i64 j ∧ Inv x j ∧ Wt x j ∧ EnAt wr (g + 1) x V0 V1 V2 V3 V4 V5 l0 l1 l2 l3 l4 l5 ∧ Blk wr g 62 #[.int .i64 x.a.sn, .int .i64 x.a.nesn, V0, .bool x.a.op, .bool x.a.em, .int .i64 (x.a.ack : Int), .int .i64 (x.a.tak : Int), .int .i64 x.b.sn, .int .i64 x.b.nesn, V1, .bool x.b.op, .bool x.b.em, .int .i64 (x.b.ack : Int), .int .i64 (x.b.tak : Int), V2, V3, V4, V5] ∧ Below w.heap.size w wr) (fun s4 _ => n - (intOf s4).toNat)
  case atStart => exact ⟨0, en0, .slice none 0 0, .slice none 0 0, .slice none 0 0, .slice none 0 0, .slice none 0 0, .slice none 0 0, [], [], [], [], [], [], Nat.zero_le _, Nat.zero_le _, rfl, inv_new 0, wt_new, HE, KB, BX⟩
  case round =>
    clear HE KB BX
    obtain ⟨j, x, V0, V1, V2, V3, V4, V5, l0, l1, l2, l3, l4, l5, hj, hj4, rfl, HI, HW, HE, KB, BX⟩ := hrel
    by_cases cj : j < n ∧ j < 64
    · obtain ⟨cj, cj4⟩ := cj
      obtain ⟨b, off, rfl, hbl, hcl⟩ := ListAt.open_ ta sizK (by decide) (by omega)
      obtain ⟨y, hy⟩ : ∃ y, ms[j]? = some y := ⟨_, List.getElem?_eq_getElem (by omega)⟩
      have gy := gd y (List.mem_of_getElem? hy)
      have TT : wr.cell? ⟨b, off + j * 2, none⟩ = some (.int .i64 y.k) ∧ wr.cell? ⟨b, off + j * 2 + 1, none⟩ = some (.slice y.A y.v.length y.c) := ⟨(BX.cell (p := ⟨b, off + j * 2, none⟩) hbl).trans (hcl j y hy 0 _ rfl), (BX.cell (p := ⟨b, off + j * 2 + 1, none⟩) hbl).trans (hcl j y hy 1 _ rfl)⟩
      have HM1 : ∀ X, EnAt X (g + 1) x V0 V1 V2 V3 V4 V5 l0 l1 l2 l3 l4 l5 → Below w.heap.size w X → g + 1 ≤ X.heap.size → Calls Try.prog 39 #[.agg #[.int .i64 x.a.sn, .int .i64 x.a.nesn, V0, .bool x.a.op, .bool x.a.em, .int .i64 (x.a.ack : Int), .int .i64 (x.a.tak : Int), .int .i64 x.b.sn, .int .i64 x.b.nesn, V1, .bool x.b.op, .bool x.b.em, .int .i64 (x.b.ack : Int), .int .i64 (x.b.tak : Int), V2, V3, V4, V5], .agg #[.int .i64 0, .bool false, .int .i64 y.k, .slice y.A y.v.length y.c]] X fun e W' => Moved X W' e (g + 1) (moveR x 0 false y.p) := fun X he b9 hgx => by
        have gk := gy.below b9
        exact moved_any x j 0 false y (g + 1) X V0 V1 V2 V3 V4 V5 l0 l1 l2 l3 l4 l5 hgx HI (by omega) he ⟨gk.2.1, Nat.le_trans gk.2.1 gk.2.2.1, gk.2.2.2.1, gk.2.2.2.2.more (by omega), hgx⟩
      have HI1 := inv_move HI 0 false y.p
      have HW1 := wt_step HW y.p
      obtain ⟨x', hx'⟩ : ∃ x', moveR x 0 false y.p = x' := ⟨_, rfl⟩
      rw [hx'] at HM1 HI1 HW1
      have HM : Hid (∀ X, EnAt X (g + 1) x V0 V1 V2 V3 V4 V5 l0 l1 l2 l3 l4 l5 → Below w.heap.size w X → Blk X g 62 #[.int .i64 x.a.sn, .int .i64 x.a.nesn, V0, .bool x.a.op, .bool x.a.em, .int .i64 (x.a.ack : Int), .int .i64 (x.a.tak : Int), .int .i64 x.b.sn, .int .i64 x.b.nesn, V1, .bool x.b.op, .bool x.b.em, .int .i64 (x.b.ack : Int), .int .i64 (x.b.tak : Int), V2, V3, V4, V5] → Calls Try.prog 39 #[.agg #[.int .i64 x.a.sn, .int .i64 x.a.nesn, V0, .bool x.a.op, .bool x.a.em, .int .i64 (x.a.ack : Int), .int .i64 (x.a.tak : Int), .int .i64 x.b.sn, .int .i64 x.b.nesn, V1, .bool x.b.op, .bool x.b.em, .int .i64 (x.b.ack : Int), .int .i64 (x.b.tak : Int), V2, V3, V4, V5], .agg #[.int .i64 0, .bool false, .int .i64 y.k, .slice y.A y.v.length y.c]] X fun e W' => ∃ U0 U1 U2 U3 U4 U5 k0 k1 k2 k3 k4 k5, e = .returned (.agg #[.int .i64 x'.a.sn, .int .i64 x'.a.nesn, U0, .bool x'.a.op, .bool x'.a.em, .int .i64 (x'.a.ack : Int), .int .i64 (x'.a.tak : Int), .int .i64 x'.b.sn, .int .i64 x'.b.nesn, U1, .bool x'.b.op, .bool x'.b.em, .int .i64 (x'.b.ack : Int), .int .i64 (x'.b.tak : Int), U2, U3, U4, U5]) ∧ EnAt W' (g + 1) x' U0 U1 U2 U3 U4 U5 k0 k1 k2 k3 k4 k5 ∧ Below (g + 1) X W') := Lib.hid fun X he b9 hk => HM1 X he b9 hk.lt
      have HI' := Lib.hid HI1
      have HW' := Lib.hid HW1
      have N8 : Hid (∀ (i : Nat) (z : Int), (#[.int .i64 x.a.sn, .int .i64 x.a.nesn, V0, .bool x.a.op, .bool x.a.em, .int .i64 (x.a.ack : Int), .int .i64 (x.a.tak : Int), .int .i64 x.b.sn, .int .i64 x.b.nesn, V1, .bool x.b.op, .bool x.b.em, .int .i64 (x.b.ack : Int), .int .i64 (x.b.tak : Int), V2, V3, V4, V5] : Array Value)[i]? ≠ some (Value.int .u8 z)) := Lib.hid HE.no8
      have g1 : (0 : Int) ≤ (j : Int) ∧ (j : Int) < (n : Int) := by omega
      have g2 : ¬ ((n : Int) ≤ (j : Int)) := by omega
      have g3 : (j : Int) < 64 := by omega
      have g4 : (j : Int) < (n : Int) := by omega
      clear HM1 HI HI1 HW HW1 hx' gy hcl hy gd ta
      go_upto_region 7 with (fail)
      have KB' : Blk wr.drew (g) 62 #[.int .i64 x.a.sn, .int .i64 x.a.nesn, V0, .bool x.a.op, .bool x.a.em, .int .i64 (x.a.ack : Int), .int .i64 (x.a.tak : Int), .int .i64 x.b.sn, .int .i64 x.b.nesn, V1, .bool x.b.op, .bool x.b.em, .int .i64 (x.b.ack : Int), .int .i64 (x.b.tak : Int), V2, V3, V4, V5] := Mem.Blk.drew KB
      refine wp_region_held_drew (S := (fun w' => w'.cell? ⟨b, off + j * 2, none⟩ = some (.int .i64 y.k) ∧ w'.cell? ⟨b, off + j * 2 + 1, none⟩ = some (.slice y.A y.v.length y.c))) (by kernel_rfl) ?_ (fun hHeld => ?_)
      · exact TT
      replace KB := KB'
      clear KB'
      replace BX : Below w.heap.size w wr.drew := BX.drew
      replace TT := TT
      replace HE := (show EnAt wr.drew (g + 1) x V0 V1 V2 V3 V4 V5 l0 l1 l2 l3 l4 l5 from HE.below ((Below.refl wr.heap.size wr).drew))
      replace TT : wr.drew.cell? ⟨b, off + j * 2, none⟩ = some (.int .i64 y.k) ∧ wr.drew.cell? ⟨b, off + j * 2 + 1, none⟩ = some (.slice y.A y.v.length y.c) := TT
      generalize wr.drew = X0 at *
      refine wpAnyH_take (i := 1) (v := .slice (some ⟨b, off, none⟩) n c) rfl (by kernel_rfl) (by kernel_rfl) (by kernel_rfl) (fun _ _ _ h => h) (Or.inl ⟨by first | rfl | go_simp, by intro w9 hSw; (try dsimp only at hSw); go_simp⟩) (by assumption) ?_
      simp only [List.getElem_toArray, List.getElem_cons_zero, List.getElem_cons_succ, Act.put, List.setIfInBounds_toArray, List.set_cons_zero, List.set_cons_succ]
      refine wpAnyH_take (i := 2) (v := .int .i64 (j : Int)) rfl (by kernel_rfl) (by kernel_rfl) (by kernel_rfl) (fun _ _ _ h => h) (Or.inl ⟨by first | rfl | go_simp, by intro w9 hSw; (try dsimp only at hSw); go_simp⟩) (by assumption) ?_
      simp only [List.getElem_toArray, List.getElem_cons_zero, List.getElem_cons_succ, Act.put, List.setIfInBounds_toArray, List.set_cons_zero, List.set_cons_succ]
      refine wpAnyH_take (i := 3) (v := .pointer (some ⟨b, off + j * 2, none⟩)) rfl (by kernel_rfl) (by kernel_rfl) (by kernel_rfl) (fun _ _ _ h => h) (Or.inl ⟨by first | rfl | go_simp, by intro w9 hSw; (try dsimp only at hSw); go_simp⟩) (by assumption) ?_
      simp only [List.getElem_toArray, List.getElem_cons_zero, List.getElem_cons_succ, Act.put, List.setIfInBounds_toArray, List.set_cons_zero, List.set_cons_succ]
      refine wpAnyH_take (i := 4) (v := .agg #[.int .i64 y.k, .slice y.A y.v.length y.c]) rfl (by kernel_rfl) (by kernel_rfl) (by kernel_rfl) (fun _ _ _ h => h) (Or.inl ⟨by first | rfl | go_simp, by intro w9 hSw; (try dsimp only at hSw); go_simp⟩) (by assumption) ?_
      simp only [List.getElem_toArray, List.getElem_cons_zero, List.getElem_cons_succ, Act.put, List.setIfInBounds_toArray, List.set_cons_zero, List.set_cons_succ]
      refine wpAnyH_take (i := 5) (v := .agg #[.int .i64 0, .bool false, .int .i64 y.k, .slice y.A y.v.length y.c]) rfl (by kernel_rfl) (by kernel_rfl) (by kernel_rfl) (fun _ _ _ h => h) (Or.inl ⟨by first | rfl | go_simp, by intro w9 hSw; (try dsimp only at hSw); go_simp⟩) (by assumption) ?_
      simp only [List.getElem_toArray, List.getElem_cons_zero, List.getElem_cons_succ, Act.put, List.setIfInBounds_toArray, List.set_cons_zero, List.set_cons_succ]
      refine wpAnyH_ready (rs := [0]) (by kernel_rfl) (by simp) ?_
      refine AllReadyH.cons rfl (fun K hK => ?_) (AllReadyH.nil)
      refine step_load_row rfl 62 (.tmp 3) rfl g rfl 62 #[.int .i64 x.a.sn, .int .i64 x.a.nesn, V0, .bool x.a.op, .bool x.a.em, .int .i64 (x.a.ack : Int), .int .i64 (x.a.tak : Int), .int .i64 x.b.sn, .int .i64 x.b.nesn, V1, .bool x.b.op, .bool x.b.em, .int .i64 (x.b.ack : Int), .int .i64 (x.b.tak : Int), V2, V3, V4, V5] (0, 0) _ KB Try.underlying62 rfl (by kernel_rfl) ?_
      refine hK.out _ _ TT (fun hHeld => ?_)
      clear hK K
      try simp only [List.getElem_toArray, List.getElem_cons_zero, List.getElem_cons_succ, Act.put, List.setIfInBounds_toArray, List.set_cons_zero, List.set_cons_succ]
      refine wpAnyH_ready (rs := [6]) (by kernel_rfl) (by simp) ?_
      refine AllReadyH.cons rfl (fun K hK => ?_) (AllReadyH.nil)
      go_simp
      refine (HM.out X0 HE BX KB).mono ?_
      rintro e X1 ⟨U0, U1, U2, U3, U4, U5, k0, k1, k2, k3, k4, k5, rfl, HE1, b9⟩
      have HE := HE1
      clear HE1
      have oU0 : U0.oneCell' = true := qq_one HE.all.q0
      have oU1 : U1.oneCell' = true := qq_one HE.all.q1
      have oU2 : U2.oneCell' = true := rr_one HE.all.r2
      have oU3 : U3.oneCell' = true := rr_one HE.all.r3
      have oU4 : U4.oneCell' = true := rr_one HE.all.r4
      have oU5 : U5.oneCell' = true := rr_one HE.all.r5
      replace KB := KB.below b9 (by omega)
      replace BX := BX.trans (b9.mono (by omega))
      replace TT := And.intro ((b9.cell (p := ⟨b, off + j * 2 , none⟩) (by show b < _; omega)).trans TT.1) (((b9.cell (p := ⟨b, off + j * 2 + 1, none⟩) (by show b < _; omega)).trans TT.2))
      clear b9
      refine hK.out _ _ TT (fun hHeld => ?_)
      clear hK K
      try simp only [List.getElem_toArray, List.getElem_cons_zero, List.getElem_cons_succ, Act.put, List.setIfInBounds_toArray, List.set_cons_zero, List.set_cons_succ]
      refine wpAnyH_ready (rs := [7]) (by kernel_rfl) (by simp) ?_
      refine AllReadyH.cons rfl (fun K hK => ?_) (AllReadyH.nil)
      have H9 : (#[.int .i64 x'.a.sn, .int .i64 x'.a.nesn, U0, .bool x'.a.op, .bool x'.a.em, .int .i64 (x'.a.ack : Int), .int .i64 (x'.a.tak : Int), .int .i64 x'.b.sn, .int .i64 x'.b.nesn, U1, .bool x'.b.op, .bool x'.b.em, .int .i64 (x'.b.ack : Int), .int .i64 (x'.b.tak : Int), U2, U3, U4, U5] : Array Value).all (·.oneCell') = true := by rw [← Array.all_toList]; simp only [List.all_cons, List.all_nil, oU0, oU1, oU2, oU3, oU4, oU5, Bool.and_true, Bool.and_self]; rfl
      refine Av.step_store_row rfl 62 (.tmp 3) (.tmp 29) rfl (g) #[.int .i64 x'.a.sn, .int .i64 x'.a.nesn, U0, .bool x'.a.op, .bool x'.a.em, .int .i64 (x'.a.ack : Int), .int .i64 (x'.a.tak : Int), .int .i64 x'.b.sn, .int .i64 x'.b.nesn, U1, .bool x'.b.op, .bool x'.b.em, .int .i64 (x'.b.ack : Int), .int .i64 (x'.b.tak : Int), U2, U3, U4, U5] rfl rfl 62 _ KB (by kernel_rfl) rfl H9 ?_
      replace TT := And.intro ((cell_setRow_other X1 (g) #[.int .i64 x'.a.sn, .int .i64 x'.a.nesn, U0, .bool x'.a.op, .bool x'.a.em, .int .i64 (x'.a.ack : Int), .int .i64 (x'.a.tak : Int), .int .i64 x'.b.sn, .int .i64 x'.b.nesn, U1, .bool x'.b.op, .bool x'.b.em, .int .i64 (x'.b.ack : Int), .int .i64 (x'.b.tak : Int), U2, U3, U4, U5] ⟨b, off + j * 2 , none⟩ (show b ≠ g by omega)).trans TT.1) (((cell_setRow_other X1 (g) #[.int .i64 x'.a.sn, .int .i64 x'.a.nesn, U0, .bool x'.a.op, .bool x'.a.em, .int .i64 (x'.a.ack : Int), .int .i64 (x'.a.tak : Int), .int .i64 x'.b.sn, .int .i64 x'.b.nesn, U1, .bool x'.b.op, .bool x'.b.em, .int .i64 (x'.b.ack : Int), .int .i64 (x'.b.tak : Int), U2, U3, U4, U5] ⟨b, off + j * 2 + 1, none⟩ (show b ≠ g by omega)).trans TT.2))
      replace HE := HE.box KB (by decide) (by decide) N8.out #[.int .i64 x'.a.sn, .int .i64 x'.a.nesn, U0, .bool x'.a.op, .bool x'.a.em, .int .i64 (x'.a.ack : Int), .int .i64 (x'.a.tak : Int), .int .i64 x'.b.sn, .int .i64 x'.b.nesn, U1, .bool x'.b.op, .bool x'.b.em, .int .i64 (x'.b.ack : Int), .int .i64 (x'.b.tak : Int), U2, U3, U4, U5]
      replace KB : Blk (X1.setRow (g) #[.int .i64 x'.a.sn, .int .i64 x'.a.nesn, U0, .bool x'.a.op, .bool x'.a.em, .int .i64 (x'.a.ack : Int), .int .i64 (x'.a.tak : Int), .int .i64 x'.b.sn, .int .i64 x'.b.nesn, U1, .bool x'.b.op, .bool x'.b.em, .int .i64 (x'.b.ack : Int), .int .i64 (x'.b.tak : Int), U2, U3, U4, U5]) (g) 62 #[.int .i64 x'.a.sn, .int .i64 x'.a.nesn, U0, .bool x'.a.op, .bool x'.a.em, .int .i64 (x'.a.ack : Int), .int .i64 (x'.a.tak : Int), .int .i64 x'.b.sn, .int .i64 x'.b.nesn, U1, .bool x'.b.op, .bool x'.b.em, .int .i64 (x'.b.ack : Int), .int .i64 (x'.b.tak : Int), U2, U3, U4, U5] := Av.bset_row KB
      replace BX : Below w.heap.size w (X1.setRow (g) #[.int .i64 x'.a.sn, .int .i64 x'.a.nesn, U0, .bool x'.a.op, .bool x'.a.em, .int .i64 (x'.a.ack : Int), .int .i64 (x'.a.tak : Int), .int .i64 x'.b.sn, .int .i64 x'.b.nesn, U1, .bool x'.b.op, .bool x'.b.em, .int .i64 (x'.b.ack : Int), .int .i64 (x'.b.tak : Int), U2, U3, U4, U5]) := below_setRow BX (by omega) _
      clear H9
      generalize X1.setRow (g) #[.int .i64 x'.a.sn, .int .i64 x'.a.nesn, U0, .bool x'.a.op, .bool x'.a.em, .int .i64 (x'.a.ack : Int), .int .i64 (x'.a.tak : Int), .int .i64 x'.b.sn, .int .i64 x'.b.nesn, U1, .bool x'.b.op, .bool x'.b.em, .int .i64 (x'.b.ack : Int), .int .i64 (x'.b.tak : Int), U2, U3, U4, U5] = X2 at *
      refine hK.out _ _ TT (fun hHeld => ?_)
      clear hK K
      try simp only [List.getElem_toArray, List.getElem_cons_zero, List.getElem_cons_succ, Act.put, List.setIfInBounds_toArray, List.set_cons_zero, List.set_cons_succ]
      refine wpAnyH_done (by kernel_rfl) ?_ _
      clear hHeld HM
      go_wp2_with fail
      go_roundw
      case rel => exact ⟨j + 1, x', U0, U1, U2, U3, U4, U5, k0, k1, k2, k3, k4, k5, by omega, by omega, by go_num, HI'.out, HW'.out, HE, KB, BX⟩
      case measure => simp [intOf]; omega
    · have HN : True := trivial
      clear gd ta HL
      by_cases cn : j < n
      · have g1 : (j : Int) < (n : Int) := by omega
        have g2 : ¬ ((j : Int) < 64) := by omega
        clear cj
        obtain ⟨Q, HP, HC, HQl⟩ := pg_new HW
        have hqa := pg_qa HP
        have hN : l2.length = Q.length := by rw [← hqa, ← HE.e2, List.length_map]
        have H2 := HE.all.r2.qq
        obtain ⟨⟨A2, c2, rfl, -⟩, -⟩ := H2
        rw [hN] at KB HE
        obtain ⟨N, hQN⟩ : ∃ N, Q.length = N := ⟨_, rfl⟩
        rw [hQN] at KB HE HQl
        clear hN hqa
        have d14 := KB.cell 14
        go_wp2_with fail
        clear d14
        go_loopw [6] (fun s6 wr => ∃ (i : Nat) (x : En) (V0 V1 V2 V3 V4 V5 : Value) (l0 l1 l2 l3 l4 l5 : List Pm), i ≤ N ∧ s6 = .int .i64 i ∧ Inv x (64 + 2 * i) ∧ Pg Q i x ∧ EnAt wr (g + 1) x V0 V1 V2 V3 V4 V5 l0 l1 l2 l3 l4 l5 ∧ Blk wr g 62 #[.int .i64 x.a.sn, .int .i64 x.a.nesn, V0, .bool x.a.op, .bool x.a.em, .int .i64 (x.a.ack : Int), .int .i64 (x.a.tak : Int), .int .i64 x.b.sn, .int .i64 x.b.nesn, V1, .bool x.b.op, .bool x.b.em, .int .i64 (x.b.ack : Int), .int .i64 (x.b.tak : Int), V2, V3, V4, V5] ∧ Below w.heap.size w wr) (fun s6 _ => N - (intOf s6).toNat)
        case atStart => exact ⟨0, x, V0, V1, .slice A2 N c2, V3, V4, V5, l0, l1, l2, l3, l4, l5, Nat.zero_le _, rfl, ⟨HI.ab, HI.ba, by have := HI.la; omega, by have := HI.lb; omega⟩, HP, HE, KB, BX⟩
        case round =>
          clear HI HW HP HE KB BX HN
          clear x V0 V1 V3 V4 V5 l0 l1 l2 l3 l4 l5
          obtain ⟨i, x, V0, V1, V2, V3, V4, V5, l0, l1, l2, l3, l4, l5, hi, rfl, HI, HP, HE, KB, BX⟩ := hrel
          by_cases ci : i < N
          · have HI1 := inv_move HI 2 false (0, [])
            have HI2 := inv_move HI1 3 false (0, [])
            have HP2 := pg_step HP HC (by omega) (0, []) (0, [])
            obtain ⟨x', hx'⟩ : ∃ x', moveR x 2 false (0, []) = x' := ⟨_, rfl⟩
            rw [hx'] at HI1 HI2 HP2
            obtain ⟨x'', hx''⟩ : ∃ x'', moveR x' 3 false (0, []) = x'' := ⟨_, rfl⟩
            rw [hx''] at HI2 HP2
            have HA : Hid (∀ X, EnAt X (g + 1) x V0 V1 V2 V3 V4 V5 l0 l1 l2 l3 l4 l5 → g + 1 ≤ X.heap.size → Calls Try.prog 39 #[.agg #[.int .i64 x.a.sn, .int .i64 x.a.nesn, V0, .bool x.a.op, .bool x.a.em, .int .i64 (x.a.ack : Int), .int .i64 (x.a.tak : Int), .int .i64 x.b.sn, .int .i64 x.b.nesn, V1, .bool x.b.op, .bool x.b.em, .int .i64 (x.b.ack : Int), .int .i64 (x.b.tak : Int), V2, V3, V4, V5], .agg #[.int .i64 2, .bool false, .int .i64 0, .slice none 0 0]] X fun e W' => ∃ U0 U1 U2 U3 U4 U5 k0 k1 k2 k3 k4 k5, e = .returned (.agg #[.int .i64 x'.a.sn, .int .i64 x'.a.nesn, U0, .bool x'.a.op, .bool x'.a.em, .int .i64 (x'.a.ack : Int), .int .i64 (x'.a.tak : Int), .int .i64 x'.b.sn, .int .i64 x'.b.nesn, U1, .bool x'.b.op, .bool x'.b.em, .int .i64 (x'.b.ack : Int), .int .i64 (x'.b.tak : Int), U2, U3, U4, U5]) ∧ EnAt W' (g + 1) x' U0 U1 U2 U3 U4 U5 k0 k1 k2 k3 k4 k5 ∧ Below (g + 1) X W') := Lib.hid fun X he hgx => by
              have := moved_any x (64 + 2 * i) 2 false ⟨0, none, 0, []⟩ (g + 1) X V0 V1 V2 V3 V4 V5 l0 l1 l2 l3 l4 l5 hgx HI (by omega) he (older_nil hgx)
              rw [show Pm.p ⟨0, none, 0, []⟩ = (0, []) from rfl, hx'] at this
              exact this
            have HB : Hid (∀ X U0 U1 U2 U3 U4 U5 k0 k1 k2 k3 k4 k5, EnAt X (g + 1) x' U0 U1 U2 U3 U4 U5 k0 k1 k2 k3 k4 k5 → g + 1 ≤ X.heap.size → Calls Try.prog 39 #[.agg #[.int .i64 x'.a.sn, .int .i64 x'.a.nesn, U0, .bool x'.a.op, .bool x'.a.em, .int .i64 (x'.a.ack : Int), .int .i64 (x'.a.tak : Int), .int .i64 x'.b.sn, .int .i64 x'.b.nesn, U1, .bool x'.b.op, .bool x'.b.em, .int .i64 (x'.b.ack : Int), .int .i64 (x'.b.tak : Int), U2, U3, U4, U5], .agg #[.int .i64 3, .bool false, .int .i64 0, .slice none 0 0]] X fun e W' => ∃ W0 W1 W2 W3 W4 W5 m0 m1 m2 m3 m4 m5, e = .returned (.agg #[.int .i64 x''.a.sn, .int .i64 x''.a.nesn, W0, .bool x''.a.op, .bool x''.a.em, .int .i64 (x''.a.ack : Int), .int .i64 (x''.a.tak : Int), .int .i64 x''.b.sn, .int .i64 x''.b.nesn, W1, .bool x''.b.op, .bool x''.b.em, .int .i64 (x''.b.ack : Int), .int .i64 (x''.b.tak : Int), W2, W3, W4, W5]) ∧ EnAt W' (g + 1) x'' W0 W1 W2 W3 W4 W5 m0 m1 m2 m3 m4 m5 ∧ Below (g + 1) X W') := Lib.hid fun X U0 U1 U2 U3 U4 U5 k0 k1 k2 k3 k4 k5 he hgx => by
              have := moved_any x' (64 + 2 * i + 1) 3 false ⟨0, none, 0, []⟩ (g + 1) X U0 U1 U2 U3 U4 U5 k0 k1 k2 k3 k4 k5 hgx HI1 (by omega) he (older_nil hgx)
              rw [show Pm.p ⟨0, none, 0, []⟩ = (0, []) from rfl, hx''] at this
              exact this
            have HI' : Hid (Inv x'' (64 + 2 * (i + 1))) := Lib.hid (by have := HI2; rwa [show 64 + 2 * (i + 1) = 64 + 2 * i + 1 + 1 by omega])
            have HP' := Lib.hid HP2
            have N8 : Hid (∀ (i : Nat) (z : Int), (#[.int .i64 x.a.sn, .int .i64 x.a.nesn, V0, .bool x.a.op, .bool x.a.em, .int .i64 (x.a.ack : Int), .int .i64 (x.a.tak : Int), .int .i64 x.b.sn, .int .i64 x.b.nesn, V1, .bool x.b.op, .bool x.b.em, .int .i64 (x.b.ack : Int), .int .i64 (x.b.tak : Int), V2, V3, V4, V5] : Array Value)[i]? ≠ some (Value.int .u8 z)) := Lib.hid HE.no8
            have g1 : (i : Int) < (N : Int) := by omega
            clear hx' hx'' HI HI1 HI2 HP HP2
            go_wp2_with (first
              | (refine wpList_load_row rfl 62 (.tmp 3) rfl g rfl 62 #[.int .i64 x.a.sn, .int .i64 x.a.nesn, V0, .bool x.a.op, .bool x.a.em, .int .i64 (x.a.ack : Int), .int .i64 (x.a.tak : Int), .int .i64 x.b.sn, .int .i64 x.b.nesn, V1, .bool x.b.op, .bool x.b.em, .int .i64 (x.b.ack : Int), .int .i64 (x.b.tak : Int), V2, V3, V4, V5] (0, 0) _ KB Try.underlying62 rfl (by kernel_rfl) ?_)
              | (go_at_call 39; refine (HA.out _ HE KB.lt).mono ?_; rintro e X5 ⟨U0, U1, U2, U3, U4, U5, k0, k1, k2, k3, k4, k5, rfl, HE1, b9⟩; replace KB := KB.below b9 (by omega); replace BX := BX.trans (b9.mono (by omega)); clear b9)
              | (go_at_call 39; refine (HB.out _ U0 U1 U2 U3 U4 U5 k0 k1 k2 k3 k4 k5 HE1 KB.lt).mono ?_; rintro e X6 ⟨W0, W1, W2, W3, W4, W5, m0, m1, m2, m3, m4, m5, rfl, HE2, b9⟩; replace KB := KB.below b9 (by omega); replace BX := BX.trans (b9.mono (by omega)); clear b9; have oW0 : W0.oneCell' = true := qq_one HE2.all.q0; have oW1 : W1.oneCell' = true := qq_one HE2.all.q1; have oW2 : W2.oneCell' = true := rr_one HE2.all.r2; have oW3 : W3.oneCell' = true := rr_one HE2.all.r3; have oW4 : W4.oneCell' = true := rr_one HE2.all.r4; have oW5 : W5.oneCell' = true := rr_one HE2.all.r5; have H1 : (#[.int .i64 x''.a.sn, .int .i64 x''.a.nesn, W0, .bool x''.a.op, .bool x''.a.em, .int .i64 (x''.a.ack : Int), .int .i64 (x''.a.tak : Int), .int .i64 x''.b.sn, .int .i64 x''.b.nesn, W1, .bool x''.b.op, .bool x''.b.em, .int .i64 (x''.b.ack : Int), .int .i64 (x''.b.tak : Int), W2, W3, W4, W5] : Array Value).all (·.oneCell') = true := (by rw [← Array.all_toList]; simp only [List.all_cons, List.all_nil, oW0, oW1, oW2, oW3, oW4, oW5, Bool.and_true, Bool.and_self]; rfl))
              | (refine wpList_store_row rfl 62 (.tmp 3) (.tmp 43) rfl g #[.int .i64 x''.a.sn, .int .i64 x''.a.nesn, W0, .bool x''.a.op, .bool x''.a.em, .int .i64 (x''.a.ack : Int), .int .i64 (x''.a.tak : Int), .int .i64 x''.b.sn, .int .i64 x''.b.nesn, W1, .bool x''.b.op, .bool x''.b.em, .int .i64 (x''.b.ack : Int), .int .i64 (x''.b.tak : Int), W2, W3, W4, W5] rfl rfl 62 _ KB (by kernel_rfl) rfl H1 ?_))
            go_roundw
            case rel => exact ⟨i + 1, x'', W0, W1, W2, W3, W4, W5, m0, m1, m2, m3, m4, m5, by omega, by go_num, HI'.out, HP'.out, HE2.box KB (by decide) (by decide) N8.out _, Av.bset_row KB, below_setRow BX (by omega) _⟩
            case measure => simp [intOf]; omega
          · obtain rfl : i = N := by omega
            have g1 : ¬ ((i : Int) < (i : Int)) := by omega
            obtain ⟨e1, e2, e3, e4⟩ := pg_end (hQN ▸ HP)
            have HSP : Hid (Calls Try.prog 41 #[V5, V2] wr fun e w' => e = .returned (.bool true) ∧ Below wr.heap.size wr w') := Lib.hid (samepks_yes V5 V2 l5 l2 wr HE.all.r5.qq.qi HE.all.r2.qq.qi (HE.e5.trans (e1.trans HE.e2.symm)) (by
              have h : l5.length = x.gb.length := by rw [← HE.e5, List.length_map]
              have h3 : x.gb.length = x.b.tak := rel_len HI.ab
              have h4 := HI.ab.tl
              have h5 := HI.la
              omega))
            have z0 : l0 = [] := List.map_eq_nil_iff.1 (HE.e0.trans e2)
            have z4 : l4 = [] := List.map_eq_nil_iff.1 (HE.e4.trans e4)
            subst z0; subst z4
            obtain ⟨⟨A0, c0, rfl, -⟩, -⟩ := HE.all.q0
            obtain ⟨⟨A4, c4, rfl, -⟩, -⟩ := HE.all.r4.qq
            have KB0 : Blk wr g 62 #[.int .i64 x.a.sn, .int .i64 x.a.nesn, .slice A0 0 c0, .bool x.a.op, .bool x.a.em, .int .i64 (x.a.ack : Int), .int .i64 (x.a.tak : Int), .int .i64 x.b.sn, .int .i64 x.b.nesn, V1, .bool x.b.op, .bool x.b.em, .int .i64 (x.b.ack : Int), .int .i64 (x.b.tak : Int), V2, V3, .slice A4 0 c4, V5] := KB
            replace KB := KB0
            clear KB0
            have HID : Hid (∀ X, Calls Try.prog 37 #[.agg #[.int .i64 x.a.sn, .int .i64 x.a.nesn, .slice A0 0 c0, .bool x.a.op, .bool x.a.em, .int .i64 (x.a.ack : Int), .int .i64 (x.a.tak : Int)]] X fun e w' => e = .returned (.bool true) ∧ Below X.heap.size X w') := Lib.hid fun X => idle_any _ _ A0 0 c0 _ _ _ _ X
            clear HE HI HP e1 e2 e3 e4
            have d14 := KB.cell 14
            have d17 := KB.cell 17
            go_wp2_with (first
              | (refine wpList_load_part (by kernel_rfl) _ _ rfl g 0 rfl 62 _ #[.int .i64 x.a.sn, .int .i64 x.a.nesn, .slice A0 0 c0, .bool x.a.op, .bool x.a.em, .int .i64 (x.a.ack : Int), .int .i64 (x.a.tak : Int)] (0, 0) _ KB rfl Try.underlying43 rfl (by kernel_rfl) ?_)
              | (go_at_call 41; refine HSP.out.mono ?_; rintro e X8 ⟨rfl, b9⟩; replace KB := KB.below b9 KB.lt; replace BX := Base.thenB BX b9; clear b9)
              | (go_at_call 37; refine (HID.out _).mono ?_; rintro e X9 ⟨rfl, b9⟩; replace KB := KB.below b9 KB.lt; replace BX := Base.thenB BX b9; clear b9; have d16 := KB.cell 16))
            go_ret
            exact ⟨rfl, BX⟩
      · have g1 : ¬ ((j : Int) < (n : Int)) := by omega
        clear cj
        obtain ⟨Q, HP, HC, HQl⟩ := pg_new HW
        have hqa := pg_qa HP
        have hN : l2.length = Q.length := by rw [← hqa, ← HE.e2, List.length_map]
        have H2 := HE.all.r2.qq
        obtain ⟨⟨A2, c2, rfl, -⟩, -⟩ := H2
        rw [hN] at KB HE
        obtain ⟨N, hQN⟩ : ∃ N, Q.length = N := ⟨_, rfl⟩
        rw [hQN] at KB HE HQl
        clear hN hqa
        have d14 := KB.cell 14
        go_wp2_with fail
        clear d14
        go_loopw [6] (fun s6 wr => ∃ (i : Nat) (x : En) (V0 V1 V2 V3 V4 V5 : Value) (l0 l1 l2 l3 l4 l5 : List Pm), i ≤ N ∧ s6 = .int .i64 i ∧ Inv x (64 + 2 * i) ∧ Pg Q i x ∧ EnAt wr (g + 1) x V0 V1 V2 V3 V4 V5 l0 l1 l2 l3 l4 l5 ∧ Blk wr g 62 #[.int .i64 x.a.sn, .int .i64 x.a.nesn, V0, .bool x.a.op, .bool x.a.em, .int .i64 (x.a.ack : Int), .int .i64 (x.a.tak : Int), .int .i64 x.b.sn, .int .i64 x.b.nesn, V1, .bool x.b.op, .bool x.b.em, .int .i64 (x.b.ack : Int), .int .i64 (x.b.tak : Int), V2, V3, V4, V5] ∧ Below w.heap.size w wr) (fun s6 _ => N - (intOf s6).toNat)
        case atStart => exact ⟨0, x, V0, V1, .slice A2 N c2, V3, V4, V5, l0, l1, l2, l3, l4, l5, Nat.zero_le _, rfl, ⟨HI.ab, HI.ba, by have := HI.la; omega, by have := HI.lb; omega⟩, HP, HE, KB, BX⟩
        case round =>
          clear HI HW HP HE KB BX HN
          clear x V0 V1 V3 V4 V5 l0 l1 l2 l3 l4 l5
          obtain ⟨i, x, V0, V1, V2, V3, V4, V5, l0, l1, l2, l3, l4, l5, hi, rfl, HI, HP, HE, KB, BX⟩ := hrel
          by_cases ci : i < N
          · have HI1 := inv_move HI 2 false (0, [])
            have HI2 := inv_move HI1 3 false (0, [])
            have HP2 := pg_step HP HC (by omega) (0, []) (0, [])
            obtain ⟨x', hx'⟩ : ∃ x', moveR x 2 false (0, []) = x' := ⟨_, rfl⟩
            rw [hx'] at HI1 HI2 HP2
            obtain ⟨x'', hx''⟩ : ∃ x'', moveR x' 3 false (0, []) = x'' := ⟨_, rfl⟩
            rw [hx''] at HI2 HP2
            have HA : Hid (∀ X, EnAt X (g + 1) x V0 V1 V2 V3 V4 V5 l0 l1 l2 l3 l4 l5 → g + 1 ≤ X.heap.size → Calls Try.prog 39 #[.agg #[.int .i64 x.a.sn, .int .i64 x.a.nesn, V0, .bool x.a.op, .bool x.a.em, .int .i64 (x.a.ack : Int), .int .i64 (x.a.tak : Int), .int .i64 x.b.sn, .int .i64 x.b.nesn, V1, .bool x.b.op, .bool x.b.em, .int .i64 (x.b.ack : Int), .int .i64 (x.b.tak : Int), V2, V3, V4, V5], .agg #[.int .i64 2, .bool false, .int .i64 0, .slice none 0 0]] X fun e W' => ∃ U0 U1 U2 U3 U4 U5 k0 k1 k2 k3 k4 k5, e = .returned (.agg #[.int .i64 x'.a.sn, .int .i64 x'.a.nesn, U0, .bool x'.a.op, .bool x'.a.em, .int .i64 (x'.a.ack : Int), .int .i64 (x'.a.tak : Int), .int .i64 x'.b.sn, .int .i64 x'.b.nesn, U1, .bool x'.b.op, .bool x'.b.em, .int .i64 (x'.b.ack : Int), .int .i64 (x'.b.tak : Int), U2, U3, U4, U5]) ∧ EnAt W' (g + 1) x' U0 U1 U2 U3 U4 U5 k0 k1 k2 k3 k4 k5 ∧ Below (g + 1) X W') := Lib.hid fun X he hgx => by
              have := moved_any x (64 + 2 * i) 2 false ⟨0, none, 0, []⟩ (g + 1) X V0 V1 V2 V3 V4 V5 l0 l1 l2 l3 l4 l5 hgx HI (by omega) he (older_nil hgx)
              rw [show Pm.p ⟨0, none, 0, []⟩ = (0, []) from rfl, hx'] at this
              exact this
            have HB : Hid (∀ X U0 U1 U2 U3 U4 U5 k0 k1 k2 k3 k4 k5, EnAt X (g + 1) x' U0 U1 U2 U3 U4 U5 k0 k1 k2 k3 k4 k5 → g + 1 ≤ X.heap.size → Calls Try.prog 39 #[.agg #[.int .i64 x'.a.sn, .int .i64 x'.a.nesn, U0, .bool x'.a.op, .bool x'.a.em, .int .i64 (x'.a.ack : Int), .int .i64 (x'.a.tak : Int), .int .i64 x'.b.sn, .int .i64 x'.b.nesn, U1, .bool x'.b.op, .bool x'.b.em, .int .i64 (x'.b.ack : Int), .int .i64 (x'.b.tak : Int), U2, U3, U4, U5], .agg #[.int .i64 3, .bool false, .int .i64 0, .slice none 0 0]] X fun e W' => ∃ W0 W1 W2 W3 W4 W5 m0 m1 m2 m3 m4 m5, e = .returned (.agg #[.int .i64 x''.a.sn, .int .i64 x''.a.nesn, W0, .bool x''.a.op, .bool x''.a.em, .int .i64 (x''.a.ack : Int), .int .i64 (x''.a.tak : Int), .int .i64 x''.b.sn, .int .i64 x''.b.nesn, W1, .bool x''.b.op, .bool x''.b.em, .int .i64 (x''.b.ack : Int), .int .i64 (x''.b.tak : Int), W2, W3, W4, W5]) ∧ EnAt W' (g + 1) x'' W0 W1 W2 W3 W4 W5 m0 m1 m2 m3 m4 m5 ∧ Below (g + 1) X W') := Lib.hid fun X U0 U1 U2 U3 U4 U5 k0 k1 k2 k3 k4 k5 he hgx => by
              have := moved_any x' (64 + 2 * i + 1) 3 false ⟨0, none, 0, []⟩ (g + 1) X U0 U1 U2 U3 U4 U5 k0 k1 k2 k3 k4 k5 hgx HI1 (by omega) he (older_nil hgx)
              rw [show Pm.p ⟨0, none, 0, []⟩ = (0, []) from rfl, hx''] at this
              exact this
            have HI' : Hid (Inv x'' (64 + 2 * (i + 1))) := Lib.hid (by have := HI2; rwa [show 64 + 2 * (i + 1) = 64 + 2 * i + 1 + 1 by omega])
            have HP' := Lib.hid HP2
            have N8 : Hid (∀ (i : Nat) (z : Int), (#[.int .i64 x.a.sn, .int .i64 x.a.nesn, V0, .bool x.a.op, .bool x.a.em, .int .i64 (x.a.ack : Int), .int .i64 (x.a.tak : Int), .int .i64 x.b.sn, .int .i64 x.b.nesn, V1, .bool x.b.op, .bool x.b.em, .int .i64 (x.b.ack : Int), .int .i64 (x.b.tak : Int), V2, V3, V4, V5] : Array Value)[i]? ≠ some (Value.int .u8 z)) := Lib.hid HE.no8
            have g1 : (i : Int) < (N : Int) := by omega
            clear hx' hx'' HI HI1 HI2 HP HP2
            go_wp2_with (first
              | (refine wpList_load_row rfl 62 (.tmp 3) rfl g rfl 62 #[.int .i64 x.a.sn, .int .i64 x.a.nesn, V0, .bool x.a.op, .bool x.a.em, .int .i64 (x.a.ack : Int), .int .i64 (x.a.tak : Int), .int .i64 x.b.sn, .int .i64 x.b.nesn, V1, .bool x.b.op, .bool x.b.em, .int .i64 (x.b.ack : Int), .int .i64 (x.b.tak : Int), V2, V3, V4, V5] (0, 0) _ KB Try.underlying62 rfl (by kernel_rfl) ?_)
              | (go_at_call 39; refine (HA.out _ HE KB.lt).mono ?_; rintro e X5 ⟨U0, U1, U2, U3, U4, U5, k0, k1, k2, k3, k4, k5, rfl, HE1, b9⟩; replace KB := KB.below b9 (by omega); replace BX := BX.trans (b9.mono (by omega)); clear b9)
              | (go_at_call 39; refine (HB.out _ U0 U1 U2 U3 U4 U5 k0 k1 k2 k3 k4 k5 HE1 KB.lt).mono ?_; rintro e X6 ⟨W0, W1, W2, W3, W4, W5, m0, m1, m2, m3, m4, m5, rfl, HE2, b9⟩; replace KB := KB.below b9 (by omega); replace BX := BX.trans (b9.mono (by omega)); clear b9; have oW0 : W0.oneCell' = true := qq_one HE2.all.q0; have oW1 : W1.oneCell' = true := qq_one HE2.all.q1; have oW2 : W2.oneCell' = true := rr_one HE2.all.r2; have oW3 : W3.oneCell' = true := rr_one HE2.all.r3; have oW4 : W4.oneCell' = true := rr_one HE2.all.r4; have oW5 : W5.oneCell' = true := rr_one HE2.all.r5; have H1 : (#[.int .i64 x''.a.sn, .int .i64 x''.a.nesn, W0, .bool x''.a.op, .bool x''.a.em, .int .i64 (x''.a.ack : Int), .int .i64 (x''.a.tak : Int), .int .i64 x''.b.sn, .int .i64 x''.b.nesn, W1, .bool x''.b.op, .bool x''.b.em, .int .i64 (x''.b.ack : Int), .int .i64 (x''.b.tak : Int), W2, W3, W4, W5] : Array Value).all (·.oneCell') = true := (by rw [← Array.all_toList]; simp only [List.all_cons, List.all_nil, oW0, oW1, oW2, oW3, oW4, oW5, Bool.and_true, Bool.and_self]; rfl))
              | (refine wpList_store_row rfl 62 (.tmp 3) (.tmp 43) rfl g #[.int .i64 x''.a.sn, .int .i64 x''.a.nesn, W0, .bool x''.a.op, .bool x''.a.em, .int .i64 (x''.a.ack : Int), .int .i64 (x''.a.tak : Int), .int .i64 x''.b.sn, .int .i64 x''.b.nesn, W1, .bool x''.b.op, .bool x''.b.em, .int .i64 (x''.b.ack : Int), .int .i64 (x''.b.tak : Int), W2, W3, W4, W5] rfl rfl 62 _ KB (by kernel_rfl) rfl H1 ?_))
            go_roundw
            case rel => exact ⟨i + 1, x'', W0, W1, W2, W3, W4, W5, m0, m1, m2, m3, m4, m5, by omega, by go_num, HI'.out, HP'.out, HE2.box KB (by decide) (by decide) N8.out _, Av.bset_row KB, below_setRow BX (by omega) _⟩
            case measure => simp [intOf]; omega
          · obtain rfl : i = N := by omega
            have g1 : ¬ ((i : Int) < (i : Int)) := by omega
            obtain ⟨e1, e2, e3, e4⟩ := pg_end (hQN ▸ HP)
            have HSP : Hid (Calls Try.prog 41 #[V5, V2] wr fun e w' => e = .returned (.bool true) ∧ Below wr.heap.size wr w') := Lib.hid (samepks_yes V5 V2 l5 l2 wr HE.all.r5.qq.qi HE.all.r2.qq.qi (HE.e5.trans (e1.trans HE.e2.symm)) (by
              have h : l5.length = x.gb.length := by rw [← HE.e5, List.length_map]
              have h3 : x.gb.length = x.b.tak := rel_len HI.ab
              have h4 := HI.ab.tl
              have h5 := HI.la
              omega))
            have z0 : l0 = [] := List.map_eq_nil_iff.1 (HE.e0.trans e2)
            have z4 : l4 = [] := List.map_eq_nil_iff.1 (HE.e4.trans e4)
            subst z0; subst z4
            obtain ⟨⟨A0, c0, rfl, -⟩, -⟩ := HE.all.q0
            obtain ⟨⟨A4, c4, rfl, -⟩, -⟩ := HE.all.r4.qq
            have KB0 : Blk wr g 62 #[.int .i64 x.a.sn, .int .i64 x.a.nesn, .slice A0 0 c0, .bool x.a.op, .bool x.a.em, .int .i64 (x.a.ack : Int), .int .i64 (x.a.tak : Int), .int .i64 x.b.sn, .int .i64 x.b.nesn, V1, .bool x.b.op, .bool x.b.em, .int .i64 (x.b.ack : Int), .int .i64 (x.b.tak : Int), V2, V3, .slice A4 0 c4, V5] := KB
            replace KB := KB0
            clear KB0
            have HID : Hid (∀ X, Calls Try.prog 37 #[.agg #[.int .i64 x.a.sn, .int .i64 x.a.nesn, .slice A0 0 c0, .bool x.a.op, .bool x.a.em, .int .i64 (x.a.ack : Int), .int .i64 (x.a.tak : Int)]] X fun e w' => e = .returned (.bool true) ∧ Below X.heap.size X w') := Lib.hid fun X => idle_any _ _ A0 0 c0 _ _ _ _ X
            clear HE HI HP e1 e2 e3 e4
            have d14 := KB.cell 14
            have d17 := KB.cell 17
            go_wp2_with (first
              | (refine wpList_load_part (by kernel_rfl) _ _ rfl g 0 rfl 62 _ #[.int .i64 x.a.sn, .int .i64 x.a.nesn, .slice A0 0 c0, .bool x.a.op, .bool x.a.em, .int .i64 (x.a.ack : Int), .int .i64 (x.a.tak : Int)] (0, 0) _ KB rfl Try.underlying43 rfl (by kernel_rfl) ?_)
              | (go_at_call 41; refine HSP.out.mono ?_; rintro e X8 ⟨rfl, b9⟩; replace KB := KB.below b9 KB.lt; replace BX := Base.thenB BX b9; clear b9)
              | (go_at_call 37; refine (HID.out _).mono ?_; rintro e X9 ⟨rfl, b9⟩; replace KB := KB.below b9 KB.lt; replace BX := Base.thenB BX b9; clear b9; have d16 := KB.cell 16))
            go_ret
            exact ⟨rfl, BX⟩
end Go.Proofs.Ytbnfjielnamepaa.Arq
