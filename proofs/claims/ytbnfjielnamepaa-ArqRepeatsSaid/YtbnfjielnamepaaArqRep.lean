/- Acknowledgement: what is sent is sent again: contracts over the program. -/
import Derived.Test.YtbnfjielnamepaaArqMn
import Derived.Test.YtbnfjielnamepaaArqBox
import Derived.Test.YtbnfjielnamepaaArqRepM
import Derived.Test.YtbnfjielnamepaaArqLives
import Derived.Test.YtbnfjielnamepaaDpArgs
set_option linter.unusedVariables false
set_option linter.unusedSimpArgs false
namespace Go.Proofs.Ytbnfjielnamepaa.Arq
open Go.RowKit Mem Oct Rw Av Dp
open Base (thenB)

theorem queue_len (s : Sd) (p : Pk) : (queueR s p).1.q.length ≤ s.q.length + 1 := by
  unfold queueR
  split
  · split
    · simp
    · simp
  · simp
set_option maxRecDepth 100000 in
set_option maxHeartbeats 40000000 in
theorem repeats_any (A : Option Addr) (c : Nat) (xs : List Sm) (A2 : Option Addr) (c2 : Nat) (ms : List Pm) (w : World) (ta : ListAt encS w w.heap.size A xs) (gd : ∀ x ∈ xs, B64 x.d ∧ GoodK w w.heap.size x.x) (hc : xs.length ≤ c) (hb : c * 48 ≤ 140737488351232)
    (ta2 : ListAt encK w w.heap.size A2 ms) (gd2 : ∀ x ∈ ms, GoodK w w.heap.size x) (hc2 : ms.length ≤ c2) (hb2 : c2 * 32 ≤ 140737488351232) :
    Calls Try.prog 11 #[.slice A xs.length c, .slice A2 ms.length c2] w fun e w' => e = .returned (.bool true) ∧ Below w.heap.size w w' := by
  have HL := Lib.hid lives_any
  obtain ⟨n, hn⟩ : ∃ n, xs.length = n := ⟨_, rfl⟩
  obtain ⟨n2, hn2⟩ : ∃ n, ms.length = n := ⟨_, rfl⟩
  rw [hn] at hc ⊢
  rw [hn2] at hc2 ⊢
  by_cases cl : (100 : Int) < (n : Int)
  · go_enter Try.func11, Try.ntmps11
    go_wp2_with (go_at_call 24; refine (HL.out _).mono ?_; rintro e W1 ⟨rfl, BX⟩)
    go_ret
    exact ⟨rfl, BX⟩
  by_cases cl2 : (100 : Int) < (n2 : Int)
  · go_enter Try.func11, Try.ntmps11
    go_wp2_with (go_at_call 24; refine (HL.out _).mono ?_; rintro e W1 ⟨rfl, BX⟩)
    go_ret
    exact ⟨rfl, BX⟩
  have hn100 : n ≤ 100 := by omega
  have hn200 : n2 ≤ 100 := by omega
  go_enter Try.func11, Try.ntmps11
  go_upto_region 5 with (go_at_call 24; refine (HL.out _).mono ?_; rintro e W1 ⟨rfl, BX⟩)
  go_upto_region 6 with (go_at_call 25; refine (new_any _).mono ?_; rintro e W2 ⟨rfl, b9⟩; replace BX := Base.thenB BX b9; clear b9)
  have hs2 := BX.size
  have KB : Blk (W2.alloc (.cells #[.int .i64 0, .int .i64 0, .slice none 0 0, .bool false, .bool false, .int .i64 0, .int .i64 0, .int .i64 0, .int .i64 0, .slice none 0 0, .bool false, .bool false, .int .i64 0, .int .i64 0, .slice none 0 0, .slice none 0 0, .slice none 0 0, .slice none 0 0] 62)) W2.heap.size 62 #[.int .i64 0, .int .i64 0, .slice none 0 0, .bool false, .bool false, .int .i64 0, .int .i64 0, .int .i64 0, .int .i64 0, .slice none 0 0, .bool false, .bool false, .int .i64 0, .int .i64 0, .slice none 0 0, .slice none 0 0, .slice none 0 0, .slice none 0 0] := Blk.fresh W2 62 #[.int .i64 0, .int .i64 0, .slice none 0 0, .bool false, .bool false, .int .i64 0, .int .i64 0, .int .i64 0, .int .i64 0, .slice none 0 0, .bool false, .bool false, .int .i64 0, .int .i64 0, .slice none 0 0, .slice none 0 0, .slice none 0 0, .slice none 0 0]
  replace BX := BX.alloc BX.size (.cells #[.int .i64 0, .int .i64 0, .slice none 0 0, .bool false, .bool false, .int .i64 0, .int .i64 0, .int .i64 0, .int .i64 0, .slice none 0 0, .bool false, .bool false, .int .i64 0, .int .i64 0, .slice none 0 0, .slice none 0 0, .slice none 0 0, .slice none 0 0] 62)
  obtain ⟨g, hg⟩ : ∃ g, W2.heap.size = g := ⟨_, rfl⟩
  rw [hg] at KB hs2 ⊢
  clear hg
  generalize W2.alloc (.cells #[.int .i64 0, .int .i64 0, .slice none 0 0, .bool false, .bool false, .int .i64 0, .int .i64 0, .int .i64 0, .int .i64 0, .slice none 0 0, .bool false, .bool false, .int .i64 0, .int .i64 0, .slice none 0 0, .slice none 0 0, .slice none 0 0, .slice none 0 0] 62) = W3 at *
  have HE : EnAt W3 (g + 1) en0 (.slice none 0 0) (.slice none 0 0) (.slice none 0 0) (.slice none 0 0) (.slice none 0 0) (.slice none 0 0) [] [] [] [] [] [] := ⟨All.nil _ _ _, rfl, rfl, rfl, rfl, rfl, rfl⟩
  go_wp2_with fail
  go_loopw [6] (fun s4 wr => ∃ (j : Nat) (x : En) (V0 V1 V2 V3 V4 V5 : Value) (l0 l1 l2 l3 l4 l5 : List Pm), j ≤ n ∧ s4 = .int .i64 j ∧ Inv x j ∧ EnAt wr (g + 1) x V0 V1 V2 V3 V4 V5 l0 l1 l2 l3 l4 l5 ∧ Blk wr g 62 #[.int .i64 x.a.sn, .int .i64 x.a.nesn, V0, .bool x.a.op, .bool x.a.em, .int .i64 (x.a.ack : Int), .int .i64 (x.a.tak : Int), .int .i64 x.b.sn, .int .i64 x.b.nesn, V1, .bool x.b.op, .bool x.b.em, .int .i64 (x.b.ack : Int), .int .i64 (x.b.tak : Int), V2, V3, V4, V5] ∧ Below w.heap.size w wr) (fun s4 _ => n - (intOf s4).toNat)
  case atStart => exact ⟨0, en0, .slice none 0 0, .slice none 0 0, .slice none 0 0, .slice none 0 0, .slice none 0 0, .slice none 0 0, [], [], [], [], [], [], Nat.zero_le _, rfl, inv_new 0, HE, KB, BX⟩
  case round =>
    obtain ⟨j, x, V0, V1, V2, V3, V4, V5, l0, l1, l2, l3, l4, l5, hj, rfl, HI, HE, KB, BX⟩ := hrel
    by_cases cj : j < n
    · obtain ⟨b, off, rfl, hbl, hcl⟩ := ListAt.open_ ta sizS (by decide) (by omega)
      obtain ⟨y, hy⟩ : ∃ y, xs[j]? = some y := ⟨_, List.getElem?_eq_getElem (by omega)⟩
      have gy := (gd y (List.mem_of_getElem? hy)).2
      have TT : wr.cell? ⟨b, off + j * 4, none⟩ = some (.int .i64 y.d) ∧ wr.cell? ⟨b, off + j * 4 + 1, none⟩ = some (.bool y.lost) ∧ wr.cell? ⟨b, off + j * 4 + 2, none⟩ = some (.int .i64 y.x.k) ∧ wr.cell? ⟨b, off + j * 4 + 3, none⟩ = some (.slice y.x.A y.x.v.length y.x.c) := ⟨(BX.cell (p := ⟨b, off + j * 4, none⟩) hbl).trans (hcl j y hy 0 _ rfl), (BX.cell (p := ⟨b, off + j * 4 + 1, none⟩) hbl).trans (hcl j y hy 1 _ rfl), (BX.cell (p := ⟨b, off + j * 4 + 2, none⟩) hbl).trans (hcl j y hy 2 _ rfl), (BX.cell (p := ⟨b, off + j * 4 + 3, none⟩) hbl).trans (hcl j y hy 3 _ rfl)⟩
      have HM1 : ∀ X, EnAt X (g + 1) x V0 V1 V2 V3 V4 V5 l0 l1 l2 l3 l4 l5 → Below w.heap.size w X → g + 1 ≤ X.heap.size → Calls Try.prog 39 #[.agg #[.int .i64 x.a.sn, .int .i64 x.a.nesn, V0, .bool x.a.op, .bool x.a.em, .int .i64 (x.a.ack : Int), .int .i64 (x.a.tak : Int), .int .i64 x.b.sn, .int .i64 x.b.nesn, V1, .bool x.b.op, .bool x.b.em, .int .i64 (x.b.ack : Int), .int .i64 (x.b.tak : Int), V2, V3, V4, V5], .agg #[.int .i64 y.d, .bool y.lost, .int .i64 y.x.k, .slice y.x.A y.x.v.length y.x.c]] X fun e W' => Moved X W' e (g + 1) (moveR x y.d y.lost y.x.p) := fun X he b9 hgx => by
        have gk := gy.below b9
        exact moved_any x j y.d y.lost y.x (g + 1) X V0 V1 V2 V3 V4 V5 l0 l1 l2 l3 l4 l5 hgx HI (by omega) he ⟨gk.2.1, Nat.le_trans gk.2.1 gk.2.2.1, gk.2.2.2.1, gk.2.2.2.2.more (by omega), hgx⟩
      have HI1 := inv_move HI y.d y.lost y.x.p
      obtain ⟨x', hx'⟩ : ∃ x', moveR x y.d y.lost y.x.p = x' := ⟨_, rfl⟩
      rw [hx'] at HM1 HI1
      have HM : Hid (∀ X, EnAt X (g + 1) x V0 V1 V2 V3 V4 V5 l0 l1 l2 l3 l4 l5 → Below w.heap.size w X → Blk X g 62 #[.int .i64 x.a.sn, .int .i64 x.a.nesn, V0, .bool x.a.op, .bool x.a.em, .int .i64 (x.a.ack : Int), .int .i64 (x.a.tak : Int), .int .i64 x.b.sn, .int .i64 x.b.nesn, V1, .bool x.b.op, .bool x.b.em, .int .i64 (x.b.ack : Int), .int .i64 (x.b.tak : Int), V2, V3, V4, V5] → Calls Try.prog 39 #[.agg #[.int .i64 x.a.sn, .int .i64 x.a.nesn, V0, .bool x.a.op, .bool x.a.em, .int .i64 (x.a.ack : Int), .int .i64 (x.a.tak : Int), .int .i64 x.b.sn, .int .i64 x.b.nesn, V1, .bool x.b.op, .bool x.b.em, .int .i64 (x.b.ack : Int), .int .i64 (x.b.tak : Int), V2, V3, V4, V5], .agg #[.int .i64 y.d, .bool y.lost, .int .i64 y.x.k, .slice y.x.A y.x.v.length y.x.c]] X fun e W' => ∃ U0 U1 U2 U3 U4 U5 k0 k1 k2 k3 k4 k5, e = .returned (.agg #[.int .i64 x'.a.sn, .int .i64 x'.a.nesn, U0, .bool x'.a.op, .bool x'.a.em, .int .i64 (x'.a.ack : Int), .int .i64 (x'.a.tak : Int), .int .i64 x'.b.sn, .int .i64 x'.b.nesn, U1, .bool x'.b.op, .bool x'.b.em, .int .i64 (x'.b.ack : Int), .int .i64 (x'.b.tak : Int), U2, U3, U4, U5]) ∧ EnAt W' (g + 1) x' U0 U1 U2 U3 U4 U5 k0 k1 k2 k3 k4 k5 ∧ Below (g + 1) X W') := Lib.hid fun X he b9 hk => HM1 X he b9 hk.lt
      have HI' := Lib.hid HI1
      have N8 : Hid (∀ (i : Nat) (z : Int), (#[.int .i64 x.a.sn, .int .i64 x.a.nesn, V0, .bool x.a.op, .bool x.a.em, .int .i64 (x.a.ack : Int), .int .i64 (x.a.tak : Int), .int .i64 x.b.sn, .int .i64 x.b.nesn, V1, .bool x.b.op, .bool x.b.em, .int .i64 (x.b.ack : Int), .int .i64 (x.b.tak : Int), V2, V3, V4, V5] : Array Value)[i]? ≠ some (Value.int .u8 z)) := Lib.hid HE.no8
      have g1 : (0 : Int) ≤ (j : Int) ∧ (j : Int) < (n : Int) := by omega
      have g2 : ¬ ((n : Int) ≤ (j : Int)) := by omega
      clear HM1 HI HI1 hx' gy hcl hy gd ta gd2 ta2
      go_upto_region 9 with (fail)
      have KB' : Blk wr.drew (g) 62 #[.int .i64 x.a.sn, .int .i64 x.a.nesn, V0, .bool x.a.op, .bool x.a.em, .int .i64 (x.a.ack : Int), .int .i64 (x.a.tak : Int), .int .i64 x.b.sn, .int .i64 x.b.nesn, V1, .bool x.b.op, .bool x.b.em, .int .i64 (x.b.ack : Int), .int .i64 (x.b.tak : Int), V2, V3, V4, V5] := Mem.Blk.drew KB
      refine wp_region_held_drew (S := (fun w' => w'.cell? ⟨b, off + j * 4, none⟩ = some (.int .i64 y.d) ∧ w'.cell? ⟨b, off + j * 4 + 1, none⟩ = some (.bool y.lost) ∧ w'.cell? ⟨b, off + j * 4 + 2, none⟩ = some (.int .i64 y.x.k) ∧ w'.cell? ⟨b, off + j * 4 + 3, none⟩ = some (.slice y.x.A y.x.v.length y.x.c))) (by kernel_rfl) ?_ (fun hHeld => ?_)
      · exact TT
      replace KB := KB'
      clear KB'
      replace BX : Below w.heap.size w wr.drew := BX.drew
      replace TT := TT
      replace HE := (show EnAt wr.drew (g + 1) x V0 V1 V2 V3 V4 V5 l0 l1 l2 l3 l4 l5 from HE.below ((Below.refl wr.heap.size wr).drew))
      replace TT : wr.drew.cell? ⟨b, off + j * 4, none⟩ = some (.int .i64 y.d) ∧ wr.drew.cell? ⟨b, off + j * 4 + 1, none⟩ = some (.bool y.lost) ∧ wr.drew.cell? ⟨b, off + j * 4 + 2, none⟩ = some (.int .i64 y.x.k) ∧ wr.drew.cell? ⟨b, off + j * 4 + 3, none⟩ = some (.slice y.x.A y.x.v.length y.x.c) := TT
      generalize wr.drew = X0 at *
      refine wpAnyH_take (i := 1) (v := .slice (some ⟨b, off, none⟩) n c) rfl (by kernel_rfl) (by kernel_rfl) (by kernel_rfl) (fun _ _ _ h => h) (Or.inl ⟨by first | rfl | go_simp, by intro w9 hSw; (try dsimp only at hSw); go_simp⟩) (by assumption) ?_
      simp only [List.getElem_toArray, List.getElem_cons_zero, List.getElem_cons_succ, Act.put, List.setIfInBounds_toArray, List.set_cons_zero, List.set_cons_succ]
      refine wpAnyH_take (i := 2) (v := .int .i64 (j : Int)) rfl (by kernel_rfl) (by kernel_rfl) (by kernel_rfl) (fun _ _ _ h => h) (Or.inl ⟨by first | rfl | go_simp, by intro w9 hSw; (try dsimp only at hSw); go_simp⟩) (by assumption) ?_
      simp only [List.getElem_toArray, List.getElem_cons_zero, List.getElem_cons_succ, Act.put, List.setIfInBounds_toArray, List.set_cons_zero, List.set_cons_succ]
      refine wpAnyH_take (i := 3) (v := .pointer (some ⟨b, off + j * 4, none⟩)) rfl (by kernel_rfl) (by kernel_rfl) (by kernel_rfl) (fun _ _ _ h => h) (Or.inl ⟨by first | rfl | go_simp, by intro w9 hSw; (try dsimp only at hSw); go_simp⟩) (by assumption) ?_
      simp only [List.getElem_toArray, List.getElem_cons_zero, List.getElem_cons_succ, Act.put, List.setIfInBounds_toArray, List.set_cons_zero, List.set_cons_succ]
      refine wpAnyH_take (i := 4) (v := .agg #[.int .i64 y.d, .bool y.lost, .int .i64 y.x.k, .slice y.x.A y.x.v.length y.x.c]) rfl (by kernel_rfl) (by kernel_rfl) (by kernel_rfl) (fun _ _ _ h => h) (Or.inl ⟨by first | rfl | go_simp, by intro w9 hSw; (try dsimp only at hSw); go_simp⟩) (by assumption) ?_
      simp only [List.getElem_toArray, List.getElem_cons_zero, List.getElem_cons_succ, Act.put, List.setIfInBounds_toArray, List.set_cons_zero, List.set_cons_succ]
      refine wpAnyH_ready (rs := [0]) (by kernel_rfl) (by simp) ?_
      refine AllReadyH.cons rfl (fun K hK => ?_) (AllReadyH.nil)
      refine step_load_row rfl 62 (.tmp 5) rfl g rfl 62 #[.int .i64 x.a.sn, .int .i64 x.a.nesn, V0, .bool x.a.op, .bool x.a.em, .int .i64 (x.a.ack : Int), .int .i64 (x.a.tak : Int), .int .i64 x.b.sn, .int .i64 x.b.nesn, V1, .bool x.b.op, .bool x.b.em, .int .i64 (x.b.ack : Int), .int .i64 (x.b.tak : Int), V2, V3, V4, V5] (0, 0) _ KB Try.underlying62 rfl (by kernel_rfl) ?_
      refine hK.out _ _ TT (fun hHeld => ?_)
      clear hK K
      try simp only [List.getElem_toArray, List.getElem_cons_zero, List.getElem_cons_succ, Act.put, List.setIfInBounds_toArray, List.set_cons_zero, List.set_cons_succ]
      refine wpAnyH_ready (rs := [5]) (by kernel_rfl) (by simp) ?_
      refine AllReadyH.cons rfl (fun K hK => ?_) (AllReadyH.nil)
      go_simp
      refine (HM.out X0 HE BX KB).mono ?_
      rintro e X1 ⟨U0, U1, U2, U3, U4, U5, k0, k1, k2, k3, k4, k5, rfl, HE1, b9⟩
      have HE := HE1
      clear HE1
      have oU0 : U0.oneCell' = true := qq_one HE.all.q0
      have oU1 : U1.oneCell' = true := qq_one HE.all.q1
      have oU2 : U2.oneCell' = true := rr_one HE.all.r2
      have oU3 : U3.oneCell' = true := rr_one HE.all.r3
      have oU4 : U4.oneCell' = true := rr_one HE.all.r4
      have oU5 : U5.oneCell' = true := rr_one HE.all.r5
      replace KB := KB.below b9 (by omega)
      replace BX := BX.trans (b9.mono (by omega))
      replace TT := And.intro ((b9.cell (p := ⟨b, off + j * 4 , none⟩) (by show b < _; omega)).trans TT.1) (And.intro ((b9.cell (p := ⟨b, off + j * 4 + 1, none⟩) (by show b < _; omega)).trans TT.2.1) (And.intro ((b9.cell (p := ⟨b, off + j * 4 + 2, none⟩) (by show b < _; omega)).trans TT.2.2.1) (((b9.cell (p := ⟨b, off + j * 4 + 3, none⟩) (by show b < _; omega)).trans TT.2.2.2))))
      clear b9
      refine hK.out _ _ TT (fun hHeld => ?_)
      clear hK K
      try simp only [List.getElem_toArray, List.getElem_cons_zero, List.getElem_cons_succ, Act.put, List.setIfInBounds_toArray, List.set_cons_zero, List.set_cons_succ]
      refine wpAnyH_ready (rs := [6]) (by kernel_rfl) (by simp) ?_
      refine AllReadyH.cons rfl (fun K hK => ?_) (AllReadyH.nil)
      have H9 : (#[.int .i64 x'.a.sn, .int .i64 x'.a.nesn, U0, .bool x'.a.op, .bool x'.a.em, .int .i64 (x'.a.ack : Int), .int .i64 (x'.a.tak : Int), .int .i64 x'.b.sn, .int .i64 x'.b.nesn, U1, .bool x'.b.op, .bool x'.b.em, .int .i64 (x'.b.ack : Int), .int .i64 (x'.b.tak : Int), U2, U3, U4, U5] : Array Value).all (·.oneCell') = true := by rw [← Array.all_toList]; simp only [List.all_cons, List.all_nil, oU0, oU1, oU2, oU3, oU4, oU5, Bool.and_true, Bool.and_self]; rfl
      refine Av.step_store_row rfl 62 (.tmp 5) (.tmp 37) rfl (g) #[.int .i64 x'.a.sn, .int .i64 x'.a.nesn, U0, .bool x'.a.op, .bool x'.a.em, .int .i64 (x'.a.ack : Int), .int .i64 (x'.a.tak : Int), .int .i64 x'.b.sn, .int .i64 x'.b.nesn, U1, .bool x'.b.op, .bool x'.b.em, .int .i64 (x'.b.ack : Int), .int .i64 (x'.b.tak : Int), U2, U3, U4, U5] rfl rfl 62 _ KB (by kernel_rfl) rfl H9 ?_
      replace TT := And.intro ((cell_setRow_other X1 (g) #[.int .i64 x'.a.sn, .int .i64 x'.a.nesn, U0, .bool x'.a.op, .bool x'.a.em, .int .i64 (x'.a.ack : Int), .int .i64 (x'.a.tak : Int), .int .i64 x'.b.sn, .int .i64 x'.b.nesn, U1, .bool x'.b.op, .bool x'.b.em, .int .i64 (x'.b.ack : Int), .int .i64 (x'.b.tak : Int), U2, U3, U4, U5] ⟨b, off + j * 4 , none⟩ (show b ≠ g by omega)).trans TT.1) (And.intro ((cell_setRow_other X1 (g) #[.int .i64 x'.a.sn, .int .i64 x'.a.nesn, U0, .bool x'.a.op, .bool x'.a.em, .int .i64 (x'.a.ack : Int), .int .i64 (x'.a.tak : Int), .int .i64 x'.b.sn, .int .i64 x'.b.nesn, U1, .bool x'.b.op, .bool x'.b.em, .int .i64 (x'.b.ack : Int), .int .i64 (x'.b.tak : Int), U2, U3, U4, U5] ⟨b, off + j * 4 + 1, none⟩ (show b ≠ g by omega)).trans TT.2.1) (And.intro ((cell_setRow_other X1 (g) #[.int .i64 x'.a.sn, .int .i64 x'.a.nesn, U0, .bool x'.a.op, .bool x'.a.em, .int .i64 (x'.a.ack : Int), .int .i64 (x'.a.tak : Int), .int .i64 x'.b.sn, .int .i64 x'.b.nesn, U1, .bool x'.b.op, .bool x'.b.em, .int .i64 (x'.b.ack : Int), .int .i64 (x'.b.tak : Int), U2, U3, U4, U5] ⟨b, off + j * 4 + 2, none⟩ (show b ≠ g by omega)).trans TT.2.2.1) (((cell_setRow_other X1 (g) #[.int .i64 x'.a.sn, .int .i64 x'.a.nesn, U0, .bool x'.a.op, .bool x'.a.em, .int .i64 (x'.a.ack : Int), .int .i64 (x'.a.tak : Int), .int .i64 x'.b.sn, .int .i64 x'.b.nesn, U1, .bool x'.b.op, .bool x'.b.em, .int .i64 (x'.b.ack : Int), .int .i64 (x'.b.tak : Int), U2, U3, U4, U5] ⟨b, off + j * 4 + 3, none⟩ (show b ≠ g by omega)).trans TT.2.2.2))))
      replace HE := HE.box KB (by decide) (by decide) N8.out #[.int .i64 x'.a.sn, .int .i64 x'.a.nesn, U0, .bool x'.a.op, .bool x'.a.em, .int .i64 (x'.a.ack : Int), .int .i64 (x'.a.tak : Int), .int .i64 x'.b.sn, .int .i64 x'.b.nesn, U1, .bool x'.b.op, .bool x'.b.em, .int .i64 (x'.b.ack : Int), .int .i64 (x'.b.tak : Int), U2, U3, U4, U5]
      replace KB : Blk (X1.setRow (g) #[.int .i64 x'.a.sn, .int .i64 x'.a.nesn, U0, .bool x'.a.op, .bool x'.a.em, .int .i64 (x'.a.ack : Int), .int .i64 (x'.a.tak : Int), .int .i64 x'.b.sn, .int .i64 x'.b.nesn, U1, .bool x'.b.op, .bool x'.b.em, .int .i64 (x'.b.ack : Int), .int .i64 (x'.b.tak : Int), U2, U3, U4, U5]) (g) 62 #[.int .i64 x'.a.sn, .int .i64 x'.a.nesn, U0, .bool x'.a.op, .bool x'.a.em, .int .i64 (x'.a.ack : Int), .int .i64 (x'.a.tak : Int), .int .i64 x'.b.sn, .int .i64 x'.b.nesn, U1, .bool x'.b.op, .bool x'.b.em, .int .i64 (x'.b.ack : Int), .int .i64 (x'.b.tak : Int), U2, U3, U4, U5] := Av.bset_row KB
      replace BX : Below w.heap.size w (X1.setRow (g) #[.int .i64 x'.a.sn, .int .i64 x'.a.nesn, U0, .bool x'.a.op, .bool x'.a.em, .int .i64 (x'.a.ack : Int), .int .i64 (x'.a.tak : Int), .int .i64 x'.b.sn, .int .i64 x'.b.nesn, U1, .bool x'.b.op, .bool x'.b.em, .int .i64 (x'.b.ack : Int), .int .i64 (x'.b.tak : Int), U2, U3, U4, U5]) := below_setRow BX (by omega) _
      clear H9
      generalize X1.setRow (g) #[.int .i64 x'.a.sn, .int .i64 x'.a.nesn, U0, .bool x'.a.op, .bool x'.a.em, .int .i64 (x'.a.ack : Int), .int .i64 (x'.a.tak : Int), .int .i64 x'.b.sn, .int .i64 x'.b.nesn, U1, .bool x'.b.op, .bool x'.b.em, .int .i64 (x'.b.ack : Int), .int .i64 (x'.b.tak : Int), U2, U3, U4, U5] = X2 at *
      refine hK.out _ _ TT (fun hHeld => ?_)
      clear hK K
      try simp only [List.getElem_toArray, List.getElem_cons_zero, List.getElem_cons_succ, Act.put, List.setIfInBounds_toArray, List.set_cons_zero, List.set_cons_succ]
      refine wpAnyH_done (by kernel_rfl) ?_ _
      clear hHeld HM
      go_wp2_with fail
      go_roundw
      case rel => exact ⟨j + 1, x', U0, U1, U2, U3, U4, U5, k0, k1, k2, k3, k4, k5, by omega, by go_num, HI'.out, HE, KB, BX⟩
      case measure => simp [intOf]; omega
    · obtain rfl : j = n := by omega
      have g2 : ¬ ((j : Int) < (j : Int)) := by omega
      have hop := open_op x.a
      have hne := (rel_open HI.ab).op hop
      have hbs := rel_open HI.ab
      have hln : l0.length ≤ 1000 := by
        have h : l0.length = x.a.q.length := by rw [← HE.e0, List.length_map]
        have := HI.la; have := HI.ab.q
        rw [h, HI.ab.q, List.length_drop]; omega
      obtain ⟨s, hs⟩ : ∃ s, openR x.a = s := ⟨_, rfl⟩
      obtain ⟨p, hp⟩ : ∃ p, pduR s = p := ⟨_, rfl⟩
      have hsq : s.q = x.a.q := by rw [← hs]; unfold openR; split <;> rfl
      rw [hs] at hop hne
      obtain ⟨psn, pne, pmd, pk, pv⟩ := p
      obtain ⟨pn, hpn⟩ : ∃ pn, pv.length = pn := ⟨_, rfl⟩
      obtain ⟨ssn, sne, sq, sop, sem, sack, stak⟩ := s
      have HS : Hid (Calls Try.prog 30 #[.agg #[.int .i64 x.a.sn, .int .i64 x.a.nesn, V0, .bool x.a.op, .bool x.a.em, .int .i64 (x.a.ack : Int), .int .i64 (x.a.tak : Int)]] wr fun e w' => ∃ V l PA pc, e = .returned (.tuple #[.agg #[.int .i64 ssn, .int .i64 sne, V, .bool sop, .bool sem, .int .i64 (sack : Int), .int .i64 (stak : Int)], .agg #[.int .i64 psn, .int .i64 pne, .int .i64 pmd, .int .i64 pk, .slice PA pn pc]]) ∧ QQ w' 0 0 V l ∧ Hid (l.map Pm.p = x.a.q) ∧ V.oneCell' = true ∧ PP w' 0 ⟨pk, PA, pc, pv⟩ ∧ Below wr.heap.size wr w') := Lib.hid (send_to hs hp hpn V0 l0 wr (by omega) HE.all.q0.qi HE.e0)
      have HP := Lib.hid hp
      have HN := Lib.hid hne
      have HSq := Lib.hid hsq
      have HlL : Hid (∀ l : List Pm, l.map Pm.p = x.a.q → l.length ≤ 1000) := Lib.hid fun l h => by
        have h1 : l0.length = x.a.q.length := by rw [← HE.e0, List.length_map]
        have h2 : l.length = x.a.q.length := by rw [← h, List.length_map]
        omega
      have Hop := Lib.hid hop
      clear hne hbs hp hs HI hsq hop gd ta
      go_upto_region 11 with (first
        | (refine wpList_load_part (by kernel_rfl) _ _ rfl g 0 rfl 62 _ #[.int .i64 x.a.sn, .int .i64 x.a.nesn, V0, .bool x.a.op, .bool x.a.em, .int .i64 (x.a.ack : Int), .int .i64 (x.a.tak : Int)] (0, 0) _ KB rfl Try.underlying43 rfl (by kernel_rfl) ?_)
        | (go_at_call 30; refine HS.out.mono ?_; rintro e W5 ⟨V, l, PA, pc, rfl, HQQ, hlq, oV, HZ, b9⟩; replace BX := Base.thenB BX b9; clear b9; have K7 : Blk ((W5.alloc (.cells #[.int .i64 0, .int .i64 0, .slice none 0 0, .bool false, .bool false, .int .i64 0, .int .i64 0] 43)).alloc (.cells #[.int .i64 0, .int .i64 0, .int .i64 0, .int .i64 0, .slice none 0 0] 26)) W5.heap.size 43 #[.int .i64 0, .int .i64 0, .slice none 0 0, .bool false, .bool false, .int .i64 0, .int .i64 0] := (Blk.fresh W5 43 #[.int .i64 0, .int .i64 0, .slice none 0 0, .bool false, .bool false, .int .i64 0, .int .i64 0]).alloc _; have K8 : Blk ((W5.alloc (.cells #[.int .i64 0, .int .i64 0, .slice none 0 0, .bool false, .bool false, .int .i64 0, .int .i64 0] 43)).alloc (.cells #[.int .i64 0, .int .i64 0, .int .i64 0, .int .i64 0, .slice none 0 0] 26)) (W5.heap.size + 1) 26 #[.int .i64 0, .int .i64 0, .int .i64 0, .int .i64 0, .slice none 0 0] := Av.Blk.next; have H1 : (#[.int .i64 ssn, .int .i64 sne, V, .bool sop, .bool sem, .int .i64 (sack : Int), .int .i64 (stak : Int)] : Array Value).all (·.oneCell') = true := (by rw [← Array.all_toList]; simp only [List.all_cons, List.all_nil, oV, Bool.and_true, Bool.and_self]; rfl); have H2 : (#[.int .i64 psn, .int .i64 pne, .int .i64 pmd, .int .i64 pk, .slice PA pn pc] : Array Value).all (·.oneCell') = true := (by rw [← Array.all_toList]; rfl))
        | (refine wpList_store_row rfl 43 (.tmp 7) (.tmp 43) rfl W5.heap.size #[.int .i64 ssn, .int .i64 sne, V, .bool sop, .bool sem, .int .i64 (sack : Int), .int .i64 (stak : Int)] rfl rfl 43 _ K7 (by kernel_rfl) rfl H1 ?_)
        | (refine wpList_store_row rfl 26 (.tmp 8) (.tmp 44) rfl (W5.heap.size + 1) #[.int .i64 psn, .int .i64 pne, .int .i64 pmd, .int .i64 pk, .slice PA pn pc] rfl rfl 26 _ (Av.bother_row K8 (by omega)) (by kernel_rfl) rfl H2 ?_))
      have b9 : Below W5.heap.size W5 ((W5.alloc (.cells #[.int .i64 0, .int .i64 0, .slice none 0 0, .bool false, .bool false, .int .i64 0, .int .i64 0] 43)).alloc (.cells #[.int .i64 0, .int .i64 0, .int .i64 0, .int .i64 0, .slice none 0 0] 26)) := ((Below.refl _ _).alloc (Nat.le_refl _) _).alloc (by simp) _
      have hs5 := BX.size
      replace HQQ := HQQ.below b9
      replace HZ := HZ.below b9
      replace BX := Base.thenB BX b9
      clear b9
      obtain ⟨h, hh⟩ : ∃ h, W5.heap.size = h := ⟨_, rfl⟩
      rw [hh] at K7 K8 hs5 ⊢
      clear hh
      generalize (W5.alloc (.cells #[.int .i64 0, .int .i64 0, .slice none 0 0, .bool false, .bool false, .int .i64 0, .int .i64 0] 43)).alloc (.cells #[.int .i64 0, .int .i64 0, .int .i64 0, .int .i64 0, .slice none 0 0] 26) = Y0 at *
      have K8' : Blk (Y0.setRow h #[.int .i64 ssn, .int .i64 sne, V, .bool sop, .bool sem, .int .i64 (sack : Int), .int .i64 (stak : Int)]) (h + 1) 26 #[.int .i64 0, .int .i64 0, .int .i64 0, .int .i64 0, .slice none 0 0] := Av.bother_row K8 (by omega)
      replace HQQ := (HQQ.step (stp_row K7 #[.int .i64 ssn, .int .i64 sne, V, .bool sop, .bool sem, .int .i64 (sack : Int), .int .i64 (stak : Int)]) (by decide) (by decide) (Nat.zero_le _)).step (stp_row K8' #[.int .i64 psn, .int .i64 pne, .int .i64 pmd, .int .i64 pk, .slice PA pn pc]) (by decide) (by decide) (Nat.zero_le _)
      replace HZ := (HZ.step (stp_row K7 #[.int .i64 ssn, .int .i64 sne, V, .bool sop, .bool sem, .int .i64 (sack : Int), .int .i64 (stak : Int)]) (by decide) (Nat.zero_le _)).step (stp_row K8' #[.int .i64 psn, .int .i64 pne, .int .i64 pmd, .int .i64 pk, .slice PA pn pc]) (by decide) (Nat.zero_le _)
      replace K7 : Blk ((Y0.setRow h #[.int .i64 ssn, .int .i64 sne, V, .bool sop, .bool sem, .int .i64 (sack : Int), .int .i64 (stak : Int)]).setRow (h + 1) #[.int .i64 psn, .int .i64 pne, .int .i64 pmd, .int .i64 pk, .slice PA pn pc]) h 43 #[.int .i64 ssn, .int .i64 sne, V, .bool sop, .bool sem, .int .i64 (sack : Int), .int .i64 (stak : Int)] := Av.bother_row (Av.bset_row K7) (by omega)
      replace K8 : Blk ((Y0.setRow h #[.int .i64 ssn, .int .i64 sne, V, .bool sop, .bool sem, .int .i64 (sack : Int), .int .i64 (stak : Int)]).setRow (h + 1) #[.int .i64 psn, .int .i64 pne, .int .i64 pmd, .int .i64 pk, .slice PA pn pc]) (h + 1) 26 #[.int .i64 psn, .int .i64 pne, .int .i64 pmd, .int .i64 pk, .slice PA pn pc] := Av.bset_row K8'
      replace BX : Below w.heap.size w ((Y0.setRow h #[.int .i64 ssn, .int .i64 sne, V, .bool sop, .bool sem, .int .i64 (sack : Int), .int .i64 (stak : Int)]).setRow (h + 1) #[.int .i64 psn, .int .i64 pne, .int .i64 pmd, .int .i64 pk, .slice PA pn pc]) := below_setRow (below_setRow BX (by omega) _) (by omega) _
      clear K8' H1 H2 HS KB HE
      generalize (Y0.setRow h #[.int .i64 ssn, .int .i64 sne, V, .bool sop, .bool sem, .int .i64 (sack : Int), .int .i64 (stak : Int)]).setRow (h + 1) #[.int .i64 psn, .int .i64 pne, .int .i64 pmd, .int .i64 pk, .slice PA pn pc] = Y at *
      go_wp2_with fail
      go_loopw [9] (fun s9 wr => ∃ (j : Nat) (tsn tne : Int) (tq : List Pk) (top tem : Bool) (tack ttak : Nat) (V : Value) (l : List Pm), j ≤ n2 ∧ s9 = .int .i64 j ∧ Later ⟨ssn, sne, sq, sop, sem, sack, stak⟩ ⟨tsn, tne, tq, top, tem, tack, ttak⟩ ∧ l.length ≤ 1000 + j ∧ l.map Pm.p = tq ∧ QQ wr 0 0 V l ∧ PP wr 0 ⟨pk, PA, pc, pv⟩ ∧ Blk wr h 43 #[.int .i64 tsn, .int .i64 tne, V, .bool top, .bool tem, .int .i64 (tack : Int), .int .i64 (ttak : Int)] ∧ Blk wr (h + 1) 26 #[.int .i64 psn, .int .i64 pne, .int .i64 pmd, .int .i64 pk, .slice PA pn pc] ∧ Below w.heap.size w wr) (fun s9 _ => n2 - (intOf s9).toNat)
      case atStart => exact ⟨0, ssn, sne, sq, sop, sem, sack, stak, V, l, Nat.zero_le _, rfl, later_refl _, by have := HlL.out l hlq.out; omega, hlq.out.trans HSq.out.symm, HQQ, HZ, K7, K8, BX⟩
      case round =>
        clear HQQ HZ K7 K8 BX hlq oV
        obtain ⟨j, tsn, tne, tq, top, tem, tack, ttak, V, l, hj, rfl, HLa, hll, hlm, HQQ, HZ, K7, K8, BX⟩ := hrel
        have oV : V.oneCell' = true := qq_one HQQ
        by_cases cj : j < n2
        · obtain ⟨b, off, rfl, hbl, hcl⟩ := ListAt.open_ ta2 sizK (by decide) (by omega)
          obtain ⟨y, hy⟩ : ∃ y, ms[j]? = some y := ⟨_, List.getElem?_eq_getElem (by omega)⟩
          have gy := gd2 y (List.mem_of_getElem? hy)
          have TT : wr.cell? ⟨b, off + j * 2, none⟩ = some (.int .i64 y.k) ∧ wr.cell? ⟨b, off + j * 2 + 1, none⟩ = some (.slice y.A y.v.length y.c) := ⟨(BX.cell (p := ⟨b, off + j * 2, none⟩) hbl).trans (hcl j y hy 0 _ rfl), (BX.cell (p := ⟨b, off + j * 2 + 1, none⟩) hbl).trans (hcl j y hy 1 _ rfl)⟩
          have HL : Hid (∀ X, Below w.heap.size w X → Calls Try.prog 27 #[.agg #[.int .i64 y.k, .slice y.A y.v.length y.c]] X fun e w' => ∃ A c, e = .returned (.agg #[.int .i64 y.k, .slice A y.v.length c]) ∧ PP w' 0 ⟨y.k, A, c, y.v⟩ ∧ Below X.heap.size X w') := Lib.hid fun X b => by
            have gk := gy.below b
            exact lcopy_any y X ⟨gk.2.1, Nat.le_trans gk.2.1 gk.2.2.1, gk.2.2.2.1, gk.2.2.2.2.more b.size⟩
          obtain ⟨⟨⟨rsn, rne, rq, rop, rem, rack, rtak⟩, E⟩, hr⟩ : ∃ r, queueR ⟨tsn, tne, tq, top, tem, tack, ttak⟩ y.p = r := ⟨_, rfl⟩
          have HQ : Hid (∀ X A5 c5, QQ X 0 0 V l → PP X 0 ⟨y.k, A5, c5, y.v⟩ → Calls Try.prog 28 #[.agg #[.int .i64 tsn, .int .i64 tne, V, .bool top, .bool tem, .int .i64 (tack : Int), .int .i64 (ttak : Int)], .agg #[.int .i64 y.k, .slice A5 y.v.length c5]] X fun e X' => ∃ V1 l1, e = .returned (.tuple #[.agg #[.int .i64 rsn, .int .i64 rne, V1, .bool rop, .bool rem, .int .i64 (rack : Int), .int .i64 (rtak : Int)], .int .i64 E]) ∧ QQ X' 0 0 V1 l1 ∧ Hid (l1.map Pm.p = rq) ∧ Below X.heap.size X X') := Lib.hid fun X A5 c5 hqq hyy => by
            have := queue_any ⟨tsn, tne, tq, top, tem, tack, ttak⟩ V l ⟨y.k, A5, c5, y.v⟩ X (by omega) hqq.qi hlm hyy.gp
            rw [show Pm.p ⟨y.k, A5, c5, y.v⟩ = y.p from rfl, hr] at this
            exact this.mono fun e w' ⟨V', l', he, h1, h2, h3⟩ => ⟨V', l', he, h1.less (Nat.zero_le _) (Nat.le_refl _), Lib.hid h2, h3⟩
          have HLa' : Hid (Later ⟨ssn, sne, sq, sop, sem, sack, stak⟩ ⟨rsn, rne, rq, rop, rem, rack, rtak⟩) := Lib.hid (by have := later_queue HLa y.p; rw [hr] at this; exact this)
          have HLn : Hid (∀ l1 : List Pm, l1.map Pm.p = rq → l1.length ≤ 1000 + (j + 1)) := Lib.hid fun l1 h => by
            have h1 := queue_len ⟨tsn, tne, tq, top, tem, tack, ttak⟩ y.p
            rw [hr] at h1
            have h2 : l1.length = rq.length := by rw [← h, List.length_map]
            have h3 : l.length = tq.length := by rw [← hlm, List.length_map]
            simp only at h1
            omega
          have g1 : (0 : Int) ≤ (j : Int) ∧ (j : Int) < (n2 : Int) := by omega
          have g2 : ¬ ((n2 : Int) ≤ (j : Int)) := by omega
          clear HLa hlm hll hr gy hcl hy gd2 ta2
          go_upto_region 14 with (fail)
          have K7' : Blk wr.drew (h) 43 #[.int .i64 tsn, .int .i64 tne, V, .bool top, .bool tem, .int .i64 (tack : Int), .int .i64 (ttak : Int)] := Mem.Blk.drew K7
          have K8' : Blk wr.drew (h + 1) 26 #[.int .i64 psn, .int .i64 pne, .int .i64 pmd, .int .i64 pk, .slice PA pn pc] := Mem.Blk.drew K8
          refine wp_region_held_drew (S := (fun w' => w'.cell? ⟨b, off + j * 2, none⟩ = some (.int .i64 y.k) ∧ w'.cell? ⟨b, off + j * 2 + 1, none⟩ = some (.slice y.A y.v.length y.c))) (by kernel_rfl) ?_ (fun hHeld => ?_)
          · exact TT
          replace K7 := K7'
          clear K7'
          replace K8 := K8'
          clear K8'
          replace BX : Below w.heap.size w wr.drew := BX.drew
          replace TT := TT
          replace HQQ := (show QQ wr.drew 0 0 V l from HQQ.below ((Below.refl wr.heap.size wr).drew))
          replace HZ := (show PP wr.drew 0 ⟨pk, PA, pc, pv⟩ from HZ.below ((Below.refl wr.heap.size wr).drew))
          replace TT : wr.drew.cell? ⟨b, off + j * 2, none⟩ = some (.int .i64 y.k) ∧ wr.drew.cell? ⟨b, off + j * 2 + 1, none⟩ = some (.slice y.A y.v.length y.c) := TT
          generalize wr.drew = X0 at *
          refine wpAnyH_take (i := 1) (v := .slice (some ⟨b, off, none⟩) n2 c2) rfl (by kernel_rfl) (by kernel_rfl) (by kernel_rfl) (fun _ _ _ h => h) (Or.inl ⟨by first | rfl | go_simp, by intro w9 hSw; (try dsimp only at hSw); go_simp⟩) (by assumption) ?_
          simp only [List.getElem_toArray, List.getElem_cons_zero, List.getElem_cons_succ, Act.put, List.setIfInBounds_toArray, List.set_cons_zero, List.set_cons_succ]
          refine wpAnyH_take (i := 2) (v := .int .i64 (j : Int)) rfl (by kernel_rfl) (by kernel_rfl) (by kernel_rfl) (fun _ _ _ h => h) (Or.inl ⟨by first | rfl | go_simp, by intro w9 hSw; (try dsimp only at hSw); go_simp⟩) (by assumption) ?_
          simp only [List.getElem_toArray, List.getElem_cons_zero, List.getElem_cons_succ, Act.put, List.setIfInBounds_toArray, List.set_cons_zero, List.set_cons_succ]
          refine wpAnyH_take (i := 3) (v := .pointer (some ⟨b, off + j * 2, none⟩)) rfl (by kernel_rfl) (by kernel_rfl) (by kernel_rfl) (fun _ _ _ h => h) (Or.inl ⟨by first | rfl | go_simp, by intro w9 hSw; (try dsimp only at hSw); go_simp⟩) (by assumption) ?_
          simp only [List.getElem_toArray, List.getElem_cons_zero, List.getElem_cons_succ, Act.put, List.setIfInBounds_toArray, List.set_cons_zero, List.set_cons_succ]
          refine wpAnyH_take (i := 4) (v := .agg #[.int .i64 y.k, .slice y.A y.v.length y.c]) rfl (by kernel_rfl) (by kernel_rfl) (by kernel_rfl) (fun _ _ _ h => h) (Or.inl ⟨by first | rfl | go_simp, by intro w9 hSw; (try dsimp only at hSw); go_simp⟩) (by assumption) ?_
          simp only [List.getElem_toArray, List.getElem_cons_zero, List.getElem_cons_succ, Act.put, List.setIfInBounds_toArray, List.set_cons_zero, List.set_cons_succ]
          refine wpAnyH_ready (rs := [0, 5]) (by kernel_rfl) (by simp) ?_
          refine AllReadyH.cons rfl (fun K hK => ?_) (AllReadyH.cons rfl (fun K hK => ?_) (AllReadyH.nil))
          · skip
            refine step_load_row rfl 43 (.tmp 7) rfl h rfl 43 #[.int .i64 tsn, .int .i64 tne, V, .bool top, .bool tem, .int .i64 (tack : Int), .int .i64 (ttak : Int)] (0, 0) _ K7 Try.underlying43 rfl (by kernel_rfl) ?_
            refine hK.out _ _ TT (fun hHeld => ?_)
            clear hK K
            try simp only [List.getElem_toArray, List.getElem_cons_zero, List.getElem_cons_succ, Act.put, List.setIfInBounds_toArray, List.set_cons_zero, List.set_cons_succ]
            refine wpAnyH_ready (rs := [5]) (by kernel_rfl) (by simp) ?_
            refine AllReadyH.cons rfl (fun K hK => ?_) (AllReadyH.nil)
            go_simp
            refine (HL.out X0 BX).mono ?_
            rintro e X1 ⟨A5, c5, rfl, HY, b9⟩
            have b8 := b9
            replace b9 := b9.mono (show h + 2 ≤ _ from K8.lt)
            replace K7 := K7.below b9 (by omega)
            replace K8 := K8.below b9 (by omega)
            replace BX := BX.trans (b9.mono (by omega))
            replace TT := And.intro ((b9.cell (p := ⟨b, off + j * 2 , none⟩) (by show b < _; omega)).trans TT.1) (((b9.cell (p := ⟨b, off + j * 2 + 1, none⟩) (by show b < _; omega)).trans TT.2))
            replace HQQ := HQQ.below b8
            replace HZ := HZ.below b8
            clear b9
            refine hK.out _ _ TT (fun hHeld => ?_)
            clear hK K
            try simp only [List.getElem_toArray, List.getElem_cons_zero, List.getElem_cons_succ, Act.put, List.setIfInBounds_toArray, List.set_cons_zero, List.set_cons_succ]
            refine wpAnyH_ready (rs := [6]) (by kernel_rfl) (by simp) ?_
            refine AllReadyH.cons rfl (fun K hK => ?_) (AllReadyH.nil)
            go_simp
            refine (HQ.out X1 A5 c5 HQQ HY).mono ?_
            rintro e X2 ⟨V1, l1, rfl, hq', hl', b9⟩
            have b8 := b9
            replace b9 := b9.mono (show h + 2 ≤ _ from K8.lt)
            have oV1 : V1.oneCell' = true := qq_one hq'
            clear HY HQQ
            have HQQ := hq'
            clear hq'
            replace K7 := K7.below b9 (by omega)
            replace K8 := K8.below b9 (by omega)
            replace BX := BX.trans (b9.mono (by omega))
            replace TT := And.intro ((b9.cell (p := ⟨b, off + j * 2 , none⟩) (by show b < _; omega)).trans TT.1) (((b9.cell (p := ⟨b, off + j * 2 + 1, none⟩) (by show b < _; omega)).trans TT.2))
            replace HZ := HZ.below b8
            clear b9
            refine hK.out _ _ TT (fun hHeld => ?_)
            clear hK K
            try simp only [List.getElem_toArray, List.getElem_cons_zero, List.getElem_cons_succ, Act.put, List.setIfInBounds_toArray, List.set_cons_zero, List.set_cons_succ]
            refine wpAnyH_take (i := 7) (v := .tuple #[.agg #[.int .i64 rsn, .int .i64 rne, V1, .bool rop, .bool rem, .int .i64 (rack : Int), .int .i64 (rtak : Int)], .int .i64 E]) rfl (by kernel_rfl) (by kernel_rfl) (by kernel_rfl) (fun _ _ _ h => h) (Or.inl ⟨by first | rfl | go_simp, by intro w9 hSw; (try dsimp only at hSw); go_simp⟩) (by assumption) ?_
            simp only [List.getElem_toArray, List.getElem_cons_zero, List.getElem_cons_succ, Act.put, List.setIfInBounds_toArray, List.set_cons_zero, List.set_cons_succ]
            refine wpAnyH_take (i := 8) (v := .agg #[.int .i64 rsn, .int .i64 rne, V1, .bool rop, .bool rem, .int .i64 (rack : Int), .int .i64 (rtak : Int)]) rfl (by kernel_rfl) (by kernel_rfl) (by kernel_rfl) (fun _ _ _ h => h) (Or.inl ⟨by first | rfl | go_simp, by intro w9 hSw; (try dsimp only at hSw); go_simp⟩) (by assumption) ?_
            simp only [List.getElem_toArray, List.getElem_cons_zero, List.getElem_cons_succ, Act.put, List.setIfInBounds_toArray, List.set_cons_zero, List.set_cons_succ]
            refine wpAnyH_take (i := 9) (v := .int .i64 E) rfl (by kernel_rfl) (by kernel_rfl) (by kernel_rfl) (fun _ _ _ h => h) (Or.inl ⟨by first | rfl | go_simp, by intro w9 hSw; (try dsimp only at hSw); go_simp⟩) (by assumption) ?_
            simp only [List.getElem_toArray, List.getElem_cons_zero, List.getElem_cons_succ, Act.put, List.setIfInBounds_toArray, List.set_cons_zero, List.set_cons_succ]
            refine wpAnyH_ready (rs := [10]) (by kernel_rfl) (by simp) ?_
            refine AllReadyH.cons rfl (fun K hK => ?_) (AllReadyH.nil)
            have H9 : (#[.int .i64 rsn, .int .i64 rne, V1, .bool rop, .bool rem, .int .i64 (rack : Int), .int .i64 (rtak : Int)] : Array Value).all (·.oneCell') = true := by rw [← Array.all_toList]; simp only [List.all_cons, List.all_nil, oV1, Bool.and_true, Bool.and_self]; rfl
            refine Av.step_store_row rfl 43 (.tmp 7) (.tmp 59) rfl (h) #[.int .i64 rsn, .int .i64 rne, V1, .bool rop, .bool rem, .int .i64 (rack : Int), .int .i64 (rtak : Int)] rfl rfl 43 _ K7 (by kernel_rfl) rfl H9 ?_
            replace TT := And.intro ((cell_setRow_other X2 (h) #[.int .i64 rsn, .int .i64 rne, V1, .bool rop, .bool rem, .int .i64 (rack : Int), .int .i64 (rtak : Int)] ⟨b, off + j * 2 , none⟩ (show b ≠ h by omega)).trans TT.1) (((cell_setRow_other X2 (h) #[.int .i64 rsn, .int .i64 rne, V1, .bool rop, .bool rem, .int .i64 (rack : Int), .int .i64 (rtak : Int)] ⟨b, off + j * 2 + 1, none⟩ (show b ≠ h by omega)).trans TT.2))
            replace HQQ := HQQ.step (stp_row K7 #[.int .i64 rsn, .int .i64 rne, V1, .bool rop, .bool rem, .int .i64 (rack : Int), .int .i64 (rtak : Int)]) (by decide) (by decide) (Nat.zero_le _)
            replace HZ := HZ.step (stp_row K7 #[.int .i64 rsn, .int .i64 rne, V1, .bool rop, .bool rem, .int .i64 (rack : Int), .int .i64 (rtak : Int)]) (by decide) (Nat.zero_le _)
            replace K7 : Blk (X2.setRow (h) #[.int .i64 rsn, .int .i64 rne, V1, .bool rop, .bool rem, .int .i64 (rack : Int), .int .i64 (rtak : Int)]) (h) 43 #[.int .i64 rsn, .int .i64 rne, V1, .bool rop, .bool rem, .int .i64 (rack : Int), .int .i64 (rtak : Int)] := Av.bset_row K7
            replace K8 : Blk (X2.setRow (h) #[.int .i64 rsn, .int .i64 rne, V1, .bool rop, .bool rem, .int .i64 (rack : Int), .int .i64 (rtak : Int)]) (h + 1) 26 #[.int .i64 psn, .int .i64 pne, .int .i64 pmd, .int .i64 pk, .slice PA pn pc] := Av.bother_row K8 (by omega)
            replace BX : Below w.heap.size w (X2.setRow (h) #[.int .i64 rsn, .int .i64 rne, V1, .bool rop, .bool rem, .int .i64 (rack : Int), .int .i64 (rtak : Int)]) := below_setRow BX (by omega) _
            clear H9
            generalize X2.setRow (h) #[.int .i64 rsn, .int .i64 rne, V1, .bool rop, .bool rem, .int .i64 (rack : Int), .int .i64 (rtak : Int)] = X3 at *
            refine hK.out _ _ TT (fun hHeld => ?_)
            clear hK K
            try simp only [List.getElem_toArray, List.getElem_cons_zero, List.getElem_cons_succ, Act.put, List.setIfInBounds_toArray, List.set_cons_zero, List.set_cons_succ]
            refine wpAnyH_done (by kernel_rfl) ?_ _
            clear hHeld HL HQ
            go_wp2_with fail
            go_roundw
            case rel => exact ⟨j + 1, rsn, rne, rq, rop, rem, rack, rtak, V1, l1, by omega, by go_num, HLa'.out, HLn.out _ hl'.out, hl'.out, HQQ, HZ, K7, K8, BX⟩
            case measure => simp [intOf]; omega
          · skip
            go_simp
            refine (HL.out X0 BX).mono ?_
            rintro e X4 ⟨A5, c5, rfl, HY, b9⟩
            have b8 := b9
            replace b9 := b9.mono (show h + 2 ≤ _ from K8.lt)
            replace K7 := K7.below b9 (by omega)
            replace K8 := K8.below b9 (by omega)
            replace BX := BX.trans (b9.mono (by omega))
            replace TT := And.intro ((b9.cell (p := ⟨b, off + j * 2 , none⟩) (by show b < _; omega)).trans TT.1) (((b9.cell (p := ⟨b, off + j * 2 + 1, none⟩) (by show b < _; omega)).trans TT.2))
            replace HQQ := HQQ.below b8
            replace HZ := HZ.below b8
            clear b9
            refine hK.out _ _ TT (fun hHeld => ?_)
            clear hK K
            try simp only [List.getElem_toArray, List.getElem_cons_zero, List.getElem_cons_succ, Act.put, List.setIfInBounds_toArray, List.set_cons_zero, List.set_cons_succ]
            refine wpAnyH_ready (rs := [0]) (by kernel_rfl) (by simp) ?_
            refine AllReadyH.cons rfl (fun K hK => ?_) (AllReadyH.nil)
            refine step_load_row rfl 43 (.tmp 7) rfl h rfl 43 #[.int .i64 tsn, .int .i64 tne, V, .bool top, .bool tem, .int .i64 (tack : Int), .int .i64 (ttak : Int)] (0, 0) _ K7 Try.underlying43 rfl (by kernel_rfl) ?_
            refine hK.out _ _ TT (fun hHeld => ?_)
            clear hK K
            try simp only [List.getElem_toArray, List.getElem_cons_zero, List.getElem_cons_succ, Act.put, List.setIfInBounds_toArray, List.set_cons_zero, List.set_cons_succ]
            refine wpAnyH_ready (rs := [6]) (by kernel_rfl) (by simp) ?_
            refine AllReadyH.cons rfl (fun K hK => ?_) (AllReadyH.nil)
            go_simp
            refine (HQ.out X4 A5 c5 HQQ HY).mono ?_
            rintro e X5 ⟨V1, l1, rfl, hq', hl', b9⟩
            have b8 := b9
            replace b9 := b9.mono (show h + 2 ≤ _ from K8.lt)
            have oV1 : V1.oneCell' = true := qq_one hq'
            clear HY HQQ
            have HQQ := hq'
            clear hq'
            replace K7 := K7.below b9 (by omega)
            replace K8 := K8.below b9 (by omega)
            replace BX := BX.trans (b9.mono (by omega))
            replace TT := And.intro ((b9.cell (p := ⟨b, off + j * 2 , none⟩) (by show b < _; omega)).trans TT.1) (((b9.cell (p := ⟨b, off + j * 2 + 1, none⟩) (by show b < _; omega)).trans TT.2))
            replace HZ := HZ.below b8
            clear b9
            refine hK.out _ _ TT (fun hHeld => ?_)
            clear hK K
            try simp only [List.getElem_toArray, List.getElem_cons_zero, List.getElem_cons_succ, Act.put, List.setIfInBounds_toArray, List.set_cons_zero, List.set_cons_succ]
            refine wpAnyH_take (i := 7) (v := .tuple #[.agg #[.int .i64 rsn, .int .i64 rne, V1, .bool rop, .bool rem, .int .i64 (rack : Int), .int .i64 (rtak : Int)], .int .i64 E]) rfl (by kernel_rfl) (by kernel_rfl) (by kernel_rfl) (fun _ _ _ h => h) (Or.inl ⟨by first | rfl | go_simp, by intro w9 hSw; (try dsimp only at hSw); go_simp⟩) (by assumption) ?_
            simp only [List.getElem_toArray, List.getElem_cons_zero, List.getElem_cons_succ, Act.put, List.setIfInBounds_toArray, List.set_cons_zero, List.set_cons_succ]
            refine wpAnyH_take (i := 8) (v := .agg #[.int .i64 rsn, .int .i64 rne, V1, .bool rop, .bool rem, .int .i64 (rack : Int), .int .i64 (rtak : Int)]) rfl (by kernel_rfl) (by kernel_rfl) (by kernel_rfl) (fun _ _ _ h => h) (Or.inl ⟨by first | rfl | go_simp, by intro w9 hSw; (try dsimp only at hSw); go_simp⟩) (by assumption) ?_
            simp only [List.getElem_toArray, List.getElem_cons_zero, List.getElem_cons_succ, Act.put, List.setIfInBounds_toArray, List.set_cons_zero, List.set_cons_succ]
            refine wpAnyH_take (i := 9) (v := .int .i64 E) rfl (by kernel_rfl) (by kernel_rfl) (by kernel_rfl) (fun _ _ _ h => h) (Or.inl ⟨by first | rfl | go_simp, by intro w9 hSw; (try dsimp only at hSw); go_simp⟩) (by assumption) ?_
            simp only [List.getElem_toArray, List.getElem_cons_zero, List.getElem_cons_succ, Act.put, List.setIfInBounds_toArray, List.set_cons_zero, List.set_cons_succ]
            refine wpAnyH_ready (rs := [10]) (by kernel_rfl) (by simp) ?_
            refine AllReadyH.cons rfl (fun K hK => ?_) (AllReadyH.nil)
            have H9 : (#[.int .i64 rsn, .int .i64 rne, V1, .bool rop, .bool rem, .int .i64 (rack : Int), .int .i64 (rtak : Int)] : Array Value).all (·.oneCell') = true := by rw [← Array.all_toList]; simp only [List.all_cons, List.all_nil, oV1, Bool.and_true, Bool.and_self]; rfl
            refine Av.step_store_row rfl 43 (.tmp 7) (.tmp 59) rfl (h) #[.int .i64 rsn, .int .i64 rne, V1, .bool rop, .bool rem, .int .i64 (rack : Int), .int .i64 (rtak : Int)] rfl rfl 43 _ K7 (by kernel_rfl) rfl H9 ?_
            replace TT := And.intro ((cell_setRow_other X5 (h) #[.int .i64 rsn, .int .i64 rne, V1, .bool rop, .bool rem, .int .i64 (rack : Int), .int .i64 (rtak : Int)] ⟨b, off + j * 2 , none⟩ (show b ≠ h by omega)).trans TT.1) (((cell_setRow_other X5 (h) #[.int .i64 rsn, .int .i64 rne, V1, .bool rop, .bool rem, .int .i64 (rack : Int), .int .i64 (rtak : Int)] ⟨b, off + j * 2 + 1, none⟩ (show b ≠ h by omega)).trans TT.2))
            replace HQQ := HQQ.step (stp_row K7 #[.int .i64 rsn, .int .i64 rne, V1, .bool rop, .bool rem, .int .i64 (rack : Int), .int .i64 (rtak : Int)]) (by decide) (by decide) (Nat.zero_le _)
            replace HZ := HZ.step (stp_row K7 #[.int .i64 rsn, .int .i64 rne, V1, .bool rop, .bool rem, .int .i64 (rack : Int), .int .i64 (rtak : Int)]) (by decide) (Nat.zero_le _)
            replace K7 : Blk (X5.setRow (h) #[.int .i64 rsn, .int .i64 rne, V1, .bool rop, .bool rem, .int .i64 (rack : Int), .int .i64 (rtak : Int)]) (h) 43 #[.int .i64 rsn, .int .i64 rne, V1, .bool rop, .bool rem, .int .i64 (rack : Int), .int .i64 (rtak : Int)] := Av.bset_row K7
            replace K8 : Blk (X5.setRow (h) #[.int .i64 rsn, .int .i64 rne, V1, .bool rop, .bool rem, .int .i64 (rack : Int), .int .i64 (rtak : Int)]) (h + 1) 26 #[.int .i64 psn, .int .i64 pne, .int .i64 pmd, .int .i64 pk, .slice PA pn pc] := Av.bother_row K8 (by omega)
            replace BX : Below w.heap.size w (X5.setRow (h) #[.int .i64 rsn, .int .i64 rne, V1, .bool rop, .bool rem, .int .i64 (rack : Int), .int .i64 (rtak : Int)]) := below_setRow BX (by omega) _
            clear H9
            generalize X5.setRow (h) #[.int .i64 rsn, .int .i64 rne, V1, .bool rop, .bool rem, .int .i64 (rack : Int), .int .i64 (rtak : Int)] = X6 at *
            refine hK.out _ _ TT (fun hHeld => ?_)
            clear hK K
            try simp only [List.getElem_toArray, List.getElem_cons_zero, List.getElem_cons_succ, Act.put, List.setIfInBounds_toArray, List.set_cons_zero, List.set_cons_succ]
            refine wpAnyH_done (by kernel_rfl) ?_ _
            clear hHeld HL HQ
            go_wp2_with fail
            go_roundw
            case rel => exact ⟨j + 1, rsn, rne, rq, rop, rem, rack, rtak, V1, l1, by omega, by go_num, HLa'.out, HLn.out _ hl'.out, hl'.out, HQQ, HZ, K7, K8, BX⟩
            case measure => simp [intOf]; omega
        · obtain rfl : j = n2 := by omega
          have g2 : ¬ ((j : Int) < (j : Int)) := by omega
          have hlat := later_same HLa Hop.out HN.out
          rw [HP.out] at hlat
          obtain ⟨f, hf⟩ : ∃ f, openR ⟨tsn, tne, tq, top, tem, tack, ttak⟩ = f := ⟨_, rfl⟩
          obtain ⟨q, hq⟩ : ∃ q, pduR f = q := ⟨_, rfl⟩
          obtain ⟨fsn, fne, fq, fop, fem, fack, ftak⟩ := f
          rw [hf, hq] at hlat
          obtain ⟨qsn, qne, qmd, qk, qv⟩ := q
          obtain ⟨e1, e2, e3, e4⟩ := hlat
          simp only at e1 e2 e3 e4
          injection e3 with e3 e5
          replace e1 := e1.symm
          replace e2 := e2.symm
          replace e3 := e3.symm
          replace e5 := e5.symm
          subst e1; subst e2; subst e3; subst e5
          have HS : Hid (Calls Try.prog 30 #[.agg #[.int .i64 tsn, .int .i64 tne, V, .bool top, .bool tem, .int .i64 (tack : Int), .int .i64 (ttak : Int)]] wr fun e w' => ∃ V l QA qc, e = .returned (.tuple #[.agg #[.int .i64 fsn, .int .i64 fne, V, .bool fop, .bool fem, .int .i64 (fack : Int), .int .i64 (ftak : Int)], .agg #[.int .i64 psn, .int .i64 pne, .int .i64 qmd, .int .i64 pk, .slice QA pn qc]]) ∧ QQ w' 0 0 V l ∧ Hid (l.map Pm.p = tq) ∧ V.oneCell' = true ∧ PP w' 0 ⟨pk, QA, qc, pv⟩ ∧ Below wr.heap.size wr w') := Lib.hid (send_to hf hq hpn V l wr (by omega) HQQ.qi hlm)
          clear hf hq HLa hlm HQQ gd2 ta2 oV
          go_upto_region 16 with (first
            | (refine wpList_load_row rfl 43 (.tmp 7) rfl h rfl 43 _ (0, 0) _ K7 Try.underlying43 rfl (by kernel_rfl) ?_)
            | (go_at_call 30; refine HS.out.mono ?_; rintro e W7 ⟨V, l, QA, qc, rfl, HQQ, hlq, oV, HY, b9⟩; replace HZ := HZ.below b9; replace K8 := K8.below b9 K8.lt; replace BX := Base.thenB BX b9; clear b9; have K9 : Blk ((W7.alloc (.cells #[.int .i64 0, .int .i64 0, .slice none 0 0, .bool false, .bool false, .int .i64 0, .int .i64 0] 43)).alloc (.cells #[.int .i64 0, .int .i64 0, .int .i64 0, .int .i64 0, .slice none 0 0] 26)) W7.heap.size 43 #[.int .i64 0, .int .i64 0, .slice none 0 0, .bool false, .bool false, .int .i64 0, .int .i64 0] := (Blk.fresh W7 43 #[.int .i64 0, .int .i64 0, .slice none 0 0, .bool false, .bool false, .int .i64 0, .int .i64 0]).alloc _; have K10 : Blk ((W7.alloc (.cells #[.int .i64 0, .int .i64 0, .slice none 0 0, .bool false, .bool false, .int .i64 0, .int .i64 0] 43)).alloc (.cells #[.int .i64 0, .int .i64 0, .int .i64 0, .int .i64 0, .slice none 0 0] 26)) (W7.heap.size + 1) 26 #[.int .i64 0, .int .i64 0, .int .i64 0, .int .i64 0, .slice none 0 0] := Av.Blk.next; have H1 : (#[.int .i64 fsn, .int .i64 fne, V, .bool fop, .bool fem, .int .i64 (fack : Int), .int .i64 (ftak : Int)] : Array Value).all (·.oneCell') = true := (by rw [← Array.all_toList]; simp only [List.all_cons, List.all_nil, oV, Bool.and_true, Bool.and_self]; rfl); have H2 : (#[.int .i64 psn, .int .i64 pne, .int .i64 qmd, .int .i64 pk, .slice QA pn qc] : Array Value).all (·.oneCell') = true := (by rw [← Array.all_toList]; rfl))
            | (refine wpList_store_row rfl 43 (.tmp 10) (.tmp 64) rfl W7.heap.size #[.int .i64 fsn, .int .i64 fne, V, .bool fop, .bool fem, .int .i64 (fack : Int), .int .i64 (ftak : Int)] rfl rfl 43 _ K9 (by kernel_rfl) rfl H1 ?_)
            | (refine wpList_store_row rfl 26 (.tmp 11) (.tmp 65) rfl (W7.heap.size + 1) #[.int .i64 psn, .int .i64 pne, .int .i64 qmd, .int .i64 pk, .slice QA pn qc] rfl rfl 26 _ (Av.bother_row K10 (by omega)) (by kernel_rfl) rfl H2 ?_))
          have b9 : Below W7.heap.size W7 ((W7.alloc (.cells #[.int .i64 0, .int .i64 0, .slice none 0 0, .bool false, .bool false, .int .i64 0, .int .i64 0] 43)).alloc (.cells #[.int .i64 0, .int .i64 0, .int .i64 0, .int .i64 0, .slice none 0 0] 26)) := ((Below.refl _ _).alloc (Nat.le_refl _) _).alloc (by simp) _
          have hk8 := K8.lt
          replace HY := HY.below b9
          replace HZ := HZ.below b9
          replace K8 := K8.below b9 K8.lt
          have hs7 := BX.size
          replace BX := Base.thenB BX b9
          clear b9
          obtain ⟨h2, hh⟩ : ∃ h, W7.heap.size = h := ⟨_, rfl⟩
          rw [hh] at K9 K10 hk8 hs7 ⊢
          clear hh
          generalize (W7.alloc (.cells #[.int .i64 0, .int .i64 0, .slice none 0 0, .bool false, .bool false, .int .i64 0, .int .i64 0] 43)).alloc (.cells #[.int .i64 0, .int .i64 0, .int .i64 0, .int .i64 0, .slice none 0 0] 26) = Y0 at *
          have K10' : Blk (Y0.setRow h2 #[.int .i64 fsn, .int .i64 fne, V, .bool fop, .bool fem, .int .i64 (fack : Int), .int .i64 (ftak : Int)]) (h2 + 1) 26 #[.int .i64 0, .int .i64 0, .int .i64 0, .int .i64 0, .slice none 0 0] := Av.bother_row K10 (by omega)
          replace HY := (HY.step (stp_row K9 #[.int .i64 fsn, .int .i64 fne, V, .bool fop, .bool fem, .int .i64 (fack : Int), .int .i64 (ftak : Int)]) (by decide) (Nat.zero_le _)).step (stp_row K10' #[.int .i64 psn, .int .i64 pne, .int .i64 qmd, .int .i64 pk, .slice QA pn qc]) (by decide) (Nat.zero_le _)
          replace HZ := (HZ.step (stp_row K9 #[.int .i64 fsn, .int .i64 fne, V, .bool fop, .bool fem, .int .i64 (fack : Int), .int .i64 (ftak : Int)]) (by decide) (Nat.zero_le _)).step (stp_row K10' #[.int .i64 psn, .int .i64 pne, .int .i64 qmd, .int .i64 pk, .slice QA pn qc]) (by decide) (Nat.zero_le _)
          replace K8 : Blk ((Y0.setRow h2 #[.int .i64 fsn, .int .i64 fne, V, .bool fop, .bool fem, .int .i64 (fack : Int), .int .i64 (ftak : Int)]).setRow (h2 + 1) #[.int .i64 psn, .int .i64 pne, .int .i64 qmd, .int .i64 pk, .slice QA pn qc]) (h + 1) 26 #[.int .i64 psn, .int .i64 pne, .int .i64 pmd, .int .i64 pk, .slice PA pn pc] := Av.bother_row (Av.bother_row K8 (by omega)) (by omega)
          replace K10 : Blk ((Y0.setRow h2 #[.int .i64 fsn, .int .i64 fne, V, .bool fop, .bool fem, .int .i64 (fack : Int), .int .i64 (ftak : Int)]).setRow (h2 + 1) #[.int .i64 psn, .int .i64 pne, .int .i64 qmd, .int .i64 pk, .slice QA pn qc]) (h2 + 1) 26 #[.int .i64 psn, .int .i64 pne, .int .i64 qmd, .int .i64 pk, .slice QA pn qc] := Av.bset_row K10'
          replace BX : Below w.heap.size w ((Y0.setRow h2 #[.int .i64 fsn, .int .i64 fne, V, .bool fop, .bool fem, .int .i64 (fack : Int), .int .i64 (ftak : Int)]).setRow (h2 + 1) #[.int .i64 psn, .int .i64 pne, .int .i64 qmd, .int .i64 pk, .slice QA pn qc]) := below_setRow (below_setRow BX (by omega) _) (by omega) _
          clear K10' K9 H1 H2 HS HQQ hlq oV K7
          generalize (Y0.setRow h2 #[.int .i64 fsn, .int .i64 fne, V, .bool fop, .bool fem, .int .i64 (fack : Int), .int .i64 (ftak : Int)]).setRow (h2 + 1) #[.int .i64 psn, .int .i64 pne, .int .i64 qmd, .int .i64 pk, .slice QA pn qc] = Y at *
          have HSP : Hid (Calls Try.prog 35 #[.agg #[.int .i64 pk, .slice PA pn pc], .agg #[.int .i64 pk, .slice QA pn qc]] Y fun e w' => e = .returned (.bool true) ∧ Below Y.heap.size Y w') := Lib.hid (samepk24_yes pk PA QA pn pc qc pv Y hpn HZ.2.2.1 HZ.gp.2.2.2 HY.gp.2.2.2)
          clear HZ HY
          have d0 := K8.cell 0
          have d1 := K8.cell 1
          have d2 := K8.cell 2
          have d3 := K8.cell 3
          have d4 := K8.cell 4
          have f0 := K10.cell 0
          have f1 := K10.cell 1
          have f2 := K10.cell 2
          have f3 := K10.cell 3
          have f4 := K10.cell 4
          have gm : (pmd : Int) ≤ qmd := e4
          have hkb : g + 1 < 0 ∨ True := Or.inr trivial
          go_wp2_with (go_at_call 35; refine HSP.out.mono ?_; rintro e X9 ⟨rfl, b9⟩; have d2 := (K8.below b9 K8.lt).cell 2; have f2 := (K10.below b9 K10.lt).cell 2; replace BX := Base.thenB BX b9; clear b9)
          go_ret
          exact ⟨by simp [gm], BX⟩
end Go.Proofs.Ytbnfjielnamepaa.Arq
