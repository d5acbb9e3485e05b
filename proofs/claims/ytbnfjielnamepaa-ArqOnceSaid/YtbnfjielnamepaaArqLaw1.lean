/- Acknowledgement: packets arrive once and in order: contracts over the program. -/
import Derived.Test.YtbnfjielnamepaaArqOrd2
import Derived.Test.YtbnfjielnamepaaArqLives
import Derived.Test.YtbnfjielnamepaaDpArgs
set_option linter.unusedVariables false
set_option linter.unusedSimpArgs false
namespace Go.Proofs.Ytbnfjielnamepaa.Arq
open Go.RowKit Mem Oct Rw Av Dp
open Base (thenB)

theorem step_load_row {P : Program} {ops : Array Oper} {o : Oper} {a : Act} {w : World} {K : Act → World → Prop} {Q : Exit → Act → World → Prop} {E : Prop} (hgd : o.guard = none) (ty : TypeId) (x : Operand) (ho : o.op = .load ty x)
    (g : Nat) (hx : a.eval x = .pointer (some ⟨g, 0, none⟩)) (t : TypeId) (cs : Array Value) (fr : Nat × Nat) (d : TypeDesc) (hg : w.heap[g]? = some (.cells cs t fr))
    (hu : P.underlying ty = some d) (hd : (match d with | .struct _ | .array _ _ => true | _ => false) = true) (hi : (P.info? ty).map (·.size) = some cs.size)
    (h : K (a.put o.dst (.agg cs)) w) : if Region.wanted o (yielded ops a.tmps) = true then Oper.wp P o a w K Q else E := by
  have hw : Region.wanted o (yielded ops a.tmps) = true := by simp [Region.wanted, hgd]
  rw [if_pos hw]
  exact wp_load_row ty x ho g hx t cs fr d hg hu hd hi h
theorem wpList_load_row_w {P : Program} {ops : Array Oper} {rest : List Oper} {o : Oper} {a : Act} {w : World} {Q : Exit → Act → World → Prop} (hw : Region.wanted o (yielded ops a.tmps) = true) (ty : TypeId) (x : Operand) (ho : o.op = .load ty x)
    (g : Nat) (hx : a.eval x = .pointer (some ⟨g, 0, none⟩)) (t : TypeId) (cs : Array Value) (fr : Nat × Nat) (d : TypeDesc) (hg : w.heap[g]? = some (.cells cs t fr))
    (hu : P.underlying ty = some d) (hd : (match d with | .struct _ | .array _ _ => true | _ => false) = true) (hi : (P.info? ty).map (·.size) = some cs.size)
    (h : wpList P ops Q rest (a.put o.dst (.agg cs)) w) : wpList P ops Q (o :: rest) a w :=
  BigFrame.wpList_want hw fun K hK => wp_load_row ty x ho g hx t cs fr d hg hu hd hi (hK _ _ h)
set_option maxRecDepth 100000 in
set_option maxHeartbeats 40000000 in
theorem once_any (A : Option Addr) (c : Nat) (xs : List Sm) (w : World) (ta : ListAt encS w w.heap.size A xs) (gd : ∀ x ∈ xs, B64 x.d ∧ GoodK w w.heap.size x.x) (hc : xs.length ≤ c) (hb : c * 48 ≤ 140737488351232) :
    Calls Try.prog 10 #[.slice A xs.length c] w fun e w' => e = .returned (.bool true) ∧ Below w.heap.size w w' := by
  have HL := Lib.hid lives_any
  obtain ⟨n, hn⟩ : ∃ n, xs.length = n := ⟨_, rfl⟩
  rw [hn] at hc ⊢
  by_cases cl : (100 : Int) < (n : Int)
  · go_enter Try.func10, Try.ntmps10
    go_wp2_with (go_at_call 24; refine (HL.out _).mono ?_; rintro e W1 ⟨rfl, BX⟩)
    go_ret
    exact ⟨rfl, BX⟩
  · have hn100 : n ≤ 100 := by omega
    go_enter Try.func10, Try.ntmps10
    go_upto_region 5 with (go_at_call 24; refine (HL.out _).mono ?_; rintro e W1 ⟨rfl, BX⟩)
    go_upto_region 6 with (go_at_call 25; refine (new_any _).mono ?_; rintro e W2 ⟨rfl, b9⟩; replace BX := Base.thenB BX b9; clear b9)
    have hs2 := BX.size
    have KB : Blk (W2.alloc (.cells #[.int .i64 0, .int .i64 0, .slice none 0 0, .bool false, .bool false, .int .i64 0, .int .i64 0, .int .i64 0, .int .i64 0, .slice none 0 0, .bool false, .bool false, .int .i64 0, .int .i64 0, .slice none 0 0, .slice none 0 0, .slice none 0 0, .slice none 0 0] 62)) W2.heap.size 62 #[.int .i64 0, .int .i64 0, .slice none 0 0, .bool false, .bool false, .int .i64 0, .int .i64 0, .int .i64 0, .int .i64 0, .slice none 0 0, .bool false, .bool false, .int .i64 0, .int .i64 0, .slice none 0 0, .slice none 0 0, .slice none 0 0, .slice none 0 0] := Blk.fresh W2 62 #[.int .i64 0, .int .i64 0, .slice none 0 0, .bool false, .bool false, .int .i64 0, .int .i64 0, .int .i64 0, .int .i64 0, .slice none 0 0, .bool false, .bool false, .int .i64 0, .int .i64 0, .slice none 0 0, .slice none 0 0, .slice none 0 0, .slice none 0 0]
    replace BX := BX.alloc BX.size (.cells #[.int .i64 0, .int .i64 0, .slice none 0 0, .bool false, .bool false, .int .i64 0, .int .i64 0, .int .i64 0, .int .i64 0, .slice none 0 0, .bool false, .bool false, .int .i64 0, .int .i64 0, .slice none 0 0, .slice none 0 0, .slice none 0 0, .slice none 0 0] 62)
    obtain ⟨g, hg⟩ : ∃ g, W2.heap.size = g := ⟨_, rfl⟩
    rw [hg] at KB hs2 ⊢
    clear hg
    generalize W2.alloc (.cells #[.int .i64 0, .int .i64 0, .slice none 0 0, .bool false, .bool false, .int .i64 0, .int .i64 0, .int .i64 0, .int .i64 0, .slice none 0 0, .bool false, .bool false, .int .i64 0, .int .i64 0, .slice none 0 0, .slice none 0 0, .slice none 0 0, .slice none 0 0] 62) = W3 at *
    have HE : EnAt W3 (g + 1) en0 (.slice none 0 0) (.slice none 0 0) (.slice none 0 0) (.slice none 0 0) (.slice none 0 0) (.slice none 0 0) [] [] [] [] [] [] := ⟨All.nil _ _ _, rfl, rfl, rfl, rfl, rfl, rfl⟩
    go_wp2_with fail
    go_loopw [4] (fun s4 wr => ∃ (j : Nat) (x : En) (V0 V1 V2 V3 V4 V5 : Value) (l0 l1 l2 l3 l4 l5 : List Pm), j ≤ n ∧ s4 = .int .i64 j ∧ Inv x j ∧ EnAt wr (g + 1) x V0 V1 V2 V3 V4 V5 l0 l1 l2 l3 l4 l5 ∧ Blk wr g 62 #[.int .i64 x.a.sn, .int .i64 x.a.nesn, V0, .bool x.a.op, .bool x.a.em, .int .i64 (x.a.ack : Int), .int .i64 (x.a.tak : Int), .int .i64 x.b.sn, .int .i64 x.b.nesn, V1, .bool x.b.op, .bool x.b.em, .int .i64 (x.b.ack : Int), .int .i64 (x.b.tak : Int), V2, V3, V4, V5] ∧ Below w.heap.size w wr) (fun s4 _ => n - (intOf s4).toNat)
    case atStart => exact ⟨0, en0, .slice none 0 0, .slice none 0 0, .slice none 0 0, .slice none 0 0, .slice none 0 0, .slice none 0 0, [], [], [], [], [], [], Nat.zero_le _, rfl, inv_new 0, HE, KB, BX⟩
    case round =>
      obtain ⟨j, x, V0, V1, V2, V3, V4, V5, l0, l1, l2, l3, l4, l5, hj, rfl, HI, HE, KB, BX⟩ := hrel
      by_cases cj : j < n
      · obtain ⟨b, off, rfl, hbl, hcl⟩ := ListAt.open_ ta sizS (by decide) (by omega)
        obtain ⟨y, hy⟩ : ∃ y, xs[j]? = some y := ⟨_, List.getElem?_eq_getElem (by omega)⟩
        have gy := (gd y (List.mem_of_getElem? hy)).2
        have TT : wr.cell? ⟨b, off + j * 4, none⟩ = some (.int .i64 y.d) ∧ wr.cell? ⟨b, off + j * 4 + 1, none⟩ = some (.bool y.lost) ∧ wr.cell? ⟨b, off + j * 4 + 2, none⟩ = some (.int .i64 y.x.k) ∧ wr.cell? ⟨b, off + j * 4 + 3, none⟩ = some (.slice y.x.A y.x.v.length y.x.c) := ⟨(BX.cell (p := ⟨b, off + j * 4, none⟩) hbl).trans (hcl j y hy 0 _ rfl), (BX.cell (p := ⟨b, off + j * 4 + 1, none⟩) hbl).trans (hcl j y hy 1 _ rfl), (BX.cell (p := ⟨b, off + j * 4 + 2, none⟩) hbl).trans (hcl j y hy 2 _ rfl), (BX.cell (p := ⟨b, off + j * 4 + 3, none⟩) hbl).trans (hcl j y hy 3 _ rfl)⟩
        have HM1 : ∀ X, EnAt X (g + 1) x V0 V1 V2 V3 V4 V5 l0 l1 l2 l3 l4 l5 → Below w.heap.size w X → g + 1 ≤ X.heap.size → Calls Try.prog 39 #[.agg #[.int .i64 x.a.sn, .int .i64 x.a.nesn, V0, .bool x.a.op, .bool x.a.em, .int .i64 (x.a.ack : Int), .int .i64 (x.a.tak : Int), .int .i64 x.b.sn, .int .i64 x.b.nesn, V1, .bool x.b.op, .bool x.b.em, .int .i64 (x.b.ack : Int), .int .i64 (x.b.tak : Int), V2, V3, V4, V5], .agg #[.int .i64 y.d, .bool y.lost, .int .i64 y.x.k, .slice y.x.A y.x.v.length y.x.c]] X fun e W' => Moved X W' e (g + 1) (moveR x y.d y.lost y.x.p) := fun X he b9 hgx => by
          have gk := gy.below b9
          exact moved_any x j y.d y.lost y.x (g + 1) X V0 V1 V2 V3 V4 V5 l0 l1 l2 l3 l4 l5 hgx HI (by omega) he ⟨gk.2.1, Nat.le_trans gk.2.1 gk.2.2.1, gk.2.2.2.1, gk.2.2.2.2.more (by omega), hgx⟩
        have HI1 := inv_move HI y.d y.lost y.x.p
        obtain ⟨x', hx'⟩ : ∃ x', moveR x y.d y.lost y.x.p = x' := ⟨_, rfl⟩
        rw [hx'] at HM1 HI1
        have HM : Hid (∀ X, EnAt X (g + 1) x V0 V1 V2 V3 V4 V5 l0 l1 l2 l3 l4 l5 → Below w.heap.size w X → Blk X g 62 #[.int .i64 x.a.sn, .int .i64 x.a.nesn, V0, .bool x.a.op, .bool x.a.em, .int .i64 (x.a.ack : Int), .int .i64 (x.a.tak : Int), .int .i64 x.b.sn, .int .i64 x.b.nesn, V1, .bool x.b.op, .bool x.b.em, .int .i64 (x.b.ack : Int), .int .i64 (x.b.tak : Int), V2, V3, V4, V5] → Calls Try.prog 39 #[.agg #[.int .i64 x.a.sn, .int .i64 x.a.nesn, V0, .bool x.a.op, .bool x.a.em, .int .i64 (x.a.ack : Int), .int .i64 (x.a.tak : Int), .int .i64 x.b.sn, .int .i64 x.b.nesn, V1, .bool x.b.op, .bool x.b.em, .int .i64 (x.b.ack : Int), .int .i64 (x.b.tak : Int), V2, V3, V4, V5], .agg #[.int .i64 y.d, .bool y.lost, .int .i64 y.x.k, .slice y.x.A y.x.v.length y.x.c]] X fun e W' => ∃ U0 U1 U2 U3 U4 U5 k0 k1 k2 k3 k4 k5, e = .returned (.agg #[.int .i64 x'.a.sn, .int .i64 x'.a.nesn, U0, .bool x'.a.op, .bool x'.a.em, .int .i64 (x'.a.ack : Int), .int .i64 (x'.a.tak : Int), .int .i64 x'.b.sn, .int .i64 x'.b.nesn, U1, .bool x'.b.op, .bool x'.b.em, .int .i64 (x'.b.ack : Int), .int .i64 (x'.b.tak : Int), U2, U3, U4, U5]) ∧ EnAt W' (g + 1) x' U0 U1 U2 U3 U4 U5 k0 k1 k2 k3 k4 k5 ∧ Below (g + 1) X W') := Lib.hid fun X he b9 hk => HM1 X he b9 hk.lt
        have HI' := Lib.hid HI1
        have HO0 : Hid (∀ X U0 U1 U2 U3 U4 U5 k0 k1 k2 k3 k4 k5, EnAt X (g + 1) x' U0 U1 U2 U3 U4 U5 k0 k1 k2 k3 k4 k5 → Calls Try.prog 40 #[.agg #[.int .i64 x'.a.sn, .int .i64 x'.a.nesn, U0, .bool x'.a.op, .bool x'.a.em, .int .i64 (x'.a.ack : Int), .int .i64 (x'.a.tak : Int), .int .i64 x'.b.sn, .int .i64 x'.b.nesn, U1, .bool x'.b.op, .bool x'.b.em, .int .i64 (x'.b.ack : Int), .int .i64 (x'.b.tak : Int), U2, U3, U4, U5], .int .i64 0] X fun e w' => e = .returned (.bool true) ∧ Below X.heap.size X w') := Lib.hid fun X U0 U1 U2 U3 U4 U5 k0 k1 k2 k3 k4 k5 he => orderly0_any x' (j + 1) (g + 1) X U0 U1 U2 U3 U4 U5 k0 k1 k2 k3 k4 k5 HI1 (by omega) he
        have HO1 : Hid (∀ X U0 U1 U2 U3 U4 U5 k0 k1 k2 k3 k4 k5, EnAt X (g + 1) x' U0 U1 U2 U3 U4 U5 k0 k1 k2 k3 k4 k5 → Calls Try.prog 40 #[.agg #[.int .i64 x'.a.sn, .int .i64 x'.a.nesn, U0, .bool x'.a.op, .bool x'.a.em, .int .i64 (x'.a.ack : Int), .int .i64 (x'.a.tak : Int), .int .i64 x'.b.sn, .int .i64 x'.b.nesn, U1, .bool x'.b.op, .bool x'.b.em, .int .i64 (x'.b.ack : Int), .int .i64 (x'.b.tak : Int), U2, U3, U4, U5], .int .i64 1] X fun e w' => e = .returned (.bool true) ∧ Below X.heap.size X w') := Lib.hid fun X U0 U1 U2 U3 U4 U5 k0 k1 k2 k3 k4 k5 he => orderly1_any x' (j + 1) (g + 1) X U0 U1 U2 U3 U4 U5 k0 k1 k2 k3 k4 k5 HI1 (by omega) he
        have N8 : Hid (∀ (i : Nat) (z : Int), (#[.int .i64 x.a.sn, .int .i64 x.a.nesn, V0, .bool x.a.op, .bool x.a.em, .int .i64 (x.a.ack : Int), .int .i64 (x.a.tak : Int), .int .i64 x.b.sn, .int .i64 x.b.nesn, V1, .bool x.b.op, .bool x.b.em, .int .i64 (x.b.ack : Int), .int .i64 (x.b.tak : Int), V2, V3, V4, V5] : Array Value)[i]? ≠ some (Value.int .u8 z)) := Lib.hid HE.no8
        have g1 : (0 : Int) ≤ (j : Int) ∧ (j : Int) < (n : Int) := by omega
        have g2 : ¬ ((n : Int) ≤ (j : Int)) := by omega
        clear HM1 HI HI1 hx' gy hcl hy gd ta
        go_upto_region 9 with (fail)
        have KB' : Blk wr.drew (g) 62 #[.int .i64 x.a.sn, .int .i64 x.a.nesn, V0, .bool x.a.op, .bool x.a.em, .int .i64 (x.a.ack : Int), .int .i64 (x.a.tak : Int), .int .i64 x.b.sn, .int .i64 x.b.nesn, V1, .bool x.b.op, .bool x.b.em, .int .i64 (x.b.ack : Int), .int .i64 (x.b.tak : Int), V2, V3, V4, V5] := Mem.Blk.drew KB
        refine wp_region_held_drew (S := (fun w' => w'.cell? ⟨b, off + j * 4, none⟩ = some (.int .i64 y.d) ∧ w'.cell? ⟨b, off + j * 4 + 1, none⟩ = some (.bool y.lost) ∧ w'.cell? ⟨b, off + j * 4 + 2, none⟩ = some (.int .i64 y.x.k) ∧ w'.cell? ⟨b, off + j * 4 + 3, none⟩ = some (.slice y.x.A y.x.v.length y.x.c))) (by kernel_rfl) ?_ (fun hHeld => ?_)
        · exact TT
        replace KB := KB'
        clear KB'
        replace BX : Below w.heap.size w wr.drew := BX.drew
        replace TT := TT
        replace HE := (show EnAt wr.drew (g + 1) x V0 V1 V2 V3 V4 V5 l0 l1 l2 l3 l4 l5 from HE.below ((Below.refl wr.heap.size wr).drew))
        replace TT : wr.drew.cell? ⟨b, off + j * 4, none⟩ = some (.int .i64 y.d) ∧ wr.drew.cell? ⟨b, off + j * 4 + 1, none⟩ = some (.bool y.lost) ∧ wr.drew.cell? ⟨b, off + j * 4 + 2, none⟩ = some (.int .i64 y.x.k) ∧ wr.drew.cell? ⟨b, off + j * 4 + 3, none⟩ = some (.slice y.x.A y.x.v.length y.x.c) := TT
        generalize wr.drew = X0 at *
        refine wpAnyH_take (i := 1) (v := .slice (some ⟨b, off, none⟩) n c) rfl (by kernel_rfl) (by kernel_rfl) (by kernel_rfl) (fun _ _ _ h => h) (Or.inl ⟨by first | rfl | go_simp, by intro w9 hSw; (try dsimp only at hSw); go_simp⟩) (by assumption) ?_
        simp only [List.getElem_toArray, List.getElem_cons_zero, List.getElem_cons_succ, Act.put, List.setIfInBounds_toArray, List.set_cons_zero, List.set_cons_succ]
        refine wpAnyH_take (i := 2) (v := .int .i64 (j : Int)) rfl (by kernel_rfl) (by kernel_rfl) (by kernel_rfl) (fun _ _ _ h => h) (Or.inl ⟨by first | rfl | go_simp, by intro w9 hSw; (try dsimp only at hSw); go_simp⟩) (by assumption) ?_
        simp only [List.getElem_toArray, List.getElem_cons_zero, List.getElem_cons_succ, Act.put, List.setIfInBounds_toArray, List.set_cons_zero, List.set_cons_succ]
        refine wpAnyH_take (i := 3) (v := .pointer (some ⟨b, off + j * 4, none⟩)) rfl (by kernel_rfl) (by kernel_rfl) (by kernel_rfl) (fun _ _ _ h => h) (Or.inl ⟨by first | rfl | go_simp, by intro w9 hSw; (try dsimp only at hSw); go_simp⟩) (by assumption) ?_
        simp only [List.getElem_toArray, List.getElem_cons_zero, List.getElem_cons_succ, Act.put, List.setIfInBounds_toArray, List.set_cons_zero, List.set_cons_succ]
        refine wpAnyH_take (i := 4) (v := .agg #[.int .i64 y.d, .bool y.lost, .int .i64 y.x.k, .slice y.x.A y.x.v.length y.x.c]) rfl (by kernel_rfl) (by kernel_rfl) (by kernel_rfl) (fun _ _ _ h => h) (Or.inl ⟨by first | rfl | go_simp, by intro w9 hSw; (try dsimp only at hSw); go_simp⟩) (by assumption) ?_
        simp only [List.getElem_toArray, List.getElem_cons_zero, List.getElem_cons_succ, Act.put, List.setIfInBounds_toArray, List.set_cons_zero, List.set_cons_succ]
        refine wpAnyH_ready (rs := [0]) (by kernel_rfl) (by simp) ?_
        refine AllReadyH.cons rfl (fun K hK => ?_) (AllReadyH.nil)
        refine step_load_row rfl 62 (.tmp 3) rfl g rfl 62 #[.int .i64 x.a.sn, .int .i64 x.a.nesn, V0, .bool x.a.op, .bool x.a.em, .int .i64 (x.a.ack : Int), .int .i64 (x.a.tak : Int), .int .i64 x.b.sn, .int .i64 x.b.nesn, V1, .bool x.b.op, .bool x.b.em, .int .i64 (x.b.ack : Int), .int .i64 (x.b.tak : Int), V2, V3, V4, V5] (0, 0) _ KB Try.underlying62 rfl (by kernel_rfl) ?_
        refine hK.out _ _ TT (fun hHeld => ?_)
        clear hK K
        try simp only [List.getElem_toArray, List.getElem_cons_zero, List.getElem_cons_succ, Act.put, List.setIfInBounds_toArray, List.set_cons_zero, List.set_cons_succ]
        refine wpAnyH_ready (rs := [5]) (by kernel_rfl) (by simp) ?_
        refine AllReadyH.cons rfl (fun K hK => ?_) (AllReadyH.nil)
        go_simp
        refine (HM.out X0 HE BX KB).mono ?_
        rintro e X1 ⟨U0, U1, U2, U3, U4, U5, k0, k1, k2, k3, k4, k5, rfl, HE1, b9⟩
        have HE := HE1
        clear HE1
        have oU0 : U0.oneCell' = true := qq_one HE.all.q0
        have oU1 : U1.oneCell' = true := qq_one HE.all.q1
        have oU2 : U2.oneCell' = true := rr_one HE.all.r2
        have oU3 : U3.oneCell' = true := rr_one HE.all.r3
        have oU4 : U4.oneCell' = true := rr_one HE.all.r4
        have oU5 : U5.oneCell' = true := rr_one HE.all.r5
        replace KB := KB.below b9 (by omega)
        replace BX := BX.trans (b9.mono (by omega))
        replace TT := And.intro ((b9.cell (p := ⟨b, off + j * 4 , none⟩) (by show b < _; omega)).trans TT.1) (And.intro ((b9.cell (p := ⟨b, off + j * 4 + 1, none⟩) (by show b < _; omega)).trans TT.2.1) (And.intro ((b9.cell (p := ⟨b, off + j * 4 + 2, none⟩) (by show b < _; omega)).trans TT.2.2.1) ((b9.cell (p := ⟨b, off + j * 4 + 3, none⟩) (by show b < _; omega)).trans TT.2.2.2)))
        clear b9
        refine hK.out _ _ TT (fun hHeld => ?_)
        clear hK K
        try simp only [List.getElem_toArray, List.getElem_cons_zero, List.getElem_cons_succ, Act.put, List.setIfInBounds_toArray, List.set_cons_zero, List.set_cons_succ]
        refine wpAnyH_ready (rs := [6]) (by kernel_rfl) (by simp) ?_
        refine AllReadyH.cons rfl (fun K hK => ?_) (AllReadyH.nil)
        have H9 : (#[.int .i64 x'.a.sn, .int .i64 x'.a.nesn, U0, .bool x'.a.op, .bool x'.a.em, .int .i64 (x'.a.ack : Int), .int .i64 (x'.a.tak : Int), .int .i64 x'.b.sn, .int .i64 x'.b.nesn, U1, .bool x'.b.op, .bool x'.b.em, .int .i64 (x'.b.ack : Int), .int .i64 (x'.b.tak : Int), U2, U3, U4, U5] : Array Value).all (·.oneCell') = true := by rw [← Array.all_toList]; simp only [List.all_cons, List.all_nil, oU0, oU1, oU2, oU3, oU4, oU5, Bool.and_true, Bool.and_self]; rfl
        refine Av.step_store_row rfl 62 (.tmp 3) (.tmp 25) rfl (g) #[.int .i64 x'.a.sn, .int .i64 x'.a.nesn, U0, .bool x'.a.op, .bool x'.a.em, .int .i64 (x'.a.ack : Int), .int .i64 (x'.a.tak : Int), .int .i64 x'.b.sn, .int .i64 x'.b.nesn, U1, .bool x'.b.op, .bool x'.b.em, .int .i64 (x'.b.ack : Int), .int .i64 (x'.b.tak : Int), U2, U3, U4, U5] rfl rfl 62 _ KB (by kernel_rfl) rfl H9 ?_
        replace TT := And.intro ((cell_setRow_other X1 (g) #[.int .i64 x'.a.sn, .int .i64 x'.a.nesn, U0, .bool x'.a.op, .bool x'.a.em, .int .i64 (x'.a.ack : Int), .int .i64 (x'.a.tak : Int), .int .i64 x'.b.sn, .int .i64 x'.b.nesn, U1, .bool x'.b.op, .bool x'.b.em, .int .i64 (x'.b.ack : Int), .int .i64 (x'.b.tak : Int), U2, U3, U4, U5] ⟨b, off + j * 4 , none⟩ (show b ≠ g by omega)).trans TT.1) (And.intro ((cell_setRow_other X1 (g) #[.int .i64 x'.a.sn, .int .i64 x'.a.nesn, U0, .bool x'.a.op, .bool x'.a.em, .int .i64 (x'.a.ack : Int), .int .i64 (x'.a.tak : Int), .int .i64 x'.b.sn, .int .i64 x'.b.nesn, U1, .bool x'.b.op, .bool x'.b.em, .int .i64 (x'.b.ack : Int), .int .i64 (x'.b.tak : Int), U2, U3, U4, U5] ⟨b, off + j * 4 + 1, none⟩ (show b ≠ g by omega)).trans TT.2.1) (And.intro ((cell_setRow_other X1 (g) #[.int .i64 x'.a.sn, .int .i64 x'.a.nesn, U0, .bool x'.a.op, .bool x'.a.em, .int .i64 (x'.a.ack : Int), .int .i64 (x'.a.tak : Int), .int .i64 x'.b.sn, .int .i64 x'.b.nesn, U1, .bool x'.b.op, .bool x'.b.em, .int .i64 (x'.b.ack : Int), .int .i64 (x'.b.tak : Int), U2, U3, U4, U5] ⟨b, off + j * 4 + 2, none⟩ (show b ≠ g by omega)).trans TT.2.2.1) ((cell_setRow_other X1 (g) #[.int .i64 x'.a.sn, .int .i64 x'.a.nesn, U0, .bool x'.a.op, .bool x'.a.em, .int .i64 (x'.a.ack : Int), .int .i64 (x'.a.tak : Int), .int .i64 x'.b.sn, .int .i64 x'.b.nesn, U1, .bool x'.b.op, .bool x'.b.em, .int .i64 (x'.b.ack : Int), .int .i64 (x'.b.tak : Int), U2, U3, U4, U5] ⟨b, off + j * 4 + 3, none⟩ (show b ≠ g by omega)).trans TT.2.2.2)))
        replace HE := HE.box KB (by decide) (by decide) N8.out #[.int .i64 x'.a.sn, .int .i64 x'.a.nesn, U0, .bool x'.a.op, .bool x'.a.em, .int .i64 (x'.a.ack : Int), .int .i64 (x'.a.tak : Int), .int .i64 x'.b.sn, .int .i64 x'.b.nesn, U1, .bool x'.b.op, .bool x'.b.em, .int .i64 (x'.b.ack : Int), .int .i64 (x'.b.tak : Int), U2, U3, U4, U5]
        replace KB : Blk (X1.setRow (g) #[.int .i64 x'.a.sn, .int .i64 x'.a.nesn, U0, .bool x'.a.op, .bool x'.a.em, .int .i64 (x'.a.ack : Int), .int .i64 (x'.a.tak : Int), .int .i64 x'.b.sn, .int .i64 x'.b.nesn, U1, .bool x'.b.op, .bool x'.b.em, .int .i64 (x'.b.ack : Int), .int .i64 (x'.b.tak : Int), U2, U3, U4, U5]) (g) 62 #[.int .i64 x'.a.sn, .int .i64 x'.a.nesn, U0, .bool x'.a.op, .bool x'.a.em, .int .i64 (x'.a.ack : Int), .int .i64 (x'.a.tak : Int), .int .i64 x'.b.sn, .int .i64 x'.b.nesn, U1, .bool x'.b.op, .bool x'.b.em, .int .i64 (x'.b.ack : Int), .int .i64 (x'.b.tak : Int), U2, U3, U4, U5] := Av.bset_row KB
        replace BX : Below w.heap.size w (X1.setRow (g) #[.int .i64 x'.a.sn, .int .i64 x'.a.nesn, U0, .bool x'.a.op, .bool x'.a.em, .int .i64 (x'.a.ack : Int), .int .i64 (x'.a.tak : Int), .int .i64 x'.b.sn, .int .i64 x'.b.nesn, U1, .bool x'.b.op, .bool x'.b.em, .int .i64 (x'.b.ack : Int), .int .i64 (x'.b.tak : Int), U2, U3, U4, U5]) := below_setRow BX (by omega) _
        clear H9
        generalize X1.setRow (g) #[.int .i64 x'.a.sn, .int .i64 x'.a.nesn, U0, .bool x'.a.op, .bool x'.a.em, .int .i64 (x'.a.ack : Int), .int .i64 (x'.a.tak : Int), .int .i64 x'.b.sn, .int .i64 x'.b.nesn, U1, .bool x'.b.op, .bool x'.b.em, .int .i64 (x'.b.ack : Int), .int .i64 (x'.b.tak : Int), U2, U3, U4, U5] = X2 at *
        refine hK.out _ _ TT (fun hHeld => ?_)
        clear hK K
        try simp only [List.getElem_toArray, List.getElem_cons_zero, List.getElem_cons_succ, Act.put, List.setIfInBounds_toArray, List.set_cons_zero, List.set_cons_succ]
        refine wpAnyH_done (by kernel_rfl) ?_ _
        clear hHeld HM
        go_wp2_with (first | (refine wpList_load_row_w (by kernel_rfl) 62 (.tmp 3) rfl g rfl 62 #[.int .i64 x'.a.sn, .int .i64 x'.a.nesn, U0, .bool x'.a.op, .bool x'.a.em, .int .i64 (x'.a.ack : Int), .int .i64 (x'.a.tak : Int), .int .i64 x'.b.sn, .int .i64 x'.b.nesn, U1, .bool x'.b.op, .bool x'.b.em, .int .i64 (x'.b.ack : Int), .int .i64 (x'.b.tak : Int), U2, U3, U4, U5] (0, 0) _ KB Try.underlying62 rfl (by kernel_rfl) ?_) | (go_at_call_of 40 (Value.int IntKind.i64 0); refine (HO0.out _ U0 U1 U2 U3 U4 U5 k0 k1 k2 k3 k4 k5 HE).mono ?_; rintro e X9 ⟨rfl, b9⟩; replace HE := HE.below b9; replace KB := KB.below b9 KB.lt; replace BX := Base.thenB BX b9; clear b9) | (go_at_call_of 40 (Value.int IntKind.i64 1); refine (HO1.out _ U0 U1 U2 U3 U4 U5 k0 k1 k2 k3 k4 k5 HE).mono ?_; rintro e X9 ⟨rfl, b9⟩; replace HE := HE.below b9; replace KB := KB.below b9 KB.lt; replace BX := Base.thenB BX b9; clear b9))
        go_roundw
        case rel => exact ⟨j + 1, x', U0, U1, U2, U3, U4, U5, k0, k1, k2, k3, k4, k5, by omega, by go_num, HI'.out, HE, KB, BX⟩
        case measure => simp [intOf]; omega
      · obtain rfl : j = n := by omega
        go_wp2_with fail
        go_ret
        exact ⟨rfl, BX⟩
end Go.Proofs.Ytbnfjielnamepaa.Arq
