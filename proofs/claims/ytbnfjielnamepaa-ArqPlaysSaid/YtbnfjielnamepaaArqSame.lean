/- Acknowledgement: rows of packets that are the same: contracts over the document. -/
import Derived.Test.YtbnfjielnamepaaArqPart
set_option linter.unusedVariables false
set_option linter.unusedSimpArgs false
namespace Go.Proofs.Ytbnfjielnamepaa.Arq
open Go.RowKit Mem Oct Rw Av Dp
open Base (thenB)

theorem flat_take (l : List Pm) (k : Nat) : (l.take k).flatMap encK = (l.flatMap encK).take (k * 2) := by
  induction l generalizing k with
  | nil => simp
  | cons x r ih =>
    cases k with
    | zero => simp
    | succ k =>
      rw [List.take_succ_cons, List.flatMap_cons, List.flatMap_cons, ih, show (k + 1) * 2 = (encK x).length + k * 2 by simp [encK]; omega, List.take_append]
      simp [List.take_of_length_le]
theorem flat_drop (l : List Pm) (k : Nat) : (l.drop k).flatMap encK = (l.flatMap encK).drop (k * 2) := by
  induction l generalizing k with
  | nil => simp
  | cons x r ih =>
    cases k with
    | zero => simp
    | succ k =>
      rw [List.drop_succ_cons, ih, List.flatMap_cons, show (k + 1) * 2 = (encK x).length + k * 2 by simp [encK]; omega, ← List.drop_drop]
      simp
theorem QI.take {w : World} {A : Option Addr} {n c : Nat} {l : List Pm} (h : QI w (.slice A n c) l) {k : Nat} (hk : k ≤ n) : QI w (.slice A k c) (l.take k) := by
  obtain ⟨A', c', e, h1, h2, h3⟩ := h
  injection e with e1 e2 e3
  subst e1; subst e3
  refine ⟨A, c, by rw [List.length_take]; congr 1; omega, by rw [List.length_take]; omega, ?_, fun x hx => h3 x (List.mem_of_mem_take hx)⟩
  show CellsAt _ _ _ _
  rw [flat_take]
  rcases h2 with h2 | ⟨b, off, e, hb, hc⟩
  · left; rw [h2]; simp
  · refine .inr ⟨b, off, e, hb, fun q u hq => hc q u ?_⟩
    rw [List.getElem?_take] at hq
    split at hq
    · exact hq
    · cases hq
theorem QI.drop {w : World} {A : Option Addr} {n c : Nat} {l : List Pm} (h : QI w (.slice A n c) l) {k : Nat} (hk : k ≤ n) : QI w (.slice (if c = k then A else A.map (·.add (k * 2))) (n - k) (c - k)) (l.drop k) := by
  obtain ⟨A', c', e, h1, h2, h3⟩ := h
  injection e with e1 e2 e3
  subst e1; subst e3
  refine ⟨_, c - k, by rw [List.length_drop, e2], by rw [List.length_drop]; omega, ?_, fun x hx => h3 x (List.mem_of_mem_drop hx)⟩
  show CellsAt _ _ _ _
  rw [flat_drop]
  rcases h2 with h2 | ⟨b, off, e, hb, hc⟩
  · left; rw [h2]; simp
  · by_cases hck : c = k
    · left
      rw [List.drop_eq_nil_iff, flat_len sizK]; omega
    · rw [if_neg hck]
      refine .inr ⟨b, off + k * 2, by rw [e]; simp [plain_add], hb, fun q u hq => ?_⟩
      rw [List.getElem?_drop] at hq
      have := hc (k * 2 + q) u hq
      rwa [← Nat.add_assoc] at this
theorem QI.at_ {w w' : World} {A : Option Addr} {n c : Nat} {l : List Pm} (h : QI w (.slice A n c) l) (hb : Below w.heap.size w w') {j : Nat} (hj : j < n) : ∃ b off x, A = some ⟨b, off, none⟩ ∧ b < w.heap.size ∧ l[j]? = some x ∧ GP w x ∧ w'.cell? ⟨b, off + j * 2, none⟩ = some (.int .i64 x.k) ∧ w'.cell? ⟨b, off + j * 2 + 1, none⟩ = some (.slice x.A x.v.length x.c) := by
  obtain ⟨A', c', e, h1, h2, h3⟩ := h
  injection e with e1 e2 e3
  subst e1; subst e3
  obtain ⟨b, off, e, hlt, hc⟩ := ListAt.open_ h2 sizK (by decide) (by omega)
  have hx : l[j]? = some (l[j]'(by omega)) := List.getElem?_eq_getElem _
  exact ⟨b, off, _, e, hlt, hx, h3 _ (List.getElem_mem _), (hb.cell (p := ⟨b, off + j * 2, none⟩) hlt).trans (hc j _ hx 0 _ rfl), (hb.cell (p := ⟨b, off + j * 2 + 1, none⟩) hlt).trans (hc j _ hx 1 _ rfl)⟩
set_option maxRecDepth 100000 in
set_option maxHeartbeats 4000000 in
theorem samepks_yes (V V2 : Value) (l l2 : List Pm) (w : World) (h : QI w V l) (h2 : QI w V2 l2) (he : l.map Pm.p = l2.map Pm.p) (hn : l.length ≤ 1000000) :
    Calls Try.prog 41 #[V, V2] w fun e w' => e = .returned (.bool true) ∧ Below w.heap.size w w' := by
  have hll := len_map he
  obtain ⟨A, c, rfl, hc, _⟩ := id h
  obtain ⟨A2, c', rfl, hc2, _⟩ := id h2
  rw [← hll] at h2 hc2 ⊢
  obtain ⟨n, hln⟩ : ∃ n, l2.length = n := ⟨_, rfl⟩
  have e0 : ((n : Int) != (n : Int)) = false := by simp
  have hll2 : l.length = n := hll ▸ hln
  rw [hll2] at h h2 hn hc hc2 ⊢
  have HA := Lib.hid (fun X (b : Below w.heap.size w X) j (hj : j < n) => h.at_ b hj)
  have HB := Lib.hid (fun X (b : Below w.heap.size w X) j (hj : j < n) => h2.at_ b hj)
  have HE := Lib.hid he
  clear h h2 he hll hln hll2
  go_enter Try.func41, Try.ntmps41
  go_wp2_with fail
  go_loopw [5] (fun s5 wr => ∃ j : Nat, j ≤ n ∧ s5 = .int .i64 j ∧ Below w.heap.size w wr) (fun s5 _ => n - (intOf s5).toNat)
  case atStart => exact ⟨0, by omega, rfl, Below.refl _ _⟩
  case round =>
    obtain ⟨j, hj, rfl, BX⟩ := hrel
    by_cases cj : j < n
    · obtain ⟨b, off, x, rfl, hbl, hx, gx, c0, c1⟩ := HA.out _ BX j cj
      obtain ⟨d, off2, y, rfl, hdl, hy, gy, c2, c3⟩ := HB.out _ BX j cj
      have hxy : x.p = y.p := by
        have h1 : (l.map Pm.p)[j]? = some x.p := by rw [List.getElem?_map, hx]; rfl
        have h2 : (l2.map Pm.p)[j]? = some y.p := by rw [List.getElem?_map, hy]; rfl
        rw [HE.out, h2] at h1
        exact (Option.some.inj h1).symm
      obtain ⟨hk, hv⟩ : x.k = y.k ∧ x.v = y.v := by
        unfold Pm.p at hxy
        exact ⟨congrArg Prod.fst hxy, congrArg Prod.snd hxy⟩
      have HS : Hid (∀ X, Below w.heap.size w X → Calls Try.prog 35 #[.agg #[.int .i64 x.k, .slice x.A x.v.length x.c], .agg #[.int .i64 y.k, .slice y.A y.v.length y.c]] X fun e w' => e = .returned (.bool true) ∧ Below X.heap.size X w') := Lib.hid fun X b => by
        have := samepk24_yes x.k x.A y.A x.v.length x.c y.c x.v X rfl gx.2.2.1 (gx.later b).2.2.2 (by rw [hv]; exact (gy.later b).2.2.2)
        rwa [← hk, ← hv]
      have g1 : (0 : Int) ≤ (j : Int) ∧ (j : Int) < (n : Int) := by omega
      have TT := And.intro c0 (And.intro c1 (And.intro c2 c3))
      have hs0 := BX.size
      clear hxy hk hv gx gy hx hy
      go_upto_region 6 with (fail)
      clear c0 c1 c2 c3
      refine wp_region_held_drew (S := (fun w' => w'.cell? ⟨b, off + j * 2, none⟩ = some (.int .i64 x.k) ∧ w'.cell? ⟨b, off + j * 2 + 1, none⟩ = some (.slice x.A x.v.length x.c) ∧ w'.cell? ⟨d, off2 + j * 2, none⟩ = some (.int .i64 y.k) ∧ w'.cell? ⟨d, off2 + j * 2 + 1, none⟩ = some (.slice y.A y.v.length y.c))) (by kernel_rfl) ?_ (fun hHeld => ?_)
      · exact TT
      replace BX : Below w.heap.size w wr.drew := BX.drew
      replace TT := TT
      replace TT : wr.drew.cell? ⟨b, off + j * 2, none⟩ = some (.int .i64 x.k) ∧ wr.drew.cell? ⟨b, off + j * 2 + 1, none⟩ = some (.slice x.A x.v.length x.c) ∧ wr.drew.cell? ⟨d, off2 + j * 2, none⟩ = some (.int .i64 y.k) ∧ wr.drew.cell? ⟨d, off2 + j * 2 + 1, none⟩ = some (.slice y.A y.v.length y.c) := TT
      generalize wr.drew = X0 at *
      refine wpAnyH_take (i := 0) (v := .slice (some ⟨b, off, none⟩) n c) rfl (by kernel_rfl) (by kernel_rfl) (by kernel_rfl) (fun _ _ _ h => h) (Or.inl ⟨by first | rfl | go_simp, by intro w9 hSw; (try dsimp only at hSw); go_simp⟩) (by assumption) ?_
      simp only [List.getElem_toArray, List.getElem_cons_zero, List.getElem_cons_succ, Act.put, List.setIfInBounds_toArray, List.set_cons_zero, List.set_cons_succ]
      refine wpAnyH_take (i := 1) (v := .int .i64 (j : Int)) rfl (by kernel_rfl) (by kernel_rfl) (by kernel_rfl) (fun _ _ _ h => h) (Or.inl ⟨by first | rfl | go_simp, by intro w9 hSw; (try dsimp only at hSw); go_simp⟩) (by assumption) ?_
      simp only [List.getElem_toArray, List.getElem_cons_zero, List.getElem_cons_succ, Act.put, List.setIfInBounds_toArray, List.set_cons_zero, List.set_cons_succ]
      refine wpAnyH_take (i := 2) (v := .pointer (some ⟨b, off + j * 2, none⟩)) rfl (by kernel_rfl) (by kernel_rfl) (by kernel_rfl) (fun _ _ _ h => h) (Or.inl ⟨by first | rfl | go_simp, by intro w9 hSw; (try dsimp only at hSw); go_simp⟩) (by assumption) ?_
      simp only [List.getElem_toArray, List.getElem_cons_zero, List.getElem_cons_succ, Act.put, List.setIfInBounds_toArray, List.set_cons_zero, List.set_cons_succ]
      refine wpAnyH_take (i := 3) (v := .agg #[.int .i64 x.k, .slice x.A x.v.length x.c]) rfl (by kernel_rfl) (by kernel_rfl) (by kernel_rfl) (fun _ _ _ h => h) (Or.inl ⟨by first | rfl | go_simp, by intro w9 hSw; (try dsimp only at hSw); go_simp⟩) (by assumption) ?_
      simp only [List.getElem_toArray, List.getElem_cons_zero, List.getElem_cons_succ, Act.put, List.setIfInBounds_toArray, List.set_cons_zero, List.set_cons_succ]
      refine wpAnyH_take (i := 4) (v := .slice (some ⟨d, off2, none⟩) n c') rfl (by kernel_rfl) (by kernel_rfl) (by kernel_rfl) (fun _ _ _ h => h) (Or.inl ⟨by first | rfl | go_simp, by intro w9 hSw; (try dsimp only at hSw); go_simp⟩) (by assumption) ?_
      simp only [List.getElem_toArray, List.getElem_cons_zero, List.getElem_cons_succ, Act.put, List.setIfInBounds_toArray, List.set_cons_zero, List.set_cons_succ]
      refine wpAnyH_take (i := 5) (v := .int .i64 (j : Int)) rfl (by kernel_rfl) (by kernel_rfl) (by kernel_rfl) (fun _ _ _ h => h) (Or.inl ⟨by first | rfl | go_simp, by intro w9 hSw; (try dsimp only at hSw); go_simp⟩) (by assumption) ?_
      simp only [List.getElem_toArray, List.getElem_cons_zero, List.getElem_cons_succ, Act.put, List.setIfInBounds_toArray, List.set_cons_zero, List.set_cons_succ]
      refine wpAnyH_take (i := 6) (v := .pointer (some ⟨d, off2 + j * 2, none⟩)) rfl (by kernel_rfl) (by kernel_rfl) (by kernel_rfl) (fun _ _ _ h => h) (Or.inl ⟨by first | rfl | go_simp, by intro w9 hSw; (try dsimp only at hSw); go_simp⟩) (by assumption) ?_
      simp only [List.getElem_toArray, List.getElem_cons_zero, List.getElem_cons_succ, Act.put, List.setIfInBounds_toArray, List.set_cons_zero, List.set_cons_succ]
      refine wpAnyH_take (i := 7) (v := .agg #[.int .i64 y.k, .slice y.A y.v.length y.c]) rfl (by kernel_rfl) (by kernel_rfl) (by kernel_rfl) (fun _ _ _ h => h) (Or.inl ⟨by first | rfl | go_simp, by intro w9 hSw; (try dsimp only at hSw); go_simp⟩) (by assumption) ?_
      simp only [List.getElem_toArray, List.getElem_cons_zero, List.getElem_cons_succ, Act.put, List.setIfInBounds_toArray, List.set_cons_zero, List.set_cons_succ]
      refine wpAnyH_ready (rs := [8]) (by kernel_rfl) (by simp) ?_
      refine AllReadyH.cons rfl (fun K hK => ?_) (AllReadyH.nil)
      go_simp
      have hs0 := BX.size
      refine (HS.out X0 BX).mono ?_
      rintro e X1 ⟨rfl, b9⟩
      replace BX := Base.thenB BX b9
      replace TT : X1.cell? ⟨b, off + j * 2, none⟩ = some (.int .i64 x.k) ∧ X1.cell? ⟨b, off + j * 2 + 1, none⟩ = some (.slice x.A x.v.length x.c) ∧ X1.cell? ⟨d, off2 + j * 2, none⟩ = some (.int .i64 y.k) ∧ X1.cell? ⟨d, off2 + j * 2 + 1, none⟩ = some (.slice y.A y.v.length y.c) := ⟨((b9.cell (p := ⟨b, off + j * 2, none⟩) (by show b < _; omega)).trans TT.1), ((b9.cell (p := ⟨b, off + j * 2 + 1, none⟩) (by show b < _; omega)).trans TT.2.1), ((b9.cell (p := ⟨d, off2 + j * 2, none⟩) (by show d < _; omega)).trans TT.2.2.1), ((b9.cell (p := ⟨d, off2 + j * 2 + 1, none⟩) (by show d < _; omega)).trans TT.2.2.2)⟩
      clear b9
      refine hK.out _ _ TT (fun hHeld => ?_)
      clear hK K
      try simp only [List.getElem_toArray, List.getElem_cons_zero, List.getElem_cons_succ, Act.put, List.setIfInBounds_toArray, List.set_cons_zero, List.set_cons_succ]
      refine wpAnyH_take (i := 9) (v := .bool false) rfl (by kernel_rfl) (by kernel_rfl) (by kernel_rfl) (fun _ _ _ h => h) (Or.inl ⟨by first | rfl | go_simp, by intro w9 hSw; (try dsimp only at hSw); go_simp⟩) (by assumption) ?_
      simp only [List.getElem_toArray, List.getElem_cons_zero, List.getElem_cons_succ, Act.put, List.setIfInBounds_toArray, List.set_cons_zero, List.set_cons_succ]
      refine wpAnyH_done (by kernel_rfl) ?_ _
      clear hHeld TT
      go_wp2_with fail
      go_roundw
      case rel => exact ⟨j + 1, by omega, by go_num, BX⟩
      case measure => simp [intOf]; omega
    · obtain rfl : j = n := by omega
      go_wp2_with fail
      go_ret
      exact ⟨rfl, BX⟩
end Go.Proofs.Ytbnfjielnamepaa.Arq
