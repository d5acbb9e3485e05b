/- The statement on transmissions apart: the walk. -/
import Derived.Test.YtocmcjbhmjbmhaaAirApM
import Derived.Test.YtocmcjbhmjbmhaaAirCopyO
import Derived.Test.YtocmcjbhmjbmhaaAirLawU0
set_option linter.unusedVariables false
set_option linter.unusedSimpArgs false
namespace Go.Proofs.Ytocmcjbhmjbmhaa.Air
open Go.RowKit Mem Rw Base Rd

theorem mine_app {X X' : World} {B n : Nat} {v : Value} {l l' : List Tx} {xs : List Value} (ho : X.ownsRow B 24 5 v n xs) (hg : X.grownBy X' v.ownBlock) (h : ∀ x ∈ l, Mine X B x ∧ x.bs.length ≤ 140737488351232) (h' : ∀ x ∈ l', Mine X B x ∧ x.bs.length ≤ 140737488351232) : ∀ x ∈ l ++ l', Own X' X'.heap.size x := fun x hx => by
  have : Mine X B x ∧ x.bs.length ≤ 140737488351232 := by
    rcases List.mem_append.mp hx with hx | hx
    · exact h x hx
    · exact h' x hx
  exact (show Mine X' B x from own_other this.1 ho (by decide) hg).own this.2
theorem mine_below {X X' : World} {B : Nat} {l : List Tx} (h : ∀ x ∈ l, Mine X B x ∧ x.bs.length ≤ 140737488351232) (b : Below X.heap.size X X') : ∀ x ∈ l, Mine X' B x ∧ x.bs.length ≤ 140737488351232 := fun x hx => ⟨own_below (h x hx).1 b, (h x hx).2⟩
set_option maxRecDepth 100000 in
set_option maxHeartbeats 16000000 in
theorem apart_core (m : Med) (q : Pl) (A : Option Addr) (c : Nat) (xs : List Tx) (l : Ln) (k : Nat) (x : Tx) (r0 r1 r2 r3 r4 : Int) (bs : List Int) (ok : Bool) (w : World) (ga : GoodA w (m, q)) (ta : TxsAt w w.heap.size A xs) (g : ∀ x ∈ xs, GoodT w x) (hc : xs.length ≤ c) (hb : c * 56 ≤ 140737488351232) (hf : fewP m xs.length) (hz : chk m (xs.map Tx.tr) = 0) (hkx : k < xs.length) (hx : xs[k]? = some x) (hX1 : x.frm ≠ l.dev) (hX2 : x.ch ≠ l.ch)
    (hh1 : ∀ (w' : World) (p : Pl) (A' : Option Addr) (c' : Nat) (l' : List Tx), l'.length = xs.length → l'.map Tx.tr = xs.map Tx.tr → MedAt w' w'.heap.size p m → TxsAt w' w'.heap.size A' l' → Calls Try.prog 26 #[mv m p, .slice A' xs.length c', .agg #[.int .i64 l.dev, .int .i64 l.ch, .int .i64 l.st, .int .i64 l.en]] w' fun e w2 => ∃ RA rc, e = .returned (.tuple #[.agg #[.int .i64 r0, .int .i64 r1, .int .i64 r2, .int .i64 r3, .int .i64 r4, .slice RA bs.length rc], .bool ok]) ∧ NewAt w2 w'.heap.size RA (bs.map (Value.int .u8)) ∧ Below w'.heap.size w' w2)
    (hh2 : ∀ (w' : World) (p : Pl) (A' : Option Addr) (c' : Nat) (l' : List Tx), l'.length = k + (xs.length - (k + 1)) → l'.map Tx.tr = (xs.take k ++ xs.drop (k + 1)).map Tx.tr → MedAt w' w'.heap.size p m → TxsAt w' w'.heap.size A' l' → Calls Try.prog 26 #[mv m p, .slice A' (k + (xs.length - (k + 1))) c', .agg #[.int .i64 l.dev, .int .i64 l.ch, .int .i64 l.st, .int .i64 l.en]] w' fun e w2 => ∃ RA rc, e = .returned (.tuple #[.agg #[.int .i64 r0, .int .i64 r1, .int .i64 r2, .int .i64 r3, .int .i64 r4, .slice RA bs.length rc], .bool ok]) ∧ NewAt w2 w'.heap.size RA (bs.map (Value.int .u8)) ∧ Below w'.heap.size w' w2) :
    Calls Try.prog 9 #[mv m q, .slice A xs.length c, .agg #[.int .i64 l.dev, .int .i64 l.ch, .int .i64 l.st, .int .i64 l.en], .int .i64 (k : Int)] w fun e w' => e = .returned (.bool true) ∧ Below w.heap.size w w' := by
  have hM : MedAt w w.heap.size q m := ga.2.1
  have hjb : m.jams.length ≤ 5864062014805 := ga.2.2.2.2.2.2.2.2
  have HOwn : Hid (∀ w' : World, MedAt w' w'.heap.size q m → Calls Try.prog 18 #[.agg #[.int .i64 m.dev, .slice q.A m.links.length q.ac, .slice q.J m.jams.length q.jc, .slice q.S m.loss.length q.sc]] w' fun e w2 => ∃ p' : Pl, e = .returned (mv m p') ∧ MedAt w2 w2.heap.size p' m ∧ Below w'.heap.size w' w2) := Lib.hid fun w' h => own_m m q w' h hjb
  have HCp : Hid (∀ w' : World, TxsAt w' w'.heap.size A xs → Calls Try.prog 19 #[.slice A xs.length c] w' fun e w2 => ∃ A' c', ∃ l' : List Tx, e = .returned (.slice A' xs.length c') ∧ l'.length = xs.length ∧ l'.map Tx.tr = xs.map Tx.tr ∧ TxsAt w2 w2.heap.size A' l' ∧ Below w'.heap.size w' w2) := Lib.hid fun w' h => copy_m A c xs w' (by omega) h
  have HCk : Hid (∀ (w' : World) (p : Pl) (A' : Option Addr) (c' : Nat) (l' : List Tx), l'.length = xs.length → l'.map Tx.tr = xs.map Tx.tr → MedAt w' w'.heap.size p m → TxsAt w' w'.heap.size A' l' → Calls Try.prog 17 #[mv m p, .slice A' xs.length c'] w' fun e w2 => e = .returned (.int .i64 (chk m (xs.map Tx.tr))) ∧ Below w'.heap.size w' w2) := Lib.hid fun w' p A' c' l' h1 h2 h3 h4 => check_m m p A' c' xs.length l' _ w' h1 h2 (by omega) h3 h4
  have HFew : Hid (∀ w' : World, Calls Try.prog 23 #[.agg #[.int .i64 m.dev, .slice q.A m.links.length q.ac, .slice q.J m.jams.length q.jc, .slice q.S m.loss.length q.sc], .slice A xs.length c] w' fun e w2 => e = .returned (.bool (decide (fewP m xs.length))) ∧ Below w'.heap.size w' w2) := Lib.hid fun w' => few_any m q A xs.length c w'
  obtain ⟨d, lh, ls, le⟩ := l
  have HL := Lib.hid lives_any
  have B0 : Below w.heap.size w ((w.alloc (.cells #[.int .i64 m.dev, .slice q.A m.links.length q.ac, .slice q.J m.jams.length q.jc, .slice q.S m.loss.length q.sc] 34)).alloc (.cells #[.int .i64 d, .int .i64 lh, .int .i64 ls, .int .i64 le] 50)) := ((Below.refl _ w).alloc (Nat.le_refl _) _).alloc (by simp) _
  have U0 : Four ((w.alloc (.cells #[.int .i64 m.dev, .slice q.A m.links.length q.ac, .slice q.J m.jams.length q.jc, .slice q.S m.loss.length q.sc] 34)).alloc (.cells #[.int .i64 d, .int .i64 lh, .int .i64 ls, .int .i64 le] 50)) w.heap.size m.dev (.slice q.A m.links.length q.ac) (.slice q.J m.jams.length q.jc) (.slice q.S m.loss.length q.sc) ∧ Four ((w.alloc (.cells #[.int .i64 m.dev, .slice q.A m.links.length q.ac, .slice q.J m.jams.length q.jc, .slice q.S m.loss.length q.sc] 34)).alloc (.cells #[.int .i64 d, .int .i64 lh, .int .i64 ls, .int .i64 le] 50)) (w.heap.size + 1) d (.int .i64 lh) (.int .i64 ls) (.int .i64 le) := by
    refine ⟨four_of ((Blk.fresh w 34 #[.int .i64 m.dev, .slice q.A m.links.length q.ac, .slice q.J m.jams.length q.jc, .slice q.S m.loss.length q.sc]).alloc _), ?_⟩
    have := four_of (Blk.fresh (w.alloc (.cells #[.int .i64 m.dev, .slice q.A m.links.length q.ac, .slice q.J m.jams.length q.jc, .slice q.S m.loss.length q.sc] 34)) 50 #[.int .i64 d, .int .i64 lh, .int .i64 ls, .int .i64 le])
    simpa using this
  rw [show mv m q = .agg #[.int .i64 m.dev, .slice q.A m.links.length q.ac, .slice q.J m.jams.length q.jc, .slice q.S m.loss.length q.sc] from rfl]
  rw [decide_eq_true hf] at HFew
  rw [hz] at HCk
  simp only at hX1 hX2 hh1 hh2
  have HH1 := Lib.hid hh1
  have HH2 := Lib.hid hh2
  clear hh1 hh2
  obtain ⟨iT, hi, hz9, hs, hb5, hc0⟩ := info_parts2 info_tx rfl
  have hz := hz9
  clear hz9
  have HX : x.frm ≠ d ∧ x.ch ≠ lh := ⟨hX1, hX2⟩
  clear hX1 hX2
  have hn64 : xs.length ≤ 64 := hf.2.2.2
  have hkl : k < xs.length := hkx
  have HTC := tx_cells ta (by omega)
  obtain ⟨b, off, rfl, hbl, hcell⟩ := HTC
  obtain ⟨k0, k1, k2, _, _⟩ := hcell k x hx
  obtain ⟨x0, x1, x2, x3, xA, xc, xb⟩ := x
  simp only at k0 k1 k2 HX
  have gk : (0 : Int) ≤ (k : Int) ∧ (k : Int) < (xs.length : Int) := by omega
  clear hcell
  have e1' : (x1 == d) = false := by simpa using HX.1
  have e2' : (x2 == lh) = false := by simpa using HX.2
  have hT1 : TxsAt w w.heap.size (some ⟨b, off, none⟩) (xs.take k) := flat_take ta k
  have hT2 := flat_drop ta (k + 1) (by omega) hc
  have ht1 : (xs.take k).length = k := by rw [List.length_take]; omega
  have ht2 : (xs.drop (k + 1)).length = xs.length - (k + 1) := List.length_drop
  generalize hts5 : xs.take k ++ xs.drop (k + 1) = xs5 at *
  generalize xs.take k = xa at *
  generalize xs.drop (k + 1) = xd at *
  clear hf hkx hx HX g
  generalize hnn : xs.length = n at *
  go_enter Try.func9, Try.ntmps9
  go_wp2_with fail
  generalize ((w.alloc (.cells #[.int .i64 m.dev, .slice q.A m.links.length q.ac, .slice q.J m.jams.length q.jc, .slice q.S m.loss.length q.sc] 34)).alloc (.cells #[.int .i64 d, .int .i64 lh, .int .i64 ls, .int .i64 le] 50)) = W at *
  have KK : Hid (∀ X, Below W.heap.size W X → (Four X w.heap.size m.dev (.slice q.A m.links.length q.ac) (.slice q.J m.jams.length q.jc) (.slice q.S m.loss.length q.sc) ∧ Four X (w.heap.size + 1) d (.int .i64 lh) (.int .i64 ls) (.int .i64 le)) ∧ X.cell? ⟨b, off + k * 5, none⟩ = some (.int .i64 x0) ∧ X.cell? ⟨b, off + k * 5 + 1, none⟩ = some (.int .i64 x1) ∧ X.cell? ⟨b, off + k * 5 + 2, none⟩ = some (.int .i64 x2)) := Lib.hid fun X bb => ⟨⟨U0.1.below bb, U0.2.below bb⟩, One_below k0 (thenB B0 bb), One_below k1 (thenB B0 bb), One_below k2 (thenB B0 bb)⟩
  clear U0 k0 k1 k2
  go_at_call 10; refine (HL.out _).mono ?_; rintro e Z ⟨rfl, BZ⟩
  clear HL
  have KA : Hid (∀ X, Below W.heap.size W X → Four X w.heap.size m.dev (.slice q.A m.links.length q.ac) (.slice q.J m.jams.length q.jc) (.slice q.S m.loss.length q.sc) ∧ Four X (w.heap.size + 1) d (.int .i64 lh) (.int .i64 ls) (.int .i64 le)) := Lib.hid fun X bb => (KK.out X bb).1
  have HT1 : Hid (∀ X, Below W.heap.size W X → TxsAt X X.heap.size (some ⟨b, off, none⟩) xa) := Lib.hid fun X bb => hT1.later (thenB B0 bb)
  have HT2 : Hid (∀ X, Below W.heap.size W X → TxsAt X X.heap.size (if c = k + 1 then some ⟨b, off, none⟩ else some ⟨b, off + (k + 1) * 5, none⟩) xd) := Lib.hid fun X bb => hT2.later (thenB B0 bb)
  have HCo : Hid (∀ (w' : World), Below W.heap.size W w' → ∀ (L : Option Addr) (cc : Nat) (la : List Tx) (kk : Nat), TxsAt w' w'.heap.size L la → la.length = kk → kk * 56 ≤ 140737488351232 → Calls Try.prog 19 #[.slice L kk cc] w' fun e w2 => ∃ A' c', ∃ l' : List Tx, e = .returned (.slice A' kk c') ∧ l'.length = kk ∧ l'.map Tx.tr = la.map Tx.tr ∧ w2.ownsRow W.heap.size 24 5 (.slice A' kk c') kk (l'.flatMap encT) ∧ (∀ x ∈ l', Mine w2 W.heap.size x ∧ x.bs.length ≤ 140737488351232) ∧ Below w'.heap.size w' w2) := Lib.hid fun w' bb L cc la kk h1 h2 h3 => by
    refine (copy_own L kk cc la w' h2 h3 h1).mono ?_
    rintro e w2 ⟨A', c', l', rfl, _, u1, u2, _, u3, u4, b⟩
    exact ⟨A', c', l', rfl, u1, u2, own_base u3 bb.size, fun x hx => ⟨own_base (u4 x hx).1 bb.size, (u4 x hx).2⟩, b⟩
  clear hT1 hT2
  go_upto_region 3 with fail
  go_cut [57] from 16 to 57 (fun s57 wx => s57 = .bool false ∧ Below W.heap.size W wx)
  case first =>
    clear HH1 HH2 HCo HT1 HT2
    go_wp2_with fail
    refine wp_region_held_drew (S := (fun w' => (Four w' w.heap.size m.dev (.slice q.A m.links.length q.ac) (.slice q.J m.jams.length q.jc) (.slice q.S m.loss.length q.sc) ∧ Four w' (w.heap.size + 1) d (.int .i64 lh) (.int .i64 ls) (.int .i64 le)) ∧ w'.cell? ⟨b, off + k * 5, none⟩ = some (.int .i64 x0) ∧ w'.cell? ⟨b, off + k * 5 + 1, none⟩ = some (.int .i64 x1) ∧ w'.cell? ⟨b, off + k * 5 + 2, none⟩ = some (.int .i64 x2))) (by kernel_rfl) ?_ (fun hHeld => ?_)
    · exact KK.out _ BZ.drew
    have BW : Below W.heap.size W Z.drew := BZ.drew
    generalize Z.drew = X0 at *
    refine wpAnyH_take (i := 0) (v := .agg #[.int .i64 m.dev, .slice q.A m.links.length q.ac, .slice q.J m.jams.length q.jc, .slice q.S m.loss.length q.sc]) rfl (by kernel_rfl) (by kernel_rfl) (by kernel_rfl) (fun _ _ _ h => h) (Or.inl ⟨by first | rfl | go_simp, by intro w9 hSw; (try dsimp only at hSw); go_simp⟩) (by assumption) ?_
    simp only [List.getElem_toArray, List.getElem_cons_zero, List.getElem_cons_succ, Act.put, List.setIfInBounds_toArray, List.set_cons_zero, List.set_cons_succ]
    refine wpAnyH_take (i := 1) (v := .slice (some ⟨b, off, none⟩) n c) rfl (by kernel_rfl) (by kernel_rfl) (by kernel_rfl) (fun _ _ _ h => h) (Or.inl ⟨by first | rfl | go_simp, by intro w9 hSw; (try dsimp only at hSw); go_simp⟩) (by assumption) ?_
    simp only [List.getElem_toArray, List.getElem_cons_zero, List.getElem_cons_succ, Act.put, List.setIfInBounds_toArray, List.set_cons_zero, List.set_cons_succ]
    refine wpAnyH_ready (rs := [2]) (by kernel_rfl) (by simp) ?_
    refine AllReadyH.cons rfl (fun K hK => ?_) (AllReadyH.nil)
    go_simp
    refine (HFew.out _).mono ?_
    rintro e X1 ⟨rfl, b1⟩
    have BW := thenB BW b1
    refine hK.out _ _ (KK.out _ BW) (fun hHeld => ?_)
    clear hK K
    try simp only [List.getElem_toArray, List.getElem_cons_zero, List.getElem_cons_succ, Act.put, List.setIfInBounds_toArray, List.set_cons_zero, List.set_cons_succ]
    refine wpAnyH_take (i := 3) (v := .bool false) rfl (by kernel_rfl) (by kernel_rfl) (by kernel_rfl) (fun _ _ _ h => h) (Or.inl ⟨by first | rfl | go_simp, by intro w9 hSw; (try dsimp only at hSw); go_simp⟩) (by assumption) ?_
    simp only [List.getElem_toArray, List.getElem_cons_zero, List.getElem_cons_succ, Act.put, List.setIfInBounds_toArray, List.set_cons_zero, List.set_cons_succ]
    refine wpAnyH_take (i := 4) (v := .bool false) rfl (by kernel_rfl) (by kernel_rfl) (by kernel_rfl) (fun _ _ _ h => h) (Or.inl ⟨by first | rfl | go_simp, by intro w9 hSw; (try dsimp only at hSw); go_simp⟩) (by assumption) ?_
    simp only [List.getElem_toArray, List.getElem_cons_zero, List.getElem_cons_succ, Act.put, List.setIfInBounds_toArray, List.set_cons_zero, List.set_cons_succ]
    refine wpAnyH_take (i := 5) (v := .int .i64 (k : Int)) rfl (by kernel_rfl) (by kernel_rfl) (by kernel_rfl) (fun _ _ _ h => h) (Or.inl ⟨by first | rfl | go_simp, by intro w9 hSw; (try dsimp only at hSw); go_simp⟩) (by assumption) ?_
    simp only [List.getElem_toArray, List.getElem_cons_zero, List.getElem_cons_succ, Act.put, List.setIfInBounds_toArray, List.set_cons_zero, List.set_cons_succ]
    refine wpAnyH_take (i := 6) (v := .bool false) rfl (by kernel_rfl) (by kernel_rfl) (by kernel_rfl) (fun _ _ _ h => h) (Or.inl ⟨by first | rfl | go_simp, by intro w9 hSw; (try dsimp only at hSw); go_simp⟩) (by assumption) ?_
    simp only [List.getElem_toArray, List.getElem_cons_zero, List.getElem_cons_succ, Act.put, List.setIfInBounds_toArray, List.set_cons_zero, List.set_cons_succ]
    refine wpAnyH_take (i := 7) (v := .bool false) rfl (by kernel_rfl) (by kernel_rfl) (by kernel_rfl) (fun _ _ _ h => h) (Or.inl ⟨by first | rfl | go_simp, by intro w9 hSw; (try dsimp only at hSw); go_simp⟩) (by assumption) ?_
    simp only [List.getElem_toArray, List.getElem_cons_zero, List.getElem_cons_succ, Act.put, List.setIfInBounds_toArray, List.set_cons_zero, List.set_cons_succ]
    refine wpAnyH_take (i := 8) (v := .bool false) rfl (by kernel_rfl) (by kernel_rfl) (by kernel_rfl) (fun _ _ _ h => h) (Or.inl ⟨by first | rfl | go_simp, by intro w9 hSw; (try dsimp only at hSw); go_simp⟩) (by assumption) ?_
    simp only [List.getElem_toArray, List.getElem_cons_zero, List.getElem_cons_succ, Act.put, List.setIfInBounds_toArray, List.set_cons_zero, List.set_cons_succ]
    refine wpAnyH_take (i := 9) (v := .int .i64 (k : Int)) rfl (by kernel_rfl) (by kernel_rfl) (by kernel_rfl) (fun _ _ _ h => h) (Or.inl ⟨by first | rfl | go_simp, by intro w9 hSw; (try dsimp only at hSw); go_simp⟩) (by assumption) ?_
    simp only [List.getElem_toArray, List.getElem_cons_zero, List.getElem_cons_succ, Act.put, List.setIfInBounds_toArray, List.set_cons_zero, List.set_cons_succ]
    refine wpAnyH_take (i := 10) (v := .slice (some ⟨b, off, none⟩) n c) rfl (by kernel_rfl) (by kernel_rfl) (by kernel_rfl) (fun _ _ _ h => h) (Or.inl ⟨by first | rfl | go_simp, by intro w9 hSw; (try dsimp only at hSw); go_simp⟩) (by assumption) ?_
    simp only [List.getElem_toArray, List.getElem_cons_zero, List.getElem_cons_succ, Act.put, List.setIfInBounds_toArray, List.set_cons_zero, List.set_cons_succ]
    refine wpAnyH_take (i := 11) (v := .int .i64 (n : Int)) rfl (by kernel_rfl) (by kernel_rfl) (by kernel_rfl) (fun _ _ _ h => h) (Or.inl ⟨by first | rfl | go_simp, by intro w9 hSw; (try dsimp only at hSw); go_simp⟩) (by assumption) ?_
    simp only [List.getElem_toArray, List.getElem_cons_zero, List.getElem_cons_succ, Act.put, List.setIfInBounds_toArray, List.set_cons_zero, List.set_cons_succ]
    refine wpAnyH_take (i := 12) (v := .bool false) rfl (by kernel_rfl) (by kernel_rfl) (by kernel_rfl) (fun _ _ _ h => h) (Or.inl ⟨by first | rfl | go_simp, by intro w9 hSw; (try dsimp only at hSw); go_simp⟩) (by assumption) ?_
    simp only [List.getElem_toArray, List.getElem_cons_zero, List.getElem_cons_succ, Act.put, List.setIfInBounds_toArray, List.set_cons_zero, List.set_cons_succ]
    refine wpAnyH_take (i := 13) (v := .bool false) rfl (by kernel_rfl) (by kernel_rfl) (by kernel_rfl) (fun _ _ _ h => h) (Or.inl ⟨by first | rfl | go_simp, by intro w9 hSw; (try dsimp only at hSw); go_simp⟩) (by assumption) ?_
    simp only [List.getElem_toArray, List.getElem_cons_zero, List.getElem_cons_succ, Act.put, List.setIfInBounds_toArray, List.set_cons_zero, List.set_cons_succ]
    refine wpAnyH_take (i := 14) (v := .bool false) rfl (by kernel_rfl) (by kernel_rfl) (by kernel_rfl) (fun _ _ _ h => h) (Or.inl ⟨by first | rfl | go_simp, by intro w9 hSw; (try dsimp only at hSw); go_simp⟩) (by assumption) ?_
    simp only [List.getElem_toArray, List.getElem_cons_zero, List.getElem_cons_succ, Act.put, List.setIfInBounds_toArray, List.set_cons_zero, List.set_cons_succ]
    refine wpAnyH_take (i := 15) (v := .agg #[.int .i64 m.dev, .slice q.A m.links.length q.ac, .slice q.J m.jams.length q.jc, .slice q.S m.loss.length q.sc]) rfl (by kernel_rfl) (by kernel_rfl) (by kernel_rfl) (fun _ _ _ h => h) (Or.inl ⟨by first | rfl | go_simp, by intro w9 hSw; (try dsimp only at hSw); go_simp⟩) (by assumption) ?_
    simp only [List.getElem_toArray, List.getElem_cons_zero, List.getElem_cons_succ, Act.put, List.setIfInBounds_toArray, List.set_cons_zero, List.set_cons_succ]
    refine wpAnyH_take (i := 17) (v := .slice (some ⟨b, off, none⟩) n c) rfl (by kernel_rfl) (by kernel_rfl) (by kernel_rfl) (fun _ _ _ h => h) (Or.inl ⟨by first | rfl | go_simp, by intro w9 hSw; (try dsimp only at hSw); go_simp⟩) (by assumption) ?_
    simp only [List.getElem_toArray, List.getElem_cons_zero, List.getElem_cons_succ, Act.put, List.setIfInBounds_toArray, List.set_cons_zero, List.set_cons_succ]
    refine wpAnyH_ready (rs := [16]) (by kernel_rfl) (by simp) ?_
    refine AllReadyH.cons rfl (fun K hK => ?_) (AllReadyH.nil)
    go_simp
    refine (HOwn.out _ (hM.later (thenB B0 BW))).mono ?_
    rintro e X2 ⟨p1, rfl, MO, b1⟩
    have BW := thenB BW b1
    refine hK.out _ _ (KK.out _ BW) (fun hHeld => ?_)
    clear hK K
    try simp only [List.getElem_toArray, List.getElem_cons_zero, List.getElem_cons_succ, Act.put, List.setIfInBounds_toArray, List.set_cons_zero, List.set_cons_succ]
    refine wpAnyH_ready (rs := [18]) (by kernel_rfl) (by simp) ?_
    refine AllReadyH.cons rfl (fun K hK => ?_) (AllReadyH.nil)
    go_simp
    refine (HCp.out _ (ta.later (thenB B0 BW))).mono ?_
    rintro e X3 ⟨A3, c3, l3, rfl, q1, q2, T3, b1⟩
    have BW := thenB BW b1
    have MO := MO.later b1
    refine hK.out _ _ (KK.out _ BW) (fun hHeld => ?_)
    clear hK K
    try simp only [List.getElem_toArray, List.getElem_cons_zero, List.getElem_cons_succ, Act.put, List.setIfInBounds_toArray, List.set_cons_zero, List.set_cons_succ]
    refine wpAnyH_ready (rs := [19]) (by kernel_rfl) (by simp) ?_
    refine AllReadyH.cons rfl (fun K hK => ?_) (AllReadyH.nil)
    go_simp
    refine (HCk.out _ _ _ _ _ q1 q2 MO T3).mono ?_
    rintro e X4 ⟨rfl, b1⟩
    have BW := thenB BW b1
    have MO := MO.later b1
    have T3 := T3.later b1
    refine hK.out _ _ (KK.out _ BW) (fun hHeld => ?_)
    clear hK K
    try simp only [List.getElem_toArray, List.getElem_cons_zero, List.getElem_cons_succ, Act.put, List.setIfInBounds_toArray, List.set_cons_zero, List.set_cons_succ]
    refine wpAnyH_take (i := 20) (v := .bool false) rfl (by kernel_rfl) (by kernel_rfl) (by kernel_rfl) (fun _ _ _ h => h) (Or.inl ⟨by first | rfl | go_simp, by intro w9 hSw; (try dsimp only at hSw); go_simp⟩) (by assumption) ?_
    simp only [List.getElem_toArray, List.getElem_cons_zero, List.getElem_cons_succ, Act.put, List.setIfInBounds_toArray, List.set_cons_zero, List.set_cons_succ]
    refine wpAnyH_take (i := 21) (v := .bool false) rfl (by kernel_rfl) (by kernel_rfl) (by kernel_rfl) (fun _ _ _ h => h) (Or.inl ⟨by first | rfl | go_simp, by intro w9 hSw; (try dsimp only at hSw); go_simp⟩) (by assumption) ?_
    simp only [List.getElem_toArray, List.getElem_cons_zero, List.getElem_cons_succ, Act.put, List.setIfInBounds_toArray, List.set_cons_zero, List.set_cons_succ]
    refine wpAnyH_take (i := 22) (v := .bool false) rfl (by kernel_rfl) (by kernel_rfl) (by kernel_rfl) (fun _ _ _ h => h) (Or.inl ⟨by first | rfl | go_simp, by intro w9 hSw; (try dsimp only at hSw); go_simp⟩) (by assumption) ?_
    simp only [List.getElem_toArray, List.getElem_cons_zero, List.getElem_cons_succ, Act.put, List.setIfInBounds_toArray, List.set_cons_zero, List.set_cons_succ]
    refine wpAnyH_take (i := 23) (v := .slice (some ⟨b, off, none⟩) n c) rfl (by kernel_rfl) (by kernel_rfl) (by kernel_rfl) (fun _ _ _ h => h) (Or.inl ⟨by first | rfl | go_simp, by intro w9 hSw; (try dsimp only at hSw); go_simp⟩) (by assumption) ?_
    simp only [List.getElem_toArray, List.getElem_cons_zero, List.getElem_cons_succ, Act.put, List.setIfInBounds_toArray, List.set_cons_zero, List.set_cons_succ]
    refine wpAnyH_take (i := 24) (v := .int .i64 (k : Int)) rfl (by kernel_rfl) (by kernel_rfl) (by kernel_rfl) (fun _ _ _ h => h) (Or.inl ⟨by first | rfl | go_simp, by intro w9 hSw; (try dsimp only at hSw); go_simp⟩) (by assumption) ?_
    simp only [List.getElem_toArray, List.getElem_cons_zero, List.getElem_cons_succ, Act.put, List.setIfInBounds_toArray, List.set_cons_zero, List.set_cons_succ]
    refine wpAnyH_take (i := 25) (v := .pointer (some ⟨b, off + k * 5, none⟩)) rfl (by kernel_rfl) (by kernel_rfl) (by kernel_rfl) (fun _ _ _ h => h) (Or.inl ⟨by first | rfl | go_simp, by intro w9 hSw; (try dsimp only at hSw); go_simp⟩) (by assumption) ?_
    simp only [List.getElem_toArray, List.getElem_cons_zero, List.getElem_cons_succ, Act.put, List.setIfInBounds_toArray, List.set_cons_zero, List.set_cons_succ]
    refine wpAnyH_take (i := 26) (v := .pointer (some ⟨b, off + k * 5 + 1, none⟩)) rfl (by kernel_rfl) (by kernel_rfl) (by kernel_rfl) (fun _ _ _ h => h) (Or.inl ⟨by first | rfl | go_simp, by intro w9 hSw; (try dsimp only at hSw); go_simp⟩) (by assumption) ?_
    simp only [List.getElem_toArray, List.getElem_cons_zero, List.getElem_cons_succ, Act.put, List.setIfInBounds_toArray, List.set_cons_zero, List.set_cons_succ]
    refine wpAnyH_take (i := 27) (v := .int .i64 x1) rfl (by kernel_rfl) (by kernel_rfl) (by kernel_rfl) (fun _ _ _ h => h) (Or.inl ⟨by first | rfl | go_simp, by intro w9 hSw; (try dsimp only at hSw); go_simp⟩) (by assumption) ?_
    simp only [List.getElem_toArray, List.getElem_cons_zero, List.getElem_cons_succ, Act.put, List.setIfInBounds_toArray, List.set_cons_zero, List.set_cons_succ]
    refine wpAnyH_take (i := 28) (v := .pointer (some ⟨w.heap.size + 1, 0, none⟩)) rfl (by kernel_rfl) (by kernel_rfl) (by kernel_rfl) (fun _ _ _ h => h) (Or.inl ⟨by first | rfl | go_simp, by intro w9 hSw; (try dsimp only at hSw); go_simp⟩) (by assumption) ?_
    simp only [List.getElem_toArray, List.getElem_cons_zero, List.getElem_cons_succ, Act.put, List.setIfInBounds_toArray, List.set_cons_zero, List.set_cons_succ]
    refine wpAnyH_take (i := 29) (v := .int .i64 d) rfl (by kernel_rfl) (by kernel_rfl) (by kernel_rfl) (fun _ _ _ h => h) (Or.inl ⟨by first | rfl | go_simp, by intro w9 hSw; (try dsimp only at hSw); go_simp⟩) (by assumption) ?_
    simp only [List.getElem_toArray, List.getElem_cons_zero, List.getElem_cons_succ, Act.put, List.setIfInBounds_toArray, List.set_cons_zero, List.set_cons_succ]
    refine wpAnyH_take (i := 30) (v := .bool false) rfl (by kernel_rfl) (by kernel_rfl) (by kernel_rfl) (fun _ _ _ h => h) (Or.inl ⟨by first | rfl | go_simp, by intro w9 hSw; (try dsimp only at hSw); go_simp⟩) (by assumption) ?_
    simp only [List.getElem_toArray, List.getElem_cons_zero, List.getElem_cons_succ, Act.put, List.setIfInBounds_toArray, List.set_cons_zero, List.set_cons_succ]
    refine wpAnyH_take (i := 31) (v := .bool false) rfl (by kernel_rfl) (by kernel_rfl) (by kernel_rfl) (fun _ _ _ h => h) (Or.inl ⟨by first | rfl | go_simp, by intro w9 hSw; (try dsimp only at hSw); go_simp⟩) (by assumption) ?_
    simp only [List.getElem_toArray, List.getElem_cons_zero, List.getElem_cons_succ, Act.put, List.setIfInBounds_toArray, List.set_cons_zero, List.set_cons_succ]
    refine wpAnyH_take (i := 32) (v := .bool false) rfl (by kernel_rfl) (by kernel_rfl) (by kernel_rfl) (fun _ _ _ h => h) (Or.inl ⟨by first | rfl | go_simp, by intro w9 hSw; (try dsimp only at hSw); go_simp⟩) (by assumption) ?_
    simp only [List.getElem_toArray, List.getElem_cons_zero, List.getElem_cons_succ, Act.put, List.setIfInBounds_toArray, List.set_cons_zero, List.set_cons_succ]
    refine wpAnyH_take (i := 33) (v := .slice (some ⟨b, off, none⟩) n c) rfl (by kernel_rfl) (by kernel_rfl) (by kernel_rfl) (fun _ _ _ h => h) (Or.inl ⟨by first | rfl | go_simp, by intro w9 hSw; (try dsimp only at hSw); go_simp⟩) (by assumption) ?_
    simp only [List.getElem_toArray, List.getElem_cons_zero, List.getElem_cons_succ, Act.put, List.setIfInBounds_toArray, List.set_cons_zero, List.set_cons_succ]
    refine wpAnyH_take (i := 34) (v := .int .i64 (k : Int)) rfl (by kernel_rfl) (by kernel_rfl) (by kernel_rfl) (fun _ _ _ h => h) (Or.inl ⟨by first | rfl | go_simp, by intro w9 hSw; (try dsimp only at hSw); go_simp⟩) (by assumption) ?_
    simp only [List.getElem_toArray, List.getElem_cons_zero, List.getElem_cons_succ, Act.put, List.setIfInBounds_toArray, List.set_cons_zero, List.set_cons_succ]
    refine wpAnyH_take (i := 35) (v := .pointer (some ⟨b, off + k * 5, none⟩)) rfl (by kernel_rfl) (by kernel_rfl) (by kernel_rfl) (fun _ _ _ h => h) (Or.inl ⟨by first | rfl | go_simp, by intro w9 hSw; (try dsimp only at hSw); go_simp⟩) (by assumption) ?_
    simp only [List.getElem_toArray, List.getElem_cons_zero, List.getElem_cons_succ, Act.put, List.setIfInBounds_toArray, List.set_cons_zero, List.set_cons_succ]
    refine wpAnyH_take (i := 36) (v := .pointer (some ⟨b, off + k * 5 + 2, none⟩)) rfl (by kernel_rfl) (by kernel_rfl) (by kernel_rfl) (fun _ _ _ h => h) (Or.inl ⟨by first | rfl | go_simp, by intro w9 hSw; (try dsimp only at hSw); go_simp⟩) (by assumption) ?_
    simp only [List.getElem_toArray, List.getElem_cons_zero, List.getElem_cons_succ, Act.put, List.setIfInBounds_toArray, List.set_cons_zero, List.set_cons_succ]
    refine wpAnyH_take (i := 37) (v := .int .i64 x2) rfl (by kernel_rfl) (by kernel_rfl) (by kernel_rfl) (fun _ _ _ h => h) (Or.inl ⟨by first | rfl | go_simp, by intro w9 hSw; (try dsimp only at hSw); go_simp⟩) (by assumption) ?_
    simp only [List.getElem_toArray, List.getElem_cons_zero, List.getElem_cons_succ, Act.put, List.setIfInBounds_toArray, List.set_cons_zero, List.set_cons_succ]
    refine wpAnyH_take (i := 38) (v := .pointer (some ⟨w.heap.size + 1, 1, none⟩)) rfl (by kernel_rfl) (by kernel_rfl) (by kernel_rfl) (fun _ _ _ h => h) (Or.inl ⟨by first | rfl | go_simp, by intro w9 hSw; (try dsimp only at hSw); go_simp⟩) (by assumption) ?_
    simp only [List.getElem_toArray, List.getElem_cons_zero, List.getElem_cons_succ, Act.put, List.setIfInBounds_toArray, List.set_cons_zero, List.set_cons_succ]
    refine wpAnyH_take (i := 39) (v := .int .i64 lh) rfl (by kernel_rfl) (by kernel_rfl) (by kernel_rfl) (fun _ _ _ h => h) (Or.inl ⟨by first | rfl | go_simp, by intro w9 hSw; (try dsimp only at hSw); go_simp⟩) (by assumption) ?_
    simp only [List.getElem_toArray, List.getElem_cons_zero, List.getElem_cons_succ, Act.put, List.setIfInBounds_toArray, List.set_cons_zero, List.set_cons_succ]
    refine wpAnyH_take (i := 40) (v := .bool false) rfl (by kernel_rfl) (by kernel_rfl) (by kernel_rfl) (fun _ _ _ h => h) (Or.inl ⟨by first | rfl | go_simp, by intro w9 hSw; (try dsimp only at hSw); go_simp⟩) (by assumption) ?_
    simp only [List.getElem_toArray, List.getElem_cons_zero, List.getElem_cons_succ, Act.put, List.setIfInBounds_toArray, List.set_cons_zero, List.set_cons_succ]
    refine wpAnyH_take (i := 41) (v := .bool false) rfl (by kernel_rfl) (by kernel_rfl) (by kernel_rfl) (fun _ _ _ h => h) (Or.inl ⟨by first | rfl | go_simp, by intro w9 hSw; (try dsimp only at hSw); go_simp⟩) (by assumption) ?_
    simp only [List.getElem_toArray, List.getElem_cons_zero, List.getElem_cons_succ, Act.put, List.setIfInBounds_toArray, List.set_cons_zero, List.set_cons_succ]
    refine wpAnyH_done (by kernel_rfl) ?_ _
    go_wp2_with fail
    go_meet
    exact ⟨rfl, BW⟩
  case rest =>
    obtain ⟨rfl, BZ2⟩ := hcut
    clear HCk HFew KK e1' e2' BZ
    have BZ := BZ2
    clear BZ2
    go_upto_region 5 with fail
    generalize wc = Z at *
    go_cut [9] from 58 to 67 (fun s9 wx => ∃ A9 c9, ∃ l9 : List Tx, s9 = .slice A9 (k + (n - (k + 1))) c9 ∧ l9.length = k + (n - (k + 1)) ∧ l9.map Tx.tr = xs5.map Tx.tr ∧ TxsAt wx wx.heap.size A9 l9 ∧ Below W.heap.size W wx)
    case first =>
      clear HH1 HH2
      have g51 : (k : Int) ≤ (c : Int) := by omega
      have g52 : IntKind.i64.wrap ((k : Int) + 1) = (k : Int) + 1 := by rw [IntKind.wrap_i64]; omega
      have g53 : 0 ≤ (k : Int) + 1 ∧ (k : Int) + 1 ≤ (n : Int) := by omega
      go_wp2_with fail
      refine wp_region_held_drew (S := (fun w' => Four w' w.heap.size m.dev (.slice q.A m.links.length q.ac) (.slice q.J m.jams.length q.jc) (.slice q.S m.loss.length q.sc) ∧ Four w' (w.heap.size + 1) d (.int .i64 lh) (.int .i64 ls) (.int .i64 le))) (by kernel_rfl) ?_ (fun hHeld => ?_)
      · exact KA.out _ BZ.drew
      have BW : Below W.heap.size W Z.drew := BZ.drew
      generalize Z.drew = X0 at *
      refine wpAnyH_take (i := 0) (v := .slice (some ⟨b, off, none⟩) n c) rfl (by kernel_rfl) (by kernel_rfl) (by kernel_rfl) (fun _ _ _ h => h) (Or.inl ⟨by first | rfl | go_simp, by intro w9 hSw; (try dsimp only at hSw); go_simp⟩) (by assumption) ?_
      simp only [List.getElem_toArray, List.getElem_cons_zero, List.getElem_cons_succ, Act.put, List.setIfInBounds_toArray, List.set_cons_zero, List.set_cons_succ]
      refine wpAnyH_take (i := 1) (v := .int .i64 (k : Int)) rfl (by kernel_rfl) (by kernel_rfl) (by kernel_rfl) (fun _ _ _ h => h) (Or.inl ⟨by first | rfl | go_simp, by intro w9 hSw; (try dsimp only at hSw); go_simp⟩) (by assumption) ?_
      simp only [List.getElem_toArray, List.getElem_cons_zero, List.getElem_cons_succ, Act.put, List.setIfInBounds_toArray, List.set_cons_zero, List.set_cons_succ]
      refine wpAnyH_take (i := 2) (v := .slice (some ⟨b, off, none⟩) k c) rfl (by kernel_rfl) (by kernel_rfl) (by kernel_rfl) (fun _ _ _ h => h) (Or.inl ⟨by first | rfl | go_simp, by intro w9 hSw; (try dsimp only at hSw); go_simp⟩) (by assumption) ?_
      simp only [List.getElem_toArray, List.getElem_cons_zero, List.getElem_cons_succ, Act.put, List.setIfInBounds_toArray, List.set_cons_zero, List.set_cons_succ]
      refine wpAnyH_take (i := 4) (v := .slice (some ⟨b, off, none⟩) n c) rfl (by kernel_rfl) (by kernel_rfl) (by kernel_rfl) (fun _ _ _ h => h) (Or.inl ⟨by first | rfl | go_simp, by intro w9 hSw; (try dsimp only at hSw); go_simp⟩) (by assumption) ?_
      simp only [List.getElem_toArray, List.getElem_cons_zero, List.getElem_cons_succ, Act.put, List.setIfInBounds_toArray, List.set_cons_zero, List.set_cons_succ]
      refine wpAnyH_take (i := 5) (v := .int .i64 (k : Int)) rfl (by kernel_rfl) (by kernel_rfl) (by kernel_rfl) (fun _ _ _ h => h) (Or.inl ⟨by first | rfl | go_simp, by intro w9 hSw; (try dsimp only at hSw); go_simp⟩) (by assumption) ?_
      simp only [List.getElem_toArray, List.getElem_cons_zero, List.getElem_cons_succ, Act.put, List.setIfInBounds_toArray, List.set_cons_zero, List.set_cons_succ]
      refine wpAnyH_take (i := 6) (v := .int .i64 ((k : Int) + 1)) rfl (by kernel_rfl) (by kernel_rfl) (by kernel_rfl) (fun _ _ _ h => h) (Or.inl ⟨by first | rfl | go_simp, by intro w9 hSw; (try dsimp only at hSw); go_simp⟩) (by assumption) ?_
      simp only [List.getElem_toArray, List.getElem_cons_zero, List.getElem_cons_succ, Act.put, List.setIfInBounds_toArray, List.set_cons_zero, List.set_cons_succ]
      refine wpAnyH_take (i := 7) (v := .slice (if c = k + 1 then some ⟨b, off, none⟩ else some ⟨b, off + (k + 1) * 5, none⟩) (n - (k + 1)) (c - (k + 1))) rfl (by kernel_rfl) (by kernel_rfl) (by kernel_rfl) (fun _ _ _ h => h) (Or.inl ⟨by first | rfl | go_simp, by intro w9 hSw; (try dsimp only at hSw); go_simp⟩) (by assumption) ?_
      simp only [List.getElem_toArray, List.getElem_cons_zero, List.getElem_cons_succ, Act.put, List.setIfInBounds_toArray, List.set_cons_zero, List.set_cons_succ]
      refine wpAnyH_ready (rs := [3]) (by kernel_rfl) (by simp) ?_
      refine AllReadyH.cons rfl (fun K hK => ?_) (AllReadyH.nil)
      go_simp
      refine (HCo.out _ (thenB (Below.refl _ _) BW) _ _ _ k (HT1.out _ BW) ht1 (by omega)).mono ?_
      rintro e X1 ⟨A3, c3, l3, rfl, q1, q2, O3, N3, b1⟩
      have BW := thenB BW b1
      refine hK.out _ _ (KA.out _ BW) (fun hHeld => ?_)
      clear hK K
      try simp only [List.getElem_toArray, List.getElem_cons_zero, List.getElem_cons_succ, Act.put, List.setIfInBounds_toArray, List.set_cons_zero, List.set_cons_succ]
      refine wpAnyH_ready (rs := [8]) (by kernel_rfl) (by simp) ?_
      refine AllReadyH.cons rfl (fun K hK => ?_) (AllReadyH.nil)
      go_simp
      refine (HCo.out _ (thenB (Below.refl _ _) BW) _ _ _ (n - (k + 1)) (HT2.out _ BW) ht2 (by omega)).mono ?_
      rintro e X2 ⟨A4, c4, l4, rfl, r1, r2, O4, N4, b1⟩
      have BW := thenB BW b1
      have O3 := own_below O3 b1
      have N3 := mine_below N3 b1
      refine hK.out _ _ (KA.out _ BW) (fun hHeld => ?_)
      clear hK K
      try simp only [List.getElem_toArray, List.getElem_cons_zero, List.getElem_cons_succ, Act.put, List.setIfInBounds_toArray, List.set_cons_zero, List.set_cons_succ]
      refine wpAnyH_ready (rs := [9]) (by kernel_rfl) (by simp) ?_
      refine AllReadyH.cons rfl (fun K hK => ?_) (AllReadyH.nil)
      refine step_append_rows rfl (.tmp 61) (.tmp 66) 35 rfl W.heap.size 24 iT _ 5 56 Try.underlying35 hi hz hs hb5 hc0 (by decide) (.slice A3 k c3) k (l3.flatMap encT) rfl O3 _ A4 (n - (k + 1)) c4 (l4.flatMap encT) rfl (by rw [flat_len sizT, r1]) (flat_one sizT l4) (CellsAt.own O4) (by unfold maxLen; omega) (by omega) (BW.size) ?_
      intro v5 X3 O5 b5 g5
      obtain ⟨A5, c5, rfl⟩ := own_form O5
      have M5 := Lib.hid (mine_app O3 g5 N3 N4)
      have BW := BW.trans b5
      refine hK.out _ _ (KA.out _ BW) (fun hHeld => ?_)
      clear hK K
      try simp only [List.getElem_toArray, List.getElem_cons_zero, List.getElem_cons_succ, Act.put, List.setIfInBounds_toArray, List.set_cons_zero, List.set_cons_succ]
      refine wpAnyH_take (i := 10) (v := .slice A5 (k + (n - (k + 1))) c5) rfl (by kernel_rfl) (by kernel_rfl) (by kernel_rfl) (fun _ _ _ h => h) (Or.inl ⟨by first | rfl | go_simp, by intro w9 hSw; (try dsimp only at hSw); go_simp⟩) (by assumption) ?_
      simp only [List.getElem_toArray, List.getElem_cons_zero, List.getElem_cons_succ, Act.put, List.setIfInBounds_toArray, List.set_cons_zero, List.set_cons_succ]
      refine wpAnyH_done (by kernel_rfl) ?_ _
      generalize (if c = k + 1 then (some ⟨b, off, none⟩ : Option Addr) else some ⟨b, off + (k + 1) * 5, none⟩) = A8 at *
      go_wp2_with fail
      go_meet
      exact ⟨A5, c5, l3 ++ l4, rfl, by rw [List.length_append, q1, r1], by rw [List.map_append, q2, r2, ← hts5, List.map_append], ⟨by show CellsAt _ _ _ _; rw [flat_append]; exact CellsAt.own O5, M5.out⟩, BW⟩
    case rest =>
      obtain ⟨A9, c9, l9, rfl, n9, m9, T9, BZ2⟩ := hcut
      clear HCo HT1 HT2 BZ
      have BZ := BZ2
      clear BZ2
      go_upto_region 6 with fail
      generalize wc = Z5 at *
      go_cut [10, 11] from 68 to 76 (fun s10 s11 wx => ∃ G RA rc, s10 = .pointer (some ⟨G, 0, none⟩) ∧ s11 = .bool ok ∧ wx.cell? ⟨G, 0, none⟩ = some (.int .i64 r0) ∧ wx.cell? ⟨G, 1, none⟩ = some (.int .i64 r1) ∧ wx.cell? ⟨G, 2, none⟩ = some (.int .i64 r2) ∧ wx.cell? ⟨G, 3, none⟩ = some (.int .i64 r3) ∧ wx.cell? ⟨G, 4, none⟩ = some (.int .i64 r4) ∧ wx.cell? ⟨G, 5, none⟩ = some (.slice RA bs.length rc) ∧ Ints .u8 wx wx.heap.size RA bs ∧ Below Z5.heap.size Z5 wx)
      case first =>
        clear HH2 T9
        go_wp2_with fail
        refine wp_region_held_drew (S := (fun w' => Four w' w.heap.size m.dev (.slice q.A m.links.length q.ac) (.slice q.J m.jams.length q.jc) (.slice q.S m.loss.length q.sc) ∧ Four w' (w.heap.size + 1) d (.int .i64 lh) (.int .i64 ls) (.int .i64 le))) (by kernel_rfl) ?_ (fun hHeld => ?_)
        · exact KA.out _ BZ.drew
        have BW : Below W.heap.size W Z5.drew := BZ.drew
        have BX : Below Z5.heap.size Z5 Z5.drew := (Below.refl _ _).drew
        generalize Z5.drew = X0 at *
        refine wpAnyH_take (i := 0) (v := .agg #[.int .i64 m.dev, .slice q.A m.links.length q.ac, .slice q.J m.jams.length q.jc, .slice q.S m.loss.length q.sc]) rfl (by kernel_rfl) (by kernel_rfl) (by kernel_rfl) (fun _ _ _ h => h) (Or.inl ⟨by first | rfl | go_simp, by intro w9 hSw; (try dsimp only at hSw); go_simp⟩) (by assumption) ?_
        simp only [List.getElem_toArray, List.getElem_cons_zero, List.getElem_cons_succ, Act.put, List.setIfInBounds_toArray, List.set_cons_zero, List.set_cons_succ]
        refine wpAnyH_take (i := 2) (v := .slice (some ⟨b, off, none⟩) n c) rfl (by kernel_rfl) (by kernel_rfl) (by kernel_rfl) (fun _ _ _ h => h) (Or.inl ⟨by first | rfl | go_simp, by intro w9 hSw; (try dsimp only at hSw); go_simp⟩) (by assumption) ?_
        simp only [List.getElem_toArray, List.getElem_cons_zero, List.getElem_cons_succ, Act.put, List.setIfInBounds_toArray, List.set_cons_zero, List.set_cons_succ]
        refine wpAnyH_take (i := 4) (v := .agg #[.int .i64 d, .int .i64 lh, .int .i64 ls, .int .i64 le]) rfl (by kernel_rfl) (by kernel_rfl) (by kernel_rfl) (fun _ _ _ h => h) (Or.inl ⟨by first | rfl | go_simp, by intro w9 hSw; (try dsimp only at hSw); go_simp⟩) (by assumption) ?_
        simp only [List.getElem_toArray, List.getElem_cons_zero, List.getElem_cons_succ, Act.put, List.setIfInBounds_toArray, List.set_cons_zero, List.set_cons_succ]
        refine wpAnyH_ready (rs := [1, 9]) (by kernel_rfl) (by simp) ?_
        refine AllReadyH.cons rfl (fun K hK => ?_) (AllReadyH.cons rfl (fun K hK => ?_) (AllReadyH.nil))
        · skip
          go_simp
          refine (HOwn.out _ (hM.later (thenB B0 BW))).mono ?_
          rintro e X1 ⟨p1, rfl, MO, b1⟩
          have BW := thenB BW b1
          have BX := thenB BX b1
          refine hK.out _ _ (KA.out _ BW) (fun hHeld => ?_)
          clear hK K
          try simp only [List.getElem_toArray, List.getElem_cons_zero, List.getElem_cons_succ, Act.put, List.setIfInBounds_toArray, List.set_cons_zero, List.set_cons_succ]
          refine wpAnyH_ready (rs := [3, 9]) (by kernel_rfl) (by simp) ?_
          refine AllReadyH.cons rfl (fun K hK => ?_) (AllReadyH.cons rfl (fun K hK => ?_) (AllReadyH.nil))
          · skip
            go_simp
            refine (HCp.out _ (ta.later (thenB B0 BW))).mono ?_
            rintro e X2 ⟨A3, c3, l3, rfl, q1, q2, T3, b1⟩
            have BW := thenB BW b1
            have BX := thenB BX b1
            have MO := MO.later b1
            refine hK.out _ _ (KA.out _ BW) (fun hHeld => ?_)
            clear hK K
            try simp only [List.getElem_toArray, List.getElem_cons_zero, List.getElem_cons_succ, Act.put, List.setIfInBounds_toArray, List.set_cons_zero, List.set_cons_succ]
            refine wpAnyH_ready (rs := [5, 9]) (by kernel_rfl) (by simp) ?_
            refine AllReadyH.cons rfl (fun K hK => ?_) (AllReadyH.cons rfl (fun K hK => ?_) (AllReadyH.nil))
            · skip
              go_simp
              refine (HH1.out _ _ _ _ _ q1 q2 MO T3).mono ?_
              rintro e X3 ⟨RA, rc, rfl, iN, b1⟩
              have iR := new_ints iN
              have BW := thenB BW b1
              have BX := thenB BX b1
              have MO := MO.later b1
              have T3 := T3.later b1
              refine hK.out _ _ (KA.out _ BW) (fun hHeld => ?_)
              clear hK K
              try simp only [List.getElem_toArray, List.getElem_cons_zero, List.getElem_cons_succ, Act.put, List.setIfInBounds_toArray, List.set_cons_zero, List.set_cons_succ]
              refine wpAnyH_take (i := 6) (v := .tuple #[.agg #[.int .i64 r0, .int .i64 r1, .int .i64 r2, .int .i64 r3, .int .i64 r4, .slice RA bs.length rc], .bool ok]) rfl (by kernel_rfl) (by kernel_rfl) (by kernel_rfl) (fun _ _ _ h => h) (Or.inl ⟨by first | rfl | go_simp, by intro w9 hSw; (try dsimp only at hSw); go_simp⟩) (by assumption) ?_
              simp only [List.getElem_toArray, List.getElem_cons_zero, List.getElem_cons_succ, Act.put, List.setIfInBounds_toArray, List.set_cons_zero, List.set_cons_succ]
              refine wpAnyH_take (i := 7) (v := .agg #[.int .i64 r0, .int .i64 r1, .int .i64 r2, .int .i64 r3, .int .i64 r4, .slice RA bs.length rc]) rfl (by kernel_rfl) (by kernel_rfl) (by kernel_rfl) (fun _ _ _ h => h) (Or.inl ⟨by first | rfl | go_simp, by intro w9 hSw; (try dsimp only at hSw); go_simp⟩) (by assumption) ?_
              simp only [List.getElem_toArray, List.getElem_cons_zero, List.getElem_cons_succ, Act.put, List.setIfInBounds_toArray, List.set_cons_zero, List.set_cons_succ]
              refine wpAnyH_take (i := 8) (v := .bool ok) rfl (by kernel_rfl) (by kernel_rfl) (by kernel_rfl) (fun _ _ _ h => h) (Or.inl ⟨by first | rfl | go_simp, by intro w9 hSw; (try dsimp only at hSw); go_simp⟩) (by assumption) ?_
              simp only [List.getElem_toArray, List.getElem_cons_zero, List.getElem_cons_succ, Act.put, List.setIfInBounds_toArray, List.set_cons_zero, List.set_cons_succ]
              refine wpAnyH_ready (rs := [9]) (by kernel_rfl) (by simp) ?_
              refine AllReadyH.cons rfl (fun K hK => ?_) (AllReadyH.nil)
              go_simp
              have hGZ := BX.size
              have b1 := (Below.refl _ X3).alloc (Nat.le_refl _) (.cells #[.int .i64 0, .int .i64 0, .int .i64 0, .int .i64 0, .int .i64 0, .slice none 0 0] 46)
              have RB := Blk.fresh X3 46 #[.int .i64 0, .int .i64 0, .int .i64 0, .int .i64 0, .int .i64 0, .slice none 0 0]
              have hG := BW.size
              have iG := iR.below b1
              generalize X3.alloc (.cells #[.int .i64 0, .int .i64 0, .int .i64 0, .int .i64 0, .int .i64 0, .slice none 0 0] 46) = X4 at *
              have BW := thenB BW b1
              have BX := thenB BX b1
              have MO := MO.later b1
              have T3 := T3.later b1
              refine hK.out _ _ (KA.out _ BW) (fun hHeld => ?_)
              clear hK K
              try simp only [List.getElem_toArray, List.getElem_cons_zero, List.getElem_cons_succ, Act.put, List.setIfInBounds_toArray, List.set_cons_zero, List.set_cons_succ]
              refine wpAnyH_ready (rs := [10]) (by kernel_rfl) (by simp) ?_
              refine AllReadyH.cons rfl (fun K hK => ?_) (AllReadyH.nil)
              have hGX : Z5.heap.size ≤ X3.heap.size := hGZ
              obtain ⟨s0, s1, s2, s3, s4, s5, z0, z1, z2, z3, z4, z5⟩ := blk_six RB
              obtain ⟨⟨e0, e1, e2, e3, e4, e5⟩, _, bY⟩ := leaf_six (.int .i64 r0) (.int .i64 r1) (.int .i64 r2) (.int .i64 r3) (.int .i64 r4) (.slice RA bs.length rc) RB BX hGX
              have E6 := Lib.hid (And.intro e0 (And.intro e1 (And.intro e2 (And.intro e3 (And.intro e4 (And.intro e5 bY))))))
              have jR := Lib.hid (ints_set6 (.int .i64 r0) (.int .i64 r1) (.int .i64 r2) (.int .i64 r3) (.int .i64 r4) (.slice RA bs.length rc) iG (g := X3.heap.size) (Nat.le_refl _) (Nat.le_of_lt RB.lt))
              clear e0 e1 e2 e3 e4 e5 bY
              go_simp
              generalize ((((((X4.setCell ⟨X3.heap.size, 0, none⟩ (.int .i64 r0)).setCell ⟨X3.heap.size, 1, none⟩ (.int .i64 r1)).setCell ⟨X3.heap.size, 2, none⟩ (.int .i64 r2)).setCell ⟨X3.heap.size, 3, none⟩ (.int .i64 r3)).setCell ⟨X3.heap.size, 4, none⟩ (.int .i64 r4)).setCell ⟨X3.heap.size, 5, none⟩ (.slice RA bs.length rc)) = X5 at *
              have BX := E6.out.2.2.2.2.2.2
              have BW := thenB BZ BX
              refine hK.out _ _ (KA.out _ BW) (fun hHeld => ?_)
              clear hK K
              try simp only [List.getElem_toArray, List.getElem_cons_zero, List.getElem_cons_succ, Act.put, List.setIfInBounds_toArray, List.set_cons_zero, List.set_cons_succ]
              refine wpAnyH_take (i := 11) (v := .bool ok) rfl (by kernel_rfl) (by kernel_rfl) (by kernel_rfl) (fun _ _ _ h => h) (Or.inl ⟨by first | rfl | go_simp, by intro w9 hSw; (try dsimp only at hSw); go_simp⟩) (by assumption) ?_
              simp only [List.getElem_toArray, List.getElem_cons_zero, List.getElem_cons_succ, Act.put, List.setIfInBounds_toArray, List.set_cons_zero, List.set_cons_succ]
              refine wpAnyH_done (by kernel_rfl) ?_ _
              go_wp2_with fail
              go_meet
              exact ⟨_, RA, rc, rfl, rfl, E6.out.1, E6.out.2.1, E6.out.2.2.1, E6.out.2.2.2.1, E6.out.2.2.2.2.1, E6.out.2.2.2.2.2.1, by first | exact jR.out | exact new_ints jR.out, BX⟩
            · skip
              go_simp
              have hGZ := BX.size
              have b1 := (Below.refl _ X2).alloc (Nat.le_refl _) (.cells #[.int .i64 0, .int .i64 0, .int .i64 0, .int .i64 0, .int .i64 0, .slice none 0 0] 46)
              have RB := Blk.fresh X2 46 #[.int .i64 0, .int .i64 0, .int .i64 0, .int .i64 0, .int .i64 0, .slice none 0 0]
              have hG := BW.size
              generalize X2.alloc (.cells #[.int .i64 0, .int .i64 0, .int .i64 0, .int .i64 0, .int .i64 0, .slice none 0 0] 46) = X6 at *
              have BW := thenB BW b1
              have BX := thenB BX b1
              have MO := MO.later b1
              have T3 := T3.later b1
              refine hK.out _ _ (KA.out _ BW) (fun hHeld => ?_)
              clear hK K
              try simp only [List.getElem_toArray, List.getElem_cons_zero, List.getElem_cons_succ, Act.put, List.setIfInBounds_toArray, List.set_cons_zero, List.set_cons_succ]
              refine wpAnyH_ready (rs := [5]) (by kernel_rfl) (by simp) ?_
              refine AllReadyH.cons rfl (fun K hK => ?_) (AllReadyH.nil)
              go_simp
              have hRG := RB.lt
              refine (HH1.out _ _ _ _ _ q1 q2 MO T3).mono ?_
              rintro e X7 ⟨RA, rc, rfl, iN, b1⟩
              have BW := thenB BW b1
              have BX := thenB BX b1
              have MO := MO.later b1
              have T3 := T3.later b1
              have RB := RB.below b1 RB.lt
              refine hK.out _ _ (KA.out _ BW) (fun hHeld => ?_)
              clear hK K
              try simp only [List.getElem_toArray, List.getElem_cons_zero, List.getElem_cons_succ, Act.put, List.setIfInBounds_toArray, List.set_cons_zero, List.set_cons_succ]
              refine wpAnyH_take (i := 6) (v := .tuple #[.agg #[.int .i64 r0, .int .i64 r1, .int .i64 r2, .int .i64 r3, .int .i64 r4, .slice RA bs.length rc], .bool ok]) rfl (by kernel_rfl) (by kernel_rfl) (by kernel_rfl) (fun _ _ _ h => h) (Or.inl ⟨by first | rfl | go_simp, by intro w9 hSw; (try dsimp only at hSw); go_simp⟩) (by assumption) ?_
              simp only [List.getElem_toArray, List.getElem_cons_zero, List.getElem_cons_succ, Act.put, List.setIfInBounds_toArray, List.set_cons_zero, List.set_cons_succ]
              refine wpAnyH_take (i := 7) (v := .agg #[.int .i64 r0, .int .i64 r1, .int .i64 r2, .int .i64 r3, .int .i64 r4, .slice RA bs.length rc]) rfl (by kernel_rfl) (by kernel_rfl) (by kernel_rfl) (fun _ _ _ h => h) (Or.inl ⟨by first | rfl | go_simp, by intro w9 hSw; (try dsimp only at hSw); go_simp⟩) (by assumption) ?_
              simp only [List.getElem_toArray, List.getElem_cons_zero, List.getElem_cons_succ, Act.put, List.setIfInBounds_toArray, List.set_cons_zero, List.set_cons_succ]
              refine wpAnyH_take (i := 8) (v := .bool ok) rfl (by kernel_rfl) (by kernel_rfl) (by kernel_rfl) (fun _ _ _ h => h) (Or.inl ⟨by first | rfl | go_simp, by intro w9 hSw; (try dsimp only at hSw); go_simp⟩) (by assumption) ?_
              simp only [List.getElem_toArray, List.getElem_cons_zero, List.getElem_cons_succ, Act.put, List.setIfInBounds_toArray, List.set_cons_zero, List.set_cons_succ]
              refine wpAnyH_ready (rs := [10]) (by kernel_rfl) (by simp) ?_
              refine AllReadyH.cons rfl (fun K hK => ?_) (AllReadyH.nil)
              have hGX : Z5.heap.size ≤ X2.heap.size := hGZ
              obtain ⟨s0, s1, s2, s3, s4, s5, z0, z1, z2, z3, z4, z5⟩ := blk_six RB
              obtain ⟨⟨e0, e1, e2, e3, e4, e5⟩, _, bY⟩ := leaf_six (.int .i64 r0) (.int .i64 r1) (.int .i64 r2) (.int .i64 r3) (.int .i64 r4) (.slice RA bs.length rc) RB BX hGX
              have E6 := Lib.hid (And.intro e0 (And.intro e1 (And.intro e2 (And.intro e3 (And.intro e4 (And.intro e5 bY))))))
              have jR := Lib.hid (new_set6 (.int .i64 r0) (.int .i64 r1) (.int .i64 r2) (.int .i64 r3) (.int .i64 r4) (.slice RA bs.length rc) iN (g := X2.heap.size) hRG)
              clear e0 e1 e2 e3 e4 e5 bY
              go_simp
              generalize ((((((X7.setCell ⟨X2.heap.size, 0, none⟩ (.int .i64 r0)).setCell ⟨X2.heap.size, 1, none⟩ (.int .i64 r1)).setCell ⟨X2.heap.size, 2, none⟩ (.int .i64 r2)).setCell ⟨X2.heap.size, 3, none⟩ (.int .i64 r3)).setCell ⟨X2.heap.size, 4, none⟩ (.int .i64 r4)).setCell ⟨X2.heap.size, 5, none⟩ (.slice RA bs.length rc)) = X8 at *
              have BX := E6.out.2.2.2.2.2.2
              have BW := thenB BZ BX
              refine hK.out _ _ (KA.out _ BW) (fun hHeld => ?_)
              clear hK K
              try simp only [List.getElem_toArray, List.getElem_cons_zero, List.getElem_cons_succ, Act.put, List.setIfInBounds_toArray, List.set_cons_zero, List.set_cons_succ]
              refine wpAnyH_take (i := 11) (v := .bool ok) rfl (by kernel_rfl) (by kernel_rfl) (by kernel_rfl) (fun _ _ _ h => h) (Or.inl ⟨by first | rfl | go_simp, by intro w9 hSw; (try dsimp only at hSw); go_simp⟩) (by assumption) ?_
              simp only [List.getElem_toArray, List.getElem_cons_zero, List.getElem_cons_succ, Act.put, List.setIfInBounds_toArray, List.set_cons_zero, List.set_cons_succ]
              refine wpAnyH_done (by kernel_rfl) ?_ _
              go_wp2_with fail
              go_meet
              exact ⟨_, RA, rc, rfl, rfl, E6.out.1, E6.out.2.1, E6.out.2.2.1, E6.out.2.2.2.1, E6.out.2.2.2.2.1, E6.out.2.2.2.2.2.1, by first | exact jR.out | exact new_ints jR.out, BX⟩
          · skip
            go_simp
            have hGZ := BX.size
            have b1 := (Below.refl _ X1).alloc (Nat.le_refl _) (.cells #[.int .i64 0, .int .i64 0, .int .i64 0, .int .i64 0, .int .i64 0, .slice none 0 0] 46)
            have RB := Blk.fresh X1 46 #[.int .i64 0, .int .i64 0, .int .i64 0, .int .i64 0, .int .i64 0, .slice none 0 0]
            have hG := BW.size
            generalize X1.alloc (.cells #[.int .i64 0, .int .i64 0, .int .i64 0, .int .i64 0, .int .i64 0, .slice none 0 0] 46) = X9 at *
            have BW := thenB BW b1
            have BX := thenB BX b1
            have MO := MO.later b1
            refine hK.out _ _ (KA.out _ BW) (fun hHeld => ?_)
            clear hK K
            try simp only [List.getElem_toArray, List.getElem_cons_zero, List.getElem_cons_succ, Act.put, List.setIfInBounds_toArray, List.set_cons_zero, List.set_cons_succ]
            refine wpAnyH_ready (rs := [3]) (by kernel_rfl) (by simp) ?_
            refine AllReadyH.cons rfl (fun K hK => ?_) (AllReadyH.nil)
            go_simp
            refine (HCp.out _ (ta.later (thenB B0 BW))).mono ?_
            rintro e X10 ⟨A3, c3, l3, rfl, q1, q2, T3, b1⟩
            have BW := thenB BW b1
            have BX := thenB BX b1
            have MO := MO.later b1
            have RB := RB.below b1 RB.lt
            refine hK.out _ _ (KA.out _ BW) (fun hHeld => ?_)
            clear hK K
            try simp only [List.getElem_toArray, List.getElem_cons_zero, List.getElem_cons_succ, Act.put, List.setIfInBounds_toArray, List.set_cons_zero, List.set_cons_succ]
            refine wpAnyH_ready (rs := [5]) (by kernel_rfl) (by simp) ?_
            refine AllReadyH.cons rfl (fun K hK => ?_) (AllReadyH.nil)
            go_simp
            have hRG := RB.lt
            refine (HH1.out _ _ _ _ _ q1 q2 MO T3).mono ?_
            rintro e X11 ⟨RA, rc, rfl, iN, b1⟩
            have BW := thenB BW b1
            have BX := thenB BX b1
            have MO := MO.later b1
            have RB := RB.below b1 RB.lt
            have T3 := T3.later b1
            refine hK.out _ _ (KA.out _ BW) (fun hHeld => ?_)
            clear hK K
            try simp only [List.getElem_toArray, List.getElem_cons_zero, List.getElem_cons_succ, Act.put, List.setIfInBounds_toArray, List.set_cons_zero, List.set_cons_succ]
            refine wpAnyH_take (i := 6) (v := .tuple #[.agg #[.int .i64 r0, .int .i64 r1, .int .i64 r2, .int .i64 r3, .int .i64 r4, .slice RA bs.length rc], .bool ok]) rfl (by kernel_rfl) (by kernel_rfl) (by kernel_rfl) (fun _ _ _ h => h) (Or.inl ⟨by first | rfl | go_simp, by intro w9 hSw; (try dsimp only at hSw); go_simp⟩) (by assumption) ?_
            simp only [List.getElem_toArray, List.getElem_cons_zero, List.getElem_cons_succ, Act.put, List.setIfInBounds_toArray, List.set_cons_zero, List.set_cons_succ]
            refine wpAnyH_take (i := 7) (v := .agg #[.int .i64 r0, .int .i64 r1, .int .i64 r2, .int .i64 r3, .int .i64 r4, .slice RA bs.length rc]) rfl (by kernel_rfl) (by kernel_rfl) (by kernel_rfl) (fun _ _ _ h => h) (Or.inl ⟨by first | rfl | go_simp, by intro w9 hSw; (try dsimp only at hSw); go_simp⟩) (by assumption) ?_
            simp only [List.getElem_toArray, List.getElem_cons_zero, List.getElem_cons_succ, Act.put, List.setIfInBounds_toArray, List.set_cons_zero, List.set_cons_succ]
            refine wpAnyH_take (i := 8) (v := .bool ok) rfl (by kernel_rfl) (by kernel_rfl) (by kernel_rfl) (fun _ _ _ h => h) (Or.inl ⟨by first | rfl | go_simp, by intro w9 hSw; (try dsimp only at hSw); go_simp⟩) (by assumption) ?_
            simp only [List.getElem_toArray, List.getElem_cons_zero, List.getElem_cons_succ, Act.put, List.setIfInBounds_toArray, List.set_cons_zero, List.set_cons_succ]
            refine wpAnyH_ready (rs := [10]) (by kernel_rfl) (by simp) ?_
            refine AllReadyH.cons rfl (fun K hK => ?_) (AllReadyH.nil)
            have hGX : Z5.heap.size ≤ X1.heap.size := hGZ
            obtain ⟨s0, s1, s2, s3, s4, s5, z0, z1, z2, z3, z4, z5⟩ := blk_six RB
            obtain ⟨⟨e0, e1, e2, e3, e4, e5⟩, _, bY⟩ := leaf_six (.int .i64 r0) (.int .i64 r1) (.int .i64 r2) (.int .i64 r3) (.int .i64 r4) (.slice RA bs.length rc) RB BX hGX
            have E6 := Lib.hid (And.intro e0 (And.intro e1 (And.intro e2 (And.intro e3 (And.intro e4 (And.intro e5 bY))))))
            have jR := Lib.hid (new_set6 (.int .i64 r0) (.int .i64 r1) (.int .i64 r2) (.int .i64 r3) (.int .i64 r4) (.slice RA bs.length rc) iN (g := X1.heap.size) hRG)
            clear e0 e1 e2 e3 e4 e5 bY
            go_simp
            generalize ((((((X11.setCell ⟨X1.heap.size, 0, none⟩ (.int .i64 r0)).setCell ⟨X1.heap.size, 1, none⟩ (.int .i64 r1)).setCell ⟨X1.heap.size, 2, none⟩ (.int .i64 r2)).setCell ⟨X1.heap.size, 3, none⟩ (.int .i64 r3)).setCell ⟨X1.heap.size, 4, none⟩ (.int .i64 r4)).setCell ⟨X1.heap.size, 5, none⟩ (.slice RA bs.length rc)) = X12 at *
            have BX := E6.out.2.2.2.2.2.2
            have BW := thenB BZ BX
            refine hK.out _ _ (KA.out _ BW) (fun hHeld => ?_)
            clear hK K
            try simp only [List.getElem_toArray, List.getElem_cons_zero, List.getElem_cons_succ, Act.put, List.setIfInBounds_toArray, List.set_cons_zero, List.set_cons_succ]
            refine wpAnyH_take (i := 11) (v := .bool ok) rfl (by kernel_rfl) (by kernel_rfl) (by kernel_rfl) (fun _ _ _ h => h) (Or.inl ⟨by first | rfl | go_simp, by intro w9 hSw; (try dsimp only at hSw); go_simp⟩) (by assumption) ?_
            simp only [List.getElem_toArray, List.getElem_cons_zero, List.getElem_cons_succ, Act.put, List.setIfInBounds_toArray, List.set_cons_zero, List.set_cons_succ]
            refine wpAnyH_done (by kernel_rfl) ?_ _
            go_wp2_with fail
            go_meet
            exact ⟨_, RA, rc, rfl, rfl, E6.out.1, E6.out.2.1, E6.out.2.2.1, E6.out.2.2.2.1, E6.out.2.2.2.2.1, E6.out.2.2.2.2.2.1, by first | exact jR.out | exact new_ints jR.out, BX⟩
        · skip
          go_simp
          have hGZ := BX.size
          have b1 := (Below.refl _ X0).alloc (Nat.le_refl _) (.cells #[.int .i64 0, .int .i64 0, .int .i64 0, .int .i64 0, .int .i64 0, .slice none 0 0] 46)
          have RB := Blk.fresh X0 46 #[.int .i64 0, .int .i64 0, .int .i64 0, .int .i64 0, .int .i64 0, .slice none 0 0]
          have hG := BW.size
          generalize X0.alloc (.cells #[.int .i64 0, .int .i64 0, .int .i64 0, .int .i64 0, .int .i64 0, .slice none 0 0] 46) = X13 at *
          have BW := thenB BW b1
          have BX := thenB BX b1
          refine hK.out _ _ (KA.out _ BW) (fun hHeld => ?_)
          clear hK K
          try simp only [List.getElem_toArray, List.getElem_cons_zero, List.getElem_cons_succ, Act.put, List.setIfInBounds_toArray, List.set_cons_zero, List.set_cons_succ]
          refine wpAnyH_ready (rs := [1]) (by kernel_rfl) (by simp) ?_
          refine AllReadyH.cons rfl (fun K hK => ?_) (AllReadyH.nil)
          go_simp
          refine (HOwn.out _ (hM.later (thenB B0 BW))).mono ?_
          rintro e X14 ⟨p1, rfl, MO, b1⟩
          have BW := thenB BW b1
          have BX := thenB BX b1
          have RB := RB.below b1 RB.lt
          refine hK.out _ _ (KA.out _ BW) (fun hHeld => ?_)
          clear hK K
          try simp only [List.getElem_toArray, List.getElem_cons_zero, List.getElem_cons_succ, Act.put, List.setIfInBounds_toArray, List.set_cons_zero, List.set_cons_succ]
          refine wpAnyH_ready (rs := [3]) (by kernel_rfl) (by simp) ?_
          refine AllReadyH.cons rfl (fun K hK => ?_) (AllReadyH.nil)
          go_simp
          refine (HCp.out _ (ta.later (thenB B0 BW))).mono ?_
          rintro e X15 ⟨A3, c3, l3, rfl, q1, q2, T3, b1⟩
          have BW := thenB BW b1
          have BX := thenB BX b1
          have RB := RB.below b1 RB.lt
          have MO := MO.later b1
          refine hK.out _ _ (KA.out _ BW) (fun hHeld => ?_)
          clear hK K
          try simp only [List.getElem_toArray, List.getElem_cons_zero, List.getElem_cons_succ, Act.put, List.setIfInBounds_toArray, List.set_cons_zero, List.set_cons_succ]
          refine wpAnyH_ready (rs := [5]) (by kernel_rfl) (by simp) ?_
          refine AllReadyH.cons rfl (fun K hK => ?_) (AllReadyH.nil)
          go_simp
          have hRG := RB.lt
          refine (HH1.out _ _ _ _ _ q1 q2 MO T3).mono ?_
          rintro e X16 ⟨RA, rc, rfl, iN, b1⟩
          have BW := thenB BW b1
          have BX := thenB BX b1
          have RB := RB.below b1 RB.lt
          have MO := MO.later b1
          have T3 := T3.later b1
          refine hK.out _ _ (KA.out _ BW) (fun hHeld => ?_)
          clear hK K
          try simp only [List.getElem_toArray, List.getElem_cons_zero, List.getElem_cons_succ, Act.put, List.setIfInBounds_toArray, List.set_cons_zero, List.set_cons_succ]
          refine wpAnyH_take (i := 6) (v := .tuple #[.agg #[.int .i64 r0, .int .i64 r1, .int .i64 r2, .int .i64 r3, .int .i64 r4, .slice RA bs.length rc], .bool ok]) rfl (by kernel_rfl) (by kernel_rfl) (by kernel_rfl) (fun _ _ _ h => h) (Or.inl ⟨by first | rfl | go_simp, by intro w9 hSw; (try dsimp only at hSw); go_simp⟩) (by assumption) ?_
          simp only [List.getElem_toArray, List.getElem_cons_zero, List.getElem_cons_succ, Act.put, List.setIfInBounds_toArray, List.set_cons_zero, List.set_cons_succ]
          refine wpAnyH_take (i := 7) (v := .agg #[.int .i64 r0, .int .i64 r1, .int .i64 r2, .int .i64 r3, .int .i64 r4, .slice RA bs.length rc]) rfl (by kernel_rfl) (by kernel_rfl) (by kernel_rfl) (fun _ _ _ h => h) (Or.inl ⟨by first | rfl | go_simp, by intro w9 hSw; (try dsimp only at hSw); go_simp⟩) (by assumption) ?_
          simp only [List.getElem_toArray, List.getElem_cons_zero, List.getElem_cons_succ, Act.put, List.setIfInBounds_toArray, List.set_cons_zero, List.set_cons_succ]
          refine wpAnyH_take (i := 8) (v := .bool ok) rfl (by kernel_rfl) (by kernel_rfl) (by kernel_rfl) (fun _ _ _ h => h) (Or.inl ⟨by first | rfl | go_simp, by intro w9 hSw; (try dsimp only at hSw); go_simp⟩) (by assumption) ?_
          simp only [List.getElem_toArray, List.getElem_cons_zero, List.getElem_cons_succ, Act.put, List.setIfInBounds_toArray, List.set_cons_zero, List.set_cons_succ]
          refine wpAnyH_ready (rs := [10]) (by kernel_rfl) (by simp) ?_
          refine AllReadyH.cons rfl (fun K hK => ?_) (AllReadyH.nil)
          have hGX : Z5.heap.size ≤ X0.heap.size := hGZ
          obtain ⟨s0, s1, s2, s3, s4, s5, z0, z1, z2, z3, z4, z5⟩ := blk_six RB
          obtain ⟨⟨e0, e1, e2, e3, e4, e5⟩, _, bY⟩ := leaf_six (.int .i64 r0) (.int .i64 r1) (.int .i64 r2) (.int .i64 r3) (.int .i64 r4) (.slice RA bs.length rc) RB BX hGX
          have E6 := Lib.hid (And.intro e0 (And.intro e1 (And.intro e2 (And.intro e3 (And.intro e4 (And.intro e5 bY))))))
          have jR := Lib.hid (new_set6 (.int .i64 r0) (.int .i64 r1) (.int .i64 r2) (.int .i64 r3) (.int .i64 r4) (.slice RA bs.length rc) iN (g := X0.heap.size) hRG)
          clear e0 e1 e2 e3 e4 e5 bY
          go_simp
          generalize ((((((X16.setCell ⟨X0.heap.size, 0, none⟩ (.int .i64 r0)).setCell ⟨X0.heap.size, 1, none⟩ (.int .i64 r1)).setCell ⟨X0.heap.size, 2, none⟩ (.int .i64 r2)).setCell ⟨X0.heap.size, 3, none⟩ (.int .i64 r3)).setCell ⟨X0.heap.size, 4, none⟩ (.int .i64 r4)).setCell ⟨X0.heap.size, 5, none⟩ (.slice RA bs.length rc)) = X17 at *
          have BX := E6.out.2.2.2.2.2.2
          have BW := thenB BZ BX
          refine hK.out _ _ (KA.out _ BW) (fun hHeld => ?_)
          clear hK K
          try simp only [List.getElem_toArray, List.getElem_cons_zero, List.getElem_cons_succ, Act.put, List.setIfInBounds_toArray, List.set_cons_zero, List.set_cons_succ]
          refine wpAnyH_take (i := 11) (v := .bool ok) rfl (by kernel_rfl) (by kernel_rfl) (by kernel_rfl) (fun _ _ _ h => h) (Or.inl ⟨by first | rfl | go_simp, by intro w9 hSw; (try dsimp only at hSw); go_simp⟩) (by assumption) ?_
          simp only [List.getElem_toArray, List.getElem_cons_zero, List.getElem_cons_succ, Act.put, List.setIfInBounds_toArray, List.set_cons_zero, List.set_cons_succ]
          refine wpAnyH_done (by kernel_rfl) ?_ _
          go_wp2_with fail
          go_meet
          exact ⟨_, RA, rc, rfl, rfl, E6.out.1, E6.out.2.1, E6.out.2.2.1, E6.out.2.2.2.1, E6.out.2.2.2.2.1, E6.out.2.2.2.2.2.1, by first | exact jR.out | exact new_ints jR.out, BX⟩
      case rest =>
        obtain ⟨G, RA, rc, rfl, rfl, k0, k1, k2, k3, k4, k5, iA, bZ⟩ := hcut
        have T9 := T9.later bZ
        have BZ := thenB BZ bZ
        clear HH1 bZ
        go_upto_region 7 with fail
        generalize wc = Z6 at *
        go_cut [12, 13] from 77 to 84 (fun s12 s13 wx => ∃ G RA rc, s12 = .pointer (some ⟨G, 0, none⟩) ∧ s13 = .bool ok ∧ wx.cell? ⟨G, 0, none⟩ = some (.int .i64 r0) ∧ wx.cell? ⟨G, 1, none⟩ = some (.int .i64 r1) ∧ wx.cell? ⟨G, 2, none⟩ = some (.int .i64 r2) ∧ wx.cell? ⟨G, 3, none⟩ = some (.int .i64 r3) ∧ wx.cell? ⟨G, 4, none⟩ = some (.int .i64 r4) ∧ wx.cell? ⟨G, 5, none⟩ = some (.slice RA bs.length rc) ∧ Ints .u8 wx wx.heap.size RA bs ∧ Below Z6.heap.size Z6 wx)
        case first =>
          clear k0 k1 k2 k3 k4 k5 iA
          have HH2 := Lib.hid (fun w' p => HH2.out w' p A9 c9 l9 n9 m9)
          go_wp2_with fail
          refine wp_region_held_drew (S := (fun w' => Four w' w.heap.size m.dev (.slice q.A m.links.length q.ac) (.slice q.J m.jams.length q.jc) (.slice q.S m.loss.length q.sc) ∧ Four w' (w.heap.size + 1) d (.int .i64 lh) (.int .i64 ls) (.int .i64 le))) (by kernel_rfl) ?_ (fun hHeld => ?_)
          · exact KA.out _ BZ.drew
          have BW : Below W.heap.size W Z6.drew := BZ.drew
          have BX : Below Z6.heap.size Z6 Z6.drew := (Below.refl _ _).drew
          generalize Z6.drew = X0 at *
          refine wpAnyH_take (i := 0) (v := .agg #[.int .i64 m.dev, .slice q.A m.links.length q.ac, .slice q.J m.jams.length q.jc, .slice q.S m.loss.length q.sc]) rfl (by kernel_rfl) (by kernel_rfl) (by kernel_rfl) (fun _ _ _ h => h) (Or.inl ⟨by first | rfl | go_simp, by intro w9 hSw; (try dsimp only at hSw); go_simp⟩) (by assumption) ?_
          simp only [List.getElem_toArray, List.getElem_cons_zero, List.getElem_cons_succ, Act.put, List.setIfInBounds_toArray, List.set_cons_zero, List.set_cons_succ]
          refine wpAnyH_take (i := 2) (v := .slice A9 (k + (n - (k + 1))) c9) rfl (by kernel_rfl) (by kernel_rfl) (by kernel_rfl) (fun _ _ _ h => h) (Or.inl ⟨by first | rfl | go_simp, by intro w9 hSw; (try dsimp only at hSw); go_simp⟩) (by assumption) ?_
          simp only [List.getElem_toArray, List.getElem_cons_zero, List.getElem_cons_succ, Act.put, List.setIfInBounds_toArray, List.set_cons_zero, List.set_cons_succ]
          refine wpAnyH_take (i := 3) (v := .agg #[.int .i64 d, .int .i64 lh, .int .i64 ls, .int .i64 le]) rfl (by kernel_rfl) (by kernel_rfl) (by kernel_rfl) (fun _ _ _ h => h) (Or.inl ⟨by first | rfl | go_simp, by intro w9 hSw; (try dsimp only at hSw); go_simp⟩) (by assumption) ?_
          simp only [List.getElem_toArray, List.getElem_cons_zero, List.getElem_cons_succ, Act.put, List.setIfInBounds_toArray, List.set_cons_zero, List.set_cons_succ]
          refine wpAnyH_ready (rs := [1, 8]) (by kernel_rfl) (by simp) ?_
          refine AllReadyH.cons rfl (fun K hK => ?_) (AllReadyH.cons rfl (fun K hK => ?_) (AllReadyH.nil))
          · skip
            go_simp
            refine (HOwn.out _ (hM.later (thenB B0 BW))).mono ?_
            rintro e X1 ⟨p1, rfl, MO, b1⟩
            have BW := thenB BW b1
            have BX := thenB BX b1
            refine hK.out _ _ (KA.out _ BW) (fun hHeld => ?_)
            clear hK K
            try simp only [List.getElem_toArray, List.getElem_cons_zero, List.getElem_cons_succ, Act.put, List.setIfInBounds_toArray, List.set_cons_zero, List.set_cons_succ]
            refine wpAnyH_ready (rs := [4, 8]) (by kernel_rfl) (by simp) ?_
            refine AllReadyH.cons rfl (fun K hK => ?_) (AllReadyH.cons rfl (fun K hK => ?_) (AllReadyH.nil))
            · skip
              go_simp
              refine (HH2.out _ _ MO (T9.later BX)).mono ?_
              rintro e X2 ⟨RA, rc, rfl, iN, b1⟩
              have iR := new_ints iN
              have BW := thenB BW b1
              have BX := thenB BX b1
              have MO := MO.later b1
              refine hK.out _ _ (KA.out _ BW) (fun hHeld => ?_)
              clear hK K
              try simp only [List.getElem_toArray, List.getElem_cons_zero, List.getElem_cons_succ, Act.put, List.setIfInBounds_toArray, List.set_cons_zero, List.set_cons_succ]
              refine wpAnyH_take (i := 5) (v := .tuple #[.agg #[.int .i64 r0, .int .i64 r1, .int .i64 r2, .int .i64 r3, .int .i64 r4, .slice RA bs.length rc], .bool ok]) rfl (by kernel_rfl) (by kernel_rfl) (by kernel_rfl) (fun _ _ _ h => h) (Or.inl ⟨by first | rfl | go_simp, by intro w9 hSw; (try dsimp only at hSw); go_simp⟩) (by assumption) ?_
              simp only [List.getElem_toArray, List.getElem_cons_zero, List.getElem_cons_succ, Act.put, List.setIfInBounds_toArray, List.set_cons_zero, List.set_cons_succ]
              refine wpAnyH_take (i := 6) (v := .agg #[.int .i64 r0, .int .i64 r1, .int .i64 r2, .int .i64 r3, .int .i64 r4, .slice RA bs.length rc]) rfl (by kernel_rfl) (by kernel_rfl) (by kernel_rfl) (fun _ _ _ h => h) (Or.inl ⟨by first | rfl | go_simp, by intro w9 hSw; (try dsimp only at hSw); go_simp⟩) (by assumption) ?_
              simp only [List.getElem_toArray, List.getElem_cons_zero, List.getElem_cons_succ, Act.put, List.setIfInBounds_toArray, List.set_cons_zero, List.set_cons_succ]
              refine wpAnyH_take (i := 7) (v := .bool ok) rfl (by kernel_rfl) (by kernel_rfl) (by kernel_rfl) (fun _ _ _ h => h) (Or.inl ⟨by first | rfl | go_simp, by intro w9 hSw; (try dsimp only at hSw); go_simp⟩) (by assumption) ?_
              simp only [List.getElem_toArray, List.getElem_cons_zero, List.getElem_cons_succ, Act.put, List.setIfInBounds_toArray, List.set_cons_zero, List.set_cons_succ]
              refine wpAnyH_ready (rs := [8]) (by kernel_rfl) (by simp) ?_
              refine AllReadyH.cons rfl (fun K hK => ?_) (AllReadyH.nil)
              go_simp
              have hGZ := BX.size
              have b1 := (Below.refl _ X2).alloc (Nat.le_refl _) (.cells #[.int .i64 0, .int .i64 0, .int .i64 0, .int .i64 0, .int .i64 0, .slice none 0 0] 46)
              have RB := Blk.fresh X2 46 #[.int .i64 0, .int .i64 0, .int .i64 0, .int .i64 0, .int .i64 0, .slice none 0 0]
              have hG := BW.size
              have iG := iR.below b1
              generalize X2.alloc (.cells #[.int .i64 0, .int .i64 0, .int .i64 0, .int .i64 0, .int .i64 0, .slice none 0 0] 46) = X3 at *
              have BW := thenB BW b1
              have BX := thenB BX b1
              have MO := MO.later b1
              refine hK.out _ _ (KA.out _ BW) (fun hHeld => ?_)
              clear hK K
              try simp only [List.getElem_toArray, List.getElem_cons_zero, List.getElem_cons_succ, Act.put, List.setIfInBounds_toArray, List.set_cons_zero, List.set_cons_succ]
              refine wpAnyH_ready (rs := [9]) (by kernel_rfl) (by simp) ?_
              refine AllReadyH.cons rfl (fun K hK => ?_) (AllReadyH.nil)
              have hGX : Z6.heap.size ≤ X2.heap.size := hGZ
              obtain ⟨s0, s1, s2, s3, s4, s5, z0, z1, z2, z3, z4, z5⟩ := blk_six RB
              obtain ⟨⟨e0, e1, e2, e3, e4, e5⟩, _, bY⟩ := leaf_six (.int .i64 r0) (.int .i64 r1) (.int .i64 r2) (.int .i64 r3) (.int .i64 r4) (.slice RA bs.length rc) RB BX hGX
              have E6 := Lib.hid (And.intro e0 (And.intro e1 (And.intro e2 (And.intro e3 (And.intro e4 (And.intro e5 bY))))))
              have jR := Lib.hid (ints_set6 (.int .i64 r0) (.int .i64 r1) (.int .i64 r2) (.int .i64 r3) (.int .i64 r4) (.slice RA bs.length rc) iG (g := X2.heap.size) (Nat.le_refl _) (Nat.le_of_lt RB.lt))
              clear e0 e1 e2 e3 e4 e5 bY
              go_simp
              generalize ((((((X3.setCell ⟨X2.heap.size, 0, none⟩ (.int .i64 r0)).setCell ⟨X2.heap.size, 1, none⟩ (.int .i64 r1)).setCell ⟨X2.heap.size, 2, none⟩ (.int .i64 r2)).setCell ⟨X2.heap.size, 3, none⟩ (.int .i64 r3)).setCell ⟨X2.heap.size, 4, none⟩ (.int .i64 r4)).setCell ⟨X2.heap.size, 5, none⟩ (.slice RA bs.length rc)) = X4 at *
              have BX := E6.out.2.2.2.2.2.2
              have BW := thenB BZ BX
              refine hK.out _ _ (KA.out _ BW) (fun hHeld => ?_)
              clear hK K
              try simp only [List.getElem_toArray, List.getElem_cons_zero, List.getElem_cons_succ, Act.put, List.setIfInBounds_toArray, List.set_cons_zero, List.set_cons_succ]
              refine wpAnyH_take (i := 10) (v := .bool ok) rfl (by kernel_rfl) (by kernel_rfl) (by kernel_rfl) (fun _ _ _ h => h) (Or.inl ⟨by first | rfl | go_simp, by intro w9 hSw; (try dsimp only at hSw); go_simp⟩) (by assumption) ?_
              simp only [List.getElem_toArray, List.getElem_cons_zero, List.getElem_cons_succ, Act.put, List.setIfInBounds_toArray, List.set_cons_zero, List.set_cons_succ]
              refine wpAnyH_done (by kernel_rfl) ?_ _
              go_wp2_with fail
              go_meet
              exact ⟨_, RA, rc, rfl, rfl, E6.out.1, E6.out.2.1, E6.out.2.2.1, E6.out.2.2.2.1, E6.out.2.2.2.2.1, E6.out.2.2.2.2.2.1, by first | exact jR.out | exact new_ints jR.out, BX⟩
            · skip
              go_simp
              have hGZ := BX.size
              have b1 := (Below.refl _ X1).alloc (Nat.le_refl _) (.cells #[.int .i64 0, .int .i64 0, .int .i64 0, .int .i64 0, .int .i64 0, .slice none 0 0] 46)
              have RB := Blk.fresh X1 46 #[.int .i64 0, .int .i64 0, .int .i64 0, .int .i64 0, .int .i64 0, .slice none 0 0]
              have hG := BW.size
              generalize X1.alloc (.cells #[.int .i64 0, .int .i64 0, .int .i64 0, .int .i64 0, .int .i64 0, .slice none 0 0] 46) = X5 at *
              have BW := thenB BW b1
              have BX := thenB BX b1
              have MO := MO.later b1
              refine hK.out _ _ (KA.out _ BW) (fun hHeld => ?_)
              clear hK K
              try simp only [List.getElem_toArray, List.getElem_cons_zero, List.getElem_cons_succ, Act.put, List.setIfInBounds_toArray, List.set_cons_zero, List.set_cons_succ]
              refine wpAnyH_ready (rs := [4]) (by kernel_rfl) (by simp) ?_
              refine AllReadyH.cons rfl (fun K hK => ?_) (AllReadyH.nil)
              go_simp
              have hRG := RB.lt
              refine (HH2.out _ _ MO (T9.later BX)).mono ?_
              rintro e X6 ⟨RA, rc, rfl, iN, b1⟩
              have BW := thenB BW b1
              have BX := thenB BX b1
              have MO := MO.later b1
              have RB := RB.below b1 RB.lt
              refine hK.out _ _ (KA.out _ BW) (fun hHeld => ?_)
              clear hK K
              try simp only [List.getElem_toArray, List.getElem_cons_zero, List.getElem_cons_succ, Act.put, List.setIfInBounds_toArray, List.set_cons_zero, List.set_cons_succ]
              refine wpAnyH_take (i := 5) (v := .tuple #[.agg #[.int .i64 r0, .int .i64 r1, .int .i64 r2, .int .i64 r3, .int .i64 r4, .slice RA bs.length rc], .bool ok]) rfl (by kernel_rfl) (by kernel_rfl) (by kernel_rfl) (fun _ _ _ h => h) (Or.inl ⟨by first | rfl | go_simp, by intro w9 hSw; (try dsimp only at hSw); go_simp⟩) (by assumption) ?_
              simp only [List.getElem_toArray, List.getElem_cons_zero, List.getElem_cons_succ, Act.put, List.setIfInBounds_toArray, List.set_cons_zero, List.set_cons_succ]
              refine wpAnyH_take (i := 6) (v := .agg #[.int .i64 r0, .int .i64 r1, .int .i64 r2, .int .i64 r3, .int .i64 r4, .slice RA bs.length rc]) rfl (by kernel_rfl) (by kernel_rfl) (by kernel_rfl) (fun _ _ _ h => h) (Or.inl ⟨by first | rfl | go_simp, by intro w9 hSw; (try dsimp only at hSw); go_simp⟩) (by assumption) ?_
              simp only [List.getElem_toArray, List.getElem_cons_zero, List.getElem_cons_succ, Act.put, List.setIfInBounds_toArray, List.set_cons_zero, List.set_cons_succ]
              refine wpAnyH_take (i := 7) (v := .bool ok) rfl (by kernel_rfl) (by kernel_rfl) (by kernel_rfl) (fun _ _ _ h => h) (Or.inl ⟨by first | rfl | go_simp, by intro w9 hSw; (try dsimp only at hSw); go_simp⟩) (by assumption) ?_
              simp only [List.getElem_toArray, List.getElem_cons_zero, List.getElem_cons_succ, Act.put, List.setIfInBounds_toArray, List.set_cons_zero, List.set_cons_succ]
              refine wpAnyH_ready (rs := [9]) (by kernel_rfl) (by simp) ?_
              refine AllReadyH.cons rfl (fun K hK => ?_) (AllReadyH.nil)
              have hGX : Z6.heap.size ≤ X1.heap.size := hGZ
              obtain ⟨s0, s1, s2, s3, s4, s5, z0, z1, z2, z3, z4, z5⟩ := blk_six RB
              obtain ⟨⟨e0, e1, e2, e3, e4, e5⟩, _, bY⟩ := leaf_six (.int .i64 r0) (.int .i64 r1) (.int .i64 r2) (.int .i64 r3) (.int .i64 r4) (.slice RA bs.length rc) RB BX hGX
              have E6 := Lib.hid (And.intro e0 (And.intro e1 (And.intro e2 (And.intro e3 (And.intro e4 (And.intro e5 bY))))))
              have jR := Lib.hid (new_set6 (.int .i64 r0) (.int .i64 r1) (.int .i64 r2) (.int .i64 r3) (.int .i64 r4) (.slice RA bs.length rc) iN (g := X1.heap.size) hRG)
              clear e0 e1 e2 e3 e4 e5 bY
              go_simp
              generalize ((((((X6.setCell ⟨X1.heap.size, 0, none⟩ (.int .i64 r0)).setCell ⟨X1.heap.size, 1, none⟩ (.int .i64 r1)).setCell ⟨X1.heap.size, 2, none⟩ (.int .i64 r2)).setCell ⟨X1.heap.size, 3, none⟩ (.int .i64 r3)).setCell ⟨X1.heap.size, 4, none⟩ (.int .i64 r4)).setCell ⟨X1.heap.size, 5, none⟩ (.slice RA bs.length rc)) = X7 at *
              have BX := E6.out.2.2.2.2.2.2
              have BW := thenB BZ BX
              refine hK.out _ _ (KA.out _ BW) (fun hHeld => ?_)
              clear hK K
              try simp only [List.getElem_toArray, List.getElem_cons_zero, List.getElem_cons_succ, Act.put, List.setIfInBounds_toArray, List.set_cons_zero, List.set_cons_succ]
              refine wpAnyH_take (i := 10) (v := .bool ok) rfl (by kernel_rfl) (by kernel_rfl) (by kernel_rfl) (fun _ _ _ h => h) (Or.inl ⟨by first | rfl | go_simp, by intro w9 hSw; (try dsimp only at hSw); go_simp⟩) (by assumption) ?_
              simp only [List.getElem_toArray, List.getElem_cons_zero, List.getElem_cons_succ, Act.put, List.setIfInBounds_toArray, List.set_cons_zero, List.set_cons_succ]
              refine wpAnyH_done (by kernel_rfl) ?_ _
              go_wp2_with fail
              go_meet
              exact ⟨_, RA, rc, rfl, rfl, E6.out.1, E6.out.2.1, E6.out.2.2.1, E6.out.2.2.2.1, E6.out.2.2.2.2.1, E6.out.2.2.2.2.2.1, by first | exact jR.out | exact new_ints jR.out, BX⟩
          · skip
            go_simp
            have hGZ := BX.size
            have b1 := (Below.refl _ X0).alloc (Nat.le_refl _) (.cells #[.int .i64 0, .int .i64 0, .int .i64 0, .int .i64 0, .int .i64 0, .slice none 0 0] 46)
            have RB := Blk.fresh X0 46 #[.int .i64 0, .int .i64 0, .int .i64 0, .int .i64 0, .int .i64 0, .slice none 0 0]
            have hG := BW.size
            generalize X0.alloc (.cells #[.int .i64 0, .int .i64 0, .int .i64 0, .int .i64 0, .int .i64 0, .slice none 0 0] 46) = X8 at *
            have BW := thenB BW b1
            have BX := thenB BX b1
            refine hK.out _ _ (KA.out _ BW) (fun hHeld => ?_)
            clear hK K
            try simp only [List.getElem_toArray, List.getElem_cons_zero, List.getElem_cons_succ, Act.put, List.setIfInBounds_toArray, List.set_cons_zero, List.set_cons_succ]
            refine wpAnyH_ready (rs := [1]) (by kernel_rfl) (by simp) ?_
            refine AllReadyH.cons rfl (fun K hK => ?_) (AllReadyH.nil)
            go_simp
            refine (HOwn.out _ (hM.later (thenB B0 BW))).mono ?_
            rintro e X9 ⟨p1, rfl, MO, b1⟩
            have BW := thenB BW b1
            have BX := thenB BX b1
            have RB := RB.below b1 RB.lt
            refine hK.out _ _ (KA.out _ BW) (fun hHeld => ?_)
            clear hK K
            try simp only [List.getElem_toArray, List.getElem_cons_zero, List.getElem_cons_succ, Act.put, List.setIfInBounds_toArray, List.set_cons_zero, List.set_cons_succ]
            refine wpAnyH_ready (rs := [4]) (by kernel_rfl) (by simp) ?_
            refine AllReadyH.cons rfl (fun K hK => ?_) (AllReadyH.nil)
            go_simp
            have hRG := RB.lt
            refine (HH2.out _ _ MO (T9.later BX)).mono ?_
            rintro e X10 ⟨RA, rc, rfl, iN, b1⟩
            have BW := thenB BW b1
            have BX := thenB BX b1
            have RB := RB.below b1 RB.lt
            have MO := MO.later b1
            refine hK.out _ _ (KA.out _ BW) (fun hHeld => ?_)
            clear hK K
            try simp only [List.getElem_toArray, List.getElem_cons_zero, List.getElem_cons_succ, Act.put, List.setIfInBounds_toArray, List.set_cons_zero, List.set_cons_succ]
            refine wpAnyH_take (i := 5) (v := .tuple #[.agg #[.int .i64 r0, .int .i64 r1, .int .i64 r2, .int .i64 r3, .int .i64 r4, .slice RA bs.length rc], .bool ok]) rfl (by kernel_rfl) (by kernel_rfl) (by kernel_rfl) (fun _ _ _ h => h) (Or.inl ⟨by first | rfl | go_simp, by intro w9 hSw; (try dsimp only at hSw); go_simp⟩) (by assumption) ?_
            simp only [List.getElem_toArray, List.getElem_cons_zero, List.getElem_cons_succ, Act.put, List.setIfInBounds_toArray, List.set_cons_zero, List.set_cons_succ]
            refine wpAnyH_take (i := 6) (v := .agg #[.int .i64 r0, .int .i64 r1, .int .i64 r2, .int .i64 r3, .int .i64 r4, .slice RA bs.length rc]) rfl (by kernel_rfl) (by kernel_rfl) (by kernel_rfl) (fun _ _ _ h => h) (Or.inl ⟨by first | rfl | go_simp, by intro w9 hSw; (try dsimp only at hSw); go_simp⟩) (by assumption) ?_
            simp only [List.getElem_toArray, List.getElem_cons_zero, List.getElem_cons_succ, Act.put, List.setIfInBounds_toArray, List.set_cons_zero, List.set_cons_succ]
            refine wpAnyH_take (i := 7) (v := .bool ok) rfl (by kernel_rfl) (by kernel_rfl) (by kernel_rfl) (fun _ _ _ h => h) (Or.inl ⟨by first | rfl | go_simp, by intro w9 hSw; (try dsimp only at hSw); go_simp⟩) (by assumption) ?_
            simp only [List.getElem_toArray, List.getElem_cons_zero, List.getElem_cons_succ, Act.put, List.setIfInBounds_toArray, List.set_cons_zero, List.set_cons_succ]
            refine wpAnyH_ready (rs := [9]) (by kernel_rfl) (by simp) ?_
            refine AllReadyH.cons rfl (fun K hK => ?_) (AllReadyH.nil)
            have hGX : Z6.heap.size ≤ X0.heap.size := hGZ
            obtain ⟨s0, s1, s2, s3, s4, s5, z0, z1, z2, z3, z4, z5⟩ := blk_six RB
            obtain ⟨⟨e0, e1, e2, e3, e4, e5⟩, _, bY⟩ := leaf_six (.int .i64 r0) (.int .i64 r1) (.int .i64 r2) (.int .i64 r3) (.int .i64 r4) (.slice RA bs.length rc) RB BX hGX
            have E6 := Lib.hid (And.intro e0 (And.intro e1 (And.intro e2 (And.intro e3 (And.intro e4 (And.intro e5 bY))))))
            have jR := Lib.hid (new_set6 (.int .i64 r0) (.int .i64 r1) (.int .i64 r2) (.int .i64 r3) (.int .i64 r4) (.slice RA bs.length rc) iN (g := X0.heap.size) hRG)
            clear e0 e1 e2 e3 e4 e5 bY
            go_simp
            generalize ((((((X10.setCell ⟨X0.heap.size, 0, none⟩ (.int .i64 r0)).setCell ⟨X0.heap.size, 1, none⟩ (.int .i64 r1)).setCell ⟨X0.heap.size, 2, none⟩ (.int .i64 r2)).setCell ⟨X0.heap.size, 3, none⟩ (.int .i64 r3)).setCell ⟨X0.heap.size, 4, none⟩ (.int .i64 r4)).setCell ⟨X0.heap.size, 5, none⟩ (.slice RA bs.length rc)) = X11 at *
            have BX := E6.out.2.2.2.2.2.2
            have BW := thenB BZ BX
            refine hK.out _ _ (KA.out _ BW) (fun hHeld => ?_)
            clear hK K
            try simp only [List.getElem_toArray, List.getElem_cons_zero, List.getElem_cons_succ, Act.put, List.setIfInBounds_toArray, List.set_cons_zero, List.set_cons_succ]
            refine wpAnyH_take (i := 10) (v := .bool ok) rfl (by kernel_rfl) (by kernel_rfl) (by kernel_rfl) (fun _ _ _ h => h) (Or.inl ⟨by first | rfl | go_simp, by intro w9 hSw; (try dsimp only at hSw); go_simp⟩) (by assumption) ?_
            simp only [List.getElem_toArray, List.getElem_cons_zero, List.getElem_cons_succ, Act.put, List.setIfInBounds_toArray, List.set_cons_zero, List.set_cons_succ]
            refine wpAnyH_done (by kernel_rfl) ?_ _
            go_wp2_with fail
            go_meet
            exact ⟨_, RA, rc, rfl, rfl, E6.out.1, E6.out.2.1, E6.out.2.2.1, E6.out.2.2.2.1, E6.out.2.2.2.2.1, E6.out.2.2.2.2.2.1, by first | exact jR.out | exact new_ints jR.out, BX⟩
        case rest =>
          obtain ⟨G2, RA2, rc2, rfl, rfl, j0, j1, j2, j3, j4, j5, iB, bZ⟩ := hcut
          have k0 := One_below k0 bZ
          have k1 := One_below k1 bZ
          have k2 := One_below k2 bZ
          have k3 := One_below k3 bZ
          have k4 := One_below k4 bZ
          have k5 := One_below k5 bZ
          have iA := later iA bZ
          have BZ := thenB BZ bZ
          generalize wc = Z7 at *
          have HSm : Hid (Calls Try.prog 28 #[.agg #[.int .i64 r0, .int .i64 r1, .int .i64 r2, .int .i64 r3, .int .i64 r4, .slice RA bs.length rc], .agg #[.int .i64 r0, .int .i64 r1, .int .i64 r2, .int .i64 r3, .int .i64 r4, .slice RA2 bs.length rc2]] Z7 fun e w2 => e = .returned (.bool true) ∧ Below Z7.heap.size Z7 w2) := Lib.hid (same_yes r0 r1 r2 r3 r4 RA RA2 rc rc2 bs Z7 iA iB)
          clear HH2 T9 KA HOwn HCp iA iB bZ
          have hok : (ok == ok) = true := by simp
          go_wp2_with (go_at_call 28; refine HSm.out.mono ?_; rintro e w9 ⟨rfl, b9⟩; have BZ := thenB BZ b9)
          go_ret
          exact ⟨rfl, thenB B0 BZ⟩
end Go.Proofs.Ytocmcjbhmjbmhaa.Air
