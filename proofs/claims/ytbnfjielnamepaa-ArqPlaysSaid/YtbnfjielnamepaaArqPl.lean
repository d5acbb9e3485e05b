/- Acknowledgement: any calls lead to the states of the document: contracts over the program. -/
import Derived.Test.YtbnfjielnamepaaArqRT
import Derived.Test.YtbnfjielnamepaaArqRSm
import Derived.Test.YtbnfjielnamepaaArqPlM
import Derived.Test.YtbnfjielnamepaaArqBox
import Derived.Test.YtbnfjielnamepaaArqLives
import Derived.Test.YtbnfjielnamepaaArqEx0
import Derived.Test.YtbnfjielnamepaaOpArgs
import Derived.Deep.CutRange
set_option linter.unusedVariables false
set_option linter.unusedSimpArgs false
namespace Go.Proofs.Ytbnfjielnamepaa.Arq
open Go.RowKit Mem Oct Rw Av Dp
open Base (thenB)

theorem idle_of {w : World} {m o : Nat} {V : Value} {l : List Pm} {q : List Pk} {sn nesn : Int} {op em : Bool} {ack tak : Int} (h : QQ w m o V l) (hl : l.map Pm.p = q) (X : World) : Calls Try.prog 37 #[.agg #[.int .i64 sn, .int .i64 nesn, V, .bool op, .bool em, .int .i64 ack, .int .i64 tak]] X fun e w' => e = .returned (.bool ((q.length : Int) == 0)) ∧ Below X.heap.size X w' := by
 obtain ⟨⟨A, c, rfl, _⟩, _⟩ := h
 rw [show q.length = l.length by rw [← hl, List.length_map]]
 exact idle_any sn nesn A l.length c op em ack tak X
theorem ridle_of {w : World} {m o : Nat} {V : Value} {l : List Pm} {q : List Pk} {sn nesn : Int} {op em : Bool} {ack tak : Int} (h : QQ w m o V l) (hl : l.map Pm.p = q) (X : World) : Calls Try.prog 38 #[.agg #[.int .i64 sn, .int .i64 nesn, V, .bool op, .bool em, .int .i64 ack, .int .i64 tak]] X fun e w' => e = .returned (.bool ((q.length : Int) == 0)) ∧ Below X.heap.size X w' := by
 obtain ⟨⟨A, c, rfl, _⟩, _⟩ := h
 rw [show q.length = l.length by rw [← hl, List.length_map]]
 exact ridle_any sn nesn A l.length c op em ack tak X
theorem rsend_to {s s' : Sd} {p : Pd} {n : Nat} (h : openR s = s') (hp : pduR s' = p) (hn : p.pk.2.length = n) (V : Value) (l : List Pm) (o : Nat) (w : World) (hl : l.length ≤ 1000000) (hq : QQ w 0 o V l) (hm : l.map Pm.p = s.q) (ho : o ≤ w.heap.size) :
  Calls Try.prog 31 #[.agg (acel s V)] w fun e w' => ∃ A c, e = .returned (.tuple #[.agg (acel s' V), .agg #[.int .i64 p.sn, .int .i64 p.nesn, .int .i64 p.md, .int .i64 p.pk.1, .slice A n c]]) ∧ PP w' o ⟨p.pk.1, A, c, p.pk.2⟩ ∧ Below w.heap.size w w' := by
 have := rsend_any s V l o w hl hq hm ho
 unfold RSent at this
 rw [h, hp] at this
 refine this.mono fun e w' ⟨x, he, h3, h4, h5⟩ => ?_
 obtain ⟨k, A, c, zs⟩ := x
 obtain rfl : k = p.pk.1 := congrArg Prod.fst h3
 obtain rfl : zs = p.pk.2 := congrArg Prod.snd h3
 subst hn
 exact ⟨A, c, he, h4, h5⟩
theorem rtake_to {s s' : Sd} {psn pne pmd : Int} {x : Pm} {r : Pk} {f a : Bool} {k : Nat} (h : takeR s ⟨psn, pne, pmd, (x.k, x.v)⟩ = (s', r, f, a)) (hr : r.2.length = k) (V : Value) (l : List Pm) (o : Nat) (w : World) (hl : l.length ≤ 1000000) (hs : Bit s) (hc : s.ack ≤ 1000 ∧ s.tak ≤ 1000) (hq : QQ w 0 o V l) (hm : l.map Pm.p = s.q) (hx : PP w o x) (ho : o ≤ w.heap.size) :
  Calls Try.prog 34 #[.agg (acel s V), .agg #[.int .i64 psn, .int .i64 pne, .int .i64 pmd, .int .i64 x.k, .slice x.A x.v.length x.c]] w fun e w' => ∃ V' l' A' c', e = .returned (.tuple #[.agg (acel s' V'), .agg #[.int .i64 r.1, .slice A' k c'], .bool f, .bool a]) ∧ QQ w' 0 o V' l' ∧ Hid (l'.map Pm.p = s'.q) ∧ PP w' o ⟨r.1, A', c', r.2⟩ ∧ (V' = V ∨ ∀ g, V'.ownBlock = some g → w.heap.size ≤ g) ∧ Below w.heap.size w w' := by
 have := rtake_any s V l ⟨psn, pne, pmd, x⟩ o w hl hs hc.1 hc.2 hq hm hx ho
 unfold RTook at this
 rw [show Dm.p ⟨psn, pne, pmd, x⟩ = ⟨psn, pne, pmd, (x.k, x.v)⟩ from rfl, h] at this
 refine this.mono fun e w' ⟨V', l', x', he, h1, h2, h3, h4, h5, h6⟩ => ?_
 obtain ⟨k', A', c', zs⟩ := x'
 obtain rfl : k' = r.1 := congrArg Prod.fst h3
 obtain rfl : zs = r.2 := congrArg Prod.snd h3
 subst hr
 exact ⟨V', l', A', c', he, h1, Lib.hid h2, h4, h5, h6⟩
open List (getElem_toArray getElem_cons_zero getElem_cons_succ setIfInBounds_toArray set_cons_zero set_cons_succ)
set_option maxRecDepth 100000 in
set_option maxHeartbeats 400000000 in
theorem plays_any (A : Option Addr) (c : Nat) (xs : List Om) (w : World) (ta : ListAt encO w w.heap.size A xs) (gd : ∀ x ∈ xs, B64 x.d ∧ GoodD w x.q) (hc : xs.length ≤ c) (hb : c * 64 ≤ 140737488351232) :
  Calls Try.prog 9 #[.slice A xs.length c] w fun e w' => e = .returned (.bool true) ∧ Below w.heap.size w w' := by
 have HL := Lib.hid lives_any
 obtain ⟨n, hn⟩ : ∃ n, xs.length = n := ⟨_, rfl⟩
 rw [hn] at hc ⊢
 by_cases cl : (100 : Int) < (n : Int)
 ·
  go_enter Try.func9, Try.ntmps9
  go_wp2_with (go_at_call 24; refine (HL.out _).mono ?_; rintro e W1 ⟨rfl, BX⟩)
  go_ret
  exact ⟨rfl, BX⟩
 have hn100 : n ≤ 100 := by omega
 have H0 : (#[.int .i64 0, .int .i64 0, .slice none 0 0, .bool false, .bool false, .int .i64 0, .int .i64 0] : Array Value).all (·.oneCell') = true := by rw [← Array.all_toList]; rfl
 go_enter Try.func9, Try.ntmps9
 go_upto_region 5 with (go_at_call 24; refine (HL.out _).mono ?_; rintro e W1 ⟨rfl, BX⟩)
 clear HL cl
 go_upto_region 6 with (first
  | (go_at_call 25; refine (new_any _).mono ?_; rintro e W2 ⟨rfl, b9⟩; replace BX := thenB BX b9; clear b9)
  | (go_at_call 26; refine (rnew_any _).mono ?_; rintro e W3 ⟨rfl, b9⟩; replace BX := thenB BX b9; clear b9; have K3 : Blk ((W3.alloc (.cells #[.int .i64 0, .int .i64 0, .slice none 0 0, .bool false, .bool false, .int .i64 0, .int .i64 0] 43)).alloc (.cells #[.int .i64 0, .int .i64 0, .slice none 0 0, .bool false, .bool false, .int .i64 0, .int .i64 0] 43)) W3.heap.size 43 #[.int .i64 0, .int .i64 0, .slice none 0 0, .bool false, .bool false, .int .i64 0, .int .i64 0] := (Blk.fresh W3 43 #[.int .i64 0, .int .i64 0, .slice none 0 0, .bool false, .bool false, .int .i64 0, .int .i64 0]).alloc _; have K4 : Blk ((W3.alloc (.cells #[.int .i64 0, .int .i64 0, .slice none 0 0, .bool false, .bool false, .int .i64 0, .int .i64 0] 43)).alloc (.cells #[.int .i64 0, .int .i64 0, .slice none 0 0, .bool false, .bool false, .int .i64 0, .int .i64 0] 43)) (W3.heap.size + 1) 43 #[.int .i64 0, .int .i64 0, .slice none 0 0, .bool false, .bool false, .int .i64 0, .int .i64 0] := Av.Blk.next)
  | (refine wpList_store_row rfl 43 (.tmp 3) (.tmp 24) rfl W3.heap.size #[.int .i64 0, .int .i64 0, .slice none 0 0, .bool false, .bool false, .int .i64 0, .int .i64 0] rfl rfl 43 _ K3 (by kernel_rfl) rfl H0 ?_)
  | (refine wpList_store_row rfl 43 (.tmp 4) (.tmp 25) rfl (W3.heap.size + 1) #[.int .i64 0, .int .i64 0, .slice none 0 0, .bool false, .bool false, .int .i64 0, .int .i64 0] rfl rfl 43 _ (Av.bother_row K4 (by omega)) (by kernel_rfl) rfl H0 ?_))
 have hs3 := BX.size
 have K4' : Blk (((W3.alloc (.cells #[.int .i64 0, .int .i64 0, .slice none 0 0, .bool false, .bool false, .int .i64 0, .int .i64 0] 43)).alloc (.cells #[.int .i64 0, .int .i64 0, .slice none 0 0, .bool false, .bool false, .int .i64 0, .int .i64 0] 43)).setRow (W3.heap.size) #[.int .i64 0, .int .i64 0, .slice none 0 0, .bool false, .bool false, .int .i64 0, .int .i64 0]) (W3.heap.size + 1) 43 #[.int .i64 0, .int .i64 0, .slice none 0 0, .bool false, .bool false, .int .i64 0, .int .i64 0] := Av.bother_row K4 (by omega)
 replace K3 : Blk ((((W3.alloc (.cells #[.int .i64 0, .int .i64 0, .slice none 0 0, .bool false, .bool false, .int .i64 0, .int .i64 0] 43)).alloc (.cells #[.int .i64 0, .int .i64 0, .slice none 0 0, .bool false, .bool false, .int .i64 0, .int .i64 0] 43)).setRow (W3.heap.size) #[.int .i64 0, .int .i64 0, .slice none 0 0, .bool false, .bool false, .int .i64 0, .int .i64 0]).setRow (W3.heap.size + 1) #[.int .i64 0, .int .i64 0, .slice none 0 0, .bool false, .bool false, .int .i64 0, .int .i64 0]) W3.heap.size 43 #[.int .i64 0, .int .i64 0, .slice none 0 0, .bool false, .bool false, .int .i64 0, .int .i64 0] := Av.bother_row (Av.bset_row K3) (by omega)
 replace K4 : Blk ((((W3.alloc (.cells #[.int .i64 0, .int .i64 0, .slice none 0 0, .bool false, .bool false, .int .i64 0, .int .i64 0] 43)).alloc (.cells #[.int .i64 0, .int .i64 0, .slice none 0 0, .bool false, .bool false, .int .i64 0, .int .i64 0] 43)).setRow (W3.heap.size) #[.int .i64 0, .int .i64 0, .slice none 0 0, .bool false, .bool false, .int .i64 0, .int .i64 0]).setRow (W3.heap.size + 1) #[.int .i64 0, .int .i64 0, .slice none 0 0, .bool false, .bool false, .int .i64 0, .int .i64 0]) (W3.heap.size + 1) 43 #[.int .i64 0, .int .i64 0, .slice none 0 0, .bool false, .bool false, .int .i64 0, .int .i64 0] := Av.bset_row K4'
 replace BX : Below w.heap.size w ((((W3.alloc (.cells #[.int .i64 0, .int .i64 0, .slice none 0 0, .bool false, .bool false, .int .i64 0, .int .i64 0] 43)).alloc (.cells #[.int .i64 0, .int .i64 0, .slice none 0 0, .bool false, .bool false, .int .i64 0, .int .i64 0] 43)).setRow (W3.heap.size) #[.int .i64 0, .int .i64 0, .slice none 0 0, .bool false, .bool false, .int .i64 0, .int .i64 0]).setRow (W3.heap.size + 1) #[.int .i64 0, .int .i64 0, .slice none 0 0, .bool false, .bool false, .int .i64 0, .int .i64 0]) := below_setRow (below_setRow ((BX.alloc BX.size _).alloc (by simp; omega) _) (by omega) _) (by omega) _
 clear K4' H0
 generalize (((W3.alloc (.cells #[.int .i64 0, .int .i64 0, .slice none 0 0, .bool false, .bool false, .int .i64 0, .int .i64 0] 43)).alloc (.cells #[.int .i64 0, .int .i64 0, .slice none 0 0, .bool false, .bool false, .int .i64 0, .int .i64 0] 43)).setRow (W3.heap.size) #[.int .i64 0, .int .i64 0, .slice none 0 0, .bool false, .bool false, .int .i64 0, .int .i64 0]).setRow (W3.heap.size + 1) #[.int .i64 0, .int .i64 0, .slice none 0 0, .bool false, .bool false, .int .i64 0, .int .i64 0] = W4 at *
 obtain ⟨g, hg⟩ : ∃ g, W3.heap.size = g := ⟨_, rfl⟩
 rw [hg] at K3 K4 hs3 ⊢
 clear hg
 go_wp2_with fail
 go_loopw [5] (fun s5 wr => ∃ (j : Nat) (ssn sne : Int) (sq : List Pk) (sop sem : Bool) (sack stak : Nat) (V V2 : Value) (l l2 : List Pm), j ≤ n ∧ s5 = .int .i64 j ∧ Jn ⟨ssn, sne, sq, sop, sem, sack, stak⟩ j ∧ l.map Pm.p = sq ∧ l2.map Pm.p = sq ∧ QQ wr 0 0 V l ∧ QQ wr 0 w.heap.size V2 l2 ∧ Blk wr g 43 #[.int .i64 ssn, .int .i64 sne, V, .bool sop, .bool sem, .int .i64 (sack : Int), .int .i64 (stak : Int)] ∧ Blk wr (g + 1) 43 #[.int .i64 ssn, .int .i64 sne, V2, .bool sop, .bool sem, .int .i64 (sack : Int), .int .i64 (stak : Int)] ∧ Below w.heap.size w wr) (fun s5 _ => n - (intOf s5).toNat)
 case atStart => exact ⟨0, 0, 0, [], false, false, 0, 0, .slice none 0 0, .slice none 0 0, [], [], Nat.zero_le _, rfl, jn_new, rfl, rfl, (RR.nil _ _ _).qq, (RR.nil _ _ _).qq, K3, K4, BX⟩
 case round =>
  clear K3 K4 BX
  obtain ⟨j, ssn, sne, sq, sop, sem, sack, stak, V, V2, l, l2, hj, rfl, HJs, hlm, hlm2, HQ1, HQ2, K3, K4, BX⟩ := hrel
  by_cases cj : j < n
  ·
   obtain ⟨b, off, rfl, hbl, hcl⟩ := ListAt.open_ ta sizO (by decide) (by omega)
   obtain ⟨y, hy⟩ : ∃ y, xs[j]? = some y := ⟨_, List.getElem?_eq_getElem (by omega)⟩
   have gy := (gd y (List.mem_of_getElem? hy)).2.2.2.2
   have HC6 : ∀ (i : Nat) u, (encO y)[i]? = some u → ∀ X, Below w.heap.size w X → X.cell? ⟨b, off + j * 6 + i, none⟩ = some u := fun i u hu X b9 => (b9.cell (p := ⟨b, off + j * 6 + i, none⟩) hbl).trans (hcl j y hy i u hu)
   obtain ⟨d, psn, pne, pmd, x⟩ := y
   have gk : ∀ X, Below w.heap.size w X → GoodK X w.heap.size x := fun X b9 => gy.below b9
   have HYf : Hid (∀ X, Below w.heap.size w X → PP X w.heap.size x) := Lib.hid fun X b9 => (GP.old ⟨gy.2.1, Nat.le_trans gy.2.1 gy.2.2.1, gy.2.2.2.1, gy.2.2.2.2⟩).below b9
   have HT0 : Hid (∀ X, Below w.heap.size w X → X.cell? ⟨b, off + j * 6, none⟩ = some (.int .i64 d)) := Lib.hid fun X b9 => HC6 0 _ rfl X b9
   have HT26 : Hid (∀ X, Below w.heap.size w X → X.cell? ⟨b, off + j * 6 + 1, none⟩ = some (.int .i64 psn) ∧ X.cell? ⟨b, off + j * 6 + 1 + 1, none⟩ = some (.int .i64 pne) ∧ X.cell? ⟨b, off + j * 6 + 1 + 2, none⟩ = some (.int .i64 pmd) ∧ X.cell? ⟨b, off + j * 6 + 1 + 3, none⟩ = some (.int .i64 x.k) ∧ X.cell? ⟨b, off + j * 6 + 1 + 4, none⟩ = some (.slice x.A x.v.length x.c)) := Lib.hid fun X b9 => ⟨HC6 1 _ rfl X b9, HC6 2 _ rfl X b9, HC6 3 _ rfl X b9, HC6 4 _ rfl X b9, HC6 5 _ rfl X b9⟩
   have HT15 : Hid (∀ X, Below w.heap.size w X → X.cell? ⟨b, off + j * 6 + 1 + 3, none⟩ = some (.int .i64 x.k) ∧ X.cell? ⟨b, off + j * 6 + 1 + 3 + 1, none⟩ = some (.slice x.A x.v.length x.c)) := Lib.hid fun X b9 => ⟨HC6 4 _ rfl X b9, HC6 5 _ rfl X b9⟩
   have HT15a := trivial
   have HCp : Hid (∀ X, Below w.heap.size w X → Calls Try.prog 27 #[.agg #[.int .i64 x.k, .slice x.A x.v.length x.c]] X fun e w' => ∃ A c, e = .returned (.agg #[.int .i64 x.k, .slice A x.v.length c]) ∧ PP w' 0 ⟨x.k, A, c, x.v⟩ ∧ Below X.heap.size X w') := Lib.hid fun X b9 => lcopy_any x X (HYf.out X b9).gp
   have hll : l.length ≤ 1000 ∧ l2.length ≤ 1000 := by
    have h1 : l.length = sq.length := by rw [← hlm, List.length_map]
    have h2 : l2.length = sq.length := by rw [← hlm2, List.length_map]
    have := HJs.len
    simp only at this
    omega
   have g1 : (0 : Int) ≤ (j : Int) ∧ (j : Int) < (n : Int) := by omega
   have g2 : ¬ ((n : Int) ≤ (j : Int)) := by omega
   clear HC6 gk gy hcl hy gd ta
   obtain ⟨u1, u2, u3, u4, u5⟩ := HT26.out _ BX
   have K6 := Blk.fresh wr 26 #[.int .i64 0, .int .i64 0, .int .i64 0, .int .i64 0, .slice none 0 0]
   have H1 : (#[.int .i64 psn, .int .i64 pne, .int .i64 pmd, .int .i64 x.k, .slice x.A x.v.length x.c] : Array Value).all (·.oneCell') = true := (by rw [← Array.all_toList]; rfl)
   go_upto_region 10 with (refine wpList_store_row rfl 26 (.tmp 6) (.tmp 36) rfl (wr.heap.size) #[.int .i64 psn, .int .i64 pne, .int .i64 pmd, .int .i64 x.k, .slice x.A x.v.length x.c] rfl rfl 26 _ K6 (by kernel_rfl) rfl H1 ?_)
   have b9 : Below wr.heap.size wr ((wr.alloc (.cells #[.int .i64 0, .int .i64 0, .int .i64 0, .int .i64 0, .slice none 0 0] 26)).setRow wr.heap.size #[.int .i64 psn, .int .i64 pne, .int .i64 pmd, .int .i64 x.k, .slice x.A x.v.length x.c]) := below_setRow ((Below.refl _ _).alloc (Nat.le_refl _) _) (Nat.le_refl _) _
   have hk4 := K4.lt
   replace K6 : Blk ((wr.alloc (.cells #[.int .i64 0, .int .i64 0, .int .i64 0, .int .i64 0, .slice none 0 0] 26)).setRow wr.heap.size #[.int .i64 psn, .int .i64 pne, .int .i64 pmd, .int .i64 x.k, .slice x.A x.v.length x.c]) wr.heap.size 26 #[.int .i64 psn, .int .i64 pne, .int .i64 pmd, .int .i64 x.k, .slice x.A x.v.length x.c] := Av.bset_row K6
   replace K3 := K3.below b9 K3.lt
   replace K4 := K4.below b9 K4.lt
   replace HQ1 := HQ1.below b9
   replace HQ2 := HQ2.below b9
   replace BX := thenB BX b9
   clear b9
   clear u1 u2 u3 u4 u5 H1
   generalize (wr.alloc (.cells #[.int .i64 0, .int .i64 0, .int .i64 0, .int .i64 0, .slice none 0 0] 26)).setRow wr.heap.size #[.int .i64 psn, .int .i64 pne, .int .i64 pmd, .int .i64 x.k, .slice x.A x.v.length x.c] = Y0 at *
   obtain ⟨g6, hg6⟩ : ∃ g6, wr.heap.size = g6 := ⟨_, rfl⟩
   rw [hg6] at K6 hk4 ⊢
   clear hg6
   have p3 := K6.cell 3
   have p4 := K6.cell 4
   go_upto_region 11 with (first
    | (go_at_call 27; go_loud (refine (HCp.out _ BX).mono ?_; rintro e Y1 ⟨A5, c5, rfl, HX, b9⟩; replace K3 := K3.below b9 K3.lt; replace K4 := K4.below b9 K4.lt; replace K6 := K6.below b9 K6.lt; replace HQ1 := HQ1.below b9; replace HQ2 := HQ2.below b9; replace BX := thenB BX b9; clear b9; clear p3 p4; have H1 : (#[.int .i64 x.k, .slice A5 x.v.length c5] : Array Value).all (·.oneCell') = true := (by rw [← Array.all_toList]; rfl)))
    | (refine wpList_store_part rfl 24 _ _ rfl g6 3 #[.int .i64 x.k, .slice A5 x.v.length c5] rfl rfl 26 _ #[.int .i64 psn, .int .i64 pne, .int .i64 pmd, .int .i64 x.k, .slice A5 x.v.length c5] K6 (by kernel_rfl) (by show 3 + 2 ≤ 5; decide) H1 rfl ?_))
   replace HQ1 := HQ1.step (stp_row K6 #[.int .i64 psn, .int .i64 pne, .int .i64 pmd, .int .i64 x.k, .slice A5 x.v.length c5]) (by decide) (by decide) (Nat.zero_le _)
   replace HQ2 := HQ2.step (stp_row K6 #[.int .i64 psn, .int .i64 pne, .int .i64 pmd, .int .i64 x.k, .slice A5 x.v.length c5]) (by decide) (by decide) (show w.heap.size ≤ g6 by omega)
   replace HX := HX.step (stp_row K6 #[.int .i64 psn, .int .i64 pne, .int .i64 pmd, .int .i64 x.k, .slice A5 x.v.length c5]) (by decide) (Nat.zero_le _)
   replace K3 : Blk (Y1.setRow (g6) #[.int .i64 psn, .int .i64 pne, .int .i64 pmd, .int .i64 x.k, .slice A5 x.v.length c5]) (g) 43 #[.int .i64 ssn, .int .i64 sne, V, .bool sop, .bool sem, .int .i64 (sack : Int), .int .i64 (stak : Int)] := Av.bother_row K3 (by omega)
   replace K4 : Blk (Y1.setRow (g6) #[.int .i64 psn, .int .i64 pne, .int .i64 pmd, .int .i64 x.k, .slice A5 x.v.length c5]) (g + 1) 43 #[.int .i64 ssn, .int .i64 sne, V2, .bool sop, .bool sem, .int .i64 (sack : Int), .int .i64 (stak : Int)] := Av.bother_row K4 (by omega)
   replace BX : Below w.heap.size w (Y1.setRow (g6) #[.int .i64 psn, .int .i64 pne, .int .i64 pmd, .int .i64 x.k, .slice A5 x.v.length c5]) := below_setRow BX (by omega) _
   replace K6 : Blk (Y1.setRow (g6) #[.int .i64 psn, .int .i64 pne, .int .i64 pmd, .int .i64 x.k, .slice A5 x.v.length c5]) (g6) 26 #[.int .i64 psn, .int .i64 pne, .int .i64 pmd, .int .i64 x.k, .slice A5 x.v.length c5] := Av.bset_row K6
   generalize Y1.setRow (g6) #[.int .i64 psn, .int .i64 pne, .int .i64 pmd, .int .i64 x.k, .slice A5 x.v.length c5] = Y at *
   clear H1 HCp
   have u0 := HT0.out _ BX
   by_cases d0 : d = 0
   ·
    have gd0 : (d == 0) = true := by simpa using d0
    clear d0 HT26
    go_upto_region 14 with (fail)
    clear u0 gd0 HT0
    obtain ⟨⟨⟨rsn, rne, rq, rop, rem, rack, rtak⟩, E⟩, hr⟩ : ∃ r, queueR ⟨ssn, sne, sq, sop, sem, sack, stak⟩ x.p = r := ⟨_, rfl⟩
    have HJ : Hid (Jn ⟨rsn, rne, rq, rop, rem, rack, rtak⟩ (j + 1)) := Lib.hid (by have := jn_queue HJs x.p; rw [hr] at this; exact this)
    have HQu : Hid (∀ X, QQ X 0 0 V l → PP X 0 ⟨x.k, A5, c5, x.v⟩ → Calls Try.prog 28 #[.agg #[.int .i64 ssn, .int .i64 sne, V, .bool sop, .bool sem, .int .i64 (sack : Int), .int .i64 (stak : Int)], .agg #[.int .i64 x.k, .slice A5 x.v.length c5]] X fun e X' => ∃ V1 l1, e = .returned (.tuple #[.agg #[.int .i64 rsn, .int .i64 rne, V1, .bool rop, .bool rem, .int .i64 (rack : Int), .int .i64 (rtak : Int)], .int .i64 E]) ∧ QQ X' 0 0 V1 l1 ∧ Hid (l1.map Pm.p = rq) ∧ Below X.heap.size X X') := Lib.hid fun X hqq hyy => by
      have := queue_any ⟨ssn, sne, sq, sop, sem, sack, stak⟩ V l ⟨x.k, A5, c5, x.v⟩ X (by omega) hqq.qi hlm hyy.gp
      rw [show Pm.p ⟨x.k, A5, c5, x.v⟩ = x.p from rfl, hr] at this
      exact this.mono fun e w' ⟨V', l', he, h1, h2, h3⟩ => ⟨V', l', he, h1.less (Nat.zero_le _) (Nat.le_refl _), Lib.hid h2, h3⟩
    have HRu : Hid (∀ X, QQ X 0 w.heap.size V2 l2 → Below w.heap.size w X → Calls Try.prog 29 #[.agg #[.int .i64 ssn, .int .i64 sne, V2, .bool sop, .bool sem, .int .i64 (sack : Int), .int .i64 (stak : Int)], .agg #[.int .i64 x.k, .slice x.A x.v.length x.c]] X fun e X' => ∃ V3 l3, e = .returned (.tuple #[.agg #[.int .i64 rsn, .int .i64 rne, V3, .bool rop, .bool rem, .int .i64 (rack : Int), .int .i64 (rtak : Int)], .int .i64 E]) ∧ QQ X' 0 w.heap.size V3 l3 ∧ Hid (l3.map Pm.p = rq) ∧ Below X.heap.size X X') := Lib.hid fun X hqq b9 => by
      have := rqueue_any ⟨ssn, sne, sq, sop, sem, sack, stak⟩ V2 l2 x w.heap.size X (by omega) hqq hlm2 (HYf.out X b9) b9.size
      rw [hr] at this
      exact this.mono fun e w' ⟨V', l', he, h1, h2, h3⟩ => ⟨V', l', he, h1, Lib.hid h2, h3⟩
    have eE : (E != E) = false := by simp
    have p3 := K6.cell 3
    have p4 := K6.cell 4
    clear hr
    go_upto_region 15 with (first | (refine wpList_load_row rfl 43 (.tmp 3) rfl (g) rfl 43 _ (0, 0) _ K3 Try.underlying43 rfl (by kernel_rfl) ?_) | (go_at_call 28; refine (HQu.out _ HQ1 HX).mono ?_; rintro e W5 ⟨V1, l1, rfl, hq1, hl1, b9⟩; replace HQ1 := hq1; clear hq1; replace K3 := K3.below b9 K3.lt; replace K4 := K4.below b9 K4.lt; replace HQ2 := HQ2.below b9; replace BX := thenB BX b9; clear b9; have oV1 : V1.oneCell' = true := qq_one HQ1; have H1 : (#[.int .i64 rsn, .int .i64 rne, V1, .bool rop, .bool rem, .int .i64 (rack : Int), .int .i64 (rtak : Int)] : Array Value).all (·.oneCell') = true := (by rw [← Array.all_toList]; simp only [List.all_cons, List.all_nil, oV1, Bool.and_true, Bool.and_self]; rfl)) | (refine wpList_store_row rfl 43 (.tmp 3) (.tmp 53) rfl (g) #[.int .i64 rsn, .int .i64 rne, V1, .bool rop, .bool rem, .int .i64 (rack : Int), .int .i64 (rtak : Int)] rfl rfl 43 _ K3 (by kernel_rfl) rfl H1 ?_))
    clear p3 p4 HX K6 HQu hlm HT15a
    replace HQ1 := HQ1.step (stp_row K3 #[.int .i64 rsn, .int .i64 rne, V1, .bool rop, .bool rem, .int .i64 (rack : Int), .int .i64 (rtak : Int)]) (by decide) (by decide) (Nat.zero_le _)
    replace HQ2 := HQ2.step (stp_row K3 #[.int .i64 rsn, .int .i64 rne, V1, .bool rop, .bool rem, .int .i64 (rack : Int), .int .i64 (rtak : Int)]) (by decide) (by decide) (show w.heap.size ≤ g by omega)
    replace K4 : Blk (W5.setRow (g) #[.int .i64 rsn, .int .i64 rne, V1, .bool rop, .bool rem, .int .i64 (rack : Int), .int .i64 (rtak : Int)]) (g + 1) 43 #[.int .i64 ssn, .int .i64 sne, V2, .bool sop, .bool sem, .int .i64 (sack : Int), .int .i64 (stak : Int)] := Av.bother_row K4 (by omega)
    replace BX : Below w.heap.size w (W5.setRow (g) #[.int .i64 rsn, .int .i64 rne, V1, .bool rop, .bool rem, .int .i64 (rack : Int), .int .i64 (rtak : Int)]) := below_setRow BX (by omega) _
    replace K3 : Blk (W5.setRow (g) #[.int .i64 rsn, .int .i64 rne, V1, .bool rop, .bool rem, .int .i64 (rack : Int), .int .i64 (rtak : Int)]) (g) 43 #[.int .i64 rsn, .int .i64 rne, V1, .bool rop, .bool rem, .int .i64 (rack : Int), .int .i64 (rtak : Int)] := Av.bset_row K3
    generalize W5.setRow (g) #[.int .i64 rsn, .int .i64 rne, V1, .bool rop, .bool rem, .int .i64 (rack : Int), .int .i64 (rtak : Int)] = Y5 at *
    clear H1
    have TT := HT15.out _ BX
    have K3' : Blk Y5.drew (g) 43 #[.int .i64 rsn, .int .i64 rne, V1, .bool rop, .bool rem, .int .i64 (rack : Int), .int .i64 (rtak : Int)] := Mem.Blk.drew K3
    have K4' : Blk Y5.drew (g + 1) 43 #[.int .i64 ssn, .int .i64 sne, V2, .bool sop, .bool sem, .int .i64 (sack : Int), .int .i64 (stak : Int)] := Mem.Blk.drew K4
    refine wp_region_held_drew (S := (fun w' => w'.cell? ⟨b, off + j * 6 + 1 + 3, none⟩ = some (.int .i64 x.k) ∧ w'.cell? ⟨b, off + j * 6 + 1 + 3 + 1, none⟩ = some (.slice x.A x.v.length x.c))) (by kernel_rfl) ?_ (fun hHeld => ?_)
    ·
      exact TT
    replace K3 := K3'
    clear K3'
    replace K4 := K4'
    clear K4'
    replace BX : Below w.heap.size w Y5.drew := BX.drew
    replace HQ1 := (show QQ Y5.drew 0 0 V1 l1 from HQ1.below ((Below.refl Y5.heap.size Y5).drew))
    replace HQ2 := (show QQ Y5.drew 0 w.heap.size V2 l2 from HQ2.below ((Below.refl Y5.heap.size Y5).drew))
    replace TT := HT15.out _ BX
    replace TT : Y5.drew.cell? ⟨b, off + j * 6 + 1 + 3, none⟩ = some (.int .i64 x.k) ∧ Y5.drew.cell? ⟨b, off + j * 6 + 1 + 3 + 1, none⟩ = some (.slice x.A x.v.length x.c) := TT
    generalize Y5.drew = X0 at *
    refine wpAnyH_take (i := 1) (v := .slice (some ⟨b, off, none⟩) n c) rfl (by kernel_rfl) (by kernel_rfl) (by kernel_rfl) (fun _ _ _ h => h) (.inl ⟨by first | rfl | go_simp, by intro u h; (try dsimp only at h); go_simp⟩) ‹_› ?_
    simp only [getElem_toArray, getElem_cons_zero, getElem_cons_succ, Act.put, setIfInBounds_toArray, set_cons_zero, set_cons_succ]
    refine wpAnyH_take (i := 2) (v := .int .i64 (j : Int)) rfl (by kernel_rfl) (by kernel_rfl) (by kernel_rfl) (fun _ _ _ h => h) (.inl ⟨by first | rfl | go_simp, by intro u h; (try dsimp only at h); go_simp⟩) ‹_› ?_
    simp only [getElem_toArray, getElem_cons_zero, getElem_cons_succ, Act.put, setIfInBounds_toArray, set_cons_zero, set_cons_succ]
    refine wpAnyH_take (i := 3) (v := .pointer (some ⟨b, off + j * 6, none⟩)) rfl (by kernel_rfl) (by kernel_rfl) (by kernel_rfl) (fun _ _ _ h => h) (.inl ⟨by first | rfl | go_simp, by intro u h; (try dsimp only at h); go_simp⟩) ‹_› ?_
    simp only [getElem_toArray, getElem_cons_zero, getElem_cons_succ, Act.put, setIfInBounds_toArray, set_cons_zero, set_cons_succ]
    refine wpAnyH_take (i := 4) (v := .pointer (some ⟨b, off + j * 6 + 1, none⟩)) rfl (by kernel_rfl) (by kernel_rfl) (by kernel_rfl) (fun _ _ _ h => h) (.inl ⟨by first | rfl | go_simp, by intro u h; (try dsimp only at h); go_simp⟩) ‹_› ?_
    simp only [getElem_toArray, getElem_cons_zero, getElem_cons_succ, Act.put, setIfInBounds_toArray, set_cons_zero, set_cons_succ]
    refine wpAnyH_take (i := 5) (v := .pointer (some ⟨b, off + j * 6 + 1 + 3, none⟩)) rfl (by kernel_rfl) (by kernel_rfl) (by kernel_rfl) (fun _ _ _ h => h) (.inl ⟨by first | rfl | go_simp, by intro u h; (try dsimp only at h); go_simp⟩) ‹_› ?_
    simp only [getElem_toArray, getElem_cons_zero, getElem_cons_succ, Act.put, setIfInBounds_toArray, set_cons_zero, set_cons_succ]
    refine wpAnyH_take (i := 6) (v := .agg #[.int .i64 x.k, .slice x.A x.v.length x.c]) rfl (by kernel_rfl) (by kernel_rfl) (by kernel_rfl) (fun _ _ _ h => h) (.inl ⟨by first | rfl | go_simp, by intro u h; (try dsimp only at h); go_simp⟩) ‹_› ?_
    simp only [getElem_toArray, getElem_cons_zero, getElem_cons_succ, Act.put, setIfInBounds_toArray, set_cons_zero, set_cons_succ]
    refine wpAnyH_ready (rs := [0]) (by kernel_rfl) (by simp) ?_
    refine .cons rfl (fun K hK => ?_) .nil
    have c90 := K4.cell 0
    have c91 := K4.cell 1
    have c92 := K4.cell 2
    have c93 := K4.cell 3
    have c94 := K4.cell 4
    have c95 := K4.cell 5
    have c96 := K4.cell 6
    go_simp
    clear c90 c91 c92 c93 c94 c95 c96
    refine hK.out _ _ TT (fun hHeld => ?_)
    clear hK K
    try simp only [getElem_toArray, getElem_cons_zero, getElem_cons_succ, Act.put, setIfInBounds_toArray, set_cons_zero, set_cons_succ]
    refine wpAnyH_ready (rs := [7]) (by kernel_rfl) (by simp) ?_
    refine .cons rfl (fun K hK => ?_) .nil
    go_simp
    refine (HRu.out X0 HQ2 BX).mono ?_
    rintro e X1 ⟨V3, l3, rfl, hq2, hl2, b9⟩
    have oV3 : V3.oneCell' = true := qq_one hq2
    clear HQ2
    have HQ2 := hq2
    clear hq2
    replace K3 := K3.below b9 K3.lt
    replace K4 := K4.below b9 K4.lt
    replace BX := thenB BX b9
    replace HQ1 := HQ1.below b9
    replace TT := HT15.out _ BX
    clear b9
    refine hK.out _ _ TT (fun hHeld => ?_)
    clear hK K
    try simp only [getElem_toArray, getElem_cons_zero, getElem_cons_succ, Act.put, setIfInBounds_toArray, set_cons_zero, set_cons_succ]
    refine wpAnyH_take (i := 8) (v := .tuple #[.agg #[.int .i64 rsn, .int .i64 rne, V3, .bool rop, .bool rem, .int .i64 (rack : Int), .int .i64 (rtak : Int)], .int .i64 E]) rfl (by kernel_rfl) (by kernel_rfl) (by kernel_rfl) (fun _ _ _ h => h) (.inl ⟨by first | rfl | go_simp, by intro u h; (try dsimp only at h); go_simp⟩) ‹_› ?_
    simp only [getElem_toArray, getElem_cons_zero, getElem_cons_succ, Act.put, setIfInBounds_toArray, set_cons_zero, set_cons_succ]
    refine wpAnyH_take (i := 9) (v := .agg #[.int .i64 rsn, .int .i64 rne, V3, .bool rop, .bool rem, .int .i64 (rack : Int), .int .i64 (rtak : Int)]) rfl (by kernel_rfl) (by kernel_rfl) (by kernel_rfl) (fun _ _ _ h => h) (.inl ⟨by first | rfl | go_simp, by intro u h; (try dsimp only at h); go_simp⟩) ‹_› ?_
    simp only [getElem_toArray, getElem_cons_zero, getElem_cons_succ, Act.put, setIfInBounds_toArray, set_cons_zero, set_cons_succ]
    refine wpAnyH_take (i := 10) (v := .int .i64 E) rfl (by kernel_rfl) (by kernel_rfl) (by kernel_rfl) (fun _ _ _ h => h) (.inl ⟨by first | rfl | go_simp, by intro u h; (try dsimp only at h); go_simp⟩) ‹_› ?_
    simp only [getElem_toArray, getElem_cons_zero, getElem_cons_succ, Act.put, setIfInBounds_toArray, set_cons_zero, set_cons_succ]
    refine wpAnyH_ready (rs := [11]) (by kernel_rfl) (by simp) ?_
    refine .cons rfl (fun K hK => ?_) .nil
    have H9 : (#[.int .i64 rsn, .int .i64 rne, V3, .bool rop, .bool rem, .int .i64 (rack : Int), .int .i64 (rtak : Int)] : Array Value).all (·.oneCell') = true := by rw [← Array.all_toList]; simp only [List.all_cons, List.all_nil, oV3, Bool.and_true, Bool.and_self]; rfl
    refine Av.step_store_row rfl 43 (.tmp 4) (.tmp 64) rfl (g + 1) #[.int .i64 rsn, .int .i64 rne, V3, .bool rop, .bool rem, .int .i64 (rack : Int), .int .i64 (rtak : Int)] rfl rfl 43 _ K4 (by kernel_rfl) rfl H9 ?_
    replace HQ1 := HQ1.step (stp_row K4 #[.int .i64 rsn, .int .i64 rne, V3, .bool rop, .bool rem, .int .i64 (rack : Int), .int .i64 (rtak : Int)]) (by decide) (by decide) (Nat.zero_le _)
    replace HQ2 := HQ2.step (stp_row K4 #[.int .i64 rsn, .int .i64 rne, V3, .bool rop, .bool rem, .int .i64 (rack : Int), .int .i64 (rtak : Int)]) (by decide) (by decide) (show w.heap.size ≤ g + 1 by omega)
    replace TT := HT15.out _ (show Below w.heap.size w (X1.setRow (g + 1) #[.int .i64 rsn, .int .i64 rne, V3, .bool rop, .bool rem, .int .i64 (rack : Int), .int .i64 (rtak : Int)]) from below_setRow BX (by omega) _)
    replace K3 : Blk (X1.setRow (g + 1) #[.int .i64 rsn, .int .i64 rne, V3, .bool rop, .bool rem, .int .i64 (rack : Int), .int .i64 (rtak : Int)]) (g) 43 #[.int .i64 rsn, .int .i64 rne, V1, .bool rop, .bool rem, .int .i64 (rack : Int), .int .i64 (rtak : Int)] := Av.bother_row K3 (by omega)
    replace K4 : Blk (X1.setRow (g + 1) #[.int .i64 rsn, .int .i64 rne, V3, .bool rop, .bool rem, .int .i64 (rack : Int), .int .i64 (rtak : Int)]) (g + 1) 43 #[.int .i64 rsn, .int .i64 rne, V3, .bool rop, .bool rem, .int .i64 (rack : Int), .int .i64 (rtak : Int)] := Av.bset_row K4
    replace BX : Below w.heap.size w (X1.setRow (g + 1) #[.int .i64 rsn, .int .i64 rne, V3, .bool rop, .bool rem, .int .i64 (rack : Int), .int .i64 (rtak : Int)]) := below_setRow BX (by omega) _
    clear H9
    generalize X1.setRow (g + 1) #[.int .i64 rsn, .int .i64 rne, V3, .bool rop, .bool rem, .int .i64 (rack : Int), .int .i64 (rtak : Int)] = X2 at *
    refine hK.out _ _ TT (fun hHeld => ?_)
    clear hK K
    try simp only [getElem_toArray, getElem_cons_zero, getElem_cons_succ, Act.put, setIfInBounds_toArray, set_cons_zero, set_cons_succ]
    refine wpAnyH_take (i := 12) (v := .int .i64 E) rfl (by kernel_rfl) (by kernel_rfl) (by kernel_rfl) (fun _ _ _ h => h) (.inl ⟨by first | rfl | go_simp, by intro u h; (try dsimp only at h); go_simp⟩) ‹_› ?_
    simp only [getElem_toArray, getElem_cons_zero, getElem_cons_succ, Act.put, setIfInBounds_toArray, set_cons_zero, set_cons_succ]
    refine wpAnyH_done (by kernel_rfl) ?_ _
    clear hHeld HRu HT15
    go_upto_region 30 with (fail)
    have HSm : Hid (∀ X, QQ X 0 0 V1 l1 → QQ X 0 w.heap.size V3 l3 → Calls Try.prog 36 #[.agg #[.int .i64 rsn, .int .i64 rne, V1, .bool rop, .bool rem, .int .i64 (rack : Int), .int .i64 (rtak : Int)], .agg #[.int .i64 rsn, .int .i64 rne, V3, .bool rop, .bool rem, .int .i64 (rack : Int), .int .i64 (rtak : Int)]] X fun e w' => e = .returned (.bool true) ∧ Below X.heap.size X w') := Lib.hid fun X h1 h2 => same_yes ⟨rsn, rne, rq, rop, rem, rack, rtak⟩ V1 V3 l1 l3 X h1.qi h2.qi (hl1.out.trans hl2.out.symm) (by have h : l1.length = rq.length := (by rw [← hl1.out, List.length_map]); have := HJ.out.len; simp only at this; omega)
    obtain ⟨B, hB⟩ : ∃ B : Bool, ((rq.length : Int) == 0) = B := ⟨_, rfl⟩
    have HI1 : Hid (∀ X, Calls Try.prog 37 #[.agg #[.int .i64 rsn, .int .i64 rne, V1, .bool rop, .bool rem, .int .i64 (rack : Int), .int .i64 (rtak : Int)]] X fun e w' => e = .returned (.bool B) ∧ Below X.heap.size X w') := Lib.hid fun X => hB ▸ idle_of HQ1 hl1.out X
    have HI2 : Hid (∀ X, Calls Try.prog 38 #[.agg #[.int .i64 rsn, .int .i64 rne, V3, .bool rop, .bool rem, .int .i64 (rack : Int), .int .i64 (rtak : Int)]] X fun e w' => e = .returned (.bool B) ∧ Below X.heap.size X w') := Lib.hid fun X => hB ▸ ridle_of HQ2 hl2.out X
    clear hB
    have eB : (B != B) = false := by simp
    have K3' : Blk X2.drew (g) 43 #[.int .i64 rsn, .int .i64 rne, V1, .bool rop, .bool rem, .int .i64 (rack : Int), .int .i64 (rtak : Int)] := Mem.Blk.drew K3
    have K4' : Blk X2.drew (g + 1) 43 #[.int .i64 rsn, .int .i64 rne, V3, .bool rop, .bool rem, .int .i64 (rack : Int), .int .i64 (rtak : Int)] := Mem.Blk.drew K4
    refine wp_region_held_drew (S := (fun w' => Blk w' (g + 1) 43 #[.int .i64 rsn, .int .i64 rne, V3, .bool rop, .bool rem, .int .i64 (rack : Int), .int .i64 (rtak : Int)] ∧ Blk w' (g) 43 #[.int .i64 rsn, .int .i64 rne, V1, .bool rop, .bool rem, .int .i64 (rack : Int), .int .i64 (rtak : Int)])) (by kernel_rfl) ?_ (fun hHeld => ?_)
    ·
      exact ⟨K4', K3'⟩
    replace K3 := K3'
    clear K3'
    replace K4 := K4'
    clear K4'
    replace BX : Below w.heap.size w X2.drew := BX.drew
    replace HQ1 := (show QQ X2.drew 0 0 V1 l1 from HQ1.below ((Below.refl X2.heap.size X2).drew))
    replace HQ2 := (show QQ X2.drew 0 w.heap.size V3 l3 from HQ2.below ((Below.refl X2.heap.size X2).drew))
    generalize X2.drew = T0 at *
    refine wpAnyH_take (i := 0) (v := .agg #[.int .i64 rsn, .int .i64 rne, V1, .bool rop, .bool rem, .int .i64 (rack : Int), .int .i64 (rtak : Int)]) rfl (by kernel_rfl) (by kernel_rfl) (by kernel_rfl) (fun _ _ _ h => h) (Av.yields_part (by first | rfl | go_simp) _ _ rfl (g) 0 rfl #[.int .i64 rsn, .int .i64 rne, V1, .bool rop, .bool rem, .int .i64 (rack : Int), .int .i64 (rtak : Int)] _ 43 #[.int .i64 rsn, .int .i64 rne, V1, .bool rop, .bool rem, .int .i64 (rack : Int), .int .i64 (rtak : Int)] (fun w9 hSw => hSw.2) rfl Try.underlying43 rfl (by kernel_rfl)) ‹_› ?_
    simp only [getElem_toArray, getElem_cons_zero, getElem_cons_succ, Act.put, setIfInBounds_toArray, set_cons_zero, set_cons_succ]
    refine wpAnyH_take (i := 1) (v := .agg #[.int .i64 rsn, .int .i64 rne, V3, .bool rop, .bool rem, .int .i64 (rack : Int), .int .i64 (rtak : Int)]) rfl (by kernel_rfl) (by kernel_rfl) (by kernel_rfl) (fun _ _ _ h => h) (Av.yields_part (by first | rfl | go_simp) _ _ rfl (g + 1) 0 rfl #[.int .i64 rsn, .int .i64 rne, V3, .bool rop, .bool rem, .int .i64 (rack : Int), .int .i64 (rtak : Int)] _ 43 #[.int .i64 rsn, .int .i64 rne, V3, .bool rop, .bool rem, .int .i64 (rack : Int), .int .i64 (rtak : Int)] (fun w9 hSw => hSw.1) rfl Try.underlying43 rfl (by kernel_rfl)) ‹_› ?_
    simp only [getElem_toArray, getElem_cons_zero, getElem_cons_succ, Act.put, setIfInBounds_toArray, set_cons_zero, set_cons_succ]
    refine wpAnyH_ready (rs := [2]) (by kernel_rfl) (by simp) ?_
    refine .cons rfl (fun K hK => ?_) .nil
    go_simp
    refine (HSm.out T0 HQ1 HQ2).mono ?_
    rintro e T1 ⟨rfl, b9⟩
    replace K3 := K3.below b9 K3.lt
    replace K4 := K4.below b9 K4.lt
    replace BX := thenB BX b9
    replace HQ1 := HQ1.below b9
    replace HQ2 := HQ2.below b9
    clear b9
    refine hK.out _ _ ⟨K4, K3⟩ (fun hHeld => ?_)
    clear hK K
    try simp only [getElem_toArray, getElem_cons_zero, getElem_cons_succ, Act.put, setIfInBounds_toArray, set_cons_zero, set_cons_succ]
    refine wpAnyH_take (i := 3) (v := .bool false) rfl (by kernel_rfl) (by kernel_rfl) (by kernel_rfl) (fun _ _ _ h => h) (.inl ⟨by first | rfl | go_simp, by intro u h; (try dsimp only at h); go_simp⟩) ‹_› ?_
    simp only [getElem_toArray, getElem_cons_zero, getElem_cons_succ, Act.put, setIfInBounds_toArray, set_cons_zero, set_cons_succ]
    refine wpAnyH_take (i := 4) (v := .bool false) rfl (by kernel_rfl) (by kernel_rfl) (by kernel_rfl) (fun _ _ _ h => h) (.inl ⟨by first | rfl | go_simp, by intro u h; (try dsimp only at h); go_simp⟩) ‹_› ?_
    simp only [getElem_toArray, getElem_cons_zero, getElem_cons_succ, Act.put, setIfInBounds_toArray, set_cons_zero, set_cons_succ]
    refine wpAnyH_take (i := 5) (v := .agg #[.int .i64 rsn, .int .i64 rne, V1, .bool rop, .bool rem, .int .i64 (rack : Int), .int .i64 (rtak : Int)]) rfl (by kernel_rfl) (by kernel_rfl) (by kernel_rfl) (fun _ _ _ h => h) (Av.yields_part (by first | rfl | go_simp) _ _ rfl (g) 0 rfl #[.int .i64 rsn, .int .i64 rne, V1, .bool rop, .bool rem, .int .i64 (rack : Int), .int .i64 (rtak : Int)] _ 43 #[.int .i64 rsn, .int .i64 rne, V1, .bool rop, .bool rem, .int .i64 (rack : Int), .int .i64 (rtak : Int)] (fun w9 hSw => hSw.2) rfl Try.underlying43 rfl (by kernel_rfl)) ‹_› ?_
    simp only [getElem_toArray, getElem_cons_zero, getElem_cons_succ, Act.put, setIfInBounds_toArray, set_cons_zero, set_cons_succ]
    refine wpAnyH_take (i := 7) (v := .agg #[.int .i64 rsn, .int .i64 rne, V3, .bool rop, .bool rem, .int .i64 (rack : Int), .int .i64 (rtak : Int)]) rfl (by kernel_rfl) (by kernel_rfl) (by kernel_rfl) (fun _ _ _ h => h) (Av.yields_part (by first | rfl | go_simp) _ _ rfl (g + 1) 0 rfl #[.int .i64 rsn, .int .i64 rne, V3, .bool rop, .bool rem, .int .i64 (rack : Int), .int .i64 (rtak : Int)] _ 43 #[.int .i64 rsn, .int .i64 rne, V3, .bool rop, .bool rem, .int .i64 (rack : Int), .int .i64 (rtak : Int)] (fun w9 hSw => hSw.1) rfl Try.underlying43 rfl (by kernel_rfl)) ‹_› ?_
    simp only [getElem_toArray, getElem_cons_zero, getElem_cons_succ, Act.put, setIfInBounds_toArray, set_cons_zero, set_cons_succ]
    refine wpAnyH_ready (rs := [6]) (by kernel_rfl) (by simp) ?_
    refine .cons rfl (fun K hK => ?_) .nil
    go_simp
    refine (HI1.out T1).mono ?_
    rintro e T2 ⟨rfl, b9⟩
    replace K3 := K3.below b9 K3.lt
    replace K4 := K4.below b9 K4.lt
    replace BX := thenB BX b9
    replace HQ1 := HQ1.below b9
    replace HQ2 := HQ2.below b9
    clear b9
    refine hK.out _ _ ⟨K4, K3⟩ (fun hHeld => ?_)
    clear hK K
    try simp only [getElem_toArray, getElem_cons_zero, getElem_cons_succ, Act.put, setIfInBounds_toArray, set_cons_zero, set_cons_succ]
    refine wpAnyH_ready (rs := [8]) (by kernel_rfl) (by simp) ?_
    refine .cons rfl (fun K hK => ?_) .nil
    go_simp
    refine (HI2.out T2).mono ?_
    rintro e T3 ⟨rfl, b9⟩
    replace K3 := K3.below b9 K3.lt
    replace K4 := K4.below b9 K4.lt
    replace BX := thenB BX b9
    replace HQ1 := HQ1.below b9
    replace HQ2 := HQ2.below b9
    clear b9
    refine hK.out _ _ ⟨K4, K3⟩ (fun hHeld => ?_)
    clear hK K
    try simp only [getElem_toArray, getElem_cons_zero, getElem_cons_succ, Act.put, setIfInBounds_toArray, set_cons_zero, set_cons_succ]
    refine wpAnyH_take (i := 9) (v := .bool false) rfl (by kernel_rfl) (by kernel_rfl) (by kernel_rfl) (fun _ _ _ h => h) (.inl ⟨by first | rfl | go_simp, by intro u h; (try dsimp only at h); go_simp⟩) ‹_› ?_
    simp only [getElem_toArray, getElem_cons_zero, getElem_cons_succ, Act.put, setIfInBounds_toArray, set_cons_zero, set_cons_succ]
    refine wpAnyH_take (i := 10) (v := .bool false) rfl (by kernel_rfl) (by kernel_rfl) (by kernel_rfl) (fun _ _ _ h => h) (.inl ⟨by first | rfl | go_simp, by intro u h; (try dsimp only at h); go_simp⟩) ‹_› ?_
    simp only [getElem_toArray, getElem_cons_zero, getElem_cons_succ, Act.put, setIfInBounds_toArray, set_cons_zero, set_cons_succ]
    refine wpAnyH_done (by kernel_rfl) ?_ _
    clear hHeld HSm HI1 HI2
    go_wp2_with fail
    go_roundw
    case rel => exact ⟨j + 1, rsn, rne, rq, rop, rem, rack, rtak, V1, V3, l1, l3, by omega, by go_num, HJ.out, hl1.out, hl2.out, HQ1, HQ2, K3, K4, BX⟩
    case measure => simp [intOf]; omega
   by_cases d1 : d = 1
   ·
    have gd0 : (d == 0) = false := by simpa using d0
    have gd1 : (d == 1) = true := by simpa using d1
    clear d0 d1 HT26 HT15
    go_upto_region 19 with (fail)
    clear u0 gd0 gd1 HT0
    obtain ⟨r, hr⟩ : ∃ r, openR ⟨ssn, sne, sq, sop, sem, sack, stak⟩ = r := ⟨_, rfl⟩
    have hsq : r.q = sq := by rw [← hr]; unfold openR; split <;> rfl
    obtain ⟨p, hp⟩ : ∃ p, pduR r = p := ⟨_, rfl⟩
    have HJ1 := jn_open HJs
    rw [hr] at HJ1
    obtain ⟨rsn, rne, rq, rop, rem, rack, rtak⟩ := r
    obtain ⟨qsn, qne, qmd, qk, qv⟩ := p
    obtain ⟨qn, hqn⟩ : ∃ qn, qv.length = qn := ⟨_, rfl⟩
    simp only at hsq
    have HJ := Lib.hid HJ1
    clear HJ1
    have HSe : Hid (∀ X, QQ X 0 0 V l → Calls Try.prog 30 #[.agg #[.int .i64 ssn, .int .i64 sne, V, .bool sop, .bool sem, .int .i64 (sack : Int), .int .i64 (stak : Int)]] X fun e w' => ∃ V1 l1 QA qc, e = .returned (.tuple #[.agg #[.int .i64 rsn, .int .i64 rne, V1, .bool rop, .bool rem, .int .i64 (rack : Int), .int .i64 (rtak : Int)], .agg #[.int .i64 qsn, .int .i64 qne, .int .i64 qmd, .int .i64 qk, .slice QA qn qc]]) ∧ QQ w' 0 0 V1 l1 ∧ Hid (l1.map Pm.p = rq) ∧ V1.oneCell' = true ∧ PP w' 0 ⟨qk, QA, qc, qv⟩ ∧ Below X.heap.size X w') := Lib.hid fun X hqq => by
      have := send_to hr hp hqn V l X (by omega) hqq.qi hlm
      rw [← hsq] at this
      exact this
    have HSr : Hid (∀ X, QQ X 0 w.heap.size V2 l2 → w.heap.size ≤ X.heap.size → Calls Try.prog 31 #[.agg #[.int .i64 ssn, .int .i64 sne, V2, .bool sop, .bool sem, .int .i64 (sack : Int), .int .i64 (stak : Int)]] X fun e w' => ∃ QB qd, e = .returned (.tuple #[.agg #[.int .i64 rsn, .int .i64 rne, V2, .bool rop, .bool rem, .int .i64 (rack : Int), .int .i64 (rtak : Int)], .agg #[.int .i64 qsn, .int .i64 qne, .int .i64 qmd, .int .i64 qk, .slice QB qn qd]]) ∧ PP w' w.heap.size ⟨qk, QB, qd, qv⟩ ∧ Below X.heap.size X w') := Lib.hid fun X hqq hle => rsend_to hr hp hqn V2 l2 w.heap.size X (by omega) hqq hlm2 hle
    have hl2 : Hid (l2.map Pm.p = rq) := Lib.hid (hlm2.trans hsq.symm)
    clear hr hp hsq hlm hlm2 HX K6 HYf
    go_upto_region 20 with (fail)
    have K9 : Blk ((Y.alloc (.cells #[.int .i64 0, .int .i64 0, .int .i64 0, .int .i64 0, .slice none 0 0] 26)).alloc (.cells #[.int .i64 0, .int .i64 0, .int .i64 0, .int .i64 0, .slice none 0 0] 26)) Y.heap.size 26 #[.int .i64 0, .int .i64 0, .int .i64 0, .int .i64 0, .slice none 0 0] := (Blk.fresh Y 26 #[.int .i64 0, .int .i64 0, .int .i64 0, .int .i64 0, .slice none 0 0]).alloc _
    have K10 : Blk ((Y.alloc (.cells #[.int .i64 0, .int .i64 0, .int .i64 0, .int .i64 0, .slice none 0 0] 26)).alloc (.cells #[.int .i64 0, .int .i64 0, .int .i64 0, .int .i64 0, .slice none 0 0] 26)) (Y.heap.size + 1) 26 #[.int .i64 0, .int .i64 0, .int .i64 0, .int .i64 0, .slice none 0 0] := Av.Blk.next
    have b9 : Below Y.heap.size Y ((Y.alloc (.cells #[.int .i64 0, .int .i64 0, .int .i64 0, .int .i64 0, .slice none 0 0] 26)).alloc (.cells #[.int .i64 0, .int .i64 0, .int .i64 0, .int .i64 0, .slice none 0 0] 26)) := ((Below.refl _ _).alloc (Nat.le_refl _) _).alloc (by simp) _
    have hk4 := K4.lt
    replace K3 := K3.below b9 K3.lt
    replace K4 := K4.below b9 K4.lt
    replace HQ1 := HQ1.below b9
    replace HQ2 := HQ2.below b9
    replace BX := thenB BX b9
    clear b9
    generalize (Y.alloc (.cells #[.int .i64 0, .int .i64 0, .int .i64 0, .int .i64 0, .slice none 0 0] 26)).alloc (.cells #[.int .i64 0, .int .i64 0, .int .i64 0, .int .i64 0, .slice none 0 0] 26) = Y1 at *
    obtain ⟨h, hh⟩ : ∃ h, Y.heap.size = h := ⟨_, rfl⟩
    rw [hh] at K9 K10 hk4 ⊢
    clear hh
    go_upto_region 21 with (first | (refine wpList_load_row rfl 43 (.tmp 3) rfl (g) rfl 43 _ (0, 0) _ K3 Try.underlying43 rfl (by kernel_rfl) ?_) | (go_at_call 30; refine (HSe.out _ HQ1).mono ?_; rintro e W5 ⟨V1, l1, QA, qc, rfl, hq1, hl1, oV1, HX, b9⟩; replace HQ1 := hq1; clear hq1; replace K3 := K3.below b9 K3.lt; replace K4 := K4.below b9 K4.lt; replace K9 := K9.below b9 K9.lt; replace K10 := K10.below b9 K10.lt; replace HQ2 := HQ2.below b9; replace BX := thenB BX b9; clear b9; have H1 : (#[.int .i64 rsn, .int .i64 rne, V1, .bool rop, .bool rem, .int .i64 (rack : Int), .int .i64 (rtak : Int)] : Array Value).all (·.oneCell') = true := (by rw [← Array.all_toList]; simp only [List.all_cons, List.all_nil, oV1, Bool.and_true, Bool.and_self]; rfl); have H2 : (#[.int .i64 qsn, .int .i64 qne, .int .i64 qmd, .int .i64 qk, .slice QA qn qc] : Array Value).all (·.oneCell') = true := (by rw [← Array.all_toList]; rfl)) | (refine wpList_store_row rfl 43 (.tmp 3) (.tmp 74) rfl (g) #[.int .i64 rsn, .int .i64 rne, V1, .bool rop, .bool rem, .int .i64 (rack : Int), .int .i64 (rtak : Int)] rfl rfl 43 _ K3 (by kernel_rfl) rfl H1 ?_) | (refine wpList_store_row rfl 26 (.tmp 9) (.tmp 75) rfl (h) #[.int .i64 qsn, .int .i64 qne, .int .i64 qmd, .int .i64 qk, .slice QA qn qc] rfl rfl 26 _ (Av.bother_row K9 (by omega)) (by kernel_rfl) rfl H2 ?_))
    replace HQ1 := HQ1.step (stp_row K3 #[.int .i64 rsn, .int .i64 rne, V1, .bool rop, .bool rem, .int .i64 (rack : Int), .int .i64 (rtak : Int)]) (by decide) (by decide) (Nat.zero_le _)
    replace HQ2 := HQ2.step (stp_row K3 #[.int .i64 rsn, .int .i64 rne, V1, .bool rop, .bool rem, .int .i64 (rack : Int), .int .i64 (rtak : Int)]) (by decide) (by decide) (show w.heap.size ≤ g by omega)
    replace HX := HX.step (stp_row K3 #[.int .i64 rsn, .int .i64 rne, V1, .bool rop, .bool rem, .int .i64 (rack : Int), .int .i64 (rtak : Int)]) (by decide) (Nat.zero_le _)
    replace K4 : Blk (W5.setRow (g) #[.int .i64 rsn, .int .i64 rne, V1, .bool rop, .bool rem, .int .i64 (rack : Int), .int .i64 (rtak : Int)]) (g + 1) 43 #[.int .i64 ssn, .int .i64 sne, V2, .bool sop, .bool sem, .int .i64 (sack : Int), .int .i64 (stak : Int)] := Av.bother_row K4 (by omega)
    replace K9 : Blk (W5.setRow (g) #[.int .i64 rsn, .int .i64 rne, V1, .bool rop, .bool rem, .int .i64 (rack : Int), .int .i64 (rtak : Int)]) (h) 26 #[.int .i64 0, .int .i64 0, .int .i64 0, .int .i64 0, .slice none 0 0] := Av.bother_row K9 (by omega)
    replace K10 : Blk (W5.setRow (g) #[.int .i64 rsn, .int .i64 rne, V1, .bool rop, .bool rem, .int .i64 (rack : Int), .int .i64 (rtak : Int)]) (h + 1) 26 #[.int .i64 0, .int .i64 0, .int .i64 0, .int .i64 0, .slice none 0 0] := Av.bother_row K10 (by omega)
    replace BX : Below w.heap.size w (W5.setRow (g) #[.int .i64 rsn, .int .i64 rne, V1, .bool rop, .bool rem, .int .i64 (rack : Int), .int .i64 (rtak : Int)]) := below_setRow BX (by omega) _
    replace K3 : Blk (W5.setRow (g) #[.int .i64 rsn, .int .i64 rne, V1, .bool rop, .bool rem, .int .i64 (rack : Int), .int .i64 (rtak : Int)]) (g) 43 #[.int .i64 rsn, .int .i64 rne, V1, .bool rop, .bool rem, .int .i64 (rack : Int), .int .i64 (rtak : Int)] := Av.bset_row K3
    replace HQ1 := HQ1.step (stp_row K9 #[.int .i64 qsn, .int .i64 qne, .int .i64 qmd, .int .i64 qk, .slice QA qn qc]) (by decide) (by decide) (Nat.zero_le _)
    replace HQ2 := HQ2.step (stp_row K9 #[.int .i64 qsn, .int .i64 qne, .int .i64 qmd, .int .i64 qk, .slice QA qn qc]) (by decide) (by decide) (show w.heap.size ≤ h by omega)
    replace HX := HX.step (stp_row K9 #[.int .i64 qsn, .int .i64 qne, .int .i64 qmd, .int .i64 qk, .slice QA qn qc]) (by decide) (Nat.zero_le _)
    replace K3 : Blk ((W5.setRow (g) #[.int .i64 rsn, .int .i64 rne, V1, .bool rop, .bool rem, .int .i64 (rack : Int), .int .i64 (rtak : Int)]).setRow (h) #[.int .i64 qsn, .int .i64 qne, .int .i64 qmd, .int .i64 qk, .slice QA qn qc]) (g) 43 #[.int .i64 rsn, .int .i64 rne, V1, .bool rop, .bool rem, .int .i64 (rack : Int), .int .i64 (rtak : Int)] := Av.bother_row K3 (by omega)
    replace K4 : Blk ((W5.setRow (g) #[.int .i64 rsn, .int .i64 rne, V1, .bool rop, .bool rem, .int .i64 (rack : Int), .int .i64 (rtak : Int)]).setRow (h) #[.int .i64 qsn, .int .i64 qne, .int .i64 qmd, .int .i64 qk, .slice QA qn qc]) (g + 1) 43 #[.int .i64 ssn, .int .i64 sne, V2, .bool sop, .bool sem, .int .i64 (sack : Int), .int .i64 (stak : Int)] := Av.bother_row K4 (by omega)
    replace K10 : Blk ((W5.setRow (g) #[.int .i64 rsn, .int .i64 rne, V1, .bool rop, .bool rem, .int .i64 (rack : Int), .int .i64 (rtak : Int)]).setRow (h) #[.int .i64 qsn, .int .i64 qne, .int .i64 qmd, .int .i64 qk, .slice QA qn qc]) (h + 1) 26 #[.int .i64 0, .int .i64 0, .int .i64 0, .int .i64 0, .slice none 0 0] := Av.bother_row K10 (by omega)
    replace BX : Below w.heap.size w ((W5.setRow (g) #[.int .i64 rsn, .int .i64 rne, V1, .bool rop, .bool rem, .int .i64 (rack : Int), .int .i64 (rtak : Int)]).setRow (h) #[.int .i64 qsn, .int .i64 qne, .int .i64 qmd, .int .i64 qk, .slice QA qn qc]) := below_setRow BX (by omega) _
    replace K9 : Blk ((W5.setRow (g) #[.int .i64 rsn, .int .i64 rne, V1, .bool rop, .bool rem, .int .i64 (rack : Int), .int .i64 (rtak : Int)]).setRow (h) #[.int .i64 qsn, .int .i64 qne, .int .i64 qmd, .int .i64 qk, .slice QA qn qc]) (h) 26 #[.int .i64 qsn, .int .i64 qne, .int .i64 qmd, .int .i64 qk, .slice QA qn qc] := Av.bset_row K9
    generalize (W5.setRow (g) #[.int .i64 rsn, .int .i64 rne, V1, .bool rop, .bool rem, .int .i64 (rack : Int), .int .i64 (rtak : Int)]).setRow (h) #[.int .i64 qsn, .int .i64 qne, .int .i64 qmd, .int .i64 qk, .slice QA qn qc] = Y2 at *
    clear H1 H2 HSe
    go_upto_region 22 with (first | (refine wpList_load_row rfl 43 (.tmp 4) rfl (g + 1) rfl 43 _ (0, 0) _ K4 Try.underlying43 rfl (by kernel_rfl) ?_) | (go_at_call 31; refine (HSr.out _ HQ2 BX.size).mono ?_; rintro e W7 ⟨QB, qd, rfl, HZ, b9⟩; replace K3 := K3.below b9 K3.lt; replace K4 := K4.below b9 K4.lt; replace K9 := K9.below b9 K9.lt; replace K10 := K10.below b9 K10.lt; replace HQ1 := HQ1.below b9; replace HQ2 := HQ2.below b9; replace HX := HX.below b9; replace BX := thenB BX b9; clear b9; have oV2 : V2.oneCell' = true := qq_one HQ2; have H1 : (#[.int .i64 rsn, .int .i64 rne, V2, .bool rop, .bool rem, .int .i64 (rack : Int), .int .i64 (rtak : Int)] : Array Value).all (·.oneCell') = true := (by rw [← Array.all_toList]; simp only [List.all_cons, List.all_nil, oV2, Bool.and_true, Bool.and_self]; rfl); have H2 : (#[.int .i64 qsn, .int .i64 qne, .int .i64 qmd, .int .i64 qk, .slice QB qn qd] : Array Value).all (·.oneCell') = true := (by rw [← Array.all_toList]; rfl)) | (refine wpList_store_row rfl 43 (.tmp 4) (.tmp 79) rfl (g + 1) #[.int .i64 rsn, .int .i64 rne, V2, .bool rop, .bool rem, .int .i64 (rack : Int), .int .i64 (rtak : Int)] rfl rfl 43 _ K4 (by kernel_rfl) rfl H1 ?_) | (refine wpList_store_row rfl 26 (.tmp 10) (.tmp 80) rfl (h + 1) #[.int .i64 qsn, .int .i64 qne, .int .i64 qmd, .int .i64 qk, .slice QB qn qd] rfl rfl 26 _ (Av.bother_row K10 (by omega)) (by kernel_rfl) rfl H2 ?_))
    replace HQ1 := HQ1.step (stp_row K4 #[.int .i64 rsn, .int .i64 rne, V2, .bool rop, .bool rem, .int .i64 (rack : Int), .int .i64 (rtak : Int)]) (by decide) (by decide) (Nat.zero_le _)
    replace HQ2 := HQ2.step (stp_row K4 #[.int .i64 rsn, .int .i64 rne, V2, .bool rop, .bool rem, .int .i64 (rack : Int), .int .i64 (rtak : Int)]) (by decide) (by decide) (show w.heap.size ≤ g + 1 by omega)
    replace HX := HX.step (stp_row K4 #[.int .i64 rsn, .int .i64 rne, V2, .bool rop, .bool rem, .int .i64 (rack : Int), .int .i64 (rtak : Int)]) (by decide) (Nat.zero_le _)
    replace HZ := HZ.step (stp_row K4 #[.int .i64 rsn, .int .i64 rne, V2, .bool rop, .bool rem, .int .i64 (rack : Int), .int .i64 (rtak : Int)]) (by decide) (show w.heap.size ≤ g + 1 by omega)
    replace K3 : Blk (W7.setRow (g + 1) #[.int .i64 rsn, .int .i64 rne, V2, .bool rop, .bool rem, .int .i64 (rack : Int), .int .i64 (rtak : Int)]) (g) 43 #[.int .i64 rsn, .int .i64 rne, V1, .bool rop, .bool rem, .int .i64 (rack : Int), .int .i64 (rtak : Int)] := Av.bother_row K3 (by omega)
    replace K9 : Blk (W7.setRow (g + 1) #[.int .i64 rsn, .int .i64 rne, V2, .bool rop, .bool rem, .int .i64 (rack : Int), .int .i64 (rtak : Int)]) (h) 26 #[.int .i64 qsn, .int .i64 qne, .int .i64 qmd, .int .i64 qk, .slice QA qn qc] := Av.bother_row K9 (by omega)
    replace K10 : Blk (W7.setRow (g + 1) #[.int .i64 rsn, .int .i64 rne, V2, .bool rop, .bool rem, .int .i64 (rack : Int), .int .i64 (rtak : Int)]) (h + 1) 26 #[.int .i64 0, .int .i64 0, .int .i64 0, .int .i64 0, .slice none 0 0] := Av.bother_row K10 (by omega)
    replace BX : Below w.heap.size w (W7.setRow (g + 1) #[.int .i64 rsn, .int .i64 rne, V2, .bool rop, .bool rem, .int .i64 (rack : Int), .int .i64 (rtak : Int)]) := below_setRow BX (by omega) _
    replace K4 : Blk (W7.setRow (g + 1) #[.int .i64 rsn, .int .i64 rne, V2, .bool rop, .bool rem, .int .i64 (rack : Int), .int .i64 (rtak : Int)]) (g + 1) 43 #[.int .i64 rsn, .int .i64 rne, V2, .bool rop, .bool rem, .int .i64 (rack : Int), .int .i64 (rtak : Int)] := Av.bset_row K4
    replace HQ1 := HQ1.step (stp_row K10 #[.int .i64 qsn, .int .i64 qne, .int .i64 qmd, .int .i64 qk, .slice QB qn qd]) (by decide) (by decide) (Nat.zero_le _)
    replace HQ2 := HQ2.step (stp_row K10 #[.int .i64 qsn, .int .i64 qne, .int .i64 qmd, .int .i64 qk, .slice QB qn qd]) (by decide) (by decide) (show w.heap.size ≤ h + 1 by omega)
    replace HX := HX.step (stp_row K10 #[.int .i64 qsn, .int .i64 qne, .int .i64 qmd, .int .i64 qk, .slice QB qn qd]) (by decide) (Nat.zero_le _)
    replace HZ := HZ.step (stp_row K10 #[.int .i64 qsn, .int .i64 qne, .int .i64 qmd, .int .i64 qk, .slice QB qn qd]) (by decide) (show w.heap.size ≤ h + 1 by omega)
    replace K3 : Blk ((W7.setRow (g + 1) #[.int .i64 rsn, .int .i64 rne, V2, .bool rop, .bool rem, .int .i64 (rack : Int), .int .i64 (rtak : Int)]).setRow (h + 1) #[.int .i64 qsn, .int .i64 qne, .int .i64 qmd, .int .i64 qk, .slice QB qn qd]) (g) 43 #[.int .i64 rsn, .int .i64 rne, V1, .bool rop, .bool rem, .int .i64 (rack : Int), .int .i64 (rtak : Int)] := Av.bother_row K3 (by omega)
    replace K4 : Blk ((W7.setRow (g + 1) #[.int .i64 rsn, .int .i64 rne, V2, .bool rop, .bool rem, .int .i64 (rack : Int), .int .i64 (rtak : Int)]).setRow (h + 1) #[.int .i64 qsn, .int .i64 qne, .int .i64 qmd, .int .i64 qk, .slice QB qn qd]) (g + 1) 43 #[.int .i64 rsn, .int .i64 rne, V2, .bool rop, .bool rem, .int .i64 (rack : Int), .int .i64 (rtak : Int)] := Av.bother_row K4 (by omega)
    replace K9 : Blk ((W7.setRow (g + 1) #[.int .i64 rsn, .int .i64 rne, V2, .bool rop, .bool rem, .int .i64 (rack : Int), .int .i64 (rtak : Int)]).setRow (h + 1) #[.int .i64 qsn, .int .i64 qne, .int .i64 qmd, .int .i64 qk, .slice QB qn qd]) (h) 26 #[.int .i64 qsn, .int .i64 qne, .int .i64 qmd, .int .i64 qk, .slice QA qn qc] := Av.bother_row K9 (by omega)
    replace BX : Below w.heap.size w ((W7.setRow (g + 1) #[.int .i64 rsn, .int .i64 rne, V2, .bool rop, .bool rem, .int .i64 (rack : Int), .int .i64 (rtak : Int)]).setRow (h + 1) #[.int .i64 qsn, .int .i64 qne, .int .i64 qmd, .int .i64 qk, .slice QB qn qd]) := below_setRow BX (by omega) _
    replace K10 : Blk ((W7.setRow (g + 1) #[.int .i64 rsn, .int .i64 rne, V2, .bool rop, .bool rem, .int .i64 (rack : Int), .int .i64 (rtak : Int)]).setRow (h + 1) #[.int .i64 qsn, .int .i64 qne, .int .i64 qmd, .int .i64 qk, .slice QB qn qd]) (h + 1) 26 #[.int .i64 qsn, .int .i64 qne, .int .i64 qmd, .int .i64 qk, .slice QB qn qd] := Av.bset_row K10
    generalize (W7.setRow (g + 1) #[.int .i64 rsn, .int .i64 rne, V2, .bool rop, .bool rem, .int .i64 (rack : Int), .int .i64 (rtak : Int)]).setRow (h + 1) #[.int .i64 qsn, .int .i64 qne, .int .i64 qmd, .int .i64 qk, .slice QB qn qd] = Y3 at *
    clear H1 H2 HSr oV1 oV2
    have HSP : Hid (Calls Try.prog 32 #[.agg #[.int .i64 qsn, .int .i64 qne, .int .i64 qmd, .int .i64 qk, .slice QA qn qc], .agg #[.int .i64 qsn, .int .i64 qne, .int .i64 qmd, .int .i64 qk, .slice QB qn qd]] Y3 fun e w' => e = .returned (.bool true) ∧ Below Y3.heap.size Y3 w') := Lib.hid (samepd24_yes qsn qne qmd qk QA QB qn qc qd qv Y3 hqn HX.2.2.1 HX.gp.2.2.2 HZ.gp.2.2.2)
    clear HX HZ
    go_upto_region 30 with (first | (refine wpList_load_row rfl 26 (.tmp 9) rfl (h) rfl 26 _ (0, 0) _ K9 Try.underlying26 rfl (by kernel_rfl) ?_) | (refine wpList_load_row rfl 26 (.tmp 10) rfl (h + 1) rfl 26 _ (0, 0) _ K10 Try.underlying26 rfl (by kernel_rfl) ?_) | (go_at_call 32; refine HSP.out.mono ?_; rintro e Y4 ⟨rfl, b9⟩; replace K3 := K3.below b9 K3.lt; replace K4 := K4.below b9 K4.lt; replace HQ1 := HQ1.below b9; replace HQ2 := HQ2.below b9; replace BX := thenB BX b9; clear b9))
    clear HSP K9 K10
    have HSm : Hid (∀ X, QQ X 0 0 V1 l1 → QQ X 0 w.heap.size V2 l2 → Calls Try.prog 36 #[.agg #[.int .i64 rsn, .int .i64 rne, V1, .bool rop, .bool rem, .int .i64 (rack : Int), .int .i64 (rtak : Int)], .agg #[.int .i64 rsn, .int .i64 rne, V2, .bool rop, .bool rem, .int .i64 (rack : Int), .int .i64 (rtak : Int)]] X fun e w' => e = .returned (.bool true) ∧ Below X.heap.size X w') := Lib.hid fun X h1 h2 => same_yes ⟨rsn, rne, rq, rop, rem, rack, rtak⟩ V1 V2 l1 l2 X h1.qi h2.qi (hl1.out.trans hl2.out.symm) (by have h : l1.length = rq.length := (by rw [← hl1.out, List.length_map]); have := HJ.out.len; simp only at this; omega)
    obtain ⟨B, hB⟩ : ∃ B : Bool, ((rq.length : Int) == 0) = B := ⟨_, rfl⟩
    have HI1 : Hid (∀ X, Calls Try.prog 37 #[.agg #[.int .i64 rsn, .int .i64 rne, V1, .bool rop, .bool rem, .int .i64 (rack : Int), .int .i64 (rtak : Int)]] X fun e w' => e = .returned (.bool B) ∧ Below X.heap.size X w') := Lib.hid fun X => hB ▸ idle_of HQ1 hl1.out X
    have HI2 : Hid (∀ X, Calls Try.prog 38 #[.agg #[.int .i64 rsn, .int .i64 rne, V2, .bool rop, .bool rem, .int .i64 (rack : Int), .int .i64 (rtak : Int)]] X fun e w' => e = .returned (.bool B) ∧ Below X.heap.size X w') := Lib.hid fun X => hB ▸ ridle_of HQ2 hl2.out X
    clear hB
    have eB : (B != B) = false := by simp
    have K3' : Blk Y4.drew (g) 43 #[.int .i64 rsn, .int .i64 rne, V1, .bool rop, .bool rem, .int .i64 (rack : Int), .int .i64 (rtak : Int)] := Mem.Blk.drew K3
    have K4' : Blk Y4.drew (g + 1) 43 #[.int .i64 rsn, .int .i64 rne, V2, .bool rop, .bool rem, .int .i64 (rack : Int), .int .i64 (rtak : Int)] := Mem.Blk.drew K4
    refine wp_region_held_drew (S := (fun w' => Blk w' (g + 1) 43 #[.int .i64 rsn, .int .i64 rne, V2, .bool rop, .bool rem, .int .i64 (rack : Int), .int .i64 (rtak : Int)] ∧ Blk w' (g) 43 #[.int .i64 rsn, .int .i64 rne, V1, .bool rop, .bool rem, .int .i64 (rack : Int), .int .i64 (rtak : Int)])) (by kernel_rfl) ?_ (fun hHeld => ?_)
    ·
      exact ⟨K4', K3'⟩
    replace K3 := K3'
    clear K3'
    replace K4 := K4'
    clear K4'
    replace BX : Below w.heap.size w Y4.drew := BX.drew
    replace HQ1 := (show QQ Y4.drew 0 0 V1 l1 from HQ1.below ((Below.refl Y4.heap.size Y4).drew))
    replace HQ2 := (show QQ Y4.drew 0 w.heap.size V2 l2 from HQ2.below ((Below.refl Y4.heap.size Y4).drew))
    generalize Y4.drew = T0 at *
    refine wpAnyH_take (i := 0) (v := .agg #[.int .i64 rsn, .int .i64 rne, V1, .bool rop, .bool rem, .int .i64 (rack : Int), .int .i64 (rtak : Int)]) rfl (by kernel_rfl) (by kernel_rfl) (by kernel_rfl) (fun _ _ _ h => h) (Av.yields_part (by first | rfl | go_simp) _ _ rfl (g) 0 rfl #[.int .i64 rsn, .int .i64 rne, V1, .bool rop, .bool rem, .int .i64 (rack : Int), .int .i64 (rtak : Int)] _ 43 #[.int .i64 rsn, .int .i64 rne, V1, .bool rop, .bool rem, .int .i64 (rack : Int), .int .i64 (rtak : Int)] (fun w9 hSw => hSw.2) rfl Try.underlying43 rfl (by kernel_rfl)) ‹_› ?_
    simp only [getElem_toArray, getElem_cons_zero, getElem_cons_succ, Act.put, setIfInBounds_toArray, set_cons_zero, set_cons_succ]
    refine wpAnyH_take (i := 1) (v := .agg #[.int .i64 rsn, .int .i64 rne, V2, .bool rop, .bool rem, .int .i64 (rack : Int), .int .i64 (rtak : Int)]) rfl (by kernel_rfl) (by kernel_rfl) (by kernel_rfl) (fun _ _ _ h => h) (Av.yields_part (by first | rfl | go_simp) _ _ rfl (g + 1) 0 rfl #[.int .i64 rsn, .int .i64 rne, V2, .bool rop, .bool rem, .int .i64 (rack : Int), .int .i64 (rtak : Int)] _ 43 #[.int .i64 rsn, .int .i64 rne, V2, .bool rop, .bool rem, .int .i64 (rack : Int), .int .i64 (rtak : Int)] (fun w9 hSw => hSw.1) rfl Try.underlying43 rfl (by kernel_rfl)) ‹_› ?_
    simp only [getElem_toArray, getElem_cons_zero, getElem_cons_succ, Act.put, setIfInBounds_toArray, set_cons_zero, set_cons_succ]
    refine wpAnyH_ready (rs := [2]) (by kernel_rfl) (by simp) ?_
    refine .cons rfl (fun K hK => ?_) .nil
    go_simp
    refine (HSm.out T0 HQ1 HQ2).mono ?_
    rintro e T1 ⟨rfl, b9⟩
    replace K3 := K3.below b9 K3.lt
    replace K4 := K4.below b9 K4.lt
    replace BX := thenB BX b9
    replace HQ1 := HQ1.below b9
    replace HQ2 := HQ2.below b9
    clear b9
    refine hK.out _ _ ⟨K4, K3⟩ (fun hHeld => ?_)
    clear hK K
    try simp only [getElem_toArray, getElem_cons_zero, getElem_cons_succ, Act.put, setIfInBounds_toArray, set_cons_zero, set_cons_succ]
    refine wpAnyH_take (i := 3) (v := .bool false) rfl (by kernel_rfl) (by kernel_rfl) (by kernel_rfl) (fun _ _ _ h => h) (.inl ⟨by first | rfl | go_simp, by intro u h; (try dsimp only at h); go_simp⟩) ‹_› ?_
    simp only [getElem_toArray, getElem_cons_zero, getElem_cons_succ, Act.put, setIfInBounds_toArray, set_cons_zero, set_cons_succ]
    refine wpAnyH_take (i := 4) (v := .bool false) rfl (by kernel_rfl) (by kernel_rfl) (by kernel_rfl) (fun _ _ _ h => h) (.inl ⟨by first | rfl | go_simp, by intro u h; (try dsimp only at h); go_simp⟩) ‹_› ?_
    simp only [getElem_toArray, getElem_cons_zero, getElem_cons_succ, Act.put, setIfInBounds_toArray, set_cons_zero, set_cons_succ]
    refine wpAnyH_take (i := 5) (v := .agg #[.int .i64 rsn, .int .i64 rne, V1, .bool rop, .bool rem, .int .i64 (rack : Int), .int .i64 (rtak : Int)]) rfl (by kernel_rfl) (by kernel_rfl) (by kernel_rfl) (fun _ _ _ h => h) (Av.yields_part (by first | rfl | go_simp) _ _ rfl (g) 0 rfl #[.int .i64 rsn, .int .i64 rne, V1, .bool rop, .bool rem, .int .i64 (rack : Int), .int .i64 (rtak : Int)] _ 43 #[.int .i64 rsn, .int .i64 rne, V1, .bool rop, .bool rem, .int .i64 (rack : Int), .int .i64 (rtak : Int)] (fun w9 hSw => hSw.2) rfl Try.underlying43 rfl (by kernel_rfl)) ‹_› ?_
    simp only [getElem_toArray, getElem_cons_zero, getElem_cons_succ, Act.put, setIfInBounds_toArray, set_cons_zero, set_cons_succ]
    refine wpAnyH_take (i := 7) (v := .agg #[.int .i64 rsn, .int .i64 rne, V2, .bool rop, .bool rem, .int .i64 (rack : Int), .int .i64 (rtak : Int)]) rfl (by kernel_rfl) (by kernel_rfl) (by kernel_rfl) (fun _ _ _ h => h) (Av.yields_part (by first | rfl | go_simp) _ _ rfl (g + 1) 0 rfl #[.int .i64 rsn, .int .i64 rne, V2, .bool rop, .bool rem, .int .i64 (rack : Int), .int .i64 (rtak : Int)] _ 43 #[.int .i64 rsn, .int .i64 rne, V2, .bool rop, .bool rem, .int .i64 (rack : Int), .int .i64 (rtak : Int)] (fun w9 hSw => hSw.1) rfl Try.underlying43 rfl (by kernel_rfl)) ‹_› ?_
    simp only [getElem_toArray, getElem_cons_zero, getElem_cons_succ, Act.put, setIfInBounds_toArray, set_cons_zero, set_cons_succ]
    refine wpAnyH_ready (rs := [6]) (by kernel_rfl) (by simp) ?_
    refine .cons rfl (fun K hK => ?_) .nil
    go_simp
    refine (HI1.out T1).mono ?_
    rintro e T2 ⟨rfl, b9⟩
    replace K3 := K3.below b9 K3.lt
    replace K4 := K4.below b9 K4.lt
    replace BX := thenB BX b9
    replace HQ1 := HQ1.below b9
    replace HQ2 := HQ2.below b9
    clear b9
    refine hK.out _ _ ⟨K4, K3⟩ (fun hHeld => ?_)
    clear hK K
    try simp only [getElem_toArray, getElem_cons_zero, getElem_cons_succ, Act.put, setIfInBounds_toArray, set_cons_zero, set_cons_succ]
    refine wpAnyH_ready (rs := [8]) (by kernel_rfl) (by simp) ?_
    refine .cons rfl (fun K hK => ?_) .nil
    go_simp
    refine (HI2.out T2).mono ?_
    rintro e T3 ⟨rfl, b9⟩
    replace K3 := K3.below b9 K3.lt
    replace K4 := K4.below b9 K4.lt
    replace BX := thenB BX b9
    replace HQ1 := HQ1.below b9
    replace HQ2 := HQ2.below b9
    clear b9
    refine hK.out _ _ ⟨K4, K3⟩ (fun hHeld => ?_)
    clear hK K
    try simp only [getElem_toArray, getElem_cons_zero, getElem_cons_succ, Act.put, setIfInBounds_toArray, set_cons_zero, set_cons_succ]
    refine wpAnyH_take (i := 9) (v := .bool false) rfl (by kernel_rfl) (by kernel_rfl) (by kernel_rfl) (fun _ _ _ h => h) (.inl ⟨by first | rfl | go_simp, by intro u h; (try dsimp only at h); go_simp⟩) ‹_› ?_
    simp only [getElem_toArray, getElem_cons_zero, getElem_cons_succ, Act.put, setIfInBounds_toArray, set_cons_zero, set_cons_succ]
    refine wpAnyH_take (i := 10) (v := .bool false) rfl (by kernel_rfl) (by kernel_rfl) (by kernel_rfl) (fun _ _ _ h => h) (.inl ⟨by first | rfl | go_simp, by intro u h; (try dsimp only at h); go_simp⟩) ‹_› ?_
    simp only [getElem_toArray, getElem_cons_zero, getElem_cons_succ, Act.put, setIfInBounds_toArray, set_cons_zero, set_cons_succ]
    refine wpAnyH_done (by kernel_rfl) ?_ _
    clear hHeld HSm HI1 HI2
    go_wp2_with fail
    go_roundw
    case rel => exact ⟨j + 1, rsn, rne, rq, rop, rem, rack, rtak, V1, V2, l1, l2, by omega, by go_num, HJ.out, hl1.out, hl2.out, HQ1, HQ2, K3, K4, BX⟩
    case measure => simp [intOf]; omega
   by_cases d2 : d = 2
   ·
    have gd0 : (d == 0) = false := by simpa using d0
    have gd1 : (d == 1) = false := by simpa using d1
    have gd2 : (d == 2) = true := by simpa using d2
    clear d0 d1 d2 HT15
    go_upto_region 25 with (fail)
    clear u0 gd0 gd1 gd2 HT0
    obtain ⟨⟨⟨rsn, rne, rq, rop, rem, rack, rtak⟩, ⟨qk, qv⟩, F, a⟩, hr⟩ : ∃ r, takeR ⟨ssn, sne, sq, sop, sem, sack, stak⟩ ⟨psn, pne, pmd, (x.k, x.v)⟩ = r := ⟨_, rfl⟩
    obtain ⟨qn, hqn⟩ : ∃ qn, qv.length = qn := ⟨_, rfl⟩
    have HJ : Hid (Jn ⟨rsn, rne, rq, rop, rem, rack, rtak⟩ (j + 1)) := Lib.hid (by have := jn_take HJs ⟨psn, pne, pmd, (x.k, x.v)⟩; rw [hr] at this; exact this)
    have hbt := HJs.bit
    have hca : sack ≤ 1000 ∧ stak ≤ 1000 := by have := HJs.ack; have := HJs.tak; simp only at *; omega
    have HTk : Hid (∀ X, QQ X 0 0 V l → PP X 0 ⟨x.k, A5, c5, x.v⟩ → Calls Try.prog 33 #[.agg #[.int .i64 ssn, .int .i64 sne, V, .bool sop, .bool sem, .int .i64 (sack : Int), .int .i64 (stak : Int)], .agg #[.int .i64 psn, .int .i64 pne, .int .i64 pmd, .int .i64 x.k, .slice A5 x.v.length c5]] X fun e w' => ∃ V1 l1 QA qc, e = .returned (.tuple #[.agg #[.int .i64 rsn, .int .i64 rne, V1, .bool rop, .bool rem, .int .i64 (rack : Int), .int .i64 (rtak : Int)], .agg #[.int .i64 qk, .slice QA qn qc], .bool F, .bool a]) ∧ QQ w' 0 0 V1 l1 ∧ Hid (l1.map Pm.p = rq) ∧ V1.oneCell' = true ∧ PP w' 0 ⟨qk, QA, qc, qv⟩ ∧ Below X.heap.size X w') := Lib.hid fun X hqq hyy => (take_to hr rfl hqn V l A5 c5 X (by omega) hbt hca hqq.qi hlm hyy.gp).mono fun e w' ⟨V', l', A', c', he, h1, h2⟩ => ⟨V', l', A', c', he, h1.less (Nat.zero_le _) (Nat.le_refl _), h2⟩
    have HTr : Hid (∀ X, QQ X 0 w.heap.size V2 l2 → Below w.heap.size w X → Calls Try.prog 34 #[.agg #[.int .i64 ssn, .int .i64 sne, V2, .bool sop, .bool sem, .int .i64 (sack : Int), .int .i64 (stak : Int)], .agg #[.int .i64 psn, .int .i64 pne, .int .i64 pmd, .int .i64 x.k, .slice x.A x.v.length x.c]] X fun e w' => ∃ V3 l3 QB qd, e = .returned (.tuple #[.agg #[.int .i64 rsn, .int .i64 rne, V3, .bool rop, .bool rem, .int .i64 (rack : Int), .int .i64 (rtak : Int)], .agg #[.int .i64 qk, .slice QB qn qd], .bool F, .bool a]) ∧ QQ w' 0 w.heap.size V3 l3 ∧ Hid (l3.map Pm.p = rq) ∧ PP w' w.heap.size ⟨qk, QB, qd, qv⟩ ∧ (V3 = V2 ∨ ∀ g, V3.ownBlock = some g → X.heap.size ≤ g) ∧ Below X.heap.size X w') := Lib.hid fun X hqq b9 => rtake_to hr hqn V2 l2 w.heap.size X (by omega) hbt hca hqq hlm2 (HYf.out X b9) b9.size
    clear hr hlm hlm2 hbt hca
    go_upto_region 26 with (first | (refine wpList_load_row rfl 43 (.tmp 3) rfl (g) rfl 43 _ (0, 0) _ K3 Try.underlying43 rfl (by kernel_rfl) ?_) | (refine wpList_load_row rfl 26 (.tmp 6) rfl (g6) rfl 26 _ (0, 0) _ K6 Try.underlying26 rfl (by kernel_rfl) ?_) | (go_at_call 33; refine (HTk.out _ HQ1 HX).mono ?_; rintro e W5 ⟨V1, l1, QA, qc, rfl, hq1, hl1, oV1, HW, b9⟩; replace HQ1 := hq1; clear hq1; replace K3 := K3.below b9 K3.lt; replace K4 := K4.below b9 K4.lt; replace HQ2 := HQ2.below b9; replace BX := thenB BX b9; clear b9; have K11 : Blk ((W5.alloc (.cells #[.int .i64 0, .int .i64 0, .slice none 0 0, .bool false, .bool false, .int .i64 0, .int .i64 0] 43)).alloc (.cells #[.int .i64 0, .slice none 0 0] 24)) W5.heap.size 43 #[.int .i64 0, .int .i64 0, .slice none 0 0, .bool false, .bool false, .int .i64 0, .int .i64 0] := (Blk.fresh W5 43 #[.int .i64 0, .int .i64 0, .slice none 0 0, .bool false, .bool false, .int .i64 0, .int .i64 0]).alloc _; have K12 : Blk ((W5.alloc (.cells #[.int .i64 0, .int .i64 0, .slice none 0 0, .bool false, .bool false, .int .i64 0, .int .i64 0] 43)).alloc (.cells #[.int .i64 0, .slice none 0 0] 24)) (W5.heap.size + 1) 24 #[.int .i64 0, .slice none 0 0] := Av.Blk.next; have H1 : (#[.int .i64 rsn, .int .i64 rne, V1, .bool rop, .bool rem, .int .i64 (rack : Int), .int .i64 (rtak : Int)] : Array Value).all (·.oneCell') = true := (by rw [← Array.all_toList]; simp only [List.all_cons, List.all_nil, oV1, Bool.and_true, Bool.and_self]; rfl); have H2 : (#[.int .i64 qk, .slice QA qn qc] : Array Value).all (·.oneCell') = true := (by rw [← Array.all_toList]; rfl)) | (refine wpList_store_row rfl 43 (.tmp 11) (.tmp 91) rfl (W5.heap.size) #[.int .i64 rsn, .int .i64 rne, V1, .bool rop, .bool rem, .int .i64 (rack : Int), .int .i64 (rtak : Int)] rfl rfl 43 _ K11 (by kernel_rfl) rfl H1 ?_) | (refine wpList_store_row rfl 24 (.tmp 12) (.tmp 92) rfl (W5.heap.size + 1) #[.int .i64 qk, .slice QA qn qc] rfl rfl 24 _ (Av.bother_row K12 (by omega)) (by kernel_rfl) rfl H2 ?_))
    have b9 : Below W5.heap.size W5 ((((W5.alloc (.cells #[.int .i64 0, .int .i64 0, .slice none 0 0, .bool false, .bool false, .int .i64 0, .int .i64 0] 43)).alloc (.cells #[.int .i64 0, .slice none 0 0] 24)).setRow (W5.heap.size) #[.int .i64 rsn, .int .i64 rne, V1, .bool rop, .bool rem, .int .i64 (rack : Int), .int .i64 (rtak : Int)]).setRow (W5.heap.size + 1) #[.int .i64 qk, .slice QA qn qc]) := below_setRow (below_setRow (((Below.refl _ _).alloc (Nat.le_refl _) _).alloc (by simp) _) (Nat.le_refl _) _) (Nat.le_succ _) _
    replace K11 : Blk ((((W5.alloc (.cells #[.int .i64 0, .int .i64 0, .slice none 0 0, .bool false, .bool false, .int .i64 0, .int .i64 0] 43)).alloc (.cells #[.int .i64 0, .slice none 0 0] 24)).setRow (W5.heap.size) #[.int .i64 rsn, .int .i64 rne, V1, .bool rop, .bool rem, .int .i64 (rack : Int), .int .i64 (rtak : Int)]).setRow (W5.heap.size + 1) #[.int .i64 qk, .slice QA qn qc]) W5.heap.size 43 #[.int .i64 rsn, .int .i64 rne, V1, .bool rop, .bool rem, .int .i64 (rack : Int), .int .i64 (rtak : Int)] := Av.bother_row (Av.bset_row K11) (by omega)
    replace K12 : Blk ((((W5.alloc (.cells #[.int .i64 0, .int .i64 0, .slice none 0 0, .bool false, .bool false, .int .i64 0, .int .i64 0] 43)).alloc (.cells #[.int .i64 0, .slice none 0 0] 24)).setRow (W5.heap.size) #[.int .i64 rsn, .int .i64 rne, V1, .bool rop, .bool rem, .int .i64 (rack : Int), .int .i64 (rtak : Int)]).setRow (W5.heap.size + 1) #[.int .i64 qk, .slice QA qn qc]) (W5.heap.size + 1) 24 #[.int .i64 qk, .slice QA qn qc] := Av.bset_row (Av.bother_row K12 (by omega))
    have hk4 := K4.lt
    have HN1 : Hid (∀ k, V1.ownBlock = some k → k < W5.heap.size) := Lib.hid fun k h => (HQ1.2.2 k h).2
    have HN2 : Hid (∀ k, V2.ownBlock = some k → k < W5.heap.size) := Lib.hid fun k h => (HQ2.2.2 k h).2
    replace K3 := K3.below b9 K3.lt
    replace K4 := K4.below b9 K4.lt
    replace HQ1 := HQ1.below b9
    replace HQ2 := HQ2.below b9
    replace HW := HW.below b9
    replace BX := thenB BX b9
    clear b9
    clear H1 H2 HTk HX K6
    generalize ((((W5.alloc (.cells #[.int .i64 0, .int .i64 0, .slice none 0 0, .bool false, .bool false, .int .i64 0, .int .i64 0] 43)).alloc (.cells #[.int .i64 0, .slice none 0 0] 24)).setRow (W5.heap.size) #[.int .i64 rsn, .int .i64 rne, V1, .bool rop, .bool rem, .int .i64 (rack : Int), .int .i64 (rtak : Int)]).setRow (W5.heap.size + 1) #[.int .i64 qk, .slice QA qn qc]) = Y5 at *
    obtain ⟨h, hh⟩ : ∃ h, W5.heap.size = h := ⟨_, rfl⟩
    rw [hh] at K11 K12 hk4 HN1 HN2 ⊢
    clear hh
    have TT := HT26.out _ BX
    go_cut [15, 16, 17, 18] from 95 to 106 (fun s15 s16 s17 s18 wx => ∃ (V3 : Value) (l3 : List Pm) (QB : Option Addr) (qd g15 g16 : Nat), s15 = .pointer (some ⟨g15, 0, none⟩) ∧ s16 = .pointer (some ⟨g16, 0, none⟩) ∧ s17 = .bool F ∧ s18 = .bool a ∧ h + 2 ≤ g15 ∧ h + 2 ≤ g16 ∧ QQ wx 0 0 V1 l1 ∧ QQ wx 0 w.heap.size V3 l3 ∧ Hid (l3.map Pm.p = rq) ∧ PP wx 0 ⟨qk, QA, qc, qv⟩ ∧ PP wx w.heap.size ⟨qk, QB, qd, qv⟩ ∧ Blk wx g 43 #[.int .i64 ssn, .int .i64 sne, V, .bool sop, .bool sem, .int .i64 (sack : Int), .int .i64 (stak : Int)] ∧ Blk wx (g + 1) 43 #[.int .i64 ssn, .int .i64 sne, V2, .bool sop, .bool sem, .int .i64 (sack : Int), .int .i64 (stak : Int)] ∧ Blk wx h 43 #[.int .i64 rsn, .int .i64 rne, V1, .bool rop, .bool rem, .int .i64 (rack : Int), .int .i64 (rtak : Int)] ∧ Blk wx (h + 1) 24 #[.int .i64 qk, .slice QA qn qc] ∧ Blk wx g15 43 #[.int .i64 rsn, .int .i64 rne, V3, .bool rop, .bool rem, .int .i64 (rack : Int), .int .i64 (rtak : Int)] ∧ Blk wx g16 24 #[.int .i64 qk, .slice QB qn qd] ∧ Below w.heap.size w wx)
    case first =>
     have K3' : Blk Y5.drew (g) 43 #[.int .i64 ssn, .int .i64 sne, V, .bool sop, .bool sem, .int .i64 (sack : Int), .int .i64 (stak : Int)] := Mem.Blk.drew K3
     have K4' : Blk Y5.drew (g + 1) 43 #[.int .i64 ssn, .int .i64 sne, V2, .bool sop, .bool sem, .int .i64 (sack : Int), .int .i64 (stak : Int)] := Mem.Blk.drew K4
     have K11' : Blk Y5.drew (h) 43 #[.int .i64 rsn, .int .i64 rne, V1, .bool rop, .bool rem, .int .i64 (rack : Int), .int .i64 (rtak : Int)] := Mem.Blk.drew K11
     have K12' : Blk Y5.drew (h + 1) 24 #[.int .i64 qk, .slice QA qn qc] := Mem.Blk.drew K12
     refine wp_region_held_drew (S := (fun w' => Blk w' (g + 1) 43 #[.int .i64 ssn, .int .i64 sne, V2, .bool sop, .bool sem, .int .i64 (sack : Int), .int .i64 (stak : Int)] ∧ w'.cell? ⟨b, off + j * 6 + 1, none⟩ = some (.int .i64 psn) ∧ w'.cell? ⟨b, off + j * 6 + 1 + 1, none⟩ = some (.int .i64 pne) ∧ w'.cell? ⟨b, off + j * 6 + 1 + 2, none⟩ = some (.int .i64 pmd) ∧ w'.cell? ⟨b, off + j * 6 + 1 + 3, none⟩ = some (.int .i64 x.k) ∧ w'.cell? ⟨b, off + j * 6 + 1 + 4, none⟩ = some (.slice x.A x.v.length x.c))) (by kernel_rfl) ?_ (fun hHeld => ?_)
     ·
       exact ⟨K4', TT⟩
     replace K3 := K3'
     clear K3'
     replace K4 := K4'
     clear K4'
     replace K11 := K11'
     clear K11'
     replace K12 := K12'
     clear K12'
     replace BX : Below w.heap.size w Y5.drew := BX.drew
     replace HQ1 := (show QQ Y5.drew 0 0 V1 l1 from HQ1.below ((Below.refl Y5.heap.size Y5).drew))
     replace HQ2 := (show QQ Y5.drew 0 w.heap.size V2 l2 from HQ2.below ((Below.refl Y5.heap.size Y5).drew))
     replace HW := (show PP Y5.drew 0 ⟨qk, QA, qc, qv⟩ from HW.below ((Below.refl Y5.heap.size Y5).drew))
     replace TT := HT26.out _ BX
     replace TT : Y5.drew.cell? ⟨b, off + j * 6 + 1, none⟩ = some (.int .i64 psn) ∧ Y5.drew.cell? ⟨b, off + j * 6 + 1 + 1, none⟩ = some (.int .i64 pne) ∧ Y5.drew.cell? ⟨b, off + j * 6 + 1 + 2, none⟩ = some (.int .i64 pmd) ∧ Y5.drew.cell? ⟨b, off + j * 6 + 1 + 3, none⟩ = some (.int .i64 x.k) ∧ Y5.drew.cell? ⟨b, off + j * 6 + 1 + 4, none⟩ = some (.slice x.A x.v.length x.c) := TT
     generalize Y5.drew = X0 at *
     refine wpAnyH_take (i := 0) (v := .agg #[.int .i64 ssn, .int .i64 sne, V2, .bool sop, .bool sem, .int .i64 (sack : Int), .int .i64 (stak : Int)]) rfl (by kernel_rfl) (by kernel_rfl) (by kernel_rfl) (fun _ _ _ h => h) (Av.yields_part (by first | rfl | go_simp) _ _ rfl (g + 1) 0 rfl #[.int .i64 ssn, .int .i64 sne, V2, .bool sop, .bool sem, .int .i64 (sack : Int), .int .i64 (stak : Int)] _ 43 #[.int .i64 ssn, .int .i64 sne, V2, .bool sop, .bool sem, .int .i64 (sack : Int), .int .i64 (stak : Int)] (fun w9 hSw => hSw.1) rfl Try.underlying43 rfl (by kernel_rfl)) ‹_› ?_
     simp only [getElem_toArray, getElem_cons_zero, getElem_cons_succ, Act.put, setIfInBounds_toArray, set_cons_zero, set_cons_succ]
     refine wpAnyH_take (i := 1) (v := .slice (some ⟨b, off, none⟩) n c) rfl (by kernel_rfl) (by kernel_rfl) (by kernel_rfl) (fun _ _ _ h => h) (.inl ⟨by first | rfl | go_simp, by intro u h; (try dsimp only at h); go_simp⟩) ‹_› ?_
     simp only [getElem_toArray, getElem_cons_zero, getElem_cons_succ, Act.put, setIfInBounds_toArray, set_cons_zero, set_cons_succ]
     refine wpAnyH_take (i := 2) (v := .int .i64 (j : Int)) rfl (by kernel_rfl) (by kernel_rfl) (by kernel_rfl) (fun _ _ _ h => h) (.inl ⟨by first | rfl | go_simp, by intro u h; (try dsimp only at h); go_simp⟩) ‹_› ?_
     simp only [getElem_toArray, getElem_cons_zero, getElem_cons_succ, Act.put, setIfInBounds_toArray, set_cons_zero, set_cons_succ]
     refine wpAnyH_take (i := 3) (v := .pointer (some ⟨b, off + j * 6, none⟩)) rfl (by kernel_rfl) (by kernel_rfl) (by kernel_rfl) (fun _ _ _ h => h) (.inl ⟨by first | rfl | go_simp, by intro u h; (try dsimp only at h); go_simp⟩) ‹_› ?_
     simp only [getElem_toArray, getElem_cons_zero, getElem_cons_succ, Act.put, setIfInBounds_toArray, set_cons_zero, set_cons_succ]
     refine wpAnyH_take (i := 4) (v := .pointer (some ⟨b, off + j * 6 + 1, none⟩)) rfl (by kernel_rfl) (by kernel_rfl) (by kernel_rfl) (fun _ _ _ h => h) (.inl ⟨by first | rfl | go_simp, by intro u h; (try dsimp only at h); go_simp⟩) ‹_› ?_
     simp only [getElem_toArray, getElem_cons_zero, getElem_cons_succ, Act.put, setIfInBounds_toArray, set_cons_zero, set_cons_succ]
     refine wpAnyH_take (i := 5) (v := .agg #[.int .i64 psn, .int .i64 pne, .int .i64 pmd, .int .i64 x.k, .slice x.A x.v.length x.c]) rfl (by kernel_rfl) (by kernel_rfl) (by kernel_rfl) (fun _ _ _ h => h) (.inl ⟨by first | rfl | go_simp, by intro u h; (try dsimp only at h); go_simp⟩) ‹_› ?_
     simp only [getElem_toArray, getElem_cons_zero, getElem_cons_succ, Act.put, setIfInBounds_toArray, set_cons_zero, set_cons_succ]
     refine wpAnyH_ready (rs := [6, 12, 13]) (by kernel_rfl) (by simp) ?_
     refine AllReadyH.cons rfl (fun K hK => ?_) (AllReadyH.cons rfl (fun K hK => ?_) (AllReadyH.cons rfl (fun K hK => ?_) (AllReadyH.nil)))
     ·
       go_simp
       refine (HTr.out X0 HQ2 BX).mono ?_
       rintro e X1 ⟨V3, l3, QB, qd, rfl, hq2, hl2, HZ, hn3, b9⟩
       have oV3 : V3.oneCell' = true := qq_one hq2
       clear hn3 HQ2
       have HQ2 := hq2
       clear hq2
       replace K3 := K3.below b9 K3.lt
       replace K4 := K4.below b9 K4.lt
       replace K11 := K11.below b9 K11.lt
       replace K12 := K12.below b9 K12.lt
       replace BX := thenB BX b9
       replace HQ1 := HQ1.below b9
       replace HW := HW.below b9
       replace TT := HT26.out _ BX
       clear b9
       refine hK.out _ _ ⟨K4, TT⟩ (fun hHeld => ?_)
       clear hK K
       try simp only [getElem_toArray, getElem_cons_zero, getElem_cons_succ, Act.put, setIfInBounds_toArray, set_cons_zero, set_cons_succ]
       refine wpAnyH_take (i := 7) (v := .tuple #[.agg #[.int .i64 rsn, .int .i64 rne, V3, .bool rop, .bool rem, .int .i64 (rack : Int), .int .i64 (rtak : Int)], .agg #[.int .i64 qk, .slice QB qn qd], .bool F, .bool a]) rfl (by kernel_rfl) (by kernel_rfl) (by kernel_rfl) (fun _ _ _ h => h) (.inl ⟨by first | rfl | go_simp, by intro u h; (try dsimp only at h); go_simp⟩) ‹_› ?_
       simp only [getElem_toArray, getElem_cons_zero, getElem_cons_succ, Act.put, setIfInBounds_toArray, set_cons_zero, set_cons_succ]
       refine wpAnyH_take (i := 8) (v := .agg #[.int .i64 rsn, .int .i64 rne, V3, .bool rop, .bool rem, .int .i64 (rack : Int), .int .i64 (rtak : Int)]) rfl (by kernel_rfl) (by kernel_rfl) (by kernel_rfl) (fun _ _ _ h => h) (.inl ⟨by first | rfl | go_simp, by intro u h; (try dsimp only at h); go_simp⟩) ‹_› ?_
       simp only [getElem_toArray, getElem_cons_zero, getElem_cons_succ, Act.put, setIfInBounds_toArray, set_cons_zero, set_cons_succ]
       refine wpAnyH_take (i := 9) (v := .agg #[.int .i64 qk, .slice QB qn qd]) rfl (by kernel_rfl) (by kernel_rfl) (by kernel_rfl) (fun _ _ _ h => h) (.inl ⟨by first | rfl | go_simp, by intro u h; (try dsimp only at h); go_simp⟩) ‹_› ?_
       simp only [getElem_toArray, getElem_cons_zero, getElem_cons_succ, Act.put, setIfInBounds_toArray, set_cons_zero, set_cons_succ]
       refine wpAnyH_take (i := 10) (v := .bool F) rfl (by kernel_rfl) (by kernel_rfl) (by kernel_rfl) (fun _ _ _ h => h) (.inl ⟨by first | rfl | go_simp, by intro u h; (try dsimp only at h); go_simp⟩) ‹_› ?_
       simp only [getElem_toArray, getElem_cons_zero, getElem_cons_succ, Act.put, setIfInBounds_toArray, set_cons_zero, set_cons_succ]
       refine wpAnyH_take (i := 11) (v := .bool a) rfl (by kernel_rfl) (by kernel_rfl) (by kernel_rfl) (fun _ _ _ h => h) (.inl ⟨by first | rfl | go_simp, by intro u h; (try dsimp only at h); go_simp⟩) ‹_› ?_
       simp only [getElem_toArray, getElem_cons_zero, getElem_cons_succ, Act.put, setIfInBounds_toArray, set_cons_zero, set_cons_succ]
       refine wpAnyH_ready (rs := [12, 13]) (by kernel_rfl) (by simp) ?_
       refine AllReadyH.cons rfl (fun K hK => ?_) (AllReadyH.cons rfl (fun K hK => ?_) (AllReadyH.nil))
       ·
        go_simp
        have b9 := (Below.refl X1.heap.size X1).alloc (Nat.le_refl _) (.cells #[.int .i64 0, .int .i64 0, .slice none 0 0, .bool false, .bool false, .int .i64 0, .int .i64 0] 43)
        have K15 : Blk (X1.alloc (.cells #[.int .i64 0, .int .i64 0, .slice none 0 0, .bool false, .bool false, .int .i64 0, .int .i64 0] 43)) X1.heap.size 43 #[.int .i64 0, .int .i64 0, .slice none 0 0, .bool false, .bool false, .int .i64 0, .int .i64 0] := Blk.fresh X1 43 #[.int .i64 0, .int .i64 0, .slice none 0 0, .bool false, .bool false, .int .i64 0, .int .i64 0]
        have hzK15 : h + 2 ≤ X1.heap.size := by have := K12.lt; omega
        replace K3 := K3.below b9 K3.lt
        replace K4 := K4.below b9 K4.lt
        replace K11 := K11.below b9 K11.lt
        replace K12 := K12.below b9 K12.lt
        replace BX := thenB BX b9
        replace HQ1 := HQ1.below b9
        replace HQ2 := HQ2.below b9
        replace HW := HW.below b9
        replace TT := HT26.out _ BX
        replace HZ := HZ.below b9
        clear b9
        generalize X1.alloc (.cells #[.int .i64 0, .int .i64 0, .slice none 0 0, .bool false, .bool false, .int .i64 0, .int .i64 0] 43) = X2 at *
        refine hK.out _ _ ⟨K4, TT⟩ (fun hHeld => ?_)
        clear hK K
        try simp only [getElem_toArray, getElem_cons_zero, getElem_cons_succ, Act.put, setIfInBounds_toArray, set_cons_zero, set_cons_succ]
        refine wpAnyH_ready (rs := [13]) (by kernel_rfl) (by simp) ?_
        refine .cons rfl (fun K hK => ?_) .nil
        go_simp
        have b9 := (Below.refl X2.heap.size X2).alloc (Nat.le_refl _) (.cells #[.int .i64 0, .slice none 0 0] 24)
        have K16 : Blk (X2.alloc (.cells #[.int .i64 0, .slice none 0 0] 24)) X2.heap.size 24 #[.int .i64 0, .slice none 0 0] := Blk.fresh X2 24 #[.int .i64 0, .slice none 0 0]
        have hzK16 : h + 2 ≤ X2.heap.size := by have := K12.lt; omega
        have hyK16 := K15.lt
        have HN3 : V3.ownBlock ≠ some X2.heap.size := fun h9 => by have := (HQ2.2.2 _ h9).2; omega
        have HN16 : V1.ownBlock ≠ some X2.heap.size := fun h9 => by have := HN1.out _ h9; omega
        have HN26 : V2.ownBlock ≠ some X2.heap.size := fun h9 => by have := HN2.out _ h9; omega
        replace K3 := K3.below b9 K3.lt
        replace K4 := K4.below b9 K4.lt
        replace K11 := K11.below b9 K11.lt
        replace K12 := K12.below b9 K12.lt
        replace K15 := K15.below b9 K15.lt
        replace BX := thenB BX b9
        replace HQ1 := HQ1.below b9
        replace HQ2 := HQ2.below b9
        replace HW := HW.below b9
        replace TT := HT26.out _ BX
        replace HZ := HZ.below b9
        clear b9
        generalize X2.alloc (.cells #[.int .i64 0, .slice none 0 0] 24) = X3 at *
        refine hK.out _ _ ⟨K4, TT⟩ (fun hHeld => ?_)
        clear hK K
        try simp only [getElem_toArray, getElem_cons_zero, getElem_cons_succ, Act.put, setIfInBounds_toArray, set_cons_zero, set_cons_succ]
        refine wpAnyH_ready (rs := [14]) (by kernel_rfl) (by simp) ?_
        refine .cons rfl (fun K hK => ?_) .nil
        have H9 : (#[.int .i64 rsn, .int .i64 rne, V3, .bool rop, .bool rem, .int .i64 (rack : Int), .int .i64 (rtak : Int)] : Array Value).all (·.oneCell') = true := by rw [← Array.all_toList]; simp only [List.all_cons, List.all_nil, oV3, Bool.and_true, Bool.and_self]; rfl
        refine Av.step_store_row rfl 43 (.tmp 15) (.tmp 103) rfl (X1.heap.size) #[.int .i64 rsn, .int .i64 rne, V3, .bool rop, .bool rem, .int .i64 (rack : Int), .int .i64 (rtak : Int)] rfl rfl 43 _ K15 (by kernel_rfl) rfl H9 ?_
        replace HQ1 := HQ1.step (stp_row K15 #[.int .i64 rsn, .int .i64 rne, V3, .bool rop, .bool rem, .int .i64 (rack : Int), .int .i64 (rtak : Int)]) (by decide) (by decide) (Nat.zero_le _)
        replace HQ2 := HQ2.step (stp_row K15 #[.int .i64 rsn, .int .i64 rne, V3, .bool rop, .bool rem, .int .i64 (rack : Int), .int .i64 (rtak : Int)]) (by decide) (by decide) (show w.heap.size ≤ X1.heap.size by omega)
        replace HW := HW.step (stp_row K15 #[.int .i64 rsn, .int .i64 rne, V3, .bool rop, .bool rem, .int .i64 (rack : Int), .int .i64 (rtak : Int)]) (by decide) (Nat.zero_le _)
        replace TT := HT26.out _ (show Below w.heap.size w (X3.setRow (X1.heap.size) #[.int .i64 rsn, .int .i64 rne, V3, .bool rop, .bool rem, .int .i64 (rack : Int), .int .i64 (rtak : Int)]) from below_setRow BX (by omega) _)
        replace HZ := HZ.step (stp_row K15 #[.int .i64 rsn, .int .i64 rne, V3, .bool rop, .bool rem, .int .i64 (rack : Int), .int .i64 (rtak : Int)]) (by decide) (show w.heap.size ≤ X1.heap.size by omega)
        replace K3 : Blk (X3.setRow (X1.heap.size) #[.int .i64 rsn, .int .i64 rne, V3, .bool rop, .bool rem, .int .i64 (rack : Int), .int .i64 (rtak : Int)]) (g) 43 #[.int .i64 ssn, .int .i64 sne, V, .bool sop, .bool sem, .int .i64 (sack : Int), .int .i64 (stak : Int)] := Av.bother_row K3 (by omega)
        replace K4 : Blk (X3.setRow (X1.heap.size) #[.int .i64 rsn, .int .i64 rne, V3, .bool rop, .bool rem, .int .i64 (rack : Int), .int .i64 (rtak : Int)]) (g + 1) 43 #[.int .i64 ssn, .int .i64 sne, V2, .bool sop, .bool sem, .int .i64 (sack : Int), .int .i64 (stak : Int)] := Av.bother_row K4 (by omega)
        replace K11 : Blk (X3.setRow (X1.heap.size) #[.int .i64 rsn, .int .i64 rne, V3, .bool rop, .bool rem, .int .i64 (rack : Int), .int .i64 (rtak : Int)]) (h) 43 #[.int .i64 rsn, .int .i64 rne, V1, .bool rop, .bool rem, .int .i64 (rack : Int), .int .i64 (rtak : Int)] := Av.bother_row K11 (by omega)
        replace K12 : Blk (X3.setRow (X1.heap.size) #[.int .i64 rsn, .int .i64 rne, V3, .bool rop, .bool rem, .int .i64 (rack : Int), .int .i64 (rtak : Int)]) (h + 1) 24 #[.int .i64 qk, .slice QA qn qc] := Av.bother_row K12 (by omega)
        replace K15 : Blk (X3.setRow (X1.heap.size) #[.int .i64 rsn, .int .i64 rne, V3, .bool rop, .bool rem, .int .i64 (rack : Int), .int .i64 (rtak : Int)]) (X1.heap.size) 43 #[.int .i64 rsn, .int .i64 rne, V3, .bool rop, .bool rem, .int .i64 (rack : Int), .int .i64 (rtak : Int)] := Av.bset_row K15
        replace K16 : Blk (X3.setRow (X1.heap.size) #[.int .i64 rsn, .int .i64 rne, V3, .bool rop, .bool rem, .int .i64 (rack : Int), .int .i64 (rtak : Int)]) (X2.heap.size) 24 #[.int .i64 0, .slice none 0 0] := Av.bother_row K16 (by omega)
        replace BX : Below w.heap.size w (X3.setRow (X1.heap.size) #[.int .i64 rsn, .int .i64 rne, V3, .bool rop, .bool rem, .int .i64 (rack : Int), .int .i64 (rtak : Int)]) := below_setRow BX (by omega) _
        clear H9
        generalize X3.setRow (X1.heap.size) #[.int .i64 rsn, .int .i64 rne, V3, .bool rop, .bool rem, .int .i64 (rack : Int), .int .i64 (rtak : Int)] = X4 at *
        refine hK.out _ _ ⟨K4, TT⟩ (fun hHeld => ?_)
        clear hK K
        try simp only [getElem_toArray, getElem_cons_zero, getElem_cons_succ, Act.put, setIfInBounds_toArray, set_cons_zero, set_cons_succ]
        refine wpAnyH_ready (rs := [15]) (by kernel_rfl) (by simp) ?_
        refine .cons rfl (fun K hK => ?_) .nil
        have H9 : (#[.int .i64 qk, .slice QB qn qd] : Array Value).all (·.oneCell') = true := by rw [← Array.all_toList]; rfl
        refine Av.step_store_row rfl 24 (.tmp 16) (.tmp 104) rfl (X2.heap.size) #[.int .i64 qk, .slice QB qn qd] rfl rfl 24 _ K16 (by kernel_rfl) rfl H9 ?_
        replace HQ1 := HQ1.step_ne (stp_row K16 #[.int .i64 qk, .slice QB qn qd]) (by decide) HN16 (Nat.zero_le _)
        replace HQ2 := HQ2.step_ne (stp_row K16 #[.int .i64 qk, .slice QB qn qd]) (by decide) HN3 (show w.heap.size ≤ X2.heap.size by omega)
        replace HW := HW.step (stp_row K16 #[.int .i64 qk, .slice QB qn qd]) (by decide) (Nat.zero_le _)
        replace TT := HT26.out _ (show Below w.heap.size w (X4.setRow (X2.heap.size) #[.int .i64 qk, .slice QB qn qd]) from below_setRow BX (by omega) _)
        replace HZ := HZ.step (stp_row K16 #[.int .i64 qk, .slice QB qn qd]) (by decide) (show w.heap.size ≤ X2.heap.size by omega)
        replace K3 : Blk (X4.setRow (X2.heap.size) #[.int .i64 qk, .slice QB qn qd]) (g) 43 #[.int .i64 ssn, .int .i64 sne, V, .bool sop, .bool sem, .int .i64 (sack : Int), .int .i64 (stak : Int)] := Av.bother_row K3 (by omega)
        replace K4 : Blk (X4.setRow (X2.heap.size) #[.int .i64 qk, .slice QB qn qd]) (g + 1) 43 #[.int .i64 ssn, .int .i64 sne, V2, .bool sop, .bool sem, .int .i64 (sack : Int), .int .i64 (stak : Int)] := Av.bother_row K4 (by omega)
        replace K11 : Blk (X4.setRow (X2.heap.size) #[.int .i64 qk, .slice QB qn qd]) (h) 43 #[.int .i64 rsn, .int .i64 rne, V1, .bool rop, .bool rem, .int .i64 (rack : Int), .int .i64 (rtak : Int)] := Av.bother_row K11 (by omega)
        replace K12 : Blk (X4.setRow (X2.heap.size) #[.int .i64 qk, .slice QB qn qd]) (h + 1) 24 #[.int .i64 qk, .slice QA qn qc] := Av.bother_row K12 (by omega)
        replace K15 : Blk (X4.setRow (X2.heap.size) #[.int .i64 qk, .slice QB qn qd]) (X1.heap.size) 43 #[.int .i64 rsn, .int .i64 rne, V3, .bool rop, .bool rem, .int .i64 (rack : Int), .int .i64 (rtak : Int)] := Av.bother_row K15 (by omega)
        replace K16 : Blk (X4.setRow (X2.heap.size) #[.int .i64 qk, .slice QB qn qd]) (X2.heap.size) 24 #[.int .i64 qk, .slice QB qn qd] := Av.bset_row K16
        replace BX : Below w.heap.size w (X4.setRow (X2.heap.size) #[.int .i64 qk, .slice QB qn qd]) := below_setRow BX (by omega) _
        clear H9
        generalize X4.setRow (X2.heap.size) #[.int .i64 qk, .slice QB qn qd] = X5 at *
        refine hK.out _ _ ⟨K4, TT⟩ (fun hHeld => ?_)
        clear hK K
        try simp only [getElem_toArray, getElem_cons_zero, getElem_cons_succ, Act.put, setIfInBounds_toArray, set_cons_zero, set_cons_succ]
        refine wpAnyH_take (i := 16) (v := .bool F) rfl (by kernel_rfl) (by kernel_rfl) (by kernel_rfl) (fun _ _ _ h => h) (.inl ⟨by first | rfl | go_simp, by intro u h; (try dsimp only at h); go_simp⟩) ‹_› ?_
        simp only [getElem_toArray, getElem_cons_zero, getElem_cons_succ, Act.put, setIfInBounds_toArray, set_cons_zero, set_cons_succ]
        refine wpAnyH_take (i := 17) (v := .bool a) rfl (by kernel_rfl) (by kernel_rfl) (by kernel_rfl) (fun _ _ _ h => h) (.inl ⟨by first | rfl | go_simp, by intro u h; (try dsimp only at h); go_simp⟩) ‹_› ?_
        simp only [getElem_toArray, getElem_cons_zero, getElem_cons_succ, Act.put, setIfInBounds_toArray, set_cons_zero, set_cons_succ]
        refine wpAnyH_done (by kernel_rfl) ?_ _
        clear hHeld
        go_wp2_with fail
        go_meet
        exact ⟨V3, l3, QB, qd, X1.heap.size, X2.heap.size, rfl, rfl, rfl, rfl, hzK15, hzK16, HQ1, HQ2, hl2, HW, HZ, K3, K4, K11, K12, K15, K16, BX⟩
       ·
        go_simp
        have b9 := (Below.refl X1.heap.size X1).alloc (Nat.le_refl _) (.cells #[.int .i64 0, .slice none 0 0] 24)
        have K16 : Blk (X1.alloc (.cells #[.int .i64 0, .slice none 0 0] 24)) X1.heap.size 24 #[.int .i64 0, .slice none 0 0] := Blk.fresh X1 24 #[.int .i64 0, .slice none 0 0]
        have hzK16 : h + 2 ≤ X1.heap.size := by have := K12.lt; omega
        have HN3 : V3.ownBlock ≠ some X1.heap.size := fun h9 => by have := (HQ2.2.2 _ h9).2; omega
        have HN16 : V1.ownBlock ≠ some X1.heap.size := fun h9 => by have := HN1.out _ h9; omega
        have HN26 : V2.ownBlock ≠ some X1.heap.size := fun h9 => by have := HN2.out _ h9; omega
        replace K3 := K3.below b9 K3.lt
        replace K4 := K4.below b9 K4.lt
        replace K11 := K11.below b9 K11.lt
        replace K12 := K12.below b9 K12.lt
        replace BX := thenB BX b9
        replace HQ1 := HQ1.below b9
        replace HQ2 := HQ2.below b9
        replace HW := HW.below b9
        replace TT := HT26.out _ BX
        replace HZ := HZ.below b9
        clear b9
        generalize X1.alloc (.cells #[.int .i64 0, .slice none 0 0] 24) = X6 at *
        refine hK.out _ _ ⟨K4, TT⟩ (fun hHeld => ?_)
        clear hK K
        try simp only [getElem_toArray, getElem_cons_zero, getElem_cons_succ, Act.put, setIfInBounds_toArray, set_cons_zero, set_cons_succ]
        refine wpAnyH_ready (rs := [12]) (by kernel_rfl) (by simp) ?_
        refine .cons rfl (fun K hK => ?_) .nil
        go_simp
        have b9 := (Below.refl X6.heap.size X6).alloc (Nat.le_refl _) (.cells #[.int .i64 0, .int .i64 0, .slice none 0 0, .bool false, .bool false, .int .i64 0, .int .i64 0] 43)
        have K15 : Blk (X6.alloc (.cells #[.int .i64 0, .int .i64 0, .slice none 0 0, .bool false, .bool false, .int .i64 0, .int .i64 0] 43)) X6.heap.size 43 #[.int .i64 0, .int .i64 0, .slice none 0 0, .bool false, .bool false, .int .i64 0, .int .i64 0] := Blk.fresh X6 43 #[.int .i64 0, .int .i64 0, .slice none 0 0, .bool false, .bool false, .int .i64 0, .int .i64 0]
        have hzK15 : h + 2 ≤ X6.heap.size := by have := K12.lt; omega
        have hyK15 := K16.lt
        replace K3 := K3.below b9 K3.lt
        replace K4 := K4.below b9 K4.lt
        replace K11 := K11.below b9 K11.lt
        replace K12 := K12.below b9 K12.lt
        replace K16 := K16.below b9 K16.lt
        replace BX := thenB BX b9
        replace HQ1 := HQ1.below b9
        replace HQ2 := HQ2.below b9
        replace HW := HW.below b9
        replace TT := HT26.out _ BX
        replace HZ := HZ.below b9
        clear b9
        generalize X6.alloc (.cells #[.int .i64 0, .int .i64 0, .slice none 0 0, .bool false, .bool false, .int .i64 0, .int .i64 0] 43) = X7 at *
        refine hK.out _ _ ⟨K4, TT⟩ (fun hHeld => ?_)
        clear hK K
        try simp only [getElem_toArray, getElem_cons_zero, getElem_cons_succ, Act.put, setIfInBounds_toArray, set_cons_zero, set_cons_succ]
        refine wpAnyH_ready (rs := [14]) (by kernel_rfl) (by simp) ?_
        refine .cons rfl (fun K hK => ?_) .nil
        have H9 : (#[.int .i64 rsn, .int .i64 rne, V3, .bool rop, .bool rem, .int .i64 (rack : Int), .int .i64 (rtak : Int)] : Array Value).all (·.oneCell') = true := by rw [← Array.all_toList]; simp only [List.all_cons, List.all_nil, oV3, Bool.and_true, Bool.and_self]; rfl
        refine Av.step_store_row rfl 43 (.tmp 15) (.tmp 103) rfl (X6.heap.size) #[.int .i64 rsn, .int .i64 rne, V3, .bool rop, .bool rem, .int .i64 (rack : Int), .int .i64 (rtak : Int)] rfl rfl 43 _ K15 (by kernel_rfl) rfl H9 ?_
        replace HQ1 := HQ1.step (stp_row K15 #[.int .i64 rsn, .int .i64 rne, V3, .bool rop, .bool rem, .int .i64 (rack : Int), .int .i64 (rtak : Int)]) (by decide) (by decide) (Nat.zero_le _)
        replace HQ2 := HQ2.step (stp_row K15 #[.int .i64 rsn, .int .i64 rne, V3, .bool rop, .bool rem, .int .i64 (rack : Int), .int .i64 (rtak : Int)]) (by decide) (by decide) (show w.heap.size ≤ X6.heap.size by omega)
        replace HW := HW.step (stp_row K15 #[.int .i64 rsn, .int .i64 rne, V3, .bool rop, .bool rem, .int .i64 (rack : Int), .int .i64 (rtak : Int)]) (by decide) (Nat.zero_le _)
        replace TT := HT26.out _ (show Below w.heap.size w (X7.setRow (X6.heap.size) #[.int .i64 rsn, .int .i64 rne, V3, .bool rop, .bool rem, .int .i64 (rack : Int), .int .i64 (rtak : Int)]) from below_setRow BX (by omega) _)
        replace HZ := HZ.step (stp_row K15 #[.int .i64 rsn, .int .i64 rne, V3, .bool rop, .bool rem, .int .i64 (rack : Int), .int .i64 (rtak : Int)]) (by decide) (show w.heap.size ≤ X6.heap.size by omega)
        replace K3 : Blk (X7.setRow (X6.heap.size) #[.int .i64 rsn, .int .i64 rne, V3, .bool rop, .bool rem, .int .i64 (rack : Int), .int .i64 (rtak : Int)]) (g) 43 #[.int .i64 ssn, .int .i64 sne, V, .bool sop, .bool sem, .int .i64 (sack : Int), .int .i64 (stak : Int)] := Av.bother_row K3 (by omega)
        replace K4 : Blk (X7.setRow (X6.heap.size) #[.int .i64 rsn, .int .i64 rne, V3, .bool rop, .bool rem, .int .i64 (rack : Int), .int .i64 (rtak : Int)]) (g + 1) 43 #[.int .i64 ssn, .int .i64 sne, V2, .bool sop, .bool sem, .int .i64 (sack : Int), .int .i64 (stak : Int)] := Av.bother_row K4 (by omega)
        replace K11 : Blk (X7.setRow (X6.heap.size) #[.int .i64 rsn, .int .i64 rne, V3, .bool rop, .bool rem, .int .i64 (rack : Int), .int .i64 (rtak : Int)]) (h) 43 #[.int .i64 rsn, .int .i64 rne, V1, .bool rop, .bool rem, .int .i64 (rack : Int), .int .i64 (rtak : Int)] := Av.bother_row K11 (by omega)
        replace K12 : Blk (X7.setRow (X6.heap.size) #[.int .i64 rsn, .int .i64 rne, V3, .bool rop, .bool rem, .int .i64 (rack : Int), .int .i64 (rtak : Int)]) (h + 1) 24 #[.int .i64 qk, .slice QA qn qc] := Av.bother_row K12 (by omega)
        replace K16 : Blk (X7.setRow (X6.heap.size) #[.int .i64 rsn, .int .i64 rne, V3, .bool rop, .bool rem, .int .i64 (rack : Int), .int .i64 (rtak : Int)]) (X1.heap.size) 24 #[.int .i64 0, .slice none 0 0] := Av.bother_row K16 (by omega)
        replace K15 : Blk (X7.setRow (X6.heap.size) #[.int .i64 rsn, .int .i64 rne, V3, .bool rop, .bool rem, .int .i64 (rack : Int), .int .i64 (rtak : Int)]) (X6.heap.size) 43 #[.int .i64 rsn, .int .i64 rne, V3, .bool rop, .bool rem, .int .i64 (rack : Int), .int .i64 (rtak : Int)] := Av.bset_row K15
        replace BX : Below w.heap.size w (X7.setRow (X6.heap.size) #[.int .i64 rsn, .int .i64 rne, V3, .bool rop, .bool rem, .int .i64 (rack : Int), .int .i64 (rtak : Int)]) := below_setRow BX (by omega) _
        clear H9
        generalize X7.setRow (X6.heap.size) #[.int .i64 rsn, .int .i64 rne, V3, .bool rop, .bool rem, .int .i64 (rack : Int), .int .i64 (rtak : Int)] = X8 at *
        refine hK.out _ _ ⟨K4, TT⟩ (fun hHeld => ?_)
        clear hK K
        try simp only [getElem_toArray, getElem_cons_zero, getElem_cons_succ, Act.put, setIfInBounds_toArray, set_cons_zero, set_cons_succ]
        refine wpAnyH_ready (rs := [15]) (by kernel_rfl) (by simp) ?_
        refine .cons rfl (fun K hK => ?_) .nil
        have H9 : (#[.int .i64 qk, .slice QB qn qd] : Array Value).all (·.oneCell') = true := by rw [← Array.all_toList]; rfl
        refine Av.step_store_row rfl 24 (.tmp 16) (.tmp 104) rfl (X1.heap.size) #[.int .i64 qk, .slice QB qn qd] rfl rfl 24 _ K16 (by kernel_rfl) rfl H9 ?_
        replace HQ1 := HQ1.step_ne (stp_row K16 #[.int .i64 qk, .slice QB qn qd]) (by decide) HN16 (Nat.zero_le _)
        replace HQ2 := HQ2.step_ne (stp_row K16 #[.int .i64 qk, .slice QB qn qd]) (by decide) HN3 (show w.heap.size ≤ X1.heap.size by omega)
        replace HW := HW.step (stp_row K16 #[.int .i64 qk, .slice QB qn qd]) (by decide) (Nat.zero_le _)
        replace TT := HT26.out _ (show Below w.heap.size w (X8.setRow (X1.heap.size) #[.int .i64 qk, .slice QB qn qd]) from below_setRow BX (by omega) _)
        replace HZ := HZ.step (stp_row K16 #[.int .i64 qk, .slice QB qn qd]) (by decide) (show w.heap.size ≤ X1.heap.size by omega)
        replace K3 : Blk (X8.setRow (X1.heap.size) #[.int .i64 qk, .slice QB qn qd]) (g) 43 #[.int .i64 ssn, .int .i64 sne, V, .bool sop, .bool sem, .int .i64 (sack : Int), .int .i64 (stak : Int)] := Av.bother_row K3 (by omega)
        replace K4 : Blk (X8.setRow (X1.heap.size) #[.int .i64 qk, .slice QB qn qd]) (g + 1) 43 #[.int .i64 ssn, .int .i64 sne, V2, .bool sop, .bool sem, .int .i64 (sack : Int), .int .i64 (stak : Int)] := Av.bother_row K4 (by omega)
        replace K11 : Blk (X8.setRow (X1.heap.size) #[.int .i64 qk, .slice QB qn qd]) (h) 43 #[.int .i64 rsn, .int .i64 rne, V1, .bool rop, .bool rem, .int .i64 (rack : Int), .int .i64 (rtak : Int)] := Av.bother_row K11 (by omega)
        replace K12 : Blk (X8.setRow (X1.heap.size) #[.int .i64 qk, .slice QB qn qd]) (h + 1) 24 #[.int .i64 qk, .slice QA qn qc] := Av.bother_row K12 (by omega)
        replace K16 : Blk (X8.setRow (X1.heap.size) #[.int .i64 qk, .slice QB qn qd]) (X1.heap.size) 24 #[.int .i64 qk, .slice QB qn qd] := Av.bset_row K16
        replace K15 : Blk (X8.setRow (X1.heap.size) #[.int .i64 qk, .slice QB qn qd]) (X6.heap.size) 43 #[.int .i64 rsn, .int .i64 rne, V3, .bool rop, .bool rem, .int .i64 (rack : Int), .int .i64 (rtak : Int)] := Av.bother_row K15 (by omega)
        replace BX : Below w.heap.size w (X8.setRow (X1.heap.size) #[.int .i64 qk, .slice QB qn qd]) := below_setRow BX (by omega) _
        clear H9
        generalize X8.setRow (X1.heap.size) #[.int .i64 qk, .slice QB qn qd] = X9 at *
        refine hK.out _ _ ⟨K4, TT⟩ (fun hHeld => ?_)
        clear hK K
        try simp only [getElem_toArray, getElem_cons_zero, getElem_cons_succ, Act.put, setIfInBounds_toArray, set_cons_zero, set_cons_succ]
        refine wpAnyH_take (i := 16) (v := .bool F) rfl (by kernel_rfl) (by kernel_rfl) (by kernel_rfl) (fun _ _ _ h => h) (.inl ⟨by first | rfl | go_simp, by intro u h; (try dsimp only at h); go_simp⟩) ‹_› ?_
        simp only [getElem_toArray, getElem_cons_zero, getElem_cons_succ, Act.put, setIfInBounds_toArray, set_cons_zero, set_cons_succ]
        refine wpAnyH_take (i := 17) (v := .bool a) rfl (by kernel_rfl) (by kernel_rfl) (by kernel_rfl) (fun _ _ _ h => h) (.inl ⟨by first | rfl | go_simp, by intro u h; (try dsimp only at h); go_simp⟩) ‹_› ?_
        simp only [getElem_toArray, getElem_cons_zero, getElem_cons_succ, Act.put, setIfInBounds_toArray, set_cons_zero, set_cons_succ]
        refine wpAnyH_done (by kernel_rfl) ?_ _
        clear hHeld
        go_wp2_with fail
        go_meet
        exact ⟨V3, l3, QB, qd, X6.heap.size, X1.heap.size, rfl, rfl, rfl, rfl, hzK15, hzK16, HQ1, HQ2, hl2, HW, HZ, K3, K4, K11, K12, K15, K16, BX⟩
     ·
       go_simp
       have b9 := (Below.refl X0.heap.size X0).alloc (Nat.le_refl _) (.cells #[.int .i64 0, .int .i64 0, .slice none 0 0, .bool false, .bool false, .int .i64 0, .int .i64 0] 43)
       have K15 : Blk (X0.alloc (.cells #[.int .i64 0, .int .i64 0, .slice none 0 0, .bool false, .bool false, .int .i64 0, .int .i64 0] 43)) X0.heap.size 43 #[.int .i64 0, .int .i64 0, .slice none 0 0, .bool false, .bool false, .int .i64 0, .int .i64 0] := Blk.fresh X0 43 #[.int .i64 0, .int .i64 0, .slice none 0 0, .bool false, .bool false, .int .i64 0, .int .i64 0]
       have hzK15 : h + 2 ≤ X0.heap.size := by have := K12.lt; omega
       replace K3 := K3.below b9 K3.lt
       replace K4 := K4.below b9 K4.lt
       replace K11 := K11.below b9 K11.lt
       replace K12 := K12.below b9 K12.lt
       replace BX := thenB BX b9
       replace HQ1 := HQ1.below b9
       replace HQ2 := HQ2.below b9
       replace HW := HW.below b9
       replace TT := HT26.out _ BX
       clear b9
       generalize X0.alloc (.cells #[.int .i64 0, .int .i64 0, .slice none 0 0, .bool false, .bool false, .int .i64 0, .int .i64 0] 43) = X10 at *
       refine hK.out _ _ ⟨K4, TT⟩ (fun hHeld => ?_)
       clear hK K
       try simp only [getElem_toArray, getElem_cons_zero, getElem_cons_succ, Act.put, setIfInBounds_toArray, set_cons_zero, set_cons_succ]
       refine wpAnyH_ready (rs := [6, 13]) (by kernel_rfl) (by simp) ?_
       refine AllReadyH.cons rfl (fun K hK => ?_) (AllReadyH.cons rfl (fun K hK => ?_) (AllReadyH.nil))
       ·
        go_simp
        refine (HTr.out X10 HQ2 BX).mono ?_
        rintro e X11 ⟨V3, l3, QB, qd, rfl, hq2, hl2, HZ, hn3, b9⟩
        have oV3 : V3.oneCell' = true := qq_one hq2
        clear hn3 HQ2
        have HQ2 := hq2
        clear hq2
        replace K3 := K3.below b9 K3.lt
        replace K4 := K4.below b9 K4.lt
        replace K11 := K11.below b9 K11.lt
        replace K12 := K12.below b9 K12.lt
        replace K15 := K15.below b9 K15.lt
        replace BX := thenB BX b9
        replace HQ1 := HQ1.below b9
        replace HW := HW.below b9
        replace TT := HT26.out _ BX
        clear b9
        refine hK.out _ _ ⟨K4, TT⟩ (fun hHeld => ?_)
        clear hK K
        try simp only [getElem_toArray, getElem_cons_zero, getElem_cons_succ, Act.put, setIfInBounds_toArray, set_cons_zero, set_cons_succ]
        refine wpAnyH_take (i := 7) (v := .tuple #[.agg #[.int .i64 rsn, .int .i64 rne, V3, .bool rop, .bool rem, .int .i64 (rack : Int), .int .i64 (rtak : Int)], .agg #[.int .i64 qk, .slice QB qn qd], .bool F, .bool a]) rfl (by kernel_rfl) (by kernel_rfl) (by kernel_rfl) (fun _ _ _ h => h) (.inl ⟨by first | rfl | go_simp, by intro u h; (try dsimp only at h); go_simp⟩) ‹_› ?_
        simp only [getElem_toArray, getElem_cons_zero, getElem_cons_succ, Act.put, setIfInBounds_toArray, set_cons_zero, set_cons_succ]
        refine wpAnyH_take (i := 8) (v := .agg #[.int .i64 rsn, .int .i64 rne, V3, .bool rop, .bool rem, .int .i64 (rack : Int), .int .i64 (rtak : Int)]) rfl (by kernel_rfl) (by kernel_rfl) (by kernel_rfl) (fun _ _ _ h => h) (.inl ⟨by first | rfl | go_simp, by intro u h; (try dsimp only at h); go_simp⟩) ‹_› ?_
        simp only [getElem_toArray, getElem_cons_zero, getElem_cons_succ, Act.put, setIfInBounds_toArray, set_cons_zero, set_cons_succ]
        refine wpAnyH_take (i := 9) (v := .agg #[.int .i64 qk, .slice QB qn qd]) rfl (by kernel_rfl) (by kernel_rfl) (by kernel_rfl) (fun _ _ _ h => h) (.inl ⟨by first | rfl | go_simp, by intro u h; (try dsimp only at h); go_simp⟩) ‹_› ?_
        simp only [getElem_toArray, getElem_cons_zero, getElem_cons_succ, Act.put, setIfInBounds_toArray, set_cons_zero, set_cons_succ]
        refine wpAnyH_take (i := 10) (v := .bool F) rfl (by kernel_rfl) (by kernel_rfl) (by kernel_rfl) (fun _ _ _ h => h) (.inl ⟨by first | rfl | go_simp, by intro u h; (try dsimp only at h); go_simp⟩) ‹_› ?_
        simp only [getElem_toArray, getElem_cons_zero, getElem_cons_succ, Act.put, setIfInBounds_toArray, set_cons_zero, set_cons_succ]
        refine wpAnyH_take (i := 11) (v := .bool a) rfl (by kernel_rfl) (by kernel_rfl) (by kernel_rfl) (fun _ _ _ h => h) (.inl ⟨by first | rfl | go_simp, by intro u h; (try dsimp only at h); go_simp⟩) ‹_› ?_
        simp only [getElem_toArray, getElem_cons_zero, getElem_cons_succ, Act.put, setIfInBounds_toArray, set_cons_zero, set_cons_succ]
        refine wpAnyH_ready (rs := [13]) (by kernel_rfl) (by simp) ?_
        refine .cons rfl (fun K hK => ?_) .nil
        go_simp
        have b9 := (Below.refl X11.heap.size X11).alloc (Nat.le_refl _) (.cells #[.int .i64 0, .slice none 0 0] 24)
        have K16 : Blk (X11.alloc (.cells #[.int .i64 0, .slice none 0 0] 24)) X11.heap.size 24 #[.int .i64 0, .slice none 0 0] := Blk.fresh X11 24 #[.int .i64 0, .slice none 0 0]
        have hzK16 : h + 2 ≤ X11.heap.size := by have := K12.lt; omega
        have hyK16 := K15.lt
        have HN3 : V3.ownBlock ≠ some X11.heap.size := fun h9 => by have := (HQ2.2.2 _ h9).2; omega
        have HN16 : V1.ownBlock ≠ some X11.heap.size := fun h9 => by have := HN1.out _ h9; omega
        have HN26 : V2.ownBlock ≠ some X11.heap.size := fun h9 => by have := HN2.out _ h9; omega
        replace K3 := K3.below b9 K3.lt
        replace K4 := K4.below b9 K4.lt
        replace K11 := K11.below b9 K11.lt
        replace K12 := K12.below b9 K12.lt
        replace K15 := K15.below b9 K15.lt
        replace BX := thenB BX b9
        replace HQ1 := HQ1.below b9
        replace HQ2 := HQ2.below b9
        replace HW := HW.below b9
        replace TT := HT26.out _ BX
        replace HZ := HZ.below b9
        clear b9
        generalize X11.alloc (.cells #[.int .i64 0, .slice none 0 0] 24) = X12 at *
        refine hK.out _ _ ⟨K4, TT⟩ (fun hHeld => ?_)
        clear hK K
        try simp only [getElem_toArray, getElem_cons_zero, getElem_cons_succ, Act.put, setIfInBounds_toArray, set_cons_zero, set_cons_succ]
        refine wpAnyH_ready (rs := [14]) (by kernel_rfl) (by simp) ?_
        refine .cons rfl (fun K hK => ?_) .nil
        have H9 : (#[.int .i64 rsn, .int .i64 rne, V3, .bool rop, .bool rem, .int .i64 (rack : Int), .int .i64 (rtak : Int)] : Array Value).all (·.oneCell') = true := by rw [← Array.all_toList]; simp only [List.all_cons, List.all_nil, oV3, Bool.and_true, Bool.and_self]; rfl
        refine Av.step_store_row rfl 43 (.tmp 15) (.tmp 103) rfl (X0.heap.size) #[.int .i64 rsn, .int .i64 rne, V3, .bool rop, .bool rem, .int .i64 (rack : Int), .int .i64 (rtak : Int)] rfl rfl 43 _ K15 (by kernel_rfl) rfl H9 ?_
        replace HQ1 := HQ1.step (stp_row K15 #[.int .i64 rsn, .int .i64 rne, V3, .bool rop, .bool rem, .int .i64 (rack : Int), .int .i64 (rtak : Int)]) (by decide) (by decide) (Nat.zero_le _)
        replace HQ2 := HQ2.step (stp_row K15 #[.int .i64 rsn, .int .i64 rne, V3, .bool rop, .bool rem, .int .i64 (rack : Int), .int .i64 (rtak : Int)]) (by decide) (by decide) (show w.heap.size ≤ X0.heap.size by omega)
        replace HW := HW.step (stp_row K15 #[.int .i64 rsn, .int .i64 rne, V3, .bool rop, .bool rem, .int .i64 (rack : Int), .int .i64 (rtak : Int)]) (by decide) (Nat.zero_le _)
        replace TT := HT26.out _ (show Below w.heap.size w (X12.setRow (X0.heap.size) #[.int .i64 rsn, .int .i64 rne, V3, .bool rop, .bool rem, .int .i64 (rack : Int), .int .i64 (rtak : Int)]) from below_setRow BX (by omega) _)
        replace HZ := HZ.step (stp_row K15 #[.int .i64 rsn, .int .i64 rne, V3, .bool rop, .bool rem, .int .i64 (rack : Int), .int .i64 (rtak : Int)]) (by decide) (show w.heap.size ≤ X0.heap.size by omega)
        replace K3 : Blk (X12.setRow (X0.heap.size) #[.int .i64 rsn, .int .i64 rne, V3, .bool rop, .bool rem, .int .i64 (rack : Int), .int .i64 (rtak : Int)]) (g) 43 #[.int .i64 ssn, .int .i64 sne, V, .bool sop, .bool sem, .int .i64 (sack : Int), .int .i64 (stak : Int)] := Av.bother_row K3 (by omega)
        replace K4 : Blk (X12.setRow (X0.heap.size) #[.int .i64 rsn, .int .i64 rne, V3, .bool rop, .bool rem, .int .i64 (rack : Int), .int .i64 (rtak : Int)]) (g + 1) 43 #[.int .i64 ssn, .int .i64 sne, V2, .bool sop, .bool sem, .int .i64 (sack : Int), .int .i64 (stak : Int)] := Av.bother_row K4 (by omega)
        replace K11 : Blk (X12.setRow (X0.heap.size) #[.int .i64 rsn, .int .i64 rne, V3, .bool rop, .bool rem, .int .i64 (rack : Int), .int .i64 (rtak : Int)]) (h) 43 #[.int .i64 rsn, .int .i64 rne, V1, .bool rop, .bool rem, .int .i64 (rack : Int), .int .i64 (rtak : Int)] := Av.bother_row K11 (by omega)
        replace K12 : Blk (X12.setRow (X0.heap.size) #[.int .i64 rsn, .int .i64 rne, V3, .bool rop, .bool rem, .int .i64 (rack : Int), .int .i64 (rtak : Int)]) (h + 1) 24 #[.int .i64 qk, .slice QA qn qc] := Av.bother_row K12 (by omega)
        replace K15 : Blk (X12.setRow (X0.heap.size) #[.int .i64 rsn, .int .i64 rne, V3, .bool rop, .bool rem, .int .i64 (rack : Int), .int .i64 (rtak : Int)]) (X0.heap.size) 43 #[.int .i64 rsn, .int .i64 rne, V3, .bool rop, .bool rem, .int .i64 (rack : Int), .int .i64 (rtak : Int)] := Av.bset_row K15
        replace K16 : Blk (X12.setRow (X0.heap.size) #[.int .i64 rsn, .int .i64 rne, V3, .bool rop, .bool rem, .int .i64 (rack : Int), .int .i64 (rtak : Int)]) (X11.heap.size) 24 #[.int .i64 0, .slice none 0 0] := Av.bother_row K16 (by omega)
        replace BX : Below w.heap.size w (X12.setRow (X0.heap.size) #[.int .i64 rsn, .int .i64 rne, V3, .bool rop, .bool rem, .int .i64 (rack : Int), .int .i64 (rtak : Int)]) := below_setRow BX (by omega) _
        clear H9
        generalize X12.setRow (X0.heap.size) #[.int .i64 rsn, .int .i64 rne, V3, .bool rop, .bool rem, .int .i64 (rack : Int), .int .i64 (rtak : Int)] = X13 at *
        refine hK.out _ _ ⟨K4, TT⟩ (fun hHeld => ?_)
        clear hK K
        try simp only [getElem_toArray, getElem_cons_zero, getElem_cons_succ, Act.put, setIfInBounds_toArray, set_cons_zero, set_cons_succ]
        refine wpAnyH_ready (rs := [15]) (by kernel_rfl) (by simp) ?_
        refine .cons rfl (fun K hK => ?_) .nil
        have H9 : (#[.int .i64 qk, .slice QB qn qd] : Array Value).all (·.oneCell') = true := by rw [← Array.all_toList]; rfl
        refine Av.step_store_row rfl 24 (.tmp 16) (.tmp 104) rfl (X11.heap.size) #[.int .i64 qk, .slice QB qn qd] rfl rfl 24 _ K16 (by kernel_rfl) rfl H9 ?_
        replace HQ1 := HQ1.step_ne (stp_row K16 #[.int .i64 qk, .slice QB qn qd]) (by decide) HN16 (Nat.zero_le _)
        replace HQ2 := HQ2.step_ne (stp_row K16 #[.int .i64 qk, .slice QB qn qd]) (by decide) HN3 (show w.heap.size ≤ X11.heap.size by omega)
        replace HW := HW.step (stp_row K16 #[.int .i64 qk, .slice QB qn qd]) (by decide) (Nat.zero_le _)
        replace TT := HT26.out _ (show Below w.heap.size w (X13.setRow (X11.heap.size) #[.int .i64 qk, .slice QB qn qd]) from below_setRow BX (by omega) _)
        replace HZ := HZ.step (stp_row K16 #[.int .i64 qk, .slice QB qn qd]) (by decide) (show w.heap.size ≤ X11.heap.size by omega)
        replace K3 : Blk (X13.setRow (X11.heap.size) #[.int .i64 qk, .slice QB qn qd]) (g) 43 #[.int .i64 ssn, .int .i64 sne, V, .bool sop, .bool sem, .int .i64 (sack : Int), .int .i64 (stak : Int)] := Av.bother_row K3 (by omega)
        replace K4 : Blk (X13.setRow (X11.heap.size) #[.int .i64 qk, .slice QB qn qd]) (g + 1) 43 #[.int .i64 ssn, .int .i64 sne, V2, .bool sop, .bool sem, .int .i64 (sack : Int), .int .i64 (stak : Int)] := Av.bother_row K4 (by omega)
        replace K11 : Blk (X13.setRow (X11.heap.size) #[.int .i64 qk, .slice QB qn qd]) (h) 43 #[.int .i64 rsn, .int .i64 rne, V1, .bool rop, .bool rem, .int .i64 (rack : Int), .int .i64 (rtak : Int)] := Av.bother_row K11 (by omega)
        replace K12 : Blk (X13.setRow (X11.heap.size) #[.int .i64 qk, .slice QB qn qd]) (h + 1) 24 #[.int .i64 qk, .slice QA qn qc] := Av.bother_row K12 (by omega)
        replace K15 : Blk (X13.setRow (X11.heap.size) #[.int .i64 qk, .slice QB qn qd]) (X0.heap.size) 43 #[.int .i64 rsn, .int .i64 rne, V3, .bool rop, .bool rem, .int .i64 (rack : Int), .int .i64 (rtak : Int)] := Av.bother_row K15 (by omega)
        replace K16 : Blk (X13.setRow (X11.heap.size) #[.int .i64 qk, .slice QB qn qd]) (X11.heap.size) 24 #[.int .i64 qk, .slice QB qn qd] := Av.bset_row K16
        replace BX : Below w.heap.size w (X13.setRow (X11.heap.size) #[.int .i64 qk, .slice QB qn qd]) := below_setRow BX (by omega) _
        clear H9
        generalize X13.setRow (X11.heap.size) #[.int .i64 qk, .slice QB qn qd] = X14 at *
        refine hK.out _ _ ⟨K4, TT⟩ (fun hHeld => ?_)
        clear hK K
        try simp only [getElem_toArray, getElem_cons_zero, getElem_cons_succ, Act.put, setIfInBounds_toArray, set_cons_zero, set_cons_succ]
        refine wpAnyH_take (i := 16) (v := .bool F) rfl (by kernel_rfl) (by kernel_rfl) (by kernel_rfl) (fun _ _ _ h => h) (.inl ⟨by first | rfl | go_simp, by intro u h; (try dsimp only at h); go_simp⟩) ‹_› ?_
        simp only [getElem_toArray, getElem_cons_zero, getElem_cons_succ, Act.put, setIfInBounds_toArray, set_cons_zero, set_cons_succ]
        refine wpAnyH_take (i := 17) (v := .bool a) rfl (by kernel_rfl) (by kernel_rfl) (by kernel_rfl) (fun _ _ _ h => h) (.inl ⟨by first | rfl | go_simp, by intro u h; (try dsimp only at h); go_simp⟩) ‹_› ?_
        simp only [getElem_toArray, getElem_cons_zero, getElem_cons_succ, Act.put, setIfInBounds_toArray, set_cons_zero, set_cons_succ]
        refine wpAnyH_done (by kernel_rfl) ?_ _
        clear hHeld
        go_wp2_with fail
        go_meet
        exact ⟨V3, l3, QB, qd, X0.heap.size, X11.heap.size, rfl, rfl, rfl, rfl, hzK15, hzK16, HQ1, HQ2, hl2, HW, HZ, K3, K4, K11, K12, K15, K16, BX⟩
       ·
        go_simp
        have b9 := (Below.refl X10.heap.size X10).alloc (Nat.le_refl _) (.cells #[.int .i64 0, .slice none 0 0] 24)
        have K16 : Blk (X10.alloc (.cells #[.int .i64 0, .slice none 0 0] 24)) X10.heap.size 24 #[.int .i64 0, .slice none 0 0] := Blk.fresh X10 24 #[.int .i64 0, .slice none 0 0]
        have hzK16 : h + 2 ≤ X10.heap.size := by have := K12.lt; omega
        have hyK16 := K15.lt
        have HN16 : V1.ownBlock ≠ some X10.heap.size := fun h9 => by have := HN1.out _ h9; omega
        have HN26 : V2.ownBlock ≠ some X10.heap.size := fun h9 => by have := HN2.out _ h9; omega
        replace K3 := K3.below b9 K3.lt
        replace K4 := K4.below b9 K4.lt
        replace K11 := K11.below b9 K11.lt
        replace K12 := K12.below b9 K12.lt
        replace K15 := K15.below b9 K15.lt
        replace BX := thenB BX b9
        replace HQ1 := HQ1.below b9
        replace HQ2 := HQ2.below b9
        replace HW := HW.below b9
        replace TT := HT26.out _ BX
        clear b9
        generalize X10.alloc (.cells #[.int .i64 0, .slice none 0 0] 24) = X15 at *
        refine hK.out _ _ ⟨K4, TT⟩ (fun hHeld => ?_)
        clear hK K
        try simp only [getElem_toArray, getElem_cons_zero, getElem_cons_succ, Act.put, setIfInBounds_toArray, set_cons_zero, set_cons_succ]
        refine wpAnyH_ready (rs := [6]) (by kernel_rfl) (by simp) ?_
        refine .cons rfl (fun K hK => ?_) .nil
        go_simp
        refine (HTr.out X15 HQ2 BX).mono ?_
        rintro e X16 ⟨V3, l3, QB, qd, rfl, hq2, hl2, HZ, hn3, b9⟩
        have oV3 : V3.oneCell' = true := qq_one hq2
        have hz16 := K16.lt
        have HN3 : V3.ownBlock ≠ some (X10.heap.size) := fun h9 => hn3.elim (fun e => by rw [e] at h9; have := HN2.out _ h9; omega) (fun e => by have := e _ h9; omega)
        clear hn3 HQ2
        have HQ2 := hq2
        clear hq2
        replace K3 := K3.below b9 K3.lt
        replace K4 := K4.below b9 K4.lt
        replace K11 := K11.below b9 K11.lt
        replace K12 := K12.below b9 K12.lt
        replace K15 := K15.below b9 K15.lt
        replace K16 := K16.below b9 K16.lt
        replace BX := thenB BX b9
        replace HQ1 := HQ1.below b9
        replace HW := HW.below b9
        replace TT := HT26.out _ BX
        clear b9
        refine hK.out _ _ ⟨K4, TT⟩ (fun hHeld => ?_)
        clear hK K
        try simp only [getElem_toArray, getElem_cons_zero, getElem_cons_succ, Act.put, setIfInBounds_toArray, set_cons_zero, set_cons_succ]
        refine wpAnyH_take (i := 7) (v := .tuple #[.agg #[.int .i64 rsn, .int .i64 rne, V3, .bool rop, .bool rem, .int .i64 (rack : Int), .int .i64 (rtak : Int)], .agg #[.int .i64 qk, .slice QB qn qd], .bool F, .bool a]) rfl (by kernel_rfl) (by kernel_rfl) (by kernel_rfl) (fun _ _ _ h => h) (.inl ⟨by first | rfl | go_simp, by intro u h; (try dsimp only at h); go_simp⟩) ‹_› ?_
        simp only [getElem_toArray, getElem_cons_zero, getElem_cons_succ, Act.put, setIfInBounds_toArray, set_cons_zero, set_cons_succ]
        refine wpAnyH_take (i := 8) (v := .agg #[.int .i64 rsn, .int .i64 rne, V3, .bool rop, .bool rem, .int .i64 (rack : Int), .int .i64 (rtak : Int)]) rfl (by kernel_rfl) (by kernel_rfl) (by kernel_rfl) (fun _ _ _ h => h) (.inl ⟨by first | rfl | go_simp, by intro u h; (try dsimp only at h); go_simp⟩) ‹_› ?_
        simp only [getElem_toArray, getElem_cons_zero, getElem_cons_succ, Act.put, setIfInBounds_toArray, set_cons_zero, set_cons_succ]
        refine wpAnyH_take (i := 9) (v := .agg #[.int .i64 qk, .slice QB qn qd]) rfl (by kernel_rfl) (by kernel_rfl) (by kernel_rfl) (fun _ _ _ h => h) (.inl ⟨by first | rfl | go_simp, by intro u h; (try dsimp only at h); go_simp⟩) ‹_› ?_
        simp only [getElem_toArray, getElem_cons_zero, getElem_cons_succ, Act.put, setIfInBounds_toArray, set_cons_zero, set_cons_succ]
        refine wpAnyH_take (i := 10) (v := .bool F) rfl (by kernel_rfl) (by kernel_rfl) (by kernel_rfl) (fun _ _ _ h => h) (.inl ⟨by first | rfl | go_simp, by intro u h; (try dsimp only at h); go_simp⟩) ‹_› ?_
        simp only [getElem_toArray, getElem_cons_zero, getElem_cons_succ, Act.put, setIfInBounds_toArray, set_cons_zero, set_cons_succ]
        refine wpAnyH_take (i := 11) (v := .bool a) rfl (by kernel_rfl) (by kernel_rfl) (by kernel_rfl) (fun _ _ _ h => h) (.inl ⟨by first | rfl | go_simp, by intro u h; (try dsimp only at h); go_simp⟩) ‹_› ?_
        simp only [getElem_toArray, getElem_cons_zero, getElem_cons_succ, Act.put, setIfInBounds_toArray, set_cons_zero, set_cons_succ]
        refine wpAnyH_ready (rs := [14]) (by kernel_rfl) (by simp) ?_
        refine .cons rfl (fun K hK => ?_) .nil
        have H9 : (#[.int .i64 rsn, .int .i64 rne, V3, .bool rop, .bool rem, .int .i64 (rack : Int), .int .i64 (rtak : Int)] : Array Value).all (·.oneCell') = true := by rw [← Array.all_toList]; simp only [List.all_cons, List.all_nil, oV3, Bool.and_true, Bool.and_self]; rfl
        refine Av.step_store_row rfl 43 (.tmp 15) (.tmp 103) rfl (X0.heap.size) #[.int .i64 rsn, .int .i64 rne, V3, .bool rop, .bool rem, .int .i64 (rack : Int), .int .i64 (rtak : Int)] rfl rfl 43 _ K15 (by kernel_rfl) rfl H9 ?_
        replace HQ1 := HQ1.step (stp_row K15 #[.int .i64 rsn, .int .i64 rne, V3, .bool rop, .bool rem, .int .i64 (rack : Int), .int .i64 (rtak : Int)]) (by decide) (by decide) (Nat.zero_le _)
        replace HQ2 := HQ2.step (stp_row K15 #[.int .i64 rsn, .int .i64 rne, V3, .bool rop, .bool rem, .int .i64 (rack : Int), .int .i64 (rtak : Int)]) (by decide) (by decide) (show w.heap.size ≤ X0.heap.size by omega)
        replace HW := HW.step (stp_row K15 #[.int .i64 rsn, .int .i64 rne, V3, .bool rop, .bool rem, .int .i64 (rack : Int), .int .i64 (rtak : Int)]) (by decide) (Nat.zero_le _)
        replace TT := HT26.out _ (show Below w.heap.size w (X16.setRow (X0.heap.size) #[.int .i64 rsn, .int .i64 rne, V3, .bool rop, .bool rem, .int .i64 (rack : Int), .int .i64 (rtak : Int)]) from below_setRow BX (by omega) _)
        replace HZ := HZ.step (stp_row K15 #[.int .i64 rsn, .int .i64 rne, V3, .bool rop, .bool rem, .int .i64 (rack : Int), .int .i64 (rtak : Int)]) (by decide) (show w.heap.size ≤ X0.heap.size by omega)
        replace K3 : Blk (X16.setRow (X0.heap.size) #[.int .i64 rsn, .int .i64 rne, V3, .bool rop, .bool rem, .int .i64 (rack : Int), .int .i64 (rtak : Int)]) (g) 43 #[.int .i64 ssn, .int .i64 sne, V, .bool sop, .bool sem, .int .i64 (sack : Int), .int .i64 (stak : Int)] := Av.bother_row K3 (by omega)
        replace K4 : Blk (X16.setRow (X0.heap.size) #[.int .i64 rsn, .int .i64 rne, V3, .bool rop, .bool rem, .int .i64 (rack : Int), .int .i64 (rtak : Int)]) (g + 1) 43 #[.int .i64 ssn, .int .i64 sne, V2, .bool sop, .bool sem, .int .i64 (sack : Int), .int .i64 (stak : Int)] := Av.bother_row K4 (by omega)
        replace K11 : Blk (X16.setRow (X0.heap.size) #[.int .i64 rsn, .int .i64 rne, V3, .bool rop, .bool rem, .int .i64 (rack : Int), .int .i64 (rtak : Int)]) (h) 43 #[.int .i64 rsn, .int .i64 rne, V1, .bool rop, .bool rem, .int .i64 (rack : Int), .int .i64 (rtak : Int)] := Av.bother_row K11 (by omega)
        replace K12 : Blk (X16.setRow (X0.heap.size) #[.int .i64 rsn, .int .i64 rne, V3, .bool rop, .bool rem, .int .i64 (rack : Int), .int .i64 (rtak : Int)]) (h + 1) 24 #[.int .i64 qk, .slice QA qn qc] := Av.bother_row K12 (by omega)
        replace K15 : Blk (X16.setRow (X0.heap.size) #[.int .i64 rsn, .int .i64 rne, V3, .bool rop, .bool rem, .int .i64 (rack : Int), .int .i64 (rtak : Int)]) (X0.heap.size) 43 #[.int .i64 rsn, .int .i64 rne, V3, .bool rop, .bool rem, .int .i64 (rack : Int), .int .i64 (rtak : Int)] := Av.bset_row K15
        replace K16 : Blk (X16.setRow (X0.heap.size) #[.int .i64 rsn, .int .i64 rne, V3, .bool rop, .bool rem, .int .i64 (rack : Int), .int .i64 (rtak : Int)]) (X10.heap.size) 24 #[.int .i64 0, .slice none 0 0] := Av.bother_row K16 (by omega)
        replace BX : Below w.heap.size w (X16.setRow (X0.heap.size) #[.int .i64 rsn, .int .i64 rne, V3, .bool rop, .bool rem, .int .i64 (rack : Int), .int .i64 (rtak : Int)]) := below_setRow BX (by omega) _
        clear H9
        generalize X16.setRow (X0.heap.size) #[.int .i64 rsn, .int .i64 rne, V3, .bool rop, .bool rem, .int .i64 (rack : Int), .int .i64 (rtak : Int)] = X17 at *
        refine hK.out _ _ ⟨K4, TT⟩ (fun hHeld => ?_)
        clear hK K
        try simp only [getElem_toArray, getElem_cons_zero, getElem_cons_succ, Act.put, setIfInBounds_toArray, set_cons_zero, set_cons_succ]
        refine wpAnyH_ready (rs := [15]) (by kernel_rfl) (by simp) ?_
        refine .cons rfl (fun K hK => ?_) .nil
        have H9 : (#[.int .i64 qk, .slice QB qn qd] : Array Value).all (·.oneCell') = true := by rw [← Array.all_toList]; rfl
        refine Av.step_store_row rfl 24 (.tmp 16) (.tmp 104) rfl (X10.heap.size) #[.int .i64 qk, .slice QB qn qd] rfl rfl 24 _ K16 (by kernel_rfl) rfl H9 ?_
        replace HQ1 := HQ1.step_ne (stp_row K16 #[.int .i64 qk, .slice QB qn qd]) (by decide) HN16 (Nat.zero_le _)
        replace HQ2 := HQ2.step_ne (stp_row K16 #[.int .i64 qk, .slice QB qn qd]) (by decide) HN3 (show w.heap.size ≤ X10.heap.size by omega)
        replace HW := HW.step (stp_row K16 #[.int .i64 qk, .slice QB qn qd]) (by decide) (Nat.zero_le _)
        replace TT := HT26.out _ (show Below w.heap.size w (X17.setRow (X10.heap.size) #[.int .i64 qk, .slice QB qn qd]) from below_setRow BX (by omega) _)
        replace HZ := HZ.step (stp_row K16 #[.int .i64 qk, .slice QB qn qd]) (by decide) (show w.heap.size ≤ X10.heap.size by omega)
        replace K3 : Blk (X17.setRow (X10.heap.size) #[.int .i64 qk, .slice QB qn qd]) (g) 43 #[.int .i64 ssn, .int .i64 sne, V, .bool sop, .bool sem, .int .i64 (sack : Int), .int .i64 (stak : Int)] := Av.bother_row K3 (by omega)
        replace K4 : Blk (X17.setRow (X10.heap.size) #[.int .i64 qk, .slice QB qn qd]) (g + 1) 43 #[.int .i64 ssn, .int .i64 sne, V2, .bool sop, .bool sem, .int .i64 (sack : Int), .int .i64 (stak : Int)] := Av.bother_row K4 (by omega)
        replace K11 : Blk (X17.setRow (X10.heap.size) #[.int .i64 qk, .slice QB qn qd]) (h) 43 #[.int .i64 rsn, .int .i64 rne, V1, .bool rop, .bool rem, .int .i64 (rack : Int), .int .i64 (rtak : Int)] := Av.bother_row K11 (by omega)
        replace K12 : Blk (X17.setRow (X10.heap.size) #[.int .i64 qk, .slice QB qn qd]) (h + 1) 24 #[.int .i64 qk, .slice QA qn qc] := Av.bother_row K12 (by omega)
        replace K15 : Blk (X17.setRow (X10.heap.size) #[.int .i64 qk, .slice QB qn qd]) (X0.heap.size) 43 #[.int .i64 rsn, .int .i64 rne, V3, .bool rop, .bool rem, .int .i64 (rack : Int), .int .i64 (rtak : Int)] := Av.bother_row K15 (by omega)
        replace K16 : Blk (X17.setRow (X10.heap.size) #[.int .i64 qk, .slice QB qn qd]) (X10.heap.size) 24 #[.int .i64 qk, .slice QB qn qd] := Av.bset_row K16
        replace BX : Below w.heap.size w (X17.setRow (X10.heap.size) #[.int .i64 qk, .slice QB qn qd]) := below_setRow BX (by omega) _
        clear H9
        generalize X17.setRow (X10.heap.size) #[.int .i64 qk, .slice QB qn qd] = X18 at *
        refine hK.out _ _ ⟨K4, TT⟩ (fun hHeld => ?_)
        clear hK K
        try simp only [getElem_toArray, getElem_cons_zero, getElem_cons_succ, Act.put, setIfInBounds_toArray, set_cons_zero, set_cons_succ]
        refine wpAnyH_take (i := 16) (v := .bool F) rfl (by kernel_rfl) (by kernel_rfl) (by kernel_rfl) (fun _ _ _ h => h) (.inl ⟨by first | rfl | go_simp, by intro u h; (try dsimp only at h); go_simp⟩) ‹_› ?_
        simp only [getElem_toArray, getElem_cons_zero, getElem_cons_succ, Act.put, setIfInBounds_toArray, set_cons_zero, set_cons_succ]
        refine wpAnyH_take (i := 17) (v := .bool a) rfl (by kernel_rfl) (by kernel_rfl) (by kernel_rfl) (fun _ _ _ h => h) (.inl ⟨by first | rfl | go_simp, by intro u h; (try dsimp only at h); go_simp⟩) ‹_› ?_
        simp only [getElem_toArray, getElem_cons_zero, getElem_cons_succ, Act.put, setIfInBounds_toArray, set_cons_zero, set_cons_succ]
        refine wpAnyH_done (by kernel_rfl) ?_ _
        clear hHeld
        go_wp2_with fail
        go_meet
        exact ⟨V3, l3, QB, qd, X0.heap.size, X10.heap.size, rfl, rfl, rfl, rfl, hzK15, hzK16, HQ1, HQ2, hl2, HW, HZ, K3, K4, K11, K12, K15, K16, BX⟩
     ·
       go_simp
       have b9 := (Below.refl X0.heap.size X0).alloc (Nat.le_refl _) (.cells #[.int .i64 0, .slice none 0 0] 24)
       have K16 : Blk (X0.alloc (.cells #[.int .i64 0, .slice none 0 0] 24)) X0.heap.size 24 #[.int .i64 0, .slice none 0 0] := Blk.fresh X0 24 #[.int .i64 0, .slice none 0 0]
       have hzK16 : h + 2 ≤ X0.heap.size := by have := K12.lt; omega
       have HN16 : V1.ownBlock ≠ some X0.heap.size := fun h9 => by have := HN1.out _ h9; omega
       have HN26 : V2.ownBlock ≠ some X0.heap.size := fun h9 => by have := HN2.out _ h9; omega
       replace K3 := K3.below b9 K3.lt
       replace K4 := K4.below b9 K4.lt
       replace K11 := K11.below b9 K11.lt
       replace K12 := K12.below b9 K12.lt
       replace BX := thenB BX b9
       replace HQ1 := HQ1.below b9
       replace HQ2 := HQ2.below b9
       replace HW := HW.below b9
       replace TT := HT26.out _ BX
       clear b9
       generalize X0.alloc (.cells #[.int .i64 0, .slice none 0 0] 24) = X19 at *
       refine hK.out _ _ ⟨K4, TT⟩ (fun hHeld => ?_)
       clear hK K
       try simp only [getElem_toArray, getElem_cons_zero, getElem_cons_succ, Act.put, setIfInBounds_toArray, set_cons_zero, set_cons_succ]
       refine wpAnyH_ready (rs := [6, 12]) (by kernel_rfl) (by simp) ?_
       refine AllReadyH.cons rfl (fun K hK => ?_) (AllReadyH.cons rfl (fun K hK => ?_) (AllReadyH.nil))
       ·
        go_simp
        refine (HTr.out X19 HQ2 BX).mono ?_
        rintro e X20 ⟨V3, l3, QB, qd, rfl, hq2, hl2, HZ, hn3, b9⟩
        have oV3 : V3.oneCell' = true := qq_one hq2
        have hz16 := K16.lt
        have HN3 : V3.ownBlock ≠ some (X0.heap.size) := fun h9 => hn3.elim (fun e => by rw [e] at h9; have := HN2.out _ h9; omega) (fun e => by have := e _ h9; omega)
        clear hn3 HQ2
        have HQ2 := hq2
        clear hq2
        replace K3 := K3.below b9 K3.lt
        replace K4 := K4.below b9 K4.lt
        replace K11 := K11.below b9 K11.lt
        replace K12 := K12.below b9 K12.lt
        replace K16 := K16.below b9 K16.lt
        replace BX := thenB BX b9
        replace HQ1 := HQ1.below b9
        replace HW := HW.below b9
        replace TT := HT26.out _ BX
        clear b9
        refine hK.out _ _ ⟨K4, TT⟩ (fun hHeld => ?_)
        clear hK K
        try simp only [getElem_toArray, getElem_cons_zero, getElem_cons_succ, Act.put, setIfInBounds_toArray, set_cons_zero, set_cons_succ]
        refine wpAnyH_take (i := 7) (v := .tuple #[.agg #[.int .i64 rsn, .int .i64 rne, V3, .bool rop, .bool rem, .int .i64 (rack : Int), .int .i64 (rtak : Int)], .agg #[.int .i64 qk, .slice QB qn qd], .bool F, .bool a]) rfl (by kernel_rfl) (by kernel_rfl) (by kernel_rfl) (fun _ _ _ h => h) (.inl ⟨by first | rfl | go_simp, by intro u h; (try dsimp only at h); go_simp⟩) ‹_› ?_
        simp only [getElem_toArray, getElem_cons_zero, getElem_cons_succ, Act.put, setIfInBounds_toArray, set_cons_zero, set_cons_succ]
        refine wpAnyH_take (i := 8) (v := .agg #[.int .i64 rsn, .int .i64 rne, V3, .bool rop, .bool rem, .int .i64 (rack : Int), .int .i64 (rtak : Int)]) rfl (by kernel_rfl) (by kernel_rfl) (by kernel_rfl) (fun _ _ _ h => h) (.inl ⟨by first | rfl | go_simp, by intro u h; (try dsimp only at h); go_simp⟩) ‹_› ?_
        simp only [getElem_toArray, getElem_cons_zero, getElem_cons_succ, Act.put, setIfInBounds_toArray, set_cons_zero, set_cons_succ]
        refine wpAnyH_take (i := 9) (v := .agg #[.int .i64 qk, .slice QB qn qd]) rfl (by kernel_rfl) (by kernel_rfl) (by kernel_rfl) (fun _ _ _ h => h) (.inl ⟨by first | rfl | go_simp, by intro u h; (try dsimp only at h); go_simp⟩) ‹_› ?_
        simp only [getElem_toArray, getElem_cons_zero, getElem_cons_succ, Act.put, setIfInBounds_toArray, set_cons_zero, set_cons_succ]
        refine wpAnyH_take (i := 10) (v := .bool F) rfl (by kernel_rfl) (by kernel_rfl) (by kernel_rfl) (fun _ _ _ h => h) (.inl ⟨by first | rfl | go_simp, by intro u h; (try dsimp only at h); go_simp⟩) ‹_› ?_
        simp only [getElem_toArray, getElem_cons_zero, getElem_cons_succ, Act.put, setIfInBounds_toArray, set_cons_zero, set_cons_succ]
        refine wpAnyH_take (i := 11) (v := .bool a) rfl (by kernel_rfl) (by kernel_rfl) (by kernel_rfl) (fun _ _ _ h => h) (.inl ⟨by first | rfl | go_simp, by intro u h; (try dsimp only at h); go_simp⟩) ‹_› ?_
        simp only [getElem_toArray, getElem_cons_zero, getElem_cons_succ, Act.put, setIfInBounds_toArray, set_cons_zero, set_cons_succ]
        refine wpAnyH_ready (rs := [12]) (by kernel_rfl) (by simp) ?_
        refine .cons rfl (fun K hK => ?_) .nil
        go_simp
        have b9 := (Below.refl X20.heap.size X20).alloc (Nat.le_refl _) (.cells #[.int .i64 0, .int .i64 0, .slice none 0 0, .bool false, .bool false, .int .i64 0, .int .i64 0] 43)
        have K15 : Blk (X20.alloc (.cells #[.int .i64 0, .int .i64 0, .slice none 0 0, .bool false, .bool false, .int .i64 0, .int .i64 0] 43)) X20.heap.size 43 #[.int .i64 0, .int .i64 0, .slice none 0 0, .bool false, .bool false, .int .i64 0, .int .i64 0] := Blk.fresh X20 43 #[.int .i64 0, .int .i64 0, .slice none 0 0, .bool false, .bool false, .int .i64 0, .int .i64 0]
        have hzK15 : h + 2 ≤ X20.heap.size := by have := K12.lt; omega
        have hyK15 := K16.lt
        replace K3 := K3.below b9 K3.lt
        replace K4 := K4.below b9 K4.lt
        replace K11 := K11.below b9 K11.lt
        replace K12 := K12.below b9 K12.lt
        replace K16 := K16.below b9 K16.lt
        replace BX := thenB BX b9
        replace HQ1 := HQ1.below b9
        replace HQ2 := HQ2.below b9
        replace HW := HW.below b9
        replace TT := HT26.out _ BX
        replace HZ := HZ.below b9
        clear b9
        generalize X20.alloc (.cells #[.int .i64 0, .int .i64 0, .slice none 0 0, .bool false, .bool false, .int .i64 0, .int .i64 0] 43) = X21 at *
        refine hK.out _ _ ⟨K4, TT⟩ (fun hHeld => ?_)
        clear hK K
        try simp only [getElem_toArray, getElem_cons_zero, getElem_cons_succ, Act.put, setIfInBounds_toArray, set_cons_zero, set_cons_succ]
        refine wpAnyH_ready (rs := [14]) (by kernel_rfl) (by simp) ?_
        refine .cons rfl (fun K hK => ?_) .nil
        have H9 : (#[.int .i64 rsn, .int .i64 rne, V3, .bool rop, .bool rem, .int .i64 (rack : Int), .int .i64 (rtak : Int)] : Array Value).all (·.oneCell') = true := by rw [← Array.all_toList]; simp only [List.all_cons, List.all_nil, oV3, Bool.and_true, Bool.and_self]; rfl
        refine Av.step_store_row rfl 43 (.tmp 15) (.tmp 103) rfl (X20.heap.size) #[.int .i64 rsn, .int .i64 rne, V3, .bool rop, .bool rem, .int .i64 (rack : Int), .int .i64 (rtak : Int)] rfl rfl 43 _ K15 (by kernel_rfl) rfl H9 ?_
        replace HQ1 := HQ1.step (stp_row K15 #[.int .i64 rsn, .int .i64 rne, V3, .bool rop, .bool rem, .int .i64 (rack : Int), .int .i64 (rtak : Int)]) (by decide) (by decide) (Nat.zero_le _)
        replace HQ2 := HQ2.step (stp_row K15 #[.int .i64 rsn, .int .i64 rne, V3, .bool rop, .bool rem, .int .i64 (rack : Int), .int .i64 (rtak : Int)]) (by decide) (by decide) (show w.heap.size ≤ X20.heap.size by omega)
        replace HW := HW.step (stp_row K15 #[.int .i64 rsn, .int .i64 rne, V3, .bool rop, .bool rem, .int .i64 (rack : Int), .int .i64 (rtak : Int)]) (by decide) (Nat.zero_le _)
        replace TT := HT26.out _ (show Below w.heap.size w (X21.setRow (X20.heap.size) #[.int .i64 rsn, .int .i64 rne, V3, .bool rop, .bool rem, .int .i64 (rack : Int), .int .i64 (rtak : Int)]) from below_setRow BX (by omega) _)
        replace HZ := HZ.step (stp_row K15 #[.int .i64 rsn, .int .i64 rne, V3, .bool rop, .bool rem, .int .i64 (rack : Int), .int .i64 (rtak : Int)]) (by decide) (show w.heap.size ≤ X20.heap.size by omega)
        replace K3 : Blk (X21.setRow (X20.heap.size) #[.int .i64 rsn, .int .i64 rne, V3, .bool rop, .bool rem, .int .i64 (rack : Int), .int .i64 (rtak : Int)]) (g) 43 #[.int .i64 ssn, .int .i64 sne, V, .bool sop, .bool sem, .int .i64 (sack : Int), .int .i64 (stak : Int)] := Av.bother_row K3 (by omega)
        replace K4 : Blk (X21.setRow (X20.heap.size) #[.int .i64 rsn, .int .i64 rne, V3, .bool rop, .bool rem, .int .i64 (rack : Int), .int .i64 (rtak : Int)]) (g + 1) 43 #[.int .i64 ssn, .int .i64 sne, V2, .bool sop, .bool sem, .int .i64 (sack : Int), .int .i64 (stak : Int)] := Av.bother_row K4 (by omega)
        replace K11 : Blk (X21.setRow (X20.heap.size) #[.int .i64 rsn, .int .i64 rne, V3, .bool rop, .bool rem, .int .i64 (rack : Int), .int .i64 (rtak : Int)]) (h) 43 #[.int .i64 rsn, .int .i64 rne, V1, .bool rop, .bool rem, .int .i64 (rack : Int), .int .i64 (rtak : Int)] := Av.bother_row K11 (by omega)
        replace K12 : Blk (X21.setRow (X20.heap.size) #[.int .i64 rsn, .int .i64 rne, V3, .bool rop, .bool rem, .int .i64 (rack : Int), .int .i64 (rtak : Int)]) (h + 1) 24 #[.int .i64 qk, .slice QA qn qc] := Av.bother_row K12 (by omega)
        replace K16 : Blk (X21.setRow (X20.heap.size) #[.int .i64 rsn, .int .i64 rne, V3, .bool rop, .bool rem, .int .i64 (rack : Int), .int .i64 (rtak : Int)]) (X0.heap.size) 24 #[.int .i64 0, .slice none 0 0] := Av.bother_row K16 (by omega)
        replace K15 : Blk (X21.setRow (X20.heap.size) #[.int .i64 rsn, .int .i64 rne, V3, .bool rop, .bool rem, .int .i64 (rack : Int), .int .i64 (rtak : Int)]) (X20.heap.size) 43 #[.int .i64 rsn, .int .i64 rne, V3, .bool rop, .bool rem, .int .i64 (rack : Int), .int .i64 (rtak : Int)] := Av.bset_row K15
        replace BX : Below w.heap.size w (X21.setRow (X20.heap.size) #[.int .i64 rsn, .int .i64 rne, V3, .bool rop, .bool rem, .int .i64 (rack : Int), .int .i64 (rtak : Int)]) := below_setRow BX (by omega) _
        clear H9
        generalize X21.setRow (X20.heap.size) #[.int .i64 rsn, .int .i64 rne, V3, .bool rop, .bool rem, .int .i64 (rack : Int), .int .i64 (rtak : Int)] = X22 at *
        refine hK.out _ _ ⟨K4, TT⟩ (fun hHeld => ?_)
        clear hK K
        try simp only [getElem_toArray, getElem_cons_zero, getElem_cons_succ, Act.put, setIfInBounds_toArray, set_cons_zero, set_cons_succ]
        refine wpAnyH_ready (rs := [15]) (by kernel_rfl) (by simp) ?_
        refine .cons rfl (fun K hK => ?_) .nil
        have H9 : (#[.int .i64 qk, .slice QB qn qd] : Array Value).all (·.oneCell') = true := by rw [← Array.all_toList]; rfl
        refine Av.step_store_row rfl 24 (.tmp 16) (.tmp 104) rfl (X0.heap.size) #[.int .i64 qk, .slice QB qn qd] rfl rfl 24 _ K16 (by kernel_rfl) rfl H9 ?_
        replace HQ1 := HQ1.step_ne (stp_row K16 #[.int .i64 qk, .slice QB qn qd]) (by decide) HN16 (Nat.zero_le _)
        replace HQ2 := HQ2.step_ne (stp_row K16 #[.int .i64 qk, .slice QB qn qd]) (by decide) HN3 (show w.heap.size ≤ X0.heap.size by omega)
        replace HW := HW.step (stp_row K16 #[.int .i64 qk, .slice QB qn qd]) (by decide) (Nat.zero_le _)
        replace TT := HT26.out _ (show Below w.heap.size w (X22.setRow (X0.heap.size) #[.int .i64 qk, .slice QB qn qd]) from below_setRow BX (by omega) _)
        replace HZ := HZ.step (stp_row K16 #[.int .i64 qk, .slice QB qn qd]) (by decide) (show w.heap.size ≤ X0.heap.size by omega)
        replace K3 : Blk (X22.setRow (X0.heap.size) #[.int .i64 qk, .slice QB qn qd]) (g) 43 #[.int .i64 ssn, .int .i64 sne, V, .bool sop, .bool sem, .int .i64 (sack : Int), .int .i64 (stak : Int)] := Av.bother_row K3 (by omega)
        replace K4 : Blk (X22.setRow (X0.heap.size) #[.int .i64 qk, .slice QB qn qd]) (g + 1) 43 #[.int .i64 ssn, .int .i64 sne, V2, .bool sop, .bool sem, .int .i64 (sack : Int), .int .i64 (stak : Int)] := Av.bother_row K4 (by omega)
        replace K11 : Blk (X22.setRow (X0.heap.size) #[.int .i64 qk, .slice QB qn qd]) (h) 43 #[.int .i64 rsn, .int .i64 rne, V1, .bool rop, .bool rem, .int .i64 (rack : Int), .int .i64 (rtak : Int)] := Av.bother_row K11 (by omega)
        replace K12 : Blk (X22.setRow (X0.heap.size) #[.int .i64 qk, .slice QB qn qd]) (h + 1) 24 #[.int .i64 qk, .slice QA qn qc] := Av.bother_row K12 (by omega)
        replace K16 : Blk (X22.setRow (X0.heap.size) #[.int .i64 qk, .slice QB qn qd]) (X0.heap.size) 24 #[.int .i64 qk, .slice QB qn qd] := Av.bset_row K16
        replace K15 : Blk (X22.setRow (X0.heap.size) #[.int .i64 qk, .slice QB qn qd]) (X20.heap.size) 43 #[.int .i64 rsn, .int .i64 rne, V3, .bool rop, .bool rem, .int .i64 (rack : Int), .int .i64 (rtak : Int)] := Av.bother_row K15 (by omega)
        replace BX : Below w.heap.size w (X22.setRow (X0.heap.size) #[.int .i64 qk, .slice QB qn qd]) := below_setRow BX (by omega) _
        clear H9
        generalize X22.setRow (X0.heap.size) #[.int .i64 qk, .slice QB qn qd] = X23 at *
        refine hK.out _ _ ⟨K4, TT⟩ (fun hHeld => ?_)
        clear hK K
        try simp only [getElem_toArray, getElem_cons_zero, getElem_cons_succ, Act.put, setIfInBounds_toArray, set_cons_zero, set_cons_succ]
        refine wpAnyH_take (i := 16) (v := .bool F) rfl (by kernel_rfl) (by kernel_rfl) (by kernel_rfl) (fun _ _ _ h => h) (.inl ⟨by first | rfl | go_simp, by intro u h; (try dsimp only at h); go_simp⟩) ‹_› ?_
        simp only [getElem_toArray, getElem_cons_zero, getElem_cons_succ, Act.put, setIfInBounds_toArray, set_cons_zero, set_cons_succ]
        refine wpAnyH_take (i := 17) (v := .bool a) rfl (by kernel_rfl) (by kernel_rfl) (by kernel_rfl) (fun _ _ _ h => h) (.inl ⟨by first | rfl | go_simp, by intro u h; (try dsimp only at h); go_simp⟩) ‹_› ?_
        simp only [getElem_toArray, getElem_cons_zero, getElem_cons_succ, Act.put, setIfInBounds_toArray, set_cons_zero, set_cons_succ]
        refine wpAnyH_done (by kernel_rfl) ?_ _
        clear hHeld
        go_wp2_with fail
        go_meet
        exact ⟨V3, l3, QB, qd, X20.heap.size, X0.heap.size, rfl, rfl, rfl, rfl, hzK15, hzK16, HQ1, HQ2, hl2, HW, HZ, K3, K4, K11, K12, K15, K16, BX⟩
       ·
        go_simp
        have b9 := (Below.refl X19.heap.size X19).alloc (Nat.le_refl _) (.cells #[.int .i64 0, .int .i64 0, .slice none 0 0, .bool false, .bool false, .int .i64 0, .int .i64 0] 43)
        have K15 : Blk (X19.alloc (.cells #[.int .i64 0, .int .i64 0, .slice none 0 0, .bool false, .bool false, .int .i64 0, .int .i64 0] 43)) X19.heap.size 43 #[.int .i64 0, .int .i64 0, .slice none 0 0, .bool false, .bool false, .int .i64 0, .int .i64 0] := Blk.fresh X19 43 #[.int .i64 0, .int .i64 0, .slice none 0 0, .bool false, .bool false, .int .i64 0, .int .i64 0]
        have hzK15 : h + 2 ≤ X19.heap.size := by have := K12.lt; omega
        have hyK15 := K16.lt
        replace K3 := K3.below b9 K3.lt
        replace K4 := K4.below b9 K4.lt
        replace K11 := K11.below b9 K11.lt
        replace K12 := K12.below b9 K12.lt
        replace K16 := K16.below b9 K16.lt
        replace BX := thenB BX b9
        replace HQ1 := HQ1.below b9
        replace HQ2 := HQ2.below b9
        replace HW := HW.below b9
        replace TT := HT26.out _ BX
        clear b9
        generalize X19.alloc (.cells #[.int .i64 0, .int .i64 0, .slice none 0 0, .bool false, .bool false, .int .i64 0, .int .i64 0] 43) = X24 at *
        refine hK.out _ _ ⟨K4, TT⟩ (fun hHeld => ?_)
        clear hK K
        try simp only [getElem_toArray, getElem_cons_zero, getElem_cons_succ, Act.put, setIfInBounds_toArray, set_cons_zero, set_cons_succ]
        refine wpAnyH_ready (rs := [6]) (by kernel_rfl) (by simp) ?_
        refine .cons rfl (fun K hK => ?_) .nil
        go_simp
        refine (HTr.out X24 HQ2 BX).mono ?_
        rintro e X25 ⟨V3, l3, QB, qd, rfl, hq2, hl2, HZ, hn3, b9⟩
        have oV3 : V3.oneCell' = true := qq_one hq2
        have hz16 := K16.lt
        have HN3 : V3.ownBlock ≠ some (X0.heap.size) := fun h9 => hn3.elim (fun e => by rw [e] at h9; have := HN2.out _ h9; omega) (fun e => by have := e _ h9; omega)
        clear hn3 HQ2
        have HQ2 := hq2
        clear hq2
        replace K3 := K3.below b9 K3.lt
        replace K4 := K4.below b9 K4.lt
        replace K11 := K11.below b9 K11.lt
        replace K12 := K12.below b9 K12.lt
        replace K16 := K16.below b9 K16.lt
        replace K15 := K15.below b9 K15.lt
        replace BX := thenB BX b9
        replace HQ1 := HQ1.below b9
        replace HW := HW.below b9
        replace TT := HT26.out _ BX
        clear b9
        refine hK.out _ _ ⟨K4, TT⟩ (fun hHeld => ?_)
        clear hK K
        try simp only [getElem_toArray, getElem_cons_zero, getElem_cons_succ, Act.put, setIfInBounds_toArray, set_cons_zero, set_cons_succ]
        refine wpAnyH_take (i := 7) (v := .tuple #[.agg #[.int .i64 rsn, .int .i64 rne, V3, .bool rop, .bool rem, .int .i64 (rack : Int), .int .i64 (rtak : Int)], .agg #[.int .i64 qk, .slice QB qn qd], .bool F, .bool a]) rfl (by kernel_rfl) (by kernel_rfl) (by kernel_rfl) (fun _ _ _ h => h) (.inl ⟨by first | rfl | go_simp, by intro u h; (try dsimp only at h); go_simp⟩) ‹_› ?_
        simp only [getElem_toArray, getElem_cons_zero, getElem_cons_succ, Act.put, setIfInBounds_toArray, set_cons_zero, set_cons_succ]
        refine wpAnyH_take (i := 8) (v := .agg #[.int .i64 rsn, .int .i64 rne, V3, .bool rop, .bool rem, .int .i64 (rack : Int), .int .i64 (rtak : Int)]) rfl (by kernel_rfl) (by kernel_rfl) (by kernel_rfl) (fun _ _ _ h => h) (.inl ⟨by first | rfl | go_simp, by intro u h; (try dsimp only at h); go_simp⟩) ‹_› ?_
        simp only [getElem_toArray, getElem_cons_zero, getElem_cons_succ, Act.put, setIfInBounds_toArray, set_cons_zero, set_cons_succ]
        refine wpAnyH_take (i := 9) (v := .agg #[.int .i64 qk, .slice QB qn qd]) rfl (by kernel_rfl) (by kernel_rfl) (by kernel_rfl) (fun _ _ _ h => h) (.inl ⟨by first | rfl | go_simp, by intro u h; (try dsimp only at h); go_simp⟩) ‹_› ?_
        simp only [getElem_toArray, getElem_cons_zero, getElem_cons_succ, Act.put, setIfInBounds_toArray, set_cons_zero, set_cons_succ]
        refine wpAnyH_take (i := 10) (v := .bool F) rfl (by kernel_rfl) (by kernel_rfl) (by kernel_rfl) (fun _ _ _ h => h) (.inl ⟨by first | rfl | go_simp, by intro u h; (try dsimp only at h); go_simp⟩) ‹_› ?_
        simp only [getElem_toArray, getElem_cons_zero, getElem_cons_succ, Act.put, setIfInBounds_toArray, set_cons_zero, set_cons_succ]
        refine wpAnyH_take (i := 11) (v := .bool a) rfl (by kernel_rfl) (by kernel_rfl) (by kernel_rfl) (fun _ _ _ h => h) (.inl ⟨by first | rfl | go_simp, by intro u h; (try dsimp only at h); go_simp⟩) ‹_› ?_
        simp only [getElem_toArray, getElem_cons_zero, getElem_cons_succ, Act.put, setIfInBounds_toArray, set_cons_zero, set_cons_succ]
        refine wpAnyH_ready (rs := [14]) (by kernel_rfl) (by simp) ?_
        refine .cons rfl (fun K hK => ?_) .nil
        have H9 : (#[.int .i64 rsn, .int .i64 rne, V3, .bool rop, .bool rem, .int .i64 (rack : Int), .int .i64 (rtak : Int)] : Array Value).all (·.oneCell') = true := by rw [← Array.all_toList]; simp only [List.all_cons, List.all_nil, oV3, Bool.and_true, Bool.and_self]; rfl
        refine Av.step_store_row rfl 43 (.tmp 15) (.tmp 103) rfl (X19.heap.size) #[.int .i64 rsn, .int .i64 rne, V3, .bool rop, .bool rem, .int .i64 (rack : Int), .int .i64 (rtak : Int)] rfl rfl 43 _ K15 (by kernel_rfl) rfl H9 ?_
        replace HQ1 := HQ1.step (stp_row K15 #[.int .i64 rsn, .int .i64 rne, V3, .bool rop, .bool rem, .int .i64 (rack : Int), .int .i64 (rtak : Int)]) (by decide) (by decide) (Nat.zero_le _)
        replace HQ2 := HQ2.step (stp_row K15 #[.int .i64 rsn, .int .i64 rne, V3, .bool rop, .bool rem, .int .i64 (rack : Int), .int .i64 (rtak : Int)]) (by decide) (by decide) (show w.heap.size ≤ X19.heap.size by omega)
        replace HW := HW.step (stp_row K15 #[.int .i64 rsn, .int .i64 rne, V3, .bool rop, .bool rem, .int .i64 (rack : Int), .int .i64 (rtak : Int)]) (by decide) (Nat.zero_le _)
        replace TT := HT26.out _ (show Below w.heap.size w (X25.setRow (X19.heap.size) #[.int .i64 rsn, .int .i64 rne, V3, .bool rop, .bool rem, .int .i64 (rack : Int), .int .i64 (rtak : Int)]) from below_setRow BX (by omega) _)
        replace HZ := HZ.step (stp_row K15 #[.int .i64 rsn, .int .i64 rne, V3, .bool rop, .bool rem, .int .i64 (rack : Int), .int .i64 (rtak : Int)]) (by decide) (show w.heap.size ≤ X19.heap.size by omega)
        replace K3 : Blk (X25.setRow (X19.heap.size) #[.int .i64 rsn, .int .i64 rne, V3, .bool rop, .bool rem, .int .i64 (rack : Int), .int .i64 (rtak : Int)]) (g) 43 #[.int .i64 ssn, .int .i64 sne, V, .bool sop, .bool sem, .int .i64 (sack : Int), .int .i64 (stak : Int)] := Av.bother_row K3 (by omega)
        replace K4 : Blk (X25.setRow (X19.heap.size) #[.int .i64 rsn, .int .i64 rne, V3, .bool rop, .bool rem, .int .i64 (rack : Int), .int .i64 (rtak : Int)]) (g + 1) 43 #[.int .i64 ssn, .int .i64 sne, V2, .bool sop, .bool sem, .int .i64 (sack : Int), .int .i64 (stak : Int)] := Av.bother_row K4 (by omega)
        replace K11 : Blk (X25.setRow (X19.heap.size) #[.int .i64 rsn, .int .i64 rne, V3, .bool rop, .bool rem, .int .i64 (rack : Int), .int .i64 (rtak : Int)]) (h) 43 #[.int .i64 rsn, .int .i64 rne, V1, .bool rop, .bool rem, .int .i64 (rack : Int), .int .i64 (rtak : Int)] := Av.bother_row K11 (by omega)
        replace K12 : Blk (X25.setRow (X19.heap.size) #[.int .i64 rsn, .int .i64 rne, V3, .bool rop, .bool rem, .int .i64 (rack : Int), .int .i64 (rtak : Int)]) (h + 1) 24 #[.int .i64 qk, .slice QA qn qc] := Av.bother_row K12 (by omega)
        replace K16 : Blk (X25.setRow (X19.heap.size) #[.int .i64 rsn, .int .i64 rne, V3, .bool rop, .bool rem, .int .i64 (rack : Int), .int .i64 (rtak : Int)]) (X0.heap.size) 24 #[.int .i64 0, .slice none 0 0] := Av.bother_row K16 (by omega)
        replace K15 : Blk (X25.setRow (X19.heap.size) #[.int .i64 rsn, .int .i64 rne, V3, .bool rop, .bool rem, .int .i64 (rack : Int), .int .i64 (rtak : Int)]) (X19.heap.size) 43 #[.int .i64 rsn, .int .i64 rne, V3, .bool rop, .bool rem, .int .i64 (rack : Int), .int .i64 (rtak : Int)] := Av.bset_row K15
        replace BX : Below w.heap.size w (X25.setRow (X19.heap.size) #[.int .i64 rsn, .int .i64 rne, V3, .bool rop, .bool rem, .int .i64 (rack : Int), .int .i64 (rtak : Int)]) := below_setRow BX (by omega) _
        clear H9
        generalize X25.setRow (X19.heap.size) #[.int .i64 rsn, .int .i64 rne, V3, .bool rop, .bool rem, .int .i64 (rack : Int), .int .i64 (rtak : Int)] = X26 at *
        refine hK.out _ _ ⟨K4, TT⟩ (fun hHeld => ?_)
        clear hK K
        try simp only [getElem_toArray, getElem_cons_zero, getElem_cons_succ, Act.put, setIfInBounds_toArray, set_cons_zero, set_cons_succ]
        refine wpAnyH_ready (rs := [15]) (by kernel_rfl) (by simp) ?_
        refine .cons rfl (fun K hK => ?_) .nil
        have H9 : (#[.int .i64 qk, .slice QB qn qd] : Array Value).all (·.oneCell') = true := by rw [← Array.all_toList]; rfl
        refine Av.step_store_row rfl 24 (.tmp 16) (.tmp 104) rfl (X0.heap.size) #[.int .i64 qk, .slice QB qn qd] rfl rfl 24 _ K16 (by kernel_rfl) rfl H9 ?_
        replace HQ1 := HQ1.step_ne (stp_row K16 #[.int .i64 qk, .slice QB qn qd]) (by decide) HN16 (Nat.zero_le _)
        replace HQ2 := HQ2.step_ne (stp_row K16 #[.int .i64 qk, .slice QB qn qd]) (by decide) HN3 (show w.heap.size ≤ X0.heap.size by omega)
        replace HW := HW.step (stp_row K16 #[.int .i64 qk, .slice QB qn qd]) (by decide) (Nat.zero_le _)
        replace TT := HT26.out _ (show Below w.heap.size w (X26.setRow (X0.heap.size) #[.int .i64 qk, .slice QB qn qd]) from below_setRow BX (by omega) _)
        replace HZ := HZ.step (stp_row K16 #[.int .i64 qk, .slice QB qn qd]) (by decide) (show w.heap.size ≤ X0.heap.size by omega)
        replace K3 : Blk (X26.setRow (X0.heap.size) #[.int .i64 qk, .slice QB qn qd]) (g) 43 #[.int .i64 ssn, .int .i64 sne, V, .bool sop, .bool sem, .int .i64 (sack : Int), .int .i64 (stak : Int)] := Av.bother_row K3 (by omega)
        replace K4 : Blk (X26.setRow (X0.heap.size) #[.int .i64 qk, .slice QB qn qd]) (g + 1) 43 #[.int .i64 ssn, .int .i64 sne, V2, .bool sop, .bool sem, .int .i64 (sack : Int), .int .i64 (stak : Int)] := Av.bother_row K4 (by omega)
        replace K11 : Blk (X26.setRow (X0.heap.size) #[.int .i64 qk, .slice QB qn qd]) (h) 43 #[.int .i64 rsn, .int .i64 rne, V1, .bool rop, .bool rem, .int .i64 (rack : Int), .int .i64 (rtak : Int)] := Av.bother_row K11 (by omega)
        replace K12 : Blk (X26.setRow (X0.heap.size) #[.int .i64 qk, .slice QB qn qd]) (h + 1) 24 #[.int .i64 qk, .slice QA qn qc] := Av.bother_row K12 (by omega)
        replace K16 : Blk (X26.setRow (X0.heap.size) #[.int .i64 qk, .slice QB qn qd]) (X0.heap.size) 24 #[.int .i64 qk, .slice QB qn qd] := Av.bset_row K16
        replace K15 : Blk (X26.setRow (X0.heap.size) #[.int .i64 qk, .slice QB qn qd]) (X19.heap.size) 43 #[.int .i64 rsn, .int .i64 rne, V3, .bool rop, .bool rem, .int .i64 (rack : Int), .int .i64 (rtak : Int)] := Av.bother_row K15 (by omega)
        replace BX : Below w.heap.size w (X26.setRow (X0.heap.size) #[.int .i64 qk, .slice QB qn qd]) := below_setRow BX (by omega) _
        clear H9
        generalize X26.setRow (X0.heap.size) #[.int .i64 qk, .slice QB qn qd] = X27 at *
        refine hK.out _ _ ⟨K4, TT⟩ (fun hHeld => ?_)
        clear hK K
        try simp only [getElem_toArray, getElem_cons_zero, getElem_cons_succ, Act.put, setIfInBounds_toArray, set_cons_zero, set_cons_succ]
        refine wpAnyH_take (i := 16) (v := .bool F) rfl (by kernel_rfl) (by kernel_rfl) (by kernel_rfl) (fun _ _ _ h => h) (.inl ⟨by first | rfl | go_simp, by intro u h; (try dsimp only at h); go_simp⟩) ‹_› ?_
        simp only [getElem_toArray, getElem_cons_zero, getElem_cons_succ, Act.put, setIfInBounds_toArray, set_cons_zero, set_cons_succ]
        refine wpAnyH_take (i := 17) (v := .bool a) rfl (by kernel_rfl) (by kernel_rfl) (by kernel_rfl) (fun _ _ _ h => h) (.inl ⟨by first | rfl | go_simp, by intro u h; (try dsimp only at h); go_simp⟩) ‹_› ?_
        simp only [getElem_toArray, getElem_cons_zero, getElem_cons_succ, Act.put, setIfInBounds_toArray, set_cons_zero, set_cons_succ]
        refine wpAnyH_done (by kernel_rfl) ?_ _
        clear hHeld
        go_wp2_with fail
        go_meet
        exact ⟨V3, l3, QB, qd, X19.heap.size, X0.heap.size, rfl, rfl, rfl, rfl, hzK15, hzK16, HQ1, HQ2, hl2, HW, HZ, K3, K4, K11, K12, K15, K16, BX⟩
    case rest =>
     obtain ⟨V3, l3, QB, qd, g15, g16, rfl, rfl, rfl, rfl, hz15, hz16, HQ1, HQ2, hl2, HW, HZ, K3, K4, K11, K12, K15, K16, BX⟩ := hcut
     clear HTr HT26 HN1 HN2 HYf
     have oV3 : V3.oneCell' = true := qq_one HQ2
     go_upto_region 27 with (fail)
     have K3' : Blk wc.drew (g) 43 #[.int .i64 ssn, .int .i64 sne, V, .bool sop, .bool sem, .int .i64 (sack : Int), .int .i64 (stak : Int)] := Mem.Blk.drew K3
     have K4' : Blk wc.drew (g + 1) 43 #[.int .i64 ssn, .int .i64 sne, V2, .bool sop, .bool sem, .int .i64 (sack : Int), .int .i64 (stak : Int)] := Mem.Blk.drew K4
     have K11' : Blk wc.drew (h) 43 #[.int .i64 rsn, .int .i64 rne, V1, .bool rop, .bool rem, .int .i64 (rack : Int), .int .i64 (rtak : Int)] := Mem.Blk.drew K11
     have K12' : Blk wc.drew (h + 1) 24 #[.int .i64 qk, .slice QA qn qc] := Mem.Blk.drew K12
     have K15' : Blk wc.drew (g15) 43 #[.int .i64 rsn, .int .i64 rne, V3, .bool rop, .bool rem, .int .i64 (rack : Int), .int .i64 (rtak : Int)] := Mem.Blk.drew K15
     have K16' : Blk wc.drew (g16) 24 #[.int .i64 qk, .slice QB qn qd] := Mem.Blk.drew K16
     refine wp_region_held_drew (S := (fun w' => Blk w' (g15) 43 #[.int .i64 rsn, .int .i64 rne, V3, .bool rop, .bool rem, .int .i64 (rack : Int), .int .i64 (rtak : Int)] ∧ Blk w' (h) 43 #[.int .i64 rsn, .int .i64 rne, V1, .bool rop, .bool rem, .int .i64 (rack : Int), .int .i64 (rtak : Int)])) (by kernel_rfl) ?_ (fun hHeld => ?_)
     ·
       exact ⟨K15', K11'⟩
     replace K3 := K3'
     clear K3'
     replace K4 := K4'
     clear K4'
     replace K11 := K11'
     clear K11'
     replace K12 := K12'
     clear K12'
     replace K15 := K15'
     clear K15'
     replace K16 := K16'
     clear K16'
     replace BX : Below w.heap.size w wc.drew := BX.drew
     replace HQ1 := (show QQ wc.drew 0 0 V1 l1 from HQ1.below ((Below.refl wc.heap.size wc).drew))
     replace HQ2 := (show QQ wc.drew 0 w.heap.size V3 l3 from HQ2.below ((Below.refl wc.heap.size wc).drew))
     replace HW := (show PP wc.drew 0 ⟨qk, QA, qc, qv⟩ from HW.below ((Below.refl wc.heap.size wc).drew))
     replace HZ := (show PP wc.drew w.heap.size ⟨qk, QB, qd, qv⟩ from HZ.below ((Below.refl wc.heap.size wc).drew))
     generalize wc.drew = Z0 at *
     refine wpAnyH_take (i := 0) (v := .agg #[.int .i64 rsn, .int .i64 rne, V1, .bool rop, .bool rem, .int .i64 (rack : Int), .int .i64 (rtak : Int)]) rfl (by kernel_rfl) (by kernel_rfl) (by kernel_rfl) (fun _ _ _ h => h) (Av.yields_part (by first | rfl | go_simp) _ _ rfl (h) 0 rfl #[.int .i64 rsn, .int .i64 rne, V1, .bool rop, .bool rem, .int .i64 (rack : Int), .int .i64 (rtak : Int)] _ 43 #[.int .i64 rsn, .int .i64 rne, V1, .bool rop, .bool rem, .int .i64 (rack : Int), .int .i64 (rtak : Int)] (fun w9 hSw => hSw.2) rfl Try.underlying43 rfl (by kernel_rfl)) ‹_› ?_
     simp only [getElem_toArray, getElem_cons_zero, getElem_cons_succ, Act.put, setIfInBounds_toArray, set_cons_zero, set_cons_succ]
     refine wpAnyH_take (i := 1) (v := .agg #[.int .i64 rsn, .int .i64 rne, V3, .bool rop, .bool rem, .int .i64 (rack : Int), .int .i64 (rtak : Int)]) rfl (by kernel_rfl) (by kernel_rfl) (by kernel_rfl) (fun _ _ _ h => h) (Av.yields_part (by first | rfl | go_simp) _ _ rfl (g15) 0 rfl #[.int .i64 rsn, .int .i64 rne, V3, .bool rop, .bool rem, .int .i64 (rack : Int), .int .i64 (rtak : Int)] _ 43 #[.int .i64 rsn, .int .i64 rne, V3, .bool rop, .bool rem, .int .i64 (rack : Int), .int .i64 (rtak : Int)] (fun w9 hSw => hSw.1) rfl Try.underlying43 rfl (by kernel_rfl)) ‹_› ?_
     simp only [getElem_toArray, getElem_cons_zero, getElem_cons_succ, Act.put, setIfInBounds_toArray, set_cons_zero, set_cons_succ]
     refine wpAnyH_ready (rs := [2]) (by kernel_rfl) (by simp) ?_
     refine .cons rfl (fun K hK => ?_) .nil
     have H9 : (#[.int .i64 rsn, .int .i64 rne, V1, .bool rop, .bool rem, .int .i64 (rack : Int), .int .i64 (rtak : Int)] : Array Value).all (·.oneCell') = true := by rw [← Array.all_toList]; simp only [List.all_cons, List.all_nil, oV1, Bool.and_true, Bool.and_self]; rfl
     refine Av.step_store_row rfl 43 (.tmp 3) (.tmp 107) rfl (g) #[.int .i64 rsn, .int .i64 rne, V1, .bool rop, .bool rem, .int .i64 (rack : Int), .int .i64 (rtak : Int)] rfl rfl 43 _ K3 (by kernel_rfl) rfl H9 ?_
     replace HQ1 := HQ1.step (stp_row K3 #[.int .i64 rsn, .int .i64 rne, V1, .bool rop, .bool rem, .int .i64 (rack : Int), .int .i64 (rtak : Int)]) (by decide) (by decide) (Nat.zero_le _)
     replace HQ2 := HQ2.step (stp_row K3 #[.int .i64 rsn, .int .i64 rne, V1, .bool rop, .bool rem, .int .i64 (rack : Int), .int .i64 (rtak : Int)]) (by decide) (by decide) (show w.heap.size ≤ g by omega)
     replace HW := HW.step (stp_row K3 #[.int .i64 rsn, .int .i64 rne, V1, .bool rop, .bool rem, .int .i64 (rack : Int), .int .i64 (rtak : Int)]) (by decide) (Nat.zero_le _)
     replace HZ := HZ.step (stp_row K3 #[.int .i64 rsn, .int .i64 rne, V1, .bool rop, .bool rem, .int .i64 (rack : Int), .int .i64 (rtak : Int)]) (by decide) (show w.heap.size ≤ g by omega)
     replace K3 : Blk (Z0.setRow (g) #[.int .i64 rsn, .int .i64 rne, V1, .bool rop, .bool rem, .int .i64 (rack : Int), .int .i64 (rtak : Int)]) (g) 43 #[.int .i64 rsn, .int .i64 rne, V1, .bool rop, .bool rem, .int .i64 (rack : Int), .int .i64 (rtak : Int)] := Av.bset_row K3
     replace K4 : Blk (Z0.setRow (g) #[.int .i64 rsn, .int .i64 rne, V1, .bool rop, .bool rem, .int .i64 (rack : Int), .int .i64 (rtak : Int)]) (g + 1) 43 #[.int .i64 ssn, .int .i64 sne, V2, .bool sop, .bool sem, .int .i64 (sack : Int), .int .i64 (stak : Int)] := Av.bother_row K4 (by omega)
     replace K11 : Blk (Z0.setRow (g) #[.int .i64 rsn, .int .i64 rne, V1, .bool rop, .bool rem, .int .i64 (rack : Int), .int .i64 (rtak : Int)]) (h) 43 #[.int .i64 rsn, .int .i64 rne, V1, .bool rop, .bool rem, .int .i64 (rack : Int), .int .i64 (rtak : Int)] := Av.bother_row K11 (by omega)
     replace K12 : Blk (Z0.setRow (g) #[.int .i64 rsn, .int .i64 rne, V1, .bool rop, .bool rem, .int .i64 (rack : Int), .int .i64 (rtak : Int)]) (h + 1) 24 #[.int .i64 qk, .slice QA qn qc] := Av.bother_row K12 (by omega)
     replace K15 : Blk (Z0.setRow (g) #[.int .i64 rsn, .int .i64 rne, V1, .bool rop, .bool rem, .int .i64 (rack : Int), .int .i64 (rtak : Int)]) (g15) 43 #[.int .i64 rsn, .int .i64 rne, V3, .bool rop, .bool rem, .int .i64 (rack : Int), .int .i64 (rtak : Int)] := Av.bother_row K15 (by omega)
     replace K16 : Blk (Z0.setRow (g) #[.int .i64 rsn, .int .i64 rne, V1, .bool rop, .bool rem, .int .i64 (rack : Int), .int .i64 (rtak : Int)]) (g16) 24 #[.int .i64 qk, .slice QB qn qd] := Av.bother_row K16 (by omega)
     replace BX : Below w.heap.size w (Z0.setRow (g) #[.int .i64 rsn, .int .i64 rne, V1, .bool rop, .bool rem, .int .i64 (rack : Int), .int .i64 (rtak : Int)]) := below_setRow BX (by omega) _
     clear H9
     generalize Z0.setRow (g) #[.int .i64 rsn, .int .i64 rne, V1, .bool rop, .bool rem, .int .i64 (rack : Int), .int .i64 (rtak : Int)] = Z1 at *
     refine hK.out _ _ ⟨K15, K11⟩ (fun hHeld => ?_)
     clear hK K
     try simp only [getElem_toArray, getElem_cons_zero, getElem_cons_succ, Act.put, setIfInBounds_toArray, set_cons_zero, set_cons_succ]
     refine wpAnyH_ready (rs := [3]) (by kernel_rfl) (by simp) ?_
     refine .cons rfl (fun K hK => ?_) .nil
     have H9 : (#[.int .i64 rsn, .int .i64 rne, V3, .bool rop, .bool rem, .int .i64 (rack : Int), .int .i64 (rtak : Int)] : Array Value).all (·.oneCell') = true := by rw [← Array.all_toList]; simp only [List.all_cons, List.all_nil, oV3, Bool.and_true, Bool.and_self]; rfl
     refine Av.step_store_row rfl 43 (.tmp 4) (.tmp 108) rfl (g + 1) #[.int .i64 rsn, .int .i64 rne, V3, .bool rop, .bool rem, .int .i64 (rack : Int), .int .i64 (rtak : Int)] rfl rfl 43 _ K4 (by kernel_rfl) rfl H9 ?_
     replace HQ1 := HQ1.step (stp_row K4 #[.int .i64 rsn, .int .i64 rne, V3, .bool rop, .bool rem, .int .i64 (rack : Int), .int .i64 (rtak : Int)]) (by decide) (by decide) (Nat.zero_le _)
     replace HQ2 := HQ2.step (stp_row K4 #[.int .i64 rsn, .int .i64 rne, V3, .bool rop, .bool rem, .int .i64 (rack : Int), .int .i64 (rtak : Int)]) (by decide) (by decide) (show w.heap.size ≤ g + 1 by omega)
     replace HW := HW.step (stp_row K4 #[.int .i64 rsn, .int .i64 rne, V3, .bool rop, .bool rem, .int .i64 (rack : Int), .int .i64 (rtak : Int)]) (by decide) (Nat.zero_le _)
     replace HZ := HZ.step (stp_row K4 #[.int .i64 rsn, .int .i64 rne, V3, .bool rop, .bool rem, .int .i64 (rack : Int), .int .i64 (rtak : Int)]) (by decide) (show w.heap.size ≤ g + 1 by omega)
     replace K3 : Blk (Z1.setRow (g + 1) #[.int .i64 rsn, .int .i64 rne, V3, .bool rop, .bool rem, .int .i64 (rack : Int), .int .i64 (rtak : Int)]) (g) 43 #[.int .i64 rsn, .int .i64 rne, V1, .bool rop, .bool rem, .int .i64 (rack : Int), .int .i64 (rtak : Int)] := Av.bother_row K3 (by omega)
     replace K4 : Blk (Z1.setRow (g + 1) #[.int .i64 rsn, .int .i64 rne, V3, .bool rop, .bool rem, .int .i64 (rack : Int), .int .i64 (rtak : Int)]) (g + 1) 43 #[.int .i64 rsn, .int .i64 rne, V3, .bool rop, .bool rem, .int .i64 (rack : Int), .int .i64 (rtak : Int)] := Av.bset_row K4
     replace K11 : Blk (Z1.setRow (g + 1) #[.int .i64 rsn, .int .i64 rne, V3, .bool rop, .bool rem, .int .i64 (rack : Int), .int .i64 (rtak : Int)]) (h) 43 #[.int .i64 rsn, .int .i64 rne, V1, .bool rop, .bool rem, .int .i64 (rack : Int), .int .i64 (rtak : Int)] := Av.bother_row K11 (by omega)
     replace K12 : Blk (Z1.setRow (g + 1) #[.int .i64 rsn, .int .i64 rne, V3, .bool rop, .bool rem, .int .i64 (rack : Int), .int .i64 (rtak : Int)]) (h + 1) 24 #[.int .i64 qk, .slice QA qn qc] := Av.bother_row K12 (by omega)
     replace K15 : Blk (Z1.setRow (g + 1) #[.int .i64 rsn, .int .i64 rne, V3, .bool rop, .bool rem, .int .i64 (rack : Int), .int .i64 (rtak : Int)]) (g15) 43 #[.int .i64 rsn, .int .i64 rne, V3, .bool rop, .bool rem, .int .i64 (rack : Int), .int .i64 (rtak : Int)] := Av.bother_row K15 (by omega)
     replace K16 : Blk (Z1.setRow (g + 1) #[.int .i64 rsn, .int .i64 rne, V3, .bool rop, .bool rem, .int .i64 (rack : Int), .int .i64 (rtak : Int)]) (g16) 24 #[.int .i64 qk, .slice QB qn qd] := Av.bother_row K16 (by omega)
     replace BX : Below w.heap.size w (Z1.setRow (g + 1) #[.int .i64 rsn, .int .i64 rne, V3, .bool rop, .bool rem, .int .i64 (rack : Int), .int .i64 (rtak : Int)]) := below_setRow BX (by omega) _
     clear H9
     generalize Z1.setRow (g + 1) #[.int .i64 rsn, .int .i64 rne, V3, .bool rop, .bool rem, .int .i64 (rack : Int), .int .i64 (rtak : Int)] = Z2 at *
     refine hK.out _ _ ⟨K15, K11⟩ (fun hHeld => ?_)
     clear hK K
     try simp only [getElem_toArray, getElem_cons_zero, getElem_cons_succ, Act.put, setIfInBounds_toArray, set_cons_zero, set_cons_succ]
     refine wpAnyH_done (by kernel_rfl) ?_ _
     clear hHeld
     have HSP : Hid (Calls Try.prog 35 #[.agg #[.int .i64 qk, .slice QA qn qc], .agg #[.int .i64 qk, .slice QB qn qd]] Z2 fun e w' => e = .returned (.bool true) ∧ Below Z2.heap.size Z2 w') := Lib.hid (samepk24_yes qk QA QB qn qc qd qv Z2 hqn HW.2.2.1 HW.gp.2.2.2 HZ.gp.2.2.2)
     clear HW HZ K11 K15
     have eF : (F != F) = false := by simp
     have ea : (a != a) = false := by simp
     go_upto_region 30 with (first | (refine wpList_load_row rfl 24 (.tmp 12) rfl (h + 1) rfl 24 _ (0, 0) _ K12 Try.underlying24 rfl (by kernel_rfl) ?_) | (refine wpList_load_row rfl 24 (.tmp 16) rfl (g16) rfl 24 _ (0, 0) _ K16 Try.underlying24 rfl (by kernel_rfl) ?_) | (go_at_call 35; refine HSP.out.mono ?_; rintro e Y6 ⟨rfl, b9⟩; replace K3 := K3.below b9 K3.lt; replace K4 := K4.below b9 K4.lt; replace HQ1 := HQ1.below b9; replace HQ2 := HQ2.below b9; replace BX := thenB BX b9; clear b9))
     clear HSP K12 K16
     have HSm : Hid (∀ X, QQ X 0 0 V1 l1 → QQ X 0 w.heap.size V3 l3 → Calls Try.prog 36 #[.agg #[.int .i64 rsn, .int .i64 rne, V1, .bool rop, .bool rem, .int .i64 (rack : Int), .int .i64 (rtak : Int)], .agg #[.int .i64 rsn, .int .i64 rne, V3, .bool rop, .bool rem, .int .i64 (rack : Int), .int .i64 (rtak : Int)]] X fun e w' => e = .returned (.bool true) ∧ Below X.heap.size X w') := Lib.hid fun X h1 h2 => same_yes ⟨rsn, rne, rq, rop, rem, rack, rtak⟩ V1 V3 l1 l3 X h1.qi h2.qi (hl1.out.trans hl2.out.symm) (by have h : l1.length = rq.length := (by rw [← hl1.out, List.length_map]); have := HJ.out.len; simp only at this; omega)
     obtain ⟨B, hB⟩ : ∃ B : Bool, ((rq.length : Int) == 0) = B := ⟨_, rfl⟩
     have HI1 : Hid (∀ X, Calls Try.prog 37 #[.agg #[.int .i64 rsn, .int .i64 rne, V1, .bool rop, .bool rem, .int .i64 (rack : Int), .int .i64 (rtak : Int)]] X fun e w' => e = .returned (.bool B) ∧ Below X.heap.size X w') := Lib.hid fun X => hB ▸ idle_of HQ1 hl1.out X
     have HI2 : Hid (∀ X, Calls Try.prog 38 #[.agg #[.int .i64 rsn, .int .i64 rne, V3, .bool rop, .bool rem, .int .i64 (rack : Int), .int .i64 (rtak : Int)]] X fun e w' => e = .returned (.bool B) ∧ Below X.heap.size X w') := Lib.hid fun X => hB ▸ ridle_of HQ2 hl2.out X
     clear hB
     have eB : (B != B) = false := by simp
     have K3' : Blk Y6.drew (g) 43 #[.int .i64 rsn, .int .i64 rne, V1, .bool rop, .bool rem, .int .i64 (rack : Int), .int .i64 (rtak : Int)] := Mem.Blk.drew K3
     have K4' : Blk Y6.drew (g + 1) 43 #[.int .i64 rsn, .int .i64 rne, V3, .bool rop, .bool rem, .int .i64 (rack : Int), .int .i64 (rtak : Int)] := Mem.Blk.drew K4
     refine wp_region_held_drew (S := (fun w' => Blk w' (g + 1) 43 #[.int .i64 rsn, .int .i64 rne, V3, .bool rop, .bool rem, .int .i64 (rack : Int), .int .i64 (rtak : Int)] ∧ Blk w' (g) 43 #[.int .i64 rsn, .int .i64 rne, V1, .bool rop, .bool rem, .int .i64 (rack : Int), .int .i64 (rtak : Int)])) (by kernel_rfl) ?_ (fun hHeld => ?_)
     ·
       exact ⟨K4', K3'⟩
     replace K3 := K3'
     clear K3'
     replace K4 := K4'
     clear K4'
     replace BX : Below w.heap.size w Y6.drew := BX.drew
     replace HQ1 := (show QQ Y6.drew 0 0 V1 l1 from HQ1.below ((Below.refl Y6.heap.size Y6).drew))
     replace HQ2 := (show QQ Y6.drew 0 w.heap.size V3 l3 from HQ2.below ((Below.refl Y6.heap.size Y6).drew))
     generalize Y6.drew = T0 at *
     refine wpAnyH_take (i := 0) (v := .agg #[.int .i64 rsn, .int .i64 rne, V1, .bool rop, .bool rem, .int .i64 (rack : Int), .int .i64 (rtak : Int)]) rfl (by kernel_rfl) (by kernel_rfl) (by kernel_rfl) (fun _ _ _ h => h) (Av.yields_part (by first | rfl | go_simp) _ _ rfl (g) 0 rfl #[.int .i64 rsn, .int .i64 rne, V1, .bool rop, .bool rem, .int .i64 (rack : Int), .int .i64 (rtak : Int)] _ 43 #[.int .i64 rsn, .int .i64 rne, V1, .bool rop, .bool rem, .int .i64 (rack : Int), .int .i64 (rtak : Int)] (fun w9 hSw => hSw.2) rfl Try.underlying43 rfl (by kernel_rfl)) ‹_› ?_
     simp only [getElem_toArray, getElem_cons_zero, getElem_cons_succ, Act.put, setIfInBounds_toArray, set_cons_zero, set_cons_succ]
     refine wpAnyH_take (i := 1) (v := .agg #[.int .i64 rsn, .int .i64 rne, V3, .bool rop, .bool rem, .int .i64 (rack : Int), .int .i64 (rtak : Int)]) rfl (by kernel_rfl) (by kernel_rfl) (by kernel_rfl) (fun _ _ _ h => h) (Av.yields_part (by first | rfl | go_simp) _ _ rfl (g + 1) 0 rfl #[.int .i64 rsn, .int .i64 rne, V3, .bool rop, .bool rem, .int .i64 (rack : Int), .int .i64 (rtak : Int)] _ 43 #[.int .i64 rsn, .int .i64 rne, V3, .bool rop, .bool rem, .int .i64 (rack : Int), .int .i64 (rtak : Int)] (fun w9 hSw => hSw.1) rfl Try.underlying43 rfl (by kernel_rfl)) ‹_› ?_
     simp only [getElem_toArray, getElem_cons_zero, getElem_cons_succ, Act.put, setIfInBounds_toArray, set_cons_zero, set_cons_succ]
     refine wpAnyH_ready (rs := [2]) (by kernel_rfl) (by simp) ?_
     refine .cons rfl (fun K hK => ?_) .nil
     go_simp
     refine (HSm.out T0 HQ1 HQ2).mono ?_
     rintro e T1 ⟨rfl, b9⟩
     replace K3 := K3.below b9 K3.lt
     replace K4 := K4.below b9 K4.lt
     replace BX := thenB BX b9
     replace HQ1 := HQ1.below b9
     replace HQ2 := HQ2.below b9
     clear b9
     refine hK.out _ _ ⟨K4, K3⟩ (fun hHeld => ?_)
     clear hK K
     try simp only [getElem_toArray, getElem_cons_zero, getElem_cons_succ, Act.put, setIfInBounds_toArray, set_cons_zero, set_cons_succ]
     refine wpAnyH_take (i := 3) (v := .bool false) rfl (by kernel_rfl) (by kernel_rfl) (by kernel_rfl) (fun _ _ _ h => h) (.inl ⟨by first | rfl | go_simp, by intro u h; (try dsimp only at h); go_simp⟩) ‹_› ?_
     simp only [getElem_toArray, getElem_cons_zero, getElem_cons_succ, Act.put, setIfInBounds_toArray, set_cons_zero, set_cons_succ]
     refine wpAnyH_take (i := 4) (v := .bool false) rfl (by kernel_rfl) (by kernel_rfl) (by kernel_rfl) (fun _ _ _ h => h) (.inl ⟨by first | rfl | go_simp, by intro u h; (try dsimp only at h); go_simp⟩) ‹_› ?_
     simp only [getElem_toArray, getElem_cons_zero, getElem_cons_succ, Act.put, setIfInBounds_toArray, set_cons_zero, set_cons_succ]
     refine wpAnyH_take (i := 5) (v := .agg #[.int .i64 rsn, .int .i64 rne, V1, .bool rop, .bool rem, .int .i64 (rack : Int), .int .i64 (rtak : Int)]) rfl (by kernel_rfl) (by kernel_rfl) (by kernel_rfl) (fun _ _ _ h => h) (Av.yields_part (by first | rfl | go_simp) _ _ rfl (g) 0 rfl #[.int .i64 rsn, .int .i64 rne, V1, .bool rop, .bool rem, .int .i64 (rack : Int), .int .i64 (rtak : Int)] _ 43 #[.int .i64 rsn, .int .i64 rne, V1, .bool rop, .bool rem, .int .i64 (rack : Int), .int .i64 (rtak : Int)] (fun w9 hSw => hSw.2) rfl Try.underlying43 rfl (by kernel_rfl)) ‹_› ?_
     simp only [getElem_toArray, getElem_cons_zero, getElem_cons_succ, Act.put, setIfInBounds_toArray, set_cons_zero, set_cons_succ]
     refine wpAnyH_take (i := 7) (v := .agg #[.int .i64 rsn, .int .i64 rne, V3, .bool rop, .bool rem, .int .i64 (rack : Int), .int .i64 (rtak : Int)]) rfl (by kernel_rfl) (by kernel_rfl) (by kernel_rfl) (fun _ _ _ h => h) (Av.yields_part (by first | rfl | go_simp) _ _ rfl (g + 1) 0 rfl #[.int .i64 rsn, .int .i64 rne, V3, .bool rop, .bool rem, .int .i64 (rack : Int), .int .i64 (rtak : Int)] _ 43 #[.int .i64 rsn, .int .i64 rne, V3, .bool rop, .bool rem, .int .i64 (rack : Int), .int .i64 (rtak : Int)] (fun w9 hSw => hSw.1) rfl Try.underlying43 rfl (by kernel_rfl)) ‹_› ?_
     simp only [getElem_toArray, getElem_cons_zero, getElem_cons_succ, Act.put, setIfInBounds_toArray, set_cons_zero, set_cons_succ]
     refine wpAnyH_ready (rs := [6]) (by kernel_rfl) (by simp) ?_
     refine .cons rfl (fun K hK => ?_) .nil
     go_simp
     refine (HI1.out T1).mono ?_
     rintro e T2 ⟨rfl, b9⟩
     replace K3 := K3.below b9 K3.lt
     replace K4 := K4.below b9 K4.lt
     replace BX := thenB BX b9
     replace HQ1 := HQ1.below b9
     replace HQ2 := HQ2.below b9
     clear b9
     refine hK.out _ _ ⟨K4, K3⟩ (fun hHeld => ?_)
     clear hK K
     try simp only [getElem_toArray, getElem_cons_zero, getElem_cons_succ, Act.put, setIfInBounds_toArray, set_cons_zero, set_cons_succ]
     refine wpAnyH_ready (rs := [8]) (by kernel_rfl) (by simp) ?_
     refine .cons rfl (fun K hK => ?_) .nil
     go_simp
     refine (HI2.out T2).mono ?_
     rintro e T3 ⟨rfl, b9⟩
     replace K3 := K3.below b9 K3.lt
     replace K4 := K4.below b9 K4.lt
     replace BX := thenB BX b9
     replace HQ1 := HQ1.below b9
     replace HQ2 := HQ2.below b9
     clear b9
     refine hK.out _ _ ⟨K4, K3⟩ (fun hHeld => ?_)
     clear hK K
     try simp only [getElem_toArray, getElem_cons_zero, getElem_cons_succ, Act.put, setIfInBounds_toArray, set_cons_zero, set_cons_succ]
     refine wpAnyH_take (i := 9) (v := .bool false) rfl (by kernel_rfl) (by kernel_rfl) (by kernel_rfl) (fun _ _ _ h => h) (.inl ⟨by first | rfl | go_simp, by intro u h; (try dsimp only at h); go_simp⟩) ‹_› ?_
     simp only [getElem_toArray, getElem_cons_zero, getElem_cons_succ, Act.put, setIfInBounds_toArray, set_cons_zero, set_cons_succ]
     refine wpAnyH_take (i := 10) (v := .bool false) rfl (by kernel_rfl) (by kernel_rfl) (by kernel_rfl) (fun _ _ _ h => h) (.inl ⟨by first | rfl | go_simp, by intro u h; (try dsimp only at h); go_simp⟩) ‹_› ?_
     simp only [getElem_toArray, getElem_cons_zero, getElem_cons_succ, Act.put, setIfInBounds_toArray, set_cons_zero, set_cons_succ]
     refine wpAnyH_done (by kernel_rfl) ?_ _
     clear hHeld HSm HI1 HI2
     go_wp2_with fail
     go_roundw
     case rel => exact ⟨j + 1, rsn, rne, rq, rop, rem, rack, rtak, V1, V3, l1, l3, by omega, by go_num, HJ.out, hl1.out, hl2.out, HQ1, HQ2, K3, K4, BX⟩
     case measure => simp [intOf]; omega
   ·
    have gd0 : (d == 0) = false := by simpa using d0
    have gd1 : (d == 1) = false := by simpa using d1
    have gd2 : (d == 2) = false := by simpa using d2
    have HJ : Hid (Jn ⟨ssn, sne, sq, sop, sem, sack, stak⟩ (j + 1)) := Lib.hid (jn_more HJs)
    have hl1 := Lib.hid hlm
    have hl2 := Lib.hid hlm2
    clear d0 d1 d2 HT15 HT26 hlm hlm2 HX K6 HYf
    go_upto_region 30 with (fail)
    clear u0 gd0 gd1 gd2 HT0
    have HSm : Hid (∀ X, QQ X 0 0 V l → QQ X 0 w.heap.size V2 l2 → Calls Try.prog 36 #[.agg #[.int .i64 ssn, .int .i64 sne, V, .bool sop, .bool sem, .int .i64 (sack : Int), .int .i64 (stak : Int)], .agg #[.int .i64 ssn, .int .i64 sne, V2, .bool sop, .bool sem, .int .i64 (sack : Int), .int .i64 (stak : Int)]] X fun e w' => e = .returned (.bool true) ∧ Below X.heap.size X w') := Lib.hid fun X h1 h2 => same_yes ⟨ssn, sne, sq, sop, sem, sack, stak⟩ V V2 l l2 X h1.qi h2.qi (hl1.out.trans hl2.out.symm) (by have h : l.length = sq.length := (by rw [← hl1.out, List.length_map]); have := HJ.out.len; simp only at this; omega)
    obtain ⟨B, hB⟩ : ∃ B : Bool, ((sq.length : Int) == 0) = B := ⟨_, rfl⟩
    have HI1 : Hid (∀ X, Calls Try.prog 37 #[.agg #[.int .i64 ssn, .int .i64 sne, V, .bool sop, .bool sem, .int .i64 (sack : Int), .int .i64 (stak : Int)]] X fun e w' => e = .returned (.bool B) ∧ Below X.heap.size X w') := Lib.hid fun X => hB ▸ idle_of HQ1 hl1.out X
    have HI2 : Hid (∀ X, Calls Try.prog 38 #[.agg #[.int .i64 ssn, .int .i64 sne, V2, .bool sop, .bool sem, .int .i64 (sack : Int), .int .i64 (stak : Int)]] X fun e w' => e = .returned (.bool B) ∧ Below X.heap.size X w') := Lib.hid fun X => hB ▸ ridle_of HQ2 hl2.out X
    clear hB
    have eB : (B != B) = false := by simp
    have K3' : Blk Y.drew (g) 43 #[.int .i64 ssn, .int .i64 sne, V, .bool sop, .bool sem, .int .i64 (sack : Int), .int .i64 (stak : Int)] := Mem.Blk.drew K3
    have K4' : Blk Y.drew (g + 1) 43 #[.int .i64 ssn, .int .i64 sne, V2, .bool sop, .bool sem, .int .i64 (sack : Int), .int .i64 (stak : Int)] := Mem.Blk.drew K4
    refine wp_region_held_drew (S := (fun w' => Blk w' (g + 1) 43 #[.int .i64 ssn, .int .i64 sne, V2, .bool sop, .bool sem, .int .i64 (sack : Int), .int .i64 (stak : Int)] ∧ Blk w' (g) 43 #[.int .i64 ssn, .int .i64 sne, V, .bool sop, .bool sem, .int .i64 (sack : Int), .int .i64 (stak : Int)])) (by kernel_rfl) ?_ (fun hHeld => ?_)
    ·
      exact ⟨K4', K3'⟩
    replace K3 := K3'
    clear K3'
    replace K4 := K4'
    clear K4'
    replace BX : Below w.heap.size w Y.drew := BX.drew
    replace HQ1 := (show QQ Y.drew 0 0 V l from HQ1.below ((Below.refl Y.heap.size Y).drew))
    replace HQ2 := (show QQ Y.drew 0 w.heap.size V2 l2 from HQ2.below ((Below.refl Y.heap.size Y).drew))
    generalize Y.drew = T0 at *
    refine wpAnyH_take (i := 0) (v := .agg #[.int .i64 ssn, .int .i64 sne, V, .bool sop, .bool sem, .int .i64 (sack : Int), .int .i64 (stak : Int)]) rfl (by kernel_rfl) (by kernel_rfl) (by kernel_rfl) (fun _ _ _ h => h) (Av.yields_part (by first | rfl | go_simp) _ _ rfl (g) 0 rfl #[.int .i64 ssn, .int .i64 sne, V, .bool sop, .bool sem, .int .i64 (sack : Int), .int .i64 (stak : Int)] _ 43 #[.int .i64 ssn, .int .i64 sne, V, .bool sop, .bool sem, .int .i64 (sack : Int), .int .i64 (stak : Int)] (fun w9 hSw => hSw.2) rfl Try.underlying43 rfl (by kernel_rfl)) ‹_› ?_
    simp only [getElem_toArray, getElem_cons_zero, getElem_cons_succ, Act.put, setIfInBounds_toArray, set_cons_zero, set_cons_succ]
    refine wpAnyH_take (i := 1) (v := .agg #[.int .i64 ssn, .int .i64 sne, V2, .bool sop, .bool sem, .int .i64 (sack : Int), .int .i64 (stak : Int)]) rfl (by kernel_rfl) (by kernel_rfl) (by kernel_rfl) (fun _ _ _ h => h) (Av.yields_part (by first | rfl | go_simp) _ _ rfl (g + 1) 0 rfl #[.int .i64 ssn, .int .i64 sne, V2, .bool sop, .bool sem, .int .i64 (sack : Int), .int .i64 (stak : Int)] _ 43 #[.int .i64 ssn, .int .i64 sne, V2, .bool sop, .bool sem, .int .i64 (sack : Int), .int .i64 (stak : Int)] (fun w9 hSw => hSw.1) rfl Try.underlying43 rfl (by kernel_rfl)) ‹_› ?_
    simp only [getElem_toArray, getElem_cons_zero, getElem_cons_succ, Act.put, setIfInBounds_toArray, set_cons_zero, set_cons_succ]
    refine wpAnyH_ready (rs := [2]) (by kernel_rfl) (by simp) ?_
    refine .cons rfl (fun K hK => ?_) .nil
    go_simp
    refine (HSm.out T0 HQ1 HQ2).mono ?_
    rintro e T1 ⟨rfl, b9⟩
    replace K3 := K3.below b9 K3.lt
    replace K4 := K4.below b9 K4.lt
    replace BX := thenB BX b9
    replace HQ1 := HQ1.below b9
    replace HQ2 := HQ2.below b9
    clear b9
    refine hK.out _ _ ⟨K4, K3⟩ (fun hHeld => ?_)
    clear hK K
    try simp only [getElem_toArray, getElem_cons_zero, getElem_cons_succ, Act.put, setIfInBounds_toArray, set_cons_zero, set_cons_succ]
    refine wpAnyH_take (i := 3) (v := .bool false) rfl (by kernel_rfl) (by kernel_rfl) (by kernel_rfl) (fun _ _ _ h => h) (.inl ⟨by first | rfl | go_simp, by intro u h; (try dsimp only at h); go_simp⟩) ‹_› ?_
    simp only [getElem_toArray, getElem_cons_zero, getElem_cons_succ, Act.put, setIfInBounds_toArray, set_cons_zero, set_cons_succ]
    refine wpAnyH_take (i := 4) (v := .bool false) rfl (by kernel_rfl) (by kernel_rfl) (by kernel_rfl) (fun _ _ _ h => h) (.inl ⟨by first | rfl | go_simp, by intro u h; (try dsimp only at h); go_simp⟩) ‹_› ?_
    simp only [getElem_toArray, getElem_cons_zero, getElem_cons_succ, Act.put, setIfInBounds_toArray, set_cons_zero, set_cons_succ]
    refine wpAnyH_take (i := 5) (v := .agg #[.int .i64 ssn, .int .i64 sne, V, .bool sop, .bool sem, .int .i64 (sack : Int), .int .i64 (stak : Int)]) rfl (by kernel_rfl) (by kernel_rfl) (by kernel_rfl) (fun _ _ _ h => h) (Av.yields_part (by first | rfl | go_simp) _ _ rfl (g) 0 rfl #[.int .i64 ssn, .int .i64 sne, V, .bool sop, .bool sem, .int .i64 (sack : Int), .int .i64 (stak : Int)] _ 43 #[.int .i64 ssn, .int .i64 sne, V, .bool sop, .bool sem, .int .i64 (sack : Int), .int .i64 (stak : Int)] (fun w9 hSw => hSw.2) rfl Try.underlying43 rfl (by kernel_rfl)) ‹_› ?_
    simp only [getElem_toArray, getElem_cons_zero, getElem_cons_succ, Act.put, setIfInBounds_toArray, set_cons_zero, set_cons_succ]
    refine wpAnyH_take (i := 7) (v := .agg #[.int .i64 ssn, .int .i64 sne, V2, .bool sop, .bool sem, .int .i64 (sack : Int), .int .i64 (stak : Int)]) rfl (by kernel_rfl) (by kernel_rfl) (by kernel_rfl) (fun _ _ _ h => h) (Av.yields_part (by first | rfl | go_simp) _ _ rfl (g + 1) 0 rfl #[.int .i64 ssn, .int .i64 sne, V2, .bool sop, .bool sem, .int .i64 (sack : Int), .int .i64 (stak : Int)] _ 43 #[.int .i64 ssn, .int .i64 sne, V2, .bool sop, .bool sem, .int .i64 (sack : Int), .int .i64 (stak : Int)] (fun w9 hSw => hSw.1) rfl Try.underlying43 rfl (by kernel_rfl)) ‹_› ?_
    simp only [getElem_toArray, getElem_cons_zero, getElem_cons_succ, Act.put, setIfInBounds_toArray, set_cons_zero, set_cons_succ]
    refine wpAnyH_ready (rs := [6]) (by kernel_rfl) (by simp) ?_
    refine .cons rfl (fun K hK => ?_) .nil
    go_simp
    refine (HI1.out T1).mono ?_
    rintro e T2 ⟨rfl, b9⟩
    replace K3 := K3.below b9 K3.lt
    replace K4 := K4.below b9 K4.lt
    replace BX := thenB BX b9
    replace HQ1 := HQ1.below b9
    replace HQ2 := HQ2.below b9
    clear b9
    refine hK.out _ _ ⟨K4, K3⟩ (fun hHeld => ?_)
    clear hK K
    try simp only [getElem_toArray, getElem_cons_zero, getElem_cons_succ, Act.put, setIfInBounds_toArray, set_cons_zero, set_cons_succ]
    refine wpAnyH_ready (rs := [8]) (by kernel_rfl) (by simp) ?_
    refine .cons rfl (fun K hK => ?_) .nil
    go_simp
    refine (HI2.out T2).mono ?_
    rintro e T3 ⟨rfl, b9⟩
    replace K3 := K3.below b9 K3.lt
    replace K4 := K4.below b9 K4.lt
    replace BX := thenB BX b9
    replace HQ1 := HQ1.below b9
    replace HQ2 := HQ2.below b9
    clear b9
    refine hK.out _ _ ⟨K4, K3⟩ (fun hHeld => ?_)
    clear hK K
    try simp only [getElem_toArray, getElem_cons_zero, getElem_cons_succ, Act.put, setIfInBounds_toArray, set_cons_zero, set_cons_succ]
    refine wpAnyH_take (i := 9) (v := .bool false) rfl (by kernel_rfl) (by kernel_rfl) (by kernel_rfl) (fun _ _ _ h => h) (.inl ⟨by first | rfl | go_simp, by intro u h; (try dsimp only at h); go_simp⟩) ‹_› ?_
    simp only [getElem_toArray, getElem_cons_zero, getElem_cons_succ, Act.put, setIfInBounds_toArray, set_cons_zero, set_cons_succ]
    refine wpAnyH_take (i := 10) (v := .bool false) rfl (by kernel_rfl) (by kernel_rfl) (by kernel_rfl) (fun _ _ _ h => h) (.inl ⟨by first | rfl | go_simp, by intro u h; (try dsimp only at h); go_simp⟩) ‹_› ?_
    simp only [getElem_toArray, getElem_cons_zero, getElem_cons_succ, Act.put, setIfInBounds_toArray, set_cons_zero, set_cons_succ]
    refine wpAnyH_done (by kernel_rfl) ?_ _
    clear hHeld HSm HI1 HI2
    go_wp2_with fail
    go_roundw
    case rel => exact ⟨j + 1, ssn, sne, sq, sop, sem, sack, stak, V, V2, l, l2, by omega, by go_num, HJ.out, hl1.out, hl2.out, HQ1, HQ2, K3, K4, BX⟩
    case measure => simp [intOf]; omega
  ·
   obtain rfl : j = n := by omega
   have g2 : ¬ ((j : Int) < (j : Int)) := by omega
   go_wp2_with fail
   go_ret
   exact ⟨rfl, BX⟩
end Go.Proofs.Ytbnfjielnamepaa.Arq
