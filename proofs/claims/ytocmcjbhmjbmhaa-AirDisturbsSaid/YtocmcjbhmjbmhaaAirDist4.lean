/- What happens to a transmission on its way to a device: the layer's answer, continued. -/
import Derived.Test.YtocmcjbhmjbmhaaAirDist3
import Derived.Test.YtocmcjbhmjbmhaaAirRCheck
import Derived.Laws.EntriesVeiled
set_option linter.unusedVariables false
set_option linter.unusedSimpArgs false
namespace Go.Proofs.Ytocmcjbhmjbmhaa.Air
open Go.RowKit Mem Rw Base

def anyI {α : Type} (P : Nat → α → Bool) : List α → Nat → Bool
  | [], _ => false
  | x :: r, j => P j x || anyI P r (j + 1)
theorem anyI_at {α : Type} {P : Nat → α → Bool} {l : List α} {j : Nat} {x : α} {r : Bool} (h : l[j]? = some x) (he : anyI P (l.drop j) j = r) : (P j x = true → r = true) ∧ (P j x = false → anyI P (l.drop (j + 1)) (j + 1) = r) := by
  rw [drop_at h, anyI] at he
  exact ⟨fun hp => by rw [hp] at he; exact he.symm, fun hp => by rw [hp, Bool.false_or] at he; exact he⟩
theorem anyI_end {α : Type} {P : Nat → α → Bool} {l : List α} {j : Nat} {r : Bool} (h : l.length ≤ j) (he : anyI P (l.drop j) j = r) : r = false := by
  rw [List.drop_eq_nil_of_le h] at he; exact he.symm
theorem any_end {α : Type} {P : α → Bool} {l : List α} {j : Nat} {r : Bool} (h : l.length ≤ j) (he : (l.drop j).any P = r) : r = false := by
  rw [List.drop_eq_nil_of_le h] at he; exact he.symm
/-- What happens to the transmission t, which has the place i. -/
def disT (m : Med) (ts : List Tr) (t : Tr) (i : Nat) (to : Int) : Int :=
  if inR m.links t.frm to then (if m.loss.any (lostB t to) then 2 else if m.jams.any (jamB t) then 3 else if anyI (colB m.links t i to) ts 0 then 4 else 1) else 0
def disZ (m : Med) (ts : List Tr) (i to : Int) : Int :=
  if i < 0 then 0 else match ts[i.toNat]? with
    | none => 0
    | some t => disT m ts t i.toNat to
theorem col_eq (ls : List (Int × Int)) (t u : Tr) (i j : Nat) (to : Int) : colc (decide (u.st < t.st + 8 * ((t.bs.length : Int) + 10)) && decide (t.st < u.st + 8 * ((u.bs.length : Int) + 10))) (decide (u.ch = t.ch) && (decide (u.st < t.st + 8 * ((t.bs.length : Int) + 10)) && decide (t.st < u.st + 8 * ((u.bs.length : Int) + 10)))) (inR ls u.frm to) j i u.frm to = colB ls t i to j u := by
  have e : (((j : Int)) != (i : Int)) = decide (j ≠ i) := by
    by_cases h : j = i
    · subst h; simp
    · rw [decide_eq_true h]; simp; omega
  unfold colc colB overB meetB endT
  rw [e]
theorem dis_cases {qr ql qj qc : Bool} {r : Int} (h : (if qr then (if ql then (2 : Int) else if qj then 3 else if qc then 4 else 1) else 0) = r) :
    (qr = false → r = 0) ∧ (qr = true → (ql = true → r = 2) ∧ (ql = false → (qj = true → r = 3) ∧ (qj = false → (qc = true → r = 4) ∧ (qc = false → r = 1)))) := by
  subst h
  cases qr <;> cases ql <;> cases qj <;> cases qc <;> simp
set_option maxHeartbeats 8000000 in
theorem dist_in (M : Med) (P : Pl) (L : Option Addr) (kc : Nat) (l : List Tx) (i : Nat) (x : Tx) (to : Int) (w : World) (hx : l[i]? = some x) (hk : l.length ≤ 8796093022208) (hM : MedAt w w.heap.size P M) (hr : TxsAt w w.heap.size L l) (hnear : ∀ y ∈ l, Near y.tr) :
    Calls Try.prog 24 #[mv M P, .slice L l.length kc, .int .i64 (i : Int), .int .i64 to] w fun e w' => e = .returned (.int .i64 (disT M (l.map Tx.tr) x.tr i to)) ∧ Below w.heap.size w w' := by
  obtain ⟨D, links, jams, loss⟩ := M
  obtain ⟨A, c, J, cj, S, cs⟩ := P
  obtain ⟨m1, m2, m3, m4, m5, m6⟩ := hM
  simp only at m1 m2 m3 m4 m5 m6
  unfold mv
  simp only
  have hil : i < l.length := (List.getElem?_eq_some_iff.1 hx).1
  have hxm : x ∈ l := List.mem_of_getElem? hx
  have hxo := (hr.2 x hxm).2.1
  have hxn := hnear x hxm
  have HN := Lib.hid (fun j (h : j < l.length) => has (l := l) rfl h)
  have HM : Hid (∀ (j : Nat) y, l[j]? = some y → (l.map Tx.tr)[j]? = some y.tr) := Lib.hid fun j y h => by rw [List.getElem?_map, h]; rfl
  have HO : Hid (∀ w', Below w.heap.size w w' → _) := Lib.hid fun w' hb => tx_cells (hr.below hb) (by omega)
  have HOw : Hid (∀ y ∈ l, y.bs.length ≤ 140737488351232 ∧ Near y.tr) := Lib.hid fun y hy => ⟨(hr.2 y hy).2.1, hnear y hy⟩
  have HE : Hid (∀ j, l.length ≤ j → (l.map Tx.tr).length ≤ j) := Lib.hid fun j h => by rw [List.length_map]; exact h
  generalize hL : l.map Tx.tr = LL at *
  have HSN := Lib.hid (fun j (h : j < loss.length) => has (l := loss) rfl h)
  have HSO : Hid (∀ w', Below w.heap.size w w' → 0 < loss.length → ∃ b off, S = some ⟨b, off, none⟩ ∧ ∀ (j : Nat) p, loss[j]? = some p → TwoAt w' b (off + j * 2) p.1 p.2) := Lib.hid fun w' hb h0 => by
    obtain ⟨b, off, e, _, hc⟩ := ListAt.open_ (CellsAt.below m3 hb) sizP (by decide) (by omega)
    exact ⟨b, off, e, fun j p hj => ⟨hc j p hj 0 _ rfl, hc j p hj 1 _ rfl⟩⟩
  have HJN := Lib.hid (fun j (h : j < jams.length) => has (l := jams) rfl h)
  have HJO : Hid (∀ w', Below w.heap.size w w' → 0 < jams.length → ∃ b off, J = some ⟨b, off, none⟩ ∧ ∀ (j : Nat) p, jams[j]? = some p → w'.cell? ⟨b, off + j * 3, none⟩ = some (.int .i64 p.ch) ∧ w'.cell? ⟨b, off + j * 3 + 1, none⟩ = some (.int .i64 p.st) ∧ w'.cell? ⟨b, off + j * 3 + 2, none⟩ = some (.int .i64 p.en)) := Lib.hid fun w' hb h0 => by
    obtain ⟨b, off, e, _, hc⟩ := ListAt.open_ (CellsAt.below m2 hb) sizJ (by decide) (by omega)
    exact ⟨b, off, e, fun j p hj => ⟨hc j p hj 0 _ rfl, hc j p hj 1 _ rfl, hc j p hj 2 _ rfl⟩⟩
  obtain ⟨p0, p1, p2, p3, PA, pc, bs⟩ := x
  simp only at hxo hxn
  have ht : Tx.tr ⟨p0, p1, p2, p3, PA, pc, bs⟩ = ⟨p0, p1, p2, p3, bs⟩ := rfl
  rw [ht] at hxn ⊢
  clear ht
  have HX := Lib.hid hx
  have hnr : -1099511627776 ≤ p3 ∧ p3 ≤ 1099511627776 := hxn
  have HR := Lib.hid (fun (w' : World) (bb : Below w.heap.size w w') => inrange_any D p1 to A J S links.length c jams.length cj loss.length cs links w' rfl m4 (CellsAt.later m1 bb))
  have HC := Lib.hid (fun (w' : World) (bb : Below w.heap.size w w') => CellsAt.later m1 bb)
  have HD : disT ⟨D, links, jams, loss⟩ LL ⟨p0, p1, p2, p3, bs⟩ i to = if inR links p1 to then (if loss.any (lostB ⟨p0, p1, p2, p3, bs⟩ to) then 2 else if jams.any (jamB ⟨p0, p1, p2, p3, bs⟩) then 3 else if anyI (colB links ⟨p0, p1, p2, p3, bs⟩ i to) LL 0 then 4 else 1) else 0 := rfl
  rw [HD]
  clear HD
  generalize hqr : inR links p1 to = qr at *
  have ql0 : Hid ((loss.drop 0).any (lostB ⟨p0, p1, p2, p3, bs⟩ to) = loss.any (lostB ⟨p0, p1, p2, p3, bs⟩ to)) := Lib.hid (by rw [List.drop_zero])
  have qj0 : Hid ((jams.drop 0).any (jamB ⟨p0, p1, p2, p3, bs⟩) = jams.any (jamB ⟨p0, p1, p2, p3, bs⟩)) := Lib.hid (by rw [List.drop_zero])
  have qc0 : Hid (anyI (colB links ⟨p0, p1, p2, p3, bs⟩ i to) (LL.drop 0) 0 = anyI (colB links ⟨p0, p1, p2, p3, bs⟩ i to) LL 0) := Lib.hid (by rw [List.drop_zero])
  generalize loss.any (lostB ⟨p0, p1, p2, p3, bs⟩ to) = ql at *
  generalize jams.any (jamB ⟨p0, p1, p2, p3, bs⟩) = qj at *
  generalize anyI (colB links ⟨p0, p1, p2, p3, bs⟩ i to) LL 0 = qc at *
  generalize hr0 : (if qr then (if ql then (2 : Int) else if qj then 3 else if qc then 4 else 1) else 0) = r
  have HRR := Lib.hid (dis_cases hr0)
  clear hr0
  generalize hn : links.length = n at *
  generalize hnj : jams.length = nj at *
  generalize hns : loss.length = ns at *
  generalize hkk : l.length = k at *
  generalize hmm : bs.length = m at *
  have HLn : Hid (bs.length = m) := Lib.hid hmm
  have HES : Hid (∀ j, ns ≤ j → loss.length ≤ j) := Lib.hid fun j h => by omega
  have HEJ : Hid (∀ j, nj ≤ j → jams.length ≤ j) := Lib.hid fun j h => by omega
  have HLk : Hid (links.length = n) := Lib.hid hn
  have B0 : Below w.heap.size w ((((w.alloc (.cells #[.int .i64 D, .slice A n c, .slice J nj cj, .slice S ns cs] 34)).alloc (.cells #[.slice L k kc] 35)).alloc (.cells #[.int .i64 (i : Int)] 3)).alloc (.cells #[.int .i64 to] 3)) := (((Below.refl _ w).alloc (Nat.le_refl _) _).alloc (by simp) _).alloc (by simp; omega) _ |>.alloc (by simp; omega) _
  have E0 : Four ((((w.alloc (.cells #[.int .i64 D, .slice A n c, .slice J nj cj, .slice S ns cs] 34)).alloc (.cells #[.slice L k kc] 35)).alloc (.cells #[.int .i64 (i : Int)] 3)).alloc (.cells #[.int .i64 to] 3)) w.heap.size D (.slice A n c) (.slice J nj cj) (.slice S ns cs) := four_of ((((Blk.fresh w 34 #[.int .i64 D, .slice A n c, .slice J nj cj, .slice S ns cs]).alloc _).alloc _).alloc _)
  have E1 : ((((w.alloc (.cells #[.int .i64 D, .slice A n c, .slice J nj cj, .slice S ns cs] 34)).alloc (.cells #[.slice L k kc] 35)).alloc (.cells #[.int .i64 (i : Int)] 3)).alloc (.cells #[.int .i64 to] 3)).cell? ⟨w.heap.size + 1, 0, none⟩ = some (.slice L k kc) := by
    have := (((Blk.fresh (w.alloc (.cells #[.int .i64 D, .slice A n c, .slice J nj cj, .slice S ns cs] 34)) 35 #[.slice L k kc]).alloc (.cells #[.int .i64 (i : Int)] 3)).alloc (.cells #[.int .i64 to] 3)).cell 0
    simpa using this
  have E2 : ((((w.alloc (.cells #[.int .i64 D, .slice A n c, .slice J nj cj, .slice S ns cs] 34)).alloc (.cells #[.slice L k kc] 35)).alloc (.cells #[.int .i64 (i : Int)] 3)).alloc (.cells #[.int .i64 to] 3)).cell? ⟨w.heap.size + 1 + 1, 0, none⟩ = some (.int .i64 (i : Int)) := by
    have := ((Blk.fresh ((w.alloc (.cells #[.int .i64 D, .slice A n c, .slice J nj cj, .slice S ns cs] 34)).alloc (.cells #[.slice L k kc] 35)) 3 #[.int .i64 (i : Int)]).alloc (.cells #[.int .i64 to] 3)).cell 0
    simpa using this
  have E3 : ((((w.alloc (.cells #[.int .i64 D, .slice A n c, .slice J nj cj, .slice S ns cs] 34)).alloc (.cells #[.slice L k kc] 35)).alloc (.cells #[.int .i64 (i : Int)] 3)).alloc (.cells #[.int .i64 to] 3)).cell? ⟨w.heap.size + 1 + 1 + 1, 0, none⟩ = some (.int .i64 to) := by
    have := (Blk.fresh (((w.alloc (.cells #[.int .i64 D, .slice A n c, .slice J nj cj, .slice S ns cs] 34)).alloc (.cells #[.slice L k kc] 35)).alloc (.cells #[.int .i64 (i : Int)] 3)) 3 #[.int .i64 to]).cell 0
    simpa using this

  have hi0 : decide ((i : Int) < 0) = false := decide_eq_false (by omega)
  have hi1 : decide ((k : Int) ≤ (i : Int)) = false := decide_eq_false (by omega)
  have hi2 : decide (k ≤ i) = false := decide_eq_false (by omega)
  have g1 : (0 : Int) ≤ (i : Int) ∧ (i : Int) < (k : Int) := by omega
  clear m1 m2 m3 hr hx hL hxm hnear hn hnj hns hkk hmm
  go_enter Try.func24, Try.ntmps24
  go_wp2_with fail
  refine wp_scope_straight ?_
  go_wp2_with fail
  generalize ((((w.alloc (.cells #[.int .i64 D, .slice A n c, .slice J nj cj, .slice S ns cs] 34)).alloc (.cells #[.slice L k kc] 35)).alloc (.cells #[.int .i64 (i : Int)] 3)).alloc (.cells #[.int .i64 to] 3)) = W at *
  obtain ⟨b, off, rfl, hbl, hc⟩ := HO.out _ B0
  obtain ⟨h0, h1, h2, h3, h4⟩ := hc i _ HX.out
  simp only [HLn.out] at h0 h1 h2 h3 h4
  clear hc
  have KK : Hid (∀ w', Below W.heap.size W w' → Four w' w.heap.size D (.slice A n c) (.slice J nj cj) (.slice S ns cs) ∧ w'.cell? ⟨w.heap.size + 1, 0, none⟩ = some (.slice (some ⟨b, off, none⟩) k kc) ∧ w'.cell? ⟨w.heap.size + 1 + 1, 0, none⟩ = some (.int .i64 (i : Int)) ∧ w'.cell? ⟨w.heap.size + 1 + 1 + 1, 0, none⟩ = some (.int .i64 to) ∧
      w'.cell? ⟨b, off + i * 5, none⟩ = some (.int .i64 p0) ∧ w'.cell? ⟨b, off + i * 5 + 1, none⟩ = some (.int .i64 p1) ∧ w'.cell? ⟨b, off + i * 5 + 2, none⟩ = some (.int .i64 p2) ∧ w'.cell? ⟨b, off + i * 5 + 3, none⟩ = some (.int .i64 p3) ∧ w'.cell? ⟨b, off + i * 5 + 4, none⟩ = some (.slice PA m pc)) := Lib.hid fun w' bb =>
    ⟨E0.below bb, One_below E1 bb, One_below E2 bb, One_below E3 bb, One_below h0 bb, One_below h1 bb, One_below h2 bb, One_below h3 bb, One_below h4 bb⟩
  have K0 := KK.out _ (Below.refl _ W).drew
  clear h0 h1 h2 h3 h4 E0 E1 E2 E3
  go_region_held3 (fun w' => Four w' w.heap.size D (.slice A n c) (.slice J nj cj) (.slice S ns cs) ∧ w'.cell? ⟨w.heap.size + 1, 0, none⟩ = some (.slice (some ⟨b, off, none⟩) k kc) ∧ w'.cell? ⟨w.heap.size + 1 + 1, 0, none⟩ = some (.int .i64 (i : Int)) ∧ w'.cell? ⟨w.heap.size + 1 + 1 + 1, 0, none⟩ = some (.int .i64 to) ∧
      w'.cell? ⟨b, off + i * 5, none⟩ = some (.int .i64 p0) ∧ w'.cell? ⟨b, off + i * 5 + 1, none⟩ = some (.int .i64 p1) ∧ w'.cell? ⟨b, off + i * 5 + 2, none⟩ = some (.int .i64 p2) ∧ w'.cell? ⟨b, off + i * 5 + 3, none⟩ = some (.int .i64 p3) ∧ w'.cell? ⟨b, off + i * 5 + 4, none⟩ = some (.slice PA m pc)) (first | exact K1 | exact K0) (first
    | (go_at_call 21; refine (HR.out _ B0.drew).mono ?_; rintro e w1 ⟨rfl, b1⟩; have B1 := dB B0 b1; have bW : Below W.heap.size W w1 := dB (Below.refl _ W) b1; have K1 := KK.out _ bW; clear b1 K0))
  cases qr with
  | false =>
    have e := Lib.hid (HRR.out.1 rfl)
    go_wp2_with fail
    go_ret
    exact ⟨Ser.ret_int e.out.symm, B1⟩
  | true =>
    have HR1 := Lib.hid (HRR.out.2 rfl)
    clear HRR HR
    simp only [Bool.not_true]
    have hmf : ∀ (fn : Fn) (first cap : Array Value) (w : World), (Instr.makeFunc fn first cap).run Try.prog w = .ok (.func fn first cap) w := fun _ _ _ _ => rfl
    obtain ⟨⟨e0, e1, e2, e3⟩, x1, x2, x3, y0, y1, y2, y3, y4⟩ := K1
    have bL : Below W.heap.size W ((w1.alloc (.cells #[.int .i64 p0, .int .i64 p1, .int .i64 p2, .int .i64 p3, .slice PA m pc] 24)).alloc (.cells #[.int .i64 2, .int .i64 (ns : Int), .func (.func 43) #[] #[.pointer (some ⟨w.heap.size, 0, none⟩), .pointer (some ⟨w1.heap.size, 0, none⟩), .pointer (some ⟨w.heap.size + 1 + 1 + 1, 0, none⟩)], .int .i64 3, .int .i64 (nj : Int), .func (.func 44) #[] #[.pointer (some ⟨w.heap.size, 0, none⟩), .pointer (some ⟨w1.heap.size, 0, none⟩)], .int .i64 4, .int .i64 (k : Int), .func (.func 46) #[] #[.pointer (some ⟨w.heap.size + 1, 0, none⟩), .pointer (some ⟨w.heap.size + 1 + 1, 0, none⟩), .pointer (some ⟨w.heap.size + 1 + 1 + 1, 0, none⟩), .pointer (some ⟨w1.heap.size, 0, none⟩), .pointer (some ⟨w.heap.size, 0, none⟩)]] 74)) := ((bW.alloc bW.size _).alloc (by have := bW.size; simp; omega) _)
    have hT0 := five_of ((Blk.fresh w1 24 #[.int .i64 p0, .int .i64 p1, .int .i64 p2, .int .i64 p3, .slice PA m pc]).alloc (.cells #[.int .i64 2, .int .i64 (ns : Int), .func (.func 43) #[] #[.pointer (some ⟨w.heap.size, 0, none⟩), .pointer (some ⟨w1.heap.size, 0, none⟩), .pointer (some ⟨w.heap.size + 1 + 1 + 1, 0, none⟩)], .int .i64 3, .int .i64 (nj : Int), .func (.func 44) #[] #[.pointer (some ⟨w.heap.size, 0, none⟩), .pointer (some ⟨w1.heap.size, 0, none⟩)], .int .i64 4, .int .i64 (k : Int), .func (.func 46) #[] #[.pointer (some ⟨w.heap.size + 1, 0, none⟩), .pointer (some ⟨w.heap.size + 1 + 1, 0, none⟩), .pointer (some ⟨w.heap.size + 1 + 1 + 1, 0, none⟩), .pointer (some ⟨w1.heap.size, 0, none⟩), .pointer (some ⟨w.heap.size, 0, none⟩)]] 74))
    have c8 := KK.out _ (bW.alloc bW.size (.cells #[.int .i64 p0, .int .i64 p1, .int .i64 p2, .int .i64 p3, .slice PA m pc] 24))
    obtain ⟨⟨e0', e1', e2', e3'⟩, x1', x2', x3', _⟩ := c8
    go_wp2_with fail
    go_step3
    go_wp2_with fail
    have hR0 := Blk.fresh (w1.alloc (.cells #[.int .i64 p0, .int .i64 p1, .int .i64 p2, .int .i64 p3, .slice PA m pc] 24)) 74 #[.int .i64 2, .int .i64 (ns : Int), .func (.func 43) #[] #[.pointer (some ⟨w.heap.size, 0, none⟩), .pointer (some ⟨w1.heap.size, 0, none⟩), .pointer (some ⟨w.heap.size + 1 + 1 + 1, 0, none⟩)], .int .i64 3, .int .i64 (nj : Int), .func (.func 44) #[] #[.pointer (some ⟨w.heap.size, 0, none⟩), .pointer (some ⟨w1.heap.size, 0, none⟩)], .int .i64 4, .int .i64 (k : Int), .func (.func 46) #[] #[.pointer (some ⟨w.heap.size + 1, 0, none⟩), .pointer (some ⟨w.heap.size + 1 + 1, 0, none⟩), .pointer (some ⟨w.heap.size + 1 + 1 + 1, 0, none⟩), .pointer (some ⟨w1.heap.size, 0, none⟩), .pointer (some ⟨w.heap.size, 0, none⟩)]]
    rw [show (w1.alloc (.cells #[.int .i64 p0, .int .i64 p1, .int .i64 p2, .int .i64 p3, .slice PA m pc] 24)).heap.size = w1.heap.size + 1 by simp] at hR0
    have KF := (KK.out _ bL)
    have hbb : Below w.heap.size w ((w1.alloc (.cells #[.int .i64 p0, .int .i64 p1, .int .i64 p2, .int .i64 p3, .slice PA m pc] 24)).alloc (.cells #[.int .i64 2, .int .i64 (ns : Int), .func (.func 43) #[] #[.pointer (some ⟨w.heap.size, 0, none⟩), .pointer (some ⟨w1.heap.size, 0, none⟩), .pointer (some ⟨w.heap.size + 1 + 1 + 1, 0, none⟩)], .int .i64 3, .int .i64 (nj : Int), .func (.func 44) #[] #[.pointer (some ⟨w.heap.size, 0, none⟩), .pointer (some ⟨w1.heap.size, 0, none⟩)], .int .i64 4, .int .i64 (k : Int), .func (.func 46) #[] #[.pointer (some ⟨w.heap.size + 1, 0, none⟩), .pointer (some ⟨w.heap.size + 1 + 1, 0, none⟩), .pointer (some ⟨w.heap.size + 1 + 1 + 1, 0, none⟩), .pointer (some ⟨w1.heap.size, 0, none⟩), .pointer (some ⟨w.heap.size, 0, none⟩)]] 74)) := B0.trans (bL.mono B0.size)
    clear e0 e1 e2 e3 x1 x2 x3 y0 y1 y2 y3 y4 e0' e1' e2' e3' x1' x2' x3'
    generalize ((w1.alloc (.cells #[.int .i64 p0, .int .i64 p1, .int .i64 p2, .int .i64 p3, .slice PA m pc] 24)).alloc (.cells #[.int .i64 2, .int .i64 (ns : Int), .func (.func 43) #[] #[.pointer (some ⟨w.heap.size, 0, none⟩), .pointer (some ⟨w1.heap.size, 0, none⟩), .pointer (some ⟨w.heap.size + 1 + 1 + 1, 0, none⟩)], .int .i64 3, .int .i64 (nj : Int), .func (.func 44) #[] #[.pointer (some ⟨w.heap.size, 0, none⟩), .pointer (some ⟨w1.heap.size, 0, none⟩)], .int .i64 4, .int .i64 (k : Int), .func (.func 46) #[] #[.pointer (some ⟨w.heap.size + 1, 0, none⟩), .pointer (some ⟨w.heap.size + 1 + 1, 0, none⟩), .pointer (some ⟨w.heap.size + 1 + 1 + 1, 0, none⟩), .pointer (some ⟨w1.heap.size, 0, none⟩), .pointer (some ⟨w.heap.size, 0, none⟩)]] 74)) = W2 at *
    have KK2 : Hid (∀ w', Below W2.heap.size W2 w' → (Four w' w.heap.size D (.slice A n c) (.slice J nj cj) (.slice S ns cs) ∧ w'.cell? ⟨w.heap.size + 1, 0, none⟩ = some (.slice (some ⟨b, off, none⟩) k kc) ∧ w'.cell? ⟨w.heap.size + 1 + 1, 0, none⟩ = some (.int .i64 (i : Int)) ∧ w'.cell? ⟨w.heap.size + 1 + 1 + 1, 0, none⟩ = some (.int .i64 to) ∧ Five w' w1.heap.size p0 p1 p2 p3 (.slice PA m pc)) ∧
        (w'.cell? ⟨w1.heap.size + 1, 0, none⟩ = some (.int .i64 2) ∧ w'.cell? ⟨w1.heap.size + 1, 1, none⟩ = some (.int .i64 (ns : Int)) ∧ w'.cell? ⟨w1.heap.size + 1, 2, none⟩ = some (.func (.func 43) #[] #[.pointer (some ⟨w.heap.size, 0, none⟩), .pointer (some ⟨w1.heap.size, 0, none⟩), .pointer (some ⟨w.heap.size + 1 + 1 + 1, 0, none⟩)])) ∧
        (w'.cell? ⟨w1.heap.size + 1, 3, none⟩ = some (.int .i64 3) ∧ w'.cell? ⟨w1.heap.size + 1, 4, none⟩ = some (.int .i64 (nj : Int)) ∧ w'.cell? ⟨w1.heap.size + 1, 5, none⟩ = some (.func (.func 44) #[] #[.pointer (some ⟨w.heap.size, 0, none⟩), .pointer (some ⟨w1.heap.size, 0, none⟩)])) ∧
        (w'.cell? ⟨w1.heap.size + 1, 6, none⟩ = some (.int .i64 4) ∧ w'.cell? ⟨w1.heap.size + 1, 7, none⟩ = some (.int .i64 (k : Int)) ∧ w'.cell? ⟨w1.heap.size + 1, 8, none⟩ = some (.func (.func 46) #[] #[.pointer (some ⟨w.heap.size + 1, 0, none⟩), .pointer (some ⟨w.heap.size + 1 + 1, 0, none⟩), .pointer (some ⟨w.heap.size + 1 + 1 + 1, 0, none⟩), .pointer (some ⟨w1.heap.size, 0, none⟩), .pointer (some ⟨w.heap.size, 0, none⟩)]))) := Lib.hid fun w' bb => by
      obtain ⟨a1, a2, a3, a4, _⟩ := KF
      have R := hR0.below bb hR0.lt
      exact ⟨⟨a1.below bb, One_below a2 bb, One_below a3 bb, One_below a4 bb, hT0.below bb⟩, ⟨R.cell 0, R.cell 1, R.cell 2⟩, ⟨R.cell 3, R.cell 4, R.cell 5⟩, ⟨R.cell 6, R.cell 7, R.cell 8⟩⟩
    clear KK KF hR0 hT0 bL bW B1 hmf B0
    obtain ⟨⟨⟨e0, e1, e2, e3⟩, x1, x2, x3, ⟨y0, y1, y2, y3, y4⟩⟩, ⟨u0, u1, u2⟩, _, _⟩ := KK2.out _ (Below.refl _ W2)
    clear e0 e1 e2 e3 x1 x2 x3 y0 y1 y2 y3 y4 u0 u1 u2
    refine wp_loop_rounds 4 ?_
    rw [rounds_succ]
    obtain ⟨_, ⟨u0, u1, u2⟩, _, _⟩ := KK2.out _ (Below.refl _ W2)
    go_wp2_with fail
    have bV : Below W2.heap.size W2 (W2.alloc (.cells #[.int .i64 2, .int .i64 (ns : Int), .func (.func 43) #[] #[.pointer (some ⟨w.heap.size, 0, none⟩), .pointer (some ⟨w1.heap.size, 0, none⟩), .pointer (some ⟨w.heap.size + 1 + 1 + 1, 0, none⟩)]] 74)) := (Below.refl _ W2).alloc (Nat.le_refl _) _
    have dV := Blk.fresh W2 74 #[.int .i64 2, .int .i64 (ns : Int), .func (.func 43) #[] #[.pointer (some ⟨w.heap.size, 0, none⟩), .pointer (some ⟨w1.heap.size, 0, none⟩), .pointer (some ⟨w.heap.size + 1 + 1 + 1, 0, none⟩)]]
    clear u0 u1 u2
    generalize W2.alloc (.cells #[.int .i64 2, .int .i64 (ns : Int), .func (.func 43) #[] #[.pointer (some ⟨w.heap.size, 0, none⟩), .pointer (some ⟨w1.heap.size, 0, none⟩), .pointer (some ⟨w.heap.size + 1 + 1 + 1, 0, none⟩)]] 74) = W3 at *
    have KK3 : Hid (∀ w', Below W3.heap.size W3 w' → (Four w' w.heap.size D (.slice A n c) (.slice J nj cj) (.slice S ns cs) ∧ w'.cell? ⟨w.heap.size + 1, 0, none⟩ = some (.slice (some ⟨b, off, none⟩) k kc) ∧ w'.cell? ⟨w.heap.size + 1 + 1, 0, none⟩ = some (.int .i64 (i : Int)) ∧ w'.cell? ⟨w.heap.size + 1 + 1 + 1, 0, none⟩ = some (.int .i64 to) ∧ Five w' w1.heap.size p0 p1 p2 p3 (.slice PA m pc)) ∧ w'.cell? ⟨W2.heap.size, 0, none⟩ = some (.int .i64 2) ∧ w'.cell? ⟨W2.heap.size, 2, none⟩ = some (.func (.func 43) #[] #[.pointer (some ⟨w.heap.size, 0, none⟩), .pointer (some ⟨w1.heap.size, 0, none⟩), .pointer (some ⟨w.heap.size + 1 + 1 + 1, 0, none⟩)])) := Lib.hid fun w' bb => ⟨(KK2.out w' (bV.trans (bb.mono bV.size))).1, (dV.below bb dV.lt).cell 0, (dV.below bb dV.lt).cell 2⟩
    clear dV
    go_loopw [13, 16, 65] (fun s13 _ s65 wr => s13 = .int .i64 1 ∧ ∃ j : Nat, j ≤ ns ∧ s65 = .int .i64 j ∧ Hid ((loss.drop j).any (lostB ⟨p0, p1, p2, p3, bs⟩ to) = ql) ∧ Below W3.heap.size W3 wr) (fun _ _ s65 _ => ns - (intOf s65).toNat)
    case atStart => exact ⟨rfl, 0, by omega, rfl, ql0, Below.refl _ _⟩
    case round =>
      clear ql0
      obtain ⟨rfl, j, hj, rfl, hno, hbel⟩ := hrel
      by_cases c1 : j < ns
      · have g2 : (0 : Int) ≤ (j : Int) ∧ (j : Int) < (ns : Int) := by omega
        obtain ⟨⟨a1, a2, a3, a4, a5⟩, z0, z2⟩ := KK3.out _ hbel
        obtain ⟨p, hpj, _⟩ := HSN.out j c1
        have s0 := any_at hpj hno.out
        obtain ⟨b', off', hS, hc⟩ := HSO.out _ (hbb.trans ((bV.trans (hbel.mono bV.size)).mono hbb.size)) (by omega)
        have y := hc j p hpj
        obtain ⟨lx, ly⟩ := p
        have HCall := Lib.hid (lost_any w.heap.size w1.heap.size (w.heap.size + 1 + 1 + 1) j ns cs b' off' m D p0 p1 p2 p3 to lx ly _ _ _ wr c1 (by rw [← hS]; exact a1) a5 a4 y)
        have HQ : Hid ((lostB ⟨p0, p1, p2, p3, bs⟩ to (lx, ly)) = (lx == p0 && ly == to)) := Lib.hid rfl
        rw [HQ.out] at s0
        have HS := Lib.hid s0
        clear s0 hc hpj y HQ hS
        generalize (lx == p0 && ly == to) = Q at *
        have HH : Hid (∀ w', Below wr.heap.size wr w' → w'.cell? ⟨W2.heap.size, 0, none⟩ = some (.int .i64 2) ∧ Below W3.heap.size W3 w' ∧ Below w.heap.size w w') := Lib.hid fun w' bb => ⟨One_below z0 bb, thenB hbel bb, hbb.trans (((bV.trans (hbel.mono bV.size)).trans (bb.mono (Nat.le_trans bV.size hbel.size))).mono hbb.size)⟩
        clear a1 a2 a3 a4 a5 KK2 KK3
        cases Q with
        | true =>
          have e := Lib.hid (HR1.out.1 (HS.out.1 rfl))
          go_wp2_with (go_at_call 43; refine (HCall.out).mono ?_; rintro e w9 ⟨rfl, b9⟩; obtain ⟨z9, b10, b11⟩ := HH.out _ b9)
          rw [Exit.noGoto_ret]
          go_ret
          exact ⟨Ser.ret_int e.out.symm, b11⟩
        | false =>
          have e := Lib.hid (HS.out.2 rfl)
          go_wp2_with (go_at_call 43; refine (HCall.out).mono ?_; rintro e w9 ⟨rfl, b9⟩; obtain ⟨z9, b10, b11⟩ := HH.out _ b9)
          go_round
          case measure => simp [intOf]; omega
          case rel => exact ⟨rfl, j + 1, by omega, by go_num, e, b10⟩
      · have HR2 := Lib.hid (HR1.out.2 (any_end (HES.out j (by omega)) hno.out))
        clear HR1
        have : ¬ ((j : Int) < (ns : Int)) := by omega
        have bX := bV.trans (hbel.mono bV.size)
        have hbb := hbb.trans (bX.mono hbb.size)
        have KK2 : Hid (∀ w', Below wr.heap.size wr w' → _) := Lib.hid fun w' bb => KK2.out w' (bX.trans (bb.mono bX.size))
        clear bX bV hbel KK3 hno
        go_wp2_with fail
        generalize wr = W3 at *
        rw [rounds_succ]
        obtain ⟨_, _, ⟨u0, u1, u2⟩, _⟩ := KK2.out _ (Below.refl _ W3)
        go_wp2_with fail
        have bV : Below W3.heap.size W3 (W3.alloc (.cells #[.int .i64 3, .int .i64 (nj : Int), .func (.func 44) #[] #[.pointer (some ⟨w.heap.size, 0, none⟩), .pointer (some ⟨w1.heap.size, 0, none⟩)]] 74)) := (Below.refl _ W3).alloc (Nat.le_refl _) _
        have dV := Blk.fresh W3 74 #[.int .i64 3, .int .i64 (nj : Int), .func (.func 44) #[] #[.pointer (some ⟨w.heap.size, 0, none⟩), .pointer (some ⟨w1.heap.size, 0, none⟩)]]
        clear u0 u1 u2
        generalize W3.alloc (.cells #[.int .i64 3, .int .i64 (nj : Int), .func (.func 44) #[] #[.pointer (some ⟨w.heap.size, 0, none⟩), .pointer (some ⟨w1.heap.size, 0, none⟩)]] 74) = W4 at *
        have KK3 : Hid (∀ w', Below W4.heap.size W4 w' → (Four w' w.heap.size D (.slice A n c) (.slice J nj cj) (.slice S ns cs) ∧ w'.cell? ⟨w.heap.size + 1, 0, none⟩ = some (.slice (some ⟨b, off, none⟩) k kc) ∧ w'.cell? ⟨w.heap.size + 1 + 1, 0, none⟩ = some (.int .i64 (i : Int)) ∧ w'.cell? ⟨w.heap.size + 1 + 1 + 1, 0, none⟩ = some (.int .i64 to) ∧ Five w' w1.heap.size p0 p1 p2 p3 (.slice PA m pc)) ∧ w'.cell? ⟨W3.heap.size, 0, none⟩ = some (.int .i64 3) ∧ w'.cell? ⟨W3.heap.size, 2, none⟩ = some (.func (.func 44) #[] #[.pointer (some ⟨w.heap.size, 0, none⟩), .pointer (some ⟨w1.heap.size, 0, none⟩)])) := Lib.hid fun w' bb => ⟨(KK2.out w' (bV.trans (bb.mono bV.size))).1, (dV.below bb dV.lt).cell 0, (dV.below bb dV.lt).cell 2⟩
        clear dV
        go_loopw [13, 16, 65] (fun s13 _ s65 wr => s13 = .int .i64 1 ∧ ∃ j : Nat, j ≤ nj ∧ s65 = .int .i64 j ∧ Hid ((jams.drop j).any (jamB ⟨p0, p1, p2, p3, bs⟩) = qj) ∧ Below W4.heap.size W4 wr) (fun _ _ s65 _ => nj - (intOf s65).toNat)
        case atStart => exact ⟨rfl, 0, by omega, rfl, qj0, Below.refl _ _⟩
        case round =>
          clear qj0
          obtain ⟨rfl, j, hj, rfl, hno, hbel⟩ := hrel
          by_cases c1 : j < nj
          · have g2 : (0 : Int) ≤ (j : Int) ∧ (j : Int) < (nj : Int) := by omega
            obtain ⟨⟨a1, a2, a3, a4, a5⟩, z0, z2⟩ := KK3.out _ hbel
            obtain ⟨p, hpj, _⟩ := HJN.out j c1
            have s0 := any_at hpj hno.out
            obtain ⟨b', off', hS, hc⟩ := HJO.out _ (hbb.trans ((bV.trans (hbel.mono bV.size)).mono hbb.size)) (by omega)
            have y := hc j p hpj
            obtain ⟨lx, ly, lz⟩ := p
            have HCall := Lib.hid (jammed_any w.heap.size w1.heap.size j nj cj b' off' m pc D p0 p1 p2 p3 lx ly lz PA _ _ wr c1 hxo hnr (by rw [← hS]; exact a1) a5 y)
            have HQ : Hid ((jamB ⟨p0, p1, p2, p3, bs⟩ ⟨lx, ly, lz⟩) = ((lx == -1 || lx == p2) && (decide (ly < p3 + 8 * ((m : Int) + 10)) && decide (p3 < lz)))) := Lib.hid (by unfold jamB endT; simp only [HLn.out])
            rw [HQ.out] at s0
            have HS := Lib.hid s0
            clear s0 hc hpj y HQ hS
            generalize ((lx == -1 || lx == p2) && (decide (ly < p3 + 8 * ((m : Int) + 10)) && decide (p3 < lz))) = Q at *
            have HH : Hid (∀ w', Below wr.heap.size wr w' → w'.cell? ⟨W3.heap.size, 0, none⟩ = some (.int .i64 3) ∧ Below W4.heap.size W4 w' ∧ Below w.heap.size w w') := Lib.hid fun w' bb => ⟨One_below z0 bb, thenB hbel bb, hbb.trans (((bV.trans (hbel.mono bV.size)).trans (bb.mono (Nat.le_trans bV.size hbel.size))).mono hbb.size)⟩
            clear a1 a2 a3 a4 a5 KK2 KK3
            cases Q with
            | true =>
              have e := Lib.hid (HR2.out.1 (HS.out.1 rfl))
              go_wp2_with (go_at_call 44; refine (HCall.out).mono ?_; rintro e w9 ⟨rfl, b9⟩; obtain ⟨z9, b10, b11⟩ := HH.out _ b9)
              rw [Exit.noGoto_ret]
              go_ret
              exact ⟨Ser.ret_int e.out.symm, b11⟩
            | false =>
              have e := Lib.hid (HS.out.2 rfl)
              go_wp2_with (go_at_call 44; refine (HCall.out).mono ?_; rintro e w9 ⟨rfl, b9⟩; obtain ⟨z9, b10, b11⟩ := HH.out _ b9)
              go_round
              case measure => simp [intOf]; omega
              case rel => exact ⟨rfl, j + 1, by omega, by go_num, e, b10⟩
          · have HR3 := Lib.hid (HR2.out.2 (any_end (HEJ.out j (by omega)) hno.out))
            clear HR2
            have : ¬ ((j : Int) < (nj : Int)) := by omega
            have bX := bV.trans (hbel.mono bV.size)
            have hbb := hbb.trans (bX.mono hbb.size)
            have KK2 : Hid (∀ w', Below wr.heap.size wr w' → _) := Lib.hid fun w' bb => KK2.out w' (bX.trans (bb.mono bX.size))
            clear bX bV hbel KK3 hno
            go_wp2_with fail
            generalize wr = W4 at *
            rw [rounds_succ]
            obtain ⟨_, _, _, ⟨u0, u1, u2⟩⟩ := KK2.out _ (Below.refl _ W4)
            go_wp2_with fail
            have bV : Below W4.heap.size W4 (W4.alloc (.cells #[.int .i64 4, .int .i64 (k : Int), .func (.func 46) #[] #[.pointer (some ⟨w.heap.size + 1, 0, none⟩), .pointer (some ⟨w.heap.size + 1 + 1, 0, none⟩), .pointer (some ⟨w.heap.size + 1 + 1 + 1, 0, none⟩), .pointer (some ⟨w1.heap.size, 0, none⟩), .pointer (some ⟨w.heap.size, 0, none⟩)]] 74)) := (Below.refl _ W4).alloc (Nat.le_refl _) _
            have dV := Blk.fresh W4 74 #[.int .i64 4, .int .i64 (k : Int), .func (.func 46) #[] #[.pointer (some ⟨w.heap.size + 1, 0, none⟩), .pointer (some ⟨w.heap.size + 1 + 1, 0, none⟩), .pointer (some ⟨w.heap.size + 1 + 1 + 1, 0, none⟩), .pointer (some ⟨w1.heap.size, 0, none⟩), .pointer (some ⟨w.heap.size, 0, none⟩)]]
            clear u0 u1 u2
            generalize W4.alloc (.cells #[.int .i64 4, .int .i64 (k : Int), .func (.func 46) #[] #[.pointer (some ⟨w.heap.size + 1, 0, none⟩), .pointer (some ⟨w.heap.size + 1 + 1, 0, none⟩), .pointer (some ⟨w.heap.size + 1 + 1 + 1, 0, none⟩), .pointer (some ⟨w1.heap.size, 0, none⟩), .pointer (some ⟨w.heap.size, 0, none⟩)]] 74) = W5 at *
            have KK3 : Hid (∀ w', Below W5.heap.size W5 w' → (Four w' w.heap.size D (.slice A n c) (.slice J nj cj) (.slice S ns cs) ∧ w'.cell? ⟨w.heap.size + 1, 0, none⟩ = some (.slice (some ⟨b, off, none⟩) k kc) ∧ w'.cell? ⟨w.heap.size + 1 + 1, 0, none⟩ = some (.int .i64 (i : Int)) ∧ w'.cell? ⟨w.heap.size + 1 + 1 + 1, 0, none⟩ = some (.int .i64 to) ∧ Five w' w1.heap.size p0 p1 p2 p3 (.slice PA m pc)) ∧ w'.cell? ⟨W4.heap.size, 0, none⟩ = some (.int .i64 4) ∧ w'.cell? ⟨W4.heap.size, 2, none⟩ = some (.func (.func 46) #[] #[.pointer (some ⟨w.heap.size + 1, 0, none⟩), .pointer (some ⟨w.heap.size + 1 + 1, 0, none⟩), .pointer (some ⟨w.heap.size + 1 + 1 + 1, 0, none⟩), .pointer (some ⟨w1.heap.size, 0, none⟩), .pointer (some ⟨w.heap.size, 0, none⟩)])) := Lib.hid fun w' bb => ⟨(KK2.out w' (bV.trans (bb.mono bV.size))).1, (dV.below bb dV.lt).cell 0, (dV.below bb dV.lt).cell 2⟩
            clear dV
            go_loopw [13, 16, 65] (fun s13 _ s65 wr => s13 = .int .i64 1 ∧ ∃ j : Nat, j ≤ k ∧ s65 = .int .i64 j ∧ Hid (anyI (colB links ⟨p0, p1, p2, p3, bs⟩ i to) (LL.drop j) j = qc) ∧ Below W5.heap.size W5 wr) (fun _ _ s65 _ => k - (intOf s65).toNat)
            case atStart => exact ⟨rfl, 0, by omega, rfl, qc0, Below.refl _ _⟩
            case round =>
              clear qc0
              obtain ⟨rfl, j, hj, rfl, hno, hbel⟩ := hrel
              by_cases c1 : j < k
              · have g2 : (0 : Int) ≤ (j : Int) ∧ (j : Int) < (k : Int) := by omega
                obtain ⟨⟨a1, a2, a3, a4, a5⟩, z0, z2⟩ := KK3.out _ hbel
                obtain ⟨p, hpj, hpm⟩ := HN.out j c1
                have s0 := anyI_at (HM.out j p hpj) hno.out
                obtain ⟨po, pn⟩ := HOw.out p hpm
                have bw : Below w.heap.size w wr := hbb.trans ((bV.trans (hbel.mono bV.size)).mono hbb.size)
                obtain ⟨b', off', heq, _, hc⟩ := HO.out _ bw
                have hbo : b = b' ∧ off = off' := by injection heq with h1; injection h1 with h2 h3; exact ⟨h2, h3⟩
                obtain ⟨rfl, rfl⟩ := hbo
                have y := hc j p hpj
                obtain ⟨ui, uf, uh, us, UA, uc, ub⟩ := p
                simp only at po pn y
                have HCall := Lib.hid (collided_any (w.heap.size + 1) (w.heap.size + 1 + 1) (w.heap.size + 1 + 1 + 1) w1.heap.size w.heap.size j k kc b off m pc ub.length uc D p0 p1 p2 p3 to (i : Int) ui uf uh us PA UA A J S n c nj cj ns cs links wr c1 hxo po hnr pn HLk.out m4 (HC.out _ bw) a1 a5 a4 a3 a2 y)
                have HQ := col_eq links ⟨p0, p1, p2, p3, bs⟩ ⟨ui, uf, uh, us, ub⟩ i j to
                simp only [HLn.out] at HQ
                rw [HQ] at HCall
                have hx : colB links ⟨p0, p1, p2, p3, bs⟩ i to j (Tx.tr ⟨ui, uf, uh, us, UA, uc, ub⟩) = colB links ⟨p0, p1, p2, p3, bs⟩ i to j ⟨ui, uf, uh, us, ub⟩ := rfl
                rw [hx] at s0
                have HS := Lib.hid s0
                clear s0 hc hpj y HQ hx heq hpm
                generalize colB links ⟨p0, p1, p2, p3, bs⟩ i to j ⟨ui, uf, uh, us, ub⟩ = Q at *
                have HH : Hid (∀ w', Below wr.heap.size wr w' → w'.cell? ⟨W4.heap.size, 0, none⟩ = some (.int .i64 4) ∧ Below W5.heap.size W5 w' ∧ Below w.heap.size w w') := Lib.hid fun w' bb => ⟨One_below z0 bb, thenB hbel bb, hbb.trans (((bV.trans (hbel.mono bV.size)).trans (bb.mono (Nat.le_trans bV.size hbel.size))).mono hbb.size)⟩
                clear a1 a2 a3 a4 a5 KK2 KK3
                cases Q with
                | true =>
                  have e := Lib.hid (HR3.out.1 (HS.out.1 rfl))
                  go_wp2_with (go_at_call 46; refine (HCall.out).mono ?_; rintro e w9 ⟨rfl, b9⟩; obtain ⟨z9, b10, b11⟩ := HH.out _ b9)
                  rw [Exit.noGoto_ret]
                  go_ret
                  exact ⟨Ser.ret_int e.out.symm, b11⟩
                | false =>
                  have e := Lib.hid (HS.out.2 rfl)
                  go_wp2_with (go_at_call 46; refine (HCall.out).mono ?_; rintro e w9 ⟨rfl, b9⟩; obtain ⟨z9, b10, b11⟩ := HH.out _ b9)
                  go_round
                  case measure => simp [intOf]; omega
                  case rel => exact ⟨rfl, j + 1, by omega, by go_num, e, b10⟩
              · have e := Lib.hid (HR3.out.2 (anyI_end (HE.out j (by omega)) hno.out))
                clear HR3
                have : ¬ ((j : Int) < (k : Int)) := by omega
                go_wp2_with fail
                rw [rounds_succ]
                go_wp2_with fail
                rw [Exit.noGoto_ret]
                go_ret
                exact ⟨Ser.ret_int e.out.symm, hbb.trans ((bV.trans (hbel.mono bV.size)).mono hbb.size)⟩
end Go.Proofs.Ytocmcjbhmjbmhaa.Air
