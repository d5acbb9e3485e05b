/- What the functions that halve tallies return: contracts over the program. -/
import Derived.Test.YtngkpnkjapdnaaaAsLists2
set_option linter.unusedVariables false
set_option linter.unusedSimpArgs false
namespace Go.Proofs.Ytngkpnkjapdnaaa.As
open Go.RowKit Mem Chm Base

/-- The first k are halved, the others still empty. -/
def halfL (fs : List (Int × Int)) (k : Nat) : List (Int × Int) := (fs.map decT).take k ++ List.replicate (fs.length - k) (0, 0)
theorem halfL_len (fs : List (Int × Int)) (k : Nat) (h : k ≤ fs.length) : (halfL fs k).length = fs.length := by simp [halfL]; omega
theorem halfL_zero (fs : List (Int × Int)) : halfL fs 0 = List.replicate fs.length (0, 0) := by simp [halfL]
theorem halfL_all (fs : List (Int × Int)) {n : Nat} (h : fs.length = n) : halfL fs n = fs.map decT := by
  subst h; unfold halfL; rw [Nat.sub_self, List.replicate_zero, List.append_nil, List.take_of_length_le (by simp)]
theorem halfL_at (fs : List (Int × Int)) (k : Nat) (h : k < fs.length) : (halfL fs k)[k]? = some (0, 0) := by
  unfold halfL
  have hl : ((fs.map decT).take k).length = k := by simp; omega
  rw [List.getElem?_append_right (by omega), hl, Nat.sub_self, List.getElem?_replicate, if_pos (by omega)]
theorem halfL_step {fs : List (Int × Int)} {k : Nat} {f : Int × Int} (h : fs[k]? = some f) : (halfL fs k).set k (decT f) = halfL fs (k + 1) := by
  have hk : k < fs.length := (List.getElem?_eq_some_iff.1 h).1
  have hl : ((fs.map decT).take k).length = k := by simp; omega
  unfold halfL
  rw [List.set_append_right _ _ (by omega), hl, Nat.sub_self, show fs.length - k = (fs.length - (k + 1)) + 1 by omega, List.replicate_succ, List.set_cons_zero]
  rw [List.take_succ_eq_append_getElem (by simpa using hk), List.append_assoc]
  congr 1
  rw [List.getElem_map]
  have := (List.getElem?_eq_some_iff.1 h).2
  rw [this]; rfl
/-- Two cells of a row of pairs are written. -/
theorem stored_pair {w : World} {base g n c j : Nat} {e : TypeId} {fs : List (Int × Int)} {f : Int × Int} (h : w.ownsRow base e 2 (.slice (some ⟨g, 0, none⟩) n c) n (flat fs)) (hf : fs[j]? = some f) (x y : Int) :
    ((w.setCell ⟨g, j * 2, none⟩ (.int .i64 x)).setCell ⟨g, j * 2 + 1, none⟩ (.int .i64 y)).ownsRow base e 2 (.slice (some ⟨g, 0, none⟩) n c) n (flat (fs.set j (x, y))) := by
  have h1 := (h.stored (j * 2) (.int .i64 x)).1
  rw [(flat_set fs j f hf x).1] at h1
  have h2 := (h1.stored (j * 2 + 1) (.int .i64 y)).1
  have hj : j < fs.length := (List.getElem?_eq_some_iff.1 hf).1
  have e1 : (fs.set j (x, f.2))[j]? = some (x, f.2) := by rw [List.getElem?_set, if_pos rfl, if_pos hj]
  rw [(flat_set _ j _ e1 y).2, List.set_set] at h2
  exact h2
theorem own_elsewhere {w : World} {base g b n c i : Nat} {e : TypeId} {fs : List (Int × Int)} (h : w.ownsRow base e 2 (.slice (some ⟨g, 0, none⟩) n c) n (flat fs)) (hne : ¬ b = g) (v : Value) :
    (w.setCell ⟨b, i, none⟩ v).ownsRow base e 2 (.slice (some ⟨g, 0, none⟩) n c) n (flat fs) := by
  refine h.kept (row := some b) ⟨rfl, rfl, rfl, by simp, fun k _ hk => heap_setCell_other w ⟨b, i, none⟩ k v (fun e => hk (by rw [e]))⟩ (.inr ?_)
  simp [Value.ownBlock]; omega
set_option maxHeartbeats 1000000 in
theorem decay_any (A : Option Addr) (n c : Nat) (fs : List (Int × Int)) (w : World) (hl : fs.length = n) (hr : PairsAt w w.heap.size A fs) (hn : n ≤ 8796093022208) :
    Calls Try.prog 20 #[.slice A n c] w fun e w' => MakesP w w' e (fs.map decT) := by
  obtain ⟨i0, hi, hz0, hz1, hz2⟩ := info_parts info_tally
  have HLen := Lib.hid hl
  have HM : Hid ((fs.map decT).length = n) := Lib.hid (by simp [hl])
  go_enter Try.func20, Try.ntmps20
  go_wp2_with (at_make; refine wpList_make_full _ rfl _ _ 22 rfl w.heap.size 30 i0 _ 2 Try.underlying22 hi hz0 hz1 _ _ _ _ n rfl rfl (by omega) (by omega) ?c1 ?c2 ?c3 ?_; (case c1 => rw [hz2]; omega); (case c2 => unfold maxLen; omega); (case c3 => omega); intro w1 hown1 hg1)
  have hown2 : w1.ownsRow w.heap.size 30 2 (.slice (some ⟨w.heap.size, 0, none⟩) n n) n (madeCells #[.int .i64 0, .int .i64 0] (n * 2)).toList := hown1
  rw [flat_made, ← hl, ← halfL_zero, hl] at hown2
  have B1 : Below w.heap.size w w1 := (Below.refl _ w).grown hg1 (Nat.le_refl _) (fun g hg => by cases hg)
  clear hown1 hg1 hl
  generalize hg0 : w.heap.size = g at *
  have HG0 := Lib.hid hg0
  clear hg0
  go_loopw [11] (fun i wr => ∃ k : Nat, k ≤ n ∧ i = .int .i64 (k : Nat) ∧ wr.ownsRow g 30 2 (.slice (some ⟨g, 0, none⟩) n n) n (flat (halfL fs k)) ∧ Below g w wr) (fun i _ => n - (intOf i).toNat)
  case atStart => exact ⟨0, by omega, rfl, hown2, B1⟩
  case round =>
    obtain ⟨k, hk, rfl, hown, hB⟩ := hrel
    by_cases c1 : k < n
    · obtain ⟨f, hfk⟩ : ∃ f, fs[k]? = some f := ⟨fs[k]'(by rw [HLen.out]; omega), List.getElem?_eq_getElem _⟩
      obtain ⟨b, off, rfl, hlt, hc⟩ := (hr.below hB).at_ (i := k) (by rw [HLen.out]; omega)
      have x1 := (hc k f hfk).1
      have x2 := (hc k f hfk).2
      have HS := Lib.hid (halfL_step hfk)
      have HA := Lib.hid (halfL_at fs k (by rw [HLen.out]; omega))
      clear hc hfk
      obtain ⟨f1, f2⟩ := f
      simp only at x1 x2
      have HD : Hid (decT (f1, f2) = (lim f1 / 2, lim f2 / 2)) := Lib.hid rfl
      have HLm := Lib.hid (limited_any f1 f2)
      have l1 := lim_bd f1
      have l2 := lim_bd f2
      generalize lim f1 = m1 at *
      generalize lim f2 = m2 at *
      have g1 : (0 : Int) ≤ (k : Int) := by omega
      have g2 : (k : Int) < (n : Int) := by omega
      have hgl : g < wr.heap.size := (hown.lt g rfl).2
      have own1 := hown.alloc (.cells #[.int .i64 f1, .int .i64 f2] 30)
      have B2 := hB.alloc (Nat.le_of_lt hgl) (.cells #[.int .i64 f1, .int .i64 f2] 30)
      have T1 : Mem.Blk (wr.alloc (.cells #[.int .i64 f1, .int .i64 f2] 30)) wr.heap.size 30 #[.int .i64 f1, .int .i64 f2] := Blk.fresh wr _ _
      have hlt1 := T1.lt
      have hsz : g < (wr.alloc (.cells #[.int .i64 f1, .int .i64 f2] 30)).heap.size := (own1.lt g rfl).2
      go_wp2_with fail
      generalize wr.alloc (.cells #[.int .i64 f1, .int .i64 f2] 30) = W at *
      refine (HLm.out _).mono ?_
      rintro e w3 ⟨rfl, b3⟩
      have own3 := own_below own1 b3
      have B3 := B2.trans (b3.mono (Nat.le_of_lt hsz))
      have T3 := T1.below b3 hlt1
      obtain ⟨c0, c1', z0, z1⟩ := two_cells T3
      have HFl := flat_get _ k _ HA.out
      have k1 := (own3.cellAt (k * 2) (by omega)).trans HFl.1
      have k2 := (own3.cellAt (k * 2 + 1) (by omega)).trans HFl.2
      have y1 := own3.frozenAt (k * 2)
      have y2 := own3.frozenAt (k * 2 + 1)
      have hne : ¬ wr.heap.size = g := by omega
      have hne2 : ¬ g = wr.heap.size := by omega
      have BF := Lib.hid ((((B3.setCell (p := ⟨wr.heap.size, 0, none⟩) (show g ≤ wr.heap.size by omega) (.int .i64 m1)).setCell (p := ⟨wr.heap.size, 1, none⟩) (show g ≤ wr.heap.size by omega) (.int .i64 m2)).setCell (p := ⟨g, k * 2, none⟩) (Nat.le_refl _) (.int .i64 (m1 / 2))).setCell (p := ⟨g, k * 2 + 1, none⟩) (Nat.le_refl _) (.int .i64 (m2 / 2)))
      have OF := Lib.hid (stored_pair (own_elsewhere (own_elsewhere own3 hne (i := 0) (.int .i64 m1)) hne (i := 1) (.int .i64 m2)) HA.out (m1 / 2) (m2 / 2))
      clear HFl B3 own3 T3 own1 T1 B2
      generalize wr.heap.size = r at *
      go_wp2_with fail
      go_roundw
      case rel => exact ⟨k + 1, by omega, by go_num, by rw [← HS.out, HD.out]; exact OF.out, BF.out⟩
      case measure => simp [intOf]; omega
    · obtain rfl : k = n := by omega
      have HE : Hid (halfL fs k = fs.map decT) := Lib.hid (halfL_all fs HLen.out)
      go_wp2_with fail
      go_ret
      exact makesP_of (n := k) rfl HM.out (by rw [← HE.out, HG0.out]; exact hown) (by rw [HG0.out]; exact hB)
theorem decL_snoc {fs : List (Int × Int)} {k : Nat} {f : Int × Int} (h : fs[k]? = some f) : (fs.take (k + 1)).map decT = (fs.take k).map decT ++ [decT f] := by
  have hk : k < fs.length := (List.getElem?_eq_some_iff.1 h).1
  rw [List.take_succ_eq_append_getElem hk, List.map_append, (List.getElem?_eq_some_iff.1 h).2]; rfl
set_option maxHeartbeats 1000000 in
theorem rdecay_any (A : Option Addr) (n c : Nat) (fs : List (Int × Int)) (w : World) (hl : fs.length = n) (hr : PairsAt w w.heap.size A fs) (hn : n ≤ 4398046511104) :
    Calls Try.prog 21 #[.slice A n c] w fun e w' => MakesP w w' e (fs.map decT) := by
  obtain ⟨i0, hi, hz0, hz1, hz2⟩ := info_parts info_tally
  have HLen := Lib.hid hl
  have HM : Hid ((fs.map decT).length = n) := Lib.hid (by simp [hl])
  clear hl
  go_enter Try.func21, Try.ntmps21
  go_wp2_with fail
  have own0 : (w.alloc (.cells #[] 30)).ownsRow w.heap.size 30 2 (.slice (some ⟨w.heap.size, 0, none⟩) 0 0) 0 [] := World.ownsRow_made _ _ 0 (Nat.le_refl _) (by unfold maxLen; omega) rfl
  have B0 : Below w.heap.size w (w.alloc (.cells #[] 30)) := (Below.refl _ _).alloc (Nat.le_refl _) _
  go_loopw [3, 4] (fun s3 s4 wr => ∃ k : Nat, k ≤ n ∧ s4 = .int .i64 (k : Nat) ∧ wr.ownsRow w.heap.size 30 2 s3 k (flat ((fs.take k).map decT)) ∧ Below w.heap.size w wr) (fun _ s4 _ => n - (intOf s4).toNat)
  case atStart => exact ⟨0, by omega, rfl, own0, B0⟩
  case round =>
    obtain ⟨k, hk, rfl, hrow, hB⟩ := hrel
    by_cases c1 : k < n
    · obtain ⟨f, hfk⟩ : ∃ f, fs[k]? = some f := ⟨fs[k]'(by rw [HLen.out]; omega), List.getElem?_eq_getElem _⟩
      obtain ⟨b, off, rfl, hlt, hc⟩ := (hr.below hB).at_ (i := k) (by rw [HLen.out]; omega)
      have x1 := (hc k f hfk).1
      have x2 := (hc k f hfk).2
      have HS := Lib.hid (decL_snoc hfk)
      clear hc hfk
      obtain ⟨f1, f2⟩ := f
      simp only at x1 x2
      have HD : Hid (decT (f1, f2) = (lim f1 / 2, lim f2 / 2)) := Lib.hid rfl
      have H1 := Lib.hid (rcnt_any f1)
      have H2 := Lib.hid (rcnt_any f2)
      have l1 := lim_bd f1
      have l2 := lim_bd f2
      generalize lim f1 = m1 at *
      generalize lim f2 = m2 at *
      generalize (fs.take k).map decT = F at *
      have g1 : (0 : Int) ≤ (k : Int) := by omega
      have g2 : (k : Int) < (n : Int) := by omega
      have q1 : IntKind.i64.wrap (m1.tdiv 2) = m1 / 2 := by rw [Int.tdiv_eq_ediv_of_nonneg l1.1]; simp [IntKind.wrap, IntKind.bits, IntKind.signed]; omega
      have q2 : IntKind.i64.wrap (m2.tdiv 2) = m2 / 2 := by rw [Int.tdiv_eq_ediv_of_nonneg l2.1]; simp [IntKind.wrap, IntKind.bits, IntKind.signed]; omega
      have hsz := hB.size
      go_wp2_with fail
      have d0 : wr.drew.cell? ⟨b, off + k * 2, none⟩ = some (.int .i64 f1) := x1
      have d1 : wr.drew.cell? ⟨b, off + k * 2 + 1, none⟩ = some (.int .i64 f2) := x2
      have Bl : Below w.heap.size w (wr.drew.alloc (.cells #[.int .i64 (m1 / 2), .int .i64 (m2 / 2)] 30)) := hB.drew.alloc hsz _
      have s0 : (wr.drew.alloc (.cells #[.int .i64 (m1 / 2), .int .i64 (m2 / 2)] 30)).cell? ⟨b, off + k * 2, none⟩ = some (.int .i64 f1) := (((Below.refl wr.drew.heap.size wr.drew).alloc (Nat.le_refl _) _).cell (p := ⟨b, off + k * 2, none⟩) (show b < wr.heap.size by omega)).trans d0
      have s1 : (wr.drew.alloc (.cells #[.int .i64 (m1 / 2), .int .i64 (m2 / 2)] 30)).cell? ⟨b, off + k * 2 + 1, none⟩ = some (.int .i64 f2) := (((Below.refl wr.drew.heap.size wr.drew).alloc (Nat.le_refl _) _).cell (p := ⟨b, off + k * 2 + 1, none⟩) (show b < wr.heap.size by omega)).trans d1
      have bs : (wr.drew.alloc (.cells #[.int .i64 (m1 / 2), .int .i64 (m2 / 2)] 30)).ownsRow w.heap.size 30 2 u3 k (flat F) := hrow.drew.alloc _
      have pl : PairsAt (wr.drew.alloc (.cells #[.int .i64 (m1 / 2), .int .i64 (m2 / 2)] 30)) (wr.drew.alloc (.cells #[.int .i64 (m1 / 2), .int .i64 (m2 / 2)] 30)).heap.size (some ⟨wr.heap.size, 0, none⟩) [(m1 / 2, m2 / 2)] := PairsAt.lit wr.drew [(m1 / 2, m2 / 2)] _ _ rfl
      go_region_held3 (fun w' => w'.cell? ⟨b, off + k * 2, none⟩ = some (.int .i64 f1) ∧ w'.cell? ⟨b, off + k * 2 + 1, none⟩ = some (.int .i64 f2)) (first | exact ⟨d0, d1⟩ | exact ⟨s0, s1⟩ | exact hS6) (first
        | (go_at_call_of 30 f1; refine (H1.out _).mono ?_; rintro e w' ⟨rfl, rfl⟩)
        | (go_at_call_of 30 f2; refine (H2.out _).mono ?_; rintro e w' ⟨rfl, rfl⟩)
        | (refine step_append_pairs rfl (.tmp 12) (.tmp 28) 22 rfl w.heap.size 30 i0 _ 16 Try.underlying22 hi hz0 hz1 hz2 rfl _ k (flat F) rfl bs _ _ 1 1 [(m1 / 2, m2 / 2)] rfl rfl pl (by unfold maxLen; omega) (by omega) (by simp; omega) ?_; intro v6 w6 own6 b6 _; have hS6 : w6.cell? ⟨b, off + k * 2, none⟩ = some (.int .i64 f1) ∧ w6.cell? ⟨b, off + k * 2 + 1, none⟩ = some (.int .i64 f2) := ⟨(b6.cell (p := ⟨b, off + k * 2, none⟩) hlt).trans s0, (b6.cell (p := ⟨b, off + k * 2 + 1, none⟩) hlt).trans s1⟩; have B6 := Bl.trans b6))
      go_wp2_with fail
      go_roundw
      case rel => exact ⟨k + 1, by omega, by go_num, by rw [HS.out, flat_append, HD.out]; exact own6, B6⟩
      case measure => simp [intOf]; omega
    · obtain rfl : k = n := by omega
      have HE : Hid ((fs.take k).map decT = fs.map decT) := Lib.hid (by rw [List.take_of_length_le (by rw [HLen.out]; exact Nat.le_refl _)])
      go_wp2_with fail
      go_ret
      exact makesP_of (n := k) rfl HM.out (by rw [← HE.out]; exact hrow) hB
end Go.Proofs.Ytngkpnkjapdnaaa.As
