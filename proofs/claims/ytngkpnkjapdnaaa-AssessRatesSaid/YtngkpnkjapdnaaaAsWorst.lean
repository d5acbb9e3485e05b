/- The worst bad channel of a map, by the layer: a contract over the program. -/
import Derived.Test.YtngkpnkjapdnaaaAsDecay
set_option linter.unusedVariables false
set_option linter.unusedSimpArgs false
namespace Go.Proofs.Ytngkpnkjapdnaaa.As
open Go.RowKit Mem Chm Base

/-- Pairs that lie at an address. -/
def CellsAt (w : World) (b off : Nat) (fs : List (Int × Int)) : Prop := ∀ j f, fs[j]? = some f → w.cell? ⟨b, off + j * 2, none⟩ = some (.int .i64 f.1) ∧ w.cell? ⟨b, off + j * 2 + 1, none⟩ = some (.int .i64 f.2)
theorem CellsAt.below {w w' : World} {B b off : Nat} {fs : List (Int × Int)} (h : CellsAt w b off fs) (hb : Below B w w') (hlt : b < B) : CellsAt w' b off fs :=
  fun j p hj => ⟨(hb.cell (p := ⟨b, off + j * 2, none⟩) hlt).trans (h j p hj).1, (hb.cell (p := ⟨b, off + j * 2 + 1, none⟩) hlt).trans (h j p hj).2⟩
theorem CellsAt.drew {w : World} {b off : Nat} {fs : List (Int × Int)} (h : CellsAt w b off fs) : CellsAt w.drew b off fs := h
theorem CellsAt.four {w : World} {b off i j : Nat} {fs : List (Int × Int)} {f1 f2 d1 d2 : Int} (h : CellsAt w b off fs) (hi : fs[i]? = some (f1, f2)) (hj : fs[j]? = some (d1, d2)) :
    w.cell? ⟨b, off + i * 2, none⟩ = some (.int .i64 f1) ∧ w.cell? ⟨b, off + i * 2 + 1, none⟩ = some (.int .i64 f2) ∧ w.cell? ⟨b, off + j * 2, none⟩ = some (.int .i64 d1) ∧ w.cell? ⟨b, off + j * 2 + 1, none⟩ = some (.int .i64 d2) :=
  ⟨(h i _ hi).1, (h i _ hi).2, (h j _ hj).1, (h j _ hj).2⟩
/-- A channel, or -1. -/
def oz : Option Nat → Int
  | none => -1
  | some c => c
theorem take_snoc_at {l : List Nat} {k c : Nat} (h : l[k]? = some c) : l.take (k + 1) = l.take k ++ [c] := by
  have hk : k < l.length := (List.getElem?_eq_some_iff.1 h).1
  rw [List.take_succ_eq_append_getElem hk, (List.getElem?_eq_some_iff.1 h).2]
theorem upd_out {fs : List (Int × Int)} {b : Option Nat} {c : Nat} (h : badB (tal fs c) = false) : upd fs b c = b := by unfold upd; rw [if_neg (by rw [h]; decide)]
theorem upd_first {fs : List (Int × Int)} {c : Nat} (h : badB (tal fs c) = true) : upd fs none c = some c := by unfold upd; rw [if_pos h]
theorem upd_more {fs : List (Int × Int)} {c d : Nat} (h : badB (tal fs c) = true) (hr : rateZ (tal fs d) < rateZ (tal fs c)) : upd fs (some d) c = some c := by unfold upd; rw [if_pos h]; simp only; rw [if_pos hr]
theorem upd_less {fs : List (Int × Int)} {c d : Nat} (hr : ¬ rateZ (tal fs d) < rateZ (tal fs c)) : upd fs (some d) c = some d := by unfold upd; simp only; rw [if_neg hr]; split <;> rfl
theorem bad_to {a b : Int} {r : Bool} (h : badB (a, b) = r) (w : World) :
    Calls Try.prog 18 #[.agg #[.int .i64 a, .int .i64 b]] w fun e w' => e = .returned (.bool r) ∧ Below w.heap.size w w' := by
  rw [← h]; exact bad_any a b w
theorem rbad_to {a b : Int} {r : Bool} (h : badB (a, b) = r) (w : World) :
    Calls Try.prog 19 #[.agg #[.int .i64 a, .int .i64 b]] w fun e w' => e = .returned (.bool r) ∧ Below w.heap.size w w' := by
  rw [← h]; exact rbad_any a b w
theorem worst_in {fs : List (Int × Int)} {pre : List Nat} {d n : Nat} (hl : fs.length = n) (h : wst fs pre = some d) : d < n ∧ d ∈ pre := by
  have := worst_of fs pre
  rw [h] at this
  refine ⟨?_, this.1⟩
  rcases Nat.lt_or_ge d n with h' | h'
  · exact h'
  · have hb := this.2.1
    rw [tal_out (by omega)] at hb; cases hb
set_option maxRecDepth 100000 in
set_option maxHeartbeats 4000000 in
theorem worst_any (A : Option Addr) (n c : Nat) (fs : List (Int × Int)) (m : Nat) (w : World) (hl : fs.length = n) (hr : PairsAt w w.heap.size A fs) (hn : n ≤ 8796093022208) (hm : m ≤ 18446744073709551615) :
    Calls Try.prog 32 #[.slice A n c, .int .u64 m] w fun e w' => e = .returned (.int .i64 (oz (wst fs (chans m)))) ∧ Below w.heap.size w w' := by
  have HLen := Lib.hid hl
  have hle := chans_le m
  have HLs : Hid (∀ w, Calls Try.prog 39 #[.int .u64 m] w fun e w' => ∃ A c, e = .returned (.slice A (chans m).length c) ∧ Ints .i64 w' w'.heap.size A (zs (chans m)) ∧ Below w.heap.size w w') := Lib.hid fun w =>
    (list_any m w hm).mono fun e w' h => by
      obtain ⟨A, c, he, _, hi, hb⟩ := h.read (zs_len (chans m))
      exact ⟨A, c, he, hi, hb⟩
  have HC : Hid (∀ k, k < (chans m).length → ∃ cc, (chans m)[k]? = some cc ∧ cc < 37 ∧ (zs (chans m)).getD k 0 = (cc : Int)) := Lib.hid fun k hk => by
    refine ⟨(chans m)[k], List.getElem?_eq_getElem hk, hasN_lt (mem_chans.1 (List.getElem_mem hk)), ?_⟩
    unfold zs
    rw [List.getD_eq_getElem?_getD, List.getElem?_map, List.getElem?_eq_getElem hk]; rfl
  have hzl := zs_len (chans m)
  have HE : Hid ((chans m).take (chans m).length = chans m) := Lib.hid (List.take_length)
  generalize zs (chans m) = Z at *
  generalize chans m = cs at *
  obtain ⟨L, hL⟩ : ∃ L, cs.length = L := ⟨_, rfl⟩
  rw [hL] at HLs HC hzl HE hle
  clear hL hl
  go_enter Try.func32, Try.ntmps32
  go_wp2_with (go_at_call 39; refine (HLs.out _).mono ?_; rintro e W ⟨A2, c2, rfl, I2, b2⟩)
  go_loopw [5, 11] (fun s5 s11 wr => ∃ k : Nat, k ≤ L ∧ s11 = .int .i64 (k : Nat) ∧ s5 = .int .i64 (oz (wst fs (cs.take k))) ∧ Below W.heap.size W wr) (fun _ s11 _ => L - (intOf s11).toNat)
  case atStart => exact ⟨0, by omega, rfl, rfl, Below.refl _ _⟩
  case round =>
    obtain ⟨k, hk, rfl, rfl, hB⟩ := hrel
    by_cases c1 : k < L
    · obtain ⟨cc, hcc, hc37, hz⟩ := HC.out k c1
      have HS : Hid (wst fs (cs.take (k + 1)) = upd fs (wst fs (cs.take k)) cc) := Lib.hid (by rw [take_snoc_at hcc, wst_snoc])
      have HW : Hid (∀ d, wst fs (cs.take k) = some d → d < n) := Lib.hid fun d h => (worst_in HLen.out h).1
      clear hcc
      generalize wst fs (cs.take k) = best at *
      obtain ⟨g, o, rfl, hg, hcell⟩ := I2.at_ (i := k) (by omega)
      have hc := (hB.cell (p := ⟨g, o + k, none⟩) hg).trans (hcell k (by omega))
      rw [hz] at hc
      clear hcell hz
      have g1 : (0 : Int) ≤ (k : Int) := by omega
      have g2 : (k : Int) < (L : Int) := by omega
      have PB := hr.below (b2.trans (hB.mono b2.size))
      have hWs := b2.size
      have hrs := hB.size
      by_cases h1 : n ≤ cc
      · have HU : Hid (upd fs best cc = best) := Lib.hid (upd_out (by rw [tal_out (by rw [HLen.out]; exact h1)]; rfl))
        have g3 : decide ((n : Int) ≤ (cc : Int)) = true := by simp; omega
        clear HW
        go_wp2_with fail
        go_roundw
        case rel => exact ⟨k + 1, by omega, by go_num, by rw [HS.out, HU.out], hB⟩
        case measure => simp [intOf]; omega
      · obtain ⟨f, hf⟩ : ∃ f, fs[cc]? = some f := ⟨fs[cc]'(by rw [HLen.out]; omega), List.getElem?_eq_getElem _⟩
        have ht := tal_in hf
        obtain ⟨b, off, rfl, hlt, hcl⟩ := PB.at_ (i := cc) (by rw [HLen.out]; omega)
        have hCl : CellsAt wr b off fs := hcl
        clear hcl
        obtain ⟨f1, f2⟩ := f
        have x1 := (hCl cc _ hf).1
        have x2 := (hCl cc _ hf).2
        simp only at x1 x2
        have g3 : decide ((n : Int) ≤ (cc : Int)) = false := by simp; omega
        have g4 : (0 : Int) ≤ (cc : Int) := by omega
        have g5 : (cc : Int) < (n : Int) := by omega
        by_cases hbd : badB (f1, f2) = true
        · have HB := Lib.hid (bad_to hbd)
          cases hbest : best with
          | none =>
            have HU : Hid (upd fs none cc = some cc) := Lib.hid (upd_first (by rw [ht]; exact hbd))
            rw [hbest] at HS
            clear HW hbd hbest
            have hoz : oz none = -1 := rfl
            rw [hoz]
            go_wp2_with (go_at_call 18; refine (HB.out _).mono ?_; rintro e w3 ⟨rfl, b3⟩; have B3 := hB.trans (b3.mono hrs))
            refine wp_region_held_drew (S := (fun _ => True)) (by kernel_rfl) ?_ (fun hHeld => ?_)
            · exact trivial
            refine wpAnyH_take (i := 0) (v := .int .i64 (-1)) rfl (by kernel_rfl) (by kernel_rfl) (by kernel_rfl) (fun _ _ _ h => h) (Or.inl ⟨by first | rfl | go_simp, by intro w9 hSw; (try dsimp only at hSw); go_simp⟩) (by assumption) ?_
            simp only [List.getElem_toArray, List.getElem_cons_zero, List.getElem_cons_succ, Act.put, List.setIfInBounds_toArray, List.set_cons_zero, List.set_cons_succ]
            refine wpAnyH_take (i := 1) (v := .bool true) rfl (by kernel_rfl) (by kernel_rfl) (by kernel_rfl) (fun _ _ _ h => h) (Or.inl ⟨by first | rfl | go_simp, by intro w9 hSw; (try dsimp only at hSw); go_simp⟩) (by assumption) ?_
            simp only [List.getElem_toArray, List.getElem_cons_zero, List.getElem_cons_succ, Act.put, List.setIfInBounds_toArray, List.set_cons_zero, List.set_cons_succ]
            refine wpAnyH_take (i := 2) (v := .bool true) rfl (by kernel_rfl) (by kernel_rfl) (by kernel_rfl) (fun _ _ _ h => h) (Or.inl ⟨by first | rfl | go_simp, by intro w9 hSw; (try dsimp only at hSw); go_simp⟩) (by assumption) ?_
            simp only [List.getElem_toArray, List.getElem_cons_zero, List.getElem_cons_succ, Act.put, List.setIfInBounds_toArray, List.set_cons_zero, List.set_cons_succ]
            refine wpAnyH_take (i := 3) (v := undef) rfl (by kernel_rfl) (by kernel_rfl) (by kernel_rfl) (fun _ _ _ h => h) (Or.inr ⟨by first | rfl | go_simp, rfl⟩) (by assumption) ?_
            simp only [List.getElem_toArray, List.getElem_cons_zero, List.getElem_cons_succ, Act.put, List.setIfInBounds_toArray, List.set_cons_zero, List.set_cons_succ]
            refine wpAnyH_take (i := 4) (v := undef) rfl (by kernel_rfl) (by kernel_rfl) (by kernel_rfl) (fun _ _ _ h => h) (Or.inr ⟨by first | rfl | go_simp, rfl⟩) (by assumption) ?_
            simp only [List.getElem_toArray, List.getElem_cons_zero, List.getElem_cons_succ, Act.put, List.setIfInBounds_toArray, List.set_cons_zero, List.set_cons_succ]
            refine wpAnyH_take (i := 5) (v := undef) rfl (by kernel_rfl) (by kernel_rfl) (by kernel_rfl) (fun _ _ _ h => h) (Or.inr ⟨by first | rfl | go_simp, rfl⟩) (by assumption) ?_
            simp only [List.getElem_toArray, List.getElem_cons_zero, List.getElem_cons_succ, Act.put, List.setIfInBounds_toArray, List.set_cons_zero, List.set_cons_succ]
            refine wpAnyH_take (i := 6) (v := undef) rfl (by kernel_rfl) (by kernel_rfl) (by kernel_rfl) (fun _ _ _ h => h) (Or.inr ⟨by first | rfl | go_simp, rfl⟩) (by assumption) ?_
            simp only [List.getElem_toArray, List.getElem_cons_zero, List.getElem_cons_succ, Act.put, List.setIfInBounds_toArray, List.set_cons_zero, List.set_cons_succ]
            refine wpAnyH_take (i := 7) (v := undef) rfl (by kernel_rfl) (by kernel_rfl) (by kernel_rfl) (fun _ _ _ h => h) (Or.inr ⟨by first | rfl | go_simp, rfl⟩) (by assumption) ?_
            simp only [List.getElem_toArray, List.getElem_cons_zero, List.getElem_cons_succ, Act.put, List.setIfInBounds_toArray, List.set_cons_zero, List.set_cons_succ]
            refine wpAnyH_take (i := 8) (v := undef) rfl (by kernel_rfl) (by kernel_rfl) (by kernel_rfl) (fun _ _ _ h => h) (Or.inr ⟨by first | rfl | go_simp, rfl⟩) (by assumption) ?_
            simp only [List.getElem_toArray, List.getElem_cons_zero, List.getElem_cons_succ, Act.put, List.setIfInBounds_toArray, List.set_cons_zero, List.set_cons_succ]
            refine wpAnyH_take (i := 9) (v := undef) rfl (by kernel_rfl) (by kernel_rfl) (by kernel_rfl) (fun _ _ _ h => h) (Or.inr ⟨by first | rfl | go_simp, rfl⟩) (by assumption) ?_
            simp only [List.getElem_toArray, List.getElem_cons_zero, List.getElem_cons_succ, Act.put, List.setIfInBounds_toArray, List.set_cons_zero, List.set_cons_succ]
            refine wpAnyH_take (i := 10) (v := undef) rfl (by kernel_rfl) (by kernel_rfl) (by kernel_rfl) (fun _ _ _ h => h) (Or.inr ⟨by first | rfl | go_simp, rfl⟩) (by assumption) ?_
            simp only [List.getElem_toArray, List.getElem_cons_zero, List.getElem_cons_succ, Act.put, List.setIfInBounds_toArray, List.set_cons_zero, List.set_cons_succ]
            refine wpAnyH_take (i := 11) (v := undef) rfl (by kernel_rfl) (by kernel_rfl) (by kernel_rfl) (fun _ _ _ h => h) (Or.inr ⟨by first | rfl | go_simp, rfl⟩) (by assumption) ?_
            simp only [List.getElem_toArray, List.getElem_cons_zero, List.getElem_cons_succ, Act.put, List.setIfInBounds_toArray, List.set_cons_zero, List.set_cons_succ]
            refine wpAnyH_take (i := 12) (v := undef) rfl (by kernel_rfl) (by kernel_rfl) (by kernel_rfl) (fun _ _ _ h => h) (Or.inr ⟨by first | rfl | go_simp, rfl⟩) (by assumption) ?_
            simp only [List.getElem_toArray, List.getElem_cons_zero, List.getElem_cons_succ, Act.put, List.setIfInBounds_toArray, List.set_cons_zero, List.set_cons_succ]
            refine wpAnyH_take (i := 13) (v := undef) rfl (by kernel_rfl) (by kernel_rfl) (by kernel_rfl) (fun _ _ _ h => h) (Or.inr ⟨by first | rfl | go_simp, rfl⟩) (by assumption) ?_
            simp only [List.getElem_toArray, List.getElem_cons_zero, List.getElem_cons_succ, Act.put, List.setIfInBounds_toArray, List.set_cons_zero, List.set_cons_succ]
            refine wpAnyH_take (i := 14) (v := .bool true) rfl (by kernel_rfl) (by kernel_rfl) (by kernel_rfl) (fun _ _ _ h => h) (Or.inl ⟨by first | rfl | go_simp, by intro w9 hSw; (try dsimp only at hSw); go_simp⟩) (by assumption) ?_
            simp only [List.getElem_toArray, List.getElem_cons_zero, List.getElem_cons_succ, Act.put, List.setIfInBounds_toArray, List.set_cons_zero, List.set_cons_succ]
            refine wpAnyH_done (by kernel_rfl) ?_ _
            go_simp
            go_wp2_with fail
            go_roundw
            case rel => exact ⟨k + 1, by omega, by go_num, by rw [HS.out, HU.out]; rfl, B3.drew⟩
            case measure => simp [intOf]; omega
          | some d =>
            have hd := HW.out d hbest
            obtain ⟨f', hf'⟩ : ∃ f, fs[d]? = some f := ⟨fs[d]'(by rw [HLen.out]; omega), List.getElem?_eq_getElem _⟩
            have ht' := tal_in hf'
            obtain ⟨e1, e2⟩ := f'
            have HFc := Lib.hid hf
            have HFd := Lib.hid hf'
            have HR1 := Lib.hid (rate_any f1 f2)
            have HR2 := Lib.hid (rate_any e1 e2)
            have HUm : Hid (rateZ (e1, e2) < rateZ (f1, f2) → upd fs (some d) cc = some cc) := Lib.hid fun h => upd_more (by rw [ht]; exact hbd) (by rw [ht, ht']; exact h)
            have HUl : Hid (¬ rateZ (e1, e2) < rateZ (f1, f2) → upd fs (some d) cc = some d) := Lib.hid fun h => upd_less (by rw [ht, ht']; exact h)
            have hoz : oz (some d) = (d : Int) := rfl
            have hozc : Hid (oz (some cc) = (cc : Int)) := Lib.hid rfl
            have hozd : Hid (oz (some d) = (d : Int)) := Lib.hid rfl
            rw [hbest] at HS
            rw [hoz]
            have g6 : (0 : Int) ≤ (d : Int) := by omega
            have g7 : (d : Int) < (n : Int) := by omega
            have g8 : ((d : Int) == -1) = false := beq_false_of_ne (by omega)
            clear HW hbd hbest ht ht' hf hf' hoz
            generalize rateZ (f1, f2) = R1 at *
            generalize rateZ (e1, e2) = R2 at *
            go_wp2_with (go_at_call 18; refine (HB.out _).mono ?_; rintro e w3 ⟨rfl, b3⟩; have B3 := (hB.trans (b3.mono hrs)).drew; have hb3 : b < w3.drew.heap.size := Nat.lt_of_lt_of_le hlt (Nat.le_trans hWs (Nat.le_trans hrs b3.size)); have C3 := (hCl.below b3 (Nat.lt_of_lt_of_le hlt (Nat.le_trans hWs hrs))).drew)
            clear x1 x2
            by_cases hR : R2 < R1
            · have HU := Lib.hid (HUm.out hR)
              have hRd : decide (R2 < R1) = true := decide_eq_true hR
              clear HUm HUl hR
              go_region_held3 (fun w' => w'.cell? ⟨b, off + cc * 2, none⟩ = some (.int .i64 f1) ∧ w'.cell? ⟨b, off + cc * 2 + 1, none⟩ = some (.int .i64 f2) ∧ w'.cell? ⟨b, off + d * 2, none⟩ = some (.int .i64 e1) ∧ w'.cell? ⟨b, off + d * 2 + 1, none⟩ = some (.int .i64 e2)) (first | exact C5.four HFc.out HFd.out | exact C4.four HFc.out HFd.out | exact C3.four HFc.out HFd.out) (first
                | (go_at_call_of 16 f1; refine (HR1.out _).mono ?_; rintro e w4 ⟨rfl, b4⟩; have B4 := B3.trans (b4.mono B3.size); have hb4 := Nat.lt_of_lt_of_le hb3 b4.size; have C4 := C3.below b4 hb3)
                | (go_at_call_of 16 e1; refine (HR2.out _).mono ?_; rintro e w5 ⟨rfl, b5⟩; have B5 := B4.trans (b5.mono B4.size); have C5 := C4.below b5 hb4))
              go_wp2_with fail
              go_roundw
              case rel => exact ⟨k + 1, by omega, by go_num, by rw [HS.out, HU.out, hozc.out], B5⟩
              case measure => simp [intOf]; omega
            · have HU := Lib.hid (HUl.out (by omega))
              have hRd : decide (R2 < R1) = false := decide_eq_false hR
              clear HUm HUl hR
              go_region_held3 (fun w' => w'.cell? ⟨b, off + cc * 2, none⟩ = some (.int .i64 f1) ∧ w'.cell? ⟨b, off + cc * 2 + 1, none⟩ = some (.int .i64 f2) ∧ w'.cell? ⟨b, off + d * 2, none⟩ = some (.int .i64 e1) ∧ w'.cell? ⟨b, off + d * 2 + 1, none⟩ = some (.int .i64 e2)) (first | exact C5.four HFc.out HFd.out | exact C4.four HFc.out HFd.out | exact C3.four HFc.out HFd.out) (first
                | (go_at_call_of 16 f1; refine (HR1.out _).mono ?_; rintro e w4 ⟨rfl, b4⟩; have B4 := B3.trans (b4.mono B3.size); have hb4 := Nat.lt_of_lt_of_le hb3 b4.size; have C4 := C3.below b4 hb3)
                | (go_at_call_of 16 e1; refine (HR2.out _).mono ?_; rintro e w5 ⟨rfl, b5⟩; have B5 := B4.trans (b5.mono B4.size); have C5 := C4.below b5 hb4))
              go_wp2_with fail
              go_roundw
              case rel => exact ⟨k + 1, by omega, by go_num, by rw [HS.out, HU.out, hozd.out], B5⟩
              case measure => simp [intOf]; omega
        · have HB := Lib.hid (bad_to (by simpa using hbd : badB (f1, f2) = false))
          have HU : Hid (upd fs best cc = best) := Lib.hid (upd_out (by rw [ht]; simpa using hbd))
          clear HW hbd
          go_wp2_with (go_at_call 18; refine (HB.out _).mono ?_; rintro e w3 ⟨rfl, b3⟩; have B3 := hB.trans (b3.mono hrs))
          go_roundw
          case rel => exact ⟨k + 1, by omega, by go_num, by rw [HS.out, HU.out], B3⟩
          case measure => simp [intOf]; omega
    · obtain rfl : k = L := by omega
      rw [HE.out]
      go_wp2_with fail
      go_ret
      exact ⟨rfl, b2.trans (hB.mono b2.size)⟩
end Go.Proofs.Ytngkpnkjapdnaaa.As
