/- The statement that a beginning of a file is read as far as it is complete, walked: the long way. -/
import Derived.Test.YtkbhmgdmkamcfaaDoorCapLawH2
import Derived.Test.YtkbhmgdmkamcfaaDoorAirArgs
import Derived.Deep.CutRange
import Derived.Deep.RegionHeld3
import Derived.WalkLawsBesides
set_option linter.unusedVariables false
set_option linter.unusedSimpArgs false
set_option maxRecDepth 100000
namespace Go.Proofs.YtkbhmgdmkamcfaaDoor.Cap
open Go.RowKit Mem Rw Air Base Oct

/-- One element of a slice, as a slice. -/
theorem txs_one {w : World} {B b off : Nat} {l : List Tx} {i : Nat} {x : Tx} (h : TxsAt w B (some ⟨b, off, none⟩) l) (hi : l[i]? = some x) : TxsAt w B (some ⟨b, off + i * 5, none⟩) [x] := by
  obtain ⟨h1, h2⟩ := h
  have hpos : 0 < l.length := by have := (List.getElem?_eq_some_iff.1 hi).1; omega
  obtain ⟨b', off', e, hb, hc⟩ := ListAt.open_ h1 sizT (by decide) hpos
  cases e
  refine ⟨.inr ⟨b, off + i * 5, rfl, hb, fun q u hq => ?_⟩, fun y hy => ?_⟩
  · obtain ⟨j, k, y, rfl, hj, hk⟩ := Rd.flat_inv sizT [x] q u hq
    have hj0 : j = 0 := by
      have := (List.getElem?_eq_some_iff.1 hj).1
      simp at this; exact this
    subst hj0
    obtain rfl : x = y := by simpa using hj
    have := hc i x hi k u hk
    rw [Nat.zero_mul, Nat.zero_add]; exact this
  · obtain rfl : y = x := by simpa using hy
    exact h2 y (List.mem_of_getElem? hi)
theorem slice_one (b off n c i i1 : Nat) (h1 : i + 1 = i1) (h : i < c) (w : World) : (Instr.slice 35 (.slice (some ⟨b, off, none⟩) n c) (some (.int .i64 (i : Int))) (some (.int .i64 (i1 : Int))) none).run Tryd.prog w = .ok (.slice (some ⟨b, off + i * 5, none⟩) 1 (c - i)) w := by
  subst h1
  have hs : ∀ w' : World, (sizeOf (Tryd.prog.elem 35)).run Tryd.prog w' = .ok 5 w' := fun w' => by kernel_rfl
  rw [run_slice_lh w 35 (some ⟨b, off, none⟩) n c (by kernel_rfl) .i64 .i64 (i : Int) ((i + 1 : Nat) : Int) (by omega) (by omega) (by omega), hs]
  have e1 : ((i + 1 : Nat) : Int).toNat - (i : Int).toNat = 1 := by omega
  have e2 : (i : Int).toNat = i := by omega
  simp only [Result.andThen, sliced, e1, e2]
  rw [if_neg (by omega)]
  simp [plain_add]
set_option maxHeartbeats 4000000 in
theorem whole_main (A : Option Addr) (n c : Nat) (xs : List Tx) (K : Nat) (w : World) (hx : xs.length = n) (ta : TxsAt w w.heap.size A xs) (hb : ∀ x ∈ xs, Bytes x.bs) (h64 : (n : Int) ≤ 64) (ok : okL none (xs.map Tx.tr)) (hT : Tabs w) (h4 : 4 ≤ K) (hKM : K ≤ 4 + (bytesL (xs.map Tx.tr)).length) (hcn : n ≤ c) :
    Calls Tryd.prog 7 #[.slice A n c, .int .i64 (K : Int)] w fun e w' => e = .returned (.bool true) ∧ Below w.heap.size w w' := by
  obtain ⟨i0, hi, hz0, hz1, hz2⟩ := info_parts Base.info_u8
  obtain ⟨M, hM⟩ : ∃ M, 4 + (bytesL (xs.map Tx.tr)).length = M := ⟨_, rfl⟩
  have HL := Lib.hid (tabs_lives w hT)
  have HF := Lib.hid (few_true h64 A c)
  have HC : Hid (∀ w', Below w.heap.size w w' → Calls Tryd.prog 18 #[.slice A n c] w' fun e w2 => ∃ A3 c3 l3, e = .returned (.slice A3 n c3) ∧ n ≤ c3 ∧ l3.length = n ∧ l3.map Tx.tr = xs.map Tx.tr ∧ TxsAt w2 w2.heap.size A3 l3 ∧ Below w'.heap.size w' w2) := Lib.hid fun w' bb => copy_any A n c xs w' hx (by omega) (ta.later bb)
  have HW : Hid (∀ w' A3 c3 l3, Below w.heap.size w w' → n ≤ c3 → l3.length = n → l3.map Tx.tr = xs.map Tx.tr → TxsAt w' w'.heap.size A3 l3 → Calls Tryd.prog 17 #[.slice A3 n c3] w' fun e w2 => ∃ A' c', e = .returned (.tuple #[.slice A' M c', .int .i64 0]) ∧ M ≤ c' ∧ Ints .u8 w2 w2.heap.size A' (sigL ++ bytesL (xs.map Tx.tr)) ∧ Below w'.heap.size w' w2) := Lib.hid fun w' A3 c3 l3 bb q1 q2 q3 q4 =>
    (write_copy A3 n c3 xs l3 w' q2 (by omega) q1 q4 q3 hb (hT.below bb)).mono fun e w2 ⟨h, hbel⟩ => h.elim (fun h => absurd ok h.1) fun ⟨_, A', c', h1, h2, h3⟩ => ⟨A', c', by rw [← hM]; exact h1, by omega, h3, hbel⟩
  have HK : Hid (((sigL ++ bytesL (xs.map Tx.tr)).take K).length = K) := Lib.hid (by rw [List.length_take, List.length_append, sig_len]; omega)
  have HB : Hid (Bytes ((sigL ++ bytesL (xs.map Tx.tr)).take K)) := Lib.hid (bytes_take (bytes_append (by intro z hz; simp [sigL] at hz; omega) (file_bytes ok (by intro r hr; obtain ⟨x, hx', rfl⟩ := List.mem_map.1 hr; exact hb x hx'))) K)
  have hKb : K ≤ 20000 := by
    have h1 := offL_all (xs.map Tx.tr)
    have h2 := offL_le ok (xs.map Tx.tr).length (Nat.le_refl _)
    rw [List.length_map, hx] at h2
    rw [List.length_map, hx] at h1
    omega
  have HR : Hid (∀ w' A5 c5, Below w.heap.size w w' → K ≤ c5 → c5 ≤ 9223372036854775807 → Ints .u8 w' w'.heap.size A5 ((sigL ++ bytesL (xs.map Tx.tr)).take K) → Calls Tryd.prog 20 #[.slice A5 K c5] w' fun e w2 => RdPost w' ((sigL ++ bytesL (xs.map Tx.tr)).take K) e w2) := Lib.hid fun w' A5 c5 bb q1 q2 q3 => read_any A5 K c5 _ w' HK.out q1 q2 (by omega) HB.out q3 (hT.below bb).1
  have g1 : ¬ (K : Int) < 0 ∧ ¬ (M : Int) < (K : Int) ∧ ¬ (K : Int) < 4 ∧ (0 : Int) ≤ (K : Int) ∧ K ≤ M ∧ ¬ K < 4 := by omega
  have d1 : decide ((K : Int) < 0) = false := by simp
  have d2 : decide ((M : Int) < (K : Int)) = false := by simp; omega
  have d3 : decide (M < K) = false := by simp; omega
  obtain ⟨j, hj, hjK, hjr⟩ := cut_at (xs.map Tx.tr) K h4 hKM
  have eR := readA_cut ok j K hj h4 hjK hjr
  obtain ⟨code, hcode⟩ : ∃ code : Int, (if K = 4 + offL (xs.map Tx.tr) j then (0 : Int) else 3) = code := ⟨_, rfl⟩
  rw [hcode] at eR
  have HCd : Hid ((K = 4 + offL (xs.map Tx.tr) j ∧ code = 0) ∨ (K ≠ 4 + offL (xs.map Tx.tr) j ∧ code = 3)) := Lib.hid (by
    by_cases h : K = 4 + offL (xs.map Tx.tr) j
    · rw [if_pos h] at hcode; exact .inl ⟨h, hcode.symm⟩
    · rw [if_neg h] at hcode; exact .inr ⟨h, hcode.symm⟩)
  have HE := Lib.hid eR
  have hn64 : n ≤ 64 := by omega
  have hjn : j ≤ n := by rw [List.length_map, hx] at hj; exact hj
  have HO : Hid (∀ i, i < j → ∃ x, xs[i]? = some x ∧ offL (xs.map Tx.tr) (i + 1) = offL (xs.map Tx.tr) i + 16 + x.bs.length ∧ offL (xs.map Tx.tr) (i + 1) + 4 ≤ K) := Lib.hid fun i hij => by
    obtain ⟨x, hxi, _⟩ := has hx (show i < n by omega)
    refine ⟨x, hxi, offL_succ (xs.map Tx.tr) (r := x.tr) (by rw [List.getElem?_map, hxi]; rfl), ?_⟩
    have := offL_mono (xs.map Tx.tr) (show i + 1 ≤ j by omega) hj
    omega
  have HJ : Hid ((j = n ∧ K = 4 + offL (xs.map Tx.tr) j) ∨ (j < n ∧ ∃ x, xs[j]? = some x ∧ K < 4 + offL (xs.map Tx.tr) j + 16 + x.bs.length ∧ x.bs.length ≤ 260)) := Lib.hid (by
    rcases hjr with ⟨h, h'⟩ | ⟨r, h, h'⟩
    · rw [List.length_map, hx] at h; exact .inl ⟨h, h'⟩
    · rw [List.getElem?_map] at h
      obtain ⟨x, hx1, hx2⟩ := Option.map_eq_some_iff.1 h
      have := (List.getElem?_eq_some_iff.1 hx1).1
      subst hx2
      exact .inr ⟨by omega, x, hx1, h', (chk_good (okL_at ok (r := x.tr) (by rw [List.getElem?_map, hx1]; rfl))).2.1⟩)
  have HT : Hid (∀ w', Below w.heap.size w w' → TxsAt w' w'.heap.size A xs) := Lib.hid fun w' bb => ta.later bb
  have HX := Lib.hid hx
  have hO0 : offL (xs.map Tx.tr) 0 = 0 := by simp [offL, bytesL]
  clear h64 ta hb ok hT hx hM h4 eR hj hjr hKM hcode
  go_enter Tryd.func7, Tryd.ntmps7
  go_wp2_with (first
    | (go_at_call 9; refine HL.out.mono ?_; rintro e w1 ⟨rfl, b1⟩)
    | (go_at_call 16; refine (HF.out _).mono ?_; rintro e w2 ⟨rfl, rfl⟩)
    | (go_at_call 18; refine (HC.out _ b1).mono ?_; rintro e w3 ⟨A3, c3, l3, rfl, k3, n3, e3, t3, b3⟩; have b13 := thenB b1 b3)
    | (go_at_call 17; refine (HW.out _ A3 c3 l3 b13 k3 n3 e3 t3).mono ?_; rintro e w4 ⟨A4, c4, rfl, hm4, j4, b4⟩; have b14 := thenB b13 b4; have hKc : (K : Int) ≤ (c4 : Int) ∧ K ≤ c4 := (by omega))
    | (at_builtin; refine wpList_append_ints rfl _ _ 32 rfl .u8 w4.heap.size 5 i0 _ 1 Tryd.underlying32 hi hz0 hz1 hz2 rfl (.slice (some ⟨w4.heap.size, 0, none⟩) 0 0) 0 [] rfl (World.ownsRow_made _ _ 0 (Nat.le_refl _) (by unfold maxLen; omega) rfl) w4.heap.size A4 K c4 ((sigL ++ bytesL (xs.map Tx.tr)).take K) rfl HK.out ?c1 ?c2 ?c3 ?c4 ?_; (case c1 => exact (ints_take j4 K).alloc (Nat.le_refl _) _); (case c2 => unfold maxLen; omega); (case c3 => omega); (case c4 => simp); intro v' w5 hown5 hb5 _; simp only [List.nil_append, Nat.zero_add] at hown5; obtain ⟨A5, c5, rfl⟩ := own_form hown5; have b15 := thenB b14 (((Below.refl _ w4).alloc (Nat.le_refl _) (.cells #[] 5)).trans hb5))
    | (go_at_call 20; refine (HR.out _ A5 c5 b15 (own_cap hown5) (own_max hown5) (Ints.own hown5)).mono ?_; rintro e w6 ⟨RA, rc, l6, rfl, hl6, hrc6, t6, b6⟩; have b16 := thenB b15 b6; rw [HE.out] at hl6 ⊢; have e6 : l6.length = j := (by rw [← List.length_map (f := Tx.tr), hl6, List.length_take, List.length_map, HX.out]; omega)))
  generalize hO : offL (xs.map Tx.tr) = O at *
  have HE6 := Lib.hid hl6
  clear hl6 HE HW HC HF HL HR HB HK hown5 j4 t3 e3 n3
  go_loopw [10, 11, 12] (fun s10 s11 s12 wr => ∃ i : Nat, i ≤ j ∧ s10 = .int .i64 ((4 + O i : Nat) : Int) ∧ s11 = .int .i64 (i : Int) ∧ s12 = .int .i64 (i : Int) ∧ Below w6.heap.size w6 wr) (fun _ _ s12 _ => j - (intOf s12).toNat)
  case atStart => exact ⟨0, by omega, by rw [hO0]; rfl, rfl, rfl, Below.refl _ _⟩
  case round =>
    obtain ⟨i, hij, rfl, rfl, rfl, hbel⟩ := hrel
    have BW := thenB b16 hbel
    by_cases c1 : i < j
    · obtain ⟨x, hxi, ho1, ho2⟩ := HO.out i c1
      have ta := HT.out _ BW
      obtain ⟨b, off, rfl, hb, hc⟩ := tx_cells ta (by rw [HX.out]; omega)
      have f4 := (hc i x hxi).2.2.2.2
      have lx := x.bs.length
      obtain ⟨p, hp⟩ : ∃ p, 4 + O i = p := ⟨_, rfl⟩
      obtain ⟨p1, hp1⟩ : ∃ p1, p + 16 = p1 := ⟨_, rfl⟩
      obtain ⟨p2, hp2⟩ : ∃ p2, p1 + x.bs.length = p2 := ⟨_, rfl⟩
      have hpe : 4 + O (i + 1) = p2 := by omega
      have HP := Lib.hid hpe
      have w1' : IntKind.i64.wrap ((p : Int) + 16) = (p1 : Int) := by rw [IntKind.wrap_i64]; omega
      have w2' : IntKind.i64.wrap ((p1 : Int) + (x.bs.length : Int)) = (p2 : Int) := by rw [IntKind.wrap_i64]; omega
      have cin : decide ((i : Int) < (n : Int)) = true := by simp; omega
      have cin2 : decide (i < n) = true := by simp; omega
      have cle : decide ((p2 : Int) ≤ (K : Int)) = true := by simp; omega
      have cle2 : decide (p2 ≤ K) = true := by simp; omega
      have hix : (0 : Int) ≤ (i : Int) ∧ (i : Int) < (n : Int) := by omega
      have X1 := Lib.hid (txs_one ta hxi)
      have F4 := Lib.hid f4
      clear hc ta
      obtain ⟨y, hyi, hym⟩ := has e6 c1
      have t6' := (t6.later hbel)
      obtain ⟨rb, ro, rfl, hrb, _⟩ := tx_cells t6' (by omega)
      have hxy : [y].map Tx.tr = [x].map Tx.tr := by
        have h1 : (l6.map Tx.tr)[i]? = some y.tr := by rw [List.getElem?_map, hyi]; rfl
        have h2 : ((xs.map Tx.tr).take j)[i]? = some x.tr := by rw [List.getElem?_take, if_pos c1, List.getElem?_map, hxi]; rfl
        rw [HE6.out, h2] at h1
        simp only [List.map_cons, List.map_nil, Option.some.inj h1]
      have hixc : i < c := by omega
      have hirc : i < rc := by omega
      have HSm : Hid (∀ w', Below wr.heap.size wr w' → Calls Tryd.prog 13 #[.slice (some ⟨rb, ro + i * 5, none⟩) 1 (rc - i), .slice (some ⟨b, off + i * 5, none⟩) 1 (c - i)] w' fun e w2 => e = .returned (.bool true) ∧ Below w'.heap.size w' w2) := Lib.hid fun w' bb =>
        same_any _ _ 1 (rc - i) (c - i) [y] [x] w' rfl rfl (by omega) hxy ((txs_one t6' hyi).later bb) (X1.out.later bb)
      obtain ⟨i1, hi1⟩ : ∃ i1, i + 1 = i1 := ⟨_, rfl⟩
      have sl1 := slice_one rb ro j rc i i1 hi1 hirc
      have sl2 := slice_one b off n c i i1 hi1 hixc
      have wi : IntKind.i64.wrap ((i : Int) + 1) = (i1 : Int) := by rw [IntKind.wrap_i64]; omega
      have cj1 : decide ((j : Int) ≤ (i : Int)) = false := by simp; omega
      have cj2 : decide (j ≤ i) = false := by simp; omega
      clear t6' hyi hym hxy hrb
      rw [hp]
      generalize hbl : x.bs.length = q at *
      go_wp2_with fail
      refine wp_region_held_drew (S := (fun _ => True)) (by kernel_rfl) ?_ (fun hHeld => ?_)
      · trivial
      have BX : Below wr.heap.size wr wr.drew := (Below.refl _ _).drew
      generalize wr.drew = Z0 at *
      refine wpAnyH_take (i := 0) (v := .slice (some ⟨rb, ro, none⟩) j rc) rfl (by kernel_rfl) (by kernel_rfl) (by kernel_rfl) (fun _ _ _ h => h) (Or.inl ⟨by first | rfl | go_simp, by intro w9 hSw; (try dsimp only at hSw); go_simp⟩) (by assumption) ?_
      simp only [List.getElem_toArray, List.getElem_cons_zero, List.getElem_cons_succ, Act.put, List.setIfInBounds_toArray, List.set_cons_zero, List.set_cons_succ]
      refine wpAnyH_take (i := 1) (v := .int .i64 (j : Int)) rfl (by kernel_rfl) (by kernel_rfl) (by kernel_rfl) (fun _ _ _ h => h) (Or.inl ⟨by first | rfl | go_simp, by intro w9 hSw; (try dsimp only at hSw); go_simp⟩) (by assumption) ?_
      simp only [List.getElem_toArray, List.getElem_cons_zero, List.getElem_cons_succ, Act.put, List.setIfInBounds_toArray, List.set_cons_zero, List.set_cons_succ]
      refine wpAnyH_take (i := 2) (v := .int .i64 (i : Int)) rfl (by kernel_rfl) (by kernel_rfl) (by kernel_rfl) (fun _ _ _ h => h) (Or.inl ⟨by first | rfl | go_simp, by intro w9 hSw; (try dsimp only at hSw); go_simp⟩) (by assumption) ?_
      simp only [List.getElem_toArray, List.getElem_cons_zero, List.getElem_cons_succ, Act.put, List.setIfInBounds_toArray, List.set_cons_zero, List.set_cons_succ]
      refine wpAnyH_take (i := 3) (v := .bool false) rfl (by kernel_rfl) (by kernel_rfl) (by kernel_rfl) (fun _ _ _ h => h) (Or.inl ⟨by first | rfl | go_simp, by intro w9 hSw; (try dsimp only at hSw); go_simp⟩) (by assumption) ?_
      simp only [List.getElem_toArray, List.getElem_cons_zero, List.getElem_cons_succ, Act.put, List.setIfInBounds_toArray, List.set_cons_zero, List.set_cons_succ]
      refine wpAnyH_take (i := 4) (v := .bool false) rfl (by kernel_rfl) (by kernel_rfl) (by kernel_rfl) (fun _ _ _ h => h) (Or.inl ⟨by first | rfl | go_simp, by intro w9 hSw; (try dsimp only at hSw); go_simp⟩) (by assumption) ?_
      simp only [List.getElem_toArray, List.getElem_cons_zero, List.getElem_cons_succ, Act.put, List.setIfInBounds_toArray, List.set_cons_zero, List.set_cons_succ]
      refine wpAnyH_take (i := 5) (v := .slice (some ⟨rb, ro, none⟩) j rc) rfl (by kernel_rfl) (by kernel_rfl) (by kernel_rfl) (fun _ _ _ h => h) (Or.inl ⟨by first | rfl | go_simp, by intro w9 hSw; (try dsimp only at hSw); go_simp⟩) (by assumption) ?_
      simp only [List.getElem_toArray, List.getElem_cons_zero, List.getElem_cons_succ, Act.put, List.setIfInBounds_toArray, List.set_cons_zero, List.set_cons_succ]
      refine wpAnyH_take (i := 6) (v := .int .i64 (i : Int)) rfl (by kernel_rfl) (by kernel_rfl) (by kernel_rfl) (fun _ _ _ h => h) (Or.inl ⟨by first | rfl | go_simp, by intro w9 hSw; (try dsimp only at hSw); go_simp⟩) (by assumption) ?_
      simp only [List.getElem_toArray, List.getElem_cons_zero, List.getElem_cons_succ, Act.put, List.setIfInBounds_toArray, List.set_cons_zero, List.set_cons_succ]
      refine wpAnyH_take (i := 7) (v := .int .i64 (i : Int)) rfl (by kernel_rfl) (by kernel_rfl) (by kernel_rfl) (fun _ _ _ h => h) (Or.inl ⟨by first | rfl | go_simp, by intro w9 hSw; (try dsimp only at hSw); go_simp⟩) (by assumption) ?_
      simp only [List.getElem_toArray, List.getElem_cons_zero, List.getElem_cons_succ, Act.put, List.setIfInBounds_toArray, List.set_cons_zero, List.set_cons_succ]
      refine wpAnyH_take (i := 8) (v := .int .i64 (i1 : Int)) rfl (by kernel_rfl) (by kernel_rfl) (by kernel_rfl) (fun _ _ _ h => h) (Or.inl ⟨by first | rfl | go_simp, by intro w9 hSw; (try dsimp only at hSw); go_simp⟩) (by assumption) ?_
      simp only [List.getElem_toArray, List.getElem_cons_zero, List.getElem_cons_succ, Act.put, List.setIfInBounds_toArray, List.set_cons_zero, List.set_cons_succ]
      refine wpAnyH_take (i := 9) (v := .slice (some ⟨rb, ro + i * 5, none⟩) 1 (rc - i)) rfl (by kernel_rfl) (by kernel_rfl) (by kernel_rfl) (fun _ _ _ h => h) (Or.inl ⟨by first | rfl | go_simp, by intro w9 hSw; (try dsimp only at hSw); go_simp⟩) (by assumption) ?_
      simp only [List.getElem_toArray, List.getElem_cons_zero, List.getElem_cons_succ, Act.put, List.setIfInBounds_toArray, List.set_cons_zero, List.set_cons_succ]
      refine wpAnyH_take (i := 10) (v := .slice (some ⟨b, off, none⟩) n c) rfl (by kernel_rfl) (by kernel_rfl) (by kernel_rfl) (fun _ _ _ h => h) (Or.inl ⟨by first | rfl | go_simp, by intro w9 hSw; (try dsimp only at hSw); go_simp⟩) (by assumption) ?_
      simp only [List.getElem_toArray, List.getElem_cons_zero, List.getElem_cons_succ, Act.put, List.setIfInBounds_toArray, List.set_cons_zero, List.set_cons_succ]
      refine wpAnyH_take (i := 11) (v := .int .i64 (i : Int)) rfl (by kernel_rfl) (by kernel_rfl) (by kernel_rfl) (fun _ _ _ h => h) (Or.inl ⟨by first | rfl | go_simp, by intro w9 hSw; (try dsimp only at hSw); go_simp⟩) (by assumption) ?_
      simp only [List.getElem_toArray, List.getElem_cons_zero, List.getElem_cons_succ, Act.put, List.setIfInBounds_toArray, List.set_cons_zero, List.set_cons_succ]
      refine wpAnyH_take (i := 12) (v := .int .i64 (i : Int)) rfl (by kernel_rfl) (by kernel_rfl) (by kernel_rfl) (fun _ _ _ h => h) (Or.inl ⟨by first | rfl | go_simp, by intro w9 hSw; (try dsimp only at hSw); go_simp⟩) (by assumption) ?_
      simp only [List.getElem_toArray, List.getElem_cons_zero, List.getElem_cons_succ, Act.put, List.setIfInBounds_toArray, List.set_cons_zero, List.set_cons_succ]
      refine wpAnyH_take (i := 13) (v := .int .i64 (i1 : Int)) rfl (by kernel_rfl) (by kernel_rfl) (by kernel_rfl) (fun _ _ _ h => h) (Or.inl ⟨by first | rfl | go_simp, by intro w9 hSw; (try dsimp only at hSw); go_simp⟩) (by assumption) ?_
      simp only [List.getElem_toArray, List.getElem_cons_zero, List.getElem_cons_succ, Act.put, List.setIfInBounds_toArray, List.set_cons_zero, List.set_cons_succ]
      refine wpAnyH_take (i := 14) (v := .slice (some ⟨b, off + i * 5, none⟩) 1 (c - i)) rfl (by kernel_rfl) (by kernel_rfl) (by kernel_rfl) (fun _ _ _ h => h) (Or.inl ⟨by first | rfl | go_simp, by intro w9 hSw; (try dsimp only at hSw); go_simp⟩) (by assumption) ?_
      simp only [List.getElem_toArray, List.getElem_cons_zero, List.getElem_cons_succ, Act.put, List.setIfInBounds_toArray, List.set_cons_zero, List.set_cons_succ]
      refine wpAnyH_ready (rs := [15]) (by kernel_rfl) (by simp) ?_
      refine AllReadyH.cons rfl (fun K hK => ?_) (AllReadyH.nil)
      go_simp
      refine (HSm.out _ BX).mono ?_
      rintro e Z1 ⟨rfl, b1⟩
      have BX := thenB BX b1
      refine hK.out _ _ trivial (fun hHeld => ?_)
      clear hK K
      try simp only [List.getElem_toArray, List.getElem_cons_zero, List.getElem_cons_succ, Act.put, List.setIfInBounds_toArray, List.set_cons_zero, List.set_cons_succ]
      refine wpAnyH_take (i := 16) (v := .bool false) rfl (by kernel_rfl) (by kernel_rfl) (by kernel_rfl) (fun _ _ _ h => h) (Or.inl ⟨by first | rfl | go_simp, by intro w9 hSw; (try dsimp only at hSw); go_simp⟩) (by assumption) ?_
      simp only [List.getElem_toArray, List.getElem_cons_zero, List.getElem_cons_succ, Act.put, List.setIfInBounds_toArray, List.set_cons_zero, List.set_cons_succ]
      refine wpAnyH_take (i := 17) (v := .bool false) rfl (by kernel_rfl) (by kernel_rfl) (by kernel_rfl) (fun _ _ _ h => h) (Or.inl ⟨by first | rfl | go_simp, by intro w9 hSw; (try dsimp only at hSw); go_simp⟩) (by assumption) ?_
      simp only [List.getElem_toArray, List.getElem_cons_zero, List.getElem_cons_succ, Act.put, List.setIfInBounds_toArray, List.set_cons_zero, List.set_cons_succ]
      refine wpAnyH_done (by kernel_rfl) ?_ _
      go_wp2_with fail
      go_roundw
      case rel => exact ⟨i + 1, by omega, by rw [HP.out], by go_num, by go_num, hbel.trans (BX.mono hbel.size)⟩
      case measure => simp [intOf]; omega
    · have e : i = j := by omega
      subst e
      have HFin : Hid (∀ w', Below w.heap.size w w' → Below w.heap.size w w') := Lib.hid fun _ h => h
      have hcd := HCd.out
      have cnn : ((i : Int) != (i : Int)) = false := by simp
      obtain ⟨p, hp⟩ : ∃ p, 4 + O i = p := ⟨_, rfl⟩
      have hp4 : (4 : Int) + (O i : Int) = (p : Int) := by omega
      have hpp : ((p : Int) == (p : Int)) = true := by simp
      rw [hp] at hcd
      rw [hp, hp4]
      have ta := HT.out _ BW
      rcases HJ.out with ⟨hjn', hq⟩ | ⟨hjn', x, hxi, hlt, hle⟩
      · have cin : decide ((i : Int) < (n : Int)) = false := by simp; omega
        have cin2 : decide (i < n) = false := by simp; omega
        rw [hp] at hq
        rcases hcd with ⟨q1, rfl⟩ | ⟨q1, rfl⟩
        · have ceq : ((p : Int) == (K : Int)) = true := by simp; omega
          clear hq q1 hp hp4
          go_wp2_with fail
          go_ret
          exact ⟨rfl, BW⟩
        · exact absurd hq q1
      · obtain ⟨b, off, rfl, hb, hc⟩ := tx_cells ta (by rw [HX.out]; omega)
        have f4 := (hc i x hxi).2.2.2.2
        rw [hp] at hlt
        obtain ⟨p1, hp1⟩ : ∃ p1, p + 16 = p1 := ⟨_, rfl⟩
        obtain ⟨p2, hp2⟩ : ∃ p2, p1 + x.bs.length = p2 := ⟨_, rfl⟩
        have w1' : IntKind.i64.wrap ((p : Int) + 16) = (p1 : Int) := by rw [IntKind.wrap_i64]; omega
        have w2' : IntKind.i64.wrap ((p1 : Int) + (x.bs.length : Int)) = (p2 : Int) := by rw [IntKind.wrap_i64]; omega
        have cin : decide ((i : Int) < (n : Int)) = true := by simp; omega
        have cin2 : decide (i < n) = true := by simp; omega
        have cle : decide ((p2 : Int) ≤ (K : Int)) = false := by simp; omega
        have cle2 : decide (p2 ≤ K) = false := by simp; omega
        have hix : (0 : Int) ≤ (i : Int) ∧ (i : Int) < (n : Int) := by omega
        clear hc ta
        generalize hbl : x.bs.length = q at *
        rcases hcd with ⟨q1, rfl⟩ | ⟨q1, rfl⟩
        · have ceq : ((p : Int) == (K : Int)) = true := by simp; omega
          clear q1 hp hp4 hp1 hp2 hlt
          go_wp2_with fail
          go_ret
          exact ⟨rfl, BW⟩
        · have ceq : ((p : Int) == (K : Int)) = false := by simp; omega
          clear q1 hp hp4 hp1 hp2 hlt
          go_wp2_with fail
          go_ret
          exact ⟨rfl, BW⟩
end Go.Proofs.YtkbhmgdmkamcfaaDoor.Cap
