/- The statement that a changed byte is found, walked. -/
import Derived.Test.YtkbhmgdmkamcfaaDoorCapFlipM

set_option linter.unusedVariables false
set_option linter.unusedSimpArgs false
set_option maxRecDepth 100000
namespace Go.Proofs.YtkbhmgdmkamcfaaDoor.Cap
open Go.RowKit Mem Rw Air Base Oct

theorem flat_take {l : List Tx} {w : World} {B : Nat} {A : Option Addr} (h : TxsAt w B A l) (k : Nat) : TxsAt w B A (l.take k) := by
  refine ⟨?_, fun x hx => h.2 x (List.mem_of_mem_take hx)⟩
  have h1 := h.1
  have e : l.flatMap encT = (l.take k).flatMap encT ++ (l.drop k).flatMap encT := by rw [← List.flatMap_append, List.take_append_drop]
  unfold ListAt at h1 ⊢
  rw [e] at h1
  rcases h1 with h1 | ⟨b, off, hA, hb, hc⟩
  · exact .inl (List.append_eq_nil_iff.1 h1).1
  · exact .inr ⟨b, off, hA, hb, fun q u hq => hc q u (by rw [List.getElem?_append_left (List.getElem?_eq_some_iff.1 hq).1]; exact hq)⟩
theorem own_max8 {w : World} {base n c size : Nat} {e : TypeId} {A : Option Addr} {xs : List Value} (h : w.ownsRow base e size (.slice A n c) n xs) : c ≤ 9223372036854775807 := own_max h
theorem flips_many (A : Option Addr) (n c : Nat) (which at_ y : Int) (w : World) (h64 : ¬ (n : Int) ≤ 64) (hT : Tabs w) :
    Calls Tryd.prog 8 #[.slice A n c, .int .i64 which, .int .i64 at_, .int .u8 y] w fun e w' => e = .returned (.bool true) ∧ Below w.heap.size w w' := by
  have HL := Lib.hid (tabs_lives w hT)
  have HF := Lib.hid (few_false h64 A c)
  clear h64
  go_enter Tryd.func8, Tryd.ntmps8
  go_wp2_with (first
    | (go_at_call 9; refine HL.out.mono ?_; rintro e w1 ⟨rfl, b1⟩)
    | (go_at_call 16; refine (HF.out _).mono ?_; rintro e w2 ⟨rfl, rfl⟩))
  go_ret
  exact ⟨rfl, b1⟩
theorem flips_zero (A : Option Addr) (n c : Nat) (which at_ y : Int) (w : World) (h64 : (n : Int) ≤ 64) (h0 : y = 0) (hT : Tabs w) :
    Calls Tryd.prog 8 #[.slice A n c, .int .i64 which, .int .i64 at_, .int .u8 y] w fun e w' => e = .returned (.bool true) ∧ Below w.heap.size w w' := by
  have HL := Lib.hid (tabs_lives w hT)
  have HF := Lib.hid (few_true h64 A c)
  subst h0
  clear h64
  go_enter Tryd.func8, Tryd.ntmps8
  go_wp2_with (first
    | (go_at_call 9; refine HL.out.mono ?_; rintro e w1 ⟨rfl, b1⟩)
    | (go_at_call 16; refine (HF.out _).mono ?_; rintro e w2 ⟨rfl, rfl⟩))
  go_ret
  exact ⟨rfl, b1⟩
theorem flips_low (A : Option Addr) (n c : Nat) (which at_ y : Int) (w : World) (h64 : (n : Int) ≤ 64) (h0 : y ≠ 0) (hl : which < 0) (hT : Tabs w) :
    Calls Tryd.prog 8 #[.slice A n c, .int .i64 which, .int .i64 at_, .int .u8 y] w fun e w' => e = .returned (.bool true) ∧ Below w.heap.size w w' := by
  have HL := Lib.hid (tabs_lives w hT)
  have HF := Lib.hid (few_true h64 A c)
  have e0 : (y == 0) = false := by simpa using h0
  have d1 : decide (which < 0) = true := by simpa using hl
  clear h64 h0 hl
  go_enter Tryd.func8, Tryd.ntmps8
  go_wp2_with (first
    | (go_at_call 9; refine HL.out.mono ?_; rintro e w1 ⟨rfl, b1⟩)
    | (go_at_call 16; refine (HF.out _).mono ?_; rintro e w2 ⟨rfl, rfl⟩))
  go_ret
  exact ⟨rfl, b1⟩
theorem flips_high (A : Option Addr) (n c : Nat) (which at_ y : Int) (w : World) (h64 : (n : Int) ≤ 64) (h0 : y ≠ 0) (hl : ¬ which < 0) (hh : (n : Int) ≤ which) (hT : Tabs w) :
    Calls Tryd.prog 8 #[.slice A n c, .int .i64 which, .int .i64 at_, .int .u8 y] w fun e w' => e = .returned (.bool true) ∧ Below w.heap.size w w' := by
  have HL := Lib.hid (tabs_lives w hT)
  have HF := Lib.hid (few_true h64 A c)
  have e0 : (y == 0) = false := by simpa using h0
  have d1 : decide (which < 0) = false := by simpa using hl
  have d2 : decide ((n : Int) ≤ which) = true := by simpa using hh
  clear h64 h0 hl hh
  go_enter Tryd.func8, Tryd.ntmps8
  go_wp2_with (first
    | (go_at_call 9; refine HL.out.mono ?_; rintro e w1 ⟨rfl, b1⟩)
    | (go_at_call 16; refine (HF.out _).mono ?_; rintro e w2 ⟨rfl, rfl⟩))
  go_ret
  exact ⟨rfl, b1⟩
theorem flips_wrong (A : Option Addr) (n c wh : Nat) (xs : List Tx) (at_ y : Int) (w : World) (hx : xs.length = n) (ta : TxsAt w w.heap.size A xs) (hb : ∀ x ∈ xs, Bytes x.bs) (h64 : (n : Int) ≤ 64) (h0 : y ≠ 0) (hwh : wh < n) (ok : ¬ okL none (xs.map Tx.tr)) (hT : Tabs w) :
    Calls Tryd.prog 8 #[.slice A n c, .int .i64 (wh : Int), .int .i64 at_, .int .u8 y] w fun e w' => e = .returned (.bool true) ∧ Below w.heap.size w w' := by
  have HL := Lib.hid (tabs_lives w hT)
  have HF := Lib.hid (few_true h64 A c)
  have e0 : (y == 0) = false := by simpa using h0
  have d1 : decide ((wh : Int) < 0) = false := by simp
  have d2 : decide ((n : Int) ≤ (wh : Int)) = false := by simp; omega
  have d3 : decide (n ≤ wh) = false := by simp; omega
  have HC : Hid (∀ w', Below w.heap.size w w' → Calls Tryd.prog 18 #[.slice A n c] w' fun e w2 => ∃ A3 c3 l3, e = .returned (.slice A3 n c3) ∧ n ≤ c3 ∧ l3.length = n ∧ l3.map Tx.tr = xs.map Tx.tr ∧ TxsAt w2 w2.heap.size A3 l3 ∧ Below w'.heap.size w' w2) := Lib.hid fun w' bb => copy_any A n c xs w' hx (by omega) (ta.later bb)
  have HW : Hid (∀ w' A3 c3 l3, Below w.heap.size w w' → n ≤ c3 → l3.length = n → l3.map Tx.tr = xs.map Tx.tr → TxsAt w' w'.heap.size A3 l3 → Calls Tryd.prog 17 #[.slice A3 n c3] w' fun e w2 => (∃ A' c' code, code ≠ 0 ∧ e = .returned (.tuple #[.slice A' 0 c', .int .i64 code])) ∧ Below w'.heap.size w' w2) := Lib.hid fun w' A3 c3 l3 bb q1 q2 q3 q4 =>
    (write_copy A3 n c3 xs l3 w' q2 (by omega) q1 q4 q3 hb (hT.below bb)).mono fun e w2 ⟨h, hbel⟩ => ⟨h.elim (fun h => h.2) fun h => absurd h.1 ok, hbel⟩
  clear h64 ta hb ok hT hx h0 hwh
  go_enter Tryd.func8, Tryd.ntmps8
  go_wp2_with (first
    | (go_at_call 9; refine HL.out.mono ?_; rintro e w1 ⟨rfl, b1⟩)
    | (go_at_call 16; refine (HF.out _).mono ?_; rintro e w2 ⟨rfl, rfl⟩)
    | (go_at_call 18; refine (HC.out _ b1).mono ?_; rintro e w3 ⟨A3, c3, l3, rfl, k3, n3, e3, t3, b3⟩; have b13 := thenB b1 b3)
    | (go_at_call 17; refine (HW.out _ A3 c3 l3 b13 k3 n3 e3 t3).mono ?_; rintro e w4 ⟨⟨A4, c4, code, hc0, rfl⟩, b4⟩; have hne : (code != 0) = true := by simpa using hc0))
  go_ret
  exact ⟨rfl, thenB b13 b4⟩
set_option maxHeartbeats 4000000 in
theorem flips_main (A : Option Addr) (n c wh : Nat) (xs : List Tx) (at_ y : Int) (w : World) (hx : xs.length = n) (ta : TxsAt w w.heap.size A xs) (hb : ∀ x ∈ xs, Bytes x.bs) (h64 : (n : Int) ≤ 64) (h0 : y ≠ 0) (hwh : wh < n) (ok : okL none (xs.map Tx.tr)) (hy : 0 ≤ y ∧ y ≤ 255) (hcn : n ≤ c) (hT : Tabs w) :
    Calls Tryd.prog 8 #[.slice A n c, .int .i64 (wh : Int), .int .i64 at_, .int .u8 y] w fun e w' => e = .returned (.bool true) ∧ Below w.heap.size w w' := by
  obtain ⟨i0, hi, hz0, hz1, hz2⟩ := info_parts Base.info_u8
  obtain ⟨M, hM⟩ : ∃ M, 4 + (bytesL (xs.map Tx.tr)).length = M := ⟨_, rfl⟩
  have HL := Lib.hid (tabs_lives w hT)
  have HF := Lib.hid (few_true h64 A c)
  have e0 : (y == 0) = false := by simpa using h0
  have d1 : decide ((wh : Int) < 0) = false := by simp
  have d2 : decide ((n : Int) ≤ (wh : Int)) = false := by simp; omega
  have d3 : decide (n ≤ wh) = false := by simp; omega
  have HC : Hid (∀ w', Below w.heap.size w w' → Calls Tryd.prog 18 #[.slice A n c] w' fun e w2 => ∃ A3 c3 l3, e = .returned (.slice A3 n c3) ∧ n ≤ c3 ∧ l3.length = n ∧ l3.map Tx.tr = xs.map Tx.tr ∧ TxsAt w2 w2.heap.size A3 l3 ∧ Below w'.heap.size w' w2) := Lib.hid fun w' bb => copy_any A n c xs w' hx (by omega) (ta.later bb)
  have HW : Hid (∀ w' A3 c3 l3, Below w.heap.size w w' → n ≤ c3 → l3.length = n → l3.map Tx.tr = xs.map Tx.tr → TxsAt w' w'.heap.size A3 l3 → Calls Tryd.prog 17 #[.slice A3 n c3] w' fun e w2 => ∃ A' c', e = .returned (.tuple #[.slice A' M c', .int .i64 0]) ∧ M ≤ c' ∧ Ints .u8 w2 w2.heap.size A' (sigL ++ bytesL (xs.map Tx.tr)) ∧ Below w'.heap.size w' w2) := Lib.hid fun w' A3 c3 l3 bb q1 q2 q3 q4 =>
    (write_copy A3 n c3 xs l3 w' q2 (by omega) q1 q4 q3 hb (hT.below bb)).mono fun e w2 ⟨h, hbel⟩ => h.elim (fun h => absurd ok h.1) fun ⟨_, A', c', h1, h2, h3⟩ => ⟨A', c', by rw [← hM]; exact h1, by omega, h3, hbel⟩
  have HK : Hid ((sigL ++ bytesL (xs.map Tx.tr)).length = M) := Lib.hid (by rw [List.length_append, sig_len]; omega)
  have HB : Hid (Bytes (sigL ++ bytesL (xs.map Tx.tr))) := Lib.hid (bytes_append (by intro z hz; simp [sigL] at hz; omega) (file_bytes ok (by intro r hr; obtain ⟨x, hx', rfl⟩ := List.mem_map.1 hr; exact hb x hx')))
  have hMb : M ≤ 20000 := by
    have h1 := offL_all (xs.map Tx.tr)
    have h2 := offL_le ok (xs.map Tx.tr).length (Nat.le_refl _)
    rw [List.length_map, hx] at h2
    rw [List.length_map, hx] at h1
    omega
  have hwl : wh ≤ (xs.map Tx.tr).length := by rw [List.length_map]; omega
  have HO : Hid (∀ i, i < n → ∃ x, xs[i]? = some x ∧ offL (xs.map Tx.tr) (i + 1) = offL (xs.map Tx.tr) i + 16 + x.bs.length ∧ 4 + offL (xs.map Tx.tr) (i + 1) ≤ M ∧ x.bs.length ≤ 260) := Lib.hid fun i hij => by
    obtain ⟨x, hxi, _⟩ := has hx hij
    refine ⟨x, hxi, offL_succ (xs.map Tx.tr) (r := x.tr) (by rw [List.getElem?_map, hxi]; rfl), ?_, (chk_good (okL_at ok (r := x.tr) (by rw [List.getElem?_map, hxi]; rfl))).2.1⟩
    have := offL_mono (xs.map Tx.tr) (show i + 1 ≤ (xs.map Tx.tr).length by rw [List.length_map]; omega) (Nat.le_refl _)
    rw [offL_all] at this
    omega
  have HR : Hid (∀ x, xs[wh]? = some x → ∀ t : Nat, t < 16 + x.bs.length → t ≠ 11 → t ≠ 12 → readA ((sigL ++ bytesL (xs.map Tx.tr)).set (4 + offL (xs.map Tx.tr) wh + t) (bx ((sigL ++ bytesL (xs.map Tx.tr)).getD (4 + offL (xs.map Tx.tr) wh + t) 0) y)) = ((xs.map Tx.tr).take wh, 4 + (offL (xs.map Tx.tr) wh : Int), 10)) := Lib.hid fun x hxi t ht h11 h12 =>
    readA_flip ok (by intro r hr; obtain ⟨x, hx', rfl⟩ := List.mem_map.1 hr; exact hb x hx') (r := x.tr) (by rw [List.getElem?_map, hxi]; rfl) t y ht h11 h12 (by omega)
  have HT : Hid (∀ w', Below w.heap.size w w' → TxsAt w' w'.heap.size A xs) := Lib.hid fun w' bb => ta.later bb
  have HTb : Hid (∀ w', Below w.heap.size w w' → Crc.Tab w') := Lib.hid fun w' bb => (hT.below bb).1
  have HX := Lib.hid hx
  have hO0 : offL (xs.map Tx.tr) 0 = 0 := by simp [offL, bytesL]
  have hn64 : n ≤ 64 := by omega
  clear h64 ta hb ok hT hx hM h0 hwl
  generalize hO : offL (xs.map Tx.tr) = O at *
  generalize hFF : sigL ++ bytesL (xs.map Tx.tr) = F at *
  go_enter Tryd.func8, Tryd.ntmps8
  go_wp2_with (first
    | (go_at_call 9; refine HL.out.mono ?_; rintro e w1 ⟨rfl, b1⟩)
    | (go_at_call 16; refine (HF.out _).mono ?_; rintro e w2 ⟨rfl, rfl⟩)
    | (go_at_call 18; refine (HC.out _ b1).mono ?_; rintro e w3 ⟨A3, c3, l3, rfl, k3, n3, e3, t3, b3⟩; have b13 := thenB b1 b3)
    | (go_at_call 17; refine (HW.out _ A3 c3 l3 b13 k3 n3 e3 t3).mono ?_; rintro e w4 ⟨A4, c4, rfl, hm4, j4, b4⟩; have b14 := thenB b13 b4))
  clear HC HF HL HW t3 e3 n3
  go_loopw [11, 12] (fun s11 s12 wr => ∃ i : Nat, i ≤ wh ∧ s11 = .int .i64 ((4 + O i : Nat) : Int) ∧ s12 = .int .i64 (i : Int) ∧ Below w4.heap.size w4 wr) (fun _ s12 _ => wh - (intOf s12).toNat)
  case atStart => exact ⟨0, by omega, by rw [hO0]; rfl, rfl, Below.refl _ _⟩
  case round =>
    obtain ⟨i, hij, rfl, rfl, hbel⟩ := hrel
    have BW := thenB b14 hbel
    obtain ⟨x, hxi, ho1, ho2, hx260⟩ := HO.out i (by omega)
    have ta := HT.out _ BW
    obtain ⟨b, off, rfl, hb, hc⟩ := tx_cells ta (by rw [HX.out]; omega)
    have f4 := (hc i x hxi).2.2.2.2
    have hix : (0 : Int) ≤ (i : Int) ∧ (i : Int) < (n : Int) := by omega
    by_cases c1 : i < wh
    · obtain ⟨p, hp⟩ : ∃ p, 4 + O i = p := ⟨_, rfl⟩
      obtain ⟨p1, hp1⟩ : ∃ p1, p + 16 = p1 := ⟨_, rfl⟩
      obtain ⟨p2, hp2⟩ : ∃ p2, p1 + x.bs.length = p2 := ⟨_, rfl⟩
      have HP := Lib.hid (show 4 + O (i + 1) = p2 by omega)
      have w1' : IntKind.i64.wrap ((p : Int) + 16) = (p1 : Int) := by rw [IntKind.wrap_i64]; omega
      have w2' : IntKind.i64.wrap ((p1 : Int) + (x.bs.length : Int)) = (p2 : Int) := by rw [IntKind.wrap_i64]; omega
      have c1' : (i : Int) < (wh : Int) := by omega
      clear hc ta
      rw [hp]
      generalize hbl : x.bs.length = q at *
      go_wp2_with fail
      go_roundw
      case rel => exact ⟨i + 1, by omega, by rw [HP.out], by go_num, hbel⟩
      case measure => simp [intOf]; omega
    · have e : i = wh := by omega
      subst e
      have c1' : ¬ (i : Int) < (i : Int) := by omega
      obtain ⟨m, hm⟩ : ∃ m, 16 + x.bs.length = m := ⟨_, rfl⟩
      have wm : IntKind.i64.wrap (16 + (x.bs.length : Int)) = (m : Int) := by rw [IntKind.wrap_i64]; omega
      have TA := Lib.hid ta
      have HRx := Lib.hid (HR.out x hxi)
      clear hc ta HR HT HO
      rw [hm] at HRx
      generalize hbl : x.bs.length = q at *
      by_cases c2 : at_ < 0
      · have z1 : decide (at_ < 0) = true := by simpa using c2
        clear c2
        go_wp2_with fail
        go_ret
        exact ⟨rfl, BW⟩
      have z1 : decide (at_ < 0) = false := by simpa using c2
      by_cases c3 : (m : Int) ≤ at_
      · have z2 : decide ((m : Int) ≤ at_) = true := by simpa using c3
        clear c2 c3
        go_wp2_with fail
        go_ret
        exact ⟨rfl, BW⟩
      have z2 : decide ((m : Int) ≤ at_) = false := by simpa using c3
      by_cases c4 : at_ = 11
      · have z3 : (at_ == 11) = true := by simpa using c4
        clear c2 c3 c4
        go_wp2_with fail
        go_ret
        exact ⟨rfl, BW⟩
      have z3 : (at_ == 11) = false := by simpa using c4
      by_cases c5 : at_ = 12
      · have z4 : (at_ == 12) = true := by simpa using c5
        clear c2 c3 c4 c5
        go_wp2_with fail
        go_ret
        exact ⟨rfl, BW⟩
      have z4 : (at_ == 12) = false := by simpa using c5
      obtain ⟨t, rfl⟩ : ∃ t : Nat, at_ = (t : Int) := ⟨at_.toNat, by omega⟩
      have z2n : decide (m ≤ t) = false := by simp; omega
      have hrd := HRx.out t (by omega) (by omega) (by omega)
      obtain ⟨p, hp⟩ : ∃ p, 4 + O i = p := ⟨_, rfl⟩
      obtain ⟨P, hP⟩ : ∃ P, p + t = P := ⟨_, rfl⟩
      have wP : IntKind.i64.wrap ((p : Int) + (t : Int)) = (P : Int) := by rw [IntKind.wrap_i64]; omega
      have hPM : P < M := by omega
      have hPi : (0 : Int) ≤ (P : Int) ∧ (P : Int) < (M : Int) := by omega
      rw [hp, hP] at hrd
      obtain ⟨S, hS⟩ : ∃ S, F.getD P 0 = S := ⟨_, rfl⟩
      have hSb : 0 ≤ S ∧ S ≤ 255 := hS ▸ getD_in HB.out P
      have HGET : Hid (F[P]? = some S) := Lib.hid (by
        have hlt : P < F.length := by rw [HK.out]; exact hPM
        rw [List.getElem?_eq_getElem hlt, ← hS, List.getD_eq_getElem?_getD, List.getElem?_eq_getElem hlt]; rfl)
      rw [hS] at hrd
      have eY := bx_code S y hSb hy
      have hYb := bx_in S y hSb hy
      generalize hYY : bx S y = Y at *
      obtain ⟨F', hF'⟩ : ∃ F', F.set P Y = F' := ⟨_, rfl⟩
      have HSET := Lib.hid hF'
      have HB' : Hid (Bytes F') := Lib.hid (hF' ▸ set_bytes HB.out P Y hYb)
      have HK' : Hid (F'.length = M) := Lib.hid (by rw [← hF', List.length_set]; exact HK.out)
      rw [hF'] at hrd
      have hp4 : (4 : Int) + (O i : Int) = (p : Int) := by omega
      rw [hp4] at hrd
      have HRD := Lib.hid hrd
      have hHS : Hid (∀ w' A5 c5, Below w.heap.size w w' → M ≤ c5 → c5 ≤ 9223372036854775807 → Ints .u8 w' w'.heap.size A5 F' → Calls Tryd.prog 20 #[.slice A5 M c5] w' fun e w2 => ∃ RA rc l, e = .returned (.tuple #[.slice RA i rc, .int .i64 (p : Int), .int .i64 10]) ∧ l.length = i ∧ l.map Tx.tr = (xs.map Tx.tr).take i ∧ TxsAt w2 w2.heap.size RA l ∧ Below w'.heap.size w' w2) := Lib.hid fun w' A5 c5 bb q1 q2 q3 => by
        refine (read_any A5 M c5 F' w' HK'.out q1 q2 (by omega) HB'.out q3 (HTb.out _ bb)).mono ?_
        rintro e w2 ⟨RA, rc, l, rfl, hl, hrc, tl, hbel⟩
        rw [HRD.out] at hl ⊢
        have hli : l.length = i := by
          have := congrArg List.length hl
          rw [List.length_map] at this
          rw [this, List.length_take, List.length_map, HX.out]; omega
        exact ⟨RA, rc, l, by rw [hli], hli, hl, tl, hbel⟩
      have HSm : Hid (∀ w' RA rc l, Below w.heap.size w w' → Below wr.heap.size wr w' → l.length = i → l.map Tx.tr = (xs.map Tx.tr).take i → TxsAt w' w'.heap.size RA l → Calls Tryd.prog 13 #[.slice RA i rc, .slice (some ⟨b, off, none⟩) i c] w' fun e w2 => e = .returned (.bool true) ∧ Below w'.heap.size w' w2) := Lib.hid fun w' RA rc l bb bb2 q1 q2 q3 =>
        same_any _ _ i rc c l (xs.take i) w' q1 (by rw [List.length_take, HX.out]; omega) (by omega) (by rw [q2, List.map_take]) q3 ((flat_take TA.out i).later bb2)
      have sl : ∀ w' : World, (Instr.slice 35 (.slice (some ⟨b, off, none⟩) n c) none (some (.int .i64 (i : Int))) none).run Tryd.prog w' = .ok (.slice (some ⟨b, off, none⟩) i c) w' := fun w' => by
        have hs : ∀ w' : World, (sizeOf (Tryd.prog.elem 35)).run Tryd.prog w' = .ok 5 w' := fun w' => by kernel_rfl
        rw [run_slice_h w' 35 (some ⟨b, off, none⟩) n c (by kernel_rfl) .i64 (i : Int) (by omega) (by omega), hs]
        have e2 : (i : Int).toNat = i := by omega
        simp only [Result.andThen, sliced, e2, Nat.sub_zero]
        split
        · rfl
        · simp [plain_add]
      have hpp : ((p : Int) == (p : Int)) = true := by simp
      clear c2 c3 c4 c5 hrd hS hYY hF' HRx hxi ho1 hbl
      rw [hp]
      clear hp hp4
      go_wp2_with (first
        | (at_builtin; refine wpList_append_ints rfl _ _ 32 rfl .u8 wr.heap.size 5 i0 _ 1 Tryd.underlying32 hi hz0 hz1 hz2 rfl (.slice (some ⟨wr.heap.size, 0, none⟩) 0 0) 0 [] rfl (World.ownsRow_made _ _ 0 (Nat.le_refl _) (by unfold maxLen; omega) rfl) wr.heap.size A4 M c4 F rfl HK.out ?c1 ?c2 ?c3 ?c4 ?_; (case c1 => exact (later j4 hbel).alloc (Nat.le_refl _) _); (case c2 => unfold maxLen; omega); (case c3 => omega); (case c4 => simp); intro v' w5 o6 hb5 _; simp only [List.nil_append, Nat.zero_add] at o6; obtain ⟨A5, c5, rfl⟩ := own_form o6; have b5 : Below wr.heap.size wr w5 := ((Below.refl _ _).alloc (Nat.le_refl _) _).trans hb5; obtain ⟨g, rfl, hg, hgl⟩ := own_block o6 (by omega); have f3 := o6.frozenAt P; have f4 : w5.cell? ⟨g, P, none⟩ = some (.int .u8 S) := (by rw [o6.cellAt _ (by omega), List.getElem?_map, HGET.out]; rfl); have hst := o6.stored P (.int .u8 Y); have o7 : (w5.setCell ⟨g, P, none⟩ (.int .u8 Y)).ownsRow wr.heap.size 5 1 (.slice (some ⟨g, 0, none⟩) M c5) M (F'.map (Value.int .u8)) := (by rw [← HSET.out, List.map_set]; exact hst.1); have b7 := b5.setCell (p := ⟨g, P, none⟩) hg (.int .u8 Y); have B7 := thenB BW b7; have j7 := Ints.own o7; have k7 := own_cap o7; have q7 := own_max8 o7; clear hst)
        | (go_at_call 20; refine (hHS.out _ _ c5 B7 k7 q7 j7).mono ?_; rintro e w6 ⟨RA, rc, l6, rfl, hl6, e6, t6, b6⟩; have b16 := thenB B7 b6)
        | (go_at_call 13; refine (HSm.out _ RA rc l6 b16 (b7.trans (b6.mono (by have := b7.size; omega))) hl6 e6 t6).mono ?_; rintro e w7 ⟨rfl, b8⟩; have b17 := thenB b16 b8))
      go_ret
      exact ⟨rfl, b17⟩
end Go.Proofs.YtkbhmgdmkamcfaaDoor.Cap
