/- The statement that a beginning of a file is read as far as it is complete, walked: the short ways. -/
import Derived.Test.YtkbhmgdmkamcfaaDoorCapLawW
import Derived.Deep.CutRange
set_option linter.unusedVariables false
set_option linter.unusedSimpArgs false
set_option maxRecDepth 100000
namespace Go.Proofs.YtkbhmgdmkamcfaaDoor.Cap
open Go.RowKit Mem Rw Air Base Oct

theorem rec_bytes {r : Tr} (h : rightB r = true) (hb : Bytes r.bs) : Bytes (recL r) := by
  obtain ⟨h1, h2, h3, h4, h5, h6, h7, h8⟩ := (right_iff r).mp h
  have hp : Bytes (putL (fldsL r)) := by
    have : ∀ fs : List (Int × Int), Bytes (putL fs) := by
      intro fs
      induction fs with
      | nil => intro z hz; cases hz
      | cons f l ih => exact bytes_append (numL_bytes _ _) ih
    exact this _
  exact Crc.appL_bytes (Crc.ini_lt 0) (bytes_append hp hb)
theorem file_bytes {p : Option Int} {l : List Tr} (h : okL p l) (hb : ∀ r ∈ l, Bytes r.bs) : Bytes (bytesL l) := by
  induction l generalizing p with
  | nil => intro z hz; cases hz
  | cons r s ih =>
    have : bytesL (r :: s) = recL r ++ bytesL s := by simp [bytesL]
    rw [this]
    exact bytes_append (rec_bytes (chk_good h.1).1 (hb r (by simp))) (ih h.2 fun x hx => hb x (by simp [hx]))
theorem offL_le {p : Option Int} {l : List Tr} (h : okL p l) (j : Nat) (hj : j ≤ l.length) : offL l j ≤ 276 * j := by
  induction j with
  | zero => simp [offL, bytesL]
  | succ j ih =>
    have hr : l[j]? = some l[j] := List.getElem?_eq_getElem (by omega)
    have := (chk_good (okL_at h hr)).2.1
    rw [offL_succ l hr]
    have := ih (by omega)
    omega
theorem offL_mono (l : List Tr) {i j : Nat} (h : i ≤ j) (hj : j ≤ l.length) : offL l i ≤ offL l j := by
  induction j with
  | zero => have : i = 0 := by omega
            subst this; omega
  | succ j ih =>
    by_cases e : i = j + 1
    · subst e; omega
    · have hr : l[j]? = some l[j] := List.getElem?_eq_getElem (by omega)
      rw [offL_succ l hr]
      have := ih (by omega) (by omega)
      omega
theorem offL_all (l : List Tr) : offL l l.length = (bytesL l).length := by unfold offL; rw [List.take_length]
/-- How many records are complete in so many bytes. -/
theorem cut_at (l : List Tr) (K : Nat) (h4 : 4 ≤ K) (hK : K ≤ 4 + (bytesL l).length) : ∃ j, j ≤ l.length ∧ 4 + offL l j ≤ K ∧ ((j = l.length ∧ K = 4 + offL l j) ∨ ∃ r, l[j]? = some r ∧ K < 4 + offL l j + 16 + r.bs.length) := by
  have hz : offL l 0 = 0 := by simp [offL, bytesL]
  have : ∀ q, q ≤ l.length → 4 + offL l q ≤ K → ∃ j, j ≤ l.length ∧ 4 + offL l j ≤ K ∧ ((j = l.length ∧ K = 4 + offL l j) ∨ ∃ r, l[j]? = some r ∧ K < 4 + offL l j + 16 + r.bs.length) := by
    intro q
    induction hn : l.length - q generalizing q with
    | zero =>
      intro hq h
      have e : q = l.length := by omega
      subst e
      exact ⟨_, Nat.le_refl _, h, .inl ⟨rfl, by have := offL_all l; omega⟩⟩
    | succ n ih =>
      intro hq h
      have hlt : q < l.length := by omega
      have hr : l[q]? = some l[q] := List.getElem?_eq_getElem hlt
      have hs := offL_succ l hr
      by_cases hc : K < 4 + offL l q + 16 + l[q].bs.length
      · exact ⟨q, hq, h, .inr ⟨_, hr, hc⟩⟩
      · exact ih (q + 1) (by omega) (by omega) (by omega)
  exact this 0 (by omega) (by omega)
theorem few_false {n : Nat} (h : ¬ (n : Int) ≤ 64) (A : Option Addr) (c : Nat) (w' : World) : Calls Tryd.prog 16 #[.slice A n c] w' fun e w2 => e = .returned (.bool false) ∧ w' = w2 := by
  have hd : decide ((n : Int) ≤ 64) = false := by simpa using h
  exact hd ▸ few_any A n c w'
theorem few_true {n : Nat} (h : (n : Int) ≤ 64) (A : Option Addr) (c : Nat) (w' : World) : Calls Tryd.prog 16 #[.slice A n c] w' fun e w2 => e = .returned (.bool true) ∧ w' = w2 := by
  have hd : decide ((n : Int) ≤ 64) = true := by simpa using h
  exact hd ▸ few_any A n c w'
/-- A file of a copy. -/
theorem write_copy (A : Option Addr) (n c : Nat) (xs l3 : List Tx) (w' : World) (hn : l3.length = n) (h64 : n ≤ 64) (hc : n ≤ c) (ta : TxsAt w' w'.heap.size A l3) (e3 : l3.map Tx.tr = xs.map Tx.tr) (hb : ∀ x ∈ xs, Bytes x.bs) (hT : Tabs w') :
    Calls Tryd.prog 17 #[.slice A n c] w' fun e w2 => ((¬ okL none (xs.map Tx.tr) ∧ ∃ A' c' code, code ≠ 0 ∧ e = .returned (.tuple #[.slice A' 0 c', .int .i64 code])) ∨
      (okL none (xs.map Tx.tr) ∧ ∃ A' c', e = .returned (.tuple #[.slice A' (4 + (bytesL (xs.map Tx.tr)).length) c', .int .i64 0]) ∧ 4 + (bytesL (xs.map Tx.tr)).length ≤ c' ∧ Ints .u8 w2 w2.heap.size A' (sigL ++ bytesL (xs.map Tx.tr)))) ∧ Below w'.heap.size w' w2 := by
  refine (write_any A n c l3 w' hn (by omega) hc ta (bytes_of e3 hb) hT.1).mono ?_
  rw [e3]
  rintro e w2 ⟨A', c', m, rfl, hm, hmc, hi, hbel⟩
  refine ⟨?_, hbel⟩
  by_cases ok : okL none (xs.map Tx.tr)
  · rw [write_ok ok] at hm hi ⊢
    simp only at hm hi ⊢
    have e4 : m = 4 + (bytesL (xs.map Tx.tr)).length := by rw [← hm, List.length_append, sig_len]
    subst e4
    exact .inr ⟨ok, A', c', rfl, hmc, hi⟩
  · obtain ⟨q1, q2⟩ := write_bad (acc := sigL) ok
    rw [q1] at hm
    have e0 : m = 0 := hm.symm
    subst e0
    exact .inl ⟨ok, A', c', _, q2, rfl⟩
theorem whole_many (A : Option Addr) (n c : Nat) (cut : Int) (w : World) (h64 : ¬ (n : Int) ≤ 64) (hT : Tabs w) :
    Calls Tryd.prog 7 #[.slice A n c, .int .i64 cut] w fun e w' => e = .returned (.bool true) ∧ Below w.heap.size w w' := by
  have HL := Lib.hid (tabs_lives w hT)
  have HF := Lib.hid (few_false h64 A c)
  clear h64
  go_enter Tryd.func7, Tryd.ntmps7
  go_wp2_with (first
    | (go_at_call 9; refine HL.out.mono ?_; rintro e w1 ⟨rfl, b1⟩)
    | (go_at_call 16; refine (HF.out _).mono ?_; rintro e w2 ⟨rfl, rfl⟩))
  go_ret
  exact ⟨rfl, b1⟩
theorem whole_wrong (A : Option Addr) (n c : Nat) (xs : List Tx) (cut : Int) (w : World) (hx : xs.length = n) (ta : TxsAt w w.heap.size A xs) (hb : ∀ x ∈ xs, Bytes x.bs) (h64 : (n : Int) ≤ 64) (ok : ¬ okL none (xs.map Tx.tr)) (hT : Tabs w) :
    Calls Tryd.prog 7 #[.slice A n c, .int .i64 cut] w fun e w' => e = .returned (.bool true) ∧ Below w.heap.size w w' := by
  have HL := Lib.hid (tabs_lives w hT)
  have HF := Lib.hid (few_true h64 A c)
  have HC : Hid (∀ w', Below w.heap.size w w' → Calls Tryd.prog 18 #[.slice A n c] w' fun e w2 => ∃ A3 c3 l3, e = .returned (.slice A3 n c3) ∧ n ≤ c3 ∧ l3.length = n ∧ l3.map Tx.tr = xs.map Tx.tr ∧ TxsAt w2 w2.heap.size A3 l3 ∧ Below w'.heap.size w' w2) := Lib.hid fun w' bb => copy_any A n c xs w' hx (by omega) (ta.later bb)
  have HW : Hid (∀ w' A3 c3 l3, Below w.heap.size w w' → n ≤ c3 → l3.length = n → l3.map Tx.tr = xs.map Tx.tr → TxsAt w' w'.heap.size A3 l3 → Calls Tryd.prog 17 #[.slice A3 n c3] w' fun e w2 => (∃ A' c' code, code ≠ 0 ∧ e = .returned (.tuple #[.slice A' 0 c', .int .i64 code])) ∧ Below w'.heap.size w' w2) := Lib.hid fun w' A3 c3 l3 bb q1 q2 q3 q4 =>
    (write_copy A3 n c3 xs l3 w' q2 (by omega) q1 q4 q3 hb (hT.below bb)).mono fun e w2 ⟨h, hbel⟩ => ⟨h.elim (fun h => h.2) fun h => absurd h.1 ok, hbel⟩
  clear h64 ta hb ok hT hx
  go_enter Tryd.func7, Tryd.ntmps7
  go_wp2_with (first
    | (go_at_call 9; refine HL.out.mono ?_; rintro e w1 ⟨rfl, b1⟩)
    | (go_at_call 16; refine (HF.out _).mono ?_; rintro e w2 ⟨rfl, rfl⟩)
    | (go_at_call 18; refine (HC.out _ b1).mono ?_; rintro e w3 ⟨A3, c3, l3, rfl, k3, n3, e3, t3, b3⟩; have b13 := thenB b1 b3)
    | (go_at_call 17; refine (HW.out _ A3 c3 l3 b13 k3 n3 e3 t3).mono ?_; rintro e w4 ⟨⟨A4, c4, code, hc0, rfl⟩, b4⟩; have hne : (code != 0) = true := by simpa using hc0))
  go_ret
  exact ⟨rfl, thenB b13 b4⟩
theorem whole_out (A : Option Addr) (n c : Nat) (xs : List Tx) (cut : Int) (w : World) (hx : xs.length = n) (ta : TxsAt w w.heap.size A xs) (hb : ∀ x ∈ xs, Bytes x.bs) (h64 : (n : Int) ≤ 64) (ok : okL none (xs.map Tx.tr)) (hT : Tabs w) (hcut : cut < 0 ∨ ((4 + (bytesL (xs.map Tx.tr)).length : Nat) : Int) < cut) :
    Calls Tryd.prog 7 #[.slice A n c, .int .i64 cut] w fun e w' => e = .returned (.bool true) ∧ Below w.heap.size w w' := by
  obtain ⟨M, hM⟩ : ∃ M, 4 + (bytesL (xs.map Tx.tr)).length = M := ⟨_, rfl⟩
  have HL := Lib.hid (tabs_lives w hT)
  have HF := Lib.hid (few_true h64 A c)
  have HC : Hid (∀ w', Below w.heap.size w w' → Calls Tryd.prog 18 #[.slice A n c] w' fun e w2 => ∃ A3 c3 l3, e = .returned (.slice A3 n c3) ∧ n ≤ c3 ∧ l3.length = n ∧ l3.map Tx.tr = xs.map Tx.tr ∧ TxsAt w2 w2.heap.size A3 l3 ∧ Below w'.heap.size w' w2) := Lib.hid fun w' bb => copy_any A n c xs w' hx (by omega) (ta.later bb)
  have HW : Hid (∀ w' A3 c3 l3, Below w.heap.size w w' → n ≤ c3 → l3.length = n → l3.map Tx.tr = xs.map Tx.tr → TxsAt w' w'.heap.size A3 l3 → Calls Tryd.prog 17 #[.slice A3 n c3] w' fun e w2 => ∃ A' c', e = .returned (.tuple #[.slice A' M c', .int .i64 0]) ∧ M ≤ c' ∧ Ints .u8 w2 w2.heap.size A' (sigL ++ bytesL (xs.map Tx.tr)) ∧ Below w'.heap.size w' w2) := Lib.hid fun w' A3 c3 l3 bb q1 q2 q3 q4 =>
    (write_copy A3 n c3 xs l3 w' q2 (by omega) q1 q4 q3 hb (hT.below bb)).mono fun e w2 ⟨h, hbel⟩ => h.elim (fun h => absurd ok h.1) fun ⟨_, A', c', h1, h2, h3⟩ => ⟨A', c', by rw [← hM]; exact h1, by omega, h3, hbel⟩
  rw [hM] at hcut
  clear h64 ta hb ok hT hx hM
  rcases hcut with hcut | hcut
  · skip
    go_enter Tryd.func7, Tryd.ntmps7
    go_wp2_with (first
    | (go_at_call 9; refine HL.out.mono ?_; rintro e w1 ⟨rfl, b1⟩)
    | (go_at_call 16; refine (HF.out _).mono ?_; rintro e w2 ⟨rfl, rfl⟩)
    | (go_at_call 18; refine (HC.out _ b1).mono ?_; rintro e w3 ⟨A3, c3, l3, rfl, k3, n3, e3, t3, b3⟩; have b13 := thenB b1 b3)
    | (go_at_call 17; refine (HW.out _ A3 c3 l3 b13 k3 n3 e3 t3).mono ?_; rintro e w4 ⟨A4, c4, rfl, hm4, j4, b4⟩; have b14 := thenB b13 b4))
    go_ret
    exact ⟨rfl, b14⟩
  · have hneg : ¬ cut < 0 := by omega
    go_enter Tryd.func7, Tryd.ntmps7
    go_wp2_with (first
    | (go_at_call 9; refine HL.out.mono ?_; rintro e w1 ⟨rfl, b1⟩)
    | (go_at_call 16; refine (HF.out _).mono ?_; rintro e w2 ⟨rfl, rfl⟩)
    | (go_at_call 18; refine (HC.out _ b1).mono ?_; rintro e w3 ⟨A3, c3, l3, rfl, k3, n3, e3, t3, b3⟩; have b13 := thenB b1 b3)
    | (go_at_call 17; refine (HW.out _ A3 c3 l3 b13 k3 n3 e3 t3).mono ?_; rintro e w4 ⟨A4, c4, rfl, hm4, j4, b4⟩; have b14 := thenB b13 b4))
    go_ret
    exact ⟨rfl, b14⟩
set_option maxHeartbeats 1000000 in
theorem whole_short (A : Option Addr) (n c : Nat) (xs : List Tx) (K : Nat) (w : World) (hx : xs.length = n) (ta : TxsAt w w.heap.size A xs) (hb : ∀ x ∈ xs, Bytes x.bs) (h64 : (n : Int) ≤ 64) (ok : okL none (xs.map Tx.tr)) (hT : Tabs w) (h4 : K < 4) :
    Calls Tryd.prog 7 #[.slice A n c, .int .i64 (K : Int)] w fun e w' => e = .returned (.bool true) ∧ Below w.heap.size w w' := by
  obtain ⟨i0, hi, hz0, hz1, hz2⟩ := info_parts Base.info_u8
  obtain ⟨M, hM⟩ : ∃ M, 4 + (bytesL (xs.map Tx.tr)).length = M := ⟨_, rfl⟩
  have HL := Lib.hid (tabs_lives w hT)
  have HF := Lib.hid (few_true h64 A c)
  have HC : Hid (∀ w', Below w.heap.size w w' → Calls Tryd.prog 18 #[.slice A n c] w' fun e w2 => ∃ A3 c3 l3, e = .returned (.slice A3 n c3) ∧ n ≤ c3 ∧ l3.length = n ∧ l3.map Tx.tr = xs.map Tx.tr ∧ TxsAt w2 w2.heap.size A3 l3 ∧ Below w'.heap.size w' w2) := Lib.hid fun w' bb => copy_any A n c xs w' hx (by omega) (ta.later bb)
  have HW : Hid (∀ w' A3 c3 l3, Below w.heap.size w w' → n ≤ c3 → l3.length = n → l3.map Tx.tr = xs.map Tx.tr → TxsAt w' w'.heap.size A3 l3 → Calls Tryd.prog 17 #[.slice A3 n c3] w' fun e w2 => ∃ A' c', e = .returned (.tuple #[.slice A' M c', .int .i64 0]) ∧ M ≤ c' ∧ Ints .u8 w2 w2.heap.size A' (sigL ++ bytesL (xs.map Tx.tr)) ∧ Below w'.heap.size w' w2) := Lib.hid fun w' A3 c3 l3 bb q1 q2 q3 q4 =>
    (write_copy A3 n c3 xs l3 w' q2 (by omega) q1 q4 q3 hb (hT.below bb)).mono fun e w2 ⟨h, hbel⟩ => h.elim (fun h => absurd ok h.1) fun ⟨_, A', c', h1, h2, h3⟩ => ⟨A', c', by rw [← hM]; exact h1, by omega, h3, hbel⟩
  have HK : Hid (((sigL ++ bytesL (xs.map Tx.tr)).take K).length = K) := Lib.hid (by rw [List.length_take, List.length_append, sig_len]; omega)
  have HB : Hid (Bytes ((sigL ++ bytesL (xs.map Tx.tr)).take K)) := Lib.hid (bytes_take (bytes_append (by intro z hz; simp [sigL] at hz; omega) (file_bytes ok (by intro r hr; obtain ⟨x, hx', rfl⟩ := List.mem_map.1 hr; exact hb x hx'))) K)
  have hKb : K ≤ 20000 := by
    have h1 := offL_all (xs.map Tx.tr)
    have h2 := offL_le ok (xs.map Tx.tr).length (Nat.le_refl _)
    rw [List.length_map, hx] at h2
    rw [List.length_map, hx] at h1
    omega
  have HR : Hid (∀ w' A5 c5, Below w.heap.size w w' → K ≤ c5 → c5 ≤ 9223372036854775807 → Ints .u8 w' w'.heap.size A5 ((sigL ++ bytesL (xs.map Tx.tr)).take K) → Calls Tryd.prog 20 #[.slice A5 K c5] w' fun e w2 => RdPost w' ((sigL ++ bytesL (xs.map Tx.tr)).take K) e w2) := Lib.hid fun w' A5 c5 bb q1 q2 q3 => read_any A5 K c5 _ w' HK.out q1 q2 (by omega) HB.out q3 (hT.below bb).1
  have g1 : ¬ (K : Int) < 0 ∧ ¬ (M : Int) < (K : Int) ∧ (K : Int) < 4 ∧ (0 : Int) ≤ (K : Int) ∧ K ≤ M := by omega
  have d1 : decide ((K : Int) < 0) = false := by simp
  have d2 : decide ((M : Int) < (K : Int)) = false := by simp; omega
  have d3 : decide (M < K) = false := by simp; omega
  have eR : readA ((sigL ++ bytesL (xs.map Tx.tr)).take K) = ([], 0, 3) := by
    unfold readA; rw [if_pos (by rw [HK.out]; exact h4)]
  have HE := Lib.hid eR
  clear h64 ta hb ok hT hx hM h4 eR
  go_enter Tryd.func7, Tryd.ntmps7
  go_wp2_with (first
    | (go_at_call 9; refine HL.out.mono ?_; rintro e w1 ⟨rfl, b1⟩)
    | (go_at_call 16; refine (HF.out _).mono ?_; rintro e w2 ⟨rfl, rfl⟩)
    | (go_at_call 18; refine (HC.out _ b1).mono ?_; rintro e w3 ⟨A3, c3, l3, rfl, k3, n3, e3, t3, b3⟩; have b13 := thenB b1 b3)
    | (go_at_call 17; refine (HW.out _ A3 c3 l3 b13 k3 n3 e3 t3).mono ?_; rintro e w4 ⟨A4, c4, rfl, hm4, j4, b4⟩; have b14 := thenB b13 b4; have hKc : (K : Int) ≤ (c4 : Int) ∧ K ≤ c4 := (by omega))
    | (at_builtin; refine wpList_append_ints rfl _ _ 32 rfl .u8 w4.heap.size 5 i0 _ 1 Tryd.underlying32 hi hz0 hz1 hz2 rfl (.slice (some ⟨w4.heap.size, 0, none⟩) 0 0) 0 [] rfl (World.ownsRow_made _ _ 0 (Nat.le_refl _) (by unfold maxLen; omega) rfl) w4.heap.size A4 K c4 ((sigL ++ bytesL (xs.map Tx.tr)).take K) rfl HK.out ?c1 ?c2 ?c3 ?c4 ?_; (case c1 => exact (ints_take j4 K).alloc (Nat.le_refl _) _); (case c2 => unfold maxLen; omega); (case c3 => omega); (case c4 => simp); intro v' w5 hown5 hb5 _; simp only [List.nil_append, Nat.zero_add] at hown5; obtain ⟨A5, c5, rfl⟩ := own_form hown5; have b15 := thenB b14 (((Below.refl _ w4).alloc (Nat.le_refl _) (.cells #[] 5)).trans hb5))
    | (go_at_call 20; refine (HR.out _ A5 c5 b15 (own_cap hown5) (own_max hown5) (Ints.own hown5)).mono ?_; rintro e w6 ⟨RA, rc, l6, rfl, hl6, hrc6, t6, b6⟩; have b16 := thenB b15 b6; rw [HE.out] at hl6 ⊢; have e6 : l6 = [] := (by simpa using hl6); subst e6))
  go_ret
  exact ⟨rfl, b16⟩
end Go.Proofs.YtkbhmgdmkamcfaaDoor.Cap
