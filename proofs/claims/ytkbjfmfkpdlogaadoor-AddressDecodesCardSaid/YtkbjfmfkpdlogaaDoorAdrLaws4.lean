/- The statement on decoding addresses, walked: it returns true. -/
import Derived.Test.YtkbjfmfkpdlogaaDoorAdrLives
import Derived.Test.YtkbjfmfkpdlogaaDoorAdrCode
import Derived.Test.YtkbjfmfkpdlogaaDoorAdrDecode2
set_option linter.unusedVariables false
set_option linter.unusedSimpArgs false
namespace Go.Proofs.YtkbjfmfkpdlogaaDoor.Adr
open Go.RowKit Mem Oct Base

/-- Append under a guard that holds. -/
theorem wpList_append_guarded {P : Program} {w : World} {ops : Array Oper} {rest : List Oper} {o : Oper} {a : Act} {Q : Exit → Act → World → Prop} (hgd : Region.wanted o (yielded ops a.tmps) = true) (s x : Operand) (t : TypeId)
    (ho : o.op = .call { callee := .builtin .append, args := #[s, x], argTypes := #[t, t] })
    (k : IntKind) (base : Nat) (e : TypeId) (i : TypeInfo) (z : Value) (bytes : Nat) (ht : P.underlying t = some (.slice e)) (hi : P.info? e = some i) (hz : i.zero = some z)
    (hsize : i.size = 1) (hby : i.bytes = bytes) (hzs : z.cells.size = 1)
    (v : Value) (n : Nat) (xs : List Value) (hs : a.eval s = v) (hown : w.ownsRow base e 1 v n xs)
    (B : Nat) (A : Option Addr) (m c : Nat) (zs : List Int) (hx : a.eval x = .slice A m c) (hm : zs.length = m) (hr : Ints k w B A zs)
    (h63 : n + m ≤ maxLen) (hbytes : (n + m) * bytes ≤ 140737488355328) (hbase : base ≤ w.heap.size)
    (h : ∀ v' w', w'.ownsRow base e 1 v' (n + m) (xs ++ zs.map (Value.int k)) → Below base w w' → w.grownBy w' v.ownBlock → wpList P ops Q rest (a.put o.dst v') w') : wpList P ops Q (o :: rest) a w := by
  unfold wpList
  rw [if_pos hgd]
  left
  obtain ⟨v', w', hrun, h2, h3⟩ := run_append_ints (P := P) (w := w) k base t o.type e i z bytes ht hi hz hsize hby hzs v n xs hown B A m c zs hm hr h63 hbytes hbase
  unfold Oper.wp execOp
  simp only [ho, resolve, invoke, builtin, Sem.run_bind, Sem.run_pure, Result.andThen_ok, List.map_toArray, List.map_cons, List.map_nil, hs, hx, hrun]
  exact h v' w' h2 ((Below.refl base w).grown h3 hbase fun g hg => (hown.lt g hg).1) h3
theorem own_some7 {w : World} {base c : Nat} {A : Option Addr} {xs : List Value} (h : w.ownsRow base 5 1 (.slice A 7 c) 7 xs) : ∃ g : Nat, base ≤ g ∧ g < w.heap.size := by
  obtain ⟨g, _, h1, h2⟩ := own_block h (by decide)
  exact ⟨g, h1, h2⟩
theorem adr_eq (k b : Int) (w : World) : (binOp .eql 26 (.agg #[.int .i64 k, .int .u64 b]) (.agg #[.int .i64 k, .int .u64 b])).run Tryd.prog w = .ok (.bool true) w := by
  go_simp
theorem adr_guard (k b k' b' : Int) (w : World) (x y : Operand) : (eqGuard .eql 26 x y (.agg #[.int .i64 k, .int .u64 b]) (.agg #[.int .i64 k', .int .u64 b'])).run Tryd.prog w = .ok () w := by
  go_simp
theorem adr_neq (k b : Int) (w : World) : (binOp .neq 26 (.agg #[.int .i64 k, .int .u64 b]) (.agg #[.int .i64 k, .int .u64 b])).run Tryd.prog w = .ok (.bool false) w := by
  go_simp
theorem adr_nguard (k b k' b' : Int) (w : World) (x y : Operand) : (eqGuard .neq 26 x y (.agg #[.int .i64 k, .int .u64 b]) (.agg #[.int .i64 k', .int .u64 b'])).run Tryd.prog w = .ok () w := by
  go_simp
theorem numL_valL (l : List Int) (h : Bytes l) : numL l.length (valL l) = l := by
  induction l with
  | nil => rfl
  | cons x r ih =>
    have hx := h x (by simp)
    have hr := ih (fun z hz => h z (by simp [hz]))
    have hv := (valL_bd (fun z hz => h z (by simp [hz]) : Bytes r)).1
    show (x + 256 * valL r) % 256 :: numL r.length ((x + 256 * valL r) / 256) = x :: r
    rw [show (x + 256 * valL r) % 256 = x by omega, show (x + 256 * valL r) / 256 = valL r by omega, hr]
theorem enc_back {xs : List Int} (h : Bytes xs) (hn : 7 ≤ xs.length) : (xs.getD 0 0 :: numL 6 (valL ((xs.drop 1).take 6))) ++ xs.drop 7 = xs := by
  have hl : ((xs.drop 1).take 6).length = 6 := by simp; omega
  have e := numL_valL ((xs.drop 1).take 6) (bytes_take (bytes_drop h 1) 6)
  rw [hl] at e
  rw [e]
  match xs, hn with
  | x :: r, _ =>
    show x :: (r.take 6 ++ r.drop 6) = x :: r
    rw [List.take_append_drop]
set_option maxHeartbeats 1000000 in
theorem decodes_fail (A : Option Addr) (n c : Nat) (xs : List Int) (J C : Int) (w : World) (hn : n ≤ 300) (hC : ¬ C = 0) (hr : Ints .u8 w w.heap.size A xs)
    (H1 : Hid (∀ w, Ints .u8 w w.heap.size A xs → Tab w → Calls Tryd.prog 13 #[.slice A n c] w fun e w' => e = .returned (.tuple #[.agg #[.int .i64 J, .int .u64 J], .slice none 0 0, .int .i64 C]) ∧ Below w.heap.size w w'))
    (H2 : Hid (∀ w, Ints .u8 w w.heap.size A xs → Calls Tryd.prog 14 #[.slice A n c] w fun e w' => e = .returned (.tuple #[.agg #[.int .i64 J, .int .u64 J], .slice none 0 0, .int .i64 C]) ∧ Below w.heap.size w w'))
    (hT : Tab w) :
    Calls Tryd.prog 3 #[.slice A n c] w fun e w' => e = .returned (.bool true) ∧ Below w.heap.size w w' := by
  have g1 : ¬ (300 : Int) < (n : Int) := by omega
  have gC : (C != 0) = true := by simpa using hC
  have q1 := adr_neq J J
  have q2 := adr_nguard J J J J
  have nb : Bytes [] := by intro z hz; cases hz
  go_enter Tryd.func3, Tryd.ntmps3
  go_wp2_with fail
  refine (H1.out _ hr hT).mono ?_
  rintro e w1 ⟨rfl, b1⟩
  have F1 := box_new w1 J J
  have B1 := b1.alloc b1.size (.cells #[.int .i64 J, .int .u64 J] 26)
  have T1 := (hT.below b1).alloc (.cells #[.int .i64 J, .int .u64 J] 26)
  have i1 := kept (later hr b1) (.cells #[.int .i64 J, .int .u64 J] 26)
  clear b1
  go_wp2_with fail
  generalize w1.alloc (.cells #[.int .i64 J, .int .u64 J] 26) = W1 at *
  generalize w1.heap.size = g1' at *
  refine (H2.out _ i1).mono ?_
  rintro e w2 ⟨rfl, b2⟩
  have F2 := (F1.below b2).below ((Below.refl w2.heap.size w2).alloc (Nat.le_refl _) (.cells #[.int .i64 J, .int .u64 J] 26))
  have G2 := box_new w2 J J
  have B2 := (thenB B1 b2).alloc (thenB B1 b2).size (.cells #[.int .i64 J, .int .u64 J] 26)
  have T2 := (T1.below b2).alloc (.cells #[.int .i64 J, .int .u64 J] 26)
  have c0 := F2.c0
  have c1 := F2.c1
  have d0 := G2.c0
  have d1 := G2.c1
  clear F1 B1 T1 b2 i1 F2 G2
  go_wp2_with (first
    | (go_at_call 15; refine (same_to (b := true) (xs := []) (ys := []) (by simp) rfl rfl nb nb (.inl rfl) (.inl rfl)).mono ?_; rintro e w' ⟨rfl, rfl⟩)
    | (go_at_call 12; refine (lives_any _ T2).mono ?_; rintro e w3 ⟨rfl, b3⟩))
  go_ret
  exact ⟨rfl, thenB B2 b3⟩
set_option maxHeartbeats 2000000 in
theorem decodes_good (A : Option Addr) (n c m : Nat) (xs Z E : List Int) (X V : Int) (w : World) (hn : n ≤ 300) (hm : m ≤ 300) (hr : Ints .u8 w w.heap.size A xs) (hx : xs.length = n) (hZ : Z.length = m) (hE : E.length = 7) (bx : Bytes xs) (bZ : Bytes Z) (hX : E ++ Z = xs)
    (H1 : Hid (∀ w, Ints .u8 w w.heap.size A xs → Tab w → Calls Tryd.prog 13 #[.slice A n c] w fun e w' => ∃ A' c', e = .returned (.tuple #[.agg #[.int .i64 X, .int .u64 V], .slice A' m c', .int .i64 0]) ∧ m ≤ c' ∧ Ints .u8 w' w'.heap.size A' Z ∧ Below w.heap.size w w'))
    (H2 : Hid (∀ w, Ints .u8 w w.heap.size A xs → Calls Tryd.prog 14 #[.slice A n c] w fun e w' => ∃ A' c', e = .returned (.tuple #[.agg #[.int .i64 X, .int .u64 V], .slice A' m c', .int .i64 0]) ∧ m ≤ c' ∧ Ints .u8 w' w'.heap.size A' Z ∧ Below w.heap.size w w'))
    (H3 : Hid (∀ w, Tab w → Calls Tryd.prog 16 #[.agg #[.int .i64 X, .int .u64 V]] w fun e w' => ∃ A' c', e = .returned (.tuple #[.slice A' 7 c', .int .i64 0]) ∧ w'.ownsRow w.heap.size 5 1 (.slice A' 7 c') 7 (E.map (Value.int .u8)) ∧ Below w.heap.size w w'))
    (hT : Tab w) :
    Calls Tryd.prog 3 #[.slice A n c] w fun e w' => e = .returned (.bool true) ∧ Below w.heap.size w w' := by
  obtain ⟨i0, hi, hz0, hz1, hz2⟩ := info_parts info_u8
  have g1 : ¬ (300 : Int) < (n : Int) := by omega
  have q1 := adr_neq X V
  have q2 := adr_nguard X V X V
  have hmn : 7 + m = n := by rw [← hx, ← hX, List.length_append, hE, hZ]
  have HX := Lib.hid hX
  have Hx := Lib.hid hx
  have HZ := Lib.hid hZ
  clear hX hx hZ hE
  go_enter Tryd.func3, Tryd.ntmps3
  go_wp2_with fail
  refine (H1.out _ hr hT).mono ?_
  rintro e w1 ⟨A1, c1, rfl, k1, j1, b1⟩
  have F1 := box_new w1 X V
  have B1 := b1.alloc b1.size (.cells #[.int .i64 X, .int .u64 V] 26)
  have T1 := (hT.below b1).alloc (.cells #[.int .i64 X, .int .u64 V] 26)
  have i1 := kept (later hr b1) (.cells #[.int .i64 X, .int .u64 V] 26)
  have j1' := kept j1 (.cells #[.int .i64 X, .int .u64 V] 26)
  clear b1 j1 hr hT
  go_wp2_with fail
  generalize w1.alloc (.cells #[.int .i64 X, .int .u64 V] 26) = W1 at *
  generalize w1.heap.size = g1' at *
  refine (H2.out _ i1).mono ?_
  rintro e w2 ⟨A2, c2, rfl, k2, j2, b2⟩
  have F2 := (F1.below b2).below ((Below.refl w2.heap.size w2).alloc (Nat.le_refl _) (.cells #[.int .i64 X, .int .u64 V] 26))
  have G2 := box_new w2 X V
  have B2 := (thenB B1 b2).alloc (thenB B1 b2).size (.cells #[.int .i64 X, .int .u64 V] 26)
  have T2 := (T1.below b2).alloc (.cells #[.int .i64 X, .int .u64 V] 26)
  have i2 := kept (later i1 b2) (.cells #[.int .i64 X, .int .u64 V] 26)
  have m1 := kept (later j1' b2) (.cells #[.int .i64 X, .int .u64 V] 26)
  have m2 := kept j2 (.cells #[.int .i64 X, .int .u64 V] 26)
  have c0 := F2.c0
  have c1 := F2.c1
  have d0 := G2.c0
  have d1 := G2.c1
  clear F1 B1 T1 b2 i1 j1' j2 G2
  go_wp2_with (go_at_call 15; refine (same_to (b := true) (xs := Z) (ys := Z) (by simp) HZ.out HZ.out bZ bZ m1 m2).mono ?_; rintro e w' ⟨rfl, rfl⟩)
  generalize w2.alloc (.cells #[.int .i64 X, .int .u64 V] 26) = W2 at *
  clear d0 d1 m2
  refine (H3.out _ T2).mono ?_
  rintro e w3 ⟨A3, c3, rfl, own3, b3⟩
  have B3 := thenB B2 b3
  have T3 := T2.below b3
  have m3 := later m1 b3
  clear c0 c1 m1 T2
  go_wp2_with fail
  refine (lives_any _ T3).mono ?_
  rintro e w4 ⟨rfl, b4⟩
  have B4 := thenB B3 b4
  have BW := thenB b3 b4
  have i4 := i2.below BW
  have m4 := later m3 b4
  have own4 := own_below own3 b4
  have hWs : W2.heap.size ≤ w4.heap.size := by
    have h1 := own3
    exact Nat.le_trans (by rcases own_some7 own3 with ⟨g, hg1, hg2⟩; omega) b4.size
  clear own3 b4 b3 i2 m3
  go_wp2_with (at_builtin; refine wpList_append_guarded (by rfl) _ _ 22 rfl .u8 W2.heap.size 5 i0 _ 1 Tryd.underlying22 hi hz0 hz1 hz2 rfl _ 7 _ rfl own4 w4.heap.size A1 m c1 Z rfl HZ.out ?c1 ?c2 ?c3 ?c4 ?_; (case c1 => exact m4); (case c2 => unfold maxLen; omega); (case c3 => omega); (case c4 => exact hWs); intro v5 w5 own5 b5 _; obtain ⟨A5, c5, rfl⟩ := own_form own5)
  have own6 : w5.ownsRow W2.heap.size 5 1 (.slice A5 (7 + m) c5) (7 + m) ((E ++ Z).map (Value.int .u8)) := by simpa using own5
  have j5 := Ints.own own6
  rw [HX.out] at j5
  have i5 := (i4.below b5).more (Nat.le_trans hWs b5.size)
  have B5 := B4.trans (b5.mono B2.size)
  clear own5 own6 i4
  refine (same_to (b := true) (xs := xs) (ys := xs) (by simp) (by first | exact Hx.out | (rw [Hx.out]; omega)) Hx.out bx bx j5 i5).mono ?_
  rintro e w' ⟨rfl, rfl⟩
  go_wp2_with fail
  go_ret
  exact ⟨rfl, B5⟩
theorem law_decodes (A : Option Addr) (n c : Nat) (xs : List Int) (w : World) (hx : xs.length = n) (hnc : n ≤ c) (hr : Ints .u8 w w.heap.size A xs) (bx : Bytes xs) (hs : c * 1 ≤ 140737488351232) (hT : Tab w) :
    Calls Tryd.prog 3 #[.slice A n c] w fun e w' => e = .returned (.bool true) ∧ Below w.heap.size w w' := by
  by_cases hbig : 300 < n
  · have g1 : (300 : Int) < (n : Int) := by omega
    go_enter Tryd.func3, Tryd.ntmps3
    go_wp2_with (go_at_call 12; refine (lives_any _ hT).mono ?_; rintro e w3 ⟨rfl, b3⟩)
    go_ret
    exact ⟨rfl, b3⟩
  · by_cases hn : n < 7
    · exact decodes_fail A n c xs 0 3 w (by omega) (by decide) hr (Lib.hid fun w h hT => decode_short A n c xs w hx hnc hn bx h) (Lib.hid fun w h => rdecode_short A n c w hn) hT
    · by_cases hc : chk (xs.getD 0 0) (valL ((xs.drop 1).take 6)) = 0
      · have hV := valL_bd (bytes_take (bytes_drop bx 1) 6)
        have hl6 : ((xs.drop 1).take 6).length = 6 := by simp; omega
        rw [hl6, show Ser.p2 (8 * 6) = 281474976710656 by decide] at hV
        refine decodes_good A n c (n - 7) xs (xs.drop 7) (xs.getD 0 0 :: numL 6 (valL ((xs.drop 1).take 6))) (xs.getD 0 0) (valL ((xs.drop 1).take 6)) w (by omega) (by omega) hr hx (by simp; omega) (by simp [numL_len]) bx (bytes_drop bx 7) (enc_back bx (by omega)) ?_ ?_ ?_ hT
        · exact Lib.hid fun w h hT => decode_ok A n c xs w hx hnc hn (by omega) bx h hT hc
        · exact Lib.hid fun w h => by
            by_cases h7 : c = 7
            · obtain rfl : n = 7 := by omega
              subst h7
              exact rdecode_seven A xs w hx bx h hc
            · exact rdecode_ok A n c xs w hx hnc hn (by omega) h7 bx h hc
        · exact Lib.hid fun w hT => by
            have := encode_any (xs.getD 0 0) (valL ((xs.drop 1).take 6)) w (by have := bytes_get bx 0; omega) (by omega) hT
            refine this.mono ?_
            rintro e w' ⟨A', c', he, ho, hb⟩
            have hE : encR (xs.getD 0 0) (valL ((xs.drop 1).take 6)) = (xs.getD 0 0 :: numL 6 (valL ((xs.drop 1).take 6)), 0) := by unfold encR; rw [if_pos hc]
            rw [hE] at he ho
            have h7 : (xs.getD 0 0 :: numL 6 (valL ((xs.drop 1).take 6))).length = 7 := by simp [numL_len]
            simp only [h7] at he ho
            exact ⟨A', c', he, ho, hb⟩
      · refine decodes_fail A n c xs 0 (chk (xs.getD 0 0) (valL ((xs.drop 1).take 6))) w (by omega) hc hr ?_ ?_ hT
        · exact Lib.hid fun w h hT => decode_err A n c xs w hx hnc hn (by omega) bx h hT hc
        · exact Lib.hid fun w h => rdecode_err A n c xs w hx hnc hn (by omega) bx h hc
end Go.Proofs.YtkbjfmfkpdlogaaDoor.Adr
