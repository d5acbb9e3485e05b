/- What policies allow, by the layer and the document: contracts over the program. -/
import Derived.Test.YtegmknmbgifmjaaDoorAccHas
import Derived.Test.YtegmknmbgifmjaaDoorRead
set_option linter.unusedVariables false
set_option linter.unusedSimpArgs false
namespace Go.Proofs.YtegmknmbgifmjaaDoor.Ace
open Go.RowKit Mem Rw Base Arg
open Prv (findZ Idents triples_below)

/-- Whether a number is on a list. -/
def inI (l : List Int) (p : Int) : Bool := l.any fun x => x == p
theorem in_step {l : List Int} {j : Nat} {x p : Int} (h : l[j]? = some x) (e : (x == p) = false) (hp : inI (l.take j) p = false) : inI (l.take (j + 1)) p = false := by
  rw [take_snoc h]; unfold inI at *; rw [List.any_append, hp]; simpa using e
theorem in_at {l : List Int} {j : Nat} {x p : Int} (h : l[j]? = some x) (e : (x == p) = true) : inI l p = true := by
  unfold inI; rw [List.any_eq_true]; exact ⟨x, List.mem_of_getElem? h, e⟩
set_option maxHeartbeats 1000000 in
theorem containsI_any (A : Option Addr) (n c : Nat) (l : List Int) (p : Int) (w : World) (hl : l.length = n) (hn : n ≤ 8796093022208) (hr : Ints .i64 w w.heap.size A l) :
    Calls Tryd.prog 30 #[.slice A n c, .int .i64 p] w fun e w' => e = .returned (.bool (inI l p)) ∧ w = w' := by
  have HN : Hid (∀ j, j < n → ∃ x, l[j]? = some x ∧ l.getD j 0 = x) := Lib.hid fun j h => by
    obtain ⟨x, hx, _⟩ := has hl h
    exact ⟨x, hx, by simp [List.getD, hx]⟩
  have HO : Hid (0 < n → ∃ b off, A = some ⟨b, off, none⟩ ∧ ∀ j, j < n → w.cell? ⟨b, off + j, none⟩ = some (.int .i64 (l.getD j 0))) := Lib.hid fun h0 => by
    obtain ⟨b, off, e, _, hc⟩ := hr.at_ (i := 0) (by omega)
    exact ⟨b, off, e, fun j hj => hc j (by omega)⟩
  have HT : Hid (inI (l.take n) p = inI l p) := Lib.hid (by rw [List.take_of_length_le (by omega)])
  clear hl hr
  generalize hR : inI l p = R at *
  have HRR := Lib.hid hR
  clear hR
  go_enter Tryd.func30, Tryd.ntmps30
  go_wp2_with fail
  go_loopw [6, 9] (fun _ s9 wr => ∃ j : Nat, j ≤ n ∧ s9 = .int .i64 j ∧ Hid (inI (l.take j) p = false) ∧ w = wr) (fun _ s9 _ => n - (intOf s9).toNat)
  case atStart => exact ⟨0, by omega, rfl, Lib.hid rfl, rfl⟩
  case round =>
    obtain ⟨j, hj, rfl, hno, rfl⟩ := hrel
    by_cases cj : j < n
    · obtain ⟨x, hxj, hxd⟩ := HN.out j cj
      obtain ⟨b, off, rfl, hc⟩ := HO.out (by omega)
      have h0 := hc j cj
      rw [hxd] at h0
      have HS := Lib.hid (fun e => in_step hxj (p := p) e hno.out)
      have HA := Lib.hid (fun e => in_at hxj (p := p) e)
      have g1 : (0 : Int) ≤ (j : Int) ∧ (j : Int) < (n : Int) := by omega
      clear hc hxj hxd
      cases he : (x == p) with
      | true =>
        have HR : Hid (R = true) := Lib.hid (HRR.out.symm.trans (HA.out he))
        go_wp2_with fail
        go_ret
        exact ⟨Ser.ret_bool HR.out.symm, rfl⟩
      | false =>
        have HF := Lib.hid (HS.out he)
        clear HS HA
        go_wp2_with fail
        go_round
        case rel => exact ⟨j + 1, by omega, by go_num, HF, trivial⟩
        case measure => simp [intOf]; omega
    · obtain rfl : j = n := by omega
      have HR : Hid (R = false) := Lib.hid (by rw [← HT.out]; exact hno.out)
      go_wp2_with fail
      go_ret
      exact ⟨Ser.ret_bool HR.out.symm, rfl⟩
/-- The policies with which a request is answered for everybody, and for those on the list. -/
def polO (r : Int) : List Int := if r = 3 then [0, 2] else if r = 5 then [0, 1] else []
def polC (r : Int) : List Int := if r = 3 then [1, 3] else if r = 5 then [2, 3] else []
/-- Two lists of numbers. -/
def Two (w w' : World) (e : Ending) (x y : List Int) : Prop := ∃ A c A' c', e = .returned (.tuple #[.slice A x.length c, .slice A' y.length c']) ∧ Ints .i64 w' w'.heap.size A x ∧ Ints .i64 w' w'.heap.size A' y ∧ Below w.heap.size w w'
theorem policies_any (r : Int) (w : World) : Calls Tryd.prog 29 #[.int .i64 r] w fun e w' => Two w w' e (polO r) (polC r) := by
  by_cases h3 : r = 3
  · subst h3
    go_enter Tryd.func29, Tryd.ntmps29
    go_wp2_with fail
    go_ret2
    exact ⟨_, _, _, _, rfl, kept (lit1 .i64 w [0, 2] _ _ rfl) _, by have := lit1 .i64 (w.alloc (.cells #[.int .i64 0, .int .i64 2] 3)) [1, 3] #[.int .i64 1, .int .i64 3] 3 rfl; rw [show polC 3 = [1, 3] from rfl]; simpa using this, ((Below.refl _ _).alloc (Nat.le_refl _) _).alloc (by simp) _⟩
  · by_cases h5 : r = 5
    · subst h5
      go_enter Tryd.func29, Tryd.ntmps29
      go_wp2_with fail
      go_ret2
      exact ⟨_, _, _, _, rfl, kept (lit1 .i64 w [0, 1] _ _ rfl) _, by have := lit1 .i64 (w.alloc (.cells #[.int .i64 0, .int .i64 1] 3)) [2, 3] #[.int .i64 2, .int .i64 3] 3 rfl; rw [show polC 5 = [2, 3] from rfl]; simpa using this, ((Below.refl _ _).alloc (Nat.le_refl _) _).alloc (by simp) _⟩
    · have HO : Hid (polO r = []) := Lib.hid (by unfold polO; rw [if_neg h3, if_neg h5])
      have HC : Hid (polC r = []) := Lib.hid (by unfold polC; rw [if_neg h3, if_neg h5])
      have g3 : (r == 3) = false := by simpa using h3
      have g5 : (r == 5) = false := by simpa using h5
      go_enter Tryd.func29, Tryd.ntmps29
      go_wp2_with fail
      go_ret2
      rw [HO.out, HC.out]
      exact ⟨_, _, _, _, rfl, .inl rfl, .inl rfl, Below.refl _ _⟩
/-- Whether a request is answered. -/
def allowZ (p r : Int) (o : Bool) : Bool := inI (polO r) p || (inI (polC r) p && o)
set_option maxHeartbeats 1000000 in
theorem allows_any (p r : Int) (A A' : Option Addr) (n c n' c' : Nat) (l : List (Int × Int)) (fs : List (Int × Int × Int)) (a1 a2 : Int) (w : World) (hl : l.length = n) (hn : n ≤ 8796093022200) (hr : ListAt encA w w.heap.size A l) (hf : fs.length = n') (hnc : n' ≤ c') (hn' : n' ≤ 140737488355328) (hr' : TriplesAt w A' fs) (hI : Idents fs)
    (hk : -9223372036854775808 ≤ a1 ∧ a1 ≤ 9223372036854775807) (hb : 0 ≤ a2 ∧ a2 ≤ 18446744073709551615) (hT : Adr.Tab w) :
    Calls Tryd.prog 19 #[.int .i64 p, .int .i64 r, .slice A n c, .slice A' n' c', .agg #[.int .i64 a1, .int .u64 a2]] w fun e w' => e = .returned (.bool (allowZ p r (hasB l fs (a1, a2)))) ∧ Below w.heap.size w w' := by
  have A0 : Below w.heap.size w (w.alloc (.cells #[.int .i64 a1, .int .u64 a2] 25)) := (Below.refl _ _).alloc (Nat.le_refl _) _
  have F0 := Adr.box_new w a1 a2
  have HH : Hid (∀ w', Below w.heap.size w w' → Calls Tryd.prog 16 #[.slice A n c, .slice A' n' c', .agg #[.int .i64 a1, .int .u64 a2]] w' fun e w2 => e = .returned (.bool (hasB l fs (a1, a2))) ∧ Below w'.heap.size w' w2) := Lib.hid fun w' b => has_any A A' n c n' c' l fs a1 a2 w' hl hn (CellsAt.later hr b) hf hnc hn' (triples_below hr' b) hI hk hb (hT.below b)
  have HP : Hid (∀ w', Calls Tryd.prog 29 #[.int .i64 r] w' fun e w2 => Two w' w2 e (polO r) (polC r)) := Lib.hid fun w' => policies_any r w'
  have HL : Hid ((polO r).length ≤ 2 ∧ (polC r).length ≤ 2) := Lib.hid (by unfold polO polC; constructor <;> split <;> (try split) <;> simp)
  have HZ : Hid (∀ o, allowZ p r o = (inI (polO r) p || (inI (polC r) p && o))) := Lib.hid fun o => rfl
  generalize hasB l fs (a1, a2) = O at *
  have HZ := Lib.hid (HZ.out O)
  generalize allowZ p r O = R at *
  generalize polO r = x at *
  generalize polC r = y at *
  clear hl hr hf hr' hI hT
  obtain ⟨n1, h1⟩ : ∃ k, x.length = k := ⟨_, rfl⟩
  obtain ⟨n2, h2⟩ : ∃ k, y.length = k := ⟨_, rfl⟩
  have hx := HL.out
  rw [h1, h2] at hx
  obtain ⟨hx1, hx2⟩ := hx
  have HI : Hid (∀ (w' : World) X q, Ints .i64 w' w'.heap.size X x → Calls Tryd.prog 30 #[.slice X n1 q, .int .i64 p] w' fun e w2 => e = .returned (.bool (inI x p)) ∧ w' = w2) := Lib.hid fun w' X q h => containsI_any X n1 q x p w' h1 (by omega) h
  have HJ : Hid (∀ (w' : World) X q, Ints .i64 w' w'.heap.size X y → Calls Tryd.prog 30 #[.slice X n2 q, .int .i64 p] w' fun e w2 => e = .returned (.bool (inI y p)) ∧ w' = w2) := Lib.hid fun w' X q h => containsI_any X n2 q y p w' h2 (by omega) h
  have L1 := Lib.hid h1
  have L2 := Lib.hid h2
  clear h1 h2
  generalize inI x p = U at *
  generalize inI y p = V at *
  go_enter Tryd.func19, Tryd.ntmps19
  go_wp2_with fail
  generalize w.alloc (.cells #[.int .i64 a1, .int .u64 a2] 25) = W0 at *
  refine (HP.out W0).mono ?_
  intro e W1 htwo
  obtain ⟨X, q, Y, q', rfl, hX, hY, b1⟩ := htwo
  rw [L1.out, L2.out]
  have B1 := thenB A0 b1
  have F1 := F0.below b1
  have d0 := F1.c0
  have d1 := F1.c1
  have K1 := Lib.hid (HI.out W1 X q hX)
  have K2 := Lib.hid (HJ.out W1 Y q' hY)
  clear HI HJ hX hY
  go_wp2_with fail
  refine K1.out.mono ?_
  rintro e W2 ⟨rfl, rfl⟩
  cases U with
  | true =>
    have HR : Hid (R = true) := Lib.hid (by rw [HZ.out]; rfl)
    go_wp2_with fail
    go_ret
    exact ⟨Ser.ret_bool HR.out.symm, B1⟩
  | false =>
    go_wp2_with fail
    refine K2.out.mono ?_
    rintro e W2 ⟨rfl, rfl⟩
    cases V with
    | false =>
      have HR : Hid (R = false) := Lib.hid (by rw [HZ.out]; rfl)
      go_wp2_with fail
      go_ret
      exact ⟨Ser.ret_bool HR.out.symm, B1⟩
    | true =>
      have HR : Hid (R = O) := Lib.hid (by rw [HZ.out]; simp)
      go_wp2_with fail
      refine (HH.out W1 B1).mono ?_
      rintro e W3 ⟨rfl, b3⟩
      go_wp2_with fail
      go_ret
      exact ⟨Ser.ret_bool HR.out.symm, thenB B1 b3⟩
theorem allow_out {p r : Int} (o : Bool) (h : p < 0 ∨ 3 < p) : allowZ p r o = false := by
  have e : ∀ x ∈ [0, 1, 2, 3], (x == p) = false := by
    intro x hx
    have : ¬ x = p := by simp at hx; omega
    simpa using this
  have h1 : inI (polO r) p = false := by
    unfold polO inI; split
    · simp [e 0, e 2]
    · split
      · simp [e 0, e 1]
      · rfl
  have h2 : inI (polC r) p = false := by
    unfold polC inI; split
    · simp [e 1, e 3]
    · split
      · simp [e 2, e 3]
      · rfl
  unfold allowZ; rw [h1, h2]; rfl
theorem allow_none {p r : Int} (o : Bool) (h3 : ¬ r = 3) (h5 : ¬ r = 5) : allowZ p r o = false := by
  unfold allowZ polO polC; rw [if_neg h3, if_neg h3, if_neg h5, if_neg h5]; rfl
set_option maxHeartbeats 2000000 in
theorem rallows_any (p r : Int) (A A' : Option Addr) (n c n' c' : Nat) (l : List (Int × Int)) (fs : List (Int × Int × Int)) (a1 a2 : Int) (w : World) (hl : l.length = n) (hn : n ≤ 8796093022200) (hr : ListAt encA w w.heap.size A l) (hf : fs.length = n') (hnc : n' ≤ c') (hn' : n' ≤ 140737488355328) (hr' : TriplesAt w A' fs) (hI : Idents fs)
    (hk : -9223372036854775808 ≤ a1 ∧ a1 ≤ 9223372036854775807) (hb : 0 ≤ a2 ∧ a2 ≤ 18446744073709551615) :
    Calls Tryd.prog 20 #[.int .i64 p, .int .i64 r, .slice A n c, .slice A' n' c', .agg #[.int .i64 a1, .int .u64 a2]] w fun e w' => e = .returned (.bool (allowZ p r (hasB l fs (a1, a2)))) ∧ Below w.heap.size w w' := by
  have A0 : Below w.heap.size w (w.alloc (.cells #[.int .i64 a1, .int .u64 a2] 25)) := (Below.refl _ _).alloc (Nat.le_refl _) _
  have F0 := Adr.box_new w a1 a2
  have d0 := F0.c0
  have d1 := F0.c1
  have HH : Hid (∀ w', Below w.heap.size w w' → Calls Tryd.prog 18 #[.slice A n c, .slice A' n' c', .agg #[.int .i64 a1, .int .u64 a2]] w' fun e w2 => e = .returned (.bool (hasB l fs (a1, a2))) ∧ Below w'.heap.size w' w2) := Lib.hid fun w' b => rhas_any A A' n c n' c' l fs a1 a2 w' hl hn (CellsAt.later hr b) hf hnc hn' (triples_below hr' b) hI hk hb
  generalize hasB l fs (a1, a2) = O at *
  clear hl hr hf hr' hI F0
  by_cases ho : p < 0 ∨ 3 < p
  · have HR := Lib.hid (allow_out (r := r) O ho)
    generalize allowZ p r O = R at *
    rcases ho with h | h
    · go_enter Tryd.func20, Tryd.ntmps20
      go_wp2_with fail
      go_ret
      exact ⟨Ser.ret_bool HR.out.symm, A0⟩
    · have h' : ¬ p < 0 := by omega
      go_enter Tryd.func20, Tryd.ntmps20
      go_wp2_with fail
      go_ret
      exact ⟨Ser.ret_bool HR.out.symm, A0⟩
  · by_cases h3 : r = 3
    · subst h3
      have hp : (p = 0 ∨ p = 2) ∨ (p = 1 ∨ p = 3) := by omega
      rcases hp with hp | hp
      · have HR : Hid (allowZ p 3 O = true) := Lib.hid (by rcases hp with rfl | rfl <;> rfl)
        generalize allowZ p 3 O = R at *
        rcases hp with rfl | rfl
        all_goals
          go_enter Tryd.func20, Tryd.ntmps20
          go_wp2_with fail
          go_ret
          exact ⟨Ser.ret_bool HR.out.symm, A0⟩
      · have HR : Hid (allowZ p 3 O = O) := Lib.hid (by rcases hp with rfl | rfl <;> cases O <;> rfl)
        generalize allowZ p 3 O = R at *
        rcases hp with rfl | rfl
        all_goals
          go_enter Tryd.func20, Tryd.ntmps20
          go_wp2_with fail
          generalize w.alloc (.cells #[.int .i64 a1, .int .u64 a2] 25) = W0 at *
          refine (HH.out W0 A0).mono ?_
          rintro e W3 ⟨rfl, b3⟩
          go_wp2_with fail
          go_ret
          exact ⟨Ser.ret_bool HR.out.symm, thenB A0 b3⟩
    · by_cases h5 : r = 5
      · subst h5
        have hp : (p = 0 ∨ p = 1) ∨ (p = 2 ∨ p = 3) := by omega
        rcases hp with hp | hp
        · have HR : Hid (allowZ p 5 O = true) := Lib.hid (by rcases hp with rfl | rfl <;> rfl)
          generalize allowZ p 5 O = R at *
          rcases hp with rfl | rfl
          all_goals
            go_enter Tryd.func20, Tryd.ntmps20
            go_wp2_with fail
            go_ret
            exact ⟨Ser.ret_bool HR.out.symm, A0⟩
        · have HR : Hid (allowZ p 5 O = O) := Lib.hid (by rcases hp with rfl | rfl <;> cases O <;> rfl)
          generalize allowZ p 5 O = R at *
          rcases hp with rfl | rfl
          all_goals
            go_enter Tryd.func20, Tryd.ntmps20
            go_wp2_with fail
            generalize w.alloc (.cells #[.int .i64 a1, .int .u64 a2] 25) = W0 at *
            refine (HH.out W0 A0).mono ?_
            rintro e W3 ⟨rfl, b3⟩
            go_wp2_with fail
            go_ret
            exact ⟨Ser.ret_bool HR.out.symm, thenB A0 b3⟩
      · have HR := Lib.hid (allow_none (p := p) O h3 h5)
        generalize allowZ p r O = R at *
        have g3 : (r == 3) = false := by simpa using h3
        have g5 : (r == 5) = false := by simpa using h5
        have h1 : ¬ p < 0 := by omega
        have h2 : ¬ 3 < p := by omega
        clear ho
        go_enter Tryd.func20, Tryd.ntmps20
        go_wp2_with fail
        go_ret
        exact ⟨Ser.ret_bool HR.out.symm, A0⟩
/-- Identities as cells. -/
def encI (f : Int × Int × Int) : List Value := [.int .i64 f.1, .int .u64 f.2.1, .int .u64 f.2.2]
theorem sizI : Sized encI 3 := fun x => ⟨rfl, by intro u hu; simp [encI] at hu; rcases hu with rfl | rfl | rfl <;> rfl⟩
theorem info_idn : (Tryd.prog.info? 49).map (fun i => (i.zero, i.size, i.bytes)) = some (some (.agg #[.int .i64 0, .int .u64 0, .int .u64 0]), 3, 24) := by kernel_rfl
theorem list_of_triples {w : World} {A : Option Addr} {fs : List (Int × Int × Int)} (h : TriplesAt w A fs) : CellsAt w w.heap.size A (fs.flatMap encI) := by
  rcases h with rfl | ⟨b, off, e, hlt, hc⟩
  · exact .inl rfl
  · refine .inr ⟨b, off, e, hlt, fun q u hq => ?_⟩
    obtain ⟨j, i, x, rfl, hj, hi⟩ := Rd.flat_inv sizI fs q u hq
    obtain ⟨h0, h1, h2⟩ := hc j x hj
    match i, hi with
    | 0, hi => simp [encI] at hi; subst hi; exact h0
    | 1, hi => simp [encI] at hi; subst hi; rw [← Nat.add_assoc]; exact h1
    | 2, hi => simp [encI] at hi; subst hi; rw [← Nat.add_assoc]; exact h2
    | i + 3, hi => simp [encI] at hi
theorem triples_of_list {w : World} {A : Option Addr} {fs : List (Int × Int × Int)} (h : CellsAt w w.heap.size A (fs.flatMap encI)) : TriplesAt w A fs := by
  cases fs with
  | nil => exact .inl rfl
  | cons f r =>
    obtain ⟨b, off, e, hlt, hc⟩ := ListAt.open_ (enc := encI) h sizI (by omega) (by simp)
    exact .inr ⟨b, off, e, hlt, fun j x hj => ⟨hc j x hj 0 _ rfl, hc j x hj 1 _ rfl, hc j x hj 2 _ rfl⟩⟩
theorem idents_any (A : Option Addr) (n c : Nat) (fs : List (Int × Int × Int)) (w : World) (hf : fs.length = n) (hn : n ≤ 5864062014800) (hr : TriplesAt w A fs) :
    Calls Tryd.prog 17 #[.slice A n c] w fun e w' => ∃ A' c', e = .returned (.slice A' n c') ∧ n ≤ c' ∧ TriplesAt w' A' fs ∧ Below w.heap.size w w' := by
  obtain ⟨iE, hi, hz, hs, hb, hc0⟩ := info_parts2 info_idn rfl
  have hq : (fs.flatMap encI).length = n * 3 := by rw [flat_len sizI, hf]
  have ho := flat_one sizI fs
  have hr0 : CellsAt (w.alloc (.cells #[] 49)) w.heap.size A (fs.flatMap encI) := CellsAt.alloc (list_of_triples hr) (Nat.le_refl _) _
  go_enter Tryd.func17, Tryd.ntmps17
  go_wp2_with (at_builtin; refine wpList_append_rows rfl _ _ 33 rfl w.heap.size 49 iE _ 3 24 Tryd.underlying33 hi hz hs hb hc0 (by decide) (.slice (some ⟨w.heap.size, 0, none⟩) 0 0) 0 [] rfl (World.ownsRow_made _ _ 0 (Nat.le_refl _) (by unfold maxLen; omega) rfl) w.heap.size A n c (fs.flatMap encI) rfl hq ho hr0 (by unfold maxLen; omega) (by omega) (by simp) ?_; intro v1 w1 own1 b1 g1; obtain ⟨A1, c1, rfl⟩ := own_form own1; simp only [Nat.zero_add, List.nil_append] at own1 ⊢)
  go_ret
  exact ⟨A1, c1, rfl, own_capA own1, triples_of_list (CellsAt.own own1), ((Below.refl _ _).alloc (Nat.le_refl _) _).trans b1⟩
end Go.Proofs.YtegmknmbgifmjaaDoor.Ace
