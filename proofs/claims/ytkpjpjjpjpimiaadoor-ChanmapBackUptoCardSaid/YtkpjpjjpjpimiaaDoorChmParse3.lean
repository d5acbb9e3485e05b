/- Reading a map from a text: the whole: a contract over the program. -/
import Derived.Test.YtkpjpjjpjpimiaaDoorChmParse2
set_option linter.unusedVariables false
set_option linter.unusedSimpArgs false
namespace Go.Proofs.YtkpjpjjpjpimiaaDoor.Chm
open Go.RowKit Mem Base

/-- The map of some parts. -/
def pallO : List (List UInt8) → Nat → Option Nat
  | [], m => some m
  | p :: r, m => match rangeO p with
    | some k => pallO r (m ||| k)
    | none => none
theorem pallO_cons (p : List UInt8) (r : List (List UInt8)) (m : Nat) : pallO (p :: r) m = match rangeO p with
    | some k => pallO r (m ||| k)
    | none => none := rfl
def parts (s : ByteArray) : List (List UInt8) := (pieces s).map (·.data.toList)
/-- The map whose text s is. -/
def parseO (s : ByteArray) : Option Nat :=
  match pallO (parts s) 0 with
  | some m => if okM m = 0 ∧ textL m = s.data.toList then some m else none
  | none => none
theorem pallO_lt : ∀ {l : List (List UInt8)} {m k : Nat}, m < 137438953472 → pallO l m = some k → k < 137438953472 := by
  intro l
  induction l with
  | nil => intro m k hm h; cases h; exact hm
  | cons p r ih =>
    intro m k hm h
    unfold pallO at h
    split at h
    · rename_i q hq
      exact ih (Nat.or_lt_two_pow (n := 37) hm (rangeO_lt hq)) h
    · cases h
theorem split_size (sep : ByteArray) : ∀ (k : Nat) (s x : ByteArray), x ∈ Lib.splitB sep 0 k s → x.size ≤ s.size := by
  intro k
  induction k with
  | zero => intro s x h; simp [Lib.splitB] at h; subst h; exact Nat.le_refl _
  | succ k ih =>
    intro s x h
    unfold Lib.splitB at h
    split at h
    · simp at h; subst h; exact Nat.le_refl _
    · rcases List.mem_cons.1 h with rfl | h
      · rw [ByteArray.size_extract]; omega
      · have := ih _ _ h
        rw [ByteArray.size_extract] at this
        omega
theorem piece_size {s x : ByteArray} (h : x ∈ pieces s) : x.size ≤ s.size := split_size _ _ _ _ h
def eN (o : Option Nat) : Int := if o.isSome then 0 else 2
theorem check_to {m : Nat} {v : Int} (hm : m ≤ 18446744073709551615) (h : okM m = v) (w : World) :
    Calls Tryd.prog 12 #[.int .u64 m] w fun e w' => e = .returned (.int .i64 v) ∧ w = w' := by
  rw [← h]; exact check_any m w hm
set_option maxHeartbeats 2000000 in
theorem parse_any (s : ByteArray) (w : World) (hs : s.size < 4294967281) (hE : Errs w) :
    Calls Tryd.prog 32 #[.string s] w fun e w' => e = .returned (.tuple #[.int .u64 (oN (parseO s)), .int .i64 (eN (parseO s))]) ∧ Below w.heap.size w w' := by
  have HS := Lib.hid fun w => split_any s w hs
  have hps : ∀ x ∈ pieces s, x.size ≤ 281474976710656 := fun x hx => by have := piece_size hx; omega
  have hpr : Hid (∀ k, pallO (parts s) 0 = k → parseO s = match k with
    | some m => if okM m = 0 ∧ textL m = s.data.toList then some m else none
    | none => none) := Lib.hid fun k h => by subst h; rfl
  unfold parts at hpr
  obtain ⟨Ps, hPs⟩ : ∃ Ps, pieces s = Ps := ⟨_, rfl⟩
  rw [hPs] at HS hps hpr
  have hNl : Ps.length ≤ 4294967282 := by
    rw [← hPs, pieces_len]
    have := Lib.countB_le ⟨#[44]⟩ (by decide) s.size s (Nat.le_refl _)
    omega
  clear hPs
  obtain ⟨O, hO⟩ : ∃ O, parseO s = O := ⟨_, rfl⟩
  rw [hO] at hpr ⊢
  clear hO
  have hB0 : Below w.heap.size w (w.alloc (.cells (Ps.map Value.string).toArray 9)) := (Below.refl _ w).alloc (Nat.le_refl _) _
  have F0 := Blk.fresh w 9 (Ps.map Value.string).toArray
  have hE0 := hE.below hB0
  obtain ⟨N, hN⟩ : ∃ N, Ps.length = N := ⟨_, rfl⟩
  rw [hN] at HS hNl
  go_enter Tryd.func32, Tryd.ntmps32
  go_wp2_with (go_at_call 44; refine (HS.out _).mono ?_; rintro e w1 ⟨rfl, rfl⟩)
  generalize w.alloc (.cells (Ps.map Value.string).toArray 9) = W0 at *
  go_loopw [4, 12] (fun s4 s12 wr => ∃ k m : Nat, k ≤ N ∧ s4 = .int .u64 (m : Nat) ∧ s12 = .int .i64 (k : Nat) ∧ m < 137438953472 ∧ Hid (pallO (Ps.map (·.data.toList)) 0 = pallO ((Ps.drop k).map (·.data.toList)) m) ∧ Below W0.heap.size W0 wr) (fun _ s12 _ => N - (intOf s12).toNat)
  case atStart => exact ⟨0, 0, by omega, rfl, rfl, by decide, Lib.hid rfl, Below.refl _ _⟩
  case round =>
    obtain ⟨k, m, hk, rfl, rfl, hm, hp, hB⟩ := hrel
    by_cases h1 : k < N
    · have hlt : k < Ps.length := by omega
      have hc : wr.cell? ⟨w.heap.size, k, none⟩ = some (.string Ps[k]) := by
        rw [hB.cell (p := ⟨w.heap.size, k, none⟩) F0.lt, F0.cell k]; simp [hlt]
      have hsz := hps Ps[k] (List.getElem_mem hlt)
      have hd : (Ps.drop k).map (·.data.toList) = Ps[k].data.toList :: (Ps.drop (k + 1)).map (·.data.toList) := by rw [List.drop_eq_getElem_cons hlt]; rfl
      have hp2 := hp.out
      rw [hd] at hp2
      clear hd hp
      obtain ⟨x, hx⟩ : ∃ x, Ps[k] = x := ⟨_, rfl⟩
      rw [hx] at hc hsz hp2
      have HR := Lib.hid (range_any x wr hsz (hE0.below hB))
      rw [pallO_cons] at hp2
      obtain ⟨R, hR⟩ : ∃ R, rangeO x.data.toList = R := ⟨_, rfl⟩
      rw [hR] at HR hp2
      have hRl : ∀ q, R = some q → q < 137438953472 := fun q h => rangeO_lt (hR.trans h)
      clear hR hx hsz
      cases R with
      | none =>
        have HO : Hid (O = none) := Lib.hid (hpr.out _ hp2)
        clear hp2 hpr
        go_wp2_with (go_at_call 45; refine HR.out.mono ?_; rintro e w2 ⟨rfl, b2⟩)
        go_ret2
        exact ⟨by rw [HO.out]; rfl, hB0.trans ((hB.trans (b2.mono hB.size)).mono hB0.size)⟩
      | some q =>
        have hq := hRl q rfl
        have HP : Hid (pallO (Ps.map (·.data.toList)) 0 = pallO ((Ps.drop (k + 1)).map (·.data.toList)) (m ||| q)) := Lib.hid hp2
        have HR2 : Hid (Calls Tryd.prog 45 #[.string x] wr fun e w' => e = .returned (.tuple #[.int .u64 (q : Nat), .bool true]) ∧ Below wr.heap.size wr w') := HR
        have ho : bits BinOp.or IntKind.u64 (m : Int) (q : Int) = ((m ||| q : Nat) : Int) := u64_or_nat _ _ (by omega) (by omega)
        have hmq : m ||| q < 137438953472 := Nat.or_lt_two_pow (n := 37) hm hq
        clear hp2 HR hpr hRl
        generalize m ||| q = mq at *
        go_wp2_with (go_at_call 45; refine HR2.out.mono ?_; rintro e w2 ⟨rfl, b2⟩)
        go_roundw
        case rel => exact ⟨k + 1, mq, by omega, rfl, by go_num, hmq, HP, hB.trans (b2.mono hB.size)⟩
        case measure => simp [intOf]; omega
    · obtain rfl : k = N := by omega
      have hpe := hp.out
      rw [← hN, List.drop_length] at hpe
      have hO2 := hpr.out _ hpe
      have hO3 : O = if okM m = 0 ∧ textL m = s.data.toList then some m else none := hO2
      have HT := Lib.hid fun w => text_any m w (by omega)
      have htl : ((⟨(textL m).toArray⟩ : ByteArray).toList == s.toList) = decide (textL m = s.data.toList) := by
        rw [Lib.toList_data, Lib.toList_data]
        show (textL m == s.data.toList) = _
        by_cases h : textL m = s.data.toList <;> simp [h]
      clear hp hpe hO2 hpr
      have hBw : Below w.heap.size w wr := hB0.trans (hB.mono hB0.size)
      by_cases ho : okM m = 0
      · have HC := Lib.hid (check_to (by omega) ho)
        by_cases ht : textL m = s.data.toList
        · have HO : Hid (O = some m) := Lib.hid (by rw [hO3, if_pos ⟨ho, ht⟩])
          rw [decide_eq_true ht] at htl
          clear hO3 ho ht
          generalize (⟨(textL m).toArray⟩ : ByteArray) = T at *
          go_wp2_with (first
            | (go_at_call 12; refine (HC.out _).mono ?_; rintro e w2 ⟨rfl, rfl⟩)
            | (go_at_call 34; refine (HT.out _).mono ?_; rintro e w3 ⟨rfl, b3⟩))
          go_ret2
          exact ⟨by rw [HO.out]; rfl, thenB hBw b3⟩
        · have HO : Hid (O = none) := Lib.hid (by rw [hO3, if_neg (fun h => ht h.2)])
          rw [decide_eq_false ht] at htl
          clear hO3 ho ht
          generalize (⟨(textL m).toArray⟩ : ByteArray) = T at *
          go_wp2_with (first
            | (go_at_call 12; refine (HC.out _).mono ?_; rintro e w2 ⟨rfl, rfl⟩)
            | (go_at_call 34; refine (HT.out _).mono ?_; rintro e w3 ⟨rfl, b3⟩))
          go_ret2
          exact ⟨by rw [HO.out]; rfl, thenB hBw b3⟩
      · have HC := Lib.hid (check_to (by omega) (rfl : okM m = okM m))
        have HO : Hid (O = none) := Lib.hid (by rw [hO3, if_neg (fun h => ho h.1)])
        have hne : (okM m != 0) = true := by simpa using ho
        clear hO3 ho htl HT
        generalize okM m = K at *
        go_wp2_with (go_at_call 12; refine (HC.out _).mono ?_; rintro e w2 ⟨rfl, rfl⟩)
        go_ret2
        exact ⟨by rw [HO.out]; rfl, hBw⟩
end Go.Proofs.YtkpjpjjpjpimiaaDoor.Chm
