/- The first identity to which an address belongs: what the function returns: contracts over the program. -/
import Derived.Test.YtegmknmbgifmjaaDoorPrvRes
import Derived.Test.YtegmknmbgifmjaaDoorIdArgs
set_option linter.unusedVariables false
set_option linter.unusedSimpArgs false
namespace Go.Proofs.YtegmknmbgifmjaaDoor.Prv
open Go.RowKit Mem Oct Blk Base Mac Arg

theorem cell_lt {w : World} {g : Nat} {v : Value} (h : w.cell? ⟨g, 0, none⟩ = some v) : g < w.heap.size := by
  rcases Nat.lt_or_ge g w.heap.size with hlt | hge
  · exact hlt
  · exfalso
    have : w.heap[g]? = none := Array.getElem?_eq_none hge
    simp [World.cell?, this] at h
/-- The first number below n that has a property, or -1. -/
def fstZ (p : Nat → Bool) : Nat → Int
  | 0 => -1
  | n + 1 => if 0 ≤ fstZ p n then fstZ p n else if p n = true then (n : Int) else -1
theorem fst_none {p : Nat → Bool} {n : Nat} (h : ∀ j, j < n → p j = false) : fstZ p n = -1 := by
  induction n with
  | zero => rfl
  | succ n ih =>
    have e := ih fun j hj => h j (by omega)
    unfold fstZ
    rw [e, if_neg (by decide), h n (by omega)]; rfl
theorem fst_at {p : Nat → Bool} {n j : Nat} (hj : j < n) (h : p j = true) (hb : ∀ i, i < j → p i = false) : fstZ p n = j := by
  induction n with
  | zero => omega
  | succ n ih =>
    by_cases e : j < n
    · have := ih e
      unfold fstZ
      rw [this, if_pos (by omega)]
    · obtain rfl : j = n := by omega
      have := fst_none hb
      unfold fstZ
      rw [this, if_neg (by decide), if_pos h]
theorem fst_cases (p : Nat → Bool) (n : Nat) : (fstZ p n = -1 ∧ ∀ j, j < n → p j = false) ∨ ∃ j : Nat, j < n ∧ fstZ p n = j ∧ p j = true ∧ ∀ i, i < j → p i = false := by
  induction n with
  | zero => exact .inl ⟨rfl, fun j hj => by omega⟩
  | succ n ih =>
    rcases ih with ⟨e, h⟩ | ⟨j, hj, e, h, hb⟩
    · cases hp : p n with
      | true => exact .inr ⟨n, by omega, fst_at (by omega) hp h, hp, h⟩
      | false =>
        have hall : ∀ j, j < n + 1 → p j = false := fun j hj => by
          by_cases e : j = n
          · subst e; exact hp
          · exact h j (by omega)
        exact .inl ⟨fst_none hall, hall⟩
    · exact .inr ⟨j, by omega, fst_at (by omega) h hb, h, hb⟩
/-- Whether an address belongs to an identity. -/
def belB (k b : Int) (f : Int × Int × Int) : Bool := (f.1 == k && f.2.1 == b) || rsvZ f.2.2 k b
theorem find1_any (k b k' b' irk : Int) (B : Nat) (W : World) (hk : -9223372036854775808 ≤ k ∧ k ≤ 9223372036854775807) (hb : 0 ≤ b ∧ b ≤ 18446744073709551615) (hi : 0 ≤ irk ∧ irk ≤ 18446744073709551615)
    (hB : W.cell? ⟨B, 0, none⟩ = some (.int .i64 k) ∧ W.cell? ⟨B, 1, none⟩ = some (.int .u64 b)) (hT : Adr.Tab W) :
    Calls Tryd.prog 34 #[.agg #[.int .i64 k', .int .u64 b', .int .u64 irk], .pointer (some ⟨B, 0, none⟩)] W fun e w' => e = .returned (.bool (belB k b (k', b', irk))) ∧ Below W.heap.size W w' := by
  have A0 : Below W.heap.size W (W.alloc (.cells #[.int .i64 k', .int .u64 b', .int .u64 irk] 49)) := (Below.refl _ _).alloc (Nat.le_refl _) _
  have F := Blk.fresh W 49 #[.int .i64 k', .int .u64 b', .int .u64 irk]
  have c0 := F.cell 0
  have c1 := F.cell 1
  have c2 := F.cell 2
  have hlt := cell_lt hB.1
  have d0 := (A0.cell (p := ⟨B, 0, none⟩) hlt).trans hB.1
  have d1 := (A0.cell (p := ⟨B, 1, none⟩) hlt).trans hB.2
  have T0 := hT.below A0
  have hne : B ≠ W.heap.size := by omega
  have HR : Hid (∀ w, Adr.Tab w → Calls Tryd.prog 35 #[.int .u64 irk, .agg #[.int .i64 k, .int .u64 b]] w fun e w' => e = .returned (.bool (rsvZ irk k b)) ∧ Below w.heap.size w w') := Lib.hid fun w hT => resolves_any irk k b w hi hk hb hT
  have hbel : Hid (belB k b (k', b', irk) = ((k' == k && b' == b) || rsvZ irk k b)) := Lib.hid rfl
  rw [hbel.out]
  generalize rsvZ irk k b = R at *
  by_cases h1 : k' = k
  · subst h1
    by_cases h2 : b' = b
    · subst h2
      go_enter Tryd.func34, Tryd.ntmps34
      go_wp2_with fail
      go_ret
      exact ⟨by simp, A0⟩
    · have e2 : (b' == b) = false := by simpa using h2
      go_enter Tryd.func34, Tryd.ntmps34
      go_wp2_with (go_at_call 35; refine (HR.out _ T0).mono ?_; rintro e w1 ⟨rfl, b1⟩)
      go_ret
      exact ⟨by simp [e2], thenB A0 b1⟩
  · have e1 : (k' == k) = false := by simpa using h1
    go_enter Tryd.func34, Tryd.ntmps34
    go_wp2_with (go_at_call 35; refine (HR.out _ T0).mono ?_; rintro e w1 ⟨rfl, b1⟩)
    go_ret
    exact ⟨by simp [e1], thenB A0 b1⟩
theorem triples_below {w w' : World} {A : Option Addr} {fs : List (Int × Int × Int)} (h : TriplesAt w A fs) (hb : Below w.heap.size w w') : TriplesAt w' A fs := by
  rcases h with h | ⟨b, off, rfl, hlt, hc⟩
  · exact .inl h
  · refine .inr ⟨b, off, rfl, Nat.lt_of_lt_of_le hlt hb.size, fun j f hj => ?_⟩
    obtain ⟨h0, h1, h2⟩ := hc j f hj
    exact ⟨(hb.cell (p := ⟨b, off + j * 3, none⟩) hlt).trans h0, (hb.cell (p := ⟨b, off + j * 3 + 1, none⟩) hlt).trans h1, (hb.cell (p := ⟨b, off + j * 3 + 2, none⟩) hlt).trans h2⟩
/-- Identities whose numbers are in range. -/
def Idents (fs : List (Int × Int × Int)) : Prop := ∀ f ∈ fs, (-9223372036854775808 ≤ f.1 ∧ f.1 ≤ 9223372036854775807) ∧ (0 ≤ f.2.1 ∧ f.2.1 ≤ 18446744073709551615) ∧ (0 ≤ f.2.2 ∧ f.2.2 ≤ 18446744073709551615)
/-- The place of the first identity to which an address belongs. -/
def belP (k b : Int) (fs : List (Int × Int × Int)) (j : Nat) : Bool := belB k b (fs.getD j (0, 0, 0))
set_option maxHeartbeats 1000000 in
theorem index_any (k b : Int) (B : Nat) (A : Option Addr) (n c : Nat) (fs : List (Int × Int × Int)) (w : World) (hf : fs.length = n) (hc : n ≤ c) (hn : n ≤ 140737488355328) (hA : TriplesAt w A fs) (hI : Idents fs)
    (hk : -9223372036854775808 ≤ k ∧ k ≤ 9223372036854775807) (hb : 0 ≤ b ∧ b ≤ 18446744073709551615) (hB : w.cell? ⟨B, 0, none⟩ = some (.int .i64 k) ∧ w.cell? ⟨B, 1, none⟩ = some (.int .u64 b)) (hT : Adr.Tab w) :
    Calls Tryd.prog 36 #[.slice A n c, .func (.func 34) #[] #[.pointer (some ⟨B, 0, none⟩)]] w fun e w' => e = .returned (.int .i64 (fstZ (belP k b fs) n)) ∧ Below w.heap.size w w' := by
  have hlt := cell_lt hB.1
  have HP : Hid (∀ j (f : Int × Int × Int), fs[j]? = some f → belP k b fs j = belB k b f) := Lib.hid fun j f hj => by unfold belP; simp [List.getD, hj]
  have HN : Hid (∀ j, j < n → ∃ f, fs[j]? = some f ∧ f ∈ fs) := Lib.hid fun j hj => ⟨fs[j]'(by omega), List.getElem?_eq_getElem (by omega), List.getElem_mem _⟩
  have HF := Lib.hid (fun (q : Nat → Bool) (m j : Nat) => @fst_at q m j)
  have HI := Lib.hid hI
  clear hI hf
  go_enter Tryd.func36, Tryd.ntmps36
  go_wp2_with fail
  go_loopw [5, 8] (fun _ s8 wr => ∃ j : Nat, j ≤ n ∧ s8 = .int .i64 j ∧ Hid (∀ i, i < j → belP k b fs i = false) ∧ Below w.heap.size w wr) (fun _ s8 _ => n - (intOf s8).toNat)
  case atStart => exact ⟨0, by omega, rfl, Lib.hid fun i hi => by omega, Below.refl _ _⟩
  case round =>
    obtain ⟨j, hj, rfl, hno, hbel⟩ := hrel
    by_cases c1 : j < n
    · obtain ⟨f, hfj, hfm⟩ := HN.out j c1
      have hp := HP.out j f hfj
      have hr := HI.out f hfm
      obtain ⟨k', b', irk⟩ := f
      obtain ⟨hr1, hr2, hr3⟩ := hr
      simp only at hr1 hr2 hr3
      have hA1 := triples_below hA (hbel)
      rcases hA1 with h | ⟨ad, off, rfl, hal, hcl⟩
      · exfalso; rw [h] at hfj; simp at hfj
      obtain ⟨h0, h1, h2⟩ := hcl j _ hfj
      simp only at h0 h1 h2
      have hB1 : wr.cell? ⟨B, 0, none⟩ = some (.int .i64 k) ∧ wr.cell? ⟨B, 1, none⟩ = some (.int .u64 b) := ⟨(hbel.cell (p := ⟨B, 0, none⟩) hlt).trans hB.1, (hbel.cell (p := ⟨B, 1, none⟩) hlt).trans hB.2⟩
      have T1 := hT.below hbel
      have HC : Hid (Calls Tryd.prog 34 #[.agg #[.int .i64 k', .int .u64 b', .int .u64 irk], .pointer (some ⟨B, 0, none⟩)] wr fun e w' => e = .returned (.bool (belB k b (k', b', irk))) ∧ Below wr.heap.size wr w') := Lib.hid (find1_any k b k' b' irk B wr hk hb hr3 hB1 T1)
      clear hcl hA HN HI HP hB1 hfj hfm
      have g1 : (0 : Int) ≤ (j : Int) ∧ (j : Int) < (n : Int) := by omega
      have HQ := Lib.hid hp
      clear hp
      generalize belB k b (k', b', irk) = Q at *
      cases Q with
      | true =>
        have HR : Hid (fstZ (belP k b fs) n = j) := Lib.hid (HF.out _ _ _ c1 HQ.out hno.out)
        go_wp2_with (go_at_call 34; refine HC.out.mono ?_; rintro e w2 ⟨rfl, b2⟩)
        go_ret
        exact ⟨Ser.ret_int HR.out.symm, thenB hbel b2⟩
      | false =>
        go_wp2_with (go_at_call 34; refine HC.out.mono ?_; rintro e w2 ⟨rfl, b2⟩)
        go_roundw
        case rel =>
          refine ⟨j + 1, by omega, by go_num, Lib.hid fun i hi => ?_, thenB hbel b2⟩
          by_cases e : i = j
          · subst e; exact HQ.out
          · exact hno.out i (by omega)
        case measure => simp [intOf]; omega
    · obtain rfl : j = n := by omega
      have HR : Hid (fstZ (belP k b fs) j = -1) := Lib.hid (fst_none hno.out)
      go_wp2_with fail
      go_ret
      exact ⟨Ser.ret_int HR.out.symm, hbel⟩
end Go.Proofs.YtegmknmbgifmjaaDoor.Prv
