/- How arguments read: slices of integers and of fields, texts; what the bound of the second form gives. How arguments read: an identity (an address and a key), by value; a slice of identities. The first identity to which an address belongs: what the function returns: contracts over the program. -/
import Derived.Test.YtcbliliinmfnjaaDoorRows
import Derived.ProofKit
import Derived.OpenShut
import Derived.ShutString
import Derived.ChangeOld
import Derived.ChangeSame
import Derived.Deep.Slices
import Derived.Deep.Fields
import Derived.SizedLaws
import Derived.JoinedCond
import Derived.Test.YtcbliliinmfnjaaDoorKM1
import Derived.Lib.SmallJoins
import Derived.Test.YtcbliliinmfnjaaDoorKM12
section
set_option linter.unusedVariables false
set_option linter.unusedSimpArgs false
namespace Go.Proofs.YtcbliliinmfnjaaDoor.Arg
open Go.ChangeShapes Go.WideShapes Go.ChangeAt Go.RowKit Go.Deep Mem

section
variable {H : Type} {enc : TypeId × Value → H} {P : Program} {w : World} {base : Nat}

theorem add_plain {b off : Nat} (i : Nat) : (⟨b, off, none⟩ : Addr).add i = ⟨b, off + i, none⟩ := by
  unfold Addr.add
  by_cases h : i = 0
  · simp [h]
  · simp [h]
/-- A slice of integers reads as a list; what it is as data. -/
theorem read_ints {t e : TypeId} {k : IntKind} {A : Option Addr} {n c : Nat} {d : DataW H} {p : List MemPlace} (ht : P.underlying t = some (.slice e)) (he : P.underlying e = some (.int k)) (hc : P.cellsOf e = 1)
    (h : DataW.Trod enc P w base (fun _ => true) true t (.slice A n c) d p) :
    ∃ xs : List Int, xs.length = n ∧ n ≤ c ∧ Ints k w w.heap.size A xs ∧ (∀ z ∈ xs, (Lit.int k z).wf = true) ∧ ((d = .nil ∧ c = 0) ∨ ∃ elems spare, d = .slice elems spare ∧ elems.length + spare.length = c) := by
  obtain ⟨fuel, hf⟩ := h
  rcases open_ints ht he hc hf with ⟨hcs, hx⟩ | ⟨a, len, cap, zs, hcs, _, hl, hm, hz, hx, hcell, hwz⟩
  · simp [Value.cells] at hcs
    obtain ⟨rfl, rfl, rfl⟩ := hcs
    simp only [Prod.mk.injEq] at hx
    exact ⟨[], rfl, Nat.le_refl _, .inl rfl, by simp, .inl ⟨hx.1, rfl⟩⟩
  · simp [Value.cells] at hcs
    obtain ⟨rfl, rfl, rfl⟩ := hcs
    simp only [if_true] at hz
    simp only [Prod.mk.injEq] at hx
    refine ⟨zs.take n, by rw [List.length_take]; omega, hl, ?_, fun z hzm => hwz z (List.mem_of_mem_take hzm), .inr ⟨_, _, hx.1, ?_⟩⟩
    · by_cases hn : n = 0
      · left; rw [hn]; simp
      · right
        have h0 := hcell 0 (by omega)
        have hblk := block_lt_of_cell h0
        have hspot := World.cell?_spot h0
        obtain ⟨b, off, spot⟩ := a
        have hs : spot = none := by
          have : (Addr.add ⟨b, off, spot⟩ 0).spot = spot := by unfold Addr.add; simp
          rw [this] at hspot; exact hspot
        subst hs
        refine ⟨b, off, rfl, by simpa [add_plain] using hblk, fun j hj => ?_⟩
        have hjn : j < n := by rw [List.length_take] at hj; omega
        have := hcell j (by omega)
        rw [add_plain] at this
        rw [this]
        simp [List.getD, List.getElem?_take, hjn]
    · simp [lits]; omega
end

/-! What the bound gives. -/
theorem bound {H : Type} {l : List (DataW H)} (hk : Rows.uptoSmall H l = true) : Rows.uptoBulkAll l ≤ 1048576 := of_decide_eq_true hk
end Go.Proofs.YtcbliliinmfnjaaDoor.Arg

end
section
set_option linter.unusedVariables false
set_option linter.unusedSimpArgs false
namespace Go.Proofs.YtcbliliinmfnjaaDoor.Arg
open Go.ChangeShapes Go.WideShapes Go.ChangeAt Go.RowKit Go.Deep Go.Joins

section
variable {H : Type} {enc : TypeId × Value → H} {P : Program} {w : World} {base b0 : Nat}
/-- Rows of three integers each. -/
def TriplesAt (w : World) (A : Option Addr) (fs : List (Int × Int × Int)) : Prop :=
  fs = [] ∨ ∃ b off, A = some ⟨b, off, none⟩ ∧ b < w.heap.size ∧ ∀ j f, fs[j]? = some f → w.cell? ⟨b, off + j * 3, none⟩ = some (.int .i64 f.1) ∧ w.cell? ⟨b, off + j * 3 + 1, none⟩ = some (.int .u64 f.2.1) ∧ w.cell? ⟨b, off + j * 3 + 2, none⟩ = some (.int .u64 f.2.2)
end
end Go.Proofs.YtcbliliinmfnjaaDoor.Arg

end
section
set_option linter.unusedVariables false
set_option linter.unusedSimpArgs false
namespace Go.Proofs.YtcbliliinmfnjaaDoor.Prv
open Go.RowKit Mem Oct Blk Base Mac Arg

theorem cell_lt {w : World} {g : Nat} {v : Value} (h : w.cell? ⟨g, 0, none⟩ = some v) : g < w.heap.size := by
  rcases Nat.lt_or_ge g w.heap.size with hlt | hge
  · exact hlt
  · exfalso
    have : w.heap[g]? = none := Array.getElem?_eq_none hge
    simp [World.cell?, this] at h
/-- The first number below n that has a property, or -1. -/
def fstZ (p : Nat → Bool) : Nat → Int
  | 0 => -1
  | n + 1 => if 0 ≤ fstZ p n then fstZ p n else if p n = true then (n : Int) else -1
theorem fst_none {p : Nat → Bool} {n : Nat} (h : ∀ j, j < n → p j = false) : fstZ p n = -1 := by
  induction n with
  | zero => rfl
  | succ n ih =>
    have e := ih fun j hj => h j (by omega)
    unfold fstZ
    rw [e, if_neg (by decide), h n (by omega)]; rfl
theorem fst_at {p : Nat → Bool} {n j : Nat} (hj : j < n) (h : p j = true) (hb : ∀ i, i < j → p i = false) : fstZ p n = j := by
  induction n with
  | zero => omega
  | succ n ih =>
    by_cases e : j < n
    · have := ih e
      unfold fstZ
      rw [this, if_pos (by omega)]
    · obtain rfl : j = n := by omega
      have := fst_none hb
      unfold fstZ
      rw [this, if_neg (by decide), if_pos h]
theorem fst_cases (p : Nat → Bool) (n : Nat) : (fstZ p n = -1 ∧ ∀ j, j < n → p j = false) ∨ ∃ j : Nat, j < n ∧ fstZ p n = j ∧ p j = true ∧ ∀ i, i < j → p i = false := by
  induction n with
  | zero => exact .inl ⟨rfl, fun j hj => by omega⟩
  | succ n ih =>
    rcases ih with ⟨e, h⟩ | ⟨j, hj, e, h, hb⟩
    · cases hp : p n with
      | true => exact .inr ⟨n, by omega, fst_at (by omega) hp h, hp, h⟩
      | false =>
        have hall : ∀ j, j < n + 1 → p j = false := fun j hj => by
          by_cases e : j = n
          · subst e; exact hp
          · exact h j (by omega)
        exact .inl ⟨fst_none hall, hall⟩
    · exact .inr ⟨j, by omega, fst_at (by omega) h hb, h, hb⟩
/-- Whether an address belongs to an identity. -/
def belB (k b : Int) (f : Int × Int × Int) : Bool := (f.1 == k && f.2.1 == b) || rsvZ f.2.2 k b
theorem find1_any (k b k' b' irk : Int) (B : Nat) (W : World) (hk : -9223372036854775808 ≤ k ∧ k ≤ 9223372036854775807) (hb : 0 ≤ b ∧ b ≤ 18446744073709551615) (hi : 0 ≤ irk ∧ irk ≤ 18446744073709551615)
    (hB : W.cell? ⟨B, 0, none⟩ = some (.int .i64 k) ∧ W.cell? ⟨B, 1, none⟩ = some (.int .u64 b)) (hT : Adr.Tab W) :
    Calls Tryd.prog 114 #[.agg #[.int .i64 k', .int .u64 b', .int .u64 irk], .pointer (some ⟨B, 0, none⟩)] W fun e w' => e = .returned (.bool (belB k b (k', b', irk))) ∧ Below W.heap.size W w' := by
  have A0 : Below W.heap.size W (W.alloc (.cells #[.int .i64 k', .int .u64 b', .int .u64 irk] 122)) := (Below.refl _ _).alloc (Nat.le_refl _) _
  have F := Blk.fresh W 122 #[.int .i64 k', .int .u64 b', .int .u64 irk]
  have c0 := F.cell 0
  have c1 := F.cell 1
  have c2 := F.cell 2
  have hlt := cell_lt hB.1
  have d0 := (A0.cell (p := ⟨B, 0, none⟩) hlt).trans hB.1
  have d1 := (A0.cell (p := ⟨B, 1, none⟩) hlt).trans hB.2
  have T0 := hT.below A0
  have hne : B ≠ W.heap.size := by omega
  have HR : Hid (∀ w, Adr.Tab w → Calls Tryd.prog 115 #[.int .u64 irk, .agg #[.int .i64 k, .int .u64 b]] w fun e w' => e = .returned (.bool (rsvZ irk k b)) ∧ Below w.heap.size w w') := Lib.hid fun w hT => resolves_any irk k b w hi hk hb hT
  have hbel : Hid (belB k b (k', b', irk) = ((k' == k && b' == b) || rsvZ irk k b)) := Lib.hid rfl
  rw [hbel.out]
  generalize rsvZ irk k b = R at *
  by_cases h1 : k' = k
  · subst h1
    by_cases h2 : b' = b
    · subst h2
      go_enter Tryd.func114, Tryd.ntmps114
      go_wp2_with fail
      go_ret
      exact ⟨by simp, A0⟩
    · have e2 : (b' == b) = false := by simpa using h2
      go_enter Tryd.func114, Tryd.ntmps114
      go_wp2_with (go_at_call 115; refine (HR.out _ T0).mono ?_; rintro e w1 ⟨rfl, b1⟩)
      go_ret
      exact ⟨by simp [e2], thenB A0 b1⟩
  · have e1 : (k' == k) = false := by simpa using h1
    go_enter Tryd.func114, Tryd.ntmps114
    go_wp2_with (go_at_call 115; refine (HR.out _ T0).mono ?_; rintro e w1 ⟨rfl, b1⟩)
    go_ret
    exact ⟨by simp [e1], thenB A0 b1⟩
theorem triples_below {w w' : World} {A : Option Addr} {fs : List (Int × Int × Int)} (h : TriplesAt w A fs) (hb : Below w.heap.size w w') : TriplesAt w' A fs := by
  rcases h with h | ⟨b, off, rfl, hlt, hc⟩
  · exact .inl h
  · refine .inr ⟨b, off, rfl, Nat.lt_of_lt_of_le hlt hb.size, fun j f hj => ?_⟩
    obtain ⟨h0, h1, h2⟩ := hc j f hj
    exact ⟨(hb.cell (p := ⟨b, off + j * 3, none⟩) hlt).trans h0, (hb.cell (p := ⟨b, off + j * 3 + 1, none⟩) hlt).trans h1, (hb.cell (p := ⟨b, off + j * 3 + 2, none⟩) hlt).trans h2⟩
/-- Identities whose numbers are in range. -/
def Idents (fs : List (Int × Int × Int)) : Prop := ∀ f ∈ fs, (-9223372036854775808 ≤ f.1 ∧ f.1 ≤ 9223372036854775807) ∧ (0 ≤ f.2.1 ∧ f.2.1 ≤ 18446744073709551615) ∧ (0 ≤ f.2.2 ∧ f.2.2 ≤ 18446744073709551615)
/-- The place of the first identity to which an address belongs. -/
def belP (k b : Int) (fs : List (Int × Int × Int)) (j : Nat) : Bool := belB k b (fs.getD j (0, 0, 0))
set_option maxHeartbeats 1000000 in
theorem index_any (k b : Int) (B : Nat) (A : Option Addr) (n c : Nat) (fs : List (Int × Int × Int)) (w : World) (hf : fs.length = n) (hc : n ≤ c) (hn : n ≤ 140737488355328) (hA : TriplesAt w A fs) (hI : Idents fs)
    (hk : -9223372036854775808 ≤ k ∧ k ≤ 9223372036854775807) (hb : 0 ≤ b ∧ b ≤ 18446744073709551615) (hB : w.cell? ⟨B, 0, none⟩ = some (.int .i64 k) ∧ w.cell? ⟨B, 1, none⟩ = some (.int .u64 b)) (hT : Adr.Tab w) :
    Calls Tryd.prog 116 #[.slice A n c, .func (.func 114) #[] #[.pointer (some ⟨B, 0, none⟩)]] w fun e w' => e = .returned (.int .i64 (fstZ (belP k b fs) n)) ∧ Below w.heap.size w w' := by
  have hlt := cell_lt hB.1
  have HP : Hid (∀ j (f : Int × Int × Int), fs[j]? = some f → belP k b fs j = belB k b f) := Lib.hid fun j f hj => by unfold belP; simp [List.getD, hj]
  have HN : Hid (∀ j, j < n → ∃ f, fs[j]? = some f ∧ f ∈ fs) := Lib.hid fun j hj => ⟨fs[j]'(by omega), List.getElem?_eq_getElem (by omega), List.getElem_mem _⟩
  have HF := Lib.hid (fun (q : Nat → Bool) (m j : Nat) => @fst_at q m j)
  have HI := Lib.hid hI
  clear hI hf
  go_enter Tryd.func116, Tryd.ntmps116
  go_wp2_with fail
  go_loopw [5, 8] (fun _ s8 wr => ∃ j : Nat, j ≤ n ∧ s8 = .int .i64 j ∧ Hid (∀ i, i < j → belP k b fs i = false) ∧ Below w.heap.size w wr) (fun _ s8 _ => n - (intOf s8).toNat)
  case atStart => exact ⟨0, by omega, rfl, Lib.hid fun i hi => by omega, Below.refl _ _⟩
  case round =>
    obtain ⟨j, hj, rfl, hno, hbel⟩ := hrel
    by_cases c1 : j < n
    · obtain ⟨f, hfj, hfm⟩ := HN.out j c1
      have hp := HP.out j f hfj
      have hr := HI.out f hfm
      obtain ⟨k', b', irk⟩ := f
      obtain ⟨hr1, hr2, hr3⟩ := hr
      simp only at hr1 hr2 hr3
      have hA1 := triples_below hA (hbel)
      rcases hA1 with h | ⟨ad, off, rfl, hal, hcl⟩
      · exfalso; rw [h] at hfj; simp at hfj
      obtain ⟨h0, h1, h2⟩ := hcl j _ hfj
      simp only at h0 h1 h2
      have hB1 : wr.cell? ⟨B, 0, none⟩ = some (.int .i64 k) ∧ wr.cell? ⟨B, 1, none⟩ = some (.int .u64 b) := ⟨(hbel.cell (p := ⟨B, 0, none⟩) hlt).trans hB.1, (hbel.cell (p := ⟨B, 1, none⟩) hlt).trans hB.2⟩
      have T1 := hT.below hbel
      have HC : Hid (Calls Tryd.prog 114 #[.agg #[.int .i64 k', .int .u64 b', .int .u64 irk], .pointer (some ⟨B, 0, none⟩)] wr fun e w' => e = .returned (.bool (belB k b (k', b', irk))) ∧ Below wr.heap.size wr w') := Lib.hid (find1_any k b k' b' irk B wr hk hb hr3 hB1 T1)
      clear hcl hA HN HI HP hB1 hfj hfm
      have g1 : (0 : Int) ≤ (j : Int) ∧ (j : Int) < (n : Int) := by omega
      have HQ := Lib.hid hp
      clear hp
      generalize belB k b (k', b', irk) = Q at *
      cases Q with
      | true =>
        have HR : Hid (fstZ (belP k b fs) n = j) := Lib.hid (HF.out _ _ _ c1 HQ.out hno.out)
        go_wp2_with (go_at_call 114; refine HC.out.mono ?_; rintro e w2 ⟨rfl, b2⟩)
        go_ret
        exact ⟨Ser.ret_int HR.out.symm, thenB hbel b2⟩
      | false =>
        go_wp2_with (go_at_call 114; refine HC.out.mono ?_; rintro e w2 ⟨rfl, b2⟩)
        go_roundw
        case rel =>
          refine ⟨j + 1, by omega, by go_num, Lib.hid fun i hi => ?_, thenB hbel b2⟩
          by_cases e : i = j
          · subst e; exact HQ.out
          · exact hno.out i (by omega)
        case measure => simp [intOf]; omega
    · obtain rfl : j = n := by omega
      have HR : Hid (fstZ (belP k b fs) j = -1) := Lib.hid (fst_none hno.out)
      go_wp2_with fail
      go_ret
      exact ⟨Ser.ret_int HR.out.symm, hbel⟩
end Go.Proofs.YtcbliliinmfnjaaDoor.Prv

end
