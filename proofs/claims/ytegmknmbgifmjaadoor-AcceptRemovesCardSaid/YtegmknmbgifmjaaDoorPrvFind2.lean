/- The first identity to which an address belongs, in the specification too: contracts over the program. -/
import Derived.Test.YtegmknmbgifmjaaDoorPrvFind
set_option linter.unusedVariables false
set_option linter.unusedSimpArgs false
namespace Go.Proofs.YtegmknmbgifmjaaDoor.Prv
open Go.RowKit Mem Oct Blk Base Mac Arg

def findZ (k b : Int) (fs : List (Int × Int × Int)) : Int := if Adr.chk k b = 0 then fstZ (belP k b fs) fs.length else -1
theorem find_bad (k b : Int) (A : Option Addr) (n c : Nat) (w : World) (hc : ¬ Adr.chk k b = 0) (hk : -9223372036854775808 ≤ k ∧ k ≤ 9223372036854775807) (hb : 0 ≤ b ∧ b ≤ 18446744073709551615) (hT : Adr.Tab w) :
    Calls Tryd.prog 27 #[.slice A n c, .agg #[.int .i64 k, .int .u64 b]] w fun e w' => e = .returned (.int .i64 (-1)) ∧ Below w.heap.size w w' := by
  have HC : Hid (∀ w, Adr.Tab w → Calls Tryd.prog 24 #[.agg #[.int .i64 k, .int .u64 b]] w fun e w' => e = .returned (.int .i64 (Adr.chk k b)) ∧ Below w.heap.size w w') := Lib.hid fun w hT => Adr.check_any k b w hk hb hT
  generalize Adr.chk k b = C at *
  have gc : (C != 0) = true := by simpa using hc
  have F := Adr.box_new w k b
  have A0 : Below w.heap.size w (w.alloc (.cells #[.int .i64 k, .int .u64 b] 25)) := (Below.refl _ _).alloc (Nat.le_refl _) _
  have c0 := F.c0
  have c1 := F.c1
  have T0 := hT.below A0
  go_enter Tryd.func27, Tryd.ntmps27
  go_wp2_with (go_at_call 24; refine (HC.out _ T0).mono ?_; rintro e w1 ⟨rfl, b1⟩)
  go_ret
  exact ⟨rfl, thenB A0 b1⟩
theorem find_good (k b : Int) (A : Option Addr) (n c : Nat) (fs : List (Int × Int × Int)) (w : World) (hf : fs.length = n) (hnc : n ≤ c) (hn : n ≤ 140737488355328) (hA : TriplesAt w A fs) (hI : Idents fs) (hc : Adr.chk k b = 0)
    (hk : -9223372036854775808 ≤ k ∧ k ≤ 9223372036854775807) (hb : 0 ≤ b ∧ b ≤ 18446744073709551615) (hT : Adr.Tab w) :
    Calls Tryd.prog 27 #[.slice A n c, .agg #[.int .i64 k, .int .u64 b]] w fun e w' => e = .returned (.int .i64 (fstZ (belP k b fs) n)) ∧ Below w.heap.size w w' := by
  have hmf : ∀ (fn : Fn) (first cap : Array Value) (w : World), (Instr.makeFunc fn first cap).run Tryd.prog w = .ok (.func fn first cap) w := fun _ _ _ _ => rfl
  have HC : Hid (∀ w, Adr.Tab w → Calls Tryd.prog 24 #[.agg #[.int .i64 k, .int .u64 b]] w fun e w' => e = .returned (.int .i64 0) ∧ Below w.heap.size w w') := Lib.hid fun w hT => by
    have := Adr.check_any k b w hk hb hT
    rwa [hc] at this
  have HX : Hid (∀ (B : Nat) (w : World), TriplesAt w A fs → w.cell? ⟨B, 0, none⟩ = some (.int .i64 k) ∧ w.cell? ⟨B, 1, none⟩ = some (.int .u64 b) → Adr.Tab w → Calls Tryd.prog 36 #[.slice A n c, .func (.func 34) #[] #[.pointer (some ⟨B, 0, none⟩)]] w fun e w' => e = .returned (.int .i64 (fstZ (belP k b fs) n)) ∧ Below w.heap.size w w') :=
    Lib.hid fun B w h1 h2 h3 => index_any k b B A n c fs w hf hnc hn h1 hI hk hb h2 h3
  generalize fstZ (belP k b fs) n = R at *
  have F := Adr.box_new w k b
  have A0 : Below w.heap.size w (w.alloc (.cells #[.int .i64 k, .int .u64 b] 25)) := (Below.refl _ _).alloc (Nat.le_refl _) _
  have c0 := F.c0
  have c1 := F.c1
  have T0 := hT.below A0
  clear hc hI hf
  go_enter Tryd.func27, Tryd.ntmps27
  go_wp2_with fail
  refine (HC.out _ T0).mono ?_
  rintro e w1 ⟨rfl, b1⟩
  have B1 := thenB A0 b1
  have F1 := F.below b1
  have T1 := T0.below b1
  have hA1 := triples_below hA B1
  go_wp2_with (go_at_call 36; refine (HX.out _ _ hA1 ⟨F1.c0, F1.c1⟩ T1).mono ?_; rintro e w2 ⟨rfl, b2⟩)
  go_ret
  exact ⟨rfl, thenB B1 b2⟩
theorem find_any (k b : Int) (A : Option Addr) (n c : Nat) (fs : List (Int × Int × Int)) (w : World) (hf : fs.length = n) (hnc : n ≤ c) (hn : n ≤ 140737488355328) (hA : TriplesAt w A fs) (hI : Idents fs)
    (hk : -9223372036854775808 ≤ k ∧ k ≤ 9223372036854775807) (hb : 0 ≤ b ∧ b ≤ 18446744073709551615) (hT : Adr.Tab w) :
    Calls Tryd.prog 27 #[.slice A n c, .agg #[.int .i64 k, .int .u64 b]] w fun e w' => e = .returned (.int .i64 (findZ k b fs)) ∧ Below w.heap.size w w' := by
  unfold findZ
  by_cases hc : Adr.chk k b = 0
  · rw [if_pos hc, hf]; exact find_good k b A n c fs w hf hnc hn hA hI hc hk hb hT
  · rw [if_neg hc]; exact find_bad k b A n c w hc hk hb hT
theorem five_below {w w' : World} {g o g' : Nat} {x y z u v : Value} (hs : w.cell? ⟨g, o, none⟩ = some x ∧ w.cell? ⟨g, o + 1, none⟩ = some y ∧ w.cell? ⟨g, o + 2, none⟩ = some z ∧ w.cell? ⟨g', 0, none⟩ = some u ∧ w.cell? ⟨g', 1, none⟩ = some v) (b : Below w.heap.size w w') :
    w'.cell? ⟨g, o, none⟩ = some x ∧ w'.cell? ⟨g, o + 1, none⟩ = some y ∧ w'.cell? ⟨g, o + 2, none⟩ = some z ∧ w'.cell? ⟨g', 0, none⟩ = some u ∧ w'.cell? ⟨g', 1, none⟩ = some v := by
  obtain ⟨h0, h1, h2, h3, h4⟩ := hs
  have l : g < w.heap.size := block_lt_of_cell h0
  have l' := cell_lt h3
  exact ⟨(b.cell (p := ⟨g, o, none⟩) l).trans h0, (b.cell (p := ⟨g, o + 1, none⟩) l).trans h1, (b.cell (p := ⟨g, o + 2, none⟩) l).trans h2, (b.cell (p := ⟨g', 0, none⟩) l').trans h3, (b.cell (p := ⟨g', 1, none⟩) l').trans h4⟩
theorem adr_eq (k b : Int) (w : World) : (binOp .eql 25 (.agg #[.int .i64 k, .int .u64 b]) (.agg #[.int .i64 k, .int .u64 b])).run Tryd.prog w = .ok (.bool true) w := by
  go_simp
theorem adr_guard (k b k' b' : Int) (w : World) (x y : Operand) : (eqGuard .eql 25 x y (.agg #[.int .i64 k, .int .u64 b]) (.agg #[.int .i64 k', .int .u64 b'])).run Tryd.prog w = .ok () w := by
  go_simp
theorem rfind_bad (k b : Int) (A : Option Addr) (n c : Nat) (w : World) (hc : ¬ Adr.chk k b = 0) (hk : -9223372036854775808 ≤ k ∧ k ≤ 9223372036854775807) (hb : 0 ≤ b ∧ b ≤ 18446744073709551615) :
    Calls Tryd.prog 28 #[.slice A n c, .agg #[.int .i64 k, .int .u64 b]] w fun e w' => e = .returned (.int .i64 (-1)) ∧ Below w.heap.size w w' := by
  have HC : Hid (∀ w, Calls Tryd.prog 26 #[.agg #[.int .i64 k, .int .u64 b]] w fun e w' => e = .returned (.int .i64 (Adr.chk k b)) ∧ Below w.heap.size w w') := Lib.hid fun w => Adr.rcheck_any k b w hk hb
  generalize Adr.chk k b = C at *
  have gc : (C != 0) = true := by simpa using hc
  have F := Adr.box_new w k b
  have A0 : Below w.heap.size w (w.alloc (.cells #[.int .i64 k, .int .u64 b] 25)) := (Below.refl _ _).alloc (Nat.le_refl _) _
  have c0 := F.c0
  have c1 := F.c1
  go_enter Tryd.func28, Tryd.ntmps28
  go_wp2_with (go_at_call 26; refine (HC.out _).mono ?_; rintro e w1 ⟨rfl, b1⟩)
  go_ret
  exact ⟨rfl, thenB A0 b1⟩
set_option maxHeartbeats 2000000 in
theorem rfind_good (k b : Int) (A : Option Addr) (n c : Nat) (fs : List (Int × Int × Int)) (w : World) (hf : fs.length = n) (hnc : n ≤ c) (hn : n ≤ 140737488355328) (hA : TriplesAt w A fs) (hI : Idents fs) (hc : Adr.chk k b = 0)
    (hk : -9223372036854775808 ≤ k ∧ k ≤ 9223372036854775807) (hb : 0 ≤ b ∧ b ≤ 18446744073709551615) :
    Calls Tryd.prog 28 #[.slice A n c, .agg #[.int .i64 k, .int .u64 b]] w fun e w' => e = .returned (.int .i64 (fstZ (belP k b fs) n)) ∧ Below w.heap.size w w' := by
  have HC : Hid (∀ w, Calls Tryd.prog 26 #[.agg #[.int .i64 k, .int .u64 b]] w fun e w' => e = .returned (.int .i64 0) ∧ Below w.heap.size w w') := Lib.hid fun w => by
    have := Adr.rcheck_any k b w hk hb
    rwa [hc] at this
  have HP : Hid (∀ j (f : Int × Int × Int), fs[j]? = some f → belP k b fs j = belB k b f) := Lib.hid fun j f hj => by unfold belP; simp [List.getD, hj]
  have HN : Hid (∀ j, j < n → ∃ f, fs[j]? = some f ∧ f ∈ fs) := Lib.hid fun j hj => ⟨fs[j]'(by omega), List.getElem?_eq_getElem (by omega), List.getElem_mem _⟩
  have HF := Lib.hid (fun (q : Nat → Bool) (m j : Nat) => @fst_at q m j)
  have HI := Lib.hid hI
  have F := Adr.box_new w k b
  have A0 : Below w.heap.size w (w.alloc (.cells #[.int .i64 k, .int .u64 b] 25)) := (Below.refl _ _).alloc (Nat.le_refl _) _
  have c0 := F.c0
  have c1 := F.c1
  clear hc hI hf
  go_enter Tryd.func28, Tryd.ntmps28
  go_wp2_with fail
  refine (HC.out _).mono ?_
  rintro e w1 ⟨rfl, b1⟩
  have B1 := thenB A0 b1
  have F1 := F.below b1
  have hlt1 := F1.lt
  have hA1 := triples_below hA B1
  clear c0 c1 F A0 hA b1
  go_wp2_with fail
  go_loopw [5] (fun s5 wr => ∃ j : Nat, j ≤ n ∧ s5 = .int .i64 j ∧ Hid (∀ i, i < j → belP k b fs i = false) ∧ Below w1.heap.size w1 wr) (fun s5 _ => n - (intOf s5).toNat)
  case atStart => exact ⟨0, by omega, rfl, Lib.hid fun i hi => by omega, Below.refl _ _⟩
  case round =>
    obtain ⟨j, hj, rfl, hno, hbel⟩ := hrel
    by_cases c1 : j < n
    · obtain ⟨f, hfj, hfm⟩ := HN.out j c1
      have hp := HP.out j f hfj
      have hr := HI.out f hfm
      obtain ⟨k', b', irk⟩ := f
      obtain ⟨hr1, hr2, hr3⟩ := hr
      simp only at hr1 hr2 hr3
      have hA2 := triples_below hA1 hbel
      rcases hA2 with h | ⟨ad, off, rfl, hal, hcl⟩
      · exfalso; rw [h] at hfj; simp at hfj
      obtain ⟨h0, h1, h2⟩ := hcl j _ hfj
      simp only at h0 h1 h2
      have F2 := F1.below hbel
      have d0 := F2.c0
      have d1 := F2.c1
      have HR : Hid (∀ w, Calls Tryd.prog 37 #[.int .u64 irk, .agg #[.int .i64 k, .int .u64 b]] w fun e w' => e = .returned (.bool (rsvZ irk k b)) ∧ Below w.heap.size w w') := Lib.hid fun w => rresolves_any irk k b w hr3 hk hb
      have HQ : Hid (belP k b fs j = ((k' == k && b' == b) || rsvZ irk k b)) := Lib.hid (by rw [hp]; rfl)
      have B2 := thenB B1 hbel
      clear hcl HN HI HP hfj hfm hp
      have g1 : (0 : Int) ≤ (j : Int) ∧ (j : Int) < (n : Int) := by omega
      generalize rsvZ irk k b = Q at *
      by_cases e1 : k' = k
      · subst e1
        by_cases e2 : b' = b
        · subst e2
          have q1 := adr_eq k' b'
          have q2 := adr_guard k' b' k' b'
          have HY : Hid (fstZ (belP k' b' fs) n = j) := Lib.hid (HF.out _ _ _ c1 (by rw [HQ.out]; simp) hno.out)
          go_wp2_with fail
          go_quiet (fail)
          go_wp2_with fail
          go_ret
          exact ⟨Ser.ret_int HY.out.symm, thenB B2 ⟨rfl, rfl, rfl, Nat.le_refl _, fun _ _ => rfl⟩⟩
        · have q3 : (b' == b) = false := by simpa using e2
          have HY : Hid (Q = true → fstZ (belP k' b fs) n = j) := Lib.hid fun hq => HF.out _ _ _ c1 (by rw [HQ.out, hq]; simp) hno.out
          have HZ : Hid (Q = false → belP k' b fs j = false) := Lib.hid fun hq => by rw [HQ.out, hq]; simp [q3]
          have s0 : wr.drew.cell? ⟨ad, off + j * 3, none⟩ = some (.int .i64 k') ∧ wr.drew.cell? ⟨ad, off + j * 3 + 1, none⟩ = some (.int .u64 b') ∧ wr.drew.cell? ⟨ad, off + j * 3 + 2, none⟩ = some (.int .u64 irk) ∧ wr.drew.cell? ⟨w.heap.size, 0, none⟩ = some (.int .i64 k') ∧ wr.drew.cell? ⟨w.heap.size, 1, none⟩ = some (.int .u64 b) := ⟨h0, h1, h2, d0, d1⟩
          have B3 : Below w.heap.size w wr.drew := B2.drew
          have B4 : Below w1.heap.size w1 wr.drew := hbel.drew
          go_wp2_with fail
          clear HQ
          go_region_held3 (fun w' => w'.cell? ⟨ad, off + j * 3, none⟩ = some (.int .i64 k') ∧ w'.cell? ⟨ad, off + j * 3 + 1, none⟩ = some (.int .u64 b') ∧ w'.cell? ⟨ad, off + j * 3 + 2, none⟩ = some (.int .u64 irk) ∧ w'.cell? ⟨w.heap.size, 0, none⟩ = some (.int .i64 k') ∧ w'.cell? ⟨w.heap.size, 1, none⟩ = some (.int .u64 b)) (first | exact s0 | exact s1) (first
            | (go_at_call 37; refine (HR.out _).mono ?_; rintro e w2 ⟨rfl, b2⟩; have s1 := five_below s0 b2; have B5 := thenB B3 b2; have B6 := thenB B4 b2))
          all_goals
            cases Q with
            | true =>
              go_wp2_with fail
              go_ret
              exact ⟨Ser.ret_int (HY.out (by first | rfl | trivial)).symm, B5⟩
            | false =>
              go_wp2_with fail
              go_roundw
              case rel =>
                refine ⟨j + 1, by omega, by go_num, Lib.hid fun i hi => ?_, B6⟩
                by_cases e : i = j
                · subst e; exact HZ.out (by first | rfl | trivial)
                · exact hno.out i (by omega)
              case measure => simp [intOf]; omega
      · have q3 : (k' == k) = false := by simpa using e1
        have HY : Hid (Q = true → fstZ (belP k b fs) n = j) := Lib.hid fun hq => HF.out _ _ _ c1 (by rw [HQ.out, hq]; simp) hno.out
        have HZ : Hid (Q = false → belP k b fs j = false) := Lib.hid fun hq => by rw [HQ.out, hq]; simp [q3]
        have s0 : wr.drew.cell? ⟨ad, off + j * 3, none⟩ = some (.int .i64 k') ∧ wr.drew.cell? ⟨ad, off + j * 3 + 1, none⟩ = some (.int .u64 b') ∧ wr.drew.cell? ⟨ad, off + j * 3 + 2, none⟩ = some (.int .u64 irk) ∧ wr.drew.cell? ⟨w.heap.size, 0, none⟩ = some (.int .i64 k) ∧ wr.drew.cell? ⟨w.heap.size, 1, none⟩ = some (.int .u64 b) := ⟨h0, h1, h2, d0, d1⟩
        have B3 : Below w.heap.size w wr.drew := B2.drew
        have B4 : Below w1.heap.size w1 wr.drew := hbel.drew
        go_wp2_with fail
        clear HQ
        go_region_held3 (fun w' => w'.cell? ⟨ad, off + j * 3, none⟩ = some (.int .i64 k') ∧ w'.cell? ⟨ad, off + j * 3 + 1, none⟩ = some (.int .u64 b') ∧ w'.cell? ⟨ad, off + j * 3 + 2, none⟩ = some (.int .u64 irk) ∧ w'.cell? ⟨w.heap.size, 0, none⟩ = some (.int .i64 k) ∧ w'.cell? ⟨w.heap.size, 1, none⟩ = some (.int .u64 b)) (first | exact s0 | exact s1) (first
          | (go_at_call 37; refine (HR.out _).mono ?_; rintro e w2 ⟨rfl, b2⟩; have s1 := five_below s0 b2; have B5 := thenB B3 b2; have B6 := thenB B4 b2))
        all_goals
          cases Q with
          | true =>
            go_wp2_with fail
            go_ret
            exact ⟨Ser.ret_int (HY.out (by first | rfl | trivial)).symm, B5⟩
          | false =>
            go_wp2_with fail
            go_roundw
            case rel =>
              refine ⟨j + 1, by omega, by go_num, Lib.hid fun i hi => ?_, B6⟩
              by_cases e : i = j
              · subst e; exact HZ.out (by first | rfl | trivial)
              · exact hno.out i (by omega)
            case measure => simp [intOf]; omega
    · obtain rfl : j = n := by omega
      have HR : Hid (fstZ (belP k b fs) j = -1) := Lib.hid (fst_none hno.out)
      go_wp2_with fail
      go_ret
      exact ⟨Ser.ret_int HR.out.symm, thenB B1 hbel⟩
theorem rfind_any (k b : Int) (A : Option Addr) (n c : Nat) (fs : List (Int × Int × Int)) (w : World) (hf : fs.length = n) (hnc : n ≤ c) (hn : n ≤ 140737488355328) (hA : TriplesAt w A fs) (hI : Idents fs)
    (hk : -9223372036854775808 ≤ k ∧ k ≤ 9223372036854775807) (hb : 0 ≤ b ∧ b ≤ 18446744073709551615) :
    Calls Tryd.prog 28 #[.slice A n c, .agg #[.int .i64 k, .int .u64 b]] w fun e w' => e = .returned (.int .i64 (findZ k b fs)) ∧ Below w.heap.size w w' := by
  unfold findZ
  by_cases hc : Adr.chk k b = 0
  · rw [if_pos hc, hf]; exact rfind_good k b A n c fs w hf hnc hn hA hI hc hk hb
  · rw [if_neg hc]; exact rfind_bad k b A n c w hc hk hb
end Go.Proofs.YtegmknmbgifmjaaDoor.Prv
