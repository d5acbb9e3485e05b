/- Control PDUs: what Decode returns: contracts over the program. -/
import Derived.Test.YtiopeghbpnjcgaaCpEnc
import Derived.Test.YtiopeghbpnjcgaaOctTake
set_option linter.unusedVariables false
set_option linter.unusedSimpArgs false
namespace Go.Proofs.Ytiopeghbpnjcgaa.Cp
open Go.RowKit Mem Oct Rw Av
open Draw
open Base (thenB)
def decP : List Pt → Ct → List Int → Ct × List Int × Int
  | [], c, b => (c, b, 0)
  | p :: r, c, b => if (takeR b (szP p)).2.2 = 0 then decP r (setP p c (takeR b (szP p)).1) (takeR b (szP p)).2.1 else (c, b, (takeR b (szP p)).2.2)
def decB (k : Int) (b : List Int) : Ct × Int := match ptsK k with
  | none => (zeroC, 12)
  | some ps => if (decP ps (onlyK k) b).2.2 ≠ 0 then (zeroC, (decP ps (onlyK k) b).2.2) else if (decP ps (onlyK k) b).2.1.length ≠ 0 then (zeroC, 2) else if chkC (decP ps (onlyK k) b).1 ≠ 0 then (zeroC, chkC (decP ps (onlyK k) b).1) else ((decP ps (onlyK k) b).1, 0)
def decR (xs : List Int) : Ct × Int := match xs with
  | [] => (zeroC, 3)
  | k :: b => decB k b
def Decd (w w' : World) (e : Ending) (r : Ct × Int) : Prop := e = .returned (.tuple #[.agg (encC r.1), .int .i64 r.2]) ∧ Below w.heap.size w w'
theorem ints_grown {k : IntKind} {w w' : World} {g : Nat} {A : Option Addr} {zs : List Int} (h : Ints k w w.heap.size A zs) (gr : w.grownBy w' (some g)) (hne : ∀ a, A = some a → a.block ≠ g) : Ints k w' w'.heap.size A zs := by
  rcases h with h | ⟨b, off, e, hb, hc⟩
  · exact .inl h
  · refine .inr ⟨b, off, e, Nat.lt_of_lt_of_le hb gr.size, fun j hj => ?_⟩
    rw [World.cell?_of_block (a := ⟨b, off + j, none⟩) (gr.block b hb (by have := hne _ e; simpa using this))]
    exact hc j hj
theorem nums_bd : ∀ (zs xs : List Int), (∀ z ∈ zs, 1 ≤ z ∧ z ≤ 8) → Bytes xs → ∀ y ∈ numsL xs zs, 0 ≤ y ∧ y ≤ 18446744073709551615
  | [], _, _, _, y, hy => by cases hy
  | z :: r, xs, hz, hx, y, hy => by
    rcases List.mem_cons.1 hy with rfl | hy
    · have h1 := valL_bd (bytes_take hx z.toNat)
      have h2 := hz z (by simp)
      have h3 : (xs.take z.toNat).length ≤ 8 := by rw [List.length_take]; omega
      have h4 : Ser.p2 (8 * (xs.take z.toNat).length) ≤ Ser.p2 64 := by
        generalize (xs.take z.toNat).length = l at *
        have : l = 0 ∨ l = 1 ∨ l = 2 ∨ l = 3 ∨ l = 4 ∨ l = 5 ∨ l = 6 ∨ l = 7 ∨ l = 8 := by omega
        rcases this with rfl | rfl | rfl | rfl | rfl | rfl | rfl | rfl | rfl <;> decide
      have h5 : Ser.p2 64 = 18446744073709551616 := by decide
      omega
    · exact nums_bd r _ (fun q hq => hz q (by simp [hq])) (bytes_drop hx _) y hy
theorem take_spec {xs : List Int} {p : Pt} (h : (takeR xs (szP p)).2.2 = 0) : (takeR xs (szP p)).1 = numsL xs (szP p) ∧ (takeR xs (szP p)).2.1 = xs.drop (sumZ (szP p)).toNat := by
  unfold takeR at *
  split at h
  · split at h
    · cases h
    · rename_i h1 h2
      rw [if_pos h1, if_neg h2]; exact ⟨rfl, rfl⟩
  · cases h
theorem s_bd (n : Int) : -9223372036854775808 ≤ s n ∧ s n ≤ 9223372036854775807 := by unfold s; simp only [IntKind.wrap, IntKind.signed, IntKind.bits]; simp; omega
theorem setP_good {c : Ct} (h : GoodC c) (p : Pt) {ns : List Int} (hl : ns.length = (szP p).length) (hn : ∀ z ∈ ns, 0 ≤ z ∧ z ≤ 18446744073709551615) : GoodC (setP p c ns) := by
  obtain ⟨h0, h1, h2, h3, h4, h5, h6, h7, h8, h9, h10, h11, h12, h13, h14⟩ := h
  have hb : ∀ i, 0 ≤ ns.getD i 0 ∧ ns.getD i 0 ≤ 18446744073709551615 := fun i => by
    rcases Nat.lt_or_ge i ns.length with h | h
    · simp only [List.getD, List.getElem?_eq_getElem h, Option.getD_some]; exact hn _ (List.getElem_mem h)
    · simp [List.getD, List.getElem?_eq_none h]
  have hu : ∀ n, 0 ≤ IntKind.u16.wrap n ∧ IntKind.u16.wrap n ≤ 65535 := fun n => by simp only [IntKind.wrap, IntKind.signed, IntKind.bits]; simp; omega
  have b0 := hb 0
  cases p <;> (unfold GoodC setP; simp only)
  · exact ⟨h0, h1, s_bd _, s_bd _, s_bd _, s_bd _, s_bd _, h7, h8, h9, h10, h11, h12, h13, h14⟩
  · exact ⟨h0, h1, h2, h3, h4, h5, h6, hu _, h8, h9, h10, h11, h12, h13, h14⟩
  · exact ⟨by omega, h1, h2, h3, h4, h5, h6, h7, h8, h9, h10, h11, h12, h13, h14⟩
  · exact ⟨h0, h1, h2, h3, h4, h5, h6, h7, s_bd _, h9, h10, h11, h12, h13, h14⟩
  · exact ⟨h0, h1, h2, h3, h4, h5, h6, h7, h8, s_bd _, h10, h11, h12, h13, h14⟩
  · exact ⟨h0, h1, h2, h3, h4, h5, h6, h7, h8, h9, h10, h11, h12, s_bd _, h14⟩
  · exact ⟨h0, h1, h2, h3, h4, h5, h6, h7, h8, h9, h10, h11, h12, h13, s_bd _⟩
  · exact ⟨h0, h1, h2, h3, h4, h5, h6, h7, h8, h9, b0, h11, h12, h13, h14⟩
  · exact ⟨h0, h1, h2, h3, h4, h5, h6, h7, h8, h9, h10, b0, h12, h13, h14⟩
  · exact ⟨h0, h1, h2, h3, h4, h5, h6, h7, h8, h9, h10, h11, b0, h13, h14⟩
theorem onlyK_good {k : Int} (h : 0 ≤ k ∧ k ≤ 255) : GoodC (onlyK k) := by
  unfold GoodC onlyK zeroC; simp only
  exact ⟨by decide, by omega, by decide, by decide, by decide, by decide, by decide, by decide, by decide, by decide, by decide, by decide, by decide, by decide, by decide⟩
set_option maxRecDepth 100000 in
set_option maxHeartbeats 4000000 in
theorem decode_any (A : Option Addr) (n c : Nat) (xs : List Int) (w : World) (hx : xs.length = n) (hn : n ≤ 1000000) (hnc : n ≤ c) (bx : Bytes xs) (hr : Ints .u8 w w.heap.size A xs) :
    Calls Try.prog 15 #[.slice A n c] w fun e w' => Decd w w' e (decR xs) := by
  have BX : Below w.heap.size w (w.alloc (.cells #[.int .i64 0, .int .i64 0, .int .i64 0, .int .i64 0, .int .i64 0, .int .i64 0, .int .u64 0, .int .u16 0, .int .i64 0, .int .i64 0, .int .u64 0, .int .u64 0, .int .u64 0, .int .i64 0, .int .i64 0] 28)) := (Below.refl _ _).alloc (Nat.le_refl _) _
  have K2 : Blk (w.alloc (.cells #[.int .i64 0, .int .i64 0, .int .i64 0, .int .i64 0, .int .i64 0, .int .i64 0, .int .u64 0, .int .u16 0, .int .i64 0, .int .i64 0, .int .u64 0, .int .u64 0, .int .u64 0, .int .i64 0, .int .i64 0] 28)) w.heap.size 28 #[.int .i64 0, .int .i64 0, .int .i64 0, .int .i64 0, .int .i64 0, .int .i64 0, .int .u64 0, .int .u16 0, .int .i64 0, .int .i64 0, .int .u64 0, .int .u64 0, .int .u64 0, .int .i64 0, .int .i64 0] := Blk.fresh w 28 #[.int .i64 0, .int .i64 0, .int .i64 0, .int .i64 0, .int .i64 0, .int .i64 0, .int .u64 0, .int .u16 0, .int .i64 0, .int .i64 0, .int .u64 0, .int .u64 0, .int .u64 0, .int .i64 0, .int .i64 0]
  obtain ⟨⟨cR, xR⟩, hD⟩ : ∃ r, decR xs = r := ⟨_, rfl⟩
  rw [hD]
  by_cases h0 : n = 0
  · obtain ⟨rfl, rfl⟩ : cR = zeroC ∧ xR = 3 := by
      have : xs = [] := List.eq_nil_of_length_eq_zero (by omega)
      subst this
      unfold decR at hD
      injection hD with h1 h2
      exact ⟨h1.symm, h2.symm⟩
    subst h0
    clear hD hr bx hx hnc
    go_enter Try.func15, Try.ntmps15
    go_upto_region 2 with (fail)
    generalize w.alloc (.cells #[.int .i64 0, .int .i64 0, .int .i64 0, .int .i64 0, .int .i64 0, .int .i64 0, .int .u64 0, .int .u16 0, .int .i64 0, .int .i64 0, .int .u64 0, .int .u64 0, .int .u64 0, .int .i64 0, .int .i64 0] 28) = wr at *
    have HSZ : (Try.prog.info? 28).map (·.size) = some (#[.int .i64 0, .int .i64 0, .int .i64 0, .int .i64 0, .int .i64 0, .int .i64 0, .int .u64 0, .int .u16 0, .int .i64 0, .int .i64 0, .int .u64 0, .int .u64 0, .int .u64 0, .int .i64 0, .int .i64 0] : Array Value).size := by kernel_rfl
    have H1 : (#[.int .i64 0, .int .i64 0, .int .i64 0, .int .i64 0, .int .i64 0, .int .i64 0, .int .u64 0, .int .u16 0, .int .i64 0, .int .i64 0, .int .u64 0, .int .u64 0, .int .u64 0, .int .i64 0, .int .i64 0] : Array Value).all (·.oneCell') = true := by rw [← Array.all_toList]; rfl
    go_wp2_with (refine wpList_store_row rfl 28 (.tmp 2) _ rfl w.heap.size #[.int .i64 0, .int .i64 0, .int .i64 0, .int .i64 0, .int .i64 0, .int .i64 0, .int .u64 0, .int .u16 0, .int .i64 0, .int .i64 0, .int .u64 0, .int .u64 0, .int .u64 0, .int .i64 0, .int .i64 0] rfl rfl 28 _ K2 (by kernel_rfl) rfl H1 ?_)
    have KR := setRow_heap wr w.heap.size _ (#[.int .i64 0, .int .i64 0, .int .i64 0, .int .i64 0, .int .i64 0, .int .i64 0, .int .u64 0, .int .u16 0, .int .i64 0, .int .i64 0, .int .u64 0, .int .u64 0, .int .u64 0, .int .i64 0, .int .i64 0]) 28 (0, 0) K2
    have BE := below_setRow BX (Nat.le_refl _) (#[.int .i64 0, .int .i64 0, .int .i64 0, .int .i64 0, .int .i64 0, .int .i64 0, .int .u64 0, .int .u16 0, .int .i64 0, .int .i64 0, .int .u64 0, .int .u64 0, .int .u64 0, .int .i64 0, .int .i64 0])
    generalize World.setRow wr w.heap.size (#[.int .i64 0, .int .i64 0, .int .i64 0, .int .i64 0, .int .i64 0, .int .i64 0, .int .u64 0, .int .u16 0, .int .i64 0, .int .i64 0, .int .u64 0, .int .u64 0, .int .u64 0, .int .i64 0, .int .i64 0]) = Y at *
    refine bodyPost_ret (v := .tuple #[.agg (#[.int .i64 0, .int .i64 0, .int .i64 0, .int .i64 0, .int .i64 0, .int .i64 0, .int .u64 0, .int .u16 0, .int .i64 0, .int .i64 0, .int .u64 0, .int .u64 0, .int .u64 0, .int .i64 0, .int .i64 0]), .int .i64 3]) ?_ rfl ⟨rfl, BE⟩
    have HLo := run_loadVar_row (P := Try.prog) Y w.heap.size 28 28 (#[.int .i64 0, .int .i64 0, .int .i64 0, .int .i64 0, .int .i64 0, .int .i64 0, .int .u64 0, .int .u16 0, .int .i64 0, .int .i64 0, .int .u64 0, .int .u64 0, .int .u64 0, .int .i64 0, .int .i64 0]) (0, 0) _ KR Try.underlying28 rfl HSZ
    generalize (#[.int .i64 0, .int .i64 0, .int .i64 0, .int .i64 0, .int .i64 0, .int .i64 0, .int .u64 0, .int .u16 0, .int .i64 0, .int .i64 0, .int .u64 0, .int .u64 0, .int .u64 0, .int .i64 0, .int .i64 0] : Array Value) = CS9 at *
    simp [results, show (Try.f15).results = #[.cell 2 28, .tmp 3] from rfl, asAddr, HLo, Act.put]
  · obtain ⟨k, b0, rfl⟩ : ∃ k b0, xs = k :: b0 := by
      cases xs with
      | nil => simp at hx; omega
      | cons k b0 => exact ⟨k, b0, rfl⟩
    have hk := bx k (by simp)
    have bb : Bytes b0 := fun z hz => bx z (by simp [hz])
    obtain ⟨ba, oa, rfl, hba, hcell⟩ : ∃ ba oa, A = some ⟨ba, oa, none⟩ ∧ ba < w.heap.size ∧ w.cell? ⟨ba, oa, none⟩ = some (.int .u8 k) := by
      rcases hr with h | ⟨b, off, e, hb, hc⟩
      · cases h
      · exact ⟨b, off, e, hb, by have := hc 0 (by simp); simpa using this⟩
    have hcut := hr.cut (c := c) (i := 1) (by simp) (by rw [hx]; exact hnc)
    rw [show (k :: b0).drop 1 = b0 from rfl] at hcut
    have HCut := Lib.hid hcut
    have hb0 : b0.length = n - 1 := by simp at hx; omega
    have HB0 := Lib.hid hb0
    have g0 : (0 : Int) < (n : Int) := by omega
    have g0' : ¬ ((n : Int) = 0) := by omega
    have ek : IntKind.i64.wrap k = k := by simp only [IntKind.wrap, IntKind.signed, IntKind.bits]; simp; omega
    have x0 : (w.alloc (.cells #[.int .i64 0, .int .i64 0, .int .i64 0, .int .i64 0, .int .i64 0, .int .i64 0, .int .u64 0, .int .u16 0, .int .i64 0, .int .i64 0, .int .u64 0, .int .u64 0, .int .u64 0, .int .i64 0, .int .i64 0] 28)).cell? ⟨ba, oa, none⟩ = some (.int .u8 k) := (((Below.refl _ _).alloc (Nat.le_refl _) _ : Below w.heap.size w (w.alloc (.cells #[.int .i64 0, .int .i64 0, .int .i64 0, .int .i64 0, .int .i64 0, .int .i64 0, .int .u64 0, .int .u16 0, .int .i64 0, .int .i64 0, .int .u64 0, .int .u64 0, .int .u64 0, .int .i64 0, .int .i64 0] 28))).cell (p := ⟨ba, oa, none⟩) hba).trans hcell
    have HPa := Lib.hid (partsOf_any k)
    have HK := Lib.hid hk
    have HDe : Hid (decB k b0 = (cR, xR)) := Lib.hid hD
    have hle : 1 ≤ n := by omega
    have hle1 : (1 : Int) ≤ (n : Int) := by omega
    clear hD hr bx hx hcell hcut hb0
    go_enter Try.func15, Try.ntmps15
    go_upto_region 4 with (fail)
    clear x0
    have b9 : Below (w.alloc (.cells #[.int .i64 0, .int .i64 0, .int .i64 0, .int .i64 0, .int .i64 0, .int .i64 0, .int .u64 0, .int .u16 0, .int .i64 0, .int .i64 0, .int .u64 0, .int .u64 0, .int .u64 0, .int .i64 0, .int .i64 0] 28)).heap.size (w.alloc (.cells #[.int .i64 0, .int .i64 0, .int .i64 0, .int .i64 0, .int .i64 0, .int .i64 0, .int .u64 0, .int .u16 0, .int .i64 0, .int .i64 0, .int .u64 0, .int .u64 0, .int .u64 0, .int .i64 0, .int .i64 0] 28)) ((w.alloc (.cells #[.int .i64 0, .int .i64 0, .int .i64 0, .int .i64 0, .int .i64 0, .int .i64 0, .int .u64 0, .int .u16 0, .int .i64 0, .int .i64 0, .int .u64 0, .int .u64 0, .int .u64 0, .int .i64 0, .int .i64 0] 28)).alloc (.cells #[.int .i64 k, .int .i64 0, .int .i64 0, .int .i64 0, .int .i64 0, .int .i64 0, .int .u64 0, .int .u16 0, .int .i64 0, .int .i64 0, .int .u64 0, .int .u64 0, .int .u64 0, .int .i64 0, .int .i64 0] 28)) := (Below.refl _ _).alloc (Nat.le_refl _) _
    have K4 : Blk ((w.alloc (.cells #[.int .i64 0, .int .i64 0, .int .i64 0, .int .i64 0, .int .i64 0, .int .i64 0, .int .u64 0, .int .u16 0, .int .i64 0, .int .i64 0, .int .u64 0, .int .u64 0, .int .u64 0, .int .i64 0, .int .i64 0] 28)).alloc (.cells #[.int .i64 k, .int .i64 0, .int .i64 0, .int .i64 0, .int .i64 0, .int .i64 0, .int .u64 0, .int .u16 0, .int .i64 0, .int .i64 0, .int .u64 0, .int .u64 0, .int .u64 0, .int .i64 0, .int .i64 0] 28)) (w.heap.size + 1) 28 (encC (onlyK k)) := Av.Blk.next
    replace K2 := K2.below b9 K2.lt
    replace BX := thenB BX b9
    clear b9
    generalize (w.alloc (.cells #[.int .i64 0, .int .i64 0, .int .i64 0, .int .i64 0, .int .i64 0, .int .i64 0, .int .u64 0, .int .u16 0, .int .i64 0, .int .i64 0, .int .u64 0, .int .u64 0, .int .u64 0, .int .i64 0, .int .i64 0] 28)).alloc (.cells #[.int .i64 k, .int .i64 0, .int .i64 0, .int .i64 0, .int .i64 0, .int .i64 0, .int .u64 0, .int .u16 0, .int .i64 0, .int .i64 0, .int .u64 0, .int .u64 0, .int .u64 0, .int .i64 0, .int .i64 0] 28) = W1 at *
    obtain ⟨g4, e4⟩ : ∃ g, w.heap.size + 1 = g := ⟨_, rfl⟩
    have hg4 : w.heap.size < g4 := by omega
    rw [e4] at K4
    try simp only [e4]
    clear e4
    have k0 : W1.cell? ⟨g4, 0, none⟩ = some (.int .i64 k) := K4.cell 0
    go_upto_region 5 with (go_at_call 19; refine (HPa.out _).mono ?_; rintro e W ⟨r, rfl, hres, b2⟩)
    clear k0
    replace K4 := K4.below b2 K4.lt
    replace K2 := K2.below b2 K2.lt
    replace BX := thenB BX b2
    clear b2 HPa
    cases hp : ptsK k with
    | none =>
      obtain ⟨rfl, rfl⟩ : cR = zeroC ∧ xR = 12 := by
        have h := HDe.out
        unfold decB at h
        rw [hp] at h
        injection h with h1 h2
        exact ⟨h1.symm, h2.symm⟩
      simp only [hp, Option.isSome_none]
      clear hp hres
      have HSZ : (Try.prog.info? 28).map (·.size) = some (#[.int .i64 0, .int .i64 0, .int .i64 0, .int .i64 0, .int .i64 0, .int .i64 0, .int .u64 0, .int .u16 0, .int .i64 0, .int .i64 0, .int .u64 0, .int .u64 0, .int .u64 0, .int .i64 0, .int .i64 0] : Array Value).size := by kernel_rfl
      have H1 : (#[.int .i64 0, .int .i64 0, .int .i64 0, .int .i64 0, .int .i64 0, .int .i64 0, .int .u64 0, .int .u16 0, .int .i64 0, .int .i64 0, .int .u64 0, .int .u64 0, .int .u64 0, .int .i64 0, .int .i64 0] : Array Value).all (·.oneCell') = true := by rw [← Array.all_toList]; rfl
      go_wp2_with (refine wpList_store_row rfl 28 (.tmp 2) _ rfl w.heap.size #[.int .i64 0, .int .i64 0, .int .i64 0, .int .i64 0, .int .i64 0, .int .i64 0, .int .u64 0, .int .u16 0, .int .i64 0, .int .i64 0, .int .u64 0, .int .u64 0, .int .u64 0, .int .i64 0, .int .i64 0] rfl rfl 28 _ K2 (by kernel_rfl) rfl H1 ?_)
      have KR := setRow_heap W w.heap.size _ (#[.int .i64 0, .int .i64 0, .int .i64 0, .int .i64 0, .int .i64 0, .int .i64 0, .int .u64 0, .int .u16 0, .int .i64 0, .int .i64 0, .int .u64 0, .int .u64 0, .int .u64 0, .int .i64 0, .int .i64 0]) 28 (0, 0) K2
      have BE := below_setRow BX (Nat.le_refl _) (#[.int .i64 0, .int .i64 0, .int .i64 0, .int .i64 0, .int .i64 0, .int .i64 0, .int .u64 0, .int .u16 0, .int .i64 0, .int .i64 0, .int .u64 0, .int .u64 0, .int .u64 0, .int .i64 0, .int .i64 0])
      generalize World.setRow W w.heap.size (#[.int .i64 0, .int .i64 0, .int .i64 0, .int .i64 0, .int .i64 0, .int .i64 0, .int .u64 0, .int .u16 0, .int .i64 0, .int .i64 0, .int .u64 0, .int .u64 0, .int .u64 0, .int .i64 0, .int .i64 0]) = Y at *
      refine bodyPost_ret (v := .tuple #[.agg (#[.int .i64 0, .int .i64 0, .int .i64 0, .int .i64 0, .int .i64 0, .int .i64 0, .int .u64 0, .int .u16 0, .int .i64 0, .int .i64 0, .int .u64 0, .int .u64 0, .int .u64 0, .int .i64 0, .int .i64 0]), .int .i64 12]) ?_ rfl ⟨rfl, BE⟩
      have HLo := run_loadVar_row (P := Try.prog) Y w.heap.size 28 28 (#[.int .i64 0, .int .i64 0, .int .i64 0, .int .i64 0, .int .i64 0, .int .i64 0, .int .u64 0, .int .u16 0, .int .i64 0, .int .i64 0, .int .u64 0, .int .u64 0, .int .u64 0, .int .i64 0, .int .i64 0]) (0, 0) _ KR Try.underlying28 rfl HSZ
      generalize (#[.int .i64 0, .int .i64 0, .int .i64 0, .int .i64 0, .int .i64 0, .int .i64 0, .int .u64 0, .int .u16 0, .int .i64 0, .int .i64 0, .int .u64 0, .int .u64 0, .int .u64 0, .int .i64 0, .int .i64 0] : Array Value) = CS9 at *
      simp [results, show (Try.f15).results = #[.cell 2 28, .tmp 3] from rfl, asAddr, HLo, Act.put]
    | some ps =>
      unfold Res at hres
      rw [hp] at hres
      simp only [hp, Option.isSome_some]
      have HDf : Hid ((cR, xR) = if (decP ps (onlyK k) b0).2.2 ≠ 0 then (zeroC, (decP ps (onlyK k) b0).2.2) else if (decP ps (onlyK k) b0).2.1.length ≠ 0 then (zeroC, 2) else if chkC (decP ps (onlyK k) b0).1 ≠ 0 then (zeroC, chkC (decP ps (onlyK k) b0).1) else ((decP ps (onlyK k) b0).1, 0)) := Lib.hid (by rw [← HDe.out]; unfold decB; rw [hp])
      have hn2 := pts_len hp
      clear hp HDe
      obtain ⟨gp, cs, rfl, KP, HP⟩ := hres
      obtain ⟨np, hnp⟩ : ∃ np, ps.length = np := ⟨_, rfl⟩
      rw [hnp] at hn2 ⊢
      have HN := Lib.hid hnp
      have HPh := Lib.hid HP
      clear hnp HP
      by_cases c1 : c = 1
      · subst c1
        have hib : Ints .u8 W W.heap.size (some ⟨ba, oa, none⟩) b0 := by
          have h9 := (HCut.out.below BX).more BX.size
          rwa [if_pos rfl] at h9
        have hnb : ∀ a, (some ⟨ba, oa, none⟩ : Option Addr) = some a → a.block ≠ g4 := fun a ha => by
          injection ha with ha
          subst ha
          simp only
          omega
        have HIb := Lib.hid (And.intro hib hnb)
        have HGk := Lib.hid (onlyK_good HK.out)
        clear hib hnb
        go_wp2_with fail
        go_loopw [0, 35] (fun s0 s35 wr => ∃ (j : Nat) (cj : Ct) (bj : List Int) (Aj : Option Addr) (mj kj : Nat), j ≤ np ∧ s35 = .int .i64 j ∧ s0 = .slice Aj mj kj ∧ bj.length = mj ∧ mj ≤ kj ∧ mj ≤ 1000000 ∧ Hid (Bytes bj ∧ GoodC cj ∧ decP ps (onlyK k) b0 = decP (ps.drop j) cj bj ∧ Ints .u8 wr wr.heap.size Aj bj ∧ ∀ a, Aj = some a → a.block ≠ g4) ∧ Blk wr g4 28 (encC cj) ∧ Blk wr w.heap.size 28 #[.int .i64 0, .int .i64 0, .int .i64 0, .int .i64 0, .int .i64 0, .int .i64 0, .int .u64 0, .int .u16 0, .int .i64 0, .int .i64 0, .int .u64 0, .int .u64 0, .int .u64 0, .int .i64 0, .int .i64 0] ∧ Keeps W wr ∧ Below w.heap.size w wr) (fun _ s35 _ => np - (intOf s35).toNat)
        case atStart => exact ⟨0, onlyK k, b0, _, _, _, by omega, rfl, rfl, by have := HB0.out; omega, by omega, by omega, Lib.hid ⟨bb, HGk.out, rfl, HIb.out.1, HIb.out.2⟩, K4, K2, Keeps.refl _, BX⟩
        case round =>
          obtain ⟨j, cj, bj, Aj, mj, kj, hj, rfl, rfl, hbl, hmk, hm6, HH, L4, L2, kp, BY⟩ := hrel
          clear K4 K2 BX
          have K4 := L4
          have K2 := L2
          have BX := BY
          clear L4 L2 BY
          by_cases cjn : j < np
          · have g1 : (0 : Int) ≤ (j : Int) ∧ (j : Int) < (np : Int) := by omega
            have g2 : ¬ ((np : Int) ≤ (j : Int)) := by omega
            obtain ⟨p, hpj⟩ : ∃ p, ps[j]? = some p := ⟨_, List.getElem?_eq_getElem (by rw [HN.out]; exact cjn)⟩
            obtain ⟨S, v1, v2, v3, PA, d0, d1, d2, d3⟩ := HPh.out j p hpj
            obtain ⟨S', f1, c1, f2, c2, f3, c3, eV, hSz⟩ := part_form PA
            obtain ⟨rfl, rfl, rfl, rfl⟩ := agg4 eV
            clear eV
            obtain ⟨gS, hS, KS⟩ := hSz
            subst hS
            obtain ⟨mS, hm⟩ : ∃ m, (szP p).length = m := ⟨_, rfl⟩
            have hm5 : mS ≤ 5 := by rw [← hm, ← szP_len p zeroC]; exact getP_len5 zeroC p
            rw [hm] at PA d0
            have HM := Lib.hid hm
            clear hm
            have H1 : (#[.slice (some ⟨gS, 0, none⟩) mS mS, .func (.func f1) #[] c1, .func (.func f2) #[] c2, .func (.func f3) #[] c3] : Array Value).all (·.oneCell') = true := by rw [← Array.all_toList]; rfl
            have HPJ := Lib.hid hpj
            replace PA := PA.keep kp
            replace KS := kp _ _ _ (by decide) KS
            have KPj := kp _ _ _ (by decide) KP
            have x0 := (KPj.cell (j * 4)).trans d0
            have x1 := (KPj.cell (j * 4 + 1)).trans d1
            have x2 := (KPj.cell (j * 4 + 2)).trans d2
            have x3 := (KPj.cell (j * 4 + 3)).trans d3
            obtain ⟨E1, E2, E3⟩ := ents PA
            unfold Ent at E1 E2 E3
            have e5 : IntKind.i64.wrap ((j : Int) + 1) = (j : Int) + 1 := by simp only [IntKind.wrap, IntKind.signed, IntKind.bits]; simp; omega
            clear d0 d1 d2 d3 hpj
            go_upto_region 11 with (refine wpList_store_row rfl 49 (.tmp 8) _ rfl wr.heap.size #[.slice (some ⟨gS, 0, none⟩) mS mS, .func (.func f1) #[] c1, .func (.func f2) #[] c2, .func (.func f3) #[] c3] rfl rfl 49 _ (Blk.fresh wr 49 #[.slice none 0 0, .nilFunc, .nilFunc, .nilFunc]) (by kernel_rfl) rfl H1 ?_)
            clear x0 x1 x2 x3 H1
            have b9 : Below wr.heap.size wr ((wr.alloc (.cells #[.slice none 0 0, .nilFunc, .nilFunc, .nilFunc] 49)).setRow wr.heap.size #[.slice (some ⟨gS, 0, none⟩) mS mS, .func (.func f1) #[] c1, .func (.func f2) #[] c2, .func (.func f3) #[] c3]) := below_setRow ((Below.refl _ _).alloc (Nat.le_refl _) _) (Nat.le_refl _) _
            have KX : Blk ((wr.alloc (.cells #[.slice none 0 0, .nilFunc, .nilFunc, .nilFunc] 49)).setRow wr.heap.size #[.slice (some ⟨gS, 0, none⟩) mS mS, .func (.func f1) #[] c1, .func (.func f2) #[] c2, .func (.func f3) #[] c3]) wr.heap.size 49 #[.slice (some ⟨gS, 0, none⟩) mS mS, .func (.func f1) #[] c1, .func (.func f2) #[] c2, .func (.func f3) #[] c3] := Av.bset_row (Blk.fresh wr 49 #[.slice none 0 0, .nilFunc, .nilFunc, .nilFunc])
            have hIb9 := (HH.out.2.2.2.1.below b9).more b9.size
            replace K4 := K4.below b9 K4.lt
            replace K2 := K2.below b9 K2.lt
            replace KS := KS.below b9 KS.lt
            replace PA := PA.keep (keeps_below b9)
            replace kp := kp.trans (keeps_below b9)
            replace BX := thenB BX b9
            clear b9 KPj
            generalize (wr.alloc (.cells #[.slice none 0 0, .nilFunc, .nilFunc, .nilFunc] 49)).setRow wr.heap.size #[.slice (some ⟨gS, 0, none⟩) mS mS, .func (.func f1) #[] c1, .func (.func f2) #[] c2, .func (.func f3) #[] c3] = X9 at *
            obtain ⟨gx, ex⟩ : ∃ g, wr.heap.size = g := ⟨_, rfl⟩
            rw [ex] at KX
            try simp only [ex]
            clear ex
            have hIs : Ints .i64 X9 X9.heap.size (some ⟨gS, 0, none⟩) (szP p) := by
              refine .inr ⟨gS, 0, rfl, KS.lt, fun q hq => ?_⟩
              rw [Nat.zero_add, KS.cell q]
              simp [List.getD, List.getElem?_eq_getElem hq]
            have HTk := Lib.hid (take_any Aj (some ⟨gS, 0, none⟩) mj mS kj mS bj (szP p) X9 hbl HM.out hmk (by omega) (by omega) HH.out.1 (fun z hz => by have := szP_bd p z hz; omega) hIb9 hIs)
            have HSp := Lib.hid (take_spec (xs := bj) (p := p))
            obtain ⟨⟨ns, rest, ex⟩, hT⟩ : ∃ r, takeR bj (szP p) = r := ⟨_, rfl⟩
            rw [hT] at HTk HSp
            have HT := Lib.hid hT
            obtain ⟨ln, hln⟩ : ∃ l, ns.length = l := ⟨_, rfl⟩
            obtain ⟨lr, hlr⟩ : ∃ l, rest.length = l := ⟨_, rfl⟩
            have HLN := Lib.hid hln
            have HLR := Lib.hid hlr
            have HTl : Hid (∀ e w', Gives3 X9 w' e (ns, rest, ex) → ∃ An cn Ar cr, e = .returned (.tuple #[.slice An ln cn, .slice Ar lr cr, .int .i64 ex]) ∧ w'.ownsRow X9.heap.size 24 1 (.slice An ln cn) ln (ns.map (Value.int .u64)) ∧ w'.ownsRow X9.heap.size 5 1 (.slice Ar lr cr) lr (rest.map (Value.int .u8)) ∧ Below X9.heap.size X9 w') := Lib.hid fun e w' ⟨An, cn, Ar, cr, h1, h2, h3, h4⟩ => by
              simp only [hln, hlr] at h1 h2 h3
              exact ⟨An, cn, Ar, cr, h1, h2, h3, h4⟩
            clear hT hln hlr hIs hIb9
            have y0 := KX.cell 0
            have hk4 := K4.lt
            have TK : Hid (Calls Try.prog 28 #[.slice Aj mj kj, .slice (some ⟨gS, 0, none⟩) mS mS] X9 fun e w' => ∃ An cn Ar cr, e = .returned (.tuple #[.slice An ln cn, .slice Ar lr cr, .int .i64 ex]) ∧ w'.ownsRow X9.heap.size 24 1 (.slice An ln cn) ln (ns.map (Value.int .u64)) ∧ w'.ownsRow X9.heap.size 5 1 (.slice Ar lr cr) lr (rest.map (Value.int .u8)) ∧ Below X9.heap.size X9 w') := Lib.hid (HTk.out.mono fun e w' h => HTl.out e w' h)
            clear HTk HTl
            go_upto_region 12 with (go_at_call 28; refine TK.out.mono ?_; rintro e X1 ⟨An, cn, Ar, cr, rfl, ownN, ownR, b9⟩)
            clear y0 TK
            replace K4 := K4.below b9 K4.lt
            replace K2 := K2.below b9 K2.lt
            replace KX := KX.below b9 KX.lt
            replace PA := PA.keep (keeps_below b9)
            replace kp := kp.trans (keeps_below b9)
            replace BX := thenB BX b9
            clear b9
            by_cases hex : ex = 0
            · subst hex
              obtain ⟨hs1, hs2⟩ := HSp.out rfl
              try simp only at hs1 hs2
              have hp : ns.length = (szP p).length := by rw [hs1, numsL_len]
              have hnz : ∀ z ∈ ns, 0 ≤ z ∧ z ≤ 18446744073709551615 := by rw [hs1]; exact nums_bd _ _ (szP_bd p) HH.out.1
              have hGn := setP_good HH.out.2.1 p hp hnz
              have hBr : Bytes rest := by rw [hs2]; exact bytes_drop HH.out.1 _
              have hStep : decP ps (onlyK k) b0 = decP (ps.drop (j + 1)) (setP p cj ns) rest := by
                rw [HH.out.2.2.1, List.drop_eq_getElem_cons (i := j) (by rw [HN.out]; exact cjn)]
                have e9 : ps[j]'(by rw [HN.out]; exact cjn) = p := by
                  have := HPJ.out
                  rw [List.getElem?_eq_getElem (by rw [HN.out]; exact cjn)] at this
                  injection this
                rw [e9]
                conv => lhs; unfold decP
                rw [HT.out]
                simp only [if_true]
              have hlr1 : lr ≤ mj := by rw [← HLR.out, hs2, List.length_drop, hbl]; omega
              have hcr : lr ≤ cr := own_cap ownR
              have hnn : ∀ a, An = some a → a.block ≠ g4 := fun a ha => by subst ha; have := (ownN.lt a.block rfl).1; omega
              have hnr : ∀ a, Ar = some a → a.block ≠ g4 := fun a ha => by subst ha; have := (ownR.lt a.block rfl).1; omega
              have hIr : Ints .u8 X1 X1.heap.size Ar rest := Ints.own ownR
              have HSt := Lib.hid (set_call PA cj g4 K4 An ln cn ns HLN.out hp (fun z hz => (hnz z hz).1) hnn (Ints.own ownN))
              have HF := Lib.hid (And.intro hGn (And.intro hBr (And.intro hStep (And.intro hnr hIr))))
              clear hs1 hs2 hp hnz hGn hBr hStep hnn hnr hIr ownN ownR HSp
              have y2 := KX.cell 2
              go_upto_region 15 with (refine HSt.out.mono ?_; rintro e X2 ⟨⟨vs, rfl⟩, K9, gr⟩)
              clear y2
              have kq := keeps_grown gr K4
              replace K2 := blk_grown gr K2 (by omega)
              replace BX := below_grown BX gr (by omega) (by have := K4.lt; omega)
              have HF2 : Hid (Bytes rest ∧ GoodC (setP p cj ns) ∧ decP ps (onlyK k) b0 = decP (ps.drop (j + 1)) (setP p cj ns) rest ∧ Ints .u8 X2 X2.heap.size Ar rest ∧ ∀ a, Ar = some a → a.block ≠ g4) := Lib.hid ⟨HF.out.2.1, HF.out.1, HF.out.2.2.1, ints_grown HF.out.2.2.2.2 gr HF.out.2.2.2.1, HF.out.2.2.2.1⟩
              go_wp2_with fail
              go_roundw
              case rel => exact ⟨j + 1, setP p cj ns, rest, Ar, lr, cr, by omega, by go_num, rfl, HLR.out, hcr, by omega, HF2, K9, K2, kp.trans kq, BX⟩
              case measure => simp [intOf]; omega
            · have hz' : (ex != 0) = true := by simpa using hex
              obtain ⟨rfl, rfl⟩ : cR = zeroC ∧ xR = ex := by
                have h9 : (decP ps (onlyK k) b0).2.2 = ex := by
                  rw [HH.out.2.2.1, List.drop_eq_getElem_cons (i := j) (by rw [HN.out]; exact cjn)]
                  have e9 : ps[j]'(by rw [HN.out]; exact cjn) = p := by
                    have := HPJ.out
                    rw [List.getElem?_eq_getElem (by rw [HN.out]; exact cjn)] at this
                    injection this
                  rw [e9]
                  unfold decP
                  rw [HT.out]
                  simp only
                  rw [if_neg hex]
                have h := HDf.out
                rw [h9, if_pos hex] at h
                injection h with h1 h2
                exact ⟨h1, h2⟩
              clear hex
              have HSZ : (Try.prog.info? 28).map (·.size) = some (#[.int .i64 0, .int .i64 0, .int .i64 0, .int .i64 0, .int .i64 0, .int .i64 0, .int .u64 0, .int .u16 0, .int .i64 0, .int .i64 0, .int .u64 0, .int .u64 0, .int .u64 0, .int .i64 0, .int .i64 0] : Array Value).size := by kernel_rfl
              have H1 : (#[.int .i64 0, .int .i64 0, .int .i64 0, .int .i64 0, .int .i64 0, .int .i64 0, .int .u64 0, .int .u16 0, .int .i64 0, .int .i64 0, .int .u64 0, .int .u64 0, .int .u64 0, .int .i64 0, .int .i64 0] : Array Value).all (·.oneCell') = true := by rw [← Array.all_toList]; rfl
              go_wp2_with (refine wpList_store_row rfl 28 (.tmp 2) _ rfl w.heap.size #[.int .i64 0, .int .i64 0, .int .i64 0, .int .i64 0, .int .i64 0, .int .i64 0, .int .u64 0, .int .u16 0, .int .i64 0, .int .i64 0, .int .u64 0, .int .u64 0, .int .u64 0, .int .i64 0, .int .i64 0] rfl rfl 28 _ K2 (by kernel_rfl) rfl H1 ?_)
              have KR := setRow_heap X1 w.heap.size _ (#[.int .i64 0, .int .i64 0, .int .i64 0, .int .i64 0, .int .i64 0, .int .i64 0, .int .u64 0, .int .u16 0, .int .i64 0, .int .i64 0, .int .u64 0, .int .u64 0, .int .u64 0, .int .i64 0, .int .i64 0]) 28 (0, 0) K2
              have BE := below_setRow BX (Nat.le_refl _) (#[.int .i64 0, .int .i64 0, .int .i64 0, .int .i64 0, .int .i64 0, .int .i64 0, .int .u64 0, .int .u16 0, .int .i64 0, .int .i64 0, .int .u64 0, .int .u64 0, .int .u64 0, .int .i64 0, .int .i64 0])
              generalize World.setRow X1 w.heap.size (#[.int .i64 0, .int .i64 0, .int .i64 0, .int .i64 0, .int .i64 0, .int .i64 0, .int .u64 0, .int .u16 0, .int .i64 0, .int .i64 0, .int .u64 0, .int .u64 0, .int .u64 0, .int .i64 0, .int .i64 0]) = Y at *
              refine bodyPost_ret (v := .tuple #[.agg (#[.int .i64 0, .int .i64 0, .int .i64 0, .int .i64 0, .int .i64 0, .int .i64 0, .int .u64 0, .int .u16 0, .int .i64 0, .int .i64 0, .int .u64 0, .int .u64 0, .int .u64 0, .int .i64 0, .int .i64 0]), .int .i64 xR]) ?_ rfl ⟨rfl, BE⟩
              have HLo := run_loadVar_row (P := Try.prog) Y w.heap.size 28 28 (#[.int .i64 0, .int .i64 0, .int .i64 0, .int .i64 0, .int .i64 0, .int .i64 0, .int .u64 0, .int .u16 0, .int .i64 0, .int .i64 0, .int .u64 0, .int .u64 0, .int .u64 0, .int .i64 0, .int .i64 0]) (0, 0) _ KR Try.underlying28 rfl HSZ
              generalize (#[.int .i64 0, .int .i64 0, .int .i64 0, .int .i64 0, .int .i64 0, .int .i64 0, .int .u64 0, .int .u16 0, .int .i64 0, .int .i64 0, .int .u64 0, .int .u64 0, .int .u64 0, .int .i64 0, .int .i64 0] : Array Value) = CS9 at *
              simp [results, show (Try.f15).results = #[.cell 2 28, .tmp 3] from rfl, asAddr, HLo, Act.put]
          · obtain rfl : j = np := by omega
            have hd : decP ps (onlyK k) b0 = (cj, bj, 0) := by
              rw [HH.out.2.2.1, List.drop_of_length_le (by rw [HN.out]; exact Nat.le_refl _)]
              rfl
            have HDg : Hid ((cR, xR) = if mj ≠ 0 then (zeroC, 2) else if chkC cj ≠ 0 then (zeroC, chkC cj) else (cj, 0)) := Lib.hid (by
              have h := HDf.out
              rw [hd] at h
              simp only [ne_eq, not_true_eq_false, if_false, hbl] at h
              exact h)
            have HGc := Lib.hid HH.out.2.1
            clear hd HDf
            by_cases hm0 : mj = 0
            · subst hm0
              have HCk := Lib.hid fun w => check_any cj w HGc.out
              by_cases hc0 : chkC cj = 0
              · obtain ⟨rfl, rfl⟩ : cR = cj ∧ xR = 0 := by
                  have h := HDg.out
                  rw [if_neg (by simp), if_neg (by simpa using hc0)] at h
                  injection h with h1 h2
                  exact ⟨h1, h2⟩
                rw [hc0] at HCk
                have HSZ : (Try.prog.info? 28).map (·.size) = some (encC cR).size := by kernel_rfl
                have H1 := encC_one cR
                obtain ⟨C, hC⟩ : ∃ C, encC cR = C := ⟨_, rfl⟩
                show Code.wp _ _ _ _ _
                rw [hC] at K4 HCk HSZ H1
                have HCe := Lib.hid hC
                clear hc0 hC
                go_upto_region 22 with (first | (refine wpList_load_row rfl 28 (.tmp 4) rfl g4 rfl 28 _ (0, 0) _ K4 Try.underlying28 rfl HSZ ?_) | (go_at_call 9; refine (HCk.out _).mono ?_; rintro e X8 ⟨rfl, b9⟩; replace K4 := K4.below b9 K4.lt; replace K2 := K2.below b9 K2.lt; replace BX := thenB BX b9; clear b9))
                have hs2 : (#[.int .i64 0, .int .i64 0, .int .i64 0, .int .i64 0, .int .i64 0, .int .i64 0, .int .u64 0, .int .u16 0, .int .i64 0, .int .i64 0, .int .u64 0, .int .u64 0, .int .u64 0, .int .i64 0, .int .i64 0] : Array Value).size = C.size := by rw [← HCe.out]; rfl
                go_wp2_with (first | (refine wpList_load_row rfl 28 (.tmp 4) rfl g4 rfl 28 _ (0, 0) _ K4 Try.underlying28 rfl HSZ ?_) | (refine wpList_store_row rfl 28 (.tmp 2) _ rfl w.heap.size C rfl rfl 28 _ K2 HSZ hs2 H1 ?_))
                have eC := HCe.out
                subst eC
                clear HCe
                have KR := setRow_heap X8 w.heap.size _ (encC cR) 28 (0, 0) K2
                have BE := below_setRow BX (Nat.le_refl _) (encC cR)
                generalize World.setRow X8 w.heap.size (encC cR) = Y at *
                refine bodyPost_ret (v := .tuple #[.agg (encC cR), .int .i64 0]) ?_ rfl ⟨rfl, BE⟩
                have HLo := run_loadVar_row (P := Try.prog) Y w.heap.size 28 28 (encC cR) (0, 0) _ KR Try.underlying28 rfl HSZ
                generalize (encC cR : Array Value) = CS9 at *
                simp [results, show (Try.f15).results = #[.cell 2 28, .tmp 3] from rfl, asAddr, HLo, Act.put]
              · obtain ⟨rfl, rfl⟩ : cR = zeroC ∧ xR = chkC cj := by
                  have h := HDg.out
                  rw [if_neg (by simp), if_pos (by simpa using hc0)] at h
                  injection h with h1 h2
                  exact ⟨h1, h2⟩
                have hz' : (chkC cj != 0) = true := by simpa using hc0
                obtain ⟨R, hR⟩ : ∃ R, chkC cj = R := ⟨_, rfl⟩
                rw [hR] at HCk hz'
                have HSZ4 : (Try.prog.info? 28).map (·.size) = some (encC cj).size := by kernel_rfl
                obtain ⟨C, hC⟩ : ∃ C, encC cj = C := ⟨_, rfl⟩
                rw [hC] at K4 HCk HSZ4
                have HRe := Lib.hid hR
                clear hc0 hC hR HDg
                go_upto_region 21 with (first | (refine wpList_load_row rfl 28 (.tmp 4) rfl g4 rfl 28 _ (0, 0) _ K4 Try.underlying28 rfl HSZ4 ?_) | (go_at_call 9; refine (HCk.out _).mono ?_; rintro e X8 ⟨rfl, b9⟩; replace K4 := K4.below b9 K4.lt; replace K2 := K2.below b9 K2.lt; replace BX := thenB BX b9; clear b9))
                have eR := HRe.out
                subst eR
                have HSZ : (Try.prog.info? 28).map (·.size) = some (#[.int .i64 0, .int .i64 0, .int .i64 0, .int .i64 0, .int .i64 0, .int .i64 0, .int .u64 0, .int .u16 0, .int .i64 0, .int .i64 0, .int .u64 0, .int .u64 0, .int .u64 0, .int .i64 0, .int .i64 0] : Array Value).size := by kernel_rfl
                have H1 : (#[.int .i64 0, .int .i64 0, .int .i64 0, .int .i64 0, .int .i64 0, .int .i64 0, .int .u64 0, .int .u16 0, .int .i64 0, .int .i64 0, .int .u64 0, .int .u64 0, .int .u64 0, .int .i64 0, .int .i64 0] : Array Value).all (·.oneCell') = true := by rw [← Array.all_toList]; rfl
                go_wp2_with (refine wpList_store_row rfl 28 (.tmp 2) _ rfl w.heap.size #[.int .i64 0, .int .i64 0, .int .i64 0, .int .i64 0, .int .i64 0, .int .i64 0, .int .u64 0, .int .u16 0, .int .i64 0, .int .i64 0, .int .u64 0, .int .u64 0, .int .u64 0, .int .i64 0, .int .i64 0] rfl rfl 28 _ K2 (by kernel_rfl) rfl H1 ?_)
                have KR := setRow_heap X8 w.heap.size _ (#[.int .i64 0, .int .i64 0, .int .i64 0, .int .i64 0, .int .i64 0, .int .i64 0, .int .u64 0, .int .u16 0, .int .i64 0, .int .i64 0, .int .u64 0, .int .u64 0, .int .u64 0, .int .i64 0, .int .i64 0]) 28 (0, 0) K2
                have BE := below_setRow BX (Nat.le_refl _) (#[.int .i64 0, .int .i64 0, .int .i64 0, .int .i64 0, .int .i64 0, .int .i64 0, .int .u64 0, .int .u16 0, .int .i64 0, .int .i64 0, .int .u64 0, .int .u64 0, .int .u64 0, .int .i64 0, .int .i64 0])
                generalize World.setRow X8 w.heap.size (#[.int .i64 0, .int .i64 0, .int .i64 0, .int .i64 0, .int .i64 0, .int .i64 0, .int .u64 0, .int .u16 0, .int .i64 0, .int .i64 0, .int .u64 0, .int .u64 0, .int .u64 0, .int .i64 0, .int .i64 0]) = Y at *
                refine bodyPost_ret (v := .tuple #[.agg (#[.int .i64 0, .int .i64 0, .int .i64 0, .int .i64 0, .int .i64 0, .int .i64 0, .int .u64 0, .int .u16 0, .int .i64 0, .int .i64 0, .int .u64 0, .int .u64 0, .int .u64 0, .int .i64 0, .int .i64 0]), .int .i64 (chkC cj)]) ?_ rfl ⟨rfl, BE⟩
                have HLo := run_loadVar_row (P := Try.prog) Y w.heap.size 28 28 (#[.int .i64 0, .int .i64 0, .int .i64 0, .int .i64 0, .int .i64 0, .int .i64 0, .int .u64 0, .int .u16 0, .int .i64 0, .int .i64 0, .int .u64 0, .int .u64 0, .int .u64 0, .int .i64 0, .int .i64 0]) (0, 0) _ KR Try.underlying28 rfl HSZ
                generalize (#[.int .i64 0, .int .i64 0, .int .i64 0, .int .i64 0, .int .i64 0, .int .i64 0, .int .u64 0, .int .u16 0, .int .i64 0, .int .i64 0, .int .u64 0, .int .u64 0, .int .u64 0, .int .i64 0, .int .i64 0] : Array Value) = CS9 at *
                simp [results, show (Try.f15).results = #[.cell 2 28, .tmp 3] from rfl, asAddr, HLo, Act.put]
            · have g7 : (0 : Int) < (mj : Int) := by omega
              obtain ⟨rfl, rfl⟩ : cR = zeroC ∧ xR = 2 := by
                have h := HDg.out
                rw [if_pos hm0] at h
                injection h with h1 h2
                exact ⟨h1, h2⟩
              clear HDg
              have HSZ : (Try.prog.info? 28).map (·.size) = some (#[.int .i64 0, .int .i64 0, .int .i64 0, .int .i64 0, .int .i64 0, .int .i64 0, .int .u64 0, .int .u16 0, .int .i64 0, .int .i64 0, .int .u64 0, .int .u64 0, .int .u64 0, .int .i64 0, .int .i64 0] : Array Value).size := by kernel_rfl
              have H1 : (#[.int .i64 0, .int .i64 0, .int .i64 0, .int .i64 0, .int .i64 0, .int .i64 0, .int .u64 0, .int .u16 0, .int .i64 0, .int .i64 0, .int .u64 0, .int .u64 0, .int .u64 0, .int .i64 0, .int .i64 0] : Array Value).all (·.oneCell') = true := by rw [← Array.all_toList]; rfl
              go_wp2_with (refine wpList_store_row rfl 28 (.tmp 2) _ rfl w.heap.size #[.int .i64 0, .int .i64 0, .int .i64 0, .int .i64 0, .int .i64 0, .int .i64 0, .int .u64 0, .int .u16 0, .int .i64 0, .int .i64 0, .int .u64 0, .int .u64 0, .int .u64 0, .int .i64 0, .int .i64 0] rfl rfl 28 _ K2 (by kernel_rfl) rfl H1 ?_)
              have KR := setRow_heap wr w.heap.size _ (#[.int .i64 0, .int .i64 0, .int .i64 0, .int .i64 0, .int .i64 0, .int .i64 0, .int .u64 0, .int .u16 0, .int .i64 0, .int .i64 0, .int .u64 0, .int .u64 0, .int .u64 0, .int .i64 0, .int .i64 0]) 28 (0, 0) K2
              have BE := below_setRow BX (Nat.le_refl _) (#[.int .i64 0, .int .i64 0, .int .i64 0, .int .i64 0, .int .i64 0, .int .i64 0, .int .u64 0, .int .u16 0, .int .i64 0, .int .i64 0, .int .u64 0, .int .u64 0, .int .u64 0, .int .i64 0, .int .i64 0])
              generalize World.setRow wr w.heap.size (#[.int .i64 0, .int .i64 0, .int .i64 0, .int .i64 0, .int .i64 0, .int .i64 0, .int .u64 0, .int .u16 0, .int .i64 0, .int .i64 0, .int .u64 0, .int .u64 0, .int .u64 0, .int .i64 0, .int .i64 0]) = Y at *
              refine bodyPost_ret (v := .tuple #[.agg (#[.int .i64 0, .int .i64 0, .int .i64 0, .int .i64 0, .int .i64 0, .int .i64 0, .int .u64 0, .int .u16 0, .int .i64 0, .int .i64 0, .int .u64 0, .int .u64 0, .int .u64 0, .int .i64 0, .int .i64 0]), .int .i64 2]) ?_ rfl ⟨rfl, BE⟩
              have HLo := run_loadVar_row (P := Try.prog) Y w.heap.size 28 28 (#[.int .i64 0, .int .i64 0, .int .i64 0, .int .i64 0, .int .i64 0, .int .i64 0, .int .u64 0, .int .u16 0, .int .i64 0, .int .i64 0, .int .u64 0, .int .u64 0, .int .u64 0, .int .i64 0, .int .i64 0]) (0, 0) _ KR Try.underlying28 rfl HSZ
              generalize (#[.int .i64 0, .int .i64 0, .int .i64 0, .int .i64 0, .int .i64 0, .int .i64 0, .int .u64 0, .int .u16 0, .int .i64 0, .int .i64 0, .int .u64 0, .int .u64 0, .int .u64 0, .int .i64 0, .int .i64 0] : Array Value) = CS9 at *
              simp [results, show (Try.f15).results = #[.cell 2 28, .tmp 3] from rfl, asAddr, HLo, Act.put]
      · have hib : Ints .u8 W W.heap.size (some ⟨ba, oa + 1, none⟩) b0 := by
          have h9 := (HCut.out.below BX).more BX.size
          rw [if_neg c1] at h9; simpa [plain_add] using h9
        have hnb : ∀ a, (some ⟨ba, oa + 1, none⟩ : Option Addr) = some a → a.block ≠ g4 := fun a ha => by
          injection ha with ha
          subst ha
          simp only
          omega
        have HIb := Lib.hid (And.intro hib hnb)
        have HGk := Lib.hid (onlyK_good HK.out)
        clear hib hnb
        go_wp2_with fail
        go_loopw [0, 35] (fun s0 s35 wr => ∃ (j : Nat) (cj : Ct) (bj : List Int) (Aj : Option Addr) (mj kj : Nat), j ≤ np ∧ s35 = .int .i64 j ∧ s0 = .slice Aj mj kj ∧ bj.length = mj ∧ mj ≤ kj ∧ mj ≤ 1000000 ∧ Hid (Bytes bj ∧ GoodC cj ∧ decP ps (onlyK k) b0 = decP (ps.drop j) cj bj ∧ Ints .u8 wr wr.heap.size Aj bj ∧ ∀ a, Aj = some a → a.block ≠ g4) ∧ Blk wr g4 28 (encC cj) ∧ Blk wr w.heap.size 28 #[.int .i64 0, .int .i64 0, .int .i64 0, .int .i64 0, .int .i64 0, .int .i64 0, .int .u64 0, .int .u16 0, .int .i64 0, .int .i64 0, .int .u64 0, .int .u64 0, .int .u64 0, .int .i64 0, .int .i64 0] ∧ Keeps W wr ∧ Below w.heap.size w wr) (fun _ s35 _ => np - (intOf s35).toNat)
        case atStart => exact ⟨0, onlyK k, b0, _, _, _, by omega, rfl, rfl, by have := HB0.out; omega, by omega, by omega, Lib.hid ⟨bb, HGk.out, rfl, HIb.out.1, HIb.out.2⟩, K4, K2, Keeps.refl _, BX⟩
        case round =>
          obtain ⟨j, cj, bj, Aj, mj, kj, hj, rfl, rfl, hbl, hmk, hm6, HH, L4, L2, kp, BY⟩ := hrel
          clear K4 K2 BX
          have K4 := L4
          have K2 := L2
          have BX := BY
          clear L4 L2 BY
          by_cases cjn : j < np
          · have g1 : (0 : Int) ≤ (j : Int) ∧ (j : Int) < (np : Int) := by omega
            have g2 : ¬ ((np : Int) ≤ (j : Int)) := by omega
            obtain ⟨p, hpj⟩ : ∃ p, ps[j]? = some p := ⟨_, List.getElem?_eq_getElem (by rw [HN.out]; exact cjn)⟩
            obtain ⟨S, v1, v2, v3, PA, d0, d1, d2, d3⟩ := HPh.out j p hpj
            obtain ⟨S', f1, c1, f2, c2, f3, c3, eV, hSz⟩ := part_form PA
            obtain ⟨rfl, rfl, rfl, rfl⟩ := agg4 eV
            clear eV
            obtain ⟨gS, hS, KS⟩ := hSz
            subst hS
            obtain ⟨mS, hm⟩ : ∃ m, (szP p).length = m := ⟨_, rfl⟩
            have hm5 : mS ≤ 5 := by rw [← hm, ← szP_len p zeroC]; exact getP_len5 zeroC p
            rw [hm] at PA d0
            have HM := Lib.hid hm
            clear hm
            have H1 : (#[.slice (some ⟨gS, 0, none⟩) mS mS, .func (.func f1) #[] c1, .func (.func f2) #[] c2, .func (.func f3) #[] c3] : Array Value).all (·.oneCell') = true := by rw [← Array.all_toList]; rfl
            have HPJ := Lib.hid hpj
            replace PA := PA.keep kp
            replace KS := kp _ _ _ (by decide) KS
            have KPj := kp _ _ _ (by decide) KP
            have x0 := (KPj.cell (j * 4)).trans d0
            have x1 := (KPj.cell (j * 4 + 1)).trans d1
            have x2 := (KPj.cell (j * 4 + 2)).trans d2
            have x3 := (KPj.cell (j * 4 + 3)).trans d3
            obtain ⟨E1, E2, E3⟩ := ents PA
            unfold Ent at E1 E2 E3
            have e5 : IntKind.i64.wrap ((j : Int) + 1) = (j : Int) + 1 := by simp only [IntKind.wrap, IntKind.signed, IntKind.bits]; simp; omega
            clear d0 d1 d2 d3 hpj
            go_upto_region 11 with (refine wpList_store_row rfl 49 (.tmp 8) _ rfl wr.heap.size #[.slice (some ⟨gS, 0, none⟩) mS mS, .func (.func f1) #[] c1, .func (.func f2) #[] c2, .func (.func f3) #[] c3] rfl rfl 49 _ (Blk.fresh wr 49 #[.slice none 0 0, .nilFunc, .nilFunc, .nilFunc]) (by kernel_rfl) rfl H1 ?_)
            clear x0 x1 x2 x3 H1
            have b9 : Below wr.heap.size wr ((wr.alloc (.cells #[.slice none 0 0, .nilFunc, .nilFunc, .nilFunc] 49)).setRow wr.heap.size #[.slice (some ⟨gS, 0, none⟩) mS mS, .func (.func f1) #[] c1, .func (.func f2) #[] c2, .func (.func f3) #[] c3]) := below_setRow ((Below.refl _ _).alloc (Nat.le_refl _) _) (Nat.le_refl _) _
            have KX : Blk ((wr.alloc (.cells #[.slice none 0 0, .nilFunc, .nilFunc, .nilFunc] 49)).setRow wr.heap.size #[.slice (some ⟨gS, 0, none⟩) mS mS, .func (.func f1) #[] c1, .func (.func f2) #[] c2, .func (.func f3) #[] c3]) wr.heap.size 49 #[.slice (some ⟨gS, 0, none⟩) mS mS, .func (.func f1) #[] c1, .func (.func f2) #[] c2, .func (.func f3) #[] c3] := Av.bset_row (Blk.fresh wr 49 #[.slice none 0 0, .nilFunc, .nilFunc, .nilFunc])
            have hIb9 := (HH.out.2.2.2.1.below b9).more b9.size
            replace K4 := K4.below b9 K4.lt
            replace K2 := K2.below b9 K2.lt
            replace KS := KS.below b9 KS.lt
            replace PA := PA.keep (keeps_below b9)
            replace kp := kp.trans (keeps_below b9)
            replace BX := thenB BX b9
            clear b9 KPj
            generalize (wr.alloc (.cells #[.slice none 0 0, .nilFunc, .nilFunc, .nilFunc] 49)).setRow wr.heap.size #[.slice (some ⟨gS, 0, none⟩) mS mS, .func (.func f1) #[] c1, .func (.func f2) #[] c2, .func (.func f3) #[] c3] = X9 at *
            obtain ⟨gx, ex⟩ : ∃ g, wr.heap.size = g := ⟨_, rfl⟩
            rw [ex] at KX
            try simp only [ex]
            clear ex
            have hIs : Ints .i64 X9 X9.heap.size (some ⟨gS, 0, none⟩) (szP p) := by
              refine .inr ⟨gS, 0, rfl, KS.lt, fun q hq => ?_⟩
              rw [Nat.zero_add, KS.cell q]
              simp [List.getD, List.getElem?_eq_getElem hq]
            have HTk := Lib.hid (take_any Aj (some ⟨gS, 0, none⟩) mj mS kj mS bj (szP p) X9 hbl HM.out hmk (by omega) (by omega) HH.out.1 (fun z hz => by have := szP_bd p z hz; omega) hIb9 hIs)
            have HSp := Lib.hid (take_spec (xs := bj) (p := p))
            obtain ⟨⟨ns, rest, ex⟩, hT⟩ : ∃ r, takeR bj (szP p) = r := ⟨_, rfl⟩
            rw [hT] at HTk HSp
            have HT := Lib.hid hT
            obtain ⟨ln, hln⟩ : ∃ l, ns.length = l := ⟨_, rfl⟩
            obtain ⟨lr, hlr⟩ : ∃ l, rest.length = l := ⟨_, rfl⟩
            have HLN := Lib.hid hln
            have HLR := Lib.hid hlr
            have HTl : Hid (∀ e w', Gives3 X9 w' e (ns, rest, ex) → ∃ An cn Ar cr, e = .returned (.tuple #[.slice An ln cn, .slice Ar lr cr, .int .i64 ex]) ∧ w'.ownsRow X9.heap.size 24 1 (.slice An ln cn) ln (ns.map (Value.int .u64)) ∧ w'.ownsRow X9.heap.size 5 1 (.slice Ar lr cr) lr (rest.map (Value.int .u8)) ∧ Below X9.heap.size X9 w') := Lib.hid fun e w' ⟨An, cn, Ar, cr, h1, h2, h3, h4⟩ => by
              simp only [hln, hlr] at h1 h2 h3
              exact ⟨An, cn, Ar, cr, h1, h2, h3, h4⟩
            clear hT hln hlr hIs hIb9
            have y0 := KX.cell 0
            have hk4 := K4.lt
            have TK : Hid (Calls Try.prog 28 #[.slice Aj mj kj, .slice (some ⟨gS, 0, none⟩) mS mS] X9 fun e w' => ∃ An cn Ar cr, e = .returned (.tuple #[.slice An ln cn, .slice Ar lr cr, .int .i64 ex]) ∧ w'.ownsRow X9.heap.size 24 1 (.slice An ln cn) ln (ns.map (Value.int .u64)) ∧ w'.ownsRow X9.heap.size 5 1 (.slice Ar lr cr) lr (rest.map (Value.int .u8)) ∧ Below X9.heap.size X9 w') := Lib.hid (HTk.out.mono fun e w' h => HTl.out e w' h)
            clear HTk HTl
            go_upto_region 12 with (go_at_call 28; refine TK.out.mono ?_; rintro e X1 ⟨An, cn, Ar, cr, rfl, ownN, ownR, b9⟩)
            clear y0 TK
            replace K4 := K4.below b9 K4.lt
            replace K2 := K2.below b9 K2.lt
            replace KX := KX.below b9 KX.lt
            replace PA := PA.keep (keeps_below b9)
            replace kp := kp.trans (keeps_below b9)
            replace BX := thenB BX b9
            clear b9
            by_cases hex : ex = 0
            · subst hex
              obtain ⟨hs1, hs2⟩ := HSp.out rfl
              try simp only at hs1 hs2
              have hp : ns.length = (szP p).length := by rw [hs1, numsL_len]
              have hnz : ∀ z ∈ ns, 0 ≤ z ∧ z ≤ 18446744073709551615 := by rw [hs1]; exact nums_bd _ _ (szP_bd p) HH.out.1
              have hGn := setP_good HH.out.2.1 p hp hnz
              have hBr : Bytes rest := by rw [hs2]; exact bytes_drop HH.out.1 _
              have hStep : decP ps (onlyK k) b0 = decP (ps.drop (j + 1)) (setP p cj ns) rest := by
                rw [HH.out.2.2.1, List.drop_eq_getElem_cons (i := j) (by rw [HN.out]; exact cjn)]
                have e9 : ps[j]'(by rw [HN.out]; exact cjn) = p := by
                  have := HPJ.out
                  rw [List.getElem?_eq_getElem (by rw [HN.out]; exact cjn)] at this
                  injection this
                rw [e9]
                conv => lhs; unfold decP
                rw [HT.out]
                simp only [if_true]
              have hlr1 : lr ≤ mj := by rw [← HLR.out, hs2, List.length_drop, hbl]; omega
              have hcr : lr ≤ cr := own_cap ownR
              have hnn : ∀ a, An = some a → a.block ≠ g4 := fun a ha => by subst ha; have := (ownN.lt a.block rfl).1; omega
              have hnr : ∀ a, Ar = some a → a.block ≠ g4 := fun a ha => by subst ha; have := (ownR.lt a.block rfl).1; omega
              have hIr : Ints .u8 X1 X1.heap.size Ar rest := Ints.own ownR
              have HSt := Lib.hid (set_call PA cj g4 K4 An ln cn ns HLN.out hp (fun z hz => (hnz z hz).1) hnn (Ints.own ownN))
              have HF := Lib.hid (And.intro hGn (And.intro hBr (And.intro hStep (And.intro hnr hIr))))
              clear hs1 hs2 hp hnz hGn hBr hStep hnn hnr hIr ownN ownR HSp
              have y2 := KX.cell 2
              go_upto_region 15 with (refine HSt.out.mono ?_; rintro e X2 ⟨⟨vs, rfl⟩, K9, gr⟩)
              clear y2
              have kq := keeps_grown gr K4
              replace K2 := blk_grown gr K2 (by omega)
              replace BX := below_grown BX gr (by omega) (by have := K4.lt; omega)
              have HF2 : Hid (Bytes rest ∧ GoodC (setP p cj ns) ∧ decP ps (onlyK k) b0 = decP (ps.drop (j + 1)) (setP p cj ns) rest ∧ Ints .u8 X2 X2.heap.size Ar rest ∧ ∀ a, Ar = some a → a.block ≠ g4) := Lib.hid ⟨HF.out.2.1, HF.out.1, HF.out.2.2.1, ints_grown HF.out.2.2.2.2 gr HF.out.2.2.2.1, HF.out.2.2.2.1⟩
              go_wp2_with fail
              go_roundw
              case rel => exact ⟨j + 1, setP p cj ns, rest, Ar, lr, cr, by omega, by go_num, rfl, HLR.out, hcr, by omega, HF2, K9, K2, kp.trans kq, BX⟩
              case measure => simp [intOf]; omega
            · have hz' : (ex != 0) = true := by simpa using hex
              obtain ⟨rfl, rfl⟩ : cR = zeroC ∧ xR = ex := by
                have h9 : (decP ps (onlyK k) b0).2.2 = ex := by
                  rw [HH.out.2.2.1, List.drop_eq_getElem_cons (i := j) (by rw [HN.out]; exact cjn)]
                  have e9 : ps[j]'(by rw [HN.out]; exact cjn) = p := by
                    have := HPJ.out
                    rw [List.getElem?_eq_getElem (by rw [HN.out]; exact cjn)] at this
                    injection this
                  rw [e9]
                  unfold decP
                  rw [HT.out]
                  simp only
                  rw [if_neg hex]
                have h := HDf.out
                rw [h9, if_pos hex] at h
                injection h with h1 h2
                exact ⟨h1, h2⟩
              clear hex
              have HSZ : (Try.prog.info? 28).map (·.size) = some (#[.int .i64 0, .int .i64 0, .int .i64 0, .int .i64 0, .int .i64 0, .int .i64 0, .int .u64 0, .int .u16 0, .int .i64 0, .int .i64 0, .int .u64 0, .int .u64 0, .int .u64 0, .int .i64 0, .int .i64 0] : Array Value).size := by kernel_rfl
              have H1 : (#[.int .i64 0, .int .i64 0, .int .i64 0, .int .i64 0, .int .i64 0, .int .i64 0, .int .u64 0, .int .u16 0, .int .i64 0, .int .i64 0, .int .u64 0, .int .u64 0, .int .u64 0, .int .i64 0, .int .i64 0] : Array Value).all (·.oneCell') = true := by rw [← Array.all_toList]; rfl
              go_wp2_with (refine wpList_store_row rfl 28 (.tmp 2) _ rfl w.heap.size #[.int .i64 0, .int .i64 0, .int .i64 0, .int .i64 0, .int .i64 0, .int .i64 0, .int .u64 0, .int .u16 0, .int .i64 0, .int .i64 0, .int .u64 0, .int .u64 0, .int .u64 0, .int .i64 0, .int .i64 0] rfl rfl 28 _ K2 (by kernel_rfl) rfl H1 ?_)
              have KR := setRow_heap X1 w.heap.size _ (#[.int .i64 0, .int .i64 0, .int .i64 0, .int .i64 0, .int .i64 0, .int .i64 0, .int .u64 0, .int .u16 0, .int .i64 0, .int .i64 0, .int .u64 0, .int .u64 0, .int .u64 0, .int .i64 0, .int .i64 0]) 28 (0, 0) K2
              have BE := below_setRow BX (Nat.le_refl _) (#[.int .i64 0, .int .i64 0, .int .i64 0, .int .i64 0, .int .i64 0, .int .i64 0, .int .u64 0, .int .u16 0, .int .i64 0, .int .i64 0, .int .u64 0, .int .u64 0, .int .u64 0, .int .i64 0, .int .i64 0])
              generalize World.setRow X1 w.heap.size (#[.int .i64 0, .int .i64 0, .int .i64 0, .int .i64 0, .int .i64 0, .int .i64 0, .int .u64 0, .int .u16 0, .int .i64 0, .int .i64 0, .int .u64 0, .int .u64 0, .int .u64 0, .int .i64 0, .int .i64 0]) = Y at *
              refine bodyPost_ret (v := .tuple #[.agg (#[.int .i64 0, .int .i64 0, .int .i64 0, .int .i64 0, .int .i64 0, .int .i64 0, .int .u64 0, .int .u16 0, .int .i64 0, .int .i64 0, .int .u64 0, .int .u64 0, .int .u64 0, .int .i64 0, .int .i64 0]), .int .i64 xR]) ?_ rfl ⟨rfl, BE⟩
              have HLo := run_loadVar_row (P := Try.prog) Y w.heap.size 28 28 (#[.int .i64 0, .int .i64 0, .int .i64 0, .int .i64 0, .int .i64 0, .int .i64 0, .int .u64 0, .int .u16 0, .int .i64 0, .int .i64 0, .int .u64 0, .int .u64 0, .int .u64 0, .int .i64 0, .int .i64 0]) (0, 0) _ KR Try.underlying28 rfl HSZ
              generalize (#[.int .i64 0, .int .i64 0, .int .i64 0, .int .i64 0, .int .i64 0, .int .i64 0, .int .u64 0, .int .u16 0, .int .i64 0, .int .i64 0, .int .u64 0, .int .u64 0, .int .u64 0, .int .i64 0, .int .i64 0] : Array Value) = CS9 at *
              simp [results, show (Try.f15).results = #[.cell 2 28, .tmp 3] from rfl, asAddr, HLo, Act.put]
          · obtain rfl : j = np := by omega
            have hd : decP ps (onlyK k) b0 = (cj, bj, 0) := by
              rw [HH.out.2.2.1, List.drop_of_length_le (by rw [HN.out]; exact Nat.le_refl _)]
              rfl
            have HDg : Hid ((cR, xR) = if mj ≠ 0 then (zeroC, 2) else if chkC cj ≠ 0 then (zeroC, chkC cj) else (cj, 0)) := Lib.hid (by
              have h := HDf.out
              rw [hd] at h
              simp only [ne_eq, not_true_eq_false, if_false, hbl] at h
              exact h)
            have HGc := Lib.hid HH.out.2.1
            clear hd HDf
            by_cases hm0 : mj = 0
            · subst hm0
              have HCk := Lib.hid fun w => check_any cj w HGc.out
              by_cases hc0 : chkC cj = 0
              · obtain ⟨rfl, rfl⟩ : cR = cj ∧ xR = 0 := by
                  have h := HDg.out
                  rw [if_neg (by simp), if_neg (by simpa using hc0)] at h
                  injection h with h1 h2
                  exact ⟨h1, h2⟩
                rw [hc0] at HCk
                have HSZ : (Try.prog.info? 28).map (·.size) = some (encC cR).size := by kernel_rfl
                have H1 := encC_one cR
                obtain ⟨C, hC⟩ : ∃ C, encC cR = C := ⟨_, rfl⟩
                show Code.wp _ _ _ _ _
                rw [hC] at K4 HCk HSZ H1
                have HCe := Lib.hid hC
                clear hc0 hC
                go_upto_region 22 with (first | (refine wpList_load_row rfl 28 (.tmp 4) rfl g4 rfl 28 _ (0, 0) _ K4 Try.underlying28 rfl HSZ ?_) | (go_at_call 9; refine (HCk.out _).mono ?_; rintro e X8 ⟨rfl, b9⟩; replace K4 := K4.below b9 K4.lt; replace K2 := K2.below b9 K2.lt; replace BX := thenB BX b9; clear b9))
                have hs2 : (#[.int .i64 0, .int .i64 0, .int .i64 0, .int .i64 0, .int .i64 0, .int .i64 0, .int .u64 0, .int .u16 0, .int .i64 0, .int .i64 0, .int .u64 0, .int .u64 0, .int .u64 0, .int .i64 0, .int .i64 0] : Array Value).size = C.size := by rw [← HCe.out]; rfl
                go_wp2_with (first | (refine wpList_load_row rfl 28 (.tmp 4) rfl g4 rfl 28 _ (0, 0) _ K4 Try.underlying28 rfl HSZ ?_) | (refine wpList_store_row rfl 28 (.tmp 2) _ rfl w.heap.size C rfl rfl 28 _ K2 HSZ hs2 H1 ?_))
                have eC := HCe.out
                subst eC
                clear HCe
                have KR := setRow_heap X8 w.heap.size _ (encC cR) 28 (0, 0) K2
                have BE := below_setRow BX (Nat.le_refl _) (encC cR)
                generalize World.setRow X8 w.heap.size (encC cR) = Y at *
                refine bodyPost_ret (v := .tuple #[.agg (encC cR), .int .i64 0]) ?_ rfl ⟨rfl, BE⟩
                have HLo := run_loadVar_row (P := Try.prog) Y w.heap.size 28 28 (encC cR) (0, 0) _ KR Try.underlying28 rfl HSZ
                generalize (encC cR : Array Value) = CS9 at *
                simp [results, show (Try.f15).results = #[.cell 2 28, .tmp 3] from rfl, asAddr, HLo, Act.put]
              · obtain ⟨rfl, rfl⟩ : cR = zeroC ∧ xR = chkC cj := by
                  have h := HDg.out
                  rw [if_neg (by simp), if_pos (by simpa using hc0)] at h
                  injection h with h1 h2
                  exact ⟨h1, h2⟩
                have hz' : (chkC cj != 0) = true := by simpa using hc0
                obtain ⟨R, hR⟩ : ∃ R, chkC cj = R := ⟨_, rfl⟩
                rw [hR] at HCk hz'
                have HSZ4 : (Try.prog.info? 28).map (·.size) = some (encC cj).size := by kernel_rfl
                obtain ⟨C, hC⟩ : ∃ C, encC cj = C := ⟨_, rfl⟩
                rw [hC] at K4 HCk HSZ4
                have HRe := Lib.hid hR
                clear hc0 hC hR HDg
                go_upto_region 21 with (first | (refine wpList_load_row rfl 28 (.tmp 4) rfl g4 rfl 28 _ (0, 0) _ K4 Try.underlying28 rfl HSZ4 ?_) | (go_at_call 9; refine (HCk.out _).mono ?_; rintro e X8 ⟨rfl, b9⟩; replace K4 := K4.below b9 K4.lt; replace K2 := K2.below b9 K2.lt; replace BX := thenB BX b9; clear b9))
                have eR := HRe.out
                subst eR
                have HSZ : (Try.prog.info? 28).map (·.size) = some (#[.int .i64 0, .int .i64 0, .int .i64 0, .int .i64 0, .int .i64 0, .int .i64 0, .int .u64 0, .int .u16 0, .int .i64 0, .int .i64 0, .int .u64 0, .int .u64 0, .int .u64 0, .int .i64 0, .int .i64 0] : Array Value).size := by kernel_rfl
                have H1 : (#[.int .i64 0, .int .i64 0, .int .i64 0, .int .i64 0, .int .i64 0, .int .i64 0, .int .u64 0, .int .u16 0, .int .i64 0, .int .i64 0, .int .u64 0, .int .u64 0, .int .u64 0, .int .i64 0, .int .i64 0] : Array Value).all (·.oneCell') = true := by rw [← Array.all_toList]; rfl
                go_wp2_with (refine wpList_store_row rfl 28 (.tmp 2) _ rfl w.heap.size #[.int .i64 0, .int .i64 0, .int .i64 0, .int .i64 0, .int .i64 0, .int .i64 0, .int .u64 0, .int .u16 0, .int .i64 0, .int .i64 0, .int .u64 0, .int .u64 0, .int .u64 0, .int .i64 0, .int .i64 0] rfl rfl 28 _ K2 (by kernel_rfl) rfl H1 ?_)
                have KR := setRow_heap X8 w.heap.size _ (#[.int .i64 0, .int .i64 0, .int .i64 0, .int .i64 0, .int .i64 0, .int .i64 0, .int .u64 0, .int .u16 0, .int .i64 0, .int .i64 0, .int .u64 0, .int .u64 0, .int .u64 0, .int .i64 0, .int .i64 0]) 28 (0, 0) K2
                have BE := below_setRow BX (Nat.le_refl _) (#[.int .i64 0, .int .i64 0, .int .i64 0, .int .i64 0, .int .i64 0, .int .i64 0, .int .u64 0, .int .u16 0, .int .i64 0, .int .i64 0, .int .u64 0, .int .u64 0, .int .u64 0, .int .i64 0, .int .i64 0])
                generalize World.setRow X8 w.heap.size (#[.int .i64 0, .int .i64 0, .int .i64 0, .int .i64 0, .int .i64 0, .int .i64 0, .int .u64 0, .int .u16 0, .int .i64 0, .int .i64 0, .int .u64 0, .int .u64 0, .int .u64 0, .int .i64 0, .int .i64 0]) = Y at *
                refine bodyPost_ret (v := .tuple #[.agg (#[.int .i64 0, .int .i64 0, .int .i64 0, .int .i64 0, .int .i64 0, .int .i64 0, .int .u64 0, .int .u16 0, .int .i64 0, .int .i64 0, .int .u64 0, .int .u64 0, .int .u64 0, .int .i64 0, .int .i64 0]), .int .i64 (chkC cj)]) ?_ rfl ⟨rfl, BE⟩
                have HLo := run_loadVar_row (P := Try.prog) Y w.heap.size 28 28 (#[.int .i64 0, .int .i64 0, .int .i64 0, .int .i64 0, .int .i64 0, .int .i64 0, .int .u64 0, .int .u16 0, .int .i64 0, .int .i64 0, .int .u64 0, .int .u64 0, .int .u64 0, .int .i64 0, .int .i64 0]) (0, 0) _ KR Try.underlying28 rfl HSZ
                generalize (#[.int .i64 0, .int .i64 0, .int .i64 0, .int .i64 0, .int .i64 0, .int .i64 0, .int .u64 0, .int .u16 0, .int .i64 0, .int .i64 0, .int .u64 0, .int .u64 0, .int .u64 0, .int .i64 0, .int .i64 0] : Array Value) = CS9 at *
                simp [results, show (Try.f15).results = #[.cell 2 28, .tmp 3] from rfl, asAddr, HLo, Act.put]
            · have g7 : (0 : Int) < (mj : Int) := by omega
              obtain ⟨rfl, rfl⟩ : cR = zeroC ∧ xR = 2 := by
                have h := HDg.out
                rw [if_pos hm0] at h
                injection h with h1 h2
                exact ⟨h1, h2⟩
              clear HDg
              have HSZ : (Try.prog.info? 28).map (·.size) = some (#[.int .i64 0, .int .i64 0, .int .i64 0, .int .i64 0, .int .i64 0, .int .i64 0, .int .u64 0, .int .u16 0, .int .i64 0, .int .i64 0, .int .u64 0, .int .u64 0, .int .u64 0, .int .i64 0, .int .i64 0] : Array Value).size := by kernel_rfl
              have H1 : (#[.int .i64 0, .int .i64 0, .int .i64 0, .int .i64 0, .int .i64 0, .int .i64 0, .int .u64 0, .int .u16 0, .int .i64 0, .int .i64 0, .int .u64 0, .int .u64 0, .int .u64 0, .int .i64 0, .int .i64 0] : Array Value).all (·.oneCell') = true := by rw [← Array.all_toList]; rfl
              go_wp2_with (refine wpList_store_row rfl 28 (.tmp 2) _ rfl w.heap.size #[.int .i64 0, .int .i64 0, .int .i64 0, .int .i64 0, .int .i64 0, .int .i64 0, .int .u64 0, .int .u16 0, .int .i64 0, .int .i64 0, .int .u64 0, .int .u64 0, .int .u64 0, .int .i64 0, .int .i64 0] rfl rfl 28 _ K2 (by kernel_rfl) rfl H1 ?_)
              have KR := setRow_heap wr w.heap.size _ (#[.int .i64 0, .int .i64 0, .int .i64 0, .int .i64 0, .int .i64 0, .int .i64 0, .int .u64 0, .int .u16 0, .int .i64 0, .int .i64 0, .int .u64 0, .int .u64 0, .int .u64 0, .int .i64 0, .int .i64 0]) 28 (0, 0) K2
              have BE := below_setRow BX (Nat.le_refl _) (#[.int .i64 0, .int .i64 0, .int .i64 0, .int .i64 0, .int .i64 0, .int .i64 0, .int .u64 0, .int .u16 0, .int .i64 0, .int .i64 0, .int .u64 0, .int .u64 0, .int .u64 0, .int .i64 0, .int .i64 0])
              generalize World.setRow wr w.heap.size (#[.int .i64 0, .int .i64 0, .int .i64 0, .int .i64 0, .int .i64 0, .int .i64 0, .int .u64 0, .int .u16 0, .int .i64 0, .int .i64 0, .int .u64 0, .int .u64 0, .int .u64 0, .int .i64 0, .int .i64 0]) = Y at *
              refine bodyPost_ret (v := .tuple #[.agg (#[.int .i64 0, .int .i64 0, .int .i64 0, .int .i64 0, .int .i64 0, .int .i64 0, .int .u64 0, .int .u16 0, .int .i64 0, .int .i64 0, .int .u64 0, .int .u64 0, .int .u64 0, .int .i64 0, .int .i64 0]), .int .i64 2]) ?_ rfl ⟨rfl, BE⟩
              have HLo := run_loadVar_row (P := Try.prog) Y w.heap.size 28 28 (#[.int .i64 0, .int .i64 0, .int .i64 0, .int .i64 0, .int .i64 0, .int .i64 0, .int .u64 0, .int .u16 0, .int .i64 0, .int .i64 0, .int .u64 0, .int .u64 0, .int .u64 0, .int .i64 0, .int .i64 0]) (0, 0) _ KR Try.underlying28 rfl HSZ
              generalize (#[.int .i64 0, .int .i64 0, .int .i64 0, .int .i64 0, .int .i64 0, .int .i64 0, .int .u64 0, .int .u16 0, .int .i64 0, .int .i64 0, .int .u64 0, .int .u64 0, .int .u64 0, .int .i64 0, .int .i64 0] : Array Value) = CS9 at *
              simp [results, show (Try.f15).results = #[.cell 2 28, .tmp 3] from rfl, asAddr, HLo, Act.put]
end Go.Proofs.Ytiopeghbpnjcgaa.Cp
