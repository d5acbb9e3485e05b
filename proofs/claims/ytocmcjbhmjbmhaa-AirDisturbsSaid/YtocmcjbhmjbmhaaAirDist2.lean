/- The local functions with which disturbances are examined. -/
import Derived.Test.YtocmcjbhmjbmhaaAirDist1
set_option linter.unusedVariables false
set_option linter.unusedSimpArgs false
namespace Go.Proofs.Ytocmcjbhmjbmhaa.Air
open Go.RowKit Mem Rw Base

theorem loss_eq (a b c d : Int) (w : World) : (binOp .eql 61 (.agg #[.int .i64 a, .int .i64 b]) (.agg #[.int .i64 c, .int .i64 d])).run Try.prog w = .ok (.bool (a == c && b == d)) w := by
  go_simp
  by_cases h1 : a = c
  · by_cases h2 : b = d <;> simp [h1, h2]
  · simp [h1]
theorem loss_guard (a b c d : Int) (w : World) (x y : Operand) : (eqGuard .eql 61 x y (.agg #[.int .i64 a, .int .i64 b]) (.agg #[.int .i64 c, .int .i64 d])).run Try.prog w = .ok () w := by
  go_simp
/-- A loss is that of a transmission on its way to a device. -/
def lostB (t : Tr) (to : Int) (s : Int × Int) : Bool := s.1 == t.id && s.2 == to
theorem lost_any (ga gt gto j ns cs b off m : Nat) (D i f h s to x y : Int) (X Y : Value) (v : Value) (w : World) (hj : j < ns)
    (hF : Four w ga D X Y (.slice (some ⟨b, off, none⟩) ns cs)) (hT : Five w gt i f h s v) (hto : w.cell? ⟨gto, 0, none⟩ = some (.int .i64 to)) (hy : TwoAt w b (off + j * 2) x y) :
    Calls Try.prog 43 #[.int .i64 (j : Int), .pointer (some ⟨ga, 0, none⟩), .pointer (some ⟨gt, 0, none⟩), .pointer (some ⟨gto, 0, none⟩)] w fun e w' => e = .returned (.bool (x == i && y == to)) ∧ Below w.heap.size w w' := by
  have pe := loss_eq x y i to
  have pg := loss_guard x y i to
  have g1 : (0 : Int) ≤ (j : Int) ∧ (j : Int) < (ns : Int) := by omega
  obtain ⟨f0, f1, f2, f3⟩ := hF
  obtain ⟨t0, t1, t2, t3, t4⟩ := hT
  obtain ⟨y0, y1⟩ := hy
  generalize (x == i && y == to) = Q at *
  go_enter Try.func43, Try.ntmps43
  go_wp2_with fail
  go_region
  go_wp2_with fail
  go_ret
  exact ⟨rfl, (Below.refl _ w).drew⟩
theorem jammed_any (ga gt j nj cj b off n c : Nat) (D i f h s a x y : Int) (A : Option Addr) (X Y : Value) (w : World) (hj : j < nj) (hn : n ≤ 140737488351232) (hs : -1099511627776 ≤ s ∧ s ≤ 1099511627776)
    (hF : Four w ga D X (.slice (some ⟨b, off, none⟩) nj cj) Y) (hT : Five w gt i f h s (.slice A n c)) (hy : w.cell? ⟨b, off + j * 3, none⟩ = some (.int .i64 a) ∧ w.cell? ⟨b, off + j * 3 + 1, none⟩ = some (.int .i64 x) ∧ w.cell? ⟨b, off + j * 3 + 2, none⟩ = some (.int .i64 y)) :
    Calls Try.prog 44 #[.int .i64 (j : Int), .pointer (some ⟨ga, 0, none⟩), .pointer (some ⟨gt, 0, none⟩)] w fun e w' => e = .returned (.bool ((a == -1 || a == h) && (decide (x < s + 8 * ((n : Int) + 10)) && decide (s < y)))) ∧ Below w.heap.size w w' := by
  have HJ := Lib.hid (fun w => jams_any a x y i f h s A n c w hn hs)
  have g1 : (0 : Int) ≤ (j : Int) ∧ (j : Int) < (nj : Int) := by omega
  generalize ((a == -1 || a == h) && (decide (x < s + 8 * ((n : Int) + 10)) && decide (s < y))) = Q at *
  obtain ⟨f0, f1, f2, f3⟩ := hF
  obtain ⟨t0, t1, t2, t3, t4⟩ := hT
  obtain ⟨y0, y1, y2⟩ := hy
  have KK : ∀ w', Below w.heap.size w w' → w'.cell? ⟨ga, 2, none⟩ = some (.slice (some ⟨b, off, none⟩) nj cj) ∧ Five w' gt i f h s (.slice A n c) ∧ w'.cell? ⟨b, off + j * 3, none⟩ = some (.int .i64 a) ∧ w'.cell? ⟨b, off + j * 3 + 1, none⟩ = some (.int .i64 x) ∧ w'.cell? ⟨b, off + j * 3 + 2, none⟩ = some (.int .i64 y) := fun w' bb =>
    ⟨One_below f2 bb, Five.below ⟨t0, t1, t2, t3, t4⟩ bb, One_below y0 bb, One_below y1 bb, One_below y2 bb⟩
  go_enter Try.func44, Try.ntmps44
  go_wp2_with fail
  go_region_held3 (fun w' => w'.cell? ⟨ga, 2, none⟩ = some (.slice (some ⟨b, off, none⟩) nj cj) ∧ Five w' gt i f h s (.slice A n c) ∧ w'.cell? ⟨b, off + j * 3, none⟩ = some (.int .i64 a) ∧ w'.cell? ⟨b, off + j * 3 + 1, none⟩ = some (.int .i64 x) ∧ w'.cell? ⟨b, off + j * 3 + 2, none⟩ = some (.int .i64 y)) (first | exact KK _ B1 | exact KK _ (Below.refl _ w).drew) (first
    | (go_at_call 45; refine (HJ.out _).mono ?_; rintro e w1 ⟨rfl, b1⟩; have B1 := dB (Below.refl _ w) b1))
  go_wp2_with fail
  go_ret
  exact ⟨rfl, B1⟩
/-- Another transmission disturbs the one of a given place, on its way to a device. -/
def colB (ls : List (Int × Int)) (t : Tr) (i : Nat) (to : Int) (k : Nat) (u : Tr) : Bool := decide (k ≠ i) && (((u.frm == to) && meetB u t) || (overB u t && inR ls u.frm to))
def colc (r1 r2 r3 : Bool) (k i uf to : Int) : Bool := (k != i) && (((uf == to) && r1) || (r2 && r3))
set_option maxHeartbeats 2000000 in
theorem collided_any (gs gi gto gt ga j k kc b off n c m uc : Nat) (D i f h s to iz ui uf uh us : Int) (A UA LA JA SA : Option Addr) (ln lc nj cj ns cs : Nat) (links : List (Int × Int)) (w : World) (hj : j < k) (hn : n ≤ 140737488351232) (hm : m ≤ 140737488351232) (hs : -1099511627776 ≤ s ∧ s ≤ 1099511627776) (hus : -1099511627776 ≤ us ∧ us ≤ 1099511627776)
    (hll : links.length = ln) (hlb : ln ≤ 8796093022208) (hL : ListAt encP w w.heap.size LA links)
    (hF : Four w ga D (.slice LA ln lc) (.slice JA nj cj) (.slice SA ns cs)) (hT : Five w gt i f h s (.slice A n c)) (hto : w.cell? ⟨gto, 0, none⟩ = some (.int .i64 to)) (hi : w.cell? ⟨gi, 0, none⟩ = some (.int .i64 iz)) (hsn : w.cell? ⟨gs, 0, none⟩ = some (.slice (some ⟨b, off, none⟩) k kc))
    (hy : w.cell? ⟨b, off + j * 5, none⟩ = some (.int .i64 ui) ∧ w.cell? ⟨b, off + j * 5 + 1, none⟩ = some (.int .i64 uf) ∧ w.cell? ⟨b, off + j * 5 + 2, none⟩ = some (.int .i64 uh) ∧ w.cell? ⟨b, off + j * 5 + 3, none⟩ = some (.int .i64 us) ∧ w.cell? ⟨b, off + j * 5 + 4, none⟩ = some (.slice UA m uc)) :
    Calls Try.prog 46 #[.int .i64 (j : Int), .pointer (some ⟨gs, 0, none⟩), .pointer (some ⟨gi, 0, none⟩), .pointer (some ⟨gto, 0, none⟩), .pointer (some ⟨gt, 0, none⟩), .pointer (some ⟨ga, 0, none⟩)] w fun e w' =>
      e = .returned (.bool (colc (decide (us < s + 8 * ((n : Int) + 10)) && decide (s < us + 8 * ((m : Int) + 10))) (decide (uh = h) && (decide (us < s + 8 * ((n : Int) + 10)) && decide (s < us + 8 * ((m : Int) + 10)))) (inR links uf to) j iz uf to)) ∧ Below w.heap.size w w' := by
  have HM := Lib.hid (fun w => meet_any ui uf uh us i f h s UA A m uc n c w hm hn hus hs)
  have HO := Lib.hid (fun w => over_any ui uf uh us i f h s UA A m uc n c w hm hn hus hs)
  have HR := Lib.hid (fun (w' : World) (bb : Below w.heap.size w w') => inrange_any D uf to LA JA SA ln lc nj cj ns cs links w' hll hlb (CellsAt.later hL bb))
  generalize (decide (uh = h) && (decide (us < s + 8 * ((n : Int) + 10)) && decide (s < us + 8 * ((m : Int) + 10)))) = r2 at *
  generalize (decide (us < s + 8 * ((n : Int) + 10)) && decide (s < us + 8 * ((m : Int) + 10))) = r1 at *
  generalize inR links uf to = r3 at *
  have g1 : (0 : Int) ≤ (j : Int) ∧ (j : Int) < (k : Int) := by omega
  obtain ⟨f0, f1, f2, f3⟩ := hF
  obtain ⟨t0, t1, t2, t3, t4⟩ := hT
  obtain ⟨y0, y1, y2, y3, y4⟩ := hy
  have B0 : Below w.heap.size w (w.alloc (.cells #[.int .i64 ui, .int .i64 uf, .int .i64 uh, .int .i64 us, .slice UA m uc] 24)) := (Below.refl _ w).alloc (Nat.le_refl _) _
  have U0 := five_of (Blk.fresh w 24 #[.int .i64 ui, .int .i64 uf, .int .i64 uh, .int .i64 us, .slice UA m uc])
  have HU : Hid (∀ W1 W2, Below W1.heap.size W1 W2 → Five W1 w.heap.size ui uf uh us (.slice UA m uc) → Five W2 w.heap.size ui uf uh us (.slice UA m uc)) := Lib.hid fun W1 W2 b f => f.below b
  have KK : Hid (∀ w', Below w.heap.size w w' → Four w' ga D (.slice LA ln lc) (.slice JA nj cj) (.slice SA ns cs) ∧ Five w' gt i f h s (.slice A n c) ∧ w'.cell? ⟨gto, 0, none⟩ = some (.int .i64 to)) := Lib.hid fun w' bb =>
    ⟨Four.below ⟨f0, f1, f2, f3⟩ bb, Five.below ⟨t0, t1, t2, t3, t4⟩ bb, One_below hto bb⟩
  have KI := One_below hi B0
  obtain ⟨F0, T0, O0⟩ := KK.out _ B0
  clear hL hll t0 t1 t2 t3 t4 f0 f1 f2 f3
  generalize hq0 : ((j : Int) != iz) = q0 at *
  generalize hq1 : (uf == to) = q1 at *
  cases q0 with
  | false =>
    go_enter Try.func46, Try.ntmps46
    go_wp2_with (first
        | (go_at_call 34; refine (HM.out _).mono ?_; rintro e w1 ⟨rfl, b1⟩; have B1 := thenB B0 b1; obtain ⟨F1, T1, O1⟩ := KK.out _ B1; have U1 := HU.out _ _ b1 U0; clear HM F0 T0 O0 U0 B0)
        | (go_at_call 15; refine (HO.out _).mono ?_; rintro e w2 ⟨rfl, b2⟩; have B2 : Below w.heap.size w w2 := (by first | exact thenB B1 b2 | exact thenB B0 b2); obtain ⟨F2, T2, O2⟩ := KK.out _ B2; have U2 : Five w2 w.heap.size ui uf uh us (.slice UA m uc) := (by first | exact HU.out _ _ b2 U1 | exact HU.out _ _ b2 U0))
        | (go_at_call 21; refine (HR.out _ B2).mono ?_; rintro e w3 ⟨rfl, b3⟩; have B3 := thenB B2 b3))
    go_ret
    exact ⟨Ser.ret_bool (by simp [colc, hq0, hq1]), B0⟩
  | true =>
    cases q1 with
    | true =>
      cases r1 with
      | true =>
        go_enter Try.func46, Try.ntmps46
        go_wp2_with (first
            | (go_at_call 34; refine (HM.out _).mono ?_; rintro e w1 ⟨rfl, b1⟩; have B1 := thenB B0 b1; obtain ⟨F1, T1, O1⟩ := KK.out _ B1; have U1 := HU.out _ _ b1 U0; clear HM F0 T0 O0 U0 B0)
            | (go_at_call 15; refine (HO.out _).mono ?_; rintro e w2 ⟨rfl, b2⟩; have B2 : Below w.heap.size w w2 := (by first | exact thenB B1 b2 | exact thenB B0 b2); obtain ⟨F2, T2, O2⟩ := KK.out _ B2; have U2 : Five w2 w.heap.size ui uf uh us (.slice UA m uc) := (by first | exact HU.out _ _ b2 U1 | exact HU.out _ _ b2 U0))
            | (go_at_call 21; refine (HR.out _ B2).mono ?_; rintro e w3 ⟨rfl, b3⟩; have B3 := thenB B2 b3))
        go_ret
        exact ⟨Ser.ret_bool (by simp [colc, hq0, hq1]), B1⟩
      | false =>
        cases r2 with
        | false =>
          go_enter Try.func46, Try.ntmps46
          go_wp2_with (first
              | (go_at_call 34; refine (HM.out _).mono ?_; rintro e w1 ⟨rfl, b1⟩; have B1 := thenB B0 b1; obtain ⟨F1, T1, O1⟩ := KK.out _ B1; have U1 := HU.out _ _ b1 U0; clear HM F0 T0 O0 U0 B0)
              | (go_at_call 15; refine (HO.out _).mono ?_; rintro e w2 ⟨rfl, b2⟩; have B2 : Below w.heap.size w w2 := (by first | exact thenB B1 b2 | exact thenB B0 b2); obtain ⟨F2, T2, O2⟩ := KK.out _ B2; have U2 : Five w2 w.heap.size ui uf uh us (.slice UA m uc) := (by first | exact HU.out _ _ b2 U1 | exact HU.out _ _ b2 U0))
              | (go_at_call 21; refine (HR.out _ B2).mono ?_; rintro e w3 ⟨rfl, b3⟩; have B3 := thenB B2 b3))
          go_ret
          exact ⟨Ser.ret_bool (by simp [colc, hq0, hq1]), B2⟩
        | true =>
          go_enter Try.func46, Try.ntmps46
          go_wp2_with (first
              | (go_at_call 34; refine (HM.out _).mono ?_; rintro e w1 ⟨rfl, b1⟩; have B1 := thenB B0 b1; obtain ⟨F1, T1, O1⟩ := KK.out _ B1; have U1 := HU.out _ _ b1 U0; clear HM F0 T0 O0 U0 B0)
              | (go_at_call 15; refine (HO.out _).mono ?_; rintro e w2 ⟨rfl, b2⟩; have B2 : Below w.heap.size w w2 := (by first | exact thenB B1 b2 | exact thenB B0 b2); obtain ⟨F2, T2, O2⟩ := KK.out _ B2; have U2 : Five w2 w.heap.size ui uf uh us (.slice UA m uc) := (by first | exact HU.out _ _ b2 U1 | exact HU.out _ _ b2 U0))
              | (go_at_call 21; refine (HR.out _ B2).mono ?_; rintro e w3 ⟨rfl, b3⟩; have B3 := thenB B2 b3))
          go_ret
          exact ⟨Ser.ret_bool (by simp [colc, hq0, hq1]), B3⟩
    | false =>
      cases r2 with
      | false =>
        go_enter Try.func46, Try.ntmps46
        go_wp2_with (first
            | (go_at_call 34; refine (HM.out _).mono ?_; rintro e w1 ⟨rfl, b1⟩; have B1 := thenB B0 b1; obtain ⟨F1, T1, O1⟩ := KK.out _ B1; have U1 := HU.out _ _ b1 U0; clear HM F0 T0 O0 U0 B0)
            | (go_at_call 15; refine (HO.out _).mono ?_; rintro e w2 ⟨rfl, b2⟩; have B2 : Below w.heap.size w w2 := (by first | exact thenB B1 b2 | exact thenB B0 b2); obtain ⟨F2, T2, O2⟩ := KK.out _ B2; have U2 : Five w2 w.heap.size ui uf uh us (.slice UA m uc) := (by first | exact HU.out _ _ b2 U1 | exact HU.out _ _ b2 U0))
            | (go_at_call 21; refine (HR.out _ B2).mono ?_; rintro e w3 ⟨rfl, b3⟩; have B3 := thenB B2 b3))
        go_ret
        exact ⟨Ser.ret_bool (by simp [colc, hq0, hq1]), B2⟩
      | true =>
        go_enter Try.func46, Try.ntmps46
        go_wp2_with (first
            | (go_at_call 34; refine (HM.out _).mono ?_; rintro e w1 ⟨rfl, b1⟩; have B1 := thenB B0 b1; obtain ⟨F1, T1, O1⟩ := KK.out _ B1; have U1 := HU.out _ _ b1 U0; clear HM F0 T0 O0 U0 B0)
            | (go_at_call 15; refine (HO.out _).mono ?_; rintro e w2 ⟨rfl, b2⟩; have B2 : Below w.heap.size w w2 := (by first | exact thenB B1 b2 | exact thenB B0 b2); obtain ⟨F2, T2, O2⟩ := KK.out _ B2; have U2 : Five w2 w.heap.size ui uf uh us (.slice UA m uc) := (by first | exact HU.out _ _ b2 U1 | exact HU.out _ _ b2 U0))
            | (go_at_call 21; refine (HR.out _ B2).mono ?_; rintro e w3 ⟨rfl, b3⟩; have B3 := thenB B2 b3))
        go_ret
        exact ⟨Ser.ret_bool (by simp [colc, hq0, hq1]), B3⟩
end Go.Proofs.Ytocmcjbhmjbmhaa.Air
