/- Advertising PDUs: the addresses with which a payload begins, by the layer: contracts over the program. -/
import Derived.Test.YtcjlliilfecmnaaDoorKM10
import Derived.Deep.CutRange
set_option linter.unusedVariables false
set_option linter.unusedSimpArgs false
namespace Go.Proofs.YtcjlliilfecmnaaDoor.Ap
open Go.RowKit Mem Oct
open Base (thenB)

/-- What the addresses of a payload are decoded to: the PDU, what is left, the error. -/
def adrs (k : Int) (ys : List Int) : Pd × List Int × Int :=
  if (dA ys).2.2.2 = 0 ∧ tgtB k = true then (adrP k (dA ys).1 (dA ys).2.1 (dA (dA ys).2.2.1).1 (dA (dA ys).2.2.1).2.1, (dA (dA ys).2.2.1).2.2.1, (dA (dA ys).2.2.1).2.2.2) else (adrP k (dA ys).1 (dA ys).2.1 0 0, (dA ys).2.2.1, (dA ys).2.2.2)
/-- Addresses were decoded. -/
def DAs (w w' : World) (e : Ending) (r : Pd × List Int × Int) : Prop :=
  ∃ A c, e = .returned (.tuple #[.agg (cel r.1 (.slice none 0 0)), .slice A r.2.1.length c, .int .i64 r.2.2]) ∧ r.2.1.length ≤ c ∧ Ints .u8 w' w'.heap.size A r.2.1 ∧ Below w.heap.size w w' ∧ (r.2.1 = [] ∨ ∃ g4, A = some ⟨g4, 0, none⟩ ∧ w.heap.size ≤ g4)
/-- The cells of a PDU that has its addresses alone. -/
abbrev acel (k sk sb tk tb : Int) : Array Value := #[.int .i64 k, .int .i64 sk, .int .u64 sb, .int .i64 tk, .int .u64 tb, .slice none 0 0, .int .u32 0, .int .u32 0, .int .i64 0, .int .i64 0, .int .i64 0, .int .i64 0, .int .i64 0, .int .u64 0, .int .i64 0, .int .i64 0, .int .i64 0]
theorem dA_bytes {xs : List Int} (h : Bytes xs) : Bytes (dA xs).2.2.1 := by
  unfold dA; split
  · intro z hz; cases hz
  · split
    · exact fun z hz => h z (List.mem_of_mem_drop hz)
    · intro z hz; cases hz
theorem dA_len (xs : List Int) : (dA xs).2.2.1.length ≤ xs.length := by
  unfold dA; split
  · simp
  · split
    · simp
    · simp
set_option maxRecDepth 100000 in
set_option maxHeartbeats 4000000 in
theorem daddr_any (k : Int) (A : Option Addr) (n c : Nat) (ys : List Int) (w : World) (hx : ys.length = n) (hnc : n ≤ c) (hn2 : n ≤ 1000) (bys : Bytes ys) (hr : Ints .u8 w w.heap.size A ys) (hT : Adr.Tab w) :
    Calls Tryd.prog 41 #[.int .i64 k, .slice A n c] w fun e w' => DAs w w' e (adrs k ys) := by
  have B0 : Below w.heap.size w ((w.alloc (.cells (acel 0 0 0 0 0) 33)).alloc (.cells (acel k 0 0 0 0) 33)) := ((Below.refl _ _).alloc (Nat.le_refl _) _).alloc (by simp) _
  have K4 : Blk ((w.alloc (.cells (acel 0 0 0 0 0) 33)).alloc (.cells (acel k 0 0 0 0) 33)) w.heap.size 33 (acel 0 0 0 0 0) := (Blk.fresh w 33 (acel 0 0 0 0 0)).alloc _
  have K7 : Blk ((w.alloc (.cells (acel 0 0 0 0 0) 33)).alloc (.cells (acel k 0 0 0 0) 33)) (w.heap.size + 1) 33 (acel k 0 0 0 0) := by
    have := Blk.fresh (w.alloc (.cells (acel 0 0 0 0 0) 33)) 33 (acel k 0 0 0 0)
    simpa using this
  have T0 := hT.below B0
  have HP := Lib.hid (fun w => parts_any k w)
  have HI := Lib.hid hr
  have HD : Hid (∀ w', Below w.heap.size w w' → Adr.Tab w' → Calls Tryd.prog 58 #[.slice A n c] w' fun e w2 => DAd w' w2 e (dA ys)) := Lib.hid fun w' b h => adec_any A n c ys w' hx hnc hn2 bys (Base.later hr b) h
  have HB := Lib.hid (dA_bytes bys)
  have hl1 := dA_len ys
  rw [hx] at hl1
  have HD2 : Hid (∀ A' c' w', Ints .u8 w' w'.heap.size A' (dA ys).2.2.1 → (dA ys).2.2.1.length ≤ c' → Adr.Tab w' → Calls Tryd.prog 58 #[.slice A' (dA ys).2.2.1.length c'] w' fun e w2 => DAd w' w2 e (dA (dA ys).2.2.1)) := Lib.hid fun A' c' w' hi hc h => adec_any A' _ c' _ w' rfl hc (by omega) HB.out hi h
  have HR : Hid (adrs k ys = if (dA ys).2.2.2 = 0 ∧ tgtB k = true then (adrP k (dA ys).1 (dA ys).2.1 (dA (dA ys).2.2.1).1 (dA (dA ys).2.2.1).2.1, (dA (dA ys).2.2.1).2.2.1, (dA (dA ys).2.2.1).2.2.2) else (adrP k (dA ys).1 (dA ys).2.1 0 0, (dA ys).2.2.1, (dA ys).2.2.2)) := Lib.hid rfl
  have HT0 := Lib.hid hT
  clear hx bys hr hT
  generalize dA (dA ys).2.2.1 = r2 at *
  generalize dA ys = r1 at *
  generalize adrs k ys = R at *
  generalize tgtB k = T at *
  generalize datB k = D at *
  generalize conB k = C at *
  generalize knoB k = KN at *
  go_enter Tryd.func41, Tryd.ntmps41
  go_wp2_with fail
  generalize (w.alloc (.cells (acel 0 0 0 0 0) 33)).alloc (.cells (acel k 0 0 0 0) 33) = W0 at *
  refine (HP.out W0).mono ?_
  rintro e w1 ⟨rfl, b1⟩
  have BX := thenB B0 b1
  have TX := T0.below b1
  have h4 := K4.lt
  have h7 := K7.lt
  have K4 := K4.below b1 h4
  have K7 := K7.below b1 h7
  clear B0 T0 b1 h4 h7
  have P1 := Blk.fresh w1 50 #[.bool T, .bool D, .bool C]
  have BX := BX.alloc BX.size (.cells #[.bool T, .bool D, .bool C] 50)
  have TX := TX.alloc (.cells #[.bool T, .bool D, .bool C] 50)
  have hp7 : w.heap.size + 1 < w1.heap.size := K7.lt
  have K4 := K4.alloc (.cells #[.bool T, .bool D, .bool C] 50)
  have K7 := K7.alloc (.cells #[.bool T, .bool D, .bool C] 50)
  go_wp2_with fail
  generalize w1.alloc (.cells #[.bool T, .bool D, .bool C] 50) = X1 at *
  generalize w1.heap.size = gp at *
  refine (HD.out X1 BX TX).mono ?_
  rintro e w2 ⟨A1, c1, rfl, hcap, I1, b2, hfr⟩
  have hx1 : w.heap.size + 1 < X1.heap.size := by have := P1.lt; omega
  have hgp : w.heap.size + 1 ≠ gp := by omega
  have BX := thenB BX b2
  have P1 := P1.below b2 P1.lt
  have K4 := K4.below b2 K4.lt
  have K7 := K7.below b2 K7.lt
  clear b2 TX
  have c0 := K7.cell 0
  have c1' := K7.cell 1
  have c2' := K7.cell 2
  have f1 := Clk.frz K7 1
  have f2 := Clk.frz K7 2
  have h7 := K7.lt
  go_upto_region 5 with (fail)
  clear c0 c1' c2' f1 f2
  have K7 : Blk (((w2.setCell ⟨w.heap.size + 1, 1, none⟩ (.int .i64 r1.1)).setCell ⟨w.heap.size + 1, 2, none⟩ (.int .u64 r1.2.1)).alloc (.cells #[.int .i64 r1.1, .int .u64 r1.2.1] 24)) (w.heap.size + 1) 33 #[.int .i64 k, .int .i64 r1.1, .int .u64 r1.2.1, .int .i64 0, .int .u64 0, .slice none 0 0, .int .u32 0, .int .u32 0, .int .i64 0, .int .i64 0, .int .i64 0, .int .i64 0, .int .i64 0, .int .u64 0, .int .i64 0, .int .i64 0, .int .i64 0] := (bset (bset K7 1 (.int .i64 r1.1) rfl) 2 (.int .u64 r1.2.1) rfl).alloc _
  have K4 : Blk (((w2.setCell ⟨w.heap.size + 1, 1, none⟩ (.int .i64 r1.1)).setCell ⟨w.heap.size + 1, 2, none⟩ (.int .u64 r1.2.1)).alloc (.cells #[.int .i64 r1.1, .int .u64 r1.2.1] 24)) w.heap.size 33 (acel 0 0 0 0 0) := (bother (bother K4 (by omega) _) (by omega) _).alloc _
  have P1 : Blk (((w2.setCell ⟨w.heap.size + 1, 1, none⟩ (.int .i64 r1.1)).setCell ⟨w.heap.size + 1, 2, none⟩ (.int .u64 r1.2.1)).alloc (.cells #[.int .i64 r1.1, .int .u64 r1.2.1] 24)) gp 50 #[.bool T, .bool D, .bool C] := (bother (bother P1 hgp _) hgp _).alloc _
  have IR : Ints .u8 (((w2.setCell ⟨w.heap.size + 1, 1, none⟩ (.int .i64 r1.1)).setCell ⟨w.heap.size + 1, 2, none⟩ (.int .u64 r1.2.1)).alloc (.cells #[.int .i64 r1.1, .int .u64 r1.2.1] 24)) (((w2.setCell ⟨w.heap.size + 1, 1, none⟩ (.int .i64 r1.1)).setCell ⟨w.heap.size + 1, 2, none⟩ (.int .u64 r1.2.1)).alloc (.cells #[.int .i64 r1.1, .int .u64 r1.2.1] 24)).heap.size A1 r1.2.2.1 := ((far1 hfr hx1 (far1 hfr hx1 I1)).alloc (by simp) _).more (by simp)
  have BX : Below w.heap.size w (((w2.setCell ⟨w.heap.size + 1, 1, none⟩ (.int .i64 r1.1)).setCell ⟨w.heap.size + 1, 2, none⟩ (.int .u64 r1.2.1)).alloc (.cells #[.int .i64 r1.1, .int .u64 r1.2.1] 24)) := ((BX.setCell (p := ⟨w.heap.size + 1, 1, none⟩) (Nat.le_succ _) _).setCell (p := ⟨w.heap.size + 1, 2, none⟩) (Nat.le_succ _) _).alloc (by have := BX.size; simp; omega) _
  generalize ((w2.setCell ⟨w.heap.size + 1, 1, none⟩ (.int .i64 r1.1)).setCell ⟨w.heap.size + 1, 2, none⟩ (.int .u64 r1.2.1)).alloc (.cells #[.int .i64 r1.1, .int .u64 r1.2.1] 24) = X2 at *
  have t0 := P1.cell 0
  have hpl := P1.lt
  by_cases he : r1.2.2.2 = 0
  · cases T with
    | true =>
      have HZ : Hid (R = (adrP k r1.1 r1.2.1 r2.1 r2.2.1, r2.2.2.1, r2.2.2.2)) := Lib.hid (by rw [HR.out, if_pos ⟨he, rfl⟩])
      have g1 : (r1.2.2.2 == 0) = true := by simpa using he
      clear he HR
      go_wp2_with fail
      refine (HD2.out A1 c1 X2 IR hcap (HT0.out.below BX)).mono ?_
      rintro e w3 ⟨A2, c2, rfl, hcap, I2, b3, hfr2⟩
      have hx2 : w.heap.size + 1 < X2.heap.size := K7.lt
      have BX := thenB BX b3
      have K4 := K4.below b3 K4.lt
      have K7 := K7.below b3 K7.lt
      clear b3 IR I1 t0 P1
      have c3 := K7.cell 3
      have c4 := K7.cell 4
      have f3 := Clk.frz K7 3
      have f4 := Clk.frz K7 4
      have h7 := K7.lt
      go_upto_region 7 with (fail)
      clear c3 c4 f3 f4
      have K7 : Blk ((w3.setCell ⟨w.heap.size + 1, 3, none⟩ (.int .i64 r2.1)).setCell ⟨w.heap.size + 1, 4, none⟩ (.int .u64 r2.2.1)) (w.heap.size + 1) 33 #[.int .i64 k, .int .i64 r1.1, .int .u64 r1.2.1, .int .i64 r2.1, .int .u64 r2.2.1, .slice none 0 0, .int .u32 0, .int .u32 0, .int .i64 0, .int .i64 0, .int .i64 0, .int .i64 0, .int .i64 0, .int .u64 0, .int .i64 0, .int .i64 0, .int .i64 0] := bset (bset K7 3 (.int .i64 r2.1) rfl) 4 (.int .u64 r2.2.1) rfl
      have K4 : Blk ((w3.setCell ⟨w.heap.size + 1, 3, none⟩ (.int .i64 r2.1)).setCell ⟨w.heap.size + 1, 4, none⟩ (.int .u64 r2.2.1)) w.heap.size 33 (acel 0 0 0 0 0) := bother (bother K4 (by omega) _) (by omega) _
      have IR : Ints .u8 ((w3.setCell ⟨w.heap.size + 1, 3, none⟩ (.int .i64 r2.1)).setCell ⟨w.heap.size + 1, 4, none⟩ (.int .u64 r2.2.1)) ((w3.setCell ⟨w.heap.size + 1, 3, none⟩ (.int .i64 r2.1)).setCell ⟨w.heap.size + 1, 4, none⟩ (.int .u64 r2.2.1)).heap.size A2 r2.2.2.1 := (far1 hfr2 hx2 (far1 hfr2 hx2 I2)).more (by simp)
      have BX : Below w.heap.size w ((w3.setCell ⟨w.heap.size + 1, 3, none⟩ (.int .i64 r2.1)).setCell ⟨w.heap.size + 1, 4, none⟩ (.int .u64 r2.2.1)) := (BX.setCell (p := ⟨w.heap.size + 1, 3, none⟩) (Nat.le_succ _) _).setCell (p := ⟨w.heap.size + 1, 4, none⟩) (Nat.le_succ _) _
      generalize ((w3.setCell ⟨w.heap.size + 1, 3, none⟩ (.int .i64 r2.1)).setCell ⟨w.heap.size + 1, 4, none⟩ (.int .u64 r2.2.1)) = X3 at *
      have hx4 : w.heap.size < X2.heap.size := by omega
      have H1 : (#[.int .i64 k, .int .i64 r1.1, .int .u64 r1.2.1, .int .i64 r2.1, .int .u64 r2.2.1, .slice none 0 0, .int .u32 0, .int .u32 0, .int .i64 0, .int .i64 0, .int .i64 0, .int .i64 0, .int .i64 0, .int .u64 0, .int .i64 0, .int .i64 0, .int .i64 0] : Array Value).all (·.oneCell') = true := by rw [← Array.all_toList]; rfl
      go_wp2_with (first | (refine wpList_store_row rfl 33 (.tmp 4) (.tmp 41) rfl w.heap.size #[.int .i64 k, .int .i64 r1.1, .int .u64 r1.2.1, .int .i64 r2.1, .int .u64 r2.2.1, .slice none 0 0, .int .u32 0, .int .u32 0, .int .i64 0, .int .i64 0, .int .i64 0, .int .i64 0, .int .i64 0, .int .u64 0, .int .i64 0, .int .i64 0, .int .i64 0] rfl rfl 33 _ K4 (by kernel_rfl) rfl H1 ?_) | (refine wpList_load_row rfl 33 (.tmp 7) rfl (w.heap.size + 1) rfl 33 _ (0, 0) _ K7 Tryd.underlying33 rfl (by kernel_rfl) ?_))
      have KR : Blk (X3.setRow w.heap.size #[.int .i64 k, .int .i64 r1.1, .int .u64 r1.2.1, .int .i64 r2.1, .int .u64 r2.2.1, .slice none 0 0, .int .u32 0, .int .u32 0, .int .i64 0, .int .i64 0, .int .i64 0, .int .i64 0, .int .i64 0, .int .u64 0, .int .i64 0, .int .i64 0, .int .i64 0]) w.heap.size 33 #[.int .i64 k, .int .i64 r1.1, .int .u64 r1.2.1, .int .i64 r2.1, .int .u64 r2.2.1, .slice none 0 0, .int .u32 0, .int .u32 0, .int .i64 0, .int .i64 0, .int .i64 0, .int .i64 0, .int .i64 0, .int .u64 0, .int .i64 0, .int .i64 0, .int .i64 0] := setRow_heap X3 w.heap.size _ #[.int .i64 k, .int .i64 r1.1, .int .u64 r1.2.1, .int .i64 r2.1, .int .u64 r2.2.1, .slice none 0 0, .int .u32 0, .int .u32 0, .int .i64 0, .int .i64 0, .int .i64 0, .int .i64 0, .int .i64 0, .int .u64 0, .int .i64 0, .int .i64 0, .int .i64 0] 33 (0, 0) K4
      have IE := (farR (cs := #[.int .i64 k, .int .i64 r1.1, .int .u64 r1.2.1, .int .i64 r2.1, .int .u64 r2.2.1, .slice none 0 0, .int .u32 0, .int .u32 0, .int .i64 0, .int .i64 0, .int .i64 0, .int .i64 0, .int .i64 0, .int .u64 0, .int .i64 0, .int .i64 0, .int .i64 0]) hfr2 hx4 IR).more (Nat.le_of_eq (size_setRow X3 w.heap.size #[.int .i64 k, .int .i64 r1.1, .int .u64 r1.2.1, .int .i64 r2.1, .int .u64 r2.2.1, .slice none 0 0, .int .u32 0, .int .u32 0, .int .i64 0, .int .i64 0, .int .i64 0, .int .i64 0, .int .i64 0, .int .u64 0, .int .i64 0, .int .i64 0, .int .i64 0]).symm)
      have BE := below_setRow BX (Nat.le_refl _) #[.int .i64 k, .int .i64 r1.1, .int .u64 r1.2.1, .int .i64 r2.1, .int .u64 r2.2.1, .slice none 0 0, .int .u32 0, .int .u32 0, .int .i64 0, .int .i64 0, .int .i64 0, .int .i64 0, .int .i64 0, .int .u64 0, .int .i64 0, .int .i64 0, .int .i64 0]
      have HFR : r2.2.2.1 = [] ∨ ∃ g4, A2 = some (⟨g4, 0, none⟩ : Addr) ∧ w.heap.size ≤ g4 := by
        rcases hfr2 with h | ⟨g4, e, h⟩
        · exact .inl h
        · exact .inr ⟨g4, e, by omega⟩
      generalize X3.setRow w.heap.size #[.int .i64 k, .int .i64 r1.1, .int .u64 r1.2.1, .int .i64 r2.1, .int .u64 r2.2.1, .slice none 0 0, .int .u32 0, .int .u32 0, .int .i64 0, .int .i64 0, .int .i64 0, .int .i64 0, .int .i64 0, .int .u64 0, .int .i64 0, .int .i64 0, .int .i64 0] = Y at *
      skip
      refine bodyPost_ret (v := .tuple #[.agg #[.int .i64 k, .int .i64 r1.1, .int .u64 r1.2.1, .int .i64 r2.1, .int .u64 r2.2.1, .slice none 0 0, .int .u32 0, .int .u32 0, .int .i64 0, .int .i64 0, .int .i64 0, .int .i64 0, .int .i64 0, .int .u64 0, .int .i64 0, .int .i64 0, .int .i64 0], .slice A2 r2.2.2.1.length c2, .int .i64 r2.2.2.2]) ?_ rfl ⟨A2, c2, by rw [HZ.out]; rfl, by rw [HZ.out]; exact hcap, (by rw [HZ.out]; exact IE), BE, (by rw [HZ.out]; exact HFR)⟩
      have HL := run_loadVar_row (P := Tryd.prog) Y w.heap.size 33 33 #[.int .i64 k, .int .i64 r1.1, .int .u64 r1.2.1, .int .i64 r2.1, .int .u64 r2.2.1, .slice none 0 0, .int .u32 0, .int .u32 0, .int .i64 0, .int .i64 0, .int .i64 0, .int .i64 0, .int .i64 0, .int .u64 0, .int .i64 0, .int .i64 0, .int .i64 0] (0, 0) _ KR Tryd.underlying33 rfl (by kernel_rfl)
      generalize (#[.int .i64 k, .int .i64 r1.1, .int .u64 r1.2.1, .int .i64 r2.1, .int .u64 r2.2.1, .slice none 0 0, .int .u32 0, .int .u32 0, .int .i64 0, .int .i64 0, .int .i64 0, .int .i64 0, .int .i64 0, .int .u64 0, .int .i64 0, .int .i64 0, .int .i64 0] : Array Value) = CS at *
      simp [results, show (Tryd.f41).results = #[.cell 4 33, .slot 5, .slot 6] from rfl, asAddr, HL]
    | false =>
      have HZ : Hid (R = (adrP k r1.1 r1.2.1 0 0, r1.2.2.1, r1.2.2.2)) := Lib.hid (by rw [HR.out, if_neg (by simp)])
      have g1 : (r1.2.2.2 == 0) = true := by simpa using he
      have hx4 : w.heap.size < X1.heap.size := by omega
      clear he HR
      have H1 : (#[.int .i64 k, .int .i64 r1.1, .int .u64 r1.2.1, .int .i64 0, .int .u64 0, .slice none 0 0, .int .u32 0, .int .u32 0, .int .i64 0, .int .i64 0, .int .i64 0, .int .i64 0, .int .i64 0, .int .u64 0, .int .i64 0, .int .i64 0, .int .i64 0] : Array Value).all (·.oneCell') = true := by rw [← Array.all_toList]; rfl
      go_wp2_with (first | (refine wpList_store_row rfl 33 (.tmp 4) (.tmp 41) rfl w.heap.size #[.int .i64 k, .int .i64 r1.1, .int .u64 r1.2.1, .int .i64 0, .int .u64 0, .slice none 0 0, .int .u32 0, .int .u32 0, .int .i64 0, .int .i64 0, .int .i64 0, .int .i64 0, .int .i64 0, .int .u64 0, .int .i64 0, .int .i64 0, .int .i64 0] rfl rfl 33 _ K4 (by kernel_rfl) rfl H1 ?_) | (refine wpList_load_row rfl 33 (.tmp 7) rfl (w.heap.size + 1) rfl 33 _ (0, 0) _ K7 Tryd.underlying33 rfl (by kernel_rfl) ?_))
      have KR : Blk (X2.setRow w.heap.size #[.int .i64 k, .int .i64 r1.1, .int .u64 r1.2.1, .int .i64 0, .int .u64 0, .slice none 0 0, .int .u32 0, .int .u32 0, .int .i64 0, .int .i64 0, .int .i64 0, .int .i64 0, .int .i64 0, .int .u64 0, .int .i64 0, .int .i64 0, .int .i64 0]) w.heap.size 33 #[.int .i64 k, .int .i64 r1.1, .int .u64 r1.2.1, .int .i64 0, .int .u64 0, .slice none 0 0, .int .u32 0, .int .u32 0, .int .i64 0, .int .i64 0, .int .i64 0, .int .i64 0, .int .i64 0, .int .u64 0, .int .i64 0, .int .i64 0, .int .i64 0] := setRow_heap X2 w.heap.size _ #[.int .i64 k, .int .i64 r1.1, .int .u64 r1.2.1, .int .i64 0, .int .u64 0, .slice none 0 0, .int .u32 0, .int .u32 0, .int .i64 0, .int .i64 0, .int .i64 0, .int .i64 0, .int .i64 0, .int .u64 0, .int .i64 0, .int .i64 0, .int .i64 0] 33 (0, 0) K4
      have IE := (farR (cs := #[.int .i64 k, .int .i64 r1.1, .int .u64 r1.2.1, .int .i64 0, .int .u64 0, .slice none 0 0, .int .u32 0, .int .u32 0, .int .i64 0, .int .i64 0, .int .i64 0, .int .i64 0, .int .i64 0, .int .u64 0, .int .i64 0, .int .i64 0, .int .i64 0]) hfr hx4 IR).more (Nat.le_of_eq (size_setRow X2 w.heap.size #[.int .i64 k, .int .i64 r1.1, .int .u64 r1.2.1, .int .i64 0, .int .u64 0, .slice none 0 0, .int .u32 0, .int .u32 0, .int .i64 0, .int .i64 0, .int .i64 0, .int .i64 0, .int .i64 0, .int .u64 0, .int .i64 0, .int .i64 0, .int .i64 0]).symm)
      have BE := below_setRow BX (Nat.le_refl _) #[.int .i64 k, .int .i64 r1.1, .int .u64 r1.2.1, .int .i64 0, .int .u64 0, .slice none 0 0, .int .u32 0, .int .u32 0, .int .i64 0, .int .i64 0, .int .i64 0, .int .i64 0, .int .i64 0, .int .u64 0, .int .i64 0, .int .i64 0, .int .i64 0]
      have HFR : r1.2.2.1 = [] ∨ ∃ g4, A1 = some (⟨g4, 0, none⟩ : Addr) ∧ w.heap.size ≤ g4 := by
        rcases hfr with h | ⟨g4, e, h⟩
        · exact .inl h
        · exact .inr ⟨g4, e, by omega⟩
      generalize X2.setRow w.heap.size #[.int .i64 k, .int .i64 r1.1, .int .u64 r1.2.1, .int .i64 0, .int .u64 0, .slice none 0 0, .int .u32 0, .int .u32 0, .int .i64 0, .int .i64 0, .int .i64 0, .int .i64 0, .int .i64 0, .int .u64 0, .int .i64 0, .int .i64 0, .int .i64 0] = Y at *
      skip
      refine bodyPost_ret (v := .tuple #[.agg #[.int .i64 k, .int .i64 r1.1, .int .u64 r1.2.1, .int .i64 0, .int .u64 0, .slice none 0 0, .int .u32 0, .int .u32 0, .int .i64 0, .int .i64 0, .int .i64 0, .int .i64 0, .int .i64 0, .int .u64 0, .int .i64 0, .int .i64 0, .int .i64 0], .slice A1 r1.2.2.1.length c1, .int .i64 r1.2.2.2]) ?_ rfl ⟨A1, c1, by rw [HZ.out]; rfl, by rw [HZ.out]; exact hcap, (by rw [HZ.out]; exact IE), BE, (by rw [HZ.out]; exact HFR)⟩
      have HL := run_loadVar_row (P := Tryd.prog) Y w.heap.size 33 33 #[.int .i64 k, .int .i64 r1.1, .int .u64 r1.2.1, .int .i64 0, .int .u64 0, .slice none 0 0, .int .u32 0, .int .u32 0, .int .i64 0, .int .i64 0, .int .i64 0, .int .i64 0, .int .i64 0, .int .u64 0, .int .i64 0, .int .i64 0, .int .i64 0] (0, 0) _ KR Tryd.underlying33 rfl (by kernel_rfl)
      generalize (#[.int .i64 k, .int .i64 r1.1, .int .u64 r1.2.1, .int .i64 0, .int .u64 0, .slice none 0 0, .int .u32 0, .int .u32 0, .int .i64 0, .int .i64 0, .int .i64 0, .int .i64 0, .int .i64 0, .int .u64 0, .int .i64 0, .int .i64 0, .int .i64 0] : Array Value) = CS at *
      simp [results, show (Tryd.f41).results = #[.cell 4 33, .slot 5, .slot 6] from rfl, asAddr, HL]
  · have HZ : Hid (R = (adrP k r1.1 r1.2.1 0 0, r1.2.2.1, r1.2.2.2)) := Lib.hid (by rw [HR.out, if_neg (fun h => he h.1)])
    have g1 : (r1.2.2.2 == 0) = false := by simpa using he
    have hx4 : w.heap.size < X1.heap.size := by omega
    clear he HR
    have H1 : (#[.int .i64 k, .int .i64 r1.1, .int .u64 r1.2.1, .int .i64 0, .int .u64 0, .slice none 0 0, .int .u32 0, .int .u32 0, .int .i64 0, .int .i64 0, .int .i64 0, .int .i64 0, .int .i64 0, .int .u64 0, .int .i64 0, .int .i64 0, .int .i64 0] : Array Value).all (·.oneCell') = true := by rw [← Array.all_toList]; rfl
    go_wp2_with (first | (refine wpList_store_row rfl 33 (.tmp 4) (.tmp 41) rfl w.heap.size #[.int .i64 k, .int .i64 r1.1, .int .u64 r1.2.1, .int .i64 0, .int .u64 0, .slice none 0 0, .int .u32 0, .int .u32 0, .int .i64 0, .int .i64 0, .int .i64 0, .int .i64 0, .int .i64 0, .int .u64 0, .int .i64 0, .int .i64 0, .int .i64 0] rfl rfl 33 _ K4 (by kernel_rfl) rfl H1 ?_) | (refine wpList_load_row rfl 33 (.tmp 7) rfl (w.heap.size + 1) rfl 33 _ (0, 0) _ K7 Tryd.underlying33 rfl (by kernel_rfl) ?_))
    have KR : Blk (X2.setRow w.heap.size #[.int .i64 k, .int .i64 r1.1, .int .u64 r1.2.1, .int .i64 0, .int .u64 0, .slice none 0 0, .int .u32 0, .int .u32 0, .int .i64 0, .int .i64 0, .int .i64 0, .int .i64 0, .int .i64 0, .int .u64 0, .int .i64 0, .int .i64 0, .int .i64 0]) w.heap.size 33 #[.int .i64 k, .int .i64 r1.1, .int .u64 r1.2.1, .int .i64 0, .int .u64 0, .slice none 0 0, .int .u32 0, .int .u32 0, .int .i64 0, .int .i64 0, .int .i64 0, .int .i64 0, .int .i64 0, .int .u64 0, .int .i64 0, .int .i64 0, .int .i64 0] := setRow_heap X2 w.heap.size _ #[.int .i64 k, .int .i64 r1.1, .int .u64 r1.2.1, .int .i64 0, .int .u64 0, .slice none 0 0, .int .u32 0, .int .u32 0, .int .i64 0, .int .i64 0, .int .i64 0, .int .i64 0, .int .i64 0, .int .u64 0, .int .i64 0, .int .i64 0, .int .i64 0] 33 (0, 0) K4
    have IE := (farR (cs := #[.int .i64 k, .int .i64 r1.1, .int .u64 r1.2.1, .int .i64 0, .int .u64 0, .slice none 0 0, .int .u32 0, .int .u32 0, .int .i64 0, .int .i64 0, .int .i64 0, .int .i64 0, .int .i64 0, .int .u64 0, .int .i64 0, .int .i64 0, .int .i64 0]) hfr hx4 IR).more (Nat.le_of_eq (size_setRow X2 w.heap.size #[.int .i64 k, .int .i64 r1.1, .int .u64 r1.2.1, .int .i64 0, .int .u64 0, .slice none 0 0, .int .u32 0, .int .u32 0, .int .i64 0, .int .i64 0, .int .i64 0, .int .i64 0, .int .i64 0, .int .u64 0, .int .i64 0, .int .i64 0, .int .i64 0]).symm)
    have BE := below_setRow BX (Nat.le_refl _) #[.int .i64 k, .int .i64 r1.1, .int .u64 r1.2.1, .int .i64 0, .int .u64 0, .slice none 0 0, .int .u32 0, .int .u32 0, .int .i64 0, .int .i64 0, .int .i64 0, .int .i64 0, .int .i64 0, .int .u64 0, .int .i64 0, .int .i64 0, .int .i64 0]
    have HFR : r1.2.2.1 = [] ∨ ∃ g4, A1 = some (⟨g4, 0, none⟩ : Addr) ∧ w.heap.size ≤ g4 := by
      rcases hfr with h | ⟨g4, e, h⟩
      · exact .inl h
      · exact .inr ⟨g4, e, by omega⟩
    generalize X2.setRow w.heap.size #[.int .i64 k, .int .i64 r1.1, .int .u64 r1.2.1, .int .i64 0, .int .u64 0, .slice none 0 0, .int .u32 0, .int .u32 0, .int .i64 0, .int .i64 0, .int .i64 0, .int .i64 0, .int .i64 0, .int .u64 0, .int .i64 0, .int .i64 0, .int .i64 0] = Y at *
    skip
    refine bodyPost_ret (v := .tuple #[.agg #[.int .i64 k, .int .i64 r1.1, .int .u64 r1.2.1, .int .i64 0, .int .u64 0, .slice none 0 0, .int .u32 0, .int .u32 0, .int .i64 0, .int .i64 0, .int .i64 0, .int .i64 0, .int .i64 0, .int .u64 0, .int .i64 0, .int .i64 0, .int .i64 0], .slice A1 r1.2.2.1.length c1, .int .i64 r1.2.2.2]) ?_ rfl ⟨A1, c1, by rw [HZ.out]; rfl, by rw [HZ.out]; exact hcap, (by rw [HZ.out]; exact IE), BE, (by rw [HZ.out]; exact HFR)⟩
    have HL := run_loadVar_row (P := Tryd.prog) Y w.heap.size 33 33 #[.int .i64 k, .int .i64 r1.1, .int .u64 r1.2.1, .int .i64 0, .int .u64 0, .slice none 0 0, .int .u32 0, .int .u32 0, .int .i64 0, .int .i64 0, .int .i64 0, .int .i64 0, .int .i64 0, .int .u64 0, .int .i64 0, .int .i64 0, .int .i64 0] (0, 0) _ KR Tryd.underlying33 rfl (by kernel_rfl)
    generalize (#[.int .i64 k, .int .i64 r1.1, .int .u64 r1.2.1, .int .i64 0, .int .u64 0, .slice none 0 0, .int .u32 0, .int .u32 0, .int .i64 0, .int .i64 0, .int .i64 0, .int .i64 0, .int .i64 0, .int .u64 0, .int .i64 0, .int .i64 0, .int .i64 0] : Array Value) = CS at *
    simp [results, show (Tryd.f41).results = #[.cell 4 33, .slot 5, .slot 6] from rfl, asAddr, HL]
end Go.Proofs.YtcjlliilfecmnaaDoor.Ap
