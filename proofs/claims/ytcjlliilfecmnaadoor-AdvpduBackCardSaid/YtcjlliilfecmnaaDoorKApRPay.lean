/- Advertising PDUs: the addresses with which a payload begins, by the document: contracts over the program. -/
import Derived.Test.YtcjlliilfecmnaaDoorKApDecG
import Derived.Test.YtcjlliilfecmnaaDoorKApParts
set_option linter.unusedVariables false
set_option linter.unusedSimpArgs false
namespace Go.Proofs.YtcjlliilfecmnaaDoor.Ap
open Go.RowKit Mem Oct
open Base (thenB)

theorem farC {k : IntKind} {w : World} {B g i : Nat} {A : Option Addr} {zs : List Int} {x : Value} (hs : zs = [] ∨ ∃ g4, A = some ⟨g4, 0, none⟩ ∧ g4 ≠ g) (h : Ints k w B A zs) : Ints k (w.setCell ⟨g, i, none⟩ x) B A zs := by
  rcases hs with rfl | ⟨g4, rfl, hm⟩
  · exact .inl rfl
  · rcases h with h | ⟨b, off, hb, hl, hc⟩
    · exact .inl h
    · refine .inr ⟨b, off, hb, hl, fun j hj => ?_⟩
      have hbg : g ≠ b := by
        injection hb with hb'
        injection hb' with hb1 _ _
        omega
      rw [World.cell?_setCell_far _ _ _ _ hbg]
      exact hc j hj
/-- What the document reads: nothing where an address is wrong. -/
def radrs (k : Int) (ys : List Int) : Pd × List Int × Int := if (adrs k ys).2.2 = 0 then adrs k ys else (zp, [], (adrs k ys).2.2)
theorem radrs_eq (k : Int) (ys : List Int) : radrs k ys = if (dA ys).2.2.2 = 0 then (if tgtB k = true then (if (dA (dA ys).2.2.1).2.2.2 = 0 then (adrP k (dA ys).1 (dA ys).2.1 (dA (dA ys).2.2.1).1 (dA (dA ys).2.2.1).2.1, (dA (dA ys).2.2.1).2.2.1, 0) else (zp, [], (dA (dA ys).2.2.1).2.2.2)) else (adrP k (dA ys).1 (dA ys).2.1 0 0, (dA ys).2.2.1, 0)) else (zp, [], (dA ys).2.2.2) := by
  unfold radrs adrs
  by_cases h : (dA ys).2.2.2 = 0
  · cases ht : tgtB k with
    | false => simp [h]
    | true =>
      by_cases h2 : (dA (dA ys).2.2.1).2.2.2 = 0
      · simp [h, h2]
      · simp [h, h2]
  · simp [h]
set_option maxRecDepth 100000 in
set_option maxHeartbeats 4000000 in
theorem rpay_any (k : Int) (A : Option Addr) (n c : Nat) (ys : List Int) (w : World) (hx : ys.length = n) (hnc : n ≤ c) (hn2 : n ≤ 1000) (bys : Bytes ys) (hr : Ints .u8 w w.heap.size A ys) :
    Calls Tryd.prog 43 #[.int .i64 k, .slice A n c] w fun e w' => DAs w w' e (radrs k ys) := by
  have K70 : Blk ((w.alloc (.cells #[.int .i64 0, .int .i64 0, .int .u64 0, .int .i64 0, .int .u64 0, .slice none 0 0, .int .u32 0, .int .u32 0, .int .i64 0, .int .i64 0, .int .i64 0, .int .i64 0, .int .i64 0, .int .u64 0, .int .i64 0, .int .i64 0, .int .i64 0] 33)).alloc (.cells #[.int .i64 0, .int .i64 0, .int .u64 0, .int .i64 0, .int .u64 0, .slice none 0 0, .int .u32 0, .int .u32 0, .int .i64 0, .int .i64 0, .int .i64 0, .int .i64 0, .int .i64 0, .int .u64 0, .int .i64 0, .int .i64 0, .int .i64 0] 33)) (w.heap.size + 1) 33 #[.int .i64 0, .int .i64 0, .int .u64 0, .int .i64 0, .int .u64 0, .slice none 0 0, .int .u32 0, .int .u32 0, .int .i64 0, .int .i64 0, .int .i64 0, .int .i64 0, .int .i64 0, .int .u64 0, .int .i64 0, .int .i64 0, .int .i64 0] := by
    have := Blk.fresh (w.alloc (.cells #[.int .i64 0, .int .i64 0, .int .u64 0, .int .i64 0, .int .u64 0, .slice none 0 0, .int .u32 0, .int .u32 0, .int .i64 0, .int .i64 0, .int .i64 0, .int .i64 0, .int .i64 0, .int .u64 0, .int .i64 0, .int .i64 0, .int .i64 0] 33)) 33 #[.int .i64 0, .int .i64 0, .int .u64 0, .int .i64 0, .int .u64 0, .slice none 0 0, .int .u32 0, .int .u32 0, .int .i64 0, .int .i64 0, .int .i64 0, .int .i64 0, .int .i64 0, .int .u64 0, .int .i64 0, .int .i64 0, .int .i64 0]
    simpa using this
  have K40 : Blk ((w.alloc (.cells #[.int .i64 0, .int .i64 0, .int .u64 0, .int .i64 0, .int .u64 0, .slice none 0 0, .int .u32 0, .int .u32 0, .int .i64 0, .int .i64 0, .int .i64 0, .int .i64 0, .int .i64 0, .int .u64 0, .int .i64 0, .int .i64 0, .int .i64 0] 33)).alloc (.cells #[.int .i64 0, .int .i64 0, .int .u64 0, .int .i64 0, .int .u64 0, .slice none 0 0, .int .u32 0, .int .u32 0, .int .i64 0, .int .i64 0, .int .i64 0, .int .i64 0, .int .i64 0, .int .u64 0, .int .i64 0, .int .i64 0, .int .i64 0] 33)) w.heap.size 33 #[.int .i64 0, .int .i64 0, .int .u64 0, .int .i64 0, .int .u64 0, .slice none 0 0, .int .u32 0, .int .u32 0, .int .i64 0, .int .i64 0, .int .i64 0, .int .i64 0, .int .i64 0, .int .u64 0, .int .i64 0, .int .i64 0, .int .i64 0] := (Blk.fresh w 33 #[.int .i64 0, .int .i64 0, .int .u64 0, .int .i64 0, .int .u64 0, .slice none 0 0, .int .u32 0, .int .u32 0, .int .i64 0, .int .i64 0, .int .i64 0, .int .i64 0, .int .i64 0, .int .u64 0, .int .i64 0, .int .i64 0, .int .i64 0]).alloc _
  have B0 : Below w.heap.size w ((w.alloc (.cells #[.int .i64 0, .int .i64 0, .int .u64 0, .int .i64 0, .int .u64 0, .slice none 0 0, .int .u32 0, .int .u32 0, .int .i64 0, .int .i64 0, .int .i64 0, .int .i64 0, .int .i64 0, .int .u64 0, .int .i64 0, .int .i64 0, .int .i64 0] 33)).alloc (.cells #[.int .i64 0, .int .i64 0, .int .u64 0, .int .i64 0, .int .u64 0, .slice none 0 0, .int .u32 0, .int .u32 0, .int .i64 0, .int .i64 0, .int .i64 0, .int .i64 0, .int .i64 0, .int .u64 0, .int .i64 0, .int .i64 0, .int .i64 0] 33)) := ((Below.refl _ _).alloc (Nat.le_refl _) _).alloc (by simp) _
  have K7 : Blk (((w.alloc (.cells #[.int .i64 0, .int .i64 0, .int .u64 0, .int .i64 0, .int .u64 0, .slice none 0 0, .int .u32 0, .int .u32 0, .int .i64 0, .int .i64 0, .int .i64 0, .int .i64 0, .int .i64 0, .int .u64 0, .int .i64 0, .int .i64 0, .int .i64 0] 33)).alloc (.cells #[.int .i64 0, .int .i64 0, .int .u64 0, .int .i64 0, .int .u64 0, .slice none 0 0, .int .u32 0, .int .u32 0, .int .i64 0, .int .i64 0, .int .i64 0, .int .i64 0, .int .i64 0, .int .u64 0, .int .i64 0, .int .i64 0, .int .i64 0] 33)).setRow (w.heap.size + 1) #[.int .i64 k, .int .i64 0, .int .u64 0, .int .i64 0, .int .u64 0, .slice none 0 0, .int .u32 0, .int .u32 0, .int .i64 0, .int .i64 0, .int .i64 0, .int .i64 0, .int .i64 0, .int .u64 0, .int .i64 0, .int .i64 0, .int .i64 0]) (w.heap.size + 1) 33 #[.int .i64 k, .int .i64 0, .int .u64 0, .int .i64 0, .int .u64 0, .slice none 0 0, .int .u32 0, .int .u32 0, .int .i64 0, .int .i64 0, .int .i64 0, .int .i64 0, .int .i64 0, .int .u64 0, .int .i64 0, .int .i64 0, .int .i64 0] := setRow_heap _ (w.heap.size + 1) _ #[.int .i64 k, .int .i64 0, .int .u64 0, .int .i64 0, .int .u64 0, .slice none 0 0, .int .u32 0, .int .u32 0, .int .i64 0, .int .i64 0, .int .i64 0, .int .i64 0, .int .i64 0, .int .u64 0, .int .i64 0, .int .i64 0, .int .i64 0] 33 (0, 0) K70
  have K4 : Blk (((w.alloc (.cells #[.int .i64 0, .int .i64 0, .int .u64 0, .int .i64 0, .int .u64 0, .slice none 0 0, .int .u32 0, .int .u32 0, .int .i64 0, .int .i64 0, .int .i64 0, .int .i64 0, .int .i64 0, .int .u64 0, .int .i64 0, .int .i64 0, .int .i64 0] 33)).alloc (.cells #[.int .i64 0, .int .i64 0, .int .u64 0, .int .i64 0, .int .u64 0, .slice none 0 0, .int .u32 0, .int .u32 0, .int .i64 0, .int .i64 0, .int .i64 0, .int .i64 0, .int .i64 0, .int .u64 0, .int .i64 0, .int .i64 0, .int .i64 0] 33)).setRow (w.heap.size + 1) #[.int .i64 k, .int .i64 0, .int .u64 0, .int .i64 0, .int .u64 0, .slice none 0 0, .int .u32 0, .int .u32 0, .int .i64 0, .int .i64 0, .int .i64 0, .int .i64 0, .int .i64 0, .int .u64 0, .int .i64 0, .int .i64 0, .int .i64 0]) w.heap.size 33 #[.int .i64 0, .int .i64 0, .int .u64 0, .int .i64 0, .int .u64 0, .slice none 0 0, .int .u32 0, .int .u32 0, .int .i64 0, .int .i64 0, .int .i64 0, .int .i64 0, .int .i64 0, .int .u64 0, .int .i64 0, .int .i64 0, .int .i64 0] := (setRow_other _ (w.heap.size + 1) w.heap.size #[.int .i64 k, .int .i64 0, .int .u64 0, .int .i64 0, .int .u64 0, .slice none 0 0, .int .u32 0, .int .u32 0, .int .i64 0, .int .i64 0, .int .i64 0, .int .i64 0, .int .i64 0, .int .u64 0, .int .i64 0, .int .i64 0, .int .i64 0] (by omega)).trans K40
  have BX : Below w.heap.size w (((w.alloc (.cells #[.int .i64 0, .int .i64 0, .int .u64 0, .int .i64 0, .int .u64 0, .slice none 0 0, .int .u32 0, .int .u32 0, .int .i64 0, .int .i64 0, .int .i64 0, .int .i64 0, .int .i64 0, .int .u64 0, .int .i64 0, .int .i64 0, .int .i64 0] 33)).alloc (.cells #[.int .i64 0, .int .i64 0, .int .u64 0, .int .i64 0, .int .u64 0, .slice none 0 0, .int .u32 0, .int .u32 0, .int .i64 0, .int .i64 0, .int .i64 0, .int .i64 0, .int .i64 0, .int .u64 0, .int .i64 0, .int .i64 0, .int .i64 0] 33)).setRow (w.heap.size + 1) #[.int .i64 k, .int .i64 0, .int .u64 0, .int .i64 0, .int .u64 0, .slice none 0 0, .int .u32 0, .int .u32 0, .int .i64 0, .int .i64 0, .int .i64 0, .int .i64 0, .int .i64 0, .int .u64 0, .int .i64 0, .int .i64 0, .int .i64 0]) := below_setRow B0 (Nat.le_succ _) #[.int .i64 k, .int .i64 0, .int .u64 0, .int .i64 0, .int .u64 0, .slice none 0 0, .int .u32 0, .int .u32 0, .int .i64 0, .int .i64 0, .int .i64 0, .int .i64 0, .int .i64 0, .int .u64 0, .int .i64 0, .int .i64 0, .int .i64 0]
  have HT := Lib.hid (fun w => hastarget_any k w)
  have HD : Hid (∀ w', Below w.heap.size w w' → Calls Tryd.prog 60 #[.slice A n c] w' fun e w2 => DAd w' w2 e (dA ys)) := Lib.hid fun w' b => radec_any A n c ys w' hx hnc hn2 bys (Base.later hr b)
  have HB := Lib.hid (dA_bytes bys)
  have hl1 := dA_len ys
  rw [hx] at hl1
  have HD2 : Hid (∀ A' c' w', Ints .u8 w' w'.heap.size A' (dA ys).2.2.1 → (dA ys).2.2.1.length ≤ c' → Calls Tryd.prog 60 #[.slice A' (dA ys).2.2.1.length c'] w' fun e w2 => DAd w' w2 e (dA (dA ys).2.2.1)) := Lib.hid fun A' c' w' hi hc => radec_any A' _ c' _ w' rfl hc (by omega) HB.out hi
  have HR := Lib.hid (radrs_eq k ys)
  clear hx bys hr B0 K40
  generalize dA (dA ys).2.2.1 = r2 at *
  generalize dA ys = r1 at *
  generalize radrs k ys = R at *
  generalize tgtB k = T at *
  have H7 : (#[.int .i64 k, .int .i64 0, .int .u64 0, .int .i64 0, .int .u64 0, .slice none 0 0, .int .u32 0, .int .u32 0, .int .i64 0, .int .i64 0, .int .i64 0, .int .i64 0, .int .i64 0, .int .u64 0, .int .i64 0, .int .i64 0, .int .i64 0] : Array Value).all (·.oneCell') = true := by rw [← Array.all_toList]; rfl
  go_enter Tryd.func43, Tryd.ntmps43
  go_upto_region 2 with (refine wpList_store_row rfl 33 (.tmp 7) _ rfl (w.heap.size + 1) #[.int .i64 k, .int .i64 0, .int .u64 0, .int .i64 0, .int .u64 0, .slice none 0 0, .int .u32 0, .int .u32 0, .int .i64 0, .int .i64 0, .int .i64 0, .int .i64 0, .int .i64 0, .int .u64 0, .int .i64 0, .int .i64 0, .int .i64 0] rfl rfl 33 _ K70 (by kernel_rfl) rfl H7 ?_)
  clear K70 H7
  generalize (((w.alloc (.cells #[.int .i64 0, .int .i64 0, .int .u64 0, .int .i64 0, .int .u64 0, .slice none 0 0, .int .u32 0, .int .u32 0, .int .i64 0, .int .i64 0, .int .i64 0, .int .i64 0, .int .i64 0, .int .u64 0, .int .i64 0, .int .i64 0, .int .i64 0] 33)).alloc (.cells #[.int .i64 0, .int .i64 0, .int .u64 0, .int .i64 0, .int .u64 0, .slice none 0 0, .int .u32 0, .int .u32 0, .int .i64 0, .int .i64 0, .int .i64 0, .int .i64 0, .int .i64 0, .int .u64 0, .int .i64 0, .int .i64 0, .int .i64 0] 33)).setRow (w.heap.size + 1) #[.int .i64 k, .int .i64 0, .int .u64 0, .int .i64 0, .int .u64 0, .slice none 0 0, .int .u32 0, .int .u32 0, .int .i64 0, .int .i64 0, .int .i64 0, .int .i64 0, .int .i64 0, .int .u64 0, .int .i64 0, .int .i64 0, .int .i64 0]) = W0 at *
  go_wp2_with fail
  refine (HD.out W0 BX).mono ?_
  rintro e w2 ⟨A1, c1, rfl, hcap, I1, b2, hfr⟩
  have h7 := K7.lt
  replace hfr := fresh_ne I1 hfr
  have h72 := b2.size
  replace BX := thenB BX b2
  replace K4 := K4.below b2 K4.lt
  replace K7 := K7.below b2 K7.lt
  clear b2
  go_upto_region 3 with (fail)
  have K8 := Blk.fresh w2 24 #[.int .i64 r1.1, .int .u64 r1.2.1]
  replace BX := BX.alloc BX.size (.cells #[.int .i64 r1.1, .int .u64 r1.2.1] 24)
  replace K4 := K4.alloc (.cells #[.int .i64 r1.1, .int .u64 r1.2.1] 24)
  replace K7 := K7.alloc (.cells #[.int .i64 r1.1, .int .u64 r1.2.1] 24)
  replace I1 := Base.kept I1 (.cells #[.int .i64 r1.1, .int .u64 r1.2.1] 24)
  have h8 : w2.heap.size < (w2.alloc (.cells #[.int .i64 r1.1, .int .u64 r1.2.1] 24)).heap.size := by simp
  generalize w2.alloc (.cells #[.int .i64 r1.1, .int .u64 r1.2.1] 24) = X2 at *
  generalize w2.heap.size = g8 at *
  have hf8 : r1.2.2.1 = [] ∨ ∃ g4, A1 = some (⟨g4, 0, none⟩ : Addr) ∧ w.heap.size + 1 < g4 ∧ g4 ≠ g8 := hfr.imp id fun ⟨g4, e, h, h'⟩ => ⟨g4, e, by omega, by omega⟩
  clear hfr
  have h78 : w.heap.size + 1 < g8 := by omega
  by_cases he : r1.2.2.2 = 0
  · have g1 : (r1.2.2.2 != 0) = false := by simpa using he
    have u0 := K8.cell 0
    have u1 := K8.cell 1
    have c1' := K7.cell 1
    have c2' := K7.cell 2
    have f1 := Clk.frz K7 1
    have f2 := Clk.frz K7 2
    have l7 := K7.lt
    go_upto_region 6 with (fail)
    clear u0 u1 c1' c2' f1 f2 l7
    replace K7 : Blk ((X2.setCell ⟨w.heap.size + 1, 1, none⟩ (.int .i64 r1.1)).setCell ⟨w.heap.size + 1, 2, none⟩ (.int .u64 r1.2.1)) (w.heap.size + 1) 33 #[.int .i64 k, .int .i64 r1.1, .int .u64 r1.2.1, .int .i64 0, .int .u64 0, .slice none 0 0, .int .u32 0, .int .u32 0, .int .i64 0, .int .i64 0, .int .i64 0, .int .i64 0, .int .i64 0, .int .u64 0, .int .i64 0, .int .i64 0, .int .i64 0] := bset (bset K7 1 (.int .i64 r1.1) rfl) 2 (.int .u64 r1.2.1) rfl
    replace K4 : Blk ((X2.setCell ⟨w.heap.size + 1, 1, none⟩ (.int .i64 r1.1)).setCell ⟨w.heap.size + 1, 2, none⟩ (.int .u64 r1.2.1)) w.heap.size 33 #[.int .i64 0, .int .i64 0, .int .u64 0, .int .i64 0, .int .u64 0, .slice none 0 0, .int .u32 0, .int .u32 0, .int .i64 0, .int .i64 0, .int .i64 0, .int .i64 0, .int .i64 0, .int .u64 0, .int .i64 0, .int .i64 0, .int .i64 0] := bother (bother K4 (by omega) _) (by omega) _
    replace K8 : Blk ((X2.setCell ⟨w.heap.size + 1, 1, none⟩ (.int .i64 r1.1)).setCell ⟨w.heap.size + 1, 2, none⟩ (.int .u64 r1.2.1)) g8 24 #[.int .i64 r1.1, .int .u64 r1.2.1] := bother (bother K8 (by omega) _) (by omega) _
    replace I1 : Ints .u8 ((X2.setCell ⟨w.heap.size + 1, 1, none⟩ (.int .i64 r1.1)).setCell ⟨w.heap.size + 1, 2, none⟩ (.int .u64 r1.2.1)) ((X2.setCell ⟨w.heap.size + 1, 1, none⟩ (.int .i64 r1.1)).setCell ⟨w.heap.size + 1, 2, none⟩ (.int .u64 r1.2.1)).heap.size A1 r1.2.2.1 := (farC (hf8.imp id fun ⟨g4, e, h, _⟩ => ⟨g4, e, by omega⟩) (farC (hf8.imp id fun ⟨g4, e, h, _⟩ => ⟨g4, e, by omega⟩) I1)).more (by simp)
    replace BX : Below w.heap.size w ((X2.setCell ⟨w.heap.size + 1, 1, none⟩ (.int .i64 r1.1)).setCell ⟨w.heap.size + 1, 2, none⟩ (.int .u64 r1.2.1)) := (BX.setCell (p := ⟨w.heap.size + 1, 1, none⟩) (Nat.le_succ _) _).setCell (p := ⟨w.heap.size + 1, 2, none⟩) (Nat.le_succ _) _
    generalize ((X2.setCell ⟨w.heap.size + 1, 1, none⟩ (.int .i64 r1.1)).setCell ⟨w.heap.size + 1, 2, none⟩ (.int .u64 r1.2.1)) = X3 at *
    go_wp2_with fail
    refine (HT.out X3).mono ?_
    rintro e w9 ⟨rfl, rfl⟩
    cases T with
    | false =>
      have HZ : Hid (R = (adrP k r1.1 r1.2.1 0 0, r1.2.2.1, 0)) := Lib.hid (by rw [HR.out]; simp [he])
      clear HR he
      have H1 : (#[.int .i64 k, .int .i64 r1.1, .int .u64 r1.2.1, .int .i64 0, .int .u64 0, .slice none 0 0, .int .u32 0, .int .u32 0, .int .i64 0, .int .i64 0, .int .i64 0, .int .i64 0, .int .i64 0, .int .u64 0, .int .i64 0, .int .i64 0, .int .i64 0] : Array Value).all (·.oneCell') = true := by rw [← Array.all_toList]; rfl
      go_wp2_with (first | (refine wpList_store_row rfl 33 (.tmp 4) _ rfl w.heap.size #[.int .i64 k, .int .i64 r1.1, .int .u64 r1.2.1, .int .i64 0, .int .u64 0, .slice none 0 0, .int .u32 0, .int .u32 0, .int .i64 0, .int .i64 0, .int .i64 0, .int .i64 0, .int .i64 0, .int .u64 0, .int .i64 0, .int .i64 0, .int .i64 0] rfl rfl 33 _ K4 (by kernel_rfl) rfl H1 ?_) | (refine wpList_load_row rfl 33 (.tmp 7) rfl (w.heap.size + 1) rfl 33 _ (0, 0) _ K7 Tryd.underlying33 rfl (by kernel_rfl) ?_))
      have KR : Blk (X3.setRow w.heap.size #[.int .i64 k, .int .i64 r1.1, .int .u64 r1.2.1, .int .i64 0, .int .u64 0, .slice none 0 0, .int .u32 0, .int .u32 0, .int .i64 0, .int .i64 0, .int .i64 0, .int .i64 0, .int .i64 0, .int .u64 0, .int .i64 0, .int .i64 0, .int .i64 0]) w.heap.size 33 #[.int .i64 k, .int .i64 r1.1, .int .u64 r1.2.1, .int .i64 0, .int .u64 0, .slice none 0 0, .int .u32 0, .int .u32 0, .int .i64 0, .int .i64 0, .int .i64 0, .int .i64 0, .int .i64 0, .int .u64 0, .int .i64 0, .int .i64 0, .int .i64 0] := setRow_heap X3 w.heap.size _ #[.int .i64 k, .int .i64 r1.1, .int .u64 r1.2.1, .int .i64 0, .int .u64 0, .slice none 0 0, .int .u32 0, .int .u32 0, .int .i64 0, .int .i64 0, .int .i64 0, .int .i64 0, .int .i64 0, .int .u64 0, .int .i64 0, .int .i64 0, .int .i64 0] 33 (0, 0) K4
      have BE := below_setRow BX (Nat.le_refl _) #[.int .i64 k, .int .i64 r1.1, .int .u64 r1.2.1, .int .i64 0, .int .u64 0, .slice none 0 0, .int .u32 0, .int .u32 0, .int .i64 0, .int .i64 0, .int .i64 0, .int .i64 0, .int .i64 0, .int .u64 0, .int .i64 0, .int .i64 0, .int .i64 0]
      have IE := (farNe (g := w.heap.size) (cs := #[.int .i64 k, .int .i64 r1.1, .int .u64 r1.2.1, .int .i64 0, .int .u64 0, .slice none 0 0, .int .u32 0, .int .u32 0, .int .i64 0, .int .i64 0, .int .i64 0, .int .i64 0, .int .i64 0, .int .u64 0, .int .i64 0, .int .i64 0, .int .i64 0]) ((hf8).imp id fun ⟨g4, e, h, _⟩ => ⟨g4, e, by omega⟩) I1).more (Nat.le_of_eq (size_setRow X3 w.heap.size #[.int .i64 k, .int .i64 r1.1, .int .u64 r1.2.1, .int .i64 0, .int .u64 0, .slice none 0 0, .int .u32 0, .int .u32 0, .int .i64 0, .int .i64 0, .int .i64 0, .int .i64 0, .int .i64 0, .int .u64 0, .int .i64 0, .int .i64 0, .int .i64 0]).symm)
      have DD : DAs w (X3.setRow w.heap.size #[.int .i64 k, .int .i64 r1.1, .int .u64 r1.2.1, .int .i64 0, .int .u64 0, .slice none 0 0, .int .u32 0, .int .u32 0, .int .i64 0, .int .i64 0, .int .i64 0, .int .i64 0, .int .i64 0, .int .u64 0, .int .i64 0, .int .i64 0, .int .i64 0]) (.returned (.tuple #[.agg #[.int .i64 k, .int .i64 r1.1, .int .u64 r1.2.1, .int .i64 0, .int .u64 0, .slice none 0 0, .int .u32 0, .int .u32 0, .int .i64 0, .int .i64 0, .int .i64 0, .int .i64 0, .int .i64 0, .int .u64 0, .int .i64 0, .int .i64 0, .int .i64 0], .slice A1 r1.2.2.1.length c1, .int .i64 0])) (adrP k r1.1 r1.2.1 0 0, r1.2.2.1, 0) := ⟨A1, c1, rfl, hcap, IE, BE, (hf8).imp id fun ⟨g4, e, h, _⟩ => ⟨g4, e, by omega⟩⟩
      generalize X3.setRow w.heap.size #[.int .i64 k, .int .i64 r1.1, .int .u64 r1.2.1, .int .i64 0, .int .u64 0, .slice none 0 0, .int .u32 0, .int .u32 0, .int .i64 0, .int .i64 0, .int .i64 0, .int .i64 0, .int .i64 0, .int .u64 0, .int .i64 0, .int .i64 0, .int .i64 0] = Y at *
      have HL := run_loadVar_row (P := Tryd.prog) Y w.heap.size 33 33 #[.int .i64 k, .int .i64 r1.1, .int .u64 r1.2.1, .int .i64 0, .int .u64 0, .slice none 0 0, .int .u32 0, .int .u32 0, .int .i64 0, .int .i64 0, .int .i64 0, .int .i64 0, .int .i64 0, .int .u64 0, .int .i64 0, .int .i64 0, .int .i64 0] (0, 0) _ KR Tryd.underlying33 rfl (by kernel_rfl)
      refine bodyPost_ret (v := .tuple #[.agg #[.int .i64 k, .int .i64 r1.1, .int .u64 r1.2.1, .int .i64 0, .int .u64 0, .slice none 0 0, .int .u32 0, .int .u32 0, .int .i64 0, .int .i64 0, .int .i64 0, .int .i64 0, .int .i64 0, .int .u64 0, .int .i64 0, .int .i64 0, .int .i64 0], .slice A1 r1.2.2.1.length c1, .int .i64 0]) ?_ rfl (by rw [HZ.out]; exact DD)
      generalize (#[.int .i64 k, .int .i64 r1.1, .int .u64 r1.2.1, .int .i64 0, .int .u64 0, .slice none 0 0, .int .u32 0, .int .u32 0, .int .i64 0, .int .i64 0, .int .i64 0, .int .i64 0, .int .i64 0, .int .u64 0, .int .i64 0, .int .i64 0, .int .i64 0] : Array Value) = CS at *
      simp [results, show (Tryd.f43).results = #[.cell 4 33, .slot 5, .slot 6] from rfl, asAddr, HL]
    | true =>
      go_wp2_with fail
      refine (HD2.out A1 c1 X3 I1 hcap).mono ?_
      rintro e w3 ⟨A2, c2, rfl, hcap2, I2, b3, hfr2⟩
      replace hfr2 := fresh_ne I2 hfr2
      have l8 := K8.lt
      have hf9 : r2.2.2.1 = [] ∨ ∃ g4, A2 = some (⟨g4, 0, none⟩ : Addr) ∧ w.heap.size + 1 < g4 ∧ g4 ≠ g8 := hfr2.imp id fun ⟨g4, e, h, h'⟩ => ⟨g4, e, by omega, by omega⟩
      clear hfr2 hf8 I1
      replace BX := thenB BX b3
      replace K4 := K4.below b3 K4.lt
      replace K7 := K7.below b3 K7.lt
      replace K8 := K8.below b3 K8.lt
      clear b3
      have u0 := K8.cell 0
      have u1 := K8.cell 1
      have f0 := Clk.frz K8 0
      have f1 := Clk.frz K8 1
      have l8' := K8.lt
      go_upto_region 8 with (fail)
      clear u0 u1 f0 f1
      replace K8 : Blk ((w3.setCell ⟨g8, 0, none⟩ (.int .i64 r2.1)).setCell ⟨g8, 1, none⟩ (.int .u64 r2.2.1)) g8 24 #[.int .i64 r2.1, .int .u64 r2.2.1] := bset (bset K8 0 (.int .i64 r2.1) rfl) 1 (.int .u64 r2.2.1) rfl
      replace K7 : Blk ((w3.setCell ⟨g8, 0, none⟩ (.int .i64 r2.1)).setCell ⟨g8, 1, none⟩ (.int .u64 r2.2.1)) (w.heap.size + 1) 33 #[.int .i64 k, .int .i64 r1.1, .int .u64 r1.2.1, .int .i64 0, .int .u64 0, .slice none 0 0, .int .u32 0, .int .u32 0, .int .i64 0, .int .i64 0, .int .i64 0, .int .i64 0, .int .i64 0, .int .u64 0, .int .i64 0, .int .i64 0, .int .i64 0] := bother (bother K7 (by omega) _) (by omega) _
      replace K4 : Blk ((w3.setCell ⟨g8, 0, none⟩ (.int .i64 r2.1)).setCell ⟨g8, 1, none⟩ (.int .u64 r2.2.1)) w.heap.size 33 #[.int .i64 0, .int .i64 0, .int .u64 0, .int .i64 0, .int .u64 0, .slice none 0 0, .int .u32 0, .int .u32 0, .int .i64 0, .int .i64 0, .int .i64 0, .int .i64 0, .int .i64 0, .int .u64 0, .int .i64 0, .int .i64 0, .int .i64 0] := bother (bother K4 (by omega) _) (by omega) _
      replace I2 : Ints .u8 ((w3.setCell ⟨g8, 0, none⟩ (.int .i64 r2.1)).setCell ⟨g8, 1, none⟩ (.int .u64 r2.2.1)) ((w3.setCell ⟨g8, 0, none⟩ (.int .i64 r2.1)).setCell ⟨g8, 1, none⟩ (.int .u64 r2.2.1)).heap.size A2 r2.2.2.1 := (farC (hf9.imp id fun ⟨g4, e, _, h⟩ => ⟨g4, e, h⟩) (farC (hf9.imp id fun ⟨g4, e, _, h⟩ => ⟨g4, e, h⟩) I2)).more (by simp)
      replace BX : Below w.heap.size w ((w3.setCell ⟨g8, 0, none⟩ (.int .i64 r2.1)).setCell ⟨g8, 1, none⟩ (.int .u64 r2.2.1)) := (BX.setCell (p := ⟨g8, 0, none⟩) (by show w.heap.size ≤ g8; omega) _).setCell (p := ⟨g8, 1, none⟩) (by show w.heap.size ≤ g8; omega) _
      generalize ((w3.setCell ⟨g8, 0, none⟩ (.int .i64 r2.1)).setCell ⟨g8, 1, none⟩ (.int .u64 r2.2.1)) = X4 at *
      by_cases he2 : r2.2.2.2 = 0
      · have g2 : (r2.2.2.2 != 0) = false := by simpa using he2
        have HZ : Hid (R = (adrP k r1.1 r1.2.1 r2.1 r2.2.1, r2.2.2.1, 0)) := Lib.hid (by rw [HR.out]; simp [he, he2])
        clear HR he he2
        have u0 := K8.cell 0
        have u1 := K8.cell 1
        have c3' := K7.cell 3
        have c4' := K7.cell 4
        have f3 := Clk.frz K7 3
        have f4 := Clk.frz K7 4
        have l7 := K7.lt
        go_upto_region 11 with (fail)
        clear u0 u1 c3' c4' f3 f4 l7
        replace K7 : Blk ((X4.setCell ⟨w.heap.size + 1, 3, none⟩ (.int .i64 r2.1)).setCell ⟨w.heap.size + 1, 4, none⟩ (.int .u64 r2.2.1)) (w.heap.size + 1) 33 #[.int .i64 k, .int .i64 r1.1, .int .u64 r1.2.1, .int .i64 r2.1, .int .u64 r2.2.1, .slice none 0 0, .int .u32 0, .int .u32 0, .int .i64 0, .int .i64 0, .int .i64 0, .int .i64 0, .int .i64 0, .int .u64 0, .int .i64 0, .int .i64 0, .int .i64 0] := bset (bset K7 3 (.int .i64 r2.1) rfl) 4 (.int .u64 r2.2.1) rfl
        replace K4 : Blk ((X4.setCell ⟨w.heap.size + 1, 3, none⟩ (.int .i64 r2.1)).setCell ⟨w.heap.size + 1, 4, none⟩ (.int .u64 r2.2.1)) w.heap.size 33 #[.int .i64 0, .int .i64 0, .int .u64 0, .int .i64 0, .int .u64 0, .slice none 0 0, .int .u32 0, .int .u32 0, .int .i64 0, .int .i64 0, .int .i64 0, .int .i64 0, .int .i64 0, .int .u64 0, .int .i64 0, .int .i64 0, .int .i64 0] := bother (bother K4 (by omega) _) (by omega) _
        replace I2 : Ints .u8 ((X4.setCell ⟨w.heap.size + 1, 3, none⟩ (.int .i64 r2.1)).setCell ⟨w.heap.size + 1, 4, none⟩ (.int .u64 r2.2.1)) ((X4.setCell ⟨w.heap.size + 1, 3, none⟩ (.int .i64 r2.1)).setCell ⟨w.heap.size + 1, 4, none⟩ (.int .u64 r2.2.1)).heap.size A2 r2.2.2.1 := (farC (hf9.imp id fun ⟨g4, e, h, _⟩ => ⟨g4, e, by omega⟩) (farC (hf9.imp id fun ⟨g4, e, h, _⟩ => ⟨g4, e, by omega⟩) I2)).more (by simp)
        replace BX : Below w.heap.size w ((X4.setCell ⟨w.heap.size + 1, 3, none⟩ (.int .i64 r2.1)).setCell ⟨w.heap.size + 1, 4, none⟩ (.int .u64 r2.2.1)) := (BX.setCell (p := ⟨w.heap.size + 1, 3, none⟩) (Nat.le_succ _) _).setCell (p := ⟨w.heap.size + 1, 4, none⟩) (Nat.le_succ _) _
        clear K8
        generalize ((X4.setCell ⟨w.heap.size + 1, 3, none⟩ (.int .i64 r2.1)).setCell ⟨w.heap.size + 1, 4, none⟩ (.int .u64 r2.2.1)) = X5 at *
        have H1 : (#[.int .i64 k, .int .i64 r1.1, .int .u64 r1.2.1, .int .i64 r2.1, .int .u64 r2.2.1, .slice none 0 0, .int .u32 0, .int .u32 0, .int .i64 0, .int .i64 0, .int .i64 0, .int .i64 0, .int .i64 0, .int .u64 0, .int .i64 0, .int .i64 0, .int .i64 0] : Array Value).all (·.oneCell') = true := by rw [← Array.all_toList]; rfl
        go_wp2_with (first | (refine wpList_store_row rfl 33 (.tmp 4) _ rfl w.heap.size #[.int .i64 k, .int .i64 r1.1, .int .u64 r1.2.1, .int .i64 r2.1, .int .u64 r2.2.1, .slice none 0 0, .int .u32 0, .int .u32 0, .int .i64 0, .int .i64 0, .int .i64 0, .int .i64 0, .int .i64 0, .int .u64 0, .int .i64 0, .int .i64 0, .int .i64 0] rfl rfl 33 _ K4 (by kernel_rfl) rfl H1 ?_) | (refine wpList_load_row rfl 33 (.tmp 7) rfl (w.heap.size + 1) rfl 33 _ (0, 0) _ K7 Tryd.underlying33 rfl (by kernel_rfl) ?_))
        have KR : Blk (X5.setRow w.heap.size #[.int .i64 k, .int .i64 r1.1, .int .u64 r1.2.1, .int .i64 r2.1, .int .u64 r2.2.1, .slice none 0 0, .int .u32 0, .int .u32 0, .int .i64 0, .int .i64 0, .int .i64 0, .int .i64 0, .int .i64 0, .int .u64 0, .int .i64 0, .int .i64 0, .int .i64 0]) w.heap.size 33 #[.int .i64 k, .int .i64 r1.1, .int .u64 r1.2.1, .int .i64 r2.1, .int .u64 r2.2.1, .slice none 0 0, .int .u32 0, .int .u32 0, .int .i64 0, .int .i64 0, .int .i64 0, .int .i64 0, .int .i64 0, .int .u64 0, .int .i64 0, .int .i64 0, .int .i64 0] := setRow_heap X5 w.heap.size _ #[.int .i64 k, .int .i64 r1.1, .int .u64 r1.2.1, .int .i64 r2.1, .int .u64 r2.2.1, .slice none 0 0, .int .u32 0, .int .u32 0, .int .i64 0, .int .i64 0, .int .i64 0, .int .i64 0, .int .i64 0, .int .u64 0, .int .i64 0, .int .i64 0, .int .i64 0] 33 (0, 0) K4
        have BE := below_setRow BX (Nat.le_refl _) #[.int .i64 k, .int .i64 r1.1, .int .u64 r1.2.1, .int .i64 r2.1, .int .u64 r2.2.1, .slice none 0 0, .int .u32 0, .int .u32 0, .int .i64 0, .int .i64 0, .int .i64 0, .int .i64 0, .int .i64 0, .int .u64 0, .int .i64 0, .int .i64 0, .int .i64 0]
        have IE := (farNe (g := w.heap.size) (cs := #[.int .i64 k, .int .i64 r1.1, .int .u64 r1.2.1, .int .i64 r2.1, .int .u64 r2.2.1, .slice none 0 0, .int .u32 0, .int .u32 0, .int .i64 0, .int .i64 0, .int .i64 0, .int .i64 0, .int .i64 0, .int .u64 0, .int .i64 0, .int .i64 0, .int .i64 0]) ((hf9).imp id fun ⟨g4, e, h, _⟩ => ⟨g4, e, by omega⟩) I2).more (Nat.le_of_eq (size_setRow X5 w.heap.size #[.int .i64 k, .int .i64 r1.1, .int .u64 r1.2.1, .int .i64 r2.1, .int .u64 r2.2.1, .slice none 0 0, .int .u32 0, .int .u32 0, .int .i64 0, .int .i64 0, .int .i64 0, .int .i64 0, .int .i64 0, .int .u64 0, .int .i64 0, .int .i64 0, .int .i64 0]).symm)
        have DD : DAs w (X5.setRow w.heap.size #[.int .i64 k, .int .i64 r1.1, .int .u64 r1.2.1, .int .i64 r2.1, .int .u64 r2.2.1, .slice none 0 0, .int .u32 0, .int .u32 0, .int .i64 0, .int .i64 0, .int .i64 0, .int .i64 0, .int .i64 0, .int .u64 0, .int .i64 0, .int .i64 0, .int .i64 0]) (.returned (.tuple #[.agg #[.int .i64 k, .int .i64 r1.1, .int .u64 r1.2.1, .int .i64 r2.1, .int .u64 r2.2.1, .slice none 0 0, .int .u32 0, .int .u32 0, .int .i64 0, .int .i64 0, .int .i64 0, .int .i64 0, .int .i64 0, .int .u64 0, .int .i64 0, .int .i64 0, .int .i64 0], .slice A2 r2.2.2.1.length c2, .int .i64 0])) (adrP k r1.1 r1.2.1 r2.1 r2.2.1, r2.2.2.1, 0) := ⟨A2, c2, rfl, hcap2, IE, BE, (hf9).imp id fun ⟨g4, e, h, _⟩ => ⟨g4, e, by omega⟩⟩
        generalize X5.setRow w.heap.size #[.int .i64 k, .int .i64 r1.1, .int .u64 r1.2.1, .int .i64 r2.1, .int .u64 r2.2.1, .slice none 0 0, .int .u32 0, .int .u32 0, .int .i64 0, .int .i64 0, .int .i64 0, .int .i64 0, .int .i64 0, .int .u64 0, .int .i64 0, .int .i64 0, .int .i64 0] = Y at *
        have HL := run_loadVar_row (P := Tryd.prog) Y w.heap.size 33 33 #[.int .i64 k, .int .i64 r1.1, .int .u64 r1.2.1, .int .i64 r2.1, .int .u64 r2.2.1, .slice none 0 0, .int .u32 0, .int .u32 0, .int .i64 0, .int .i64 0, .int .i64 0, .int .i64 0, .int .i64 0, .int .u64 0, .int .i64 0, .int .i64 0, .int .i64 0] (0, 0) _ KR Tryd.underlying33 rfl (by kernel_rfl)
        refine bodyPost_ret (v := .tuple #[.agg #[.int .i64 k, .int .i64 r1.1, .int .u64 r1.2.1, .int .i64 r2.1, .int .u64 r2.2.1, .slice none 0 0, .int .u32 0, .int .u32 0, .int .i64 0, .int .i64 0, .int .i64 0, .int .i64 0, .int .i64 0, .int .u64 0, .int .i64 0, .int .i64 0, .int .i64 0], .slice A2 r2.2.2.1.length c2, .int .i64 0]) ?_ rfl (by rw [HZ.out]; exact DD)
        generalize (#[.int .i64 k, .int .i64 r1.1, .int .u64 r1.2.1, .int .i64 r2.1, .int .u64 r2.2.1, .slice none 0 0, .int .u32 0, .int .u32 0, .int .i64 0, .int .i64 0, .int .i64 0, .int .i64 0, .int .i64 0, .int .u64 0, .int .i64 0, .int .i64 0, .int .i64 0] : Array Value) = CS at *
        simp [results, show (Tryd.f43).results = #[.cell 4 33, .slot 5, .slot 6] from rfl, asAddr, HL]
      · have g2 : (r2.2.2.2 != 0) = true := by simpa using he2
        have HZ : Hid (R = (zp, [], r2.2.2.2)) := Lib.hid (by rw [HR.out]; simp [he, he2])
        clear HR he he2 K8 K7 I2
        have H1 : (#[.int .i64 0, .int .i64 0, .int .u64 0, .int .i64 0, .int .u64 0, .slice none 0 0, .int .u32 0, .int .u32 0, .int .i64 0, .int .i64 0, .int .i64 0, .int .i64 0, .int .i64 0, .int .u64 0, .int .i64 0, .int .i64 0, .int .i64 0] : Array Value).all (·.oneCell') = true := by rw [← Array.all_toList]; rfl
        go_wp2_with (refine wpList_store_row rfl 33 (.tmp 4) _ rfl w.heap.size #[.int .i64 0, .int .i64 0, .int .u64 0, .int .i64 0, .int .u64 0, .slice none 0 0, .int .u32 0, .int .u32 0, .int .i64 0, .int .i64 0, .int .i64 0, .int .i64 0, .int .i64 0, .int .u64 0, .int .i64 0, .int .i64 0, .int .i64 0] rfl rfl 33 _ K4 (by kernel_rfl) rfl H1 ?_)
        have KR : Blk (X4.setRow w.heap.size #[.int .i64 0, .int .i64 0, .int .u64 0, .int .i64 0, .int .u64 0, .slice none 0 0, .int .u32 0, .int .u32 0, .int .i64 0, .int .i64 0, .int .i64 0, .int .i64 0, .int .i64 0, .int .u64 0, .int .i64 0, .int .i64 0, .int .i64 0]) w.heap.size 33 #[.int .i64 0, .int .i64 0, .int .u64 0, .int .i64 0, .int .u64 0, .slice none 0 0, .int .u32 0, .int .u32 0, .int .i64 0, .int .i64 0, .int .i64 0, .int .i64 0, .int .i64 0, .int .u64 0, .int .i64 0, .int .i64 0, .int .i64 0] := setRow_heap X4 w.heap.size _ #[.int .i64 0, .int .i64 0, .int .u64 0, .int .i64 0, .int .u64 0, .slice none 0 0, .int .u32 0, .int .u32 0, .int .i64 0, .int .i64 0, .int .i64 0, .int .i64 0, .int .i64 0, .int .u64 0, .int .i64 0, .int .i64 0, .int .i64 0] 33 (0, 0) K4
        have BE := below_setRow BX (Nat.le_refl _) #[.int .i64 0, .int .i64 0, .int .u64 0, .int .i64 0, .int .u64 0, .slice none 0 0, .int .u32 0, .int .u32 0, .int .i64 0, .int .i64 0, .int .i64 0, .int .i64 0, .int .i64 0, .int .u64 0, .int .i64 0, .int .i64 0, .int .i64 0]
        have DD : DAs w (X4.setRow w.heap.size #[.int .i64 0, .int .i64 0, .int .u64 0, .int .i64 0, .int .u64 0, .slice none 0 0, .int .u32 0, .int .u32 0, .int .i64 0, .int .i64 0, .int .i64 0, .int .i64 0, .int .i64 0, .int .u64 0, .int .i64 0, .int .i64 0, .int .i64 0]) (.returned (.tuple #[.agg #[.int .i64 0, .int .i64 0, .int .u64 0, .int .i64 0, .int .u64 0, .slice none 0 0, .int .u32 0, .int .u32 0, .int .i64 0, .int .i64 0, .int .i64 0, .int .i64 0, .int .i64 0, .int .u64 0, .int .i64 0, .int .i64 0, .int .i64 0], .slice none 0 0, .int .i64 r2.2.2.2])) (zp, [], r2.2.2.2) := ⟨none, 0, rfl, Nat.le_refl _, .inl rfl, BE, .inl rfl⟩
        generalize X4.setRow w.heap.size #[.int .i64 0, .int .i64 0, .int .u64 0, .int .i64 0, .int .u64 0, .slice none 0 0, .int .u32 0, .int .u32 0, .int .i64 0, .int .i64 0, .int .i64 0, .int .i64 0, .int .i64 0, .int .u64 0, .int .i64 0, .int .i64 0, .int .i64 0] = Y at *
        have HL := run_loadVar_row (P := Tryd.prog) Y w.heap.size 33 33 #[.int .i64 0, .int .i64 0, .int .u64 0, .int .i64 0, .int .u64 0, .slice none 0 0, .int .u32 0, .int .u32 0, .int .i64 0, .int .i64 0, .int .i64 0, .int .i64 0, .int .i64 0, .int .u64 0, .int .i64 0, .int .i64 0, .int .i64 0] (0, 0) _ KR Tryd.underlying33 rfl (by kernel_rfl)
        refine bodyPost_ret (v := .tuple #[.agg #[.int .i64 0, .int .i64 0, .int .u64 0, .int .i64 0, .int .u64 0, .slice none 0 0, .int .u32 0, .int .u32 0, .int .i64 0, .int .i64 0, .int .i64 0, .int .i64 0, .int .i64 0, .int .u64 0, .int .i64 0, .int .i64 0, .int .i64 0], .slice none 0 0, .int .i64 r2.2.2.2]) ?_ rfl (by rw [HZ.out]; exact DD)
        generalize (#[.int .i64 0, .int .i64 0, .int .u64 0, .int .i64 0, .int .u64 0, .slice none 0 0, .int .u32 0, .int .u32 0, .int .i64 0, .int .i64 0, .int .i64 0, .int .i64 0, .int .i64 0, .int .u64 0, .int .i64 0, .int .i64 0, .int .i64 0] : Array Value) = CS at *
        simp [results, show (Tryd.f43).results = #[.cell 4 33, .slot 5, .slot 6] from rfl, asAddr, HL]
  · have g1 : (r1.2.2.2 != 0) = true := by simpa using he
    have HZ : Hid (R = (zp, [], r1.2.2.2)) := Lib.hid (by rw [HR.out]; simp [he])
    clear HR he K8 K7 I1
    have H1 : (#[.int .i64 0, .int .i64 0, .int .u64 0, .int .i64 0, .int .u64 0, .slice none 0 0, .int .u32 0, .int .u32 0, .int .i64 0, .int .i64 0, .int .i64 0, .int .i64 0, .int .i64 0, .int .u64 0, .int .i64 0, .int .i64 0, .int .i64 0] : Array Value).all (·.oneCell') = true := by rw [← Array.all_toList]; rfl
    go_wp2_with (refine wpList_store_row rfl 33 (.tmp 4) _ rfl w.heap.size #[.int .i64 0, .int .i64 0, .int .u64 0, .int .i64 0, .int .u64 0, .slice none 0 0, .int .u32 0, .int .u32 0, .int .i64 0, .int .i64 0, .int .i64 0, .int .i64 0, .int .i64 0, .int .u64 0, .int .i64 0, .int .i64 0, .int .i64 0] rfl rfl 33 _ K4 (by kernel_rfl) rfl H1 ?_)
    have KR : Blk (X2.setRow w.heap.size #[.int .i64 0, .int .i64 0, .int .u64 0, .int .i64 0, .int .u64 0, .slice none 0 0, .int .u32 0, .int .u32 0, .int .i64 0, .int .i64 0, .int .i64 0, .int .i64 0, .int .i64 0, .int .u64 0, .int .i64 0, .int .i64 0, .int .i64 0]) w.heap.size 33 #[.int .i64 0, .int .i64 0, .int .u64 0, .int .i64 0, .int .u64 0, .slice none 0 0, .int .u32 0, .int .u32 0, .int .i64 0, .int .i64 0, .int .i64 0, .int .i64 0, .int .i64 0, .int .u64 0, .int .i64 0, .int .i64 0, .int .i64 0] := setRow_heap X2 w.heap.size _ #[.int .i64 0, .int .i64 0, .int .u64 0, .int .i64 0, .int .u64 0, .slice none 0 0, .int .u32 0, .int .u32 0, .int .i64 0, .int .i64 0, .int .i64 0, .int .i64 0, .int .i64 0, .int .u64 0, .int .i64 0, .int .i64 0, .int .i64 0] 33 (0, 0) K4
    have BE := below_setRow BX (Nat.le_refl _) #[.int .i64 0, .int .i64 0, .int .u64 0, .int .i64 0, .int .u64 0, .slice none 0 0, .int .u32 0, .int .u32 0, .int .i64 0, .int .i64 0, .int .i64 0, .int .i64 0, .int .i64 0, .int .u64 0, .int .i64 0, .int .i64 0, .int .i64 0]
    have DD : DAs w (X2.setRow w.heap.size #[.int .i64 0, .int .i64 0, .int .u64 0, .int .i64 0, .int .u64 0, .slice none 0 0, .int .u32 0, .int .u32 0, .int .i64 0, .int .i64 0, .int .i64 0, .int .i64 0, .int .i64 0, .int .u64 0, .int .i64 0, .int .i64 0, .int .i64 0]) (.returned (.tuple #[.agg #[.int .i64 0, .int .i64 0, .int .u64 0, .int .i64 0, .int .u64 0, .slice none 0 0, .int .u32 0, .int .u32 0, .int .i64 0, .int .i64 0, .int .i64 0, .int .i64 0, .int .i64 0, .int .u64 0, .int .i64 0, .int .i64 0, .int .i64 0], .slice none 0 0, .int .i64 r1.2.2.2])) (zp, [], r1.2.2.2) := ⟨none, 0, rfl, Nat.le_refl _, .inl rfl, BE, .inl rfl⟩
    generalize X2.setRow w.heap.size #[.int .i64 0, .int .i64 0, .int .u64 0, .int .i64 0, .int .u64 0, .slice none 0 0, .int .u32 0, .int .u32 0, .int .i64 0, .int .i64 0, .int .i64 0, .int .i64 0, .int .i64 0, .int .u64 0, .int .i64 0, .int .i64 0, .int .i64 0] = Y at *
    have HL := run_loadVar_row (P := Tryd.prog) Y w.heap.size 33 33 #[.int .i64 0, .int .i64 0, .int .u64 0, .int .i64 0, .int .u64 0, .slice none 0 0, .int .u32 0, .int .u32 0, .int .i64 0, .int .i64 0, .int .i64 0, .int .i64 0, .int .i64 0, .int .u64 0, .int .i64 0, .int .i64 0, .int .i64 0] (0, 0) _ KR Tryd.underlying33 rfl (by kernel_rfl)
    refine bodyPost_ret (v := .tuple #[.agg #[.int .i64 0, .int .i64 0, .int .u64 0, .int .i64 0, .int .u64 0, .slice none 0 0, .int .u32 0, .int .u32 0, .int .i64 0, .int .i64 0, .int .i64 0, .int .i64 0, .int .i64 0, .int .u64 0, .int .i64 0, .int .i64 0, .int .i64 0], .slice none 0 0, .int .i64 r1.2.2.2]) ?_ rfl (by rw [HZ.out]; exact DD)
    generalize (#[.int .i64 0, .int .i64 0, .int .u64 0, .int .i64 0, .int .u64 0, .slice none 0 0, .int .u32 0, .int .u32 0, .int .i64 0, .int .i64 0, .int .i64 0, .int .i64 0, .int .i64 0, .int .u64 0, .int .i64 0, .int .i64 0, .int .i64 0] : Array Value) = CS at *
    simp [results, show (Tryd.f43).results = #[.cell 4 33, .slot 5, .slot 6] from rfl, asAddr, HL]
end Go.Proofs.YtcjlliilfecmnaaDoor.Ap
