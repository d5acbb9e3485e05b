/- Advertising PDUs: what bytes are decoded to: plain mathematics; the header, addresses: contracts over the program. Seventeen cells that are written: no function is mentioned. -/
import Derived.Test.YtcjlliilfecmnaaDoorKM9
import Derived.Test.YtcjlliilfecmnaaDoorKApRChk
import Derived.Test.YtcjlliilfecmnaaDoorKAdqDecode2
import Derived.Test.YtcjlliilfecmnaaDoorKCnDec
import Derived.Test.YtcjlliilfecmnaaDoorKCnRDec
import Derived.Laws.Tables
import Derived.Laws.Rows
import Derived.Laws.CopyOwn
import Derived.Deep.CutRange
section
set_option linter.unusedVariables false
set_option linter.unusedSimpArgs false
namespace Go.Proofs.YtcjlliilfecmnaaDoor.Ap
open Go.RowKit Mem Oct
open Base (thenB)

/-- The PDU of zeros; a PDU of a kind, with its addresses. -/
def zp : Pd := ⟨0, 0, 0, 0, 0, [], 0, 0, 0, 0, 0, 0, 0, 0, 0, 0, 0⟩
def adrP (k sk sb tk tb : Int) : Pd := ⟨k, sk, sb, tk, tb, [], 0, 0, 0, 0, 0, 0, 0, 0, 0, 0, 0⟩
/-- What an address is decoded to: the address, what is left, the error. -/
def dA (xs : List Int) : Int × Int × List Int × Int :=
  if xs.length < 7 then (0, 0, [], 3) else if Adr.chk (xs.getD 0 0) (valL ((xs.drop 1).take 6)) = 0 then (xs.getD 0 0, valL ((xs.drop 1).take 6), xs.drop 7, 0) else (0, 0, [], Adr.chk (xs.getD 0 0) (valL ((xs.drop 1).take 6)))
/-- The error of a header. -/
def hdrE (xs : List Int) : Int :=
  if xs.length < 2 then 3 else if 6 < xs.getD 0 0 % 16 then 12 else if xs.getD 0 0 / 16 % 4 ≠ 0 then 2 else if (xs.length : Int) < 2 + xs.getD 1 0 then 3 else if 2 + xs.getD 1 0 < xs.length then 2 else 0
theorem and_all : ∀ x : Fin 256, bits .and .u8 (x.val : Int) 15 = (x.val : Int) % 16 ∧ (bits .and .u8 (x.val : Int) 48 != 0) = ((x.val : Int) / 16 % 4 != 0) := by decide +kernel
theorem and_facts (x : Int) (h : 0 ≤ x ∧ x ≤ 255) : bits .and .u8 x 15 = x % 16 ∧ (bits .and .u8 x 48 != 0) = (x / 16 % 4 != 0) := by
  obtain ⟨n, rfl⟩ := Int.eq_ofNat_of_zero_le h.1
  exact and_all ⟨n, by omega⟩
/-- An address was decoded. -/
def DAd (w w' : World) (e : Ending) (r : Int × Int × List Int × Int) : Prop :=
  ∃ A c, e = .returned (.tuple #[.agg #[.int .i64 r.1, .int .u64 r.2.1], .slice A r.2.2.1.length c, .int .i64 r.2.2.2]) ∧ r.2.2.1.length ≤ c ∧ Ints .u8 w' w'.heap.size A r.2.2.1 ∧ Below w.heap.size w w' ∧ (r.2.2.1 = [] ∨ ∃ g4, A = some ⟨g4, 0, none⟩ ∧ w.heap.size ≤ g4)
theorem adec_any (A : Option Addr) (n c : Nat) (xs : List Int) (w : World) (hx : xs.length = n) (hnc : n ≤ c) (hn2 : n ≤ 1000) (bxs : Bytes xs) (hr : Ints .u8 w w.heap.size A xs) (hT : Adr.Tab w) :
    Calls Tryd.prog 58 #[.slice A n c] w fun e w' => DAd w w' e (dA xs) := by
  by_cases h7 : n < 7
  · have hd : dA xs = (0, 0, [], 3) := by unfold dA; rw [if_pos (by omega)]
    rw [hd]
    exact (Adr.decode_short A n c xs w hx hnc h7 bxs hr).mono fun e w' ⟨he, hb⟩ => ⟨none, 0, he, Nat.le_refl _, .inl rfl, hb, .inl rfl⟩
  · by_cases hc : Adr.chk (xs.getD 0 0) (valL ((xs.drop 1).take 6)) = 0
    · have hd : dA xs = (xs.getD 0 0, valL ((xs.drop 1).take 6), xs.drop 7, 0) := by unfold dA; rw [if_neg (by omega), if_pos hc]
      rw [hd]
      exact (Adr.decode_ok A n c xs w hx hnc h7 hn2 bxs hr hT hc).mono fun e w' ⟨A', c', he, hcap, hi, hb, hf⟩ => ⟨A', c', by simpa [hx] using he, by simpa [hx] using hcap, hi, hb, hf⟩
    · have hd : dA xs = (0, 0, [], Adr.chk (xs.getD 0 0) (valL ((xs.drop 1).take 6))) := by unfold dA; rw [if_neg (by omega), if_neg hc]
      rw [hd]
      exact (Adr.decode_err A n c xs w hx hnc h7 hn2 bxs hr hT hc).mono fun e w' ⟨he, hb⟩ => ⟨none, 0, he, Nat.le_refl _, .inl rfl, hb, .inl rfl⟩
theorem radec_any (A : Option Addr) (n c : Nat) (xs : List Int) (w : World) (hx : xs.length = n) (hnc : n ≤ c) (hn2 : n ≤ 1000) (bxs : Bytes xs) (hr : Ints .u8 w w.heap.size A xs) :
    Calls Tryd.prog 60 #[.slice A n c] w fun e w' => DAd w w' e (dA xs) := by
  by_cases h7 : n < 7
  · have hd : dA xs = (0, 0, [], 3) := by unfold dA; rw [if_pos (by omega)]
    rw [hd]
    exact (Adr.rdecode_short A n c w h7).mono fun e w' ⟨he, hb⟩ => ⟨none, 0, he, Nat.le_refl _, .inl rfl, hb, .inl rfl⟩
  · by_cases hc : Adr.chk (xs.getD 0 0) (valL ((xs.drop 1).take 6)) = 0
    · have hd : dA xs = (xs.getD 0 0, valL ((xs.drop 1).take 6), xs.drop 7, 0) := by unfold dA; rw [if_neg (by omega), if_pos hc]
      rw [hd]
      by_cases hc7 : c = 7
      · obtain rfl : n = 7 := by omega
        subst hc7
        exact (Adr.rdecode_seven A xs w hx bxs hr hc).mono fun e w' ⟨A', c', he, hcap, hi, hb, hf⟩ => ⟨A', c', by simpa [hx] using he, by simp [hx], hi, hb, hf⟩
      · exact (Adr.rdecode_ok A n c xs w hx hnc h7 hn2 hc7 bxs hr hc).mono fun e w' ⟨A', c', he, hcap, hi, hb, hf⟩ => ⟨A', c', by simpa [hx] using he, by simpa [hx] using hcap, hi, hb, hf⟩
    · have hd : dA xs = (0, 0, [], Adr.chk (xs.getD 0 0) (valL ((xs.drop 1).take 6))) := by unfold dA; rw [if_neg (by omega), if_neg hc]
      rw [hd]
      exact (Adr.rdecode_err A n c xs w hx hnc h7 hn2 bxs hr hc).mono fun e w' ⟨he, hb⟩ => ⟨none, 0, he, Nat.le_refl _, .inl rfl, hb, .inl rfl⟩
set_option maxHeartbeats 2000000 in
theorem header_any (A : Option Addr) (n c : Nat) (xs : List Int) (w : World) (hx : xs.length = n) (bxs : Bytes xs) (hr : Ints .u8 w w.heap.size A xs) :
    Calls Tryd.prog 40 #[.slice A n c] w fun e w' => e = .returned (.int .i64 (hdrE xs)) ∧ Below w.heap.size w w' := by
  by_cases h2 : n < 2
  · have e : Hid (hdrE xs = 3) := Lib.hid (by unfold hdrE; rw [if_pos (by omega)])
    rw [e.out]
    have g1 : (n : Int) < 2 := by omega
    clear hx hr bxs
    go_enter Tryd.func40, Tryd.ntmps40
    go_wp2_with fail
    go_ret
    exact ⟨rfl, Below.refl _ _⟩
  · obtain ⟨b, off, rfl, hbl, hc⟩ := hr.at_ (i := 0) (by omega)
    have c0 := hc 0 (by omega)
    have c1 := hc 1 (by omega)
    have hb0 : 0 ≤ xs.getD 0 0 ∧ xs.getD 0 0 ≤ 255 := bxs _ (by simp [List.getD, List.getElem?_eq_getElem (show 0 < xs.length by omega)])
    have hb1 : 0 ≤ xs.getD 1 0 ∧ xs.getD 1 0 ≤ 255 := bxs _ (by simp [List.getD, List.getElem?_eq_getElem (show 1 < xs.length by omega)])
    obtain ⟨a1, a2⟩ := and_facts _ hb0
    have HR : Hid (hdrE xs = if 6 < xs.getD 0 0 % 16 then 12 else if xs.getD 0 0 / 16 % 4 ≠ 0 then 2 else if (n : Int) < 2 + xs.getD 1 0 then 3 else if 2 + xs.getD 1 0 < n then 2 else 0) := Lib.hid (by unfold hdrE; rw [if_neg (by omega), hx])
    have HP := Lib.hid (fun k w => parts_any k w)
    generalize hdrE xs = R at *
    generalize xs.getD 0 0 = x at *
    generalize xs.getD 1 0 = y at *
    rw [Nat.add_zero] at c0
    clear hc hx hr bxs
    have g1 : ¬ (n : Int) < 2 := by omega
    have gn : (0 : Int) < (n : Int) ∧ (1 : Int) < (n : Int) ∧ 0 < n ∧ 1 < n := by omega
    obtain ⟨gn1, gn2, gn3, gn4⟩ := gn
    have e1 : IntKind.i64.wrap (x % 16) = x % 16 := by rw [IntWalk.i64_in _ (by omega)]
    have e2 : IntKind.i64.wrap y = y := by rw [IntWalk.i64_in _ (by omega)]
    have e3 : IntKind.i64.wrap (2 + y) = 2 + y := by rw [IntWalk.i64_in _ (by omega)]
    have hk : knoB (x % 16) = decide (x % 16 ≤ 6) := by unfold knoB; congr 1; simp; omega
    have hlt := hbl
    go_enter Tryd.func40, Tryd.ntmps40
    go_wp2_with fail
    refine (HP.out (x % 16) w).mono ?_
    rintro e w1 ⟨rfl, b1⟩
    rw [hk]
    have d0 := (b1.cell (p := ⟨b, off, none⟩) hbl).trans c0
    have d1 := (b1.cell (p := ⟨b, off + 1, none⟩) hbl).trans c1
    have hs := b1.size
    have hlt2 : b < w1.heap.size := by omega
    have BX := b1.alloc hs (.cells #[.bool (tgtB (x % 16)), .bool (datB (x % 16)), .bool (conB (x % 16))] 50)
    clear c0 c1 hk
    generalize tgtB (x % 16) = T at *
    generalize datB (x % 16) = D at *
    generalize conB (x % 16) = C at *
    by_cases k1 : x % 16 ≤ 6
    · have k1' : ¬ 6 < x % 16 := by omega
      have HR1 := Lib.hid HR.out
      rw [decide_eq_true k1]
      by_cases k2 : (x / 16 % 4 != 0) = true
      · have HZ : Hid (R = 2) := Lib.hid (by rw [HR.out, if_neg k1', if_pos (by simpa using k2)])
        rw [k2] at a2
        clear k1 k1' k2
        go_wp2_with fail
        go_ret
        exact ⟨Ser.ret_int HZ.out.symm, BX⟩
      · have k2 : (x / 16 % 4 != 0) = false := by simpa using k2
        have HR2 : Hid (R = if (n : Int) < 2 + y then 3 else if 2 + y < n then 2 else 0) := Lib.hid (by rw [HR.out, if_neg k1', if_neg (by simpa using k2)])
        rw [k2] at a2
        clear k1 k1' k2
        by_cases k3 : (n : Int) < 2 + y
        · have HZ : Hid (R = 3) := Lib.hid (by rw [HR2.out, if_pos k3])
          go_wp2_with fail
          go_ret
          exact ⟨Ser.ret_int HZ.out.symm, BX⟩
        · by_cases k4 : 2 + y < n
          · have HZ : Hid (R = 2) := Lib.hid (by rw [HR2.out, if_neg k3, if_pos k4])
            go_wp2_with fail
            go_ret
            exact ⟨Ser.ret_int HZ.out.symm, BX⟩
          · have HZ : Hid (R = 0) := Lib.hid (by rw [HR2.out, if_neg k3, if_neg k4])
            go_wp2_with fail
            go_ret
            exact ⟨Ser.ret_int HZ.out.symm, BX⟩
    · have HZ : Hid (R = 12) := Lib.hid (by rw [HR.out, if_pos (by omega)])
      rw [decide_eq_false k1]
      clear k1
      go_wp2_with fail
      go_ret
      exact ⟨Ser.ret_int HZ.out.symm, BX⟩
end Go.Proofs.YtcjlliilfecmnaaDoor.Ap

end
section
set_option linter.unusedVariables false
set_option linter.unusedSimpArgs false
namespace Go.Proofs.YtcjlliilfecmnaaDoor.Ap
open Go.RowKit Mem Oct
open Base (thenB)

theorem bset {w : World} {g : Nat} {t : TypeId} {cs cs' : Array Value} (h : Blk w g t cs) (i : Nat) (v : Value) (e : cs.setIfInBounds i v = cs') : Blk (w.setCell ⟨g, i, none⟩ v) g t cs' := e ▸ Cn.blk_setc h i v
theorem bother {w : World} {g g' i : Nat} {t : TypeId} {cs : Array Value} (h : Blk w g t cs) (hne : g' ≠ g) (v : Value) : Blk (w.setCell ⟨g', i, none⟩ v) g t cs := by
  unfold Blk at h ⊢
  unfold World.setCell
  simp only [Array.getElem?_modify, h]
  simp [hne]
theorem pd_frz {w : World} {g : Nat} {ty : TypeId} {cs : Array Value} (H : Blk w g ty cs) : w.frozen? ⟨g, 0, none⟩ = false ∧ w.frozen? ⟨g, 1, none⟩ = false ∧ w.frozen? ⟨g, 2, none⟩ = false ∧ w.frozen? ⟨g, 3, none⟩ = false ∧ w.frozen? ⟨g, 4, none⟩ = false ∧ w.frozen? ⟨g, 5, none⟩ = false ∧ w.frozen? ⟨g, 6, none⟩ = false ∧ w.frozen? ⟨g, 7, none⟩ = false ∧ w.frozen? ⟨g, 8, none⟩ = false ∧ w.frozen? ⟨g, 9, none⟩ = false ∧ w.frozen? ⟨g, 10, none⟩ = false ∧ w.frozen? ⟨g, 11, none⟩ = false ∧ w.frozen? ⟨g, 12, none⟩ = false ∧ w.frozen? ⟨g, 13, none⟩ = false ∧ w.frozen? ⟨g, 14, none⟩ = false ∧ w.frozen? ⟨g, 15, none⟩ = false ∧ w.frozen? ⟨g, 16, none⟩ = false :=
  ⟨Clk.frz H 0, Clk.frz H 1, Clk.frz H 2, Clk.frz H 3, Clk.frz H 4, Clk.frz H 5, Clk.frz H 6, Clk.frz H 7, Clk.frz H 8, Clk.frz H 9, Clk.frz H 10, Clk.frz H 11, Clk.frz H 12, Clk.frz H 13, Clk.frz H 14, Clk.frz H 15, Clk.frz H 16⟩
theorem pd_cells {w : World} {g : Nat} {ty : TypeId} {v0 v1 v2 v3 v4 v5 v6 v7 v8 v9 v10 v11 v12 v13 v14 v15 v16 : Value} (H : Blk w g ty #[v0, v1, v2, v3, v4, v5, v6, v7, v8, v9, v10, v11, v12, v13, v14, v15, v16]) : w.cell? ⟨g, 0, none⟩ = some v0 ∧ w.cell? ⟨g, 1, none⟩ = some v1 ∧ w.cell? ⟨g, 2, none⟩ = some v2 ∧ w.cell? ⟨g, 3, none⟩ = some v3 ∧ w.cell? ⟨g, 4, none⟩ = some v4 ∧ w.cell? ⟨g, 5, none⟩ = some v5 ∧ w.cell? ⟨g, 6, none⟩ = some v6 ∧ w.cell? ⟨g, 7, none⟩ = some v7 ∧ w.cell? ⟨g, 8, none⟩ = some v8 ∧ w.cell? ⟨g, 9, none⟩ = some v9 ∧ w.cell? ⟨g, 10, none⟩ = some v10 ∧ w.cell? ⟨g, 11, none⟩ = some v11 ∧ w.cell? ⟨g, 12, none⟩ = some v12 ∧ w.cell? ⟨g, 13, none⟩ = some v13 ∧ w.cell? ⟨g, 14, none⟩ = some v14 ∧ w.cell? ⟨g, 15, none⟩ = some v15 ∧ w.cell? ⟨g, 16, none⟩ = some v16 :=
  ⟨H.cell 0, H.cell 1, H.cell 2, H.cell 3, H.cell 4, H.cell 5, H.cell 6, H.cell 7, H.cell 8, H.cell 9, H.cell 10, H.cell 11, H.cell 12, H.cell 13, H.cell 14, H.cell 15, H.cell 16⟩
theorem pd_set {X : World} {g : Nat} {t : TypeId} {z0 z1 z2 z3 z4 z5 z6 z7 z8 z9 z10 z11 z12 z13 z14 z15 z16 : Value} (v0 v1 v2 v3 v4 v5 v6 v7 v8 v9 v10 v11 v12 v13 v14 v15 v16 : Value) (h : Blk X g t #[z0, z1, z2, z3, z4, z5, z6, z7, z8, z9, z10, z11, z12, z13, z14, z15, z16]) :
    Blk (((((((((((((((((X.setCell ⟨g, 0, none⟩ (v0)).setCell ⟨g, 1, none⟩ (v1)).setCell ⟨g, 2, none⟩ (v2)).setCell ⟨g, 3, none⟩ (v3)).setCell ⟨g, 4, none⟩ (v4)).setCell ⟨g, 5, none⟩ (v5)).setCell ⟨g, 6, none⟩ (v6)).setCell ⟨g, 7, none⟩ (v7)).setCell ⟨g, 8, none⟩ (v8)).setCell ⟨g, 9, none⟩ (v9)).setCell ⟨g, 10, none⟩ (v10)).setCell ⟨g, 11, none⟩ (v11)).setCell ⟨g, 12, none⟩ (v12)).setCell ⟨g, 13, none⟩ (v13)).setCell ⟨g, 14, none⟩ (v14)).setCell ⟨g, 15, none⟩ (v15)).setCell ⟨g, 16, none⟩ (v16)) g t #[v0, v1, v2, v3, v4, v5, v6, v7, v8, v9, v10, v11, v12, v13, v14, v15, v16] := by
  have := (Cn.blk_setc (Cn.blk_setc (Cn.blk_setc (Cn.blk_setc (Cn.blk_setc (Cn.blk_setc (Cn.blk_setc (Cn.blk_setc (Cn.blk_setc (Cn.blk_setc (Cn.blk_setc (Cn.blk_setc (Cn.blk_setc (Cn.blk_setc (Cn.blk_setc (Cn.blk_setc (Cn.blk_setc h 0 v0) 1 v1) 2 v2) 3 v3) 4 v4) 5 v5) 6 v6) 7 v7) 8 v8) 9 v9) 10 v10) 11 v11) 12 v12) 13 v13) 14 v14) 15 v15) 16 v16)
  simpa using this
theorem pd_below {W X : World} {B g : Nat} (v0 v1 v2 v3 v4 v5 v6 v7 v8 v9 v10 v11 v12 v13 v14 v15 v16 : Value) (b : Below B W X) (hg : B ≤ g) : Below B W (((((((((((((((((X.setCell ⟨g, 0, none⟩ (v0)).setCell ⟨g, 1, none⟩ (v1)).setCell ⟨g, 2, none⟩ (v2)).setCell ⟨g, 3, none⟩ (v3)).setCell ⟨g, 4, none⟩ (v4)).setCell ⟨g, 5, none⟩ (v5)).setCell ⟨g, 6, none⟩ (v6)).setCell ⟨g, 7, none⟩ (v7)).setCell ⟨g, 8, none⟩ (v8)).setCell ⟨g, 9, none⟩ (v9)).setCell ⟨g, 10, none⟩ (v10)).setCell ⟨g, 11, none⟩ (v11)).setCell ⟨g, 12, none⟩ (v12)).setCell ⟨g, 13, none⟩ (v13)).setCell ⟨g, 14, none⟩ (v14)).setCell ⟨g, 15, none⟩ (v15)).setCell ⟨g, 16, none⟩ (v16)) :=
  (((((((((((((((((b.setCell (p := ⟨g, 0, none⟩) hg _).setCell (p := ⟨g, 1, none⟩) hg _).setCell (p := ⟨g, 2, none⟩) hg _).setCell (p := ⟨g, 3, none⟩) hg _).setCell (p := ⟨g, 4, none⟩) hg _).setCell (p := ⟨g, 5, none⟩) hg _).setCell (p := ⟨g, 6, none⟩) hg _).setCell (p := ⟨g, 7, none⟩) hg _).setCell (p := ⟨g, 8, none⟩) hg _).setCell (p := ⟨g, 9, none⟩) hg _).setCell (p := ⟨g, 10, none⟩) hg _).setCell (p := ⟨g, 11, none⟩) hg _).setCell (p := ⟨g, 12, none⟩) hg _).setCell (p := ⟨g, 13, none⟩) hg _).setCell (p := ⟨g, 14, none⟩) hg _).setCell (p := ⟨g, 15, none⟩) hg _).setCell (p := ⟨g, 16, none⟩) hg _)
theorem far1 {k : IntKind} {w : World} {B g i m : Nat} {A : Option Addr} {zs : List Int} {x : Value} (hs : zs = [] ∨ ∃ g4, A = some ⟨g4, 0, none⟩ ∧ m ≤ g4) (hg : g < m) (h : Ints k w B A zs) : Ints k (w.setCell ⟨g, i, none⟩ x) B A zs := by
  rcases hs with rfl | ⟨g4, rfl, hm⟩
  · exact .inl rfl
  · rcases h with h | ⟨b, off, hb, hl, hc⟩
    · exact .inl h
    · refine .inr ⟨b, off, hb, hl, fun j hj => ?_⟩
      have hbg : g ≠ b := by
        injection hb with hb'
        injection hb' with hb1 _ _
        omega
      rw [World.cell?_setCell_far _ _ _ _ hbg]
      exact hc j hj
theorem far17 {k : IntKind} {X : World} {B g m : Nat} {A : Option Addr} {zs : List Int} (v0 v1 v2 v3 v4 v5 v6 v7 v8 v9 v10 v11 v12 v13 v14 v15 v16 : Value) (hs : zs = [] ∨ ∃ g4, A = some ⟨g4, 0, none⟩ ∧ m ≤ g4) (hg : g < m) (h : Ints k X B A zs) : Ints k (((((((((((((((((X.setCell ⟨g, 0, none⟩ (v0)).setCell ⟨g, 1, none⟩ (v1)).setCell ⟨g, 2, none⟩ (v2)).setCell ⟨g, 3, none⟩ (v3)).setCell ⟨g, 4, none⟩ (v4)).setCell ⟨g, 5, none⟩ (v5)).setCell ⟨g, 6, none⟩ (v6)).setCell ⟨g, 7, none⟩ (v7)).setCell ⟨g, 8, none⟩ (v8)).setCell ⟨g, 9, none⟩ (v9)).setCell ⟨g, 10, none⟩ (v10)).setCell ⟨g, 11, none⟩ (v11)).setCell ⟨g, 12, none⟩ (v12)).setCell ⟨g, 13, none⟩ (v13)).setCell ⟨g, 14, none⟩ (v14)).setCell ⟨g, 15, none⟩ (v15)).setCell ⟨g, 16, none⟩ (v16)) B A zs :=
  far1 hs hg (far1 hs hg (far1 hs hg (far1 hs hg (far1 hs hg (far1 hs hg (far1 hs hg (far1 hs hg (far1 hs hg (far1 hs hg (far1 hs hg (far1 hs hg (far1 hs hg (far1 hs hg (far1 hs hg (far1 hs hg (far1 hs hg (h)))))))))))))))))
theorem farR {k : IntKind} {w : World} {B g m : Nat} {A : Option Addr} {zs : List Int} {cs : Array Value} (hs : zs = [] ∨ ∃ g4, A = some ⟨g4, 0, none⟩ ∧ m ≤ g4) (hg : g < m) (h : Ints k w B A zs) : Ints k (w.setRow g cs) B A zs := by
  rcases hs with rfl | ⟨g4, rfl, hm⟩
  · exact .inl rfl
  · rcases h with h | ⟨b, off, hb, hl, hc⟩
    · exact .inl h
    · refine .inr ⟨b, off, hb, hl, fun j hj => ?_⟩
      have hbg : b ≠ g := by
        injection hb with hb'
        injection hb' with hb1 _ _
        omega
      rw [cell_setRow_other _ _ _ _ hbg]
      exact hc j hj
theorem sz1 (w : World) (a : Addr) (v : Value) : (w.setCell a v).heap.size = w.heap.size := by simp
theorem sz17 (X : World) (g : Nat) (v0 v1 v2 v3 v4 v5 v6 v7 v8 v9 v10 v11 v12 v13 v14 v15 v16 : Value) : (((((((((((((((((X.setCell ⟨g, 0, none⟩ (v0)).setCell ⟨g, 1, none⟩ (v1)).setCell ⟨g, 2, none⟩ (v2)).setCell ⟨g, 3, none⟩ (v3)).setCell ⟨g, 4, none⟩ (v4)).setCell ⟨g, 5, none⟩ (v5)).setCell ⟨g, 6, none⟩ (v6)).setCell ⟨g, 7, none⟩ (v7)).setCell ⟨g, 8, none⟩ (v8)).setCell ⟨g, 9, none⟩ (v9)).setCell ⟨g, 10, none⟩ (v10)).setCell ⟨g, 11, none⟩ (v11)).setCell ⟨g, 12, none⟩ (v12)).setCell ⟨g, 13, none⟩ (v13)).setCell ⟨g, 14, none⟩ (v14)).setCell ⟨g, 15, none⟩ (v15)).setCell ⟨g, 16, none⟩ (v16)).heap.size = X.heap.size := by
  simp only [sz1]
end Go.Proofs.YtcjlliilfecmnaaDoor.Ap

end
