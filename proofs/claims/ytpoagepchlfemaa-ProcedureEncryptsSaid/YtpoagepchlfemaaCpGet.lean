/- Control PDUs: the functions that read a part and that check one: contracts over the program. -/
import Derived.Test.YtpoagepchlfemaaCpFld
import Derived.Test.YtpoagepchlfemaaCnUpd
import Derived.Test.YtpoagepchlfemaaChmCheck
set_option linter.unusedVariables false
set_option linter.unusedSimpArgs false
namespace Go.Proofs.Ytpoagepchlfemaa.Cp
open Go.RowKit Mem Oct Rw Av
open Base (thenB)
open Cn (okU)
theorem encC_one (c : Ct) : (encC c).all (·.oneCell') = true := by unfold encC; rw [← Array.all_toList]; rfl
theorem lit_at {k : IntKind} {W : World} {g : Nat} {cs : Array Value} {T : TypeId} (zs : List Int) (hg : W.heap.size = g) (h : cs = (zs.map (Value.int k)).toArray) : Ints k (W.alloc (.cells cs T)) (W.alloc (.cells cs T)).heap.size (some ⟨g, 0, none⟩) zs := by
  subst hg; exact Base.lit1 k W zs cs T h
/-- Numbers in new memory. -/
def Gets (w w' : World) (e : Ending) (zs : List Int) : Prop := ∃ g c, e = .returned (.slice (some ⟨g, 0, none⟩) zs.length c) ∧ zs.length ≤ c ∧ w.heap.size ≤ g ∧ Blk w' g 22 (zs.map (Value.int .u64)).toArray ∧ Below w.heap.size w w'
theorem ints_blk {w : World} {g : Nat} {zs : List Int} (h : Blk w g 22 (zs.map (Value.int .u64)).toArray) : Ints .u64 w w.heap.size (some ⟨g, 0, none⟩) zs := by
  refine .inr ⟨g, 0, rfl, h.lt, fun j hj => ?_⟩
  rw [Nat.zero_add, h.cell j]
  simp [List.getD, List.getElem?_eq_getElem hj]
theorem blk_at {W : World} {g : Nat} {t : TypeId} (cs : Array Value) (hg : W.heap.size = g) : Blk (W.alloc (.cells cs t)) g t cs := by
  subst hg; exact Blk.fresh W t cs
set_option maxRecDepth 100000 in
set_option maxHeartbeats 4000000 in
theorem getsmall_any {ff off : Nat} (hf : Fld ff off) (c : Ct) (x : Int) (b : Nat) (w : World) (hx : (encC c)[off]? = some (.int .i64 x)) (kb : Blk w b 118 #[.func (.func ff) #[] #[]]) :
    Calls Try.prog 82 #[.agg (encC c), .pointer (some ⟨b, 0, none⟩)] w fun e w' => Gets w w' e [u x] := by
  have BX : Below w.heap.size w (w.alloc (.cells (encC c) 57)) := (Below.refl _ _).alloc (Nat.le_refl _) _
  have K1 : Blk (w.alloc (.cells (encC c) 57)) w.heap.size 57 (encC c) := Blk.fresh w 57 (encC c)
  have KB := kb.alloc (.cells (encC c) 57)
  have k1 : (w.alloc (.cells (encC c) 57)).cell? ⟨w.heap.size, off, none⟩ = some (.int .i64 x) := (K1.cell off).trans hx
  have b0 := KB.cell 0
  have HF := Lib.hid hf.2
  have hcf := hf.1
  generalize encC c = C at *
  clear kb
  go_enter Try.func82, Try.ntmps82
  go_wp2_with (refine (HF.out _ _).mono ?_; rintro e w1 ⟨rfl, rfl⟩)
  go_ret
  exact ⟨_, 1, rfl, Nat.le_refl _, (by first | omega | (simp; done) | (simp; omega)), blk_at _ (by simp), BX.alloc BX.size _⟩
set_option maxRecDepth 100000 in
set_option maxHeartbeats 4000000 in
theorem getlarge_any {ff off : Nat} (hf : Fld ff off) (c : Ct) (x : Int) (b : Nat) (w : World) (hx : (encC c)[off]? = some (.int .u64 x)) (kb : Blk w b 121 #[.func (.func ff) #[] #[]]) :
    Calls Try.prog 85 #[.agg (encC c), .pointer (some ⟨b, 0, none⟩)] w fun e w' => Gets w w' e [x] := by
  have BX : Below w.heap.size w (w.alloc (.cells (encC c) 57)) := (Below.refl _ _).alloc (Nat.le_refl _) _
  have K1 : Blk (w.alloc (.cells (encC c) 57)) w.heap.size 57 (encC c) := Blk.fresh w 57 (encC c)
  have KB := kb.alloc (.cells (encC c) 57)
  have k1 : (w.alloc (.cells (encC c) 57)).cell? ⟨w.heap.size, off, none⟩ = some (.int .u64 x) := (K1.cell off).trans hx
  have b0 := KB.cell 0
  have HF := Lib.hid hf.2
  have hcf := hf.1
  generalize encC c = C at *
  clear kb
  go_enter Try.func85, Try.ntmps85
  go_wp2_with (refine (HF.out _ _).mono ?_; rintro e w1 ⟨rfl, rfl⟩)
  go_ret
  exact ⟨_, 1, rfl, Nat.le_refl _, (by first | omega | (simp; done) | (simp; omega)), blk_at _ (by simp), BX.alloc BX.size _⟩
set_option maxRecDepth 100000 in
set_option maxHeartbeats 4000000 in
theorem getup_any (c : Ct) (w : World) : Calls Try.prog 88 #[.agg (encC c)] w fun e w' => Gets w w' e [u c.ws, u c.wo, u c.it, u c.la, u c.ti] := by
  have BX : Below w.heap.size w (w.alloc (.cells (encC c) 57)) := (Below.refl _ _).alloc (Nat.le_refl _) _
  have K1 : Blk (w.alloc (.cells (encC c) 57)) w.heap.size 57 (encC c) := Blk.fresh w 57 (encC c)
  have k1 := K1.cell 1
  have k2 := K1.cell 2
  have k3 := K1.cell 3
  have k4 := K1.cell 4
  have k5 := K1.cell 5
  have e1 : (encC c)[1]? = some (.int .i64 c.ws) := rfl
  have e2 : (encC c)[2]? = some (.int .i64 c.wo) := rfl
  have e3 : (encC c)[3]? = some (.int .i64 c.it) := rfl
  have e4 : (encC c)[4]? = some (.int .i64 c.la) := rfl
  have e5 : (encC c)[5]? = some (.int .i64 c.ti) := rfl
  rw [e1] at k1
  rw [e2] at k2
  rw [e3] at k3
  rw [e4] at k4
  rw [e5] at k5
  clear e1 e2 e3 e4 e5
  generalize encC c = C at *
  go_enter Try.func88, Try.ntmps88
  go_wp2_with fail
  go_ret
  exact ⟨_, 5, rfl, Nat.le_refl _, (by first | omega | (simp; done) | (simp; omega)), blk_at _ (by simp), (BX.alloc BX.size _).alloc (BX.alloc BX.size _).size _⟩
set_option maxRecDepth 100000 in
set_option maxHeartbeats 4000000 in
theorem getim_any (c : Ct) (w : World) : Calls Try.prog 92 #[.agg (encC c)] w fun e w' => Gets w w' e [u c.ins] := by
  have BX : Below w.heap.size w (w.alloc (.cells (encC c) 57)) := (Below.refl _ _).alloc (Nat.le_refl _) _
  have K1 : Blk (w.alloc (.cells (encC c) 57)) w.heap.size 57 (encC c) := Blk.fresh w 57 (encC c)
  have k1 : (w.alloc (.cells (encC c) 57)).cell? ⟨w.heap.size, 7, none⟩ = some (.int .u16 c.ins) := K1.cell 7
  generalize encC c = C at *
  go_enter Try.func92, Try.ntmps92
  go_wp2_with fail
  go_ret
  exact ⟨_, 1, rfl, Nat.le_refl _, (by first | omega | (simp; done) | (simp; omega)), blk_at _ (by simp), BX.alloc BX.size _⟩
set_option maxRecDepth 100000 in
set_option maxHeartbeats 4000000 in
theorem getch_any (c : Ct) (w : World) : Calls Try.prog 94 #[.agg (encC c)] w fun e w' => Gets w w' e [(c.m : Int)] := by
  have BX : Below w.heap.size w (w.alloc (.cells (encC c) 57)) := (Below.refl _ _).alloc (Nat.le_refl _) _
  have K1 : Blk (w.alloc (.cells (encC c) 57)) w.heap.size 57 (encC c) := Blk.fresh w 57 (encC c)
  have k1 : (w.alloc (.cells (encC c) 57)).cell? ⟨w.heap.size, 6, none⟩ = some (.int .u64 (c.m : Int)) := K1.cell 6
  generalize encC c = C at *
  go_enter Try.func94, Try.ntmps94
  go_wp2_with fail
  go_ret
  exact ⟨_, 1, rfl, Nat.le_refl _, (by first | omega | (simp; done) | (simp; omega)), blk_at _ (by simp), BX.alloc BX.size _⟩
set_option maxRecDepth 100000 in
set_option maxHeartbeats 4000000 in
theorem chksmall_any {ff off : Nat} (hf : Fld ff off) (c : Ct) (x lo hi : Int) (b g1 g2 : Nat) (w : World) (hx : (encC c)[off]? = some (.int .i64 x)) (kb : Blk w b 118 #[.func (.func ff) #[] #[]]) (k1 : Blk w g1 3 #[.int .i64 lo]) (k2 : Blk w g2 3 #[.int .i64 hi]) :
    Calls Try.prog 84 #[.agg (encC c), .pointer (some ⟨b, 0, none⟩), .pointer (some ⟨g1, 0, none⟩), .pointer (some ⟨g2, 0, none⟩)] w fun e w' => e = .returned (.int .i64 (inB lo hi x)) ∧ Below w.heap.size w w' := by
  have BX : Below w.heap.size w (w.alloc (.cells (encC c) 57)) := (Below.refl _ _).alloc (Nat.le_refl _) _
  have K1 : Blk (w.alloc (.cells (encC c) 57)) w.heap.size 57 (encC c) := Blk.fresh w 57 (encC c)
  have KB := kb.alloc (.cells (encC c) 57)
  have L1 := k1.alloc (.cells (encC c) 57)
  have L2 := k2.alloc (.cells (encC c) 57)
  have kx : (w.alloc (.cells (encC c) 57)).cell? ⟨w.heap.size, off, none⟩ = some (.int .i64 x) := (K1.cell off).trans hx
  have b0 := KB.cell 0
  have l1 := L1.cell 0
  have l2 := L2.cell 0
  have HF := Lib.hid hf.2
  have hcf := hf.1
  generalize encC c = C at *
  clear kb k1 k2
  unfold inB
  by_cases h1 : x < lo
  · rw [if_neg (by omega)]
    go_enter Try.func84, Try.ntmps84
    go_wp2_with (refine (HF.out _ _).mono ?_; rintro e w1 ⟨rfl, rfl⟩)
    go_ret
    exact ⟨rfl, BX⟩
  · by_cases h2 : hi < x
    · rw [if_neg (by omega)]
      go_enter Try.func84, Try.ntmps84
      go_wp2_with (refine (HF.out _ _).mono ?_; rintro e w1 ⟨rfl, rfl⟩)
      go_ret
      exact ⟨rfl, BX⟩
    · rw [if_pos (by omega)]
      go_enter Try.func84, Try.ntmps84
      go_wp2_with (refine (HF.out _ _).mono ?_; rintro e w1 ⟨rfl, rfl⟩)
      go_ret
      exact ⟨rfl, BX⟩
theorem chkany_any (c : Ct) (w : World) : Calls Try.prog 87 #[.agg (encC c)] w fun e w' => e = .returned (.int .i64 0) ∧ Below w.heap.size w w' := by
  have BX : Below w.heap.size w (w.alloc (.cells (encC c) 57)) := (Below.refl _ _).alloc (Nat.le_refl _) _
  generalize encC c = C at *
  go_enter Try.func87, Try.ntmps87
  go_wp2_with fail
  go_ret
  exact ⟨rfl, BX⟩
set_option maxRecDepth 100000 in
set_option maxHeartbeats 4000000 in
theorem chkch_any (c : Ct) (w : World) (hm : c.m ≤ 18446744073709551615) : Calls Try.prog 96 #[.agg (encC c)] w fun e w' => e = .returned (.int .i64 (Chm.okM c.m)) ∧ Below w.heap.size w w' := by
  have BX : Below w.heap.size w (w.alloc (.cells (encC c) 57)) := (Below.refl _ _).alloc (Nat.le_refl _) _
  have K1 : Blk (w.alloc (.cells (encC c) 57)) w.heap.size 57 (encC c) := Blk.fresh w 57 (encC c)
  have k1 : (w.alloc (.cells (encC c) 57)).cell? ⟨w.heap.size, 6, none⟩ = some (.int .u64 (c.m : Int)) := K1.cell 6
  have HM := Lib.hid fun w => Chm.check_any c.m w hm
  generalize encC c = C at *
  generalize Chm.okM c.m = R at *
  clear hm
  go_enter Try.func96, Try.ntmps96
  go_wp2_with (go_at_call 97; refine (HM.out _).mono ?_; rintro e w1 ⟨rfl, rfl⟩)
  go_ret
  exact ⟨rfl, BX⟩
set_option maxRecDepth 100000 in
set_option maxHeartbeats 4000000 in
theorem chkup_any (c : Ct) (w : World) : Calls Try.prog 90 #[.agg (encC c)] w fun e w' => e = .returned (.int .i64 (okU c.ws c.wo c.it c.la c.ti)) ∧ Below w.heap.size w w' := by
  have BX : Below w.heap.size w (w.alloc (.cells (encC c) 57)) := (Below.refl _ _).alloc (Nat.le_refl _) _
  have K1 : Blk (w.alloc (.cells (encC c) 57)) w.heap.size 57 (encC c) := Blk.fresh w 57 (encC c)
  have k1 := K1.cell 1
  have k2 := K1.cell 2
  have k3 := K1.cell 3
  have k4 := K1.cell 4
  have k5 := K1.cell 5
  have e1 : (encC c)[1]? = some (.int .i64 c.ws) := rfl
  have e2 : (encC c)[2]? = some (.int .i64 c.wo) := rfl
  have e3 : (encC c)[3]? = some (.int .i64 c.it) := rfl
  have e4 : (encC c)[4]? = some (.int .i64 c.la) := rfl
  have e5 : (encC c)[5]? = some (.int .i64 c.ti) := rfl
  rw [e1] at k1
  rw [e2] at k2
  rw [e3] at k3
  rw [e4] at k4
  rw [e5] at k5
  clear e1 e2 e3 e4 e5
  have HM := Lib.hid (Cn.checkUpdate_any c.ws c.wo c.it c.la c.ti)
  generalize okU c.ws c.wo c.it c.la c.ti = R at *
  generalize encC c = C at *
  go_enter Try.func90, Try.ntmps90
  go_wp2_with (go_at_call 91; refine (HM.out _).mono ?_; rintro e w1 ⟨rfl, b1⟩)
  go_ret
  exact ⟨rfl, thenB BX b1⟩
end Go.Proofs.Ytpoagepchlfemaa.Cp
