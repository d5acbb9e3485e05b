/- Requests that are meant for an advertiser, by the specification: contracts over the program. From the condition on the listed variables to what the walks ask; the door's own heap meets it. -/
import Derived.Test.YtcbliliinmfnjaaDoorKAvAns
import Derived.Test.YtcbliliinmfnjaaDoorRows
import Derived.Test.YtcbliliinmfnjaaDoorKM6
import Derived.LaidMore
import Derived.Lib.LaidTab
import Derived.ProofKit
section
set_option linter.unusedVariables false
set_option linter.unusedSimpArgs false
namespace Go.Proofs.YtcbliliinmfnjaaDoor.Av
open Go.RowKit Mem Oct Rw Ap Ace Prv
open Base (thenB)

set_option maxRecDepth 100000 in
set_option maxHeartbeats 4000000 in
theorem rmeant_any (a : Ad) (VD VS VA VI : Value) (q : Pd) (VQ : Value) (m : Nat) (w : World) (hQ : Wid q) (hR : Row w m VQ q.ds.length (q.ds.map (Value.int .u8))) :
    Calls Tryd.prog 24 #[.agg (vcel a VD VS VA VI), .agg (cel q VQ)] w fun e w' => e = .returned (.bool ((q.k == 3 || q.k == 5) && (decide (chkP q = 0) && decide (q.tk = a.p.ok ∧ q.tb = a.p.ob)))) ∧ Below w.heap.size w w' := by
  have BX : Below w.heap.size w ((w.alloc (.cells #[.int .i64 a.p.k, .int .i64 a.p.it, .int .i64 a.p.ok, .int .u64 a.p.ob, .int .i64 a.p.tk, .int .u64 a.p.tb, VD, VS, .int .i64 a.p.po, VA, VI, .int .u64 a.p.sd, .bool a.on, .int .i64 a.ev, .int .i64 a.nx] 33)).alloc (.cells #[.int .i64 q.k, .int .i64 q.sk, .int .u64 q.sb, .int .i64 q.tk, .int .u64 q.tb, VQ, .int .u32 q.a, .int .u32 q.b, .int .i64 q.s, .int .i64 q.o, .int .i64 q.i, .int .i64 q.l, .int .i64 q.t, .int .u64 (q.m : Int), .int .i64 q.h, .int .i64 q.d, .int .i64 q.g] 52)) := ((Below.refl _ _).alloc (Nat.le_refl _) _).alloc (by simp) _
  have K2 : Blk ((w.alloc (.cells #[.int .i64 a.p.k, .int .i64 a.p.it, .int .i64 a.p.ok, .int .u64 a.p.ob, .int .i64 a.p.tk, .int .u64 a.p.tb, VD, VS, .int .i64 a.p.po, VA, VI, .int .u64 a.p.sd, .bool a.on, .int .i64 a.ev, .int .i64 a.nx] 33)).alloc (.cells #[.int .i64 q.k, .int .i64 q.sk, .int .u64 q.sb, .int .i64 q.tk, .int .u64 q.tb, VQ, .int .u32 q.a, .int .u32 q.b, .int .i64 q.s, .int .i64 q.o, .int .i64 q.i, .int .i64 q.l, .int .i64 q.t, .int .u64 (q.m : Int), .int .i64 q.h, .int .i64 q.d, .int .i64 q.g] 52)) (w.heap.size) 33 #[.int .i64 a.p.k, .int .i64 a.p.it, .int .i64 a.p.ok, .int .u64 a.p.ob, .int .i64 a.p.tk, .int .u64 a.p.tb, VD, VS, .int .i64 a.p.po, VA, VI, .int .u64 a.p.sd, .bool a.on, .int .i64 a.ev, .int .i64 a.nx] := (Blk.fresh w 33 #[.int .i64 a.p.k, .int .i64 a.p.it, .int .i64 a.p.ok, .int .u64 a.p.ob, .int .i64 a.p.tk, .int .u64 a.p.tb, VD, VS, .int .i64 a.p.po, VA, VI, .int .u64 a.p.sd, .bool a.on, .int .i64 a.ev, .int .i64 a.nx]).alloc _
  have K3 : Blk ((w.alloc (.cells #[.int .i64 a.p.k, .int .i64 a.p.it, .int .i64 a.p.ok, .int .u64 a.p.ob, .int .i64 a.p.tk, .int .u64 a.p.tb, VD, VS, .int .i64 a.p.po, VA, VI, .int .u64 a.p.sd, .bool a.on, .int .i64 a.ev, .int .i64 a.nx] 33)).alloc (.cells #[.int .i64 q.k, .int .i64 q.sk, .int .u64 q.sb, .int .i64 q.tk, .int .u64 q.tb, VQ, .int .u32 q.a, .int .u32 q.b, .int .i64 q.s, .int .i64 q.o, .int .i64 q.i, .int .i64 q.l, .int .i64 q.t, .int .u64 (q.m : Int), .int .i64 q.h, .int .i64 q.d, .int .i64 q.g] 52)) (w.heap.size + 1) 52 #[.int .i64 q.k, .int .i64 q.sk, .int .u64 q.sb, .int .i64 q.tk, .int .u64 q.tb, VQ, .int .u32 q.a, .int .u32 q.b, .int .i64 q.s, .int .i64 q.o, .int .i64 q.i, .int .i64 q.l, .int .i64 q.t, .int .u64 (q.m : Int), .int .i64 q.h, .int .i64 q.d, .int .i64 q.g] := Av.Blk.next
  have HK : Hid (∀ X, Below w.heap.size w X → Calls Tryd.prog 43 #[.agg #[.int .i64 q.k, .int .i64 q.sk, .int .u64 q.sb, .int .i64 q.tk, .int .u64 q.tb, VQ, .int .u32 q.a, .int .u32 q.b, .int .i64 q.s, .int .i64 q.o, .int .i64 q.i, .int .i64 q.l, .int .i64 q.t, .int .u64 (q.m : Int), .int .i64 q.h, .int .i64 q.d, .int .i64 q.g]] X fun e w' => e = .returned (.int .i64 (chkP q)) ∧ Below X.heap.size X w') := Lib.hid fun X b => rchk_call q VQ m X hQ (hR.below b)
  have q1 := adr_eql q.tk q.tb a.p.ok a.p.ob
  have q2 := adr_eg q.tk q.tb a.p.ok a.p.ob
  clear hQ hR
  generalize chkP q = E at *
  generalize hR : ((q.k == 3 || q.k == 5) && (decide (E = 0) && decide (q.tk = a.p.ok ∧ q.tb = a.p.ob))) = R
  have HR := Lib.hid hR
  clear hR
  have c0 := K3.cell 0
  have go : ∀ (kk : Bool), (q.k == 3 || q.k == 5) = kk → True := fun _ _ => trivial
  clear go
  by_cases hk : q.k = 3 ∨ q.k = 5
  · have hb : (q.k == 3 || q.k == 5) = true := by simpa using hk
    rw [hb] at HR
    have REST : Hid (R = (decide (E = 0) && decide (q.tk = a.p.ok ∧ q.tb = a.p.ob))) := Lib.hid (by rw [← HR.out]; rfl)
    clear HR hb
    by_cases h3 : q.k = 3
    · have g3 : (q.k == 3) = true := by simpa using h3
      clear hk h3
      go_enter Tryd.func24, Tryd.ntmps24
      go_wp2_with (refine wpList_on (by rfl) (wpList_load_row rfl 52 (.tmp 3) rfl (w.heap.size + 1) rfl 52 _ (0, 0) _ K3 Tryd.underlying52 rfl (by kernel_rfl) ?_))
      generalize (w.alloc (.cells #[.int .i64 a.p.k, .int .i64 a.p.it, .int .i64 a.p.ok, .int .u64 a.p.ob, .int .i64 a.p.tk, .int .u64 a.p.tb, VD, VS, .int .i64 a.p.po, VA, VI, .int .u64 a.p.sd, .bool a.on, .int .i64 a.ev, .int .i64 a.nx] 33)).alloc (.cells #[.int .i64 q.k, .int .i64 q.sk, .int .u64 q.sb, .int .i64 q.tk, .int .u64 q.tb, VQ, .int .u32 q.a, .int .u32 q.b, .int .i64 q.s, .int .i64 q.o, .int .i64 q.i, .int .i64 q.l, .int .i64 q.t, .int .u64 (q.m : Int), .int .i64 q.h, .int .i64 q.d, .int .i64 q.g] 52) = W0 at *
      refine (HK.out _ BX).mono ?_
      rintro e W1 ⟨rfl, b1⟩
      replace BX := thenB BX b1
      replace K2 := K2.below b1 K2.lt
      replace K3 := K3.below b1 K3.lt
      clear b1 c0
      by_cases hE : E = 0
      · subst hE
        have HZ : Hid (R = decide (q.tk = a.p.ok ∧ q.tb = a.p.ob)) := Lib.hid (by rw [REST.out]; simp)
        clear REST
        generalize decide (q.tk = a.p.ok ∧ q.tb = a.p.ob) = M at *
        have c2 := K2.cell 2
        have c3 := K2.cell 3
        have d3 := K3.cell 3
        have d4 := K3.cell 4
        go_wp2_with fail
        go_ret
        exact ⟨Ser.ret_bool HZ.out.symm, BX⟩
      · have g9 : (E == 0) = false := by simpa using hE
        have HZ : Hid (R = false) := Lib.hid (by rw [REST.out, decide_eq_false hE]; rfl)
        clear hE REST
        go_wp2_with fail
        go_ret
        exact ⟨Ser.ret_bool HZ.out.symm, BX⟩
    · have g3 : (q.k == 3) = false := by simpa using h3
      have g5 : (q.k == 5) = true := by simpa using (hk.resolve_left h3)
      clear hk h3
      go_enter Tryd.func24, Tryd.ntmps24
      go_wp2_with (refine wpList_on (by rfl) (wpList_load_row rfl 52 (.tmp 3) rfl (w.heap.size + 1) rfl 52 _ (0, 0) _ K3 Tryd.underlying52 rfl (by kernel_rfl) ?_))
      generalize (w.alloc (.cells #[.int .i64 a.p.k, .int .i64 a.p.it, .int .i64 a.p.ok, .int .u64 a.p.ob, .int .i64 a.p.tk, .int .u64 a.p.tb, VD, VS, .int .i64 a.p.po, VA, VI, .int .u64 a.p.sd, .bool a.on, .int .i64 a.ev, .int .i64 a.nx] 33)).alloc (.cells #[.int .i64 q.k, .int .i64 q.sk, .int .u64 q.sb, .int .i64 q.tk, .int .u64 q.tb, VQ, .int .u32 q.a, .int .u32 q.b, .int .i64 q.s, .int .i64 q.o, .int .i64 q.i, .int .i64 q.l, .int .i64 q.t, .int .u64 (q.m : Int), .int .i64 q.h, .int .i64 q.d, .int .i64 q.g] 52) = W0 at *
      refine (HK.out _ BX).mono ?_
      rintro e W1 ⟨rfl, b1⟩
      replace BX := thenB BX b1
      replace K2 := K2.below b1 K2.lt
      replace K3 := K3.below b1 K3.lt
      clear b1 c0
      by_cases hE : E = 0
      · subst hE
        have HZ : Hid (R = decide (q.tk = a.p.ok ∧ q.tb = a.p.ob)) := Lib.hid (by rw [REST.out]; simp)
        clear REST
        generalize decide (q.tk = a.p.ok ∧ q.tb = a.p.ob) = M at *
        have c2 := K2.cell 2
        have c3 := K2.cell 3
        have d3 := K3.cell 3
        have d4 := K3.cell 4
        go_wp2_with fail
        go_ret
        exact ⟨Ser.ret_bool HZ.out.symm, BX⟩
      · have g9 : (E == 0) = false := by simpa using hE
        have HZ : Hid (R = false) := Lib.hid (by rw [REST.out, decide_eq_false hE]; rfl)
        clear hE REST
        go_wp2_with fail
        go_ret
        exact ⟨Ser.ret_bool HZ.out.symm, BX⟩
  · have hb : (q.k == 3 || q.k == 5) = false := by simpa using hk
    rw [hb] at HR
    have HZ : Hid (R = false) := Lib.hid (by rw [← HR.out]; rfl)
    have g3 : (q.k == 3) = false := by simpa using (fun h => hk (.inl h))
    have g5 : (q.k == 5) = false := by simpa using (fun h => hk (.inr h))
    clear hk hb HR
    go_enter Tryd.func24, Tryd.ntmps24
    go_wp2_with fail
    go_ret
    exact ⟨Ser.ret_bool HZ.out.symm, BX⟩
end Go.Proofs.YtcbliliinmfnjaaDoor.Av

end
section
set_option linter.unusedVariables false
namespace Go.Proofs.YtcbliliinmfnjaaDoor.Door
open Go.RowKit Adr

theorem gA : Tryd.prog.globalNamed "wireless/address.randomAt" = some 0 := by kernel_rfl
theorem gP : Tryd.prog.globalNamed "wireless/address.prefixes" = some 1 := by kernel_rfl
theorem tA : (Tryd.prog.globals[0]?).map (·.type) = some 171 := by kernel_rfl
theorem tP : (Tryd.prog.globals[1]?).map (·.type) = some 172 := by kernel_rfl
def laid2 : List (String × DataW Unit) := [("wireless/address.prefixes", Rows.laid_wireless_address_prefixes), ("wireless/address.randomAt", Rows.laid_wireless_address_randomAt)]
/-- The door's own heap meets the condition. -/
theorem door_met (os : Os) (args : Array Value) : laidMetH Tryd.prog laid2 ((World.doorLaid Tryd.prog 400 os).forCall (fun _ _ => 0) ⟨#[], args, []⟩).memory :=
  laidMetH_of_parts3 (fuel := 8) (laidMet_of_run' 8 (by kernel_rfl) (by kernel_rfl)) (by kernel_rfl) (by kernel_rfl)
theorem laidMet_tail {P : Program} {x : String × DataW Unit} {rest : List (String × DataW Unit)} {W : World} (h : laidMet P (x :: rest) W) : laidMet P rest W := by
  obtain ⟨ps, ⟨g', t', cs, fuel, p, q, hg', ht', hvar, hd, hr, hp⟩, hn, hc⟩ := h
  subst hp
  exact ⟨q, hr, (List.nodup_append.1 hn).2.1, fun b off hm => hc b off (List.mem_append_right _ hm)⟩
theorem tab_of {W : World} (h : laidMetH Tryd.prog laid2 W) : Tab W := by
  rw [MakeChecks.laidMetH_plain _ _ _ (by kernel_rfl)] at h
  have hP := Lib.tabIs_of_head (k := .u64) (zs := pres) gP tP Tryd.underlying172 Tryd.underlying22 (by kernel_rfl) (by kernel_rfl) h
  have h3 := laidMet_tail h
  have hA := Lib.tabIs_of_head (k := .i64) (zs := ats) gA tA Tryd.underlying171 Tryd.underlying3 (by kernel_rfl) (by kernel_rfl) h3
  have cP : ∀ i : Nat, i < 5 → W.cell? ⟨1, i, none⟩ = some (.int .u64 (pres.getD i 0)) := fun i hi => hP.cell gP i hi
  have cA : ∀ i : Nat, i < 5 → W.cell? ⟨0, i, none⟩ = some (.int .i64 (ats.getD i 0)) := fun i hi => hA.cell gA i hi
  have lt : ∀ (g : Nat) (v : Value), W.cell? ⟨g, 0, none⟩ = some v → g < W.heap.size := fun g v hv => by
    rcases Nat.lt_or_ge g W.heap.size with hlt | hge
    · exact hlt
    · exfalso
      have : W.heap[g]? = none := Array.getElem?_eq_none hge
      simp [World.cell?, this] at hv
  have lP := lt _ _ (cP 0 (by decide))
  have lA := lt _ _ (cA 0 (by decide))
  exact ⟨by omega, cA, cP⟩
end Go.Proofs.YtcbliliinmfnjaaDoor.Door

end
