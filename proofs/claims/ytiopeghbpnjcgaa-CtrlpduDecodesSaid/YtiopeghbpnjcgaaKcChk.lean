import Derived.Test.YtiopeghbpnjcgaaKcRest
import Derived.Test.YtiopeghbpnjcgaaCnRUpd
import Derived.Test.YtiopeghbpnjcgaaChmRef
import Derived.Test.YtiopeghbpnjcgaaKcRest
import Derived.Test.YtiopeghbpnjcgaaCpEx
import Derived.Test.YtiopeghbpnjcgaaCpArgs
import Derived.Deep.CutRange
/- Control PDUs: what the Check of the document returns: contracts over the program. -/
set_option linter.unusedVariables false
set_option linter.unusedSimpArgs false
namespace Go.Proofs.Ytiopeghbpnjcgaa.Cp
open Go.RowKit Mem Oct Rw Av
open Base (thenB)
open Cn (okU)
theorem su_id {n : Int} (h : -9223372036854775808 ≤ n ∧ n ≤ 9223372036854775807) : s (u n) = n := by unfold s u; simp only [IntKind.wrap, IntKind.signed, IntKind.bits]; simp; omega
theorem u16u_id {n : Int} (h : 0 ≤ n ∧ n ≤ 65535) : IntKind.u16.wrap (u n) = n := by unfold u; simp only [IntKind.wrap, IntKind.signed, IntKind.bits]; simp; omega
theorem used_up_im (c : Ct) (hg : GoodC c) : c = usedC c [.up, .im] ↔ (⟨0, 0, 0, 0, 0, 0, c.m, 0, c.rs, c.rj, c.st, c.mr, c.ft, c.vs, c.ln⟩ : Ct) = zeroC := by
  obtain ⟨h0, h1, h2, h3, h4, h5, h6, h7, h8, h9, h10, h11, h12, h13, h14⟩ := hg
  obtain ⟨k, ws, wo, it, la, ti, m, ins, rs, rj, st, mr, ft, vs, ln⟩ := c
  simp only at h0 h1 h2 h3 h4 h5 h6 h7 h8 h9 h10 h11 h12 h13 h14
  simp only [usedC, List.foldl_cons, List.foldl_nil, setP, getP, onlyK, zeroC, List.getD_cons_zero, List.getD_cons_succ, su_id h2, su_id h3, su_id h4, su_id h5, su_id h6, u16u_id h7, su_id h8, su_id h9, su_id h13, su_id h14, Int.toNat_natCast, Ct.mk.injEq, true_and, and_true]
theorem used_ch_im (c : Ct) (hg : GoodC c) : c = usedC c [.ch, .im] ↔ (⟨0, c.ws, c.wo, c.it, c.la, c.ti, 0, 0, c.rs, c.rj, c.st, c.mr, c.ft, c.vs, c.ln⟩ : Ct) = zeroC := by
  obtain ⟨h0, h1, h2, h3, h4, h5, h6, h7, h8, h9, h10, h11, h12, h13, h14⟩ := hg
  obtain ⟨k, ws, wo, it, la, ti, m, ins, rs, rj, st, mr, ft, vs, ln⟩ := c
  simp only at h0 h1 h2 h3 h4 h5 h6 h7 h8 h9 h10 h11 h12 h13 h14
  simp only [usedC, List.foldl_cons, List.foldl_nil, setP, getP, onlyK, zeroC, List.getD_cons_zero, List.getD_cons_succ, su_id h2, su_id h3, su_id h4, su_id h5, su_id h6, u16u_id h7, su_id h8, su_id h9, su_id h13, su_id h14, Int.toNat_natCast, Ct.mk.injEq, true_and, and_true]
theorem used_rs (c : Ct) (hg : GoodC c) : c = usedC c [.rs] ↔ (⟨0, c.ws, c.wo, c.it, c.la, c.ti, c.m, c.ins, 0, c.rj, c.st, c.mr, c.ft, c.vs, c.ln⟩ : Ct) = zeroC := by
  obtain ⟨h0, h1, h2, h3, h4, h5, h6, h7, h8, h9, h10, h11, h12, h13, h14⟩ := hg
  obtain ⟨k, ws, wo, it, la, ti, m, ins, rs, rj, st, mr, ft, vs, ln⟩ := c
  simp only at h0 h1 h2 h3 h4 h5 h6 h7 h8 h9 h10 h11 h12 h13 h14
  simp only [usedC, List.foldl_cons, List.foldl_nil, setP, getP, onlyK, zeroC, List.getD_cons_zero, List.getD_cons_succ, su_id h2, su_id h3, su_id h4, su_id h5, su_id h6, u16u_id h7, su_id h8, su_id h9, su_id h13, su_id h14, Int.toNat_natCast, Ct.mk.injEq, true_and, and_true]
theorem used_sa_mk (c : Ct) (hg : GoodC c) : c = usedC c [.sa, .mk] ↔ (⟨0, c.ws, c.wo, c.it, c.la, c.ti, c.m, c.ins, c.rs, c.rj, 0, 0, c.ft, c.vs, c.ln⟩ : Ct) = zeroC := by
  obtain ⟨h0, h1, h2, h3, h4, h5, h6, h7, h8, h9, h10, h11, h12, h13, h14⟩ := hg
  obtain ⟨k, ws, wo, it, la, ti, m, ins, rs, rj, st, mr, ft, vs, ln⟩ := c
  simp only at h0 h1 h2 h3 h4 h5 h6 h7 h8 h9 h10 h11 h12 h13 h14
  simp only [usedC, List.foldl_cons, List.foldl_nil, setP, getP, onlyK, zeroC, List.getD_cons_zero, List.getD_cons_succ, su_id h2, su_id h3, su_id h4, su_id h5, su_id h6, u16u_id h7, su_id h8, su_id h9, su_id h13, su_id h14, Int.toNat_natCast, Ct.mk.injEq, true_and, and_true]
theorem used_sa (c : Ct) (hg : GoodC c) : c = usedC c [.sa] ↔ (⟨0, c.ws, c.wo, c.it, c.la, c.ti, c.m, c.ins, c.rs, c.rj, 0, c.mr, c.ft, c.vs, c.ln⟩ : Ct) = zeroC := by
  obtain ⟨h0, h1, h2, h3, h4, h5, h6, h7, h8, h9, h10, h11, h12, h13, h14⟩ := hg
  obtain ⟨k, ws, wo, it, la, ti, m, ins, rs, rj, st, mr, ft, vs, ln⟩ := c
  simp only at h0 h1 h2 h3 h4 h5 h6 h7 h8 h9 h10 h11 h12 h13 h14
  simp only [usedC, List.foldl_cons, List.foldl_nil, setP, getP, onlyK, zeroC, List.getD_cons_zero, List.getD_cons_succ, su_id h2, su_id h3, su_id h4, su_id h5, su_id h6, u16u_id h7, su_id h8, su_id h9, su_id h13, su_id h14, Int.toNat_natCast, Ct.mk.injEq, true_and, and_true]
theorem used_no (c : Ct) (hg : GoodC c) : c = usedC c [] ↔ (⟨0, c.ws, c.wo, c.it, c.la, c.ti, c.m, c.ins, c.rs, c.rj, c.st, c.mr, c.ft, c.vs, c.ln⟩ : Ct) = zeroC := by
  obtain ⟨h0, h1, h2, h3, h4, h5, h6, h7, h8, h9, h10, h11, h12, h13, h14⟩ := hg
  obtain ⟨k, ws, wo, it, la, ti, m, ins, rs, rj, st, mr, ft, vs, ln⟩ := c
  simp only at h0 h1 h2 h3 h4 h5 h6 h7 h8 h9 h10 h11 h12 h13 h14
  simp only [usedC, List.foldl_cons, List.foldl_nil, setP, getP, onlyK, zeroC, List.getD_cons_zero, List.getD_cons_succ, su_id h2, su_id h3, su_id h4, su_id h5, su_id h6, u16u_id h7, su_id h8, su_id h9, su_id h13, su_id h14, Int.toNat_natCast, Ct.mk.injEq, true_and, and_true]
theorem used_rj (c : Ct) (hg : GoodC c) : c = usedC c [.rj] ↔ (⟨0, c.ws, c.wo, c.it, c.la, c.ti, c.m, c.ins, c.rs, 0, c.st, c.mr, c.ft, c.vs, c.ln⟩ : Ct) = zeroC := by
  obtain ⟨h0, h1, h2, h3, h4, h5, h6, h7, h8, h9, h10, h11, h12, h13, h14⟩ := hg
  obtain ⟨k, ws, wo, it, la, ti, m, ins, rs, rj, st, mr, ft, vs, ln⟩ := c
  simp only at h0 h1 h2 h3 h4 h5 h6 h7 h8 h9 h10 h11 h12 h13 h14
  simp only [usedC, List.foldl_cons, List.foldl_nil, setP, getP, onlyK, zeroC, List.getD_cons_zero, List.getD_cons_succ, su_id h2, su_id h3, su_id h4, su_id h5, su_id h6, u16u_id h7, su_id h8, su_id h9, su_id h13, su_id h14, Int.toNat_natCast, Ct.mk.injEq, true_and, and_true]
theorem used_fe (c : Ct) (hg : GoodC c) : c = usedC c [.fe] ↔ (⟨0, c.ws, c.wo, c.it, c.la, c.ti, c.m, c.ins, c.rs, c.rj, c.st, c.mr, 0, c.vs, c.ln⟩ : Ct) = zeroC := by
  obtain ⟨h0, h1, h2, h3, h4, h5, h6, h7, h8, h9, h10, h11, h12, h13, h14⟩ := hg
  obtain ⟨k, ws, wo, it, la, ti, m, ins, rs, rj, st, mr, ft, vs, ln⟩ := c
  simp only at h0 h1 h2 h3 h4 h5 h6 h7 h8 h9 h10 h11 h12 h13 h14
  simp only [usedC, List.foldl_cons, List.foldl_nil, setP, getP, onlyK, zeroC, List.getD_cons_zero, List.getD_cons_succ, su_id h2, su_id h3, su_id h4, su_id h5, su_id h6, u16u_id h7, su_id h8, su_id h9, su_id h13, su_id h14, Int.toNat_natCast, Ct.mk.injEq, true_and, and_true]
theorem used_vs (c : Ct) (hg : GoodC c) : c = usedC c [.vs] ↔ (⟨0, c.ws, c.wo, c.it, c.la, c.ti, c.m, c.ins, c.rs, c.rj, c.st, c.mr, c.ft, 0, c.ln⟩ : Ct) = zeroC := by
  obtain ⟨h0, h1, h2, h3, h4, h5, h6, h7, h8, h9, h10, h11, h12, h13, h14⟩ := hg
  obtain ⟨k, ws, wo, it, la, ti, m, ins, rs, rj, st, mr, ft, vs, ln⟩ := c
  simp only at h0 h1 h2 h3 h4 h5 h6 h7 h8 h9 h10 h11 h12 h13 h14
  simp only [usedC, List.foldl_cons, List.foldl_nil, setP, getP, onlyK, zeroC, List.getD_cons_zero, List.getD_cons_succ, su_id h2, su_id h3, su_id h4, su_id h5, su_id h6, u16u_id h7, su_id h8, su_id h9, su_id h13, su_id h14, Int.toNat_natCast, Ct.mk.injEq, true_and, and_true]
theorem used_rs_rj (c : Ct) (hg : GoodC c) : c = usedC c [.rs, .rj] ↔ (⟨0, c.ws, c.wo, c.it, c.la, c.ti, c.m, c.ins, 0, 0, c.st, c.mr, c.ft, c.vs, c.ln⟩ : Ct) = zeroC := by
  obtain ⟨h0, h1, h2, h3, h4, h5, h6, h7, h8, h9, h10, h11, h12, h13, h14⟩ := hg
  obtain ⟨k, ws, wo, it, la, ti, m, ins, rs, rj, st, mr, ft, vs, ln⟩ := c
  simp only at h0 h1 h2 h3 h4 h5 h6 h7 h8 h9 h10 h11 h12 h13 h14
  simp only [usedC, List.foldl_cons, List.foldl_nil, setP, getP, onlyK, zeroC, List.getD_cons_zero, List.getD_cons_succ, su_id h2, su_id h3, su_id h4, su_id h5, su_id h6, u16u_id h7, su_id h8, su_id h9, su_id h13, su_id h14, Int.toNat_natCast, Ct.mk.injEq, true_and, and_true]
theorem used_up (c : Ct) (hg : GoodC c) : c = usedC c [.up] ↔ (⟨0, 0, 0, 0, 0, 0, c.m, c.ins, c.rs, c.rj, c.st, c.mr, c.ft, c.vs, c.ln⟩ : Ct) = zeroC := by
  obtain ⟨h0, h1, h2, h3, h4, h5, h6, h7, h8, h9, h10, h11, h12, h13, h14⟩ := hg
  obtain ⟨k, ws, wo, it, la, ti, m, ins, rs, rj, st, mr, ft, vs, ln⟩ := c
  simp only at h0 h1 h2 h3 h4 h5 h6 h7 h8 h9 h10 h11 h12 h13 h14
  simp only [usedC, List.foldl_cons, List.foldl_nil, setP, getP, onlyK, zeroC, List.getD_cons_zero, List.getD_cons_succ, su_id h2, su_id h3, su_id h4, su_id h5, su_id h6, u16u_id h7, su_id h8, su_id h9, su_id h13, su_id h14, Int.toNat_natCast, Ct.mk.injEq, true_and, and_true]
theorem used_ln (c : Ct) (hg : GoodC c) : c = usedC c [.ln] ↔ (⟨0, c.ws, c.wo, c.it, c.la, c.ti, c.m, c.ins, c.rs, c.rj, c.st, c.mr, c.ft, c.vs, 0⟩ : Ct) = zeroC := by
  obtain ⟨h0, h1, h2, h3, h4, h5, h6, h7, h8, h9, h10, h11, h12, h13, h14⟩ := hg
  obtain ⟨k, ws, wo, it, la, ti, m, ins, rs, rj, st, mr, ft, vs, ln⟩ := c
  simp only at h0 h1 h2 h3 h4 h5 h6 h7 h8 h9 h10 h11 h12 h13 h14
  simp only [usedC, List.foldl_cons, List.foldl_nil, setP, getP, onlyK, zeroC, List.getD_cons_zero, List.getD_cons_succ, su_id h2, su_id h3, su_id h4, su_id h5, su_id h6, u16u_id h7, su_id h8, su_id h9, su_id h13, su_id h14, Int.toNat_natCast, Ct.mk.injEq, true_and, and_true]
set_option maxRecDepth 100000 in
set_option maxHeartbeats 4000000 in
theorem rchk_up_im (c : Ct) (w : World) (hg : GoodC c) (hp : ptsK c.k = some [.up, .im]) : Calls Try.prog 10 #[.agg (encC c)] w fun e w' => e = .returned (.int .i64 (chkC c)) ∧ Below w.heap.size w w' := by
  have BX : Below w.heap.size w (w.alloc (.cells (encC c) 28)) := (Below.refl _ _).alloc (Nat.le_refl _) _
  have K1 : Blk (w.alloc (.cells (encC c) 28)) w.heap.size 28 (encC c) := Blk.fresh w 28 (encC c)
  have HSZ : (Try.prog.info? 28).map (·.size) = some (encC c).size := by kernel_rfl
  have HF : Hid (∀ w, Calls Try.prog 20 #[.int .i64 c.k] w fun e w' => e = .returned (.agg #[.bool true, .bool true, .bool false, .bool true, .bool false, .bool false, .bool false, .bool false, .bool false, .bool false, .bool false]) ∧ Below w.heap.size w w') := Lib.hid fun w => by have := fields_k c.k w; rw [hp] at this; exact this
  have HRs : Hid (∀ w, Calls Try.prog 21 #[.agg (encC c)] w fun e w' => e = .returned (.agg (encC ⟨0, 0, 0, 0, 0, 0, c.m, 0, c.rs, c.rj, c.st, c.mr, c.ft, c.vs, c.ln⟩)) ∧ Below w.heap.size w w') := Lib.hid fun w => rest_up_im c w hp
  have q1 : ∀ w, (binOp .neq 28 (.agg (encC ⟨0, 0, 0, 0, 0, 0, c.m, 0, c.rs, c.rj, c.st, c.mr, c.ft, c.vs, c.ln⟩)) (.agg #[.int .i64 0, .int .i64 0, .int .i64 0, .int .i64 0, .int .i64 0, .int .i64 0, .int .u64 0, .int .u16 0, .int .i64 0, .int .i64 0, .int .u64 0, .int .u64 0, .int .u64 0, .int .i64 0, .int .i64 0])).run Try.prog w = .ok (.bool (!decide ((⟨0, 0, 0, 0, 0, 0, c.m, 0, c.rs, c.rj, c.st, c.mr, c.ft, c.vs, c.ln⟩ : Ct) = zeroC))) w := ctl_neq _ zeroC
  have q2 : ∀ w x y, (eqGuard .neq 28 x y (.agg (encC ⟨0, 0, 0, 0, 0, 0, c.m, 0, c.rs, c.rj, c.st, c.mr, c.ft, c.vs, c.ln⟩)) (.agg #[.int .i64 0, .int .i64 0, .int .i64 0, .int .i64 0, .int .i64 0, .int .i64 0, .int .u64 0, .int .u16 0, .int .i64 0, .int .i64 0, .int .u64 0, .int .u64 0, .int .u64 0, .int .i64 0, .int .i64 0])).run Try.prog w = .ok () w := ctl_ng _ zeroC
  have HUp := Lib.hid (Cn.rcheckUpdate_any c.ws c.wo c.it c.la c.ti)
  obtain ⟨R, hR⟩ : ∃ R, chkC c = R := ⟨_, rfl⟩
  rw [hR]
  have HR : Hid (R = if c = usedC c [.up, .im] then errP c [.up, .im] else 1) := Lib.hid (by rw [← hR]; unfold chkC; rw [hp])
  have hiff := used_up_im c hg
  clear hR hp hg
  have HIA := Lib.hid fun w => isbyte_any c.rs w
  have HIB := Lib.hid fun w => isbyte_any c.rj w
  have HIV := Lib.hid fun w => isbyte_any c.vs w
  have HZc : Hid ((⟨0, 0, 0, 0, 0, 0, c.m, 0, c.rs, c.rj, c.st, c.mr, c.ft, c.vs, c.ln⟩ : Ct) = zeroC → c.m = 0 ∧ c.rs = 0 ∧ c.rj = 0 ∧ c.st = 0 ∧ c.mr = 0 ∧ c.ft = 0 ∧ c.vs = 0 ∧ c.ln = 0) := Lib.hid fun h => by
    simp only [zeroC, Ct.mk.injEq, true_and, and_true] at h
    exact h
  obtain ⟨Z, hZ⟩ : ∃ Z, encC ⟨0, 0, 0, 0, 0, 0, c.m, 0, c.rs, c.rj, c.st, c.mr, c.ft, c.vs, c.ln⟩ = Z := ⟨_, rfl⟩
  rw [hZ] at HRs q1 q2
  clear hZ
  have hC1 : (encC c)[1]? = some (.int .i64 c.ws) := rfl
  have hC2 : (encC c)[2]? = some (.int .i64 c.wo) := rfl
  have hC3 : (encC c)[3]? = some (.int .i64 c.it) := rfl
  have hC4 : (encC c)[4]? = some (.int .i64 c.la) := rfl
  have hC5 : (encC c)[5]? = some (.int .i64 c.ti) := rfl
  have hC6 : (encC c)[6]? = some (.int .u64 (c.m : Int)) := rfl
  have hC7 : (encC c)[7]? = some (.int .u16 c.ins) := rfl
  have hC8 : (encC c)[8]? = some (.int .i64 c.rs) := rfl
  have hC9 : (encC c)[9]? = some (.int .i64 c.rj) := rfl
  have hC10 : (encC c)[10]? = some (.int .u64 c.st) := rfl
  have hC11 : (encC c)[11]? = some (.int .u64 c.mr) := rfl
  have hC12 : (encC c)[12]? = some (.int .u64 c.ft) := rfl
  have hC13 : (encC c)[13]? = some (.int .i64 c.vs) := rfl
  have hC14 : (encC c)[14]? = some (.int .i64 c.ln) := rfl
  have hC0 : (encC c)[0]? = some (.int .i64 c.k) := rfl
  obtain ⟨C, hC⟩ : ∃ C, encC c = C := ⟨_, rfl⟩
  rw [hC] at BX K1 HSZ HRs hC0 hC1 hC2 hC3 hC4 hC5 hC6 hC7 hC8 hC9 hC10 hC11 hC12 hC13 hC14 ⊢
  clear hC
  have k0 := (K1.cell 0).trans hC0
  by_cases hz : (⟨0, 0, 0, 0, 0, 0, c.m, 0, c.rs, c.rj, c.st, c.mr, c.ft, c.vs, c.ln⟩ : Ct) = zeroC
  · rw [decide_eq_true hz] at q1
    have hz0 := HZc.out hz
    have HE : Hid (R = errP c [.up, .im]) := Lib.hid (by rw [HR.out, if_pos (hiff.2 hz)])
    clear HR hiff hz HZc
    obtain ⟨zm, zrs, zrj, zst, zmr, zft, zvs, zln⟩ := hz0
    rw [show decide (0 ≤ c.rs ∧ c.rs ≤ 255) = true from by rw [zrs]; decide] at HIA
    rw [show decide (0 ≤ c.rj ∧ c.rj ≤ 255) = true from by rw [zrj]; decide] at HIB
    rw [show decide (0 ≤ c.vs ∧ c.vs ≤ 255) = true from by rw [zvs]; decide] at HIV
    clear zm zrs zrj zst zmr zft zvs zln
    by_cases hup : okU c.ws c.wo c.it c.la c.ti = 0
    · rw [hup] at HUp
      obtain rfl : R = 0 := by rw [HE.out]; simp [errP, chkP, inB, hup]
      go_enter Try.func10, Try.ntmps10
      go_upto_region 2 with (go_at_call 20; refine (HF.out _).mono ?_; rintro e w1 ⟨rfl, b1⟩; replace K1 := K1.below b1 K1.lt; replace BX := thenB BX b1; clear b1 k0)
      have b9 : Below w1.heap.size w1 (w1.alloc (.cells #[.bool true, .bool true, .bool false, .bool true, .bool false, .bool false, .bool false, .bool false, .bool false, .bool false, .bool false] 53)) := (Below.refl _ _).alloc (Nat.le_refl _) _
      have K3 : Blk (w1.alloc (.cells #[.bool true, .bool true, .bool false, .bool true, .bool false, .bool false, .bool false, .bool false, .bool false, .bool false, .bool false] 53)) w1.heap.size 53 #[.bool true, .bool true, .bool false, .bool true, .bool false, .bool false, .bool false, .bool false, .bool false, .bool false, .bool false] := Blk.fresh w1 53 #[.bool true, .bool true, .bool false, .bool true, .bool false, .bool false, .bool false, .bool false, .bool false, .bool false, .bool false]
      have hk1 := K1.lt
      replace K1 := K1.below b9 K1.lt
      replace BX := thenB BX b9
      clear b9
      generalize w1.alloc (.cells #[.bool true, .bool true, .bool false, .bool true, .bool false, .bool false, .bool false, .bool false, .bool false, .bool false, .bool false] 53) = X0 at *
      obtain ⟨g3, e3⟩ : ∃ g, w1.heap.size = g := ⟨_, rfl⟩
      rw [e3] at K3 hk1
      try simp only [e3]
      clear e3
      have y0 := K3.cell 0
      go_upto_region 6 with (first | (refine wpList_load_row rfl 28 (.tmp 1) rfl w.heap.size rfl 28 _ (0, 0) _ K1 Try.underlying28 rfl HSZ ?_) | (go_at_call 21; refine (HRs.out _).mono ?_; rintro e w2 ⟨rfl, b2⟩; replace K1 := K1.below b2 K1.lt; replace K3 := K3.below b2 K3.lt; replace BX := thenB BX b2; clear b2))
      clear y0
      have k1 := (K1.cell 1).trans hC1
      have k2 := (K1.cell 2).trans hC2
      have k3 := (K1.cell 3).trans hC3
      have k4 := (K1.cell 4).trans hC4
      have k5 := (K1.cell 5).trans hC5
      have k6 := (K1.cell 6).trans hC6
      have k7 := (K1.cell 7).trans hC7
      have k8 := (K1.cell 8).trans hC8
      have k9 := (K1.cell 9).trans hC9
      have k10 := (K1.cell 10).trans hC10
      have k11 := (K1.cell 11).trans hC11
      have k12 := (K1.cell 12).trans hC12
      have k13 := (K1.cell 13).trans hC13
      have k14 := (K1.cell 14).trans hC14
      have y1 := K3.cell 1
      have y2 := K3.cell 2
      have y10 := K3.cell 10
      go_wp2_with (first | (go_at_call 22; refine (HUp.out _).mono ?_; rintro e w3 ⟨rfl, b3⟩; replace K1 := K1.below b3 K1.lt; replace K3 := K3.below b3 K3.lt; replace BX := thenB BX b3; replace k1 := (K1.cell 1).trans hC1; replace k2 := (K1.cell 2).trans hC2; replace k3 := (K1.cell 3).trans hC3; replace k4 := (K1.cell 4).trans hC4; replace k5 := (K1.cell 5).trans hC5; replace k6 := (K1.cell 6).trans hC6; replace k7 := (K1.cell 7).trans hC7; replace k8 := (K1.cell 8).trans hC8; replace k9 := (K1.cell 9).trans hC9; replace k10 := (K1.cell 10).trans hC10; replace k11 := (K1.cell 11).trans hC11; replace k12 := (K1.cell 12).trans hC12; replace k13 := (K1.cell 13).trans hC13; replace k14 := (K1.cell 14).trans hC14; replace y1 := K3.cell 1; replace y2 := K3.cell 2; replace y10 := K3.cell 10; clear b3) | (go_at_call_of 24 c.rs; refine (HIA.out _).mono ?_; rintro e w3 ⟨rfl, rfl⟩) | (go_at_call_of 24 c.rj; refine (HIB.out _).mono ?_; rintro e w3 ⟨rfl, rfl⟩) | (go_at_call_of 24 c.vs; refine (HIV.out _).mono ?_; rintro e w3 ⟨rfl, rfl⟩))
      go_ret
      exact ⟨rfl, BX⟩
    · have hz' : (okU c.ws c.wo c.it c.la c.ti != 0) = true := by simpa using hup
      obtain rfl : R = okU c.ws c.wo c.it c.la c.ti := by rw [HE.out]; simp [errP, chkP, hup]
      go_enter Try.func10, Try.ntmps10
      go_upto_region 2 with (go_at_call 20; refine (HF.out _).mono ?_; rintro e w1 ⟨rfl, b1⟩; replace K1 := K1.below b1 K1.lt; replace BX := thenB BX b1; clear b1 k0)
      have b9 : Below w1.heap.size w1 (w1.alloc (.cells #[.bool true, .bool true, .bool false, .bool true, .bool false, .bool false, .bool false, .bool false, .bool false, .bool false, .bool false] 53)) := (Below.refl _ _).alloc (Nat.le_refl _) _
      have K3 : Blk (w1.alloc (.cells #[.bool true, .bool true, .bool false, .bool true, .bool false, .bool false, .bool false, .bool false, .bool false, .bool false, .bool false] 53)) w1.heap.size 53 #[.bool true, .bool true, .bool false, .bool true, .bool false, .bool false, .bool false, .bool false, .bool false, .bool false, .bool false] := Blk.fresh w1 53 #[.bool true, .bool true, .bool false, .bool true, .bool false, .bool false, .bool false, .bool false, .bool false, .bool false, .bool false]
      have hk1 := K1.lt
      replace K1 := K1.below b9 K1.lt
      replace BX := thenB BX b9
      clear b9
      generalize w1.alloc (.cells #[.bool true, .bool true, .bool false, .bool true, .bool false, .bool false, .bool false, .bool false, .bool false, .bool false, .bool false] 53) = X0 at *
      obtain ⟨g3, e3⟩ : ∃ g, w1.heap.size = g := ⟨_, rfl⟩
      rw [e3] at K3 hk1
      try simp only [e3]
      clear e3
      have y0 := K3.cell 0
      go_upto_region 6 with (first | (refine wpList_load_row rfl 28 (.tmp 1) rfl w.heap.size rfl 28 _ (0, 0) _ K1 Try.underlying28 rfl HSZ ?_) | (go_at_call 21; refine (HRs.out _).mono ?_; rintro e w2 ⟨rfl, b2⟩; replace K1 := K1.below b2 K1.lt; replace K3 := K3.below b2 K3.lt; replace BX := thenB BX b2; clear b2))
      clear y0
      have k1 := (K1.cell 1).trans hC1
      have k2 := (K1.cell 2).trans hC2
      have k3 := (K1.cell 3).trans hC3
      have k4 := (K1.cell 4).trans hC4
      have k5 := (K1.cell 5).trans hC5
      have k6 := (K1.cell 6).trans hC6
      have k7 := (K1.cell 7).trans hC7
      have k8 := (K1.cell 8).trans hC8
      have k9 := (K1.cell 9).trans hC9
      have k10 := (K1.cell 10).trans hC10
      have k11 := (K1.cell 11).trans hC11
      have k12 := (K1.cell 12).trans hC12
      have k13 := (K1.cell 13).trans hC13
      have k14 := (K1.cell 14).trans hC14
      have y1 := K3.cell 1
      have y2 := K3.cell 2
      have y10 := K3.cell 10
      go_wp2_with (first | (go_at_call 22; refine (HUp.out _).mono ?_; rintro e w3 ⟨rfl, b3⟩; replace K1 := K1.below b3 K1.lt; replace K3 := K3.below b3 K3.lt; replace BX := thenB BX b3; replace k1 := (K1.cell 1).trans hC1; replace k2 := (K1.cell 2).trans hC2; replace k3 := (K1.cell 3).trans hC3; replace k4 := (K1.cell 4).trans hC4; replace k5 := (K1.cell 5).trans hC5; replace k6 := (K1.cell 6).trans hC6; replace k7 := (K1.cell 7).trans hC7; replace k8 := (K1.cell 8).trans hC8; replace k9 := (K1.cell 9).trans hC9; replace k10 := (K1.cell 10).trans hC10; replace k11 := (K1.cell 11).trans hC11; replace k12 := (K1.cell 12).trans hC12; replace k13 := (K1.cell 13).trans hC13; replace k14 := (K1.cell 14).trans hC14; replace y1 := K3.cell 1; replace y2 := K3.cell 2; replace y10 := K3.cell 10; clear b3) | (go_at_call_of 24 c.rs; refine (HIA.out _).mono ?_; rintro e w3 ⟨rfl, rfl⟩) | (go_at_call_of 24 c.rj; refine (HIB.out _).mono ?_; rintro e w3 ⟨rfl, rfl⟩) | (go_at_call_of 24 c.vs; refine (HIV.out _).mono ?_; rintro e w3 ⟨rfl, rfl⟩))
      go_ret
      exact ⟨rfl, BX⟩
  · rw [decide_eq_false hz] at q1
    have HE : Hid (R = 1) := Lib.hid (by rw [HR.out, if_neg (fun h => hz (hiff.1 h))])
    clear HR hiff hz HZc
    obtain rfl : R = 1 := by exact HE.out
    go_enter Try.func10, Try.ntmps10
    go_upto_region 2 with (go_at_call 20; refine (HF.out _).mono ?_; rintro e w1 ⟨rfl, b1⟩; replace K1 := K1.below b1 K1.lt; replace BX := thenB BX b1; clear b1 k0)
    have b9 : Below w1.heap.size w1 (w1.alloc (.cells #[.bool true, .bool true, .bool false, .bool true, .bool false, .bool false, .bool false, .bool false, .bool false, .bool false, .bool false] 53)) := (Below.refl _ _).alloc (Nat.le_refl _) _
    have K3 : Blk (w1.alloc (.cells #[.bool true, .bool true, .bool false, .bool true, .bool false, .bool false, .bool false, .bool false, .bool false, .bool false, .bool false] 53)) w1.heap.size 53 #[.bool true, .bool true, .bool false, .bool true, .bool false, .bool false, .bool false, .bool false, .bool false, .bool false, .bool false] := Blk.fresh w1 53 #[.bool true, .bool true, .bool false, .bool true, .bool false, .bool false, .bool false, .bool false, .bool false, .bool false, .bool false]
    have hk1 := K1.lt
    replace K1 := K1.below b9 K1.lt
    replace BX := thenB BX b9
    clear b9
    generalize w1.alloc (.cells #[.bool true, .bool true, .bool false, .bool true, .bool false, .bool false, .bool false, .bool false, .bool false, .bool false, .bool false] 53) = X0 at *
    obtain ⟨g3, e3⟩ : ∃ g, w1.heap.size = g := ⟨_, rfl⟩
    rw [e3] at K3 hk1
    try simp only [e3]
    clear e3
    have y0 := K3.cell 0
    clear y0
    have y0 := K3.cell 0
    go_wp2_with (first | (refine wpList_load_row rfl 28 (.tmp 1) rfl w.heap.size rfl 28 _ (0, 0) _ K1 Try.underlying28 rfl HSZ ?_) | (go_at_call 21; refine (HRs.out _).mono ?_; rintro e w2 ⟨rfl, b2⟩; replace K1 := K1.below b2 K1.lt; replace K3 := K3.below b2 K3.lt; replace BX := thenB BX b2; clear b2))
    go_ret
    exact ⟨rfl, BX⟩
set_option maxRecDepth 100000 in
set_option maxHeartbeats 4000000 in
theorem rchk_ch_im (c : Ct) (w : World) (hg : GoodC c) (hp : ptsK c.k = some [.ch, .im]) : Calls Try.prog 10 #[.agg (encC c)] w fun e w' => e = .returned (.int .i64 (chkC c)) ∧ Below w.heap.size w w' := by
  have BX : Below w.heap.size w (w.alloc (.cells (encC c) 28)) := (Below.refl _ _).alloc (Nat.le_refl _) _
  have K1 : Blk (w.alloc (.cells (encC c) 28)) w.heap.size 28 (encC c) := Blk.fresh w 28 (encC c)
  have HSZ : (Try.prog.info? 28).map (·.size) = some (encC c).size := by kernel_rfl
  have HF : Hid (∀ w, Calls Try.prog 20 #[.int .i64 c.k] w fun e w' => e = .returned (.agg #[.bool true, .bool false, .bool true, .bool true, .bool false, .bool false, .bool false, .bool false, .bool false, .bool false, .bool false]) ∧ Below w.heap.size w w') := Lib.hid fun w => by have := fields_k c.k w; rw [hp] at this; exact this
  have HRs : Hid (∀ w, Calls Try.prog 21 #[.agg (encC c)] w fun e w' => e = .returned (.agg (encC ⟨0, c.ws, c.wo, c.it, c.la, c.ti, 0, 0, c.rs, c.rj, c.st, c.mr, c.ft, c.vs, c.ln⟩)) ∧ Below w.heap.size w w') := Lib.hid fun w => rest_ch_im c w hp
  have q1 : ∀ w, (binOp .neq 28 (.agg (encC ⟨0, c.ws, c.wo, c.it, c.la, c.ti, 0, 0, c.rs, c.rj, c.st, c.mr, c.ft, c.vs, c.ln⟩)) (.agg #[.int .i64 0, .int .i64 0, .int .i64 0, .int .i64 0, .int .i64 0, .int .i64 0, .int .u64 0, .int .u16 0, .int .i64 0, .int .i64 0, .int .u64 0, .int .u64 0, .int .u64 0, .int .i64 0, .int .i64 0])).run Try.prog w = .ok (.bool (!decide ((⟨0, c.ws, c.wo, c.it, c.la, c.ti, 0, 0, c.rs, c.rj, c.st, c.mr, c.ft, c.vs, c.ln⟩ : Ct) = zeroC))) w := ctl_neq _ zeroC
  have q2 : ∀ w x y, (eqGuard .neq 28 x y (.agg (encC ⟨0, c.ws, c.wo, c.it, c.la, c.ti, 0, 0, c.rs, c.rj, c.st, c.mr, c.ft, c.vs, c.ln⟩)) (.agg #[.int .i64 0, .int .i64 0, .int .i64 0, .int .i64 0, .int .i64 0, .int .i64 0, .int .u64 0, .int .u16 0, .int .i64 0, .int .i64 0, .int .u64 0, .int .u64 0, .int .u64 0, .int .i64 0, .int .i64 0])).run Try.prog w = .ok () w := ctl_ng _ zeroC
  have HMp := Lib.hid fun w => Chm.rcheck_any c.m w hg.1
  obtain ⟨R, hR⟩ : ∃ R, chkC c = R := ⟨_, rfl⟩
  rw [hR]
  have HR : Hid (R = if c = usedC c [.ch, .im] then errP c [.ch, .im] else 1) := Lib.hid (by rw [← hR]; unfold chkC; rw [hp])
  have hiff := used_ch_im c hg
  clear hR hp hg
  have HIA := Lib.hid fun w => isbyte_any c.rs w
  have HIB := Lib.hid fun w => isbyte_any c.rj w
  have HIV := Lib.hid fun w => isbyte_any c.vs w
  have HZc : Hid ((⟨0, c.ws, c.wo, c.it, c.la, c.ti, 0, 0, c.rs, c.rj, c.st, c.mr, c.ft, c.vs, c.ln⟩ : Ct) = zeroC → c.ws = 0 ∧ c.wo = 0 ∧ c.it = 0 ∧ c.la = 0 ∧ c.ti = 0 ∧ c.rs = 0 ∧ c.rj = 0 ∧ c.st = 0 ∧ c.mr = 0 ∧ c.ft = 0 ∧ c.vs = 0 ∧ c.ln = 0) := Lib.hid fun h => by
    simp only [zeroC, Ct.mk.injEq, true_and, and_true] at h
    exact h
  obtain ⟨Z, hZ⟩ : ∃ Z, encC ⟨0, c.ws, c.wo, c.it, c.la, c.ti, 0, 0, c.rs, c.rj, c.st, c.mr, c.ft, c.vs, c.ln⟩ = Z := ⟨_, rfl⟩
  rw [hZ] at HRs q1 q2
  clear hZ
  have hC1 : (encC c)[1]? = some (.int .i64 c.ws) := rfl
  have hC2 : (encC c)[2]? = some (.int .i64 c.wo) := rfl
  have hC3 : (encC c)[3]? = some (.int .i64 c.it) := rfl
  have hC4 : (encC c)[4]? = some (.int .i64 c.la) := rfl
  have hC5 : (encC c)[5]? = some (.int .i64 c.ti) := rfl
  have hC6 : (encC c)[6]? = some (.int .u64 (c.m : Int)) := rfl
  have hC7 : (encC c)[7]? = some (.int .u16 c.ins) := rfl
  have hC8 : (encC c)[8]? = some (.int .i64 c.rs) := rfl
  have hC9 : (encC c)[9]? = some (.int .i64 c.rj) := rfl
  have hC10 : (encC c)[10]? = some (.int .u64 c.st) := rfl
  have hC11 : (encC c)[11]? = some (.int .u64 c.mr) := rfl
  have hC12 : (encC c)[12]? = some (.int .u64 c.ft) := rfl
  have hC13 : (encC c)[13]? = some (.int .i64 c.vs) := rfl
  have hC14 : (encC c)[14]? = some (.int .i64 c.ln) := rfl
  have hC0 : (encC c)[0]? = some (.int .i64 c.k) := rfl
  obtain ⟨C, hC⟩ : ∃ C, encC c = C := ⟨_, rfl⟩
  rw [hC] at BX K1 HSZ HRs hC0 hC1 hC2 hC3 hC4 hC5 hC6 hC7 hC8 hC9 hC10 hC11 hC12 hC13 hC14 ⊢
  clear hC
  have k0 := (K1.cell 0).trans hC0
  by_cases hz : (⟨0, c.ws, c.wo, c.it, c.la, c.ti, 0, 0, c.rs, c.rj, c.st, c.mr, c.ft, c.vs, c.ln⟩ : Ct) = zeroC
  · rw [decide_eq_true hz] at q1
    have hz0 := HZc.out hz
    have HE : Hid (R = errP c [.ch, .im]) := Lib.hid (by rw [HR.out, if_pos (hiff.2 hz)])
    clear HR hiff hz HZc
    obtain ⟨zws, zwo, zit, zla, zti, zrs, zrj, zst, zmr, zft, zvs, zln⟩ := hz0
    rw [show decide (0 ≤ c.rs ∧ c.rs ≤ 255) = true from by rw [zrs]; decide] at HIA
    rw [show decide (0 ≤ c.rj ∧ c.rj ≤ 255) = true from by rw [zrj]; decide] at HIB
    rw [show decide (0 ≤ c.vs ∧ c.vs ≤ 255) = true from by rw [zvs]; decide] at HIV
    clear zws zwo zit zla zti zrs zrj zst zmr zft zvs zln
    by_cases hch : Chm.okM c.m = 0
    · rw [hch] at HMp
      obtain rfl : R = 0 := by rw [HE.out]; simp [errP, chkP, inB, hch]
      go_enter Try.func10, Try.ntmps10
      go_upto_region 2 with (go_at_call 20; refine (HF.out _).mono ?_; rintro e w1 ⟨rfl, b1⟩; replace K1 := K1.below b1 K1.lt; replace BX := thenB BX b1; clear b1 k0)
      have b9 : Below w1.heap.size w1 (w1.alloc (.cells #[.bool true, .bool false, .bool true, .bool true, .bool false, .bool false, .bool false, .bool false, .bool false, .bool false, .bool false] 53)) := (Below.refl _ _).alloc (Nat.le_refl _) _
      have K3 : Blk (w1.alloc (.cells #[.bool true, .bool false, .bool true, .bool true, .bool false, .bool false, .bool false, .bool false, .bool false, .bool false, .bool false] 53)) w1.heap.size 53 #[.bool true, .bool false, .bool true, .bool true, .bool false, .bool false, .bool false, .bool false, .bool false, .bool false, .bool false] := Blk.fresh w1 53 #[.bool true, .bool false, .bool true, .bool true, .bool false, .bool false, .bool false, .bool false, .bool false, .bool false, .bool false]
      have hk1 := K1.lt
      replace K1 := K1.below b9 K1.lt
      replace BX := thenB BX b9
      clear b9
      generalize w1.alloc (.cells #[.bool true, .bool false, .bool true, .bool true, .bool false, .bool false, .bool false, .bool false, .bool false, .bool false, .bool false] 53) = X0 at *
      obtain ⟨g3, e3⟩ : ∃ g, w1.heap.size = g := ⟨_, rfl⟩
      rw [e3] at K3 hk1
      try simp only [e3]
      clear e3
      have y0 := K3.cell 0
      go_upto_region 6 with (first | (refine wpList_load_row rfl 28 (.tmp 1) rfl w.heap.size rfl 28 _ (0, 0) _ K1 Try.underlying28 rfl HSZ ?_) | (go_at_call 21; refine (HRs.out _).mono ?_; rintro e w2 ⟨rfl, b2⟩; replace K1 := K1.below b2 K1.lt; replace K3 := K3.below b2 K3.lt; replace BX := thenB BX b2; clear b2))
      clear y0
      have k1 := (K1.cell 1).trans hC1
      have k2 := (K1.cell 2).trans hC2
      have k3 := (K1.cell 3).trans hC3
      have k4 := (K1.cell 4).trans hC4
      have k5 := (K1.cell 5).trans hC5
      have k6 := (K1.cell 6).trans hC6
      have k7 := (K1.cell 7).trans hC7
      have k8 := (K1.cell 8).trans hC8
      have k9 := (K1.cell 9).trans hC9
      have k10 := (K1.cell 10).trans hC10
      have k11 := (K1.cell 11).trans hC11
      have k12 := (K1.cell 12).trans hC12
      have k13 := (K1.cell 13).trans hC13
      have k14 := (K1.cell 14).trans hC14
      have y1 := K3.cell 1
      have y2 := K3.cell 2
      have y10 := K3.cell 10
      go_wp2_with (first | (go_at_call 23; refine (HMp.out _).mono ?_; rintro e w3 ⟨rfl, b3⟩; replace K1 := K1.below b3 K1.lt; replace K3 := K3.below b3 K3.lt; replace BX := thenB BX b3; replace k1 := (K1.cell 1).trans hC1; replace k2 := (K1.cell 2).trans hC2; replace k3 := (K1.cell 3).trans hC3; replace k4 := (K1.cell 4).trans hC4; replace k5 := (K1.cell 5).trans hC5; replace k6 := (K1.cell 6).trans hC6; replace k7 := (K1.cell 7).trans hC7; replace k8 := (K1.cell 8).trans hC8; replace k9 := (K1.cell 9).trans hC9; replace k10 := (K1.cell 10).trans hC10; replace k11 := (K1.cell 11).trans hC11; replace k12 := (K1.cell 12).trans hC12; replace k13 := (K1.cell 13).trans hC13; replace k14 := (K1.cell 14).trans hC14; replace y1 := K3.cell 1; replace y2 := K3.cell 2; replace y10 := K3.cell 10; clear b3) | (go_at_call_of 24 c.rs; refine (HIA.out _).mono ?_; rintro e w3 ⟨rfl, rfl⟩) | (go_at_call_of 24 c.rj; refine (HIB.out _).mono ?_; rintro e w3 ⟨rfl, rfl⟩) | (go_at_call_of 24 c.vs; refine (HIV.out _).mono ?_; rintro e w3 ⟨rfl, rfl⟩))
      go_ret
      exact ⟨rfl, BX⟩
    · have hz' : (Chm.okM c.m != 0) = true := by simpa using hch
      obtain rfl : R = Chm.okM c.m := by rw [HE.out]; simp [errP, chkP, hch]
      go_enter Try.func10, Try.ntmps10
      go_upto_region 2 with (go_at_call 20; refine (HF.out _).mono ?_; rintro e w1 ⟨rfl, b1⟩; replace K1 := K1.below b1 K1.lt; replace BX := thenB BX b1; clear b1 k0)
      have b9 : Below w1.heap.size w1 (w1.alloc (.cells #[.bool true, .bool false, .bool true, .bool true, .bool false, .bool false, .bool false, .bool false, .bool false, .bool false, .bool false] 53)) := (Below.refl _ _).alloc (Nat.le_refl _) _
      have K3 : Blk (w1.alloc (.cells #[.bool true, .bool false, .bool true, .bool true, .bool false, .bool false, .bool false, .bool false, .bool false, .bool false, .bool false] 53)) w1.heap.size 53 #[.bool true, .bool false, .bool true, .bool true, .bool false, .bool false, .bool false, .bool false, .bool false, .bool false, .bool false] := Blk.fresh w1 53 #[.bool true, .bool false, .bool true, .bool true, .bool false, .bool false, .bool false, .bool false, .bool false, .bool false, .bool false]
      have hk1 := K1.lt
      replace K1 := K1.below b9 K1.lt
      replace BX := thenB BX b9
      clear b9
      generalize w1.alloc (.cells #[.bool true, .bool false, .bool true, .bool true, .bool false, .bool false, .bool false, .bool false, .bool false, .bool false, .bool false] 53) = X0 at *
      obtain ⟨g3, e3⟩ : ∃ g, w1.heap.size = g := ⟨_, rfl⟩
      rw [e3] at K3 hk1
      try simp only [e3]
      clear e3
      have y0 := K3.cell 0
      go_upto_region 6 with (first | (refine wpList_load_row rfl 28 (.tmp 1) rfl w.heap.size rfl 28 _ (0, 0) _ K1 Try.underlying28 rfl HSZ ?_) | (go_at_call 21; refine (HRs.out _).mono ?_; rintro e w2 ⟨rfl, b2⟩; replace K1 := K1.below b2 K1.lt; replace K3 := K3.below b2 K3.lt; replace BX := thenB BX b2; clear b2))
      clear y0
      have k1 := (K1.cell 1).trans hC1
      have k2 := (K1.cell 2).trans hC2
      have k3 := (K1.cell 3).trans hC3
      have k4 := (K1.cell 4).trans hC4
      have k5 := (K1.cell 5).trans hC5
      have k6 := (K1.cell 6).trans hC6
      have k7 := (K1.cell 7).trans hC7
      have k8 := (K1.cell 8).trans hC8
      have k9 := (K1.cell 9).trans hC9
      have k10 := (K1.cell 10).trans hC10
      have k11 := (K1.cell 11).trans hC11
      have k12 := (K1.cell 12).trans hC12
      have k13 := (K1.cell 13).trans hC13
      have k14 := (K1.cell 14).trans hC14
      have y1 := K3.cell 1
      have y2 := K3.cell 2
      have y10 := K3.cell 10
      go_wp2_with (first | (go_at_call 23; refine (HMp.out _).mono ?_; rintro e w3 ⟨rfl, b3⟩; replace K1 := K1.below b3 K1.lt; replace K3 := K3.below b3 K3.lt; replace BX := thenB BX b3; replace k1 := (K1.cell 1).trans hC1; replace k2 := (K1.cell 2).trans hC2; replace k3 := (K1.cell 3).trans hC3; replace k4 := (K1.cell 4).trans hC4; replace k5 := (K1.cell 5).trans hC5; replace k6 := (K1.cell 6).trans hC6; replace k7 := (K1.cell 7).trans hC7; replace k8 := (K1.cell 8).trans hC8; replace k9 := (K1.cell 9).trans hC9; replace k10 := (K1.cell 10).trans hC10; replace k11 := (K1.cell 11).trans hC11; replace k12 := (K1.cell 12).trans hC12; replace k13 := (K1.cell 13).trans hC13; replace k14 := (K1.cell 14).trans hC14; replace y1 := K3.cell 1; replace y2 := K3.cell 2; replace y10 := K3.cell 10; clear b3) | (go_at_call_of 24 c.rs; refine (HIA.out _).mono ?_; rintro e w3 ⟨rfl, rfl⟩) | (go_at_call_of 24 c.rj; refine (HIB.out _).mono ?_; rintro e w3 ⟨rfl, rfl⟩) | (go_at_call_of 24 c.vs; refine (HIV.out _).mono ?_; rintro e w3 ⟨rfl, rfl⟩))
      go_ret
      exact ⟨rfl, BX⟩
  · rw [decide_eq_false hz] at q1
    have HE : Hid (R = 1) := Lib.hid (by rw [HR.out, if_neg (fun h => hz (hiff.1 h))])
    clear HR hiff hz HZc
    obtain rfl : R = 1 := by exact HE.out
    go_enter Try.func10, Try.ntmps10
    go_upto_region 2 with (go_at_call 20; refine (HF.out _).mono ?_; rintro e w1 ⟨rfl, b1⟩; replace K1 := K1.below b1 K1.lt; replace BX := thenB BX b1; clear b1 k0)
    have b9 : Below w1.heap.size w1 (w1.alloc (.cells #[.bool true, .bool false, .bool true, .bool true, .bool false, .bool false, .bool false, .bool false, .bool false, .bool false, .bool false] 53)) := (Below.refl _ _).alloc (Nat.le_refl _) _
    have K3 : Blk (w1.alloc (.cells #[.bool true, .bool false, .bool true, .bool true, .bool false, .bool false, .bool false, .bool false, .bool false, .bool false, .bool false] 53)) w1.heap.size 53 #[.bool true, .bool false, .bool true, .bool true, .bool false, .bool false, .bool false, .bool false, .bool false, .bool false, .bool false] := Blk.fresh w1 53 #[.bool true, .bool false, .bool true, .bool true, .bool false, .bool false, .bool false, .bool false, .bool false, .bool false, .bool false]
    have hk1 := K1.lt
    replace K1 := K1.below b9 K1.lt
    replace BX := thenB BX b9
    clear b9
    generalize w1.alloc (.cells #[.bool true, .bool false, .bool true, .bool true, .bool false, .bool false, .bool false, .bool false, .bool false, .bool false, .bool false] 53) = X0 at *
    obtain ⟨g3, e3⟩ : ∃ g, w1.heap.size = g := ⟨_, rfl⟩
    rw [e3] at K3 hk1
    try simp only [e3]
    clear e3
    have y0 := K3.cell 0
    clear y0
    have y0 := K3.cell 0
    go_wp2_with (first | (refine wpList_load_row rfl 28 (.tmp 1) rfl w.heap.size rfl 28 _ (0, 0) _ K1 Try.underlying28 rfl HSZ ?_) | (go_at_call 21; refine (HRs.out _).mono ?_; rintro e w2 ⟨rfl, b2⟩; replace K1 := K1.below b2 K1.lt; replace K3 := K3.below b2 K3.lt; replace BX := thenB BX b2; clear b2))
    go_ret
    exact ⟨rfl, BX⟩
set_option maxRecDepth 100000 in
set_option maxHeartbeats 4000000 in
theorem rchk_rs (c : Ct) (w : World) (hg : GoodC c) (hp : ptsK c.k = some [.rs]) : Calls Try.prog 10 #[.agg (encC c)] w fun e w' => e = .returned (.int .i64 (chkC c)) ∧ Below w.heap.size w w' := by
  have BX : Below w.heap.size w (w.alloc (.cells (encC c) 28)) := (Below.refl _ _).alloc (Nat.le_refl _) _
  have K1 : Blk (w.alloc (.cells (encC c) 28)) w.heap.size 28 (encC c) := Blk.fresh w 28 (encC c)
  have HSZ : (Try.prog.info? 28).map (·.size) = some (encC c).size := by kernel_rfl
  have HF : Hid (∀ w, Calls Try.prog 20 #[.int .i64 c.k] w fun e w' => e = .returned (.agg #[.bool true, .bool false, .bool false, .bool false, .bool true, .bool false, .bool false, .bool false, .bool false, .bool false, .bool false]) ∧ Below w.heap.size w w') := Lib.hid fun w => by have := fields_k c.k w; rw [hp] at this; exact this
  have HRs : Hid (∀ w, Calls Try.prog 21 #[.agg (encC c)] w fun e w' => e = .returned (.agg (encC ⟨0, c.ws, c.wo, c.it, c.la, c.ti, c.m, c.ins, 0, c.rj, c.st, c.mr, c.ft, c.vs, c.ln⟩)) ∧ Below w.heap.size w w') := Lib.hid fun w => rest_rs c w hp
  have q1 : ∀ w, (binOp .neq 28 (.agg (encC ⟨0, c.ws, c.wo, c.it, c.la, c.ti, c.m, c.ins, 0, c.rj, c.st, c.mr, c.ft, c.vs, c.ln⟩)) (.agg #[.int .i64 0, .int .i64 0, .int .i64 0, .int .i64 0, .int .i64 0, .int .i64 0, .int .u64 0, .int .u16 0, .int .i64 0, .int .i64 0, .int .u64 0, .int .u64 0, .int .u64 0, .int .i64 0, .int .i64 0])).run Try.prog w = .ok (.bool (!decide ((⟨0, c.ws, c.wo, c.it, c.la, c.ti, c.m, c.ins, 0, c.rj, c.st, c.mr, c.ft, c.vs, c.ln⟩ : Ct) = zeroC))) w := ctl_neq _ zeroC
  have q2 : ∀ w x y, (eqGuard .neq 28 x y (.agg (encC ⟨0, c.ws, c.wo, c.it, c.la, c.ti, c.m, c.ins, 0, c.rj, c.st, c.mr, c.ft, c.vs, c.ln⟩)) (.agg #[.int .i64 0, .int .i64 0, .int .i64 0, .int .i64 0, .int .i64 0, .int .i64 0, .int .u64 0, .int .u16 0, .int .i64 0, .int .i64 0, .int .u64 0, .int .u64 0, .int .u64 0, .int .i64 0, .int .i64 0])).run Try.prog w = .ok () w := ctl_ng _ zeroC
  obtain ⟨R, hR⟩ : ∃ R, chkC c = R := ⟨_, rfl⟩
  rw [hR]
  have HR : Hid (R = if c = usedC c [.rs] then errP c [.rs] else 1) := Lib.hid (by rw [← hR]; unfold chkC; rw [hp])
  have hiff := used_rs c hg
  clear hR hp hg
  have HIA := Lib.hid fun w => isbyte_any c.rs w
  have HIB := Lib.hid fun w => isbyte_any c.rj w
  have HIV := Lib.hid fun w => isbyte_any c.vs w
  have HZc : Hid ((⟨0, c.ws, c.wo, c.it, c.la, c.ti, c.m, c.ins, 0, c.rj, c.st, c.mr, c.ft, c.vs, c.ln⟩ : Ct) = zeroC → c.ws = 0 ∧ c.wo = 0 ∧ c.it = 0 ∧ c.la = 0 ∧ c.ti = 0 ∧ c.m = 0 ∧ c.ins = 0 ∧ c.rj = 0 ∧ c.st = 0 ∧ c.mr = 0 ∧ c.ft = 0 ∧ c.vs = 0 ∧ c.ln = 0) := Lib.hid fun h => by
    simp only [zeroC, Ct.mk.injEq, true_and, and_true] at h
    exact h
  obtain ⟨Z, hZ⟩ : ∃ Z, encC ⟨0, c.ws, c.wo, c.it, c.la, c.ti, c.m, c.ins, 0, c.rj, c.st, c.mr, c.ft, c.vs, c.ln⟩ = Z := ⟨_, rfl⟩
  rw [hZ] at HRs q1 q2
  clear hZ
  have hC1 : (encC c)[1]? = some (.int .i64 c.ws) := rfl
  have hC2 : (encC c)[2]? = some (.int .i64 c.wo) := rfl
  have hC3 : (encC c)[3]? = some (.int .i64 c.it) := rfl
  have hC4 : (encC c)[4]? = some (.int .i64 c.la) := rfl
  have hC5 : (encC c)[5]? = some (.int .i64 c.ti) := rfl
  have hC6 : (encC c)[6]? = some (.int .u64 (c.m : Int)) := rfl
  have hC7 : (encC c)[7]? = some (.int .u16 c.ins) := rfl
  have hC8 : (encC c)[8]? = some (.int .i64 c.rs) := rfl
  have hC9 : (encC c)[9]? = some (.int .i64 c.rj) := rfl
  have hC10 : (encC c)[10]? = some (.int .u64 c.st) := rfl
  have hC11 : (encC c)[11]? = some (.int .u64 c.mr) := rfl
  have hC12 : (encC c)[12]? = some (.int .u64 c.ft) := rfl
  have hC13 : (encC c)[13]? = some (.int .i64 c.vs) := rfl
  have hC14 : (encC c)[14]? = some (.int .i64 c.ln) := rfl
  have hC0 : (encC c)[0]? = some (.int .i64 c.k) := rfl
  obtain ⟨C, hC⟩ : ∃ C, encC c = C := ⟨_, rfl⟩
  rw [hC] at BX K1 HSZ HRs hC0 hC1 hC2 hC3 hC4 hC5 hC6 hC7 hC8 hC9 hC10 hC11 hC12 hC13 hC14 ⊢
  clear hC
  have k0 := (K1.cell 0).trans hC0
  by_cases hz : (⟨0, c.ws, c.wo, c.it, c.la, c.ti, c.m, c.ins, 0, c.rj, c.st, c.mr, c.ft, c.vs, c.ln⟩ : Ct) = zeroC
  · rw [decide_eq_true hz] at q1
    have hz0 := HZc.out hz
    have HE : Hid (R = errP c [.rs]) := Lib.hid (by rw [HR.out, if_pos (hiff.2 hz)])
    clear HR hiff hz HZc
    obtain ⟨zws, zwo, zit, zla, zti, zm, zins, zrj, zst, zmr, zft, zvs, zln⟩ := hz0
    rw [show decide (0 ≤ c.rj ∧ c.rj ≤ 255) = true from by rw [zrj]; decide] at HIB
    rw [show decide (0 ≤ c.vs ∧ c.vs ≤ 255) = true from by rw [zvs]; decide] at HIV
    clear zws zwo zit zla zti zm zins zrj zst zmr zft zvs zln
    by_cases hrs : 0 ≤ c.rs ∧ c.rs ≤ 255
    · rw [decide_eq_true hrs] at HIA
      obtain rfl : R = 0 := by rw [HE.out]; simp [errP, chkP, inB, hrs]
      go_enter Try.func10, Try.ntmps10
      go_upto_region 2 with (go_at_call 20; refine (HF.out _).mono ?_; rintro e w1 ⟨rfl, b1⟩; replace K1 := K1.below b1 K1.lt; replace BX := thenB BX b1; clear b1 k0)
      have b9 : Below w1.heap.size w1 (w1.alloc (.cells #[.bool true, .bool false, .bool false, .bool false, .bool true, .bool false, .bool false, .bool false, .bool false, .bool false, .bool false] 53)) := (Below.refl _ _).alloc (Nat.le_refl _) _
      have K3 : Blk (w1.alloc (.cells #[.bool true, .bool false, .bool false, .bool false, .bool true, .bool false, .bool false, .bool false, .bool false, .bool false, .bool false] 53)) w1.heap.size 53 #[.bool true, .bool false, .bool false, .bool false, .bool true, .bool false, .bool false, .bool false, .bool false, .bool false, .bool false] := Blk.fresh w1 53 #[.bool true, .bool false, .bool false, .bool false, .bool true, .bool false, .bool false, .bool false, .bool false, .bool false, .bool false]
      have hk1 := K1.lt
      replace K1 := K1.below b9 K1.lt
      replace BX := thenB BX b9
      clear b9
      generalize w1.alloc (.cells #[.bool true, .bool false, .bool false, .bool false, .bool true, .bool false, .bool false, .bool false, .bool false, .bool false, .bool false] 53) = X0 at *
      obtain ⟨g3, e3⟩ : ∃ g, w1.heap.size = g := ⟨_, rfl⟩
      rw [e3] at K3 hk1
      try simp only [e3]
      clear e3
      have y0 := K3.cell 0
      go_upto_region 6 with (first | (refine wpList_load_row rfl 28 (.tmp 1) rfl w.heap.size rfl 28 _ (0, 0) _ K1 Try.underlying28 rfl HSZ ?_) | (go_at_call 21; refine (HRs.out _).mono ?_; rintro e w2 ⟨rfl, b2⟩; replace K1 := K1.below b2 K1.lt; replace K3 := K3.below b2 K3.lt; replace BX := thenB BX b2; clear b2))
      clear y0
      have k1 := (K1.cell 1).trans hC1
      have k2 := (K1.cell 2).trans hC2
      have k3 := (K1.cell 3).trans hC3
      have k4 := (K1.cell 4).trans hC4
      have k5 := (K1.cell 5).trans hC5
      have k6 := (K1.cell 6).trans hC6
      have k7 := (K1.cell 7).trans hC7
      have k8 := (K1.cell 8).trans hC8
      have k9 := (K1.cell 9).trans hC9
      have k10 := (K1.cell 10).trans hC10
      have k11 := (K1.cell 11).trans hC11
      have k12 := (K1.cell 12).trans hC12
      have k13 := (K1.cell 13).trans hC13
      have k14 := (K1.cell 14).trans hC14
      have y1 := K3.cell 1
      have y2 := K3.cell 2
      have y10 := K3.cell 10
      go_wp2_with (first | (go_at_call_of 24 c.rs; refine (HIA.out _).mono ?_; rintro e w3 ⟨rfl, rfl⟩) | (go_at_call_of 24 c.rj; refine (HIB.out _).mono ?_; rintro e w3 ⟨rfl, rfl⟩) | (go_at_call_of 24 c.vs; refine (HIV.out _).mono ?_; rintro e w3 ⟨rfl, rfl⟩))
      go_ret
      exact ⟨rfl, BX⟩
    · rw [decide_eq_false hrs] at HIA
      obtain rfl : R = 5 := by rw [HE.out]; simp [errP, chkP, inB, hrs]
      go_enter Try.func10, Try.ntmps10
      go_upto_region 2 with (go_at_call 20; refine (HF.out _).mono ?_; rintro e w1 ⟨rfl, b1⟩; replace K1 := K1.below b1 K1.lt; replace BX := thenB BX b1; clear b1 k0)
      have b9 : Below w1.heap.size w1 (w1.alloc (.cells #[.bool true, .bool false, .bool false, .bool false, .bool true, .bool false, .bool false, .bool false, .bool false, .bool false, .bool false] 53)) := (Below.refl _ _).alloc (Nat.le_refl _) _
      have K3 : Blk (w1.alloc (.cells #[.bool true, .bool false, .bool false, .bool false, .bool true, .bool false, .bool false, .bool false, .bool false, .bool false, .bool false] 53)) w1.heap.size 53 #[.bool true, .bool false, .bool false, .bool false, .bool true, .bool false, .bool false, .bool false, .bool false, .bool false, .bool false] := Blk.fresh w1 53 #[.bool true, .bool false, .bool false, .bool false, .bool true, .bool false, .bool false, .bool false, .bool false, .bool false, .bool false]
      have hk1 := K1.lt
      replace K1 := K1.below b9 K1.lt
      replace BX := thenB BX b9
      clear b9
      generalize w1.alloc (.cells #[.bool true, .bool false, .bool false, .bool false, .bool true, .bool false, .bool false, .bool false, .bool false, .bool false, .bool false] 53) = X0 at *
      obtain ⟨g3, e3⟩ : ∃ g, w1.heap.size = g := ⟨_, rfl⟩
      rw [e3] at K3 hk1
      try simp only [e3]
      clear e3
      have y0 := K3.cell 0
      go_upto_region 6 with (first | (refine wpList_load_row rfl 28 (.tmp 1) rfl w.heap.size rfl 28 _ (0, 0) _ K1 Try.underlying28 rfl HSZ ?_) | (go_at_call 21; refine (HRs.out _).mono ?_; rintro e w2 ⟨rfl, b2⟩; replace K1 := K1.below b2 K1.lt; replace K3 := K3.below b2 K3.lt; replace BX := thenB BX b2; clear b2))
      clear y0
      have k1 := (K1.cell 1).trans hC1
      have k2 := (K1.cell 2).trans hC2
      have k3 := (K1.cell 3).trans hC3
      have k4 := (K1.cell 4).trans hC4
      have k5 := (K1.cell 5).trans hC5
      have k6 := (K1.cell 6).trans hC6
      have k7 := (K1.cell 7).trans hC7
      have k8 := (K1.cell 8).trans hC8
      have k9 := (K1.cell 9).trans hC9
      have k10 := (K1.cell 10).trans hC10
      have k11 := (K1.cell 11).trans hC11
      have k12 := (K1.cell 12).trans hC12
      have k13 := (K1.cell 13).trans hC13
      have k14 := (K1.cell 14).trans hC14
      have y1 := K3.cell 1
      have y2 := K3.cell 2
      have y10 := K3.cell 10
      go_wp2_with (first | (go_at_call_of 24 c.rs; refine (HIA.out _).mono ?_; rintro e w3 ⟨rfl, rfl⟩) | (go_at_call_of 24 c.rj; refine (HIB.out _).mono ?_; rintro e w3 ⟨rfl, rfl⟩) | (go_at_call_of 24 c.vs; refine (HIV.out _).mono ?_; rintro e w3 ⟨rfl, rfl⟩))
      go_ret
      exact ⟨rfl, BX⟩
  · rw [decide_eq_false hz] at q1
    have HE : Hid (R = 1) := Lib.hid (by rw [HR.out, if_neg (fun h => hz (hiff.1 h))])
    clear HR hiff hz HZc
    obtain rfl : R = 1 := by exact HE.out
    go_enter Try.func10, Try.ntmps10
    go_upto_region 2 with (go_at_call 20; refine (HF.out _).mono ?_; rintro e w1 ⟨rfl, b1⟩; replace K1 := K1.below b1 K1.lt; replace BX := thenB BX b1; clear b1 k0)
    have b9 : Below w1.heap.size w1 (w1.alloc (.cells #[.bool true, .bool false, .bool false, .bool false, .bool true, .bool false, .bool false, .bool false, .bool false, .bool false, .bool false] 53)) := (Below.refl _ _).alloc (Nat.le_refl _) _
    have K3 : Blk (w1.alloc (.cells #[.bool true, .bool false, .bool false, .bool false, .bool true, .bool false, .bool false, .bool false, .bool false, .bool false, .bool false] 53)) w1.heap.size 53 #[.bool true, .bool false, .bool false, .bool false, .bool true, .bool false, .bool false, .bool false, .bool false, .bool false, .bool false] := Blk.fresh w1 53 #[.bool true, .bool false, .bool false, .bool false, .bool true, .bool false, .bool false, .bool false, .bool false, .bool false, .bool false]
    have hk1 := K1.lt
    replace K1 := K1.below b9 K1.lt
    replace BX := thenB BX b9
    clear b9
    generalize w1.alloc (.cells #[.bool true, .bool false, .bool false, .bool false, .bool true, .bool false, .bool false, .bool false, .bool false, .bool false, .bool false] 53) = X0 at *
    obtain ⟨g3, e3⟩ : ∃ g, w1.heap.size = g := ⟨_, rfl⟩
    rw [e3] at K3 hk1
    try simp only [e3]
    clear e3
    have y0 := K3.cell 0
    clear y0
    have y0 := K3.cell 0
    go_wp2_with (first | (refine wpList_load_row rfl 28 (.tmp 1) rfl w.heap.size rfl 28 _ (0, 0) _ K1 Try.underlying28 rfl HSZ ?_) | (go_at_call 21; refine (HRs.out _).mono ?_; rintro e w2 ⟨rfl, b2⟩; replace K1 := K1.below b2 K1.lt; replace K3 := K3.below b2 K3.lt; replace BX := thenB BX b2; clear b2))
    go_ret
    exact ⟨rfl, BX⟩
set_option maxRecDepth 100000 in
set_option maxHeartbeats 4000000 in
theorem rchk_sa_mk (c : Ct) (w : World) (hg : GoodC c) (hp : ptsK c.k = some [.sa, .mk]) : Calls Try.prog 10 #[.agg (encC c)] w fun e w' => e = .returned (.int .i64 (chkC c)) ∧ Below w.heap.size w w' := by
  have BX : Below w.heap.size w (w.alloc (.cells (encC c) 28)) := (Below.refl _ _).alloc (Nat.le_refl _) _
  have K1 : Blk (w.alloc (.cells (encC c) 28)) w.heap.size 28 (encC c) := Blk.fresh w 28 (encC c)
  have HSZ : (Try.prog.info? 28).map (·.size) = some (encC c).size := by kernel_rfl
  have HF : Hid (∀ w, Calls Try.prog 20 #[.int .i64 c.k] w fun e w' => e = .returned (.agg #[.bool true, .bool false, .bool false, .bool false, .bool false, .bool false, .bool true, .bool true, .bool false, .bool false, .bool false]) ∧ Below w.heap.size w w') := Lib.hid fun w => by have := fields_k c.k w; rw [hp] at this; exact this
  have HRs : Hid (∀ w, Calls Try.prog 21 #[.agg (encC c)] w fun e w' => e = .returned (.agg (encC ⟨0, c.ws, c.wo, c.it, c.la, c.ti, c.m, c.ins, c.rs, c.rj, 0, 0, c.ft, c.vs, c.ln⟩)) ∧ Below w.heap.size w w') := Lib.hid fun w => rest_sa_mk c w hp
  have q1 : ∀ w, (binOp .neq 28 (.agg (encC ⟨0, c.ws, c.wo, c.it, c.la, c.ti, c.m, c.ins, c.rs, c.rj, 0, 0, c.ft, c.vs, c.ln⟩)) (.agg #[.int .i64 0, .int .i64 0, .int .i64 0, .int .i64 0, .int .i64 0, .int .i64 0, .int .u64 0, .int .u16 0, .int .i64 0, .int .i64 0, .int .u64 0, .int .u64 0, .int .u64 0, .int .i64 0, .int .i64 0])).run Try.prog w = .ok (.bool (!decide ((⟨0, c.ws, c.wo, c.it, c.la, c.ti, c.m, c.ins, c.rs, c.rj, 0, 0, c.ft, c.vs, c.ln⟩ : Ct) = zeroC))) w := ctl_neq _ zeroC
  have q2 : ∀ w x y, (eqGuard .neq 28 x y (.agg (encC ⟨0, c.ws, c.wo, c.it, c.la, c.ti, c.m, c.ins, c.rs, c.rj, 0, 0, c.ft, c.vs, c.ln⟩)) (.agg #[.int .i64 0, .int .i64 0, .int .i64 0, .int .i64 0, .int .i64 0, .int .i64 0, .int .u64 0, .int .u16 0, .int .i64 0, .int .i64 0, .int .u64 0, .int .u64 0, .int .u64 0, .int .i64 0, .int .i64 0])).run Try.prog w = .ok () w := ctl_ng _ zeroC
  obtain ⟨R, hR⟩ : ∃ R, chkC c = R := ⟨_, rfl⟩
  rw [hR]
  have HR : Hid (R = if c = usedC c [.sa, .mk] then errP c [.sa, .mk] else 1) := Lib.hid (by rw [← hR]; unfold chkC; rw [hp])
  have hiff := used_sa_mk c hg
  clear hR hp hg
  have HIA := Lib.hid fun w => isbyte_any c.rs w
  have HIB := Lib.hid fun w => isbyte_any c.rj w
  have HIV := Lib.hid fun w => isbyte_any c.vs w
  have HZc : Hid ((⟨0, c.ws, c.wo, c.it, c.la, c.ti, c.m, c.ins, c.rs, c.rj, 0, 0, c.ft, c.vs, c.ln⟩ : Ct) = zeroC → c.ws = 0 ∧ c.wo = 0 ∧ c.it = 0 ∧ c.la = 0 ∧ c.ti = 0 ∧ c.m = 0 ∧ c.ins = 0 ∧ c.rs = 0 ∧ c.rj = 0 ∧ c.ft = 0 ∧ c.vs = 0 ∧ c.ln = 0) := Lib.hid fun h => by
    simp only [zeroC, Ct.mk.injEq, true_and, and_true] at h
    exact h
  obtain ⟨Z, hZ⟩ : ∃ Z, encC ⟨0, c.ws, c.wo, c.it, c.la, c.ti, c.m, c.ins, c.rs, c.rj, 0, 0, c.ft, c.vs, c.ln⟩ = Z := ⟨_, rfl⟩
  rw [hZ] at HRs q1 q2
  clear hZ
  have hC1 : (encC c)[1]? = some (.int .i64 c.ws) := rfl
  have hC2 : (encC c)[2]? = some (.int .i64 c.wo) := rfl
  have hC3 : (encC c)[3]? = some (.int .i64 c.it) := rfl
  have hC4 : (encC c)[4]? = some (.int .i64 c.la) := rfl
  have hC5 : (encC c)[5]? = some (.int .i64 c.ti) := rfl
  have hC6 : (encC c)[6]? = some (.int .u64 (c.m : Int)) := rfl
  have hC7 : (encC c)[7]? = some (.int .u16 c.ins) := rfl
  have hC8 : (encC c)[8]? = some (.int .i64 c.rs) := rfl
  have hC9 : (encC c)[9]? = some (.int .i64 c.rj) := rfl
  have hC10 : (encC c)[10]? = some (.int .u64 c.st) := rfl
  have hC11 : (encC c)[11]? = some (.int .u64 c.mr) := rfl
  have hC12 : (encC c)[12]? = some (.int .u64 c.ft) := rfl
  have hC13 : (encC c)[13]? = some (.int .i64 c.vs) := rfl
  have hC14 : (encC c)[14]? = some (.int .i64 c.ln) := rfl
  have hC0 : (encC c)[0]? = some (.int .i64 c.k) := rfl
  obtain ⟨C, hC⟩ : ∃ C, encC c = C := ⟨_, rfl⟩
  rw [hC] at BX K1 HSZ HRs hC0 hC1 hC2 hC3 hC4 hC5 hC6 hC7 hC8 hC9 hC10 hC11 hC12 hC13 hC14 ⊢
  clear hC
  have k0 := (K1.cell 0).trans hC0
  by_cases hz : (⟨0, c.ws, c.wo, c.it, c.la, c.ti, c.m, c.ins, c.rs, c.rj, 0, 0, c.ft, c.vs, c.ln⟩ : Ct) = zeroC
  · rw [decide_eq_true hz] at q1
    have hz0 := HZc.out hz
    have HE : Hid (R = errP c [.sa, .mk]) := Lib.hid (by rw [HR.out, if_pos (hiff.2 hz)])
    clear HR hiff hz HZc
    obtain ⟨zws, zwo, zit, zla, zti, zm, zins, zrs, zrj, zft, zvs, zln⟩ := hz0
    rw [show decide (0 ≤ c.rs ∧ c.rs ≤ 255) = true from by rw [zrs]; decide] at HIA
    rw [show decide (0 ≤ c.rj ∧ c.rj ≤ 255) = true from by rw [zrj]; decide] at HIB
    rw [show decide (0 ≤ c.vs ∧ c.vs ≤ 255) = true from by rw [zvs]; decide] at HIV
    clear zws zwo zit zla zti zm zins zrs zrj zft zvs zln
    obtain rfl : R = 0 := by rw [HE.out]; simp [errP, chkP, inB]
    go_enter Try.func10, Try.ntmps10
    go_upto_region 2 with (go_at_call 20; refine (HF.out _).mono ?_; rintro e w1 ⟨rfl, b1⟩; replace K1 := K1.below b1 K1.lt; replace BX := thenB BX b1; clear b1 k0)
    have b9 : Below w1.heap.size w1 (w1.alloc (.cells #[.bool true, .bool false, .bool false, .bool false, .bool false, .bool false, .bool true, .bool true, .bool false, .bool false, .bool false] 53)) := (Below.refl _ _).alloc (Nat.le_refl _) _
    have K3 : Blk (w1.alloc (.cells #[.bool true, .bool false, .bool false, .bool false, .bool false, .bool false, .bool true, .bool true, .bool false, .bool false, .bool false] 53)) w1.heap.size 53 #[.bool true, .bool false, .bool false, .bool false, .bool false, .bool false, .bool true, .bool true, .bool false, .bool false, .bool false] := Blk.fresh w1 53 #[.bool true, .bool false, .bool false, .bool false, .bool false, .bool false, .bool true, .bool true, .bool false, .bool false, .bool false]
    have hk1 := K1.lt
    replace K1 := K1.below b9 K1.lt
    replace BX := thenB BX b9
    clear b9
    generalize w1.alloc (.cells #[.bool true, .bool false, .bool false, .bool false, .bool false, .bool false, .bool true, .bool true, .bool false, .bool false, .bool false] 53) = X0 at *
    obtain ⟨g3, e3⟩ : ∃ g, w1.heap.size = g := ⟨_, rfl⟩
    rw [e3] at K3 hk1
    try simp only [e3]
    clear e3
    have y0 := K3.cell 0
    go_upto_region 6 with (first | (refine wpList_load_row rfl 28 (.tmp 1) rfl w.heap.size rfl 28 _ (0, 0) _ K1 Try.underlying28 rfl HSZ ?_) | (go_at_call 21; refine (HRs.out _).mono ?_; rintro e w2 ⟨rfl, b2⟩; replace K1 := K1.below b2 K1.lt; replace K3 := K3.below b2 K3.lt; replace BX := thenB BX b2; clear b2))
    clear y0
    have k1 := (K1.cell 1).trans hC1
    have k2 := (K1.cell 2).trans hC2
    have k3 := (K1.cell 3).trans hC3
    have k4 := (K1.cell 4).trans hC4
    have k5 := (K1.cell 5).trans hC5
    have k6 := (K1.cell 6).trans hC6
    have k7 := (K1.cell 7).trans hC7
    have k8 := (K1.cell 8).trans hC8
    have k9 := (K1.cell 9).trans hC9
    have k10 := (K1.cell 10).trans hC10
    have k11 := (K1.cell 11).trans hC11
    have k12 := (K1.cell 12).trans hC12
    have k13 := (K1.cell 13).trans hC13
    have k14 := (K1.cell 14).trans hC14
    have y1 := K3.cell 1
    have y2 := K3.cell 2
    have y10 := K3.cell 10
    go_wp2_with (first | (go_at_call_of 24 c.rs; refine (HIA.out _).mono ?_; rintro e w3 ⟨rfl, rfl⟩) | (go_at_call_of 24 c.rj; refine (HIB.out _).mono ?_; rintro e w3 ⟨rfl, rfl⟩) | (go_at_call_of 24 c.vs; refine (HIV.out _).mono ?_; rintro e w3 ⟨rfl, rfl⟩))
    go_ret
    exact ⟨rfl, BX⟩
  · rw [decide_eq_false hz] at q1
    have HE : Hid (R = 1) := Lib.hid (by rw [HR.out, if_neg (fun h => hz (hiff.1 h))])
    clear HR hiff hz HZc
    obtain rfl : R = 1 := by exact HE.out
    go_enter Try.func10, Try.ntmps10
    go_upto_region 2 with (go_at_call 20; refine (HF.out _).mono ?_; rintro e w1 ⟨rfl, b1⟩; replace K1 := K1.below b1 K1.lt; replace BX := thenB BX b1; clear b1 k0)
    have b9 : Below w1.heap.size w1 (w1.alloc (.cells #[.bool true, .bool false, .bool false, .bool false, .bool false, .bool false, .bool true, .bool true, .bool false, .bool false, .bool false] 53)) := (Below.refl _ _).alloc (Nat.le_refl _) _
    have K3 : Blk (w1.alloc (.cells #[.bool true, .bool false, .bool false, .bool false, .bool false, .bool false, .bool true, .bool true, .bool false, .bool false, .bool false] 53)) w1.heap.size 53 #[.bool true, .bool false, .bool false, .bool false, .bool false, .bool false, .bool true, .bool true, .bool false, .bool false, .bool false] := Blk.fresh w1 53 #[.bool true, .bool false, .bool false, .bool false, .bool false, .bool false, .bool true, .bool true, .bool false, .bool false, .bool false]
    have hk1 := K1.lt
    replace K1 := K1.below b9 K1.lt
    replace BX := thenB BX b9
    clear b9
    generalize w1.alloc (.cells #[.bool true, .bool false, .bool false, .bool false, .bool false, .bool false, .bool true, .bool true, .bool false, .bool false, .bool false] 53) = X0 at *
    obtain ⟨g3, e3⟩ : ∃ g, w1.heap.size = g := ⟨_, rfl⟩
    rw [e3] at K3 hk1
    try simp only [e3]
    clear e3
    have y0 := K3.cell 0
    clear y0
    have y0 := K3.cell 0
    go_wp2_with (first | (refine wpList_load_row rfl 28 (.tmp 1) rfl w.heap.size rfl 28 _ (0, 0) _ K1 Try.underlying28 rfl HSZ ?_) | (go_at_call 21; refine (HRs.out _).mono ?_; rintro e w2 ⟨rfl, b2⟩; replace K1 := K1.below b2 K1.lt; replace K3 := K3.below b2 K3.lt; replace BX := thenB BX b2; clear b2))
    go_ret
    exact ⟨rfl, BX⟩
end Go.Proofs.Ytiopeghbpnjcgaa.Cp

/- Control PDUs: what the Check of the document returns: contracts over the program. -/
set_option linter.unusedVariables false
set_option linter.unusedSimpArgs false
namespace Go.Proofs.Ytiopeghbpnjcgaa.Cp
open Go.RowKit Mem Oct Rw Av
open Base (thenB)
open Cn (okU)
set_option maxRecDepth 100000 in
set_option maxHeartbeats 4000000 in
theorem rchk_sa (c : Ct) (w : World) (hg : GoodC c) (hp : ptsK c.k = some [.sa]) : Calls Try.prog 10 #[.agg (encC c)] w fun e w' => e = .returned (.int .i64 (chkC c)) ∧ Below w.heap.size w w' := by
  have BX : Below w.heap.size w (w.alloc (.cells (encC c) 28)) := (Below.refl _ _).alloc (Nat.le_refl _) _
  have K1 : Blk (w.alloc (.cells (encC c) 28)) w.heap.size 28 (encC c) := Blk.fresh w 28 (encC c)
  have HSZ : (Try.prog.info? 28).map (·.size) = some (encC c).size := by kernel_rfl
  have HF : Hid (∀ w, Calls Try.prog 20 #[.int .i64 c.k] w fun e w' => e = .returned (.agg #[.bool true, .bool false, .bool false, .bool false, .bool false, .bool false, .bool true, .bool false, .bool false, .bool false, .bool false]) ∧ Below w.heap.size w w') := Lib.hid fun w => by have := fields_k c.k w; rw [hp] at this; exact this
  have HRs : Hid (∀ w, Calls Try.prog 21 #[.agg (encC c)] w fun e w' => e = .returned (.agg (encC ⟨0, c.ws, c.wo, c.it, c.la, c.ti, c.m, c.ins, c.rs, c.rj, 0, c.mr, c.ft, c.vs, c.ln⟩)) ∧ Below w.heap.size w w') := Lib.hid fun w => rest_sa c w hp
  have q1 : ∀ w, (binOp .neq 28 (.agg (encC ⟨0, c.ws, c.wo, c.it, c.la, c.ti, c.m, c.ins, c.rs, c.rj, 0, c.mr, c.ft, c.vs, c.ln⟩)) (.agg #[.int .i64 0, .int .i64 0, .int .i64 0, .int .i64 0, .int .i64 0, .int .i64 0, .int .u64 0, .int .u16 0, .int .i64 0, .int .i64 0, .int .u64 0, .int .u64 0, .int .u64 0, .int .i64 0, .int .i64 0])).run Try.prog w = .ok (.bool (!decide ((⟨0, c.ws, c.wo, c.it, c.la, c.ti, c.m, c.ins, c.rs, c.rj, 0, c.mr, c.ft, c.vs, c.ln⟩ : Ct) = zeroC))) w := ctl_neq _ zeroC
  have q2 : ∀ w x y, (eqGuard .neq 28 x y (.agg (encC ⟨0, c.ws, c.wo, c.it, c.la, c.ti, c.m, c.ins, c.rs, c.rj, 0, c.mr, c.ft, c.vs, c.ln⟩)) (.agg #[.int .i64 0, .int .i64 0, .int .i64 0, .int .i64 0, .int .i64 0, .int .i64 0, .int .u64 0, .int .u16 0, .int .i64 0, .int .i64 0, .int .u64 0, .int .u64 0, .int .u64 0, .int .i64 0, .int .i64 0])).run Try.prog w = .ok () w := ctl_ng _ zeroC
  obtain ⟨R, hR⟩ : ∃ R, chkC c = R := ⟨_, rfl⟩
  rw [hR]
  have HR : Hid (R = if c = usedC c [.sa] then errP c [.sa] else 1) := Lib.hid (by rw [← hR]; unfold chkC; rw [hp])
  have hiff := used_sa c hg
  clear hR hp hg
  have HIA := Lib.hid fun w => isbyte_any c.rs w
  have HIB := Lib.hid fun w => isbyte_any c.rj w
  have HIV := Lib.hid fun w => isbyte_any c.vs w
  have HZc : Hid ((⟨0, c.ws, c.wo, c.it, c.la, c.ti, c.m, c.ins, c.rs, c.rj, 0, c.mr, c.ft, c.vs, c.ln⟩ : Ct) = zeroC → c.ws = 0 ∧ c.wo = 0 ∧ c.it = 0 ∧ c.la = 0 ∧ c.ti = 0 ∧ c.m = 0 ∧ c.ins = 0 ∧ c.rs = 0 ∧ c.rj = 0 ∧ c.mr = 0 ∧ c.ft = 0 ∧ c.vs = 0 ∧ c.ln = 0) := Lib.hid fun h => by
    simp only [zeroC, Ct.mk.injEq, true_and, and_true] at h
    exact h
  obtain ⟨Z, hZ⟩ : ∃ Z, encC ⟨0, c.ws, c.wo, c.it, c.la, c.ti, c.m, c.ins, c.rs, c.rj, 0, c.mr, c.ft, c.vs, c.ln⟩ = Z := ⟨_, rfl⟩
  rw [hZ] at HRs q1 q2
  clear hZ
  have hC1 : (encC c)[1]? = some (.int .i64 c.ws) := rfl
  have hC2 : (encC c)[2]? = some (.int .i64 c.wo) := rfl
  have hC3 : (encC c)[3]? = some (.int .i64 c.it) := rfl
  have hC4 : (encC c)[4]? = some (.int .i64 c.la) := rfl
  have hC5 : (encC c)[5]? = some (.int .i64 c.ti) := rfl
  have hC6 : (encC c)[6]? = some (.int .u64 (c.m : Int)) := rfl
  have hC7 : (encC c)[7]? = some (.int .u16 c.ins) := rfl
  have hC8 : (encC c)[8]? = some (.int .i64 c.rs) := rfl
  have hC9 : (encC c)[9]? = some (.int .i64 c.rj) := rfl
  have hC10 : (encC c)[10]? = some (.int .u64 c.st) := rfl
  have hC11 : (encC c)[11]? = some (.int .u64 c.mr) := rfl
  have hC12 : (encC c)[12]? = some (.int .u64 c.ft) := rfl
  have hC13 : (encC c)[13]? = some (.int .i64 c.vs) := rfl
  have hC14 : (encC c)[14]? = some (.int .i64 c.ln) := rfl
  have hC0 : (encC c)[0]? = some (.int .i64 c.k) := rfl
  obtain ⟨C, hC⟩ : ∃ C, encC c = C := ⟨_, rfl⟩
  rw [hC] at BX K1 HSZ HRs hC0 hC1 hC2 hC3 hC4 hC5 hC6 hC7 hC8 hC9 hC10 hC11 hC12 hC13 hC14 ⊢
  clear hC
  have k0 := (K1.cell 0).trans hC0
  by_cases hz : (⟨0, c.ws, c.wo, c.it, c.la, c.ti, c.m, c.ins, c.rs, c.rj, 0, c.mr, c.ft, c.vs, c.ln⟩ : Ct) = zeroC
  · rw [decide_eq_true hz] at q1
    have hz0 := HZc.out hz
    have HE : Hid (R = errP c [.sa]) := Lib.hid (by rw [HR.out, if_pos (hiff.2 hz)])
    clear HR hiff hz HZc
    obtain ⟨zws, zwo, zit, zla, zti, zm, zins, zrs, zrj, zmr, zft, zvs, zln⟩ := hz0
    rw [show decide (0 ≤ c.rs ∧ c.rs ≤ 255) = true from by rw [zrs]; decide] at HIA
    rw [show decide (0 ≤ c.rj ∧ c.rj ≤ 255) = true from by rw [zrj]; decide] at HIB
    rw [show decide (0 ≤ c.vs ∧ c.vs ≤ 255) = true from by rw [zvs]; decide] at HIV
    clear zws zwo zit zla zti zm zins zrs zrj zmr zft zvs zln
    obtain rfl : R = 0 := by rw [HE.out]; simp [errP, chkP, inB]
    go_enter Try.func10, Try.ntmps10
    go_upto_region 2 with (go_at_call 20; refine (HF.out _).mono ?_; rintro e w1 ⟨rfl, b1⟩; replace K1 := K1.below b1 K1.lt; replace BX := thenB BX b1; clear b1 k0)
    have b9 : Below w1.heap.size w1 (w1.alloc (.cells #[.bool true, .bool false, .bool false, .bool false, .bool false, .bool false, .bool true, .bool false, .bool false, .bool false, .bool false] 53)) := (Below.refl _ _).alloc (Nat.le_refl _) _
    have K3 : Blk (w1.alloc (.cells #[.bool true, .bool false, .bool false, .bool false, .bool false, .bool false, .bool true, .bool false, .bool false, .bool false, .bool false] 53)) w1.heap.size 53 #[.bool true, .bool false, .bool false, .bool false, .bool false, .bool false, .bool true, .bool false, .bool false, .bool false, .bool false] := Blk.fresh w1 53 #[.bool true, .bool false, .bool false, .bool false, .bool false, .bool false, .bool true, .bool false, .bool false, .bool false, .bool false]
    have hk1 := K1.lt
    replace K1 := K1.below b9 K1.lt
    replace BX := thenB BX b9
    clear b9
    generalize w1.alloc (.cells #[.bool true, .bool false, .bool false, .bool false, .bool false, .bool false, .bool true, .bool false, .bool false, .bool false, .bool false] 53) = X0 at *
    obtain ⟨g3, e3⟩ : ∃ g, w1.heap.size = g := ⟨_, rfl⟩
    rw [e3] at K3 hk1
    try simp only [e3]
    clear e3
    have y0 := K3.cell 0
    go_upto_region 6 with (first | (refine wpList_load_row rfl 28 (.tmp 1) rfl w.heap.size rfl 28 _ (0, 0) _ K1 Try.underlying28 rfl HSZ ?_) | (go_at_call 21; refine (HRs.out _).mono ?_; rintro e w2 ⟨rfl, b2⟩; replace K1 := K1.below b2 K1.lt; replace K3 := K3.below b2 K3.lt; replace BX := thenB BX b2; clear b2))
    clear y0
    have k1 := (K1.cell 1).trans hC1
    have k2 := (K1.cell 2).trans hC2
    have k3 := (K1.cell 3).trans hC3
    have k4 := (K1.cell 4).trans hC4
    have k5 := (K1.cell 5).trans hC5
    have k6 := (K1.cell 6).trans hC6
    have k7 := (K1.cell 7).trans hC7
    have k8 := (K1.cell 8).trans hC8
    have k9 := (K1.cell 9).trans hC9
    have k10 := (K1.cell 10).trans hC10
    have k11 := (K1.cell 11).trans hC11
    have k12 := (K1.cell 12).trans hC12
    have k13 := (K1.cell 13).trans hC13
    have k14 := (K1.cell 14).trans hC14
    have y1 := K3.cell 1
    have y2 := K3.cell 2
    have y10 := K3.cell 10
    go_wp2_with (first | (go_at_call_of 24 c.rs; refine (HIA.out _).mono ?_; rintro e w3 ⟨rfl, rfl⟩) | (go_at_call_of 24 c.rj; refine (HIB.out _).mono ?_; rintro e w3 ⟨rfl, rfl⟩) | (go_at_call_of 24 c.vs; refine (HIV.out _).mono ?_; rintro e w3 ⟨rfl, rfl⟩))
    go_ret
    exact ⟨rfl, BX⟩
  · rw [decide_eq_false hz] at q1
    have HE : Hid (R = 1) := Lib.hid (by rw [HR.out, if_neg (fun h => hz (hiff.1 h))])
    clear HR hiff hz HZc
    obtain rfl : R = 1 := by exact HE.out
    go_enter Try.func10, Try.ntmps10
    go_upto_region 2 with (go_at_call 20; refine (HF.out _).mono ?_; rintro e w1 ⟨rfl, b1⟩; replace K1 := K1.below b1 K1.lt; replace BX := thenB BX b1; clear b1 k0)
    have b9 : Below w1.heap.size w1 (w1.alloc (.cells #[.bool true, .bool false, .bool false, .bool false, .bool false, .bool false, .bool true, .bool false, .bool false, .bool false, .bool false] 53)) := (Below.refl _ _).alloc (Nat.le_refl _) _
    have K3 : Blk (w1.alloc (.cells #[.bool true, .bool false, .bool false, .bool false, .bool false, .bool false, .bool true, .bool false, .bool false, .bool false, .bool false] 53)) w1.heap.size 53 #[.bool true, .bool false, .bool false, .bool false, .bool false, .bool false, .bool true, .bool false, .bool false, .bool false, .bool false] := Blk.fresh w1 53 #[.bool true, .bool false, .bool false, .bool false, .bool false, .bool false, .bool true, .bool false, .bool false, .bool false, .bool false]
    have hk1 := K1.lt
    replace K1 := K1.below b9 K1.lt
    replace BX := thenB BX b9
    clear b9
    generalize w1.alloc (.cells #[.bool true, .bool false, .bool false, .bool false, .bool false, .bool false, .bool true, .bool false, .bool false, .bool false, .bool false] 53) = X0 at *
    obtain ⟨g3, e3⟩ : ∃ g, w1.heap.size = g := ⟨_, rfl⟩
    rw [e3] at K3 hk1
    try simp only [e3]
    clear e3
    have y0 := K3.cell 0
    clear y0
    have y0 := K3.cell 0
    go_wp2_with (first | (refine wpList_load_row rfl 28 (.tmp 1) rfl w.heap.size rfl 28 _ (0, 0) _ K1 Try.underlying28 rfl HSZ ?_) | (go_at_call 21; refine (HRs.out _).mono ?_; rintro e w2 ⟨rfl, b2⟩; replace K1 := K1.below b2 K1.lt; replace K3 := K3.below b2 K3.lt; replace BX := thenB BX b2; clear b2))
    go_ret
    exact ⟨rfl, BX⟩
set_option maxRecDepth 100000 in
set_option maxHeartbeats 4000000 in
theorem rchk_no (c : Ct) (w : World) (hg : GoodC c) (hp : ptsK c.k = some []) : Calls Try.prog 10 #[.agg (encC c)] w fun e w' => e = .returned (.int .i64 (chkC c)) ∧ Below w.heap.size w w' := by
  have BX : Below w.heap.size w (w.alloc (.cells (encC c) 28)) := (Below.refl _ _).alloc (Nat.le_refl _) _
  have K1 : Blk (w.alloc (.cells (encC c) 28)) w.heap.size 28 (encC c) := Blk.fresh w 28 (encC c)
  have HSZ : (Try.prog.info? 28).map (·.size) = some (encC c).size := by kernel_rfl
  have HF : Hid (∀ w, Calls Try.prog 20 #[.int .i64 c.k] w fun e w' => e = .returned (.agg #[.bool true, .bool false, .bool false, .bool false, .bool false, .bool false, .bool false, .bool false, .bool false, .bool false, .bool false]) ∧ Below w.heap.size w w') := Lib.hid fun w => by have := fields_k c.k w; rw [hp] at this; exact this
  have HRs : Hid (∀ w, Calls Try.prog 21 #[.agg (encC c)] w fun e w' => e = .returned (.agg (encC ⟨0, c.ws, c.wo, c.it, c.la, c.ti, c.m, c.ins, c.rs, c.rj, c.st, c.mr, c.ft, c.vs, c.ln⟩)) ∧ Below w.heap.size w w') := Lib.hid fun w => rest_no c w hp
  have q1 : ∀ w, (binOp .neq 28 (.agg (encC ⟨0, c.ws, c.wo, c.it, c.la, c.ti, c.m, c.ins, c.rs, c.rj, c.st, c.mr, c.ft, c.vs, c.ln⟩)) (.agg #[.int .i64 0, .int .i64 0, .int .i64 0, .int .i64 0, .int .i64 0, .int .i64 0, .int .u64 0, .int .u16 0, .int .i64 0, .int .i64 0, .int .u64 0, .int .u64 0, .int .u64 0, .int .i64 0, .int .i64 0])).run Try.prog w = .ok (.bool (!decide ((⟨0, c.ws, c.wo, c.it, c.la, c.ti, c.m, c.ins, c.rs, c.rj, c.st, c.mr, c.ft, c.vs, c.ln⟩ : Ct) = zeroC))) w := ctl_neq _ zeroC
  have q2 : ∀ w x y, (eqGuard .neq 28 x y (.agg (encC ⟨0, c.ws, c.wo, c.it, c.la, c.ti, c.m, c.ins, c.rs, c.rj, c.st, c.mr, c.ft, c.vs, c.ln⟩)) (.agg #[.int .i64 0, .int .i64 0, .int .i64 0, .int .i64 0, .int .i64 0, .int .i64 0, .int .u64 0, .int .u16 0, .int .i64 0, .int .i64 0, .int .u64 0, .int .u64 0, .int .u64 0, .int .i64 0, .int .i64 0])).run Try.prog w = .ok () w := ctl_ng _ zeroC
  obtain ⟨R, hR⟩ : ∃ R, chkC c = R := ⟨_, rfl⟩
  rw [hR]
  have HR : Hid (R = if c = usedC c [] then errP c [] else 1) := Lib.hid (by rw [← hR]; unfold chkC; rw [hp])
  have hiff := used_no c hg
  clear hR hp hg
  have HIA := Lib.hid fun w => isbyte_any c.rs w
  have HIB := Lib.hid fun w => isbyte_any c.rj w
  have HIV := Lib.hid fun w => isbyte_any c.vs w
  have HZc : Hid ((⟨0, c.ws, c.wo, c.it, c.la, c.ti, c.m, c.ins, c.rs, c.rj, c.st, c.mr, c.ft, c.vs, c.ln⟩ : Ct) = zeroC → c.ws = 0 ∧ c.wo = 0 ∧ c.it = 0 ∧ c.la = 0 ∧ c.ti = 0 ∧ c.m = 0 ∧ c.ins = 0 ∧ c.rs = 0 ∧ c.rj = 0 ∧ c.st = 0 ∧ c.mr = 0 ∧ c.ft = 0 ∧ c.vs = 0 ∧ c.ln = 0) := Lib.hid fun h => by
    simp only [zeroC, Ct.mk.injEq, true_and, and_true] at h
    exact h
  obtain ⟨Z, hZ⟩ : ∃ Z, encC ⟨0, c.ws, c.wo, c.it, c.la, c.ti, c.m, c.ins, c.rs, c.rj, c.st, c.mr, c.ft, c.vs, c.ln⟩ = Z := ⟨_, rfl⟩
  rw [hZ] at HRs q1 q2
  clear hZ
  have hC1 : (encC c)[1]? = some (.int .i64 c.ws) := rfl
  have hC2 : (encC c)[2]? = some (.int .i64 c.wo) := rfl
  have hC3 : (encC c)[3]? = some (.int .i64 c.it) := rfl
  have hC4 : (encC c)[4]? = some (.int .i64 c.la) := rfl
  have hC5 : (encC c)[5]? = some (.int .i64 c.ti) := rfl
  have hC6 : (encC c)[6]? = some (.int .u64 (c.m : Int)) := rfl
  have hC7 : (encC c)[7]? = some (.int .u16 c.ins) := rfl
  have hC8 : (encC c)[8]? = some (.int .i64 c.rs) := rfl
  have hC9 : (encC c)[9]? = some (.int .i64 c.rj) := rfl
  have hC10 : (encC c)[10]? = some (.int .u64 c.st) := rfl
  have hC11 : (encC c)[11]? = some (.int .u64 c.mr) := rfl
  have hC12 : (encC c)[12]? = some (.int .u64 c.ft) := rfl
  have hC13 : (encC c)[13]? = some (.int .i64 c.vs) := rfl
  have hC14 : (encC c)[14]? = some (.int .i64 c.ln) := rfl
  have hC0 : (encC c)[0]? = some (.int .i64 c.k) := rfl
  obtain ⟨C, hC⟩ : ∃ C, encC c = C := ⟨_, rfl⟩
  rw [hC] at BX K1 HSZ HRs hC0 hC1 hC2 hC3 hC4 hC5 hC6 hC7 hC8 hC9 hC10 hC11 hC12 hC13 hC14 ⊢
  clear hC
  have k0 := (K1.cell 0).trans hC0
  by_cases hz : (⟨0, c.ws, c.wo, c.it, c.la, c.ti, c.m, c.ins, c.rs, c.rj, c.st, c.mr, c.ft, c.vs, c.ln⟩ : Ct) = zeroC
  · rw [decide_eq_true hz] at q1
    have hz0 := HZc.out hz
    have HE : Hid (R = errP c []) := Lib.hid (by rw [HR.out, if_pos (hiff.2 hz)])
    clear HR hiff hz HZc
    obtain ⟨zws, zwo, zit, zla, zti, zm, zins, zrs, zrj, zst, zmr, zft, zvs, zln⟩ := hz0
    rw [show decide (0 ≤ c.rs ∧ c.rs ≤ 255) = true from by rw [zrs]; decide] at HIA
    rw [show decide (0 ≤ c.rj ∧ c.rj ≤ 255) = true from by rw [zrj]; decide] at HIB
    rw [show decide (0 ≤ c.vs ∧ c.vs ≤ 255) = true from by rw [zvs]; decide] at HIV
    clear zws zwo zit zla zti zm zins zrs zrj zst zmr zft zvs zln
    obtain rfl : R = 0 := by rw [HE.out]; simp [errP, chkP, inB]
    go_enter Try.func10, Try.ntmps10
    go_upto_region 2 with (go_at_call 20; refine (HF.out _).mono ?_; rintro e w1 ⟨rfl, b1⟩; replace K1 := K1.below b1 K1.lt; replace BX := thenB BX b1; clear b1 k0)
    have b9 : Below w1.heap.size w1 (w1.alloc (.cells #[.bool true, .bool false, .bool false, .bool false, .bool false, .bool false, .bool false, .bool false, .bool false, .bool false, .bool false] 53)) := (Below.refl _ _).alloc (Nat.le_refl _) _
    have K3 : Blk (w1.alloc (.cells #[.bool true, .bool false, .bool false, .bool false, .bool false, .bool false, .bool false, .bool false, .bool false, .bool false, .bool false] 53)) w1.heap.size 53 #[.bool true, .bool false, .bool false, .bool false, .bool false, .bool false, .bool false, .bool false, .bool false, .bool false, .bool false] := Blk.fresh w1 53 #[.bool true, .bool false, .bool false, .bool false, .bool false, .bool false, .bool false, .bool false, .bool false, .bool false, .bool false]
    have hk1 := K1.lt
    replace K1 := K1.below b9 K1.lt
    replace BX := thenB BX b9
    clear b9
    generalize w1.alloc (.cells #[.bool true, .bool false, .bool false, .bool false, .bool false, .bool false, .bool false, .bool false, .bool false, .bool false, .bool false] 53) = X0 at *
    obtain ⟨g3, e3⟩ : ∃ g, w1.heap.size = g := ⟨_, rfl⟩
    rw [e3] at K3 hk1
    try simp only [e3]
    clear e3
    have y0 := K3.cell 0
    go_upto_region 6 with (first | (refine wpList_load_row rfl 28 (.tmp 1) rfl w.heap.size rfl 28 _ (0, 0) _ K1 Try.underlying28 rfl HSZ ?_) | (go_at_call 21; refine (HRs.out _).mono ?_; rintro e w2 ⟨rfl, b2⟩; replace K1 := K1.below b2 K1.lt; replace K3 := K3.below b2 K3.lt; replace BX := thenB BX b2; clear b2))
    clear y0
    have k1 := (K1.cell 1).trans hC1
    have k2 := (K1.cell 2).trans hC2
    have k3 := (K1.cell 3).trans hC3
    have k4 := (K1.cell 4).trans hC4
    have k5 := (K1.cell 5).trans hC5
    have k6 := (K1.cell 6).trans hC6
    have k7 := (K1.cell 7).trans hC7
    have k8 := (K1.cell 8).trans hC8
    have k9 := (K1.cell 9).trans hC9
    have k10 := (K1.cell 10).trans hC10
    have k11 := (K1.cell 11).trans hC11
    have k12 := (K1.cell 12).trans hC12
    have k13 := (K1.cell 13).trans hC13
    have k14 := (K1.cell 14).trans hC14
    have y1 := K3.cell 1
    have y2 := K3.cell 2
    have y10 := K3.cell 10
    go_wp2_with (first | (go_at_call_of 24 c.rs; refine (HIA.out _).mono ?_; rintro e w3 ⟨rfl, rfl⟩) | (go_at_call_of 24 c.rj; refine (HIB.out _).mono ?_; rintro e w3 ⟨rfl, rfl⟩) | (go_at_call_of 24 c.vs; refine (HIV.out _).mono ?_; rintro e w3 ⟨rfl, rfl⟩))
    go_ret
    exact ⟨rfl, BX⟩
  · rw [decide_eq_false hz] at q1
    have HE : Hid (R = 1) := Lib.hid (by rw [HR.out, if_neg (fun h => hz (hiff.1 h))])
    clear HR hiff hz HZc
    obtain rfl : R = 1 := by exact HE.out
    go_enter Try.func10, Try.ntmps10
    go_upto_region 2 with (go_at_call 20; refine (HF.out _).mono ?_; rintro e w1 ⟨rfl, b1⟩; replace K1 := K1.below b1 K1.lt; replace BX := thenB BX b1; clear b1 k0)
    have b9 : Below w1.heap.size w1 (w1.alloc (.cells #[.bool true, .bool false, .bool false, .bool false, .bool false, .bool false, .bool false, .bool false, .bool false, .bool false, .bool false] 53)) := (Below.refl _ _).alloc (Nat.le_refl _) _
    have K3 : Blk (w1.alloc (.cells #[.bool true, .bool false, .bool false, .bool false, .bool false, .bool false, .bool false, .bool false, .bool false, .bool false, .bool false] 53)) w1.heap.size 53 #[.bool true, .bool false, .bool false, .bool false, .bool false, .bool false, .bool false, .bool false, .bool false, .bool false, .bool false] := Blk.fresh w1 53 #[.bool true, .bool false, .bool false, .bool false, .bool false, .bool false, .bool false, .bool false, .bool false, .bool false, .bool false]
    have hk1 := K1.lt
    replace K1 := K1.below b9 K1.lt
    replace BX := thenB BX b9
    clear b9
    generalize w1.alloc (.cells #[.bool true, .bool false, .bool false, .bool false, .bool false, .bool false, .bool false, .bool false, .bool false, .bool false, .bool false] 53) = X0 at *
    obtain ⟨g3, e3⟩ : ∃ g, w1.heap.size = g := ⟨_, rfl⟩
    rw [e3] at K3 hk1
    try simp only [e3]
    clear e3
    have y0 := K3.cell 0
    clear y0
    have y0 := K3.cell 0
    go_wp2_with (first | (refine wpList_load_row rfl 28 (.tmp 1) rfl w.heap.size rfl 28 _ (0, 0) _ K1 Try.underlying28 rfl HSZ ?_) | (go_at_call 21; refine (HRs.out _).mono ?_; rintro e w2 ⟨rfl, b2⟩; replace K1 := K1.below b2 K1.lt; replace K3 := K3.below b2 K3.lt; replace BX := thenB BX b2; clear b2))
    go_ret
    exact ⟨rfl, BX⟩
set_option maxRecDepth 100000 in
set_option maxHeartbeats 4000000 in
theorem rchk_rj (c : Ct) (w : World) (hg : GoodC c) (hp : ptsK c.k = some [.rj]) : Calls Try.prog 10 #[.agg (encC c)] w fun e w' => e = .returned (.int .i64 (chkC c)) ∧ Below w.heap.size w w' := by
  have BX : Below w.heap.size w (w.alloc (.cells (encC c) 28)) := (Below.refl _ _).alloc (Nat.le_refl _) _
  have K1 : Blk (w.alloc (.cells (encC c) 28)) w.heap.size 28 (encC c) := Blk.fresh w 28 (encC c)
  have HSZ : (Try.prog.info? 28).map (·.size) = some (encC c).size := by kernel_rfl
  have HF : Hid (∀ w, Calls Try.prog 20 #[.int .i64 c.k] w fun e w' => e = .returned (.agg #[.bool true, .bool false, .bool false, .bool false, .bool false, .bool true, .bool false, .bool false, .bool false, .bool false, .bool false]) ∧ Below w.heap.size w w') := Lib.hid fun w => by have := fields_k c.k w; rw [hp] at this; exact this
  have HRs : Hid (∀ w, Calls Try.prog 21 #[.agg (encC c)] w fun e w' => e = .returned (.agg (encC ⟨0, c.ws, c.wo, c.it, c.la, c.ti, c.m, c.ins, c.rs, 0, c.st, c.mr, c.ft, c.vs, c.ln⟩)) ∧ Below w.heap.size w w') := Lib.hid fun w => rest_rj c w hp
  have q1 : ∀ w, (binOp .neq 28 (.agg (encC ⟨0, c.ws, c.wo, c.it, c.la, c.ti, c.m, c.ins, c.rs, 0, c.st, c.mr, c.ft, c.vs, c.ln⟩)) (.agg #[.int .i64 0, .int .i64 0, .int .i64 0, .int .i64 0, .int .i64 0, .int .i64 0, .int .u64 0, .int .u16 0, .int .i64 0, .int .i64 0, .int .u64 0, .int .u64 0, .int .u64 0, .int .i64 0, .int .i64 0])).run Try.prog w = .ok (.bool (!decide ((⟨0, c.ws, c.wo, c.it, c.la, c.ti, c.m, c.ins, c.rs, 0, c.st, c.mr, c.ft, c.vs, c.ln⟩ : Ct) = zeroC))) w := ctl_neq _ zeroC
  have q2 : ∀ w x y, (eqGuard .neq 28 x y (.agg (encC ⟨0, c.ws, c.wo, c.it, c.la, c.ti, c.m, c.ins, c.rs, 0, c.st, c.mr, c.ft, c.vs, c.ln⟩)) (.agg #[.int .i64 0, .int .i64 0, .int .i64 0, .int .i64 0, .int .i64 0, .int .i64 0, .int .u64 0, .int .u16 0, .int .i64 0, .int .i64 0, .int .u64 0, .int .u64 0, .int .u64 0, .int .i64 0, .int .i64 0])).run Try.prog w = .ok () w := ctl_ng _ zeroC
  obtain ⟨R, hR⟩ : ∃ R, chkC c = R := ⟨_, rfl⟩
  rw [hR]
  have HR : Hid (R = if c = usedC c [.rj] then errP c [.rj] else 1) := Lib.hid (by rw [← hR]; unfold chkC; rw [hp])
  have hiff := used_rj c hg
  clear hR hp hg
  have HIA := Lib.hid fun w => isbyte_any c.rs w
  have HIB := Lib.hid fun w => isbyte_any c.rj w
  have HIV := Lib.hid fun w => isbyte_any c.vs w
  have HZc : Hid ((⟨0, c.ws, c.wo, c.it, c.la, c.ti, c.m, c.ins, c.rs, 0, c.st, c.mr, c.ft, c.vs, c.ln⟩ : Ct) = zeroC → c.ws = 0 ∧ c.wo = 0 ∧ c.it = 0 ∧ c.la = 0 ∧ c.ti = 0 ∧ c.m = 0 ∧ c.ins = 0 ∧ c.rs = 0 ∧ c.st = 0 ∧ c.mr = 0 ∧ c.ft = 0 ∧ c.vs = 0 ∧ c.ln = 0) := Lib.hid fun h => by
    simp only [zeroC, Ct.mk.injEq, true_and, and_true] at h
    exact h
  obtain ⟨Z, hZ⟩ : ∃ Z, encC ⟨0, c.ws, c.wo, c.it, c.la, c.ti, c.m, c.ins, c.rs, 0, c.st, c.mr, c.ft, c.vs, c.ln⟩ = Z := ⟨_, rfl⟩
  rw [hZ] at HRs q1 q2
  clear hZ
  have hC1 : (encC c)[1]? = some (.int .i64 c.ws) := rfl
  have hC2 : (encC c)[2]? = some (.int .i64 c.wo) := rfl
  have hC3 : (encC c)[3]? = some (.int .i64 c.it) := rfl
  have hC4 : (encC c)[4]? = some (.int .i64 c.la) := rfl
  have hC5 : (encC c)[5]? = some (.int .i64 c.ti) := rfl
  have hC6 : (encC c)[6]? = some (.int .u64 (c.m : Int)) := rfl
  have hC7 : (encC c)[7]? = some (.int .u16 c.ins) := rfl
  have hC8 : (encC c)[8]? = some (.int .i64 c.rs) := rfl
  have hC9 : (encC c)[9]? = some (.int .i64 c.rj) := rfl
  have hC10 : (encC c)[10]? = some (.int .u64 c.st) := rfl
  have hC11 : (encC c)[11]? = some (.int .u64 c.mr) := rfl
  have hC12 : (encC c)[12]? = some (.int .u64 c.ft) := rfl
  have hC13 : (encC c)[13]? = some (.int .i64 c.vs) := rfl
  have hC14 : (encC c)[14]? = some (.int .i64 c.ln) := rfl
  have hC0 : (encC c)[0]? = some (.int .i64 c.k) := rfl
  obtain ⟨C, hC⟩ : ∃ C, encC c = C := ⟨_, rfl⟩
  rw [hC] at BX K1 HSZ HRs hC0 hC1 hC2 hC3 hC4 hC5 hC6 hC7 hC8 hC9 hC10 hC11 hC12 hC13 hC14 ⊢
  clear hC
  have k0 := (K1.cell 0).trans hC0
  by_cases hz : (⟨0, c.ws, c.wo, c.it, c.la, c.ti, c.m, c.ins, c.rs, 0, c.st, c.mr, c.ft, c.vs, c.ln⟩ : Ct) = zeroC
  · rw [decide_eq_true hz] at q1
    have hz0 := HZc.out hz
    have HE : Hid (R = errP c [.rj]) := Lib.hid (by rw [HR.out, if_pos (hiff.2 hz)])
    clear HR hiff hz HZc
    obtain ⟨zws, zwo, zit, zla, zti, zm, zins, zrs, zst, zmr, zft, zvs, zln⟩ := hz0
    rw [show decide (0 ≤ c.rs ∧ c.rs ≤ 255) = true from by rw [zrs]; decide] at HIA
    rw [show decide (0 ≤ c.vs ∧ c.vs ≤ 255) = true from by rw [zvs]; decide] at HIV
    clear zws zwo zit zla zti zm zins zrs zst zmr zft zvs zln
    by_cases hrj : 0 ≤ c.rj ∧ c.rj ≤ 255
    · rw [decide_eq_true hrj] at HIB
      obtain rfl : R = 0 := by rw [HE.out]; simp [errP, chkP, inB, hrj]
      go_enter Try.func10, Try.ntmps10
      go_upto_region 2 with (go_at_call 20; refine (HF.out _).mono ?_; rintro e w1 ⟨rfl, b1⟩; replace K1 := K1.below b1 K1.lt; replace BX := thenB BX b1; clear b1 k0)
      have b9 : Below w1.heap.size w1 (w1.alloc (.cells #[.bool true, .bool false, .bool false, .bool false, .bool false, .bool true, .bool false, .bool false, .bool false, .bool false, .bool false] 53)) := (Below.refl _ _).alloc (Nat.le_refl _) _
      have K3 : Blk (w1.alloc (.cells #[.bool true, .bool false, .bool false, .bool false, .bool false, .bool true, .bool false, .bool false, .bool false, .bool false, .bool false] 53)) w1.heap.size 53 #[.bool true, .bool false, .bool false, .bool false, .bool false, .bool true, .bool false, .bool false, .bool false, .bool false, .bool false] := Blk.fresh w1 53 #[.bool true, .bool false, .bool false, .bool false, .bool false, .bool true, .bool false, .bool false, .bool false, .bool false, .bool false]
      have hk1 := K1.lt
      replace K1 := K1.below b9 K1.lt
      replace BX := thenB BX b9
      clear b9
      generalize w1.alloc (.cells #[.bool true, .bool false, .bool false, .bool false, .bool false, .bool true, .bool false, .bool false, .bool false, .bool false, .bool false] 53) = X0 at *
      obtain ⟨g3, e3⟩ : ∃ g, w1.heap.size = g := ⟨_, rfl⟩
      rw [e3] at K3 hk1
      try simp only [e3]
      clear e3
      have y0 := K3.cell 0
      go_upto_region 6 with (first | (refine wpList_load_row rfl 28 (.tmp 1) rfl w.heap.size rfl 28 _ (0, 0) _ K1 Try.underlying28 rfl HSZ ?_) | (go_at_call 21; refine (HRs.out _).mono ?_; rintro e w2 ⟨rfl, b2⟩; replace K1 := K1.below b2 K1.lt; replace K3 := K3.below b2 K3.lt; replace BX := thenB BX b2; clear b2))
      clear y0
      have k1 := (K1.cell 1).trans hC1
      have k2 := (K1.cell 2).trans hC2
      have k3 := (K1.cell 3).trans hC3
      have k4 := (K1.cell 4).trans hC4
      have k5 := (K1.cell 5).trans hC5
      have k6 := (K1.cell 6).trans hC6
      have k7 := (K1.cell 7).trans hC7
      have k8 := (K1.cell 8).trans hC8
      have k9 := (K1.cell 9).trans hC9
      have k10 := (K1.cell 10).trans hC10
      have k11 := (K1.cell 11).trans hC11
      have k12 := (K1.cell 12).trans hC12
      have k13 := (K1.cell 13).trans hC13
      have k14 := (K1.cell 14).trans hC14
      have y1 := K3.cell 1
      have y2 := K3.cell 2
      have y10 := K3.cell 10
      go_wp2_with (first | (go_at_call_of 24 c.rs; refine (HIA.out _).mono ?_; rintro e w3 ⟨rfl, rfl⟩) | (go_at_call_of 24 c.rj; refine (HIB.out _).mono ?_; rintro e w3 ⟨rfl, rfl⟩) | (go_at_call_of 24 c.vs; refine (HIV.out _).mono ?_; rintro e w3 ⟨rfl, rfl⟩))
      go_ret
      exact ⟨rfl, BX⟩
    · rw [decide_eq_false hrj] at HIB
      obtain rfl : R = 5 := by rw [HE.out]; simp [errP, chkP, inB, hrj]
      go_enter Try.func10, Try.ntmps10
      go_upto_region 2 with (go_at_call 20; refine (HF.out _).mono ?_; rintro e w1 ⟨rfl, b1⟩; replace K1 := K1.below b1 K1.lt; replace BX := thenB BX b1; clear b1 k0)
      have b9 : Below w1.heap.size w1 (w1.alloc (.cells #[.bool true, .bool false, .bool false, .bool false, .bool false, .bool true, .bool false, .bool false, .bool false, .bool false, .bool false] 53)) := (Below.refl _ _).alloc (Nat.le_refl _) _
      have K3 : Blk (w1.alloc (.cells #[.bool true, .bool false, .bool false, .bool false, .bool false, .bool true, .bool false, .bool false, .bool false, .bool false, .bool false] 53)) w1.heap.size 53 #[.bool true, .bool false, .bool false, .bool false, .bool false, .bool true, .bool false, .bool false, .bool false, .bool false, .bool false] := Blk.fresh w1 53 #[.bool true, .bool false, .bool false, .bool false, .bool false, .bool true, .bool false, .bool false, .bool false, .bool false, .bool false]
      have hk1 := K1.lt
      replace K1 := K1.below b9 K1.lt
      replace BX := thenB BX b9
      clear b9
      generalize w1.alloc (.cells #[.bool true, .bool false, .bool false, .bool false, .bool false, .bool true, .bool false, .bool false, .bool false, .bool false, .bool false] 53) = X0 at *
      obtain ⟨g3, e3⟩ : ∃ g, w1.heap.size = g := ⟨_, rfl⟩
      rw [e3] at K3 hk1
      try simp only [e3]
      clear e3
      have y0 := K3.cell 0
      go_upto_region 6 with (first | (refine wpList_load_row rfl 28 (.tmp 1) rfl w.heap.size rfl 28 _ (0, 0) _ K1 Try.underlying28 rfl HSZ ?_) | (go_at_call 21; refine (HRs.out _).mono ?_; rintro e w2 ⟨rfl, b2⟩; replace K1 := K1.below b2 K1.lt; replace K3 := K3.below b2 K3.lt; replace BX := thenB BX b2; clear b2))
      clear y0
      have k1 := (K1.cell 1).trans hC1
      have k2 := (K1.cell 2).trans hC2
      have k3 := (K1.cell 3).trans hC3
      have k4 := (K1.cell 4).trans hC4
      have k5 := (K1.cell 5).trans hC5
      have k6 := (K1.cell 6).trans hC6
      have k7 := (K1.cell 7).trans hC7
      have k8 := (K1.cell 8).trans hC8
      have k9 := (K1.cell 9).trans hC9
      have k10 := (K1.cell 10).trans hC10
      have k11 := (K1.cell 11).trans hC11
      have k12 := (K1.cell 12).trans hC12
      have k13 := (K1.cell 13).trans hC13
      have k14 := (K1.cell 14).trans hC14
      have y1 := K3.cell 1
      have y2 := K3.cell 2
      have y10 := K3.cell 10
      go_wp2_with (first | (go_at_call_of 24 c.rs; refine (HIA.out _).mono ?_; rintro e w3 ⟨rfl, rfl⟩) | (go_at_call_of 24 c.rj; refine (HIB.out _).mono ?_; rintro e w3 ⟨rfl, rfl⟩) | (go_at_call_of 24 c.vs; refine (HIV.out _).mono ?_; rintro e w3 ⟨rfl, rfl⟩))
      go_ret
      exact ⟨rfl, BX⟩
  · rw [decide_eq_false hz] at q1
    have HE : Hid (R = 1) := Lib.hid (by rw [HR.out, if_neg (fun h => hz (hiff.1 h))])
    clear HR hiff hz HZc
    obtain rfl : R = 1 := by exact HE.out
    go_enter Try.func10, Try.ntmps10
    go_upto_region 2 with (go_at_call 20; refine (HF.out _).mono ?_; rintro e w1 ⟨rfl, b1⟩; replace K1 := K1.below b1 K1.lt; replace BX := thenB BX b1; clear b1 k0)
    have b9 : Below w1.heap.size w1 (w1.alloc (.cells #[.bool true, .bool false, .bool false, .bool false, .bool false, .bool true, .bool false, .bool false, .bool false, .bool false, .bool false] 53)) := (Below.refl _ _).alloc (Nat.le_refl _) _
    have K3 : Blk (w1.alloc (.cells #[.bool true, .bool false, .bool false, .bool false, .bool false, .bool true, .bool false, .bool false, .bool false, .bool false, .bool false] 53)) w1.heap.size 53 #[.bool true, .bool false, .bool false, .bool false, .bool false, .bool true, .bool false, .bool false, .bool false, .bool false, .bool false] := Blk.fresh w1 53 #[.bool true, .bool false, .bool false, .bool false, .bool false, .bool true, .bool false, .bool false, .bool false, .bool false, .bool false]
    have hk1 := K1.lt
    replace K1 := K1.below b9 K1.lt
    replace BX := thenB BX b9
    clear b9
    generalize w1.alloc (.cells #[.bool true, .bool false, .bool false, .bool false, .bool false, .bool true, .bool false, .bool false, .bool false, .bool false, .bool false] 53) = X0 at *
    obtain ⟨g3, e3⟩ : ∃ g, w1.heap.size = g := ⟨_, rfl⟩
    rw [e3] at K3 hk1
    try simp only [e3]
    clear e3
    have y0 := K3.cell 0
    clear y0
    have y0 := K3.cell 0
    go_wp2_with (first | (refine wpList_load_row rfl 28 (.tmp 1) rfl w.heap.size rfl 28 _ (0, 0) _ K1 Try.underlying28 rfl HSZ ?_) | (go_at_call 21; refine (HRs.out _).mono ?_; rintro e w2 ⟨rfl, b2⟩; replace K1 := K1.below b2 K1.lt; replace K3 := K3.below b2 K3.lt; replace BX := thenB BX b2; clear b2))
    go_ret
    exact ⟨rfl, BX⟩
set_option maxRecDepth 100000 in
set_option maxHeartbeats 4000000 in
theorem rchk_fe (c : Ct) (w : World) (hg : GoodC c) (hp : ptsK c.k = some [.fe]) : Calls Try.prog 10 #[.agg (encC c)] w fun e w' => e = .returned (.int .i64 (chkC c)) ∧ Below w.heap.size w w' := by
  have BX : Below w.heap.size w (w.alloc (.cells (encC c) 28)) := (Below.refl _ _).alloc (Nat.le_refl _) _
  have K1 : Blk (w.alloc (.cells (encC c) 28)) w.heap.size 28 (encC c) := Blk.fresh w 28 (encC c)
  have HSZ : (Try.prog.info? 28).map (·.size) = some (encC c).size := by kernel_rfl
  have HF : Hid (∀ w, Calls Try.prog 20 #[.int .i64 c.k] w fun e w' => e = .returned (.agg #[.bool true, .bool false, .bool false, .bool false, .bool false, .bool false, .bool false, .bool false, .bool true, .bool false, .bool false]) ∧ Below w.heap.size w w') := Lib.hid fun w => by have := fields_k c.k w; rw [hp] at this; exact this
  have HRs : Hid (∀ w, Calls Try.prog 21 #[.agg (encC c)] w fun e w' => e = .returned (.agg (encC ⟨0, c.ws, c.wo, c.it, c.la, c.ti, c.m, c.ins, c.rs, c.rj, c.st, c.mr, 0, c.vs, c.ln⟩)) ∧ Below w.heap.size w w') := Lib.hid fun w => rest_fe c w hp
  have q1 : ∀ w, (binOp .neq 28 (.agg (encC ⟨0, c.ws, c.wo, c.it, c.la, c.ti, c.m, c.ins, c.rs, c.rj, c.st, c.mr, 0, c.vs, c.ln⟩)) (.agg #[.int .i64 0, .int .i64 0, .int .i64 0, .int .i64 0, .int .i64 0, .int .i64 0, .int .u64 0, .int .u16 0, .int .i64 0, .int .i64 0, .int .u64 0, .int .u64 0, .int .u64 0, .int .i64 0, .int .i64 0])).run Try.prog w = .ok (.bool (!decide ((⟨0, c.ws, c.wo, c.it, c.la, c.ti, c.m, c.ins, c.rs, c.rj, c.st, c.mr, 0, c.vs, c.ln⟩ : Ct) = zeroC))) w := ctl_neq _ zeroC
  have q2 : ∀ w x y, (eqGuard .neq 28 x y (.agg (encC ⟨0, c.ws, c.wo, c.it, c.la, c.ti, c.m, c.ins, c.rs, c.rj, c.st, c.mr, 0, c.vs, c.ln⟩)) (.agg #[.int .i64 0, .int .i64 0, .int .i64 0, .int .i64 0, .int .i64 0, .int .i64 0, .int .u64 0, .int .u16 0, .int .i64 0, .int .i64 0, .int .u64 0, .int .u64 0, .int .u64 0, .int .i64 0, .int .i64 0])).run Try.prog w = .ok () w := ctl_ng _ zeroC
  obtain ⟨R, hR⟩ : ∃ R, chkC c = R := ⟨_, rfl⟩
  rw [hR]
  have HR : Hid (R = if c = usedC c [.fe] then errP c [.fe] else 1) := Lib.hid (by rw [← hR]; unfold chkC; rw [hp])
  have hiff := used_fe c hg
  clear hR hp hg
  have HIA := Lib.hid fun w => isbyte_any c.rs w
  have HIB := Lib.hid fun w => isbyte_any c.rj w
  have HIV := Lib.hid fun w => isbyte_any c.vs w
  have HZc : Hid ((⟨0, c.ws, c.wo, c.it, c.la, c.ti, c.m, c.ins, c.rs, c.rj, c.st, c.mr, 0, c.vs, c.ln⟩ : Ct) = zeroC → c.ws = 0 ∧ c.wo = 0 ∧ c.it = 0 ∧ c.la = 0 ∧ c.ti = 0 ∧ c.m = 0 ∧ c.ins = 0 ∧ c.rs = 0 ∧ c.rj = 0 ∧ c.st = 0 ∧ c.mr = 0 ∧ c.vs = 0 ∧ c.ln = 0) := Lib.hid fun h => by
    simp only [zeroC, Ct.mk.injEq, true_and, and_true] at h
    exact h
  obtain ⟨Z, hZ⟩ : ∃ Z, encC ⟨0, c.ws, c.wo, c.it, c.la, c.ti, c.m, c.ins, c.rs, c.rj, c.st, c.mr, 0, c.vs, c.ln⟩ = Z := ⟨_, rfl⟩
  rw [hZ] at HRs q1 q2
  clear hZ
  have hC1 : (encC c)[1]? = some (.int .i64 c.ws) := rfl
  have hC2 : (encC c)[2]? = some (.int .i64 c.wo) := rfl
  have hC3 : (encC c)[3]? = some (.int .i64 c.it) := rfl
  have hC4 : (encC c)[4]? = some (.int .i64 c.la) := rfl
  have hC5 : (encC c)[5]? = some (.int .i64 c.ti) := rfl
  have hC6 : (encC c)[6]? = some (.int .u64 (c.m : Int)) := rfl
  have hC7 : (encC c)[7]? = some (.int .u16 c.ins) := rfl
  have hC8 : (encC c)[8]? = some (.int .i64 c.rs) := rfl
  have hC9 : (encC c)[9]? = some (.int .i64 c.rj) := rfl
  have hC10 : (encC c)[10]? = some (.int .u64 c.st) := rfl
  have hC11 : (encC c)[11]? = some (.int .u64 c.mr) := rfl
  have hC12 : (encC c)[12]? = some (.int .u64 c.ft) := rfl
  have hC13 : (encC c)[13]? = some (.int .i64 c.vs) := rfl
  have hC14 : (encC c)[14]? = some (.int .i64 c.ln) := rfl
  have hC0 : (encC c)[0]? = some (.int .i64 c.k) := rfl
  obtain ⟨C, hC⟩ : ∃ C, encC c = C := ⟨_, rfl⟩
  rw [hC] at BX K1 HSZ HRs hC0 hC1 hC2 hC3 hC4 hC5 hC6 hC7 hC8 hC9 hC10 hC11 hC12 hC13 hC14 ⊢
  clear hC
  have k0 := (K1.cell 0).trans hC0
  by_cases hz : (⟨0, c.ws, c.wo, c.it, c.la, c.ti, c.m, c.ins, c.rs, c.rj, c.st, c.mr, 0, c.vs, c.ln⟩ : Ct) = zeroC
  · rw [decide_eq_true hz] at q1
    have hz0 := HZc.out hz
    have HE : Hid (R = errP c [.fe]) := Lib.hid (by rw [HR.out, if_pos (hiff.2 hz)])
    clear HR hiff hz HZc
    obtain ⟨zws, zwo, zit, zla, zti, zm, zins, zrs, zrj, zst, zmr, zvs, zln⟩ := hz0
    rw [show decide (0 ≤ c.rs ∧ c.rs ≤ 255) = true from by rw [zrs]; decide] at HIA
    rw [show decide (0 ≤ c.rj ∧ c.rj ≤ 255) = true from by rw [zrj]; decide] at HIB
    rw [show decide (0 ≤ c.vs ∧ c.vs ≤ 255) = true from by rw [zvs]; decide] at HIV
    clear zws zwo zit zla zti zm zins zrs zrj zst zmr zvs zln
    obtain rfl : R = 0 := by rw [HE.out]; simp [errP, chkP, inB]
    go_enter Try.func10, Try.ntmps10
    go_upto_region 2 with (go_at_call 20; refine (HF.out _).mono ?_; rintro e w1 ⟨rfl, b1⟩; replace K1 := K1.below b1 K1.lt; replace BX := thenB BX b1; clear b1 k0)
    have b9 : Below w1.heap.size w1 (w1.alloc (.cells #[.bool true, .bool false, .bool false, .bool false, .bool false, .bool false, .bool false, .bool false, .bool true, .bool false, .bool false] 53)) := (Below.refl _ _).alloc (Nat.le_refl _) _
    have K3 : Blk (w1.alloc (.cells #[.bool true, .bool false, .bool false, .bool false, .bool false, .bool false, .bool false, .bool false, .bool true, .bool false, .bool false] 53)) w1.heap.size 53 #[.bool true, .bool false, .bool false, .bool false, .bool false, .bool false, .bool false, .bool false, .bool true, .bool false, .bool false] := Blk.fresh w1 53 #[.bool true, .bool false, .bool false, .bool false, .bool false, .bool false, .bool false, .bool false, .bool true, .bool false, .bool false]
    have hk1 := K1.lt
    replace K1 := K1.below b9 K1.lt
    replace BX := thenB BX b9
    clear b9
    generalize w1.alloc (.cells #[.bool true, .bool false, .bool false, .bool false, .bool false, .bool false, .bool false, .bool false, .bool true, .bool false, .bool false] 53) = X0 at *
    obtain ⟨g3, e3⟩ : ∃ g, w1.heap.size = g := ⟨_, rfl⟩
    rw [e3] at K3 hk1
    try simp only [e3]
    clear e3
    have y0 := K3.cell 0
    go_upto_region 6 with (first | (refine wpList_load_row rfl 28 (.tmp 1) rfl w.heap.size rfl 28 _ (0, 0) _ K1 Try.underlying28 rfl HSZ ?_) | (go_at_call 21; refine (HRs.out _).mono ?_; rintro e w2 ⟨rfl, b2⟩; replace K1 := K1.below b2 K1.lt; replace K3 := K3.below b2 K3.lt; replace BX := thenB BX b2; clear b2))
    clear y0
    have k1 := (K1.cell 1).trans hC1
    have k2 := (K1.cell 2).trans hC2
    have k3 := (K1.cell 3).trans hC3
    have k4 := (K1.cell 4).trans hC4
    have k5 := (K1.cell 5).trans hC5
    have k6 := (K1.cell 6).trans hC6
    have k7 := (K1.cell 7).trans hC7
    have k8 := (K1.cell 8).trans hC8
    have k9 := (K1.cell 9).trans hC9
    have k10 := (K1.cell 10).trans hC10
    have k11 := (K1.cell 11).trans hC11
    have k12 := (K1.cell 12).trans hC12
    have k13 := (K1.cell 13).trans hC13
    have k14 := (K1.cell 14).trans hC14
    have y1 := K3.cell 1
    have y2 := K3.cell 2
    have y10 := K3.cell 10
    go_wp2_with (first | (go_at_call_of 24 c.rs; refine (HIA.out _).mono ?_; rintro e w3 ⟨rfl, rfl⟩) | (go_at_call_of 24 c.rj; refine (HIB.out _).mono ?_; rintro e w3 ⟨rfl, rfl⟩) | (go_at_call_of 24 c.vs; refine (HIV.out _).mono ?_; rintro e w3 ⟨rfl, rfl⟩))
    go_ret
    exact ⟨rfl, BX⟩
  · rw [decide_eq_false hz] at q1
    have HE : Hid (R = 1) := Lib.hid (by rw [HR.out, if_neg (fun h => hz (hiff.1 h))])
    clear HR hiff hz HZc
    obtain rfl : R = 1 := by exact HE.out
    go_enter Try.func10, Try.ntmps10
    go_upto_region 2 with (go_at_call 20; refine (HF.out _).mono ?_; rintro e w1 ⟨rfl, b1⟩; replace K1 := K1.below b1 K1.lt; replace BX := thenB BX b1; clear b1 k0)
    have b9 : Below w1.heap.size w1 (w1.alloc (.cells #[.bool true, .bool false, .bool false, .bool false, .bool false, .bool false, .bool false, .bool false, .bool true, .bool false, .bool false] 53)) := (Below.refl _ _).alloc (Nat.le_refl _) _
    have K3 : Blk (w1.alloc (.cells #[.bool true, .bool false, .bool false, .bool false, .bool false, .bool false, .bool false, .bool false, .bool true, .bool false, .bool false] 53)) w1.heap.size 53 #[.bool true, .bool false, .bool false, .bool false, .bool false, .bool false, .bool false, .bool false, .bool true, .bool false, .bool false] := Blk.fresh w1 53 #[.bool true, .bool false, .bool false, .bool false, .bool false, .bool false, .bool false, .bool false, .bool true, .bool false, .bool false]
    have hk1 := K1.lt
    replace K1 := K1.below b9 K1.lt
    replace BX := thenB BX b9
    clear b9
    generalize w1.alloc (.cells #[.bool true, .bool false, .bool false, .bool false, .bool false, .bool false, .bool false, .bool false, .bool true, .bool false, .bool false] 53) = X0 at *
    obtain ⟨g3, e3⟩ : ∃ g, w1.heap.size = g := ⟨_, rfl⟩
    rw [e3] at K3 hk1
    try simp only [e3]
    clear e3
    have y0 := K3.cell 0
    clear y0
    have y0 := K3.cell 0
    go_wp2_with (first | (refine wpList_load_row rfl 28 (.tmp 1) rfl w.heap.size rfl 28 _ (0, 0) _ K1 Try.underlying28 rfl HSZ ?_) | (go_at_call 21; refine (HRs.out _).mono ?_; rintro e w2 ⟨rfl, b2⟩; replace K1 := K1.below b2 K1.lt; replace K3 := K3.below b2 K3.lt; replace BX := thenB BX b2; clear b2))
    go_ret
    exact ⟨rfl, BX⟩
set_option maxRecDepth 100000 in
set_option maxHeartbeats 4000000 in
theorem rchk_vs (c : Ct) (w : World) (hg : GoodC c) (hp : ptsK c.k = some [.vs]) : Calls Try.prog 10 #[.agg (encC c)] w fun e w' => e = .returned (.int .i64 (chkC c)) ∧ Below w.heap.size w w' := by
  have BX : Below w.heap.size w (w.alloc (.cells (encC c) 28)) := (Below.refl _ _).alloc (Nat.le_refl _) _
  have K1 : Blk (w.alloc (.cells (encC c) 28)) w.heap.size 28 (encC c) := Blk.fresh w 28 (encC c)
  have HSZ : (Try.prog.info? 28).map (·.size) = some (encC c).size := by kernel_rfl
  have HF : Hid (∀ w, Calls Try.prog 20 #[.int .i64 c.k] w fun e w' => e = .returned (.agg #[.bool true, .bool false, .bool false, .bool false, .bool false, .bool false, .bool false, .bool false, .bool false, .bool true, .bool false]) ∧ Below w.heap.size w w') := Lib.hid fun w => by have := fields_k c.k w; rw [hp] at this; exact this
  have HRs : Hid (∀ w, Calls Try.prog 21 #[.agg (encC c)] w fun e w' => e = .returned (.agg (encC ⟨0, c.ws, c.wo, c.it, c.la, c.ti, c.m, c.ins, c.rs, c.rj, c.st, c.mr, c.ft, 0, c.ln⟩)) ∧ Below w.heap.size w w') := Lib.hid fun w => rest_vs c w hp
  have q1 : ∀ w, (binOp .neq 28 (.agg (encC ⟨0, c.ws, c.wo, c.it, c.la, c.ti, c.m, c.ins, c.rs, c.rj, c.st, c.mr, c.ft, 0, c.ln⟩)) (.agg #[.int .i64 0, .int .i64 0, .int .i64 0, .int .i64 0, .int .i64 0, .int .i64 0, .int .u64 0, .int .u16 0, .int .i64 0, .int .i64 0, .int .u64 0, .int .u64 0, .int .u64 0, .int .i64 0, .int .i64 0])).run Try.prog w = .ok (.bool (!decide ((⟨0, c.ws, c.wo, c.it, c.la, c.ti, c.m, c.ins, c.rs, c.rj, c.st, c.mr, c.ft, 0, c.ln⟩ : Ct) = zeroC))) w := ctl_neq _ zeroC
  have q2 : ∀ w x y, (eqGuard .neq 28 x y (.agg (encC ⟨0, c.ws, c.wo, c.it, c.la, c.ti, c.m, c.ins, c.rs, c.rj, c.st, c.mr, c.ft, 0, c.ln⟩)) (.agg #[.int .i64 0, .int .i64 0, .int .i64 0, .int .i64 0, .int .i64 0, .int .i64 0, .int .u64 0, .int .u16 0, .int .i64 0, .int .i64 0, .int .u64 0, .int .u64 0, .int .u64 0, .int .i64 0, .int .i64 0])).run Try.prog w = .ok () w := ctl_ng _ zeroC
  obtain ⟨R, hR⟩ : ∃ R, chkC c = R := ⟨_, rfl⟩
  rw [hR]
  have HR : Hid (R = if c = usedC c [.vs] then errP c [.vs] else 1) := Lib.hid (by rw [← hR]; unfold chkC; rw [hp])
  have hiff := used_vs c hg
  clear hR hp hg
  have HIA := Lib.hid fun w => isbyte_any c.rs w
  have HIB := Lib.hid fun w => isbyte_any c.rj w
  have HIV := Lib.hid fun w => isbyte_any c.vs w
  have HZc : Hid ((⟨0, c.ws, c.wo, c.it, c.la, c.ti, c.m, c.ins, c.rs, c.rj, c.st, c.mr, c.ft, 0, c.ln⟩ : Ct) = zeroC → c.ws = 0 ∧ c.wo = 0 ∧ c.it = 0 ∧ c.la = 0 ∧ c.ti = 0 ∧ c.m = 0 ∧ c.ins = 0 ∧ c.rs = 0 ∧ c.rj = 0 ∧ c.st = 0 ∧ c.mr = 0 ∧ c.ft = 0 ∧ c.ln = 0) := Lib.hid fun h => by
    simp only [zeroC, Ct.mk.injEq, true_and, and_true] at h
    exact h
  obtain ⟨Z, hZ⟩ : ∃ Z, encC ⟨0, c.ws, c.wo, c.it, c.la, c.ti, c.m, c.ins, c.rs, c.rj, c.st, c.mr, c.ft, 0, c.ln⟩ = Z := ⟨_, rfl⟩
  rw [hZ] at HRs q1 q2
  clear hZ
  have hC1 : (encC c)[1]? = some (.int .i64 c.ws) := rfl
  have hC2 : (encC c)[2]? = some (.int .i64 c.wo) := rfl
  have hC3 : (encC c)[3]? = some (.int .i64 c.it) := rfl
  have hC4 : (encC c)[4]? = some (.int .i64 c.la) := rfl
  have hC5 : (encC c)[5]? = some (.int .i64 c.ti) := rfl
  have hC6 : (encC c)[6]? = some (.int .u64 (c.m : Int)) := rfl
  have hC7 : (encC c)[7]? = some (.int .u16 c.ins) := rfl
  have hC8 : (encC c)[8]? = some (.int .i64 c.rs) := rfl
  have hC9 : (encC c)[9]? = some (.int .i64 c.rj) := rfl
  have hC10 : (encC c)[10]? = some (.int .u64 c.st) := rfl
  have hC11 : (encC c)[11]? = some (.int .u64 c.mr) := rfl
  have hC12 : (encC c)[12]? = some (.int .u64 c.ft) := rfl
  have hC13 : (encC c)[13]? = some (.int .i64 c.vs) := rfl
  have hC14 : (encC c)[14]? = some (.int .i64 c.ln) := rfl
  have hC0 : (encC c)[0]? = some (.int .i64 c.k) := rfl
  obtain ⟨C, hC⟩ : ∃ C, encC c = C := ⟨_, rfl⟩
  rw [hC] at BX K1 HSZ HRs hC0 hC1 hC2 hC3 hC4 hC5 hC6 hC7 hC8 hC9 hC10 hC11 hC12 hC13 hC14 ⊢
  clear hC
  have k0 := (K1.cell 0).trans hC0
  by_cases hz : (⟨0, c.ws, c.wo, c.it, c.la, c.ti, c.m, c.ins, c.rs, c.rj, c.st, c.mr, c.ft, 0, c.ln⟩ : Ct) = zeroC
  · rw [decide_eq_true hz] at q1
    have hz0 := HZc.out hz
    have HE : Hid (R = errP c [.vs]) := Lib.hid (by rw [HR.out, if_pos (hiff.2 hz)])
    clear HR hiff hz HZc
    obtain ⟨zws, zwo, zit, zla, zti, zm, zins, zrs, zrj, zst, zmr, zft, zln⟩ := hz0
    rw [show decide (0 ≤ c.rs ∧ c.rs ≤ 255) = true from by rw [zrs]; decide] at HIA
    rw [show decide (0 ≤ c.rj ∧ c.rj ≤ 255) = true from by rw [zrj]; decide] at HIB
    clear zws zwo zit zla zti zm zins zrs zrj zst zmr zft zln
    by_cases hvs : 0 ≤ c.vs ∧ c.vs ≤ 255
    · rw [decide_eq_true hvs] at HIV
      obtain rfl : R = 0 := by rw [HE.out]; simp [errP, chkP, inB, hvs]
      go_enter Try.func10, Try.ntmps10
      go_upto_region 2 with (go_at_call 20; refine (HF.out _).mono ?_; rintro e w1 ⟨rfl, b1⟩; replace K1 := K1.below b1 K1.lt; replace BX := thenB BX b1; clear b1 k0)
      have b9 : Below w1.heap.size w1 (w1.alloc (.cells #[.bool true, .bool false, .bool false, .bool false, .bool false, .bool false, .bool false, .bool false, .bool false, .bool true, .bool false] 53)) := (Below.refl _ _).alloc (Nat.le_refl _) _
      have K3 : Blk (w1.alloc (.cells #[.bool true, .bool false, .bool false, .bool false, .bool false, .bool false, .bool false, .bool false, .bool false, .bool true, .bool false] 53)) w1.heap.size 53 #[.bool true, .bool false, .bool false, .bool false, .bool false, .bool false, .bool false, .bool false, .bool false, .bool true, .bool false] := Blk.fresh w1 53 #[.bool true, .bool false, .bool false, .bool false, .bool false, .bool false, .bool false, .bool false, .bool false, .bool true, .bool false]
      have hk1 := K1.lt
      replace K1 := K1.below b9 K1.lt
      replace BX := thenB BX b9
      clear b9
      generalize w1.alloc (.cells #[.bool true, .bool false, .bool false, .bool false, .bool false, .bool false, .bool false, .bool false, .bool false, .bool true, .bool false] 53) = X0 at *
      obtain ⟨g3, e3⟩ : ∃ g, w1.heap.size = g := ⟨_, rfl⟩
      rw [e3] at K3 hk1
      try simp only [e3]
      clear e3
      have y0 := K3.cell 0
      go_upto_region 6 with (first | (refine wpList_load_row rfl 28 (.tmp 1) rfl w.heap.size rfl 28 _ (0, 0) _ K1 Try.underlying28 rfl HSZ ?_) | (go_at_call 21; refine (HRs.out _).mono ?_; rintro e w2 ⟨rfl, b2⟩; replace K1 := K1.below b2 K1.lt; replace K3 := K3.below b2 K3.lt; replace BX := thenB BX b2; clear b2))
      clear y0
      have k1 := (K1.cell 1).trans hC1
      have k2 := (K1.cell 2).trans hC2
      have k3 := (K1.cell 3).trans hC3
      have k4 := (K1.cell 4).trans hC4
      have k5 := (K1.cell 5).trans hC5
      have k6 := (K1.cell 6).trans hC6
      have k7 := (K1.cell 7).trans hC7
      have k8 := (K1.cell 8).trans hC8
      have k9 := (K1.cell 9).trans hC9
      have k10 := (K1.cell 10).trans hC10
      have k11 := (K1.cell 11).trans hC11
      have k12 := (K1.cell 12).trans hC12
      have k13 := (K1.cell 13).trans hC13
      have k14 := (K1.cell 14).trans hC14
      have y1 := K3.cell 1
      have y2 := K3.cell 2
      have y10 := K3.cell 10
      go_wp2_with (first | (go_at_call_of 24 c.rs; refine (HIA.out _).mono ?_; rintro e w3 ⟨rfl, rfl⟩) | (go_at_call_of 24 c.rj; refine (HIB.out _).mono ?_; rintro e w3 ⟨rfl, rfl⟩) | (go_at_call_of 24 c.vs; refine (HIV.out _).mono ?_; rintro e w3 ⟨rfl, rfl⟩))
      go_ret
      exact ⟨rfl, BX⟩
    · rw [decide_eq_false hvs] at HIV
      obtain rfl : R = 5 := by rw [HE.out]; simp [errP, chkP, inB, hvs]
      go_enter Try.func10, Try.ntmps10
      go_upto_region 2 with (go_at_call 20; refine (HF.out _).mono ?_; rintro e w1 ⟨rfl, b1⟩; replace K1 := K1.below b1 K1.lt; replace BX := thenB BX b1; clear b1 k0)
      have b9 : Below w1.heap.size w1 (w1.alloc (.cells #[.bool true, .bool false, .bool false, .bool false, .bool false, .bool false, .bool false, .bool false, .bool false, .bool true, .bool false] 53)) := (Below.refl _ _).alloc (Nat.le_refl _) _
      have K3 : Blk (w1.alloc (.cells #[.bool true, .bool false, .bool false, .bool false, .bool false, .bool false, .bool false, .bool false, .bool false, .bool true, .bool false] 53)) w1.heap.size 53 #[.bool true, .bool false, .bool false, .bool false, .bool false, .bool false, .bool false, .bool false, .bool false, .bool true, .bool false] := Blk.fresh w1 53 #[.bool true, .bool false, .bool false, .bool false, .bool false, .bool false, .bool false, .bool false, .bool false, .bool true, .bool false]
      have hk1 := K1.lt
      replace K1 := K1.below b9 K1.lt
      replace BX := thenB BX b9
      clear b9
      generalize w1.alloc (.cells #[.bool true, .bool false, .bool false, .bool false, .bool false, .bool false, .bool false, .bool false, .bool false, .bool true, .bool false] 53) = X0 at *
      obtain ⟨g3, e3⟩ : ∃ g, w1.heap.size = g := ⟨_, rfl⟩
      rw [e3] at K3 hk1
      try simp only [e3]
      clear e3
      have y0 := K3.cell 0
      go_upto_region 6 with (first | (refine wpList_load_row rfl 28 (.tmp 1) rfl w.heap.size rfl 28 _ (0, 0) _ K1 Try.underlying28 rfl HSZ ?_) | (go_at_call 21; refine (HRs.out _).mono ?_; rintro e w2 ⟨rfl, b2⟩; replace K1 := K1.below b2 K1.lt; replace K3 := K3.below b2 K3.lt; replace BX := thenB BX b2; clear b2))
      clear y0
      have k1 := (K1.cell 1).trans hC1
      have k2 := (K1.cell 2).trans hC2
      have k3 := (K1.cell 3).trans hC3
      have k4 := (K1.cell 4).trans hC4
      have k5 := (K1.cell 5).trans hC5
      have k6 := (K1.cell 6).trans hC6
      have k7 := (K1.cell 7).trans hC7
      have k8 := (K1.cell 8).trans hC8
      have k9 := (K1.cell 9).trans hC9
      have k10 := (K1.cell 10).trans hC10
      have k11 := (K1.cell 11).trans hC11
      have k12 := (K1.cell 12).trans hC12
      have k13 := (K1.cell 13).trans hC13
      have k14 := (K1.cell 14).trans hC14
      have y1 := K3.cell 1
      have y2 := K3.cell 2
      have y10 := K3.cell 10
      go_wp2_with (first | (go_at_call_of 24 c.rs; refine (HIA.out _).mono ?_; rintro e w3 ⟨rfl, rfl⟩) | (go_at_call_of 24 c.rj; refine (HIB.out _).mono ?_; rintro e w3 ⟨rfl, rfl⟩) | (go_at_call_of 24 c.vs; refine (HIV.out _).mono ?_; rintro e w3 ⟨rfl, rfl⟩))
      go_ret
      exact ⟨rfl, BX⟩
  · rw [decide_eq_false hz] at q1
    have HE : Hid (R = 1) := Lib.hid (by rw [HR.out, if_neg (fun h => hz (hiff.1 h))])
    clear HR hiff hz HZc
    obtain rfl : R = 1 := by exact HE.out
    go_enter Try.func10, Try.ntmps10
    go_upto_region 2 with (go_at_call 20; refine (HF.out _).mono ?_; rintro e w1 ⟨rfl, b1⟩; replace K1 := K1.below b1 K1.lt; replace BX := thenB BX b1; clear b1 k0)
    have b9 : Below w1.heap.size w1 (w1.alloc (.cells #[.bool true, .bool false, .bool false, .bool false, .bool false, .bool false, .bool false, .bool false, .bool false, .bool true, .bool false] 53)) := (Below.refl _ _).alloc (Nat.le_refl _) _
    have K3 : Blk (w1.alloc (.cells #[.bool true, .bool false, .bool false, .bool false, .bool false, .bool false, .bool false, .bool false, .bool false, .bool true, .bool false] 53)) w1.heap.size 53 #[.bool true, .bool false, .bool false, .bool false, .bool false, .bool false, .bool false, .bool false, .bool false, .bool true, .bool false] := Blk.fresh w1 53 #[.bool true, .bool false, .bool false, .bool false, .bool false, .bool false, .bool false, .bool false, .bool false, .bool true, .bool false]
    have hk1 := K1.lt
    replace K1 := K1.below b9 K1.lt
    replace BX := thenB BX b9
    clear b9
    generalize w1.alloc (.cells #[.bool true, .bool false, .bool false, .bool false, .bool false, .bool false, .bool false, .bool false, .bool false, .bool true, .bool false] 53) = X0 at *
    obtain ⟨g3, e3⟩ : ∃ g, w1.heap.size = g := ⟨_, rfl⟩
    rw [e3] at K3 hk1
    try simp only [e3]
    clear e3
    have y0 := K3.cell 0
    clear y0
    have y0 := K3.cell 0
    go_wp2_with (first | (refine wpList_load_row rfl 28 (.tmp 1) rfl w.heap.size rfl 28 _ (0, 0) _ K1 Try.underlying28 rfl HSZ ?_) | (go_at_call 21; refine (HRs.out _).mono ?_; rintro e w2 ⟨rfl, b2⟩; replace K1 := K1.below b2 K1.lt; replace K3 := K3.below b2 K3.lt; replace BX := thenB BX b2; clear b2))
    go_ret
    exact ⟨rfl, BX⟩
set_option maxRecDepth 100000 in
set_option maxHeartbeats 4000000 in
theorem rchk_rs_rj (c : Ct) (w : World) (hg : GoodC c) (hp : ptsK c.k = some [.rs, .rj]) : Calls Try.prog 10 #[.agg (encC c)] w fun e w' => e = .returned (.int .i64 (chkC c)) ∧ Below w.heap.size w w' := by
  have BX : Below w.heap.size w (w.alloc (.cells (encC c) 28)) := (Below.refl _ _).alloc (Nat.le_refl _) _
  have K1 : Blk (w.alloc (.cells (encC c) 28)) w.heap.size 28 (encC c) := Blk.fresh w 28 (encC c)
  have HSZ : (Try.prog.info? 28).map (·.size) = some (encC c).size := by kernel_rfl
  have HF : Hid (∀ w, Calls Try.prog 20 #[.int .i64 c.k] w fun e w' => e = .returned (.agg #[.bool true, .bool false, .bool false, .bool false, .bool true, .bool true, .bool false, .bool false, .bool false, .bool false, .bool false]) ∧ Below w.heap.size w w') := Lib.hid fun w => by have := fields_k c.k w; rw [hp] at this; exact this
  have HRs : Hid (∀ w, Calls Try.prog 21 #[.agg (encC c)] w fun e w' => e = .returned (.agg (encC ⟨0, c.ws, c.wo, c.it, c.la, c.ti, c.m, c.ins, 0, 0, c.st, c.mr, c.ft, c.vs, c.ln⟩)) ∧ Below w.heap.size w w') := Lib.hid fun w => rest_rs_rj c w hp
  have q1 : ∀ w, (binOp .neq 28 (.agg (encC ⟨0, c.ws, c.wo, c.it, c.la, c.ti, c.m, c.ins, 0, 0, c.st, c.mr, c.ft, c.vs, c.ln⟩)) (.agg #[.int .i64 0, .int .i64 0, .int .i64 0, .int .i64 0, .int .i64 0, .int .i64 0, .int .u64 0, .int .u16 0, .int .i64 0, .int .i64 0, .int .u64 0, .int .u64 0, .int .u64 0, .int .i64 0, .int .i64 0])).run Try.prog w = .ok (.bool (!decide ((⟨0, c.ws, c.wo, c.it, c.la, c.ti, c.m, c.ins, 0, 0, c.st, c.mr, c.ft, c.vs, c.ln⟩ : Ct) = zeroC))) w := ctl_neq _ zeroC
  have q2 : ∀ w x y, (eqGuard .neq 28 x y (.agg (encC ⟨0, c.ws, c.wo, c.it, c.la, c.ti, c.m, c.ins, 0, 0, c.st, c.mr, c.ft, c.vs, c.ln⟩)) (.agg #[.int .i64 0, .int .i64 0, .int .i64 0, .int .i64 0, .int .i64 0, .int .i64 0, .int .u64 0, .int .u16 0, .int .i64 0, .int .i64 0, .int .u64 0, .int .u64 0, .int .u64 0, .int .i64 0, .int .i64 0])).run Try.prog w = .ok () w := ctl_ng _ zeroC
  obtain ⟨R, hR⟩ : ∃ R, chkC c = R := ⟨_, rfl⟩
  rw [hR]
  have HR : Hid (R = if c = usedC c [.rs, .rj] then errP c [.rs, .rj] else 1) := Lib.hid (by rw [← hR]; unfold chkC; rw [hp])
  have hiff := used_rs_rj c hg
  clear hR hp hg
  have HIA := Lib.hid fun w => isbyte_any c.rs w
  have HIB := Lib.hid fun w => isbyte_any c.rj w
  have HIV := Lib.hid fun w => isbyte_any c.vs w
  have HZc : Hid ((⟨0, c.ws, c.wo, c.it, c.la, c.ti, c.m, c.ins, 0, 0, c.st, c.mr, c.ft, c.vs, c.ln⟩ : Ct) = zeroC → c.ws = 0 ∧ c.wo = 0 ∧ c.it = 0 ∧ c.la = 0 ∧ c.ti = 0 ∧ c.m = 0 ∧ c.ins = 0 ∧ c.st = 0 ∧ c.mr = 0 ∧ c.ft = 0 ∧ c.vs = 0 ∧ c.ln = 0) := Lib.hid fun h => by
    simp only [zeroC, Ct.mk.injEq, true_and, and_true] at h
    exact h
  obtain ⟨Z, hZ⟩ : ∃ Z, encC ⟨0, c.ws, c.wo, c.it, c.la, c.ti, c.m, c.ins, 0, 0, c.st, c.mr, c.ft, c.vs, c.ln⟩ = Z := ⟨_, rfl⟩
  rw [hZ] at HRs q1 q2
  clear hZ
  have hC1 : (encC c)[1]? = some (.int .i64 c.ws) := rfl
  have hC2 : (encC c)[2]? = some (.int .i64 c.wo) := rfl
  have hC3 : (encC c)[3]? = some (.int .i64 c.it) := rfl
  have hC4 : (encC c)[4]? = some (.int .i64 c.la) := rfl
  have hC5 : (encC c)[5]? = some (.int .i64 c.ti) := rfl
  have hC6 : (encC c)[6]? = some (.int .u64 (c.m : Int)) := rfl
  have hC7 : (encC c)[7]? = some (.int .u16 c.ins) := rfl
  have hC8 : (encC c)[8]? = some (.int .i64 c.rs) := rfl
  have hC9 : (encC c)[9]? = some (.int .i64 c.rj) := rfl
  have hC10 : (encC c)[10]? = some (.int .u64 c.st) := rfl
  have hC11 : (encC c)[11]? = some (.int .u64 c.mr) := rfl
  have hC12 : (encC c)[12]? = some (.int .u64 c.ft) := rfl
  have hC13 : (encC c)[13]? = some (.int .i64 c.vs) := rfl
  have hC14 : (encC c)[14]? = some (.int .i64 c.ln) := rfl
  have hC0 : (encC c)[0]? = some (.int .i64 c.k) := rfl
  obtain ⟨C, hC⟩ : ∃ C, encC c = C := ⟨_, rfl⟩
  rw [hC] at BX K1 HSZ HRs hC0 hC1 hC2 hC3 hC4 hC5 hC6 hC7 hC8 hC9 hC10 hC11 hC12 hC13 hC14 ⊢
  clear hC
  have k0 := (K1.cell 0).trans hC0
  by_cases hz : (⟨0, c.ws, c.wo, c.it, c.la, c.ti, c.m, c.ins, 0, 0, c.st, c.mr, c.ft, c.vs, c.ln⟩ : Ct) = zeroC
  · rw [decide_eq_true hz] at q1
    have hz0 := HZc.out hz
    have HE : Hid (R = errP c [.rs, .rj]) := Lib.hid (by rw [HR.out, if_pos (hiff.2 hz)])
    clear HR hiff hz HZc
    obtain ⟨zws, zwo, zit, zla, zti, zm, zins, zst, zmr, zft, zvs, zln⟩ := hz0
    rw [show decide (0 ≤ c.vs ∧ c.vs ≤ 255) = true from by rw [zvs]; decide] at HIV
    clear zws zwo zit zla zti zm zins zst zmr zft zvs zln
    by_cases hrs : 0 ≤ c.rs ∧ c.rs ≤ 255
    · rw [decide_eq_true hrs] at HIA
      by_cases hrj : 0 ≤ c.rj ∧ c.rj ≤ 255
      · rw [decide_eq_true hrj] at HIB
        obtain rfl : R = 0 := by rw [HE.out]; simp [errP, chkP, inB, hrs, hrj]
        go_enter Try.func10, Try.ntmps10
        go_upto_region 2 with (go_at_call 20; refine (HF.out _).mono ?_; rintro e w1 ⟨rfl, b1⟩; replace K1 := K1.below b1 K1.lt; replace BX := thenB BX b1; clear b1 k0)
        have b9 : Below w1.heap.size w1 (w1.alloc (.cells #[.bool true, .bool false, .bool false, .bool false, .bool true, .bool true, .bool false, .bool false, .bool false, .bool false, .bool false] 53)) := (Below.refl _ _).alloc (Nat.le_refl _) _
        have K3 : Blk (w1.alloc (.cells #[.bool true, .bool false, .bool false, .bool false, .bool true, .bool true, .bool false, .bool false, .bool false, .bool false, .bool false] 53)) w1.heap.size 53 #[.bool true, .bool false, .bool false, .bool false, .bool true, .bool true, .bool false, .bool false, .bool false, .bool false, .bool false] := Blk.fresh w1 53 #[.bool true, .bool false, .bool false, .bool false, .bool true, .bool true, .bool false, .bool false, .bool false, .bool false, .bool false]
        have hk1 := K1.lt
        replace K1 := K1.below b9 K1.lt
        replace BX := thenB BX b9
        clear b9
        generalize w1.alloc (.cells #[.bool true, .bool false, .bool false, .bool false, .bool true, .bool true, .bool false, .bool false, .bool false, .bool false, .bool false] 53) = X0 at *
        obtain ⟨g3, e3⟩ : ∃ g, w1.heap.size = g := ⟨_, rfl⟩
        rw [e3] at K3 hk1
        try simp only [e3]
        clear e3
        have y0 := K3.cell 0
        go_upto_region 6 with (first | (refine wpList_load_row rfl 28 (.tmp 1) rfl w.heap.size rfl 28 _ (0, 0) _ K1 Try.underlying28 rfl HSZ ?_) | (go_at_call 21; refine (HRs.out _).mono ?_; rintro e w2 ⟨rfl, b2⟩; replace K1 := K1.below b2 K1.lt; replace K3 := K3.below b2 K3.lt; replace BX := thenB BX b2; clear b2))
        clear y0
        have k1 := (K1.cell 1).trans hC1
        have k2 := (K1.cell 2).trans hC2
        have k3 := (K1.cell 3).trans hC3
        have k4 := (K1.cell 4).trans hC4
        have k5 := (K1.cell 5).trans hC5
        have k6 := (K1.cell 6).trans hC6
        have k7 := (K1.cell 7).trans hC7
        have k8 := (K1.cell 8).trans hC8
        have k9 := (K1.cell 9).trans hC9
        have k10 := (K1.cell 10).trans hC10
        have k11 := (K1.cell 11).trans hC11
        have k12 := (K1.cell 12).trans hC12
        have k13 := (K1.cell 13).trans hC13
        have k14 := (K1.cell 14).trans hC14
        have y1 := K3.cell 1
        have y2 := K3.cell 2
        have y10 := K3.cell 10
        go_wp2_with (first | (go_at_call_of 24 c.rs; refine (HIA.out _).mono ?_; rintro e w3 ⟨rfl, rfl⟩) | (go_at_call_of 24 c.rj; refine (HIB.out _).mono ?_; rintro e w3 ⟨rfl, rfl⟩) | (go_at_call_of 24 c.vs; refine (HIV.out _).mono ?_; rintro e w3 ⟨rfl, rfl⟩))
        go_ret
        exact ⟨rfl, BX⟩
      · rw [decide_eq_false hrj] at HIB
        obtain rfl : R = 5 := by rw [HE.out]; simp [errP, chkP, inB, hrs, hrj]
        go_enter Try.func10, Try.ntmps10
        go_upto_region 2 with (go_at_call 20; refine (HF.out _).mono ?_; rintro e w1 ⟨rfl, b1⟩; replace K1 := K1.below b1 K1.lt; replace BX := thenB BX b1; clear b1 k0)
        have b9 : Below w1.heap.size w1 (w1.alloc (.cells #[.bool true, .bool false, .bool false, .bool false, .bool true, .bool true, .bool false, .bool false, .bool false, .bool false, .bool false] 53)) := (Below.refl _ _).alloc (Nat.le_refl _) _
        have K3 : Blk (w1.alloc (.cells #[.bool true, .bool false, .bool false, .bool false, .bool true, .bool true, .bool false, .bool false, .bool false, .bool false, .bool false] 53)) w1.heap.size 53 #[.bool true, .bool false, .bool false, .bool false, .bool true, .bool true, .bool false, .bool false, .bool false, .bool false, .bool false] := Blk.fresh w1 53 #[.bool true, .bool false, .bool false, .bool false, .bool true, .bool true, .bool false, .bool false, .bool false, .bool false, .bool false]
        have hk1 := K1.lt
        replace K1 := K1.below b9 K1.lt
        replace BX := thenB BX b9
        clear b9
        generalize w1.alloc (.cells #[.bool true, .bool false, .bool false, .bool false, .bool true, .bool true, .bool false, .bool false, .bool false, .bool false, .bool false] 53) = X0 at *
        obtain ⟨g3, e3⟩ : ∃ g, w1.heap.size = g := ⟨_, rfl⟩
        rw [e3] at K3 hk1
        try simp only [e3]
        clear e3
        have y0 := K3.cell 0
        go_upto_region 6 with (first | (refine wpList_load_row rfl 28 (.tmp 1) rfl w.heap.size rfl 28 _ (0, 0) _ K1 Try.underlying28 rfl HSZ ?_) | (go_at_call 21; refine (HRs.out _).mono ?_; rintro e w2 ⟨rfl, b2⟩; replace K1 := K1.below b2 K1.lt; replace K3 := K3.below b2 K3.lt; replace BX := thenB BX b2; clear b2))
        clear y0
        have k1 := (K1.cell 1).trans hC1
        have k2 := (K1.cell 2).trans hC2
        have k3 := (K1.cell 3).trans hC3
        have k4 := (K1.cell 4).trans hC4
        have k5 := (K1.cell 5).trans hC5
        have k6 := (K1.cell 6).trans hC6
        have k7 := (K1.cell 7).trans hC7
        have k8 := (K1.cell 8).trans hC8
        have k9 := (K1.cell 9).trans hC9
        have k10 := (K1.cell 10).trans hC10
        have k11 := (K1.cell 11).trans hC11
        have k12 := (K1.cell 12).trans hC12
        have k13 := (K1.cell 13).trans hC13
        have k14 := (K1.cell 14).trans hC14
        have y1 := K3.cell 1
        have y2 := K3.cell 2
        have y10 := K3.cell 10
        go_wp2_with (first | (go_at_call_of 24 c.rs; refine (HIA.out _).mono ?_; rintro e w3 ⟨rfl, rfl⟩) | (go_at_call_of 24 c.rj; refine (HIB.out _).mono ?_; rintro e w3 ⟨rfl, rfl⟩) | (go_at_call_of 24 c.vs; refine (HIV.out _).mono ?_; rintro e w3 ⟨rfl, rfl⟩))
        go_ret
        exact ⟨rfl, BX⟩
    · rw [decide_eq_false hrs] at HIA
      obtain rfl : R = 5 := by rw [HE.out]; simp [errP, chkP, inB, hrs]
      go_enter Try.func10, Try.ntmps10
      go_upto_region 2 with (go_at_call 20; refine (HF.out _).mono ?_; rintro e w1 ⟨rfl, b1⟩; replace K1 := K1.below b1 K1.lt; replace BX := thenB BX b1; clear b1 k0)
      have b9 : Below w1.heap.size w1 (w1.alloc (.cells #[.bool true, .bool false, .bool false, .bool false, .bool true, .bool true, .bool false, .bool false, .bool false, .bool false, .bool false] 53)) := (Below.refl _ _).alloc (Nat.le_refl _) _
      have K3 : Blk (w1.alloc (.cells #[.bool true, .bool false, .bool false, .bool false, .bool true, .bool true, .bool false, .bool false, .bool false, .bool false, .bool false] 53)) w1.heap.size 53 #[.bool true, .bool false, .bool false, .bool false, .bool true, .bool true, .bool false, .bool false, .bool false, .bool false, .bool false] := Blk.fresh w1 53 #[.bool true, .bool false, .bool false, .bool false, .bool true, .bool true, .bool false, .bool false, .bool false, .bool false, .bool false]
      have hk1 := K1.lt
      replace K1 := K1.below b9 K1.lt
      replace BX := thenB BX b9
      clear b9
      generalize w1.alloc (.cells #[.bool true, .bool false, .bool false, .bool false, .bool true, .bool true, .bool false, .bool false, .bool false, .bool false, .bool false] 53) = X0 at *
      obtain ⟨g3, e3⟩ : ∃ g, w1.heap.size = g := ⟨_, rfl⟩
      rw [e3] at K3 hk1
      try simp only [e3]
      clear e3
      have y0 := K3.cell 0
      go_upto_region 6 with (first | (refine wpList_load_row rfl 28 (.tmp 1) rfl w.heap.size rfl 28 _ (0, 0) _ K1 Try.underlying28 rfl HSZ ?_) | (go_at_call 21; refine (HRs.out _).mono ?_; rintro e w2 ⟨rfl, b2⟩; replace K1 := K1.below b2 K1.lt; replace K3 := K3.below b2 K3.lt; replace BX := thenB BX b2; clear b2))
      clear y0
      have k1 := (K1.cell 1).trans hC1
      have k2 := (K1.cell 2).trans hC2
      have k3 := (K1.cell 3).trans hC3
      have k4 := (K1.cell 4).trans hC4
      have k5 := (K1.cell 5).trans hC5
      have k6 := (K1.cell 6).trans hC6
      have k7 := (K1.cell 7).trans hC7
      have k8 := (K1.cell 8).trans hC8
      have k9 := (K1.cell 9).trans hC9
      have k10 := (K1.cell 10).trans hC10
      have k11 := (K1.cell 11).trans hC11
      have k12 := (K1.cell 12).trans hC12
      have k13 := (K1.cell 13).trans hC13
      have k14 := (K1.cell 14).trans hC14
      have y1 := K3.cell 1
      have y2 := K3.cell 2
      have y10 := K3.cell 10
      go_wp2_with (first | (go_at_call_of 24 c.rs; refine (HIA.out _).mono ?_; rintro e w3 ⟨rfl, rfl⟩) | (go_at_call_of 24 c.rj; refine (HIB.out _).mono ?_; rintro e w3 ⟨rfl, rfl⟩) | (go_at_call_of 24 c.vs; refine (HIV.out _).mono ?_; rintro e w3 ⟨rfl, rfl⟩))
      go_ret
      exact ⟨rfl, BX⟩
  · rw [decide_eq_false hz] at q1
    have HE : Hid (R = 1) := Lib.hid (by rw [HR.out, if_neg (fun h => hz (hiff.1 h))])
    clear HR hiff hz HZc
    obtain rfl : R = 1 := by exact HE.out
    go_enter Try.func10, Try.ntmps10
    go_upto_region 2 with (go_at_call 20; refine (HF.out _).mono ?_; rintro e w1 ⟨rfl, b1⟩; replace K1 := K1.below b1 K1.lt; replace BX := thenB BX b1; clear b1 k0)
    have b9 : Below w1.heap.size w1 (w1.alloc (.cells #[.bool true, .bool false, .bool false, .bool false, .bool true, .bool true, .bool false, .bool false, .bool false, .bool false, .bool false] 53)) := (Below.refl _ _).alloc (Nat.le_refl _) _
    have K3 : Blk (w1.alloc (.cells #[.bool true, .bool false, .bool false, .bool false, .bool true, .bool true, .bool false, .bool false, .bool false, .bool false, .bool false] 53)) w1.heap.size 53 #[.bool true, .bool false, .bool false, .bool false, .bool true, .bool true, .bool false, .bool false, .bool false, .bool false, .bool false] := Blk.fresh w1 53 #[.bool true, .bool false, .bool false, .bool false, .bool true, .bool true, .bool false, .bool false, .bool false, .bool false, .bool false]
    have hk1 := K1.lt
    replace K1 := K1.below b9 K1.lt
    replace BX := thenB BX b9
    clear b9
    generalize w1.alloc (.cells #[.bool true, .bool false, .bool false, .bool false, .bool true, .bool true, .bool false, .bool false, .bool false, .bool false, .bool false] 53) = X0 at *
    obtain ⟨g3, e3⟩ : ∃ g, w1.heap.size = g := ⟨_, rfl⟩
    rw [e3] at K3 hk1
    try simp only [e3]
    clear e3
    have y0 := K3.cell 0
    clear y0
    have y0 := K3.cell 0
    go_wp2_with (first | (refine wpList_load_row rfl 28 (.tmp 1) rfl w.heap.size rfl 28 _ (0, 0) _ K1 Try.underlying28 rfl HSZ ?_) | (go_at_call 21; refine (HRs.out _).mono ?_; rintro e w2 ⟨rfl, b2⟩; replace K1 := K1.below b2 K1.lt; replace K3 := K3.below b2 K3.lt; replace BX := thenB BX b2; clear b2))
    go_ret
    exact ⟨rfl, BX⟩
set_option maxRecDepth 100000 in
set_option maxHeartbeats 4000000 in
theorem rchk_up (c : Ct) (w : World) (hg : GoodC c) (hp : ptsK c.k = some [.up]) : Calls Try.prog 10 #[.agg (encC c)] w fun e w' => e = .returned (.int .i64 (chkC c)) ∧ Below w.heap.size w w' := by
  have BX : Below w.heap.size w (w.alloc (.cells (encC c) 28)) := (Below.refl _ _).alloc (Nat.le_refl _) _
  have K1 : Blk (w.alloc (.cells (encC c) 28)) w.heap.size 28 (encC c) := Blk.fresh w 28 (encC c)
  have HSZ : (Try.prog.info? 28).map (·.size) = some (encC c).size := by kernel_rfl
  have HF : Hid (∀ w, Calls Try.prog 20 #[.int .i64 c.k] w fun e w' => e = .returned (.agg #[.bool true, .bool true, .bool false, .bool false, .bool false, .bool false, .bool false, .bool false, .bool false, .bool false, .bool false]) ∧ Below w.heap.size w w') := Lib.hid fun w => by have := fields_k c.k w; rw [hp] at this; exact this
  have HRs : Hid (∀ w, Calls Try.prog 21 #[.agg (encC c)] w fun e w' => e = .returned (.agg (encC ⟨0, 0, 0, 0, 0, 0, c.m, c.ins, c.rs, c.rj, c.st, c.mr, c.ft, c.vs, c.ln⟩)) ∧ Below w.heap.size w w') := Lib.hid fun w => rest_up c w hp
  have q1 : ∀ w, (binOp .neq 28 (.agg (encC ⟨0, 0, 0, 0, 0, 0, c.m, c.ins, c.rs, c.rj, c.st, c.mr, c.ft, c.vs, c.ln⟩)) (.agg #[.int .i64 0, .int .i64 0, .int .i64 0, .int .i64 0, .int .i64 0, .int .i64 0, .int .u64 0, .int .u16 0, .int .i64 0, .int .i64 0, .int .u64 0, .int .u64 0, .int .u64 0, .int .i64 0, .int .i64 0])).run Try.prog w = .ok (.bool (!decide ((⟨0, 0, 0, 0, 0, 0, c.m, c.ins, c.rs, c.rj, c.st, c.mr, c.ft, c.vs, c.ln⟩ : Ct) = zeroC))) w := ctl_neq _ zeroC
  have q2 : ∀ w x y, (eqGuard .neq 28 x y (.agg (encC ⟨0, 0, 0, 0, 0, 0, c.m, c.ins, c.rs, c.rj, c.st, c.mr, c.ft, c.vs, c.ln⟩)) (.agg #[.int .i64 0, .int .i64 0, .int .i64 0, .int .i64 0, .int .i64 0, .int .i64 0, .int .u64 0, .int .u16 0, .int .i64 0, .int .i64 0, .int .u64 0, .int .u64 0, .int .u64 0, .int .i64 0, .int .i64 0])).run Try.prog w = .ok () w := ctl_ng _ zeroC
  have HUp := Lib.hid (Cn.rcheckUpdate_any c.ws c.wo c.it c.la c.ti)
  obtain ⟨R, hR⟩ : ∃ R, chkC c = R := ⟨_, rfl⟩
  rw [hR]
  have HR : Hid (R = if c = usedC c [.up] then errP c [.up] else 1) := Lib.hid (by rw [← hR]; unfold chkC; rw [hp])
  have hiff := used_up c hg
  clear hR hp hg
  have HIA := Lib.hid fun w => isbyte_any c.rs w
  have HIB := Lib.hid fun w => isbyte_any c.rj w
  have HIV := Lib.hid fun w => isbyte_any c.vs w
  have HZc : Hid ((⟨0, 0, 0, 0, 0, 0, c.m, c.ins, c.rs, c.rj, c.st, c.mr, c.ft, c.vs, c.ln⟩ : Ct) = zeroC → c.m = 0 ∧ c.ins = 0 ∧ c.rs = 0 ∧ c.rj = 0 ∧ c.st = 0 ∧ c.mr = 0 ∧ c.ft = 0 ∧ c.vs = 0 ∧ c.ln = 0) := Lib.hid fun h => by
    simp only [zeroC, Ct.mk.injEq, true_and, and_true] at h
    exact h
  obtain ⟨Z, hZ⟩ : ∃ Z, encC ⟨0, 0, 0, 0, 0, 0, c.m, c.ins, c.rs, c.rj, c.st, c.mr, c.ft, c.vs, c.ln⟩ = Z := ⟨_, rfl⟩
  rw [hZ] at HRs q1 q2
  clear hZ
  have hC1 : (encC c)[1]? = some (.int .i64 c.ws) := rfl
  have hC2 : (encC c)[2]? = some (.int .i64 c.wo) := rfl
  have hC3 : (encC c)[3]? = some (.int .i64 c.it) := rfl
  have hC4 : (encC c)[4]? = some (.int .i64 c.la) := rfl
  have hC5 : (encC c)[5]? = some (.int .i64 c.ti) := rfl
  have hC6 : (encC c)[6]? = some (.int .u64 (c.m : Int)) := rfl
  have hC7 : (encC c)[7]? = some (.int .u16 c.ins) := rfl
  have hC8 : (encC c)[8]? = some (.int .i64 c.rs) := rfl
  have hC9 : (encC c)[9]? = some (.int .i64 c.rj) := rfl
  have hC10 : (encC c)[10]? = some (.int .u64 c.st) := rfl
  have hC11 : (encC c)[11]? = some (.int .u64 c.mr) := rfl
  have hC12 : (encC c)[12]? = some (.int .u64 c.ft) := rfl
  have hC13 : (encC c)[13]? = some (.int .i64 c.vs) := rfl
  have hC14 : (encC c)[14]? = some (.int .i64 c.ln) := rfl
  have hC0 : (encC c)[0]? = some (.int .i64 c.k) := rfl
  obtain ⟨C, hC⟩ : ∃ C, encC c = C := ⟨_, rfl⟩
  rw [hC] at BX K1 HSZ HRs hC0 hC1 hC2 hC3 hC4 hC5 hC6 hC7 hC8 hC9 hC10 hC11 hC12 hC13 hC14 ⊢
  clear hC
  have k0 := (K1.cell 0).trans hC0
  by_cases hz : (⟨0, 0, 0, 0, 0, 0, c.m, c.ins, c.rs, c.rj, c.st, c.mr, c.ft, c.vs, c.ln⟩ : Ct) = zeroC
  · rw [decide_eq_true hz] at q1
    have hz0 := HZc.out hz
    have HE : Hid (R = errP c [.up]) := Lib.hid (by rw [HR.out, if_pos (hiff.2 hz)])
    clear HR hiff hz HZc
    obtain ⟨zm, zins, zrs, zrj, zst, zmr, zft, zvs, zln⟩ := hz0
    rw [show decide (0 ≤ c.rs ∧ c.rs ≤ 255) = true from by rw [zrs]; decide] at HIA
    rw [show decide (0 ≤ c.rj ∧ c.rj ≤ 255) = true from by rw [zrj]; decide] at HIB
    rw [show decide (0 ≤ c.vs ∧ c.vs ≤ 255) = true from by rw [zvs]; decide] at HIV
    clear zm zins zrs zrj zst zmr zft zvs zln
    by_cases hup : okU c.ws c.wo c.it c.la c.ti = 0
    · rw [hup] at HUp
      obtain rfl : R = 0 := by rw [HE.out]; simp [errP, chkP, inB, hup]
      go_enter Try.func10, Try.ntmps10
      go_upto_region 2 with (go_at_call 20; refine (HF.out _).mono ?_; rintro e w1 ⟨rfl, b1⟩; replace K1 := K1.below b1 K1.lt; replace BX := thenB BX b1; clear b1 k0)
      have b9 : Below w1.heap.size w1 (w1.alloc (.cells #[.bool true, .bool true, .bool false, .bool false, .bool false, .bool false, .bool false, .bool false, .bool false, .bool false, .bool false] 53)) := (Below.refl _ _).alloc (Nat.le_refl _) _
      have K3 : Blk (w1.alloc (.cells #[.bool true, .bool true, .bool false, .bool false, .bool false, .bool false, .bool false, .bool false, .bool false, .bool false, .bool false] 53)) w1.heap.size 53 #[.bool true, .bool true, .bool false, .bool false, .bool false, .bool false, .bool false, .bool false, .bool false, .bool false, .bool false] := Blk.fresh w1 53 #[.bool true, .bool true, .bool false, .bool false, .bool false, .bool false, .bool false, .bool false, .bool false, .bool false, .bool false]
      have hk1 := K1.lt
      replace K1 := K1.below b9 K1.lt
      replace BX := thenB BX b9
      clear b9
      generalize w1.alloc (.cells #[.bool true, .bool true, .bool false, .bool false, .bool false, .bool false, .bool false, .bool false, .bool false, .bool false, .bool false] 53) = X0 at *
      obtain ⟨g3, e3⟩ : ∃ g, w1.heap.size = g := ⟨_, rfl⟩
      rw [e3] at K3 hk1
      try simp only [e3]
      clear e3
      have y0 := K3.cell 0
      go_upto_region 6 with (first | (refine wpList_load_row rfl 28 (.tmp 1) rfl w.heap.size rfl 28 _ (0, 0) _ K1 Try.underlying28 rfl HSZ ?_) | (go_at_call 21; refine (HRs.out _).mono ?_; rintro e w2 ⟨rfl, b2⟩; replace K1 := K1.below b2 K1.lt; replace K3 := K3.below b2 K3.lt; replace BX := thenB BX b2; clear b2))
      clear y0
      have k1 := (K1.cell 1).trans hC1
      have k2 := (K1.cell 2).trans hC2
      have k3 := (K1.cell 3).trans hC3
      have k4 := (K1.cell 4).trans hC4
      have k5 := (K1.cell 5).trans hC5
      have k6 := (K1.cell 6).trans hC6
      have k7 := (K1.cell 7).trans hC7
      have k8 := (K1.cell 8).trans hC8
      have k9 := (K1.cell 9).trans hC9
      have k10 := (K1.cell 10).trans hC10
      have k11 := (K1.cell 11).trans hC11
      have k12 := (K1.cell 12).trans hC12
      have k13 := (K1.cell 13).trans hC13
      have k14 := (K1.cell 14).trans hC14
      have y1 := K3.cell 1
      have y2 := K3.cell 2
      have y10 := K3.cell 10
      go_wp2_with (first | (go_at_call 22; refine (HUp.out _).mono ?_; rintro e w3 ⟨rfl, b3⟩; replace K1 := K1.below b3 K1.lt; replace K3 := K3.below b3 K3.lt; replace BX := thenB BX b3; replace k1 := (K1.cell 1).trans hC1; replace k2 := (K1.cell 2).trans hC2; replace k3 := (K1.cell 3).trans hC3; replace k4 := (K1.cell 4).trans hC4; replace k5 := (K1.cell 5).trans hC5; replace k6 := (K1.cell 6).trans hC6; replace k7 := (K1.cell 7).trans hC7; replace k8 := (K1.cell 8).trans hC8; replace k9 := (K1.cell 9).trans hC9; replace k10 := (K1.cell 10).trans hC10; replace k11 := (K1.cell 11).trans hC11; replace k12 := (K1.cell 12).trans hC12; replace k13 := (K1.cell 13).trans hC13; replace k14 := (K1.cell 14).trans hC14; replace y1 := K3.cell 1; replace y2 := K3.cell 2; replace y10 := K3.cell 10; clear b3) | (go_at_call_of 24 c.rs; refine (HIA.out _).mono ?_; rintro e w3 ⟨rfl, rfl⟩) | (go_at_call_of 24 c.rj; refine (HIB.out _).mono ?_; rintro e w3 ⟨rfl, rfl⟩) | (go_at_call_of 24 c.vs; refine (HIV.out _).mono ?_; rintro e w3 ⟨rfl, rfl⟩))
      go_ret
      exact ⟨rfl, BX⟩
    · have hz' : (okU c.ws c.wo c.it c.la c.ti != 0) = true := by simpa using hup
      obtain rfl : R = okU c.ws c.wo c.it c.la c.ti := by rw [HE.out]; simp [errP, chkP, hup]
      go_enter Try.func10, Try.ntmps10
      go_upto_region 2 with (go_at_call 20; refine (HF.out _).mono ?_; rintro e w1 ⟨rfl, b1⟩; replace K1 := K1.below b1 K1.lt; replace BX := thenB BX b1; clear b1 k0)
      have b9 : Below w1.heap.size w1 (w1.alloc (.cells #[.bool true, .bool true, .bool false, .bool false, .bool false, .bool false, .bool false, .bool false, .bool false, .bool false, .bool false] 53)) := (Below.refl _ _).alloc (Nat.le_refl _) _
      have K3 : Blk (w1.alloc (.cells #[.bool true, .bool true, .bool false, .bool false, .bool false, .bool false, .bool false, .bool false, .bool false, .bool false, .bool false] 53)) w1.heap.size 53 #[.bool true, .bool true, .bool false, .bool false, .bool false, .bool false, .bool false, .bool false, .bool false, .bool false, .bool false] := Blk.fresh w1 53 #[.bool true, .bool true, .bool false, .bool false, .bool false, .bool false, .bool false, .bool false, .bool false, .bool false, .bool false]
      have hk1 := K1.lt
      replace K1 := K1.below b9 K1.lt
      replace BX := thenB BX b9
      clear b9
      generalize w1.alloc (.cells #[.bool true, .bool true, .bool false, .bool false, .bool false, .bool false, .bool false, .bool false, .bool false, .bool false, .bool false] 53) = X0 at *
      obtain ⟨g3, e3⟩ : ∃ g, w1.heap.size = g := ⟨_, rfl⟩
      rw [e3] at K3 hk1
      try simp only [e3]
      clear e3
      have y0 := K3.cell 0
      go_upto_region 6 with (first | (refine wpList_load_row rfl 28 (.tmp 1) rfl w.heap.size rfl 28 _ (0, 0) _ K1 Try.underlying28 rfl HSZ ?_) | (go_at_call 21; refine (HRs.out _).mono ?_; rintro e w2 ⟨rfl, b2⟩; replace K1 := K1.below b2 K1.lt; replace K3 := K3.below b2 K3.lt; replace BX := thenB BX b2; clear b2))
      clear y0
      have k1 := (K1.cell 1).trans hC1
      have k2 := (K1.cell 2).trans hC2
      have k3 := (K1.cell 3).trans hC3
      have k4 := (K1.cell 4).trans hC4
      have k5 := (K1.cell 5).trans hC5
      have k6 := (K1.cell 6).trans hC6
      have k7 := (K1.cell 7).trans hC7
      have k8 := (K1.cell 8).trans hC8
      have k9 := (K1.cell 9).trans hC9
      have k10 := (K1.cell 10).trans hC10
      have k11 := (K1.cell 11).trans hC11
      have k12 := (K1.cell 12).trans hC12
      have k13 := (K1.cell 13).trans hC13
      have k14 := (K1.cell 14).trans hC14
      have y1 := K3.cell 1
      have y2 := K3.cell 2
      have y10 := K3.cell 10
      go_wp2_with (first | (go_at_call 22; refine (HUp.out _).mono ?_; rintro e w3 ⟨rfl, b3⟩; replace K1 := K1.below b3 K1.lt; replace K3 := K3.below b3 K3.lt; replace BX := thenB BX b3; replace k1 := (K1.cell 1).trans hC1; replace k2 := (K1.cell 2).trans hC2; replace k3 := (K1.cell 3).trans hC3; replace k4 := (K1.cell 4).trans hC4; replace k5 := (K1.cell 5).trans hC5; replace k6 := (K1.cell 6).trans hC6; replace k7 := (K1.cell 7).trans hC7; replace k8 := (K1.cell 8).trans hC8; replace k9 := (K1.cell 9).trans hC9; replace k10 := (K1.cell 10).trans hC10; replace k11 := (K1.cell 11).trans hC11; replace k12 := (K1.cell 12).trans hC12; replace k13 := (K1.cell 13).trans hC13; replace k14 := (K1.cell 14).trans hC14; replace y1 := K3.cell 1; replace y2 := K3.cell 2; replace y10 := K3.cell 10; clear b3) | (go_at_call_of 24 c.rs; refine (HIA.out _).mono ?_; rintro e w3 ⟨rfl, rfl⟩) | (go_at_call_of 24 c.rj; refine (HIB.out _).mono ?_; rintro e w3 ⟨rfl, rfl⟩) | (go_at_call_of 24 c.vs; refine (HIV.out _).mono ?_; rintro e w3 ⟨rfl, rfl⟩))
      go_ret
      exact ⟨rfl, BX⟩
  · rw [decide_eq_false hz] at q1
    have HE : Hid (R = 1) := Lib.hid (by rw [HR.out, if_neg (fun h => hz (hiff.1 h))])
    clear HR hiff hz HZc
    obtain rfl : R = 1 := by exact HE.out
    go_enter Try.func10, Try.ntmps10
    go_upto_region 2 with (go_at_call 20; refine (HF.out _).mono ?_; rintro e w1 ⟨rfl, b1⟩; replace K1 := K1.below b1 K1.lt; replace BX := thenB BX b1; clear b1 k0)
    have b9 : Below w1.heap.size w1 (w1.alloc (.cells #[.bool true, .bool true, .bool false, .bool false, .bool false, .bool false, .bool false, .bool false, .bool false, .bool false, .bool false] 53)) := (Below.refl _ _).alloc (Nat.le_refl _) _
    have K3 : Blk (w1.alloc (.cells #[.bool true, .bool true, .bool false, .bool false, .bool false, .bool false, .bool false, .bool false, .bool false, .bool false, .bool false] 53)) w1.heap.size 53 #[.bool true, .bool true, .bool false, .bool false, .bool false, .bool false, .bool false, .bool false, .bool false, .bool false, .bool false] := Blk.fresh w1 53 #[.bool true, .bool true, .bool false, .bool false, .bool false, .bool false, .bool false, .bool false, .bool false, .bool false, .bool false]
    have hk1 := K1.lt
    replace K1 := K1.below b9 K1.lt
    replace BX := thenB BX b9
    clear b9
    generalize w1.alloc (.cells #[.bool true, .bool true, .bool false, .bool false, .bool false, .bool false, .bool false, .bool false, .bool false, .bool false, .bool false] 53) = X0 at *
    obtain ⟨g3, e3⟩ : ∃ g, w1.heap.size = g := ⟨_, rfl⟩
    rw [e3] at K3 hk1
    try simp only [e3]
    clear e3
    have y0 := K3.cell 0
    clear y0
    have y0 := K3.cell 0
    go_wp2_with (first | (refine wpList_load_row rfl 28 (.tmp 1) rfl w.heap.size rfl 28 _ (0, 0) _ K1 Try.underlying28 rfl HSZ ?_) | (go_at_call 21; refine (HRs.out _).mono ?_; rintro e w2 ⟨rfl, b2⟩; replace K1 := K1.below b2 K1.lt; replace K3 := K3.below b2 K3.lt; replace BX := thenB BX b2; clear b2))
    go_ret
    exact ⟨rfl, BX⟩
set_option maxRecDepth 100000 in
set_option maxHeartbeats 4000000 in
theorem rchk_ln (c : Ct) (w : World) (hg : GoodC c) (hp : ptsK c.k = some [.ln]) : Calls Try.prog 10 #[.agg (encC c)] w fun e w' => e = .returned (.int .i64 (chkC c)) ∧ Below w.heap.size w w' := by
  have BX : Below w.heap.size w (w.alloc (.cells (encC c) 28)) := (Below.refl _ _).alloc (Nat.le_refl _) _
  have K1 : Blk (w.alloc (.cells (encC c) 28)) w.heap.size 28 (encC c) := Blk.fresh w 28 (encC c)
  have HSZ : (Try.prog.info? 28).map (·.size) = some (encC c).size := by kernel_rfl
  have HF : Hid (∀ w, Calls Try.prog 20 #[.int .i64 c.k] w fun e w' => e = .returned (.agg #[.bool true, .bool false, .bool false, .bool false, .bool false, .bool false, .bool false, .bool false, .bool false, .bool false, .bool true]) ∧ Below w.heap.size w w') := Lib.hid fun w => by have := fields_k c.k w; rw [hp] at this; exact this
  have HRs : Hid (∀ w, Calls Try.prog 21 #[.agg (encC c)] w fun e w' => e = .returned (.agg (encC ⟨0, c.ws, c.wo, c.it, c.la, c.ti, c.m, c.ins, c.rs, c.rj, c.st, c.mr, c.ft, c.vs, 0⟩)) ∧ Below w.heap.size w w') := Lib.hid fun w => rest_ln c w hp
  have q1 : ∀ w, (binOp .neq 28 (.agg (encC ⟨0, c.ws, c.wo, c.it, c.la, c.ti, c.m, c.ins, c.rs, c.rj, c.st, c.mr, c.ft, c.vs, 0⟩)) (.agg #[.int .i64 0, .int .i64 0, .int .i64 0, .int .i64 0, .int .i64 0, .int .i64 0, .int .u64 0, .int .u16 0, .int .i64 0, .int .i64 0, .int .u64 0, .int .u64 0, .int .u64 0, .int .i64 0, .int .i64 0])).run Try.prog w = .ok (.bool (!decide ((⟨0, c.ws, c.wo, c.it, c.la, c.ti, c.m, c.ins, c.rs, c.rj, c.st, c.mr, c.ft, c.vs, 0⟩ : Ct) = zeroC))) w := ctl_neq _ zeroC
  have q2 : ∀ w x y, (eqGuard .neq 28 x y (.agg (encC ⟨0, c.ws, c.wo, c.it, c.la, c.ti, c.m, c.ins, c.rs, c.rj, c.st, c.mr, c.ft, c.vs, 0⟩)) (.agg #[.int .i64 0, .int .i64 0, .int .i64 0, .int .i64 0, .int .i64 0, .int .i64 0, .int .u64 0, .int .u16 0, .int .i64 0, .int .i64 0, .int .u64 0, .int .u64 0, .int .u64 0, .int .i64 0, .int .i64 0])).run Try.prog w = .ok () w := ctl_ng _ zeroC
  obtain ⟨R, hR⟩ : ∃ R, chkC c = R := ⟨_, rfl⟩
  rw [hR]
  have HR : Hid (R = if c = usedC c [.ln] then errP c [.ln] else 1) := Lib.hid (by rw [← hR]; unfold chkC; rw [hp])
  have hiff := used_ln c hg
  clear hR hp hg
  have HIA := Lib.hid fun w => isbyte_any c.rs w
  have HIB := Lib.hid fun w => isbyte_any c.rj w
  have HIV := Lib.hid fun w => isbyte_any c.vs w
  have HZc : Hid ((⟨0, c.ws, c.wo, c.it, c.la, c.ti, c.m, c.ins, c.rs, c.rj, c.st, c.mr, c.ft, c.vs, 0⟩ : Ct) = zeroC → c.ws = 0 ∧ c.wo = 0 ∧ c.it = 0 ∧ c.la = 0 ∧ c.ti = 0 ∧ c.m = 0 ∧ c.ins = 0 ∧ c.rs = 0 ∧ c.rj = 0 ∧ c.st = 0 ∧ c.mr = 0 ∧ c.ft = 0 ∧ c.vs = 0) := Lib.hid fun h => by
    simp only [zeroC, Ct.mk.injEq, true_and, and_true] at h
    exact h
  obtain ⟨Z, hZ⟩ : ∃ Z, encC ⟨0, c.ws, c.wo, c.it, c.la, c.ti, c.m, c.ins, c.rs, c.rj, c.st, c.mr, c.ft, c.vs, 0⟩ = Z := ⟨_, rfl⟩
  rw [hZ] at HRs q1 q2
  clear hZ
  have hC1 : (encC c)[1]? = some (.int .i64 c.ws) := rfl
  have hC2 : (encC c)[2]? = some (.int .i64 c.wo) := rfl
  have hC3 : (encC c)[3]? = some (.int .i64 c.it) := rfl
  have hC4 : (encC c)[4]? = some (.int .i64 c.la) := rfl
  have hC5 : (encC c)[5]? = some (.int .i64 c.ti) := rfl
  have hC6 : (encC c)[6]? = some (.int .u64 (c.m : Int)) := rfl
  have hC7 : (encC c)[7]? = some (.int .u16 c.ins) := rfl
  have hC8 : (encC c)[8]? = some (.int .i64 c.rs) := rfl
  have hC9 : (encC c)[9]? = some (.int .i64 c.rj) := rfl
  have hC10 : (encC c)[10]? = some (.int .u64 c.st) := rfl
  have hC11 : (encC c)[11]? = some (.int .u64 c.mr) := rfl
  have hC12 : (encC c)[12]? = some (.int .u64 c.ft) := rfl
  have hC13 : (encC c)[13]? = some (.int .i64 c.vs) := rfl
  have hC14 : (encC c)[14]? = some (.int .i64 c.ln) := rfl
  have hC0 : (encC c)[0]? = some (.int .i64 c.k) := rfl
  obtain ⟨C, hC⟩ : ∃ C, encC c = C := ⟨_, rfl⟩
  rw [hC] at BX K1 HSZ HRs hC0 hC1 hC2 hC3 hC4 hC5 hC6 hC7 hC8 hC9 hC10 hC11 hC12 hC13 hC14 ⊢
  clear hC
  have k0 := (K1.cell 0).trans hC0
  by_cases hz : (⟨0, c.ws, c.wo, c.it, c.la, c.ti, c.m, c.ins, c.rs, c.rj, c.st, c.mr, c.ft, c.vs, 0⟩ : Ct) = zeroC
  · rw [decide_eq_true hz] at q1
    have hz0 := HZc.out hz
    have HE : Hid (R = errP c [.ln]) := Lib.hid (by rw [HR.out, if_pos (hiff.2 hz)])
    clear HR hiff hz HZc
    obtain ⟨zws, zwo, zit, zla, zti, zm, zins, zrs, zrj, zst, zmr, zft, zvs⟩ := hz0
    rw [show decide (0 ≤ c.rs ∧ c.rs ≤ 255) = true from by rw [zrs]; decide] at HIA
    rw [show decide (0 ≤ c.rj ∧ c.rj ≤ 255) = true from by rw [zrj]; decide] at HIB
    rw [show decide (0 ≤ c.vs ∧ c.vs ≤ 255) = true from by rw [zvs]; decide] at HIV
    clear zws zwo zit zla zti zm zins zrs zrj zst zmr zft zvs
    by_cases hlo : c.ln < 27
    · skip
      obtain rfl : R = 5 := by rw [HE.out]; simp [errP, chkP, inB, show ¬ (27 ≤ c.ln ∧ c.ln ≤ 251) from by omega]
      go_enter Try.func10, Try.ntmps10
      go_upto_region 2 with (go_at_call 20; refine (HF.out _).mono ?_; rintro e w1 ⟨rfl, b1⟩; replace K1 := K1.below b1 K1.lt; replace BX := thenB BX b1; clear b1 k0)
      have b9 : Below w1.heap.size w1 (w1.alloc (.cells #[.bool true, .bool false, .bool false, .bool false, .bool false, .bool false, .bool false, .bool false, .bool false, .bool false, .bool true] 53)) := (Below.refl _ _).alloc (Nat.le_refl _) _
      have K3 : Blk (w1.alloc (.cells #[.bool true, .bool false, .bool false, .bool false, .bool false, .bool false, .bool false, .bool false, .bool false, .bool false, .bool true] 53)) w1.heap.size 53 #[.bool true, .bool false, .bool false, .bool false, .bool false, .bool false, .bool false, .bool false, .bool false, .bool false, .bool true] := Blk.fresh w1 53 #[.bool true, .bool false, .bool false, .bool false, .bool false, .bool false, .bool false, .bool false, .bool false, .bool false, .bool true]
      have hk1 := K1.lt
      replace K1 := K1.below b9 K1.lt
      replace BX := thenB BX b9
      clear b9
      generalize w1.alloc (.cells #[.bool true, .bool false, .bool false, .bool false, .bool false, .bool false, .bool false, .bool false, .bool false, .bool false, .bool true] 53) = X0 at *
      obtain ⟨g3, e3⟩ : ∃ g, w1.heap.size = g := ⟨_, rfl⟩
      rw [e3] at K3 hk1
      try simp only [e3]
      clear e3
      have y0 := K3.cell 0
      go_upto_region 6 with (first | (refine wpList_load_row rfl 28 (.tmp 1) rfl w.heap.size rfl 28 _ (0, 0) _ K1 Try.underlying28 rfl HSZ ?_) | (go_at_call 21; refine (HRs.out _).mono ?_; rintro e w2 ⟨rfl, b2⟩; replace K1 := K1.below b2 K1.lt; replace K3 := K3.below b2 K3.lt; replace BX := thenB BX b2; clear b2))
      clear y0
      have k1 := (K1.cell 1).trans hC1
      have k2 := (K1.cell 2).trans hC2
      have k3 := (K1.cell 3).trans hC3
      have k4 := (K1.cell 4).trans hC4
      have k5 := (K1.cell 5).trans hC5
      have k6 := (K1.cell 6).trans hC6
      have k7 := (K1.cell 7).trans hC7
      have k8 := (K1.cell 8).trans hC8
      have k9 := (K1.cell 9).trans hC9
      have k10 := (K1.cell 10).trans hC10
      have k11 := (K1.cell 11).trans hC11
      have k12 := (K1.cell 12).trans hC12
      have k13 := (K1.cell 13).trans hC13
      have k14 := (K1.cell 14).trans hC14
      have y1 := K3.cell 1
      have y2 := K3.cell 2
      have y10 := K3.cell 10
      go_wp2_with (first | (go_at_call_of 24 c.rs; refine (HIA.out _).mono ?_; rintro e w3 ⟨rfl, rfl⟩) | (go_at_call_of 24 c.rj; refine (HIB.out _).mono ?_; rintro e w3 ⟨rfl, rfl⟩) | (go_at_call_of 24 c.vs; refine (HIV.out _).mono ?_; rintro e w3 ⟨rfl, rfl⟩))
      go_ret
      exact ⟨rfl, BX⟩
    · by_cases hhi : 251 < c.ln
      · skip
        obtain rfl : R = 5 := by rw [HE.out]; simp [errP, chkP, inB, show ¬ (27 ≤ c.ln ∧ c.ln ≤ 251) from by omega]
        go_enter Try.func10, Try.ntmps10
        go_upto_region 2 with (go_at_call 20; refine (HF.out _).mono ?_; rintro e w1 ⟨rfl, b1⟩; replace K1 := K1.below b1 K1.lt; replace BX := thenB BX b1; clear b1 k0)
        have b9 : Below w1.heap.size w1 (w1.alloc (.cells #[.bool true, .bool false, .bool false, .bool false, .bool false, .bool false, .bool false, .bool false, .bool false, .bool false, .bool true] 53)) := (Below.refl _ _).alloc (Nat.le_refl _) _
        have K3 : Blk (w1.alloc (.cells #[.bool true, .bool false, .bool false, .bool false, .bool false, .bool false, .bool false, .bool false, .bool false, .bool false, .bool true] 53)) w1.heap.size 53 #[.bool true, .bool false, .bool false, .bool false, .bool false, .bool false, .bool false, .bool false, .bool false, .bool false, .bool true] := Blk.fresh w1 53 #[.bool true, .bool false, .bool false, .bool false, .bool false, .bool false, .bool false, .bool false, .bool false, .bool false, .bool true]
        have hk1 := K1.lt
        replace K1 := K1.below b9 K1.lt
        replace BX := thenB BX b9
        clear b9
        generalize w1.alloc (.cells #[.bool true, .bool false, .bool false, .bool false, .bool false, .bool false, .bool false, .bool false, .bool false, .bool false, .bool true] 53) = X0 at *
        obtain ⟨g3, e3⟩ : ∃ g, w1.heap.size = g := ⟨_, rfl⟩
        rw [e3] at K3 hk1
        try simp only [e3]
        clear e3
        have y0 := K3.cell 0
        go_upto_region 6 with (first | (refine wpList_load_row rfl 28 (.tmp 1) rfl w.heap.size rfl 28 _ (0, 0) _ K1 Try.underlying28 rfl HSZ ?_) | (go_at_call 21; refine (HRs.out _).mono ?_; rintro e w2 ⟨rfl, b2⟩; replace K1 := K1.below b2 K1.lt; replace K3 := K3.below b2 K3.lt; replace BX := thenB BX b2; clear b2))
        clear y0
        have k1 := (K1.cell 1).trans hC1
        have k2 := (K1.cell 2).trans hC2
        have k3 := (K1.cell 3).trans hC3
        have k4 := (K1.cell 4).trans hC4
        have k5 := (K1.cell 5).trans hC5
        have k6 := (K1.cell 6).trans hC6
        have k7 := (K1.cell 7).trans hC7
        have k8 := (K1.cell 8).trans hC8
        have k9 := (K1.cell 9).trans hC9
        have k10 := (K1.cell 10).trans hC10
        have k11 := (K1.cell 11).trans hC11
        have k12 := (K1.cell 12).trans hC12
        have k13 := (K1.cell 13).trans hC13
        have k14 := (K1.cell 14).trans hC14
        have y1 := K3.cell 1
        have y2 := K3.cell 2
        have y10 := K3.cell 10
        go_wp2_with (first | (go_at_call_of 24 c.rs; refine (HIA.out _).mono ?_; rintro e w3 ⟨rfl, rfl⟩) | (go_at_call_of 24 c.rj; refine (HIB.out _).mono ?_; rintro e w3 ⟨rfl, rfl⟩) | (go_at_call_of 24 c.vs; refine (HIV.out _).mono ?_; rintro e w3 ⟨rfl, rfl⟩))
        go_ret
        exact ⟨rfl, BX⟩
      · skip
        obtain rfl : R = 0 := by rw [HE.out]; simp [errP, chkP, inB, show (27 ≤ c.ln ∧ c.ln ≤ 251) from by omega]
        go_enter Try.func10, Try.ntmps10
        go_upto_region 2 with (go_at_call 20; refine (HF.out _).mono ?_; rintro e w1 ⟨rfl, b1⟩; replace K1 := K1.below b1 K1.lt; replace BX := thenB BX b1; clear b1 k0)
        have b9 : Below w1.heap.size w1 (w1.alloc (.cells #[.bool true, .bool false, .bool false, .bool false, .bool false, .bool false, .bool false, .bool false, .bool false, .bool false, .bool true] 53)) := (Below.refl _ _).alloc (Nat.le_refl _) _
        have K3 : Blk (w1.alloc (.cells #[.bool true, .bool false, .bool false, .bool false, .bool false, .bool false, .bool false, .bool false, .bool false, .bool false, .bool true] 53)) w1.heap.size 53 #[.bool true, .bool false, .bool false, .bool false, .bool false, .bool false, .bool false, .bool false, .bool false, .bool false, .bool true] := Blk.fresh w1 53 #[.bool true, .bool false, .bool false, .bool false, .bool false, .bool false, .bool false, .bool false, .bool false, .bool false, .bool true]
        have hk1 := K1.lt
        replace K1 := K1.below b9 K1.lt
        replace BX := thenB BX b9
        clear b9
        generalize w1.alloc (.cells #[.bool true, .bool false, .bool false, .bool false, .bool false, .bool false, .bool false, .bool false, .bool false, .bool false, .bool true] 53) = X0 at *
        obtain ⟨g3, e3⟩ : ∃ g, w1.heap.size = g := ⟨_, rfl⟩
        rw [e3] at K3 hk1
        try simp only [e3]
        clear e3
        have y0 := K3.cell 0
        go_upto_region 6 with (first | (refine wpList_load_row rfl 28 (.tmp 1) rfl w.heap.size rfl 28 _ (0, 0) _ K1 Try.underlying28 rfl HSZ ?_) | (go_at_call 21; refine (HRs.out _).mono ?_; rintro e w2 ⟨rfl, b2⟩; replace K1 := K1.below b2 K1.lt; replace K3 := K3.below b2 K3.lt; replace BX := thenB BX b2; clear b2))
        clear y0
        have k1 := (K1.cell 1).trans hC1
        have k2 := (K1.cell 2).trans hC2
        have k3 := (K1.cell 3).trans hC3
        have k4 := (K1.cell 4).trans hC4
        have k5 := (K1.cell 5).trans hC5
        have k6 := (K1.cell 6).trans hC6
        have k7 := (K1.cell 7).trans hC7
        have k8 := (K1.cell 8).trans hC8
        have k9 := (K1.cell 9).trans hC9
        have k10 := (K1.cell 10).trans hC10
        have k11 := (K1.cell 11).trans hC11
        have k12 := (K1.cell 12).trans hC12
        have k13 := (K1.cell 13).trans hC13
        have k14 := (K1.cell 14).trans hC14
        have y1 := K3.cell 1
        have y2 := K3.cell 2
        have y10 := K3.cell 10
        go_wp2_with (first | (go_at_call_of 24 c.rs; refine (HIA.out _).mono ?_; rintro e w3 ⟨rfl, rfl⟩) | (go_at_call_of 24 c.rj; refine (HIB.out _).mono ?_; rintro e w3 ⟨rfl, rfl⟩) | (go_at_call_of 24 c.vs; refine (HIV.out _).mono ?_; rintro e w3 ⟨rfl, rfl⟩))
        go_ret
        exact ⟨rfl, BX⟩
  · rw [decide_eq_false hz] at q1
    have HE : Hid (R = 1) := Lib.hid (by rw [HR.out, if_neg (fun h => hz (hiff.1 h))])
    clear HR hiff hz HZc
    obtain rfl : R = 1 := by exact HE.out
    go_enter Try.func10, Try.ntmps10
    go_upto_region 2 with (go_at_call 20; refine (HF.out _).mono ?_; rintro e w1 ⟨rfl, b1⟩; replace K1 := K1.below b1 K1.lt; replace BX := thenB BX b1; clear b1 k0)
    have b9 : Below w1.heap.size w1 (w1.alloc (.cells #[.bool true, .bool false, .bool false, .bool false, .bool false, .bool false, .bool false, .bool false, .bool false, .bool false, .bool true] 53)) := (Below.refl _ _).alloc (Nat.le_refl _) _
    have K3 : Blk (w1.alloc (.cells #[.bool true, .bool false, .bool false, .bool false, .bool false, .bool false, .bool false, .bool false, .bool false, .bool false, .bool true] 53)) w1.heap.size 53 #[.bool true, .bool false, .bool false, .bool false, .bool false, .bool false, .bool false, .bool false, .bool false, .bool false, .bool true] := Blk.fresh w1 53 #[.bool true, .bool false, .bool false, .bool false, .bool false, .bool false, .bool false, .bool false, .bool false, .bool false, .bool true]
    have hk1 := K1.lt
    replace K1 := K1.below b9 K1.lt
    replace BX := thenB BX b9
    clear b9
    generalize w1.alloc (.cells #[.bool true, .bool false, .bool false, .bool false, .bool false, .bool false, .bool false, .bool false, .bool false, .bool false, .bool true] 53) = X0 at *
    obtain ⟨g3, e3⟩ : ∃ g, w1.heap.size = g := ⟨_, rfl⟩
    rw [e3] at K3 hk1
    try simp only [e3]
    clear e3
    have y0 := K3.cell 0
    clear y0
    have y0 := K3.cell 0
    go_wp2_with (first | (refine wpList_load_row rfl 28 (.tmp 1) rfl w.heap.size rfl 28 _ (0, 0) _ K1 Try.underlying28 rfl HSZ ?_) | (go_at_call 21; refine (HRs.out _).mono ?_; rintro e w2 ⟨rfl, b2⟩; replace K1 := K1.below b2 K1.lt; replace K3 := K3.below b2 K3.lt; replace BX := thenB BX b2; clear b2))
    go_ret
    exact ⟨rfl, BX⟩
set_option maxRecDepth 100000 in
set_option maxHeartbeats 4000000 in
theorem rchk_none (c : Ct) (w : World) (hg : GoodC c) (hp : ptsK c.k = none) : Calls Try.prog 10 #[.agg (encC c)] w fun e w' => e = .returned (.int .i64 (chkC c)) ∧ Below w.heap.size w w' := by
  have BX : Below w.heap.size w (w.alloc (.cells (encC c) 28)) := (Below.refl _ _).alloc (Nat.le_refl _) _
  have K1 : Blk (w.alloc (.cells (encC c) 28)) w.heap.size 28 (encC c) := Blk.fresh w 28 (encC c)
  have HF : Hid (∀ w, Calls Try.prog 20 #[.int .i64 c.k] w fun e w' => e = .returned (.agg #[.bool false, .bool false, .bool false, .bool false, .bool false, .bool false, .bool false, .bool false, .bool false, .bool false, .bool false]) ∧ Below w.heap.size w w') := Lib.hid fun w => by have := fields_k c.k w; rw [hp] at this; exact this
  have hR : chkC c = 12 := by unfold chkC; rw [hp]
  rw [hR]
  have k0 : (w.alloc (.cells (encC c) 28)).cell? ⟨w.heap.size, 0, none⟩ = some (.int .i64 c.k) := K1.cell 0
  generalize encC c = C at *
  clear hR hp hg
  go_enter Try.func10, Try.ntmps10
  go_upto_region 2 with (go_at_call 20; refine (HF.out _).mono ?_; rintro e w1 ⟨rfl, b1⟩; replace BX := thenB BX b1; clear b1 k0 K1)
  have K3 : Blk (w1.alloc (.cells #[.bool false, .bool false, .bool false, .bool false, .bool false, .bool false, .bool false, .bool false, .bool false, .bool false, .bool false] 53)) w1.heap.size 53 #[.bool false, .bool false, .bool false, .bool false, .bool false, .bool false, .bool false, .bool false, .bool false, .bool false, .bool false] := Blk.fresh w1 53 #[.bool false, .bool false, .bool false, .bool false, .bool false, .bool false, .bool false, .bool false, .bool false, .bool false, .bool false]
  replace BX := BX.alloc BX.size (.cells #[.bool false, .bool false, .bool false, .bool false, .bool false, .bool false, .bool false, .bool false, .bool false, .bool false, .bool false] 53)
  have y0 := K3.cell 0
  go_wp2_with fail
  go_ret
  exact ⟨rfl, BX⟩
theorem rchk_any (c : Ct) (w : World) (hg : GoodC c) : Calls Try.prog 10 #[.agg (encC c)] w fun e w' => e = .returned (.int .i64 (chkC c)) ∧ Below w.heap.size w w' := by
  cases hp : ptsK c.k with
  | none => exact rchk_none c w hg hp
  | some ps =>
    obtain ⟨i, hi⟩ := ptsK_ins hp
    unfold insT at hi
    simp only [List.mem_cons, Prod.mk.injEq, List.mem_nil_iff, or_false] at hi
    rcases hi with ⟨_, _, rfl⟩ | ⟨_, _, rfl⟩ | ⟨_, _, rfl⟩ | ⟨_, _, rfl⟩ | ⟨_, _, rfl⟩ | ⟨_, _, rfl⟩ | ⟨_, _, rfl⟩ | ⟨_, _, rfl⟩ | ⟨_, _, rfl⟩ | ⟨_, _, rfl⟩ | ⟨_, _, rfl⟩ | ⟨_, _, rfl⟩ | ⟨_, _, rfl⟩ | ⟨_, _, rfl⟩ | ⟨_, _, rfl⟩ | ⟨_, _, rfl⟩ | ⟨_, _, rfl⟩
    · exact rchk_up_im c w hg hp
    · exact rchk_ch_im c w hg hp
    · exact rchk_rs c w hg hp
    · exact rchk_sa_mk c w hg hp
    · exact rchk_sa c w hg hp
    · exact rchk_no c w hg hp
    · exact rchk_no c w hg hp
    · exact rchk_rj c w hg hp
    · exact rchk_fe c w hg hp
    · exact rchk_fe c w hg hp
    · exact rchk_vs c w hg hp
    · exact rchk_rs_rj c w hg hp
    · exact rchk_up c w hg hp
    · exact rchk_no c w hg hp
    · exact rchk_no c w hg hp
    · exact rchk_ln c w hg hp
    · exact rchk_ln c w hg hp
end Go.Proofs.Ytiopeghbpnjcgaa.Cp

/- Control PDUs: Check is that of the document: walks. -/
set_option linter.unusedVariables false
set_option linter.unusedSimpArgs false
namespace Go.Proofs.Ytiopeghbpnjcgaa.Cp
open Go.RowKit Mem Oct Rw Av
open Base (thenB)
set_option maxRecDepth 100000 in
set_option maxHeartbeats 4000000 in
theorem checks_any (c : Ct) (w : World) (hg : GoodC c) : Calls Try.prog 3 #[.agg (encC c)] w fun e w' => e = .returned (.bool true) ∧ Below w.heap.size w w' := by
  have HX := Lib.hid example_any
  have HC : Hid (∀ w, Calls Try.prog 9 #[.agg #[.int .i64 c.k, .int .i64 c.ws, .int .i64 c.wo, .int .i64 c.it, .int .i64 c.la, .int .i64 c.ti, .int .u64 (c.m : Int), .int .u16 c.ins, .int .i64 c.rs, .int .i64 c.rj, .int .u64 c.st, .int .u64 c.mr, .int .u64 c.ft, .int .i64 c.vs, .int .i64 c.ln]] w fun e w' => e = .returned (.int .i64 (chkC c)) ∧ Below w.heap.size w w') := Lib.hid fun w => check_any c w hg
  have HD : Hid (∀ w, Calls Try.prog 10 #[.agg #[.int .i64 c.k, .int .i64 c.ws, .int .i64 c.wo, .int .i64 c.it, .int .i64 c.la, .int .i64 c.ti, .int .u64 (c.m : Int), .int .u16 c.ins, .int .i64 c.rs, .int .i64 c.rj, .int .u64 c.st, .int .u64 c.mr, .int .u64 c.ft, .int .i64 c.vs, .int .i64 c.ln]] w fun e w' => e = .returned (.int .i64 (chkC c)) ∧ Below w.heap.size w w') := Lib.hid fun w => rchk_any c w hg
  generalize chkC c = R at *
  have e1 : (R == R) = true := by simp
  show Calls _ _ #[.agg #[.int .i64 c.k, .int .i64 c.ws, .int .i64 c.wo, .int .i64 c.it, .int .i64 c.la, .int .i64 c.ti, .int .u64 (c.m : Int), .int .u16 c.ins, .int .i64 c.rs, .int .i64 c.rj, .int .u64 c.st, .int .u64 c.mr, .int .u64 c.ft, .int .i64 c.vs, .int .i64 c.ln]] _ _
  have BX : Below w.heap.size w (w.alloc (.cells #[.int .i64 c.k, .int .i64 c.ws, .int .i64 c.wo, .int .i64 c.it, .int .i64 c.la, .int .i64 c.ti, .int .u64 (c.m : Int), .int .u16 c.ins, .int .i64 c.rs, .int .i64 c.rj, .int .u64 c.st, .int .u64 c.mr, .int .u64 c.ft, .int .i64 c.vs, .int .i64 c.ln] 28)) := (Below.refl _ _).alloc (Nat.le_refl _) _
  have K1 : Blk (w.alloc (.cells #[.int .i64 c.k, .int .i64 c.ws, .int .i64 c.wo, .int .i64 c.it, .int .i64 c.la, .int .i64 c.ti, .int .u64 (c.m : Int), .int .u16 c.ins, .int .i64 c.rs, .int .i64 c.rj, .int .u64 c.st, .int .u64 c.mr, .int .u64 c.ft, .int .i64 c.vs, .int .i64 c.ln] 28)) w.heap.size 28 #[.int .i64 c.k, .int .i64 c.ws, .int .i64 c.wo, .int .i64 c.it, .int .i64 c.la, .int .i64 c.ti, .int .u64 (c.m : Int), .int .u16 c.ins, .int .i64 c.rs, .int .i64 c.rj, .int .u64 c.st, .int .u64 c.mr, .int .u64 c.ft, .int .i64 c.vs, .int .i64 c.ln] := Blk.fresh w 28 _
  clear hg
  go_enter Try.func3, Try.ntmps3
  go_upto_region 1 with (fail)
  generalize w.alloc (.cells #[.int .i64 c.k, .int .i64 c.ws, .int .i64 c.wo, .int .i64 c.it, .int .i64 c.la, .int .i64 c.ti, .int .u64 (c.m : Int), .int .u16 c.ins, .int .i64 c.rs, .int .i64 c.rj, .int .u64 c.st, .int .u64 c.mr, .int .u64 c.ft, .int .i64 c.vs, .int .i64 c.ln] 28) = W0 at *
  have K1' : Blk W0.drew (w.heap.size) 28 #[.int .i64 c.k, .int .i64 c.ws, .int .i64 c.wo, .int .i64 c.it, .int .i64 c.la, .int .i64 c.ti, .int .u64 (c.m : Int), .int .u16 c.ins, .int .i64 c.rs, .int .i64 c.rj, .int .u64 c.st, .int .u64 c.mr, .int .u64 c.ft, .int .i64 c.vs, .int .i64 c.ln] := Mem.Blk.drew K1
  refine wp_region_held_drew (S := (fun w' => Blk w' (w.heap.size) 28 #[.int .i64 c.k, .int .i64 c.ws, .int .i64 c.wo, .int .i64 c.it, .int .i64 c.la, .int .i64 c.ti, .int .u64 (c.m : Int), .int .u16 c.ins, .int .i64 c.rs, .int .i64 c.rj, .int .u64 c.st, .int .u64 c.mr, .int .u64 c.ft, .int .i64 c.vs, .int .i64 c.ln])) (by kernel_rfl) ?_ (fun hHeld => ?_)
  · exact K1'
  replace K1 := K1'
  clear K1'
  replace BX : Below w.heap.size w W0.drew := BX.drew
  generalize W0.drew = X0 at *
  refine wpAnyH_take (i := 0) (v := .agg #[.int .i64 c.k, .int .i64 c.ws, .int .i64 c.wo, .int .i64 c.it, .int .i64 c.la, .int .i64 c.ti, .int .u64 (c.m : Int), .int .u16 c.ins, .int .i64 c.rs, .int .i64 c.rj, .int .u64 c.st, .int .u64 c.mr, .int .u64 c.ft, .int .i64 c.vs, .int .i64 c.ln]) rfl (by kernel_rfl) (by kernel_rfl) (by kernel_rfl) (fun _ _ _ h => h) (Av.yields_part (by first | rfl | go_simp) _ _ rfl (w.heap.size) 0 rfl #[.int .i64 c.k, .int .i64 c.ws, .int .i64 c.wo, .int .i64 c.it, .int .i64 c.la, .int .i64 c.ti, .int .u64 (c.m : Int), .int .u16 c.ins, .int .i64 c.rs, .int .i64 c.rj, .int .u64 c.st, .int .u64 c.mr, .int .u64 c.ft, .int .i64 c.vs, .int .i64 c.ln] _ 28 #[.int .i64 c.k, .int .i64 c.ws, .int .i64 c.wo, .int .i64 c.it, .int .i64 c.la, .int .i64 c.ti, .int .u64 (c.m : Int), .int .u16 c.ins, .int .i64 c.rs, .int .i64 c.rj, .int .u64 c.st, .int .u64 c.mr, .int .u64 c.ft, .int .i64 c.vs, .int .i64 c.ln] (fun w9 hSw => hSw) rfl Try.underlying28 rfl (by kernel_rfl)) (by assumption) ?_
  simp only [List.getElem_toArray, List.getElem_cons_zero, List.getElem_cons_succ, Act.put, List.setIfInBounds_toArray, List.set_cons_zero, List.set_cons_succ]
  refine wpAnyH_take (i := 2) (v := .agg #[.int .i64 c.k, .int .i64 c.ws, .int .i64 c.wo, .int .i64 c.it, .int .i64 c.la, .int .i64 c.ti, .int .u64 (c.m : Int), .int .u16 c.ins, .int .i64 c.rs, .int .i64 c.rj, .int .u64 c.st, .int .u64 c.mr, .int .u64 c.ft, .int .i64 c.vs, .int .i64 c.ln]) rfl (by kernel_rfl) (by kernel_rfl) (by kernel_rfl) (fun _ _ _ h => h) (Av.yields_part (by first | rfl | go_simp) _ _ rfl (w.heap.size) 0 rfl #[.int .i64 c.k, .int .i64 c.ws, .int .i64 c.wo, .int .i64 c.it, .int .i64 c.la, .int .i64 c.ti, .int .u64 (c.m : Int), .int .u16 c.ins, .int .i64 c.rs, .int .i64 c.rj, .int .u64 c.st, .int .u64 c.mr, .int .u64 c.ft, .int .i64 c.vs, .int .i64 c.ln] _ 28 #[.int .i64 c.k, .int .i64 c.ws, .int .i64 c.wo, .int .i64 c.it, .int .i64 c.la, .int .i64 c.ti, .int .u64 (c.m : Int), .int .u16 c.ins, .int .i64 c.rs, .int .i64 c.rj, .int .u64 c.st, .int .u64 c.mr, .int .u64 c.ft, .int .i64 c.vs, .int .i64 c.ln] (fun w9 hSw => hSw) rfl Try.underlying28 rfl (by kernel_rfl)) (by assumption) ?_
  simp only [List.getElem_toArray, List.getElem_cons_zero, List.getElem_cons_succ, Act.put, List.setIfInBounds_toArray, List.set_cons_zero, List.set_cons_succ]
  refine wpAnyH_ready (rs := [1]) (by kernel_rfl) (by simp) ?_
  refine AllReadyH.cons rfl (fun K hK => ?_) (AllReadyH.nil)
  go_simp
  refine (HC.out X0).mono ?_
  rintro e X1 ⟨rfl, b9⟩
  replace K1 := K1.below b9 K1.lt
  replace BX := Base.thenB BX b9
  clear b9
  refine hK.out _ _ K1 (fun hHeld => ?_)
  clear hK K
  try simp only [List.getElem_toArray, List.getElem_cons_zero, List.getElem_cons_succ, Act.put, List.setIfInBounds_toArray, List.set_cons_zero, List.set_cons_succ]
  refine wpAnyH_ready (rs := [3]) (by kernel_rfl) (by simp) ?_
  refine AllReadyH.cons rfl (fun K hK => ?_) (AllReadyH.nil)
  go_simp
  refine (HD.out X1).mono ?_
  rintro e X2 ⟨rfl, b9⟩
  replace K1 := K1.below b9 K1.lt
  replace BX := Base.thenB BX b9
  clear b9
  refine hK.out _ _ K1 (fun hHeld => ?_)
  clear hK K
  try simp only [List.getElem_toArray, List.getElem_cons_zero, List.getElem_cons_succ, Act.put, List.setIfInBounds_toArray, List.set_cons_zero, List.set_cons_succ]
  refine wpAnyH_take (i := 4) (v := .bool true) rfl (by kernel_rfl) (by kernel_rfl) (by kernel_rfl) (fun _ _ _ h => h) (Or.inl ⟨by first | rfl | go_simp, by intro w9 hSw; (try dsimp only at hSw); go_simp⟩) (by assumption) ?_
  simp only [List.getElem_toArray, List.getElem_cons_zero, List.getElem_cons_succ, Act.put, List.setIfInBounds_toArray, List.set_cons_zero, List.set_cons_succ]
  refine wpAnyH_take (i := 5) (v := .bool true) rfl (by kernel_rfl) (by kernel_rfl) (by kernel_rfl) (fun _ _ _ h => h) (Or.inl ⟨by first | rfl | go_simp, by intro w9 hSw; (try dsimp only at hSw); go_simp⟩) (by assumption) ?_
  simp only [List.getElem_toArray, List.getElem_cons_zero, List.getElem_cons_succ, Act.put, List.setIfInBounds_toArray, List.set_cons_zero, List.set_cons_succ]
  refine wpAnyH_ready (rs := [6]) (by kernel_rfl) (by simp) ?_
  refine AllReadyH.cons rfl (fun K hK => ?_) (AllReadyH.nil)
  go_simp
  refine (HX.out X2).mono ?_
  rintro e X3 ⟨rfl, b9⟩
  replace K1 := K1.below b9 K1.lt
  replace BX := Base.thenB BX b9
  clear b9
  refine hK.out _ _ K1 (fun hHeld => ?_)
  clear hK K
  try simp only [List.getElem_toArray, List.getElem_cons_zero, List.getElem_cons_succ, Act.put, List.setIfInBounds_toArray, List.set_cons_zero, List.set_cons_succ]
  refine wpAnyH_take (i := 7) (v := .bool true) rfl (by kernel_rfl) (by kernel_rfl) (by kernel_rfl) (fun _ _ _ h => h) (Or.inl ⟨by first | rfl | go_simp, by intro w9 hSw; (try dsimp only at hSw); go_simp⟩) (by assumption) ?_
  simp only [List.getElem_toArray, List.getElem_cons_zero, List.getElem_cons_succ, Act.put, List.setIfInBounds_toArray, List.set_cons_zero, List.set_cons_succ]
  refine wpAnyH_take (i := 8) (v := .bool true) rfl (by kernel_rfl) (by kernel_rfl) (by kernel_rfl) (fun _ _ _ h => h) (Or.inl ⟨by first | rfl | go_simp, by intro w9 hSw; (try dsimp only at hSw); go_simp⟩) (by assumption) ?_
  simp only [List.getElem_toArray, List.getElem_cons_zero, List.getElem_cons_succ, Act.put, List.setIfInBounds_toArray, List.set_cons_zero, List.set_cons_succ]
  refine wpAnyH_done (by kernel_rfl) ?_ _
  clear hHeld
  go_wp2_with fail
  go_ret
  exact ⟨rfl, BX⟩
end Go.Proofs.Ytiopeghbpnjcgaa.Cp
