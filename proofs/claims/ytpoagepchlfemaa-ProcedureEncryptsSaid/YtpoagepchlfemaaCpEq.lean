/- Control PDUs: what Check returns: contracts over the program. -/
import Derived.Test.YtpoagepchlfemaaCpTab
import Derived.Deep.CutRange
set_option linter.unusedVariables false
set_option linter.unusedSimpArgs false
namespace Go.Proofs.Ytpoagepchlfemaa.Cp
open Go.RowKit Mem Oct Rw Av
open Draw
open Base (thenB)
deriving instance DecidableEq for Ct
/-- What the parts of a control PDU say, in one whose other fields are zero. -/
def usedC (c : Ct) (ps : List Pt) : Ct := ps.foldl (fun u p => setP p u (getP p c)) (onlyK c.k)
/-- The first of the errors of the parts. -/
def errP (c : Ct) : List Pt → Int
  | [] => 0
  | p :: r => if chkP p c = 0 then errP c r else chkP p c
def chkC (c : Ct) : Int := match ptsK c.k with
  | none => 12
  | some ps => if c = usedC c ps then errP c ps else 1
theorem usedC_snoc (c : Ct) {ps : List Pt} {j : Nat} {p : Pt} (h : ps[j]? = some p) : usedC c (ps.take (j + 1)) = setP p (usedC c (ps.take j)) (getP p c) := by
  unfold usedC
  rw [List.take_add_one, h, Option.toList_some, List.foldl_append]
  rfl
theorem errP_at (c : Ct) : ∀ (ps : List Pt) (j : Nat) (p : Pt), ps[j]? = some p → (∀ q ∈ ps.take j, chkP q c = 0) → chkP p c ≠ 0 → errP c ps = chkP p c
  | [], j, p, h, _, _ => by simp at h
  | q :: r, 0, p, h, _, hne => by
    simp at h; subst h
    unfold errP; rw [if_neg hne]
  | q :: r, j + 1, p, h, ha, hne => by
    have h0 := ha q (by simp)
    unfold errP; rw [if_pos h0]
    exact errP_at c r j p (by simpa using h) (fun x hx => ha x (by simp [hx])) hne
theorem errP_none (c : Ct) : ∀ (ps : List Pt), (∀ q ∈ ps, chkP q c = 0) → errP c ps = 0
  | [], _ => rfl
  | q :: r, h => by
    unfold errP; rw [if_pos (h q (by simp))]
    exact errP_none c r fun x hx => h x (by simp [hx])
theorem ctl_ng (a b : Ct) (w : World) (x y : Operand) : (eqGuard .neq 57 x y (.agg (encC a)) (.agg (encC b))).run Try.prog w = .ok () w := by
  unfold encC
  go_simp
set_option maxRecDepth 100000 in
set_option maxHeartbeats 8000000 in
theorem ctl_neq0 (a b : Ct) (w : World) : (binOp .neq 57 (.agg (encC a)) (.agg (encC b))).run Try.prog w = .ok (.bool (!decide (a.k = b.k ∧ a.ws = b.ws ∧ a.wo = b.wo ∧ a.it = b.it ∧ a.la = b.la ∧ a.ti = b.ti ∧ a.m = b.m ∧ a.ins = b.ins ∧ a.rs = b.rs ∧ a.rj = b.rj ∧ a.st = b.st ∧ a.mr = b.mr ∧ a.ft = b.ft ∧ a.vs = b.vs ∧ a.ln = b.ln))) w := by
  unfold encC
  go_simp
  by_cases h0 : a.k = b.k
  case neg => simp only [if_neg (show ¬ ((a.k) = (b.k)) from h0), decide_eq_false h0, Bool.not_false, Bool.true_or]
  rw [if_pos (show (a.k) = (b.k) from h0), decide_eq_true h0]
  simp only [Bool.not_true, Bool.false_or]
  by_cases h1 : a.ws = b.ws
  case neg => simp only [if_neg (show ¬ ((a.ws) = (b.ws)) from h1), decide_eq_false h1, Bool.not_false, Bool.true_or]
  rw [if_pos (show (a.ws) = (b.ws) from h1), decide_eq_true h1]
  simp only [Bool.not_true, Bool.false_or]
  by_cases h2 : a.wo = b.wo
  case neg => simp only [if_neg (show ¬ ((a.wo) = (b.wo)) from h2), decide_eq_false h2, Bool.not_false, Bool.true_or]
  rw [if_pos (show (a.wo) = (b.wo) from h2), decide_eq_true h2]
  simp only [Bool.not_true, Bool.false_or]
  by_cases h3 : a.it = b.it
  case neg => simp only [if_neg (show ¬ ((a.it) = (b.it)) from h3), decide_eq_false h3, Bool.not_false, Bool.true_or]
  rw [if_pos (show (a.it) = (b.it) from h3), decide_eq_true h3]
  simp only [Bool.not_true, Bool.false_or]
  by_cases h4 : a.la = b.la
  case neg => simp only [if_neg (show ¬ ((a.la) = (b.la)) from h4), decide_eq_false h4, Bool.not_false, Bool.true_or]
  rw [if_pos (show (a.la) = (b.la) from h4), decide_eq_true h4]
  simp only [Bool.not_true, Bool.false_or]
  by_cases h5 : a.ti = b.ti
  case neg => simp only [if_neg (show ¬ ((a.ti) = (b.ti)) from h5), decide_eq_false h5, Bool.not_false, Bool.true_or]
  rw [if_pos (show (a.ti) = (b.ti) from h5), decide_eq_true h5]
  simp only [Bool.not_true, Bool.false_or]
  by_cases h6 : a.m = b.m
  case neg => simp only [if_neg (show ¬ (((a.m : Int)) = ((b.m : Int))) from (by omega)), decide_eq_false h6, Bool.not_false, Bool.true_or]
  rw [if_pos (show ((a.m : Int)) = ((b.m : Int)) from (by rw [h6])), decide_eq_true h6]
  simp only [Bool.not_true, Bool.false_or]
  by_cases h7 : a.ins = b.ins
  case neg => simp only [if_neg (show ¬ ((a.ins) = (b.ins)) from h7), decide_eq_false h7, Bool.not_false, Bool.true_or]
  rw [if_pos (show (a.ins) = (b.ins) from h7), decide_eq_true h7]
  simp only [Bool.not_true, Bool.false_or]
  by_cases h8 : a.rs = b.rs
  case neg => simp only [if_neg (show ¬ ((a.rs) = (b.rs)) from h8), decide_eq_false h8, Bool.not_false, Bool.true_or]
  rw [if_pos (show (a.rs) = (b.rs) from h8), decide_eq_true h8]
  simp only [Bool.not_true, Bool.false_or]
  by_cases h9 : a.rj = b.rj
  case neg => simp only [if_neg (show ¬ ((a.rj) = (b.rj)) from h9), decide_eq_false h9, Bool.not_false, Bool.true_or]
  rw [if_pos (show (a.rj) = (b.rj) from h9), decide_eq_true h9]
  simp only [Bool.not_true, Bool.false_or]
  by_cases h10 : a.st = b.st
  case neg => simp only [if_neg (show ¬ ((a.st) = (b.st)) from h10), decide_eq_false h10, Bool.not_false, Bool.true_or]
  rw [if_pos (show (a.st) = (b.st) from h10), decide_eq_true h10]
  simp only [Bool.not_true, Bool.false_or]
  by_cases h11 : a.mr = b.mr
  case neg => simp only [if_neg (show ¬ ((a.mr) = (b.mr)) from h11), decide_eq_false h11, Bool.not_false, Bool.true_or]
  rw [if_pos (show (a.mr) = (b.mr) from h11), decide_eq_true h11]
  simp only [Bool.not_true, Bool.false_or]
  by_cases h12 : a.ft = b.ft
  case neg => simp only [if_neg (show ¬ ((a.ft) = (b.ft)) from h12), decide_eq_false h12, Bool.not_false, Bool.true_or]
  rw [if_pos (show (a.ft) = (b.ft) from h12), decide_eq_true h12]
  simp only [Bool.not_true, Bool.false_or]
  by_cases h13 : a.vs = b.vs
  case neg => simp only [if_neg (show ¬ ((a.vs) = (b.vs)) from h13), decide_eq_false h13, Bool.not_false, Bool.true_or]
  rw [if_pos (show (a.vs) = (b.vs) from h13), decide_eq_true h13]
  simp only [Bool.not_true, Bool.false_or]
  by_cases h14 : a.ln = b.ln
  case neg => simp only [if_neg (show ¬ ((a.ln) = (b.ln)) from h14), decide_eq_false h14, Bool.not_false, Bool.true_or]
  rw [if_pos (show (a.ln) = (b.ln) from h14), decide_eq_true h14]
  rfl
theorem ct_ext (a b : Ct) : a = b ↔ (a.k = b.k ∧ a.ws = b.ws ∧ a.wo = b.wo ∧ a.it = b.it ∧ a.la = b.la ∧ a.ti = b.ti ∧ a.m = b.m ∧ a.ins = b.ins ∧ a.rs = b.rs ∧ a.rj = b.rj ∧ a.st = b.st ∧ a.mr = b.mr ∧ a.ft = b.ft ∧ a.vs = b.vs ∧ a.ln = b.ln) := by
  constructor
  · rintro rfl; exact ⟨rfl, rfl, rfl, rfl, rfl, rfl, rfl, rfl, rfl, rfl, rfl, rfl, rfl, rfl, rfl⟩
  · intro h
    obtain ⟨a0, a1, a2, a3, a4, a5, a6, a7, a8, a9, a10, a11, a12, a13, a14⟩ := a
    simp only at h
    obtain ⟨rfl, rfl, rfl, rfl, rfl, rfl, rfl, rfl, rfl, rfl, rfl, rfl, rfl, rfl, rfl⟩ := h
    rfl
theorem ctl_neq (a b : Ct) (w : World) : (binOp .neq 57 (.agg (encC a)) (.agg (encC b))).run Try.prog w = .ok (.bool (!decide (a = b))) w := by
  rw [ctl_neq0, decide_eq_decide.2 (ct_ext a b)]
end Go.Proofs.Ytpoagepchlfemaa.Cp
