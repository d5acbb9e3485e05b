/- Data PDUs: their errors, bytes and forms: plain mathematics. No program is mentioned. -/
import Derived.Test.YtakfjemkgajehaaOctMath
set_option linter.unusedVariables false
set_option linter.unusedSimpArgs false
namespace Go.Proofs.Ytakfjemkgajehaa.Dp

/-- A packet: its LLID and its payload. -/
abbrev Pk := Int × List Int
structure Pd where
  sn : Int
  nesn : Int
  md : Int
  pk : Pk
theorem Pd.ext {p q : Pd} (h1 : p.sn = q.sn) (h2 : p.nesn = q.nesn) (h3 : p.md = q.md) (h4 : p.pk = q.pk) : p = q := by
  obtain ⟨a, b, c, d⟩ := p; obtain ⟨a', b', c', d'⟩ := q; simp only at h1 h2 h3 h4; subst h1; subst h2; subst h3; subst h4; rfl
def zeroP : Pd := ⟨0, 0, 0, (0, [])⟩
def bitB (n : Int) : Bool := decide (n = 0) || decide (n = 1)
def blankB (k : Int) (n : Nat) : Bool := decide (k = 1) && decide (n = 0)
def chkK (k : Int) (n : Nat) : Int := if k < 1 ∨ 3 < k then 12 else if n = 0 ∧ k ≠ 1 then 1 else if 255 < n then 4 else 0
def chkN (sn nesn md k : Int) (n : Nat) : Int := if (bitB sn && bitB nesn && bitB md) = true then chkK k n else 5
def chk (p : Pd) : Int := chkN p.sn p.nesn p.md p.pk.1 p.pk.2.length
theorem bit_iff {n : Int} : bitB n = true ↔ n = 0 ∨ n = 1 := by simp [bitB]
theorem chkN_ok {sn nesn md k : Int} {n : Nat} (h : chkN sn nesn md k n = 0) : (sn = 0 ∨ sn = 1) ∧ (nesn = 0 ∨ nesn = 1) ∧ (md = 0 ∨ md = 1) ∧ (k = 1 ∨ k = 2 ∨ k = 3) ∧ n ≤ 255 ∧ (n = 0 → k = 1) := by
  unfold chkN at h
  split at h
  · rename_i hb
    simp only [Bool.and_eq_true, bit_iff] at hb
    unfold chkK at h
    split at h
    · cases h
    · split at h
      · cases h
      · split at h
        · cases h
        · rename_i h1 h2 h3
          refine ⟨hb.1.1, hb.1.2, hb.2, by omega, by omega, fun h0 => by
            rcases Decidable.em (k = 1) with h | h
            · exact h
            · exact absurd ⟨h0, h⟩ h2⟩
  · cases h
theorem chkN_of {sn nesn md k : Int} {n : Nat} (h1 : sn = 0 ∨ sn = 1) (h2 : nesn = 0 ∨ nesn = 1) (h3 : md = 0 ∨ md = 1) (h : chkK k n = 0) : chkN sn nesn md k n = 0 := by
  unfold chkN
  rw [if_pos (by simp only [Bool.and_eq_true, bit_iff]; exact ⟨⟨h1, h2⟩, h3⟩)]
  exact h
theorem chkK_bd (k : Int) (n : Nat) : 0 ≤ chkK k n ∧ chkK k n ≤ 12 := by
  unfold chkK; split
  · simp
  · split
    · simp
    · split <;> simp
theorem chkN_bd (sn nesn md k : Int) (n : Nat) : 0 ≤ chkN sn nesn md k n ∧ chkN sn nesn md k n ≤ 12 := by
  unfold chkN; split
  · exact chkK_bd _ _
  · simp

/-! ### Bytes -/
def headN (sn nesn md k : Int) : Int := k + 4 * nesn + 8 * sn + 16 * md
def encP (p : Pd) : List Int := headN p.sn p.nesn p.md p.pk.1 :: (p.pk.2.length : Int) :: p.pk.2
def encR (p : Pd) : List Int × Int := if chk p = 0 then (encP p, 0) else ([], chk p)
theorem encR_ok {p : Pd} (h : chk p = 0) : encR p = (encP p, 0) := by unfold encR; rw [if_pos h]
theorem encR_no {p : Pd} (h : chk p ≠ 0) : encR p = ([], chk p) := by unfold encR; rw [if_neg h]
theorem encP_len (p : Pd) : (encP p).length = p.pk.2.length + 2 := rfl
/-- The error of bytes: the first, the second, the number of the others. -/
def formN (h z : Int) (n : Nat) : Int :=
  if 32 ≤ h then 2 else if h % 4 = 0 then 12 else if z = 0 ∧ h % 4 ≠ 1 then 1 else if (n : Int) < z then 3 else if z < (n : Int) then 2 else 0
def partsN (h : Int) (r : List Int) : Pd := ⟨h / 8 % 2, h / 4 % 2, h / 16 % 2, (h % 4, r)⟩
def formR : List Int → Int
  | h :: z :: r => formN h z r.length
  | _ => 3
def decR (xs : List Int) : Pd × Int := if formR xs = 0 then (partsN (xs.getD 0 0) (xs.drop 2), 0) else (zeroP, formR xs)
theorem decR_ok {xs : List Int} (h : formR xs = 0) : decR xs = (partsN (xs.getD 0 0) (xs.drop 2), 0) := by unfold decR; rw [if_pos h]
theorem decR_no {xs : List Int} (h : formR xs ≠ 0) : decR xs = (zeroP, formR xs) := by unfold decR; rw [if_neg h]
theorem formN_ok {h z : Int} {n : Nat} (h0 : 0 ≤ h) (e : formN h z n = 0) : h < 32 ∧ (h % 4 = 1 ∨ h % 4 = 2 ∨ h % 4 = 3) ∧ z = n ∧ (z = 0 → h % 4 = 1) := by
  unfold formN at e
  split at e
  · cases e
  · split at e
    · cases e
    · split at e
      · cases e
      · split at e
        · cases e
        · split at e
          · cases e
          · rename_i h1 h2 h3 h4 h5
            refine ⟨by omega, by omega, by omega, fun h6 => ?_⟩
            rcases Decidable.em (h % 4 = 1) with g | g
            · exact g
            · exact absurd ⟨h6, g⟩ h3
theorem head_bd {sn nesn md k : Int} (h1 : sn = 0 ∨ sn = 1) (h2 : nesn = 0 ∨ nesn = 1) (h3 : md = 0 ∨ md = 1) (h4 : k = 1 ∨ k = 2 ∨ k = 3) : 1 ≤ headN sn nesn md k ∧ headN sn nesn md k ≤ 31 := by
  unfold headN; omega
theorem head_parts {sn nesn md k : Int} (h1 : sn = 0 ∨ sn = 1) (h2 : nesn = 0 ∨ nesn = 1) (h3 : md = 0 ∨ md = 1) (h4 : k = 1 ∨ k = 2 ∨ k = 3) :
    headN sn nesn md k / 8 % 2 = sn ∧ headN sn nesn md k / 4 % 2 = nesn ∧ headN sn nesn md k / 16 % 2 = md ∧ headN sn nesn md k % 4 = k := by
  unfold headN; omega
/-- What was encoded is decoded. -/
theorem form_enc {p : Pd} (h : chk p = 0) : formR (encP p) = 0 := by
  obtain ⟨h1, h2, h3, h4, h5, h6⟩ := chkN_ok h
  have hb := head_bd h1 h2 h3 h4
  have hp := head_parts h1 h2 h3 h4
  show formN _ _ _ = 0
  unfold formN
  rw [if_neg (by omega), if_neg (by omega), if_neg, if_neg (by omega), if_neg (by omega)]
  rintro ⟨g1, g2⟩
  exact g2 (by rw [hp.2.2.2]; exact h6 (by omega))
theorem dec_enc {p : Pd} (h : chk p = 0) : decR (encP p) = (p, 0) := by
  obtain ⟨h1, h2, h3, h4, h5, h6⟩ := chkN_ok h
  have hp := head_parts h1 h2 h3 h4
  rw [decR_ok (form_enc h)]
  refine Prod.ext ?_ rfl
  refine Pd.ext hp.1 hp.2.1 hp.2.2.1 (Prod.ext hp.2.2.2 rfl)
/-- What is decoded is encoded so. -/
theorem enc_dec {xs : List Int} (hb : ∀ z ∈ xs, 0 ≤ z ∧ z ≤ 255) (h : formR xs = 0) : chk (decR xs).1 = 0 ∧ encP (decR xs).1 = xs := by
  rw [decR_ok h]
  match xs, h, hb with
  | y :: z :: r, h, hb =>
    have hy := hb y (by simp)
    have hz := hb z (by simp)
    obtain ⟨g1, g2, g3, g4⟩ := formN_ok hy.1 h
    have e1 : ((y :: z :: r).getD 0 0) = y := rfl
    have e2 : (y :: z :: r).drop 2 = r := rfl
    rw [e1, e2]
    refine ⟨chkN_of (by simp [partsN]; omega) (by simp [partsN]; omega) (by simp [partsN]; omega) ?_, ?_⟩
    · unfold chkK partsN
      simp only
      rw [if_neg (by omega), if_neg, if_neg (by omega)]
      rintro ⟨k1, k2⟩
      exact k2 (g4 (by omega))
    · unfold encP partsN headN
      simp only [List.cons.injEq, and_true]
      omega
  | [], h, _ => cases h
  | [y], h, _ => cases h
theorem dec_cut {p : Pd} (h : chk p = 0) {j : Nat} (hj : j < (encP p).length) : formR ((encP p).take j) = 3 := by
  obtain ⟨h1, h2, h3, h4, h5, h6⟩ := chkN_ok h
  have hb := head_bd h1 h2 h3 h4
  have hp := head_parts h1 h2 h3 h4
  rw [encP_len] at hj
  match j, hj with
  | 0, _ => rfl
  | 1, _ => rfl
  | j + 2, hj =>
    show formN _ _ _ = 3
    unfold formN
    rw [if_neg (by omega), if_neg (by omega), if_neg, if_pos (by rw [List.length_take]; omega)]
    rintro ⟨g1, g2⟩
    exact g2 (by rw [hp.2.2.2]; exact h6 (by omega))
theorem dec_more {p : Pd} (h : chk p = 0) {m : List Int} (hm : 0 < m.length) : formR (encP p ++ m) = 2 := by
  obtain ⟨h1, h2, h3, h4, h5, h6⟩ := chkN_ok h
  have hb := head_bd h1 h2 h3 h4
  have hp := head_parts h1 h2 h3 h4
  show formN _ _ _ = 2
  unfold formN
  rw [if_neg (by omega), if_neg (by omega), if_neg, if_neg (by simp only [List.append_eq, List.length_append]; omega), if_pos (by simp only [List.append_eq, List.length_append]; omega)]
  rintro ⟨g1, g2⟩
  exact g2 (by rw [hp.2.2.2]; exact h6 (by omega))
theorem formR_bd (xs : List Int) : 0 ≤ formR xs ∧ formR xs ≤ 12 := by
  unfold formR
  split
  · unfold formN
    split
    · simp
    · split
      · simp
      · split
        · simp
        · split
          · simp
          · split <;> simp
  · simp
theorem enc_bytes {p : Pd} (h : chk p = 0) (hb : ∀ z ∈ p.pk.2, 0 ≤ z ∧ z ≤ 255) : ∀ z ∈ encP p, 0 ≤ z ∧ z ≤ 255 := by
  obtain ⟨h1, h2, h3, h4, h5, h6⟩ := chkN_ok h
  have := head_bd h1 h2 h3 h4
  intro z hz
  simp only [encP, List.mem_cons] at hz
  rcases hz with rfl | rfl | hz
  · omega
  · omega
  · exact hb z hz
end Go.Proofs.Ytakfjemkgajehaa.Dp
