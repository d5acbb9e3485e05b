import Derived.Test.YtiopeghbpnjcgaaCpDec
import Derived.Test.YtiopeghbpnjcgaaCpEnc
/- Control PDUs: from bytes and back: plain mathematics. -/
set_option linter.unusedVariables false
set_option linter.unusedSimpArgs false
namespace Go.Proofs.Ytiopeghbpnjcgaa.Cp
open Go.RowKit Mem Oct Rw Av
open Base (thenB)
open Cn (okU Rng)
theorem putL_all {fs : List (Int × Int)} (h : fs.all okF = true) : (putL fs).length ≤ 8 * fs.length := by
  have := putL_len_le fs fs.length (by rw [List.take_of_length_le (Nat.le_refl _)]; exact h)
  rw [List.take_of_length_le (Nat.le_refl _)] at this; exact this
theorem putL_bytes (fs : List (Int × Int)) : Bytes (putL fs) := by
  induction fs with
  | nil => intro z hz; cases hz
  | cons f r ih => exact bytes_append (numL_bytes _ _) ih
theorem take_put {fs : List (Int × Int)} (hf : Fields fs) (h : fs.all okF = true) (r : List Int) : takeR (putL fs ++ r) (fs.map (·.1)) = (fs.map (·.2), r, 0) := by
  have key : okZ (fs.map (·.1)) = true ∧ sumZ (fs.map (·.1)) = (putL fs).length ∧ numsL (putL fs ++ r) (fs.map (·.1)) = fs.map (·.2) := by
    induction fs with
    | nil => exact ⟨rfl, rfl, rfl⟩
    | cons f fs ih =>
      simp only [List.all_cons, Bool.and_eq_true] at h
      obtain ⟨i1, i2, i3⟩ := ih (fun g hg => hf g (by simp [hg])) h.2
      have hff := hf f (by simp)
      have h1 := h.1
      unfold okF at h1
      simp only [Bool.and_eq_true, decide_eq_true_eq] at h1
      have hn := numL_len f.1.toNat f.2
      refine ⟨?_, ?_, ?_⟩
      · unfold okZ at i1 ⊢
        simp only [List.map_cons, List.all_cons, Bool.and_eq_true, decide_eq_true_eq]
        exact ⟨h1.1, i1⟩
      · simp only [List.map_cons, sumZ, putL, List.length_append, hn]
        rw [i2]; omega
      · simp only [List.map_cons, numsL, putL, List.append_assoc]
        rw [List.take_left' hn, List.drop_left' hn, i3, valL_numL _ _ hff.2.1 h1.2]
  unfold takeR
  rw [if_pos key.1, if_neg (by rw [key.2.1, List.length_append]; omega), key.2.2, key.2.1]
  rw [Int.toNat_natCast, List.drop_left]

theorem numL_valL : ∀ (l : List Int), Bytes l → numL l.length (valL l) = l
  | [], _ => rfl
  | x :: r, h => by
    have hx := h x (by simp)
    have ih := numL_valL r (fun z hz => h z (by simp [hz]))
    have e1 : (x + 256 * valL r) % 256 = x := by omega
    have e2 : (x + 256 * valL r) / 256 = valL r := by omega
    show numL (r.length + 1) (x + 256 * valL r) = _
    unfold numL
    rw [e1, e2, ih]
theorem put_take : ∀ (zs b : List Int), (∀ z ∈ zs, 1 ≤ z ∧ z ≤ 8) → Bytes b → sumZ zs ≤ (b.length : Int) → putL (zs.zip (numsL b zs)) = b.take (sumZ zs).toNat
  | [], b, _, _, _ => by simp [putL, sumZ]
  | z :: r, b, hz, hb, hl => by
    have h1 := hz z (by simp)
    obtain ⟨m, rfl⟩ := Int.eq_ofNat_of_zero_le (show 0 ≤ z by omega)
    have hs : sumZ ((m : Int) :: r) = (m : Int) + sumZ r := rfl
    have hr0 : 0 ≤ sumZ r := (sumZ_le (l := r) (by unfold okZ; rw [List.all_eq_true]; intro q hq; have := hz q (by simp [hq]); simpa using this)).1
    rw [hs] at hl
    have hm : (b.take m).length = m := by rw [List.length_take]; omega
    have ih := put_take r (b.drop m) (fun q hq => hz q (by simp [hq])) (bytes_drop hb m) (by rw [List.length_drop]; omega)
    show numL (Int.toNat (m : Int)) (valL (b.take (Int.toNat (m : Int)))) ++ putL (r.zip (numsL (b.drop (Int.toNat (m : Int))) r)) = _
    rw [Int.toNat_natCast, ih]
    have hn := numL_valL (b.take m) (bytes_take hb m)
    rw [hm] at hn
    rw [hn, hs, show ((m : Int) + sumZ r).toNat = m + (sumZ r).toNat by omega, List.take_add]
theorem taken_fit : ∀ (zs b : List Int), (∀ z ∈ zs, 1 ≤ z ∧ z ≤ 8) → Bytes b → ∀ (i : Nat) (z y : Int), zs[i]? = some z → (numsL b zs)[i]? = some y → 0 ≤ y ∧ y < Ser.p2 (8 * z.toNat)
  | [], _, _, _, i, z, y, h, _ => by simp at h
  | q :: r, b, hz, hb, 0, z, y, h, h' => by
    simp at h; subst h
    simp [numsL] at h'; subst h'
    have h1 := valL_bd (bytes_take hb q.toNat)
    have h2 := hz q (by simp)
    have h3 : (b.take q.toNat).length ≤ q.toNat := List.length_take_le _ _
    have h4 : Ser.p2 (8 * (b.take q.toNat).length) ≤ Ser.p2 (8 * q.toNat) := by
      generalize (b.take q.toNat).length = l at *
      have hq8 : q.toNat ≤ 8 := by omega
      generalize q.toNat = m at *
      have hm : m = 0 ∨ m = 1 ∨ m = 2 ∨ m = 3 ∨ m = 4 ∨ m = 5 ∨ m = 6 ∨ m = 7 ∨ m = 8 := by omega
      have hl : l = 0 ∨ l = 1 ∨ l = 2 ∨ l = 3 ∨ l = 4 ∨ l = 5 ∨ l = 6 ∨ l = 7 ∨ l = 8 := by omega
      rcases hm with rfl | rfl | rfl | rfl | rfl | rfl | rfl | rfl | rfl <;> rcases hl with rfl | rfl | rfl | rfl | rfl | rfl | rfl | rfl | rfl <;> first | decide | omega
    omega
  | q :: r, b, hz, hb, i + 1, z, y, h, h' => taken_fit r (b.drop q.toNat) (fun x hx => hz x (by simp [hx])) (bytes_drop hb _) i z y (by simpa using h) (by simpa [numsL] using h')
theorem p2s : Ser.p2 8 = 256 ∧ Ser.p2 16 = 65536 ∧ Ser.p2 40 = 1099511627776 ∧ Ser.p2 64 = 18446744073709551616 := by decide
theorem u_id {n : Int} (h : 0 ≤ n ∧ n ≤ 18446744073709551615) : u n = n := by unfold u; simp only [IntKind.wrap, IntKind.signed, IntKind.bits]; simp; omega
theorem s_id {n : Int} (h : 0 ≤ n ∧ n ≤ 9223372036854775807) : s n = n := by unfold s; simp only [IntKind.wrap, IntKind.signed, IntKind.bits]; simp; omega
theorem u16_id {n : Int} (h : 0 ≤ n ∧ n ≤ 65535) : IntKind.u16.wrap n = n := by simp only [IntKind.wrap, IntKind.signed, IntKind.bits]; simp; omega
/-- A part that nothing is wrong with fits its bytes. -/
theorem fp_ok {c : Ct} (h : GoodC c) (p : Pt) (hp : chkP p c = 0) : (fpC c p).all okF = true := by
  obtain ⟨h0, h1, h2, h3, h4, h5, h6, h7, h8, h9, h10, h11, h12, h13, h14⟩ := h
  obtain ⟨q1, q2, q3, q4⟩ := p2s
  have fit : ∀ (z n : Int), 1 ≤ z ∧ z ≤ 8 → n < Ser.p2 (8 * z.toNat) → okF (z, n) = true := fun z n hz hn => by unfold okF; simp only [Bool.and_eq_true, decide_eq_true_eq]; exact ⟨hz, hn⟩
  cases p
  · have hR : Rng c.ws c.wo c.it c.la c.ti := by
      rcases Classical.em (Rng c.ws c.wo c.it c.la c.ti) with h | h
      · exact h
      · rw [show chkP .up c = okU c.ws c.wo c.it c.la c.ti from rfl] at hp; unfold Cn.okU at hp; rw [if_neg h] at hp; cases hp
    have hR' := hR
    unfold Rng at hR'
    simp only [fpC, szP, getP, List.zip_cons_cons, List.zip_nil_right, List.all_cons, List.all_nil, Bool.and_true, Bool.and_eq_true]
    refine ⟨fit _ _ (by decide) ?_, fit _ _ (by decide) ?_, fit _ _ (by decide) ?_, fit _ _ (by decide) ?_, fit _ _ (by decide) ?_⟩
    · rw [u_id (by omega)]; show c.ws < Ser.p2 8; omega
    · rw [u_id (by omega)]; show c.wo < Ser.p2 16; omega
    · rw [u_id (by omega)]; show c.it < Ser.p2 16; omega
    · rw [u_id (by omega)]; show c.la < Ser.p2 16; omega
    · rw [u_id (by omega)]; show c.ti < Ser.p2 16; omega
  · simp only [fpC, szP, getP, List.zip_cons_cons, List.zip_nil_right, List.all_cons, List.all_nil, Bool.and_true]
    refine fit _ _ (by decide) ?_
    rw [u_id (by omega)]; show c.ins < Ser.p2 16; omega
  · simp only [fpC, szP, getP, List.zip_cons_cons, List.zip_nil_right, List.all_cons, List.all_nil, Bool.and_true]
    refine fit _ _ (by decide) ?_
    have hm : ¬ 137438953472 ≤ c.m := by
      intro hm
      rw [show chkP .ch c = Chm.okM c.m from rfl] at hp
      unfold Chm.okM at hp
      rw [if_pos hm] at hp; cases hp
    show (c.m : Int) < Ser.p2 40; omega
  · simp only [fpC, szP, getP, List.zip_cons_cons, List.zip_nil_right, List.all_cons, List.all_nil, Bool.and_true]
    refine fit _ _ (by decide) ?_
    have hm : 0 ≤ c.rs ∧ c.rs ≤ 255 := by
      rcases Classical.em (0 ≤ c.rs ∧ c.rs ≤ 255) with h | h
      · exact h
      · rw [show chkP .rs c = inB 0 255 c.rs from rfl] at hp
        unfold inB at hp
        rw [if_neg h] at hp; cases hp
    rw [u_id (by omega)]; show c.rs < Ser.p2 8; omega
  · simp only [fpC, szP, getP, List.zip_cons_cons, List.zip_nil_right, List.all_cons, List.all_nil, Bool.and_true]
    refine fit _ _ (by decide) ?_
    have hm : 0 ≤ c.rj ∧ c.rj ≤ 255 := by
      rcases Classical.em (0 ≤ c.rj ∧ c.rj ≤ 255) with h | h
      · exact h
      · rw [show chkP .rj c = inB 0 255 c.rj from rfl] at hp
        unfold inB at hp
        rw [if_neg h] at hp; cases hp
    rw [u_id (by omega)]; show c.rj < Ser.p2 8; omega
  · simp only [fpC, szP, getP, List.zip_cons_cons, List.zip_nil_right, List.all_cons, List.all_nil, Bool.and_true]
    refine fit _ _ (by decide) ?_
    have hm : 0 ≤ c.vs ∧ c.vs ≤ 255 := by
      rcases Classical.em (0 ≤ c.vs ∧ c.vs ≤ 255) with h | h
      · exact h
      · rw [show chkP .vs c = inB 0 255 c.vs from rfl] at hp
        unfold inB at hp
        rw [if_neg h] at hp; cases hp
    rw [u_id (by omega)]; show c.vs < Ser.p2 8; omega
  · simp only [fpC, szP, getP, List.zip_cons_cons, List.zip_nil_right, List.all_cons, List.all_nil, Bool.and_true]
    refine fit _ _ (by decide) ?_
    have hm : 27 ≤ c.ln ∧ c.ln ≤ 251 := by
      rcases Classical.em (27 ≤ c.ln ∧ c.ln ≤ 251) with h | h
      · exact h
      · rw [show chkP .ln c = inB 27 251 c.ln from rfl] at hp
        unfold inB at hp
        rw [if_neg h] at hp; cases hp
    rw [u_id (by omega)]; show c.ln < Ser.p2 8; omega
  · simp only [fpC, szP, getP, List.zip_cons_cons, List.zip_nil_right, List.all_cons, List.all_nil, Bool.and_true]
    refine fit _ _ (by decide) ?_
    show c.st < Ser.p2 64; omega
  · simp only [fpC, szP, getP, List.zip_cons_cons, List.zip_nil_right, List.all_cons, List.all_nil, Bool.and_true]
    refine fit _ _ (by decide) ?_
    show c.mr < Ser.p2 64; omega
  · simp only [fpC, szP, getP, List.zip_cons_cons, List.zip_nil_right, List.all_cons, List.all_nil, Bool.and_true]
    refine fit _ _ (by decide) ?_
    show c.ft < Ser.p2 64; omega
theorem errP_all (c : Ct) : ∀ (ps : List Pt), errP c ps = 0 → ∀ p ∈ ps, chkP p c = 0
  | [], _, p, h => by cases h
  | q :: r, h, p, hp => by
    unfold errP at h
    by_cases hq : chkP q c = 0
    · rw [if_pos hq] at h
      rcases List.mem_cons.1 hp with rfl | hp
      · exact hq
      · exact errP_all c r h p hp
    · rw [if_neg hq] at h; exact absurd h hq
theorem chk_zero {c : Ct} (h : chkC c = 0) : ∃ ps, ptsK c.k = some ps ∧ c = usedC c ps ∧ errP c ps = 0 := by
  unfold chkC at h
  cases hp : ptsK c.k with
  | none => rw [hp] at h; cases h
  | some ps =>
    rw [hp] at h
    simp only at h
    split at h
    · exact ⟨ps, rfl, by assumption, h⟩
    · cases h
set_option maxRecDepth 100000 in
theorem ins_bd2 : ∀ e ∈ insT, (0 ≤ e.1 ∧ e.1 ≤ 21) ∧ (e.2.2.map fun p => sumZ (szP p)).sum ≤ 16 ∧ e.2.2.Nodup := by decide
theorem pts_bd {k : Int} {ps : List Pt} (h : ptsK k = some ps) : (0 ≤ k ∧ k ≤ 21) ∧ (ps.map fun p => sumZ (szP p)).sum ≤ 16 ∧ ps.Nodup := by
  obtain ⟨i, hi⟩ := ptsK_ins h
  exact ins_bd2 _ hi
theorem fs_ok {c : Ct} (h : GoodC c) {ps : List Pt} (hp : ptsK c.k = some ps) (he : errP c ps = 0) : (fsC c ps).all okF = true := by
  unfold fsC
  rw [List.all_cons, Bool.and_eq_true]
  refine ⟨?_, ?_⟩
  · have := (pts_bd hp).1
    rw [u_id (by omega)]
    unfold okF
    simp only [Bool.and_eq_true, decide_eq_true_eq]
    exact ⟨by decide, by show c.k < Ser.p2 8; rw [p2s.1]; omega⟩
  · rw [List.all_eq_true]
    intro f hf
    obtain ⟨p, hp', hfp⟩ := List.mem_flatMap.1 hf
    exact List.all_eq_true.1 (fp_ok h p (errP_all c ps he p hp')) f hfp
theorem enc_ok {c : Ct} (h : GoodC c) (h0 : chkC c = 0) {ps : List Pt} (hp : ptsK c.k = some ps) (he : errP c ps = 0) : encR c = (c.k :: putL (ps.flatMap (fpC c)), 0) := by
  unfold encR
  rw [if_pos h0, hp, Option.getD_some]
  unfold putR
  rw [if_pos (fs_ok h hp he)]
  have := (pts_bd hp).1
  have e : putL (fsC c ps) = c.k :: putL (ps.flatMap (fpC c)) := by
    unfold fsC
    show numL 1 (u c.k) ++ _ = _
    rw [u_id (by omega)]
    show (c.k % 256 :: []) ++ _ = _
    rw [show c.k % 256 = c.k by omega]; rfl
  rw [e]
theorem fp_parts (c : Ct) (p : Pt) : (fpC c p).map (·.1) = szP p ∧ (fpC c p).map (·.2) = getP p c := by cases p <;> exact ⟨rfl, rfl⟩
/-- The bytes of the parts, taken. -/
theorem dec_put {c : Ct} (hg : GoodC c) : ∀ (ps : List Pt), (∀ p ∈ ps, chkP p c = 0) → ∀ c0, decP ps c0 (putL (ps.flatMap (fpC c))) = (ps.foldl (fun u p => setP p u (getP p c)) c0, [], 0)
  | [], _, c0 => rfl
  | p :: r, h, c0 => by
    have hp := fp_ok hg p (h p (by simp))
    have hf : Fields (fpC c p) := fun f hf => by
      have := fields_fs hg [p] f (by unfold fsC; simp [hf])
      exact this
    have ht := take_put hf hp (putL (r.flatMap (fpC c)))
    rw [(fp_parts c p).1, (fp_parts c p).2] at ht
    rw [List.flatMap_cons, putL_append]
    unfold decP
    rw [ht]
    simp only [if_true]
    rw [dec_put hg r (fun q hq => h q (by simp [hq]))]
    rfl
theorem dec_enc {c : Ct} (h : GoodC c) (h0 : chkC c = 0) : ∃ r, encR c = (c.k :: r, 0) ∧ decR (c.k :: r) = (c, 0) ∧ r.length ≤ 16 ∧ Bytes (c.k :: r) := by
  obtain ⟨ps, hp, hu, he⟩ := chk_zero h0
  refine ⟨_, enc_ok h h0 hp he, ?_, ?_, ?_⟩
  · show decB _ _ = _
    unfold decB
    rw [hp]
    have hd := dec_put h ps (errP_all c ps he) (onlyK c.k)
    have hu' : ps.foldl (fun u p => setP p u (getP p c)) (onlyK c.k) = c := hu.symm
    rw [hu'] at hd
    dsimp only
    rw [hd]
    simp [h0]
  · have hl : ∀ (l : List Pt), ((putL (l.flatMap (fpC c))).length : Int) = (l.map fun p => sumZ (szP p)).sum := by
      intro l
      induction l with
      | nil => rfl
      | cons p r ih =>
        rw [List.flatMap_cons, putL_append, List.length_append, List.map_cons, List.sum_cons, ← ih]
        have : ((putL (fpC c p)).length : Int) = sumZ (szP p) := by cases p <;> simp [fpC, szP, getP, putL, numL_len, sumZ]
        omega
    have := hl ps
    have := (pts_bd hp).2.1
    omega
  · intro z hz
    rcases List.mem_cons.1 hz with rfl | hz
    · have := (pts_bd hp).1; omega
    · exact putL_bytes _ z hz
theorem get_set_other {p q : Pt} (h : q ≠ p) (c : Ct) (ns : List Int) : getP q (setP p c ns) = getP q c := by
  cases p <;> cases q <;> first | rfl | exact absurd rfl h
theorem get_set_same (p : Pt) (c : Ct) (b : List Int) (hb : Bytes b) : getP p (setP p c (numsL b (szP p))) = numsL b (szP p) := by
  have hf := taken_fit (szP p) b (szP_bd p) hb
  have hl := numsL_len b (szP p)
  obtain ⟨q1, q2, q3, q4⟩ := p2s
  generalize numsL b (szP p) = ns at *
  cases p
  · match ns, hl with
    | [z0, z1, z2, z3, z4], _ =>
      have f0 := hf 0 1 z0 rfl rfl
      have f1 := hf 1 2 z1 rfl rfl
      have f2 := hf 2 2 z2 rfl rfl
      have f3 := hf 3 2 z3 rfl rfl
      have f4 := hf 4 2 z4 rfl rfl
      have k0 : z0 < Ser.p2 8 := f0.2
      have k1 : z1 < Ser.p2 16 := f1.2
      have k2 : z2 < Ser.p2 16 := f2.2
      have k3 : z3 < Ser.p2 16 := f3.2
      have k4 : z4 < Ser.p2 16 := f4.2
      show [u (s z0), u (s z1), u (s z2), u (s z3), u (s z4)] = _
      rw [s_id (by omega), s_id (by omega), s_id (by omega), s_id (by omega), s_id (by omega), u_id (by omega), u_id (by omega), u_id (by omega), u_id (by omega), u_id (by omega)]
  · match ns, hl with
    | [z0], _ =>
      have f0 := hf 0 2 z0 rfl rfl
      have k0 : z0 < Ser.p2 16 := f0.2
      show [u (IntKind.u16.wrap z0)] = _
      rw [u16_id (by omega), u_id (by omega)]
  · match ns, hl with
    | [z0], _ =>
      have f0 := hf 0 5 z0 rfl rfl
      show [((z0.toNat : Nat) : Int)] = _
      rw [Int.toNat_of_nonneg f0.1]
  · match ns, hl with
    | [z0], _ =>
      have f0 := hf 0 1 z0 rfl rfl
      have k0 : z0 < Ser.p2 8 := f0.2
      show [u (s z0)] = _
      rw [s_id (by omega), u_id (by omega)]
  · match ns, hl with
    | [z0], _ =>
      have f0 := hf 0 1 z0 rfl rfl
      have k0 : z0 < Ser.p2 8 := f0.2
      show [u (s z0)] = _
      rw [s_id (by omega), u_id (by omega)]
  · match ns, hl with
    | [z0], _ =>
      have f0 := hf 0 1 z0 rfl rfl
      have k0 : z0 < Ser.p2 8 := f0.2
      show [u (s z0)] = _
      rw [s_id (by omega), u_id (by omega)]
  · match ns, hl with
    | [z0], _ =>
      have f0 := hf 0 1 z0 rfl rfl
      have k0 : z0 < Ser.p2 8 := f0.2
      show [u (s z0)] = _
      rw [s_id (by omega), u_id (by omega)]
  · match ns, hl with
    | [z0], _ => rfl
  · match ns, hl with
    | [z0], _ => rfl
  · match ns, hl with
    | [z0], _ => rfl
theorem setP_k (p : Pt) (c : Ct) (ns : List Int) : (setP p c ns).k = c.k := by cases p <;> rfl
theorem dec_inv : ∀ (ps : List Pt) (c0 : Ct) (b : List Int) (c : Ct) (r : List Int), ps.Nodup → Bytes b → GoodC c0 → decP ps c0 b = (c, r, 0) → putL (ps.flatMap (fpC c)) ++ r = b ∧ (∀ q, q ∉ ps → getP q c = getP q c0) ∧ c.k = c0.k ∧ GoodC c
  | [], c0, b, c, r, _, _, hg, h => by
    unfold decP at h
    injection h with h1 h2
    injection h2 with h2 _
    subst h1; subst h2
    exact ⟨rfl, fun _ _ => rfl, rfl, hg⟩
  | p :: ps, c0, b, c, r, hn, hb, hg, h => by
    unfold decP at h
    by_cases h0 : (takeR b (szP p)).2.2 = 0
    · rw [if_pos h0] at h
      obtain ⟨e1, e2⟩ := take_spec h0
      rw [e1, e2] at h
      have hlen : sumZ (szP p) ≤ (b.length : Int) := by
        unfold takeR at h0
        split at h0
        · split at h0
          · cases h0
          · omega
        · cases h0
      obtain ⟨hpn, hn'⟩ := List.nodup_cons.1 hn
      have hg' := setP_good hg p (numsL_len b (szP p)) (nums_bd _ _ (szP_bd p) hb)
      obtain ⟨i1, i2, i3, i4⟩ := dec_inv ps _ _ c r hn' (bytes_drop hb _) hg' h
      have hgp : getP p c = numsL b (szP p) := by rw [i2 p hpn]; exact get_set_same p c0 b hb
      refine ⟨?_, fun q hq => ?_, by rw [i3]; exact setP_k p c0 _, i4⟩
      · rw [List.flatMap_cons, putL_append, List.append_assoc, i1, show fpC c p = (szP p).zip (numsL b (szP p)) by unfold fpC; rw [hgp], put_take _ _ (szP_bd p) hb hlen]
        exact List.take_append_drop _ _
      · rw [List.mem_cons, not_or] at hq
        rw [i2 q hq.2]
        exact get_set_other hq.1 c0 _
    · rw [if_neg h0] at h
      injection h with _ h
      injection h with _ h
      exact absurd h h0
theorem enc_dec {xs : List Int} (hb : Bytes xs) {c : Ct} (h : decR xs = (c, 0)) : GoodC c ∧ encR c = (xs, 0) := by
  cases xs with
  | nil => unfold decR at h; injection h with _ h; cases h
  | cons k b =>
    have h : decB k b = (c, 0) := h
    unfold decB at h
    cases hp : ptsK k with
    | none => rw [hp] at h; injection h with _ h; cases h
    | some ps =>
      rw [hp] at h
      obtain ⟨⟨c', r, x⟩, hd⟩ : ∃ r, decP ps (onlyK k) b = r := ⟨_, rfl⟩
      dsimp only at h
      rw [hd] at h
      dsimp only at h
      have hk := hb k (by simp)
      split at h
      · rename_i hx; injection h with _ h; exact absurd h hx
      · rename_i hx
        split at h
        · injection h with _ h; cases h
        · rename_i hr
          split at h
          · rename_i hc; injection h with _ h; exact absurd h hc
          · rename_i hc
            injection h with h _
            subst h
            have hx : x = 0 := by simpa using hx
            have hr : r = [] := List.eq_nil_of_length_eq_zero (by simpa using hr)
            have hc : chkC c' = 0 := by simpa using hc
            subst hx; subst hr
            obtain ⟨i1, _, i3, i4⟩ := dec_inv ps (onlyK k) b c' [] (pts_bd hp).2.2 (fun z hz => hb z (by simp [hz])) (onlyK_good hk) hd
            have hk' : c'.k = k := i3
            obtain ⟨ps', hp', _, he⟩ := chk_zero hc
            rw [hk', hp] at hp'
            injection hp' with hp'
            subst hp'
            refine ⟨i4, ?_⟩
            rw [enc_ok i4 hc (by rw [hk']; exact hp) he, hk']
            rw [List.append_nil] at i1
            rw [i1]
theorem dec_zero {xs : List Int} {c : Ct} {x : Int} (h : decR xs = (c, x)) (hx : x ≠ 0) : c = zeroC := by
  cases xs with
  | nil => unfold decR at h; injection h with h _; exact h.symm
  | cons k b =>
    have h : decB k b = (c, x) := h
    unfold decB at h
    cases hp : ptsK k with
    | none => rw [hp] at h; injection h with h _; exact h.symm
    | some ps =>
      rw [hp] at h
      simp only at h
      repeat' split at h
      all_goals (injection h with h1 h2; first | exact h1.symm | exact absurd h2.symm hx)
end Go.Proofs.Ytiopeghbpnjcgaa.Cp

/- Control PDUs: which fields a kind uses, by the document; a control PDU without them: contracts over the program. -/
set_option linter.unusedVariables false
set_option linter.unusedSimpArgs false
namespace Go.Proofs.Ytiopeghbpnjcgaa.Cp
open Go.RowKit Mem Oct Rw Av
open Base (thenB)
def usesP (o : Option (List Pt)) : Array Value := match o with
  | none => #[.bool false, .bool false, .bool false, .bool false, .bool false, .bool false, .bool false, .bool false, .bool false, .bool false, .bool false]
  | some ps => #[.bool true, .bool (decide (Pt.up ∈ ps)), .bool (decide (Pt.ch ∈ ps)), .bool (decide (Pt.im ∈ ps)), .bool (decide (Pt.rs ∈ ps)), .bool (decide (Pt.rj ∈ ps)), .bool (decide (Pt.sa ∈ ps)), .bool (decide (Pt.mk ∈ ps)), .bool (decide (Pt.fe ∈ ps)), .bool (decide (Pt.vs ∈ ps)), .bool (decide (Pt.ln ∈ ps))]
set_option maxRecDepth 100000 in
set_option maxHeartbeats 4000000 in
theorem fields_k (k : Int) (w : World) : Calls Try.prog 20 #[.int .i64 k] w fun e w' => e = .returned (.agg (usesP (ptsK k))) ∧ Below w.heap.size w w' := by
  have B0 : Below w.heap.size w (w.alloc (.cells #[.bool false, .bool false, .bool false, .bool false, .bool false, .bool false, .bool false, .bool false, .bool false, .bool false, .bool false] 53)) := (Below.refl _ _).alloc (Nat.le_refl _) _
  have K := Blk.fresh w 53 #[.bool false, .bool false, .bool false, .bool false, .bool false, .bool false, .bool false, .bool false, .bool false, .bool false, .bool false]
  by_cases h0 : k = 0
  · subst h0
    show Calls _ _ _ _ fun e w' => e = .returned (.agg #[.bool true, .bool true, .bool false, .bool true, .bool false, .bool false, .bool false, .bool false, .bool false, .bool false, .bool false]) ∧ Below w.heap.size w w'
    have H1 : (#[.bool true, .bool true, .bool false, .bool true, .bool false, .bool false, .bool false, .bool false, .bool false, .bool false, .bool false] : Array Value).all (·.oneCell') = true := by rw [← Array.all_toList]; rfl
    go_enter Try.func20, Try.ntmps20
    go_upto_region 1 with (fail)
    generalize w.alloc (.cells #[.bool false, .bool false, .bool false, .bool false, .bool false, .bool false, .bool false, .bool false, .bool false, .bool false, .bool false] 53) = W0 at *
    go_wp2_with (refine wpList_store_row rfl 53 (.tmp 2) _ rfl w.heap.size #[.bool true, .bool true, .bool false, .bool true, .bool false, .bool false, .bool false, .bool false, .bool false, .bool false, .bool false] rfl rfl 53 _ K (by kernel_rfl) rfl H1 ?_)
    have KR := setRow_heap W0 w.heap.size _ #[.bool true, .bool true, .bool false, .bool true, .bool false, .bool false, .bool false, .bool false, .bool false, .bool false, .bool false] 53 (0, 0) K
    have BE := below_setRow B0 (Nat.le_refl _) #[.bool true, .bool true, .bool false, .bool true, .bool false, .bool false, .bool false, .bool false, .bool false, .bool false, .bool false]
    generalize W0.setRow w.heap.size #[.bool true, .bool true, .bool false, .bool true, .bool false, .bool false, .bool false, .bool false, .bool false, .bool false, .bool false] = Y at *
    refine bodyPost_ret (v := .agg #[.bool true, .bool true, .bool false, .bool true, .bool false, .bool false, .bool false, .bool false, .bool false, .bool false, .bool false]) ?_ rfl ⟨rfl, BE⟩
    have HL := run_loadVar_row (P := Try.prog) Y w.heap.size 53 53 #[.bool true, .bool true, .bool false, .bool true, .bool false, .bool false, .bool false, .bool false, .bool false, .bool false, .bool false] (0, 0) _ KR Try.underlying53 rfl (by kernel_rfl)
    generalize (#[.bool true, .bool true, .bool false, .bool true, .bool false, .bool false, .bool false, .bool false, .bool false, .bool false, .bool false] : Array Value) = CS at *
    simp [results, show (Try.f20).results = #[.cell 2 53] from rfl, asAddr, HL, Act.put]
  by_cases h1 : k = 1
  · subst h1
    show Calls _ _ _ _ fun e w' => e = .returned (.agg #[.bool true, .bool false, .bool true, .bool true, .bool false, .bool false, .bool false, .bool false, .bool false, .bool false, .bool false]) ∧ Below w.heap.size w w'
    have H1 : (#[.bool true, .bool false, .bool true, .bool true, .bool false, .bool false, .bool false, .bool false, .bool false, .bool false, .bool false] : Array Value).all (·.oneCell') = true := by rw [← Array.all_toList]; rfl
    go_enter Try.func20, Try.ntmps20
    go_upto_region 1 with (fail)
    generalize w.alloc (.cells #[.bool false, .bool false, .bool false, .bool false, .bool false, .bool false, .bool false, .bool false, .bool false, .bool false, .bool false] 53) = W0 at *
    go_wp2_with (refine wpList_store_row rfl 53 (.tmp 2) _ rfl w.heap.size #[.bool true, .bool false, .bool true, .bool true, .bool false, .bool false, .bool false, .bool false, .bool false, .bool false, .bool false] rfl rfl 53 _ K (by kernel_rfl) rfl H1 ?_)
    have KR := setRow_heap W0 w.heap.size _ #[.bool true, .bool false, .bool true, .bool true, .bool false, .bool false, .bool false, .bool false, .bool false, .bool false, .bool false] 53 (0, 0) K
    have BE := below_setRow B0 (Nat.le_refl _) #[.bool true, .bool false, .bool true, .bool true, .bool false, .bool false, .bool false, .bool false, .bool false, .bool false, .bool false]
    generalize W0.setRow w.heap.size #[.bool true, .bool false, .bool true, .bool true, .bool false, .bool false, .bool false, .bool false, .bool false, .bool false, .bool false] = Y at *
    refine bodyPost_ret (v := .agg #[.bool true, .bool false, .bool true, .bool true, .bool false, .bool false, .bool false, .bool false, .bool false, .bool false, .bool false]) ?_ rfl ⟨rfl, BE⟩
    have HL := run_loadVar_row (P := Try.prog) Y w.heap.size 53 53 #[.bool true, .bool false, .bool true, .bool true, .bool false, .bool false, .bool false, .bool false, .bool false, .bool false, .bool false] (0, 0) _ KR Try.underlying53 rfl (by kernel_rfl)
    generalize (#[.bool true, .bool false, .bool true, .bool true, .bool false, .bool false, .bool false, .bool false, .bool false, .bool false, .bool false] : Array Value) = CS at *
    simp [results, show (Try.f20).results = #[.cell 2 53] from rfl, asAddr, HL, Act.put]
  by_cases h2 : k = 2
  · subst h2
    show Calls _ _ _ _ fun e w' => e = .returned (.agg #[.bool true, .bool false, .bool false, .bool false, .bool true, .bool false, .bool false, .bool false, .bool false, .bool false, .bool false]) ∧ Below w.heap.size w w'
    have H1 : (#[.bool true, .bool false, .bool false, .bool false, .bool true, .bool false, .bool false, .bool false, .bool false, .bool false, .bool false] : Array Value).all (·.oneCell') = true := by rw [← Array.all_toList]; rfl
    go_enter Try.func20, Try.ntmps20
    go_upto_region 1 with (fail)
    generalize w.alloc (.cells #[.bool false, .bool false, .bool false, .bool false, .bool false, .bool false, .bool false, .bool false, .bool false, .bool false, .bool false] 53) = W0 at *
    go_wp2_with (refine wpList_store_row rfl 53 (.tmp 2) _ rfl w.heap.size #[.bool true, .bool false, .bool false, .bool false, .bool true, .bool false, .bool false, .bool false, .bool false, .bool false, .bool false] rfl rfl 53 _ K (by kernel_rfl) rfl H1 ?_)
    have KR := setRow_heap W0 w.heap.size _ #[.bool true, .bool false, .bool false, .bool false, .bool true, .bool false, .bool false, .bool false, .bool false, .bool false, .bool false] 53 (0, 0) K
    have BE := below_setRow B0 (Nat.le_refl _) #[.bool true, .bool false, .bool false, .bool false, .bool true, .bool false, .bool false, .bool false, .bool false, .bool false, .bool false]
    generalize W0.setRow w.heap.size #[.bool true, .bool false, .bool false, .bool false, .bool true, .bool false, .bool false, .bool false, .bool false, .bool false, .bool false] = Y at *
    refine bodyPost_ret (v := .agg #[.bool true, .bool false, .bool false, .bool false, .bool true, .bool false, .bool false, .bool false, .bool false, .bool false, .bool false]) ?_ rfl ⟨rfl, BE⟩
    have HL := run_loadVar_row (P := Try.prog) Y w.heap.size 53 53 #[.bool true, .bool false, .bool false, .bool false, .bool true, .bool false, .bool false, .bool false, .bool false, .bool false, .bool false] (0, 0) _ KR Try.underlying53 rfl (by kernel_rfl)
    generalize (#[.bool true, .bool false, .bool false, .bool false, .bool true, .bool false, .bool false, .bool false, .bool false, .bool false, .bool false] : Array Value) = CS at *
    simp [results, show (Try.f20).results = #[.cell 2 53] from rfl, asAddr, HL, Act.put]
  by_cases h3 : k = 3
  · subst h3
    show Calls _ _ _ _ fun e w' => e = .returned (.agg #[.bool true, .bool false, .bool false, .bool false, .bool false, .bool false, .bool true, .bool true, .bool false, .bool false, .bool false]) ∧ Below w.heap.size w w'
    have H1 : (#[.bool true, .bool false, .bool false, .bool false, .bool false, .bool false, .bool true, .bool true, .bool false, .bool false, .bool false] : Array Value).all (·.oneCell') = true := by rw [← Array.all_toList]; rfl
    go_enter Try.func20, Try.ntmps20
    go_upto_region 1 with (fail)
    generalize w.alloc (.cells #[.bool false, .bool false, .bool false, .bool false, .bool false, .bool false, .bool false, .bool false, .bool false, .bool false, .bool false] 53) = W0 at *
    go_wp2_with (refine wpList_store_row rfl 53 (.tmp 2) _ rfl w.heap.size #[.bool true, .bool false, .bool false, .bool false, .bool false, .bool false, .bool true, .bool true, .bool false, .bool false, .bool false] rfl rfl 53 _ K (by kernel_rfl) rfl H1 ?_)
    have KR := setRow_heap W0 w.heap.size _ #[.bool true, .bool false, .bool false, .bool false, .bool false, .bool false, .bool true, .bool true, .bool false, .bool false, .bool false] 53 (0, 0) K
    have BE := below_setRow B0 (Nat.le_refl _) #[.bool true, .bool false, .bool false, .bool false, .bool false, .bool false, .bool true, .bool true, .bool false, .bool false, .bool false]
    generalize W0.setRow w.heap.size #[.bool true, .bool false, .bool false, .bool false, .bool false, .bool false, .bool true, .bool true, .bool false, .bool false, .bool false] = Y at *
    refine bodyPost_ret (v := .agg #[.bool true, .bool false, .bool false, .bool false, .bool false, .bool false, .bool true, .bool true, .bool false, .bool false, .bool false]) ?_ rfl ⟨rfl, BE⟩
    have HL := run_loadVar_row (P := Try.prog) Y w.heap.size 53 53 #[.bool true, .bool false, .bool false, .bool false, .bool false, .bool false, .bool true, .bool true, .bool false, .bool false, .bool false] (0, 0) _ KR Try.underlying53 rfl (by kernel_rfl)
    generalize (#[.bool true, .bool false, .bool false, .bool false, .bool false, .bool false, .bool true, .bool true, .bool false, .bool false, .bool false] : Array Value) = CS at *
    simp [results, show (Try.f20).results = #[.cell 2 53] from rfl, asAddr, HL, Act.put]
  by_cases h4 : k = 4
  · subst h4
    show Calls _ _ _ _ fun e w' => e = .returned (.agg #[.bool true, .bool false, .bool false, .bool false, .bool false, .bool false, .bool true, .bool false, .bool false, .bool false, .bool false]) ∧ Below w.heap.size w w'
    have H1 : (#[.bool true, .bool false, .bool false, .bool false, .bool false, .bool false, .bool true, .bool false, .bool false, .bool false, .bool false] : Array Value).all (·.oneCell') = true := by rw [← Array.all_toList]; rfl
    go_enter Try.func20, Try.ntmps20
    go_upto_region 1 with (fail)
    generalize w.alloc (.cells #[.bool false, .bool false, .bool false, .bool false, .bool false, .bool false, .bool false, .bool false, .bool false, .bool false, .bool false] 53) = W0 at *
    go_wp2_with (refine wpList_store_row rfl 53 (.tmp 2) _ rfl w.heap.size #[.bool true, .bool false, .bool false, .bool false, .bool false, .bool false, .bool true, .bool false, .bool false, .bool false, .bool false] rfl rfl 53 _ K (by kernel_rfl) rfl H1 ?_)
    have KR := setRow_heap W0 w.heap.size _ #[.bool true, .bool false, .bool false, .bool false, .bool false, .bool false, .bool true, .bool false, .bool false, .bool false, .bool false] 53 (0, 0) K
    have BE := below_setRow B0 (Nat.le_refl _) #[.bool true, .bool false, .bool false, .bool false, .bool false, .bool false, .bool true, .bool false, .bool false, .bool false, .bool false]
    generalize W0.setRow w.heap.size #[.bool true, .bool false, .bool false, .bool false, .bool false, .bool false, .bool true, .bool false, .bool false, .bool false, .bool false] = Y at *
    refine bodyPost_ret (v := .agg #[.bool true, .bool false, .bool false, .bool false, .bool false, .bool false, .bool true, .bool false, .bool false, .bool false, .bool false]) ?_ rfl ⟨rfl, BE⟩
    have HL := run_loadVar_row (P := Try.prog) Y w.heap.size 53 53 #[.bool true, .bool false, .bool false, .bool false, .bool false, .bool false, .bool true, .bool false, .bool false, .bool false, .bool false] (0, 0) _ KR Try.underlying53 rfl (by kernel_rfl)
    generalize (#[.bool true, .bool false, .bool false, .bool false, .bool false, .bool false, .bool true, .bool false, .bool false, .bool false, .bool false] : Array Value) = CS at *
    simp [results, show (Try.f20).results = #[.cell 2 53] from rfl, asAddr, HL, Act.put]
  by_cases h5 : k = 5
  · subst h5
    show Calls _ _ _ _ fun e w' => e = .returned (.agg #[.bool true, .bool false, .bool false, .bool false, .bool false, .bool false, .bool false, .bool false, .bool false, .bool false, .bool false]) ∧ Below w.heap.size w w'
    have H1 : (#[.bool true, .bool false, .bool false, .bool false, .bool false, .bool false, .bool false, .bool false, .bool false, .bool false, .bool false] : Array Value).all (·.oneCell') = true := by rw [← Array.all_toList]; rfl
    go_enter Try.func20, Try.ntmps20
    go_upto_region 1 with (fail)
    generalize w.alloc (.cells #[.bool false, .bool false, .bool false, .bool false, .bool false, .bool false, .bool false, .bool false, .bool false, .bool false, .bool false] 53) = W0 at *
    go_wp2_with (refine wpList_store_row rfl 53 (.tmp 2) _ rfl w.heap.size #[.bool true, .bool false, .bool false, .bool false, .bool false, .bool false, .bool false, .bool false, .bool false, .bool false, .bool false] rfl rfl 53 _ K (by kernel_rfl) rfl H1 ?_)
    have KR := setRow_heap W0 w.heap.size _ #[.bool true, .bool false, .bool false, .bool false, .bool false, .bool false, .bool false, .bool false, .bool false, .bool false, .bool false] 53 (0, 0) K
    have BE := below_setRow B0 (Nat.le_refl _) #[.bool true, .bool false, .bool false, .bool false, .bool false, .bool false, .bool false, .bool false, .bool false, .bool false, .bool false]
    generalize W0.setRow w.heap.size #[.bool true, .bool false, .bool false, .bool false, .bool false, .bool false, .bool false, .bool false, .bool false, .bool false, .bool false] = Y at *
    refine bodyPost_ret (v := .agg #[.bool true, .bool false, .bool false, .bool false, .bool false, .bool false, .bool false, .bool false, .bool false, .bool false, .bool false]) ?_ rfl ⟨rfl, BE⟩
    have HL := run_loadVar_row (P := Try.prog) Y w.heap.size 53 53 #[.bool true, .bool false, .bool false, .bool false, .bool false, .bool false, .bool false, .bool false, .bool false, .bool false, .bool false] (0, 0) _ KR Try.underlying53 rfl (by kernel_rfl)
    generalize (#[.bool true, .bool false, .bool false, .bool false, .bool false, .bool false, .bool false, .bool false, .bool false, .bool false, .bool false] : Array Value) = CS at *
    simp [results, show (Try.f20).results = #[.cell 2 53] from rfl, asAddr, HL, Act.put]
  by_cases h6 : k = 6
  · subst h6
    show Calls _ _ _ _ fun e w' => e = .returned (.agg #[.bool true, .bool false, .bool false, .bool false, .bool false, .bool false, .bool false, .bool false, .bool false, .bool false, .bool false]) ∧ Below w.heap.size w w'
    have H1 : (#[.bool true, .bool false, .bool false, .bool false, .bool false, .bool false, .bool false, .bool false, .bool false, .bool false, .bool false] : Array Value).all (·.oneCell') = true := by rw [← Array.all_toList]; rfl
    go_enter Try.func20, Try.ntmps20
    go_upto_region 1 with (fail)
    generalize w.alloc (.cells #[.bool false, .bool false, .bool false, .bool false, .bool false, .bool false, .bool false, .bool false, .bool false, .bool false, .bool false] 53) = W0 at *
    go_wp2_with (refine wpList_store_row rfl 53 (.tmp 2) _ rfl w.heap.size #[.bool true, .bool false, .bool false, .bool false, .bool false, .bool false, .bool false, .bool false, .bool false, .bool false, .bool false] rfl rfl 53 _ K (by kernel_rfl) rfl H1 ?_)
    have KR := setRow_heap W0 w.heap.size _ #[.bool true, .bool false, .bool false, .bool false, .bool false, .bool false, .bool false, .bool false, .bool false, .bool false, .bool false] 53 (0, 0) K
    have BE := below_setRow B0 (Nat.le_refl _) #[.bool true, .bool false, .bool false, .bool false, .bool false, .bool false, .bool false, .bool false, .bool false, .bool false, .bool false]
    generalize W0.setRow w.heap.size #[.bool true, .bool false, .bool false, .bool false, .bool false, .bool false, .bool false, .bool false, .bool false, .bool false, .bool false] = Y at *
    refine bodyPost_ret (v := .agg #[.bool true, .bool false, .bool false, .bool false, .bool false, .bool false, .bool false, .bool false, .bool false, .bool false, .bool false]) ?_ rfl ⟨rfl, BE⟩
    have HL := run_loadVar_row (P := Try.prog) Y w.heap.size 53 53 #[.bool true, .bool false, .bool false, .bool false, .bool false, .bool false, .bool false, .bool false, .bool false, .bool false, .bool false] (0, 0) _ KR Try.underlying53 rfl (by kernel_rfl)
    generalize (#[.bool true, .bool false, .bool false, .bool false, .bool false, .bool false, .bool false, .bool false, .bool false, .bool false, .bool false] : Array Value) = CS at *
    simp [results, show (Try.f20).results = #[.cell 2 53] from rfl, asAddr, HL, Act.put]
  by_cases h7 : k = 7
  · subst h7
    show Calls _ _ _ _ fun e w' => e = .returned (.agg #[.bool true, .bool false, .bool false, .bool false, .bool false, .bool true, .bool false, .bool false, .bool false, .bool false, .bool false]) ∧ Below w.heap.size w w'
    have H1 : (#[.bool true, .bool false, .bool false, .bool false, .bool false, .bool true, .bool false, .bool false, .bool false, .bool false, .bool false] : Array Value).all (·.oneCell') = true := by rw [← Array.all_toList]; rfl
    go_enter Try.func20, Try.ntmps20
    go_upto_region 1 with (fail)
    generalize w.alloc (.cells #[.bool false, .bool false, .bool false, .bool false, .bool false, .bool false, .bool false, .bool false, .bool false, .bool false, .bool false] 53) = W0 at *
    go_wp2_with (refine wpList_store_row rfl 53 (.tmp 2) _ rfl w.heap.size #[.bool true, .bool false, .bool false, .bool false, .bool false, .bool true, .bool false, .bool false, .bool false, .bool false, .bool false] rfl rfl 53 _ K (by kernel_rfl) rfl H1 ?_)
    have KR := setRow_heap W0 w.heap.size _ #[.bool true, .bool false, .bool false, .bool false, .bool false, .bool true, .bool false, .bool false, .bool false, .bool false, .bool false] 53 (0, 0) K
    have BE := below_setRow B0 (Nat.le_refl _) #[.bool true, .bool false, .bool false, .bool false, .bool false, .bool true, .bool false, .bool false, .bool false, .bool false, .bool false]
    generalize W0.setRow w.heap.size #[.bool true, .bool false, .bool false, .bool false, .bool false, .bool true, .bool false, .bool false, .bool false, .bool false, .bool false] = Y at *
    refine bodyPost_ret (v := .agg #[.bool true, .bool false, .bool false, .bool false, .bool false, .bool true, .bool false, .bool false, .bool false, .bool false, .bool false]) ?_ rfl ⟨rfl, BE⟩
    have HL := run_loadVar_row (P := Try.prog) Y w.heap.size 53 53 #[.bool true, .bool false, .bool false, .bool false, .bool false, .bool true, .bool false, .bool false, .bool false, .bool false, .bool false] (0, 0) _ KR Try.underlying53 rfl (by kernel_rfl)
    generalize (#[.bool true, .bool false, .bool false, .bool false, .bool false, .bool true, .bool false, .bool false, .bool false, .bool false, .bool false] : Array Value) = CS at *
    simp [results, show (Try.f20).results = #[.cell 2 53] from rfl, asAddr, HL, Act.put]
  by_cases h8 : k = 8
  · subst h8
    show Calls _ _ _ _ fun e w' => e = .returned (.agg #[.bool true, .bool false, .bool false, .bool false, .bool false, .bool false, .bool false, .bool false, .bool true, .bool false, .bool false]) ∧ Below w.heap.size w w'
    have H1 : (#[.bool true, .bool false, .bool false, .bool false, .bool false, .bool false, .bool false, .bool false, .bool true, .bool false, .bool false] : Array Value).all (·.oneCell') = true := by rw [← Array.all_toList]; rfl
    go_enter Try.func20, Try.ntmps20
    go_upto_region 1 with (fail)
    generalize w.alloc (.cells #[.bool false, .bool false, .bool false, .bool false, .bool false, .bool false, .bool false, .bool false, .bool false, .bool false, .bool false] 53) = W0 at *
    go_wp2_with (refine wpList_store_row rfl 53 (.tmp 2) _ rfl w.heap.size #[.bool true, .bool false, .bool false, .bool false, .bool false, .bool false, .bool false, .bool false, .bool true, .bool false, .bool false] rfl rfl 53 _ K (by kernel_rfl) rfl H1 ?_)
    have KR := setRow_heap W0 w.heap.size _ #[.bool true, .bool false, .bool false, .bool false, .bool false, .bool false, .bool false, .bool false, .bool true, .bool false, .bool false] 53 (0, 0) K
    have BE := below_setRow B0 (Nat.le_refl _) #[.bool true, .bool false, .bool false, .bool false, .bool false, .bool false, .bool false, .bool false, .bool true, .bool false, .bool false]
    generalize W0.setRow w.heap.size #[.bool true, .bool false, .bool false, .bool false, .bool false, .bool false, .bool false, .bool false, .bool true, .bool false, .bool false] = Y at *
    refine bodyPost_ret (v := .agg #[.bool true, .bool false, .bool false, .bool false, .bool false, .bool false, .bool false, .bool false, .bool true, .bool false, .bool false]) ?_ rfl ⟨rfl, BE⟩
    have HL := run_loadVar_row (P := Try.prog) Y w.heap.size 53 53 #[.bool true, .bool false, .bool false, .bool false, .bool false, .bool false, .bool false, .bool false, .bool true, .bool false, .bool false] (0, 0) _ KR Try.underlying53 rfl (by kernel_rfl)
    generalize (#[.bool true, .bool false, .bool false, .bool false, .bool false, .bool false, .bool false, .bool false, .bool true, .bool false, .bool false] : Array Value) = CS at *
    simp [results, show (Try.f20).results = #[.cell 2 53] from rfl, asAddr, HL, Act.put]
  by_cases h9 : k = 9
  · subst h9
    show Calls _ _ _ _ fun e w' => e = .returned (.agg #[.bool true, .bool false, .bool false, .bool false, .bool false, .bool false, .bool false, .bool false, .bool true, .bool false, .bool false]) ∧ Below w.heap.size w w'
    have H1 : (#[.bool true, .bool false, .bool false, .bool false, .bool false, .bool false, .bool false, .bool false, .bool true, .bool false, .bool false] : Array Value).all (·.oneCell') = true := by rw [← Array.all_toList]; rfl
    go_enter Try.func20, Try.ntmps20
    go_upto_region 1 with (fail)
    generalize w.alloc (.cells #[.bool false, .bool false, .bool false, .bool false, .bool false, .bool false, .bool false, .bool false, .bool false, .bool false, .bool false] 53) = W0 at *
    go_wp2_with (refine wpList_store_row rfl 53 (.tmp 2) _ rfl w.heap.size #[.bool true, .bool false, .bool false, .bool false, .bool false, .bool false, .bool false, .bool false, .bool true, .bool false, .bool false] rfl rfl 53 _ K (by kernel_rfl) rfl H1 ?_)
    have KR := setRow_heap W0 w.heap.size _ #[.bool true, .bool false, .bool false, .bool false, .bool false, .bool false, .bool false, .bool false, .bool true, .bool false, .bool false] 53 (0, 0) K
    have BE := below_setRow B0 (Nat.le_refl _) #[.bool true, .bool false, .bool false, .bool false, .bool false, .bool false, .bool false, .bool false, .bool true, .bool false, .bool false]
    generalize W0.setRow w.heap.size #[.bool true, .bool false, .bool false, .bool false, .bool false, .bool false, .bool false, .bool false, .bool true, .bool false, .bool false] = Y at *
    refine bodyPost_ret (v := .agg #[.bool true, .bool false, .bool false, .bool false, .bool false, .bool false, .bool false, .bool false, .bool true, .bool false, .bool false]) ?_ rfl ⟨rfl, BE⟩
    have HL := run_loadVar_row (P := Try.prog) Y w.heap.size 53 53 #[.bool true, .bool false, .bool false, .bool false, .bool false, .bool false, .bool false, .bool false, .bool true, .bool false, .bool false] (0, 0) _ KR Try.underlying53 rfl (by kernel_rfl)
    generalize (#[.bool true, .bool false, .bool false, .bool false, .bool false, .bool false, .bool false, .bool false, .bool true, .bool false, .bool false] : Array Value) = CS at *
    simp [results, show (Try.f20).results = #[.cell 2 53] from rfl, asAddr, HL, Act.put]
  by_cases h12 : k = 12
  · subst h12
    show Calls _ _ _ _ fun e w' => e = .returned (.agg #[.bool true, .bool false, .bool false, .bool false, .bool false, .bool false, .bool false, .bool false, .bool false, .bool true, .bool false]) ∧ Below w.heap.size w w'
    have H1 : (#[.bool true, .bool false, .bool false, .bool false, .bool false, .bool false, .bool false, .bool false, .bool false, .bool true, .bool false] : Array Value).all (·.oneCell') = true := by rw [← Array.all_toList]; rfl
    go_enter Try.func20, Try.ntmps20
    go_upto_region 1 with (fail)
    generalize w.alloc (.cells #[.bool false, .bool false, .bool false, .bool false, .bool false, .bool false, .bool false, .bool false, .bool false, .bool false, .bool false] 53) = W0 at *
    go_wp2_with (refine wpList_store_row rfl 53 (.tmp 2) _ rfl w.heap.size #[.bool true, .bool false, .bool false, .bool false, .bool false, .bool false, .bool false, .bool false, .bool false, .bool true, .bool false] rfl rfl 53 _ K (by kernel_rfl) rfl H1 ?_)
    have KR := setRow_heap W0 w.heap.size _ #[.bool true, .bool false, .bool false, .bool false, .bool false, .bool false, .bool false, .bool false, .bool false, .bool true, .bool false] 53 (0, 0) K
    have BE := below_setRow B0 (Nat.le_refl _) #[.bool true, .bool false, .bool false, .bool false, .bool false, .bool false, .bool false, .bool false, .bool false, .bool true, .bool false]
    generalize W0.setRow w.heap.size #[.bool true, .bool false, .bool false, .bool false, .bool false, .bool false, .bool false, .bool false, .bool false, .bool true, .bool false] = Y at *
    refine bodyPost_ret (v := .agg #[.bool true, .bool false, .bool false, .bool false, .bool false, .bool false, .bool false, .bool false, .bool false, .bool true, .bool false]) ?_ rfl ⟨rfl, BE⟩
    have HL := run_loadVar_row (P := Try.prog) Y w.heap.size 53 53 #[.bool true, .bool false, .bool false, .bool false, .bool false, .bool false, .bool false, .bool false, .bool false, .bool true, .bool false] (0, 0) _ KR Try.underlying53 rfl (by kernel_rfl)
    generalize (#[.bool true, .bool false, .bool false, .bool false, .bool false, .bool false, .bool false, .bool false, .bool false, .bool true, .bool false] : Array Value) = CS at *
    simp [results, show (Try.f20).results = #[.cell 2 53] from rfl, asAddr, HL, Act.put]
  by_cases h13 : k = 13
  · subst h13
    show Calls _ _ _ _ fun e w' => e = .returned (.agg #[.bool true, .bool false, .bool false, .bool false, .bool true, .bool true, .bool false, .bool false, .bool false, .bool false, .bool false]) ∧ Below w.heap.size w w'
    have H1 : (#[.bool true, .bool false, .bool false, .bool false, .bool true, .bool true, .bool false, .bool false, .bool false, .bool false, .bool false] : Array Value).all (·.oneCell') = true := by rw [← Array.all_toList]; rfl
    go_enter Try.func20, Try.ntmps20
    go_upto_region 1 with (fail)
    generalize w.alloc (.cells #[.bool false, .bool false, .bool false, .bool false, .bool false, .bool false, .bool false, .bool false, .bool false, .bool false, .bool false] 53) = W0 at *
    go_wp2_with (refine wpList_store_row rfl 53 (.tmp 2) _ rfl w.heap.size #[.bool true, .bool false, .bool false, .bool false, .bool true, .bool true, .bool false, .bool false, .bool false, .bool false, .bool false] rfl rfl 53 _ K (by kernel_rfl) rfl H1 ?_)
    have KR := setRow_heap W0 w.heap.size _ #[.bool true, .bool false, .bool false, .bool false, .bool true, .bool true, .bool false, .bool false, .bool false, .bool false, .bool false] 53 (0, 0) K
    have BE := below_setRow B0 (Nat.le_refl _) #[.bool true, .bool false, .bool false, .bool false, .bool true, .bool true, .bool false, .bool false, .bool false, .bool false, .bool false]
    generalize W0.setRow w.heap.size #[.bool true, .bool false, .bool false, .bool false, .bool true, .bool true, .bool false, .bool false, .bool false, .bool false, .bool false] = Y at *
    refine bodyPost_ret (v := .agg #[.bool true, .bool false, .bool false, .bool false, .bool true, .bool true, .bool false, .bool false, .bool false, .bool false, .bool false]) ?_ rfl ⟨rfl, BE⟩
    have HL := run_loadVar_row (P := Try.prog) Y w.heap.size 53 53 #[.bool true, .bool false, .bool false, .bool false, .bool true, .bool true, .bool false, .bool false, .bool false, .bool false, .bool false] (0, 0) _ KR Try.underlying53 rfl (by kernel_rfl)
    generalize (#[.bool true, .bool false, .bool false, .bool false, .bool true, .bool true, .bool false, .bool false, .bool false, .bool false, .bool false] : Array Value) = CS at *
    simp [results, show (Try.f20).results = #[.cell 2 53] from rfl, asAddr, HL, Act.put]
  by_cases h15 : k = 15
  · subst h15
    show Calls _ _ _ _ fun e w' => e = .returned (.agg #[.bool true, .bool true, .bool false, .bool false, .bool false, .bool false, .bool false, .bool false, .bool false, .bool false, .bool false]) ∧ Below w.heap.size w w'
    have H1 : (#[.bool true, .bool true, .bool false, .bool false, .bool false, .bool false, .bool false, .bool false, .bool false, .bool false, .bool false] : Array Value).all (·.oneCell') = true := by rw [← Array.all_toList]; rfl
    go_enter Try.func20, Try.ntmps20
    go_upto_region 1 with (fail)
    generalize w.alloc (.cells #[.bool false, .bool false, .bool false, .bool false, .bool false, .bool false, .bool false, .bool false, .bool false, .bool false, .bool false] 53) = W0 at *
    go_wp2_with (refine wpList_store_row rfl 53 (.tmp 2) _ rfl w.heap.size #[.bool true, .bool true, .bool false, .bool false, .bool false, .bool false, .bool false, .bool false, .bool false, .bool false, .bool false] rfl rfl 53 _ K (by kernel_rfl) rfl H1 ?_)
    have KR := setRow_heap W0 w.heap.size _ #[.bool true, .bool true, .bool false, .bool false, .bool false, .bool false, .bool false, .bool false, .bool false, .bool false, .bool false] 53 (0, 0) K
    have BE := below_setRow B0 (Nat.le_refl _) #[.bool true, .bool true, .bool false, .bool false, .bool false, .bool false, .bool false, .bool false, .bool false, .bool false, .bool false]
    generalize W0.setRow w.heap.size #[.bool true, .bool true, .bool false, .bool false, .bool false, .bool false, .bool false, .bool false, .bool false, .bool false, .bool false] = Y at *
    refine bodyPost_ret (v := .agg #[.bool true, .bool true, .bool false, .bool false, .bool false, .bool false, .bool false, .bool false, .bool false, .bool false, .bool false]) ?_ rfl ⟨rfl, BE⟩
    have HL := run_loadVar_row (P := Try.prog) Y w.heap.size 53 53 #[.bool true, .bool true, .bool false, .bool false, .bool false, .bool false, .bool false, .bool false, .bool false, .bool false, .bool false] (0, 0) _ KR Try.underlying53 rfl (by kernel_rfl)
    generalize (#[.bool true, .bool true, .bool false, .bool false, .bool false, .bool false, .bool false, .bool false, .bool false, .bool false, .bool false] : Array Value) = CS at *
    simp [results, show (Try.f20).results = #[.cell 2 53] from rfl, asAddr, HL, Act.put]
  by_cases h18 : k = 18
  · subst h18
    show Calls _ _ _ _ fun e w' => e = .returned (.agg #[.bool true, .bool false, .bool false, .bool false, .bool false, .bool false, .bool false, .bool false, .bool false, .bool false, .bool false]) ∧ Below w.heap.size w w'
    have H1 : (#[.bool true, .bool false, .bool false, .bool false, .bool false, .bool false, .bool false, .bool false, .bool false, .bool false, .bool false] : Array Value).all (·.oneCell') = true := by rw [← Array.all_toList]; rfl
    go_enter Try.func20, Try.ntmps20
    go_upto_region 1 with (fail)
    generalize w.alloc (.cells #[.bool false, .bool false, .bool false, .bool false, .bool false, .bool false, .bool false, .bool false, .bool false, .bool false, .bool false] 53) = W0 at *
    go_wp2_with (refine wpList_store_row rfl 53 (.tmp 2) _ rfl w.heap.size #[.bool true, .bool false, .bool false, .bool false, .bool false, .bool false, .bool false, .bool false, .bool false, .bool false, .bool false] rfl rfl 53 _ K (by kernel_rfl) rfl H1 ?_)
    have KR := setRow_heap W0 w.heap.size _ #[.bool true, .bool false, .bool false, .bool false, .bool false, .bool false, .bool false, .bool false, .bool false, .bool false, .bool false] 53 (0, 0) K
    have BE := below_setRow B0 (Nat.le_refl _) #[.bool true, .bool false, .bool false, .bool false, .bool false, .bool false, .bool false, .bool false, .bool false, .bool false, .bool false]
    generalize W0.setRow w.heap.size #[.bool true, .bool false, .bool false, .bool false, .bool false, .bool false, .bool false, .bool false, .bool false, .bool false, .bool false] = Y at *
    refine bodyPost_ret (v := .agg #[.bool true, .bool false, .bool false, .bool false, .bool false, .bool false, .bool false, .bool false, .bool false, .bool false, .bool false]) ?_ rfl ⟨rfl, BE⟩
    have HL := run_loadVar_row (P := Try.prog) Y w.heap.size 53 53 #[.bool true, .bool false, .bool false, .bool false, .bool false, .bool false, .bool false, .bool false, .bool false, .bool false, .bool false] (0, 0) _ KR Try.underlying53 rfl (by kernel_rfl)
    generalize (#[.bool true, .bool false, .bool false, .bool false, .bool false, .bool false, .bool false, .bool false, .bool false, .bool false, .bool false] : Array Value) = CS at *
    simp [results, show (Try.f20).results = #[.cell 2 53] from rfl, asAddr, HL, Act.put]
  by_cases h19 : k = 19
  · subst h19
    show Calls _ _ _ _ fun e w' => e = .returned (.agg #[.bool true, .bool false, .bool false, .bool false, .bool false, .bool false, .bool false, .bool false, .bool false, .bool false, .bool false]) ∧ Below w.heap.size w w'
    have H1 : (#[.bool true, .bool false, .bool false, .bool false, .bool false, .bool false, .bool false, .bool false, .bool false, .bool false, .bool false] : Array Value).all (·.oneCell') = true := by rw [← Array.all_toList]; rfl
    go_enter Try.func20, Try.ntmps20
    go_upto_region 1 with (fail)
    generalize w.alloc (.cells #[.bool false, .bool false, .bool false, .bool false, .bool false, .bool false, .bool false, .bool false, .bool false, .bool false, .bool false] 53) = W0 at *
    go_wp2_with (refine wpList_store_row rfl 53 (.tmp 2) _ rfl w.heap.size #[.bool true, .bool false, .bool false, .bool false, .bool false, .bool false, .bool false, .bool false, .bool false, .bool false, .bool false] rfl rfl 53 _ K (by kernel_rfl) rfl H1 ?_)
    have KR := setRow_heap W0 w.heap.size _ #[.bool true, .bool false, .bool false, .bool false, .bool false, .bool false, .bool false, .bool false, .bool false, .bool false, .bool false] 53 (0, 0) K
    have BE := below_setRow B0 (Nat.le_refl _) #[.bool true, .bool false, .bool false, .bool false, .bool false, .bool false, .bool false, .bool false, .bool false, .bool false, .bool false]
    generalize W0.setRow w.heap.size #[.bool true, .bool false, .bool false, .bool false, .bool false, .bool false, .bool false, .bool false, .bool false, .bool false, .bool false] = Y at *
    refine bodyPost_ret (v := .agg #[.bool true, .bool false, .bool false, .bool false, .bool false, .bool false, .bool false, .bool false, .bool false, .bool false, .bool false]) ?_ rfl ⟨rfl, BE⟩
    have HL := run_loadVar_row (P := Try.prog) Y w.heap.size 53 53 #[.bool true, .bool false, .bool false, .bool false, .bool false, .bool false, .bool false, .bool false, .bool false, .bool false, .bool false] (0, 0) _ KR Try.underlying53 rfl (by kernel_rfl)
    generalize (#[.bool true, .bool false, .bool false, .bool false, .bool false, .bool false, .bool false, .bool false, .bool false, .bool false, .bool false] : Array Value) = CS at *
    simp [results, show (Try.f20).results = #[.cell 2 53] from rfl, asAddr, HL, Act.put]
  by_cases h20 : k = 20
  · subst h20
    show Calls _ _ _ _ fun e w' => e = .returned (.agg #[.bool true, .bool false, .bool false, .bool false, .bool false, .bool false, .bool false, .bool false, .bool false, .bool false, .bool true]) ∧ Below w.heap.size w w'
    have H1 : (#[.bool true, .bool false, .bool false, .bool false, .bool false, .bool false, .bool false, .bool false, .bool false, .bool false, .bool true] : Array Value).all (·.oneCell') = true := by rw [← Array.all_toList]; rfl
    go_enter Try.func20, Try.ntmps20
    go_upto_region 1 with (fail)
    generalize w.alloc (.cells #[.bool false, .bool false, .bool false, .bool false, .bool false, .bool false, .bool false, .bool false, .bool false, .bool false, .bool false] 53) = W0 at *
    go_wp2_with (refine wpList_store_row rfl 53 (.tmp 2) _ rfl w.heap.size #[.bool true, .bool false, .bool false, .bool false, .bool false, .bool false, .bool false, .bool false, .bool false, .bool false, .bool true] rfl rfl 53 _ K (by kernel_rfl) rfl H1 ?_)
    have KR := setRow_heap W0 w.heap.size _ #[.bool true, .bool false, .bool false, .bool false, .bool false, .bool false, .bool false, .bool false, .bool false, .bool false, .bool true] 53 (0, 0) K
    have BE := below_setRow B0 (Nat.le_refl _) #[.bool true, .bool false, .bool false, .bool false, .bool false, .bool false, .bool false, .bool false, .bool false, .bool false, .bool true]
    generalize W0.setRow w.heap.size #[.bool true, .bool false, .bool false, .bool false, .bool false, .bool false, .bool false, .bool false, .bool false, .bool false, .bool true] = Y at *
    refine bodyPost_ret (v := .agg #[.bool true, .bool false, .bool false, .bool false, .bool false, .bool false, .bool false, .bool false, .bool false, .bool false, .bool true]) ?_ rfl ⟨rfl, BE⟩
    have HL := run_loadVar_row (P := Try.prog) Y w.heap.size 53 53 #[.bool true, .bool false, .bool false, .bool false, .bool false, .bool false, .bool false, .bool false, .bool false, .bool false, .bool true] (0, 0) _ KR Try.underlying53 rfl (by kernel_rfl)
    generalize (#[.bool true, .bool false, .bool false, .bool false, .bool false, .bool false, .bool false, .bool false, .bool false, .bool false, .bool true] : Array Value) = CS at *
    simp [results, show (Try.f20).results = #[.cell 2 53] from rfl, asAddr, HL, Act.put]
  by_cases h21 : k = 21
  · subst h21
    show Calls _ _ _ _ fun e w' => e = .returned (.agg #[.bool true, .bool false, .bool false, .bool false, .bool false, .bool false, .bool false, .bool false, .bool false, .bool false, .bool true]) ∧ Below w.heap.size w w'
    have H1 : (#[.bool true, .bool false, .bool false, .bool false, .bool false, .bool false, .bool false, .bool false, .bool false, .bool false, .bool true] : Array Value).all (·.oneCell') = true := by rw [← Array.all_toList]; rfl
    go_enter Try.func20, Try.ntmps20
    go_upto_region 1 with (fail)
    generalize w.alloc (.cells #[.bool false, .bool false, .bool false, .bool false, .bool false, .bool false, .bool false, .bool false, .bool false, .bool false, .bool false] 53) = W0 at *
    go_wp2_with (refine wpList_store_row rfl 53 (.tmp 2) _ rfl w.heap.size #[.bool true, .bool false, .bool false, .bool false, .bool false, .bool false, .bool false, .bool false, .bool false, .bool false, .bool true] rfl rfl 53 _ K (by kernel_rfl) rfl H1 ?_)
    have KR := setRow_heap W0 w.heap.size _ #[.bool true, .bool false, .bool false, .bool false, .bool false, .bool false, .bool false, .bool false, .bool false, .bool false, .bool true] 53 (0, 0) K
    have BE := below_setRow B0 (Nat.le_refl _) #[.bool true, .bool false, .bool false, .bool false, .bool false, .bool false, .bool false, .bool false, .bool false, .bool false, .bool true]
    generalize W0.setRow w.heap.size #[.bool true, .bool false, .bool false, .bool false, .bool false, .bool false, .bool false, .bool false, .bool false, .bool false, .bool true] = Y at *
    refine bodyPost_ret (v := .agg #[.bool true, .bool false, .bool false, .bool false, .bool false, .bool false, .bool false, .bool false, .bool false, .bool false, .bool true]) ?_ rfl ⟨rfl, BE⟩
    have HL := run_loadVar_row (P := Try.prog) Y w.heap.size 53 53 #[.bool true, .bool false, .bool false, .bool false, .bool false, .bool false, .bool false, .bool false, .bool false, .bool false, .bool true] (0, 0) _ KR Try.underlying53 rfl (by kernel_rfl)
    generalize (#[.bool true, .bool false, .bool false, .bool false, .bool false, .bool false, .bool false, .bool false, .bool false, .bool false, .bool true] : Array Value) = CS at *
    simp [results, show (Try.f20).results = #[.cell 2 53] from rfl, asAddr, HL, Act.put]
  have hn : ptsK k = none := by
    cases hp : ptsK k with
    | none => rfl
    | some ps =>
      obtain ⟨i, hi⟩ := ptsK_ins hp
      exfalso
      unfold insT at hi
      simp only [List.mem_cons, Prod.mk.injEq, List.mem_nil_iff, or_false] at hi
      omega
  rw [hn]
  show Calls _ _ _ _ fun e w' => e = .returned (.agg #[.bool false, .bool false, .bool false, .bool false, .bool false, .bool false, .bool false, .bool false, .bool false, .bool false, .bool false]) ∧ Below w.heap.size w w'
  have g0 : (k == 0) = false := by simpa using h0
  have g1 : (k == 1) = false := by simpa using h1
  have g2 : (k == 2) = false := by simpa using h2
  have g3 : (k == 3) = false := by simpa using h3
  have g4 : (k == 4) = false := by simpa using h4
  have g5 : (k == 5) = false := by simpa using h5
  have g6 : (k == 6) = false := by simpa using h6
  have g7 : (k == 7) = false := by simpa using h7
  have g8 : (k == 8) = false := by simpa using h8
  have g9 : (k == 9) = false := by simpa using h9
  have g12 : (k == 12) = false := by simpa using h12
  have g13 : (k == 13) = false := by simpa using h13
  have g15 : (k == 15) = false := by simpa using h15
  have g18 : (k == 18) = false := by simpa using h18
  have g19 : (k == 19) = false := by simpa using h19
  have g20 : (k == 20) = false := by simpa using h20
  have g21 : (k == 21) = false := by simpa using h21
  clear hn h0 h1 h2 h3 h4 h5 h6 h7 h8 h9 h12 h13 h15 h18 h19 h20 h21
  have H1 : (#[.bool false, .bool false, .bool false, .bool false, .bool false, .bool false, .bool false, .bool false, .bool false, .bool false, .bool false] : Array Value).all (·.oneCell') = true := by rw [← Array.all_toList]; rfl
  go_enter Try.func20, Try.ntmps20
  go_upto_region 1 with (fail)
  generalize w.alloc (.cells #[.bool false, .bool false, .bool false, .bool false, .bool false, .bool false, .bool false, .bool false, .bool false, .bool false, .bool false] 53) = W0 at *
  go_wp2_with (refine wpList_store_row rfl 53 (.tmp 2) _ rfl w.heap.size #[.bool false, .bool false, .bool false, .bool false, .bool false, .bool false, .bool false, .bool false, .bool false, .bool false, .bool false] rfl rfl 53 _ K (by kernel_rfl) rfl H1 ?_)
  have KR := setRow_heap W0 w.heap.size _ #[.bool false, .bool false, .bool false, .bool false, .bool false, .bool false, .bool false, .bool false, .bool false, .bool false, .bool false] 53 (0, 0) K
  have BE := below_setRow B0 (Nat.le_refl _) #[.bool false, .bool false, .bool false, .bool false, .bool false, .bool false, .bool false, .bool false, .bool false, .bool false, .bool false]
  generalize W0.setRow w.heap.size #[.bool false, .bool false, .bool false, .bool false, .bool false, .bool false, .bool false, .bool false, .bool false, .bool false, .bool false] = Y at *
  refine bodyPost_ret (v := .agg #[.bool false, .bool false, .bool false, .bool false, .bool false, .bool false, .bool false, .bool false, .bool false, .bool false, .bool false]) ?_ rfl ⟨rfl, BE⟩
  have HL := run_loadVar_row (P := Try.prog) Y w.heap.size 53 53 #[.bool false, .bool false, .bool false, .bool false, .bool false, .bool false, .bool false, .bool false, .bool false, .bool false, .bool false] (0, 0) _ KR Try.underlying53 rfl (by kernel_rfl)
  generalize (#[.bool false, .bool false, .bool false, .bool false, .bool false, .bool false, .bool false, .bool false, .bool false, .bool false, .bool false] : Array Value) = CS at *
  simp [results, show (Try.f20).results = #[.cell 2 53] from rfl, asAddr, HL, Act.put]
set_option maxRecDepth 100000 in
set_option maxHeartbeats 4000000 in
theorem isbyte_any (n : Int) (w : World) : Calls Try.prog 24 #[.int .i64 n] w fun e w' => e = .returned (.bool (decide (0 ≤ n ∧ n ≤ 255))) ∧ w = w' := by
  by_cases h1 : 0 ≤ n
  · by_cases h2 : n ≤ 255
    · rw [decide_eq_true ⟨h1, h2⟩]
      go_enter Try.func24, Try.ntmps24
      go_wp2_with fail
      go_ret
      exact ⟨rfl, rfl⟩
    · rw [decide_eq_false (fun h => h2 h.2)]
      go_enter Try.func24, Try.ntmps24
      go_wp2_with fail
      go_ret
      exact ⟨rfl, rfl⟩
  · rw [decide_eq_false (fun h => h1 h.1)]
    go_enter Try.func24, Try.ntmps24
    go_wp2_with fail
    go_ret
    exact ⟨rfl, rfl⟩
end Go.Proofs.Ytiopeghbpnjcgaa.Cp

/- Control PDUs: a control PDU without the fields that its kind uses, by the document: contracts over the program. -/
set_option linter.unusedVariables false
set_option linter.unusedSimpArgs false
namespace Go.Proofs.Ytiopeghbpnjcgaa.Cp
open Go.RowKit Mem Oct Rw Av
open Base (thenB)
set_option maxRecDepth 100000 in
set_option maxHeartbeats 4000000 in
theorem rest_up_im (c : Ct) (w : World) (hp : ptsK c.k = some [.up, .im]) : Calls Try.prog 21 #[.agg (encC c)] w fun e w' => e = .returned (.agg #[.int .i64 0, .int .i64 0, .int .i64 0, .int .i64 0, .int .i64 0, .int .i64 0, .int .u64 (c.m : Int), .int .u16 0, .int .i64 c.rs, .int .i64 c.rj, .int .u64 c.st, .int .u64 c.mr, .int .u64 c.ft, .int .i64 c.vs, .int .i64 c.ln]) ∧ Below w.heap.size w w' := by
  have BX : Below w.heap.size w ((w.alloc (.cells #[.int .i64 c.k, .int .i64 c.ws, .int .i64 c.wo, .int .i64 c.it, .int .i64 c.la, .int .i64 c.ti, .int .u64 (c.m : Int), .int .u16 c.ins, .int .i64 c.rs, .int .i64 c.rj, .int .u64 c.st, .int .u64 c.mr, .int .u64 c.ft, .int .i64 c.vs, .int .i64 c.ln] 28)).alloc (.cells #[.int .i64 0, .int .i64 0, .int .i64 0, .int .i64 0, .int .i64 0, .int .i64 0, .int .u64 0, .int .u16 0, .int .i64 0, .int .i64 0, .int .u64 0, .int .u64 0, .int .u64 0, .int .i64 0, .int .i64 0] 28)) := ((Below.refl _ _).alloc (Nat.le_refl _) _).alloc (by simp) _
  have K1 : Blk ((w.alloc (.cells #[.int .i64 c.k, .int .i64 c.ws, .int .i64 c.wo, .int .i64 c.it, .int .i64 c.la, .int .i64 c.ti, .int .u64 (c.m : Int), .int .u16 c.ins, .int .i64 c.rs, .int .i64 c.rj, .int .u64 c.st, .int .u64 c.mr, .int .u64 c.ft, .int .i64 c.vs, .int .i64 c.ln] 28)).alloc (.cells #[.int .i64 0, .int .i64 0, .int .i64 0, .int .i64 0, .int .i64 0, .int .i64 0, .int .u64 0, .int .u16 0, .int .i64 0, .int .i64 0, .int .u64 0, .int .u64 0, .int .u64 0, .int .i64 0, .int .i64 0] 28)) w.heap.size 28 #[.int .i64 c.k, .int .i64 c.ws, .int .i64 c.wo, .int .i64 c.it, .int .i64 c.la, .int .i64 c.ti, .int .u64 (c.m : Int), .int .u16 c.ins, .int .i64 c.rs, .int .i64 c.rj, .int .u64 c.st, .int .u64 c.mr, .int .u64 c.ft, .int .i64 c.vs, .int .i64 c.ln] := (Blk.fresh w 28 #[.int .i64 c.k, .int .i64 c.ws, .int .i64 c.wo, .int .i64 c.it, .int .i64 c.la, .int .i64 c.ti, .int .u64 (c.m : Int), .int .u16 c.ins, .int .i64 c.rs, .int .i64 c.rj, .int .u64 c.st, .int .u64 c.mr, .int .u64 c.ft, .int .i64 c.vs, .int .i64 c.ln]).alloc _
  have K2 : Blk ((w.alloc (.cells #[.int .i64 c.k, .int .i64 c.ws, .int .i64 c.wo, .int .i64 c.it, .int .i64 c.la, .int .i64 c.ti, .int .u64 (c.m : Int), .int .u16 c.ins, .int .i64 c.rs, .int .i64 c.rj, .int .u64 c.st, .int .u64 c.mr, .int .u64 c.ft, .int .i64 c.vs, .int .i64 c.ln] 28)).alloc (.cells #[.int .i64 0, .int .i64 0, .int .i64 0, .int .i64 0, .int .i64 0, .int .i64 0, .int .u64 0, .int .u16 0, .int .i64 0, .int .i64 0, .int .u64 0, .int .u64 0, .int .u64 0, .int .i64 0, .int .i64 0] 28)) (w.heap.size + 1) 28 #[.int .i64 0, .int .i64 0, .int .i64 0, .int .i64 0, .int .i64 0, .int .i64 0, .int .u64 0, .int .u16 0, .int .i64 0, .int .i64 0, .int .u64 0, .int .u64 0, .int .u64 0, .int .i64 0, .int .i64 0] := Av.Blk.next
  have HF : Hid (∀ w, Calls Try.prog 20 #[.int .i64 c.k] w fun e w' => e = .returned (.agg #[.bool true, .bool true, .bool false, .bool true, .bool false, .bool false, .bool false, .bool false, .bool false, .bool false, .bool false]) ∧ Below w.heap.size w w') := Lib.hid fun w => by have := fields_k c.k w; rw [hp] at this; exact this
  clear hp
  show Calls _ _ #[.agg #[.int .i64 c.k, .int .i64 c.ws, .int .i64 c.wo, .int .i64 c.it, .int .i64 c.la, .int .i64 c.ti, .int .u64 (c.m : Int), .int .u16 c.ins, .int .i64 c.rs, .int .i64 c.rj, .int .u64 c.st, .int .u64 c.mr, .int .u64 c.ft, .int .i64 c.vs, .int .i64 c.ln]] _ _
  go_enter Try.func21, Try.ntmps21
  go_upto_region 1 with (fail)
  generalize (w.alloc (.cells #[.int .i64 c.k, .int .i64 c.ws, .int .i64 c.wo, .int .i64 c.it, .int .i64 c.la, .int .i64 c.ti, .int .u64 (c.m : Int), .int .u16 c.ins, .int .i64 c.rs, .int .i64 c.rj, .int .u64 c.st, .int .u64 c.mr, .int .u64 c.ft, .int .i64 c.vs, .int .i64 c.ln] 28)).alloc (.cells #[.int .i64 0, .int .i64 0, .int .i64 0, .int .i64 0, .int .i64 0, .int .i64 0, .int .u64 0, .int .u16 0, .int .i64 0, .int .i64 0, .int .u64 0, .int .u64 0, .int .u64 0, .int .i64 0, .int .i64 0] 28) = W0 at *
  have k0 := K1.cell 0
  go_upto_region 2 with (go_at_call 20; refine (HF.out _).mono ?_; rintro e w1 ⟨rfl, b1⟩)
  clear k0
  have b9 : Below w1.heap.size w1 (w1.alloc (.cells #[.bool true, .bool true, .bool false, .bool true, .bool false, .bool false, .bool false, .bool false, .bool false, .bool false, .bool false] 53)) := (Below.refl _ _).alloc (Nat.le_refl _) _
  have K3 : Blk (w1.alloc (.cells #[.bool true, .bool true, .bool false, .bool true, .bool false, .bool false, .bool false, .bool false, .bool false, .bool false, .bool false] 53)) w1.heap.size 53 #[.bool true, .bool true, .bool false, .bool true, .bool false, .bool false, .bool false, .bool false, .bool false, .bool false, .bool false] := Blk.fresh w1 53 #[.bool true, .bool true, .bool false, .bool true, .bool false, .bool false, .bool false, .bool false, .bool false, .bool false, .bool false]
  have hl1 := (K1.below b1 K1.lt).lt
  have hl2 := (K2.below b1 K2.lt).lt
  replace K1 := (K1.below b1 K1.lt).below b9 hl1
  replace K2 := (K2.below b1 K2.lt).below b9 hl2
  replace BX := thenB (thenB BX b1) b9
  clear b1 b9
  generalize w1.alloc (.cells #[.bool true, .bool true, .bool false, .bool true, .bool false, .bool false, .bool false, .bool false, .bool false, .bool false, .bool false] 53) = X0 at *
  obtain ⟨g3, e3⟩ : ∃ g, w1.heap.size = g := ⟨_, rfl⟩
  rw [e3] at K3 hl1 hl2
  try simp only [e3]
  clear e3
  go_upto_region 3 with (refine Av.wpList_store_cell rfl _ _ _ rfl w.heap.size 0 (.int .i64 0) rfl rfl 28 _ K1 (by show 0 < 15; decide) (by kernel_rfl) rfl ?_; replace K2 := Av.bother (i := 0) K2 (show w.heap.size ≠ w.heap.size + 1 by omega) (.int .i64 0); replace K3 := Av.bother (i := 0) K3 (show w.heap.size ≠ g3 by omega) (.int .i64 0); replace K1 := Av.bset K1 0 (.int .i64 0) rfl; replace BX := BX.setCell (p := ⟨w.heap.size, 0, none⟩) (Nat.le_refl _) (.int .i64 0))
  generalize X0.setCell ⟨w.heap.size, 0, none⟩ (.int .i64 0) = X1 at *
  have y1 := K3.cell 1
  have y2 := K3.cell 2
  have y3 := K3.cell 3
  have y4 := K3.cell 4
  have y5 := K3.cell 5
  have y6 := K3.cell 6
  have y7 := K3.cell 7
  have y8 := K3.cell 8
  have y9 := K3.cell 9
  have y10 := K3.cell 10
  go_upto_region 4 with (fail)
  clear y1 y2 y3 y4 y5 y6 y7 y8 y9 y10
  have c11 := K1.cell 1
  have c12 := K1.cell 2
  have c13 := K1.cell 3
  have c14 := K1.cell 4
  have c15 := K1.cell 5
  have f11 := Av.bfrz K1 1
  have f12 := Av.bfrz K1 2
  have f13 := Av.bfrz K1 3
  have f14 := Av.bfrz K1 4
  have f15 := Av.bfrz K1 5
  go_upto_region 5 with (fail)
  clear c11 f11 c12 f12 c13 f13 c14 f14 c15 f15
  replace K2 := Av.bother (i := 1) K2 (show w.heap.size ≠ w.heap.size + 1 by omega) (.int .i64 0)
  replace K3 := Av.bother (i := 1) K3 (show w.heap.size ≠ g3 by omega) (.int .i64 0)
  replace K1 := Av.bset K1 1 (.int .i64 0) rfl
  replace BX := BX.setCell (p := ⟨w.heap.size, 1, none⟩) (Nat.le_refl _) (.int .i64 0)
  replace K2 := Av.bother (i := 2) K2 (show w.heap.size ≠ w.heap.size + 1 by omega) (.int .i64 0)
  replace K3 := Av.bother (i := 2) K3 (show w.heap.size ≠ g3 by omega) (.int .i64 0)
  replace K1 := Av.bset K1 2 (.int .i64 0) rfl
  replace BX := BX.setCell (p := ⟨w.heap.size, 2, none⟩) (Nat.le_refl _) (.int .i64 0)
  replace K2 := Av.bother (i := 3) K2 (show w.heap.size ≠ w.heap.size + 1 by omega) (.int .i64 0)
  replace K3 := Av.bother (i := 3) K3 (show w.heap.size ≠ g3 by omega) (.int .i64 0)
  replace K1 := Av.bset K1 3 (.int .i64 0) rfl
  replace BX := BX.setCell (p := ⟨w.heap.size, 3, none⟩) (Nat.le_refl _) (.int .i64 0)
  replace K2 := Av.bother (i := 4) K2 (show w.heap.size ≠ w.heap.size + 1 by omega) (.int .i64 0)
  replace K3 := Av.bother (i := 4) K3 (show w.heap.size ≠ g3 by omega) (.int .i64 0)
  replace K1 := Av.bset K1 4 (.int .i64 0) rfl
  replace BX := BX.setCell (p := ⟨w.heap.size, 4, none⟩) (Nat.le_refl _) (.int .i64 0)
  replace K2 := Av.bother (i := 5) K2 (show w.heap.size ≠ w.heap.size + 1 by omega) (.int .i64 0)
  replace K3 := Av.bother (i := 5) K3 (show w.heap.size ≠ g3 by omega) (.int .i64 0)
  replace K1 := Av.bset K1 5 (.int .i64 0) rfl
  replace BX := BX.setCell (p := ⟨w.heap.size, 5, none⟩) (Nat.le_refl _) (.int .i64 0)
  generalize ((((X1.setCell ⟨w.heap.size, 1, none⟩ (.int .i64 0)).setCell ⟨w.heap.size, 2, none⟩ (.int .i64 0)).setCell ⟨w.heap.size, 3, none⟩ (.int .i64 0)).setCell ⟨w.heap.size, 4, none⟩ (.int .i64 0)).setCell ⟨w.heap.size, 5, none⟩ (.int .i64 0) = X2 at *
  have y1 := K3.cell 1
  have y2 := K3.cell 2
  have y3 := K3.cell 3
  have y4 := K3.cell 4
  have y5 := K3.cell 5
  have y6 := K3.cell 6
  have y7 := K3.cell 7
  have y8 := K3.cell 8
  have y9 := K3.cell 9
  have y10 := K3.cell 10
  go_upto_region 8 with (fail)
  clear y1 y2 y3 y4 y5 y6 y7 y8 y9 y10
  go_upto_region 9 with (refine Av.wpList_store_cell rfl _ _ _ rfl w.heap.size 7 (.int .u16 0) rfl rfl 28 _ K1 (by show 7 < 15; decide) (by kernel_rfl) rfl ?_; replace K2 := Av.bother (i := 7) K2 (show w.heap.size ≠ w.heap.size + 1 by omega) (.int .u16 0); replace K3 := Av.bother (i := 7) K3 (show w.heap.size ≠ g3 by omega) (.int .u16 0); replace K1 := Av.bset K1 7 (.int .u16 0) rfl; replace BX := BX.setCell (p := ⟨w.heap.size, 7, none⟩) (Nat.le_refl _) (.int .u16 0))
  generalize X2.setCell ⟨w.heap.size, 7, none⟩ (.int .u16 0) = X3 at *
  have y1 := K3.cell 1
  have y2 := K3.cell 2
  have y3 := K3.cell 3
  have y4 := K3.cell 4
  have y5 := K3.cell 5
  have y6 := K3.cell 6
  have y7 := K3.cell 7
  have y8 := K3.cell 8
  have y9 := K3.cell 9
  have y10 := K3.cell 10
  go_upto_region 23 with (fail)
  clear y1 y2 y3 y4 y5 y6 y7 y8 y9 y10
  have H1 : (#[.int .i64 0, .int .i64 0, .int .i64 0, .int .i64 0, .int .i64 0, .int .i64 0, .int .u64 (c.m : Int), .int .u16 0, .int .i64 c.rs, .int .i64 c.rj, .int .u64 c.st, .int .u64 c.mr, .int .u64 c.ft, .int .i64 c.vs, .int .i64 c.ln] : Array Value).all (·.oneCell') = true := by rw [← Array.all_toList]; rfl
  go_wp2_with (first | (refine wpList_store_row rfl 28 (.tmp 2) _ rfl (w.heap.size + 1) #[.int .i64 0, .int .i64 0, .int .i64 0, .int .i64 0, .int .i64 0, .int .i64 0, .int .u64 (c.m : Int), .int .u16 0, .int .i64 c.rs, .int .i64 c.rj, .int .u64 c.st, .int .u64 c.mr, .int .u64 c.ft, .int .i64 c.vs, .int .i64 c.ln] rfl rfl 28 _ K2 (by kernel_rfl) rfl H1 ?_) | (refine wpList_load_row rfl 28 (.tmp 1) rfl w.heap.size rfl 28 _ (0, 0) _ K1 Try.underlying28 rfl (by kernel_rfl) ?_))
  have KR := setRow_heap X3 (w.heap.size + 1) _ #[.int .i64 0, .int .i64 0, .int .i64 0, .int .i64 0, .int .i64 0, .int .i64 0, .int .u64 (c.m : Int), .int .u16 0, .int .i64 c.rs, .int .i64 c.rj, .int .u64 c.st, .int .u64 c.mr, .int .u64 c.ft, .int .i64 c.vs, .int .i64 c.ln] 28 (0, 0) K2
  have BE := below_setRow BX (Nat.le_succ _) #[.int .i64 0, .int .i64 0, .int .i64 0, .int .i64 0, .int .i64 0, .int .i64 0, .int .u64 (c.m : Int), .int .u16 0, .int .i64 c.rs, .int .i64 c.rj, .int .u64 c.st, .int .u64 c.mr, .int .u64 c.ft, .int .i64 c.vs, .int .i64 c.ln]
  generalize X3.setRow (w.heap.size + 1) #[.int .i64 0, .int .i64 0, .int .i64 0, .int .i64 0, .int .i64 0, .int .i64 0, .int .u64 (c.m : Int), .int .u16 0, .int .i64 c.rs, .int .i64 c.rj, .int .u64 c.st, .int .u64 c.mr, .int .u64 c.ft, .int .i64 c.vs, .int .i64 c.ln] = Y at *
  refine bodyPost_ret (v := .agg #[.int .i64 0, .int .i64 0, .int .i64 0, .int .i64 0, .int .i64 0, .int .i64 0, .int .u64 (c.m : Int), .int .u16 0, .int .i64 c.rs, .int .i64 c.rj, .int .u64 c.st, .int .u64 c.mr, .int .u64 c.ft, .int .i64 c.vs, .int .i64 c.ln]) ?_ rfl ⟨rfl, BE⟩
  clear K1
  have HL := run_loadVar_row (P := Try.prog) Y (w.heap.size + 1) 28 28 #[.int .i64 0, .int .i64 0, .int .i64 0, .int .i64 0, .int .i64 0, .int .i64 0, .int .u64 (c.m : Int), .int .u16 0, .int .i64 c.rs, .int .i64 c.rj, .int .u64 c.st, .int .u64 c.mr, .int .u64 c.ft, .int .i64 c.vs, .int .i64 c.ln] (0, 0) _ KR Try.underlying28 rfl (by kernel_rfl)
  generalize (#[.int .i64 0, .int .i64 0, .int .i64 0, .int .i64 0, .int .i64 0, .int .i64 0, .int .u64 (c.m : Int), .int .u16 0, .int .i64 c.rs, .int .i64 c.rj, .int .u64 c.st, .int .u64 c.mr, .int .u64 c.ft, .int .i64 c.vs, .int .i64 c.ln] : Array Value) = CS at *
  simp [results, show (Try.f21).results = #[.cell 2 28] from rfl, asAddr, HL, Act.put]
set_option maxRecDepth 100000 in
set_option maxHeartbeats 4000000 in
theorem rest_ch_im (c : Ct) (w : World) (hp : ptsK c.k = some [.ch, .im]) : Calls Try.prog 21 #[.agg (encC c)] w fun e w' => e = .returned (.agg #[.int .i64 0, .int .i64 c.ws, .int .i64 c.wo, .int .i64 c.it, .int .i64 c.la, .int .i64 c.ti, .int .u64 0, .int .u16 0, .int .i64 c.rs, .int .i64 c.rj, .int .u64 c.st, .int .u64 c.mr, .int .u64 c.ft, .int .i64 c.vs, .int .i64 c.ln]) ∧ Below w.heap.size w w' := by
  have BX : Below w.heap.size w ((w.alloc (.cells #[.int .i64 c.k, .int .i64 c.ws, .int .i64 c.wo, .int .i64 c.it, .int .i64 c.la, .int .i64 c.ti, .int .u64 (c.m : Int), .int .u16 c.ins, .int .i64 c.rs, .int .i64 c.rj, .int .u64 c.st, .int .u64 c.mr, .int .u64 c.ft, .int .i64 c.vs, .int .i64 c.ln] 28)).alloc (.cells #[.int .i64 0, .int .i64 0, .int .i64 0, .int .i64 0, .int .i64 0, .int .i64 0, .int .u64 0, .int .u16 0, .int .i64 0, .int .i64 0, .int .u64 0, .int .u64 0, .int .u64 0, .int .i64 0, .int .i64 0] 28)) := ((Below.refl _ _).alloc (Nat.le_refl _) _).alloc (by simp) _
  have K1 : Blk ((w.alloc (.cells #[.int .i64 c.k, .int .i64 c.ws, .int .i64 c.wo, .int .i64 c.it, .int .i64 c.la, .int .i64 c.ti, .int .u64 (c.m : Int), .int .u16 c.ins, .int .i64 c.rs, .int .i64 c.rj, .int .u64 c.st, .int .u64 c.mr, .int .u64 c.ft, .int .i64 c.vs, .int .i64 c.ln] 28)).alloc (.cells #[.int .i64 0, .int .i64 0, .int .i64 0, .int .i64 0, .int .i64 0, .int .i64 0, .int .u64 0, .int .u16 0, .int .i64 0, .int .i64 0, .int .u64 0, .int .u64 0, .int .u64 0, .int .i64 0, .int .i64 0] 28)) w.heap.size 28 #[.int .i64 c.k, .int .i64 c.ws, .int .i64 c.wo, .int .i64 c.it, .int .i64 c.la, .int .i64 c.ti, .int .u64 (c.m : Int), .int .u16 c.ins, .int .i64 c.rs, .int .i64 c.rj, .int .u64 c.st, .int .u64 c.mr, .int .u64 c.ft, .int .i64 c.vs, .int .i64 c.ln] := (Blk.fresh w 28 #[.int .i64 c.k, .int .i64 c.ws, .int .i64 c.wo, .int .i64 c.it, .int .i64 c.la, .int .i64 c.ti, .int .u64 (c.m : Int), .int .u16 c.ins, .int .i64 c.rs, .int .i64 c.rj, .int .u64 c.st, .int .u64 c.mr, .int .u64 c.ft, .int .i64 c.vs, .int .i64 c.ln]).alloc _
  have K2 : Blk ((w.alloc (.cells #[.int .i64 c.k, .int .i64 c.ws, .int .i64 c.wo, .int .i64 c.it, .int .i64 c.la, .int .i64 c.ti, .int .u64 (c.m : Int), .int .u16 c.ins, .int .i64 c.rs, .int .i64 c.rj, .int .u64 c.st, .int .u64 c.mr, .int .u64 c.ft, .int .i64 c.vs, .int .i64 c.ln] 28)).alloc (.cells #[.int .i64 0, .int .i64 0, .int .i64 0, .int .i64 0, .int .i64 0, .int .i64 0, .int .u64 0, .int .u16 0, .int .i64 0, .int .i64 0, .int .u64 0, .int .u64 0, .int .u64 0, .int .i64 0, .int .i64 0] 28)) (w.heap.size + 1) 28 #[.int .i64 0, .int .i64 0, .int .i64 0, .int .i64 0, .int .i64 0, .int .i64 0, .int .u64 0, .int .u16 0, .int .i64 0, .int .i64 0, .int .u64 0, .int .u64 0, .int .u64 0, .int .i64 0, .int .i64 0] := Av.Blk.next
  have HF : Hid (∀ w, Calls Try.prog 20 #[.int .i64 c.k] w fun e w' => e = .returned (.agg #[.bool true, .bool false, .bool true, .bool true, .bool false, .bool false, .bool false, .bool false, .bool false, .bool false, .bool false]) ∧ Below w.heap.size w w') := Lib.hid fun w => by have := fields_k c.k w; rw [hp] at this; exact this
  clear hp
  show Calls _ _ #[.agg #[.int .i64 c.k, .int .i64 c.ws, .int .i64 c.wo, .int .i64 c.it, .int .i64 c.la, .int .i64 c.ti, .int .u64 (c.m : Int), .int .u16 c.ins, .int .i64 c.rs, .int .i64 c.rj, .int .u64 c.st, .int .u64 c.mr, .int .u64 c.ft, .int .i64 c.vs, .int .i64 c.ln]] _ _
  go_enter Try.func21, Try.ntmps21
  go_upto_region 1 with (fail)
  generalize (w.alloc (.cells #[.int .i64 c.k, .int .i64 c.ws, .int .i64 c.wo, .int .i64 c.it, .int .i64 c.la, .int .i64 c.ti, .int .u64 (c.m : Int), .int .u16 c.ins, .int .i64 c.rs, .int .i64 c.rj, .int .u64 c.st, .int .u64 c.mr, .int .u64 c.ft, .int .i64 c.vs, .int .i64 c.ln] 28)).alloc (.cells #[.int .i64 0, .int .i64 0, .int .i64 0, .int .i64 0, .int .i64 0, .int .i64 0, .int .u64 0, .int .u16 0, .int .i64 0, .int .i64 0, .int .u64 0, .int .u64 0, .int .u64 0, .int .i64 0, .int .i64 0] 28) = W0 at *
  have k0 := K1.cell 0
  go_upto_region 2 with (go_at_call 20; refine (HF.out _).mono ?_; rintro e w1 ⟨rfl, b1⟩)
  clear k0
  have b9 : Below w1.heap.size w1 (w1.alloc (.cells #[.bool true, .bool false, .bool true, .bool true, .bool false, .bool false, .bool false, .bool false, .bool false, .bool false, .bool false] 53)) := (Below.refl _ _).alloc (Nat.le_refl _) _
  have K3 : Blk (w1.alloc (.cells #[.bool true, .bool false, .bool true, .bool true, .bool false, .bool false, .bool false, .bool false, .bool false, .bool false, .bool false] 53)) w1.heap.size 53 #[.bool true, .bool false, .bool true, .bool true, .bool false, .bool false, .bool false, .bool false, .bool false, .bool false, .bool false] := Blk.fresh w1 53 #[.bool true, .bool false, .bool true, .bool true, .bool false, .bool false, .bool false, .bool false, .bool false, .bool false, .bool false]
  have hl1 := (K1.below b1 K1.lt).lt
  have hl2 := (K2.below b1 K2.lt).lt
  replace K1 := (K1.below b1 K1.lt).below b9 hl1
  replace K2 := (K2.below b1 K2.lt).below b9 hl2
  replace BX := thenB (thenB BX b1) b9
  clear b1 b9
  generalize w1.alloc (.cells #[.bool true, .bool false, .bool true, .bool true, .bool false, .bool false, .bool false, .bool false, .bool false, .bool false, .bool false] 53) = X0 at *
  obtain ⟨g3, e3⟩ : ∃ g, w1.heap.size = g := ⟨_, rfl⟩
  rw [e3] at K3 hl1 hl2
  try simp only [e3]
  clear e3
  go_upto_region 3 with (refine Av.wpList_store_cell rfl _ _ _ rfl w.heap.size 0 (.int .i64 0) rfl rfl 28 _ K1 (by show 0 < 15; decide) (by kernel_rfl) rfl ?_; replace K2 := Av.bother (i := 0) K2 (show w.heap.size ≠ w.heap.size + 1 by omega) (.int .i64 0); replace K3 := Av.bother (i := 0) K3 (show w.heap.size ≠ g3 by omega) (.int .i64 0); replace K1 := Av.bset K1 0 (.int .i64 0) rfl; replace BX := BX.setCell (p := ⟨w.heap.size, 0, none⟩) (Nat.le_refl _) (.int .i64 0))
  generalize X0.setCell ⟨w.heap.size, 0, none⟩ (.int .i64 0) = X1 at *
  have y1 := K3.cell 1
  have y2 := K3.cell 2
  have y3 := K3.cell 3
  have y4 := K3.cell 4
  have y5 := K3.cell 5
  have y6 := K3.cell 6
  have y7 := K3.cell 7
  have y8 := K3.cell 8
  have y9 := K3.cell 9
  have y10 := K3.cell 10
  go_upto_region 6 with (fail)
  clear y1 y2 y3 y4 y5 y6 y7 y8 y9 y10
  go_upto_region 7 with (refine Av.wpList_store_cell rfl _ _ _ rfl w.heap.size 6 (.int .u64 0) rfl rfl 28 _ K1 (by show 6 < 15; decide) (by kernel_rfl) rfl ?_; replace K2 := Av.bother (i := 6) K2 (show w.heap.size ≠ w.heap.size + 1 by omega) (.int .u64 0); replace K3 := Av.bother (i := 6) K3 (show w.heap.size ≠ g3 by omega) (.int .u64 0); replace K1 := Av.bset K1 6 (.int .u64 0) rfl; replace BX := BX.setCell (p := ⟨w.heap.size, 6, none⟩) (Nat.le_refl _) (.int .u64 0))
  generalize X1.setCell ⟨w.heap.size, 6, none⟩ (.int .u64 0) = X2 at *
  have y1 := K3.cell 1
  have y2 := K3.cell 2
  have y3 := K3.cell 3
  have y4 := K3.cell 4
  have y5 := K3.cell 5
  have y6 := K3.cell 6
  have y7 := K3.cell 7
  have y8 := K3.cell 8
  have y9 := K3.cell 9
  have y10 := K3.cell 10
  go_upto_region 8 with (fail)
  clear y1 y2 y3 y4 y5 y6 y7 y8 y9 y10
  go_upto_region 9 with (refine Av.wpList_store_cell rfl _ _ _ rfl w.heap.size 7 (.int .u16 0) rfl rfl 28 _ K1 (by show 7 < 15; decide) (by kernel_rfl) rfl ?_; replace K2 := Av.bother (i := 7) K2 (show w.heap.size ≠ w.heap.size + 1 by omega) (.int .u16 0); replace K3 := Av.bother (i := 7) K3 (show w.heap.size ≠ g3 by omega) (.int .u16 0); replace K1 := Av.bset K1 7 (.int .u16 0) rfl; replace BX := BX.setCell (p := ⟨w.heap.size, 7, none⟩) (Nat.le_refl _) (.int .u16 0))
  generalize X2.setCell ⟨w.heap.size, 7, none⟩ (.int .u16 0) = X3 at *
  have y1 := K3.cell 1
  have y2 := K3.cell 2
  have y3 := K3.cell 3
  have y4 := K3.cell 4
  have y5 := K3.cell 5
  have y6 := K3.cell 6
  have y7 := K3.cell 7
  have y8 := K3.cell 8
  have y9 := K3.cell 9
  have y10 := K3.cell 10
  go_upto_region 23 with (fail)
  clear y1 y2 y3 y4 y5 y6 y7 y8 y9 y10
  have H1 : (#[.int .i64 0, .int .i64 c.ws, .int .i64 c.wo, .int .i64 c.it, .int .i64 c.la, .int .i64 c.ti, .int .u64 0, .int .u16 0, .int .i64 c.rs, .int .i64 c.rj, .int .u64 c.st, .int .u64 c.mr, .int .u64 c.ft, .int .i64 c.vs, .int .i64 c.ln] : Array Value).all (·.oneCell') = true := by rw [← Array.all_toList]; rfl
  go_wp2_with (first | (refine wpList_store_row rfl 28 (.tmp 2) _ rfl (w.heap.size + 1) #[.int .i64 0, .int .i64 c.ws, .int .i64 c.wo, .int .i64 c.it, .int .i64 c.la, .int .i64 c.ti, .int .u64 0, .int .u16 0, .int .i64 c.rs, .int .i64 c.rj, .int .u64 c.st, .int .u64 c.mr, .int .u64 c.ft, .int .i64 c.vs, .int .i64 c.ln] rfl rfl 28 _ K2 (by kernel_rfl) rfl H1 ?_) | (refine wpList_load_row rfl 28 (.tmp 1) rfl w.heap.size rfl 28 _ (0, 0) _ K1 Try.underlying28 rfl (by kernel_rfl) ?_))
  have KR := setRow_heap X3 (w.heap.size + 1) _ #[.int .i64 0, .int .i64 c.ws, .int .i64 c.wo, .int .i64 c.it, .int .i64 c.la, .int .i64 c.ti, .int .u64 0, .int .u16 0, .int .i64 c.rs, .int .i64 c.rj, .int .u64 c.st, .int .u64 c.mr, .int .u64 c.ft, .int .i64 c.vs, .int .i64 c.ln] 28 (0, 0) K2
  have BE := below_setRow BX (Nat.le_succ _) #[.int .i64 0, .int .i64 c.ws, .int .i64 c.wo, .int .i64 c.it, .int .i64 c.la, .int .i64 c.ti, .int .u64 0, .int .u16 0, .int .i64 c.rs, .int .i64 c.rj, .int .u64 c.st, .int .u64 c.mr, .int .u64 c.ft, .int .i64 c.vs, .int .i64 c.ln]
  generalize X3.setRow (w.heap.size + 1) #[.int .i64 0, .int .i64 c.ws, .int .i64 c.wo, .int .i64 c.it, .int .i64 c.la, .int .i64 c.ti, .int .u64 0, .int .u16 0, .int .i64 c.rs, .int .i64 c.rj, .int .u64 c.st, .int .u64 c.mr, .int .u64 c.ft, .int .i64 c.vs, .int .i64 c.ln] = Y at *
  refine bodyPost_ret (v := .agg #[.int .i64 0, .int .i64 c.ws, .int .i64 c.wo, .int .i64 c.it, .int .i64 c.la, .int .i64 c.ti, .int .u64 0, .int .u16 0, .int .i64 c.rs, .int .i64 c.rj, .int .u64 c.st, .int .u64 c.mr, .int .u64 c.ft, .int .i64 c.vs, .int .i64 c.ln]) ?_ rfl ⟨rfl, BE⟩
  clear K1
  have HL := run_loadVar_row (P := Try.prog) Y (w.heap.size + 1) 28 28 #[.int .i64 0, .int .i64 c.ws, .int .i64 c.wo, .int .i64 c.it, .int .i64 c.la, .int .i64 c.ti, .int .u64 0, .int .u16 0, .int .i64 c.rs, .int .i64 c.rj, .int .u64 c.st, .int .u64 c.mr, .int .u64 c.ft, .int .i64 c.vs, .int .i64 c.ln] (0, 0) _ KR Try.underlying28 rfl (by kernel_rfl)
  generalize (#[.int .i64 0, .int .i64 c.ws, .int .i64 c.wo, .int .i64 c.it, .int .i64 c.la, .int .i64 c.ti, .int .u64 0, .int .u16 0, .int .i64 c.rs, .int .i64 c.rj, .int .u64 c.st, .int .u64 c.mr, .int .u64 c.ft, .int .i64 c.vs, .int .i64 c.ln] : Array Value) = CS at *
  simp [results, show (Try.f21).results = #[.cell 2 28] from rfl, asAddr, HL, Act.put]
set_option maxRecDepth 100000 in
set_option maxHeartbeats 4000000 in
theorem rest_rs (c : Ct) (w : World) (hp : ptsK c.k = some [.rs]) : Calls Try.prog 21 #[.agg (encC c)] w fun e w' => e = .returned (.agg #[.int .i64 0, .int .i64 c.ws, .int .i64 c.wo, .int .i64 c.it, .int .i64 c.la, .int .i64 c.ti, .int .u64 (c.m : Int), .int .u16 c.ins, .int .i64 0, .int .i64 c.rj, .int .u64 c.st, .int .u64 c.mr, .int .u64 c.ft, .int .i64 c.vs, .int .i64 c.ln]) ∧ Below w.heap.size w w' := by
  have BX : Below w.heap.size w ((w.alloc (.cells #[.int .i64 c.k, .int .i64 c.ws, .int .i64 c.wo, .int .i64 c.it, .int .i64 c.la, .int .i64 c.ti, .int .u64 (c.m : Int), .int .u16 c.ins, .int .i64 c.rs, .int .i64 c.rj, .int .u64 c.st, .int .u64 c.mr, .int .u64 c.ft, .int .i64 c.vs, .int .i64 c.ln] 28)).alloc (.cells #[.int .i64 0, .int .i64 0, .int .i64 0, .int .i64 0, .int .i64 0, .int .i64 0, .int .u64 0, .int .u16 0, .int .i64 0, .int .i64 0, .int .u64 0, .int .u64 0, .int .u64 0, .int .i64 0, .int .i64 0] 28)) := ((Below.refl _ _).alloc (Nat.le_refl _) _).alloc (by simp) _
  have K1 : Blk ((w.alloc (.cells #[.int .i64 c.k, .int .i64 c.ws, .int .i64 c.wo, .int .i64 c.it, .int .i64 c.la, .int .i64 c.ti, .int .u64 (c.m : Int), .int .u16 c.ins, .int .i64 c.rs, .int .i64 c.rj, .int .u64 c.st, .int .u64 c.mr, .int .u64 c.ft, .int .i64 c.vs, .int .i64 c.ln] 28)).alloc (.cells #[.int .i64 0, .int .i64 0, .int .i64 0, .int .i64 0, .int .i64 0, .int .i64 0, .int .u64 0, .int .u16 0, .int .i64 0, .int .i64 0, .int .u64 0, .int .u64 0, .int .u64 0, .int .i64 0, .int .i64 0] 28)) w.heap.size 28 #[.int .i64 c.k, .int .i64 c.ws, .int .i64 c.wo, .int .i64 c.it, .int .i64 c.la, .int .i64 c.ti, .int .u64 (c.m : Int), .int .u16 c.ins, .int .i64 c.rs, .int .i64 c.rj, .int .u64 c.st, .int .u64 c.mr, .int .u64 c.ft, .int .i64 c.vs, .int .i64 c.ln] := (Blk.fresh w 28 #[.int .i64 c.k, .int .i64 c.ws, .int .i64 c.wo, .int .i64 c.it, .int .i64 c.la, .int .i64 c.ti, .int .u64 (c.m : Int), .int .u16 c.ins, .int .i64 c.rs, .int .i64 c.rj, .int .u64 c.st, .int .u64 c.mr, .int .u64 c.ft, .int .i64 c.vs, .int .i64 c.ln]).alloc _
  have K2 : Blk ((w.alloc (.cells #[.int .i64 c.k, .int .i64 c.ws, .int .i64 c.wo, .int .i64 c.it, .int .i64 c.la, .int .i64 c.ti, .int .u64 (c.m : Int), .int .u16 c.ins, .int .i64 c.rs, .int .i64 c.rj, .int .u64 c.st, .int .u64 c.mr, .int .u64 c.ft, .int .i64 c.vs, .int .i64 c.ln] 28)).alloc (.cells #[.int .i64 0, .int .i64 0, .int .i64 0, .int .i64 0, .int .i64 0, .int .i64 0, .int .u64 0, .int .u16 0, .int .i64 0, .int .i64 0, .int .u64 0, .int .u64 0, .int .u64 0, .int .i64 0, .int .i64 0] 28)) (w.heap.size + 1) 28 #[.int .i64 0, .int .i64 0, .int .i64 0, .int .i64 0, .int .i64 0, .int .i64 0, .int .u64 0, .int .u16 0, .int .i64 0, .int .i64 0, .int .u64 0, .int .u64 0, .int .u64 0, .int .i64 0, .int .i64 0] := Av.Blk.next
  have HF : Hid (∀ w, Calls Try.prog 20 #[.int .i64 c.k] w fun e w' => e = .returned (.agg #[.bool true, .bool false, .bool false, .bool false, .bool true, .bool false, .bool false, .bool false, .bool false, .bool false, .bool false]) ∧ Below w.heap.size w w') := Lib.hid fun w => by have := fields_k c.k w; rw [hp] at this; exact this
  clear hp
  show Calls _ _ #[.agg #[.int .i64 c.k, .int .i64 c.ws, .int .i64 c.wo, .int .i64 c.it, .int .i64 c.la, .int .i64 c.ti, .int .u64 (c.m : Int), .int .u16 c.ins, .int .i64 c.rs, .int .i64 c.rj, .int .u64 c.st, .int .u64 c.mr, .int .u64 c.ft, .int .i64 c.vs, .int .i64 c.ln]] _ _
  go_enter Try.func21, Try.ntmps21
  go_upto_region 1 with (fail)
  generalize (w.alloc (.cells #[.int .i64 c.k, .int .i64 c.ws, .int .i64 c.wo, .int .i64 c.it, .int .i64 c.la, .int .i64 c.ti, .int .u64 (c.m : Int), .int .u16 c.ins, .int .i64 c.rs, .int .i64 c.rj, .int .u64 c.st, .int .u64 c.mr, .int .u64 c.ft, .int .i64 c.vs, .int .i64 c.ln] 28)).alloc (.cells #[.int .i64 0, .int .i64 0, .int .i64 0, .int .i64 0, .int .i64 0, .int .i64 0, .int .u64 0, .int .u16 0, .int .i64 0, .int .i64 0, .int .u64 0, .int .u64 0, .int .u64 0, .int .i64 0, .int .i64 0] 28) = W0 at *
  have k0 := K1.cell 0
  go_upto_region 2 with (go_at_call 20; refine (HF.out _).mono ?_; rintro e w1 ⟨rfl, b1⟩)
  clear k0
  have b9 : Below w1.heap.size w1 (w1.alloc (.cells #[.bool true, .bool false, .bool false, .bool false, .bool true, .bool false, .bool false, .bool false, .bool false, .bool false, .bool false] 53)) := (Below.refl _ _).alloc (Nat.le_refl _) _
  have K3 : Blk (w1.alloc (.cells #[.bool true, .bool false, .bool false, .bool false, .bool true, .bool false, .bool false, .bool false, .bool false, .bool false, .bool false] 53)) w1.heap.size 53 #[.bool true, .bool false, .bool false, .bool false, .bool true, .bool false, .bool false, .bool false, .bool false, .bool false, .bool false] := Blk.fresh w1 53 #[.bool true, .bool false, .bool false, .bool false, .bool true, .bool false, .bool false, .bool false, .bool false, .bool false, .bool false]
  have hl1 := (K1.below b1 K1.lt).lt
  have hl2 := (K2.below b1 K2.lt).lt
  replace K1 := (K1.below b1 K1.lt).below b9 hl1
  replace K2 := (K2.below b1 K2.lt).below b9 hl2
  replace BX := thenB (thenB BX b1) b9
  clear b1 b9
  generalize w1.alloc (.cells #[.bool true, .bool false, .bool false, .bool false, .bool true, .bool false, .bool false, .bool false, .bool false, .bool false, .bool false] 53) = X0 at *
  obtain ⟨g3, e3⟩ : ∃ g, w1.heap.size = g := ⟨_, rfl⟩
  rw [e3] at K3 hl1 hl2
  try simp only [e3]
  clear e3
  go_upto_region 3 with (refine Av.wpList_store_cell rfl _ _ _ rfl w.heap.size 0 (.int .i64 0) rfl rfl 28 _ K1 (by show 0 < 15; decide) (by kernel_rfl) rfl ?_; replace K2 := Av.bother (i := 0) K2 (show w.heap.size ≠ w.heap.size + 1 by omega) (.int .i64 0); replace K3 := Av.bother (i := 0) K3 (show w.heap.size ≠ g3 by omega) (.int .i64 0); replace K1 := Av.bset K1 0 (.int .i64 0) rfl; replace BX := BX.setCell (p := ⟨w.heap.size, 0, none⟩) (Nat.le_refl _) (.int .i64 0))
  generalize X0.setCell ⟨w.heap.size, 0, none⟩ (.int .i64 0) = X1 at *
  have y1 := K3.cell 1
  have y2 := K3.cell 2
  have y3 := K3.cell 3
  have y4 := K3.cell 4
  have y5 := K3.cell 5
  have y6 := K3.cell 6
  have y7 := K3.cell 7
  have y8 := K3.cell 8
  have y9 := K3.cell 9
  have y10 := K3.cell 10
  go_upto_region 10 with (fail)
  clear y1 y2 y3 y4 y5 y6 y7 y8 y9 y10
  go_upto_region 11 with (refine Av.wpList_store_cell rfl _ _ _ rfl w.heap.size 8 (.int .i64 0) rfl rfl 28 _ K1 (by show 8 < 15; decide) (by kernel_rfl) rfl ?_; replace K2 := Av.bother (i := 8) K2 (show w.heap.size ≠ w.heap.size + 1 by omega) (.int .i64 0); replace K3 := Av.bother (i := 8) K3 (show w.heap.size ≠ g3 by omega) (.int .i64 0); replace K1 := Av.bset K1 8 (.int .i64 0) rfl; replace BX := BX.setCell (p := ⟨w.heap.size, 8, none⟩) (Nat.le_refl _) (.int .i64 0))
  generalize X1.setCell ⟨w.heap.size, 8, none⟩ (.int .i64 0) = X2 at *
  have y1 := K3.cell 1
  have y2 := K3.cell 2
  have y3 := K3.cell 3
  have y4 := K3.cell 4
  have y5 := K3.cell 5
  have y6 := K3.cell 6
  have y7 := K3.cell 7
  have y8 := K3.cell 8
  have y9 := K3.cell 9
  have y10 := K3.cell 10
  go_upto_region 23 with (fail)
  clear y1 y2 y3 y4 y5 y6 y7 y8 y9 y10
  have H1 : (#[.int .i64 0, .int .i64 c.ws, .int .i64 c.wo, .int .i64 c.it, .int .i64 c.la, .int .i64 c.ti, .int .u64 (c.m : Int), .int .u16 c.ins, .int .i64 0, .int .i64 c.rj, .int .u64 c.st, .int .u64 c.mr, .int .u64 c.ft, .int .i64 c.vs, .int .i64 c.ln] : Array Value).all (·.oneCell') = true := by rw [← Array.all_toList]; rfl
  go_wp2_with (first | (refine wpList_store_row rfl 28 (.tmp 2) _ rfl (w.heap.size + 1) #[.int .i64 0, .int .i64 c.ws, .int .i64 c.wo, .int .i64 c.it, .int .i64 c.la, .int .i64 c.ti, .int .u64 (c.m : Int), .int .u16 c.ins, .int .i64 0, .int .i64 c.rj, .int .u64 c.st, .int .u64 c.mr, .int .u64 c.ft, .int .i64 c.vs, .int .i64 c.ln] rfl rfl 28 _ K2 (by kernel_rfl) rfl H1 ?_) | (refine wpList_load_row rfl 28 (.tmp 1) rfl w.heap.size rfl 28 _ (0, 0) _ K1 Try.underlying28 rfl (by kernel_rfl) ?_))
  have KR := setRow_heap X2 (w.heap.size + 1) _ #[.int .i64 0, .int .i64 c.ws, .int .i64 c.wo, .int .i64 c.it, .int .i64 c.la, .int .i64 c.ti, .int .u64 (c.m : Int), .int .u16 c.ins, .int .i64 0, .int .i64 c.rj, .int .u64 c.st, .int .u64 c.mr, .int .u64 c.ft, .int .i64 c.vs, .int .i64 c.ln] 28 (0, 0) K2
  have BE := below_setRow BX (Nat.le_succ _) #[.int .i64 0, .int .i64 c.ws, .int .i64 c.wo, .int .i64 c.it, .int .i64 c.la, .int .i64 c.ti, .int .u64 (c.m : Int), .int .u16 c.ins, .int .i64 0, .int .i64 c.rj, .int .u64 c.st, .int .u64 c.mr, .int .u64 c.ft, .int .i64 c.vs, .int .i64 c.ln]
  generalize X2.setRow (w.heap.size + 1) #[.int .i64 0, .int .i64 c.ws, .int .i64 c.wo, .int .i64 c.it, .int .i64 c.la, .int .i64 c.ti, .int .u64 (c.m : Int), .int .u16 c.ins, .int .i64 0, .int .i64 c.rj, .int .u64 c.st, .int .u64 c.mr, .int .u64 c.ft, .int .i64 c.vs, .int .i64 c.ln] = Y at *
  refine bodyPost_ret (v := .agg #[.int .i64 0, .int .i64 c.ws, .int .i64 c.wo, .int .i64 c.it, .int .i64 c.la, .int .i64 c.ti, .int .u64 (c.m : Int), .int .u16 c.ins, .int .i64 0, .int .i64 c.rj, .int .u64 c.st, .int .u64 c.mr, .int .u64 c.ft, .int .i64 c.vs, .int .i64 c.ln]) ?_ rfl ⟨rfl, BE⟩
  clear K1
  have HL := run_loadVar_row (P := Try.prog) Y (w.heap.size + 1) 28 28 #[.int .i64 0, .int .i64 c.ws, .int .i64 c.wo, .int .i64 c.it, .int .i64 c.la, .int .i64 c.ti, .int .u64 (c.m : Int), .int .u16 c.ins, .int .i64 0, .int .i64 c.rj, .int .u64 c.st, .int .u64 c.mr, .int .u64 c.ft, .int .i64 c.vs, .int .i64 c.ln] (0, 0) _ KR Try.underlying28 rfl (by kernel_rfl)
  generalize (#[.int .i64 0, .int .i64 c.ws, .int .i64 c.wo, .int .i64 c.it, .int .i64 c.la, .int .i64 c.ti, .int .u64 (c.m : Int), .int .u16 c.ins, .int .i64 0, .int .i64 c.rj, .int .u64 c.st, .int .u64 c.mr, .int .u64 c.ft, .int .i64 c.vs, .int .i64 c.ln] : Array Value) = CS at *
  simp [results, show (Try.f21).results = #[.cell 2 28] from rfl, asAddr, HL, Act.put]
set_option maxRecDepth 100000 in
set_option maxHeartbeats 4000000 in
theorem rest_sa_mk (c : Ct) (w : World) (hp : ptsK c.k = some [.sa, .mk]) : Calls Try.prog 21 #[.agg (encC c)] w fun e w' => e = .returned (.agg #[.int .i64 0, .int .i64 c.ws, .int .i64 c.wo, .int .i64 c.it, .int .i64 c.la, .int .i64 c.ti, .int .u64 (c.m : Int), .int .u16 c.ins, .int .i64 c.rs, .int .i64 c.rj, .int .u64 0, .int .u64 0, .int .u64 c.ft, .int .i64 c.vs, .int .i64 c.ln]) ∧ Below w.heap.size w w' := by
  have BX : Below w.heap.size w ((w.alloc (.cells #[.int .i64 c.k, .int .i64 c.ws, .int .i64 c.wo, .int .i64 c.it, .int .i64 c.la, .int .i64 c.ti, .int .u64 (c.m : Int), .int .u16 c.ins, .int .i64 c.rs, .int .i64 c.rj, .int .u64 c.st, .int .u64 c.mr, .int .u64 c.ft, .int .i64 c.vs, .int .i64 c.ln] 28)).alloc (.cells #[.int .i64 0, .int .i64 0, .int .i64 0, .int .i64 0, .int .i64 0, .int .i64 0, .int .u64 0, .int .u16 0, .int .i64 0, .int .i64 0, .int .u64 0, .int .u64 0, .int .u64 0, .int .i64 0, .int .i64 0] 28)) := ((Below.refl _ _).alloc (Nat.le_refl _) _).alloc (by simp) _
  have K1 : Blk ((w.alloc (.cells #[.int .i64 c.k, .int .i64 c.ws, .int .i64 c.wo, .int .i64 c.it, .int .i64 c.la, .int .i64 c.ti, .int .u64 (c.m : Int), .int .u16 c.ins, .int .i64 c.rs, .int .i64 c.rj, .int .u64 c.st, .int .u64 c.mr, .int .u64 c.ft, .int .i64 c.vs, .int .i64 c.ln] 28)).alloc (.cells #[.int .i64 0, .int .i64 0, .int .i64 0, .int .i64 0, .int .i64 0, .int .i64 0, .int .u64 0, .int .u16 0, .int .i64 0, .int .i64 0, .int .u64 0, .int .u64 0, .int .u64 0, .int .i64 0, .int .i64 0] 28)) w.heap.size 28 #[.int .i64 c.k, .int .i64 c.ws, .int .i64 c.wo, .int .i64 c.it, .int .i64 c.la, .int .i64 c.ti, .int .u64 (c.m : Int), .int .u16 c.ins, .int .i64 c.rs, .int .i64 c.rj, .int .u64 c.st, .int .u64 c.mr, .int .u64 c.ft, .int .i64 c.vs, .int .i64 c.ln] := (Blk.fresh w 28 #[.int .i64 c.k, .int .i64 c.ws, .int .i64 c.wo, .int .i64 c.it, .int .i64 c.la, .int .i64 c.ti, .int .u64 (c.m : Int), .int .u16 c.ins, .int .i64 c.rs, .int .i64 c.rj, .int .u64 c.st, .int .u64 c.mr, .int .u64 c.ft, .int .i64 c.vs, .int .i64 c.ln]).alloc _
  have K2 : Blk ((w.alloc (.cells #[.int .i64 c.k, .int .i64 c.ws, .int .i64 c.wo, .int .i64 c.it, .int .i64 c.la, .int .i64 c.ti, .int .u64 (c.m : Int), .int .u16 c.ins, .int .i64 c.rs, .int .i64 c.rj, .int .u64 c.st, .int .u64 c.mr, .int .u64 c.ft, .int .i64 c.vs, .int .i64 c.ln] 28)).alloc (.cells #[.int .i64 0, .int .i64 0, .int .i64 0, .int .i64 0, .int .i64 0, .int .i64 0, .int .u64 0, .int .u16 0, .int .i64 0, .int .i64 0, .int .u64 0, .int .u64 0, .int .u64 0, .int .i64 0, .int .i64 0] 28)) (w.heap.size + 1) 28 #[.int .i64 0, .int .i64 0, .int .i64 0, .int .i64 0, .int .i64 0, .int .i64 0, .int .u64 0, .int .u16 0, .int .i64 0, .int .i64 0, .int .u64 0, .int .u64 0, .int .u64 0, .int .i64 0, .int .i64 0] := Av.Blk.next
  have HF : Hid (∀ w, Calls Try.prog 20 #[.int .i64 c.k] w fun e w' => e = .returned (.agg #[.bool true, .bool false, .bool false, .bool false, .bool false, .bool false, .bool true, .bool true, .bool false, .bool false, .bool false]) ∧ Below w.heap.size w w') := Lib.hid fun w => by have := fields_k c.k w; rw [hp] at this; exact this
  clear hp
  show Calls _ _ #[.agg #[.int .i64 c.k, .int .i64 c.ws, .int .i64 c.wo, .int .i64 c.it, .int .i64 c.la, .int .i64 c.ti, .int .u64 (c.m : Int), .int .u16 c.ins, .int .i64 c.rs, .int .i64 c.rj, .int .u64 c.st, .int .u64 c.mr, .int .u64 c.ft, .int .i64 c.vs, .int .i64 c.ln]] _ _
  go_enter Try.func21, Try.ntmps21
  go_upto_region 1 with (fail)
  generalize (w.alloc (.cells #[.int .i64 c.k, .int .i64 c.ws, .int .i64 c.wo, .int .i64 c.it, .int .i64 c.la, .int .i64 c.ti, .int .u64 (c.m : Int), .int .u16 c.ins, .int .i64 c.rs, .int .i64 c.rj, .int .u64 c.st, .int .u64 c.mr, .int .u64 c.ft, .int .i64 c.vs, .int .i64 c.ln] 28)).alloc (.cells #[.int .i64 0, .int .i64 0, .int .i64 0, .int .i64 0, .int .i64 0, .int .i64 0, .int .u64 0, .int .u16 0, .int .i64 0, .int .i64 0, .int .u64 0, .int .u64 0, .int .u64 0, .int .i64 0, .int .i64 0] 28) = W0 at *
  have k0 := K1.cell 0
  go_upto_region 2 with (go_at_call 20; refine (HF.out _).mono ?_; rintro e w1 ⟨rfl, b1⟩)
  clear k0
  have b9 : Below w1.heap.size w1 (w1.alloc (.cells #[.bool true, .bool false, .bool false, .bool false, .bool false, .bool false, .bool true, .bool true, .bool false, .bool false, .bool false] 53)) := (Below.refl _ _).alloc (Nat.le_refl _) _
  have K3 : Blk (w1.alloc (.cells #[.bool true, .bool false, .bool false, .bool false, .bool false, .bool false, .bool true, .bool true, .bool false, .bool false, .bool false] 53)) w1.heap.size 53 #[.bool true, .bool false, .bool false, .bool false, .bool false, .bool false, .bool true, .bool true, .bool false, .bool false, .bool false] := Blk.fresh w1 53 #[.bool true, .bool false, .bool false, .bool false, .bool false, .bool false, .bool true, .bool true, .bool false, .bool false, .bool false]
  have hl1 := (K1.below b1 K1.lt).lt
  have hl2 := (K2.below b1 K2.lt).lt
  replace K1 := (K1.below b1 K1.lt).below b9 hl1
  replace K2 := (K2.below b1 K2.lt).below b9 hl2
  replace BX := thenB (thenB BX b1) b9
  clear b1 b9
  generalize w1.alloc (.cells #[.bool true, .bool false, .bool false, .bool false, .bool false, .bool false, .bool true, .bool true, .bool false, .bool false, .bool false] 53) = X0 at *
  obtain ⟨g3, e3⟩ : ∃ g, w1.heap.size = g := ⟨_, rfl⟩
  rw [e3] at K3 hl1 hl2
  try simp only [e3]
  clear e3
  go_upto_region 3 with (refine Av.wpList_store_cell rfl _ _ _ rfl w.heap.size 0 (.int .i64 0) rfl rfl 28 _ K1 (by show 0 < 15; decide) (by kernel_rfl) rfl ?_; replace K2 := Av.bother (i := 0) K2 (show w.heap.size ≠ w.heap.size + 1 by omega) (.int .i64 0); replace K3 := Av.bother (i := 0) K3 (show w.heap.size ≠ g3 by omega) (.int .i64 0); replace K1 := Av.bset K1 0 (.int .i64 0) rfl; replace BX := BX.setCell (p := ⟨w.heap.size, 0, none⟩) (Nat.le_refl _) (.int .i64 0))
  generalize X0.setCell ⟨w.heap.size, 0, none⟩ (.int .i64 0) = X1 at *
  have y1 := K3.cell 1
  have y2 := K3.cell 2
  have y3 := K3.cell 3
  have y4 := K3.cell 4
  have y5 := K3.cell 5
  have y6 := K3.cell 6
  have y7 := K3.cell 7
  have y8 := K3.cell 8
  have y9 := K3.cell 9
  have y10 := K3.cell 10
  go_upto_region 14 with (fail)
  clear y1 y2 y3 y4 y5 y6 y7 y8 y9 y10
  go_upto_region 15 with (refine Av.wpList_store_cell rfl _ _ _ rfl w.heap.size 10 (.int .u64 0) rfl rfl 28 _ K1 (by show 10 < 15; decide) (by kernel_rfl) rfl ?_; replace K2 := Av.bother (i := 10) K2 (show w.heap.size ≠ w.heap.size + 1 by omega) (.int .u64 0); replace K3 := Av.bother (i := 10) K3 (show w.heap.size ≠ g3 by omega) (.int .u64 0); replace K1 := Av.bset K1 10 (.int .u64 0) rfl; replace BX := BX.setCell (p := ⟨w.heap.size, 10, none⟩) (Nat.le_refl _) (.int .u64 0))
  generalize X1.setCell ⟨w.heap.size, 10, none⟩ (.int .u64 0) = X2 at *
  have y1 := K3.cell 1
  have y2 := K3.cell 2
  have y3 := K3.cell 3
  have y4 := K3.cell 4
  have y5 := K3.cell 5
  have y6 := K3.cell 6
  have y7 := K3.cell 7
  have y8 := K3.cell 8
  have y9 := K3.cell 9
  have y10 := K3.cell 10
  go_upto_region 16 with (fail)
  clear y1 y2 y3 y4 y5 y6 y7 y8 y9 y10
  go_upto_region 17 with (refine Av.wpList_store_cell rfl _ _ _ rfl w.heap.size 11 (.int .u64 0) rfl rfl 28 _ K1 (by show 11 < 15; decide) (by kernel_rfl) rfl ?_; replace K2 := Av.bother (i := 11) K2 (show w.heap.size ≠ w.heap.size + 1 by omega) (.int .u64 0); replace K3 := Av.bother (i := 11) K3 (show w.heap.size ≠ g3 by omega) (.int .u64 0); replace K1 := Av.bset K1 11 (.int .u64 0) rfl; replace BX := BX.setCell (p := ⟨w.heap.size, 11, none⟩) (Nat.le_refl _) (.int .u64 0))
  generalize X2.setCell ⟨w.heap.size, 11, none⟩ (.int .u64 0) = X3 at *
  have y1 := K3.cell 1
  have y2 := K3.cell 2
  have y3 := K3.cell 3
  have y4 := K3.cell 4
  have y5 := K3.cell 5
  have y6 := K3.cell 6
  have y7 := K3.cell 7
  have y8 := K3.cell 8
  have y9 := K3.cell 9
  have y10 := K3.cell 10
  go_upto_region 23 with (fail)
  clear y1 y2 y3 y4 y5 y6 y7 y8 y9 y10
  have H1 : (#[.int .i64 0, .int .i64 c.ws, .int .i64 c.wo, .int .i64 c.it, .int .i64 c.la, .int .i64 c.ti, .int .u64 (c.m : Int), .int .u16 c.ins, .int .i64 c.rs, .int .i64 c.rj, .int .u64 0, .int .u64 0, .int .u64 c.ft, .int .i64 c.vs, .int .i64 c.ln] : Array Value).all (·.oneCell') = true := by rw [← Array.all_toList]; rfl
  go_wp2_with (first | (refine wpList_store_row rfl 28 (.tmp 2) _ rfl (w.heap.size + 1) #[.int .i64 0, .int .i64 c.ws, .int .i64 c.wo, .int .i64 c.it, .int .i64 c.la, .int .i64 c.ti, .int .u64 (c.m : Int), .int .u16 c.ins, .int .i64 c.rs, .int .i64 c.rj, .int .u64 0, .int .u64 0, .int .u64 c.ft, .int .i64 c.vs, .int .i64 c.ln] rfl rfl 28 _ K2 (by kernel_rfl) rfl H1 ?_) | (refine wpList_load_row rfl 28 (.tmp 1) rfl w.heap.size rfl 28 _ (0, 0) _ K1 Try.underlying28 rfl (by kernel_rfl) ?_))
  have KR := setRow_heap X3 (w.heap.size + 1) _ #[.int .i64 0, .int .i64 c.ws, .int .i64 c.wo, .int .i64 c.it, .int .i64 c.la, .int .i64 c.ti, .int .u64 (c.m : Int), .int .u16 c.ins, .int .i64 c.rs, .int .i64 c.rj, .int .u64 0, .int .u64 0, .int .u64 c.ft, .int .i64 c.vs, .int .i64 c.ln] 28 (0, 0) K2
  have BE := below_setRow BX (Nat.le_succ _) #[.int .i64 0, .int .i64 c.ws, .int .i64 c.wo, .int .i64 c.it, .int .i64 c.la, .int .i64 c.ti, .int .u64 (c.m : Int), .int .u16 c.ins, .int .i64 c.rs, .int .i64 c.rj, .int .u64 0, .int .u64 0, .int .u64 c.ft, .int .i64 c.vs, .int .i64 c.ln]
  generalize X3.setRow (w.heap.size + 1) #[.int .i64 0, .int .i64 c.ws, .int .i64 c.wo, .int .i64 c.it, .int .i64 c.la, .int .i64 c.ti, .int .u64 (c.m : Int), .int .u16 c.ins, .int .i64 c.rs, .int .i64 c.rj, .int .u64 0, .int .u64 0, .int .u64 c.ft, .int .i64 c.vs, .int .i64 c.ln] = Y at *
  refine bodyPost_ret (v := .agg #[.int .i64 0, .int .i64 c.ws, .int .i64 c.wo, .int .i64 c.it, .int .i64 c.la, .int .i64 c.ti, .int .u64 (c.m : Int), .int .u16 c.ins, .int .i64 c.rs, .int .i64 c.rj, .int .u64 0, .int .u64 0, .int .u64 c.ft, .int .i64 c.vs, .int .i64 c.ln]) ?_ rfl ⟨rfl, BE⟩
  clear K1
  have HL := run_loadVar_row (P := Try.prog) Y (w.heap.size + 1) 28 28 #[.int .i64 0, .int .i64 c.ws, .int .i64 c.wo, .int .i64 c.it, .int .i64 c.la, .int .i64 c.ti, .int .u64 (c.m : Int), .int .u16 c.ins, .int .i64 c.rs, .int .i64 c.rj, .int .u64 0, .int .u64 0, .int .u64 c.ft, .int .i64 c.vs, .int .i64 c.ln] (0, 0) _ KR Try.underlying28 rfl (by kernel_rfl)
  generalize (#[.int .i64 0, .int .i64 c.ws, .int .i64 c.wo, .int .i64 c.it, .int .i64 c.la, .int .i64 c.ti, .int .u64 (c.m : Int), .int .u16 c.ins, .int .i64 c.rs, .int .i64 c.rj, .int .u64 0, .int .u64 0, .int .u64 c.ft, .int .i64 c.vs, .int .i64 c.ln] : Array Value) = CS at *
  simp [results, show (Try.f21).results = #[.cell 2 28] from rfl, asAddr, HL, Act.put]
set_option maxRecDepth 100000 in
set_option maxHeartbeats 4000000 in
theorem rest_sa (c : Ct) (w : World) (hp : ptsK c.k = some [.sa]) : Calls Try.prog 21 #[.agg (encC c)] w fun e w' => e = .returned (.agg #[.int .i64 0, .int .i64 c.ws, .int .i64 c.wo, .int .i64 c.it, .int .i64 c.la, .int .i64 c.ti, .int .u64 (c.m : Int), .int .u16 c.ins, .int .i64 c.rs, .int .i64 c.rj, .int .u64 0, .int .u64 c.mr, .int .u64 c.ft, .int .i64 c.vs, .int .i64 c.ln]) ∧ Below w.heap.size w w' := by
  have BX : Below w.heap.size w ((w.alloc (.cells #[.int .i64 c.k, .int .i64 c.ws, .int .i64 c.wo, .int .i64 c.it, .int .i64 c.la, .int .i64 c.ti, .int .u64 (c.m : Int), .int .u16 c.ins, .int .i64 c.rs, .int .i64 c.rj, .int .u64 c.st, .int .u64 c.mr, .int .u64 c.ft, .int .i64 c.vs, .int .i64 c.ln] 28)).alloc (.cells #[.int .i64 0, .int .i64 0, .int .i64 0, .int .i64 0, .int .i64 0, .int .i64 0, .int .u64 0, .int .u16 0, .int .i64 0, .int .i64 0, .int .u64 0, .int .u64 0, .int .u64 0, .int .i64 0, .int .i64 0] 28)) := ((Below.refl _ _).alloc (Nat.le_refl _) _).alloc (by simp) _
  have K1 : Blk ((w.alloc (.cells #[.int .i64 c.k, .int .i64 c.ws, .int .i64 c.wo, .int .i64 c.it, .int .i64 c.la, .int .i64 c.ti, .int .u64 (c.m : Int), .int .u16 c.ins, .int .i64 c.rs, .int .i64 c.rj, .int .u64 c.st, .int .u64 c.mr, .int .u64 c.ft, .int .i64 c.vs, .int .i64 c.ln] 28)).alloc (.cells #[.int .i64 0, .int .i64 0, .int .i64 0, .int .i64 0, .int .i64 0, .int .i64 0, .int .u64 0, .int .u16 0, .int .i64 0, .int .i64 0, .int .u64 0, .int .u64 0, .int .u64 0, .int .i64 0, .int .i64 0] 28)) w.heap.size 28 #[.int .i64 c.k, .int .i64 c.ws, .int .i64 c.wo, .int .i64 c.it, .int .i64 c.la, .int .i64 c.ti, .int .u64 (c.m : Int), .int .u16 c.ins, .int .i64 c.rs, .int .i64 c.rj, .int .u64 c.st, .int .u64 c.mr, .int .u64 c.ft, .int .i64 c.vs, .int .i64 c.ln] := (Blk.fresh w 28 #[.int .i64 c.k, .int .i64 c.ws, .int .i64 c.wo, .int .i64 c.it, .int .i64 c.la, .int .i64 c.ti, .int .u64 (c.m : Int), .int .u16 c.ins, .int .i64 c.rs, .int .i64 c.rj, .int .u64 c.st, .int .u64 c.mr, .int .u64 c.ft, .int .i64 c.vs, .int .i64 c.ln]).alloc _
  have K2 : Blk ((w.alloc (.cells #[.int .i64 c.k, .int .i64 c.ws, .int .i64 c.wo, .int .i64 c.it, .int .i64 c.la, .int .i64 c.ti, .int .u64 (c.m : Int), .int .u16 c.ins, .int .i64 c.rs, .int .i64 c.rj, .int .u64 c.st, .int .u64 c.mr, .int .u64 c.ft, .int .i64 c.vs, .int .i64 c.ln] 28)).alloc (.cells #[.int .i64 0, .int .i64 0, .int .i64 0, .int .i64 0, .int .i64 0, .int .i64 0, .int .u64 0, .int .u16 0, .int .i64 0, .int .i64 0, .int .u64 0, .int .u64 0, .int .u64 0, .int .i64 0, .int .i64 0] 28)) (w.heap.size + 1) 28 #[.int .i64 0, .int .i64 0, .int .i64 0, .int .i64 0, .int .i64 0, .int .i64 0, .int .u64 0, .int .u16 0, .int .i64 0, .int .i64 0, .int .u64 0, .int .u64 0, .int .u64 0, .int .i64 0, .int .i64 0] := Av.Blk.next
  have HF : Hid (∀ w, Calls Try.prog 20 #[.int .i64 c.k] w fun e w' => e = .returned (.agg #[.bool true, .bool false, .bool false, .bool false, .bool false, .bool false, .bool true, .bool false, .bool false, .bool false, .bool false]) ∧ Below w.heap.size w w') := Lib.hid fun w => by have := fields_k c.k w; rw [hp] at this; exact this
  clear hp
  show Calls _ _ #[.agg #[.int .i64 c.k, .int .i64 c.ws, .int .i64 c.wo, .int .i64 c.it, .int .i64 c.la, .int .i64 c.ti, .int .u64 (c.m : Int), .int .u16 c.ins, .int .i64 c.rs, .int .i64 c.rj, .int .u64 c.st, .int .u64 c.mr, .int .u64 c.ft, .int .i64 c.vs, .int .i64 c.ln]] _ _
  go_enter Try.func21, Try.ntmps21
  go_upto_region 1 with (fail)
  generalize (w.alloc (.cells #[.int .i64 c.k, .int .i64 c.ws, .int .i64 c.wo, .int .i64 c.it, .int .i64 c.la, .int .i64 c.ti, .int .u64 (c.m : Int), .int .u16 c.ins, .int .i64 c.rs, .int .i64 c.rj, .int .u64 c.st, .int .u64 c.mr, .int .u64 c.ft, .int .i64 c.vs, .int .i64 c.ln] 28)).alloc (.cells #[.int .i64 0, .int .i64 0, .int .i64 0, .int .i64 0, .int .i64 0, .int .i64 0, .int .u64 0, .int .u16 0, .int .i64 0, .int .i64 0, .int .u64 0, .int .u64 0, .int .u64 0, .int .i64 0, .int .i64 0] 28) = W0 at *
  have k0 := K1.cell 0
  go_upto_region 2 with (go_at_call 20; refine (HF.out _).mono ?_; rintro e w1 ⟨rfl, b1⟩)
  clear k0
  have b9 : Below w1.heap.size w1 (w1.alloc (.cells #[.bool true, .bool false, .bool false, .bool false, .bool false, .bool false, .bool true, .bool false, .bool false, .bool false, .bool false] 53)) := (Below.refl _ _).alloc (Nat.le_refl _) _
  have K3 : Blk (w1.alloc (.cells #[.bool true, .bool false, .bool false, .bool false, .bool false, .bool false, .bool true, .bool false, .bool false, .bool false, .bool false] 53)) w1.heap.size 53 #[.bool true, .bool false, .bool false, .bool false, .bool false, .bool false, .bool true, .bool false, .bool false, .bool false, .bool false] := Blk.fresh w1 53 #[.bool true, .bool false, .bool false, .bool false, .bool false, .bool false, .bool true, .bool false, .bool false, .bool false, .bool false]
  have hl1 := (K1.below b1 K1.lt).lt
  have hl2 := (K2.below b1 K2.lt).lt
  replace K1 := (K1.below b1 K1.lt).below b9 hl1
  replace K2 := (K2.below b1 K2.lt).below b9 hl2
  replace BX := thenB (thenB BX b1) b9
  clear b1 b9
  generalize w1.alloc (.cells #[.bool true, .bool false, .bool false, .bool false, .bool false, .bool false, .bool true, .bool false, .bool false, .bool false, .bool false] 53) = X0 at *
  obtain ⟨g3, e3⟩ : ∃ g, w1.heap.size = g := ⟨_, rfl⟩
  rw [e3] at K3 hl1 hl2
  try simp only [e3]
  clear e3
  go_upto_region 3 with (refine Av.wpList_store_cell rfl _ _ _ rfl w.heap.size 0 (.int .i64 0) rfl rfl 28 _ K1 (by show 0 < 15; decide) (by kernel_rfl) rfl ?_; replace K2 := Av.bother (i := 0) K2 (show w.heap.size ≠ w.heap.size + 1 by omega) (.int .i64 0); replace K3 := Av.bother (i := 0) K3 (show w.heap.size ≠ g3 by omega) (.int .i64 0); replace K1 := Av.bset K1 0 (.int .i64 0) rfl; replace BX := BX.setCell (p := ⟨w.heap.size, 0, none⟩) (Nat.le_refl _) (.int .i64 0))
  generalize X0.setCell ⟨w.heap.size, 0, none⟩ (.int .i64 0) = X1 at *
  have y1 := K3.cell 1
  have y2 := K3.cell 2
  have y3 := K3.cell 3
  have y4 := K3.cell 4
  have y5 := K3.cell 5
  have y6 := K3.cell 6
  have y7 := K3.cell 7
  have y8 := K3.cell 8
  have y9 := K3.cell 9
  have y10 := K3.cell 10
  go_upto_region 14 with (fail)
  clear y1 y2 y3 y4 y5 y6 y7 y8 y9 y10
  go_upto_region 15 with (refine Av.wpList_store_cell rfl _ _ _ rfl w.heap.size 10 (.int .u64 0) rfl rfl 28 _ K1 (by show 10 < 15; decide) (by kernel_rfl) rfl ?_; replace K2 := Av.bother (i := 10) K2 (show w.heap.size ≠ w.heap.size + 1 by omega) (.int .u64 0); replace K3 := Av.bother (i := 10) K3 (show w.heap.size ≠ g3 by omega) (.int .u64 0); replace K1 := Av.bset K1 10 (.int .u64 0) rfl; replace BX := BX.setCell (p := ⟨w.heap.size, 10, none⟩) (Nat.le_refl _) (.int .u64 0))
  generalize X1.setCell ⟨w.heap.size, 10, none⟩ (.int .u64 0) = X2 at *
  have y1 := K3.cell 1
  have y2 := K3.cell 2
  have y3 := K3.cell 3
  have y4 := K3.cell 4
  have y5 := K3.cell 5
  have y6 := K3.cell 6
  have y7 := K3.cell 7
  have y8 := K3.cell 8
  have y9 := K3.cell 9
  have y10 := K3.cell 10
  go_upto_region 23 with (fail)
  clear y1 y2 y3 y4 y5 y6 y7 y8 y9 y10
  have H1 : (#[.int .i64 0, .int .i64 c.ws, .int .i64 c.wo, .int .i64 c.it, .int .i64 c.la, .int .i64 c.ti, .int .u64 (c.m : Int), .int .u16 c.ins, .int .i64 c.rs, .int .i64 c.rj, .int .u64 0, .int .u64 c.mr, .int .u64 c.ft, .int .i64 c.vs, .int .i64 c.ln] : Array Value).all (·.oneCell') = true := by rw [← Array.all_toList]; rfl
  go_wp2_with (first | (refine wpList_store_row rfl 28 (.tmp 2) _ rfl (w.heap.size + 1) #[.int .i64 0, .int .i64 c.ws, .int .i64 c.wo, .int .i64 c.it, .int .i64 c.la, .int .i64 c.ti, .int .u64 (c.m : Int), .int .u16 c.ins, .int .i64 c.rs, .int .i64 c.rj, .int .u64 0, .int .u64 c.mr, .int .u64 c.ft, .int .i64 c.vs, .int .i64 c.ln] rfl rfl 28 _ K2 (by kernel_rfl) rfl H1 ?_) | (refine wpList_load_row rfl 28 (.tmp 1) rfl w.heap.size rfl 28 _ (0, 0) _ K1 Try.underlying28 rfl (by kernel_rfl) ?_))
  have KR := setRow_heap X2 (w.heap.size + 1) _ #[.int .i64 0, .int .i64 c.ws, .int .i64 c.wo, .int .i64 c.it, .int .i64 c.la, .int .i64 c.ti, .int .u64 (c.m : Int), .int .u16 c.ins, .int .i64 c.rs, .int .i64 c.rj, .int .u64 0, .int .u64 c.mr, .int .u64 c.ft, .int .i64 c.vs, .int .i64 c.ln] 28 (0, 0) K2
  have BE := below_setRow BX (Nat.le_succ _) #[.int .i64 0, .int .i64 c.ws, .int .i64 c.wo, .int .i64 c.it, .int .i64 c.la, .int .i64 c.ti, .int .u64 (c.m : Int), .int .u16 c.ins, .int .i64 c.rs, .int .i64 c.rj, .int .u64 0, .int .u64 c.mr, .int .u64 c.ft, .int .i64 c.vs, .int .i64 c.ln]
  generalize X2.setRow (w.heap.size + 1) #[.int .i64 0, .int .i64 c.ws, .int .i64 c.wo, .int .i64 c.it, .int .i64 c.la, .int .i64 c.ti, .int .u64 (c.m : Int), .int .u16 c.ins, .int .i64 c.rs, .int .i64 c.rj, .int .u64 0, .int .u64 c.mr, .int .u64 c.ft, .int .i64 c.vs, .int .i64 c.ln] = Y at *
  refine bodyPost_ret (v := .agg #[.int .i64 0, .int .i64 c.ws, .int .i64 c.wo, .int .i64 c.it, .int .i64 c.la, .int .i64 c.ti, .int .u64 (c.m : Int), .int .u16 c.ins, .int .i64 c.rs, .int .i64 c.rj, .int .u64 0, .int .u64 c.mr, .int .u64 c.ft, .int .i64 c.vs, .int .i64 c.ln]) ?_ rfl ⟨rfl, BE⟩
  clear K1
  have HL := run_loadVar_row (P := Try.prog) Y (w.heap.size + 1) 28 28 #[.int .i64 0, .int .i64 c.ws, .int .i64 c.wo, .int .i64 c.it, .int .i64 c.la, .int .i64 c.ti, .int .u64 (c.m : Int), .int .u16 c.ins, .int .i64 c.rs, .int .i64 c.rj, .int .u64 0, .int .u64 c.mr, .int .u64 c.ft, .int .i64 c.vs, .int .i64 c.ln] (0, 0) _ KR Try.underlying28 rfl (by kernel_rfl)
  generalize (#[.int .i64 0, .int .i64 c.ws, .int .i64 c.wo, .int .i64 c.it, .int .i64 c.la, .int .i64 c.ti, .int .u64 (c.m : Int), .int .u16 c.ins, .int .i64 c.rs, .int .i64 c.rj, .int .u64 0, .int .u64 c.mr, .int .u64 c.ft, .int .i64 c.vs, .int .i64 c.ln] : Array Value) = CS at *
  simp [results, show (Try.f21).results = #[.cell 2 28] from rfl, asAddr, HL, Act.put]
set_option maxRecDepth 100000 in
set_option maxHeartbeats 4000000 in
theorem rest_no (c : Ct) (w : World) (hp : ptsK c.k = some []) : Calls Try.prog 21 #[.agg (encC c)] w fun e w' => e = .returned (.agg #[.int .i64 0, .int .i64 c.ws, .int .i64 c.wo, .int .i64 c.it, .int .i64 c.la, .int .i64 c.ti, .int .u64 (c.m : Int), .int .u16 c.ins, .int .i64 c.rs, .int .i64 c.rj, .int .u64 c.st, .int .u64 c.mr, .int .u64 c.ft, .int .i64 c.vs, .int .i64 c.ln]) ∧ Below w.heap.size w w' := by
  have BX : Below w.heap.size w ((w.alloc (.cells #[.int .i64 c.k, .int .i64 c.ws, .int .i64 c.wo, .int .i64 c.it, .int .i64 c.la, .int .i64 c.ti, .int .u64 (c.m : Int), .int .u16 c.ins, .int .i64 c.rs, .int .i64 c.rj, .int .u64 c.st, .int .u64 c.mr, .int .u64 c.ft, .int .i64 c.vs, .int .i64 c.ln] 28)).alloc (.cells #[.int .i64 0, .int .i64 0, .int .i64 0, .int .i64 0, .int .i64 0, .int .i64 0, .int .u64 0, .int .u16 0, .int .i64 0, .int .i64 0, .int .u64 0, .int .u64 0, .int .u64 0, .int .i64 0, .int .i64 0] 28)) := ((Below.refl _ _).alloc (Nat.le_refl _) _).alloc (by simp) _
  have K1 : Blk ((w.alloc (.cells #[.int .i64 c.k, .int .i64 c.ws, .int .i64 c.wo, .int .i64 c.it, .int .i64 c.la, .int .i64 c.ti, .int .u64 (c.m : Int), .int .u16 c.ins, .int .i64 c.rs, .int .i64 c.rj, .int .u64 c.st, .int .u64 c.mr, .int .u64 c.ft, .int .i64 c.vs, .int .i64 c.ln] 28)).alloc (.cells #[.int .i64 0, .int .i64 0, .int .i64 0, .int .i64 0, .int .i64 0, .int .i64 0, .int .u64 0, .int .u16 0, .int .i64 0, .int .i64 0, .int .u64 0, .int .u64 0, .int .u64 0, .int .i64 0, .int .i64 0] 28)) w.heap.size 28 #[.int .i64 c.k, .int .i64 c.ws, .int .i64 c.wo, .int .i64 c.it, .int .i64 c.la, .int .i64 c.ti, .int .u64 (c.m : Int), .int .u16 c.ins, .int .i64 c.rs, .int .i64 c.rj, .int .u64 c.st, .int .u64 c.mr, .int .u64 c.ft, .int .i64 c.vs, .int .i64 c.ln] := (Blk.fresh w 28 #[.int .i64 c.k, .int .i64 c.ws, .int .i64 c.wo, .int .i64 c.it, .int .i64 c.la, .int .i64 c.ti, .int .u64 (c.m : Int), .int .u16 c.ins, .int .i64 c.rs, .int .i64 c.rj, .int .u64 c.st, .int .u64 c.mr, .int .u64 c.ft, .int .i64 c.vs, .int .i64 c.ln]).alloc _
  have K2 : Blk ((w.alloc (.cells #[.int .i64 c.k, .int .i64 c.ws, .int .i64 c.wo, .int .i64 c.it, .int .i64 c.la, .int .i64 c.ti, .int .u64 (c.m : Int), .int .u16 c.ins, .int .i64 c.rs, .int .i64 c.rj, .int .u64 c.st, .int .u64 c.mr, .int .u64 c.ft, .int .i64 c.vs, .int .i64 c.ln] 28)).alloc (.cells #[.int .i64 0, .int .i64 0, .int .i64 0, .int .i64 0, .int .i64 0, .int .i64 0, .int .u64 0, .int .u16 0, .int .i64 0, .int .i64 0, .int .u64 0, .int .u64 0, .int .u64 0, .int .i64 0, .int .i64 0] 28)) (w.heap.size + 1) 28 #[.int .i64 0, .int .i64 0, .int .i64 0, .int .i64 0, .int .i64 0, .int .i64 0, .int .u64 0, .int .u16 0, .int .i64 0, .int .i64 0, .int .u64 0, .int .u64 0, .int .u64 0, .int .i64 0, .int .i64 0] := Av.Blk.next
  have HF : Hid (∀ w, Calls Try.prog 20 #[.int .i64 c.k] w fun e w' => e = .returned (.agg #[.bool true, .bool false, .bool false, .bool false, .bool false, .bool false, .bool false, .bool false, .bool false, .bool false, .bool false]) ∧ Below w.heap.size w w') := Lib.hid fun w => by have := fields_k c.k w; rw [hp] at this; exact this
  clear hp
  show Calls _ _ #[.agg #[.int .i64 c.k, .int .i64 c.ws, .int .i64 c.wo, .int .i64 c.it, .int .i64 c.la, .int .i64 c.ti, .int .u64 (c.m : Int), .int .u16 c.ins, .int .i64 c.rs, .int .i64 c.rj, .int .u64 c.st, .int .u64 c.mr, .int .u64 c.ft, .int .i64 c.vs, .int .i64 c.ln]] _ _
  go_enter Try.func21, Try.ntmps21
  go_upto_region 1 with (fail)
  generalize (w.alloc (.cells #[.int .i64 c.k, .int .i64 c.ws, .int .i64 c.wo, .int .i64 c.it, .int .i64 c.la, .int .i64 c.ti, .int .u64 (c.m : Int), .int .u16 c.ins, .int .i64 c.rs, .int .i64 c.rj, .int .u64 c.st, .int .u64 c.mr, .int .u64 c.ft, .int .i64 c.vs, .int .i64 c.ln] 28)).alloc (.cells #[.int .i64 0, .int .i64 0, .int .i64 0, .int .i64 0, .int .i64 0, .int .i64 0, .int .u64 0, .int .u16 0, .int .i64 0, .int .i64 0, .int .u64 0, .int .u64 0, .int .u64 0, .int .i64 0, .int .i64 0] 28) = W0 at *
  have k0 := K1.cell 0
  go_upto_region 2 with (go_at_call 20; refine (HF.out _).mono ?_; rintro e w1 ⟨rfl, b1⟩)
  clear k0
  have b9 : Below w1.heap.size w1 (w1.alloc (.cells #[.bool true, .bool false, .bool false, .bool false, .bool false, .bool false, .bool false, .bool false, .bool false, .bool false, .bool false] 53)) := (Below.refl _ _).alloc (Nat.le_refl _) _
  have K3 : Blk (w1.alloc (.cells #[.bool true, .bool false, .bool false, .bool false, .bool false, .bool false, .bool false, .bool false, .bool false, .bool false, .bool false] 53)) w1.heap.size 53 #[.bool true, .bool false, .bool false, .bool false, .bool false, .bool false, .bool false, .bool false, .bool false, .bool false, .bool false] := Blk.fresh w1 53 #[.bool true, .bool false, .bool false, .bool false, .bool false, .bool false, .bool false, .bool false, .bool false, .bool false, .bool false]
  have hl1 := (K1.below b1 K1.lt).lt
  have hl2 := (K2.below b1 K2.lt).lt
  replace K1 := (K1.below b1 K1.lt).below b9 hl1
  replace K2 := (K2.below b1 K2.lt).below b9 hl2
  replace BX := thenB (thenB BX b1) b9
  clear b1 b9
  generalize w1.alloc (.cells #[.bool true, .bool false, .bool false, .bool false, .bool false, .bool false, .bool false, .bool false, .bool false, .bool false, .bool false] 53) = X0 at *
  obtain ⟨g3, e3⟩ : ∃ g, w1.heap.size = g := ⟨_, rfl⟩
  rw [e3] at K3 hl1 hl2
  try simp only [e3]
  clear e3
  go_upto_region 3 with (refine Av.wpList_store_cell rfl _ _ _ rfl w.heap.size 0 (.int .i64 0) rfl rfl 28 _ K1 (by show 0 < 15; decide) (by kernel_rfl) rfl ?_; replace K2 := Av.bother (i := 0) K2 (show w.heap.size ≠ w.heap.size + 1 by omega) (.int .i64 0); replace K3 := Av.bother (i := 0) K3 (show w.heap.size ≠ g3 by omega) (.int .i64 0); replace K1 := Av.bset K1 0 (.int .i64 0) rfl; replace BX := BX.setCell (p := ⟨w.heap.size, 0, none⟩) (Nat.le_refl _) (.int .i64 0))
  generalize X0.setCell ⟨w.heap.size, 0, none⟩ (.int .i64 0) = X1 at *
  have y1 := K3.cell 1
  have y2 := K3.cell 2
  have y3 := K3.cell 3
  have y4 := K3.cell 4
  have y5 := K3.cell 5
  have y6 := K3.cell 6
  have y7 := K3.cell 7
  have y8 := K3.cell 8
  have y9 := K3.cell 9
  have y10 := K3.cell 10
  go_upto_region 23 with (fail)
  clear y1 y2 y3 y4 y5 y6 y7 y8 y9 y10
  have H1 : (#[.int .i64 0, .int .i64 c.ws, .int .i64 c.wo, .int .i64 c.it, .int .i64 c.la, .int .i64 c.ti, .int .u64 (c.m : Int), .int .u16 c.ins, .int .i64 c.rs, .int .i64 c.rj, .int .u64 c.st, .int .u64 c.mr, .int .u64 c.ft, .int .i64 c.vs, .int .i64 c.ln] : Array Value).all (·.oneCell') = true := by rw [← Array.all_toList]; rfl
  go_wp2_with (first | (refine wpList_store_row rfl 28 (.tmp 2) _ rfl (w.heap.size + 1) #[.int .i64 0, .int .i64 c.ws, .int .i64 c.wo, .int .i64 c.it, .int .i64 c.la, .int .i64 c.ti, .int .u64 (c.m : Int), .int .u16 c.ins, .int .i64 c.rs, .int .i64 c.rj, .int .u64 c.st, .int .u64 c.mr, .int .u64 c.ft, .int .i64 c.vs, .int .i64 c.ln] rfl rfl 28 _ K2 (by kernel_rfl) rfl H1 ?_) | (refine wpList_load_row rfl 28 (.tmp 1) rfl w.heap.size rfl 28 _ (0, 0) _ K1 Try.underlying28 rfl (by kernel_rfl) ?_))
  have KR := setRow_heap X1 (w.heap.size + 1) _ #[.int .i64 0, .int .i64 c.ws, .int .i64 c.wo, .int .i64 c.it, .int .i64 c.la, .int .i64 c.ti, .int .u64 (c.m : Int), .int .u16 c.ins, .int .i64 c.rs, .int .i64 c.rj, .int .u64 c.st, .int .u64 c.mr, .int .u64 c.ft, .int .i64 c.vs, .int .i64 c.ln] 28 (0, 0) K2
  have BE := below_setRow BX (Nat.le_succ _) #[.int .i64 0, .int .i64 c.ws, .int .i64 c.wo, .int .i64 c.it, .int .i64 c.la, .int .i64 c.ti, .int .u64 (c.m : Int), .int .u16 c.ins, .int .i64 c.rs, .int .i64 c.rj, .int .u64 c.st, .int .u64 c.mr, .int .u64 c.ft, .int .i64 c.vs, .int .i64 c.ln]
  generalize X1.setRow (w.heap.size + 1) #[.int .i64 0, .int .i64 c.ws, .int .i64 c.wo, .int .i64 c.it, .int .i64 c.la, .int .i64 c.ti, .int .u64 (c.m : Int), .int .u16 c.ins, .int .i64 c.rs, .int .i64 c.rj, .int .u64 c.st, .int .u64 c.mr, .int .u64 c.ft, .int .i64 c.vs, .int .i64 c.ln] = Y at *
  refine bodyPost_ret (v := .agg #[.int .i64 0, .int .i64 c.ws, .int .i64 c.wo, .int .i64 c.it, .int .i64 c.la, .int .i64 c.ti, .int .u64 (c.m : Int), .int .u16 c.ins, .int .i64 c.rs, .int .i64 c.rj, .int .u64 c.st, .int .u64 c.mr, .int .u64 c.ft, .int .i64 c.vs, .int .i64 c.ln]) ?_ rfl ⟨rfl, BE⟩
  clear K1
  have HL := run_loadVar_row (P := Try.prog) Y (w.heap.size + 1) 28 28 #[.int .i64 0, .int .i64 c.ws, .int .i64 c.wo, .int .i64 c.it, .int .i64 c.la, .int .i64 c.ti, .int .u64 (c.m : Int), .int .u16 c.ins, .int .i64 c.rs, .int .i64 c.rj, .int .u64 c.st, .int .u64 c.mr, .int .u64 c.ft, .int .i64 c.vs, .int .i64 c.ln] (0, 0) _ KR Try.underlying28 rfl (by kernel_rfl)
  generalize (#[.int .i64 0, .int .i64 c.ws, .int .i64 c.wo, .int .i64 c.it, .int .i64 c.la, .int .i64 c.ti, .int .u64 (c.m : Int), .int .u16 c.ins, .int .i64 c.rs, .int .i64 c.rj, .int .u64 c.st, .int .u64 c.mr, .int .u64 c.ft, .int .i64 c.vs, .int .i64 c.ln] : Array Value) = CS at *
  simp [results, show (Try.f21).results = #[.cell 2 28] from rfl, asAddr, HL, Act.put]
set_option maxRecDepth 100000 in
set_option maxHeartbeats 4000000 in
theorem rest_rj (c : Ct) (w : World) (hp : ptsK c.k = some [.rj]) : Calls Try.prog 21 #[.agg (encC c)] w fun e w' => e = .returned (.agg #[.int .i64 0, .int .i64 c.ws, .int .i64 c.wo, .int .i64 c.it, .int .i64 c.la, .int .i64 c.ti, .int .u64 (c.m : Int), .int .u16 c.ins, .int .i64 c.rs, .int .i64 0, .int .u64 c.st, .int .u64 c.mr, .int .u64 c.ft, .int .i64 c.vs, .int .i64 c.ln]) ∧ Below w.heap.size w w' := by
  have BX : Below w.heap.size w ((w.alloc (.cells #[.int .i64 c.k, .int .i64 c.ws, .int .i64 c.wo, .int .i64 c.it, .int .i64 c.la, .int .i64 c.ti, .int .u64 (c.m : Int), .int .u16 c.ins, .int .i64 c.rs, .int .i64 c.rj, .int .u64 c.st, .int .u64 c.mr, .int .u64 c.ft, .int .i64 c.vs, .int .i64 c.ln] 28)).alloc (.cells #[.int .i64 0, .int .i64 0, .int .i64 0, .int .i64 0, .int .i64 0, .int .i64 0, .int .u64 0, .int .u16 0, .int .i64 0, .int .i64 0, .int .u64 0, .int .u64 0, .int .u64 0, .int .i64 0, .int .i64 0] 28)) := ((Below.refl _ _).alloc (Nat.le_refl _) _).alloc (by simp) _
  have K1 : Blk ((w.alloc (.cells #[.int .i64 c.k, .int .i64 c.ws, .int .i64 c.wo, .int .i64 c.it, .int .i64 c.la, .int .i64 c.ti, .int .u64 (c.m : Int), .int .u16 c.ins, .int .i64 c.rs, .int .i64 c.rj, .int .u64 c.st, .int .u64 c.mr, .int .u64 c.ft, .int .i64 c.vs, .int .i64 c.ln] 28)).alloc (.cells #[.int .i64 0, .int .i64 0, .int .i64 0, .int .i64 0, .int .i64 0, .int .i64 0, .int .u64 0, .int .u16 0, .int .i64 0, .int .i64 0, .int .u64 0, .int .u64 0, .int .u64 0, .int .i64 0, .int .i64 0] 28)) w.heap.size 28 #[.int .i64 c.k, .int .i64 c.ws, .int .i64 c.wo, .int .i64 c.it, .int .i64 c.la, .int .i64 c.ti, .int .u64 (c.m : Int), .int .u16 c.ins, .int .i64 c.rs, .int .i64 c.rj, .int .u64 c.st, .int .u64 c.mr, .int .u64 c.ft, .int .i64 c.vs, .int .i64 c.ln] := (Blk.fresh w 28 #[.int .i64 c.k, .int .i64 c.ws, .int .i64 c.wo, .int .i64 c.it, .int .i64 c.la, .int .i64 c.ti, .int .u64 (c.m : Int), .int .u16 c.ins, .int .i64 c.rs, .int .i64 c.rj, .int .u64 c.st, .int .u64 c.mr, .int .u64 c.ft, .int .i64 c.vs, .int .i64 c.ln]).alloc _
  have K2 : Blk ((w.alloc (.cells #[.int .i64 c.k, .int .i64 c.ws, .int .i64 c.wo, .int .i64 c.it, .int .i64 c.la, .int .i64 c.ti, .int .u64 (c.m : Int), .int .u16 c.ins, .int .i64 c.rs, .int .i64 c.rj, .int .u64 c.st, .int .u64 c.mr, .int .u64 c.ft, .int .i64 c.vs, .int .i64 c.ln] 28)).alloc (.cells #[.int .i64 0, .int .i64 0, .int .i64 0, .int .i64 0, .int .i64 0, .int .i64 0, .int .u64 0, .int .u16 0, .int .i64 0, .int .i64 0, .int .u64 0, .int .u64 0, .int .u64 0, .int .i64 0, .int .i64 0] 28)) (w.heap.size + 1) 28 #[.int .i64 0, .int .i64 0, .int .i64 0, .int .i64 0, .int .i64 0, .int .i64 0, .int .u64 0, .int .u16 0, .int .i64 0, .int .i64 0, .int .u64 0, .int .u64 0, .int .u64 0, .int .i64 0, .int .i64 0] := Av.Blk.next
  have HF : Hid (∀ w, Calls Try.prog 20 #[.int .i64 c.k] w fun e w' => e = .returned (.agg #[.bool true, .bool false, .bool false, .bool false, .bool false, .bool true, .bool false, .bool false, .bool false, .bool false, .bool false]) ∧ Below w.heap.size w w') := Lib.hid fun w => by have := fields_k c.k w; rw [hp] at this; exact this
  clear hp
  show Calls _ _ #[.agg #[.int .i64 c.k, .int .i64 c.ws, .int .i64 c.wo, .int .i64 c.it, .int .i64 c.la, .int .i64 c.ti, .int .u64 (c.m : Int), .int .u16 c.ins, .int .i64 c.rs, .int .i64 c.rj, .int .u64 c.st, .int .u64 c.mr, .int .u64 c.ft, .int .i64 c.vs, .int .i64 c.ln]] _ _
  go_enter Try.func21, Try.ntmps21
  go_upto_region 1 with (fail)
  generalize (w.alloc (.cells #[.int .i64 c.k, .int .i64 c.ws, .int .i64 c.wo, .int .i64 c.it, .int .i64 c.la, .int .i64 c.ti, .int .u64 (c.m : Int), .int .u16 c.ins, .int .i64 c.rs, .int .i64 c.rj, .int .u64 c.st, .int .u64 c.mr, .int .u64 c.ft, .int .i64 c.vs, .int .i64 c.ln] 28)).alloc (.cells #[.int .i64 0, .int .i64 0, .int .i64 0, .int .i64 0, .int .i64 0, .int .i64 0, .int .u64 0, .int .u16 0, .int .i64 0, .int .i64 0, .int .u64 0, .int .u64 0, .int .u64 0, .int .i64 0, .int .i64 0] 28) = W0 at *
  have k0 := K1.cell 0
  go_upto_region 2 with (go_at_call 20; refine (HF.out _).mono ?_; rintro e w1 ⟨rfl, b1⟩)
  clear k0
  have b9 : Below w1.heap.size w1 (w1.alloc (.cells #[.bool true, .bool false, .bool false, .bool false, .bool false, .bool true, .bool false, .bool false, .bool false, .bool false, .bool false] 53)) := (Below.refl _ _).alloc (Nat.le_refl _) _
  have K3 : Blk (w1.alloc (.cells #[.bool true, .bool false, .bool false, .bool false, .bool false, .bool true, .bool false, .bool false, .bool false, .bool false, .bool false] 53)) w1.heap.size 53 #[.bool true, .bool false, .bool false, .bool false, .bool false, .bool true, .bool false, .bool false, .bool false, .bool false, .bool false] := Blk.fresh w1 53 #[.bool true, .bool false, .bool false, .bool false, .bool false, .bool true, .bool false, .bool false, .bool false, .bool false, .bool false]
  have hl1 := (K1.below b1 K1.lt).lt
  have hl2 := (K2.below b1 K2.lt).lt
  replace K1 := (K1.below b1 K1.lt).below b9 hl1
  replace K2 := (K2.below b1 K2.lt).below b9 hl2
  replace BX := thenB (thenB BX b1) b9
  clear b1 b9
  generalize w1.alloc (.cells #[.bool true, .bool false, .bool false, .bool false, .bool false, .bool true, .bool false, .bool false, .bool false, .bool false, .bool false] 53) = X0 at *
  obtain ⟨g3, e3⟩ : ∃ g, w1.heap.size = g := ⟨_, rfl⟩
  rw [e3] at K3 hl1 hl2
  try simp only [e3]
  clear e3
  go_upto_region 3 with (refine Av.wpList_store_cell rfl _ _ _ rfl w.heap.size 0 (.int .i64 0) rfl rfl 28 _ K1 (by show 0 < 15; decide) (by kernel_rfl) rfl ?_; replace K2 := Av.bother (i := 0) K2 (show w.heap.size ≠ w.heap.size + 1 by omega) (.int .i64 0); replace K3 := Av.bother (i := 0) K3 (show w.heap.size ≠ g3 by omega) (.int .i64 0); replace K1 := Av.bset K1 0 (.int .i64 0) rfl; replace BX := BX.setCell (p := ⟨w.heap.size, 0, none⟩) (Nat.le_refl _) (.int .i64 0))
  generalize X0.setCell ⟨w.heap.size, 0, none⟩ (.int .i64 0) = X1 at *
  have y1 := K3.cell 1
  have y2 := K3.cell 2
  have y3 := K3.cell 3
  have y4 := K3.cell 4
  have y5 := K3.cell 5
  have y6 := K3.cell 6
  have y7 := K3.cell 7
  have y8 := K3.cell 8
  have y9 := K3.cell 9
  have y10 := K3.cell 10
  go_upto_region 12 with (fail)
  clear y1 y2 y3 y4 y5 y6 y7 y8 y9 y10
  go_upto_region 13 with (refine Av.wpList_store_cell rfl _ _ _ rfl w.heap.size 9 (.int .i64 0) rfl rfl 28 _ K1 (by show 9 < 15; decide) (by kernel_rfl) rfl ?_; replace K2 := Av.bother (i := 9) K2 (show w.heap.size ≠ w.heap.size + 1 by omega) (.int .i64 0); replace K3 := Av.bother (i := 9) K3 (show w.heap.size ≠ g3 by omega) (.int .i64 0); replace K1 := Av.bset K1 9 (.int .i64 0) rfl; replace BX := BX.setCell (p := ⟨w.heap.size, 9, none⟩) (Nat.le_refl _) (.int .i64 0))
  generalize X1.setCell ⟨w.heap.size, 9, none⟩ (.int .i64 0) = X2 at *
  have y1 := K3.cell 1
  have y2 := K3.cell 2
  have y3 := K3.cell 3
  have y4 := K3.cell 4
  have y5 := K3.cell 5
  have y6 := K3.cell 6
  have y7 := K3.cell 7
  have y8 := K3.cell 8
  have y9 := K3.cell 9
  have y10 := K3.cell 10
  go_upto_region 23 with (fail)
  clear y1 y2 y3 y4 y5 y6 y7 y8 y9 y10
  have H1 : (#[.int .i64 0, .int .i64 c.ws, .int .i64 c.wo, .int .i64 c.it, .int .i64 c.la, .int .i64 c.ti, .int .u64 (c.m : Int), .int .u16 c.ins, .int .i64 c.rs, .int .i64 0, .int .u64 c.st, .int .u64 c.mr, .int .u64 c.ft, .int .i64 c.vs, .int .i64 c.ln] : Array Value).all (·.oneCell') = true := by rw [← Array.all_toList]; rfl
  go_wp2_with (first | (refine wpList_store_row rfl 28 (.tmp 2) _ rfl (w.heap.size + 1) #[.int .i64 0, .int .i64 c.ws, .int .i64 c.wo, .int .i64 c.it, .int .i64 c.la, .int .i64 c.ti, .int .u64 (c.m : Int), .int .u16 c.ins, .int .i64 c.rs, .int .i64 0, .int .u64 c.st, .int .u64 c.mr, .int .u64 c.ft, .int .i64 c.vs, .int .i64 c.ln] rfl rfl 28 _ K2 (by kernel_rfl) rfl H1 ?_) | (refine wpList_load_row rfl 28 (.tmp 1) rfl w.heap.size rfl 28 _ (0, 0) _ K1 Try.underlying28 rfl (by kernel_rfl) ?_))
  have KR := setRow_heap X2 (w.heap.size + 1) _ #[.int .i64 0, .int .i64 c.ws, .int .i64 c.wo, .int .i64 c.it, .int .i64 c.la, .int .i64 c.ti, .int .u64 (c.m : Int), .int .u16 c.ins, .int .i64 c.rs, .int .i64 0, .int .u64 c.st, .int .u64 c.mr, .int .u64 c.ft, .int .i64 c.vs, .int .i64 c.ln] 28 (0, 0) K2
  have BE := below_setRow BX (Nat.le_succ _) #[.int .i64 0, .int .i64 c.ws, .int .i64 c.wo, .int .i64 c.it, .int .i64 c.la, .int .i64 c.ti, .int .u64 (c.m : Int), .int .u16 c.ins, .int .i64 c.rs, .int .i64 0, .int .u64 c.st, .int .u64 c.mr, .int .u64 c.ft, .int .i64 c.vs, .int .i64 c.ln]
  generalize X2.setRow (w.heap.size + 1) #[.int .i64 0, .int .i64 c.ws, .int .i64 c.wo, .int .i64 c.it, .int .i64 c.la, .int .i64 c.ti, .int .u64 (c.m : Int), .int .u16 c.ins, .int .i64 c.rs, .int .i64 0, .int .u64 c.st, .int .u64 c.mr, .int .u64 c.ft, .int .i64 c.vs, .int .i64 c.ln] = Y at *
  refine bodyPost_ret (v := .agg #[.int .i64 0, .int .i64 c.ws, .int .i64 c.wo, .int .i64 c.it, .int .i64 c.la, .int .i64 c.ti, .int .u64 (c.m : Int), .int .u16 c.ins, .int .i64 c.rs, .int .i64 0, .int .u64 c.st, .int .u64 c.mr, .int .u64 c.ft, .int .i64 c.vs, .int .i64 c.ln]) ?_ rfl ⟨rfl, BE⟩
  clear K1
  have HL := run_loadVar_row (P := Try.prog) Y (w.heap.size + 1) 28 28 #[.int .i64 0, .int .i64 c.ws, .int .i64 c.wo, .int .i64 c.it, .int .i64 c.la, .int .i64 c.ti, .int .u64 (c.m : Int), .int .u16 c.ins, .int .i64 c.rs, .int .i64 0, .int .u64 c.st, .int .u64 c.mr, .int .u64 c.ft, .int .i64 c.vs, .int .i64 c.ln] (0, 0) _ KR Try.underlying28 rfl (by kernel_rfl)
  generalize (#[.int .i64 0, .int .i64 c.ws, .int .i64 c.wo, .int .i64 c.it, .int .i64 c.la, .int .i64 c.ti, .int .u64 (c.m : Int), .int .u16 c.ins, .int .i64 c.rs, .int .i64 0, .int .u64 c.st, .int .u64 c.mr, .int .u64 c.ft, .int .i64 c.vs, .int .i64 c.ln] : Array Value) = CS at *
  simp [results, show (Try.f21).results = #[.cell 2 28] from rfl, asAddr, HL, Act.put]
set_option maxRecDepth 100000 in
set_option maxHeartbeats 4000000 in
theorem rest_fe (c : Ct) (w : World) (hp : ptsK c.k = some [.fe]) : Calls Try.prog 21 #[.agg (encC c)] w fun e w' => e = .returned (.agg #[.int .i64 0, .int .i64 c.ws, .int .i64 c.wo, .int .i64 c.it, .int .i64 c.la, .int .i64 c.ti, .int .u64 (c.m : Int), .int .u16 c.ins, .int .i64 c.rs, .int .i64 c.rj, .int .u64 c.st, .int .u64 c.mr, .int .u64 0, .int .i64 c.vs, .int .i64 c.ln]) ∧ Below w.heap.size w w' := by
  have BX : Below w.heap.size w ((w.alloc (.cells #[.int .i64 c.k, .int .i64 c.ws, .int .i64 c.wo, .int .i64 c.it, .int .i64 c.la, .int .i64 c.ti, .int .u64 (c.m : Int), .int .u16 c.ins, .int .i64 c.rs, .int .i64 c.rj, .int .u64 c.st, .int .u64 c.mr, .int .u64 c.ft, .int .i64 c.vs, .int .i64 c.ln] 28)).alloc (.cells #[.int .i64 0, .int .i64 0, .int .i64 0, .int .i64 0, .int .i64 0, .int .i64 0, .int .u64 0, .int .u16 0, .int .i64 0, .int .i64 0, .int .u64 0, .int .u64 0, .int .u64 0, .int .i64 0, .int .i64 0] 28)) := ((Below.refl _ _).alloc (Nat.le_refl _) _).alloc (by simp) _
  have K1 : Blk ((w.alloc (.cells #[.int .i64 c.k, .int .i64 c.ws, .int .i64 c.wo, .int .i64 c.it, .int .i64 c.la, .int .i64 c.ti, .int .u64 (c.m : Int), .int .u16 c.ins, .int .i64 c.rs, .int .i64 c.rj, .int .u64 c.st, .int .u64 c.mr, .int .u64 c.ft, .int .i64 c.vs, .int .i64 c.ln] 28)).alloc (.cells #[.int .i64 0, .int .i64 0, .int .i64 0, .int .i64 0, .int .i64 0, .int .i64 0, .int .u64 0, .int .u16 0, .int .i64 0, .int .i64 0, .int .u64 0, .int .u64 0, .int .u64 0, .int .i64 0, .int .i64 0] 28)) w.heap.size 28 #[.int .i64 c.k, .int .i64 c.ws, .int .i64 c.wo, .int .i64 c.it, .int .i64 c.la, .int .i64 c.ti, .int .u64 (c.m : Int), .int .u16 c.ins, .int .i64 c.rs, .int .i64 c.rj, .int .u64 c.st, .int .u64 c.mr, .int .u64 c.ft, .int .i64 c.vs, .int .i64 c.ln] := (Blk.fresh w 28 #[.int .i64 c.k, .int .i64 c.ws, .int .i64 c.wo, .int .i64 c.it, .int .i64 c.la, .int .i64 c.ti, .int .u64 (c.m : Int), .int .u16 c.ins, .int .i64 c.rs, .int .i64 c.rj, .int .u64 c.st, .int .u64 c.mr, .int .u64 c.ft, .int .i64 c.vs, .int .i64 c.ln]).alloc _
  have K2 : Blk ((w.alloc (.cells #[.int .i64 c.k, .int .i64 c.ws, .int .i64 c.wo, .int .i64 c.it, .int .i64 c.la, .int .i64 c.ti, .int .u64 (c.m : Int), .int .u16 c.ins, .int .i64 c.rs, .int .i64 c.rj, .int .u64 c.st, .int .u64 c.mr, .int .u64 c.ft, .int .i64 c.vs, .int .i64 c.ln] 28)).alloc (.cells #[.int .i64 0, .int .i64 0, .int .i64 0, .int .i64 0, .int .i64 0, .int .i64 0, .int .u64 0, .int .u16 0, .int .i64 0, .int .i64 0, .int .u64 0, .int .u64 0, .int .u64 0, .int .i64 0, .int .i64 0] 28)) (w.heap.size + 1) 28 #[.int .i64 0, .int .i64 0, .int .i64 0, .int .i64 0, .int .i64 0, .int .i64 0, .int .u64 0, .int .u16 0, .int .i64 0, .int .i64 0, .int .u64 0, .int .u64 0, .int .u64 0, .int .i64 0, .int .i64 0] := Av.Blk.next
  have HF : Hid (∀ w, Calls Try.prog 20 #[.int .i64 c.k] w fun e w' => e = .returned (.agg #[.bool true, .bool false, .bool false, .bool false, .bool false, .bool false, .bool false, .bool false, .bool true, .bool false, .bool false]) ∧ Below w.heap.size w w') := Lib.hid fun w => by have := fields_k c.k w; rw [hp] at this; exact this
  clear hp
  show Calls _ _ #[.agg #[.int .i64 c.k, .int .i64 c.ws, .int .i64 c.wo, .int .i64 c.it, .int .i64 c.la, .int .i64 c.ti, .int .u64 (c.m : Int), .int .u16 c.ins, .int .i64 c.rs, .int .i64 c.rj, .int .u64 c.st, .int .u64 c.mr, .int .u64 c.ft, .int .i64 c.vs, .int .i64 c.ln]] _ _
  go_enter Try.func21, Try.ntmps21
  go_upto_region 1 with (fail)
  generalize (w.alloc (.cells #[.int .i64 c.k, .int .i64 c.ws, .int .i64 c.wo, .int .i64 c.it, .int .i64 c.la, .int .i64 c.ti, .int .u64 (c.m : Int), .int .u16 c.ins, .int .i64 c.rs, .int .i64 c.rj, .int .u64 c.st, .int .u64 c.mr, .int .u64 c.ft, .int .i64 c.vs, .int .i64 c.ln] 28)).alloc (.cells #[.int .i64 0, .int .i64 0, .int .i64 0, .int .i64 0, .int .i64 0, .int .i64 0, .int .u64 0, .int .u16 0, .int .i64 0, .int .i64 0, .int .u64 0, .int .u64 0, .int .u64 0, .int .i64 0, .int .i64 0] 28) = W0 at *
  have k0 := K1.cell 0
  go_upto_region 2 with (go_at_call 20; refine (HF.out _).mono ?_; rintro e w1 ⟨rfl, b1⟩)
  clear k0
  have b9 : Below w1.heap.size w1 (w1.alloc (.cells #[.bool true, .bool false, .bool false, .bool false, .bool false, .bool false, .bool false, .bool false, .bool true, .bool false, .bool false] 53)) := (Below.refl _ _).alloc (Nat.le_refl _) _
  have K3 : Blk (w1.alloc (.cells #[.bool true, .bool false, .bool false, .bool false, .bool false, .bool false, .bool false, .bool false, .bool true, .bool false, .bool false] 53)) w1.heap.size 53 #[.bool true, .bool false, .bool false, .bool false, .bool false, .bool false, .bool false, .bool false, .bool true, .bool false, .bool false] := Blk.fresh w1 53 #[.bool true, .bool false, .bool false, .bool false, .bool false, .bool false, .bool false, .bool false, .bool true, .bool false, .bool false]
  have hl1 := (K1.below b1 K1.lt).lt
  have hl2 := (K2.below b1 K2.lt).lt
  replace K1 := (K1.below b1 K1.lt).below b9 hl1
  replace K2 := (K2.below b1 K2.lt).below b9 hl2
  replace BX := thenB (thenB BX b1) b9
  clear b1 b9
  generalize w1.alloc (.cells #[.bool true, .bool false, .bool false, .bool false, .bool false, .bool false, .bool false, .bool false, .bool true, .bool false, .bool false] 53) = X0 at *
  obtain ⟨g3, e3⟩ : ∃ g, w1.heap.size = g := ⟨_, rfl⟩
  rw [e3] at K3 hl1 hl2
  try simp only [e3]
  clear e3
  go_upto_region 3 with (refine Av.wpList_store_cell rfl _ _ _ rfl w.heap.size 0 (.int .i64 0) rfl rfl 28 _ K1 (by show 0 < 15; decide) (by kernel_rfl) rfl ?_; replace K2 := Av.bother (i := 0) K2 (show w.heap.size ≠ w.heap.size + 1 by omega) (.int .i64 0); replace K3 := Av.bother (i := 0) K3 (show w.heap.size ≠ g3 by omega) (.int .i64 0); replace K1 := Av.bset K1 0 (.int .i64 0) rfl; replace BX := BX.setCell (p := ⟨w.heap.size, 0, none⟩) (Nat.le_refl _) (.int .i64 0))
  generalize X0.setCell ⟨w.heap.size, 0, none⟩ (.int .i64 0) = X1 at *
  have y1 := K3.cell 1
  have y2 := K3.cell 2
  have y3 := K3.cell 3
  have y4 := K3.cell 4
  have y5 := K3.cell 5
  have y6 := K3.cell 6
  have y7 := K3.cell 7
  have y8 := K3.cell 8
  have y9 := K3.cell 9
  have y10 := K3.cell 10
  go_upto_region 18 with (fail)
  clear y1 y2 y3 y4 y5 y6 y7 y8 y9 y10
  go_upto_region 19 with (refine Av.wpList_store_cell rfl _ _ _ rfl w.heap.size 12 (.int .u64 0) rfl rfl 28 _ K1 (by show 12 < 15; decide) (by kernel_rfl) rfl ?_; replace K2 := Av.bother (i := 12) K2 (show w.heap.size ≠ w.heap.size + 1 by omega) (.int .u64 0); replace K3 := Av.bother (i := 12) K3 (show w.heap.size ≠ g3 by omega) (.int .u64 0); replace K1 := Av.bset K1 12 (.int .u64 0) rfl; replace BX := BX.setCell (p := ⟨w.heap.size, 12, none⟩) (Nat.le_refl _) (.int .u64 0))
  generalize X1.setCell ⟨w.heap.size, 12, none⟩ (.int .u64 0) = X2 at *
  have y1 := K3.cell 1
  have y2 := K3.cell 2
  have y3 := K3.cell 3
  have y4 := K3.cell 4
  have y5 := K3.cell 5
  have y6 := K3.cell 6
  have y7 := K3.cell 7
  have y8 := K3.cell 8
  have y9 := K3.cell 9
  have y10 := K3.cell 10
  go_upto_region 23 with (fail)
  clear y1 y2 y3 y4 y5 y6 y7 y8 y9 y10
  have H1 : (#[.int .i64 0, .int .i64 c.ws, .int .i64 c.wo, .int .i64 c.it, .int .i64 c.la, .int .i64 c.ti, .int .u64 (c.m : Int), .int .u16 c.ins, .int .i64 c.rs, .int .i64 c.rj, .int .u64 c.st, .int .u64 c.mr, .int .u64 0, .int .i64 c.vs, .int .i64 c.ln] : Array Value).all (·.oneCell') = true := by rw [← Array.all_toList]; rfl
  go_wp2_with (first | (refine wpList_store_row rfl 28 (.tmp 2) _ rfl (w.heap.size + 1) #[.int .i64 0, .int .i64 c.ws, .int .i64 c.wo, .int .i64 c.it, .int .i64 c.la, .int .i64 c.ti, .int .u64 (c.m : Int), .int .u16 c.ins, .int .i64 c.rs, .int .i64 c.rj, .int .u64 c.st, .int .u64 c.mr, .int .u64 0, .int .i64 c.vs, .int .i64 c.ln] rfl rfl 28 _ K2 (by kernel_rfl) rfl H1 ?_) | (refine wpList_load_row rfl 28 (.tmp 1) rfl w.heap.size rfl 28 _ (0, 0) _ K1 Try.underlying28 rfl (by kernel_rfl) ?_))
  have KR := setRow_heap X2 (w.heap.size + 1) _ #[.int .i64 0, .int .i64 c.ws, .int .i64 c.wo, .int .i64 c.it, .int .i64 c.la, .int .i64 c.ti, .int .u64 (c.m : Int), .int .u16 c.ins, .int .i64 c.rs, .int .i64 c.rj, .int .u64 c.st, .int .u64 c.mr, .int .u64 0, .int .i64 c.vs, .int .i64 c.ln] 28 (0, 0) K2
  have BE := below_setRow BX (Nat.le_succ _) #[.int .i64 0, .int .i64 c.ws, .int .i64 c.wo, .int .i64 c.it, .int .i64 c.la, .int .i64 c.ti, .int .u64 (c.m : Int), .int .u16 c.ins, .int .i64 c.rs, .int .i64 c.rj, .int .u64 c.st, .int .u64 c.mr, .int .u64 0, .int .i64 c.vs, .int .i64 c.ln]
  generalize X2.setRow (w.heap.size + 1) #[.int .i64 0, .int .i64 c.ws, .int .i64 c.wo, .int .i64 c.it, .int .i64 c.la, .int .i64 c.ti, .int .u64 (c.m : Int), .int .u16 c.ins, .int .i64 c.rs, .int .i64 c.rj, .int .u64 c.st, .int .u64 c.mr, .int .u64 0, .int .i64 c.vs, .int .i64 c.ln] = Y at *
  refine bodyPost_ret (v := .agg #[.int .i64 0, .int .i64 c.ws, .int .i64 c.wo, .int .i64 c.it, .int .i64 c.la, .int .i64 c.ti, .int .u64 (c.m : Int), .int .u16 c.ins, .int .i64 c.rs, .int .i64 c.rj, .int .u64 c.st, .int .u64 c.mr, .int .u64 0, .int .i64 c.vs, .int .i64 c.ln]) ?_ rfl ⟨rfl, BE⟩
  clear K1
  have HL := run_loadVar_row (P := Try.prog) Y (w.heap.size + 1) 28 28 #[.int .i64 0, .int .i64 c.ws, .int .i64 c.wo, .int .i64 c.it, .int .i64 c.la, .int .i64 c.ti, .int .u64 (c.m : Int), .int .u16 c.ins, .int .i64 c.rs, .int .i64 c.rj, .int .u64 c.st, .int .u64 c.mr, .int .u64 0, .int .i64 c.vs, .int .i64 c.ln] (0, 0) _ KR Try.underlying28 rfl (by kernel_rfl)
  generalize (#[.int .i64 0, .int .i64 c.ws, .int .i64 c.wo, .int .i64 c.it, .int .i64 c.la, .int .i64 c.ti, .int .u64 (c.m : Int), .int .u16 c.ins, .int .i64 c.rs, .int .i64 c.rj, .int .u64 c.st, .int .u64 c.mr, .int .u64 0, .int .i64 c.vs, .int .i64 c.ln] : Array Value) = CS at *
  simp [results, show (Try.f21).results = #[.cell 2 28] from rfl, asAddr, HL, Act.put]
set_option maxRecDepth 100000 in
set_option maxHeartbeats 4000000 in
theorem rest_vs (c : Ct) (w : World) (hp : ptsK c.k = some [.vs]) : Calls Try.prog 21 #[.agg (encC c)] w fun e w' => e = .returned (.agg #[.int .i64 0, .int .i64 c.ws, .int .i64 c.wo, .int .i64 c.it, .int .i64 c.la, .int .i64 c.ti, .int .u64 (c.m : Int), .int .u16 c.ins, .int .i64 c.rs, .int .i64 c.rj, .int .u64 c.st, .int .u64 c.mr, .int .u64 c.ft, .int .i64 0, .int .i64 c.ln]) ∧ Below w.heap.size w w' := by
  have BX : Below w.heap.size w ((w.alloc (.cells #[.int .i64 c.k, .int .i64 c.ws, .int .i64 c.wo, .int .i64 c.it, .int .i64 c.la, .int .i64 c.ti, .int .u64 (c.m : Int), .int .u16 c.ins, .int .i64 c.rs, .int .i64 c.rj, .int .u64 c.st, .int .u64 c.mr, .int .u64 c.ft, .int .i64 c.vs, .int .i64 c.ln] 28)).alloc (.cells #[.int .i64 0, .int .i64 0, .int .i64 0, .int .i64 0, .int .i64 0, .int .i64 0, .int .u64 0, .int .u16 0, .int .i64 0, .int .i64 0, .int .u64 0, .int .u64 0, .int .u64 0, .int .i64 0, .int .i64 0] 28)) := ((Below.refl _ _).alloc (Nat.le_refl _) _).alloc (by simp) _
  have K1 : Blk ((w.alloc (.cells #[.int .i64 c.k, .int .i64 c.ws, .int .i64 c.wo, .int .i64 c.it, .int .i64 c.la, .int .i64 c.ti, .int .u64 (c.m : Int), .int .u16 c.ins, .int .i64 c.rs, .int .i64 c.rj, .int .u64 c.st, .int .u64 c.mr, .int .u64 c.ft, .int .i64 c.vs, .int .i64 c.ln] 28)).alloc (.cells #[.int .i64 0, .int .i64 0, .int .i64 0, .int .i64 0, .int .i64 0, .int .i64 0, .int .u64 0, .int .u16 0, .int .i64 0, .int .i64 0, .int .u64 0, .int .u64 0, .int .u64 0, .int .i64 0, .int .i64 0] 28)) w.heap.size 28 #[.int .i64 c.k, .int .i64 c.ws, .int .i64 c.wo, .int .i64 c.it, .int .i64 c.la, .int .i64 c.ti, .int .u64 (c.m : Int), .int .u16 c.ins, .int .i64 c.rs, .int .i64 c.rj, .int .u64 c.st, .int .u64 c.mr, .int .u64 c.ft, .int .i64 c.vs, .int .i64 c.ln] := (Blk.fresh w 28 #[.int .i64 c.k, .int .i64 c.ws, .int .i64 c.wo, .int .i64 c.it, .int .i64 c.la, .int .i64 c.ti, .int .u64 (c.m : Int), .int .u16 c.ins, .int .i64 c.rs, .int .i64 c.rj, .int .u64 c.st, .int .u64 c.mr, .int .u64 c.ft, .int .i64 c.vs, .int .i64 c.ln]).alloc _
  have K2 : Blk ((w.alloc (.cells #[.int .i64 c.k, .int .i64 c.ws, .int .i64 c.wo, .int .i64 c.it, .int .i64 c.la, .int .i64 c.ti, .int .u64 (c.m : Int), .int .u16 c.ins, .int .i64 c.rs, .int .i64 c.rj, .int .u64 c.st, .int .u64 c.mr, .int .u64 c.ft, .int .i64 c.vs, .int .i64 c.ln] 28)).alloc (.cells #[.int .i64 0, .int .i64 0, .int .i64 0, .int .i64 0, .int .i64 0, .int .i64 0, .int .u64 0, .int .u16 0, .int .i64 0, .int .i64 0, .int .u64 0, .int .u64 0, .int .u64 0, .int .i64 0, .int .i64 0] 28)) (w.heap.size + 1) 28 #[.int .i64 0, .int .i64 0, .int .i64 0, .int .i64 0, .int .i64 0, .int .i64 0, .int .u64 0, .int .u16 0, .int .i64 0, .int .i64 0, .int .u64 0, .int .u64 0, .int .u64 0, .int .i64 0, .int .i64 0] := Av.Blk.next
  have HF : Hid (∀ w, Calls Try.prog 20 #[.int .i64 c.k] w fun e w' => e = .returned (.agg #[.bool true, .bool false, .bool false, .bool false, .bool false, .bool false, .bool false, .bool false, .bool false, .bool true, .bool false]) ∧ Below w.heap.size w w') := Lib.hid fun w => by have := fields_k c.k w; rw [hp] at this; exact this
  clear hp
  show Calls _ _ #[.agg #[.int .i64 c.k, .int .i64 c.ws, .int .i64 c.wo, .int .i64 c.it, .int .i64 c.la, .int .i64 c.ti, .int .u64 (c.m : Int), .int .u16 c.ins, .int .i64 c.rs, .int .i64 c.rj, .int .u64 c.st, .int .u64 c.mr, .int .u64 c.ft, .int .i64 c.vs, .int .i64 c.ln]] _ _
  go_enter Try.func21, Try.ntmps21
  go_upto_region 1 with (fail)
  generalize (w.alloc (.cells #[.int .i64 c.k, .int .i64 c.ws, .int .i64 c.wo, .int .i64 c.it, .int .i64 c.la, .int .i64 c.ti, .int .u64 (c.m : Int), .int .u16 c.ins, .int .i64 c.rs, .int .i64 c.rj, .int .u64 c.st, .int .u64 c.mr, .int .u64 c.ft, .int .i64 c.vs, .int .i64 c.ln] 28)).alloc (.cells #[.int .i64 0, .int .i64 0, .int .i64 0, .int .i64 0, .int .i64 0, .int .i64 0, .int .u64 0, .int .u16 0, .int .i64 0, .int .i64 0, .int .u64 0, .int .u64 0, .int .u64 0, .int .i64 0, .int .i64 0] 28) = W0 at *
  have k0 := K1.cell 0
  go_upto_region 2 with (go_at_call 20; refine (HF.out _).mono ?_; rintro e w1 ⟨rfl, b1⟩)
  clear k0
  have b9 : Below w1.heap.size w1 (w1.alloc (.cells #[.bool true, .bool false, .bool false, .bool false, .bool false, .bool false, .bool false, .bool false, .bool false, .bool true, .bool false] 53)) := (Below.refl _ _).alloc (Nat.le_refl _) _
  have K3 : Blk (w1.alloc (.cells #[.bool true, .bool false, .bool false, .bool false, .bool false, .bool false, .bool false, .bool false, .bool false, .bool true, .bool false] 53)) w1.heap.size 53 #[.bool true, .bool false, .bool false, .bool false, .bool false, .bool false, .bool false, .bool false, .bool false, .bool true, .bool false] := Blk.fresh w1 53 #[.bool true, .bool false, .bool false, .bool false, .bool false, .bool false, .bool false, .bool false, .bool false, .bool true, .bool false]
  have hl1 := (K1.below b1 K1.lt).lt
  have hl2 := (K2.below b1 K2.lt).lt
  replace K1 := (K1.below b1 K1.lt).below b9 hl1
  replace K2 := (K2.below b1 K2.lt).below b9 hl2
  replace BX := thenB (thenB BX b1) b9
  clear b1 b9
  generalize w1.alloc (.cells #[.bool true, .bool false, .bool false, .bool false, .bool false, .bool false, .bool false, .bool false, .bool false, .bool true, .bool false] 53) = X0 at *
  obtain ⟨g3, e3⟩ : ∃ g, w1.heap.size = g := ⟨_, rfl⟩
  rw [e3] at K3 hl1 hl2
  try simp only [e3]
  clear e3
  go_upto_region 3 with (refine Av.wpList_store_cell rfl _ _ _ rfl w.heap.size 0 (.int .i64 0) rfl rfl 28 _ K1 (by show 0 < 15; decide) (by kernel_rfl) rfl ?_; replace K2 := Av.bother (i := 0) K2 (show w.heap.size ≠ w.heap.size + 1 by omega) (.int .i64 0); replace K3 := Av.bother (i := 0) K3 (show w.heap.size ≠ g3 by omega) (.int .i64 0); replace K1 := Av.bset K1 0 (.int .i64 0) rfl; replace BX := BX.setCell (p := ⟨w.heap.size, 0, none⟩) (Nat.le_refl _) (.int .i64 0))
  generalize X0.setCell ⟨w.heap.size, 0, none⟩ (.int .i64 0) = X1 at *
  have y1 := K3.cell 1
  have y2 := K3.cell 2
  have y3 := K3.cell 3
  have y4 := K3.cell 4
  have y5 := K3.cell 5
  have y6 := K3.cell 6
  have y7 := K3.cell 7
  have y8 := K3.cell 8
  have y9 := K3.cell 9
  have y10 := K3.cell 10
  go_upto_region 20 with (fail)
  clear y1 y2 y3 y4 y5 y6 y7 y8 y9 y10
  go_upto_region 21 with (refine Av.wpList_store_cell rfl _ _ _ rfl w.heap.size 13 (.int .i64 0) rfl rfl 28 _ K1 (by show 13 < 15; decide) (by kernel_rfl) rfl ?_; replace K2 := Av.bother (i := 13) K2 (show w.heap.size ≠ w.heap.size + 1 by omega) (.int .i64 0); replace K3 := Av.bother (i := 13) K3 (show w.heap.size ≠ g3 by omega) (.int .i64 0); replace K1 := Av.bset K1 13 (.int .i64 0) rfl; replace BX := BX.setCell (p := ⟨w.heap.size, 13, none⟩) (Nat.le_refl _) (.int .i64 0))
  generalize X1.setCell ⟨w.heap.size, 13, none⟩ (.int .i64 0) = X2 at *
  have y1 := K3.cell 1
  have y2 := K3.cell 2
  have y3 := K3.cell 3
  have y4 := K3.cell 4
  have y5 := K3.cell 5
  have y6 := K3.cell 6
  have y7 := K3.cell 7
  have y8 := K3.cell 8
  have y9 := K3.cell 9
  have y10 := K3.cell 10
  go_upto_region 23 with (fail)
  clear y1 y2 y3 y4 y5 y6 y7 y8 y9 y10
  have H1 : (#[.int .i64 0, .int .i64 c.ws, .int .i64 c.wo, .int .i64 c.it, .int .i64 c.la, .int .i64 c.ti, .int .u64 (c.m : Int), .int .u16 c.ins, .int .i64 c.rs, .int .i64 c.rj, .int .u64 c.st, .int .u64 c.mr, .int .u64 c.ft, .int .i64 0, .int .i64 c.ln] : Array Value).all (·.oneCell') = true := by rw [← Array.all_toList]; rfl
  go_wp2_with (first | (refine wpList_store_row rfl 28 (.tmp 2) _ rfl (w.heap.size + 1) #[.int .i64 0, .int .i64 c.ws, .int .i64 c.wo, .int .i64 c.it, .int .i64 c.la, .int .i64 c.ti, .int .u64 (c.m : Int), .int .u16 c.ins, .int .i64 c.rs, .int .i64 c.rj, .int .u64 c.st, .int .u64 c.mr, .int .u64 c.ft, .int .i64 0, .int .i64 c.ln] rfl rfl 28 _ K2 (by kernel_rfl) rfl H1 ?_) | (refine wpList_load_row rfl 28 (.tmp 1) rfl w.heap.size rfl 28 _ (0, 0) _ K1 Try.underlying28 rfl (by kernel_rfl) ?_))
  have KR := setRow_heap X2 (w.heap.size + 1) _ #[.int .i64 0, .int .i64 c.ws, .int .i64 c.wo, .int .i64 c.it, .int .i64 c.la, .int .i64 c.ti, .int .u64 (c.m : Int), .int .u16 c.ins, .int .i64 c.rs, .int .i64 c.rj, .int .u64 c.st, .int .u64 c.mr, .int .u64 c.ft, .int .i64 0, .int .i64 c.ln] 28 (0, 0) K2
  have BE := below_setRow BX (Nat.le_succ _) #[.int .i64 0, .int .i64 c.ws, .int .i64 c.wo, .int .i64 c.it, .int .i64 c.la, .int .i64 c.ti, .int .u64 (c.m : Int), .int .u16 c.ins, .int .i64 c.rs, .int .i64 c.rj, .int .u64 c.st, .int .u64 c.mr, .int .u64 c.ft, .int .i64 0, .int .i64 c.ln]
  generalize X2.setRow (w.heap.size + 1) #[.int .i64 0, .int .i64 c.ws, .int .i64 c.wo, .int .i64 c.it, .int .i64 c.la, .int .i64 c.ti, .int .u64 (c.m : Int), .int .u16 c.ins, .int .i64 c.rs, .int .i64 c.rj, .int .u64 c.st, .int .u64 c.mr, .int .u64 c.ft, .int .i64 0, .int .i64 c.ln] = Y at *
  refine bodyPost_ret (v := .agg #[.int .i64 0, .int .i64 c.ws, .int .i64 c.wo, .int .i64 c.it, .int .i64 c.la, .int .i64 c.ti, .int .u64 (c.m : Int), .int .u16 c.ins, .int .i64 c.rs, .int .i64 c.rj, .int .u64 c.st, .int .u64 c.mr, .int .u64 c.ft, .int .i64 0, .int .i64 c.ln]) ?_ rfl ⟨rfl, BE⟩
  clear K1
  have HL := run_loadVar_row (P := Try.prog) Y (w.heap.size + 1) 28 28 #[.int .i64 0, .int .i64 c.ws, .int .i64 c.wo, .int .i64 c.it, .int .i64 c.la, .int .i64 c.ti, .int .u64 (c.m : Int), .int .u16 c.ins, .int .i64 c.rs, .int .i64 c.rj, .int .u64 c.st, .int .u64 c.mr, .int .u64 c.ft, .int .i64 0, .int .i64 c.ln] (0, 0) _ KR Try.underlying28 rfl (by kernel_rfl)
  generalize (#[.int .i64 0, .int .i64 c.ws, .int .i64 c.wo, .int .i64 c.it, .int .i64 c.la, .int .i64 c.ti, .int .u64 (c.m : Int), .int .u16 c.ins, .int .i64 c.rs, .int .i64 c.rj, .int .u64 c.st, .int .u64 c.mr, .int .u64 c.ft, .int .i64 0, .int .i64 c.ln] : Array Value) = CS at *
  simp [results, show (Try.f21).results = #[.cell 2 28] from rfl, asAddr, HL, Act.put]
set_option maxRecDepth 100000 in
set_option maxHeartbeats 4000000 in
theorem rest_rs_rj (c : Ct) (w : World) (hp : ptsK c.k = some [.rs, .rj]) : Calls Try.prog 21 #[.agg (encC c)] w fun e w' => e = .returned (.agg #[.int .i64 0, .int .i64 c.ws, .int .i64 c.wo, .int .i64 c.it, .int .i64 c.la, .int .i64 c.ti, .int .u64 (c.m : Int), .int .u16 c.ins, .int .i64 0, .int .i64 0, .int .u64 c.st, .int .u64 c.mr, .int .u64 c.ft, .int .i64 c.vs, .int .i64 c.ln]) ∧ Below w.heap.size w w' := by
  have BX : Below w.heap.size w ((w.alloc (.cells #[.int .i64 c.k, .int .i64 c.ws, .int .i64 c.wo, .int .i64 c.it, .int .i64 c.la, .int .i64 c.ti, .int .u64 (c.m : Int), .int .u16 c.ins, .int .i64 c.rs, .int .i64 c.rj, .int .u64 c.st, .int .u64 c.mr, .int .u64 c.ft, .int .i64 c.vs, .int .i64 c.ln] 28)).alloc (.cells #[.int .i64 0, .int .i64 0, .int .i64 0, .int .i64 0, .int .i64 0, .int .i64 0, .int .u64 0, .int .u16 0, .int .i64 0, .int .i64 0, .int .u64 0, .int .u64 0, .int .u64 0, .int .i64 0, .int .i64 0] 28)) := ((Below.refl _ _).alloc (Nat.le_refl _) _).alloc (by simp) _
  have K1 : Blk ((w.alloc (.cells #[.int .i64 c.k, .int .i64 c.ws, .int .i64 c.wo, .int .i64 c.it, .int .i64 c.la, .int .i64 c.ti, .int .u64 (c.m : Int), .int .u16 c.ins, .int .i64 c.rs, .int .i64 c.rj, .int .u64 c.st, .int .u64 c.mr, .int .u64 c.ft, .int .i64 c.vs, .int .i64 c.ln] 28)).alloc (.cells #[.int .i64 0, .int .i64 0, .int .i64 0, .int .i64 0, .int .i64 0, .int .i64 0, .int .u64 0, .int .u16 0, .int .i64 0, .int .i64 0, .int .u64 0, .int .u64 0, .int .u64 0, .int .i64 0, .int .i64 0] 28)) w.heap.size 28 #[.int .i64 c.k, .int .i64 c.ws, .int .i64 c.wo, .int .i64 c.it, .int .i64 c.la, .int .i64 c.ti, .int .u64 (c.m : Int), .int .u16 c.ins, .int .i64 c.rs, .int .i64 c.rj, .int .u64 c.st, .int .u64 c.mr, .int .u64 c.ft, .int .i64 c.vs, .int .i64 c.ln] := (Blk.fresh w 28 #[.int .i64 c.k, .int .i64 c.ws, .int .i64 c.wo, .int .i64 c.it, .int .i64 c.la, .int .i64 c.ti, .int .u64 (c.m : Int), .int .u16 c.ins, .int .i64 c.rs, .int .i64 c.rj, .int .u64 c.st, .int .u64 c.mr, .int .u64 c.ft, .int .i64 c.vs, .int .i64 c.ln]).alloc _
  have K2 : Blk ((w.alloc (.cells #[.int .i64 c.k, .int .i64 c.ws, .int .i64 c.wo, .int .i64 c.it, .int .i64 c.la, .int .i64 c.ti, .int .u64 (c.m : Int), .int .u16 c.ins, .int .i64 c.rs, .int .i64 c.rj, .int .u64 c.st, .int .u64 c.mr, .int .u64 c.ft, .int .i64 c.vs, .int .i64 c.ln] 28)).alloc (.cells #[.int .i64 0, .int .i64 0, .int .i64 0, .int .i64 0, .int .i64 0, .int .i64 0, .int .u64 0, .int .u16 0, .int .i64 0, .int .i64 0, .int .u64 0, .int .u64 0, .int .u64 0, .int .i64 0, .int .i64 0] 28)) (w.heap.size + 1) 28 #[.int .i64 0, .int .i64 0, .int .i64 0, .int .i64 0, .int .i64 0, .int .i64 0, .int .u64 0, .int .u16 0, .int .i64 0, .int .i64 0, .int .u64 0, .int .u64 0, .int .u64 0, .int .i64 0, .int .i64 0] := Av.Blk.next
  have HF : Hid (∀ w, Calls Try.prog 20 #[.int .i64 c.k] w fun e w' => e = .returned (.agg #[.bool true, .bool false, .bool false, .bool false, .bool true, .bool true, .bool false, .bool false, .bool false, .bool false, .bool false]) ∧ Below w.heap.size w w') := Lib.hid fun w => by have := fields_k c.k w; rw [hp] at this; exact this
  clear hp
  show Calls _ _ #[.agg #[.int .i64 c.k, .int .i64 c.ws, .int .i64 c.wo, .int .i64 c.it, .int .i64 c.la, .int .i64 c.ti, .int .u64 (c.m : Int), .int .u16 c.ins, .int .i64 c.rs, .int .i64 c.rj, .int .u64 c.st, .int .u64 c.mr, .int .u64 c.ft, .int .i64 c.vs, .int .i64 c.ln]] _ _
  go_enter Try.func21, Try.ntmps21
  go_upto_region 1 with (fail)
  generalize (w.alloc (.cells #[.int .i64 c.k, .int .i64 c.ws, .int .i64 c.wo, .int .i64 c.it, .int .i64 c.la, .int .i64 c.ti, .int .u64 (c.m : Int), .int .u16 c.ins, .int .i64 c.rs, .int .i64 c.rj, .int .u64 c.st, .int .u64 c.mr, .int .u64 c.ft, .int .i64 c.vs, .int .i64 c.ln] 28)).alloc (.cells #[.int .i64 0, .int .i64 0, .int .i64 0, .int .i64 0, .int .i64 0, .int .i64 0, .int .u64 0, .int .u16 0, .int .i64 0, .int .i64 0, .int .u64 0, .int .u64 0, .int .u64 0, .int .i64 0, .int .i64 0] 28) = W0 at *
  have k0 := K1.cell 0
  go_upto_region 2 with (go_at_call 20; refine (HF.out _).mono ?_; rintro e w1 ⟨rfl, b1⟩)
  clear k0
  have b9 : Below w1.heap.size w1 (w1.alloc (.cells #[.bool true, .bool false, .bool false, .bool false, .bool true, .bool true, .bool false, .bool false, .bool false, .bool false, .bool false] 53)) := (Below.refl _ _).alloc (Nat.le_refl _) _
  have K3 : Blk (w1.alloc (.cells #[.bool true, .bool false, .bool false, .bool false, .bool true, .bool true, .bool false, .bool false, .bool false, .bool false, .bool false] 53)) w1.heap.size 53 #[.bool true, .bool false, .bool false, .bool false, .bool true, .bool true, .bool false, .bool false, .bool false, .bool false, .bool false] := Blk.fresh w1 53 #[.bool true, .bool false, .bool false, .bool false, .bool true, .bool true, .bool false, .bool false, .bool false, .bool false, .bool false]
  have hl1 := (K1.below b1 K1.lt).lt
  have hl2 := (K2.below b1 K2.lt).lt
  replace K1 := (K1.below b1 K1.lt).below b9 hl1
  replace K2 := (K2.below b1 K2.lt).below b9 hl2
  replace BX := thenB (thenB BX b1) b9
  clear b1 b9
  generalize w1.alloc (.cells #[.bool true, .bool false, .bool false, .bool false, .bool true, .bool true, .bool false, .bool false, .bool false, .bool false, .bool false] 53) = X0 at *
  obtain ⟨g3, e3⟩ : ∃ g, w1.heap.size = g := ⟨_, rfl⟩
  rw [e3] at K3 hl1 hl2
  try simp only [e3]
  clear e3
  go_upto_region 3 with (refine Av.wpList_store_cell rfl _ _ _ rfl w.heap.size 0 (.int .i64 0) rfl rfl 28 _ K1 (by show 0 < 15; decide) (by kernel_rfl) rfl ?_; replace K2 := Av.bother (i := 0) K2 (show w.heap.size ≠ w.heap.size + 1 by omega) (.int .i64 0); replace K3 := Av.bother (i := 0) K3 (show w.heap.size ≠ g3 by omega) (.int .i64 0); replace K1 := Av.bset K1 0 (.int .i64 0) rfl; replace BX := BX.setCell (p := ⟨w.heap.size, 0, none⟩) (Nat.le_refl _) (.int .i64 0))
  generalize X0.setCell ⟨w.heap.size, 0, none⟩ (.int .i64 0) = X1 at *
  have y1 := K3.cell 1
  have y2 := K3.cell 2
  have y3 := K3.cell 3
  have y4 := K3.cell 4
  have y5 := K3.cell 5
  have y6 := K3.cell 6
  have y7 := K3.cell 7
  have y8 := K3.cell 8
  have y9 := K3.cell 9
  have y10 := K3.cell 10
  go_upto_region 10 with (fail)
  clear y1 y2 y3 y4 y5 y6 y7 y8 y9 y10
  go_upto_region 11 with (refine Av.wpList_store_cell rfl _ _ _ rfl w.heap.size 8 (.int .i64 0) rfl rfl 28 _ K1 (by show 8 < 15; decide) (by kernel_rfl) rfl ?_; replace K2 := Av.bother (i := 8) K2 (show w.heap.size ≠ w.heap.size + 1 by omega) (.int .i64 0); replace K3 := Av.bother (i := 8) K3 (show w.heap.size ≠ g3 by omega) (.int .i64 0); replace K1 := Av.bset K1 8 (.int .i64 0) rfl; replace BX := BX.setCell (p := ⟨w.heap.size, 8, none⟩) (Nat.le_refl _) (.int .i64 0))
  generalize X1.setCell ⟨w.heap.size, 8, none⟩ (.int .i64 0) = X2 at *
  have y1 := K3.cell 1
  have y2 := K3.cell 2
  have y3 := K3.cell 3
  have y4 := K3.cell 4
  have y5 := K3.cell 5
  have y6 := K3.cell 6
  have y7 := K3.cell 7
  have y8 := K3.cell 8
  have y9 := K3.cell 9
  have y10 := K3.cell 10
  go_upto_region 12 with (fail)
  clear y1 y2 y3 y4 y5 y6 y7 y8 y9 y10
  go_upto_region 13 with (refine Av.wpList_store_cell rfl _ _ _ rfl w.heap.size 9 (.int .i64 0) rfl rfl 28 _ K1 (by show 9 < 15; decide) (by kernel_rfl) rfl ?_; replace K2 := Av.bother (i := 9) K2 (show w.heap.size ≠ w.heap.size + 1 by omega) (.int .i64 0); replace K3 := Av.bother (i := 9) K3 (show w.heap.size ≠ g3 by omega) (.int .i64 0); replace K1 := Av.bset K1 9 (.int .i64 0) rfl; replace BX := BX.setCell (p := ⟨w.heap.size, 9, none⟩) (Nat.le_refl _) (.int .i64 0))
  generalize X2.setCell ⟨w.heap.size, 9, none⟩ (.int .i64 0) = X3 at *
  have y1 := K3.cell 1
  have y2 := K3.cell 2
  have y3 := K3.cell 3
  have y4 := K3.cell 4
  have y5 := K3.cell 5
  have y6 := K3.cell 6
  have y7 := K3.cell 7
  have y8 := K3.cell 8
  have y9 := K3.cell 9
  have y10 := K3.cell 10
  go_upto_region 23 with (fail)
  clear y1 y2 y3 y4 y5 y6 y7 y8 y9 y10
  have H1 : (#[.int .i64 0, .int .i64 c.ws, .int .i64 c.wo, .int .i64 c.it, .int .i64 c.la, .int .i64 c.ti, .int .u64 (c.m : Int), .int .u16 c.ins, .int .i64 0, .int .i64 0, .int .u64 c.st, .int .u64 c.mr, .int .u64 c.ft, .int .i64 c.vs, .int .i64 c.ln] : Array Value).all (·.oneCell') = true := by rw [← Array.all_toList]; rfl
  go_wp2_with (first | (refine wpList_store_row rfl 28 (.tmp 2) _ rfl (w.heap.size + 1) #[.int .i64 0, .int .i64 c.ws, .int .i64 c.wo, .int .i64 c.it, .int .i64 c.la, .int .i64 c.ti, .int .u64 (c.m : Int), .int .u16 c.ins, .int .i64 0, .int .i64 0, .int .u64 c.st, .int .u64 c.mr, .int .u64 c.ft, .int .i64 c.vs, .int .i64 c.ln] rfl rfl 28 _ K2 (by kernel_rfl) rfl H1 ?_) | (refine wpList_load_row rfl 28 (.tmp 1) rfl w.heap.size rfl 28 _ (0, 0) _ K1 Try.underlying28 rfl (by kernel_rfl) ?_))
  have KR := setRow_heap X3 (w.heap.size + 1) _ #[.int .i64 0, .int .i64 c.ws, .int .i64 c.wo, .int .i64 c.it, .int .i64 c.la, .int .i64 c.ti, .int .u64 (c.m : Int), .int .u16 c.ins, .int .i64 0, .int .i64 0, .int .u64 c.st, .int .u64 c.mr, .int .u64 c.ft, .int .i64 c.vs, .int .i64 c.ln] 28 (0, 0) K2
  have BE := below_setRow BX (Nat.le_succ _) #[.int .i64 0, .int .i64 c.ws, .int .i64 c.wo, .int .i64 c.it, .int .i64 c.la, .int .i64 c.ti, .int .u64 (c.m : Int), .int .u16 c.ins, .int .i64 0, .int .i64 0, .int .u64 c.st, .int .u64 c.mr, .int .u64 c.ft, .int .i64 c.vs, .int .i64 c.ln]
  generalize X3.setRow (w.heap.size + 1) #[.int .i64 0, .int .i64 c.ws, .int .i64 c.wo, .int .i64 c.it, .int .i64 c.la, .int .i64 c.ti, .int .u64 (c.m : Int), .int .u16 c.ins, .int .i64 0, .int .i64 0, .int .u64 c.st, .int .u64 c.mr, .int .u64 c.ft, .int .i64 c.vs, .int .i64 c.ln] = Y at *
  refine bodyPost_ret (v := .agg #[.int .i64 0, .int .i64 c.ws, .int .i64 c.wo, .int .i64 c.it, .int .i64 c.la, .int .i64 c.ti, .int .u64 (c.m : Int), .int .u16 c.ins, .int .i64 0, .int .i64 0, .int .u64 c.st, .int .u64 c.mr, .int .u64 c.ft, .int .i64 c.vs, .int .i64 c.ln]) ?_ rfl ⟨rfl, BE⟩
  clear K1
  have HL := run_loadVar_row (P := Try.prog) Y (w.heap.size + 1) 28 28 #[.int .i64 0, .int .i64 c.ws, .int .i64 c.wo, .int .i64 c.it, .int .i64 c.la, .int .i64 c.ti, .int .u64 (c.m : Int), .int .u16 c.ins, .int .i64 0, .int .i64 0, .int .u64 c.st, .int .u64 c.mr, .int .u64 c.ft, .int .i64 c.vs, .int .i64 c.ln] (0, 0) _ KR Try.underlying28 rfl (by kernel_rfl)
  generalize (#[.int .i64 0, .int .i64 c.ws, .int .i64 c.wo, .int .i64 c.it, .int .i64 c.la, .int .i64 c.ti, .int .u64 (c.m : Int), .int .u16 c.ins, .int .i64 0, .int .i64 0, .int .u64 c.st, .int .u64 c.mr, .int .u64 c.ft, .int .i64 c.vs, .int .i64 c.ln] : Array Value) = CS at *
  simp [results, show (Try.f21).results = #[.cell 2 28] from rfl, asAddr, HL, Act.put]
set_option maxRecDepth 100000 in
set_option maxHeartbeats 4000000 in
theorem rest_up (c : Ct) (w : World) (hp : ptsK c.k = some [.up]) : Calls Try.prog 21 #[.agg (encC c)] w fun e w' => e = .returned (.agg #[.int .i64 0, .int .i64 0, .int .i64 0, .int .i64 0, .int .i64 0, .int .i64 0, .int .u64 (c.m : Int), .int .u16 c.ins, .int .i64 c.rs, .int .i64 c.rj, .int .u64 c.st, .int .u64 c.mr, .int .u64 c.ft, .int .i64 c.vs, .int .i64 c.ln]) ∧ Below w.heap.size w w' := by
  have BX : Below w.heap.size w ((w.alloc (.cells #[.int .i64 c.k, .int .i64 c.ws, .int .i64 c.wo, .int .i64 c.it, .int .i64 c.la, .int .i64 c.ti, .int .u64 (c.m : Int), .int .u16 c.ins, .int .i64 c.rs, .int .i64 c.rj, .int .u64 c.st, .int .u64 c.mr, .int .u64 c.ft, .int .i64 c.vs, .int .i64 c.ln] 28)).alloc (.cells #[.int .i64 0, .int .i64 0, .int .i64 0, .int .i64 0, .int .i64 0, .int .i64 0, .int .u64 0, .int .u16 0, .int .i64 0, .int .i64 0, .int .u64 0, .int .u64 0, .int .u64 0, .int .i64 0, .int .i64 0] 28)) := ((Below.refl _ _).alloc (Nat.le_refl _) _).alloc (by simp) _
  have K1 : Blk ((w.alloc (.cells #[.int .i64 c.k, .int .i64 c.ws, .int .i64 c.wo, .int .i64 c.it, .int .i64 c.la, .int .i64 c.ti, .int .u64 (c.m : Int), .int .u16 c.ins, .int .i64 c.rs, .int .i64 c.rj, .int .u64 c.st, .int .u64 c.mr, .int .u64 c.ft, .int .i64 c.vs, .int .i64 c.ln] 28)).alloc (.cells #[.int .i64 0, .int .i64 0, .int .i64 0, .int .i64 0, .int .i64 0, .int .i64 0, .int .u64 0, .int .u16 0, .int .i64 0, .int .i64 0, .int .u64 0, .int .u64 0, .int .u64 0, .int .i64 0, .int .i64 0] 28)) w.heap.size 28 #[.int .i64 c.k, .int .i64 c.ws, .int .i64 c.wo, .int .i64 c.it, .int .i64 c.la, .int .i64 c.ti, .int .u64 (c.m : Int), .int .u16 c.ins, .int .i64 c.rs, .int .i64 c.rj, .int .u64 c.st, .int .u64 c.mr, .int .u64 c.ft, .int .i64 c.vs, .int .i64 c.ln] := (Blk.fresh w 28 #[.int .i64 c.k, .int .i64 c.ws, .int .i64 c.wo, .int .i64 c.it, .int .i64 c.la, .int .i64 c.ti, .int .u64 (c.m : Int), .int .u16 c.ins, .int .i64 c.rs, .int .i64 c.rj, .int .u64 c.st, .int .u64 c.mr, .int .u64 c.ft, .int .i64 c.vs, .int .i64 c.ln]).alloc _
  have K2 : Blk ((w.alloc (.cells #[.int .i64 c.k, .int .i64 c.ws, .int .i64 c.wo, .int .i64 c.it, .int .i64 c.la, .int .i64 c.ti, .int .u64 (c.m : Int), .int .u16 c.ins, .int .i64 c.rs, .int .i64 c.rj, .int .u64 c.st, .int .u64 c.mr, .int .u64 c.ft, .int .i64 c.vs, .int .i64 c.ln] 28)).alloc (.cells #[.int .i64 0, .int .i64 0, .int .i64 0, .int .i64 0, .int .i64 0, .int .i64 0, .int .u64 0, .int .u16 0, .int .i64 0, .int .i64 0, .int .u64 0, .int .u64 0, .int .u64 0, .int .i64 0, .int .i64 0] 28)) (w.heap.size + 1) 28 #[.int .i64 0, .int .i64 0, .int .i64 0, .int .i64 0, .int .i64 0, .int .i64 0, .int .u64 0, .int .u16 0, .int .i64 0, .int .i64 0, .int .u64 0, .int .u64 0, .int .u64 0, .int .i64 0, .int .i64 0] := Av.Blk.next
  have HF : Hid (∀ w, Calls Try.prog 20 #[.int .i64 c.k] w fun e w' => e = .returned (.agg #[.bool true, .bool true, .bool false, .bool false, .bool false, .bool false, .bool false, .bool false, .bool false, .bool false, .bool false]) ∧ Below w.heap.size w w') := Lib.hid fun w => by have := fields_k c.k w; rw [hp] at this; exact this
  clear hp
  show Calls _ _ #[.agg #[.int .i64 c.k, .int .i64 c.ws, .int .i64 c.wo, .int .i64 c.it, .int .i64 c.la, .int .i64 c.ti, .int .u64 (c.m : Int), .int .u16 c.ins, .int .i64 c.rs, .int .i64 c.rj, .int .u64 c.st, .int .u64 c.mr, .int .u64 c.ft, .int .i64 c.vs, .int .i64 c.ln]] _ _
  go_enter Try.func21, Try.ntmps21
  go_upto_region 1 with (fail)
  generalize (w.alloc (.cells #[.int .i64 c.k, .int .i64 c.ws, .int .i64 c.wo, .int .i64 c.it, .int .i64 c.la, .int .i64 c.ti, .int .u64 (c.m : Int), .int .u16 c.ins, .int .i64 c.rs, .int .i64 c.rj, .int .u64 c.st, .int .u64 c.mr, .int .u64 c.ft, .int .i64 c.vs, .int .i64 c.ln] 28)).alloc (.cells #[.int .i64 0, .int .i64 0, .int .i64 0, .int .i64 0, .int .i64 0, .int .i64 0, .int .u64 0, .int .u16 0, .int .i64 0, .int .i64 0, .int .u64 0, .int .u64 0, .int .u64 0, .int .i64 0, .int .i64 0] 28) = W0 at *
  have k0 := K1.cell 0
  go_upto_region 2 with (go_at_call 20; refine (HF.out _).mono ?_; rintro e w1 ⟨rfl, b1⟩)
  clear k0
  have b9 : Below w1.heap.size w1 (w1.alloc (.cells #[.bool true, .bool true, .bool false, .bool false, .bool false, .bool false, .bool false, .bool false, .bool false, .bool false, .bool false] 53)) := (Below.refl _ _).alloc (Nat.le_refl _) _
  have K3 : Blk (w1.alloc (.cells #[.bool true, .bool true, .bool false, .bool false, .bool false, .bool false, .bool false, .bool false, .bool false, .bool false, .bool false] 53)) w1.heap.size 53 #[.bool true, .bool true, .bool false, .bool false, .bool false, .bool false, .bool false, .bool false, .bool false, .bool false, .bool false] := Blk.fresh w1 53 #[.bool true, .bool true, .bool false, .bool false, .bool false, .bool false, .bool false, .bool false, .bool false, .bool false, .bool false]
  have hl1 := (K1.below b1 K1.lt).lt
  have hl2 := (K2.below b1 K2.lt).lt
  replace K1 := (K1.below b1 K1.lt).below b9 hl1
  replace K2 := (K2.below b1 K2.lt).below b9 hl2
  replace BX := thenB (thenB BX b1) b9
  clear b1 b9
  generalize w1.alloc (.cells #[.bool true, .bool true, .bool false, .bool false, .bool false, .bool false, .bool false, .bool false, .bool false, .bool false, .bool false] 53) = X0 at *
  obtain ⟨g3, e3⟩ : ∃ g, w1.heap.size = g := ⟨_, rfl⟩
  rw [e3] at K3 hl1 hl2
  try simp only [e3]
  clear e3
  go_upto_region 3 with (refine Av.wpList_store_cell rfl _ _ _ rfl w.heap.size 0 (.int .i64 0) rfl rfl 28 _ K1 (by show 0 < 15; decide) (by kernel_rfl) rfl ?_; replace K2 := Av.bother (i := 0) K2 (show w.heap.size ≠ w.heap.size + 1 by omega) (.int .i64 0); replace K3 := Av.bother (i := 0) K3 (show w.heap.size ≠ g3 by omega) (.int .i64 0); replace K1 := Av.bset K1 0 (.int .i64 0) rfl; replace BX := BX.setCell (p := ⟨w.heap.size, 0, none⟩) (Nat.le_refl _) (.int .i64 0))
  generalize X0.setCell ⟨w.heap.size, 0, none⟩ (.int .i64 0) = X1 at *
  have y1 := K3.cell 1
  have y2 := K3.cell 2
  have y3 := K3.cell 3
  have y4 := K3.cell 4
  have y5 := K3.cell 5
  have y6 := K3.cell 6
  have y7 := K3.cell 7
  have y8 := K3.cell 8
  have y9 := K3.cell 9
  have y10 := K3.cell 10
  go_upto_region 4 with (fail)
  clear y1 y2 y3 y4 y5 y6 y7 y8 y9 y10
  have c11 := K1.cell 1
  have c12 := K1.cell 2
  have c13 := K1.cell 3
  have c14 := K1.cell 4
  have c15 := K1.cell 5
  have f11 := Av.bfrz K1 1
  have f12 := Av.bfrz K1 2
  have f13 := Av.bfrz K1 3
  have f14 := Av.bfrz K1 4
  have f15 := Av.bfrz K1 5
  go_upto_region 5 with (fail)
  clear c11 f11 c12 f12 c13 f13 c14 f14 c15 f15
  replace K2 := Av.bother (i := 1) K2 (show w.heap.size ≠ w.heap.size + 1 by omega) (.int .i64 0)
  replace K3 := Av.bother (i := 1) K3 (show w.heap.size ≠ g3 by omega) (.int .i64 0)
  replace K1 := Av.bset K1 1 (.int .i64 0) rfl
  replace BX := BX.setCell (p := ⟨w.heap.size, 1, none⟩) (Nat.le_refl _) (.int .i64 0)
  replace K2 := Av.bother (i := 2) K2 (show w.heap.size ≠ w.heap.size + 1 by omega) (.int .i64 0)
  replace K3 := Av.bother (i := 2) K3 (show w.heap.size ≠ g3 by omega) (.int .i64 0)
  replace K1 := Av.bset K1 2 (.int .i64 0) rfl
  replace BX := BX.setCell (p := ⟨w.heap.size, 2, none⟩) (Nat.le_refl _) (.int .i64 0)
  replace K2 := Av.bother (i := 3) K2 (show w.heap.size ≠ w.heap.size + 1 by omega) (.int .i64 0)
  replace K3 := Av.bother (i := 3) K3 (show w.heap.size ≠ g3 by omega) (.int .i64 0)
  replace K1 := Av.bset K1 3 (.int .i64 0) rfl
  replace BX := BX.setCell (p := ⟨w.heap.size, 3, none⟩) (Nat.le_refl _) (.int .i64 0)
  replace K2 := Av.bother (i := 4) K2 (show w.heap.size ≠ w.heap.size + 1 by omega) (.int .i64 0)
  replace K3 := Av.bother (i := 4) K3 (show w.heap.size ≠ g3 by omega) (.int .i64 0)
  replace K1 := Av.bset K1 4 (.int .i64 0) rfl
  replace BX := BX.setCell (p := ⟨w.heap.size, 4, none⟩) (Nat.le_refl _) (.int .i64 0)
  replace K2 := Av.bother (i := 5) K2 (show w.heap.size ≠ w.heap.size + 1 by omega) (.int .i64 0)
  replace K3 := Av.bother (i := 5) K3 (show w.heap.size ≠ g3 by omega) (.int .i64 0)
  replace K1 := Av.bset K1 5 (.int .i64 0) rfl
  replace BX := BX.setCell (p := ⟨w.heap.size, 5, none⟩) (Nat.le_refl _) (.int .i64 0)
  generalize ((((X1.setCell ⟨w.heap.size, 1, none⟩ (.int .i64 0)).setCell ⟨w.heap.size, 2, none⟩ (.int .i64 0)).setCell ⟨w.heap.size, 3, none⟩ (.int .i64 0)).setCell ⟨w.heap.size, 4, none⟩ (.int .i64 0)).setCell ⟨w.heap.size, 5, none⟩ (.int .i64 0) = X2 at *
  have y1 := K3.cell 1
  have y2 := K3.cell 2
  have y3 := K3.cell 3
  have y4 := K3.cell 4
  have y5 := K3.cell 5
  have y6 := K3.cell 6
  have y7 := K3.cell 7
  have y8 := K3.cell 8
  have y9 := K3.cell 9
  have y10 := K3.cell 10
  go_upto_region 23 with (fail)
  clear y1 y2 y3 y4 y5 y6 y7 y8 y9 y10
  have H1 : (#[.int .i64 0, .int .i64 0, .int .i64 0, .int .i64 0, .int .i64 0, .int .i64 0, .int .u64 (c.m : Int), .int .u16 c.ins, .int .i64 c.rs, .int .i64 c.rj, .int .u64 c.st, .int .u64 c.mr, .int .u64 c.ft, .int .i64 c.vs, .int .i64 c.ln] : Array Value).all (·.oneCell') = true := by rw [← Array.all_toList]; rfl
  go_wp2_with (first | (refine wpList_store_row rfl 28 (.tmp 2) _ rfl (w.heap.size + 1) #[.int .i64 0, .int .i64 0, .int .i64 0, .int .i64 0, .int .i64 0, .int .i64 0, .int .u64 (c.m : Int), .int .u16 c.ins, .int .i64 c.rs, .int .i64 c.rj, .int .u64 c.st, .int .u64 c.mr, .int .u64 c.ft, .int .i64 c.vs, .int .i64 c.ln] rfl rfl 28 _ K2 (by kernel_rfl) rfl H1 ?_) | (refine wpList_load_row rfl 28 (.tmp 1) rfl w.heap.size rfl 28 _ (0, 0) _ K1 Try.underlying28 rfl (by kernel_rfl) ?_))
  have KR := setRow_heap X2 (w.heap.size + 1) _ #[.int .i64 0, .int .i64 0, .int .i64 0, .int .i64 0, .int .i64 0, .int .i64 0, .int .u64 (c.m : Int), .int .u16 c.ins, .int .i64 c.rs, .int .i64 c.rj, .int .u64 c.st, .int .u64 c.mr, .int .u64 c.ft, .int .i64 c.vs, .int .i64 c.ln] 28 (0, 0) K2
  have BE := below_setRow BX (Nat.le_succ _) #[.int .i64 0, .int .i64 0, .int .i64 0, .int .i64 0, .int .i64 0, .int .i64 0, .int .u64 (c.m : Int), .int .u16 c.ins, .int .i64 c.rs, .int .i64 c.rj, .int .u64 c.st, .int .u64 c.mr, .int .u64 c.ft, .int .i64 c.vs, .int .i64 c.ln]
  generalize X2.setRow (w.heap.size + 1) #[.int .i64 0, .int .i64 0, .int .i64 0, .int .i64 0, .int .i64 0, .int .i64 0, .int .u64 (c.m : Int), .int .u16 c.ins, .int .i64 c.rs, .int .i64 c.rj, .int .u64 c.st, .int .u64 c.mr, .int .u64 c.ft, .int .i64 c.vs, .int .i64 c.ln] = Y at *
  refine bodyPost_ret (v := .agg #[.int .i64 0, .int .i64 0, .int .i64 0, .int .i64 0, .int .i64 0, .int .i64 0, .int .u64 (c.m : Int), .int .u16 c.ins, .int .i64 c.rs, .int .i64 c.rj, .int .u64 c.st, .int .u64 c.mr, .int .u64 c.ft, .int .i64 c.vs, .int .i64 c.ln]) ?_ rfl ⟨rfl, BE⟩
  clear K1
  have HL := run_loadVar_row (P := Try.prog) Y (w.heap.size + 1) 28 28 #[.int .i64 0, .int .i64 0, .int .i64 0, .int .i64 0, .int .i64 0, .int .i64 0, .int .u64 (c.m : Int), .int .u16 c.ins, .int .i64 c.rs, .int .i64 c.rj, .int .u64 c.st, .int .u64 c.mr, .int .u64 c.ft, .int .i64 c.vs, .int .i64 c.ln] (0, 0) _ KR Try.underlying28 rfl (by kernel_rfl)
  generalize (#[.int .i64 0, .int .i64 0, .int .i64 0, .int .i64 0, .int .i64 0, .int .i64 0, .int .u64 (c.m : Int), .int .u16 c.ins, .int .i64 c.rs, .int .i64 c.rj, .int .u64 c.st, .int .u64 c.mr, .int .u64 c.ft, .int .i64 c.vs, .int .i64 c.ln] : Array Value) = CS at *
  simp [results, show (Try.f21).results = #[.cell 2 28] from rfl, asAddr, HL, Act.put]
set_option maxRecDepth 100000 in
set_option maxHeartbeats 4000000 in
theorem rest_ln (c : Ct) (w : World) (hp : ptsK c.k = some [.ln]) : Calls Try.prog 21 #[.agg (encC c)] w fun e w' => e = .returned (.agg #[.int .i64 0, .int .i64 c.ws, .int .i64 c.wo, .int .i64 c.it, .int .i64 c.la, .int .i64 c.ti, .int .u64 (c.m : Int), .int .u16 c.ins, .int .i64 c.rs, .int .i64 c.rj, .int .u64 c.st, .int .u64 c.mr, .int .u64 c.ft, .int .i64 c.vs, .int .i64 0]) ∧ Below w.heap.size w w' := by
  have BX : Below w.heap.size w ((w.alloc (.cells #[.int .i64 c.k, .int .i64 c.ws, .int .i64 c.wo, .int .i64 c.it, .int .i64 c.la, .int .i64 c.ti, .int .u64 (c.m : Int), .int .u16 c.ins, .int .i64 c.rs, .int .i64 c.rj, .int .u64 c.st, .int .u64 c.mr, .int .u64 c.ft, .int .i64 c.vs, .int .i64 c.ln] 28)).alloc (.cells #[.int .i64 0, .int .i64 0, .int .i64 0, .int .i64 0, .int .i64 0, .int .i64 0, .int .u64 0, .int .u16 0, .int .i64 0, .int .i64 0, .int .u64 0, .int .u64 0, .int .u64 0, .int .i64 0, .int .i64 0] 28)) := ((Below.refl _ _).alloc (Nat.le_refl _) _).alloc (by simp) _
  have K1 : Blk ((w.alloc (.cells #[.int .i64 c.k, .int .i64 c.ws, .int .i64 c.wo, .int .i64 c.it, .int .i64 c.la, .int .i64 c.ti, .int .u64 (c.m : Int), .int .u16 c.ins, .int .i64 c.rs, .int .i64 c.rj, .int .u64 c.st, .int .u64 c.mr, .int .u64 c.ft, .int .i64 c.vs, .int .i64 c.ln] 28)).alloc (.cells #[.int .i64 0, .int .i64 0, .int .i64 0, .int .i64 0, .int .i64 0, .int .i64 0, .int .u64 0, .int .u16 0, .int .i64 0, .int .i64 0, .int .u64 0, .int .u64 0, .int .u64 0, .int .i64 0, .int .i64 0] 28)) w.heap.size 28 #[.int .i64 c.k, .int .i64 c.ws, .int .i64 c.wo, .int .i64 c.it, .int .i64 c.la, .int .i64 c.ti, .int .u64 (c.m : Int), .int .u16 c.ins, .int .i64 c.rs, .int .i64 c.rj, .int .u64 c.st, .int .u64 c.mr, .int .u64 c.ft, .int .i64 c.vs, .int .i64 c.ln] := (Blk.fresh w 28 #[.int .i64 c.k, .int .i64 c.ws, .int .i64 c.wo, .int .i64 c.it, .int .i64 c.la, .int .i64 c.ti, .int .u64 (c.m : Int), .int .u16 c.ins, .int .i64 c.rs, .int .i64 c.rj, .int .u64 c.st, .int .u64 c.mr, .int .u64 c.ft, .int .i64 c.vs, .int .i64 c.ln]).alloc _
  have K2 : Blk ((w.alloc (.cells #[.int .i64 c.k, .int .i64 c.ws, .int .i64 c.wo, .int .i64 c.it, .int .i64 c.la, .int .i64 c.ti, .int .u64 (c.m : Int), .int .u16 c.ins, .int .i64 c.rs, .int .i64 c.rj, .int .u64 c.st, .int .u64 c.mr, .int .u64 c.ft, .int .i64 c.vs, .int .i64 c.ln] 28)).alloc (.cells #[.int .i64 0, .int .i64 0, .int .i64 0, .int .i64 0, .int .i64 0, .int .i64 0, .int .u64 0, .int .u16 0, .int .i64 0, .int .i64 0, .int .u64 0, .int .u64 0, .int .u64 0, .int .i64 0, .int .i64 0] 28)) (w.heap.size + 1) 28 #[.int .i64 0, .int .i64 0, .int .i64 0, .int .i64 0, .int .i64 0, .int .i64 0, .int .u64 0, .int .u16 0, .int .i64 0, .int .i64 0, .int .u64 0, .int .u64 0, .int .u64 0, .int .i64 0, .int .i64 0] := Av.Blk.next
  have HF : Hid (∀ w, Calls Try.prog 20 #[.int .i64 c.k] w fun e w' => e = .returned (.agg #[.bool true, .bool false, .bool false, .bool false, .bool false, .bool false, .bool false, .bool false, .bool false, .bool false, .bool true]) ∧ Below w.heap.size w w') := Lib.hid fun w => by have := fields_k c.k w; rw [hp] at this; exact this
  clear hp
  show Calls _ _ #[.agg #[.int .i64 c.k, .int .i64 c.ws, .int .i64 c.wo, .int .i64 c.it, .int .i64 c.la, .int .i64 c.ti, .int .u64 (c.m : Int), .int .u16 c.ins, .int .i64 c.rs, .int .i64 c.rj, .int .u64 c.st, .int .u64 c.mr, .int .u64 c.ft, .int .i64 c.vs, .int .i64 c.ln]] _ _
  go_enter Try.func21, Try.ntmps21
  go_upto_region 1 with (fail)
  generalize (w.alloc (.cells #[.int .i64 c.k, .int .i64 c.ws, .int .i64 c.wo, .int .i64 c.it, .int .i64 c.la, .int .i64 c.ti, .int .u64 (c.m : Int), .int .u16 c.ins, .int .i64 c.rs, .int .i64 c.rj, .int .u64 c.st, .int .u64 c.mr, .int .u64 c.ft, .int .i64 c.vs, .int .i64 c.ln] 28)).alloc (.cells #[.int .i64 0, .int .i64 0, .int .i64 0, .int .i64 0, .int .i64 0, .int .i64 0, .int .u64 0, .int .u16 0, .int .i64 0, .int .i64 0, .int .u64 0, .int .u64 0, .int .u64 0, .int .i64 0, .int .i64 0] 28) = W0 at *
  have k0 := K1.cell 0
  go_upto_region 2 with (go_at_call 20; refine (HF.out _).mono ?_; rintro e w1 ⟨rfl, b1⟩)
  clear k0
  have b9 : Below w1.heap.size w1 (w1.alloc (.cells #[.bool true, .bool false, .bool false, .bool false, .bool false, .bool false, .bool false, .bool false, .bool false, .bool false, .bool true] 53)) := (Below.refl _ _).alloc (Nat.le_refl _) _
  have K3 : Blk (w1.alloc (.cells #[.bool true, .bool false, .bool false, .bool false, .bool false, .bool false, .bool false, .bool false, .bool false, .bool false, .bool true] 53)) w1.heap.size 53 #[.bool true, .bool false, .bool false, .bool false, .bool false, .bool false, .bool false, .bool false, .bool false, .bool false, .bool true] := Blk.fresh w1 53 #[.bool true, .bool false, .bool false, .bool false, .bool false, .bool false, .bool false, .bool false, .bool false, .bool false, .bool true]
  have hl1 := (K1.below b1 K1.lt).lt
  have hl2 := (K2.below b1 K2.lt).lt
  replace K1 := (K1.below b1 K1.lt).below b9 hl1
  replace K2 := (K2.below b1 K2.lt).below b9 hl2
  replace BX := thenB (thenB BX b1) b9
  clear b1 b9
  generalize w1.alloc (.cells #[.bool true, .bool false, .bool false, .bool false, .bool false, .bool false, .bool false, .bool false, .bool false, .bool false, .bool true] 53) = X0 at *
  obtain ⟨g3, e3⟩ : ∃ g, w1.heap.size = g := ⟨_, rfl⟩
  rw [e3] at K3 hl1 hl2
  try simp only [e3]
  clear e3
  go_upto_region 3 with (refine Av.wpList_store_cell rfl _ _ _ rfl w.heap.size 0 (.int .i64 0) rfl rfl 28 _ K1 (by show 0 < 15; decide) (by kernel_rfl) rfl ?_; replace K2 := Av.bother (i := 0) K2 (show w.heap.size ≠ w.heap.size + 1 by omega) (.int .i64 0); replace K3 := Av.bother (i := 0) K3 (show w.heap.size ≠ g3 by omega) (.int .i64 0); replace K1 := Av.bset K1 0 (.int .i64 0) rfl; replace BX := BX.setCell (p := ⟨w.heap.size, 0, none⟩) (Nat.le_refl _) (.int .i64 0))
  generalize X0.setCell ⟨w.heap.size, 0, none⟩ (.int .i64 0) = X1 at *
  have y1 := K3.cell 1
  have y2 := K3.cell 2
  have y3 := K3.cell 3
  have y4 := K3.cell 4
  have y5 := K3.cell 5
  have y6 := K3.cell 6
  have y7 := K3.cell 7
  have y8 := K3.cell 8
  have y9 := K3.cell 9
  have y10 := K3.cell 10
  go_upto_region 22 with (fail)
  clear y1 y2 y3 y4 y5 y6 y7 y8 y9 y10
  go_upto_region 23 with (refine Av.wpList_store_cell rfl _ _ _ rfl w.heap.size 14 (.int .i64 0) rfl rfl 28 _ K1 (by show 14 < 15; decide) (by kernel_rfl) rfl ?_; replace K2 := Av.bother (i := 14) K2 (show w.heap.size ≠ w.heap.size + 1 by omega) (.int .i64 0); replace K3 := Av.bother (i := 14) K3 (show w.heap.size ≠ g3 by omega) (.int .i64 0); replace K1 := Av.bset K1 14 (.int .i64 0) rfl; replace BX := BX.setCell (p := ⟨w.heap.size, 14, none⟩) (Nat.le_refl _) (.int .i64 0))
  generalize X1.setCell ⟨w.heap.size, 14, none⟩ (.int .i64 0) = X2 at *
  have y1 := K3.cell 1
  have y2 := K3.cell 2
  have y3 := K3.cell 3
  have y4 := K3.cell 4
  have y5 := K3.cell 5
  have y6 := K3.cell 6
  have y7 := K3.cell 7
  have y8 := K3.cell 8
  have y9 := K3.cell 9
  have y10 := K3.cell 10
  go_upto_region 23 with (fail)
  clear y1 y2 y3 y4 y5 y6 y7 y8 y9 y10
  have H1 : (#[.int .i64 0, .int .i64 c.ws, .int .i64 c.wo, .int .i64 c.it, .int .i64 c.la, .int .i64 c.ti, .int .u64 (c.m : Int), .int .u16 c.ins, .int .i64 c.rs, .int .i64 c.rj, .int .u64 c.st, .int .u64 c.mr, .int .u64 c.ft, .int .i64 c.vs, .int .i64 0] : Array Value).all (·.oneCell') = true := by rw [← Array.all_toList]; rfl
  go_wp2_with (first | (refine wpList_store_row rfl 28 (.tmp 2) _ rfl (w.heap.size + 1) #[.int .i64 0, .int .i64 c.ws, .int .i64 c.wo, .int .i64 c.it, .int .i64 c.la, .int .i64 c.ti, .int .u64 (c.m : Int), .int .u16 c.ins, .int .i64 c.rs, .int .i64 c.rj, .int .u64 c.st, .int .u64 c.mr, .int .u64 c.ft, .int .i64 c.vs, .int .i64 0] rfl rfl 28 _ K2 (by kernel_rfl) rfl H1 ?_) | (refine wpList_load_row rfl 28 (.tmp 1) rfl w.heap.size rfl 28 _ (0, 0) _ K1 Try.underlying28 rfl (by kernel_rfl) ?_))
  have KR := setRow_heap X2 (w.heap.size + 1) _ #[.int .i64 0, .int .i64 c.ws, .int .i64 c.wo, .int .i64 c.it, .int .i64 c.la, .int .i64 c.ti, .int .u64 (c.m : Int), .int .u16 c.ins, .int .i64 c.rs, .int .i64 c.rj, .int .u64 c.st, .int .u64 c.mr, .int .u64 c.ft, .int .i64 c.vs, .int .i64 0] 28 (0, 0) K2
  have BE := below_setRow BX (Nat.le_succ _) #[.int .i64 0, .int .i64 c.ws, .int .i64 c.wo, .int .i64 c.it, .int .i64 c.la, .int .i64 c.ti, .int .u64 (c.m : Int), .int .u16 c.ins, .int .i64 c.rs, .int .i64 c.rj, .int .u64 c.st, .int .u64 c.mr, .int .u64 c.ft, .int .i64 c.vs, .int .i64 0]
  generalize X2.setRow (w.heap.size + 1) #[.int .i64 0, .int .i64 c.ws, .int .i64 c.wo, .int .i64 c.it, .int .i64 c.la, .int .i64 c.ti, .int .u64 (c.m : Int), .int .u16 c.ins, .int .i64 c.rs, .int .i64 c.rj, .int .u64 c.st, .int .u64 c.mr, .int .u64 c.ft, .int .i64 c.vs, .int .i64 0] = Y at *
  refine bodyPost_ret (v := .agg #[.int .i64 0, .int .i64 c.ws, .int .i64 c.wo, .int .i64 c.it, .int .i64 c.la, .int .i64 c.ti, .int .u64 (c.m : Int), .int .u16 c.ins, .int .i64 c.rs, .int .i64 c.rj, .int .u64 c.st, .int .u64 c.mr, .int .u64 c.ft, .int .i64 c.vs, .int .i64 0]) ?_ rfl ⟨rfl, BE⟩
  clear K1
  have HL := run_loadVar_row (P := Try.prog) Y (w.heap.size + 1) 28 28 #[.int .i64 0, .int .i64 c.ws, .int .i64 c.wo, .int .i64 c.it, .int .i64 c.la, .int .i64 c.ti, .int .u64 (c.m : Int), .int .u16 c.ins, .int .i64 c.rs, .int .i64 c.rj, .int .u64 c.st, .int .u64 c.mr, .int .u64 c.ft, .int .i64 c.vs, .int .i64 0] (0, 0) _ KR Try.underlying28 rfl (by kernel_rfl)
  generalize (#[.int .i64 0, .int .i64 c.ws, .int .i64 c.wo, .int .i64 c.it, .int .i64 c.la, .int .i64 c.ti, .int .u64 (c.m : Int), .int .u16 c.ins, .int .i64 c.rs, .int .i64 c.rj, .int .u64 c.st, .int .u64 c.mr, .int .u64 c.ft, .int .i64 c.vs, .int .i64 0] : Array Value) = CS at *
  simp [results, show (Try.f21).results = #[.cell 2 28] from rfl, asAddr, HL, Act.put]
end Go.Proofs.Ytiopeghbpnjcgaa.Cp
