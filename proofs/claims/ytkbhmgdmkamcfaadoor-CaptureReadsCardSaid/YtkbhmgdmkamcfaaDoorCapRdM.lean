/- What is read of a file that was written: the records that are complete; what a changed byte does. -/
import Derived.Test.YtkbhmgdmkamcfaaDoorCapRdF
import Derived.Test.YtkbhmgdmkamcfaaDoorCapWrite
set_option linter.unusedVariables false
set_option linter.unusedSimpArgs false
namespace Go.Proofs.YtkbhmgdmkamcfaaDoor.Cap
open Go.RowKit Mem Rw Air Base Oct

theorem nums_put (fs : List (Int × Int)) (t : List Int) (h : ∀ f ∈ fs, 0 ≤ f.2 ∧ f.2 < Ser.p2 (8 * f.1.toNat)) : numsL (putL fs ++ t) (fs.map Prod.fst) = fs.map Prod.snd := by
  induction fs with
  | nil => rfl
  | cons f l ih =>
    have hf := h f (by simp)
    simp only [putL, List.map_cons, numsL, List.append_assoc]
    have h1 : (numL f.1.toNat f.2 ++ (putL l ++ t)).take f.1.toNat = numL f.1.toNat f.2 := by
      rw [List.take_append_of_le_length (by rw [numL_len]; omega), List.take_of_length_le (by rw [numL_len]; omega)]
    have h2 : (numL f.1.toNat f.2 ++ (putL l ++ t)).drop f.1.toNat = putL l ++ t := by
      rw [List.drop_append_of_le_length (by rw [numL_len]; omega), List.drop_of_length_le (by rw [numL_len]; omega)]; rfl
    rw [h1, h2, valL_numL _ _ hf.1 hf.2, ih fun g hg => h g (by simp [hg])]
theorem flds_in {r : Tr} (h : rightB r = true) (hl : r.bs.length ≤ 260) : ∀ f ∈ fldsL r, 0 ≤ f.2 ∧ f.2 < Ser.p2 (8 * f.1.toNat) := by
  obtain ⟨h1, h2, h3, h4, h5, h6, h7, h8⟩ := (right_iff r).mp h
  have p8 : Ser.p2 (8 * (8 : Int).toNat) = 18446744073709551616 := by decide
  have p1 : Ser.p2 (8 * (1 : Int).toNat) = 256 := by decide
  have p2' : Ser.p2 (8 * (2 : Int).toNat) = 65536 := by decide
  intro f hf
  simp only [fldsL, List.mem_cons, List.not_mem_nil, or_false] at hf
  rcases hf with rfl | rfl | rfl | rfl | rfl
  · rw [p8]; omega
  · rw [p1]; omega
  · rw [p1]; omega
  · rw [p1]; omega
  · rw [p2']; omega
theorem nums_rec {r : Tr} (h : rightB r = true) (hl : r.bs.length ≤ 260) (t : List Int) : numsL (putL (fldsL r) ++ t) [8, 1, 1, 1, 2] = [r.id, r.frm, r.ch, r.st, (r.bs.length : Int)] := nums_put (fldsL r) t (flds_in h hl)
theorem dec_body {r : Tr} (h : rightB r = true) (hl : r.bs.length ≤ 260) : decR (bodL r) = r := by
  obtain ⟨h1, h2, h3, h4, h5, h6, h7, h8⟩ := (right_iff r).mp h
  have e := nums_rec h hl r.bs
  have e4 : (bodL r).drop 13 = r.bs := by
    unfold bodL
    rw [List.drop_append_of_le_length (by rw [put_len]; omega), List.drop_of_length_le (by rw [put_len]; omega)]; rfl
  unfold decR nmZ
  rw [e4]
  unfold bodL
  rw [e]
  simp only [List.getD_cons_zero, List.getD_cons_succ]
  rw [IntKind.wrap_i64, IntKind.wrap_i64, IntKind.wrap_i64, IntKind.wrap_i64]
  obtain ⟨a, b, c, d, q⟩ := r
  simp only at h1 h2 h3 h4 h5 h6 h7 h8
  simp only [Tr.mk.injEq, and_true]
  omega
theorem take13_rec (r : Tr) (t : List Int) (m : Nat) (hm : 13 ≤ m) : ((recL r ++ t).take m).take 13 = putL (fldsL r) := by
  rw [List.take_take, Nat.min_eq_left hm]
  unfold recL Crc.appL bodL
  rw [List.append_assoc, List.append_assoc, List.take_append_of_le_length (by rw [put_len]; omega), List.take_of_length_le (by rw [put_len]; omega)]
theorem len_put {r : Tr} (h : rightB r = true) (hl : r.bs.length ≤ 260) : lenZ (putL (fldsL r)) = (r.bs.length : Int) := by
  unfold lenZ nmZ
  have := nums_rec h hl []
  rw [List.append_nil] at this
  rw [this]
  simp only [List.getD_cons_zero, List.getD_cons_succ]
  unfold wrap64; omega
theorem recN_put {r : Tr} (h : rightB r = true) (hl : r.bs.length ≤ 260) {zs : List Int} (hz : zs.take 13 = putL (fldsL r)) : recN zs = r.bs.length := by
  unfold recN; rw [hz, len_put h hl]; omega
theorem chk_app (q : Nat) (zs : List Int) : Crc.chkR q (Crc.appL q zs) = (zs, 0) := by
  have hl := Crc.appL_len q zs
  rw [Crc.chkR_good (by omega)]
  · rw [hl]; unfold Crc.appL; simp
  · rw [hl]; unfold Crc.appL; simp
theorem bodZ_rec {r : Tr} (h : rightB r = true) (hl : r.bs.length ≤ 260) (t : List Int) : bodZ (recL r ++ t) = (bodL r, 0) ∧ recN (recL r ++ t) = r.bs.length := by
  have hN : recN (recL r ++ t) = r.bs.length := recN_put h hl (by
    have := take13_rec r t (recL r ++ t).length (by rw [List.length_append, rec_len]; omega)
    rwa [List.take_length] at this)
  refine ⟨?_, hN⟩
  unfold bodZ
  rw [hN, List.take_append_of_le_length (by rw [rec_len]; omega), List.take_of_length_le (by rw [rec_len]; omega)]
  exact chk_app _ _
/-- A good record, then anything. -/
theorem recE_rec {p : Option Int} {r : Tr} (h : chkC p r = 0) (t : List Int) : recE p (recL r ++ t) = 0 ∧ decR (bodZ (recL r ++ t)).1 = r ∧ recN (recL r ++ t) = r.bs.length := by
  obtain ⟨h1, h2, h3⟩ := chk_good h
  obtain ⟨e1, e2⟩ := bodZ_rec h1 h2 t
  have e3 : decR (bodZ (recL r ++ t)).1 = r := by rw [e1]; exact dec_body h1 h2
  refine ⟨?_, e3, e2⟩
  have hL : (recL r ++ t).length = 16 + r.bs.length + t.length := by rw [List.length_append, rec_len]
  have h13 : (recL r ++ t).take 13 = putL (fldsL r) := by
    have := take13_rec r t (recL r ++ t).length (by omega)
    rwa [List.take_length] at this
  rw [recE_chk (by omega) (by rw [h13, len_put h1 h2]; omega) (by rw [e2]; omega) (by rw [e1]), e3, h]
/-- A part of a good record. -/
theorem recE_part {p : Option Int} {r : Tr} (h : chkC p r = 0) (t : List Int) (m : Nat) (hm : m < 16 + r.bs.length) : recE p ((recL r ++ t).take m) = 3 := by
  obtain ⟨h1, h2, h3⟩ := chk_good h
  have hL : ((recL r ++ t).take m).length = m := by rw [List.length_take, List.length_append, rec_len]; omega
  by_cases h13 : m < 13
  · unfold recE; rw [if_pos (by omega)]
  · have e := take13_rec r t m (by omega)
    exact recE_3 (by omega) (by rw [e, len_put h1 h2]; omega) (by rw [recN_put h1 h2 e]; omega)
/-- Records that are good behind a last time. -/
def okL : Option Int → List Tr → Prop
  | _, [] => True
  | p, r :: s => chkC p r = 0 ∧ okL (some r.id) s
def bytesL (l : List Tr) : List Int := l.flatMap recL
theorem write_ok {p : Option Int} {l : List Tr} {acc : List Int} (h : okL p l) : writeR p l acc = (acc ++ bytesL l, 0) := by
  induction l generalizing p acc with
  | nil => simp [writeR, bytesL]
  | cons r s ih =>
    unfold writeR
    rw [if_pos h.1, ih h.2]
    simp [bytesL]
theorem chkC_nn (p : Option Int) (r : Tr) : 0 ≤ chkC p r := by
  unfold chkC; split <;> (try split) <;> (try split) <;> decide
theorem write_bad {p : Option Int} {l : List Tr} {acc : List Int} (h : ¬ okL p l) : (writeR p l acc).1 = [] ∧ (writeR p l acc).2 ≠ 0 := by
  induction l generalizing p acc with
  | nil => exact absurd trivial h
  | cons r s ih =>
    unfold writeR
    by_cases c : chkC p r = 0
    · rw [if_pos c]
      exact ih fun hs => h ⟨c, hs⟩
    · rw [if_neg c]; exact ⟨rfl, c⟩
/-- So many bytes the first records take. -/
def offL (l : List Tr) (j : Nat) : Nat := (bytesL (l.take j)).length
theorem readF_list {p : Option Int} {l : List Tr} (h : okL p l) (f : Nat) (t : List Int) (hf : l.length ≤ f) :
    readF f p (bytesL l ++ t) = (l ++ (readF (f - l.length) (match l.getLast? with | none => p | some r => some r.id) t).1, ((bytesL l).length : Int) + (readF (f - l.length) (match l.getLast? with | none => p | some r => some r.id) t).2.1, (readF (f - l.length) (match l.getLast? with | none => p | some r => some r.id) t).2.2) := by
  induction l generalizing p f with
  | nil => simp [bytesL]
  | cons r s ih =>
    cases f with
    | zero => simp at hf
    | succ f =>
      obtain ⟨e1, e2, e3⟩ := recE_rec h.1 (bytesL s ++ t)
      have hb : bytesL (r :: s) ++ t = recL r ++ (bytesL s ++ t) := by simp [bytesL]
      have hl0 : (recL r ++ (bytesL s ++ t)).length ≠ 0 := by rw [List.length_append, rec_len]; omega
      have hd : (recL r ++ (bytesL s ++ t)).drop (16 + r.bs.length) = bytesL s ++ t := by
        rw [List.drop_append_of_le_length (by rw [rec_len]; omega), List.drop_of_length_le (by rw [rec_len]; omega)]; rfl
      rw [hb, readF_good f p hl0 e1, e2, e3, hd, ih h.2 f (by simpa using hf)]
      have hg : (match (r :: s).getLast? with | none => p | some r => some r.id) = (match s.getLast? with | none => some r.id | some r => some r.id) := by
        rw [List.getLast?_cons]
        cases s.getLast? <;> rfl
      rw [hg]
      have hL : ((bytesL (r :: s)).length : Int) = 16 + (r.bs.length : Int) + ((bytesL s).length : Int) := by
        have : bytesL (r :: s) = recL r ++ bytesL s := by simp [bytesL]
        rw [this, List.length_append, rec_len]; push_cast; rfl
      rw [hL]
      simp only [List.length_cons, Nat.add_sub_add_right, List.cons_append]
      refine Prod.ext rfl (Prod.ext ?_ rfl)
      show 16 + (r.bs.length : Int) + (((bytesL s).length : Int) + _) = 16 + (r.bs.length : Int) + ((bytesL s).length : Int) + _
      omega
theorem okL_take {p : Option Int} {l : List Tr} (h : okL p l) (j : Nat) : okL p (l.take j) := by
  induction l generalizing p j with
  | nil => simp [okL]
  | cons r s ih =>
    cases j with
    | zero => trivial
    | succ j => exact ⟨h.1, ih h.2 j⟩
theorem okL_at {p : Option Int} {l : List Tr} (h : okL p l) {j : Nat} {r : Tr} (hr : l[j]? = some r) : chkC (match (l.take j).getLast? with | none => p | some r => some r.id) r = 0 := by
  induction l generalizing p j with
  | nil => simp at hr
  | cons x s ih =>
    cases j with
    | zero => simp at hr; subst hr; exact h.1
    | succ j =>
      have := ih h.2 (j := j) (by simpa using hr)
      have hg : (match ((x :: s).take (j + 1)).getLast? with | none => p | some r => some r.id) = (match (s.take j).getLast? with | none => some x.id | some r => some r.id) := by
        rw [List.take_succ_cons, List.getLast?_cons]
        cases (s.take j).getLast? <;> rfl
      rw [hg]; exact this
theorem bytesL_split (l : List Tr) {j : Nat} {r : Tr} (hr : l[j]? = some r) : bytesL l = bytesL (l.take j) ++ (recL r ++ bytesL (l.drop (j + 1))) := by
  have e : l = l.take j ++ r :: l.drop (j + 1) := by
    rw [← drop_at hr, List.take_append_drop]
  conv => lhs; rw [e]
  simp [bytesL]
theorem offL_succ (l : List Tr) {j : Nat} {r : Tr} (hr : l[j]? = some r) : offL l (j + 1) = offL l j + 16 + r.bs.length := by
  unfold offL
  have e : l.take (j + 1) = l.take j ++ [r] := by rw [List.take_add_one, hr]; rfl
  rw [e]
  simp [bytesL, rec_len]; omega
theorem sig_len : sigL.length = 4 := rfl
theorem offL_ge (l : List Tr) (j : Nat) (h : j ≤ l.length) : 16 * j ≤ offL l j := by
  induction j with
  | zero => omega
  | succ j ih =>
    have hr : l[j]? = some l[j] := List.getElem?_eq_getElem (by omega)
    rw [offL_succ l hr]
    have := ih (by omega)
    omega
/-- The beginning of a file: the records that are complete in it. -/
theorem readA_cut {l : List Tr} (h : okL none l) (j cut : Nat) (hj : j ≤ l.length) (h4 : 4 ≤ cut) (h1 : 4 + offL l j ≤ cut) (h2 : (j = l.length ∧ cut = 4 + offL l j) ∨ ∃ r, l[j]? = some r ∧ cut < 4 + offL l j + 16 + r.bs.length) :
    readA ((sigL ++ bytesL l).take cut) = (l.take j, 4 + (offL l j : Int), if cut = 4 + offL l j then 0 else 3) := by
  have hd : ((sigL ++ bytesL l).take cut).drop 4 = (bytesL l).take (cut - 4) := by
    rw [List.drop_take]; rfl
  have ht : ((sigL ++ bytesL l).take cut).take 4 = sigL := by
    rw [List.take_take, Nat.min_eq_left h4]; rfl
  have hge := offL_ge l j hj
  have hcl : offL l j ≤ (bytesL l).length := by
    have : bytesL l = bytesL (l.take j) ++ bytesL (l.drop j) := by unfold bytesL; rw [← List.flatMap_append, List.take_append_drop]
    rw [this, List.length_append]; unfold offL; omega
  have hlen : 4 + offL l j ≤ ((sigL ++ bytesL l).take cut).length := by
    rw [List.length_take, List.length_append, sig_len]; omega
  unfold readA
  rw [if_neg (by omega), if_neg (by simp [ht]), hd]
  obtain ⟨f, hf⟩ : ∃ f, ((sigL ++ bytesL l).take cut).length = f := ⟨_, rfl⟩
  rw [hf] at hlen ⊢
  have hsp : ∃ t, (bytesL l).take (cut - 4) = bytesL (l.take j) ++ t ∧ readF (f - (l.take j).length) (match (l.take j).getLast? with | none => none | some r => some r.id) t = ([], 0, if cut = 4 + offL l j then 0 else 3) := by
    rcases h2 with ⟨rfl, rfl⟩ | ⟨r, hr, hc⟩
    · refine ⟨[], ?_, ?_⟩
      · have e : 4 + offL l l.length - 4 = (bytesL (l.take l.length)).length := by unfold offL; omega
        rw [e, List.take_length, List.take_length, List.append_nil]
      · rw [readF_nil _ _ rfl, if_pos rfl]
    · refine ⟨(recL r ++ bytesL (l.drop (j + 1))).take (cut - 4 - offL l j), ?_, ?_⟩
      · rw [bytesL_split l hr, List.take_append]
        rw [List.take_of_length_le (by unfold offL at h1; omega)]
        rfl
      · by_cases hc0 : cut = 4 + offL l j
        · rw [if_pos hc0, readF_nil]
          rw [List.length_take]; omega
        · rw [if_neg hc0]
          have hp := recE_part (okL_at h hr) (bytesL (l.drop (j + 1))) (cut - 4 - offL l j) (by omega)
          have hpos : f - (l.take j).length = f - (l.take j).length - 1 + 1 := by rw [List.length_take]; omega
          rw [hpos, readF_bad _ _ (by rw [List.length_take, List.length_append, rec_len]; omega) (by rw [hp]; decide), hp]
  obtain ⟨t, e1, e2⟩ := hsp
  rw [e1, readF_list (okL_take h j) f t (by rw [List.length_take]; omega), e2]
  simp [offL]
/-- A whole file. -/
theorem readA_file {l : List Tr} (h : okL none l) : readA (sigL ++ bytesL l) = (l, 4 + ((bytesL l).length : Int), 0) := by
  have := readA_cut h l.length (4 + offL l l.length) (Nat.le_refl _) (by omega) (Nat.le_refl _) (.inl ⟨rfl, rfl⟩)
  rw [if_pos rfl] at this
  have e : offL l l.length = (bytesL l).length := by unfold offL; rw [List.take_length]
  rw [e, List.take_length, List.take_of_length_le (by rw [List.length_append, sig_len]; omega)] at this
  exact this
end Go.Proofs.YtkbhmgdmkamcfaaDoor.Cap
