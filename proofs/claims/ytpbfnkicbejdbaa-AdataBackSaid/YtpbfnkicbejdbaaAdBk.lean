/- Elements are recovered from their bytes, bytes from their elements: arithmetic. -/
import Derived.Test.YtpbfnkicbejdbaaAdList
set_option linter.unusedVariables false
set_option linter.unusedSimpArgs false
namespace Go.Proofs.Ytpbfnkicbejdbaa.Ad
open Go.RowKit Mem Rw Oct

theorem run_back (f : Nat) : ∀ (acc : List E) (xs : List Int), Bytes xs → xs.length < f → (run f acc xs).2 = 0 → allB (run f acc xs).1 = allB acc ++ xs := by
  induction f with
  | zero => intro acc xs _ h; omega
  | succ f ih =>
    intro acc xs hb hl h
    cases xs with
    | nil => simp [run]
    | cons n r =>
      by_cases h0 : n = 0
      · rw [run_zero h0] at h; simp at h
      · by_cases h2 : (r.length : Int) < n
        · rw [run_short h0 h2] at h; simp at h
        · rw [run_step h0 h2] at h ⊢
          have hn := hb n (by simp)
          have hr : Bytes r := fun z hz => hb z (by simp [hz])
          rw [ih _ _ (fun z hz => hr z (List.mem_of_mem_drop hz)) (by simp at hl ⊢; omega) h]
          obtain ⟨m, rfl⟩ := Int.eq_ofNat_of_zero_le hn.1
          cases r with
          | nil => simp at h2; omega
          | cons y r' =>
            have hy := hr y (by simp)
            obtain ⟨k, rfl⟩ : ∃ k, m = k + 1 := ⟨m - 1, by omega⟩
            simp only [List.length_cons] at h2
            have h3 : (r'.take k).length = k := by rw [List.length_take]; omega
            rw [allB_app, List.append_assoc]
            congr 1
            simp only [allB, List.flatMap_cons, List.flatMap_nil, List.append_nil, encB, List.headD_cons, List.drop_succ_cons, List.drop_zero, Int.toNat_natCast, Nat.add_sub_cancel, h3, List.cons_append, List.take_append_drop]
            congr 1
            · omega
            · congr 1
              omega
theorem decR_back {xs : List Int} (hb : Bytes xs) (h : (decR xs).2 = 0) : allB (decR xs).1 = xs ∧ xs.length ≤ 31 := by
  unfold decR at h ⊢
  by_cases h1 : 31 < xs.length
  · rw [if_pos h1] at h; simp at h
  · rw [if_neg h1] at h ⊢
    exact ⟨by rw [run_back 32 [] xs hb (by omega) h]; simp [allB], by omega⟩
theorem mem_len {l : List E} {x : E} (h : x ∈ l) : x.2.length + 2 ≤ (allB l).length := by
  obtain ⟨j, hj⟩ := List.getElem?_of_mem h
  exact len_at hj
theorem decR_vlen {xs : List Int} (hb : Bytes xs) : ∀ e ∈ (decR xs).1, e.2.length ≤ 31 := by
  intro e he
  by_cases h : (decR xs).2 = 0
  · obtain ⟨h1, h2⟩ := decR_back hb h
    have := mem_len he
    rw [h1] at this; omega
  · rw [decR_err h] at he; cases he
theorem svcR_len {xs : List Int} (hb : Bytes xs) : (svcR xs).length ≤ 961 := by
  have h1 : ((decR xs).1.map (fun e => (⟨e.1, none, 0, e.2⟩ : El))).map El.e = (decR xs).1 := by
    rw [List.map_map]
    exact (List.map_congr_left (fun x _ => rfl)).trans (List.map_id _)
  rw [rsv_all h1]
  have h2 := rsv_len ((decR xs).1.map (fun e => (⟨e.1, none, 0, e.2⟩ : El))) (fun x hx => by
    obtain ⟨e, he, rfl⟩ := List.mem_map.mp hx
    exact decR_vlen hb e he) ((decR xs).1.map (fun e => (⟨e.1, none, 0, e.2⟩ : El))).length
  rw [List.take_length] at h2
  have h3 := decR_len xs
  rw [List.length_map] at h2
  omega
theorem kinds_all {xs : List Int} (hb : Bytes xs) : (decR xs).1.all kindOk = true := by
  rw [List.all_eq_true]
  intro x hx
  have := (decR_bytes hb x hx).1
  unfold kindOk; simp; omega
/-- The bytes of what was read. -/
theorem enc_dec {xs : List Int} (hb : Bytes xs) (h : (decR xs).2 = 0) : encR (decR xs).1 = (xs, 0) := by
  obtain ⟨h1, h2⟩ := decR_back hb h
  rw [encR_ok (kinds_all hb) (by rw [h1]; exact h2), h1]
theorem run_fwd : ∀ (l : List E) (acc : List E) (f : Nat), (∀ x ∈ l, kindOk x = true ∧ x.2.length ≤ 254) → l.length < f → run f acc (allB l) = (acc ++ l, 0)
  | [], acc, f, _, h => by
    obtain ⟨f, rfl⟩ : ∃ k, f = k + 1 := ⟨f - 1, by simp at h; omega⟩
    simp [allB, run]
  | x :: r, acc, f, hk, h => by
    obtain ⟨f, rfl⟩ : ∃ k, f = k + 1 := ⟨f - 1, by simp at h; omega⟩
    obtain ⟨h1, h2⟩ := hk x (by simp)
    have h3 : 0 ≤ x.1 ∧ x.1 ≤ 255 := by unfold kindOk at h1; simpa using h1
    have e1 : (1 + (x.2.length : Int)) % 256 = ((x.2.length + 1 : Nat) : Int) := by omega
    have e2 : x.1 % 256 = x.1 := by omega
    have e3 : allB (x :: r) = ((x.2.length + 1 : Nat) : Int) :: (x.1 :: (x.2 ++ allB r)) := by
      unfold allB
      rw [List.flatMap_cons]
      unfold encB
      rw [e1, e2]; rfl
    rw [e3, run_step (by omega) (by simp; omega)]
    have e4 : (x.1 :: (x.2 ++ allB r)).drop (((x.2.length + 1 : Nat) : Int).toNat) = allB r := by
      rw [Int.toNat_natCast, List.drop_succ_cons, List.drop_left]
    have e5 : ((x.1 :: (x.2 ++ allB r)).drop 1).take (((x.2.length + 1 : Nat) : Int).toNat - 1) = x.2 := by
      rw [Int.toNat_natCast, List.drop_succ_cons, List.drop_zero, Nat.add_sub_cancel, List.take_left]
    rw [e4, e5, run_fwd r _ f (fun y hy => hk y (by simp [hy])) (by simp at h; omega)]
    simp
theorem allB_cnt (l : List E) : 2 * l.length ≤ (allB l).length := by
  induction l with
  | nil => simp
  | cons x r ih =>
    unfold allB at ih ⊢
    rw [List.flatMap_cons, List.length_append, encB_len, List.length_cons]; omega
/-- What is read from the bytes of elements. -/
theorem dec_enc {l : List E} {bs : List Int} (h : encR l = (bs, 0)) : decR bs = (l, 0) ∧ bs.length ≤ 31 ∧ bs = allB l ∧ l.all kindOk = true := by
  unfold encR at h
  by_cases h1 : l.all kindOk = true
  · rw [if_pos h1] at h
    by_cases h2 : (allB l).length ≤ 31
    · rw [if_pos h2] at h
      obtain rfl : allB l = bs := by simpa using h
      refine ⟨?_, h2, rfl, h1⟩
      unfold decR
      rw [if_neg (by omega), run_fwd l [] 32 (fun x hx => ⟨List.all_eq_true.1 h1 x hx, by have := mem_len hx; omega⟩) (by have := allB_cnt l; omega)]
      rfl
    · rw [if_neg h2] at h; simp at h
  · rw [if_neg h1] at h; simp at h
theorem encR_err {l : List E} (h : (encR l).2 ≠ 0) : (encR l).1 = [] := by
  unfold encR at h ⊢
  by_cases h1 : l.all kindOk = true
  · rw [if_pos h1] at h ⊢
    by_cases h2 : (allB l).length ≤ 31
    · rw [if_pos h2] at h; simp at h
    · rw [if_neg h2]
  · rw [if_neg h1]
/-- What is found in built data. -/
theorem found {f : Int} {name xs bs : List Int} (bx : Words16 xs) (h : buildR f name xs = (bs, 0)) : findR bs 1 = ([f], true) ∧ (findR bs 9).1 = name ∧ svcR bs = xs ∧ (0 ≤ f ∧ f ≤ 255) ∧ bs.length ≤ 31 := by
  by_cases hf : 0 ≤ f ∧ f ≤ 255
  · rw [build_in _ _ hf] at h
    obtain ⟨h1, h2, _, _⟩ := dec_enc h
    refine ⟨?_, ?_, ?_, hf, h2⟩
    · unfold findR vals; rw [h1]; simp [items]
    · unfold findR vals; rw [h1]
      by_cases hx : xs = []
      · by_cases hn : name = [] <;> simp [items, hx, hn]
      · by_cases hn : name = [] <;> simp [items, hx, hn]
    · unfold svcR vals; rw [h1]
      by_cases hx : xs = []
      · by_cases hn : name = [] <;> simp [items, hx, hn]
      · by_cases hn : name = [] <;> simp [items, hx, hn, svc_tw xs bx]
  · rw [build_bad _ _ hf] at h; simp at h
theorem bad_is {f : Int} {name xs : List Int} (h : (buildR f name xs).2 ≠ 0) : (buildR f name xs).1 = [] ∧ ((buildR f name xs).2 = 5 ↔ ¬ (0 ≤ f ∧ f ≤ 255)) := by
  by_cases hf : 0 ≤ f ∧ f ≤ 255
  · rw [build_in _ _ hf] at h ⊢
    refine ⟨encR_err h, ?_⟩
    unfold encR at h ⊢
    rw [if_pos (items_ok _ _ _)] at h ⊢
    by_cases h2 : (allB (items f name xs)).length ≤ 31
    · rw [if_pos h2] at h; simp at h
    · rw [if_neg h2]; simp [hf]
  · rw [build_bad _ _ hf]; simp [hf]
end Go.Proofs.Ytpbfnkicbejdbaa.Ad
