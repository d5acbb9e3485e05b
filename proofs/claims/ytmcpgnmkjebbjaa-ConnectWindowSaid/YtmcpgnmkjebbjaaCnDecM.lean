/- Bytes as the form of parameters: plain mathematics over the numbers of the form. -/
import Derived.Test.YtmcpgnmkjebbjaaCnEnc2
set_option linter.unusedVariables false
set_option linter.unusedSimpArgs false
namespace Go.Proofs.Ytmcpgnmkjebbjaa.Cn
open Go.RowKit Mem Clk Rw

theorem numL_valL {l : List Int} (h : Bytes l) : Oct.numL l.length (Oct.valL l) = l := by
  induction l with
  | nil => rfl
  | cons x r ih =>
    have hx := h x (List.mem_cons_self ..)
    have hr : Bytes r := fun z hz => h z (List.mem_cons_of_mem _ hz)
    have hb := Oct.valL_bd hr
    simp only [List.length_cons, Oct.numL, Oct.valL]
    rw [show (x + 256 * Oct.valL r) % 256 = x by omega, show (x + 256 * Oct.valL r) / 256 = Oct.valL r by omega, ih hr]
/-- Numbers of the form, each in as many bytes as it has. -/
structure Wide (a b s o i l t : Int) (m : Nat) (h d g : Int) : Prop where
  ha : 0 ≤ a ∧ a ≤ 4294967295
  hb : 0 ≤ b ∧ b ≤ 16777215
  hs : 0 ≤ s ∧ s ≤ 255
  ho : 0 ≤ o ∧ o ≤ 65535
  hi : 0 ≤ i ∧ i ≤ 65535
  hl : 0 ≤ l ∧ l ≤ 65535
  ht : 0 ≤ t ∧ t ≤ 65535
  hm : m ≤ 1099511627775
  hh : 0 ≤ h ∧ h ≤ 255
  hd : 0 ≤ d ∧ d ≤ 65535
  hg : 0 ≤ g ∧ g ≤ 255
theorem val_of {xs : List Int} (hx : Bytes xs) (k : Nat) (hk : k ≤ xs.length) : (0 ≤ Oct.valL (xs.take k) ∧ Oct.valL (xs.take k) < Ser.p2 (8 * k)) ∧ Oct.numL k (Oct.valL (xs.take k)) = xs.take k := by
  have hb : Bytes (xs.take k) := fun z hz => hx z (List.mem_of_mem_take hz)
  have hl : (xs.take k).length = k := by rw [List.length_take]; omega
  have h1 := Oct.valL_bd hb
  have h2 := numL_valL hb
  rw [hl] at h1 h2
  exact ⟨h1, h2⟩
theorem form_of {xs : List Int} (hx : Bytes xs) (hl : xs.length = 25) : ∃ (a b s o i l t : Int) (m : Nat) (h d g : Int), Oct.numsL xs szL = nmL a b s o i l t m h d g ∧ Wide a b s o i l t m h d g ∧ xs = Oct.putL (flL a b s o i l t m h d g) := by
  have bd : ∀ k, Bytes (xs.drop k) := fun k z hz => hx z (List.mem_of_mem_drop hz)
  have ld : ∀ k, (xs.drop k).length = 25 - k := fun k => by rw [List.length_drop, hl]
  have p4 : Ser.p2 (8 * 4) = 4294967296 := by decide
  have p3 : Ser.p2 (8 * 3) = 16777216 := by decide
  have p1 : Ser.p2 (8 * 1) = 256 := by decide
  have p2' : Ser.p2 (8 * 2) = 65536 := by decide
  have p5 : Ser.p2 (8 * 5) = 1099511627776 := by decide
  have v0 := val_of hx 4 (by omega)
  have v1 := val_of (bd 4) 3 (by rw [ld]; omega)
  have v2 := val_of (bd 7) 1 (by rw [ld]; omega)
  have v3 := val_of (bd 8) 2 (by rw [ld]; omega)
  have v4 := val_of (bd 10) 2 (by rw [ld]; omega)
  have v5 := val_of (bd 12) 2 (by rw [ld]; omega)
  have v6 := val_of (bd 14) 2 (by rw [ld]; omega)
  have v7 := val_of (bd 16) 5 (by rw [ld]; omega)
  have v8 := val_of (bd 21) 1 (by rw [ld]; omega)
  have v9 := val_of (bd 22) 2 (by rw [ld]; omega)
  have v10 := val_of (bd 24) 1 (by rw [ld]; omega)
  rw [p4] at v0
  rw [p3] at v1
  rw [p1] at v2 v8 v10
  rw [p2'] at v3 v4 v5 v6 v9
  rw [p5] at v7
  have hm : (((Oct.valL ((xs.drop 16).take 5)).toNat : Nat) : Int) = Oct.valL ((xs.drop 16).take 5) := Int.toNat_of_nonneg v7.1.1
  refine ⟨Oct.valL (xs.take 4), Oct.valL ((xs.drop 4).take 3), Oct.valL ((xs.drop 7).take 1), Oct.valL ((xs.drop 8).take 2), Oct.valL ((xs.drop 10).take 2), Oct.valL ((xs.drop 12).take 2), Oct.valL ((xs.drop 14).take 2), (Oct.valL ((xs.drop 16).take 5)).toNat, Oct.valL ((xs.drop 21).take 1), Oct.valL ((xs.drop 22).take 2), Oct.valL ((xs.drop 24).take 1), ?_, ?_, ?_⟩
  · simp only [szL, Oct.numsL, nmL, hm, List.drop_drop]
    rfl
  · exact ⟨by omega, by omega, by omega, by omega, by omega, by omega, by omega, by omega, by omega, by omega, by omega⟩
  · have e : Oct.putL (flL (Oct.valL (xs.take 4)) (Oct.valL ((xs.drop 4).take 3)) (Oct.valL ((xs.drop 7).take 1)) (Oct.valL ((xs.drop 8).take 2)) (Oct.valL ((xs.drop 10).take 2)) (Oct.valL ((xs.drop 12).take 2)) (Oct.valL ((xs.drop 14).take 2)) (Oct.valL ((xs.drop 16).take 5)).toNat (Oct.valL ((xs.drop 21).take 1)) (Oct.valL ((xs.drop 22).take 2)) (Oct.valL ((xs.drop 24).take 1))) =
        xs.take 4 ++ ((xs.drop 4).take 3 ++ ((xs.drop 7).take 1 ++ ((xs.drop 8).take 2 ++ ((xs.drop 10).take 2 ++ ((xs.drop 12).take 2 ++ ((xs.drop 14).take 2 ++ ((xs.drop 16).take 5 ++ ((xs.drop 21).take 1 ++ ((xs.drop 22).take 2 ++ ((xs.drop 24).take 1 ++ [])))))))))) := by
      simp only [flL, Oct.putL, hm]
      rw [show (4 : Int).toNat = 4 from rfl, show (3 : Int).toNat = 3 from rfl, show (1 : Int).toNat = 1 from rfl, show (2 : Int).toNat = 2 from rfl, show (5 : Int).toNat = 5 from rfl]
      rw [v0.2, v1.2, v2.2, v3.2, v4.2, v5.2, v6.2, v7.2, v8.2, v9.2, v10.2]
    rw [e]
    have st : ∀ k n : Nat, (xs.drop k).take n ++ xs.drop (k + n) = xs.drop k := fun k n => by rw [← List.drop_drop]; exact List.take_append_drop n _
    have h24 : (xs.drop 24).take 1 ++ [] = xs.drop 24 := by rw [List.append_nil]; exact List.take_of_length_le (by rw [ld]; omega)
    rw [h24, st 22 2, st 21 1, st 16 5, st 14 2, st 12 2, st 10 2, st 8 2, st 7 1, st 4 3, List.take_append_drop]
/-- The numbers of the form are read again. -/
theorem nums_put {a b s o i l t : Int} {m : Nat} {h d g : Int} (k : Wide a b s o i l t m h d g) : Oct.numsL (Oct.putL (flL a b s o i l t m h d g)) szL = nmL a b s o i l t m h d g := by
  obtain ⟨ha, hb, hs, ho, hi, hl, ht, hm, hh, hd, hg⟩ := k
  have p4 : Ser.p2 (8 * 4) = 4294967296 := by decide
  have p3 : Ser.p2 (8 * 3) = 16777216 := by decide
  have p1 : Ser.p2 (8 * 1) = 256 := by decide
  have p2' : Ser.p2 (8 * 2) = 65536 := by decide
  have p5 : Ser.p2 (8 * 5) = 1099511627776 := by decide
  have tk : ∀ (n : Nat) (v : Int) (r : List Int), (Oct.numL n v ++ r).take n = Oct.numL n v := fun n v r => by rw [List.take_append_of_le_length (by rw [Oct.numL_len]; exact Nat.le_refl _), List.take_of_length_le (by rw [Oct.numL_len]; exact Nat.le_refl _)]
  have dp : ∀ (n : Nat) (v : Int) (r : List Int), (Oct.numL n v ++ r).drop n = r := fun n v r => by rw [List.drop_append_of_le_length (by rw [Oct.numL_len]; exact Nat.le_refl _), List.drop_of_length_le (by rw [Oct.numL_len]; exact Nat.le_refl _), List.nil_append]
  simp only [szL, flL, Oct.putL, Oct.numsL, nmL, show (4 : Int).toNat = 4 from rfl, show (3 : Int).toNat = 3 from rfl, show (1 : Int).toNat = 1 from rfl, show (2 : Int).toNat = 2 from rfl, show (5 : Int).toNat = 5 from rfl, tk, dp]
  rw [Oct.valL_numL 4 a ha.1 (by omega), Oct.valL_numL 3 b hb.1 (by omega), Oct.valL_numL 1 s hs.1 (by omega), Oct.valL_numL 2 o ho.1 (by omega), Oct.valL_numL 2 i hi.1 (by omega), Oct.valL_numL 2 l hl.1 (by omega), Oct.valL_numL 2 t ht.1 (by omega), Oct.valL_numL 5 m (by omega) (by omega), Oct.valL_numL 1 h hh.1 (by omega), Oct.valL_numL 2 d hd.1 (by omega), Oct.valL_numL 1 g hg.1 (by omega)]
theorem good_wide {a b s o i l t : Int} {m : Nat} {h d g : Int} (k : Good a b s o i l t m h d g) : Wide a b s o i l t m h d g := by
  obtain ⟨ha, hb, ⟨u1, u2, u3, u4, u5, u6, u7, u8, u9, u10⟩, hm, hh, hd, hg⟩ := k
  exact ⟨ha, by omega, by omega, by omega, by omega, by omega, by omega, by omega, by omega, by omega, by omega⟩
theorem put_bytes (fs : List (Int × Int)) : Bytes (Oct.putL fs) := by
  induction fs with
  | nil => intro z hz; cases hz
  | cons f r ih =>
    intro z hz
    rcases List.mem_append.mp hz with h | h
    · exact Oct.numL_bytes _ _ z h
    · exact ih z h
end Go.Proofs.Ytmcpgnmkjebbjaa.Cn
