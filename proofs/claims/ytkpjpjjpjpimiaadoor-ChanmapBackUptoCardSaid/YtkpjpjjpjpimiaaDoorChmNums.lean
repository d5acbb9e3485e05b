/- The numbers that the document's function reads in a text: a contract over the program. -/
import Derived.Test.YtkpjpjjpjpimiaaDoorChmRText2
set_option linter.unusedVariables false
set_option linter.unusedSimpArgs false
namespace Go.Proofs.YtkpjpjjpjpimiaaDoor.Chm
open Go.RowKit Mem Oct Base

theorem info_bool : (Tryd.prog.info? 4).map (fun i => (i.zero, i.size, i.bytes)) = some (some (.bool false), 1, 1) := by kernel_rfl
def numV (P : List (Nat × Bool)) : List Value := P.map fun p => .int .i64 (p.1 : Nat)
def runV (P : List (Nat × Bool)) : List Value := P.map fun p => .bool p.2
theorem numV_snoc (P : List (Nat × Bool)) (n : Nat) (a : Bool) : numV (P ++ [(n, a)]) = numV P ++ [.int .i64 (n : Nat)] := by simp [numV]
theorem runV_snoc (P : List (Nat × Bool)) (n : Nat) (a : Bool) : runV (P ++ [(n, a)]) = runV P ++ [.bool a] := by simp [runV]
def Nums (w w' : World) (e : Ending) (P : List (Nat × Bool)) : Prop :=
  ∃ A c A' c', e = .returned (.tuple #[.slice A P.length c, .slice A' P.length c']) ∧ w'.ownsRow w.heap.size 3 1 (.slice A P.length c) P.length (numV P) ∧ w'.ownsRow w.heap.size 4 1 (.slice A' P.length c') P.length (runV P) ∧ Below w.heap.size w w'
/-- Where the reading stands. -/
structure At (l : List UInt8) (k cur dg : Nat) (aft : Bool) (P : List (Nat × Bool)) : Prop where
  hcur : cur < 100
  hdg : dg ≤ k
  len : P.length ≤ k
  more : k ≤ l.length → P ++ numsL (l.drop k) cur (decide (0 < dg)) aft = numsL l 0 false false
  done : k = l.length + 1 → P = numsL l 0 false false
theorem At.start (l : List UInt8) : At l 0 0 0 false [] := ⟨by omega, by omega, by simp, fun _ => by simp, fun h => by omega⟩
theorem drop_at {l : List UInt8} {k : Nat} {b : UInt8} (h : l[k]? = some b) : l.drop k = b :: l.drop (k + 1) := by
  obtain ⟨hl, hb⟩ := List.getElem?_eq_some_iff.1 h
  rw [List.drop_eq_getElem_cons hl, hb]
theorem At.digit {l : List UInt8} {k cur dg : Nat} {aft : Bool} {P : List (Nat × Bool)} (h : At l k cur dg aft P) {b : UInt8} (hb : l[k]? = some b) (hd : 48 ≤ b.toNat ∧ b.toNat ≤ 57) :
    At l (k + 1) ((10 * cur + (b.toNat - 48)) % 100) (dg + 1) aft P := by
  have hk := (List.getElem?_eq_some_iff.1 hb).1
  have h1 := h.hdg
  have h2 := h.len
  refine ⟨Nat.mod_lt _ (by decide), by omega, by omega, fun _ => ?_, fun e => by omega⟩
  have := h.more (by omega)
  rw [drop_at hb, nums_digit _ _ _ _ hd] at this
  rw [← this, decide_eq_true (by omega : 0 < dg + 1)]
theorem At.other0 {l : List UInt8} {k cur : Nat} {aft : Bool} {P : List (Nat × Bool)} (h : At l k cur 0 aft P) {b : UInt8} (hb : l[k]? = some b) (hd : ¬ (48 ≤ b.toNat ∧ b.toNat ≤ 57)) :
    At l (k + 1) 0 0 (b == 45) P := by
  have hk := (List.getElem?_eq_some_iff.1 hb).1
  have h2 := h.len
  refine ⟨by omega, by omega, by omega, fun _ => ?_, fun e => by omega⟩
  have := h.more (by omega)
  rw [drop_at hb, nums_other _ _ _ _ hd] at this
  rw [← this]; simp
theorem At.other1 {l : List UInt8} {k cur dg : Nat} {aft : Bool} {P : List (Nat × Bool)} (h : At l k cur dg aft P) (hg : 0 < dg) {b : UInt8} (hb : l[k]? = some b) (hd : ¬ (48 ≤ b.toNat ∧ b.toNat ≤ 57)) :
    At l (k + 1) 0 0 (b == 45) (P ++ [(cur, aft)]) := by
  have hk := (List.getElem?_eq_some_iff.1 hb).1
  have h2 := h.len
  refine ⟨by omega, by omega, by simp; omega, fun _ => ?_, fun e => by omega⟩
  have := h.more (by omega)
  rw [drop_at hb, nums_other _ _ _ _ hd] at this
  rw [← this]; simp [hg]
theorem At.end0 {l : List UInt8} {cur : Nat} {aft : Bool} {P : List (Nat × Bool)} (h : At l l.length cur 0 aft P) : At l (l.length + 1) 0 0 false P := by
  have h2 := h.len
  refine ⟨by omega, by omega, by omega, fun e => by omega, fun _ => ?_⟩
  have := h.more (by omega)
  rw [List.drop_of_length_le (Nat.le_refl _)] at this
  rw [← this]; simp [numsL]
theorem At.end1 {l : List UInt8} {cur dg : Nat} {aft : Bool} {P : List (Nat × Bool)} (h : At l l.length cur dg aft P) (hg : 0 < dg) : At l (l.length + 1) 0 0 false (P ++ [(cur, aft)]) := by
  have h2 := h.len
  refine ⟨by omega, by omega, by simp; omega, fun e => by omega, fun _ => ?_⟩
  have := h.more (by omega)
  rw [List.drop_of_length_le (Nat.le_refl _)] at this
  rw [← this]; simp [numsL, hg]
theorem b45 (b : UInt8) : ((b.toNat : Int) == 45) = (b == 45) := by
  rw [Bool.eq_iff_iff]
  simp only [beq_iff_eq]
  constructor
  · intro h
    exact UInt8.toNat_inj.1 (by have : b.toNat = 45 := by omega
                                rw [this]; rfl)
  · intro h
    subst h
    rfl
set_option maxRecDepth 100000 in
set_option maxHeartbeats 4000000 in
theorem numbers_any (s : ByteArray) (w : World) (hs : s.size ≤ 120) :
    Calls Tryd.prog 46 #[.string s] w fun e w' => Nums w w' e (numsL s.data.toList 0 false false) := by
  obtain ⟨i0, hi, hz0, hz1, hz2⟩ := info_parts info_int
  obtain ⟨j0, hj, hy0, hy1, hy2⟩ := info_parts info_bool
  have hlen : s.data.toList.length = s.size := rfl
  go_enter Tryd.func46, Tryd.ntmps46
  go_wp2
  have own0 : ((w.alloc (.cells #[] 3)).alloc (.cells #[] 4)).ownsRow w.heap.size 3 1 (.slice (some ⟨w.heap.size, 0, none⟩) 0 0) 0 [] := (World.ownsRow_made _ _ 0 (Nat.le_refl _) (by unfold maxLen; omega) rfl).alloc _
  have own1 : ((w.alloc (.cells #[] 3)).alloc (.cells #[] 4)).ownsRow w.heap.size 4 1 (.slice (some ⟨w.heap.size + 1, 0, none⟩) 0 0) 0 [] := by
    have : ((w.alloc (.cells #[] 3)).alloc (.cells #[] 4)).ownsRow w.heap.size 4 1 (.slice (some ⟨(w.alloc (.cells #[] 3)).heap.size, 0, none⟩) 0 0) 0 [] := World.ownsRow_made _ _ 0 (by simp) (by unfold maxLen; omega) rfl
    rwa [World.size_alloc] at this
  have B0 : Below w.heap.size w ((w.alloc (.cells #[] 3)).alloc (.cells #[] 4)) := ((Below.refl _ _).alloc (Nat.le_refl _) _).alloc (by simp) _
  go_loopw [4, 5, 6, 7, 8, 9] (fun s4 s5 s6 s7 s8 s9 wr => ∃ (k cur dg : Nat) (aft : Bool) (P : List (Nat × Bool)), k ≤ s.size + 1 ∧ s9 = .int .i64 (k : Nat) ∧ s6 = .int .i64 (cur : Nat) ∧ s7 = .int .i64 (dg : Nat) ∧ s8 = .bool aft ∧ At s.data.toList k cur dg aft P ∧ wr.ownsRow w.heap.size 3 1 s4 P.length (numV P) ∧ wr.ownsRow w.heap.size 4 1 s5 P.length (runV P) ∧ Below w.heap.size w wr) (fun _ _ _ _ _ s9 _ => 200 - (intOf s9).toNat)
  case atStart => exact ⟨0, 0, 0, false, [], by omega, rfl, rfl, rfl, rfl, At.start _, own0, own1, B0⟩
  case round =>
    obtain ⟨k, cur, dg, aft, P, hk, rfl, rfl, rfl, rfl, hat, h4, h5, hB⟩ := hrel
    have a1 := hat.hcur
    have a2 := hat.hdg
    have a3 := hat.len
    by_cases h1 : k ≤ s.size
    · by_cases h2 : k < s.size
      · obtain ⟨b, hb⟩ : ∃ b, s[k]'h2 = b := ⟨_, rfl⟩
        have hbl : s.data.toList[k]? = some b := by rw [← hb]; simp [h2]; rfl
        have b255 : b.toNat < 256 := b.toNat_lt
        by_cases hd : 48 ≤ b.toNat ∧ b.toNat ≤ 57
        · have hn := hat.digit hbl hd
          obtain ⟨d1, d2⟩ := hd
          go_wp2_with fail
          go_roundw
          case rel => exact ⟨k + 1, (10 * cur + (b.toNat - 48)) % 100, dg + 1, aft, P, by omega, by go_num, congrArg (Value.int .i64) (by omega), by go_num, rfl, hn, h4, h5, hB⟩
          case measure => simp [intOf]; omega
        · have haft : Hid (((b.toNat : Int) == 45) = (b == 45)) := Lib.hid (b45 b)
          by_cases hd1 : 48 ≤ b.toNat
          · have hd2 : 57 < b.toNat := by omega
            by_cases hg : 0 < dg
            · have hn := hat.other1 hg hbl hd
              skip
              go_wp2_with (first
            | (at_builtin; refine wpList_append_own _ rfl _ _ 31 rfl w.heap.size 3 i0 _ 1 8 Tryd.underlying31 hi hz0 hz1 hz2 rfl (by decide) _ _ _ rfl (h4.alloc _) ⟨wr.heap.size, 0, none⟩ 1 1 [.int .i64 (cur : Nat)] rfl rfl (cell_one_new _ _ _) (by simp [Value.oneCell']) (by unfold maxLen; omega) (by omega) (by have := hB.size; simp; omega) ?_; intro v1 w1 o1 g1 _; have B1 := grown_below hB h4 g1; have p5 := own_other (h5.alloc _) (h4.alloc _) (by decide) g1)
            | (at_builtin; refine wpList_append_own _ rfl _ _ 65 rfl w.heap.size 4 j0 _ 1 1 Tryd.underlying65 hj hy0 hy1 hy2 rfl (by decide) _ _ _ rfl (p5.alloc _) ⟨w1.heap.size, 0, none⟩ 1 1 [.bool aft] rfl rfl (cell_one_new _ _ _) (by simp [Value.oneCell']) (by unfold maxLen; omega) (by omega) (by have := B1.size; simp; omega) ?_; intro v2 w2 o2 g2 _; have B2 := grown_below B1 p5 g2; have q4 := own_other (o1.alloc _) (p5.alloc _) (by decide) g2))
              go_roundw
              case rel => exact ⟨k + 1, 0, 0, (b == 45), P ++ [(cur, aft)], by omega, by go_num, rfl, rfl, haft.out ▸ rfl, hn, by rw [numV_snoc, List.length_append]; exact q4, by rw [runV_snoc, List.length_append]; exact o2, B2⟩
              case measure => simp [intOf]; omega
            · obtain rfl : dg = 0 := by omega
              have hn := hat.other0 hbl hd
              skip
              go_wp2_with fail
              go_roundw
              case rel => exact ⟨k + 1, 0, 0, (b == 45), P, by omega, by go_num, rfl, rfl, haft.out ▸ rfl, hn, h4, h5, hB⟩
              case measure => simp [intOf]; omega
          · by_cases hg : 0 < dg
            · have hn := hat.other1 hg hbl hd
              skip
              go_wp2_with (first
            | (at_builtin; refine wpList_append_own _ rfl _ _ 31 rfl w.heap.size 3 i0 _ 1 8 Tryd.underlying31 hi hz0 hz1 hz2 rfl (by decide) _ _ _ rfl (h4.alloc _) ⟨wr.heap.size, 0, none⟩ 1 1 [.int .i64 (cur : Nat)] rfl rfl (cell_one_new _ _ _) (by simp [Value.oneCell']) (by unfold maxLen; omega) (by omega) (by have := hB.size; simp; omega) ?_; intro v1 w1 o1 g1 _; have B1 := grown_below hB h4 g1; have p5 := own_other (h5.alloc _) (h4.alloc _) (by decide) g1)
            | (at_builtin; refine wpList_append_own _ rfl _ _ 65 rfl w.heap.size 4 j0 _ 1 1 Tryd.underlying65 hj hy0 hy1 hy2 rfl (by decide) _ _ _ rfl (p5.alloc _) ⟨w1.heap.size, 0, none⟩ 1 1 [.bool aft] rfl rfl (cell_one_new _ _ _) (by simp [Value.oneCell']) (by unfold maxLen; omega) (by omega) (by have := B1.size; simp; omega) ?_; intro v2 w2 o2 g2 _; have B2 := grown_below B1 p5 g2; have q4 := own_other (o1.alloc _) (p5.alloc _) (by decide) g2))
              go_roundw
              case rel => exact ⟨k + 1, 0, 0, (b == 45), P ++ [(cur, aft)], by omega, by go_num, rfl, rfl, haft.out ▸ rfl, hn, by rw [numV_snoc, List.length_append]; exact q4, by rw [runV_snoc, List.length_append]; exact o2, B2⟩
              case measure => simp [intOf]; omega
            · obtain rfl : dg = 0 := by omega
              have hn := hat.other0 hbl hd
              skip
              go_wp2_with fail
              go_roundw
              case rel => exact ⟨k + 1, 0, 0, (b == 45), P, by omega, by go_num, rfl, rfl, haft.out ▸ rfl, hn, h4, h5, hB⟩
              case measure => simp [intOf]; omega
      · obtain rfl : k = s.size := by omega
        have hat' : At s.data.toList s.data.toList.length cur dg aft P := hat
        by_cases hg : 0 < dg
        · have hn := hat'.end1 hg
          go_wp2_with (first
            | (at_builtin; refine wpList_append_own _ rfl _ _ 31 rfl w.heap.size 3 i0 _ 1 8 Tryd.underlying31 hi hz0 hz1 hz2 rfl (by decide) _ _ _ rfl (h4.alloc _) ⟨wr.heap.size, 0, none⟩ 1 1 [.int .i64 (cur : Nat)] rfl rfl (cell_one_new _ _ _) (by simp [Value.oneCell']) (by unfold maxLen; omega) (by omega) (by have := hB.size; simp; omega) ?_; intro v1 w1 o1 g1 _; have B1 := grown_below hB h4 g1; have p5 := own_other (h5.alloc _) (h4.alloc _) (by decide) g1)
            | (at_builtin; refine wpList_append_own _ rfl _ _ 65 rfl w.heap.size 4 j0 _ 1 1 Tryd.underlying65 hj hy0 hy1 hy2 rfl (by decide) _ _ _ rfl (p5.alloc _) ⟨w1.heap.size, 0, none⟩ 1 1 [.bool aft] rfl rfl (cell_one_new _ _ _) (by simp [Value.oneCell']) (by unfold maxLen; omega) (by omega) (by have := B1.size; simp; omega) ?_; intro v2 w2 o2 g2 _; have B2 := grown_below B1 p5 g2; have q4 := own_other (o1.alloc _) (p5.alloc _) (by decide) g2))
          go_roundw
          case rel => exact ⟨s.size + 1, 0, 0, false, P ++ [(cur, aft)], by omega, by go_num, rfl, rfl, rfl, hn, by rw [numV_snoc, List.length_append]; exact q4, by rw [runV_snoc, List.length_append]; exact o2, B2⟩
          case measure => simp [intOf]; omega
        · obtain rfl : dg = 0 := by omega
          have hn := hat'.end0
          go_wp2_with fail
          go_roundw
          case rel => exact ⟨s.size + 1, 0, 0, false, P, by omega, by go_num, rfl, rfl, rfl, hn, h4, h5, hB⟩
          case measure => simp [intOf]; omega
    · obtain rfl : k = s.size + 1 := by omega
      have hP := hat.done (by rw [hlen])
      go_wp2_with fail
      go_ret2
      rw [← hP]
      obtain ⟨A4, c4, rfl⟩ := own_form h4
      obtain ⟨A5, c5, rfl⟩ := own_form h5
      exact ⟨A4, c4, A5, c5, rfl, h4, h5, hB⟩
end Go.Proofs.YtkpjpjjpjpimiaaDoor.Chm
