/- The map that the document proposes: contracts over the program. -/
import Derived.Test.YtngkpnkjapdnaaaAsProp
set_option linter.unusedVariables false
set_option linter.unusedSimpArgs false
namespace Go.Proofs.Ytngkpnkjapdnaaa.As
open Go.RowKit Mem Chm Base

theorem rofl_any (A : Option Addr) (n c : Nat) (l : List Nat) (w : World) (hl : l.length = n) (hn : n ≤ 1000) (h37 : ∀ x ∈ l, x < 37) (hb : ofL l < 137438953472) (hi : Ints .i64 w w.heap.size A (zs l)) :
    Calls Try.prog 35 #[.slice A n c] w fun e w' => e = .returned (.int .u64 (ofL l : Nat)) ∧ w = w' := by
  have HL : Hid (∀ k, k < n → ∃ x, l[k]? = some x ∧ x < 37 ∧ (zs l).getD k 0 = (x : Int) ∧ ofL (l.take (k + 1)) = ofL (l.take k) + 2 ^ x ∧ ofL (l.take (k + 1)) ≤ ofL l) := Lib.hid fun k hk => by
    have hk' : k < l.length := by omega
    refine ⟨l[k], List.getElem?_eq_getElem hk', h37 _ (List.getElem_mem hk'), ?_, ?_, ofL_take_le l (k + 1)⟩
    · unfold zs
      rw [List.getD_eq_getElem?_getD, List.getElem?_map, List.getElem?_eq_getElem hk']; rfl
    · rw [List.take_succ_eq_append_getElem hk', ofL_append]; simp [ofL]
  have HE : Hid (ofL (l.take n) = ofL l) := Lib.hid (by rw [← hl, List.take_length])
  have H0 : Hid (ofL (l.take 0) = 0) := Lib.hid rfl
  have hz : (zs l).length = n := by rw [zs_len, hl]
  generalize zs l = Z at *
  go_enter Try.func35, Try.ntmps35
  go_wp2_with fail
  go_loop [3, 4] (fun a i => ∃ k : Nat, k ≤ n ∧ i = .int .i64 (k : Nat) ∧ a = .int .u64 (ofL (l.take k) : Nat)) (fun _ i => n - (intOf i).toNat)
  case atStart => exact ⟨0, by omega, rfl, by rw [H0.out]; rfl⟩
  case round =>
    obtain ⟨k, hk, rfl, rfl⟩ := hrel
    by_cases c1 : k < n
    · obtain ⟨x, _, hx, hzx, hs, hle⟩ := HL.out k c1
      obtain ⟨g, o, rfl, hg, hcell⟩ := hi.at_ (i := k) (by omega)
      have hc := hcell k (by omega)
      rw [hzx] at hc
      have HP := Lib.hid fun w => rpow_any x w (by omega)
      obtain ⟨S, hS⟩ : ∃ S, ofL (l.take (k + 1)) = S := ⟨_, rfl⟩
      have HS := Lib.hid hS
      rw [hS] at hs hle
      clear hS hcell hzx HL
      generalize ofL (l.take k) = T at *
      generalize 2 ^ x = Q at *
      have g1 : (0 : Int) ≤ (k : Int) := by omega
      have g2 : (k : Int) < (n : Int) := by omega
      go_wp2_with (go_at_call 36; refine (HP.out _).mono ?_; rintro e w' ⟨rfl, rfl⟩)
      go_round
      case rel => exact ⟨k + 1, by omega, by go_num, by rw [HS.out, hs]; go_num⟩
      case measure => simp [intOf]; omega
    · obtain rfl : k = n := by omega
      go_wp2_with fail
      go_ret
      exact ⟨Ser.ret_int (by rw [HE.out]), rfl⟩
/-- The length of a slice. -/
def lenOf : Value → Nat
  | .slice _ n _ => n
  | _ => 0
theorem zs_take (l : List Nat) (i : Nat) : zs (l.take i) = (zs l).take i := by simp [zs]
theorem zs_drop (l : List Nat) (i : Nat) : zs (l.drop i) = (zs l).drop i := by simp [zs]
theorem zs_erase (l : List Nat) (i : Nat) : zs (l.eraseIdx i) = (zs l).take i ++ (zs l).drop (i + 1) := by
  rw [List.eraseIdx_eq_take_drop_succ, ← zs_take, ← zs_drop]; simp [zs]
set_option maxRecDepth 100000 in
set_option maxHeartbeats 4000000 in
theorem rpropose_any (A : Option Addr) (n c : Nat) (fs : List (Int × Int)) (m : Nat) (least : Int) (w : World) (hl : fs.length = n) (hr : PairsAt w w.heap.size A fs) (hn : n ≤ 8796093022208) (hm : m ≤ 18446744073709551615) :
    Calls Try.prog 23 #[.slice A n c, .int .u64 m, .int .i64 least] w fun e w' => e = .returned (.int .u64 (proZ fs m least : Nat)) ∧ Below w.heap.size w w' := by
  obtain ⟨i0, hi, hz0, hz1, hz2⟩ := info_parts info_int
  have HLen := Lib.hid hl
  have hM : m % 137438953472 < 137438953472 := Nat.mod_lt _ (by decide)
  have hbd := leN_bd least
  have e2 : max 2 (min least 37) = ((leN least : Nat) : Int) := by unfold leN; omega
  have HP : Hid (pro fs (leN least) 37 (m % 137438953472) = proZ fs m least) := Lib.hid rfl
  have HLs : Hid (∀ w, Calls Try.prog 33 #[.int .u64 m] w fun e w' => ∃ A c, e = .returned (.slice A (chans (m % 137438953472)).length c) ∧ (chans (m % 137438953472)).length ≤ c ∧ Ints .i64 w' w'.heap.size A (zs (chans (m % 137438953472))) ∧ Below w.heap.size w w') := Lib.hid fun w =>
    (rlist_any m w hm).mono fun e w' h => by
      obtain ⟨A, c, he, hc, hi, hb⟩ := h.read (zs_len (chans m))
      rw [chans_mod]
      exact ⟨A, c, he, hc, hi, hb⟩
  have H37 := Lib.hid (chans_le (m % 137438953472))
  generalize proZ fs m least = P at *
  generalize m % 137438953472 = M at *
  generalize leN least = N at *
  clear hl
  go_enter Try.func23, Try.ntmps23
  go_wp2_with (go_at_call 33; refine (HLs.out _).mono ?_; rintro e W ⟨A1, c1, rfl, hc1, I1, b1⟩)
  go_loopw [7, 8] (fun s7 s8 wr => ∃ q x : Nat, ∃ A2 c2, s7 = .slice A2 (chans x).length c2 ∧ (chans x).length ≤ c2 ∧ Ints .i64 wr wr.heap.size A2 (zs (chans x)) ∧ x < 137438953472 ∧ (chans x).length ≤ q ∧ q ≤ 37 ∧ pro fs N q x = P ∧ Below w.heap.size w wr) (fun s7 _ _ => lenOf s7)
  case atStart => exact ⟨37, M, A1, c1, rfl, hc1, I1, hM, H37.out, by omega, HP.out, b1⟩
  case round =>
    obtain ⟨q, x, A2, c2, rfl, hc2, I2, hx, hq, hq37, hp, hB⟩ := hrel
    obtain ⟨L, hL⟩ : ∃ L, (chans x).length = L := ⟨_, rfl⟩
    have HL := Lib.hid hL
    have P1 := hr.later hB
    have h37x : ∀ y ∈ chans x, y < 37 := fun y hy => hasN_lt (mem_chans.1 hy)
    by_cases h0 : N < L
    · have HW := Lib.hid (rworst_any A A2 n c L c2 fs (chans x) wr HLen.out hL (by omega) P1 I2 hn)
      have HO : Hid (∀ w, Ints .i64 w w.heap.size A2 (zs (chans x)) → Calls Try.prog 35 #[.slice A2 L c2] w fun e w' => e = .returned (.int .u64 (x : Nat)) ∧ w = w') := Lib.hid fun w h => by
        have := rofl_any A2 L c2 (chans x) w hL (by omega) h37x (by rw [ofL_chans hx]; exact hx) h
        rwa [ofL_chans hx] at this
      rw [hL] at hc2 ⊢
      have HF : Hid ((chans x).take L = chans x) := Lib.hid (by rw [← hL, List.take_length])
      clear h37x
      go_wp2_with fail
      refine HW.out.mono ?_
      rintro e w2 ⟨⟨v, rfl, hv⟩, b2⟩
      have B2 := thenB hB b2
      have I3 := Base.later I2 b2
      unfold Idx at hv
      rw [HF.out] at hv
      rcases hv with ⟨rfl, hw⟩ | ⟨j, d, hj, rfl, hjd, hw⟩
      · have HE : Hid (P = x) := Lib.hid (by rw [← hp, pro_none q hw])
        clear hp hq hL hw
        go_wp2_with (go_at_call 35; refine (HO.out _ I3).mono ?_; rintro e w' ⟨rfl, rfl⟩)
        go_ret
        exact ⟨Ser.ret_int (by rw [HE.out]), B2⟩
      · have hd := worst_mem hw
        have hcc := clr_count hd
        obtain ⟨q', rfl⟩ : ∃ q', q = q' + 1 := ⟨q - 1, by omega⟩
        have HP2 : Hid (pro fs N q' (clr x d) = P) := Lib.hid (by rw [← hp, pro_some (by omega) hw])
        have HQ : Hid ((chans (clr x d)).length + 1 = L ∧ q' ≤ 37 ∧ (chans (clr x d)).length ≤ q') := Lib.hid (by omega)
        have HZ : Hid (zs (chans (clr x d)) = (zs (chans x)).take j ++ (zs (chans x)).drop (j + 1)) := Lib.hid (by rw [chans_erase hjd, zs_erase])
        have hx2 := clr_le x d
        have hzl : (zs (chans x)).length = L := by rw [zs_len, hL]
        clear hp hcc hd hw hjd HW HO HF
        generalize clr x d = y at *
        generalize zs (chans x) = Z at *
        have g8 : decide ((j : Int) < 0) = false := by simp
        have g1 : (0 : Int) ≤ (j : Int) := by omega
        have g2 : (j : Int) ≤ (c2 : Int) := by omega
        have g3 : (j : Int) + 1 ≤ (L : Int) := by omega
        go_wp2_with fail
        have I4 : Ints .i64 (w2.drew.alloc (.cells #[] 3)) w2.heap.size A2 Z := Ints.alloc (w := w2.drew) I3 (Nat.le_refl _) _
        have own0 : (w2.drew.alloc (.cells #[] 3)).ownsRow w2.heap.size 3 1 (.slice (some ⟨w2.heap.size, 0, none⟩) 0 0) 0 [] := World.ownsRow_made w2.drew _ 0 (Nat.le_refl _) (by unfold maxLen; omega) rfl
        have B3 : Below w.heap.size w (w2.drew.alloc (.cells #[] 3)) := B2.drew.alloc B2.size _
        have hz3 := B2.size
        have hlen1 : (Z.take j).length = j := by simp; omega
        have hlen2 : (Z.drop (j + 1)).length = L - (j + 1) := by simp; omega
        obtain ⟨J, hJ⟩ : ∃ J, j + 1 = J := ⟨_, rfl⟩
        rw [hJ] at hlen2
        have IC := I4.cut (c := c2) (i := J) (by omega) (by omega)
        have e7 : IntKind.i64.wrap ((j : Int) + 1) = (J : Int) := by simp [IntKind.wrap, IntKind.bits, IntKind.signed]; omega
        have g4 : (0 : Int) ≤ (J : Int) := by omega
        have g5 : (J : Int) ≤ (L : Int) := by omega
        have g6 : (L : Int) ≤ (c2 : Int) := by omega
        have g7 : (J : Int) ≤ (c2 : Int) := by omega
        have HJ := Lib.hid hJ
        rw [hJ] at HZ
        clear hJ
        have IP := I4.pre (i := j)
        go_region_held3 (fun _ => True) (exact trivial) (first
          | (refine step_append_ints rfl (.tmp 23) (.tmp 26) 51 rfl .i64 w2.heap.size 3 i0 _ 8 Try.underlying51 hi hz0 hz1 hz2 rfl (.slice (some ⟨w2.heap.size, 0, none⟩) 0 0) 0 [] rfl own0 w2.heap.size A2 j c2 (Z.take j) rfl hlen1 IP (by unfold maxLen; omega) (by omega) (by simp) ?_; intro v6 w6 own6 b6 _)
          | (go_loud (refine step_append_ints rfl (.tmp 27) (.tmp 31) 51 rfl .i64 w2.heap.size 3 i0 _ 8 Try.underlying51 hi hz0 hz1 hz2 rfl _ (0 + j) _ rfl own6 w2.heap.size _ (L - J) _ (Z.drop J) rfl hlen2 (IC.below b6) (by unfold maxLen; omega) (by omega) (by have := b6.size; simp at this; omega) ?_); intro v7 w7 own7 b7 _))
        have hlenY : 0 + j + (L - J) = (chans y).length := by have := HQ.out.1; have := HJ.out; omega
        rw [hlenY, List.nil_append, ← List.map_append, ← HZ.out] at own7
        obtain ⟨A7, c7, hv7⟩ := own_form own7
        rw [hv7] at own7
        have HB7 := Lib.hid ((B2.trans ((Below.refl w.heap.size w2).alloc hz3 (.cells #[] 3)).drew).trans ((b6.mono hz3).trans (b7.mono hz3)))
        clear hlenY IC IP I4 own6 own0 hlen1 hlen2 HZ I2 I3 B3
        go_wp2_with fail
        rw [hv7]
        go_roundw
        case rel => exact ⟨q', y, A7, c7, rfl, own_cap own7, Ints.own own7, by omega, HQ.out.2.2, HQ.out.2.1, HP2.out, HB7.out⟩
        case measure => have := HQ.out.1; simp [lenOf]; omega
    · have HE : Hid (P = x) := Lib.hid (by rw [← hp, pro_done q (by omega)])
      have HO : Hid (∀ w, Ints .i64 w w.heap.size A2 (zs (chans x)) → Calls Try.prog 35 #[.slice A2 L c2] w fun e w' => e = .returned (.int .u64 (x : Nat)) ∧ w = w') := Lib.hid fun w h => by
        have := rofl_any A2 L c2 (chans x) w hL (by omega) h37x (by rw [ofL_chans hx]; exact hx) h
        rwa [ofL_chans hx] at this
      rw [hL]
      clear hp hq hL h37x
      go_wp2_with (go_at_call 35; refine (HO.out _ I2).mono ?_; rintro e w' ⟨rfl, rfl⟩)
      go_ret
      exact ⟨Ser.ret_int (by rw [HE.out]), hB⟩
end Go.Proofs.Ytngkpnkjapdnaaa.As
