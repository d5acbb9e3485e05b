/- The key stream: what the program's functions return: contracts over the program. Sealing and opening: what the program's functions return: contracts over the program. What each function of the specification of the block function returns: contracts over the program. The specification of tags, key streams and sealing: what its functions return: contracts over the program. A row of fields: append of a slice of fields onto a row of the call's own; what such a row reads as. Rows of bytes told by their cells, whatever mark lies behind them: what '[]byte(s)' makes, and append onto it. No program is mentioned. -/
import Derived.Test.YtcbliliinmfnjaaDoorKM10
import Derived.Test.YtcbliliinmfnjaaDoorKM9
import Derived.Test.YtcbliliinmfnjaaDoorKM4
import Derived.ArgAppend
import Derived.Laws.IdiomCopy
import Derived.Lib.ConvBytes
section
set_option linter.unusedVariables false
set_option linter.unusedSimpArgs false
namespace Go.Proofs.YtcbliliinmfnjaaDoor.Mac
open Go.RowKit Go.Shelf Mem Oct Blk Base
attribute [local go_sem] Oper.semAt_some

/-- Three blocks from g on are kept. -/
def Kp3 (g : Nat) (W W' : World) : Prop := W.heap.size ≤ W'.heap.size ∧ ∀ r, g ≤ r → r < g + 3 → W'.heap[r]? = W.heap[r]?
theorem Kp3.refl (g : Nat) (W : World) : Kp3 g W W := ⟨Nat.le_refl _, fun _ _ _ => rfl⟩
theorem Kp3.trans {g : Nat} {A B C : World} (h : Kp3 g A B) (k : Kp3 g B C) : Kp3 g A C := ⟨Nat.le_trans h.1 k.1, fun r h1 h2 => (k.2 r h1 h2).trans (h.2 r h1 h2)⟩
theorem Kp3.below {g : Nat} {A B : World} (h : Below A.heap.size A B) (hg : g + 3 ≤ A.heap.size) : Kp3 g A B := ⟨h.size, fun r h1 h2 => h.block r (by omega)⟩
theorem Kp3.put {g : Nat} {w : World} (hg : g + 3 ≤ w.heap.size) (W : World) (l : Nat) (o o' : Obj) (hl : w.heap.size ≤ l) (_ : W.heap[l]? = some o) (_ : o.isCells = false) (_ : o.isWalk = false) : Kp3 g W (W.putObj l o') :=
  ⟨(grownBy_putObj' W l o').size, fun r h1 h2 => World.putObj_heap_other (by omega)⟩
theorem Kp3.grown {g : Nat} {A B : World} {row : Option Nat} (h : A.grownBy B row) (hr : ∀ r, row = some r → r < g) (hg : g + 3 ≤ A.heap.size) : Kp3 g A B :=
  ⟨h.size, fun r h1 h2 => h.block r (by omega) (fun e => by have := hr r e.symm; omega)⟩
end Go.Proofs.YtcbliliinmfnjaaDoor.Mac

end
section
set_option linter.unusedVariables false
set_option linter.unusedSimpArgs false
namespace Go.Proofs.YtcbliliinmfnjaaDoor.Mac
open Go.RowKit Mem Oct Blk Base

theorem own_max {w : World} {base : Nat} {e : TypeId} {size n c : Nat} {A : Option Addr} {xs : List Value} (h : w.ownsRow base e size (.slice A n c) n xs) : c ≤ 9223372036854775807 := by
  rcases h.2 with ⟨hv, _⟩ | ⟨g, cap, cur, hv, _, _, _, hcm, _⟩
  · injection hv with _ _ hc; omega
  · injection hv with _ _ hc
    unfold maxLen at hcm; omega
/-- A row of bytes with its length and its capacity, read in the world that made it. -/
theorem readm {w w' : World} {e : Ending} {zs : List Int} (h : Makes w w' e zs) {n : Nat} (hn : zs.length = n) : ∃ A c, e = .returned (.slice A n c) ∧ n ≤ c ∧ c ≤ 9223372036854775807 ∧ Ints .u8 w' w'.heap.size A zs ∧ Below w.heap.size w w' := by
  obtain ⟨A, c, he, ho, hb⟩ := h.len hn
  exact ⟨A, c, he, own_cap ho, own_max ho, Ints.own ho, hb⟩
theorem mput_any (A : Option Addr) (n c : Nat) (fs : List (Int × Int)) (w : World) (hf : Fields fs) (hl : fs.length = n) (hn : n ≤ 8796093022208) (hok : fs.all okF = true) (hr : FldsAt w w.heap.size A fs) :
    Calls Tryd.prog 82 #[.slice A n c] w fun e w' => Makes w w' e (putL fs) := by
  have HR := Lib.hid (putR_good hok)
  go_enter Tryd.func82, Tryd.ntmps82
  go_wp2_with (go_at_call 105; refine (put_any A n c fs _ hf hl hn hr).mono ?_; rw [HR.out]; rintro e w1 ⟨A1, c1, rfl, hown, hb⟩)
  go_ret
  exact makes_of rfl rfl hown hb
/-- Fields that were just laid side by side. -/
theorem flds1 (w : World) (s v : Int) (t : TypeId) : FldsAt (w.alloc (.cells #[.int .i64 s, .int .u64 v] t)) (w.alloc (.cells #[.int .i64 s, .int .u64 v] t)).heap.size (some ⟨w.heap.size, 0, none⟩) [(s, v)] := by
  have F := Blk.fresh w t #[.int .i64 s, .int .u64 v]
  refine .inr ⟨w.heap.size, 0, rfl, F.lt, fun j f hj => ?_⟩
  match j, hj with
  | 0, hj => simp at hj; subst hj; exact ⟨F.cell 0, F.cell 1⟩
  | j + 1, hj => simp at hj
theorem okF8 (v : Int) (hv : 0 ≤ v ∧ v ≤ 18446744073709551615) : okF (8, v) = true := by
  unfold okF
  simp only [show (8 : Int).toNat = 8 from rfl, show Ser.p2 (8 * 8) = 18446744073709551616 by decide]
  simp; omega
end Go.Proofs.YtcbliliinmfnjaaDoor.Mac

end
section
set_option linter.unusedVariables false
set_option linter.unusedSimpArgs false
namespace Go.Proofs.YtcbliliinmfnjaaDoor.Blk
open Go.RowKit Mem Oct

theorem belowN (w : World) (n : Nat) : Below w.heap.size w (w.drewN n) := ⟨rfl, rfl, rfl, Nat.le_refl _, fun _ _ => rfl⟩
theorem turn_any (x n : Int) (w : World) (hx : 0 ≤ x ∧ x ≤ 4294967295) (hn : 1 ≤ n ∧ n ≤ 31) :
    Calls Tryd.prog 140 #[.int .u32 x, .int .i64 n] w fun e w' => e = .returned (.int .u32 (rotZ 32 x n.toNat)) ∧ Below w.heap.size w w' := by
  obtain ⟨s, rfl⟩ := Int.eq_ofNat_of_zero_le (show 0 ≤ n by omega)
  have H := Lib.hid (rot32_code x s hx)
  go_enter Tryd.func140, Tryd.ntmps140
  go_wp2_with fail
  go_quiet (fail)
  go_wp2_with fail
  go_ret
  refine ⟨Ser.ret_int ?_, belowN _ _⟩
  rw [Int.toNat_natCast, ← H.out, IntKind.wrap_u32]
theorem tm64 (i : Int) : -63 ≤ i.tmod 64 ∧ i.tmod 64 ≤ 63 := by
  have h1 := Int.tmod_lt_of_pos i (show (0 : Int) < 64 by decide)
  have h2 := Int.lt_tmod_of_pos i (show (0 : Int) < 64 by decide)
  omega
theorem tm_emod (i : Int) : i.tmod 64 % 64 = i % 64 := by
  have h1 := Int.tmod_add_mul_tdiv i 64
  generalize i.tmod 64 = m at *
  generalize i.tdiv 64 = c at *
  omega
theorem rlow_any (k i : Int) (w : World) (hk : 0 ≤ k ∧ k ≤ 18446744073709551615) (hi : -9223372036854775808 ≤ i ∧ i ≤ 9223372036854775807) :
    Calls Tryd.prog 139 #[.int .u64 k, .int .i64 i] w fun e w' => e = .returned (.int .u32 (lowK k i)) ∧ Below w.heap.size w w' := by
  have h1 := tm64 i
  have h2 := tm_emod i
  obtain ⟨t, ht⟩ : ∃ t, trn i = t := ⟨_, rfl⟩
  have ht1 := trn_bd i
  have e : (i.tmod 64 + 64) * 11 % 64 = (t : Int) := by unfold trn at ht; omega
  have HL : Hid (rotZ 64 k t % 4294967296 = lowK k i) := Lib.hid (by unfold lowK; rw [ht])
  rw [ht] at ht1
  clear ht h2
  by_cases h0 : t = 0
  · subst h0
    have HR := Lib.hid (rot64_zero k hk)
    go_enter Tryd.func139, Tryd.ntmps139
    go_wp2_with fail
    go_ret
    exact ⟨Ser.ret_int (by rw [← HL.out, HR.out]), Below.refl _ _⟩
  · have H := Lib.hid (rot64_code k t hk)
    have hb := rot64_bd k t hk
    have e2 : bits BinOp.or IntKind.u64 (k * 2 ^ t % 18446744073709551616) (k / 2 ^ (64 - t)) = rotZ 64 k t := by rw [← H.out, IntKind.wrap_u64]
    have e3 := H.out
    go_enter Tryd.func139, Tryd.ntmps139
    go_wp2_with fail
    go_quiet (fail)
    go_wp2_with fail
    go_ret
    exact ⟨Ser.ret_int HL.out, belowN _ _⟩
theorem rround_any (k i h : Int) (w : World) (hk : 0 ≤ k ∧ k ≤ 18446744073709551615) (hi : -9223372036854775808 ≤ i ∧ i ≤ 9223372036854775807) (hh : 0 ≤ h ∧ h ≤ 4294967295) :
    Calls Tryd.prog 127 #[.int .u64 k, .int .i64 i, .int .u32 h] w fun e w' => e = .returned (.int .u32 (rnd k i h)) ∧ Below w.heap.size w w' := by
  have b2 := lowK_bd k i
  have b3 := sumK_bd k i h
  have b4 := rot32_bd (sumK k i h) 7 b3
  have b5 := rot32_bd (lowK k i) 16 b2
  have e3 : IntKind.u32.wrap (h + lowK k i) = sumK k i h := by rw [IntKind.wrap_u32]; rfl
  obtain ⟨T, hT⟩ : ∃ T, rotZ 32 (sumK k i h) 7 = T := ⟨_, rfl⟩
  obtain ⟨U, hU⟩ : ∃ U, rotZ 32 (lowK k i) 16 = U := ⟨_, rfl⟩
  obtain ⟨V, hV⟩ : ∃ V, T * 2654435761 % 4294967296 = V := ⟨_, rfl⟩
  have e4 : IntKind.u32.wrap (T * 2654435761) = V := by rw [IntKind.wrap_u32, hV]
  have bV : 0 ≤ V ∧ V ≤ 4294967295 := by omega
  rw [hT] at b4
  rw [hU] at b5
  have e5 := bx32_code V U bV b5
  have H : Hid (bx V U = rnd k i h) := Lib.hid (by rw [← hV, ← hU, ← hT]; rfl)
  have HL : Hid (∀ w, Calls Tryd.prog 139 #[.int .u64 k, .int .i64 i] w fun e w' => e = .returned (.int .u32 (lowK k i)) ∧ Below w.heap.size w w') := Lib.hid fun w => rlow_any k i w hk hi
  have HT : Hid (∀ w, Calls Tryd.prog 140 #[.int .u32 (sumK k i h), .int .i64 7] w fun e w' => e = .returned (.int .u32 T) ∧ Below w.heap.size w w') := Lib.hid fun w => by rw [← hT]; exact turn_any _ 7 w b3 (by decide)
  have HU : Hid (∀ w, Calls Tryd.prog 140 #[.int .u32 (lowK k i), .int .i64 16] w fun e w' => e = .returned (.int .u32 U) ∧ Below w.heap.size w w') := Lib.hid fun w => by rw [← hU]; exact turn_any _ 16 w b2 (by decide)
  clear hT hU hV
  generalize lowK k i = L at *
  generalize sumK k i h = S at *
  go_enter Tryd.func127, Tryd.ntmps127
  go_wp2_with (first
    | (go_at_call 139; refine (HL.out _).mono ?_; clear HL; rintro e w1 ⟨rfl, hb1⟩)
    | (go_at_call 140; refine (HT.out _).mono ?_; clear HT; rintro e w2 ⟨rfl, hb2⟩)
    | (go_at_call 140; refine (HU.out _).mono ?_; clear HU; rintro e w3 ⟨rfl, hb3⟩))
  go_ret
  exact ⟨Ser.ret_int H.out, (hb1.trans (hb2.mono hb1.size)).trans (hb3.mono (Nat.le_trans hb1.size hb2.size))⟩
theorem rmix_any (k x : Int) (w : World) (hk : 0 ≤ k ∧ k ≤ 18446744073709551615) (hx : 0 ≤ x ∧ x ≤ 18446744073709551615) :
    Calls Tryd.prog 106 #[.int .u64 k, .int .u64 x] w fun e w' => e = .returned (.int .u64 (mixZ k x)) ∧ Below w.heap.size w w' := by
  have hf : ∀ n : Nat, Half (fws k n (hlv x)) := fun n => fws_half k n (half_hlv x hx)
  have hs : ∀ n : Nat, fws k (n + 1) (hlv x) = fw k n (fws k n (hlv x)) := fun n => rfl
  have hz : fws k 0 (hlv x) = (hiH x, loH x) := rfl
  have hm : whl (fws k 8 (hlv x)) = mixZ k x := rfl
  have hiB := hiH_bd x hx
  have loB := loH_bd x
  have e1 : IntKind.u32.wrap (x / 4294967296) = hiH x := wrap32_in _ hiB
  have e2 : IntKind.u32.wrap (x % 4294967296) = loH x := wrap32_in _ loB
  have HH : Hid (x / 4294967296 = hiH x) := Lib.hid rfl
  have HO : Hid (x % 4294967296 = loH x) := Lib.hid rfl
  generalize fws k = F at *
  have HF := Lib.hid hf
  have HS := Lib.hid hs
  have HZ := Lib.hid hz
  have HM := Lib.hid hm
  clear hf hs hz hm
  go_enter Tryd.func106, Tryd.ntmps106
  go_wp2_with fail
  go_loopw [5, 6, 7] (fun l r i wr => ∃ n : Nat, ∃ a b : Int, n ≤ 8 ∧ i = .int .i64 n ∧ l = .int .u32 a ∧ r = .int .u32 b ∧ F n (hlv x) = (a, b) ∧ Below w.heap.size w wr) (fun _ _ i _ => 8 - (intOf i).toNat)
  case atStart => exact ⟨0, _, _, by omega, rfl, by first | rfl | rw [HH.out], by first | rfl | rw [HO.out], HZ.out, Below.refl _ _⟩
  case round =>
    obtain ⟨n, a, b, hn, rfl, rfl, rfl, hab, hbel⟩ := hrel
    have hh := HF.out n
    rw [hab] at hh
    obtain ⟨ha, hb⟩ := hh
    simp only at ha hb
    by_cases hlt : n < 8
    · have HN : Hid (F (n + 1) (hlv x) = (b, bx a (rnd k n b))) := Lib.hid (by rw [HS.out, hab]; rfl)
      have br := rnd_bd k n b
      have ex := bx32_code a (rnd k n b) ha br
      clear hab
      go_wp2_with (go_at_call 127; refine (rround_any _ _ _ _ (by omega) (by omega) (by omega)).mono ?_; rintro e w2 ⟨rfl, hb2⟩)
      go_roundw
      case rel => exact ⟨n + 1, _, _, by omega, by go_num, rfl, rfl, HN.out, hbel.trans (hb2.mono hbel.size)⟩
      case measure => simp [intOf]; omega
    · obtain rfl : n = 8 := by omega
      have HW : Hid (whl (a, b) = mixZ k x) := Lib.hid (by rw [← hab]; exact HM.out)
      clear hab
      go_wp2_with fail
      go_ret
      exact ⟨Ser.ret_int (by rw [← HW.out]; rfl), hbel⟩
end Go.Proofs.YtcbliliinmfnjaaDoor.Blk

end
section
set_option linter.unusedVariables false
set_option linter.unusedSimpArgs false
namespace Go.Proofs.YtcbliliinmfnjaaDoor.Mac
open Go.RowKit Mem Oct Blk Base

theorem rmix_to {k x v : Int} (w : World) (hk : 0 ≤ k ∧ k ≤ 18446744073709551615) (hx : 0 ≤ x ∧ x ≤ 18446744073709551615) (hv : mixZ k x = v) :
    Calls Tryd.prog 106 #[.int .u64 k, .int .u64 x] w fun e w' => e = .returned (.int .u64 v) ∧ Below w.heap.size w w' := by
  rw [← hv]; exact rmix_any k x w hk hx
theorem value_to {A : Option Addr} {n c : Nat} {v : Int} (xs : List Int) (w : World) (hx : xs.length = n) (bxs : Bytes xs) (hr : Ints .u8 w w.heap.size A xs) (hn : n ≤ 8) (hv : valL xs = v) :
    Calls Tryd.prog 107 #[.slice A n c] w fun e w' => e = .returned (.int .u64 v) ∧ w = w' := by
  rw [← hv]; exact value_any A n c xs w hx bxs hr hn
theorem rtag_any (k : Int) (A : Option Addr) (n c : Nat) (xs : List Int) (w : World) (hk : 0 ≤ k ∧ k ≤ 18446744073709551615) (hx : xs.length = n) (bxs : Bytes xs) (hnc : n ≤ c) (hc : c ≤ 9223372036854775807) (hn : n ≤ 140737488351232) (hI : Ints .u8 w w.heap.size A xs) :
    Calls Tryd.prog 84 #[.int .u64 k, .slice A n c] w fun e w' => e = .returned (.int .u64 (tagZ k xs)) ∧ Below w.heap.size w w' := by
  have HZ : Hid (mixZ k n = tagA k xs 0) := Lib.hid (by rw [← hx]; rfl)
  have HT : Hid (tagA k xs (ngr n) = tagZ k xs) := Lib.hid (by rw [← hx]; rfl)
  have hb := fun j => tagA_bd k bxs (by omega) j
  have HS : Hid (∀ j, mixZ k (bx (tagA k xs j) (grp xs j)) = tagA k xs (j + 1)) := Lib.hid fun j => rfl
  have hg := grp_bd bxs
  have HX := Lib.hid hx
  clear hx
  go_enter Tryd.func84, Tryd.ntmps84
  go_wp2_with (go_at_call 106; refine (rmix_to _ hk (by omega) HZ.out).mono ?_; clear HZ; rintro e w1 ⟨rfl, hb1⟩)
  go_loopw [5, 6] (fun x i wr => ∃ j : Nat, j ≤ ngr n ∧ i = .int .i64 (8 * j : Nat) ∧ x = .int .u64 (tagA k xs j) ∧ Below w.heap.size w wr) (fun _ i _ => n + 8 - (intOf i).toNat)
  case atStart => exact ⟨0, by omega, rfl, rfl, hb1⟩
  case round =>
    obtain ⟨j, hj, rfl, rfl, hbel⟩ := hrel
    by_cases c1 : 8 * j < n
    · obtain ⟨s, hs⟩ : ∃ s : Nat, min (8 * j + 8) n = s := ⟨_, rfl⟩
      have hmin : min ((8 * j : Nat) + 8 : Int) (n : Int) = (s : Int) := by omega
      have hmin2 : min (8 * (j : Int) + 8) (n : Int) = (s : Int) := by omega
      have hs1 : 8 * j < s := by omega
      have hs8 : s ≤ 8 * j + 8 := by omega
      have hsn : s ≤ n := by omega
      have hjn : j + 1 ≤ ngr n := by unfold ngr; omega
      have HD : Hid ((xs.drop (8 * j)).length = n - 8 * j) := Lib.hid (by rw [List.length_drop, HX.out])
      have HL : Hid (((xs.drop (8 * j)).take (s - 8 * j)).length = s - 8 * j) := Lib.hid (by rw [List.length_take, HD.out]; omega)
      have HV : Hid (valL ((xs.drop (8 * j)).take (s - 8 * j)) = grp xs j) := Lib.hid (by
        unfold grp
        by_cases h8 : s = 8 * j + 8
        · rw [show s - 8 * j = 8 by omega]
        · rw [List.take_of_length_le (by rw [HD.out]; omega), List.take_of_length_le (i := 8) (by rw [HD.out]; omega)])
      have hcut := ((later hI hbel).cut (c := c) (i := 8 * j) (by rw [HX.out]; omega) (by rw [HX.out]; omega)).pre (i := s - 8 * j)
      have hne : ¬ c = 8 * j := by omega
      rw [if_neg hne] at hcut
      have bt : Bytes ((xs.drop (8 * j)).take (s - 8 * j)) := bytes_take (bytes_drop bxs _) _
      have b1 := hb j
      have b2 := hg j
      have e1 := bx64_code _ _ b1 b2
      have b3 := bx64 _ _ b1 b2
      have HS1 := Lib.hid (HS.out j)
      clear hs
      generalize tagA k xs j = T at *
      generalize hT' : tagA k xs (j + 1) = T' at *
      have HT' := Lib.hid hT'
      clear hT'
      generalize (xs.drop (8 * j)).take (s - 8 * j) = Y at *
      generalize grp xs j = G at *
      generalize bx T G = M at *
      have g1 : (8 : Int) * (j : Int) < (n : Int) := by omega
      have g2 : (8 : Int) * (j : Int) ≤ (s : Int) := by omega
      have g3 : (s : Int) ≤ (c : Int) := by omega
      have g4 : (s : Int) ≤ (n : Int) := by omega
      go_wp2_with (first
        | (go_at_call 107; refine (value_to Y _ (by first | exact HL.out | (have := HL.out; omega)) bt hcut (by omega) HV.out).mono ?_; rintro e w' ⟨rfl, rfl⟩)
        | (go_at_call 106; refine (rmix_to _ hk b3 HS1.out).mono ?_; rintro e w2 ⟨rfl, hb2⟩))
      go_roundw
      case rel => exact ⟨j + 1, hjn, by go_num, by rw [HT'.out], hbel.trans (hb2.mono hbel.size)⟩
      case measure => simp [intOf]; omega
    · have hjn : j = ngr n := by unfold ngr at *; omega
      subst hjn
      have g1 : decide ((8 : Int) * (ngr n : Int) < (n : Int)) = false := by simp; omega
      go_wp2_with fail
      go_ret
      exact ⟨Ser.ret_int HT.out, hbel⟩
end Go.Proofs.YtcbliliinmfnjaaDoor.Mac

end
section
set_option linter.unusedVariables false
set_option linter.unusedSimpArgs false
namespace Go.Proofs.YtcbliliinmfnjaaDoor.Oct
open Go.RowKit Mem

/-- The cells of fields. -/
def flat : List (Int × Int) → List Value
  | [] => []
  | f :: r => .int .i64 f.1 :: .int .u64 f.2 :: flat r
theorem flat_len (fs : List (Int × Int)) : (flat fs).length = fs.length * 2 := by
  induction fs with
  | nil => rfl
  | cons f r ih => simp [flat, ih]; omega
theorem flat_one (fs : List (Int × Int)) : ∀ u ∈ flat fs, u.oneCell' = true := by
  induction fs with
  | nil => intro u hu; cases hu
  | cons f r ih =>
    intro u hu
    simp only [flat, List.mem_cons] at hu
    rcases hu with rfl | rfl | hu
    · rfl
    · rfl
    · exact ih u hu
theorem flat_get (fs : List (Int × Int)) (j : Nat) (f : Int × Int) (h : fs[j]? = some f) : (flat fs)[j * 2]? = some (.int .i64 f.1) ∧ (flat fs)[j * 2 + 1]? = some (.int .u64 f.2) := by
  induction fs generalizing j with
  | nil => simp at h
  | cons g r ih =>
    cases j with
    | zero => simp at h; subst h; exact ⟨rfl, rfl⟩
    | succ j =>
      have := ih j (by simpa using h)
      rw [show (j + 1) * 2 = j * 2 + 1 + 1 by omega]
      simp only [flat, List.getElem?_cons_succ]
      exact this
theorem flat_at {w : World} {b off : Nat} {fs : List (Int × Int)} (hc : ∀ j f, fs[j]? = some f → w.cell? ⟨b, off + j * 2, none⟩ = some (.int .i64 f.1) ∧ w.cell? ⟨b, off + j * 2 + 1, none⟩ = some (.int .u64 f.2)) :
    ∀ j u, (flat fs)[j]? = some u → w.cell? ⟨b, off + j, none⟩ = some u := by
  intro j u hu
  have hj : j < fs.length * 2 := by
    rcases Nat.lt_or_ge j (fs.length * 2) with h | h
    · exact h
    · rw [List.getElem?_eq_none (by rw [flat_len]; exact h)] at hu; cases hu
  have hq : j / 2 < fs.length := by omega
  have hf : fs[j / 2]? = some (fs[j / 2]'hq) := List.getElem?_eq_getElem hq
  have hg := flat_get fs (j / 2) _ hf
  have hh := hc (j / 2) _ hf
  rcases Nat.mod_two_eq_zero_or_one j with h | h
  · have e : j = j / 2 * 2 := by omega
    rw [e] at hu ⊢
    rw [hg.1] at hu
    rw [← hu]; exact hh.1
  · have e : j = j / 2 * 2 + 1 := by omega
    rw [e] at hu ⊢
    rw [hg.2] at hu
    rw [← hu, ← Nat.add_assoc]; exact hh.2
/-- A row of the call's own that holds fields. -/
theorem FldsAt.own {w : World} {base n c : Nat} {e : TypeId} {A : Option Addr} {fs : List (Int × Int)} (h : w.ownsRow base e 2 (.slice A n c) n (flat fs)) : FldsAt w w.heap.size A fs ∧ fs.length = n := by
  have hl : fs.length = n := by have := h.1; rw [flat_len] at this; omega
  refine ⟨?_, hl⟩
  rcases h.2 with ⟨hv, hn⟩ | ⟨g, cap, cur, hv, hbg, hg, hnc, hcm, hcs, htake⟩
  · left; rw [hn] at hl; exact List.eq_nil_of_length_eq_zero hl
  · right
    injection hv with hA hn hc
    subst hA
    have hlt : g < w.heap.size := by
      rcases Nat.lt_or_ge g w.heap.size with hlt | hge
      · exact hlt
      · rw [Array.getElem?_eq_none hge] at hg; cases hg
    refine ⟨g, 0, rfl, hlt, fun j f hj => ?_⟩
    have hg2 := flat_get fs j f hj
    have h1 := h.cells (g := g) rfl (j * 2) _ hg2.1
    have h2 := h.cells (g := g) rfl (j * 2 + 1) _ hg2.2
    have ea : ∀ i, (⟨g, 0, none⟩ : Addr).add i = ⟨g, 0 + i, none⟩ := fun i => by
      unfold Addr.add
      by_cases h0 : i = 0
      · simp [h0]
      · simp [h0]
    rw [ea] at h1 h2
    exact ⟨h1, by rw [Nat.add_assoc]; exact h2⟩
section
variable {P : Program} {w : World}
theorem wpList_append_flds {ops : Array Oper} {rest : List Oper} {o : Oper} {a : Act} {Q : Exit → Act → World → Prop} (hgd : o.guard = none) (s x : Operand) (t : TypeId)
    (ho : o.op = .call { callee := .builtin .append, args := #[s, x], argTypes := #[t, t] })
    (base : Nat) (e : TypeId) (i : TypeInfo) (z : Value) (bytes : Nat) (ht : P.underlying t = some (.slice e)) (hi : P.info? e = some i) (hz : i.zero = some z)
    (hsize : i.size = 2) (hby : i.bytes = bytes) (hzs : z.cells.size = 2)
    (v : Value) (n : Nat) (xs : List Value) (hs : a.eval s = v) (hown : w.ownsRow base e 2 v n xs)
    (B : Nat) (A : Option Addr) (m c : Nat) (fs : List (Int × Int)) (hx : a.eval x = .slice A m c) (hm : fs.length = m) (hr : FldsAt w B A fs)
    (h63 : n + m ≤ maxLen) (hbytes : (n + m) * bytes ≤ 140737488355328) (hbase : base ≤ w.heap.size)
    (h : ∀ v' w', w'.ownsRow base e 2 v' (n + m) (xs ++ flat fs) → Below base w w' → wpList P ops Q rest (a.put o.dst v') w') : wpList P ops Q (o :: rest) a w := by
  refine wpList_plain hgd fun K hK => ?_
  have go : ∀ ad : Addr, (∀ j u, (flat fs)[j]? = some u → w.cell? (ad.add j) = some u) →
      ∃ v' w', (Builtin.append_ #[t, t] o.type #[v, .slice (some ad) m c]).run P w = .ok v' w' ∧ w'.ownsRow base e 2 v' (n + m) (xs ++ flat fs) ∧ w.grownBy w' v.ownBlock := fun ad hc => by
    obtain ⟨v', w', h2, h3, h4, _⟩ := run_append_own (P := P) w base t o.type e i z 2 bytes ht hi hz hsize hby hzs (by decide) v n xs hown ad m c (flat fs) (by rw [flat_len, hm]) hc (flat_one fs) h63 hbytes hbase
    exact ⟨v', w', h2, h3, h4⟩
  have main : ∃ v' w', (Builtin.append_ #[t, t] o.type #[v, .slice A m c]).run P w = .ok v' w' ∧ w'.ownsRow base e 2 v' (n + m) (xs ++ flat fs) ∧ w.grownBy w' v.ownBlock := by
    rcases hr with hnil | ⟨b, off, rfl, _, hc⟩
    · subst hnil
      have hm0 : m = 0 := by simpa using hm.symm
      subst hm0
      cases A with
      | none =>
        refine ⟨v, w, ?_, by simpa [flat] using hown, World.grownBy.refl w _⟩
        rcases hown.2 with ⟨rfl, rfl⟩ | ⟨g, cap, cur, rfl, _, _, hnc, _⟩
        · simp [Builtin.append_, run_underlying ht, sizeOf, typeInfo, hi, Builtin.lenOf, Builtin.firstCells]
        · simp [Builtin.append_, run_underlying ht, sizeOf, typeInfo, hi, Builtin.lenOf, Builtin.firstCells, hnc, storeCells]
      | some ad => exact go ad (by simp [flat])
    · refine go _ fun j u hu => ?_
      have ea : (⟨b, off, none⟩ : Addr).add j = ⟨b, off + j, none⟩ := by
        unfold Addr.add
        by_cases h0 : j = 0
        · simp [h0]
        · simp [h0]
      rw [ea]; exact flat_at hc j u hu
  obtain ⟨v', w', hrun, h2, h3⟩ := main
  unfold Oper.wp execOp
  simp only [ho, resolve, invoke, builtin, Sem.run_bind, Sem.run_pure, Result.andThen_ok, List.map_toArray, List.map_cons, List.map_nil, hs, hx, hrun]
  exact hK _ _ (h v' w' h2 ((Below.refl base w).grown h3 hbase fun g hg => (hown.lt g hg).1))
end
theorem info_fld : (Tryd.prog.info? 125).map (fun i => (i.zero, i.size, i.bytes)) = some (some (.agg #[.int .i64 0, .int .u64 0]), 2, 16) := by kernel_rfl
end Go.Proofs.YtcbliliinmfnjaaDoor.Oct

end
section
set_option linter.unusedVariables false
set_option linter.unusedSimpArgs false
namespace Go.Proofs.YtcbliliinmfnjaaDoor.Mem
open Go.RowKit Oct

/-- A row of the call's own that holds the bytes zs; all its cells are there and may be written. -/
def RowC (w : World) (base : Nat) (v : Value) (zs : List Int) : Prop :=
  ∃ g cap, v = .slice (some ⟨g, 0, none⟩) zs.length cap ∧ base ≤ g ∧ g < w.heap.size ∧ zs.length ≤ cap ∧ cap ≤ maxLen ∧
    (∀ j, j < zs.length → w.cell? ⟨g, j, none⟩ = some (.int .u8 (zs.getD j 0))) ∧ (∀ j, j < cap → (w.cell? ⟨g, j, none⟩).isSome = true ∧ w.frozen? ⟨g, j, none⟩ = false)
theorem RowC.below {w w' : World} {base : Nat} {v : Value} {zs : List Int} (h : RowC w base v zs) (hb : Below w.heap.size w w') : RowC w' base v zs := by
  obtain ⟨g, cap, hv, hg, hl, hn, hm, hc, hf⟩ := h
  refine ⟨g, cap, hv, hg, Nat.lt_of_lt_of_le hl hb.size, hn, hm, fun j hj => (hb.cell (p := ⟨g, j, none⟩) hl).trans (hc j hj), fun j hj => ?_⟩
  rw [hb.cell (p := ⟨g, j, none⟩) hl, hb.frozen (p := ⟨g, j, none⟩) hl]
  exact hf j hj
theorem RowC.ints {w : World} {base n c : Nat} {A : Option Addr} {zs : List Int} (h : RowC w base (.slice A n c) zs) : Ints .u8 w w.heap.size A zs ∧ zs.length = n ∧ n ≤ c ∧ c ≤ 9223372036854775807 := by
  obtain ⟨g, cap, hv, hg, hl, hn, hm, hc, hf⟩ := h
  injection hv with hA hz hcap
  subst hA hz hcap
  exact ⟨.inr ⟨g, 0, rfl, hl, fun j hj => by rw [Nat.zero_add]; exact hc j hj⟩, rfl, hn, by unfold maxLen at hm; omega⟩
theorem RowC.form {w : World} {base : Nat} {v : Value} {zs : List Int} (h : RowC w base v zs) : ∃ A c, v = .slice A zs.length c := by
  obtain ⟨g, cap, hv, _⟩ := h
  exact ⟨_, _, hv⟩
theorem RowC.own {w : World} {base base' n : Nat} {e : TypeId} {v : Value} {zs : List Int} (h : w.ownsRow base' e 1 v n (zs.map (Value.int .u8))) (hb : base ≤ base') (hn : 0 < n) : RowC w base v zs := by
  have hl := h.1
  simp at hl
  rcases h.2 with ⟨hv, h0⟩ | ⟨g, cap, cur, hv, hbg, hg, hnc, hcm, hcs, htake⟩
  · omega
  · have hlt : g < w.heap.size := by
      rcases Nat.lt_or_ge g w.heap.size with hlt | hge
      · exact hlt
      · rw [Array.getElem?_eq_none hge] at hg; cases hg
    rw [Nat.mul_one] at hcs htake
    refine ⟨g, cap, by rw [hl]; exact hv, by omega, hlt, by omega, hcm, fun j hj => ?_, fun j hj => ⟨?_, frozen_of_row w g j cur e hg⟩⟩
    · rw [cell_of_row w g j cur e (0, 0) hg]
      have : (cur.toList.take n)[j]? = some (.int .u8 (zs.getD j 0)) := by rw [htake]; simp [List.getD, List.getElem?_eq_getElem hj]
      rw [List.getElem?_take, if_pos (by omega)] at this
      simpa using this
    · rw [cell_of_row w g j cur e (0, 0) hg]
      simp; omega
theorem RowC.conv (w : World) (e : TypeId) (s : ByteArray) (hs : s.size ≤ maxLen) : RowC (Lib.bytesWorld w e s) w.heap.size (.slice (some ⟨w.heap.size, 0, none⟩) s.size (grownCap w s.size 0 e)) (chL s) := by
  have hg := Lib.bytesWorld_at_new w e s
  have hge := grownCap_ge w s.size 0 e
  have hsz : (Lib.bytesCells w e s).size = grownCap w s.size 0 e := by
    unfold Lib.bytesCells
    simp only [Array.size_append, Array.size_map, Array.size_replicate]
    show s.size + _ = _
    omega
  refine ⟨w.heap.size, grownCap w s.size 0 e, by rw [chL_len], Nat.le_refl _, by rw [Lib.bytesWorld_size]; omega, by rw [chL_len]; exact hge, grownCap_le_maxLen w _ _ _ hs, fun j hj => ?_, fun j hj => ⟨?_, ?_⟩⟩
  · rw [chL_len] at hj
    rw [Lib.bytesWorld_cell w e s j hj]
    have h' : j < s.data.toList.length := by simpa using hj
    simp only [chL, List.getD, List.getElem?_map, List.getElem?_eq_getElem h', Option.map_some, Option.getD_some]
  · simp only [World.cell?, hg]
    rw [Array.getElem?_eq_getElem (by rw [hsz]; exact hj)]; rfl
  · simp only [World.frozen?, hg]
    simp [hsz]; omega
section
variable {P : Program} {w : World}
theorem wpList_append_rowc {ops : Array Oper} {rest : List Oper} {o : Oper} {a : Act} {Q : Exit → Act → World → Prop} (hgd : o.guard = none) (s x : Operand) (t : TypeId)
    (ho : o.op = .call { callee := .builtin .append, args := #[s, x], argTypes := #[t, t] })
    (base : Nat) (e : TypeId) (i : TypeInfo) (z : Value) (ht : P.underlying t = some (.slice e)) (hi : P.info? e = some i) (hz : i.zero = some z)
    (hsize : i.size = 1) (hby : i.bytes = 1) (hzs : z.cells.size = 1)
    (v : Value) (zs : List Int) (hs : a.eval s = v) (hrow : RowC w base v zs)
    (B : Nat) (A : Option Addr) (m c : Nat) (xs : List Int) (hx : a.eval x = .slice A m c) (hm : xs.length = m) (hpos : 0 < m) (hr : Ints .u8 w B A xs)
    (hlen : zs.length + m ≤ 140737488355328) (hbase : base ≤ w.heap.size)
    (h : ∀ v' w', RowC w' base v' (zs ++ xs) → Below base w w' → wpList P ops Q rest (a.put o.dst v') w') : wpList P ops Q (o :: rest) a w := by
  obtain ⟨g, cap, rfl, hg, hl, hn, hcm, hc, hf⟩ := hrow
  obtain ⟨b, off, rfl, hb, hcell⟩ := hr.at_ (i := 0) (by omega)
  have hzl : (xs.map (Value.int .u8)).length = m := by simp [hm]
  refine wpList_append_arg w hgd s x t ho e i z 1 1 ht hi hz hsize hby hzs (by decide) g 0 zs.length cap (zs.map (Value.int .u8)) hs (by simp) ?_ ⟨b, off, none⟩ m c (xs.map (Value.int .u8)) hx (by simp [hm]) ?_ (ints_oneCell .u8 xs) ?_ (by unfold maxLen; omega) (by omega) ?_ ?_
  · intro j u hj
    have hjl : j < zs.length := by
      rcases Nat.lt_or_ge j zs.length with h | h
      · exact h
      · rw [List.getElem?_eq_none (by simpa using h)] at hj; cases hj
    rw [Nat.zero_add, hc j hjl]
    simp [List.getElem?_map, List.getElem?_eq_getElem hjl] at hj
    simp [List.getD, List.getElem?_eq_getElem hjl, hj]
  · intro j u hj
    have hjl : j < xs.length := by
      rcases Nat.lt_or_ge j xs.length with h | h
      · exact h
      · rw [List.getElem?_eq_none (by simpa using h)] at hj; cases hj
    rw [Addr.add_lit, hcell j hjl]
    simp [List.getElem?_map, List.getElem?_eq_getElem hjl] at hj
    simp [List.getD, List.getElem?_eq_getElem hjl, hj]
  · intro hroom j hj
    rw [hzl] at hj
    rw [Nat.zero_add, Nat.mul_one]
    exact hf _ (by omega)
  · intro hroom
    rw [Nat.zero_add, Nat.mul_one]
    have hin := World.cell?_setCells_in g (xs.map (Value.int .u8)) zs.length w (fun j hj => (hf _ (by rw [hzl] at hj; omega)).1)
    have hk := World.keptBut_setCells g (may := fun p => p.block = g) (xs.map (Value.int .u8)) zs.length w (fun _ _ => rfl)
    have hout : ∀ j, j < zs.length → (w.setCells g zs.length (xs.map (Value.int .u8))).cell? ⟨g, j, none⟩ = w.cell? ⟨g, j, none⟩ := fun j hj => World.cell?_setCells_out g _ _ w ⟨g, j, none⟩ (fun _ _ => .inl hj)
    have hbel : ∀ (vs : List Value) (o : Nat) (w0 w1 : World), Below base w0 w1 → Below base w0 (w1.setCells g o vs) := by
      intro vs
      induction vs with
      | nil => intro o w0 w1 h; exact h
      | cons v r ih => intro o w0 w1 h; exact ih (o + 1) w0 _ (h.setCell (p := ⟨g, o, none⟩) hg v)
    have hB := hbel (xs.map (Value.int .u8)) zs.length w w (Below.refl base w)
    refine h _ _ ⟨g, cap, by rw [List.length_append, hm], hg, Nat.lt_of_lt_of_le hl hB.size, by rw [List.length_append]; omega, hcm, fun j hj => ?_, fun j hj => ⟨?_, ?_⟩⟩ hB
    · by_cases h1 : j < zs.length
      · rw [hout j h1, hc j h1]
        simp [List.getD, List.getElem?_append_left h1]
      · rw [List.length_append] at hj
        have := hin (j - zs.length) (by rw [hzl]; omega)
        rw [show zs.length + (j - zs.length) = j by omega] at this
        rw [this]
        simp [List.getD, List.getElem?_append_right (Nat.le_of_not_lt h1), List.getElem?_eq_getElem (show j - zs.length < xs.length by omega)]
    · by_cases h1 : zs.length ≤ j ∧ j < zs.length + m
      · have := hin (j - zs.length) (by rw [hzl]; omega)
        rw [show zs.length + (j - zs.length) = j by omega] at this
        rw [this]; rfl
      · rw [World.cell?_setCells_out g _ _ w ⟨g, j, none⟩ (fun _ _ => by rw [hzl]; show j < _ ∨ _ ≤ j; omega)]
        exact (hf j hj).1
    · rw [World.frozen?_setCells]
      exact (hf j hj).2
  · intro hgrow v' w' hown hgr
    have hbel : Below base w w' := (Below.refl base w).grown hgr hbase (fun r e => by cases e)
    refine h v' w' (RowC.own (e := e) (n := zs.length + m) ?_ hbase (by omega)) hbel
    rw [List.map_append]; exact hown
end
end Go.Proofs.YtcbliliinmfnjaaDoor.Mem

end
