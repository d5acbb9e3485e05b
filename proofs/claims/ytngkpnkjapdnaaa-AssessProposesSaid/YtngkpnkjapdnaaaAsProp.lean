/- The map that is proposed, by the layer and by the document: contracts over the program. -/
import Derived.Test.YtngkpnkjapdnaaaAsRWorst
import Derived.Laws.BitsAllLaws
set_option linter.unusedVariables false
set_option linter.unusedSimpArgs false
namespace Go.Proofs.Ytngkpnkjapdnaaa.As
open Go.RowKit Mem Chm Base

/-- How many channels are to remain. -/
def leN (least : Int) : Nat := (max 2 (min least 37)).toNat
theorem leN_bd (least : Int) : 2 ≤ leN least ∧ leN least ≤ 37 := by unfold leN; omega
def proZ (fs : List (Int × Int)) (m : Nat) (least : Int) : Nat := pro fs (leN least) 37 (m % 137438953472)
theorem clr_code {x c : Nat} (hx : x < 137438953472) (hc : c < 37) : bits BinOp.andNot IntKind.u64 (x : Int) ((2 : Int) ^ c) = ((clr x c : Nat) : Int) := by
  have h1 := pow_le c (by omega)
  rw [show ((2 : Int) ^ c) = ((2 ^ c : Nat) : Int) by push_cast; rfl]
  exact u64_andNot_nat x (2 ^ c) (by omega) (by omega)
theorem worst_mem {fs : List (Int × Int)} {x c : Nat} (h : wst fs (chans x) = some c) : hasN x c = true := by
  have := worst_of fs (chans x)
  rw [h] at this
  exact mem_chans.1 this.1
theorem worst_to {fs : List (Int × Int)} {n x : Nat} {v : Int} {c : Nat} {A : Option Addr} (hl : fs.length = n) (hn : n ≤ 8796093022208) (hx : x ≤ 18446744073709551615) (hv : oz (wst fs (chans x)) = v) (w : World) (hr : PairsAt w w.heap.size A fs) :
    Calls Try.prog 32 #[.slice A n c, .int .u64 x] w fun e w' => e = .returned (.int .i64 v) ∧ Below w.heap.size w w' := by
  rw [← hv]; exact worst_any A n c fs x w hl hr hn hx
theorem cnt_to {x L : Nat} (hx : x ≤ 18446744073709551615) (h : (chans x).length = L) (w : World) :
    Calls Try.prog 31 #[.int .u64 x] w fun e w' => e = .returned (.int .i64 (L : Nat)) ∧ w = w' := by
  rw [← h]; exact count_any x w hx
set_option maxHeartbeats 1000000 in
theorem propose_any (A : Option Addr) (n c : Nat) (fs : List (Int × Int)) (m : Nat) (least : Int) (w : World) (hl : fs.length = n) (hr : PairsAt w w.heap.size A fs) (hn : n ≤ 8796093022208) (hm : m ≤ 18446744073709551615) :
    Calls Try.prog 22 #[.slice A n c, .int .u64 m, .int .i64 least] w fun e w' => e = .returned (.int .u64 (proZ fs m least : Nat)) ∧ Below w.heap.size w w' := by
  have HLen := Lib.hid hl
  have e0 := land64 m 137438953471 hm (by decide)
  rw [show m &&& 137438953471 = m % 137438953472 from Nat.and_two_pow_sub_one_eq_mod m 37] at e0
  have e1 : bits BinOp.and IntKind.u64 (m : Int) 137438953471 = ((m % 137438953472 : Nat) : Int) := e0
  have hM : m % 137438953472 < 137438953472 := Nat.mod_lt _ (by decide)
  have hbd := leN_bd least
  have e2 : max 2 (min least 37) = ((leN least : Nat) : Int) := by unfold leN; omega
  have HP : Hid (pro fs (leN least) 37 (m % 137438953472) = proZ fs m least) := Lib.hid rfl
  have H37 := Lib.hid (chans_le (m % 137438953472))
  generalize proZ fs m least = P at *
  generalize m % 137438953472 = M at *
  generalize leN least = N at *
  clear e0 hl
  go_enter Try.func22, Try.ntmps22
  go_wp2_with fail
  go_loopw [1, 7] (fun s1 s7 wr => ∃ q x : Nat, s1 = .int .u64 (x : Nat) ∧ x < 137438953472 ∧ (chans x).length ≤ q ∧ pro fs N q x = P ∧ Below w.heap.size w wr) (fun s1 _ _ => (chans (intOf s1).toNat).length)
  case atStart => exact ⟨37, M, rfl, hM, H37.out, HP.out, Below.refl _ _⟩
  case round =>
    obtain ⟨q, x, rfl, hx, hq, hp, hB⟩ := hrel
    have HK := Lib.hid fun w L h => cnt_to (x := x) (L := L) (by omega) h w
    obtain ⟨L, hL⟩ : ∃ L, (chans x).length = L := ⟨_, rfl⟩
    have HC := Lib.hid fun w => HK.out w L hL
    have HL := Lib.hid hL
    have P1 := hr.later hB
    clear HK
    by_cases h0 : N < L
    · cases hw : wst fs (chans x) with
      | none =>
        have HE : Hid (P = x) := Lib.hid (by rw [← hp, pro_none q hw])
        have HW := Lib.hid (worst_to (A := A) (c := c) HLen.out hn (show x ≤ 18446744073709551615 by omega) (show oz (wst fs (chans x)) = -1 by rw [hw]; rfl))
        clear hw hp hq hL
        go_wp2_with (first
          | (go_at_call 31; refine (HC.out _).mono ?_; rintro e w' ⟨rfl, rfl⟩)
          | (go_at_call 32; refine (HW.out _ P1).mono ?_; rintro e w2 ⟨rfl, b2⟩; have B2 := thenB hB b2))
        go_ret
        exact ⟨Ser.ret_int (by rw [HE.out]), B2⟩
      | some d =>
        have hd := worst_mem hw
        have hd37 := hasN_lt hd
        have hcc := clr_count hd
        obtain ⟨q', rfl⟩ : ∃ q', q = q' + 1 := ⟨q - 1, by omega⟩
        have HP2 : Hid (pro fs N q' (clr x d) = P) := Lib.hid (by rw [← hp, pro_some (by omega) hw])
        have HQ : Hid ((chans (clr x d)).length ≤ q' ∧ (chans (clr x d)).length < L) := Lib.hid (by omega)
        have HW := Lib.hid (worst_to (A := A) (c := c) HLen.out hn (show x ≤ 18446744073709551615 by omega) (show oz (wst fs (chans x)) = (d : Int) by rw [hw]; rfl))
        have e3 : IntKind.u64.wrap ((2 : Int) ^ d) = (2 : Int) ^ d := by
          have h1 := pow_le d (by omega)
          rw [show ((2 : Int) ^ d) = ((2 ^ d : Nat) : Int) by push_cast; rfl]; exact u64_nat _ (by omega)
        have e4 := clr_code hx hd37
        have hx2 := clr_le x d
        have g8 : ((d : Int) == -1) = false := beq_false_of_ne (by omega)
        clear hw hp hq hcc hd hL
        obtain ⟨Y, hY⟩ : ∃ Y, clr x d = Y := ⟨_, rfl⟩
        rw [hY] at HP2 HQ e4 hx2
        clear hY
        go_wp2_with (first
          | (go_at_call 31; refine (HC.out _).mono ?_; rintro e w' ⟨rfl, rfl⟩)
          | (go_at_call 32; refine (HW.out _ P1).mono ?_; rintro e w2 ⟨rfl, b2⟩; have B2 := thenB hB b2))
        go_roundw
        case rel => exact ⟨q', Y, rfl, by omega, HQ.out.1, HP2.out, B2⟩
        case measure => have := HQ.out.2; have := HL.out; simp [intOf]; omega
    · have HE : Hid (P = x) := Lib.hid (by rw [← hp, pro_done q (by omega)])
      clear hp hq hL
      go_wp2_with (go_at_call 31; refine (HC.out _).mono ?_; rintro e w' ⟨rfl, rfl⟩)
      go_ret
      exact ⟨Ser.ret_int (by rw [HE.out]), hB⟩
end Go.Proofs.Ytngkpnkjapdnaaa.As
