/- The laws on elements and their bytes: walks over the program. -/
import Derived.Test.YtpbfnkicbejdbaaAdLaws
import Derived.Test.YtpbfnkicbejdbaaAdArgs
set_option linter.unusedVariables false
set_option linter.unusedSimpArgs false
namespace Go.Proofs.Ytpbfnkicbejdbaa.Ad
open Go.RowKit Mem Rw Oct
open Base (thenB later kept)

set_option maxRecDepth 100000 in
set_option maxHeartbeats 4000000 in
theorem law_encodes (A : Option Addr) (n c : Nat) (l : List El) (w : World) (hl : l.length = n) (hr : ElsAt w w.heap.size A l) (hb : ∀ x ∈ l, Bytes x.v) :
    Calls Try.prog 3 #[.slice A n c] w fun e w' => e = .returned (.bool true) ∧ Below w.heap.size w w' := by
  obtain ⟨q, hq⟩ : ∃ q, (encR (l.map El.e)).1.length = q := ⟨_, rfl⟩
  obtain ⟨er, her⟩ : ∃ er, (encR (l.map El.e)).2 = er := ⟨_, rfl⟩
  have HQ := Lib.hid hq
  have HE := Lib.hid her
  have HL := Lib.hid hl
  have HB := Lib.hid (encR_bytes (e_bytes hb))
  have b0 := Below.refl w.heap.size w
  clear hq her hl hb
  go_enter Try.func3, Try.ntmps3
  by_cases hn : n ≤ 100
  · have g0 : ¬ (100 < n) := by omega
    have g1 : ¬ ((100 : Int) < (n : Int)) := by omega
    go_wp2_with (first
      | (go_at_call 9; refine (lives_any _).mono ?_; rintro e w1 ⟨rfl, b1⟩; replace hr := hr.later b1; replace b0 := thenB b0 b1; clear b1)
      | (go_at_call 11; refine (own_any A n c l _ HL.out (by omega) hr).mono ?_; rintro e w2 ⟨A2, c2, l2, rfl, hc2, hl2, hm2, hr2, b2⟩; have HL2 := Lib.hid hl2; have HM2 := Lib.hid hm2; clear hl2 hm2; replace hr := hr.later b2; replace b0 := thenB b0 b2; clear b2)
      | (go_at_call 10; refine (encode_any A2 n c2 l2 _ HL2.out (by omega) hr2).mono ?_; rw [HM2.out]; intro e w3 hd; obtain ⟨V, vc, rfl, hvc, hv, b3⟩ := giv_to HQ.out HE.out hd; clear hd hr2; replace hr := hr.later b3; replace b0 := thenB b0 b3; clear b3)
      | (go_at_call 12; refine (rencode_any A n c l _ HL.out (by omega) hr).mono ?_; intro e w4 hd; obtain ⟨U, uc, rfl, huc, hu, b4⟩ := giv_to HQ.out HE.out hd; clear hd hr; replace hv := later hv b4; replace b0 := thenB b0 b4; clear b4)
      | (go_at_call 13; refine (Base.same_to (b := true) (by simp) HQ.out HQ.out HB.out HB.out hv hu).mono ?_; rintro e w9 ⟨rfl, rfl⟩; clear hv hu))
    go_ret
    exact ⟨rfl, b0⟩
  · have g0 : 100 < n := by omega
    have g1 : (100 : Int) < (n : Int) := by omega
    go_wp2_with (go_at_call 9; refine (lives_any _).mono ?_; rintro e w1 ⟨rfl, b1⟩; replace hr := hr.later b1; replace b0 := thenB b0 b1; clear b1)
    go_ret
    exact ⟨rfl, b0⟩
theorem go_encodes (A : Option Addr) (c : Nat) (l : List El) (w : World) (hr : ElsAt w w.heap.size A l) (g : ∀ x ∈ l, Rd.GoodE w x) (hc : l.length ≤ c) (hs : c * 32 ≤ 140737488351232) :
    Calls Try.prog 3 #[.slice A l.length c] w fun e w' => e = .returned (.bool true) ∧ Below w.heap.size w w' :=
  law_encodes A l.length c l w rfl hr (fun x hx => (g x hx).2.2)
end Go.Proofs.Ytpbfnkicbejdbaa.Ad
