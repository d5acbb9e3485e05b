/- Elements are recovered from their bytes, and bytes from their elements: walks over the program. -/
import Derived.Test.YtpbfnkicbejdbaaAdLaws
import Derived.Test.YtpbfnkicbejdbaaAdArgs
set_option linter.unusedVariables false
set_option linter.unusedSimpArgs false
namespace Go.Proofs.Ytpbfnkicbejdbaa.Ad
open Go.RowKit Mem Rw Oct
open Base (thenB later kept)

/-- The second half: bytes are those of the elements that are read from them. -/
theorem dec_no {xs : List Int} {er : Int} (h : (decR xs).2 = er) (h0 : er ≠ 0) : (decR xs).1.length = 0 := by
  rw [decR_err (by rw [h]; exact h0)]; rfl
set_option maxRecDepth 100000 in
set_option maxHeartbeats 8000000 in
theorem law_back (A : Option Addr) (n c : Nat) (l : List El) (B : Option Addr) (m d : Nat) (xs : List Int) (w : World) (hl : l.length = n) (hr : ElsAt w w.heap.size A l) (hb : ∀ x ∈ l, Bytes x.v) (hx : xs.length = m) (hmd : m ≤ d) (hrx : Ints .u8 w w.heap.size B xs) (bx : Bytes xs) (hm : m ≤ 140737488351232) :
    Calls Try.prog 7 #[.slice A n c, .slice B m d] w fun e w' => e = .returned (.bool true) ∧ Below w.heap.size w w' := by
  obtain ⟨q, hq⟩ : ∃ q, (encR (l.map El.e)).1.length = q := ⟨_, rfl⟩
  obtain ⟨er, her⟩ : ∃ er, (encR (l.map El.e)).2 = er := ⟨_, rfl⟩
  obtain ⟨p, hp⟩ : ∃ p, (decR xs).1.length = p := ⟨_, rfl⟩
  obtain ⟨fr, hfr⟩ : ∃ fr, (decR xs).2 = fr := ⟨_, rfl⟩
  have HQ := Lib.hid hq
  have HE := Lib.hid her
  have HP := Lib.hid hp
  have HF := Lib.hid hfr
  have HL := Lib.hid hl
  have HX := Lib.hid hx
  have HBl := Lib.hid hb
  have HBx := Lib.hid bx
  have HB := Lib.hid (encR_bytes (e_bytes hb))
  have hp31 : p ≤ 31 := by rw [← hp]; exact decR_len xs
  have b0 := Below.refl w.heap.size w
  clear hq her hl hb hp hfr hx bx
  go_enter Try.func7, Try.ntmps7
  by_cases hn : n ≤ 100
  · have g0 : ¬ (100 < n) := by omega
    have g1 : ¬ ((100 : Int) < (n : Int)) := by omega
    by_cases h0 : er = 0
    · subst h0
      have HK : Hid (decR (encR (l.map El.e)).1 = (l.map El.e, 0) ∧ q ≤ 31) := Lib.hid (by
        have h1 : encR (l.map El.e) = ((encR (l.map El.e)).1, 0) := Prod.ext rfl HE.out
        obtain ⟨h2, h3, _, _⟩ := dec_enc h1
        exact ⟨h2, by rw [← HQ.out]; exact h3⟩)
      have hq31 : q ≤ 31 := HK.out.2
      have g2 : ¬ (31 < q) := by omega
      have g3 : ¬ ((31 : Int) < (q : Int)) := by omega
      have t1 : Hid (1 = 1) := Lib.hid rfl
      have t2 : Hid (1 = 1) := Lib.hid rfl
      by_cases h1 : fr = 0
      · subst h1
        go_wp2_with (first
          | (go_at_call 9; refine (lives_any _).mono ?_; rintro e w1 ⟨rfl, b1⟩; replace hr := hr.later b1; replace hrx := later hrx b1; replace b0 := thenB b0 b1; clear b1)
          | (go_at_call 11; refine (own_any A n c l _ HL.out (by omega) hr).mono ?_; rintro e w2 ⟨A2, c2, l2, rfl, hc2, hl2, hm2, hr2, b2⟩; have HL2 := Lib.hid hl2; have HM2 := Lib.hid hm2; clear hl2 hm2; replace hr := hr.later b2; replace hrx := later hrx b2; replace b0 := thenB b0 b2; clear b2)
          | (go_at_call 10; clear t1; refine (encode_any A2 n c2 l2 _ HL2.out (by omega) hr2).mono ?_; rw [HM2.out]; intro e w3 hd; obtain ⟨V, vc, rfl, hvc, hv, b3⟩ := giv_to HQ.out HE.out hd; clear hd hr2; replace hr := hr.later b3; replace hrx := later hrx b3; replace b0 := thenB b0 b3; clear b3)
          | (go_at_call 14; clear t2; refine (decode_any V q vc _ _ HQ.out hvc (by omega) HB.out hv).mono ?_; rw [HK.out.1]; intro e w4 hd; obtain ⟨LA, lc, k, rfl, hk1, hkm, hk, hkc, b4⟩ := dec_to (q := n) (er := 0) (by rw [List.length_map]; exact HL.out) rfl hd; clear hd hv; have HK1 := Lib.hid hk1; have HKm := Lib.hid hkm; clear hk1 hkm; replace hr := hr.later b4; replace hrx := later hrx b4; replace b0 := thenB b0 b4; clear b4)
          | (go_at_call 17; refine (els_eq LA A n lc c k l _ HK1.out HL.out (by omega) HKm.out (fun x hx => e_bytes HBl.out x.e (by rw [← HKm.out]; exact List.mem_map_of_mem hx)) hk hr).mono ?_; rintro e w5 ⟨rfl, b5⟩; clear hk hr; replace hrx := later hrx b5; replace b0 := thenB b0 b5; clear b5)
          | (go_at_call 15; refine (copied_any B m d xs _ HX.out hrx (by omega)).mono ?_; intro e w6 hm; obtain ⟨A6, c6, rfl, hc6, hi6, b6⟩ := hm.read HX.out; clear hm; replace hrx := later hrx b6; replace b0 := thenB b0 b6; clear b6)
          | (go_at_call 14; refine (decode_any A6 m c6 xs _ HX.out hc6 (by omega) HBx.out hi6).mono ?_; intro e w7 hd; obtain ⟨QA, qc, k7, rfl, h71, h7m, h7, h7c, b7⟩ := dec_to HP.out HF.out hd; clear hd hi6; have H71 := Lib.hid h71; have H7m := Lib.hid h7m; clear h71 h7m; replace hrx := later hrx b7; replace b0 := thenB b0 b7; clear b7)
          | (go_at_call 10; refine (encode_any QA p qc k7 _ H71.out (by omega) h7).mono ?_; rw [H7m.out, enc_dec HBx.out HF.out]; intro e w8 hd; obtain ⟨Z, zc, rfl, hzc, hz, b8⟩ := giv_to (q := m) (x := 0) HX.out rfl hd; clear hd h7; replace hrx := later hrx b8; replace b0 := thenB b0 b8; clear b8)
          | (go_at_call 13; refine (Base.same_to (b := true) (by simp) HX.out HX.out HBx.out HBx.out hz hrx).mono ?_; rintro e w9 ⟨rfl, rfl⟩))
        go_ret
        exact ⟨rfl, b0⟩
      · have HP0 := Lib.hid (dec_no HF.out h1)
        obtain rfl : p = 0 := by rw [← HP.out]; exact HP0.out
        go_wp2_with (first
          | (go_at_call 9; refine (lives_any _).mono ?_; rintro e w1 ⟨rfl, b1⟩; replace hr := hr.later b1; replace hrx := later hrx b1; replace b0 := thenB b0 b1; clear b1)
          | (go_at_call 11; refine (own_any A n c l _ HL.out (by omega) hr).mono ?_; rintro e w2 ⟨A2, c2, l2, rfl, hc2, hl2, hm2, hr2, b2⟩; have HL2 := Lib.hid hl2; have HM2 := Lib.hid hm2; clear hl2 hm2; replace hr := hr.later b2; replace hrx := later hrx b2; replace b0 := thenB b0 b2; clear b2)
          | (go_at_call 10; clear t1; refine (encode_any A2 n c2 l2 _ HL2.out (by omega) hr2).mono ?_; rw [HM2.out]; intro e w3 hd; obtain ⟨V, vc, rfl, hvc, hv, b3⟩ := giv_to HQ.out HE.out hd; clear hd hr2; replace hr := hr.later b3; replace hrx := later hrx b3; replace b0 := thenB b0 b3; clear b3)
          | (go_at_call 14; clear t2; refine (decode_any V q vc _ _ HQ.out hvc (by omega) HB.out hv).mono ?_; rw [HK.out.1]; intro e w4 hd; obtain ⟨LA, lc, k, rfl, hk1, hkm, hk, hkc, b4⟩ := dec_to (q := n) (er := 0) (by rw [List.length_map]; exact HL.out) rfl hd; clear hd hv; have HK1 := Lib.hid hk1; have HKm := Lib.hid hkm; clear hk1 hkm; replace hr := hr.later b4; replace hrx := later hrx b4; replace b0 := thenB b0 b4; clear b4)
          | (go_at_call 17; refine (els_eq LA A n lc c k l _ HK1.out HL.out (by omega) HKm.out (fun x hx => e_bytes HBl.out x.e (by rw [← HKm.out]; exact List.mem_map_of_mem hx)) hk hr).mono ?_; rintro e w5 ⟨rfl, b5⟩; clear hk hr; replace hrx := later hrx b5; replace b0 := thenB b0 b5; clear b5)
          | (go_at_call 15; refine (copied_any B m d xs _ HX.out hrx (by omega)).mono ?_; intro e w6 hm; obtain ⟨A6, c6, rfl, hc6, hi6, b6⟩ := hm.read HX.out; clear hm; replace hrx := later hrx b6; replace b0 := thenB b0 b6; clear b6)
          | (go_at_call 14; refine (decode_any A6 m c6 xs _ HX.out hc6 (by omega) HBx.out hi6).mono ?_; intro e w7 hd; obtain ⟨QA, qc, k7, rfl, h71, h7m, h7, h7c, b7⟩ := dec_to HP.out HF.out hd; clear hd hi6; have H71 := Lib.hid h71; have H7m := Lib.hid h7m; clear h71 h7m; replace hrx := later hrx b7; replace b0 := thenB b0 b7; clear b7))
        go_ret
        exact ⟨rfl, b0⟩
    · by_cases h1 : fr = 0
      · subst h1
        go_wp2_with (first
          | (go_at_call 9; refine (lives_any _).mono ?_; rintro e w1 ⟨rfl, b1⟩; replace hr := hr.later b1; replace hrx := later hrx b1; replace b0 := thenB b0 b1; clear b1)
          | (go_at_call 11; refine (own_any A n c l _ HL.out (by omega) hr).mono ?_; rintro e w2 ⟨A2, c2, l2, rfl, hc2, hl2, hm2, hr2, b2⟩; have HL2 := Lib.hid hl2; have HM2 := Lib.hid hm2; clear hl2 hm2; replace hr := hr.later b2; replace hrx := later hrx b2; replace b0 := thenB b0 b2; clear b2)
          | (go_at_call 10; refine (encode_any A2 n c2 l2 _ HL2.out (by omega) hr2).mono ?_; rw [HM2.out]; intro e w3 hd; obtain ⟨V, vc, rfl, hvc, hv, b3⟩ := giv_to HQ.out HE.out hd; clear hd hr2 hv; replace hrx := later hrx b3; replace b0 := thenB b0 b3; clear b3)
          | (go_at_call 15; refine (copied_any B m d xs _ HX.out hrx (by omega)).mono ?_; intro e w6 hm; obtain ⟨A6, c6, rfl, hc6, hi6, b6⟩ := hm.read HX.out; clear hm; replace hrx := later hrx b6; replace b0 := thenB b0 b6; clear b6)
          | (go_at_call 14; refine (decode_any A6 m c6 xs _ HX.out hc6 (by omega) HBx.out hi6).mono ?_; intro e w7 hd; obtain ⟨QA, qc, k7, rfl, h71, h7m, h7, h7c, b7⟩ := dec_to HP.out HF.out hd; clear hd hi6; have H71 := Lib.hid h71; have H7m := Lib.hid h7m; clear h71 h7m; replace hrx := later hrx b7; replace b0 := thenB b0 b7; clear b7)
          | (go_at_call 10; refine (encode_any QA p qc k7 _ H71.out (by omega) h7).mono ?_; rw [H7m.out, enc_dec HBx.out HF.out]; intro e w8 hd; obtain ⟨Z, zc, rfl, hzc, hz, b8⟩ := giv_to (q := m) (x := 0) HX.out rfl hd; clear hd h7; replace hrx := later hrx b8; replace b0 := thenB b0 b8; clear b8)
          | (go_at_call 13; refine (Base.same_to (b := true) (by simp) HX.out HX.out HBx.out HBx.out hz hrx).mono ?_; rintro e w9 ⟨rfl, rfl⟩))
        go_ret
        exact ⟨rfl, b0⟩
      · have HP0 := Lib.hid (dec_no HF.out h1)
        obtain rfl : p = 0 := by rw [← HP.out]; exact HP0.out
        go_wp2_with (first
          | (go_at_call 9; refine (lives_any _).mono ?_; rintro e w1 ⟨rfl, b1⟩; replace hr := hr.later b1; replace hrx := later hrx b1; replace b0 := thenB b0 b1; clear b1)
          | (go_at_call 11; refine (own_any A n c l _ HL.out (by omega) hr).mono ?_; rintro e w2 ⟨A2, c2, l2, rfl, hc2, hl2, hm2, hr2, b2⟩; have HL2 := Lib.hid hl2; have HM2 := Lib.hid hm2; clear hl2 hm2; replace hr := hr.later b2; replace hrx := later hrx b2; replace b0 := thenB b0 b2; clear b2)
          | (go_at_call 10; refine (encode_any A2 n c2 l2 _ HL2.out (by omega) hr2).mono ?_; rw [HM2.out]; intro e w3 hd; obtain ⟨V, vc, rfl, hvc, hv, b3⟩ := giv_to HQ.out HE.out hd; clear hd hr2 hv; replace hrx := later hrx b3; replace b0 := thenB b0 b3; clear b3)
          | (go_at_call 15; refine (copied_any B m d xs _ HX.out hrx (by omega)).mono ?_; intro e w6 hm; obtain ⟨A6, c6, rfl, hc6, hi6, b6⟩ := hm.read HX.out; clear hm; replace hrx := later hrx b6; replace b0 := thenB b0 b6; clear b6)
          | (go_at_call 14; refine (decode_any A6 m c6 xs _ HX.out hc6 (by omega) HBx.out hi6).mono ?_; intro e w7 hd; obtain ⟨QA, qc, k7, rfl, h71, h7m, h7, h7c, b7⟩ := dec_to HP.out HF.out hd; clear hd hi6; have H71 := Lib.hid h71; have H7m := Lib.hid h7m; clear h71 h7m; replace hrx := later hrx b7; replace b0 := thenB b0 b7; clear b7))
        go_ret
        exact ⟨rfl, b0⟩
  · have g0 : 100 < n := by omega
    have g1 : (100 : Int) < (n : Int) := by omega
    go_wp2_with (go_at_call 9; refine (lives_any _).mono ?_; rintro e w1 ⟨rfl, b1⟩; replace hr := hr.later b1; replace b0 := thenB b0 b1; clear b1)
    go_ret
    exact ⟨rfl, b0⟩
theorem go_back (A : Option Addr) (c : Nat) (l : List El) (B : Option Addr) (m d : Nat) (xs : List Int) (w : World) (hr : ElsAt w w.heap.size A l) (g : ∀ x ∈ l, Rd.GoodE w x) (hc : l.length ≤ c) (hs : c * 32 ≤ 140737488351232) (hx : xs.length = m) (hmd : m ≤ d) (hrx : Ints .u8 w w.heap.size B xs) (bx : Bytes xs) (hs2 : d * 1 ≤ 140737488351232) :
    Calls Try.prog 7 #[.slice A l.length c, .slice B m d] w fun e w' => e = .returned (.bool true) ∧ Below w.heap.size w w' :=
  law_back A l.length c l B m d xs w rfl hr (fun x hx => (g x hx).2.2) hx hmd hrx bx (by omega)
end Go.Proofs.Ytpbfnkicbejdbaa.Ad
