/- The laws on advertising data: walks over the program. -/
import Derived.Test.YtpbfnkicbejdbaaAdLives
import Derived.Test.YtpbfnkicbejdbaaAdBk
set_option linter.unusedVariables false
set_option linter.unusedSimpArgs false
namespace Go.Proofs.Ytpbfnkicbejdbaa.Ad
open Go.RowKit Mem Rw Oct
open Base (thenB later kept)

theorem dec_to {w w' : World} {e : Ending} {r : List E × Int} {q : Nat} {er : Int} (hq : r.1.length = q) (he : r.2 = er) (h : Decd w w' e r) : ∃ LA lc l, e = .returned (.tuple #[.slice LA q lc, .int .i64 er]) ∧ l.length = q ∧ l.map El.e = r.1 ∧ ElsAt w' w'.heap.size LA l ∧ q ≤ lc ∧ Below w.heap.size w w' := by
  obtain ⟨LA, n, lc, l, h1, h2, h3, h4, h5, _, h6⟩ := h.read
  subst he
  have : n = q := by rw [← h2, ← hq, ← h4, List.length_map]
  subst this
  exact ⟨LA, lc, l, h1, h2, h4, h5, h3, h6⟩
theorem fnd_to {w w' : World} {e : Ending} {r : List Int × Bool} {q : Nat} {ok : Bool} (hq : r.1.length = q) (ho : r.2 = ok) (h : Fnd w w' e r) : ∃ A c, e = .returned (.tuple #[.slice A q c, .bool ok]) ∧ q ≤ c ∧ Ints .u8 w' w'.heap.size A r.1 ∧ Below w.heap.size w w' := by
  obtain ⟨A, c, h1, h2, _, h3, h4⟩ := h
  subst hq ho
  exact ⟨A, c, h1, h2, h3, h4⟩
theorem giv_to {w w' : World} {e : Ending} {r : List Int × Int} {q : Nat} {x : Int} (hq : r.1.length = q) (hx : r.2 = x) (h : Gives w w' e r) : ∃ A c, e = .returned (.tuple #[.slice A q c, .int .i64 x]) ∧ q ≤ c ∧ Ints .u8 w' w'.heap.size A r.1 ∧ Below w.heap.size w w' := by
  obtain ⟨A, c, h1, h2, h3⟩ := h
  subst hq hx
  exact ⟨A, c, h1, own_capK h2, Ints.own h2, h3⟩
theorem svc_to {w w' : World} {e : Ending} {zs : List Int} {q : Nat} (hq : zs.length = q) (h : MakesS w w' e zs) : ∃ A c, e = .returned (.slice A q c) ∧ q ≤ c ∧ Ints .u16 w' w'.heap.size A zs ∧ Below w.heap.size w w' := h.read hq
theorem els_bytes {l : List El} {xs : List Int} (bx : Bytes xs) (h : l.map El.e = (decR xs).1) : ∀ x ∈ l, Bytes x.v := fun x hx => (decR_bytes bx x.e (by rw [← h]; exact List.mem_map_of_mem hx)).2
theorem find_bytes {xs : List Int} (bx : Bytes xs) (k : Int) : Bytes (findR xs k).1 := by
  unfold findR
  cases h : vals xs k with
  | nil => simp; exact fun z hz => by simp at hz
  | cons v r =>
    obtain ⟨y, hy, he⟩ := List.mem_map.mp (show v ∈ ((decR xs).1.filter (fun x => x.1 == k)).map (fun x => x.2) by
      have : vals xs k = v :: r := h
      unfold vals at this
      rw [this]; simp)
    have := (decR_bytes bx y (List.mem_filter.mp hy |>.1)).2
    rw [he] at this
    exact this
theorem allB_bytes {l : List E} (h : ∀ x ∈ l, Bytes x.2) : Bytes (allB l) := fun z hz => by
  obtain ⟨x, hx, hz⟩ := List.mem_flatMap.mp hz
  simp only [encB, List.mem_cons] at hz
  rcases hz with rfl | rfl | hz
  · omega
  · omega
  · exact h x hx z hz
theorem encR_bytes {l : List E} (h : ∀ x ∈ l, Bytes x.2) : Bytes (encR l).1 := by
  unfold encR
  by_cases h1 : l.all kindOk = true
  · rw [if_pos h1]
    by_cases h2 : (allB l).length ≤ 31
    · rw [if_pos h2]; exact allB_bytes h
    · rw [if_neg h2]; exact fun z hz => by simp at hz
  · rw [if_neg h1]; exact fun z hz => by simp at hz
theorem e_bytes {l : List El} (h : ∀ x ∈ l, Bytes x.v) : ∀ y ∈ l.map El.e, Bytes y.2 := fun y hy => by
  obtain ⟨x, hx, rfl⟩ := List.mem_map.mp hy
  exact h x hx
theorem self_str (s : ByteArray) : (s.toList == s.toList) = true := by simp
set_option maxRecDepth 100000 in
set_option maxHeartbeats 4000000 in
theorem go_decodes (A : Option Addr) (n c : Nat) (xs : List Int) (w : World) (hx : xs.length = n) (hnc : n ≤ c) (hr : Ints .u8 w w.heap.size A xs) (bx : Bytes xs) (hs : c * 1 ≤ 140737488351232) :
    Calls Try.prog 4 #[.slice A n c] w fun e w' => e = .returned (.bool true) ∧ Below w.heap.size w w' := by
  have hn : n ≤ 140737488351232 := by omega
  obtain ⟨q, hq⟩ : ∃ q, (decR xs).1.length = q := ⟨_, rfl⟩
  obtain ⟨er, her⟩ : ∃ er, (decR xs).2 = er := ⟨_, rfl⟩
  have hq31 : q ≤ 31 := by rw [← hq]; exact decR_len xs
  have HQ := Lib.hid hq
  have HE := Lib.hid her
  have HX := Lib.hid hx
  have HB := Lib.hid bx
  have b0 := Below.refl w.heap.size w
  clear hq her hx bx hs
  go_enter Try.func4, Try.ntmps4
  go_wp2_with (first
    | (go_at_call 15; refine (copied_any A n c xs _ HX.out hr (by omega)).mono ?_; intro e w1 hm; obtain ⟨A1, c1, rfl, hc1, hi1, b1⟩ := hm.read HX.out; clear hm; replace hr := later hr b1; replace b0 := thenB b0 b1; clear b1)
    | (go_at_call 14; refine (decode_any A1 n c1 xs _ HX.out hc1 (by omega) HB.out hi1).mono ?_; intro e w2 hd; obtain ⟨LA, lc, l, rfl, hl1, hlm, hl, hlc, b2⟩ := dec_to HQ.out HE.out hd; clear hd; have HL1 := Lib.hid hl1; have HLm := Lib.hid hlm; clear hl1 hlm hi1; replace hr := later hr b2; replace b0 := thenB b0 b2; clear b2)
    | (go_at_call 16; refine (rdecode_any A n c xs _ HX.out hnc HB.out hr).mono ?_; intro e w3 hd; obtain ⟨KA, kc, k, rfl, hk1, hkm, hk, hkc, b3⟩ := dec_to HQ.out HE.out hd; clear hd; have HK1 := Lib.hid hk1; have HKm := Lib.hid hkm; clear hk1 hkm; replace hl := hl.later b3; replace b0 := thenB b0 b3; clear b3 hr)
    | (go_at_call 9; refine (lives_any _).mono ?_; rintro e w4 ⟨rfl, b4⟩; replace hl := hl.later b4; replace hk := hk.later b4; replace b0 := thenB b0 b4; clear b4)
    | (go_at_call 17; refine (els_eq LA KA q lc kc l k _ HL1.out HK1.out (by omega) (HLm.out.trans HKm.out.symm) (els_bytes HB.out HLm.out) hl hk).mono ?_; rintro e w5 ⟨rfl, b5⟩; replace b0 := thenB b0 b5; clear b5))
  go_ret
  exact ⟨rfl, b0⟩
set_option maxRecDepth 100000 in
set_option maxHeartbeats 4000000 in
theorem go_finds (A : Option Addr) (n c : Nat) (xs : List Int) (kd : Int) (w : World) (hx : xs.length = n) (hnc : n ≤ c) (hr : Ints .u8 w w.heap.size A xs) (bx : Bytes xs) (hs : c * 1 ≤ 140737488351232) (bk : -9223372036854775808 ≤ kd ∧ kd ≤ 9223372036854775807) :
    Calls Try.prog 5 #[.slice A n c, .int .i64 kd] w fun e w' => e = .returned (.bool true) ∧ Below w.heap.size w w' := by
  have hn : n ≤ 140737488351232 := by omega
  obtain ⟨q, hq⟩ : ∃ q, (findR xs kd).1.length = q := ⟨_, rfl⟩
  obtain ⟨ok, hok⟩ : ∃ ok, (findR xs kd).2 = ok := ⟨_, rfl⟩
  obtain ⟨nm, hnm⟩ : ∃ nm, strOfNums (findR xs 9).1 = nm := ⟨_, rfl⟩
  obtain ⟨p, hp⟩ : ∃ p, (svcR xs).length = p := ⟨_, rfl⟩
  have hp961 : p ≤ 961 := by rw [← hp]; exact svcR_len bx
  have HQ := Lib.hid hq
  have HO := Lib.hid hok
  have HX := Lib.hid hx
  have HB := Lib.hid bx
  have HP := Lib.hid hp
  have HN : Hid (∀ (A' : Option Addr) (c' : Nat) (W : World), n ≤ c' → Ints .u8 W W.heap.size A' xs → Calls Try.prog 20 #[.slice A' n c'] W fun e w' => e = .returned (.string nm) ∧ Below W.heap.size W w') := Lib.hid fun A' c' W h1 h2 => by rw [← hnm]; exact name_any A' n c' xs W hx h1 (by omega) bx h2
  have HM : Hid (∀ (A' : Option Addr) (c' : Nat) (W : World), n ≤ c' → Ints .u8 W W.heap.size A' xs → Calls Try.prog 21 #[.slice A' n c'] W fun e w' => e = .returned (.string nm) ∧ Below W.heap.size W w') := Lib.hid fun A' c' W h1 h2 => by rw [← hnm]; exact rname_any A' n c' xs W hx h1 bx h2
  have b0 := Below.refl w.heap.size w
  have hss := self_str nm
  clear hq hok hx bx hs hnm hp
  go_enter Try.func5, Try.ntmps5
  go_wp2_with (first
    | (go_at_call 15; refine (copied_any A n c xs _ HX.out hr (by omega)).mono ?_; intro e w1 hm; obtain ⟨A1, c1, rfl, hc1, hi1, b1⟩ := hm.read HX.out; clear hm; replace hr := later hr b1; replace b0 := thenB b0 b1; clear b1)
    | (go_at_call 18; refine (find_any A1 n c1 kd xs _ HX.out hc1 (by omega) HB.out hi1).mono ?_; intro e w2 hd; obtain ⟨V, vc, rfl, hvc, hv, b2⟩ := fnd_to HQ.out HO.out hd; clear hd hi1; replace hr := later hr b2; replace b0 := thenB b0 b2; clear b2)
    | (go_at_call 19; refine (rfind_any A n c kd xs _ HX.out hnc HB.out hr).mono ?_; intro e w3 hd; obtain ⟨U, uc, rfl, huc, hu, b3⟩ := fnd_to HQ.out HO.out hd; clear hd; replace hr := later hr b3; replace hv := later hv b3; replace b0 := thenB b0 b3; clear b3)
    | (go_at_call 9; refine (lives_any _).mono ?_; rintro e w4 ⟨rfl, b4⟩; replace hr := later hr b4; replace hv := later hv b4; replace hu := later hu b4; replace b0 := thenB b0 b4; clear b4)
    | (go_at_call 13; refine (Base.same_to (b := true) (by simp) HQ.out HQ.out (find_bytes HB.out kd) (find_bytes HB.out kd) hv hu).mono ?_; rintro e w9 ⟨rfl, rfl⟩; clear hv hu)
    | (go_at_call 20; refine (HN.out A1 c1 _ hc1 hi1).mono ?_; rintro e w5 ⟨rfl, b5⟩; clear hi1; replace hr := later hr b5; replace b0 := thenB b0 b5; clear b5)
    | (go_at_call 21; refine (HM.out A c _ hnc hr).mono ?_; rintro e w6 ⟨rfl, b6⟩; replace hr := later hr b6; replace b0 := thenB b0 b6; clear b6)
    | (go_at_call 23; refine (services_any A1 n c1 xs _ HX.out hc1 (by omega) HB.out hi1).mono ?_; intro e w7 hd; obtain ⟨S, sc, rfl, hsc, hS, b7⟩ := svc_to HP.out hd; clear hd hi1; replace hr := later hr b7; replace b0 := thenB b0 b7; clear b7)
    | (go_at_call 24; refine (rservices_any A n c xs _ HX.out hnc HB.out hr).mono ?_; intro e w8 hd; obtain ⟨T, tc, rfl, htc, hT, b8⟩ := svc_to HP.out hd; clear hd hr; replace hS := later hS b8; replace b0 := thenB b0 b8; clear b8)
    | (go_at_call 22; refine (short_eq S T p sc tc (svcR xs) _ HP.out (by omega) hS hT).mono ?_; rintro e w10 ⟨rfl, b10⟩; replace b0 := thenB b0 b10; clear b10 hS hT))
  go_ret
  exact ⟨rfl, b0⟩
end Go.Proofs.Ytpbfnkicbejdbaa.Ad
