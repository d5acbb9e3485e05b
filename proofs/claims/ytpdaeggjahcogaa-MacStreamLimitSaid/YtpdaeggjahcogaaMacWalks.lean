/- Sealing and opening: what the program's functions return: contracts over the program. -/
import Derived.Test.YtpdaeggjahcogaaMacStream
set_option linter.unusedVariables false
set_option linter.unusedSimpArgs false
namespace Go.Proofs.Ytpdaeggjahcogaa.Mac
open Go.RowKit Mem Oct Blk Base

theorem own_max {w : World} {base : Nat} {e : TypeId} {size n c : Nat} {A : Option Addr} {xs : List Value} (h : w.ownsRow base e size (.slice A n c) n xs) : c ≤ 9223372036854775807 := by
  rcases h.2 with ⟨hv, _⟩ | ⟨g, cap, cur, hv, _, _, _, hcm, _⟩
  · injection hv with _ _ hc; omega
  · injection hv with _ _ hc
    unfold maxLen at hcm; omega
/-- A row of bytes with its length and its capacity, read in the world that made it. -/
theorem readm {w w' : World} {e : Ending} {zs : List Int} (h : Makes w w' e zs) {n : Nat} (hn : zs.length = n) : ∃ A c, e = .returned (.slice A n c) ∧ n ≤ c ∧ c ≤ 9223372036854775807 ∧ Ints .u8 w' w'.heap.size A zs ∧ Below w.heap.size w w' := by
  obtain ⟨A, c, he, ho, hb⟩ := h.len hn
  exact ⟨A, c, he, own_cap ho, own_max ho, Ints.own ho, hb⟩
theorem mlow_any (n : Int) (w : World) (h : 0 ≤ n ∧ n ≤ 18446744073709551615) :
    Calls Try.prog 50 #[.int .u64 n] w fun e w' => e = .returned (.int .u64 (n % 4294967296)) ∧ w = w' := by
  have e1 : IntKind.u32.wrap n = n % 4294967296 := by rw [IntKind.wrap_u32]
  go_enter Try.func50, Try.ntmps50
  go_wp2
  go_ret
  exact ⟨rfl, rfl⟩
theorem mput_any (A : Option Addr) (n c : Nat) (fs : List (Int × Int)) (w : World) (hf : Fields fs) (hl : fs.length = n) (hn : n ≤ 8796093022208) (hok : fs.all okF = true) (hr : FldsAt w w.heap.size A fs) :
    Calls Try.prog 31 #[.slice A n c] w fun e w' => Makes w w' e (putL fs) := by
  have HR := Lib.hid (putR_good hok)
  go_enter Try.func31, Try.ntmps31
  go_wp2_with (go_at_call 47; refine (put_any A n c fs _ hf hl hn hr).mono ?_; rw [HR.out]; rintro e w1 ⟨A1, c1, rfl, hown, hb⟩)
  go_ret
  exact makes_of rfl rfl hown hb
theorem crypt_any (k nonce : Int) (A : Option Addr) (n c : Nat) (xs : List Int) (w : World) (hk : 0 ≤ k ∧ k ≤ 18446744073709551615) (hx : 0 ≤ nonce ∧ nonce ≤ 18446744073709551615) (hl : xs.length = n) (bxs : Bytes xs) (hr : Ints .u8 w w.heap.size A xs) (hn : n ≤ 140737488351232) :
    Calls Try.prog 35 #[.int .u64 k, .int .u64 nonce, .slice A n c] w fun e w' => Makes w w' e (cry k nonce xs) := by
  have HS := Lib.hid (strm_len k nonce n)
  have bs := strm_bytes k nonce n
  have HC : Hid (xorL xs (strm k nonce n) = cry k nonce xs) := Lib.hid (by unfold cry; rw [hl])
  have HL : Hid ((cry k nonce xs).length = n) := Lib.hid (by rw [cry_len, hl])
  go_enter Try.func35, Try.ntmps35
  go_wp2_with (first
    | (go_at_call 33; refine (stream_any k nonce n _ hk hx hn).mono ?_; intro e w1 m1; obtain ⟨A1, c1, rfl, k1, j1, b1⟩ := m1.read HS.out; clear m1)
    | (go_at_call 49; refine (xor_any A A1 n n c c1 xs _ _ hl HS.out bxs bs (later hr b1) j1 hn hn).mono ?_; rw [HC.out]; rintro e w2 ⟨A2, c2, rfl, o2, b2⟩))
  go_ret
  exact makes_of rfl rfl (own_base o2 b1.size) (thenB b1 b2)
theorem Stream_any (k nonce m : Int) (w : World) (hk : 0 ≤ k ∧ k ≤ 18446744073709551615) (hx : 0 ≤ nonce ∧ nonce ≤ 18446744073709551615) (hm : -9223372036854775808 ≤ m ∧ m ≤ 9223372036854775807) :
    Calls Try.prog 18 #[.int .u64 k, .int .u64 nonce, .int .i64 m] w fun e w' => Makes w w' e (strm k nonce (max 0 (min m 65536)).toNat) := by
  obtain ⟨n, hn⟩ : ∃ n : Nat, max 0 (min m 65536) = (n : Int) := ⟨(max 0 (min m 65536)).toNat, by omega⟩
  have hn1 : n ≤ 65536 := by omega
  have HS : Hid ((max 0 (min m 65536)).toNat = n) := Lib.hid (by omega)
  rw [HS.out]
  go_enter Try.func18, Try.ntmps18
  go_wp2_with (go_at_call 33; (try rw [hn]); refine (stream_any k nonce n _ hk hx (by omega)).mono ?_; rintro e w1 ⟨A, c, rfl, hown, hb⟩)
  go_ret
  exact makes_of rfl rfl hown hb
/-- Fields that were just laid side by side. -/
theorem flds1 (w : World) (s v : Int) (t : TypeId) : FldsAt (w.alloc (.cells #[.int .i64 s, .int .u64 v] t)) (w.alloc (.cells #[.int .i64 s, .int .u64 v] t)).heap.size (some ⟨w.heap.size, 0, none⟩) [(s, v)] := by
  have F := Blk.fresh w t #[.int .i64 s, .int .u64 v]
  refine .inr ⟨w.heap.size, 0, rfl, F.lt, fun j f hj => ?_⟩
  match j, hj with
  | 0, hj => simp at hj; subst hj; exact ⟨F.cell 0, F.cell 1⟩
  | j + 1, hj => simp at hj
theorem flds2 (w : World) (s v s' v' : Int) (t : TypeId) : FldsAt (w.alloc (.cells #[.int .i64 s, .int .u64 v, .int .i64 s', .int .u64 v'] t)) (w.alloc (.cells #[.int .i64 s, .int .u64 v, .int .i64 s', .int .u64 v'] t)).heap.size (some ⟨w.heap.size, 0, none⟩) [(s, v), (s', v')] := by
  have F := Blk.fresh w t #[.int .i64 s, .int .u64 v, .int .i64 s', .int .u64 v']
  refine .inr ⟨w.heap.size, 0, rfl, F.lt, fun j f hj => ?_⟩
  match j, hj with
  | 0, hj => simp at hj; subst hj; exact ⟨F.cell 0, F.cell 1⟩
  | 1, hj => simp at hj; subst hj; exact ⟨F.cell 2, F.cell 3⟩
  | j + 2, hj => simp at hj
theorem okF8 (v : Int) (hv : 0 ≤ v ∧ v ≤ 18446744073709551615) : okF (8, v) = true := by
  unfold okF
  simp only [show (8 : Int).toNat = 8 from rfl, show Ser.p2 (8 * 8) = 18446744073709551616 by decide]
  simp; omega
theorem okF4 (v : Int) (hv : 0 ≤ v ∧ v ≤ 4294967295) : okF (4, v) = true := by
  unfold okF
  simp only [show (4 : Int).toNat = 4 from rfl, show Ser.p2 (8 * 4) = 4294967296 by decide]
  simp; omega
theorem end_any (k nonce : Int) (A A' : Option Addr) (n c n' c' : Nat) (hs cs : List Int) (w : World) (hk : 0 ≤ k ∧ k ≤ 18446744073709551615) (hx : 0 ≤ nonce ∧ nonce ≤ 18446744073709551615)
    (hl : hs.length = n) (bh : Bytes hs) (hr : Ints .u8 w w.heap.size A hs) (hn : n ≤ 35184372088832) (hl' : cs.length = n') (bc : Bytes cs) (hr' : Ints .u8 w w.heap.size A' cs) (hn' : n' ≤ 35184372088832) :
    Calls Try.prog 36 #[.int .u64 k, .int .u64 nonce, .slice A n c, .slice A' n' c'] w fun e w' => Makes w w' e (endL k nonce hs cs) := by
  obtain ⟨m, hm⟩ : ∃ m : Int, (n : Int) % 4294967296 = m := ⟨_, rfl⟩
  have bm : 0 ≤ m ∧ m ≤ 4294967295 := by omega
  have HP : Hid (putL [(8, nonce), (4, m)] = numL 8 nonce ++ numL 4 (n : Int)) := Lib.hid (by simp [putL]; rw [← hm, numL4_mod])
  have HPL : Hid ((numL 8 nonce ++ numL 4 (n : Int)).length = 12) := Lib.hid (by rw [List.length_append, numL_len, numL_len])
  have bP : Bytes (numL 8 nonce ++ numL 4 (n : Int)) := bytes_append (numL_bytes _ _) (numL_bytes _ _)
  have HI : Hid (∀ (A1 : Option Addr) (c1 : Nat), joinL [(A1, c1, numL 8 nonce ++ numL 4 (n : Int)), (A, c, hs), (A', c', cs)] = inp nonce hs cs) := Lib.hid (fun A1 c1 => by simp [joinL, inp, hl])
  have HIL : Hid ((inp nonce hs cs).length = 12 + n + n') := Lib.hid (by rw [inp_len, hl, hl'])
  have bI := inp_bytes nonce bh bc
  have HH := Lib.hid hl
  have HC := Lib.hid hl'
  have bT := tagZ_bd k bI (by rw [HIL.out]; omega)
  have HE : Hid (endL k nonce hs cs = numL 4 (tagZ k (inp nonce hs cs))) := Lib.hid rfl
  have HF : Hid (Fields [(8, nonce), (4, m)]) := Lib.hid (by
    intro f hf
    simp only [List.mem_cons, List.not_mem_nil, or_false] at hf
    rcases hf with rfl | rfl
    · exact ⟨by simp, hx⟩
    · exact ⟨by simp, by simp; omega⟩)
  have HK : Hid (([(8, nonce), (4, m)] : List (Int × Int)).all okF = true) := Lib.hid (by simp [okF8 nonce hx, okF4 m bm])
  generalize numL 8 nonce ++ numL 4 (n : Int) = P at *
  generalize inp nonce hs cs = X at *
  obtain ⟨T, hT⟩ : ∃ T, tagZ k X = T := ⟨_, rfl⟩
  rw [hT] at bT HE
  have HT := Lib.hid hT
  obtain ⟨q, hq⟩ : ∃ q, T % 4294967296 = q := ⟨_, rfl⟩
  have bq : 0 ≤ q ∧ q ≤ 4294967295 := by omega
  have HQ : Hid (putL [(4, q)] = endL k nonce hs cs) := Lib.hid (by simp [putL]; rw [← hq, numL4_mod, HE.out])
  have HQF : Hid (Fields [(4, q)]) := Lib.hid (by
    intro f hf
    simp only [List.mem_cons, List.not_mem_nil, or_false] at hf
    subst hf
    exact ⟨by simp, by simp; omega⟩)
  have HQK : Hid (([(4, q)] : List (Int × Int)).all okF = true) := Lib.hid (by simp [okF4 q bq])
  have HEL := Lib.hid (endL_len k nonce hs cs)
  clear hl hl' hT
  go_enter Try.func36, Try.ntmps36
  go_wp2_with (first
    | (go_at_call 50; refine (mlow_any _ _ (by omega)).mono ?_; rintro e w' ⟨rfl, rfl⟩)
    | (go_at_call 31; refine (mput_any _ 2 2 [(8, nonce), (4, m)] _ HF.out rfl (by omega) HK.out (flds2 w 8 nonce 4 m 50)).mono ?_; clear HK; rw [HP.out]; intro e w2 m2; obtain ⟨A1, c1, rfl, k1, x1, j1, b1⟩ := readm m2 HPL.out; clear m2; have b1 := alloc1 _ _ b1)
    | (go_at_call 30; refine (join_any _ 3 3 [(A1, c1, P), (A, c, hs), (A', c', cs)] _ rfl (by omega) (by exact parts_lit w2 [(A1, c1, P), (A, c, hs), (A', c', cs)] _ _ _ rfl (by simp [HPL.out, HH.out, HC.out]) (by
        intro p hp
        simp only [List.mem_cons, List.not_mem_nil, or_false] at hp
        rcases hp with rfl | rfl | rfl
        · exact j1
        · exact later hr b1
        · exact later hr' b1)) (by rw [HI.out, HIL.out]; omega)).mono ?_; rw [HI.out]; intro e w3 m3; obtain ⟨A3, c3, rfl, k3, x3, j3, b3⟩ := readm m3 HIL.out; clear m3; have b3 := alloc1 _ _ b3)
    | (go_at_call 13; refine (tag_any k A3 _ c3 X _ hk HIL.out bI k3 x3 (by omega) j3).mono ?_; rw [HT.out]; rintro e w4 ⟨rfl, b4⟩)
    | (go_at_call 31; refine (mput_any _ 1 1 [(4, q)] _ HQF.out rfl (by omega) HQK.out (flds1 w4 4 q 50)).mono ?_; clear HQK; rw [HQ.out]; intro e w5 m5; obtain ⟨A5, c5, rfl, o5, b5⟩ := m5.len HEL.out; clear m5))
  go_ret
  have h3 := thenB b1 b3
  have h4 := thenB h3 b4
  exact makes_of rfl HEL.out (own_base o5 (by have := h4.size; simp; omega)) (thenB h4 (alloc1 _ _ b5))
theorem equal_any (A A' : Option Addr) (n n' c c' : Nat) (xs ys : List Int) (w : World) (hx : xs.length = n) (hy : ys.length = n') (bx : Bytes xs) (by_ : Bytes ys) (hr : Ints .u8 w w.heap.size A xs) (hr' : Ints .u8 w w.heap.size A' ys) :
    Calls Try.prog 39 #[.slice A n c, .slice A' n' c'] w fun e w' => e = .returned (.bool (decide (xs = ys))) ∧ w = w' := by
  have k1 := run_string_ints (P := Try.prog) 24 5 Try.underlying24 Try.underlying5 Try.underlying9 w.heap.size A n c xs hx hr
  have k2 := run_string_ints (P := Try.prog) 24 5 Try.underlying24 Try.underlying5 Try.underlying9 w.heap.size A' n' c' ys hy hr'
  go_enter Try.func39, Try.ntmps39
  go_wp2
  go_ret
  exact ⟨Ser.ret_bool (str_eq bx by_), rfl⟩
theorem equal_to {b : Bool} {xs ys : List Int} (hr : decide (xs = ys) = b) {A A' : Option Addr} {n n' c c' : Nat} {w : World} (hx : xs.length = n) (hy : ys.length = n') (bx : Bytes xs) (by_ : Bytes ys) (h : Ints .u8 w w.heap.size A xs) (h' : Ints .u8 w w.heap.size A' ys) :
    Calls Try.prog 39 #[.slice A n c, .slice A' n' c'] w fun e w' => e = .returned (.bool b) ∧ w' = w := by
  rw [← hr]; exact (equal_any A A' n n' c c' xs ys w hx hy bx by_ h h').mono fun e w' ⟨he, hw⟩ => ⟨he, hw.symm⟩
theorem seal_any (k nonce : Int) (A A' : Option Addr) (n c n' c' : Nat) (hs ps : List Int) (w : World) (hk : 0 ≤ k ∧ k ≤ 18446744073709551615) (hx : 0 ≤ nonce ∧ nonce ≤ 18446744073709551615)
    (hl : hs.length = n) (bh : Bytes hs) (hr : Ints .u8 w w.heap.size A hs) (hn : n ≤ 35184372088832) (hl' : ps.length = n') (bp : Bytes ps) (hr' : Ints .u8 w w.heap.size A' ps) (hn' : n' ≤ 35184372088832) :
    Calls Try.prog 20 #[.int .u64 k, .int .u64 nonce, .slice A n c, .slice A' n' c'] w fun e w' => Makes w w' e (sealL k nonce hs ps) := by
  have HC : Hid ((cry k nonce ps).length = n') := Lib.hid (by rw [cry_len, hl'])
  have bc := cry_bytes k nonce bp
  have HE := Lib.hid (endL_len k nonce hs (cry k nonce ps))
  have HS : Hid (∀ (A1 A2 : Option Addr) (c1 c2 : Nat), joinL [(A1, c1, cry k nonce ps), (A2, c2, endL k nonce hs (cry k nonce ps))] = sealL k nonce hs ps) := Lib.hid (fun A1 A2 c1 c2 => by simp [joinL, sealL])
  have HL : Hid ((sealL k nonce hs ps).length = n' + 4) := Lib.hid (by rw [sealL_len, hl'])
  go_enter Try.func20, Try.ntmps20
  go_wp2_with (first
    | (go_at_call 35; refine (crypt_any k nonce A' n' c' ps _ hk hx hl' bp hr' (by omega)).mono ?_; intro e w1 m1; obtain ⟨A1, c1, rfl, k1, x1, j1, b1⟩ := readm m1 HC.out; clear m1)
    | (go_at_call 36; refine (end_any k nonce A A1 n c n' c1 hs (cry k nonce ps) _ hk hx hl bh (later hr b1) hn HC.out bc j1 hn').mono ?_; intro e w2 m2; obtain ⟨A2, c2, rfl, k2, x2, j2, b2⟩ := readm m2 HE.out; clear m2)
    | (go_at_call 30; refine (join_any _ 2 2 [(A1, c1, cry k nonce ps), (A2, c2, endL k nonce hs (cry k nonce ps))] _ rfl (by omega) (by exact parts_lit w2 [(A1, c1, cry k nonce ps), (A2, c2, endL k nonce hs (cry k nonce ps))] _ _ _ rfl (by simp [HC.out, HE.out]) (by
        intro p hp
        simp only [List.mem_cons, List.not_mem_nil, or_false] at hp
        rcases hp with rfl | rfl
        · exact later j1 b2
        · exact j2)) (by rw [HS.out, HL.out]; omega)).mono ?_; rw [HS.out]; intro e w3 m3; obtain ⟨A3, c3, rfl, o3, b3⟩ := m3.len HL.out; clear m3))
  go_ret
  have h2 := thenB b1 b2
  exact makes_of rfl HL.out (own_base o3 (by have := h2.size; simp; omega)) (thenB h2 (alloc1 _ _ b3))
end Go.Proofs.Ytpdaeggjahcogaa.Mac
