/- What advertising data are built of: a contract over the program. -/
import Derived.Test.YtpbfnkicbejdbaaAdList
set_option linter.unusedVariables false
set_option linter.unusedSimpArgs false
namespace Go.Proofs.Ytpbfnkicbejdbaa.Ad
open Go.RowKit Mem Rw Oct
open Base (thenB later kept)

/-- Elements of one's own in memory, while they are made. -/
def St (w W : World) (v : Value) (n : Nat) (l : List El) : Prop :=
  W.ownsRow w.heap.size 49 2 v n (l.flatMap encE) ∧ l.length = n ∧ (∀ x ∈ l, RbE W x) ∧ Below w.heap.size w W
theorem St.next {w W W' : World} {v : Value} {n : Nat} {l : List El} (h : St w W v n l) (b : Below W.heap.size W W') : St w W' v n l :=
  ⟨own_below h.1 b, h.2.1, fun x hx => (h.2.2.1 x hx).keep (KeepU.below b), thenB h.2.2.2 b⟩
theorem St.alloc {w W : World} {v : Value} {n : Nat} {l : List El} (h : St w W v n l) (o : Obj) : St w (W.alloc o) v n l := h.next ((Below.refl _ _).alloc (Nat.le_refl _) o)
theorem St.start {w W : World} (hb : Below w.heap.size w W) (k : Int) (A : Option Addr) (p c : Nat) (v : List Int) (hv : v.length = p) (hr : RbE W ⟨k, A, c, v⟩) :
    St w (W.alloc (.cells #[.int .i64 k, .slice A p c] 49)) (.slice (some ⟨W.heap.size, 0, none⟩) 1 1) 1 [⟨k, A, c, v⟩] :=
  ⟨row_lit W w.heap.size hb.size k A p c v hv, rfl, fun x hx => by simp at hx; subst hx; exact hr.keep (KeepU.alloc _ _), hb.alloc hb.size _⟩
theorem St.more {w W W' : World} {v v' : Value} {n : Nat} {l : List El} {x : El} (h : St w W v n l) (hx : RbE W x) (ho : W'.ownsRow w.heap.size 49 2 v' (n + 1) (l.flatMap encE ++ encE x)) (hb : Below w.heap.size W W') (hg : W.grownBy W' v.ownBlock) : St w W' v' (n + 1) (l ++ [x]) := by
  have k := KeepU.grown h.1 (by decide) hg
  refine ⟨by simpa using ho, by simp [h.2.1], fun y hy => ?_, h.2.2.2.trans hb⟩
  rcases List.mem_append.1 hy with hy | hy
  · exact (h.2.2.1 y hy).keep k
  · simp at hy; subst hy; exact hx.keep k
theorem St.els {w W : World} {A : Option Addr} {c n : Nat} {l : List El} (h : St w W (.slice A n c) n l) : ElsAt W W.heap.size A l := els_of h.1 h.2.2.1
theorem gives_on {w W w' : World} {e : Ending} {r : List Int × Int} (h : Gives W w' e r) (hb : Below w.heap.size w W) : Gives w w' e r := by
  obtain ⟨A, c, he, ho, hb'⟩ := h
  exact ⟨A, c, he, own_base ho hb.size, thenB hb hb'⟩
theorem gives_one {W w' : World} {e : Ending} {f : Int} (h : Gives W w' e ([f], 0)) : ∃ A c, e = .returned (.tuple #[.slice A 1 c, .int .i64 0]) ∧ RbE w' ⟨1, A, c, [f]⟩ ∧ Below W.heap.size W w' := by
  obtain ⟨A, c, he, ho, hb⟩ := h
  exact ⟨A, c, he, ⟨Rb.own ho, own_capK ho, by show 1 ≤ 140737488355328; omega⟩, hb⟩
theorem rbE_conv (W : World) (s : ByteArray) (k : Int) (hs : s.size ≤ 140737488351232) : RbE (Lib.bytesWorld W 5 s) ⟨k, some ⟨W.heap.size, 0, none⟩, grownCap W s.size 0 5, chL s⟩ :=
  ⟨conv_rb W s, by show (chL s).length ≤ _; rw [chL_len]; exact grownCap_ge _ _ _ _, by show (chL s).length ≤ _; rw [chL_len]; omega⟩
theorem rbE_own {w : World} {base n c : Nat} {A : Option Addr} {zs : List Int} (k : Int) (hz : zs.length = n) (hn : n ≤ 140737488355328) (h : w.ownsRow base 5 1 (.slice A n c) n (zs.map (Value.int .u8))) : RbE w ⟨k, A, c, zs⟩ :=
  ⟨Rb.own h, by show zs.length ≤ c; rw [hz]; exact own_capK h, by show zs.length ≤ _; rw [hz]; exact hn⟩
theorem put_flags {v : Int} (hv : 0 ≤ v ∧ v ≤ 18446744073709551615) : putR [(1, v)] = if v ≤ 255 then ([v], 0) else ([], 5) := by
  have h8 : Ser.p2 8 = 256 := by decide
  unfold putR
  by_cases h : v ≤ 255
  · have h1 : ([(1, v)] : List (Int × Int)).all okF = true := by simp [okF, h8]; omega
    rw [if_pos h1, if_pos h]
    simp [putL, numL]; omega
  · have h1 : ¬ ([(1, v)] : List (Int × Int)).all okF = true := by simp [okF, h8]; omega
    rw [if_neg h1, if_neg h]
theorem fld_at (W : World) (k v : Int) : FldsAt (W.alloc (.cells #[.int .i64 k, .int .u64 v] 61)) (W.alloc (.cells #[.int .i64 k, .int .u64 v] 61)).heap.size (some ⟨W.heap.size, 0, none⟩) [(k, v)] := by
  right
  refine ⟨W.heap.size, 0, rfl, by simp, fun j f hj => ?_⟩
  rcases j with _ | j
  · simp only [List.getElem?_cons_zero, Option.some.injEq] at hj
    subst hj
    exact ⟨by simp, by simp⟩
  · simp at hj
theorem items_none (f : Int) : items f [] [] = [(1, [f])] := by simp [items]
theorem items_name {name : List Int} (f : Int) (h : name ≠ []) : items f name [] = [(1, [f]), (9, name)] := by simp [items, h]
theorem items_svc {xs : List Int} (f : Int) (h : xs ≠ []) : items f [] xs = [(1, [f]), (3, tw xs)] := by simp [items, h]
theorem items_all {name xs : List Int} (f : Int) (h : name ≠ []) (h2 : xs ≠ []) : items f name xs = [(1, [f]), (3, tw xs), (9, name)] := by simp [items, h, h2]
theorem chL_nil {s : ByteArray} : chL s = [] ↔ s.data.toList = [] := by simp [chL]
theorem is_nil (s : ByteArray) : s.toList.isEmpty = decide (chL s = []) := by
  rw [ByteArray.toList_eq]
  cases h : s.data.toList with
  | nil => simp [chL, h]
  | cons a r => simp [chL, h]
theorem gives_end {w W w' : World} {e : Ending} {r R : List Int × Int} (h : Gives W w' e r) (hr : r = R) (hb : Below w.heap.size w W) : ∃ A c, e = .returned (.tuple #[.slice A R.1.length c, .int .i64 R.2]) ∧ w'.ownsRow w.heap.size 5 1 (.slice A R.1.length c) R.1.length (R.1.map (Value.int .u8)) ∧ Below w.heap.size w w' := by
  subst hr; exact gives_on h hb
set_option maxRecDepth 100000 in
set_option maxHeartbeats 4000000 in
theorem build_00 (f : Int) (s : ByteArray) (A : Option Addr) (n c : Nat) (xs : List Int) (w : World) (hf : 0 ≤ f ∧ f ≤ 255) (hs : s.size ≤ 140737488351232) (hx : xs.length = n) (hn : n ≤ 100) (hX : xs = []) (hN : chL s = []) (bx : Words16 xs) (hr : Ints .u16 w w.heap.size A xs) :
    Calls Try.prog 25 #[.int .i64 f, .string s, .slice A n c] w fun e w' => Gives w w' e (buildR f (chL s) xs) := by
  obtain ⟨iE, hi, hz, hs0, hb, hc0⟩ := info_parts2 info_el rfl
  have hcv : ∀ w : World, (convert 9 24 (.string s)).run Try.prog w = .ok (.slice (some ⟨w.heap.size, 0, none⟩) s.size (grownCap w s.size 0 5)) (Lib.bytesWorld w 5 s) := fun w =>
    Lib.run_convert_string_bytes w 9 24 5 s Try.underlying9 Try.underlying24 Try.underlying5
  have e1 : IntKind.u64.wrap f = f := by rw [Ser.wrap_u64]; omega
  have HP : Hid (∀ W : World, Calls Try.prog 30 #[.slice (some ⟨W.heap.size, 0, none⟩) 1 1] (W.alloc (.cells #[.int .i64 1, .int .u64 f] 61)) fun e w' => Gives (W.alloc (.cells #[.int .i64 1, .int .u64 f] 61)) w' e ([f], 0)) := Lib.hid fun W => by
    have := put_any (some ⟨W.heap.size, 0, none⟩) 1 1 [(1, f)] _ (fun g hg => by simp at hg; subst hg; simp; omega) rfl (by omega) (fld_at W 1 f)
    rwa [put_flags (by omega), if_pos (by omega)] at this
  have he : s.toList.isEmpty = true := by rw [is_nil]; simp [hN]
  have HL : Hid (∀ W, Below w.heap.size w W → Calls Try.prog 31 #[.slice A n c] W fun e w' => Base.Makes W w' e (tw xs)) := Lib.hid fun W b => list_any A n c xs W hx (by omega) bx (later hr b)
  have HB : Hid (buildR f (chL s) xs = encR (items f (chL s) xs)) := Lib.hid (build_in _ _ hf)
  have HI := Lib.hid (items_none f)
  obtain ⟨R, hR⟩ : ∃ R, buildR f (chL s) xs = R := ⟨_, rfl⟩
  have HR : Hid (encR [(1, [f])] = R) := Lib.hid (by rw [← hR, HB.out, hN, hX, HI.out])
  rw [hR]
  have n0 : ¬ 0 < n := by have := mt (List.length_eq_zero_iff (l := xs)).1 ; have := (List.length_eq_zero_iff (l := xs)).2; simp_all
  have HX := Lib.hid hx
  have HS := Lib.hid hs
  clear hR HB HI hX hN hr hx hs bx
  go_enter Try.func25, Try.ntmps25
  go_wp2_with (first
    | (go_at_call 30; refine (HP.out _).mono ?_; clear HP; intro e w1 hg; obtain ⟨PA, pc, rfl, hp, b1⟩ := gives_one hg; have b1 := Base.alloc1 _ _ b1; have hS := St.start b1 1 PA 1 pc [f] rfl hp; have hz1 := b1.size; clear hg hp b1)
    | (go_at_call 10; refine (encode_any _ _ _ _ _ hS.2.1 (by omega) hS.els).mono ?_; intro e w9 hg; obtain ⟨EA, ec, rfl, ho9, hb9⟩ := gives_end hg HR.out hS.2.2.2; clear hg))
  go_ret2
  exact ⟨EA, ec, rfl, ho9, hb9⟩
set_option maxRecDepth 100000 in
set_option maxHeartbeats 4000000 in
theorem build_01 (f : Int) (s : ByteArray) (A : Option Addr) (n c : Nat) (xs : List Int) (w : World) (hf : 0 ≤ f ∧ f ≤ 255) (hs : s.size ≤ 140737488351232) (hx : xs.length = n) (hn : n ≤ 100) (hX : xs = []) (hN : chL s ≠ []) (bx : Words16 xs) (hr : Ints .u16 w w.heap.size A xs) :
    Calls Try.prog 25 #[.int .i64 f, .string s, .slice A n c] w fun e w' => Gives w w' e (buildR f (chL s) xs) := by
  obtain ⟨iE, hi, hz, hs0, hb, hc0⟩ := info_parts2 info_el rfl
  have hcv : ∀ w : World, (convert 9 24 (.string s)).run Try.prog w = .ok (.slice (some ⟨w.heap.size, 0, none⟩) s.size (grownCap w s.size 0 5)) (Lib.bytesWorld w 5 s) := fun w =>
    Lib.run_convert_string_bytes w 9 24 5 s Try.underlying9 Try.underlying24 Try.underlying5
  have e1 : IntKind.u64.wrap f = f := by rw [Ser.wrap_u64]; omega
  have HP : Hid (∀ W : World, Calls Try.prog 30 #[.slice (some ⟨W.heap.size, 0, none⟩) 1 1] (W.alloc (.cells #[.int .i64 1, .int .u64 f] 61)) fun e w' => Gives (W.alloc (.cells #[.int .i64 1, .int .u64 f] 61)) w' e ([f], 0)) := Lib.hid fun W => by
    have := put_any (some ⟨W.heap.size, 0, none⟩) 1 1 [(1, f)] _ (fun g hg => by simp at hg; subst hg; simp; omega) rfl (by omega) (fld_at W 1 f)
    rwa [put_flags (by omega), if_pos (by omega)] at this
  have he : s.toList.isEmpty = false := by rw [is_nil]; simp [hN]
  have HL : Hid (∀ W, Below w.heap.size w W → Calls Try.prog 31 #[.slice A n c] W fun e w' => Base.Makes W w' e (tw xs)) := Lib.hid fun W b => list_any A n c xs W hx (by omega) bx (later hr b)
  have HB : Hid (buildR f (chL s) xs = encR (items f (chL s) xs)) := Lib.hid (build_in _ _ hf)
  have HI := Lib.hid (items_name f hN)
  obtain ⟨R, hR⟩ : ∃ R, buildR f (chL s) xs = R := ⟨_, rfl⟩
  have HR : Hid (encR [(1, [f]), (9, chL s)] = R) := Lib.hid (by rw [← hR, HB.out, hX, HI.out])
  rw [hR]
  have n0 : ¬ 0 < n := by have := mt (List.length_eq_zero_iff (l := xs)).1 ; have := (List.length_eq_zero_iff (l := xs)).2; simp_all
  have HX := Lib.hid hx
  have HS := Lib.hid hs
  clear hR HB HI hX hN hr hx hs bx
  go_enter Try.func25, Try.ntmps25
  go_wp2_with (first
    | (go_at_call 30; refine (HP.out _).mono ?_; clear HP; intro e w1 hg; obtain ⟨PA, pc, rfl, hp, b1⟩ := gives_one hg; have b1 := Base.alloc1 _ _ b1; have hS := St.start b1 1 PA 1 pc [f] rfl hp; have hz1 := b1.size; clear hg hp b1)
    | (at_builtin; refine wpList_append_rows rfl (.tmp 36) (.tmp 40) 22 rfl w.heap.size 49 iE _ 2 32 Try.underlying22 hi hz hs0 hb hc0 (by decide) _ 1 _ rfl ((hS.next (conv_below _ 5 s)).alloc _).1 _ (some ⟨(Lib.bytesWorld (w1.alloc (.cells #[.int .i64 1, .slice PA 1 pc] 49)) 5 s).heap.size, 0, none⟩) 1 1 [.int .i64 9, .slice (some ⟨w1.heap.size + 1, 0, none⟩) s.size (grownCap ((w1.alloc (.cells #[.int .i64 1, .slice PA 1 pc] 49))) s.size 0 5)] rfl rfl (el_one _ _ _ _) (CellsAt.lit _ _ _ _ rfl) (by unfold maxLen; omega) (by omega) (((hS.next (conv_below _ 5 s)).alloc _).2.2.2.size) ?_; intro v5 w5 ho5 hb5 hg5; have hS := St.more (x := ⟨9, _, _, chL s⟩) ((hS.next (conv_below _ 5 s)).alloc _) ((rbE_conv _ s 9 HS.out).keep (KeepU.alloc _ _)) (by rw [show encE (⟨9, _, _, chL s⟩ : El) = [.int .i64 9, .slice (some ⟨w1.heap.size + 1, 0, none⟩) s.size (grownCap ((w1.alloc (.cells #[.int .i64 1, .slice PA 1 pc] 49))) s.size 0 5)] by simp [encE, chL_len]]; exact ho5) hb5 hg5; obtain ⟨A5, c5, rfl⟩ := own_form ho5; have hz5 := hS.2.2.2.size; clear ho5 hb5 hg5)
    | (go_at_call 10; refine (encode_any _ _ _ _ _ hS.2.1 (by omega) hS.els).mono ?_; intro e w9 hg; obtain ⟨EA, ec, rfl, ho9, hb9⟩ := gives_end hg HR.out hS.2.2.2; clear hg))
  go_ret2
  exact ⟨EA, ec, rfl, ho9, hb9⟩
set_option maxRecDepth 100000 in
set_option maxHeartbeats 4000000 in
theorem build_10 (f : Int) (s : ByteArray) (A : Option Addr) (n c : Nat) (xs : List Int) (w : World) (hf : 0 ≤ f ∧ f ≤ 255) (hs : s.size ≤ 140737488351232) (hx : xs.length = n) (hn : n ≤ 100) (hX : xs ≠ []) (hN : chL s = []) (bx : Words16 xs) (hr : Ints .u16 w w.heap.size A xs) :
    Calls Try.prog 25 #[.int .i64 f, .string s, .slice A n c] w fun e w' => Gives w w' e (buildR f (chL s) xs) := by
  obtain ⟨iE, hi, hz, hs0, hb, hc0⟩ := info_parts2 info_el rfl
  have hcv : ∀ w : World, (convert 9 24 (.string s)).run Try.prog w = .ok (.slice (some ⟨w.heap.size, 0, none⟩) s.size (grownCap w s.size 0 5)) (Lib.bytesWorld w 5 s) := fun w =>
    Lib.run_convert_string_bytes w 9 24 5 s Try.underlying9 Try.underlying24 Try.underlying5
  have e1 : IntKind.u64.wrap f = f := by rw [Ser.wrap_u64]; omega
  have HP : Hid (∀ W : World, Calls Try.prog 30 #[.slice (some ⟨W.heap.size, 0, none⟩) 1 1] (W.alloc (.cells #[.int .i64 1, .int .u64 f] 61)) fun e w' => Gives (W.alloc (.cells #[.int .i64 1, .int .u64 f] 61)) w' e ([f], 0)) := Lib.hid fun W => by
    have := put_any (some ⟨W.heap.size, 0, none⟩) 1 1 [(1, f)] _ (fun g hg => by simp at hg; subst hg; simp; omega) rfl (by omega) (fld_at W 1 f)
    rwa [put_flags (by omega), if_pos (by omega)] at this
  have he : s.toList.isEmpty = true := by rw [is_nil]; simp [hN]
  have HL : Hid (∀ W, Below w.heap.size w W → Calls Try.prog 31 #[.slice A n c] W fun e w' => Base.Makes W w' e (tw xs)) := Lib.hid fun W b => list_any A n c xs W hx (by omega) bx (later hr b)
  have HB : Hid (buildR f (chL s) xs = encR (items f (chL s) xs)) := Lib.hid (build_in _ _ hf)
  have HI := Lib.hid (items_svc f hX)
  obtain ⟨R, hR⟩ : ∃ R, buildR f (chL s) xs = R := ⟨_, rfl⟩
  have HR : Hid (encR [(1, [f]), (3, tw xs)] = R) := Lib.hid (by rw [← hR, HB.out, hN, HI.out])
  rw [hR]
  have n0 : 0 < n := by have := mt (List.length_eq_zero_iff (l := xs)).1 ; have := (List.length_eq_zero_iff (l := xs)).2; simp_all; omega
  have HX := Lib.hid hx
  have HS := Lib.hid hs
  clear hR HB HI hX hN hr hx hs bx
  go_enter Try.func25, Try.ntmps25
  go_wp2_with (first
    | (go_at_call 30; refine (HP.out _).mono ?_; clear HP; intro e w1 hg; obtain ⟨PA, pc, rfl, hp, b1⟩ := gives_one hg; have b1 := Base.alloc1 _ _ b1; have hS := St.start b1 1 PA 1 pc [f] rfl hp; have hz1 := b1.size; clear hg hp b1)
    | (go_at_call 31; refine (HL.out _ hS.2.2.2).mono ?_; clear HL; intro e w2 hm; obtain ⟨LA, lc, rfl, hl3, b2⟩ := hm.len (tw_len xs |>.trans (by rw [HX.out])); have hS := hS.next b2; have hx3 := rbE_own 3 (tw_len xs |>.trans (by rw [HX.out])) (by omega) hl3; have hz2 := hS.2.2.2.size; clear hm hl3 b2)
    | (at_builtin; refine wpList_append_rows rfl (.tmp 28) (.tmp 32) 22 rfl w.heap.size 49 iE _ 2 32 Try.underlying22 hi hz hs0 hb hc0 (by decide) _ 1 _ rfl (hS.alloc _).1 _ (some ⟨w2.heap.size, 0, none⟩) 1 1 [.int .i64 3, .slice LA (2 * n) lc] rfl rfl (el_one _ _ _ _) (CellsAt.lit w2 _ _ _ rfl) (by unfold maxLen; omega) (by omega) ((hS.alloc _).2.2.2.size) ?_; intro v4 w4 ho4 hb4 hg4; have hS := St.more (x := ⟨3, LA, lc, tw xs⟩) (hS.alloc _) (hx3.keep (KeepU.alloc _ _)) (by rw [show encE (⟨3, LA, lc, tw xs⟩ : El) = [.int .i64 3, .slice LA (2 * n) lc] by simp [encE, tw_len, HX.out]]; exact ho4) hb4 hg4; obtain ⟨A4, c4, rfl⟩ := own_form ho4; have hz4 := hS.2.2.2.size; clear ho4 hb4 hg4 hx3)
    | (go_at_call 10; refine (encode_any _ _ _ _ _ hS.2.1 (by omega) hS.els).mono ?_; intro e w9 hg; obtain ⟨EA, ec, rfl, ho9, hb9⟩ := gives_end hg HR.out hS.2.2.2; clear hg))
  go_ret2
  exact ⟨EA, ec, rfl, ho9, hb9⟩
set_option maxRecDepth 100000 in
set_option maxHeartbeats 4000000 in
theorem build_11 (f : Int) (s : ByteArray) (A : Option Addr) (n c : Nat) (xs : List Int) (w : World) (hf : 0 ≤ f ∧ f ≤ 255) (hs : s.size ≤ 140737488351232) (hx : xs.length = n) (hn : n ≤ 100) (hX : xs ≠ []) (hN : chL s ≠ []) (bx : Words16 xs) (hr : Ints .u16 w w.heap.size A xs) :
    Calls Try.prog 25 #[.int .i64 f, .string s, .slice A n c] w fun e w' => Gives w w' e (buildR f (chL s) xs) := by
  obtain ⟨iE, hi, hz, hs0, hb, hc0⟩ := info_parts2 info_el rfl
  have hcv : ∀ w : World, (convert 9 24 (.string s)).run Try.prog w = .ok (.slice (some ⟨w.heap.size, 0, none⟩) s.size (grownCap w s.size 0 5)) (Lib.bytesWorld w 5 s) := fun w =>
    Lib.run_convert_string_bytes w 9 24 5 s Try.underlying9 Try.underlying24 Try.underlying5
  have e1 : IntKind.u64.wrap f = f := by rw [Ser.wrap_u64]; omega
  have HP : Hid (∀ W : World, Calls Try.prog 30 #[.slice (some ⟨W.heap.size, 0, none⟩) 1 1] (W.alloc (.cells #[.int .i64 1, .int .u64 f] 61)) fun e w' => Gives (W.alloc (.cells #[.int .i64 1, .int .u64 f] 61)) w' e ([f], 0)) := Lib.hid fun W => by
    have := put_any (some ⟨W.heap.size, 0, none⟩) 1 1 [(1, f)] _ (fun g hg => by simp at hg; subst hg; simp; omega) rfl (by omega) (fld_at W 1 f)
    rwa [put_flags (by omega), if_pos (by omega)] at this
  have he : s.toList.isEmpty = false := by rw [is_nil]; simp [hN]
  have HL : Hid (∀ W, Below w.heap.size w W → Calls Try.prog 31 #[.slice A n c] W fun e w' => Base.Makes W w' e (tw xs)) := Lib.hid fun W b => list_any A n c xs W hx (by omega) bx (later hr b)
  have HB : Hid (buildR f (chL s) xs = encR (items f (chL s) xs)) := Lib.hid (build_in _ _ hf)
  have HI := Lib.hid (items_all f hN hX)
  obtain ⟨R, hR⟩ : ∃ R, buildR f (chL s) xs = R := ⟨_, rfl⟩
  have HR : Hid (encR [(1, [f]), (3, tw xs), (9, chL s)] = R) := Lib.hid (by rw [← hR, HB.out, HI.out])
  rw [hR]
  have n0 : 0 < n := by have := mt (List.length_eq_zero_iff (l := xs)).1 ; have := (List.length_eq_zero_iff (l := xs)).2; simp_all; omega
  have HX := Lib.hid hx
  have HS := Lib.hid hs
  clear hR HB HI hX hN hr hx hs bx
  go_enter Try.func25, Try.ntmps25
  go_wp2_with (first
    | (go_at_call 30; refine (HP.out _).mono ?_; clear HP; intro e w1 hg; obtain ⟨PA, pc, rfl, hp, b1⟩ := gives_one hg; have b1 := Base.alloc1 _ _ b1; have hS := St.start b1 1 PA 1 pc [f] rfl hp; have hz1 := b1.size; clear hg hp b1)
    | (go_at_call 31; refine (HL.out _ hS.2.2.2).mono ?_; clear HL; intro e w2 hm; obtain ⟨LA, lc, rfl, hl3, b2⟩ := hm.len (tw_len xs |>.trans (by rw [HX.out])); have hS := hS.next b2; have hx3 := rbE_own 3 (tw_len xs |>.trans (by rw [HX.out])) (by omega) hl3; have hz2 := hS.2.2.2.size; clear hm hl3 b2)
    | (at_builtin; refine wpList_append_rows rfl (.tmp 28) (.tmp 32) 22 rfl w.heap.size 49 iE _ 2 32 Try.underlying22 hi hz hs0 hb hc0 (by decide) _ 1 _ rfl (hS.alloc _).1 _ (some ⟨w2.heap.size, 0, none⟩) 1 1 [.int .i64 3, .slice LA (2 * n) lc] rfl rfl (el_one _ _ _ _) (CellsAt.lit w2 _ _ _ rfl) (by unfold maxLen; omega) (by omega) ((hS.alloc _).2.2.2.size) ?_; intro v4 w4 ho4 hb4 hg4; have hS := St.more (x := ⟨3, LA, lc, tw xs⟩) (hS.alloc _) (hx3.keep (KeepU.alloc _ _)) (by rw [show encE (⟨3, LA, lc, tw xs⟩ : El) = [.int .i64 3, .slice LA (2 * n) lc] by simp [encE, tw_len, HX.out]]; exact ho4) hb4 hg4; obtain ⟨A4, c4, rfl⟩ := own_form ho4; have hz4 := hS.2.2.2.size; clear ho4 hb4 hg4 hx3)
    | (at_builtin; refine wpList_append_rows rfl (.tmp 36) (.tmp 40) 22 rfl w.heap.size 49 iE _ 2 32 Try.underlying22 hi hz hs0 hb hc0 (by decide) _ 2 _ rfl ((hS.next (conv_below _ 5 s)).alloc _).1 _ (some ⟨(Lib.bytesWorld w4 5 s).heap.size, 0, none⟩) 1 1 [.int .i64 9, .slice (some ⟨w4.heap.size, 0, none⟩) s.size (grownCap (w4) s.size 0 5)] rfl rfl (el_one _ _ _ _) (CellsAt.lit _ _ _ _ rfl) (by unfold maxLen; omega) (by omega) (((hS.next (conv_below _ 5 s)).alloc _).2.2.2.size) ?_; intro v5 w5 ho5 hb5 hg5; have hS := St.more (x := ⟨9, _, _, chL s⟩) ((hS.next (conv_below _ 5 s)).alloc _) ((rbE_conv _ s 9 HS.out).keep (KeepU.alloc _ _)) (by rw [show encE (⟨9, _, _, chL s⟩ : El) = [.int .i64 9, .slice (some ⟨w4.heap.size, 0, none⟩) s.size (grownCap (w4) s.size 0 5)] by simp [encE, chL_len]]; exact ho5) hb5 hg5; obtain ⟨A5, c5, rfl⟩ := own_form ho5; have hz5 := hS.2.2.2.size; clear ho5 hb5 hg5)
    | (go_at_call 10; refine (encode_any _ _ _ _ _ hS.2.1 (by omega) hS.els).mono ?_; intro e w9 hg; obtain ⟨EA, ec, rfl, ho9, hb9⟩ := gives_end hg HR.out hS.2.2.2; clear hg))
  go_ret2
  exact ⟨EA, ec, rfl, ho9, hb9⟩
set_option maxRecDepth 100000 in
set_option maxHeartbeats 4000000 in
theorem build_no (f : Int) (s : ByteArray) (A : Option Addr) (n c : Nat) (xs : List Int) (w : World) (bf : -9223372036854775808 ≤ f ∧ f ≤ 9223372036854775807) (hf : ¬ (0 ≤ f ∧ f ≤ 255)) :
    Calls Try.prog 25 #[.int .i64 f, .string s, .slice A n c] w fun e w' => Gives w w' e (buildR f (chL s) xs) := by
  obtain ⟨v, hv⟩ : ∃ v, IntKind.u64.wrap f = v := ⟨_, rfl⟩
  have hv2 : 255 < v ∧ v ≤ 18446744073709551615 := by rw [← hv, Ser.wrap_u64]; omega
  have HP : Hid (∀ W : World, Calls Try.prog 30 #[.slice (some ⟨W.heap.size, 0, none⟩) 1 1] (W.alloc (.cells #[.int .i64 1, .int .u64 v] 61)) fun e w' => Gives (W.alloc (.cells #[.int .i64 1, .int .u64 v] 61)) w' e ([], 5)) := Lib.hid fun W => by
    have := put_any (some ⟨W.heap.size, 0, none⟩) 1 1 [(1, v)] _ (fun g hg => by simp at hg; subst hg; simp; omega) rfl (by omega) (fld_at W 1 v)
    rwa [put_flags (by omega), if_neg (by omega)] at this
  have HB : Hid (buildR f (chL s) xs = ([], 5)) := Lib.hid (build_bad _ _ hf)
  go_enter Try.func25, Try.ntmps25
  go_wp2_with (go_at_call 30; refine (HP.out _).mono ?_; clear HP; intro e w1 hg; obtain ⟨PA, pc, rfl, hp, b1⟩ := hg; have b1 := Base.alloc1 _ _ b1)
  go_ret2
  exact gives_err HB.out rfl b1
theorem build_any (f : Int) (s : ByteArray) (A : Option Addr) (n c : Nat) (xs : List Int) (w : World) (bf : -9223372036854775808 ≤ f ∧ f ≤ 9223372036854775807) (hs : s.size ≤ 140737488351232) (hx : xs.length = n) (hn : n ≤ 100) (bx : Words16 xs) (hr : Ints .u16 w w.heap.size A xs) :
    Calls Try.prog 25 #[.int .i64 f, .string s, .slice A n c] w fun e w' => Gives w w' e (buildR f (chL s) xs) := by
  by_cases hf : 0 ≤ f ∧ f ≤ 255
  · by_cases hX : xs = []
    · by_cases hN : chL s = []
      · exact build_00 f s A n c xs w hf hs hx hn hX hN bx hr
      · exact build_01 f s A n c xs w hf hs hx hn hX hN bx hr
    · by_cases hN : chL s = []
      · exact build_10 f s A n c xs w hf hs hx hn hX hN bx hr
      · exact build_11 f s A n c xs w hf hs hx hn hX hN bx hr
  · exact build_no f s A n c xs w bf hf
end Go.Proofs.Ytpbfnkicbejdbaa.Ad
