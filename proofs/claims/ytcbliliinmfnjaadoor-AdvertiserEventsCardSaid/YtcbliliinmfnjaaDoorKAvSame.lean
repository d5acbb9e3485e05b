/- Advertisers that are equal: contracts over the program. -/
import Derived.Test.YtcbliliinmfnjaaDoorKAvAns
import Derived.Deep.QuietTactic
import Derived.BigQuiet
set_option linter.unusedVariables false
set_option linter.unusedSimpArgs false
namespace Go.Proofs.YtcbliliinmfnjaaDoor.Av
open Go.RowKit Mem Oct Rw Ap Ace Prv
open Base (thenB)

theorem idn_eq' (k b r : Int) (w : World) : (binOp .neq 122 (.agg #[.int .i64 k, .int .u64 b, .int .u64 r]) (.agg #[.int .i64 k, .int .u64 b, .int .u64 r])).run Tryd.prog w = .ok (.bool false) w := by
  go_simp
theorem idn_guard' (k b r k' b' r' : Int) (w : World) (x y : Operand) : (eqGuard .neq 122 x y (.agg #[.int .i64 k, .int .u64 b, .int .u64 r]) (.agg #[.int .i64 k', .int .u64 b', .int .u64 r'])).run Tryd.prog w = .ok () w := by
  go_simp
set_option maxHeartbeats 1000000 in
theorem sameIdn_yes (V V' : Value) (n m m' : Nat) (l : List (Int × Int × Int)) (w : World) (hl : l.length = n) (hn : n ≤ 8796093022208) (hr : Row w m V n (l.flatMap encI)) (hr' : Row w m' V' n (l.flatMap encI)) :
    Calls Tryd.prog 48 #[V, V'] w fun e w' => e = .returned (.bool true) ∧ Below w.heap.size w w' := by
  obtain ⟨A, c, rfl, _, hr⟩ := hr.cells
  obtain ⟨A', c', rfl, _, hr'⟩ := hr'.cells
  have HN := Lib.hid (fun j (h : j < n) => Ace.has hl h)
  have HO : Hid (∀ w', Below w.heap.size w w' → 0 < n → _) := Lib.hid fun w' hb h0 => ListAt.open_ (enc := encI) (CellsAt.below hr hb) sizI (by omega) (by omega)
  have HO' : Hid (∀ w', Below w.heap.size w w' → 0 < n → _) := Lib.hid fun w' hb h0 => ListAt.open_ (enc := encI) (CellsAt.below hr' hb) sizI (by omega) (by omega)
  clear hl hr hr'
  go_enter Tryd.func48, Tryd.ntmps48
  go_wp2_with fail
  go_loopw [5] (fun s5 wr => ∃ j : Nat, j ≤ n ∧ s5 = .int .i64 j ∧ Below w.heap.size w wr) (fun s5 _ => n - (intOf s5).toNat)
  case atStart => exact ⟨0, by omega, rfl, Below.refl _ _⟩
  case round =>
    obtain ⟨j, hj, rfl, hbel⟩ := hrel
    by_cases cj : j < n
    · obtain ⟨x, hxj, hxm⟩ := HN.out j cj
      obtain ⟨b, off, rfl, hbl, hc⟩ := HO.out _ hbel (by omega)
      obtain ⟨b', off', rfl, hbl', hc'⟩ := HO'.out _ hbel (by omega)
      have h0 := hc j x hxj 0 _ rfl
      have h1 := hc j x hxj 1 _ rfl
      have h2 := hc j x hxj 2 _ rfl
      have d0 := hc' j x hxj 0 _ rfl
      have d1 := hc' j x hxj 1 _ rfl
      have d2 := hc' j x hxj 2 _ rfl
      obtain ⟨x1, x2, x3⟩ := x
      simp only [Nat.add_zero] at h0 h1 h2 d0 d1 d2
      have g1 : (0 : Int) ≤ (j : Int) ∧ (j : Int) < (n : Int) := by omega
      clear hc hc' hxj hxm
      have q1 := idn_eq' x1 x2 x3
      have q2 := idn_guard' x1 x2 x3 x1 x2 x3
      go_wp2_with fail
      go_quiet (fail)
      go_wp2_with fail
      go_roundw
      case rel => exact ⟨j + 1, by omega, by go_num, hbel.trans (Ace.quiet_c _ _ _)⟩
      case measure => simp [intOf]; omega
    · obtain rfl : j = n := by omega
      go_wp2_with fail
      go_ret
      exact ⟨rfl, hbel⟩
theorem bytes_yes (V V' : Value) (n m m' : Nat) (l : List Int) (w : World) (hl : l.length = n) (hb : Bytes l) (hr : Row w m V n (l.map (Value.int .u8))) (hr' : Row w m' V' n (l.map (Value.int .u8))) :
    Calls Tryd.prog 21 #[V, V'] w fun e w' => e = .returned (.bool true) ∧ w = w' := by
  obtain ⟨A, c, rfl, _, hr⟩ := hr.ints
  obtain ⟨A', c', rfl, _, hr'⟩ := hr'.ints
  have := Base.same_any A A' n n c c' l l w hl hl hb hb hr hr'
  rwa [show decide (l = l) = true by simp] at this
theorem adrs_yes (V V' : Value) (n m m' : Nat) (l : List (Int × Int)) (w : World) (hl : l.length = n) (hn : n ≤ 8796093022208) (hr : Row w m V n (l.flatMap encA)) (hr' : Row w m' V' n (l.flatMap encA)) :
    Calls Tryd.prog 47 #[V, V'] w fun e w' => e = .returned (.bool true) ∧ Below w.heap.size w w' := by
  obtain ⟨A, c, rfl, _, hr⟩ := hr.cells
  obtain ⟨A', c', rfl, _, hr'⟩ := hr'.cells
  have := Ace.same_any A A' n n c c' l l w hl hl hn hn hr hr'
  rwa [show decide (l = l) = true by simp] at this
set_option maxRecDepth 100000 in
set_option maxHeartbeats 4000000 in
theorem same_adv (a : Ad) (VD VS VA VI UD US UA UI : Value) (m m' : Nat) (w : World) (hW : PW a.p) (hH : Has w m a.p VD VS VA VI) (hH' : Has w m' a.p UD US UA UI) :
    Calls Tryd.prog 17 #[.agg (vcel a VD VS VA VI), .agg (vcel a UD US UA UI)] w fun e w' => e = .returned (.bool true) ∧ Below w.heap.size w w' := by
  have oVD := hH.d.one
  have oVS := hH.s.one
  have oVA := hH.a.one
  have oVI := hH.i.one
  have oUD := hH'.d.one
  have oUS := hH'.s.one
  have oUA := hH'.a.one
  have oUI := hH'.i.one
  have BX : Below w.heap.size w ((w.alloc (.cells #[.int .i64 a.p.k, .int .i64 a.p.it, .int .i64 a.p.ok, .int .u64 a.p.ob, .int .i64 a.p.tk, .int .u64 a.p.tb, VD, VS, .int .i64 a.p.po, VA, VI, .int .u64 a.p.sd, .bool a.on, .int .i64 a.ev, .int .i64 a.nx] 33)).alloc (.cells #[.int .i64 a.p.k, .int .i64 a.p.it, .int .i64 a.p.ok, .int .u64 a.p.ob, .int .i64 a.p.tk, .int .u64 a.p.tb, UD, US, .int .i64 a.p.po, UA, UI, .int .u64 a.p.sd, .bool a.on, .int .i64 a.ev, .int .i64 a.nx] 33)) := ((Below.refl _ _).alloc (Nat.le_refl _) _).alloc (by simp) _
  have K2 : Blk ((w.alloc (.cells #[.int .i64 a.p.k, .int .i64 a.p.it, .int .i64 a.p.ok, .int .u64 a.p.ob, .int .i64 a.p.tk, .int .u64 a.p.tb, VD, VS, .int .i64 a.p.po, VA, VI, .int .u64 a.p.sd, .bool a.on, .int .i64 a.ev, .int .i64 a.nx] 33)).alloc (.cells #[.int .i64 a.p.k, .int .i64 a.p.it, .int .i64 a.p.ok, .int .u64 a.p.ob, .int .i64 a.p.tk, .int .u64 a.p.tb, UD, US, .int .i64 a.p.po, UA, UI, .int .u64 a.p.sd, .bool a.on, .int .i64 a.ev, .int .i64 a.nx] 33)) (w.heap.size) 33 #[.int .i64 a.p.k, .int .i64 a.p.it, .int .i64 a.p.ok, .int .u64 a.p.ob, .int .i64 a.p.tk, .int .u64 a.p.tb, VD, VS, .int .i64 a.p.po, VA, VI, .int .u64 a.p.sd, .bool a.on, .int .i64 a.ev, .int .i64 a.nx] := (Blk.fresh w 33 #[.int .i64 a.p.k, .int .i64 a.p.it, .int .i64 a.p.ok, .int .u64 a.p.ob, .int .i64 a.p.tk, .int .u64 a.p.tb, VD, VS, .int .i64 a.p.po, VA, VI, .int .u64 a.p.sd, .bool a.on, .int .i64 a.ev, .int .i64 a.nx]).alloc _
  have K3 : Blk ((w.alloc (.cells #[.int .i64 a.p.k, .int .i64 a.p.it, .int .i64 a.p.ok, .int .u64 a.p.ob, .int .i64 a.p.tk, .int .u64 a.p.tb, VD, VS, .int .i64 a.p.po, VA, VI, .int .u64 a.p.sd, .bool a.on, .int .i64 a.ev, .int .i64 a.nx] 33)).alloc (.cells #[.int .i64 a.p.k, .int .i64 a.p.it, .int .i64 a.p.ok, .int .u64 a.p.ob, .int .i64 a.p.tk, .int .u64 a.p.tb, UD, US, .int .i64 a.p.po, UA, UI, .int .u64 a.p.sd, .bool a.on, .int .i64 a.ev, .int .i64 a.nx] 33)) (w.heap.size + 1) 33 #[.int .i64 a.p.k, .int .i64 a.p.it, .int .i64 a.p.ok, .int .u64 a.p.ob, .int .i64 a.p.tk, .int .u64 a.p.tb, UD, US, .int .i64 a.p.po, UA, UI, .int .u64 a.p.sd, .bool a.on, .int .i64 a.ev, .int .i64 a.nx] := Av.Blk.next
  have H1 : Hid (∀ X, Below w.heap.size w X → Calls Tryd.prog 21 #[VD, UD] X fun e w' => e = .returned (.bool true) ∧ X = w') := Lib.hid fun X b => bytes_yes VD UD _ m m' a.p.ds X rfl hW.hds (hH.d.below b) (hH'.d.below b)
  have H2 : Hid (∀ X, Below w.heap.size w X → Calls Tryd.prog 21 #[VS, US] X fun e w' => e = .returned (.bool true) ∧ X = w') := Lib.hid fun X b => bytes_yes VS US _ m m' a.p.sc X rfl hW.hsc (hH.s.below b) (hH'.s.below b)
  have H3 : Hid (∀ X, Below w.heap.size w X → Calls Tryd.prog 47 #[VA, UA] X fun e w' => e = .returned (.bool true) ∧ Below X.heap.size X w') := Lib.hid fun X b => adrs_yes VA UA _ m m' a.p.ac X rfl (by have := hW.nac; omega) (hH.a.below b) (hH'.a.below b)
  have H4 : Hid (∀ X, Below w.heap.size w X → Calls Tryd.prog 48 #[VI, UI] X fun e w' => e = .returned (.bool true) ∧ Below X.heap.size X w') := Lib.hid fun X b => sameIdn_yes VI UI _ m m' a.p.ids X rfl (by have := hW.nids; omega) (hH.i.below b) (hH'.i.below b)
  clear hW hH hH'
  go_enter Tryd.func17, Tryd.ntmps17
  go_upto_region 1 with (fail)
  generalize (w.alloc (.cells #[.int .i64 a.p.k, .int .i64 a.p.it, .int .i64 a.p.ok, .int .u64 a.p.ob, .int .i64 a.p.tk, .int .u64 a.p.tb, VD, VS, .int .i64 a.p.po, VA, VI, .int .u64 a.p.sd, .bool a.on, .int .i64 a.ev, .int .i64 a.nx] 33)).alloc (.cells #[.int .i64 a.p.k, .int .i64 a.p.it, .int .i64 a.p.ok, .int .u64 a.p.ob, .int .i64 a.p.tk, .int .u64 a.p.tb, UD, US, .int .i64 a.p.po, UA, UI, .int .u64 a.p.sd, .bool a.on, .int .i64 a.ev, .int .i64 a.nx] 33) = W0 at *
  go_cut [5, 6] from 7 to 10 (fun s5 s6 wx => ∃ g5 g6, s5 = .pointer (some ⟨g5, 0, none⟩) ∧ s6 = .pointer (some ⟨g6, 0, none⟩) ∧ Blk wx (w.heap.size) 33 #[.int .i64 a.p.k, .int .i64 a.p.it, .int .i64 a.p.ok, .int .u64 a.p.ob, .int .i64 a.p.tk, .int .u64 a.p.tb, VD, VS, .int .i64 a.p.po, VA, VI, .int .u64 a.p.sd, .bool a.on, .int .i64 a.ev, .int .i64 a.nx] ∧ Blk wx (w.heap.size + 1) 33 #[.int .i64 a.p.k, .int .i64 a.p.it, .int .i64 a.p.ok, .int .u64 a.p.ob, .int .i64 a.p.tk, .int .u64 a.p.tb, UD, US, .int .i64 a.p.po, UA, UI, .int .u64 a.p.sd, .bool a.on, .int .i64 a.ev, .int .i64 a.nx] ∧ Blk wx g5 29 #[.int .i64 a.p.k, .int .i64 a.p.it, .int .i64 a.p.ok, .int .u64 a.p.ob, .int .i64 a.p.tk, .int .u64 a.p.tb, VD, VS, .int .i64 a.p.po, VA, VI, .int .u64 a.p.sd] ∧ Blk wx g6 29 #[.int .i64 a.p.k, .int .i64 a.p.it, .int .i64 a.p.ok, .int .u64 a.p.ob, .int .i64 a.p.tk, .int .u64 a.p.tb, UD, US, .int .i64 a.p.po, UA, UI, .int .u64 a.p.sd] ∧ Below w.heap.size w wx)
  case first =>
    go_wp2_with fail
    have K2' : Blk W0.drew (w.heap.size) 33 #[.int .i64 a.p.k, .int .i64 a.p.it, .int .i64 a.p.ok, .int .u64 a.p.ob, .int .i64 a.p.tk, .int .u64 a.p.tb, VD, VS, .int .i64 a.p.po, VA, VI, .int .u64 a.p.sd, .bool a.on, .int .i64 a.ev, .int .i64 a.nx] := Mem.Blk.drew K2
    have K3' : Blk W0.drew (w.heap.size + 1) 33 #[.int .i64 a.p.k, .int .i64 a.p.it, .int .i64 a.p.ok, .int .u64 a.p.ob, .int .i64 a.p.tk, .int .u64 a.p.tb, UD, US, .int .i64 a.p.po, UA, UI, .int .u64 a.p.sd, .bool a.on, .int .i64 a.ev, .int .i64 a.nx] := Mem.Blk.drew K3
    refine wp_region_held_drew (S := (fun w' => Blk w' (w.heap.size + 1) 33 #[.int .i64 a.p.k, .int .i64 a.p.it, .int .i64 a.p.ok, .int .u64 a.p.ob, .int .i64 a.p.tk, .int .u64 a.p.tb, UD, US, .int .i64 a.p.po, UA, UI, .int .u64 a.p.sd, .bool a.on, .int .i64 a.ev, .int .i64 a.nx] ∧ Blk w' (w.heap.size) 33 #[.int .i64 a.p.k, .int .i64 a.p.it, .int .i64 a.p.ok, .int .u64 a.p.ob, .int .i64 a.p.tk, .int .u64 a.p.tb, VD, VS, .int .i64 a.p.po, VA, VI, .int .u64 a.p.sd, .bool a.on, .int .i64 a.ev, .int .i64 a.nx])) (by kernel_rfl) ?_ (fun hHeld => ?_)
    · exact ⟨K3', K2'⟩
    replace K2 := K2'
    clear K2'
    replace K3 := K3'
    clear K3'
    replace BX : Below w.heap.size w W0.drew := BX.drew
    generalize W0.drew = X0 at *
    refine wpAnyH_take (i := 0) (v := .pointer (some ⟨w.heap.size, 0, none⟩)) rfl (by kernel_rfl) (by kernel_rfl) (by kernel_rfl) (fun _ _ _ h => h) (Or.inl ⟨by first | rfl | go_simp, by intro w9 hSw; (try dsimp only at hSw); go_simp⟩) (by assumption) ?_
    simp only [List.getElem_toArray, List.getElem_cons_zero, List.getElem_cons_succ, Act.put, List.setIfInBounds_toArray, List.set_cons_zero, List.set_cons_succ]
    refine wpAnyH_take (i := 1) (v := .agg #[.int .i64 a.p.k, .int .i64 a.p.it, .int .i64 a.p.ok, .int .u64 a.p.ob, .int .i64 a.p.tk, .int .u64 a.p.tb, VD, VS, .int .i64 a.p.po, VA, VI, .int .u64 a.p.sd]) rfl (by kernel_rfl) (by kernel_rfl) (by kernel_rfl) (fun _ _ _ h => h) (Av.yields_part (by first | rfl | go_simp) _ _ rfl (w.heap.size) 0 rfl #[.int .i64 a.p.k, .int .i64 a.p.it, .int .i64 a.p.ok, .int .u64 a.p.ob, .int .i64 a.p.tk, .int .u64 a.p.tb, VD, VS, .int .i64 a.p.po, VA, VI, .int .u64 a.p.sd] _ 33 #[.int .i64 a.p.k, .int .i64 a.p.it, .int .i64 a.p.ok, .int .u64 a.p.ob, .int .i64 a.p.tk, .int .u64 a.p.tb, VD, VS, .int .i64 a.p.po, VA, VI, .int .u64 a.p.sd, .bool a.on, .int .i64 a.ev, .int .i64 a.nx] (fun w9 hSw => hSw.2) rfl Tryd.underlying29 rfl (by kernel_rfl)) (by assumption) ?_
    simp only [List.getElem_toArray, List.getElem_cons_zero, List.getElem_cons_succ, Act.put, List.setIfInBounds_toArray, List.set_cons_zero, List.set_cons_succ]
    refine wpAnyH_take (i := 2) (v := .pointer (some ⟨w.heap.size + 1, 0, none⟩)) rfl (by kernel_rfl) (by kernel_rfl) (by kernel_rfl) (fun _ _ _ h => h) (Or.inl ⟨by first | rfl | go_simp, by intro w9 hSw; (try dsimp only at hSw); go_simp⟩) (by assumption) ?_
    simp only [List.getElem_toArray, List.getElem_cons_zero, List.getElem_cons_succ, Act.put, List.setIfInBounds_toArray, List.set_cons_zero, List.set_cons_succ]
    refine wpAnyH_take (i := 3) (v := .agg #[.int .i64 a.p.k, .int .i64 a.p.it, .int .i64 a.p.ok, .int .u64 a.p.ob, .int .i64 a.p.tk, .int .u64 a.p.tb, UD, US, .int .i64 a.p.po, UA, UI, .int .u64 a.p.sd]) rfl (by kernel_rfl) (by kernel_rfl) (by kernel_rfl) (fun _ _ _ h => h) (Av.yields_part (by first | rfl | go_simp) _ _ rfl (w.heap.size + 1) 0 rfl #[.int .i64 a.p.k, .int .i64 a.p.it, .int .i64 a.p.ok, .int .u64 a.p.ob, .int .i64 a.p.tk, .int .u64 a.p.tb, UD, US, .int .i64 a.p.po, UA, UI, .int .u64 a.p.sd] _ 33 #[.int .i64 a.p.k, .int .i64 a.p.it, .int .i64 a.p.ok, .int .u64 a.p.ob, .int .i64 a.p.tk, .int .u64 a.p.tb, UD, US, .int .i64 a.p.po, UA, UI, .int .u64 a.p.sd, .bool a.on, .int .i64 a.ev, .int .i64 a.nx] (fun w9 hSw => hSw.1) rfl Tryd.underlying29 rfl (by kernel_rfl)) (by assumption) ?_
    simp only [List.getElem_toArray, List.getElem_cons_zero, List.getElem_cons_succ, Act.put, List.setIfInBounds_toArray, List.set_cons_zero, List.set_cons_succ]
    refine wpAnyH_ready (rs := [4, 5]) (by kernel_rfl) (by simp) ?_
    refine AllReadyH.cons rfl (fun K hK => ?_) (AllReadyH.cons rfl (fun K hK => ?_) (AllReadyH.nil))
    · skip
      go_simp
      have b9 := (Below.refl X0.heap.size X0).alloc (Nat.le_refl _) (.cells #[.int .i64 0, .int .i64 0, .int .i64 0, .int .u64 0, .int .i64 0, .int .u64 0, .slice none 0 0, .slice none 0 0, .int .i64 0, .slice none 0 0, .slice none 0 0, .int .u64 0] 29)
      have K5 : Blk (X0.alloc (.cells #[.int .i64 0, .int .i64 0, .int .i64 0, .int .u64 0, .int .i64 0, .int .u64 0, .slice none 0 0, .slice none 0 0, .int .i64 0, .slice none 0 0, .slice none 0 0, .int .u64 0] 29)) (X0.heap.size) 29 #[.int .i64 0, .int .i64 0, .int .i64 0, .int .u64 0, .int .i64 0, .int .u64 0, .slice none 0 0, .slice none 0 0, .int .i64 0, .slice none 0 0, .slice none 0 0, .int .u64 0] := Blk.fresh X0 29 #[.int .i64 0, .int .i64 0, .int .i64 0, .int .u64 0, .int .i64 0, .int .u64 0, .slice none 0 0, .slice none 0 0, .int .i64 0, .slice none 0 0, .slice none 0 0, .int .u64 0]
      have lK5 : w.heap.size + 2 ≤ X0.heap.size := K3.lt
      generalize X0.alloc (.cells #[.int .i64 0, .int .i64 0, .int .i64 0, .int .u64 0, .int .i64 0, .int .u64 0, .slice none 0 0, .slice none 0 0, .int .i64 0, .slice none 0 0, .slice none 0 0, .int .u64 0] 29) = X1 at *
      replace K2 := K2.below b9 K2.lt
      replace K3 := K3.below b9 K3.lt
      replace BX := Base.thenB BX b9
      clear b9
      refine hK.out _ _ ⟨K3, K2⟩ (fun hHeld => ?_)
      clear hK K
      try simp only [List.getElem_toArray, List.getElem_cons_zero, List.getElem_cons_succ, Act.put, List.setIfInBounds_toArray, List.set_cons_zero, List.set_cons_succ]
      refine wpAnyH_ready (rs := [5]) (by kernel_rfl) (by simp) ?_
      refine AllReadyH.cons rfl (fun K hK => ?_) (AllReadyH.nil)
      go_simp
      have b9 := (Below.refl X1.heap.size X1).alloc (Nat.le_refl _) (.cells #[.int .i64 0, .int .i64 0, .int .i64 0, .int .u64 0, .int .i64 0, .int .u64 0, .slice none 0 0, .slice none 0 0, .int .i64 0, .slice none 0 0, .slice none 0 0, .int .u64 0] 29)
      have K6 : Blk (X1.alloc (.cells #[.int .i64 0, .int .i64 0, .int .i64 0, .int .u64 0, .int .i64 0, .int .u64 0, .slice none 0 0, .slice none 0 0, .int .i64 0, .slice none 0 0, .slice none 0 0, .int .u64 0] 29)) (X1.heap.size) 29 #[.int .i64 0, .int .i64 0, .int .i64 0, .int .u64 0, .int .i64 0, .int .u64 0, .slice none 0 0, .slice none 0 0, .int .i64 0, .slice none 0 0, .slice none 0 0, .int .u64 0] := Blk.fresh X1 29 #[.int .i64 0, .int .i64 0, .int .i64 0, .int .u64 0, .int .i64 0, .int .u64 0, .slice none 0 0, .slice none 0 0, .int .i64 0, .slice none 0 0, .slice none 0 0, .int .u64 0]
      have lK6 : w.heap.size + 2 ≤ X1.heap.size := K3.lt
      have hne : X0.heap.size < X1.heap.size := K5.lt
      generalize X1.alloc (.cells #[.int .i64 0, .int .i64 0, .int .i64 0, .int .u64 0, .int .i64 0, .int .u64 0, .slice none 0 0, .slice none 0 0, .int .i64 0, .slice none 0 0, .slice none 0 0, .int .u64 0] 29) = X2 at *
      replace K2 := K2.below b9 K2.lt
      replace K3 := K3.below b9 K3.lt
      replace K5 := K5.below b9 K5.lt
      replace BX := Base.thenB BX b9
      clear b9
      refine hK.out _ _ ⟨K3, K2⟩ (fun hHeld => ?_)
      clear hK K
      try simp only [List.getElem_toArray, List.getElem_cons_zero, List.getElem_cons_succ, Act.put, List.setIfInBounds_toArray, List.set_cons_zero, List.set_cons_succ]
      refine wpAnyH_ready (rs := [6]) (by kernel_rfl) (by simp) ?_
      refine AllReadyH.cons rfl (fun K hK => ?_) (AllReadyH.nil)
      have H9 : (#[.int .i64 a.p.k, .int .i64 a.p.it, .int .i64 a.p.ok, .int .u64 a.p.ob, .int .i64 a.p.tk, .int .u64 a.p.tb, VD, VS, .int .i64 a.p.po, VA, VI, .int .u64 a.p.sd] : Array Value).all (·.oneCell') = true := by rw [← Array.all_toList]; simp only [List.all_cons, List.all_nil, oVD, oVS, oVA, oVI, Bool.and_true, Bool.and_self]; rfl
      refine Av.step_store_row rfl 29 (.tmp 5) (.tmp 8) rfl (X0.heap.size) #[.int .i64 a.p.k, .int .i64 a.p.it, .int .i64 a.p.ok, .int .u64 a.p.ob, .int .i64 a.p.tk, .int .u64 a.p.tb, VD, VS, .int .i64 a.p.po, VA, VI, .int .u64 a.p.sd] rfl rfl 29 _ K5 (by kernel_rfl) rfl H9 ?_
      replace K2 : Blk (X2.setRow (X0.heap.size) #[.int .i64 a.p.k, .int .i64 a.p.it, .int .i64 a.p.ok, .int .u64 a.p.ob, .int .i64 a.p.tk, .int .u64 a.p.tb, VD, VS, .int .i64 a.p.po, VA, VI, .int .u64 a.p.sd]) (w.heap.size) 33 #[.int .i64 a.p.k, .int .i64 a.p.it, .int .i64 a.p.ok, .int .u64 a.p.ob, .int .i64 a.p.tk, .int .u64 a.p.tb, VD, VS, .int .i64 a.p.po, VA, VI, .int .u64 a.p.sd, .bool a.on, .int .i64 a.ev, .int .i64 a.nx] := Av.bother_row K2 (by omega)
      replace K3 : Blk (X2.setRow (X0.heap.size) #[.int .i64 a.p.k, .int .i64 a.p.it, .int .i64 a.p.ok, .int .u64 a.p.ob, .int .i64 a.p.tk, .int .u64 a.p.tb, VD, VS, .int .i64 a.p.po, VA, VI, .int .u64 a.p.sd]) (w.heap.size + 1) 33 #[.int .i64 a.p.k, .int .i64 a.p.it, .int .i64 a.p.ok, .int .u64 a.p.ob, .int .i64 a.p.tk, .int .u64 a.p.tb, UD, US, .int .i64 a.p.po, UA, UI, .int .u64 a.p.sd, .bool a.on, .int .i64 a.ev, .int .i64 a.nx] := Av.bother_row K3 (by omega)
      replace K5 : Blk (X2.setRow (X0.heap.size) #[.int .i64 a.p.k, .int .i64 a.p.it, .int .i64 a.p.ok, .int .u64 a.p.ob, .int .i64 a.p.tk, .int .u64 a.p.tb, VD, VS, .int .i64 a.p.po, VA, VI, .int .u64 a.p.sd]) (X0.heap.size) 29 #[.int .i64 a.p.k, .int .i64 a.p.it, .int .i64 a.p.ok, .int .u64 a.p.ob, .int .i64 a.p.tk, .int .u64 a.p.tb, VD, VS, .int .i64 a.p.po, VA, VI, .int .u64 a.p.sd] := Av.bset_row K5
      replace K6 : Blk (X2.setRow (X0.heap.size) #[.int .i64 a.p.k, .int .i64 a.p.it, .int .i64 a.p.ok, .int .u64 a.p.ob, .int .i64 a.p.tk, .int .u64 a.p.tb, VD, VS, .int .i64 a.p.po, VA, VI, .int .u64 a.p.sd]) (X1.heap.size) 29 #[.int .i64 0, .int .i64 0, .int .i64 0, .int .u64 0, .int .i64 0, .int .u64 0, .slice none 0 0, .slice none 0 0, .int .i64 0, .slice none 0 0, .slice none 0 0, .int .u64 0] := Av.bother_row K6 (by omega)
      replace BX : Below w.heap.size w (X2.setRow (X0.heap.size) #[.int .i64 a.p.k, .int .i64 a.p.it, .int .i64 a.p.ok, .int .u64 a.p.ob, .int .i64 a.p.tk, .int .u64 a.p.tb, VD, VS, .int .i64 a.p.po, VA, VI, .int .u64 a.p.sd]) := below_setRow BX (by omega) _
      clear H9
      generalize X2.setRow (X0.heap.size) #[.int .i64 a.p.k, .int .i64 a.p.it, .int .i64 a.p.ok, .int .u64 a.p.ob, .int .i64 a.p.tk, .int .u64 a.p.tb, VD, VS, .int .i64 a.p.po, VA, VI, .int .u64 a.p.sd] = X3 at *
      refine hK.out _ _ ⟨K3, K2⟩ (fun hHeld => ?_)
      clear hK K
      try simp only [List.getElem_toArray, List.getElem_cons_zero, List.getElem_cons_succ, Act.put, List.setIfInBounds_toArray, List.set_cons_zero, List.set_cons_succ]
      refine wpAnyH_ready (rs := [7]) (by kernel_rfl) (by simp) ?_
      refine AllReadyH.cons rfl (fun K hK => ?_) (AllReadyH.nil)
      have H9 : (#[.int .i64 a.p.k, .int .i64 a.p.it, .int .i64 a.p.ok, .int .u64 a.p.ob, .int .i64 a.p.tk, .int .u64 a.p.tb, UD, US, .int .i64 a.p.po, UA, UI, .int .u64 a.p.sd] : Array Value).all (·.oneCell') = true := by rw [← Array.all_toList]; simp only [List.all_cons, List.all_nil, oUD, oUS, oUA, oUI, Bool.and_true, Bool.and_self]; rfl
      refine Av.step_store_row rfl 29 (.tmp 6) (.tmp 10) rfl (X1.heap.size) #[.int .i64 a.p.k, .int .i64 a.p.it, .int .i64 a.p.ok, .int .u64 a.p.ob, .int .i64 a.p.tk, .int .u64 a.p.tb, UD, US, .int .i64 a.p.po, UA, UI, .int .u64 a.p.sd] rfl rfl 29 _ K6 (by kernel_rfl) rfl H9 ?_
      replace K2 : Blk (X3.setRow (X1.heap.size) #[.int .i64 a.p.k, .int .i64 a.p.it, .int .i64 a.p.ok, .int .u64 a.p.ob, .int .i64 a.p.tk, .int .u64 a.p.tb, UD, US, .int .i64 a.p.po, UA, UI, .int .u64 a.p.sd]) (w.heap.size) 33 #[.int .i64 a.p.k, .int .i64 a.p.it, .int .i64 a.p.ok, .int .u64 a.p.ob, .int .i64 a.p.tk, .int .u64 a.p.tb, VD, VS, .int .i64 a.p.po, VA, VI, .int .u64 a.p.sd, .bool a.on, .int .i64 a.ev, .int .i64 a.nx] := Av.bother_row K2 (by omega)
      replace K3 : Blk (X3.setRow (X1.heap.size) #[.int .i64 a.p.k, .int .i64 a.p.it, .int .i64 a.p.ok, .int .u64 a.p.ob, .int .i64 a.p.tk, .int .u64 a.p.tb, UD, US, .int .i64 a.p.po, UA, UI, .int .u64 a.p.sd]) (w.heap.size + 1) 33 #[.int .i64 a.p.k, .int .i64 a.p.it, .int .i64 a.p.ok, .int .u64 a.p.ob, .int .i64 a.p.tk, .int .u64 a.p.tb, UD, US, .int .i64 a.p.po, UA, UI, .int .u64 a.p.sd, .bool a.on, .int .i64 a.ev, .int .i64 a.nx] := Av.bother_row K3 (by omega)
      replace K5 : Blk (X3.setRow (X1.heap.size) #[.int .i64 a.p.k, .int .i64 a.p.it, .int .i64 a.p.ok, .int .u64 a.p.ob, .int .i64 a.p.tk, .int .u64 a.p.tb, UD, US, .int .i64 a.p.po, UA, UI, .int .u64 a.p.sd]) (X0.heap.size) 29 #[.int .i64 a.p.k, .int .i64 a.p.it, .int .i64 a.p.ok, .int .u64 a.p.ob, .int .i64 a.p.tk, .int .u64 a.p.tb, VD, VS, .int .i64 a.p.po, VA, VI, .int .u64 a.p.sd] := Av.bother_row K5 (by omega)
      replace K6 : Blk (X3.setRow (X1.heap.size) #[.int .i64 a.p.k, .int .i64 a.p.it, .int .i64 a.p.ok, .int .u64 a.p.ob, .int .i64 a.p.tk, .int .u64 a.p.tb, UD, US, .int .i64 a.p.po, UA, UI, .int .u64 a.p.sd]) (X1.heap.size) 29 #[.int .i64 a.p.k, .int .i64 a.p.it, .int .i64 a.p.ok, .int .u64 a.p.ob, .int .i64 a.p.tk, .int .u64 a.p.tb, UD, US, .int .i64 a.p.po, UA, UI, .int .u64 a.p.sd] := Av.bset_row K6
      replace BX : Below w.heap.size w (X3.setRow (X1.heap.size) #[.int .i64 a.p.k, .int .i64 a.p.it, .int .i64 a.p.ok, .int .u64 a.p.ob, .int .i64 a.p.tk, .int .u64 a.p.tb, UD, US, .int .i64 a.p.po, UA, UI, .int .u64 a.p.sd]) := below_setRow BX (by omega) _
      clear H9
      generalize X3.setRow (X1.heap.size) #[.int .i64 a.p.k, .int .i64 a.p.it, .int .i64 a.p.ok, .int .u64 a.p.ob, .int .i64 a.p.tk, .int .u64 a.p.tb, UD, US, .int .i64 a.p.po, UA, UI, .int .u64 a.p.sd] = X4 at *
      refine hK.out _ _ ⟨K3, K2⟩ (fun hHeld => ?_)
      clear hK K
      try simp only [List.getElem_toArray, List.getElem_cons_zero, List.getElem_cons_succ, Act.put, List.setIfInBounds_toArray, List.set_cons_zero, List.set_cons_succ]
      refine wpAnyH_done (by kernel_rfl) ?_ _
      go_wp2_with fail
      go_meet
      exact ⟨X0.heap.size, X1.heap.size, rfl, rfl, K2, K3, K5, K6, BX⟩
    · skip
      go_simp
      have b9 := (Below.refl X0.heap.size X0).alloc (Nat.le_refl _) (.cells #[.int .i64 0, .int .i64 0, .int .i64 0, .int .u64 0, .int .i64 0, .int .u64 0, .slice none 0 0, .slice none 0 0, .int .i64 0, .slice none 0 0, .slice none 0 0, .int .u64 0] 29)
      have K6 : Blk (X0.alloc (.cells #[.int .i64 0, .int .i64 0, .int .i64 0, .int .u64 0, .int .i64 0, .int .u64 0, .slice none 0 0, .slice none 0 0, .int .i64 0, .slice none 0 0, .slice none 0 0, .int .u64 0] 29)) (X0.heap.size) 29 #[.int .i64 0, .int .i64 0, .int .i64 0, .int .u64 0, .int .i64 0, .int .u64 0, .slice none 0 0, .slice none 0 0, .int .i64 0, .slice none 0 0, .slice none 0 0, .int .u64 0] := Blk.fresh X0 29 #[.int .i64 0, .int .i64 0, .int .i64 0, .int .u64 0, .int .i64 0, .int .u64 0, .slice none 0 0, .slice none 0 0, .int .i64 0, .slice none 0 0, .slice none 0 0, .int .u64 0]
      have lK6 : w.heap.size + 2 ≤ X0.heap.size := K3.lt
      generalize X0.alloc (.cells #[.int .i64 0, .int .i64 0, .int .i64 0, .int .u64 0, .int .i64 0, .int .u64 0, .slice none 0 0, .slice none 0 0, .int .i64 0, .slice none 0 0, .slice none 0 0, .int .u64 0] 29) = X5 at *
      replace K2 := K2.below b9 K2.lt
      replace K3 := K3.below b9 K3.lt
      replace BX := Base.thenB BX b9
      clear b9
      refine hK.out _ _ ⟨K3, K2⟩ (fun hHeld => ?_)
      clear hK K
      try simp only [List.getElem_toArray, List.getElem_cons_zero, List.getElem_cons_succ, Act.put, List.setIfInBounds_toArray, List.set_cons_zero, List.set_cons_succ]
      refine wpAnyH_ready (rs := [4]) (by kernel_rfl) (by simp) ?_
      refine AllReadyH.cons rfl (fun K hK => ?_) (AllReadyH.nil)
      go_simp
      have b9 := (Below.refl X5.heap.size X5).alloc (Nat.le_refl _) (.cells #[.int .i64 0, .int .i64 0, .int .i64 0, .int .u64 0, .int .i64 0, .int .u64 0, .slice none 0 0, .slice none 0 0, .int .i64 0, .slice none 0 0, .slice none 0 0, .int .u64 0] 29)
      have K5 : Blk (X5.alloc (.cells #[.int .i64 0, .int .i64 0, .int .i64 0, .int .u64 0, .int .i64 0, .int .u64 0, .slice none 0 0, .slice none 0 0, .int .i64 0, .slice none 0 0, .slice none 0 0, .int .u64 0] 29)) (X5.heap.size) 29 #[.int .i64 0, .int .i64 0, .int .i64 0, .int .u64 0, .int .i64 0, .int .u64 0, .slice none 0 0, .slice none 0 0, .int .i64 0, .slice none 0 0, .slice none 0 0, .int .u64 0] := Blk.fresh X5 29 #[.int .i64 0, .int .i64 0, .int .i64 0, .int .u64 0, .int .i64 0, .int .u64 0, .slice none 0 0, .slice none 0 0, .int .i64 0, .slice none 0 0, .slice none 0 0, .int .u64 0]
      have lK5 : w.heap.size + 2 ≤ X5.heap.size := K3.lt
      have hne : X0.heap.size < X5.heap.size := K6.lt
      generalize X5.alloc (.cells #[.int .i64 0, .int .i64 0, .int .i64 0, .int .u64 0, .int .i64 0, .int .u64 0, .slice none 0 0, .slice none 0 0, .int .i64 0, .slice none 0 0, .slice none 0 0, .int .u64 0] 29) = X6 at *
      replace K2 := K2.below b9 K2.lt
      replace K3 := K3.below b9 K3.lt
      replace K6 := K6.below b9 K6.lt
      replace BX := Base.thenB BX b9
      clear b9
      refine hK.out _ _ ⟨K3, K2⟩ (fun hHeld => ?_)
      clear hK K
      try simp only [List.getElem_toArray, List.getElem_cons_zero, List.getElem_cons_succ, Act.put, List.setIfInBounds_toArray, List.set_cons_zero, List.set_cons_succ]
      refine wpAnyH_ready (rs := [6]) (by kernel_rfl) (by simp) ?_
      refine AllReadyH.cons rfl (fun K hK => ?_) (AllReadyH.nil)
      have H9 : (#[.int .i64 a.p.k, .int .i64 a.p.it, .int .i64 a.p.ok, .int .u64 a.p.ob, .int .i64 a.p.tk, .int .u64 a.p.tb, VD, VS, .int .i64 a.p.po, VA, VI, .int .u64 a.p.sd] : Array Value).all (·.oneCell') = true := by rw [← Array.all_toList]; simp only [List.all_cons, List.all_nil, oVD, oVS, oVA, oVI, Bool.and_true, Bool.and_self]; rfl
      refine Av.step_store_row rfl 29 (.tmp 5) (.tmp 8) rfl (X5.heap.size) #[.int .i64 a.p.k, .int .i64 a.p.it, .int .i64 a.p.ok, .int .u64 a.p.ob, .int .i64 a.p.tk, .int .u64 a.p.tb, VD, VS, .int .i64 a.p.po, VA, VI, .int .u64 a.p.sd] rfl rfl 29 _ K5 (by kernel_rfl) rfl H9 ?_
      replace K2 : Blk (X6.setRow (X5.heap.size) #[.int .i64 a.p.k, .int .i64 a.p.it, .int .i64 a.p.ok, .int .u64 a.p.ob, .int .i64 a.p.tk, .int .u64 a.p.tb, VD, VS, .int .i64 a.p.po, VA, VI, .int .u64 a.p.sd]) (w.heap.size) 33 #[.int .i64 a.p.k, .int .i64 a.p.it, .int .i64 a.p.ok, .int .u64 a.p.ob, .int .i64 a.p.tk, .int .u64 a.p.tb, VD, VS, .int .i64 a.p.po, VA, VI, .int .u64 a.p.sd, .bool a.on, .int .i64 a.ev, .int .i64 a.nx] := Av.bother_row K2 (by omega)
      replace K3 : Blk (X6.setRow (X5.heap.size) #[.int .i64 a.p.k, .int .i64 a.p.it, .int .i64 a.p.ok, .int .u64 a.p.ob, .int .i64 a.p.tk, .int .u64 a.p.tb, VD, VS, .int .i64 a.p.po, VA, VI, .int .u64 a.p.sd]) (w.heap.size + 1) 33 #[.int .i64 a.p.k, .int .i64 a.p.it, .int .i64 a.p.ok, .int .u64 a.p.ob, .int .i64 a.p.tk, .int .u64 a.p.tb, UD, US, .int .i64 a.p.po, UA, UI, .int .u64 a.p.sd, .bool a.on, .int .i64 a.ev, .int .i64 a.nx] := Av.bother_row K3 (by omega)
      replace K6 : Blk (X6.setRow (X5.heap.size) #[.int .i64 a.p.k, .int .i64 a.p.it, .int .i64 a.p.ok, .int .u64 a.p.ob, .int .i64 a.p.tk, .int .u64 a.p.tb, VD, VS, .int .i64 a.p.po, VA, VI, .int .u64 a.p.sd]) (X0.heap.size) 29 #[.int .i64 0, .int .i64 0, .int .i64 0, .int .u64 0, .int .i64 0, .int .u64 0, .slice none 0 0, .slice none 0 0, .int .i64 0, .slice none 0 0, .slice none 0 0, .int .u64 0] := Av.bother_row K6 (by omega)
      replace K5 : Blk (X6.setRow (X5.heap.size) #[.int .i64 a.p.k, .int .i64 a.p.it, .int .i64 a.p.ok, .int .u64 a.p.ob, .int .i64 a.p.tk, .int .u64 a.p.tb, VD, VS, .int .i64 a.p.po, VA, VI, .int .u64 a.p.sd]) (X5.heap.size) 29 #[.int .i64 a.p.k, .int .i64 a.p.it, .int .i64 a.p.ok, .int .u64 a.p.ob, .int .i64 a.p.tk, .int .u64 a.p.tb, VD, VS, .int .i64 a.p.po, VA, VI, .int .u64 a.p.sd] := Av.bset_row K5
      replace BX : Below w.heap.size w (X6.setRow (X5.heap.size) #[.int .i64 a.p.k, .int .i64 a.p.it, .int .i64 a.p.ok, .int .u64 a.p.ob, .int .i64 a.p.tk, .int .u64 a.p.tb, VD, VS, .int .i64 a.p.po, VA, VI, .int .u64 a.p.sd]) := below_setRow BX (by omega) _
      clear H9
      generalize X6.setRow (X5.heap.size) #[.int .i64 a.p.k, .int .i64 a.p.it, .int .i64 a.p.ok, .int .u64 a.p.ob, .int .i64 a.p.tk, .int .u64 a.p.tb, VD, VS, .int .i64 a.p.po, VA, VI, .int .u64 a.p.sd] = X7 at *
      refine hK.out _ _ ⟨K3, K2⟩ (fun hHeld => ?_)
      clear hK K
      try simp only [List.getElem_toArray, List.getElem_cons_zero, List.getElem_cons_succ, Act.put, List.setIfInBounds_toArray, List.set_cons_zero, List.set_cons_succ]
      refine wpAnyH_ready (rs := [7]) (by kernel_rfl) (by simp) ?_
      refine AllReadyH.cons rfl (fun K hK => ?_) (AllReadyH.nil)
      have H9 : (#[.int .i64 a.p.k, .int .i64 a.p.it, .int .i64 a.p.ok, .int .u64 a.p.ob, .int .i64 a.p.tk, .int .u64 a.p.tb, UD, US, .int .i64 a.p.po, UA, UI, .int .u64 a.p.sd] : Array Value).all (·.oneCell') = true := by rw [← Array.all_toList]; simp only [List.all_cons, List.all_nil, oUD, oUS, oUA, oUI, Bool.and_true, Bool.and_self]; rfl
      refine Av.step_store_row rfl 29 (.tmp 6) (.tmp 10) rfl (X0.heap.size) #[.int .i64 a.p.k, .int .i64 a.p.it, .int .i64 a.p.ok, .int .u64 a.p.ob, .int .i64 a.p.tk, .int .u64 a.p.tb, UD, US, .int .i64 a.p.po, UA, UI, .int .u64 a.p.sd] rfl rfl 29 _ K6 (by kernel_rfl) rfl H9 ?_
      replace K2 : Blk (X7.setRow (X0.heap.size) #[.int .i64 a.p.k, .int .i64 a.p.it, .int .i64 a.p.ok, .int .u64 a.p.ob, .int .i64 a.p.tk, .int .u64 a.p.tb, UD, US, .int .i64 a.p.po, UA, UI, .int .u64 a.p.sd]) (w.heap.size) 33 #[.int .i64 a.p.k, .int .i64 a.p.it, .int .i64 a.p.ok, .int .u64 a.p.ob, .int .i64 a.p.tk, .int .u64 a.p.tb, VD, VS, .int .i64 a.p.po, VA, VI, .int .u64 a.p.sd, .bool a.on, .int .i64 a.ev, .int .i64 a.nx] := Av.bother_row K2 (by omega)
      replace K3 : Blk (X7.setRow (X0.heap.size) #[.int .i64 a.p.k, .int .i64 a.p.it, .int .i64 a.p.ok, .int .u64 a.p.ob, .int .i64 a.p.tk, .int .u64 a.p.tb, UD, US, .int .i64 a.p.po, UA, UI, .int .u64 a.p.sd]) (w.heap.size + 1) 33 #[.int .i64 a.p.k, .int .i64 a.p.it, .int .i64 a.p.ok, .int .u64 a.p.ob, .int .i64 a.p.tk, .int .u64 a.p.tb, UD, US, .int .i64 a.p.po, UA, UI, .int .u64 a.p.sd, .bool a.on, .int .i64 a.ev, .int .i64 a.nx] := Av.bother_row K3 (by omega)
      replace K6 : Blk (X7.setRow (X0.heap.size) #[.int .i64 a.p.k, .int .i64 a.p.it, .int .i64 a.p.ok, .int .u64 a.p.ob, .int .i64 a.p.tk, .int .u64 a.p.tb, UD, US, .int .i64 a.p.po, UA, UI, .int .u64 a.p.sd]) (X0.heap.size) 29 #[.int .i64 a.p.k, .int .i64 a.p.it, .int .i64 a.p.ok, .int .u64 a.p.ob, .int .i64 a.p.tk, .int .u64 a.p.tb, UD, US, .int .i64 a.p.po, UA, UI, .int .u64 a.p.sd] := Av.bset_row K6
      replace K5 : Blk (X7.setRow (X0.heap.size) #[.int .i64 a.p.k, .int .i64 a.p.it, .int .i64 a.p.ok, .int .u64 a.p.ob, .int .i64 a.p.tk, .int .u64 a.p.tb, UD, US, .int .i64 a.p.po, UA, UI, .int .u64 a.p.sd]) (X5.heap.size) 29 #[.int .i64 a.p.k, .int .i64 a.p.it, .int .i64 a.p.ok, .int .u64 a.p.ob, .int .i64 a.p.tk, .int .u64 a.p.tb, VD, VS, .int .i64 a.p.po, VA, VI, .int .u64 a.p.sd] := Av.bother_row K5 (by omega)
      replace BX : Below w.heap.size w (X7.setRow (X0.heap.size) #[.int .i64 a.p.k, .int .i64 a.p.it, .int .i64 a.p.ok, .int .u64 a.p.ob, .int .i64 a.p.tk, .int .u64 a.p.tb, UD, US, .int .i64 a.p.po, UA, UI, .int .u64 a.p.sd]) := below_setRow BX (by omega) _
      clear H9
      generalize X7.setRow (X0.heap.size) #[.int .i64 a.p.k, .int .i64 a.p.it, .int .i64 a.p.ok, .int .u64 a.p.ob, .int .i64 a.p.tk, .int .u64 a.p.tb, UD, US, .int .i64 a.p.po, UA, UI, .int .u64 a.p.sd] = X8 at *
      refine hK.out _ _ ⟨K3, K2⟩ (fun hHeld => ?_)
      clear hK K
      try simp only [List.getElem_toArray, List.getElem_cons_zero, List.getElem_cons_succ, Act.put, List.setIfInBounds_toArray, List.set_cons_zero, List.set_cons_succ]
      refine wpAnyH_done (by kernel_rfl) ?_ _
      go_wp2_with fail
      go_meet
      exact ⟨X5.heap.size, X0.heap.size, rfl, rfl, K2, K3, K5, K6, BX⟩
  case rest =>
    clear K2 K3 BX
    obtain ⟨g5, g6, rfl, rfl, K2, K3, K5, K6, BX⟩ := hcut
    generalize wc = W1 at *
    have c0 := K5.cell 0
    have c1 := K5.cell 1
    have c2 := K5.cell 2
    have c3 := K5.cell 3
    have c4 := K5.cell 4
    have c5 := K5.cell 5
    have c6 := K5.cell 6
    have c7 := K5.cell 7
    have c8 := K5.cell 8
    have c9 := K5.cell 9
    have c10 := K5.cell 10
    have c11 := K5.cell 11
    have d0 := K6.cell 0
    have d1 := K6.cell 1
    have d2 := K6.cell 2
    have d3 := K6.cell 3
    have d4 := K6.cell 4
    have d5 := K6.cell 5
    have d6 := K6.cell 6
    have d7 := K6.cell 7
    have d8 := K6.cell 8
    have d9 := K6.cell 9
    have d10 := K6.cell 10
    have d11 := K6.cell 11
    have q1 := Ace.adr_eq' a.p.ok a.p.ob
    have q2 := Ace.adr_guard' a.p.ok a.p.ob a.p.ok a.p.ob
    have q3 := Ace.adr_eq' a.p.tk a.p.tb
    have q4 := Ace.adr_guard' a.p.tk a.p.tb a.p.tk a.p.tb
    go_wp2_with (first
      | (refine (H1.out _ BX).mono ?_; rintro e w1 ⟨rfl, rfl⟩)
      | (refine (H2.out _ BX).mono ?_; rintro e w1 ⟨rfl, rfl⟩))
    refine (H3.out _ BX).mono ?_
    rintro e W2 ⟨rfl, b2⟩
    replace BX := thenB BX b2
    replace K2 := K2.below b2 K2.lt
    replace K3 := K3.below b2 K3.lt
    replace K5 := K5.below b2 K5.lt
    replace K6 := K6.below b2 K6.lt
    clear b2
    clear c0 d0 c1 d1 c2 d2 c3 d3 c4 d4 c5 d5 c6 d6 c7 d7 c8 d8 c9 d9 c10 d10 c11 d11
    have c0 := K5.cell 0
    have c1 := K5.cell 1
    have c2 := K5.cell 2
    have c3 := K5.cell 3
    have c4 := K5.cell 4
    have c5 := K5.cell 5
    have c6 := K5.cell 6
    have c7 := K5.cell 7
    have c8 := K5.cell 8
    have c9 := K5.cell 9
    have c10 := K5.cell 10
    have c11 := K5.cell 11
    have d0 := K6.cell 0
    have d1 := K6.cell 1
    have d2 := K6.cell 2
    have d3 := K6.cell 3
    have d4 := K6.cell 4
    have d5 := K6.cell 5
    have d6 := K6.cell 6
    have d7 := K6.cell 7
    have d8 := K6.cell 8
    have d9 := K6.cell 9
    have d10 := K6.cell 10
    have d11 := K6.cell 11
    go_wp2_with fail
    refine (H4.out _ BX).mono ?_
    rintro e W3 ⟨rfl, b3⟩
    replace BX := thenB BX b3
    replace K2 := K2.below b3 K2.lt
    replace K3 := K3.below b3 K3.lt
    replace K5 := K5.below b3 K5.lt
    replace K6 := K6.below b3 K6.lt
    clear b3
    clear c0 d0 c1 d1 c2 d2 c3 d3 c4 d4 c5 d5 c6 d6 c7 d7 c8 d8 c9 d9 c10 d10 c11 d11
    have c12 := K2.cell 12
    have c13 := K2.cell 13
    have c14 := K2.cell 14
    have d12 := K3.cell 12
    have d13 := K3.cell 13
    have d14 := K3.cell 14
    go_wp2_with fail
    go_ret
    exact ⟨by simp, BX⟩
end Go.Proofs.YtcbliliinmfnjaaDoor.Av
