/- Settings in memory of their own: contracts over the program. -/
import Derived.Test.YtcbliliinmfnjaaDoorKAvAns
import Derived.Test.YtcbliliinmfnjaaDoorKAirOwn0
set_option linter.unusedVariables false
set_option linter.unusedSimpArgs false
namespace Go.Proofs.YtcbliliinmfnjaaDoor.Av
open Go.RowKit Mem Oct Rw Ap Ace Prv
open Base (thenB)
open List (getElem_toArray getElem_cons_zero getElem_cons_succ setIfInBounds_toArray set_cons_zero set_cons_succ)

theorem Row.of_new {w : World} {base m c : Nat} {A : Option Addr} {ys : List Value} (hc : m ≤ c) (h : NewAt w base A ys) : Row w base (.slice A m c) m ys := by
  refine ⟨A, c, rfl, hc, ?_⟩
  rcases h with h | ⟨g, e, hl, hg, hq⟩
  · exact .inl h
  · exact .inr ⟨g, 0, e, hl, hg, fun q u hu => by rw [Nat.zero_add]; exact hq q u hu⟩
theorem ap_b {ops : Array Oper} {o : Oper} {a : Act} {w : World} {K : Act → World → Prop} {Q : Exit → Act → World → Prop} {E : Prop} {B : Nat} (hgd : o.guard = none) (s x : Operand)
    (ho : o.op = .call { callee := .builtin .append, args := #[s, x], argTypes := #[25, 25] }) (A0 : Option Addr) (hs : a.eval s = .slice A0 0 0)
    (A : Option Addr) (m c : Nat) (l : List Int) (hx : a.eval x = .slice A m c) (hm : l.length = m) (hr : CellsAt w B A (l.map (Value.int .u8))) (hn : m ≤ 140737488351232)
    (h : ∀ A' c' w', m ≤ c' → NewAt w' w.heap.size A' (l.map (Value.int .u8)) → Below w.heap.size w w' → K (a.put o.dst (.slice A' m c')) w') :
    if Region.wanted o (yielded ops a.tmps) = true then Oper.wp Tryd.prog o a w K Q else E := by
  obtain ⟨iE, hi, hz, hs1, hb, hc⟩ := Ace.info_parts2 Base.info_u8 rfl
  exact step_append_empty hgd s x 25 ho 5 iE _ 1 1 Tryd.underlying25 hi hz hs1 hb hc (by decide) A0 hs B A m c (l.map (Value.int .u8)) hx (by simpa using hm) (by intro u hu; simp at hu; obtain ⟨z, _, rfl⟩ := hu; rfl) hr (by unfold maxLen; omega) (by omega) h
theorem ap_a {ops : Array Oper} {o : Oper} {a : Act} {w : World} {K : Act → World → Prop} {Q : Exit → Act → World → Prop} {E : Prop} {B : Nat} (hgd : o.guard = none) (s x : Operand)
    (ho : o.op = .call { callee := .builtin .append, args := #[s, x], argTypes := #[26, 26] }) (A0 : Option Addr) (hs : a.eval s = .slice A0 0 0)
    (A : Option Addr) (m c : Nat) (l : List (Int × Int)) (hx : a.eval x = .slice A m c) (hm : l.length = m) (hr : CellsAt w B A (l.flatMap encA)) (hn : m ≤ 8796093022200)
    (h : ∀ A' c' w', m ≤ c' → NewAt w' w.heap.size A' (l.flatMap encA) → Below w.heap.size w w' → K (a.put o.dst (.slice A' m c')) w') :
    if Region.wanted o (yielded ops a.tmps) = true then Oper.wp Tryd.prog o a w K Q else E := by
  obtain ⟨iE, hi, hz, hs1, hb, hc⟩ := Ace.info_parts2 info_adr rfl
  exact step_append_empty hgd s x 26 ho 24 iE _ 2 16 Tryd.underlying26 hi hz hs1 hb hc (by decide) A0 hs B A m c (l.flatMap encA) hx (by rw [flat_len sizA, hm]) (flat_one sizA _) hr (by unfold maxLen; omega) (by omega) h
theorem ap_i {ops : Array Oper} {o : Oper} {a : Act} {w : World} {K : Act → World → Prop} {Q : Exit → Act → World → Prop} {E : Prop} {B : Nat} (hgd : o.guard = none) (s x : Operand)
    (ho : o.op = .call { callee := .builtin .append, args := #[s, x], argTypes := #[27, 27] }) (A0 : Option Addr) (hs : a.eval s = .slice A0 0 0)
    (A : Option Addr) (m c : Nat) (l : List (Int × Int × Int)) (hx : a.eval x = .slice A m c) (hm : l.length = m) (hr : CellsAt w B A (l.flatMap encI)) (hn : m ≤ 5864062014800)
    (h : ∀ A' c' w', m ≤ c' → NewAt w' w.heap.size A' (l.flatMap encI) → Below w.heap.size w w' → K (a.put o.dst (.slice A' m c')) w') :
    if Region.wanted o (yielded ops a.tmps) = true then Oper.wp Tryd.prog o a w K Q else E := by
  obtain ⟨iE, hi, hz, hs1, hb, hc⟩ := Ace.info_parts2 info_idn rfl
  exact step_append_empty hgd s x 27 ho 122 iE _ 3 24 Tryd.underlying27 hi hz hs1 hb hc (by decide) A0 hs B A m c (l.flatMap encI) hx (by rw [flat_len sizI, hm]) (flat_one sizI _) hr (by unfold maxLen; omega) (by omega) h
/-- Settings whose lists are new memory. -/
def PmR (w w' : World) (e : Ending) (p : Pm) : Prop := ∃ VD VS VA VI, e = .returned (.agg (pcel p VD VS VA VI)) ∧ Has w' w.heap.size p VD VS VA VI ∧ Below w.heap.size w w'
set_option maxRecDepth 100000 in
set_option maxHeartbeats 4000000 in
theorem own_any (p : Pm) (VD VS VA VI : Value) (m : Nat) (w : World) (hW : PW p) (hH : Has w m p VD VS VA VI) :
    Calls Tryd.prog 15 #[.agg (pcel p VD VS VA VI)] w fun e w' => PmR w w' e p := by
  obtain ⟨AD, cD, rfl, _, hD⟩ := hH.d.cells
  obtain ⟨AS, cS, rfl, _, hS⟩ := hH.s.cells
  obtain ⟨AA, cA, rfl, _, hA⟩ := hH.a.cells
  obtain ⟨AI, cI, rfl, _, hI⟩ := hH.i.cells
  have HD := Lib.hid hD
  have HS := Lib.hid hS
  have HA := Lib.hid hA
  have HI := Lib.hid hI
  have n1 := hW.nds
  have n2 := hW.nsc
  have n3 := hW.nac
  have n4 := hW.nids
  obtain ⟨iEu8, hiu8, hzu8, hsu8, hbu8, hcu8⟩ := Ace.info_parts2 Base.info_u8 rfl
  obtain ⟨iEadr, hiadr, hzadr, hsadr, hbadr, hcadr⟩ := Ace.info_parts2 info_adr rfl
  obtain ⟨iEidn, hiidn, hzidn, hsidn, hbidn, hcidn⟩ := Ace.info_parts2 info_idn rfl
  have BX : Below w.heap.size w ((w.alloc (.cells #[.int .i64 p.k, .int .i64 p.it, .int .i64 p.ok, .int .u64 p.ob, .int .i64 p.tk, .int .u64 p.tb, .slice AD p.ds.length cD, .slice AS p.sc.length cS, .int .i64 p.po, .slice AA p.ac.length cA, .slice AI p.ids.length cI, .int .u64 p.sd] 29)).alloc (.cells #[.int .i64 0, .int .i64 0, .int .i64 0, .int .u64 0, .int .i64 0, .int .u64 0, .slice none 0 0, .slice none 0 0, .int .i64 0, .slice none 0 0, .slice none 0 0, .int .u64 0] 29)) := ((Below.refl _ _).alloc (Nat.le_refl _) _).alloc (by simp) _
  have K1 : Blk ((w.alloc (.cells #[.int .i64 p.k, .int .i64 p.it, .int .i64 p.ok, .int .u64 p.ob, .int .i64 p.tk, .int .u64 p.tb, .slice AD p.ds.length cD, .slice AS p.sc.length cS, .int .i64 p.po, .slice AA p.ac.length cA, .slice AI p.ids.length cI, .int .u64 p.sd] 29)).alloc (.cells #[.int .i64 0, .int .i64 0, .int .i64 0, .int .u64 0, .int .i64 0, .int .u64 0, .slice none 0 0, .slice none 0 0, .int .i64 0, .slice none 0 0, .slice none 0 0, .int .u64 0] 29)) (w.heap.size) 29 #[.int .i64 p.k, .int .i64 p.it, .int .i64 p.ok, .int .u64 p.ob, .int .i64 p.tk, .int .u64 p.tb, .slice AD p.ds.length cD, .slice AS p.sc.length cS, .int .i64 p.po, .slice AA p.ac.length cA, .slice AI p.ids.length cI, .int .u64 p.sd] := (Blk.fresh w 29 #[.int .i64 p.k, .int .i64 p.it, .int .i64 p.ok, .int .u64 p.ob, .int .i64 p.tk, .int .u64 p.tb, .slice AD p.ds.length cD, .slice AS p.sc.length cS, .int .i64 p.po, .slice AA p.ac.length cA, .slice AI p.ids.length cI, .int .u64 p.sd]).alloc _
  have K2 : Blk ((w.alloc (.cells #[.int .i64 p.k, .int .i64 p.it, .int .i64 p.ok, .int .u64 p.ob, .int .i64 p.tk, .int .u64 p.tb, .slice AD p.ds.length cD, .slice AS p.sc.length cS, .int .i64 p.po, .slice AA p.ac.length cA, .slice AI p.ids.length cI, .int .u64 p.sd] 29)).alloc (.cells #[.int .i64 0, .int .i64 0, .int .i64 0, .int .u64 0, .int .i64 0, .int .u64 0, .slice none 0 0, .slice none 0 0, .int .i64 0, .slice none 0 0, .slice none 0 0, .int .u64 0] 29)) (w.heap.size + 1) 29 #[.int .i64 0, .int .i64 0, .int .i64 0, .int .u64 0, .int .i64 0, .int .u64 0, .slice none 0 0, .slice none 0 0, .int .i64 0, .slice none 0 0, .slice none 0 0, .int .u64 0] := Av.Blk.next
  clear hW hH hD hS hA hI
  go_enter Tryd.func15, Tryd.ntmps15
  go_upto_region 1 with (fail)
  generalize (w.alloc (.cells #[.int .i64 p.k, .int .i64 p.it, .int .i64 p.ok, .int .u64 p.ob, .int .i64 p.tk, .int .u64 p.tb, .slice AD p.ds.length cD, .slice AS p.sc.length cS, .int .i64 p.po, .slice AA p.ac.length cA, .slice AI p.ids.length cI, .int .u64 p.sd] 29)).alloc (.cells #[.int .i64 0, .int .i64 0, .int .i64 0, .int .u64 0, .int .i64 0, .int .u64 0, .slice none 0 0, .slice none 0 0, .int .i64 0, .slice none 0 0, .slice none 0 0, .int .u64 0] 29) = W0 at *
  go_cut [] from 3 to 12 (fun wx => ∃ D1 d1 S1 s1, Blk wx (w.heap.size) 29 #[.int .i64 p.k, .int .i64 p.it, .int .i64 p.ok, .int .u64 p.ob, .int .i64 p.tk, .int .u64 p.tb, .slice D1 p.ds.length d1, .slice S1 p.sc.length s1, .int .i64 p.po, .slice AA p.ac.length cA, .slice AI p.ids.length cI, .int .u64 p.sd] ∧ Blk wx (w.heap.size + 1) 29 #[.int .i64 0, .int .i64 0, .int .i64 0, .int .u64 0, .int .i64 0, .int .u64 0, .slice none 0 0, .slice none 0 0, .int .i64 0, .slice none 0 0, .slice none 0 0, .int .u64 0] ∧ Row wx (w.heap.size + 2) (.slice D1 p.ds.length d1) p.ds.length (p.ds.map (Value.int .u8)) ∧ Row wx (w.heap.size + 2) (.slice S1 p.sc.length s1) p.sc.length (p.sc.map (Value.int .u8)) ∧ Below w.heap.size w wx)
  case first =>
    go_wp2_with fail
    have K1' : Blk W0.drew (w.heap.size) 29 #[.int .i64 p.k, .int .i64 p.it, .int .i64 p.ok, .int .u64 p.ob, .int .i64 p.tk, .int .u64 p.tb, .slice AD p.ds.length cD, .slice AS p.sc.length cS, .int .i64 p.po, .slice AA p.ac.length cA, .slice AI p.ids.length cI, .int .u64 p.sd] := Mem.Blk.drew K1
    have K2' : Blk W0.drew (w.heap.size + 1) 29 #[.int .i64 0, .int .i64 0, .int .i64 0, .int .u64 0, .int .i64 0, .int .u64 0, .slice none 0 0, .slice none 0 0, .int .i64 0, .slice none 0 0, .slice none 0 0, .int .u64 0] := Mem.Blk.drew K2
    refine wp_region_held_drew (S := (fun _ => True)) (by kernel_rfl) ?_ (fun hHeld => ?_)
    · exact trivial
    replace K1 := K1'
    clear K1'
    replace K2 := K2'
    clear K2'
    replace BX : Below w.heap.size w W0.drew := BX.drew
    generalize W0.drew = X0 at *
    refine wpAnyH_take (i := 1) (v := .pointer (some ⟨w.heap.size, 6, none⟩)) rfl (by kernel_rfl) (by kernel_rfl) (by kernel_rfl) (fun _ _ _ h => h) (Or.inl ⟨by first | rfl | go_simp, by intro w9 hSw; (try dsimp only at hSw); go_simp⟩) (by assumption) ?_
    simp only [getElem_toArray, getElem_cons_zero, getElem_cons_succ, Act.put, setIfInBounds_toArray, set_cons_zero, set_cons_succ]
    refine wpAnyH_take (i := 5) (v := .pointer (some ⟨w.heap.size, 7, none⟩)) rfl (by kernel_rfl) (by kernel_rfl) (by kernel_rfl) (fun _ _ _ h => h) (Or.inl ⟨by first | rfl | go_simp, by intro w9 hSw; (try dsimp only at hSw); go_simp⟩) (by assumption) ?_
    simp only [getElem_toArray, getElem_cons_zero, getElem_cons_succ, Act.put, setIfInBounds_toArray, set_cons_zero, set_cons_succ]
    refine wpAnyH_ready (rs := [0, 2, 4, 6]) (by kernel_rfl) (by simp) ?_
    refine AllReadyH.cons rfl (fun K hK => ?n1) (AllReadyH.cons rfl (fun K hK => ?n2) (AllReadyH.cons rfl (fun K hK => ?n3) (AllReadyH.cons rfl (fun K hK => ?n4) (AllReadyH.nil))))
    case' n1 =>
     go_simp
     have b9 := (Below.refl X0.heap.size X0).alloc (Nat.le_refl _) (.cells #[] 5)
     generalize X0.alloc (.cells #[] 5) = X1 at *
     replace K1 := K1.below b9 K1.lt
     replace K2 := K2.below b9 K2.lt
     replace BX := Base.thenB BX b9
     clear b9
     refine hK.out _ _ trivial (fun hHeld => ?_)
     clear hK K
     try simp only [getElem_toArray, getElem_cons_zero, getElem_cons_succ, Act.put, setIfInBounds_toArray, set_cons_zero, set_cons_succ]
     refine wpAnyH_ready (rs := [2, 4, 6]) (by kernel_rfl) (by simp) ?_
     refine AllReadyH.cons rfl (fun K hK => ?n5) (AllReadyH.cons rfl (fun K hK => ?n6) (AllReadyH.cons rfl (fun K hK => ?n7) (AllReadyH.nil)))
     case' n5 =>
      have c90 := K1.cell 6
      go_simp
      clear c90
      refine hK.out _ _ trivial (fun hHeld => ?_)
      clear hK K
      try simp only [getElem_toArray, getElem_cons_zero, getElem_cons_succ, Act.put, setIfInBounds_toArray, set_cons_zero, set_cons_succ]
      refine wpAnyH_ready (rs := [3, 4, 6]) (by kernel_rfl) (by simp) ?_
      refine AllReadyH.cons rfl (fun K hK => ?n8) (AllReadyH.cons rfl (fun K hK => ?n9) (AllReadyH.cons rfl (fun K hK => ?n10) (AllReadyH.nil)))
      case' n8 =>
       refine ap_b rfl _ _ rfl _ rfl AD p.ds.length cD p.ds rfl rfl (CellsAt.below HD.out BX) n1 ?_
       intro D1 d1 X2 hc9 RD b9
       replace RD := (Row.of_new hc9 RD).less (show w.heap.size + 2 ≤ X1.heap.size from K2.lt)
       clear hc9
       have oRD := RD.one
       replace K1 := K1.below b9 K1.lt
       replace K2 := K2.below b9 K2.lt
       replace BX := Base.thenB BX b9
       clear b9
       refine hK.out _ _ trivial (fun hHeld => ?_)
       clear hK K
       try simp only [getElem_toArray, getElem_cons_zero, getElem_cons_succ, Act.put, setIfInBounds_toArray, set_cons_zero, set_cons_succ]
       refine wpAnyH_ready (rs := [4, 6]) (by kernel_rfl) (by simp) ?_
       refine AllReadyH.cons rfl (fun K hK => ?n11) (AllReadyH.cons rfl (fun K hK => ?n12) (AllReadyH.nil))
       case' n11 =>
        go_simp
        have b9 := (Below.refl X2.heap.size X2).alloc (Nat.le_refl _) (.cells #[] 5)
        generalize X2.alloc (.cells #[] 5) = X3 at *
        replace K1 := K1.below b9 K1.lt
        replace K2 := K2.below b9 K2.lt
        replace BX := Base.thenB BX b9
        replace RD := Row.below RD b9
        clear b9
        refine hK.out _ _ trivial (fun hHeld => ?_)
        clear hK K
        try simp only [getElem_toArray, getElem_cons_zero, getElem_cons_succ, Act.put, setIfInBounds_toArray, set_cons_zero, set_cons_succ]
        refine wpAnyH_ready (rs := [6]) (by kernel_rfl) (by simp) ?_
        refine AllReadyH.cons rfl (fun K hK => ?_) (AllReadyH.nil)
        have c90 := K1.cell 7
        go_simp
        clear c90
        refine hK.out _ _ trivial (fun hHeld => ?_)
        clear hK K
        try simp only [getElem_toArray, getElem_cons_zero, getElem_cons_succ, Act.put, setIfInBounds_toArray, set_cons_zero, set_cons_succ]
        refine wpAnyH_take (i := 8) (v := .pointer (some ⟨w.heap.size, 6, none⟩)) rfl (by kernel_rfl) (by kernel_rfl) (by kernel_rfl) (fun _ _ _ h => h) (Or.inl ⟨by first | rfl | go_simp, by intro w9 hSw; (try dsimp only at hSw); go_simp⟩) (by assumption) ?_
        simp only [getElem_toArray, getElem_cons_zero, getElem_cons_succ, Act.put, setIfInBounds_toArray, set_cons_zero, set_cons_succ]
        refine wpAnyH_ready (rs := [7]) (by kernel_rfl) (by simp) ?_
        refine AllReadyH.cons rfl (fun K hK => ?_) (AllReadyH.nil)
        refine ap_b rfl _ _ rfl _ rfl AS p.sc.length cS p.sc rfl rfl (CellsAt.below HS.out BX) n2 ?_
        intro S1 s1 X4 hc9 RS b9
        replace RS := (Row.of_new hc9 RS).less (show w.heap.size + 2 ≤ X3.heap.size from K2.lt)
        clear hc9
        have oRS := RS.one
        replace K1 := K1.below b9 K1.lt
        replace K2 := K2.below b9 K2.lt
        replace BX := Base.thenB BX b9
        replace RD := Row.below RD b9
        clear b9
        refine hK.out _ _ trivial (fun hHeld => ?_)
        clear hK K
        try simp only [getElem_toArray, getElem_cons_zero, getElem_cons_succ, Act.put, setIfInBounds_toArray, set_cons_zero, set_cons_succ]
        skip
       case' n12 =>
        have c90 := K1.cell 7
        go_simp
        clear c90
        refine hK.out _ _ trivial (fun hHeld => ?_)
        clear hK K
        try simp only [getElem_toArray, getElem_cons_zero, getElem_cons_succ, Act.put, setIfInBounds_toArray, set_cons_zero, set_cons_succ]
        refine wpAnyH_take (i := 8) (v := .pointer (some ⟨w.heap.size, 6, none⟩)) rfl (by kernel_rfl) (by kernel_rfl) (by kernel_rfl) (fun _ _ _ h => h) (Or.inl ⟨by first | rfl | go_simp, by intro w9 hSw; (try dsimp only at hSw); go_simp⟩) (by assumption) ?_
        simp only [getElem_toArray, getElem_cons_zero, getElem_cons_succ, Act.put, setIfInBounds_toArray, set_cons_zero, set_cons_succ]
        refine wpAnyH_ready (rs := [4]) (by kernel_rfl) (by simp) ?_
        refine AllReadyH.cons rfl (fun K hK => ?_) (AllReadyH.nil)
        go_simp
        have b9 := (Below.refl X2.heap.size X2).alloc (Nat.le_refl _) (.cells #[] 5)
        generalize X2.alloc (.cells #[] 5) = X3 at *
        replace K1 := K1.below b9 K1.lt
        replace K2 := K2.below b9 K2.lt
        replace BX := Base.thenB BX b9
        replace RD := Row.below RD b9
        clear b9
        refine hK.out _ _ trivial (fun hHeld => ?_)
        clear hK K
        try simp only [getElem_toArray, getElem_cons_zero, getElem_cons_succ, Act.put, setIfInBounds_toArray, set_cons_zero, set_cons_succ]
        refine wpAnyH_ready (rs := [7]) (by kernel_rfl) (by simp) ?_
        refine AllReadyH.cons rfl (fun K hK => ?_) (AllReadyH.nil)
        refine ap_b rfl _ _ rfl _ rfl AS p.sc.length cS p.sc rfl rfl (CellsAt.below HS.out BX) n2 ?_
        intro S1 s1 X4 hc9 RS b9
        replace RS := (Row.of_new hc9 RS).less (show w.heap.size + 2 ≤ X3.heap.size from K2.lt)
        clear hc9
        have oRS := RS.one
        replace K1 := K1.below b9 K1.lt
        replace K2 := K2.below b9 K2.lt
        replace BX := Base.thenB BX b9
        replace RD := Row.below RD b9
        clear b9
        refine hK.out _ _ trivial (fun hHeld => ?_)
        clear hK K
        try simp only [getElem_toArray, getElem_cons_zero, getElem_cons_succ, Act.put, setIfInBounds_toArray, set_cons_zero, set_cons_succ]
        skip
      case' n9 =>
       go_simp
       have b9 := (Below.refl X1.heap.size X1).alloc (Nat.le_refl _) (.cells #[] 5)
       generalize X1.alloc (.cells #[] 5) = X2 at *
       replace K1 := K1.below b9 K1.lt
       replace K2 := K2.below b9 K2.lt
       replace BX := Base.thenB BX b9
       clear b9
       refine hK.out _ _ trivial (fun hHeld => ?_)
       clear hK K
       try simp only [getElem_toArray, getElem_cons_zero, getElem_cons_succ, Act.put, setIfInBounds_toArray, set_cons_zero, set_cons_succ]
       refine wpAnyH_ready (rs := [3, 6]) (by kernel_rfl) (by simp) ?_
       refine AllReadyH.cons rfl (fun K hK => ?n13) (AllReadyH.cons rfl (fun K hK => ?n14) (AllReadyH.nil))
       case' n13 =>
        refine ap_b rfl _ _ rfl _ rfl AD p.ds.length cD p.ds rfl rfl (CellsAt.below HD.out BX) n1 ?_
        intro D1 d1 X3 hc9 RD b9
        replace RD := (Row.of_new hc9 RD).less (show w.heap.size + 2 ≤ X2.heap.size from K2.lt)
        clear hc9
        have oRD := RD.one
        replace K1 := K1.below b9 K1.lt
        replace K2 := K2.below b9 K2.lt
        replace BX := Base.thenB BX b9
        clear b9
        refine hK.out _ _ trivial (fun hHeld => ?_)
        clear hK K
        try simp only [getElem_toArray, getElem_cons_zero, getElem_cons_succ, Act.put, setIfInBounds_toArray, set_cons_zero, set_cons_succ]
        refine wpAnyH_ready (rs := [6]) (by kernel_rfl) (by simp) ?_
        refine AllReadyH.cons rfl (fun K hK => ?_) (AllReadyH.nil)
        have c90 := K1.cell 7
        go_simp
        clear c90
        refine hK.out _ _ trivial (fun hHeld => ?_)
        clear hK K
        try simp only [getElem_toArray, getElem_cons_zero, getElem_cons_succ, Act.put, setIfInBounds_toArray, set_cons_zero, set_cons_succ]
        refine wpAnyH_take (i := 8) (v := .pointer (some ⟨w.heap.size, 6, none⟩)) rfl (by kernel_rfl) (by kernel_rfl) (by kernel_rfl) (fun _ _ _ h => h) (Or.inl ⟨by first | rfl | go_simp, by intro w9 hSw; (try dsimp only at hSw); go_simp⟩) (by assumption) ?_
        simp only [getElem_toArray, getElem_cons_zero, getElem_cons_succ, Act.put, setIfInBounds_toArray, set_cons_zero, set_cons_succ]
        refine wpAnyH_ready (rs := [7]) (by kernel_rfl) (by simp) ?_
        refine AllReadyH.cons rfl (fun K hK => ?_) (AllReadyH.nil)
        refine ap_b rfl _ _ rfl _ rfl AS p.sc.length cS p.sc rfl rfl (CellsAt.below HS.out BX) n2 ?_
        intro S1 s1 X4 hc9 RS b9
        replace RS := (Row.of_new hc9 RS).less (show w.heap.size + 2 ≤ X3.heap.size from K2.lt)
        clear hc9
        have oRS := RS.one
        replace K1 := K1.below b9 K1.lt
        replace K2 := K2.below b9 K2.lt
        replace BX := Base.thenB BX b9
        replace RD := Row.below RD b9
        clear b9
        refine hK.out _ _ trivial (fun hHeld => ?_)
        clear hK K
        try simp only [getElem_toArray, getElem_cons_zero, getElem_cons_succ, Act.put, setIfInBounds_toArray, set_cons_zero, set_cons_succ]
        skip
       case' n14 =>
        have c90 := K1.cell 7
        go_simp
        clear c90
        refine hK.out _ _ trivial (fun hHeld => ?_)
        clear hK K
        try simp only [getElem_toArray, getElem_cons_zero, getElem_cons_succ, Act.put, setIfInBounds_toArray, set_cons_zero, set_cons_succ]
        refine wpAnyH_ready (rs := [3]) (by kernel_rfl) (by simp) ?_
        refine AllReadyH.cons rfl (fun K hK => ?_) (AllReadyH.nil)
        refine ap_b rfl _ _ rfl _ rfl AD p.ds.length cD p.ds rfl rfl (CellsAt.below HD.out BX) n1 ?_
        intro D1 d1 X3 hc9 RD b9
        replace RD := (Row.of_new hc9 RD).less (show w.heap.size + 2 ≤ X2.heap.size from K2.lt)
        clear hc9
        have oRD := RD.one
        replace K1 := K1.below b9 K1.lt
        replace K2 := K2.below b9 K2.lt
        replace BX := Base.thenB BX b9
        clear b9
        refine hK.out _ _ trivial (fun hHeld => ?_)
        clear hK K
        try simp only [getElem_toArray, getElem_cons_zero, getElem_cons_succ, Act.put, setIfInBounds_toArray, set_cons_zero, set_cons_succ]
        refine wpAnyH_take (i := 8) (v := .pointer (some ⟨w.heap.size, 6, none⟩)) rfl (by kernel_rfl) (by kernel_rfl) (by kernel_rfl) (fun _ _ _ h => h) (Or.inl ⟨by first | rfl | go_simp, by intro w9 hSw; (try dsimp only at hSw); go_simp⟩) (by assumption) ?_
        simp only [getElem_toArray, getElem_cons_zero, getElem_cons_succ, Act.put, setIfInBounds_toArray, set_cons_zero, set_cons_succ]
        refine wpAnyH_ready (rs := [7]) (by kernel_rfl) (by simp) ?_
        refine AllReadyH.cons rfl (fun K hK => ?_) (AllReadyH.nil)
        refine ap_b rfl _ _ rfl _ rfl AS p.sc.length cS p.sc rfl rfl (CellsAt.below HS.out BX) n2 ?_
        intro S1 s1 X4 hc9 RS b9
        replace RS := (Row.of_new hc9 RS).less (show w.heap.size + 2 ≤ X3.heap.size from K2.lt)
        clear hc9
        have oRS := RS.one
        replace K1 := K1.below b9 K1.lt
        replace K2 := K2.below b9 K2.lt
        replace BX := Base.thenB BX b9
        replace RD := Row.below RD b9
        clear b9
        refine hK.out _ _ trivial (fun hHeld => ?_)
        clear hK K
        try simp only [getElem_toArray, getElem_cons_zero, getElem_cons_succ, Act.put, setIfInBounds_toArray, set_cons_zero, set_cons_succ]
        skip
      case' n10 =>
       have c90 := K1.cell 7
       go_simp
       clear c90
       refine hK.out _ _ trivial (fun hHeld => ?_)
       clear hK K
       try simp only [getElem_toArray, getElem_cons_zero, getElem_cons_succ, Act.put, setIfInBounds_toArray, set_cons_zero, set_cons_succ]
       refine wpAnyH_ready (rs := [3, 4]) (by kernel_rfl) (by simp) ?_
       refine AllReadyH.cons rfl (fun K hK => ?n15) (AllReadyH.cons rfl (fun K hK => ?n16) (AllReadyH.nil))
       case' n15 =>
        refine ap_b rfl _ _ rfl _ rfl AD p.ds.length cD p.ds rfl rfl (CellsAt.below HD.out BX) n1 ?_
        intro D1 d1 X2 hc9 RD b9
        replace RD := (Row.of_new hc9 RD).less (show w.heap.size + 2 ≤ X1.heap.size from K2.lt)
        clear hc9
        have oRD := RD.one
        replace K1 := K1.below b9 K1.lt
        replace K2 := K2.below b9 K2.lt
        replace BX := Base.thenB BX b9
        clear b9
        refine hK.out _ _ trivial (fun hHeld => ?_)
        clear hK K
        try simp only [getElem_toArray, getElem_cons_zero, getElem_cons_succ, Act.put, setIfInBounds_toArray, set_cons_zero, set_cons_succ]
        refine wpAnyH_take (i := 8) (v := .pointer (some ⟨w.heap.size, 6, none⟩)) rfl (by kernel_rfl) (by kernel_rfl) (by kernel_rfl) (fun _ _ _ h => h) (Or.inl ⟨by first | rfl | go_simp, by intro w9 hSw; (try dsimp only at hSw); go_simp⟩) (by assumption) ?_
        simp only [getElem_toArray, getElem_cons_zero, getElem_cons_succ, Act.put, setIfInBounds_toArray, set_cons_zero, set_cons_succ]
        refine wpAnyH_ready (rs := [4]) (by kernel_rfl) (by simp) ?_
        refine AllReadyH.cons rfl (fun K hK => ?_) (AllReadyH.nil)
        go_simp
        have b9 := (Below.refl X2.heap.size X2).alloc (Nat.le_refl _) (.cells #[] 5)
        generalize X2.alloc (.cells #[] 5) = X3 at *
        replace K1 := K1.below b9 K1.lt
        replace K2 := K2.below b9 K2.lt
        replace BX := Base.thenB BX b9
        replace RD := Row.below RD b9
        clear b9
        refine hK.out _ _ trivial (fun hHeld => ?_)
        clear hK K
        try simp only [getElem_toArray, getElem_cons_zero, getElem_cons_succ, Act.put, setIfInBounds_toArray, set_cons_zero, set_cons_succ]
        refine wpAnyH_ready (rs := [7]) (by kernel_rfl) (by simp) ?_
        refine AllReadyH.cons rfl (fun K hK => ?_) (AllReadyH.nil)
        refine ap_b rfl _ _ rfl _ rfl AS p.sc.length cS p.sc rfl rfl (CellsAt.below HS.out BX) n2 ?_
        intro S1 s1 X4 hc9 RS b9
        replace RS := (Row.of_new hc9 RS).less (show w.heap.size + 2 ≤ X3.heap.size from K2.lt)
        clear hc9
        have oRS := RS.one
        replace K1 := K1.below b9 K1.lt
        replace K2 := K2.below b9 K2.lt
        replace BX := Base.thenB BX b9
        replace RD := Row.below RD b9
        clear b9
        refine hK.out _ _ trivial (fun hHeld => ?_)
        clear hK K
        try simp only [getElem_toArray, getElem_cons_zero, getElem_cons_succ, Act.put, setIfInBounds_toArray, set_cons_zero, set_cons_succ]
        skip
       case' n16 =>
        go_simp
        have b9 := (Below.refl X1.heap.size X1).alloc (Nat.le_refl _) (.cells #[] 5)
        generalize X1.alloc (.cells #[] 5) = X2 at *
        replace K1 := K1.below b9 K1.lt
        replace K2 := K2.below b9 K2.lt
        replace BX := Base.thenB BX b9
        clear b9
        refine hK.out _ _ trivial (fun hHeld => ?_)
        clear hK K
        try simp only [getElem_toArray, getElem_cons_zero, getElem_cons_succ, Act.put, setIfInBounds_toArray, set_cons_zero, set_cons_succ]
        refine wpAnyH_ready (rs := [3]) (by kernel_rfl) (by simp) ?_
        refine AllReadyH.cons rfl (fun K hK => ?_) (AllReadyH.nil)
        refine ap_b rfl _ _ rfl _ rfl AD p.ds.length cD p.ds rfl rfl (CellsAt.below HD.out BX) n1 ?_
        intro D1 d1 X3 hc9 RD b9
        replace RD := (Row.of_new hc9 RD).less (show w.heap.size + 2 ≤ X2.heap.size from K2.lt)
        clear hc9
        have oRD := RD.one
        replace K1 := K1.below b9 K1.lt
        replace K2 := K2.below b9 K2.lt
        replace BX := Base.thenB BX b9
        clear b9
        refine hK.out _ _ trivial (fun hHeld => ?_)
        clear hK K
        try simp only [getElem_toArray, getElem_cons_zero, getElem_cons_succ, Act.put, setIfInBounds_toArray, set_cons_zero, set_cons_succ]
        refine wpAnyH_take (i := 8) (v := .pointer (some ⟨w.heap.size, 6, none⟩)) rfl (by kernel_rfl) (by kernel_rfl) (by kernel_rfl) (fun _ _ _ h => h) (Or.inl ⟨by first | rfl | go_simp, by intro w9 hSw; (try dsimp only at hSw); go_simp⟩) (by assumption) ?_
        simp only [getElem_toArray, getElem_cons_zero, getElem_cons_succ, Act.put, setIfInBounds_toArray, set_cons_zero, set_cons_succ]
        refine wpAnyH_ready (rs := [7]) (by kernel_rfl) (by simp) ?_
        refine AllReadyH.cons rfl (fun K hK => ?_) (AllReadyH.nil)
        refine ap_b rfl _ _ rfl _ rfl AS p.sc.length cS p.sc rfl rfl (CellsAt.below HS.out BX) n2 ?_
        intro S1 s1 X4 hc9 RS b9
        replace RS := (Row.of_new hc9 RS).less (show w.heap.size + 2 ≤ X3.heap.size from K2.lt)
        clear hc9
        have oRS := RS.one
        replace K1 := K1.below b9 K1.lt
        replace K2 := K2.below b9 K2.lt
        replace BX := Base.thenB BX b9
        replace RD := Row.below RD b9
        clear b9
        refine hK.out _ _ trivial (fun hHeld => ?_)
        clear hK K
        try simp only [getElem_toArray, getElem_cons_zero, getElem_cons_succ, Act.put, setIfInBounds_toArray, set_cons_zero, set_cons_succ]
        skip
     case' n6 =>
      go_simp
      have b9 := (Below.refl X1.heap.size X1).alloc (Nat.le_refl _) (.cells #[] 5)
      generalize X1.alloc (.cells #[] 5) = X2 at *
      replace K1 := K1.below b9 K1.lt
      replace K2 := K2.below b9 K2.lt
      replace BX := Base.thenB BX b9
      clear b9
      refine hK.out _ _ trivial (fun hHeld => ?_)
      clear hK K
      try simp only [getElem_toArray, getElem_cons_zero, getElem_cons_succ, Act.put, setIfInBounds_toArray, set_cons_zero, set_cons_succ]
      refine wpAnyH_ready (rs := [2, 6]) (by kernel_rfl) (by simp) ?_
      refine AllReadyH.cons rfl (fun K hK => ?n17) (AllReadyH.cons rfl (fun K hK => ?n18) (AllReadyH.nil))
      case' n17 =>
       have c90 := K1.cell 6
       go_simp
       clear c90
       refine hK.out _ _ trivial (fun hHeld => ?_)
       clear hK K
       try simp only [getElem_toArray, getElem_cons_zero, getElem_cons_succ, Act.put, setIfInBounds_toArray, set_cons_zero, set_cons_succ]
       refine wpAnyH_ready (rs := [3, 6]) (by kernel_rfl) (by simp) ?_
       refine AllReadyH.cons rfl (fun K hK => ?n19) (AllReadyH.cons rfl (fun K hK => ?n20) (AllReadyH.nil))
       case' n19 =>
        refine ap_b rfl _ _ rfl _ rfl AD p.ds.length cD p.ds rfl rfl (CellsAt.below HD.out BX) n1 ?_
        intro D1 d1 X3 hc9 RD b9
        replace RD := (Row.of_new hc9 RD).less (show w.heap.size + 2 ≤ X2.heap.size from K2.lt)
        clear hc9
        have oRD := RD.one
        replace K1 := K1.below b9 K1.lt
        replace K2 := K2.below b9 K2.lt
        replace BX := Base.thenB BX b9
        clear b9
        refine hK.out _ _ trivial (fun hHeld => ?_)
        clear hK K
        try simp only [getElem_toArray, getElem_cons_zero, getElem_cons_succ, Act.put, setIfInBounds_toArray, set_cons_zero, set_cons_succ]
        refine wpAnyH_ready (rs := [6]) (by kernel_rfl) (by simp) ?_
        refine AllReadyH.cons rfl (fun K hK => ?_) (AllReadyH.nil)
        have c90 := K1.cell 7
        go_simp
        clear c90
        refine hK.out _ _ trivial (fun hHeld => ?_)
        clear hK K
        try simp only [getElem_toArray, getElem_cons_zero, getElem_cons_succ, Act.put, setIfInBounds_toArray, set_cons_zero, set_cons_succ]
        refine wpAnyH_take (i := 8) (v := .pointer (some ⟨w.heap.size, 6, none⟩)) rfl (by kernel_rfl) (by kernel_rfl) (by kernel_rfl) (fun _ _ _ h => h) (Or.inl ⟨by first | rfl | go_simp, by intro w9 hSw; (try dsimp only at hSw); go_simp⟩) (by assumption) ?_
        simp only [getElem_toArray, getElem_cons_zero, getElem_cons_succ, Act.put, setIfInBounds_toArray, set_cons_zero, set_cons_succ]
        refine wpAnyH_ready (rs := [7]) (by kernel_rfl) (by simp) ?_
        refine AllReadyH.cons rfl (fun K hK => ?_) (AllReadyH.nil)
        refine ap_b rfl _ _ rfl _ rfl AS p.sc.length cS p.sc rfl rfl (CellsAt.below HS.out BX) n2 ?_
        intro S1 s1 X4 hc9 RS b9
        replace RS := (Row.of_new hc9 RS).less (show w.heap.size + 2 ≤ X3.heap.size from K2.lt)
        clear hc9
        have oRS := RS.one
        replace K1 := K1.below b9 K1.lt
        replace K2 := K2.below b9 K2.lt
        replace BX := Base.thenB BX b9
        replace RD := Row.below RD b9
        clear b9
        refine hK.out _ _ trivial (fun hHeld => ?_)
        clear hK K
        try simp only [getElem_toArray, getElem_cons_zero, getElem_cons_succ, Act.put, setIfInBounds_toArray, set_cons_zero, set_cons_succ]
        skip
       case' n20 =>
        have c90 := K1.cell 7
        go_simp
        clear c90
        refine hK.out _ _ trivial (fun hHeld => ?_)
        clear hK K
        try simp only [getElem_toArray, getElem_cons_zero, getElem_cons_succ, Act.put, setIfInBounds_toArray, set_cons_zero, set_cons_succ]
        refine wpAnyH_ready (rs := [3]) (by kernel_rfl) (by simp) ?_
        refine AllReadyH.cons rfl (fun K hK => ?_) (AllReadyH.nil)
        refine ap_b rfl _ _ rfl _ rfl AD p.ds.length cD p.ds rfl rfl (CellsAt.below HD.out BX) n1 ?_
        intro D1 d1 X3 hc9 RD b9
        replace RD := (Row.of_new hc9 RD).less (show w.heap.size + 2 ≤ X2.heap.size from K2.lt)
        clear hc9
        have oRD := RD.one
        replace K1 := K1.below b9 K1.lt
        replace K2 := K2.below b9 K2.lt
        replace BX := Base.thenB BX b9
        clear b9
        refine hK.out _ _ trivial (fun hHeld => ?_)
        clear hK K
        try simp only [getElem_toArray, getElem_cons_zero, getElem_cons_succ, Act.put, setIfInBounds_toArray, set_cons_zero, set_cons_succ]
        refine wpAnyH_take (i := 8) (v := .pointer (some ⟨w.heap.size, 6, none⟩)) rfl (by kernel_rfl) (by kernel_rfl) (by kernel_rfl) (fun _ _ _ h => h) (Or.inl ⟨by first | rfl | go_simp, by intro w9 hSw; (try dsimp only at hSw); go_simp⟩) (by assumption) ?_
        simp only [getElem_toArray, getElem_cons_zero, getElem_cons_succ, Act.put, setIfInBounds_toArray, set_cons_zero, set_cons_succ]
        refine wpAnyH_ready (rs := [7]) (by kernel_rfl) (by simp) ?_
        refine AllReadyH.cons rfl (fun K hK => ?_) (AllReadyH.nil)
        refine ap_b rfl _ _ rfl _ rfl AS p.sc.length cS p.sc rfl rfl (CellsAt.below HS.out BX) n2 ?_
        intro S1 s1 X4 hc9 RS b9
        replace RS := (Row.of_new hc9 RS).less (show w.heap.size + 2 ≤ X3.heap.size from K2.lt)
        clear hc9
        have oRS := RS.one
        replace K1 := K1.below b9 K1.lt
        replace K2 := K2.below b9 K2.lt
        replace BX := Base.thenB BX b9
        replace RD := Row.below RD b9
        clear b9
        refine hK.out _ _ trivial (fun hHeld => ?_)
        clear hK K
        try simp only [getElem_toArray, getElem_cons_zero, getElem_cons_succ, Act.put, setIfInBounds_toArray, set_cons_zero, set_cons_succ]
        skip
      case' n18 =>
       have c90 := K1.cell 7
       go_simp
       clear c90
       refine hK.out _ _ trivial (fun hHeld => ?_)
       clear hK K
       try simp only [getElem_toArray, getElem_cons_zero, getElem_cons_succ, Act.put, setIfInBounds_toArray, set_cons_zero, set_cons_succ]
       refine wpAnyH_ready (rs := [2]) (by kernel_rfl) (by simp) ?_
       refine AllReadyH.cons rfl (fun K hK => ?_) (AllReadyH.nil)
       have c90 := K1.cell 6
       go_simp
       clear c90
       refine hK.out _ _ trivial (fun hHeld => ?_)
       clear hK K
       try simp only [getElem_toArray, getElem_cons_zero, getElem_cons_succ, Act.put, setIfInBounds_toArray, set_cons_zero, set_cons_succ]
       refine wpAnyH_ready (rs := [3]) (by kernel_rfl) (by simp) ?_
       refine AllReadyH.cons rfl (fun K hK => ?_) (AllReadyH.nil)
       refine ap_b rfl _ _ rfl _ rfl AD p.ds.length cD p.ds rfl rfl (CellsAt.below HD.out BX) n1 ?_
       intro D1 d1 X3 hc9 RD b9
       replace RD := (Row.of_new hc9 RD).less (show w.heap.size + 2 ≤ X2.heap.size from K2.lt)
       clear hc9
       have oRD := RD.one
       replace K1 := K1.below b9 K1.lt
       replace K2 := K2.below b9 K2.lt
       replace BX := Base.thenB BX b9
       clear b9
       refine hK.out _ _ trivial (fun hHeld => ?_)
       clear hK K
       try simp only [getElem_toArray, getElem_cons_zero, getElem_cons_succ, Act.put, setIfInBounds_toArray, set_cons_zero, set_cons_succ]
       refine wpAnyH_take (i := 8) (v := .pointer (some ⟨w.heap.size, 6, none⟩)) rfl (by kernel_rfl) (by kernel_rfl) (by kernel_rfl) (fun _ _ _ h => h) (Or.inl ⟨by first | rfl | go_simp, by intro w9 hSw; (try dsimp only at hSw); go_simp⟩) (by assumption) ?_
       simp only [getElem_toArray, getElem_cons_zero, getElem_cons_succ, Act.put, setIfInBounds_toArray, set_cons_zero, set_cons_succ]
       refine wpAnyH_ready (rs := [7]) (by kernel_rfl) (by simp) ?_
       refine AllReadyH.cons rfl (fun K hK => ?_) (AllReadyH.nil)
       refine ap_b rfl _ _ rfl _ rfl AS p.sc.length cS p.sc rfl rfl (CellsAt.below HS.out BX) n2 ?_
       intro S1 s1 X4 hc9 RS b9
       replace RS := (Row.of_new hc9 RS).less (show w.heap.size + 2 ≤ X3.heap.size from K2.lt)
       clear hc9
       have oRS := RS.one
       replace K1 := K1.below b9 K1.lt
       replace K2 := K2.below b9 K2.lt
       replace BX := Base.thenB BX b9
       replace RD := Row.below RD b9
       clear b9
       refine hK.out _ _ trivial (fun hHeld => ?_)
       clear hK K
       try simp only [getElem_toArray, getElem_cons_zero, getElem_cons_succ, Act.put, setIfInBounds_toArray, set_cons_zero, set_cons_succ]
       skip
     case' n7 =>
      have c90 := K1.cell 7
      go_simp
      clear c90
      refine hK.out _ _ trivial (fun hHeld => ?_)
      clear hK K
      try simp only [getElem_toArray, getElem_cons_zero, getElem_cons_succ, Act.put, setIfInBounds_toArray, set_cons_zero, set_cons_succ]
      refine wpAnyH_ready (rs := [2, 4]) (by kernel_rfl) (by simp) ?_
      refine AllReadyH.cons rfl (fun K hK => ?n21) (AllReadyH.cons rfl (fun K hK => ?n22) (AllReadyH.nil))
      case' n21 =>
       have c90 := K1.cell 6
       go_simp
       clear c90
       refine hK.out _ _ trivial (fun hHeld => ?_)
       clear hK K
       try simp only [getElem_toArray, getElem_cons_zero, getElem_cons_succ, Act.put, setIfInBounds_toArray, set_cons_zero, set_cons_succ]
       refine wpAnyH_ready (rs := [3, 4]) (by kernel_rfl) (by simp) ?_
       refine AllReadyH.cons rfl (fun K hK => ?n23) (AllReadyH.cons rfl (fun K hK => ?n24) (AllReadyH.nil))
       case' n23 =>
        refine ap_b rfl _ _ rfl _ rfl AD p.ds.length cD p.ds rfl rfl (CellsAt.below HD.out BX) n1 ?_
        intro D1 d1 X2 hc9 RD b9
        replace RD := (Row.of_new hc9 RD).less (show w.heap.size + 2 ≤ X1.heap.size from K2.lt)
        clear hc9
        have oRD := RD.one
        replace K1 := K1.below b9 K1.lt
        replace K2 := K2.below b9 K2.lt
        replace BX := Base.thenB BX b9
        clear b9
        refine hK.out _ _ trivial (fun hHeld => ?_)
        clear hK K
        try simp only [getElem_toArray, getElem_cons_zero, getElem_cons_succ, Act.put, setIfInBounds_toArray, set_cons_zero, set_cons_succ]
        refine wpAnyH_take (i := 8) (v := .pointer (some ⟨w.heap.size, 6, none⟩)) rfl (by kernel_rfl) (by kernel_rfl) (by kernel_rfl) (fun _ _ _ h => h) (Or.inl ⟨by first | rfl | go_simp, by intro w9 hSw; (try dsimp only at hSw); go_simp⟩) (by assumption) ?_
        simp only [getElem_toArray, getElem_cons_zero, getElem_cons_succ, Act.put, setIfInBounds_toArray, set_cons_zero, set_cons_succ]
        refine wpAnyH_ready (rs := [4]) (by kernel_rfl) (by simp) ?_
        refine AllReadyH.cons rfl (fun K hK => ?_) (AllReadyH.nil)
        go_simp
        have b9 := (Below.refl X2.heap.size X2).alloc (Nat.le_refl _) (.cells #[] 5)
        generalize X2.alloc (.cells #[] 5) = X3 at *
        replace K1 := K1.below b9 K1.lt
        replace K2 := K2.below b9 K2.lt
        replace BX := Base.thenB BX b9
        replace RD := Row.below RD b9
        clear b9
        refine hK.out _ _ trivial (fun hHeld => ?_)
        clear hK K
        try simp only [getElem_toArray, getElem_cons_zero, getElem_cons_succ, Act.put, setIfInBounds_toArray, set_cons_zero, set_cons_succ]
        refine wpAnyH_ready (rs := [7]) (by kernel_rfl) (by simp) ?_
        refine AllReadyH.cons rfl (fun K hK => ?_) (AllReadyH.nil)
        refine ap_b rfl _ _ rfl _ rfl AS p.sc.length cS p.sc rfl rfl (CellsAt.below HS.out BX) n2 ?_
        intro S1 s1 X4 hc9 RS b9
        replace RS := (Row.of_new hc9 RS).less (show w.heap.size + 2 ≤ X3.heap.size from K2.lt)
        clear hc9
        have oRS := RS.one
        replace K1 := K1.below b9 K1.lt
        replace K2 := K2.below b9 K2.lt
        replace BX := Base.thenB BX b9
        replace RD := Row.below RD b9
        clear b9
        refine hK.out _ _ trivial (fun hHeld => ?_)
        clear hK K
        try simp only [getElem_toArray, getElem_cons_zero, getElem_cons_succ, Act.put, setIfInBounds_toArray, set_cons_zero, set_cons_succ]
        skip
       case' n24 =>
        go_simp
        have b9 := (Below.refl X1.heap.size X1).alloc (Nat.le_refl _) (.cells #[] 5)
        generalize X1.alloc (.cells #[] 5) = X2 at *
        replace K1 := K1.below b9 K1.lt
        replace K2 := K2.below b9 K2.lt
        replace BX := Base.thenB BX b9
        clear b9
        refine hK.out _ _ trivial (fun hHeld => ?_)
        clear hK K
        try simp only [getElem_toArray, getElem_cons_zero, getElem_cons_succ, Act.put, setIfInBounds_toArray, set_cons_zero, set_cons_succ]
        refine wpAnyH_ready (rs := [3]) (by kernel_rfl) (by simp) ?_
        refine AllReadyH.cons rfl (fun K hK => ?_) (AllReadyH.nil)
        refine ap_b rfl _ _ rfl _ rfl AD p.ds.length cD p.ds rfl rfl (CellsAt.below HD.out BX) n1 ?_
        intro D1 d1 X3 hc9 RD b9
        replace RD := (Row.of_new hc9 RD).less (show w.heap.size + 2 ≤ X2.heap.size from K2.lt)
        clear hc9
        have oRD := RD.one
        replace K1 := K1.below b9 K1.lt
        replace K2 := K2.below b9 K2.lt
        replace BX := Base.thenB BX b9
        clear b9
        refine hK.out _ _ trivial (fun hHeld => ?_)
        clear hK K
        try simp only [getElem_toArray, getElem_cons_zero, getElem_cons_succ, Act.put, setIfInBounds_toArray, set_cons_zero, set_cons_succ]
        refine wpAnyH_take (i := 8) (v := .pointer (some ⟨w.heap.size, 6, none⟩)) rfl (by kernel_rfl) (by kernel_rfl) (by kernel_rfl) (fun _ _ _ h => h) (Or.inl ⟨by first | rfl | go_simp, by intro w9 hSw; (try dsimp only at hSw); go_simp⟩) (by assumption) ?_
        simp only [getElem_toArray, getElem_cons_zero, getElem_cons_succ, Act.put, setIfInBounds_toArray, set_cons_zero, set_cons_succ]
        refine wpAnyH_ready (rs := [7]) (by kernel_rfl) (by simp) ?_
        refine AllReadyH.cons rfl (fun K hK => ?_) (AllReadyH.nil)
        refine ap_b rfl _ _ rfl _ rfl AS p.sc.length cS p.sc rfl rfl (CellsAt.below HS.out BX) n2 ?_
        intro S1 s1 X4 hc9 RS b9
        replace RS := (Row.of_new hc9 RS).less (show w.heap.size + 2 ≤ X3.heap.size from K2.lt)
        clear hc9
        have oRS := RS.one
        replace K1 := K1.below b9 K1.lt
        replace K2 := K2.below b9 K2.lt
        replace BX := Base.thenB BX b9
        replace RD := Row.below RD b9
        clear b9
        refine hK.out _ _ trivial (fun hHeld => ?_)
        clear hK K
        try simp only [getElem_toArray, getElem_cons_zero, getElem_cons_succ, Act.put, setIfInBounds_toArray, set_cons_zero, set_cons_succ]
        skip
      case' n22 =>
       go_simp
       have b9 := (Below.refl X1.heap.size X1).alloc (Nat.le_refl _) (.cells #[] 5)
       generalize X1.alloc (.cells #[] 5) = X2 at *
       replace K1 := K1.below b9 K1.lt
       replace K2 := K2.below b9 K2.lt
       replace BX := Base.thenB BX b9
       clear b9
       refine hK.out _ _ trivial (fun hHeld => ?_)
       clear hK K
       try simp only [getElem_toArray, getElem_cons_zero, getElem_cons_succ, Act.put, setIfInBounds_toArray, set_cons_zero, set_cons_succ]
       refine wpAnyH_ready (rs := [2]) (by kernel_rfl) (by simp) ?_
       refine AllReadyH.cons rfl (fun K hK => ?_) (AllReadyH.nil)
       have c90 := K1.cell 6
       go_simp
       clear c90
       refine hK.out _ _ trivial (fun hHeld => ?_)
       clear hK K
       try simp only [getElem_toArray, getElem_cons_zero, getElem_cons_succ, Act.put, setIfInBounds_toArray, set_cons_zero, set_cons_succ]
       refine wpAnyH_ready (rs := [3]) (by kernel_rfl) (by simp) ?_
       refine AllReadyH.cons rfl (fun K hK => ?_) (AllReadyH.nil)
       refine ap_b rfl _ _ rfl _ rfl AD p.ds.length cD p.ds rfl rfl (CellsAt.below HD.out BX) n1 ?_
       intro D1 d1 X3 hc9 RD b9
       replace RD := (Row.of_new hc9 RD).less (show w.heap.size + 2 ≤ X2.heap.size from K2.lt)
       clear hc9
       have oRD := RD.one
       replace K1 := K1.below b9 K1.lt
       replace K2 := K2.below b9 K2.lt
       replace BX := Base.thenB BX b9
       clear b9
       refine hK.out _ _ trivial (fun hHeld => ?_)
       clear hK K
       try simp only [getElem_toArray, getElem_cons_zero, getElem_cons_succ, Act.put, setIfInBounds_toArray, set_cons_zero, set_cons_succ]
       refine wpAnyH_take (i := 8) (v := .pointer (some ⟨w.heap.size, 6, none⟩)) rfl (by kernel_rfl) (by kernel_rfl) (by kernel_rfl) (fun _ _ _ h => h) (Or.inl ⟨by first | rfl | go_simp, by intro w9 hSw; (try dsimp only at hSw); go_simp⟩) (by assumption) ?_
       simp only [getElem_toArray, getElem_cons_zero, getElem_cons_succ, Act.put, setIfInBounds_toArray, set_cons_zero, set_cons_succ]
       refine wpAnyH_ready (rs := [7]) (by kernel_rfl) (by simp) ?_
       refine AllReadyH.cons rfl (fun K hK => ?_) (AllReadyH.nil)
       refine ap_b rfl _ _ rfl _ rfl AS p.sc.length cS p.sc rfl rfl (CellsAt.below HS.out BX) n2 ?_
       intro S1 s1 X4 hc9 RS b9
       replace RS := (Row.of_new hc9 RS).less (show w.heap.size + 2 ≤ X3.heap.size from K2.lt)
       clear hc9
       have oRS := RS.one
       replace K1 := K1.below b9 K1.lt
       replace K2 := K2.below b9 K2.lt
       replace BX := Base.thenB BX b9
       replace RD := Row.below RD b9
       clear b9
       refine hK.out _ _ trivial (fun hHeld => ?_)
       clear hK K
       try simp only [getElem_toArray, getElem_cons_zero, getElem_cons_succ, Act.put, setIfInBounds_toArray, set_cons_zero, set_cons_succ]
       skip
    case' n2 =>
     have c90 := K1.cell 6
     go_simp
     clear c90
     refine hK.out _ _ trivial (fun hHeld => ?_)
     clear hK K
     try simp only [getElem_toArray, getElem_cons_zero, getElem_cons_succ, Act.put, setIfInBounds_toArray, set_cons_zero, set_cons_succ]
     refine wpAnyH_ready (rs := [0, 4, 6]) (by kernel_rfl) (by simp) ?_
     refine AllReadyH.cons rfl (fun K hK => ?n25) (AllReadyH.cons rfl (fun K hK => ?n26) (AllReadyH.cons rfl (fun K hK => ?n27) (AllReadyH.nil)))
     case' n25 =>
      go_simp
      have b9 := (Below.refl X0.heap.size X0).alloc (Nat.le_refl _) (.cells #[] 5)
      generalize X0.alloc (.cells #[] 5) = X1 at *
      replace K1 := K1.below b9 K1.lt
      replace K2 := K2.below b9 K2.lt
      replace BX := Base.thenB BX b9
      clear b9
      refine hK.out _ _ trivial (fun hHeld => ?_)
      clear hK K
      try simp only [getElem_toArray, getElem_cons_zero, getElem_cons_succ, Act.put, setIfInBounds_toArray, set_cons_zero, set_cons_succ]
      refine wpAnyH_ready (rs := [3, 4, 6]) (by kernel_rfl) (by simp) ?_
      refine AllReadyH.cons rfl (fun K hK => ?n28) (AllReadyH.cons rfl (fun K hK => ?n29) (AllReadyH.cons rfl (fun K hK => ?n30) (AllReadyH.nil)))
      case' n28 =>
       refine ap_b rfl _ _ rfl _ rfl AD p.ds.length cD p.ds rfl rfl (CellsAt.below HD.out BX) n1 ?_
       intro D1 d1 X2 hc9 RD b9
       replace RD := (Row.of_new hc9 RD).less (show w.heap.size + 2 ≤ X1.heap.size from K2.lt)
       clear hc9
       have oRD := RD.one
       replace K1 := K1.below b9 K1.lt
       replace K2 := K2.below b9 K2.lt
       replace BX := Base.thenB BX b9
       clear b9
       refine hK.out _ _ trivial (fun hHeld => ?_)
       clear hK K
       try simp only [getElem_toArray, getElem_cons_zero, getElem_cons_succ, Act.put, setIfInBounds_toArray, set_cons_zero, set_cons_succ]
       refine wpAnyH_ready (rs := [4, 6]) (by kernel_rfl) (by simp) ?_
       refine AllReadyH.cons rfl (fun K hK => ?n31) (AllReadyH.cons rfl (fun K hK => ?n32) (AllReadyH.nil))
       case' n31 =>
        go_simp
        have b9 := (Below.refl X2.heap.size X2).alloc (Nat.le_refl _) (.cells #[] 5)
        generalize X2.alloc (.cells #[] 5) = X3 at *
        replace K1 := K1.below b9 K1.lt
        replace K2 := K2.below b9 K2.lt
        replace BX := Base.thenB BX b9
        replace RD := Row.below RD b9
        clear b9
        refine hK.out _ _ trivial (fun hHeld => ?_)
        clear hK K
        try simp only [getElem_toArray, getElem_cons_zero, getElem_cons_succ, Act.put, setIfInBounds_toArray, set_cons_zero, set_cons_succ]
        refine wpAnyH_ready (rs := [6]) (by kernel_rfl) (by simp) ?_
        refine AllReadyH.cons rfl (fun K hK => ?_) (AllReadyH.nil)
        have c90 := K1.cell 7
        go_simp
        clear c90
        refine hK.out _ _ trivial (fun hHeld => ?_)
        clear hK K
        try simp only [getElem_toArray, getElem_cons_zero, getElem_cons_succ, Act.put, setIfInBounds_toArray, set_cons_zero, set_cons_succ]
        refine wpAnyH_take (i := 8) (v := .pointer (some ⟨w.heap.size, 6, none⟩)) rfl (by kernel_rfl) (by kernel_rfl) (by kernel_rfl) (fun _ _ _ h => h) (Or.inl ⟨by first | rfl | go_simp, by intro w9 hSw; (try dsimp only at hSw); go_simp⟩) (by assumption) ?_
        simp only [getElem_toArray, getElem_cons_zero, getElem_cons_succ, Act.put, setIfInBounds_toArray, set_cons_zero, set_cons_succ]
        refine wpAnyH_ready (rs := [7]) (by kernel_rfl) (by simp) ?_
        refine AllReadyH.cons rfl (fun K hK => ?_) (AllReadyH.nil)
        refine ap_b rfl _ _ rfl _ rfl AS p.sc.length cS p.sc rfl rfl (CellsAt.below HS.out BX) n2 ?_
        intro S1 s1 X4 hc9 RS b9
        replace RS := (Row.of_new hc9 RS).less (show w.heap.size + 2 ≤ X3.heap.size from K2.lt)
        clear hc9
        have oRS := RS.one
        replace K1 := K1.below b9 K1.lt
        replace K2 := K2.below b9 K2.lt
        replace BX := Base.thenB BX b9
        replace RD := Row.below RD b9
        clear b9
        refine hK.out _ _ trivial (fun hHeld => ?_)
        clear hK K
        try simp only [getElem_toArray, getElem_cons_zero, getElem_cons_succ, Act.put, setIfInBounds_toArray, set_cons_zero, set_cons_succ]
        skip
       case' n32 =>
        have c90 := K1.cell 7
        go_simp
        clear c90
        refine hK.out _ _ trivial (fun hHeld => ?_)
        clear hK K
        try simp only [getElem_toArray, getElem_cons_zero, getElem_cons_succ, Act.put, setIfInBounds_toArray, set_cons_zero, set_cons_succ]
        refine wpAnyH_take (i := 8) (v := .pointer (some ⟨w.heap.size, 6, none⟩)) rfl (by kernel_rfl) (by kernel_rfl) (by kernel_rfl) (fun _ _ _ h => h) (Or.inl ⟨by first | rfl | go_simp, by intro w9 hSw; (try dsimp only at hSw); go_simp⟩) (by assumption) ?_
        simp only [getElem_toArray, getElem_cons_zero, getElem_cons_succ, Act.put, setIfInBounds_toArray, set_cons_zero, set_cons_succ]
        refine wpAnyH_ready (rs := [4]) (by kernel_rfl) (by simp) ?_
        refine AllReadyH.cons rfl (fun K hK => ?_) (AllReadyH.nil)
        go_simp
        have b9 := (Below.refl X2.heap.size X2).alloc (Nat.le_refl _) (.cells #[] 5)
        generalize X2.alloc (.cells #[] 5) = X3 at *
        replace K1 := K1.below b9 K1.lt
        replace K2 := K2.below b9 K2.lt
        replace BX := Base.thenB BX b9
        replace RD := Row.below RD b9
        clear b9
        refine hK.out _ _ trivial (fun hHeld => ?_)
        clear hK K
        try simp only [getElem_toArray, getElem_cons_zero, getElem_cons_succ, Act.put, setIfInBounds_toArray, set_cons_zero, set_cons_succ]
        refine wpAnyH_ready (rs := [7]) (by kernel_rfl) (by simp) ?_
        refine AllReadyH.cons rfl (fun K hK => ?_) (AllReadyH.nil)
        refine ap_b rfl _ _ rfl _ rfl AS p.sc.length cS p.sc rfl rfl (CellsAt.below HS.out BX) n2 ?_
        intro S1 s1 X4 hc9 RS b9
        replace RS := (Row.of_new hc9 RS).less (show w.heap.size + 2 ≤ X3.heap.size from K2.lt)
        clear hc9
        have oRS := RS.one
        replace K1 := K1.below b9 K1.lt
        replace K2 := K2.below b9 K2.lt
        replace BX := Base.thenB BX b9
        replace RD := Row.below RD b9
        clear b9
        refine hK.out _ _ trivial (fun hHeld => ?_)
        clear hK K
        try simp only [getElem_toArray, getElem_cons_zero, getElem_cons_succ, Act.put, setIfInBounds_toArray, set_cons_zero, set_cons_succ]
        skip
      case' n29 =>
       go_simp
       have b9 := (Below.refl X1.heap.size X1).alloc (Nat.le_refl _) (.cells #[] 5)
       generalize X1.alloc (.cells #[] 5) = X2 at *
       replace K1 := K1.below b9 K1.lt
       replace K2 := K2.below b9 K2.lt
       replace BX := Base.thenB BX b9
       clear b9
       refine hK.out _ _ trivial (fun hHeld => ?_)
       clear hK K
       try simp only [getElem_toArray, getElem_cons_zero, getElem_cons_succ, Act.put, setIfInBounds_toArray, set_cons_zero, set_cons_succ]
       refine wpAnyH_ready (rs := [3, 6]) (by kernel_rfl) (by simp) ?_
       refine AllReadyH.cons rfl (fun K hK => ?n33) (AllReadyH.cons rfl (fun K hK => ?n34) (AllReadyH.nil))
       case' n33 =>
        refine ap_b rfl _ _ rfl _ rfl AD p.ds.length cD p.ds rfl rfl (CellsAt.below HD.out BX) n1 ?_
        intro D1 d1 X3 hc9 RD b9
        replace RD := (Row.of_new hc9 RD).less (show w.heap.size + 2 ≤ X2.heap.size from K2.lt)
        clear hc9
        have oRD := RD.one
        replace K1 := K1.below b9 K1.lt
        replace K2 := K2.below b9 K2.lt
        replace BX := Base.thenB BX b9
        clear b9
        refine hK.out _ _ trivial (fun hHeld => ?_)
        clear hK K
        try simp only [getElem_toArray, getElem_cons_zero, getElem_cons_succ, Act.put, setIfInBounds_toArray, set_cons_zero, set_cons_succ]
        refine wpAnyH_ready (rs := [6]) (by kernel_rfl) (by simp) ?_
        refine AllReadyH.cons rfl (fun K hK => ?_) (AllReadyH.nil)
        have c90 := K1.cell 7
        go_simp
        clear c90
        refine hK.out _ _ trivial (fun hHeld => ?_)
        clear hK K
        try simp only [getElem_toArray, getElem_cons_zero, getElem_cons_succ, Act.put, setIfInBounds_toArray, set_cons_zero, set_cons_succ]
        refine wpAnyH_take (i := 8) (v := .pointer (some ⟨w.heap.size, 6, none⟩)) rfl (by kernel_rfl) (by kernel_rfl) (by kernel_rfl) (fun _ _ _ h => h) (Or.inl ⟨by first | rfl | go_simp, by intro w9 hSw; (try dsimp only at hSw); go_simp⟩) (by assumption) ?_
        simp only [getElem_toArray, getElem_cons_zero, getElem_cons_succ, Act.put, setIfInBounds_toArray, set_cons_zero, set_cons_succ]
        refine wpAnyH_ready (rs := [7]) (by kernel_rfl) (by simp) ?_
        refine AllReadyH.cons rfl (fun K hK => ?_) (AllReadyH.nil)
        refine ap_b rfl _ _ rfl _ rfl AS p.sc.length cS p.sc rfl rfl (CellsAt.below HS.out BX) n2 ?_
        intro S1 s1 X4 hc9 RS b9
        replace RS := (Row.of_new hc9 RS).less (show w.heap.size + 2 ≤ X3.heap.size from K2.lt)
        clear hc9
        have oRS := RS.one
        replace K1 := K1.below b9 K1.lt
        replace K2 := K2.below b9 K2.lt
        replace BX := Base.thenB BX b9
        replace RD := Row.below RD b9
        clear b9
        refine hK.out _ _ trivial (fun hHeld => ?_)
        clear hK K
        try simp only [getElem_toArray, getElem_cons_zero, getElem_cons_succ, Act.put, setIfInBounds_toArray, set_cons_zero, set_cons_succ]
        skip
       case' n34 =>
        have c90 := K1.cell 7
        go_simp
        clear c90
        refine hK.out _ _ trivial (fun hHeld => ?_)
        clear hK K
        try simp only [getElem_toArray, getElem_cons_zero, getElem_cons_succ, Act.put, setIfInBounds_toArray, set_cons_zero, set_cons_succ]
        refine wpAnyH_ready (rs := [3]) (by kernel_rfl) (by simp) ?_
        refine AllReadyH.cons rfl (fun K hK => ?_) (AllReadyH.nil)
        refine ap_b rfl _ _ rfl _ rfl AD p.ds.length cD p.ds rfl rfl (CellsAt.below HD.out BX) n1 ?_
        intro D1 d1 X3 hc9 RD b9
        replace RD := (Row.of_new hc9 RD).less (show w.heap.size + 2 ≤ X2.heap.size from K2.lt)
        clear hc9
        have oRD := RD.one
        replace K1 := K1.below b9 K1.lt
        replace K2 := K2.below b9 K2.lt
        replace BX := Base.thenB BX b9
        clear b9
        refine hK.out _ _ trivial (fun hHeld => ?_)
        clear hK K
        try simp only [getElem_toArray, getElem_cons_zero, getElem_cons_succ, Act.put, setIfInBounds_toArray, set_cons_zero, set_cons_succ]
        refine wpAnyH_take (i := 8) (v := .pointer (some ⟨w.heap.size, 6, none⟩)) rfl (by kernel_rfl) (by kernel_rfl) (by kernel_rfl) (fun _ _ _ h => h) (Or.inl ⟨by first | rfl | go_simp, by intro w9 hSw; (try dsimp only at hSw); go_simp⟩) (by assumption) ?_
        simp only [getElem_toArray, getElem_cons_zero, getElem_cons_succ, Act.put, setIfInBounds_toArray, set_cons_zero, set_cons_succ]
        refine wpAnyH_ready (rs := [7]) (by kernel_rfl) (by simp) ?_
        refine AllReadyH.cons rfl (fun K hK => ?_) (AllReadyH.nil)
        refine ap_b rfl _ _ rfl _ rfl AS p.sc.length cS p.sc rfl rfl (CellsAt.below HS.out BX) n2 ?_
        intro S1 s1 X4 hc9 RS b9
        replace RS := (Row.of_new hc9 RS).less (show w.heap.size + 2 ≤ X3.heap.size from K2.lt)
        clear hc9
        have oRS := RS.one
        replace K1 := K1.below b9 K1.lt
        replace K2 := K2.below b9 K2.lt
        replace BX := Base.thenB BX b9
        replace RD := Row.below RD b9
        clear b9
        refine hK.out _ _ trivial (fun hHeld => ?_)
        clear hK K
        try simp only [getElem_toArray, getElem_cons_zero, getElem_cons_succ, Act.put, setIfInBounds_toArray, set_cons_zero, set_cons_succ]
        skip
      case' n30 =>
       have c90 := K1.cell 7
       go_simp
       clear c90
       refine hK.out _ _ trivial (fun hHeld => ?_)
       clear hK K
       try simp only [getElem_toArray, getElem_cons_zero, getElem_cons_succ, Act.put, setIfInBounds_toArray, set_cons_zero, set_cons_succ]
       refine wpAnyH_ready (rs := [3, 4]) (by kernel_rfl) (by simp) ?_
       refine AllReadyH.cons rfl (fun K hK => ?n35) (AllReadyH.cons rfl (fun K hK => ?n36) (AllReadyH.nil))
       case' n35 =>
        refine ap_b rfl _ _ rfl _ rfl AD p.ds.length cD p.ds rfl rfl (CellsAt.below HD.out BX) n1 ?_
        intro D1 d1 X2 hc9 RD b9
        replace RD := (Row.of_new hc9 RD).less (show w.heap.size + 2 ≤ X1.heap.size from K2.lt)
        clear hc9
        have oRD := RD.one
        replace K1 := K1.below b9 K1.lt
        replace K2 := K2.below b9 K2.lt
        replace BX := Base.thenB BX b9
        clear b9
        refine hK.out _ _ trivial (fun hHeld => ?_)
        clear hK K
        try simp only [getElem_toArray, getElem_cons_zero, getElem_cons_succ, Act.put, setIfInBounds_toArray, set_cons_zero, set_cons_succ]
        refine wpAnyH_take (i := 8) (v := .pointer (some ⟨w.heap.size, 6, none⟩)) rfl (by kernel_rfl) (by kernel_rfl) (by kernel_rfl) (fun _ _ _ h => h) (Or.inl ⟨by first | rfl | go_simp, by intro w9 hSw; (try dsimp only at hSw); go_simp⟩) (by assumption) ?_
        simp only [getElem_toArray, getElem_cons_zero, getElem_cons_succ, Act.put, setIfInBounds_toArray, set_cons_zero, set_cons_succ]
        refine wpAnyH_ready (rs := [4]) (by kernel_rfl) (by simp) ?_
        refine AllReadyH.cons rfl (fun K hK => ?_) (AllReadyH.nil)
        go_simp
        have b9 := (Below.refl X2.heap.size X2).alloc (Nat.le_refl _) (.cells #[] 5)
        generalize X2.alloc (.cells #[] 5) = X3 at *
        replace K1 := K1.below b9 K1.lt
        replace K2 := K2.below b9 K2.lt
        replace BX := Base.thenB BX b9
        replace RD := Row.below RD b9
        clear b9
        refine hK.out _ _ trivial (fun hHeld => ?_)
        clear hK K
        try simp only [getElem_toArray, getElem_cons_zero, getElem_cons_succ, Act.put, setIfInBounds_toArray, set_cons_zero, set_cons_succ]
        refine wpAnyH_ready (rs := [7]) (by kernel_rfl) (by simp) ?_
        refine AllReadyH.cons rfl (fun K hK => ?_) (AllReadyH.nil)
        refine ap_b rfl _ _ rfl _ rfl AS p.sc.length cS p.sc rfl rfl (CellsAt.below HS.out BX) n2 ?_
        intro S1 s1 X4 hc9 RS b9
        replace RS := (Row.of_new hc9 RS).less (show w.heap.size + 2 ≤ X3.heap.size from K2.lt)
        clear hc9
        have oRS := RS.one
        replace K1 := K1.below b9 K1.lt
        replace K2 := K2.below b9 K2.lt
        replace BX := Base.thenB BX b9
        replace RD := Row.below RD b9
        clear b9
        refine hK.out _ _ trivial (fun hHeld => ?_)
        clear hK K
        try simp only [getElem_toArray, getElem_cons_zero, getElem_cons_succ, Act.put, setIfInBounds_toArray, set_cons_zero, set_cons_succ]
        skip
       case' n36 =>
        go_simp
        have b9 := (Below.refl X1.heap.size X1).alloc (Nat.le_refl _) (.cells #[] 5)
        generalize X1.alloc (.cells #[] 5) = X2 at *
        replace K1 := K1.below b9 K1.lt
        replace K2 := K2.below b9 K2.lt
        replace BX := Base.thenB BX b9
        clear b9
        refine hK.out _ _ trivial (fun hHeld => ?_)
        clear hK K
        try simp only [getElem_toArray, getElem_cons_zero, getElem_cons_succ, Act.put, setIfInBounds_toArray, set_cons_zero, set_cons_succ]
        refine wpAnyH_ready (rs := [3]) (by kernel_rfl) (by simp) ?_
        refine AllReadyH.cons rfl (fun K hK => ?_) (AllReadyH.nil)
        refine ap_b rfl _ _ rfl _ rfl AD p.ds.length cD p.ds rfl rfl (CellsAt.below HD.out BX) n1 ?_
        intro D1 d1 X3 hc9 RD b9
        replace RD := (Row.of_new hc9 RD).less (show w.heap.size + 2 ≤ X2.heap.size from K2.lt)
        clear hc9
        have oRD := RD.one
        replace K1 := K1.below b9 K1.lt
        replace K2 := K2.below b9 K2.lt
        replace BX := Base.thenB BX b9
        clear b9
        refine hK.out _ _ trivial (fun hHeld => ?_)
        clear hK K
        try simp only [getElem_toArray, getElem_cons_zero, getElem_cons_succ, Act.put, setIfInBounds_toArray, set_cons_zero, set_cons_succ]
        refine wpAnyH_take (i := 8) (v := .pointer (some ⟨w.heap.size, 6, none⟩)) rfl (by kernel_rfl) (by kernel_rfl) (by kernel_rfl) (fun _ _ _ h => h) (Or.inl ⟨by first | rfl | go_simp, by intro w9 hSw; (try dsimp only at hSw); go_simp⟩) (by assumption) ?_
        simp only [getElem_toArray, getElem_cons_zero, getElem_cons_succ, Act.put, setIfInBounds_toArray, set_cons_zero, set_cons_succ]
        refine wpAnyH_ready (rs := [7]) (by kernel_rfl) (by simp) ?_
        refine AllReadyH.cons rfl (fun K hK => ?_) (AllReadyH.nil)
        refine ap_b rfl _ _ rfl _ rfl AS p.sc.length cS p.sc rfl rfl (CellsAt.below HS.out BX) n2 ?_
        intro S1 s1 X4 hc9 RS b9
        replace RS := (Row.of_new hc9 RS).less (show w.heap.size + 2 ≤ X3.heap.size from K2.lt)
        clear hc9
        have oRS := RS.one
        replace K1 := K1.below b9 K1.lt
        replace K2 := K2.below b9 K2.lt
        replace BX := Base.thenB BX b9
        replace RD := Row.below RD b9
        clear b9
        refine hK.out _ _ trivial (fun hHeld => ?_)
        clear hK K
        try simp only [getElem_toArray, getElem_cons_zero, getElem_cons_succ, Act.put, setIfInBounds_toArray, set_cons_zero, set_cons_succ]
        skip
     case' n26 =>
      go_simp
      have b9 := (Below.refl X0.heap.size X0).alloc (Nat.le_refl _) (.cells #[] 5)
      generalize X0.alloc (.cells #[] 5) = X1 at *
      replace K1 := K1.below b9 K1.lt
      replace K2 := K2.below b9 K2.lt
      replace BX := Base.thenB BX b9
      clear b9
      refine hK.out _ _ trivial (fun hHeld => ?_)
      clear hK K
      try simp only [getElem_toArray, getElem_cons_zero, getElem_cons_succ, Act.put, setIfInBounds_toArray, set_cons_zero, set_cons_succ]
      refine wpAnyH_ready (rs := [0, 6]) (by kernel_rfl) (by simp) ?_
      refine AllReadyH.cons rfl (fun K hK => ?n37) (AllReadyH.cons rfl (fun K hK => ?n38) (AllReadyH.nil))
      case' n37 =>
       go_simp
       have b9 := (Below.refl X1.heap.size X1).alloc (Nat.le_refl _) (.cells #[] 5)
       generalize X1.alloc (.cells #[] 5) = X2 at *
       replace K1 := K1.below b9 K1.lt
       replace K2 := K2.below b9 K2.lt
       replace BX := Base.thenB BX b9
       clear b9
       refine hK.out _ _ trivial (fun hHeld => ?_)
       clear hK K
       try simp only [getElem_toArray, getElem_cons_zero, getElem_cons_succ, Act.put, setIfInBounds_toArray, set_cons_zero, set_cons_succ]
       refine wpAnyH_ready (rs := [3, 6]) (by kernel_rfl) (by simp) ?_
       refine AllReadyH.cons rfl (fun K hK => ?n39) (AllReadyH.cons rfl (fun K hK => ?n40) (AllReadyH.nil))
       case' n39 =>
        refine ap_b rfl _ _ rfl _ rfl AD p.ds.length cD p.ds rfl rfl (CellsAt.below HD.out BX) n1 ?_
        intro D1 d1 X3 hc9 RD b9
        replace RD := (Row.of_new hc9 RD).less (show w.heap.size + 2 ≤ X2.heap.size from K2.lt)
        clear hc9
        have oRD := RD.one
        replace K1 := K1.below b9 K1.lt
        replace K2 := K2.below b9 K2.lt
        replace BX := Base.thenB BX b9
        clear b9
        refine hK.out _ _ trivial (fun hHeld => ?_)
        clear hK K
        try simp only [getElem_toArray, getElem_cons_zero, getElem_cons_succ, Act.put, setIfInBounds_toArray, set_cons_zero, set_cons_succ]
        refine wpAnyH_ready (rs := [6]) (by kernel_rfl) (by simp) ?_
        refine AllReadyH.cons rfl (fun K hK => ?_) (AllReadyH.nil)
        have c90 := K1.cell 7
        go_simp
        clear c90
        refine hK.out _ _ trivial (fun hHeld => ?_)
        clear hK K
        try simp only [getElem_toArray, getElem_cons_zero, getElem_cons_succ, Act.put, setIfInBounds_toArray, set_cons_zero, set_cons_succ]
        refine wpAnyH_take (i := 8) (v := .pointer (some ⟨w.heap.size, 6, none⟩)) rfl (by kernel_rfl) (by kernel_rfl) (by kernel_rfl) (fun _ _ _ h => h) (Or.inl ⟨by first | rfl | go_simp, by intro w9 hSw; (try dsimp only at hSw); go_simp⟩) (by assumption) ?_
        simp only [getElem_toArray, getElem_cons_zero, getElem_cons_succ, Act.put, setIfInBounds_toArray, set_cons_zero, set_cons_succ]
        refine wpAnyH_ready (rs := [7]) (by kernel_rfl) (by simp) ?_
        refine AllReadyH.cons rfl (fun K hK => ?_) (AllReadyH.nil)
        refine ap_b rfl _ _ rfl _ rfl AS p.sc.length cS p.sc rfl rfl (CellsAt.below HS.out BX) n2 ?_
        intro S1 s1 X4 hc9 RS b9
        replace RS := (Row.of_new hc9 RS).less (show w.heap.size + 2 ≤ X3.heap.size from K2.lt)
        clear hc9
        have oRS := RS.one
        replace K1 := K1.below b9 K1.lt
        replace K2 := K2.below b9 K2.lt
        replace BX := Base.thenB BX b9
        replace RD := Row.below RD b9
        clear b9
        refine hK.out _ _ trivial (fun hHeld => ?_)
        clear hK K
        try simp only [getElem_toArray, getElem_cons_zero, getElem_cons_succ, Act.put, setIfInBounds_toArray, set_cons_zero, set_cons_succ]
        skip
       case' n40 =>
        have c90 := K1.cell 7
        go_simp
        clear c90
        refine hK.out _ _ trivial (fun hHeld => ?_)
        clear hK K
        try simp only [getElem_toArray, getElem_cons_zero, getElem_cons_succ, Act.put, setIfInBounds_toArray, set_cons_zero, set_cons_succ]
        refine wpAnyH_ready (rs := [3]) (by kernel_rfl) (by simp) ?_
        refine AllReadyH.cons rfl (fun K hK => ?_) (AllReadyH.nil)
        refine ap_b rfl _ _ rfl _ rfl AD p.ds.length cD p.ds rfl rfl (CellsAt.below HD.out BX) n1 ?_
        intro D1 d1 X3 hc9 RD b9
        replace RD := (Row.of_new hc9 RD).less (show w.heap.size + 2 ≤ X2.heap.size from K2.lt)
        clear hc9
        have oRD := RD.one
        replace K1 := K1.below b9 K1.lt
        replace K2 := K2.below b9 K2.lt
        replace BX := Base.thenB BX b9
        clear b9
        refine hK.out _ _ trivial (fun hHeld => ?_)
        clear hK K
        try simp only [getElem_toArray, getElem_cons_zero, getElem_cons_succ, Act.put, setIfInBounds_toArray, set_cons_zero, set_cons_succ]
        refine wpAnyH_take (i := 8) (v := .pointer (some ⟨w.heap.size, 6, none⟩)) rfl (by kernel_rfl) (by kernel_rfl) (by kernel_rfl) (fun _ _ _ h => h) (Or.inl ⟨by first | rfl | go_simp, by intro w9 hSw; (try dsimp only at hSw); go_simp⟩) (by assumption) ?_
        simp only [getElem_toArray, getElem_cons_zero, getElem_cons_succ, Act.put, setIfInBounds_toArray, set_cons_zero, set_cons_succ]
        refine wpAnyH_ready (rs := [7]) (by kernel_rfl) (by simp) ?_
        refine AllReadyH.cons rfl (fun K hK => ?_) (AllReadyH.nil)
        refine ap_b rfl _ _ rfl _ rfl AS p.sc.length cS p.sc rfl rfl (CellsAt.below HS.out BX) n2 ?_
        intro S1 s1 X4 hc9 RS b9
        replace RS := (Row.of_new hc9 RS).less (show w.heap.size + 2 ≤ X3.heap.size from K2.lt)
        clear hc9
        have oRS := RS.one
        replace K1 := K1.below b9 K1.lt
        replace K2 := K2.below b9 K2.lt
        replace BX := Base.thenB BX b9
        replace RD := Row.below RD b9
        clear b9
        refine hK.out _ _ trivial (fun hHeld => ?_)
        clear hK K
        try simp only [getElem_toArray, getElem_cons_zero, getElem_cons_succ, Act.put, setIfInBounds_toArray, set_cons_zero, set_cons_succ]
        skip
      case' n38 =>
       have c90 := K1.cell 7
       go_simp
       clear c90
       refine hK.out _ _ trivial (fun hHeld => ?_)
       clear hK K
       try simp only [getElem_toArray, getElem_cons_zero, getElem_cons_succ, Act.put, setIfInBounds_toArray, set_cons_zero, set_cons_succ]
       refine wpAnyH_ready (rs := [0]) (by kernel_rfl) (by simp) ?_
       refine AllReadyH.cons rfl (fun K hK => ?_) (AllReadyH.nil)
       go_simp
       have b9 := (Below.refl X1.heap.size X1).alloc (Nat.le_refl _) (.cells #[] 5)
       generalize X1.alloc (.cells #[] 5) = X2 at *
       replace K1 := K1.below b9 K1.lt
       replace K2 := K2.below b9 K2.lt
       replace BX := Base.thenB BX b9
       clear b9
       refine hK.out _ _ trivial (fun hHeld => ?_)
       clear hK K
       try simp only [getElem_toArray, getElem_cons_zero, getElem_cons_succ, Act.put, setIfInBounds_toArray, set_cons_zero, set_cons_succ]
       refine wpAnyH_ready (rs := [3]) (by kernel_rfl) (by simp) ?_
       refine AllReadyH.cons rfl (fun K hK => ?_) (AllReadyH.nil)
       refine ap_b rfl _ _ rfl _ rfl AD p.ds.length cD p.ds rfl rfl (CellsAt.below HD.out BX) n1 ?_
       intro D1 d1 X3 hc9 RD b9
       replace RD := (Row.of_new hc9 RD).less (show w.heap.size + 2 ≤ X2.heap.size from K2.lt)
       clear hc9
       have oRD := RD.one
       replace K1 := K1.below b9 K1.lt
       replace K2 := K2.below b9 K2.lt
       replace BX := Base.thenB BX b9
       clear b9
       refine hK.out _ _ trivial (fun hHeld => ?_)
       clear hK K
       try simp only [getElem_toArray, getElem_cons_zero, getElem_cons_succ, Act.put, setIfInBounds_toArray, set_cons_zero, set_cons_succ]
       refine wpAnyH_take (i := 8) (v := .pointer (some ⟨w.heap.size, 6, none⟩)) rfl (by kernel_rfl) (by kernel_rfl) (by kernel_rfl) (fun _ _ _ h => h) (Or.inl ⟨by first | rfl | go_simp, by intro w9 hSw; (try dsimp only at hSw); go_simp⟩) (by assumption) ?_
       simp only [getElem_toArray, getElem_cons_zero, getElem_cons_succ, Act.put, setIfInBounds_toArray, set_cons_zero, set_cons_succ]
       refine wpAnyH_ready (rs := [7]) (by kernel_rfl) (by simp) ?_
       refine AllReadyH.cons rfl (fun K hK => ?_) (AllReadyH.nil)
       refine ap_b rfl _ _ rfl _ rfl AS p.sc.length cS p.sc rfl rfl (CellsAt.below HS.out BX) n2 ?_
       intro S1 s1 X4 hc9 RS b9
       replace RS := (Row.of_new hc9 RS).less (show w.heap.size + 2 ≤ X3.heap.size from K2.lt)
       clear hc9
       have oRS := RS.one
       replace K1 := K1.below b9 K1.lt
       replace K2 := K2.below b9 K2.lt
       replace BX := Base.thenB BX b9
       replace RD := Row.below RD b9
       clear b9
       refine hK.out _ _ trivial (fun hHeld => ?_)
       clear hK K
       try simp only [getElem_toArray, getElem_cons_zero, getElem_cons_succ, Act.put, setIfInBounds_toArray, set_cons_zero, set_cons_succ]
       skip
     case' n27 =>
      have c90 := K1.cell 7
      go_simp
      clear c90
      refine hK.out _ _ trivial (fun hHeld => ?_)
      clear hK K
      try simp only [getElem_toArray, getElem_cons_zero, getElem_cons_succ, Act.put, setIfInBounds_toArray, set_cons_zero, set_cons_succ]
      refine wpAnyH_ready (rs := [0, 4]) (by kernel_rfl) (by simp) ?_
      refine AllReadyH.cons rfl (fun K hK => ?n41) (AllReadyH.cons rfl (fun K hK => ?n42) (AllReadyH.nil))
      case' n41 =>
       go_simp
       have b9 := (Below.refl X0.heap.size X0).alloc (Nat.le_refl _) (.cells #[] 5)
       generalize X0.alloc (.cells #[] 5) = X1 at *
       replace K1 := K1.below b9 K1.lt
       replace K2 := K2.below b9 K2.lt
       replace BX := Base.thenB BX b9
       clear b9
       refine hK.out _ _ trivial (fun hHeld => ?_)
       clear hK K
       try simp only [getElem_toArray, getElem_cons_zero, getElem_cons_succ, Act.put, setIfInBounds_toArray, set_cons_zero, set_cons_succ]
       refine wpAnyH_ready (rs := [3, 4]) (by kernel_rfl) (by simp) ?_
       refine AllReadyH.cons rfl (fun K hK => ?n43) (AllReadyH.cons rfl (fun K hK => ?n44) (AllReadyH.nil))
       case' n43 =>
        refine ap_b rfl _ _ rfl _ rfl AD p.ds.length cD p.ds rfl rfl (CellsAt.below HD.out BX) n1 ?_
        intro D1 d1 X2 hc9 RD b9
        replace RD := (Row.of_new hc9 RD).less (show w.heap.size + 2 ≤ X1.heap.size from K2.lt)
        clear hc9
        have oRD := RD.one
        replace K1 := K1.below b9 K1.lt
        replace K2 := K2.below b9 K2.lt
        replace BX := Base.thenB BX b9
        clear b9
        refine hK.out _ _ trivial (fun hHeld => ?_)
        clear hK K
        try simp only [getElem_toArray, getElem_cons_zero, getElem_cons_succ, Act.put, setIfInBounds_toArray, set_cons_zero, set_cons_succ]
        refine wpAnyH_take (i := 8) (v := .pointer (some ⟨w.heap.size, 6, none⟩)) rfl (by kernel_rfl) (by kernel_rfl) (by kernel_rfl) (fun _ _ _ h => h) (Or.inl ⟨by first | rfl | go_simp, by intro w9 hSw; (try dsimp only at hSw); go_simp⟩) (by assumption) ?_
        simp only [getElem_toArray, getElem_cons_zero, getElem_cons_succ, Act.put, setIfInBounds_toArray, set_cons_zero, set_cons_succ]
        refine wpAnyH_ready (rs := [4]) (by kernel_rfl) (by simp) ?_
        refine AllReadyH.cons rfl (fun K hK => ?_) (AllReadyH.nil)
        go_simp
        have b9 := (Below.refl X2.heap.size X2).alloc (Nat.le_refl _) (.cells #[] 5)
        generalize X2.alloc (.cells #[] 5) = X3 at *
        replace K1 := K1.below b9 K1.lt
        replace K2 := K2.below b9 K2.lt
        replace BX := Base.thenB BX b9
        replace RD := Row.below RD b9
        clear b9
        refine hK.out _ _ trivial (fun hHeld => ?_)
        clear hK K
        try simp only [getElem_toArray, getElem_cons_zero, getElem_cons_succ, Act.put, setIfInBounds_toArray, set_cons_zero, set_cons_succ]
        refine wpAnyH_ready (rs := [7]) (by kernel_rfl) (by simp) ?_
        refine AllReadyH.cons rfl (fun K hK => ?_) (AllReadyH.nil)
        refine ap_b rfl _ _ rfl _ rfl AS p.sc.length cS p.sc rfl rfl (CellsAt.below HS.out BX) n2 ?_
        intro S1 s1 X4 hc9 RS b9
        replace RS := (Row.of_new hc9 RS).less (show w.heap.size + 2 ≤ X3.heap.size from K2.lt)
        clear hc9
        have oRS := RS.one
        replace K1 := K1.below b9 K1.lt
        replace K2 := K2.below b9 K2.lt
        replace BX := Base.thenB BX b9
        replace RD := Row.below RD b9
        clear b9
        refine hK.out _ _ trivial (fun hHeld => ?_)
        clear hK K
        try simp only [getElem_toArray, getElem_cons_zero, getElem_cons_succ, Act.put, setIfInBounds_toArray, set_cons_zero, set_cons_succ]
        skip
       case' n44 =>
        go_simp
        have b9 := (Below.refl X1.heap.size X1).alloc (Nat.le_refl _) (.cells #[] 5)
        generalize X1.alloc (.cells #[] 5) = X2 at *
        replace K1 := K1.below b9 K1.lt
        replace K2 := K2.below b9 K2.lt
        replace BX := Base.thenB BX b9
        clear b9
        refine hK.out _ _ trivial (fun hHeld => ?_)
        clear hK K
        try simp only [getElem_toArray, getElem_cons_zero, getElem_cons_succ, Act.put, setIfInBounds_toArray, set_cons_zero, set_cons_succ]
        refine wpAnyH_ready (rs := [3]) (by kernel_rfl) (by simp) ?_
        refine AllReadyH.cons rfl (fun K hK => ?_) (AllReadyH.nil)
        refine ap_b rfl _ _ rfl _ rfl AD p.ds.length cD p.ds rfl rfl (CellsAt.below HD.out BX) n1 ?_
        intro D1 d1 X3 hc9 RD b9
        replace RD := (Row.of_new hc9 RD).less (show w.heap.size + 2 ≤ X2.heap.size from K2.lt)
        clear hc9
        have oRD := RD.one
        replace K1 := K1.below b9 K1.lt
        replace K2 := K2.below b9 K2.lt
        replace BX := Base.thenB BX b9
        clear b9
        refine hK.out _ _ trivial (fun hHeld => ?_)
        clear hK K
        try simp only [getElem_toArray, getElem_cons_zero, getElem_cons_succ, Act.put, setIfInBounds_toArray, set_cons_zero, set_cons_succ]
        refine wpAnyH_take (i := 8) (v := .pointer (some ⟨w.heap.size, 6, none⟩)) rfl (by kernel_rfl) (by kernel_rfl) (by kernel_rfl) (fun _ _ _ h => h) (Or.inl ⟨by first | rfl | go_simp, by intro w9 hSw; (try dsimp only at hSw); go_simp⟩) (by assumption) ?_
        simp only [getElem_toArray, getElem_cons_zero, getElem_cons_succ, Act.put, setIfInBounds_toArray, set_cons_zero, set_cons_succ]
        refine wpAnyH_ready (rs := [7]) (by kernel_rfl) (by simp) ?_
        refine AllReadyH.cons rfl (fun K hK => ?_) (AllReadyH.nil)
        refine ap_b rfl _ _ rfl _ rfl AS p.sc.length cS p.sc rfl rfl (CellsAt.below HS.out BX) n2 ?_
        intro S1 s1 X4 hc9 RS b9
        replace RS := (Row.of_new hc9 RS).less (show w.heap.size + 2 ≤ X3.heap.size from K2.lt)
        clear hc9
        have oRS := RS.one
        replace K1 := K1.below b9 K1.lt
        replace K2 := K2.below b9 K2.lt
        replace BX := Base.thenB BX b9
        replace RD := Row.below RD b9
        clear b9
        refine hK.out _ _ trivial (fun hHeld => ?_)
        clear hK K
        try simp only [getElem_toArray, getElem_cons_zero, getElem_cons_succ, Act.put, setIfInBounds_toArray, set_cons_zero, set_cons_succ]
        skip
      case' n42 =>
       go_simp
       have b9 := (Below.refl X0.heap.size X0).alloc (Nat.le_refl _) (.cells #[] 5)
       generalize X0.alloc (.cells #[] 5) = X1 at *
       replace K1 := K1.below b9 K1.lt
       replace K2 := K2.below b9 K2.lt
       replace BX := Base.thenB BX b9
       clear b9
       refine hK.out _ _ trivial (fun hHeld => ?_)
       clear hK K
       try simp only [getElem_toArray, getElem_cons_zero, getElem_cons_succ, Act.put, setIfInBounds_toArray, set_cons_zero, set_cons_succ]
       refine wpAnyH_ready (rs := [0]) (by kernel_rfl) (by simp) ?_
       refine AllReadyH.cons rfl (fun K hK => ?_) (AllReadyH.nil)
       go_simp
       have b9 := (Below.refl X1.heap.size X1).alloc (Nat.le_refl _) (.cells #[] 5)
       generalize X1.alloc (.cells #[] 5) = X2 at *
       replace K1 := K1.below b9 K1.lt
       replace K2 := K2.below b9 K2.lt
       replace BX := Base.thenB BX b9
       clear b9
       refine hK.out _ _ trivial (fun hHeld => ?_)
       clear hK K
       try simp only [getElem_toArray, getElem_cons_zero, getElem_cons_succ, Act.put, setIfInBounds_toArray, set_cons_zero, set_cons_succ]
       refine wpAnyH_ready (rs := [3]) (by kernel_rfl) (by simp) ?_
       refine AllReadyH.cons rfl (fun K hK => ?_) (AllReadyH.nil)
       refine ap_b rfl _ _ rfl _ rfl AD p.ds.length cD p.ds rfl rfl (CellsAt.below HD.out BX) n1 ?_
       intro D1 d1 X3 hc9 RD b9
       replace RD := (Row.of_new hc9 RD).less (show w.heap.size + 2 ≤ X2.heap.size from K2.lt)
       clear hc9
       have oRD := RD.one
       replace K1 := K1.below b9 K1.lt
       replace K2 := K2.below b9 K2.lt
       replace BX := Base.thenB BX b9
       clear b9
       refine hK.out _ _ trivial (fun hHeld => ?_)
       clear hK K
       try simp only [getElem_toArray, getElem_cons_zero, getElem_cons_succ, Act.put, setIfInBounds_toArray, set_cons_zero, set_cons_succ]
       refine wpAnyH_take (i := 8) (v := .pointer (some ⟨w.heap.size, 6, none⟩)) rfl (by kernel_rfl) (by kernel_rfl) (by kernel_rfl) (fun _ _ _ h => h) (Or.inl ⟨by first | rfl | go_simp, by intro w9 hSw; (try dsimp only at hSw); go_simp⟩) (by assumption) ?_
       simp only [getElem_toArray, getElem_cons_zero, getElem_cons_succ, Act.put, setIfInBounds_toArray, set_cons_zero, set_cons_succ]
       refine wpAnyH_ready (rs := [7]) (by kernel_rfl) (by simp) ?_
       refine AllReadyH.cons rfl (fun K hK => ?_) (AllReadyH.nil)
       refine ap_b rfl _ _ rfl _ rfl AS p.sc.length cS p.sc rfl rfl (CellsAt.below HS.out BX) n2 ?_
       intro S1 s1 X4 hc9 RS b9
       replace RS := (Row.of_new hc9 RS).less (show w.heap.size + 2 ≤ X3.heap.size from K2.lt)
       clear hc9
       have oRS := RS.one
       replace K1 := K1.below b9 K1.lt
       replace K2 := K2.below b9 K2.lt
       replace BX := Base.thenB BX b9
       replace RD := Row.below RD b9
       clear b9
       refine hK.out _ _ trivial (fun hHeld => ?_)
       clear hK K
       try simp only [getElem_toArray, getElem_cons_zero, getElem_cons_succ, Act.put, setIfInBounds_toArray, set_cons_zero, set_cons_succ]
       skip
    case' n3 =>
     go_simp
     have b9 := (Below.refl X0.heap.size X0).alloc (Nat.le_refl _) (.cells #[] 5)
     generalize X0.alloc (.cells #[] 5) = X1 at *
     replace K1 := K1.below b9 K1.lt
     replace K2 := K2.below b9 K2.lt
     replace BX := Base.thenB BX b9
     clear b9
     refine hK.out _ _ trivial (fun hHeld => ?_)
     clear hK K
     try simp only [getElem_toArray, getElem_cons_zero, getElem_cons_succ, Act.put, setIfInBounds_toArray, set_cons_zero, set_cons_succ]
     refine wpAnyH_ready (rs := [0, 2, 6]) (by kernel_rfl) (by simp) ?_
     refine AllReadyH.cons rfl (fun K hK => ?n45) (AllReadyH.cons rfl (fun K hK => ?n46) (AllReadyH.cons rfl (fun K hK => ?n47) (AllReadyH.nil)))
     case' n45 =>
      go_simp
      have b9 := (Below.refl X1.heap.size X1).alloc (Nat.le_refl _) (.cells #[] 5)
      generalize X1.alloc (.cells #[] 5) = X2 at *
      replace K1 := K1.below b9 K1.lt
      replace K2 := K2.below b9 K2.lt
      replace BX := Base.thenB BX b9
      clear b9
      refine hK.out _ _ trivial (fun hHeld => ?_)
      clear hK K
      try simp only [getElem_toArray, getElem_cons_zero, getElem_cons_succ, Act.put, setIfInBounds_toArray, set_cons_zero, set_cons_succ]
      refine wpAnyH_ready (rs := [2, 6]) (by kernel_rfl) (by simp) ?_
      refine AllReadyH.cons rfl (fun K hK => ?n48) (AllReadyH.cons rfl (fun K hK => ?n49) (AllReadyH.nil))
      case' n48 =>
       have c90 := K1.cell 6
       go_simp
       clear c90
       refine hK.out _ _ trivial (fun hHeld => ?_)
       clear hK K
       try simp only [getElem_toArray, getElem_cons_zero, getElem_cons_succ, Act.put, setIfInBounds_toArray, set_cons_zero, set_cons_succ]
       refine wpAnyH_ready (rs := [3, 6]) (by kernel_rfl) (by simp) ?_
       refine AllReadyH.cons rfl (fun K hK => ?n50) (AllReadyH.cons rfl (fun K hK => ?n51) (AllReadyH.nil))
       case' n50 =>
        refine ap_b rfl _ _ rfl _ rfl AD p.ds.length cD p.ds rfl rfl (CellsAt.below HD.out BX) n1 ?_
        intro D1 d1 X3 hc9 RD b9
        replace RD := (Row.of_new hc9 RD).less (show w.heap.size + 2 ≤ X2.heap.size from K2.lt)
        clear hc9
        have oRD := RD.one
        replace K1 := K1.below b9 K1.lt
        replace K2 := K2.below b9 K2.lt
        replace BX := Base.thenB BX b9
        clear b9
        refine hK.out _ _ trivial (fun hHeld => ?_)
        clear hK K
        try simp only [getElem_toArray, getElem_cons_zero, getElem_cons_succ, Act.put, setIfInBounds_toArray, set_cons_zero, set_cons_succ]
        refine wpAnyH_ready (rs := [6]) (by kernel_rfl) (by simp) ?_
        refine AllReadyH.cons rfl (fun K hK => ?_) (AllReadyH.nil)
        have c90 := K1.cell 7
        go_simp
        clear c90
        refine hK.out _ _ trivial (fun hHeld => ?_)
        clear hK K
        try simp only [getElem_toArray, getElem_cons_zero, getElem_cons_succ, Act.put, setIfInBounds_toArray, set_cons_zero, set_cons_succ]
        refine wpAnyH_take (i := 8) (v := .pointer (some ⟨w.heap.size, 6, none⟩)) rfl (by kernel_rfl) (by kernel_rfl) (by kernel_rfl) (fun _ _ _ h => h) (Or.inl ⟨by first | rfl | go_simp, by intro w9 hSw; (try dsimp only at hSw); go_simp⟩) (by assumption) ?_
        simp only [getElem_toArray, getElem_cons_zero, getElem_cons_succ, Act.put, setIfInBounds_toArray, set_cons_zero, set_cons_succ]
        refine wpAnyH_ready (rs := [7]) (by kernel_rfl) (by simp) ?_
        refine AllReadyH.cons rfl (fun K hK => ?_) (AllReadyH.nil)
        refine ap_b rfl _ _ rfl _ rfl AS p.sc.length cS p.sc rfl rfl (CellsAt.below HS.out BX) n2 ?_
        intro S1 s1 X4 hc9 RS b9
        replace RS := (Row.of_new hc9 RS).less (show w.heap.size + 2 ≤ X3.heap.size from K2.lt)
        clear hc9
        have oRS := RS.one
        replace K1 := K1.below b9 K1.lt
        replace K2 := K2.below b9 K2.lt
        replace BX := Base.thenB BX b9
        replace RD := Row.below RD b9
        clear b9
        refine hK.out _ _ trivial (fun hHeld => ?_)
        clear hK K
        try simp only [getElem_toArray, getElem_cons_zero, getElem_cons_succ, Act.put, setIfInBounds_toArray, set_cons_zero, set_cons_succ]
        skip
       case' n51 =>
        have c90 := K1.cell 7
        go_simp
        clear c90
        refine hK.out _ _ trivial (fun hHeld => ?_)
        clear hK K
        try simp only [getElem_toArray, getElem_cons_zero, getElem_cons_succ, Act.put, setIfInBounds_toArray, set_cons_zero, set_cons_succ]
        refine wpAnyH_ready (rs := [3]) (by kernel_rfl) (by simp) ?_
        refine AllReadyH.cons rfl (fun K hK => ?_) (AllReadyH.nil)
        refine ap_b rfl _ _ rfl _ rfl AD p.ds.length cD p.ds rfl rfl (CellsAt.below HD.out BX) n1 ?_
        intro D1 d1 X3 hc9 RD b9
        replace RD := (Row.of_new hc9 RD).less (show w.heap.size + 2 ≤ X2.heap.size from K2.lt)
        clear hc9
        have oRD := RD.one
        replace K1 := K1.below b9 K1.lt
        replace K2 := K2.below b9 K2.lt
        replace BX := Base.thenB BX b9
        clear b9
        refine hK.out _ _ trivial (fun hHeld => ?_)
        clear hK K
        try simp only [getElem_toArray, getElem_cons_zero, getElem_cons_succ, Act.put, setIfInBounds_toArray, set_cons_zero, set_cons_succ]
        refine wpAnyH_take (i := 8) (v := .pointer (some ⟨w.heap.size, 6, none⟩)) rfl (by kernel_rfl) (by kernel_rfl) (by kernel_rfl) (fun _ _ _ h => h) (Or.inl ⟨by first | rfl | go_simp, by intro w9 hSw; (try dsimp only at hSw); go_simp⟩) (by assumption) ?_
        simp only [getElem_toArray, getElem_cons_zero, getElem_cons_succ, Act.put, setIfInBounds_toArray, set_cons_zero, set_cons_succ]
        refine wpAnyH_ready (rs := [7]) (by kernel_rfl) (by simp) ?_
        refine AllReadyH.cons rfl (fun K hK => ?_) (AllReadyH.nil)
        refine ap_b rfl _ _ rfl _ rfl AS p.sc.length cS p.sc rfl rfl (CellsAt.below HS.out BX) n2 ?_
        intro S1 s1 X4 hc9 RS b9
        replace RS := (Row.of_new hc9 RS).less (show w.heap.size + 2 ≤ X3.heap.size from K2.lt)
        clear hc9
        have oRS := RS.one
        replace K1 := K1.below b9 K1.lt
        replace K2 := K2.below b9 K2.lt
        replace BX := Base.thenB BX b9
        replace RD := Row.below RD b9
        clear b9
        refine hK.out _ _ trivial (fun hHeld => ?_)
        clear hK K
        try simp only [getElem_toArray, getElem_cons_zero, getElem_cons_succ, Act.put, setIfInBounds_toArray, set_cons_zero, set_cons_succ]
        skip
      case' n49 =>
       have c90 := K1.cell 7
       go_simp
       clear c90
       refine hK.out _ _ trivial (fun hHeld => ?_)
       clear hK K
       try simp only [getElem_toArray, getElem_cons_zero, getElem_cons_succ, Act.put, setIfInBounds_toArray, set_cons_zero, set_cons_succ]
       refine wpAnyH_ready (rs := [2]) (by kernel_rfl) (by simp) ?_
       refine AllReadyH.cons rfl (fun K hK => ?_) (AllReadyH.nil)
       have c90 := K1.cell 6
       go_simp
       clear c90
       refine hK.out _ _ trivial (fun hHeld => ?_)
       clear hK K
       try simp only [getElem_toArray, getElem_cons_zero, getElem_cons_succ, Act.put, setIfInBounds_toArray, set_cons_zero, set_cons_succ]
       refine wpAnyH_ready (rs := [3]) (by kernel_rfl) (by simp) ?_
       refine AllReadyH.cons rfl (fun K hK => ?_) (AllReadyH.nil)
       refine ap_b rfl _ _ rfl _ rfl AD p.ds.length cD p.ds rfl rfl (CellsAt.below HD.out BX) n1 ?_
       intro D1 d1 X3 hc9 RD b9
       replace RD := (Row.of_new hc9 RD).less (show w.heap.size + 2 ≤ X2.heap.size from K2.lt)
       clear hc9
       have oRD := RD.one
       replace K1 := K1.below b9 K1.lt
       replace K2 := K2.below b9 K2.lt
       replace BX := Base.thenB BX b9
       clear b9
       refine hK.out _ _ trivial (fun hHeld => ?_)
       clear hK K
       try simp only [getElem_toArray, getElem_cons_zero, getElem_cons_succ, Act.put, setIfInBounds_toArray, set_cons_zero, set_cons_succ]
       refine wpAnyH_take (i := 8) (v := .pointer (some ⟨w.heap.size, 6, none⟩)) rfl (by kernel_rfl) (by kernel_rfl) (by kernel_rfl) (fun _ _ _ h => h) (Or.inl ⟨by first | rfl | go_simp, by intro w9 hSw; (try dsimp only at hSw); go_simp⟩) (by assumption) ?_
       simp only [getElem_toArray, getElem_cons_zero, getElem_cons_succ, Act.put, setIfInBounds_toArray, set_cons_zero, set_cons_succ]
       refine wpAnyH_ready (rs := [7]) (by kernel_rfl) (by simp) ?_
       refine AllReadyH.cons rfl (fun K hK => ?_) (AllReadyH.nil)
       refine ap_b rfl _ _ rfl _ rfl AS p.sc.length cS p.sc rfl rfl (CellsAt.below HS.out BX) n2 ?_
       intro S1 s1 X4 hc9 RS b9
       replace RS := (Row.of_new hc9 RS).less (show w.heap.size + 2 ≤ X3.heap.size from K2.lt)
       clear hc9
       have oRS := RS.one
       replace K1 := K1.below b9 K1.lt
       replace K2 := K2.below b9 K2.lt
       replace BX := Base.thenB BX b9
       replace RD := Row.below RD b9
       clear b9
       refine hK.out _ _ trivial (fun hHeld => ?_)
       clear hK K
       try simp only [getElem_toArray, getElem_cons_zero, getElem_cons_succ, Act.put, setIfInBounds_toArray, set_cons_zero, set_cons_succ]
       skip
     case' n46 =>
      have c90 := K1.cell 6
      go_simp
      clear c90
      refine hK.out _ _ trivial (fun hHeld => ?_)
      clear hK K
      try simp only [getElem_toArray, getElem_cons_zero, getElem_cons_succ, Act.put, setIfInBounds_toArray, set_cons_zero, set_cons_succ]
      refine wpAnyH_ready (rs := [0, 6]) (by kernel_rfl) (by simp) ?_
      refine AllReadyH.cons rfl (fun K hK => ?n52) (AllReadyH.cons rfl (fun K hK => ?n53) (AllReadyH.nil))
      case' n52 =>
       go_simp
       have b9 := (Below.refl X1.heap.size X1).alloc (Nat.le_refl _) (.cells #[] 5)
       generalize X1.alloc (.cells #[] 5) = X2 at *
       replace K1 := K1.below b9 K1.lt
       replace K2 := K2.below b9 K2.lt
       replace BX := Base.thenB BX b9
       clear b9
       refine hK.out _ _ trivial (fun hHeld => ?_)
       clear hK K
       try simp only [getElem_toArray, getElem_cons_zero, getElem_cons_succ, Act.put, setIfInBounds_toArray, set_cons_zero, set_cons_succ]
       refine wpAnyH_ready (rs := [3, 6]) (by kernel_rfl) (by simp) ?_
       refine AllReadyH.cons rfl (fun K hK => ?n54) (AllReadyH.cons rfl (fun K hK => ?n55) (AllReadyH.nil))
       case' n54 =>
        refine ap_b rfl _ _ rfl _ rfl AD p.ds.length cD p.ds rfl rfl (CellsAt.below HD.out BX) n1 ?_
        intro D1 d1 X3 hc9 RD b9
        replace RD := (Row.of_new hc9 RD).less (show w.heap.size + 2 ≤ X2.heap.size from K2.lt)
        clear hc9
        have oRD := RD.one
        replace K1 := K1.below b9 K1.lt
        replace K2 := K2.below b9 K2.lt
        replace BX := Base.thenB BX b9
        clear b9
        refine hK.out _ _ trivial (fun hHeld => ?_)
        clear hK K
        try simp only [getElem_toArray, getElem_cons_zero, getElem_cons_succ, Act.put, setIfInBounds_toArray, set_cons_zero, set_cons_succ]
        refine wpAnyH_ready (rs := [6]) (by kernel_rfl) (by simp) ?_
        refine AllReadyH.cons rfl (fun K hK => ?_) (AllReadyH.nil)
        have c90 := K1.cell 7
        go_simp
        clear c90
        refine hK.out _ _ trivial (fun hHeld => ?_)
        clear hK K
        try simp only [getElem_toArray, getElem_cons_zero, getElem_cons_succ, Act.put, setIfInBounds_toArray, set_cons_zero, set_cons_succ]
        refine wpAnyH_take (i := 8) (v := .pointer (some ⟨w.heap.size, 6, none⟩)) rfl (by kernel_rfl) (by kernel_rfl) (by kernel_rfl) (fun _ _ _ h => h) (Or.inl ⟨by first | rfl | go_simp, by intro w9 hSw; (try dsimp only at hSw); go_simp⟩) (by assumption) ?_
        simp only [getElem_toArray, getElem_cons_zero, getElem_cons_succ, Act.put, setIfInBounds_toArray, set_cons_zero, set_cons_succ]
        refine wpAnyH_ready (rs := [7]) (by kernel_rfl) (by simp) ?_
        refine AllReadyH.cons rfl (fun K hK => ?_) (AllReadyH.nil)
        refine ap_b rfl _ _ rfl _ rfl AS p.sc.length cS p.sc rfl rfl (CellsAt.below HS.out BX) n2 ?_
        intro S1 s1 X4 hc9 RS b9
        replace RS := (Row.of_new hc9 RS).less (show w.heap.size + 2 ≤ X3.heap.size from K2.lt)
        clear hc9
        have oRS := RS.one
        replace K1 := K1.below b9 K1.lt
        replace K2 := K2.below b9 K2.lt
        replace BX := Base.thenB BX b9
        replace RD := Row.below RD b9
        clear b9
        refine hK.out _ _ trivial (fun hHeld => ?_)
        clear hK K
        try simp only [getElem_toArray, getElem_cons_zero, getElem_cons_succ, Act.put, setIfInBounds_toArray, set_cons_zero, set_cons_succ]
        skip
       case' n55 =>
        have c90 := K1.cell 7
        go_simp
        clear c90
        refine hK.out _ _ trivial (fun hHeld => ?_)
        clear hK K
        try simp only [getElem_toArray, getElem_cons_zero, getElem_cons_succ, Act.put, setIfInBounds_toArray, set_cons_zero, set_cons_succ]
        refine wpAnyH_ready (rs := [3]) (by kernel_rfl) (by simp) ?_
        refine AllReadyH.cons rfl (fun K hK => ?_) (AllReadyH.nil)
        refine ap_b rfl _ _ rfl _ rfl AD p.ds.length cD p.ds rfl rfl (CellsAt.below HD.out BX) n1 ?_
        intro D1 d1 X3 hc9 RD b9
        replace RD := (Row.of_new hc9 RD).less (show w.heap.size + 2 ≤ X2.heap.size from K2.lt)
        clear hc9
        have oRD := RD.one
        replace K1 := K1.below b9 K1.lt
        replace K2 := K2.below b9 K2.lt
        replace BX := Base.thenB BX b9
        clear b9
        refine hK.out _ _ trivial (fun hHeld => ?_)
        clear hK K
        try simp only [getElem_toArray, getElem_cons_zero, getElem_cons_succ, Act.put, setIfInBounds_toArray, set_cons_zero, set_cons_succ]
        refine wpAnyH_take (i := 8) (v := .pointer (some ⟨w.heap.size, 6, none⟩)) rfl (by kernel_rfl) (by kernel_rfl) (by kernel_rfl) (fun _ _ _ h => h) (Or.inl ⟨by first | rfl | go_simp, by intro w9 hSw; (try dsimp only at hSw); go_simp⟩) (by assumption) ?_
        simp only [getElem_toArray, getElem_cons_zero, getElem_cons_succ, Act.put, setIfInBounds_toArray, set_cons_zero, set_cons_succ]
        refine wpAnyH_ready (rs := [7]) (by kernel_rfl) (by simp) ?_
        refine AllReadyH.cons rfl (fun K hK => ?_) (AllReadyH.nil)
        refine ap_b rfl _ _ rfl _ rfl AS p.sc.length cS p.sc rfl rfl (CellsAt.below HS.out BX) n2 ?_
        intro S1 s1 X4 hc9 RS b9
        replace RS := (Row.of_new hc9 RS).less (show w.heap.size + 2 ≤ X3.heap.size from K2.lt)
        clear hc9
        have oRS := RS.one
        replace K1 := K1.below b9 K1.lt
        replace K2 := K2.below b9 K2.lt
        replace BX := Base.thenB BX b9
        replace RD := Row.below RD b9
        clear b9
        refine hK.out _ _ trivial (fun hHeld => ?_)
        clear hK K
        try simp only [getElem_toArray, getElem_cons_zero, getElem_cons_succ, Act.put, setIfInBounds_toArray, set_cons_zero, set_cons_succ]
        skip
      case' n53 =>
       have c90 := K1.cell 7
       go_simp
       clear c90
       refine hK.out _ _ trivial (fun hHeld => ?_)
       clear hK K
       try simp only [getElem_toArray, getElem_cons_zero, getElem_cons_succ, Act.put, setIfInBounds_toArray, set_cons_zero, set_cons_succ]
       refine wpAnyH_ready (rs := [0]) (by kernel_rfl) (by simp) ?_
       refine AllReadyH.cons rfl (fun K hK => ?_) (AllReadyH.nil)
       go_simp
       have b9 := (Below.refl X1.heap.size X1).alloc (Nat.le_refl _) (.cells #[] 5)
       generalize X1.alloc (.cells #[] 5) = X2 at *
       replace K1 := K1.below b9 K1.lt
       replace K2 := K2.below b9 K2.lt
       replace BX := Base.thenB BX b9
       clear b9
       refine hK.out _ _ trivial (fun hHeld => ?_)
       clear hK K
       try simp only [getElem_toArray, getElem_cons_zero, getElem_cons_succ, Act.put, setIfInBounds_toArray, set_cons_zero, set_cons_succ]
       refine wpAnyH_ready (rs := [3]) (by kernel_rfl) (by simp) ?_
       refine AllReadyH.cons rfl (fun K hK => ?_) (AllReadyH.nil)
       refine ap_b rfl _ _ rfl _ rfl AD p.ds.length cD p.ds rfl rfl (CellsAt.below HD.out BX) n1 ?_
       intro D1 d1 X3 hc9 RD b9
       replace RD := (Row.of_new hc9 RD).less (show w.heap.size + 2 ≤ X2.heap.size from K2.lt)
       clear hc9
       have oRD := RD.one
       replace K1 := K1.below b9 K1.lt
       replace K2 := K2.below b9 K2.lt
       replace BX := Base.thenB BX b9
       clear b9
       refine hK.out _ _ trivial (fun hHeld => ?_)
       clear hK K
       try simp only [getElem_toArray, getElem_cons_zero, getElem_cons_succ, Act.put, setIfInBounds_toArray, set_cons_zero, set_cons_succ]
       refine wpAnyH_take (i := 8) (v := .pointer (some ⟨w.heap.size, 6, none⟩)) rfl (by kernel_rfl) (by kernel_rfl) (by kernel_rfl) (fun _ _ _ h => h) (Or.inl ⟨by first | rfl | go_simp, by intro w9 hSw; (try dsimp only at hSw); go_simp⟩) (by assumption) ?_
       simp only [getElem_toArray, getElem_cons_zero, getElem_cons_succ, Act.put, setIfInBounds_toArray, set_cons_zero, set_cons_succ]
       refine wpAnyH_ready (rs := [7]) (by kernel_rfl) (by simp) ?_
       refine AllReadyH.cons rfl (fun K hK => ?_) (AllReadyH.nil)
       refine ap_b rfl _ _ rfl _ rfl AS p.sc.length cS p.sc rfl rfl (CellsAt.below HS.out BX) n2 ?_
       intro S1 s1 X4 hc9 RS b9
       replace RS := (Row.of_new hc9 RS).less (show w.heap.size + 2 ≤ X3.heap.size from K2.lt)
       clear hc9
       have oRS := RS.one
       replace K1 := K1.below b9 K1.lt
       replace K2 := K2.below b9 K2.lt
       replace BX := Base.thenB BX b9
       replace RD := Row.below RD b9
       clear b9
       refine hK.out _ _ trivial (fun hHeld => ?_)
       clear hK K
       try simp only [getElem_toArray, getElem_cons_zero, getElem_cons_succ, Act.put, setIfInBounds_toArray, set_cons_zero, set_cons_succ]
       skip
     case' n47 =>
      have c90 := K1.cell 7
      go_simp
      clear c90
      refine hK.out _ _ trivial (fun hHeld => ?_)
      clear hK K
      try simp only [getElem_toArray, getElem_cons_zero, getElem_cons_succ, Act.put, setIfInBounds_toArray, set_cons_zero, set_cons_succ]
      refine wpAnyH_ready (rs := [0, 2]) (by kernel_rfl) (by simp) ?_
      refine AllReadyH.cons rfl (fun K hK => ?n56) (AllReadyH.cons rfl (fun K hK => ?n57) (AllReadyH.nil))
      case' n56 =>
       go_simp
       have b9 := (Below.refl X1.heap.size X1).alloc (Nat.le_refl _) (.cells #[] 5)
       generalize X1.alloc (.cells #[] 5) = X2 at *
       replace K1 := K1.below b9 K1.lt
       replace K2 := K2.below b9 K2.lt
       replace BX := Base.thenB BX b9
       clear b9
       refine hK.out _ _ trivial (fun hHeld => ?_)
       clear hK K
       try simp only [getElem_toArray, getElem_cons_zero, getElem_cons_succ, Act.put, setIfInBounds_toArray, set_cons_zero, set_cons_succ]
       refine wpAnyH_ready (rs := [2]) (by kernel_rfl) (by simp) ?_
       refine AllReadyH.cons rfl (fun K hK => ?_) (AllReadyH.nil)
       have c90 := K1.cell 6
       go_simp
       clear c90
       refine hK.out _ _ trivial (fun hHeld => ?_)
       clear hK K
       try simp only [getElem_toArray, getElem_cons_zero, getElem_cons_succ, Act.put, setIfInBounds_toArray, set_cons_zero, set_cons_succ]
       refine wpAnyH_ready (rs := [3]) (by kernel_rfl) (by simp) ?_
       refine AllReadyH.cons rfl (fun K hK => ?_) (AllReadyH.nil)
       refine ap_b rfl _ _ rfl _ rfl AD p.ds.length cD p.ds rfl rfl (CellsAt.below HD.out BX) n1 ?_
       intro D1 d1 X3 hc9 RD b9
       replace RD := (Row.of_new hc9 RD).less (show w.heap.size + 2 ≤ X2.heap.size from K2.lt)
       clear hc9
       have oRD := RD.one
       replace K1 := K1.below b9 K1.lt
       replace K2 := K2.below b9 K2.lt
       replace BX := Base.thenB BX b9
       clear b9
       refine hK.out _ _ trivial (fun hHeld => ?_)
       clear hK K
       try simp only [getElem_toArray, getElem_cons_zero, getElem_cons_succ, Act.put, setIfInBounds_toArray, set_cons_zero, set_cons_succ]
       refine wpAnyH_take (i := 8) (v := .pointer (some ⟨w.heap.size, 6, none⟩)) rfl (by kernel_rfl) (by kernel_rfl) (by kernel_rfl) (fun _ _ _ h => h) (Or.inl ⟨by first | rfl | go_simp, by intro w9 hSw; (try dsimp only at hSw); go_simp⟩) (by assumption) ?_
       simp only [getElem_toArray, getElem_cons_zero, getElem_cons_succ, Act.put, setIfInBounds_toArray, set_cons_zero, set_cons_succ]
       refine wpAnyH_ready (rs := [7]) (by kernel_rfl) (by simp) ?_
       refine AllReadyH.cons rfl (fun K hK => ?_) (AllReadyH.nil)
       refine ap_b rfl _ _ rfl _ rfl AS p.sc.length cS p.sc rfl rfl (CellsAt.below HS.out BX) n2 ?_
       intro S1 s1 X4 hc9 RS b9
       replace RS := (Row.of_new hc9 RS).less (show w.heap.size + 2 ≤ X3.heap.size from K2.lt)
       clear hc9
       have oRS := RS.one
       replace K1 := K1.below b9 K1.lt
       replace K2 := K2.below b9 K2.lt
       replace BX := Base.thenB BX b9
       replace RD := Row.below RD b9
       clear b9
       refine hK.out _ _ trivial (fun hHeld => ?_)
       clear hK K
       try simp only [getElem_toArray, getElem_cons_zero, getElem_cons_succ, Act.put, setIfInBounds_toArray, set_cons_zero, set_cons_succ]
       skip
      case' n57 =>
       have c90 := K1.cell 6
       go_simp
       clear c90
       refine hK.out _ _ trivial (fun hHeld => ?_)
       clear hK K
       try simp only [getElem_toArray, getElem_cons_zero, getElem_cons_succ, Act.put, setIfInBounds_toArray, set_cons_zero, set_cons_succ]
       refine wpAnyH_ready (rs := [0]) (by kernel_rfl) (by simp) ?_
       refine AllReadyH.cons rfl (fun K hK => ?_) (AllReadyH.nil)
       go_simp
       have b9 := (Below.refl X1.heap.size X1).alloc (Nat.le_refl _) (.cells #[] 5)
       generalize X1.alloc (.cells #[] 5) = X2 at *
       replace K1 := K1.below b9 K1.lt
       replace K2 := K2.below b9 K2.lt
       replace BX := Base.thenB BX b9
       clear b9
       refine hK.out _ _ trivial (fun hHeld => ?_)
       clear hK K
       try simp only [getElem_toArray, getElem_cons_zero, getElem_cons_succ, Act.put, setIfInBounds_toArray, set_cons_zero, set_cons_succ]
       refine wpAnyH_ready (rs := [3]) (by kernel_rfl) (by simp) ?_
       refine AllReadyH.cons rfl (fun K hK => ?_) (AllReadyH.nil)
       refine ap_b rfl _ _ rfl _ rfl AD p.ds.length cD p.ds rfl rfl (CellsAt.below HD.out BX) n1 ?_
       intro D1 d1 X3 hc9 RD b9
       replace RD := (Row.of_new hc9 RD).less (show w.heap.size + 2 ≤ X2.heap.size from K2.lt)
       clear hc9
       have oRD := RD.one
       replace K1 := K1.below b9 K1.lt
       replace K2 := K2.below b9 K2.lt
       replace BX := Base.thenB BX b9
       clear b9
       refine hK.out _ _ trivial (fun hHeld => ?_)
       clear hK K
       try simp only [getElem_toArray, getElem_cons_zero, getElem_cons_succ, Act.put, setIfInBounds_toArray, set_cons_zero, set_cons_succ]
       refine wpAnyH_take (i := 8) (v := .pointer (some ⟨w.heap.size, 6, none⟩)) rfl (by kernel_rfl) (by kernel_rfl) (by kernel_rfl) (fun _ _ _ h => h) (Or.inl ⟨by first | rfl | go_simp, by intro w9 hSw; (try dsimp only at hSw); go_simp⟩) (by assumption) ?_
       simp only [getElem_toArray, getElem_cons_zero, getElem_cons_succ, Act.put, setIfInBounds_toArray, set_cons_zero, set_cons_succ]
       refine wpAnyH_ready (rs := [7]) (by kernel_rfl) (by simp) ?_
       refine AllReadyH.cons rfl (fun K hK => ?_) (AllReadyH.nil)
       refine ap_b rfl _ _ rfl _ rfl AS p.sc.length cS p.sc rfl rfl (CellsAt.below HS.out BX) n2 ?_
       intro S1 s1 X4 hc9 RS b9
       replace RS := (Row.of_new hc9 RS).less (show w.heap.size + 2 ≤ X3.heap.size from K2.lt)
       clear hc9
       have oRS := RS.one
       replace K1 := K1.below b9 K1.lt
       replace K2 := K2.below b9 K2.lt
       replace BX := Base.thenB BX b9
       replace RD := Row.below RD b9
       clear b9
       refine hK.out _ _ trivial (fun hHeld => ?_)
       clear hK K
       try simp only [getElem_toArray, getElem_cons_zero, getElem_cons_succ, Act.put, setIfInBounds_toArray, set_cons_zero, set_cons_succ]
       skip
    case' n4 =>
     have c90 := K1.cell 7
     go_simp
     clear c90
     refine hK.out _ _ trivial (fun hHeld => ?_)
     clear hK K
     try simp only [getElem_toArray, getElem_cons_zero, getElem_cons_succ, Act.put, setIfInBounds_toArray, set_cons_zero, set_cons_succ]
     refine wpAnyH_ready (rs := [0, 2, 4]) (by kernel_rfl) (by simp) ?_
     refine AllReadyH.cons rfl (fun K hK => ?n58) (AllReadyH.cons rfl (fun K hK => ?n59) (AllReadyH.cons rfl (fun K hK => ?n60) (AllReadyH.nil)))
     case' n58 =>
      go_simp
      have b9 := (Below.refl X0.heap.size X0).alloc (Nat.le_refl _) (.cells #[] 5)
      generalize X0.alloc (.cells #[] 5) = X1 at *
      replace K1 := K1.below b9 K1.lt
      replace K2 := K2.below b9 K2.lt
      replace BX := Base.thenB BX b9
      clear b9
      refine hK.out _ _ trivial (fun hHeld => ?_)
      clear hK K
      try simp only [getElem_toArray, getElem_cons_zero, getElem_cons_succ, Act.put, setIfInBounds_toArray, set_cons_zero, set_cons_succ]
      refine wpAnyH_ready (rs := [2, 4]) (by kernel_rfl) (by simp) ?_
      refine AllReadyH.cons rfl (fun K hK => ?n61) (AllReadyH.cons rfl (fun K hK => ?n62) (AllReadyH.nil))
      case' n61 =>
       have c90 := K1.cell 6
       go_simp
       clear c90
       refine hK.out _ _ trivial (fun hHeld => ?_)
       clear hK K
       try simp only [getElem_toArray, getElem_cons_zero, getElem_cons_succ, Act.put, setIfInBounds_toArray, set_cons_zero, set_cons_succ]
       refine wpAnyH_ready (rs := [3, 4]) (by kernel_rfl) (by simp) ?_
       refine AllReadyH.cons rfl (fun K hK => ?n63) (AllReadyH.cons rfl (fun K hK => ?n64) (AllReadyH.nil))
       case' n63 =>
        refine ap_b rfl _ _ rfl _ rfl AD p.ds.length cD p.ds rfl rfl (CellsAt.below HD.out BX) n1 ?_
        intro D1 d1 X2 hc9 RD b9
        replace RD := (Row.of_new hc9 RD).less (show w.heap.size + 2 ≤ X1.heap.size from K2.lt)
        clear hc9
        have oRD := RD.one
        replace K1 := K1.below b9 K1.lt
        replace K2 := K2.below b9 K2.lt
        replace BX := Base.thenB BX b9
        clear b9
        refine hK.out _ _ trivial (fun hHeld => ?_)
        clear hK K
        try simp only [getElem_toArray, getElem_cons_zero, getElem_cons_succ, Act.put, setIfInBounds_toArray, set_cons_zero, set_cons_succ]
        refine wpAnyH_take (i := 8) (v := .pointer (some ⟨w.heap.size, 6, none⟩)) rfl (by kernel_rfl) (by kernel_rfl) (by kernel_rfl) (fun _ _ _ h => h) (Or.inl ⟨by first | rfl | go_simp, by intro w9 hSw; (try dsimp only at hSw); go_simp⟩) (by assumption) ?_
        simp only [getElem_toArray, getElem_cons_zero, getElem_cons_succ, Act.put, setIfInBounds_toArray, set_cons_zero, set_cons_succ]
        refine wpAnyH_ready (rs := [4]) (by kernel_rfl) (by simp) ?_
        refine AllReadyH.cons rfl (fun K hK => ?_) (AllReadyH.nil)
        go_simp
        have b9 := (Below.refl X2.heap.size X2).alloc (Nat.le_refl _) (.cells #[] 5)
        generalize X2.alloc (.cells #[] 5) = X3 at *
        replace K1 := K1.below b9 K1.lt
        replace K2 := K2.below b9 K2.lt
        replace BX := Base.thenB BX b9
        replace RD := Row.below RD b9
        clear b9
        refine hK.out _ _ trivial (fun hHeld => ?_)
        clear hK K
        try simp only [getElem_toArray, getElem_cons_zero, getElem_cons_succ, Act.put, setIfInBounds_toArray, set_cons_zero, set_cons_succ]
        refine wpAnyH_ready (rs := [7]) (by kernel_rfl) (by simp) ?_
        refine AllReadyH.cons rfl (fun K hK => ?_) (AllReadyH.nil)
        refine ap_b rfl _ _ rfl _ rfl AS p.sc.length cS p.sc rfl rfl (CellsAt.below HS.out BX) n2 ?_
        intro S1 s1 X4 hc9 RS b9
        replace RS := (Row.of_new hc9 RS).less (show w.heap.size + 2 ≤ X3.heap.size from K2.lt)
        clear hc9
        have oRS := RS.one
        replace K1 := K1.below b9 K1.lt
        replace K2 := K2.below b9 K2.lt
        replace BX := Base.thenB BX b9
        replace RD := Row.below RD b9
        clear b9
        refine hK.out _ _ trivial (fun hHeld => ?_)
        clear hK K
        try simp only [getElem_toArray, getElem_cons_zero, getElem_cons_succ, Act.put, setIfInBounds_toArray, set_cons_zero, set_cons_succ]
        skip
       case' n64 =>
        go_simp
        have b9 := (Below.refl X1.heap.size X1).alloc (Nat.le_refl _) (.cells #[] 5)
        generalize X1.alloc (.cells #[] 5) = X2 at *
        replace K1 := K1.below b9 K1.lt
        replace K2 := K2.below b9 K2.lt
        replace BX := Base.thenB BX b9
        clear b9
        refine hK.out _ _ trivial (fun hHeld => ?_)
        clear hK K
        try simp only [getElem_toArray, getElem_cons_zero, getElem_cons_succ, Act.put, setIfInBounds_toArray, set_cons_zero, set_cons_succ]
        refine wpAnyH_ready (rs := [3]) (by kernel_rfl) (by simp) ?_
        refine AllReadyH.cons rfl (fun K hK => ?_) (AllReadyH.nil)
        refine ap_b rfl _ _ rfl _ rfl AD p.ds.length cD p.ds rfl rfl (CellsAt.below HD.out BX) n1 ?_
        intro D1 d1 X3 hc9 RD b9
        replace RD := (Row.of_new hc9 RD).less (show w.heap.size + 2 ≤ X2.heap.size from K2.lt)
        clear hc9
        have oRD := RD.one
        replace K1 := K1.below b9 K1.lt
        replace K2 := K2.below b9 K2.lt
        replace BX := Base.thenB BX b9
        clear b9
        refine hK.out _ _ trivial (fun hHeld => ?_)
        clear hK K
        try simp only [getElem_toArray, getElem_cons_zero, getElem_cons_succ, Act.put, setIfInBounds_toArray, set_cons_zero, set_cons_succ]
        refine wpAnyH_take (i := 8) (v := .pointer (some ⟨w.heap.size, 6, none⟩)) rfl (by kernel_rfl) (by kernel_rfl) (by kernel_rfl) (fun _ _ _ h => h) (Or.inl ⟨by first | rfl | go_simp, by intro w9 hSw; (try dsimp only at hSw); go_simp⟩) (by assumption) ?_
        simp only [getElem_toArray, getElem_cons_zero, getElem_cons_succ, Act.put, setIfInBounds_toArray, set_cons_zero, set_cons_succ]
        refine wpAnyH_ready (rs := [7]) (by kernel_rfl) (by simp) ?_
        refine AllReadyH.cons rfl (fun K hK => ?_) (AllReadyH.nil)
        refine ap_b rfl _ _ rfl _ rfl AS p.sc.length cS p.sc rfl rfl (CellsAt.below HS.out BX) n2 ?_
        intro S1 s1 X4 hc9 RS b9
        replace RS := (Row.of_new hc9 RS).less (show w.heap.size + 2 ≤ X3.heap.size from K2.lt)
        clear hc9
        have oRS := RS.one
        replace K1 := K1.below b9 K1.lt
        replace K2 := K2.below b9 K2.lt
        replace BX := Base.thenB BX b9
        replace RD := Row.below RD b9
        clear b9
        refine hK.out _ _ trivial (fun hHeld => ?_)
        clear hK K
        try simp only [getElem_toArray, getElem_cons_zero, getElem_cons_succ, Act.put, setIfInBounds_toArray, set_cons_zero, set_cons_succ]
        skip
      case' n62 =>
       go_simp
       have b9 := (Below.refl X1.heap.size X1).alloc (Nat.le_refl _) (.cells #[] 5)
       generalize X1.alloc (.cells #[] 5) = X2 at *
       replace K1 := K1.below b9 K1.lt
       replace K2 := K2.below b9 K2.lt
       replace BX := Base.thenB BX b9
       clear b9
       refine hK.out _ _ trivial (fun hHeld => ?_)
       clear hK K
       try simp only [getElem_toArray, getElem_cons_zero, getElem_cons_succ, Act.put, setIfInBounds_toArray, set_cons_zero, set_cons_succ]
       refine wpAnyH_ready (rs := [2]) (by kernel_rfl) (by simp) ?_
       refine AllReadyH.cons rfl (fun K hK => ?_) (AllReadyH.nil)
       have c90 := K1.cell 6
       go_simp
       clear c90
       refine hK.out _ _ trivial (fun hHeld => ?_)
       clear hK K
       try simp only [getElem_toArray, getElem_cons_zero, getElem_cons_succ, Act.put, setIfInBounds_toArray, set_cons_zero, set_cons_succ]
       refine wpAnyH_ready (rs := [3]) (by kernel_rfl) (by simp) ?_
       refine AllReadyH.cons rfl (fun K hK => ?_) (AllReadyH.nil)
       refine ap_b rfl _ _ rfl _ rfl AD p.ds.length cD p.ds rfl rfl (CellsAt.below HD.out BX) n1 ?_
       intro D1 d1 X3 hc9 RD b9
       replace RD := (Row.of_new hc9 RD).less (show w.heap.size + 2 ≤ X2.heap.size from K2.lt)
       clear hc9
       have oRD := RD.one
       replace K1 := K1.below b9 K1.lt
       replace K2 := K2.below b9 K2.lt
       replace BX := Base.thenB BX b9
       clear b9
       refine hK.out _ _ trivial (fun hHeld => ?_)
       clear hK K
       try simp only [getElem_toArray, getElem_cons_zero, getElem_cons_succ, Act.put, setIfInBounds_toArray, set_cons_zero, set_cons_succ]
       refine wpAnyH_take (i := 8) (v := .pointer (some ⟨w.heap.size, 6, none⟩)) rfl (by kernel_rfl) (by kernel_rfl) (by kernel_rfl) (fun _ _ _ h => h) (Or.inl ⟨by first | rfl | go_simp, by intro w9 hSw; (try dsimp only at hSw); go_simp⟩) (by assumption) ?_
       simp only [getElem_toArray, getElem_cons_zero, getElem_cons_succ, Act.put, setIfInBounds_toArray, set_cons_zero, set_cons_succ]
       refine wpAnyH_ready (rs := [7]) (by kernel_rfl) (by simp) ?_
       refine AllReadyH.cons rfl (fun K hK => ?_) (AllReadyH.nil)
       refine ap_b rfl _ _ rfl _ rfl AS p.sc.length cS p.sc rfl rfl (CellsAt.below HS.out BX) n2 ?_
       intro S1 s1 X4 hc9 RS b9
       replace RS := (Row.of_new hc9 RS).less (show w.heap.size + 2 ≤ X3.heap.size from K2.lt)
       clear hc9
       have oRS := RS.one
       replace K1 := K1.below b9 K1.lt
       replace K2 := K2.below b9 K2.lt
       replace BX := Base.thenB BX b9
       replace RD := Row.below RD b9
       clear b9
       refine hK.out _ _ trivial (fun hHeld => ?_)
       clear hK K
       try simp only [getElem_toArray, getElem_cons_zero, getElem_cons_succ, Act.put, setIfInBounds_toArray, set_cons_zero, set_cons_succ]
       skip
     case' n59 =>
      have c90 := K1.cell 6
      go_simp
      clear c90
      refine hK.out _ _ trivial (fun hHeld => ?_)
      clear hK K
      try simp only [getElem_toArray, getElem_cons_zero, getElem_cons_succ, Act.put, setIfInBounds_toArray, set_cons_zero, set_cons_succ]
      refine wpAnyH_ready (rs := [0, 4]) (by kernel_rfl) (by simp) ?_
      refine AllReadyH.cons rfl (fun K hK => ?n65) (AllReadyH.cons rfl (fun K hK => ?n66) (AllReadyH.nil))
      case' n65 =>
       go_simp
       have b9 := (Below.refl X0.heap.size X0).alloc (Nat.le_refl _) (.cells #[] 5)
       generalize X0.alloc (.cells #[] 5) = X1 at *
       replace K1 := K1.below b9 K1.lt
       replace K2 := K2.below b9 K2.lt
       replace BX := Base.thenB BX b9
       clear b9
       refine hK.out _ _ trivial (fun hHeld => ?_)
       clear hK K
       try simp only [getElem_toArray, getElem_cons_zero, getElem_cons_succ, Act.put, setIfInBounds_toArray, set_cons_zero, set_cons_succ]
       refine wpAnyH_ready (rs := [3, 4]) (by kernel_rfl) (by simp) ?_
       refine AllReadyH.cons rfl (fun K hK => ?n67) (AllReadyH.cons rfl (fun K hK => ?n68) (AllReadyH.nil))
       case' n67 =>
        refine ap_b rfl _ _ rfl _ rfl AD p.ds.length cD p.ds rfl rfl (CellsAt.below HD.out BX) n1 ?_
        intro D1 d1 X2 hc9 RD b9
        replace RD := (Row.of_new hc9 RD).less (show w.heap.size + 2 ≤ X1.heap.size from K2.lt)
        clear hc9
        have oRD := RD.one
        replace K1 := K1.below b9 K1.lt
        replace K2 := K2.below b9 K2.lt
        replace BX := Base.thenB BX b9
        clear b9
        refine hK.out _ _ trivial (fun hHeld => ?_)
        clear hK K
        try simp only [getElem_toArray, getElem_cons_zero, getElem_cons_succ, Act.put, setIfInBounds_toArray, set_cons_zero, set_cons_succ]
        refine wpAnyH_take (i := 8) (v := .pointer (some ⟨w.heap.size, 6, none⟩)) rfl (by kernel_rfl) (by kernel_rfl) (by kernel_rfl) (fun _ _ _ h => h) (Or.inl ⟨by first | rfl | go_simp, by intro w9 hSw; (try dsimp only at hSw); go_simp⟩) (by assumption) ?_
        simp only [getElem_toArray, getElem_cons_zero, getElem_cons_succ, Act.put, setIfInBounds_toArray, set_cons_zero, set_cons_succ]
        refine wpAnyH_ready (rs := [4]) (by kernel_rfl) (by simp) ?_
        refine AllReadyH.cons rfl (fun K hK => ?_) (AllReadyH.nil)
        go_simp
        have b9 := (Below.refl X2.heap.size X2).alloc (Nat.le_refl _) (.cells #[] 5)
        generalize X2.alloc (.cells #[] 5) = X3 at *
        replace K1 := K1.below b9 K1.lt
        replace K2 := K2.below b9 K2.lt
        replace BX := Base.thenB BX b9
        replace RD := Row.below RD b9
        clear b9
        refine hK.out _ _ trivial (fun hHeld => ?_)
        clear hK K
        try simp only [getElem_toArray, getElem_cons_zero, getElem_cons_succ, Act.put, setIfInBounds_toArray, set_cons_zero, set_cons_succ]
        refine wpAnyH_ready (rs := [7]) (by kernel_rfl) (by simp) ?_
        refine AllReadyH.cons rfl (fun K hK => ?_) (AllReadyH.nil)
        refine ap_b rfl _ _ rfl _ rfl AS p.sc.length cS p.sc rfl rfl (CellsAt.below HS.out BX) n2 ?_
        intro S1 s1 X4 hc9 RS b9
        replace RS := (Row.of_new hc9 RS).less (show w.heap.size + 2 ≤ X3.heap.size from K2.lt)
        clear hc9
        have oRS := RS.one
        replace K1 := K1.below b9 K1.lt
        replace K2 := K2.below b9 K2.lt
        replace BX := Base.thenB BX b9
        replace RD := Row.below RD b9
        clear b9
        refine hK.out _ _ trivial (fun hHeld => ?_)
        clear hK K
        try simp only [getElem_toArray, getElem_cons_zero, getElem_cons_succ, Act.put, setIfInBounds_toArray, set_cons_zero, set_cons_succ]
        skip
       case' n68 =>
        go_simp
        have b9 := (Below.refl X1.heap.size X1).alloc (Nat.le_refl _) (.cells #[] 5)
        generalize X1.alloc (.cells #[] 5) = X2 at *
        replace K1 := K1.below b9 K1.lt
        replace K2 := K2.below b9 K2.lt
        replace BX := Base.thenB BX b9
        clear b9
        refine hK.out _ _ trivial (fun hHeld => ?_)
        clear hK K
        try simp only [getElem_toArray, getElem_cons_zero, getElem_cons_succ, Act.put, setIfInBounds_toArray, set_cons_zero, set_cons_succ]
        refine wpAnyH_ready (rs := [3]) (by kernel_rfl) (by simp) ?_
        refine AllReadyH.cons rfl (fun K hK => ?_) (AllReadyH.nil)
        refine ap_b rfl _ _ rfl _ rfl AD p.ds.length cD p.ds rfl rfl (CellsAt.below HD.out BX) n1 ?_
        intro D1 d1 X3 hc9 RD b9
        replace RD := (Row.of_new hc9 RD).less (show w.heap.size + 2 ≤ X2.heap.size from K2.lt)
        clear hc9
        have oRD := RD.one
        replace K1 := K1.below b9 K1.lt
        replace K2 := K2.below b9 K2.lt
        replace BX := Base.thenB BX b9
        clear b9
        refine hK.out _ _ trivial (fun hHeld => ?_)
        clear hK K
        try simp only [getElem_toArray, getElem_cons_zero, getElem_cons_succ, Act.put, setIfInBounds_toArray, set_cons_zero, set_cons_succ]
        refine wpAnyH_take (i := 8) (v := .pointer (some ⟨w.heap.size, 6, none⟩)) rfl (by kernel_rfl) (by kernel_rfl) (by kernel_rfl) (fun _ _ _ h => h) (Or.inl ⟨by first | rfl | go_simp, by intro w9 hSw; (try dsimp only at hSw); go_simp⟩) (by assumption) ?_
        simp only [getElem_toArray, getElem_cons_zero, getElem_cons_succ, Act.put, setIfInBounds_toArray, set_cons_zero, set_cons_succ]
        refine wpAnyH_ready (rs := [7]) (by kernel_rfl) (by simp) ?_
        refine AllReadyH.cons rfl (fun K hK => ?_) (AllReadyH.nil)
        refine ap_b rfl _ _ rfl _ rfl AS p.sc.length cS p.sc rfl rfl (CellsAt.below HS.out BX) n2 ?_
        intro S1 s1 X4 hc9 RS b9
        replace RS := (Row.of_new hc9 RS).less (show w.heap.size + 2 ≤ X3.heap.size from K2.lt)
        clear hc9
        have oRS := RS.one
        replace K1 := K1.below b9 K1.lt
        replace K2 := K2.below b9 K2.lt
        replace BX := Base.thenB BX b9
        replace RD := Row.below RD b9
        clear b9
        refine hK.out _ _ trivial (fun hHeld => ?_)
        clear hK K
        try simp only [getElem_toArray, getElem_cons_zero, getElem_cons_succ, Act.put, setIfInBounds_toArray, set_cons_zero, set_cons_succ]
        skip
      case' n66 =>
       go_simp
       have b9 := (Below.refl X0.heap.size X0).alloc (Nat.le_refl _) (.cells #[] 5)
       generalize X0.alloc (.cells #[] 5) = X1 at *
       replace K1 := K1.below b9 K1.lt
       replace K2 := K2.below b9 K2.lt
       replace BX := Base.thenB BX b9
       clear b9
       refine hK.out _ _ trivial (fun hHeld => ?_)
       clear hK K
       try simp only [getElem_toArray, getElem_cons_zero, getElem_cons_succ, Act.put, setIfInBounds_toArray, set_cons_zero, set_cons_succ]
       refine wpAnyH_ready (rs := [0]) (by kernel_rfl) (by simp) ?_
       refine AllReadyH.cons rfl (fun K hK => ?_) (AllReadyH.nil)
       go_simp
       have b9 := (Below.refl X1.heap.size X1).alloc (Nat.le_refl _) (.cells #[] 5)
       generalize X1.alloc (.cells #[] 5) = X2 at *
       replace K1 := K1.below b9 K1.lt
       replace K2 := K2.below b9 K2.lt
       replace BX := Base.thenB BX b9
       clear b9
       refine hK.out _ _ trivial (fun hHeld => ?_)
       clear hK K
       try simp only [getElem_toArray, getElem_cons_zero, getElem_cons_succ, Act.put, setIfInBounds_toArray, set_cons_zero, set_cons_succ]
       refine wpAnyH_ready (rs := [3]) (by kernel_rfl) (by simp) ?_
       refine AllReadyH.cons rfl (fun K hK => ?_) (AllReadyH.nil)
       refine ap_b rfl _ _ rfl _ rfl AD p.ds.length cD p.ds rfl rfl (CellsAt.below HD.out BX) n1 ?_
       intro D1 d1 X3 hc9 RD b9
       replace RD := (Row.of_new hc9 RD).less (show w.heap.size + 2 ≤ X2.heap.size from K2.lt)
       clear hc9
       have oRD := RD.one
       replace K1 := K1.below b9 K1.lt
       replace K2 := K2.below b9 K2.lt
       replace BX := Base.thenB BX b9
       clear b9
       refine hK.out _ _ trivial (fun hHeld => ?_)
       clear hK K
       try simp only [getElem_toArray, getElem_cons_zero, getElem_cons_succ, Act.put, setIfInBounds_toArray, set_cons_zero, set_cons_succ]
       refine wpAnyH_take (i := 8) (v := .pointer (some ⟨w.heap.size, 6, none⟩)) rfl (by kernel_rfl) (by kernel_rfl) (by kernel_rfl) (fun _ _ _ h => h) (Or.inl ⟨by first | rfl | go_simp, by intro w9 hSw; (try dsimp only at hSw); go_simp⟩) (by assumption) ?_
       simp only [getElem_toArray, getElem_cons_zero, getElem_cons_succ, Act.put, setIfInBounds_toArray, set_cons_zero, set_cons_succ]
       refine wpAnyH_ready (rs := [7]) (by kernel_rfl) (by simp) ?_
       refine AllReadyH.cons rfl (fun K hK => ?_) (AllReadyH.nil)
       refine ap_b rfl _ _ rfl _ rfl AS p.sc.length cS p.sc rfl rfl (CellsAt.below HS.out BX) n2 ?_
       intro S1 s1 X4 hc9 RS b9
       replace RS := (Row.of_new hc9 RS).less (show w.heap.size + 2 ≤ X3.heap.size from K2.lt)
       clear hc9
       have oRS := RS.one
       replace K1 := K1.below b9 K1.lt
       replace K2 := K2.below b9 K2.lt
       replace BX := Base.thenB BX b9
       replace RD := Row.below RD b9
       clear b9
       refine hK.out _ _ trivial (fun hHeld => ?_)
       clear hK K
       try simp only [getElem_toArray, getElem_cons_zero, getElem_cons_succ, Act.put, setIfInBounds_toArray, set_cons_zero, set_cons_succ]
       skip
     case' n60 =>
      go_simp
      have b9 := (Below.refl X0.heap.size X0).alloc (Nat.le_refl _) (.cells #[] 5)
      generalize X0.alloc (.cells #[] 5) = X1 at *
      replace K1 := K1.below b9 K1.lt
      replace K2 := K2.below b9 K2.lt
      replace BX := Base.thenB BX b9
      clear b9
      refine hK.out _ _ trivial (fun hHeld => ?_)
      clear hK K
      try simp only [getElem_toArray, getElem_cons_zero, getElem_cons_succ, Act.put, setIfInBounds_toArray, set_cons_zero, set_cons_succ]
      refine wpAnyH_ready (rs := [0, 2]) (by kernel_rfl) (by simp) ?_
      refine AllReadyH.cons rfl (fun K hK => ?n69) (AllReadyH.cons rfl (fun K hK => ?n70) (AllReadyH.nil))
      case' n69 =>
       go_simp
       have b9 := (Below.refl X1.heap.size X1).alloc (Nat.le_refl _) (.cells #[] 5)
       generalize X1.alloc (.cells #[] 5) = X2 at *
       replace K1 := K1.below b9 K1.lt
       replace K2 := K2.below b9 K2.lt
       replace BX := Base.thenB BX b9
       clear b9
       refine hK.out _ _ trivial (fun hHeld => ?_)
       clear hK K
       try simp only [getElem_toArray, getElem_cons_zero, getElem_cons_succ, Act.put, setIfInBounds_toArray, set_cons_zero, set_cons_succ]
       refine wpAnyH_ready (rs := [2]) (by kernel_rfl) (by simp) ?_
       refine AllReadyH.cons rfl (fun K hK => ?_) (AllReadyH.nil)
       have c90 := K1.cell 6
       go_simp
       clear c90
       refine hK.out _ _ trivial (fun hHeld => ?_)
       clear hK K
       try simp only [getElem_toArray, getElem_cons_zero, getElem_cons_succ, Act.put, setIfInBounds_toArray, set_cons_zero, set_cons_succ]
       refine wpAnyH_ready (rs := [3]) (by kernel_rfl) (by simp) ?_
       refine AllReadyH.cons rfl (fun K hK => ?_) (AllReadyH.nil)
       refine ap_b rfl _ _ rfl _ rfl AD p.ds.length cD p.ds rfl rfl (CellsAt.below HD.out BX) n1 ?_
       intro D1 d1 X3 hc9 RD b9
       replace RD := (Row.of_new hc9 RD).less (show w.heap.size + 2 ≤ X2.heap.size from K2.lt)
       clear hc9
       have oRD := RD.one
       replace K1 := K1.below b9 K1.lt
       replace K2 := K2.below b9 K2.lt
       replace BX := Base.thenB BX b9
       clear b9
       refine hK.out _ _ trivial (fun hHeld => ?_)
       clear hK K
       try simp only [getElem_toArray, getElem_cons_zero, getElem_cons_succ, Act.put, setIfInBounds_toArray, set_cons_zero, set_cons_succ]
       refine wpAnyH_take (i := 8) (v := .pointer (some ⟨w.heap.size, 6, none⟩)) rfl (by kernel_rfl) (by kernel_rfl) (by kernel_rfl) (fun _ _ _ h => h) (Or.inl ⟨by first | rfl | go_simp, by intro w9 hSw; (try dsimp only at hSw); go_simp⟩) (by assumption) ?_
       simp only [getElem_toArray, getElem_cons_zero, getElem_cons_succ, Act.put, setIfInBounds_toArray, set_cons_zero, set_cons_succ]
       refine wpAnyH_ready (rs := [7]) (by kernel_rfl) (by simp) ?_
       refine AllReadyH.cons rfl (fun K hK => ?_) (AllReadyH.nil)
       refine ap_b rfl _ _ rfl _ rfl AS p.sc.length cS p.sc rfl rfl (CellsAt.below HS.out BX) n2 ?_
       intro S1 s1 X4 hc9 RS b9
       replace RS := (Row.of_new hc9 RS).less (show w.heap.size + 2 ≤ X3.heap.size from K2.lt)
       clear hc9
       have oRS := RS.one
       replace K1 := K1.below b9 K1.lt
       replace K2 := K2.below b9 K2.lt
       replace BX := Base.thenB BX b9
       replace RD := Row.below RD b9
       clear b9
       refine hK.out _ _ trivial (fun hHeld => ?_)
       clear hK K
       try simp only [getElem_toArray, getElem_cons_zero, getElem_cons_succ, Act.put, setIfInBounds_toArray, set_cons_zero, set_cons_succ]
       skip
      case' n70 =>
       have c90 := K1.cell 6
       go_simp
       clear c90
       refine hK.out _ _ trivial (fun hHeld => ?_)
       clear hK K
       try simp only [getElem_toArray, getElem_cons_zero, getElem_cons_succ, Act.put, setIfInBounds_toArray, set_cons_zero, set_cons_succ]
       refine wpAnyH_ready (rs := [0]) (by kernel_rfl) (by simp) ?_
       refine AllReadyH.cons rfl (fun K hK => ?_) (AllReadyH.nil)
       go_simp
       have b9 := (Below.refl X1.heap.size X1).alloc (Nat.le_refl _) (.cells #[] 5)
       generalize X1.alloc (.cells #[] 5) = X2 at *
       replace K1 := K1.below b9 K1.lt
       replace K2 := K2.below b9 K2.lt
       replace BX := Base.thenB BX b9
       clear b9
       refine hK.out _ _ trivial (fun hHeld => ?_)
       clear hK K
       try simp only [getElem_toArray, getElem_cons_zero, getElem_cons_succ, Act.put, setIfInBounds_toArray, set_cons_zero, set_cons_succ]
       refine wpAnyH_ready (rs := [3]) (by kernel_rfl) (by simp) ?_
       refine AllReadyH.cons rfl (fun K hK => ?_) (AllReadyH.nil)
       refine ap_b rfl _ _ rfl _ rfl AD p.ds.length cD p.ds rfl rfl (CellsAt.below HD.out BX) n1 ?_
       intro D1 d1 X3 hc9 RD b9
       replace RD := (Row.of_new hc9 RD).less (show w.heap.size + 2 ≤ X2.heap.size from K2.lt)
       clear hc9
       have oRD := RD.one
       replace K1 := K1.below b9 K1.lt
       replace K2 := K2.below b9 K2.lt
       replace BX := Base.thenB BX b9
       clear b9
       refine hK.out _ _ trivial (fun hHeld => ?_)
       clear hK K
       try simp only [getElem_toArray, getElem_cons_zero, getElem_cons_succ, Act.put, setIfInBounds_toArray, set_cons_zero, set_cons_succ]
       refine wpAnyH_take (i := 8) (v := .pointer (some ⟨w.heap.size, 6, none⟩)) rfl (by kernel_rfl) (by kernel_rfl) (by kernel_rfl) (fun _ _ _ h => h) (Or.inl ⟨by first | rfl | go_simp, by intro w9 hSw; (try dsimp only at hSw); go_simp⟩) (by assumption) ?_
       simp only [getElem_toArray, getElem_cons_zero, getElem_cons_succ, Act.put, setIfInBounds_toArray, set_cons_zero, set_cons_succ]
       refine wpAnyH_ready (rs := [7]) (by kernel_rfl) (by simp) ?_
       refine AllReadyH.cons rfl (fun K hK => ?_) (AllReadyH.nil)
       refine ap_b rfl _ _ rfl _ rfl AS p.sc.length cS p.sc rfl rfl (CellsAt.below HS.out BX) n2 ?_
       intro S1 s1 X4 hc9 RS b9
       replace RS := (Row.of_new hc9 RS).less (show w.heap.size + 2 ≤ X3.heap.size from K2.lt)
       clear hc9
       have oRS := RS.one
       replace K1 := K1.below b9 K1.lt
       replace K2 := K2.below b9 K2.lt
       replace BX := Base.thenB BX b9
       replace RD := Row.below RD b9
       clear b9
       refine hK.out _ _ trivial (fun hHeld => ?_)
       clear hK K
       try simp only [getElem_toArray, getElem_cons_zero, getElem_cons_succ, Act.put, setIfInBounds_toArray, set_cons_zero, set_cons_succ]
       skip
    all_goals
     refine wpAnyH_ready (rs := [9]) (by kernel_rfl) (by simp) ?_
     refine AllReadyH.cons rfl (fun K hK => ?_) (AllReadyH.nil)
     refine Av.step_store_cell rfl _ _ _ rfl (w.heap.size) 6 (.slice D1 p.ds.length d1) rfl rfl 29 _ K1 (by show 6 < 12; decide) (by kernel_rfl) rfl ?_
     replace K1 : Blk (X4.setCell ⟨w.heap.size, 6, none⟩ (.slice D1 p.ds.length d1)) (w.heap.size) 29 #[.int .i64 p.k, .int .i64 p.it, .int .i64 p.ok, .int .u64 p.ob, .int .i64 p.tk, .int .u64 p.tb, .slice D1 p.ds.length d1, .slice AS p.sc.length cS, .int .i64 p.po, .slice AA p.ac.length cA, .slice AI p.ids.length cI, .int .u64 p.sd] := (Av.bset K1 6 (.slice D1 p.ds.length d1) rfl)
     replace K2 : Blk (X4.setCell ⟨w.heap.size, 6, none⟩ (.slice D1 p.ds.length d1)) (w.heap.size + 1) 29 #[.int .i64 0, .int .i64 0, .int .i64 0, .int .u64 0, .int .i64 0, .int .u64 0, .slice none 0 0, .slice none 0 0, .int .i64 0, .slice none 0 0, .slice none 0 0, .int .u64 0] := Av.bother (K2) (by omega) _
     replace BX : Below w.heap.size w (X4.setCell ⟨w.heap.size, 6, none⟩ (.slice D1 p.ds.length d1)) := (BX.setCell (p := ⟨w.heap.size, 6, none⟩) (by simp only; omega) _)
     replace RD := (Row.far (i := 6) (x := .slice D1 p.ds.length d1) RD (show w.heap.size < w.heap.size + 2 by omega))
     replace RS := (Row.far (i := 6) (x := .slice D1 p.ds.length d1) RS (show w.heap.size < w.heap.size + 2 by omega))
     generalize (X4.setCell ⟨w.heap.size, 6, none⟩ (.slice D1 p.ds.length d1)) = X121 at *
     refine hK.out _ _ trivial (fun hHeld => ?_)
     clear hK K
     try simp only [getElem_toArray, getElem_cons_zero, getElem_cons_succ, Act.put, setIfInBounds_toArray, set_cons_zero, set_cons_succ]
     refine wpAnyH_take (i := 10) (v := .pointer (some ⟨w.heap.size, 7, none⟩)) rfl (by kernel_rfl) (by kernel_rfl) (by kernel_rfl) (fun _ _ _ h => h) (Or.inl ⟨by first | rfl | go_simp, by intro w9 hSw; (try dsimp only at hSw); go_simp⟩) (by assumption) ?_
     simp only [getElem_toArray, getElem_cons_zero, getElem_cons_succ, Act.put, setIfInBounds_toArray, set_cons_zero, set_cons_succ]
     refine wpAnyH_ready (rs := [11]) (by kernel_rfl) (by simp) ?_
     refine AllReadyH.cons rfl (fun K hK => ?_) (AllReadyH.nil)
     refine Av.step_store_cell rfl _ _ _ rfl (w.heap.size) 7 (.slice S1 p.sc.length s1) rfl rfl 29 _ K1 (by show 7 < 12; decide) (by kernel_rfl) rfl ?_
     replace K1 : Blk (X121.setCell ⟨w.heap.size, 7, none⟩ (.slice S1 p.sc.length s1)) (w.heap.size) 29 #[.int .i64 p.k, .int .i64 p.it, .int .i64 p.ok, .int .u64 p.ob, .int .i64 p.tk, .int .u64 p.tb, .slice D1 p.ds.length d1, .slice S1 p.sc.length s1, .int .i64 p.po, .slice AA p.ac.length cA, .slice AI p.ids.length cI, .int .u64 p.sd] := (Av.bset K1 7 (.slice S1 p.sc.length s1) rfl)
     replace K2 : Blk (X121.setCell ⟨w.heap.size, 7, none⟩ (.slice S1 p.sc.length s1)) (w.heap.size + 1) 29 #[.int .i64 0, .int .i64 0, .int .i64 0, .int .u64 0, .int .i64 0, .int .u64 0, .slice none 0 0, .slice none 0 0, .int .i64 0, .slice none 0 0, .slice none 0 0, .int .u64 0] := Av.bother (K2) (by omega) _
     replace BX : Below w.heap.size w (X121.setCell ⟨w.heap.size, 7, none⟩ (.slice S1 p.sc.length s1)) := (BX.setCell (p := ⟨w.heap.size, 7, none⟩) (by simp only; omega) _)
     replace RD := (Row.far (i := 7) (x := .slice S1 p.sc.length s1) RD (show w.heap.size < w.heap.size + 2 by omega))
     replace RS := (Row.far (i := 7) (x := .slice S1 p.sc.length s1) RS (show w.heap.size < w.heap.size + 2 by omega))
     generalize (X121.setCell ⟨w.heap.size, 7, none⟩ (.slice S1 p.sc.length s1)) = X122 at *
     refine hK.out _ _ trivial (fun hHeld => ?_)
     clear hK K
     try simp only [getElem_toArray, getElem_cons_zero, getElem_cons_succ, Act.put, setIfInBounds_toArray, set_cons_zero, set_cons_succ]
     refine wpAnyH_done (by kernel_rfl) ?_ _
     go_wp2_with fail
     go_meet
     exact ⟨D1, d1, S1, s1, K1, K2, RD, RS, BX⟩
  case rest =>
    clear K1 K2 BX
    obtain ⟨D1, d1, S1, s1, K1, K2, RD, RS, BX⟩ := hcut
    go_upto_region 2 with (fail)
    generalize wc = W1 at *
    go_cut [] from 13 to 22 (fun wx => ∃ A1 a1 I1 i1, Blk wx (w.heap.size) 29 #[.int .i64 p.k, .int .i64 p.it, .int .i64 p.ok, .int .u64 p.ob, .int .i64 p.tk, .int .u64 p.tb, .slice D1 p.ds.length d1, .slice S1 p.sc.length s1, .int .i64 p.po, .slice A1 p.ac.length a1, .slice I1 p.ids.length i1, .int .u64 p.sd] ∧ Blk wx (w.heap.size + 1) 29 #[.int .i64 0, .int .i64 0, .int .i64 0, .int .u64 0, .int .i64 0, .int .u64 0, .slice none 0 0, .slice none 0 0, .int .i64 0, .slice none 0 0, .slice none 0 0, .int .u64 0] ∧ Row wx (w.heap.size + 2) (.slice D1 p.ds.length d1) p.ds.length (p.ds.map (Value.int .u8)) ∧ Row wx (w.heap.size + 2) (.slice S1 p.sc.length s1) p.sc.length (p.sc.map (Value.int .u8)) ∧ Row wx (w.heap.size + 2) (.slice A1 p.ac.length a1) p.ac.length (p.ac.flatMap encA) ∧ Row wx (w.heap.size + 2) (.slice I1 p.ids.length i1) p.ids.length (p.ids.flatMap encI) ∧ Below w.heap.size w wx)
    case first =>
      go_wp2_with fail
      have K1' : Blk W1.drew (w.heap.size) 29 #[.int .i64 p.k, .int .i64 p.it, .int .i64 p.ok, .int .u64 p.ob, .int .i64 p.tk, .int .u64 p.tb, .slice D1 p.ds.length d1, .slice S1 p.sc.length s1, .int .i64 p.po, .slice AA p.ac.length cA, .slice AI p.ids.length cI, .int .u64 p.sd] := Mem.Blk.drew K1
      have K2' : Blk W1.drew (w.heap.size + 1) 29 #[.int .i64 0, .int .i64 0, .int .i64 0, .int .u64 0, .int .i64 0, .int .u64 0, .slice none 0 0, .slice none 0 0, .int .i64 0, .slice none 0 0, .slice none 0 0, .int .u64 0] := Mem.Blk.drew K2
      refine wp_region_held_drew (S := (fun _ => True)) (by kernel_rfl) ?_ (fun hHeld => ?_)
      · exact trivial
      replace K1 := K1'
      clear K1'
      replace K2 := K2'
      clear K2'
      replace BX : Below w.heap.size w W1.drew := BX.drew
      replace RD := Row.drew RD
      replace RS := Row.drew RS
      generalize W1.drew = X0 at *
      refine wpAnyH_take (i := 1) (v := .pointer (some ⟨w.heap.size, 9, none⟩)) rfl (by kernel_rfl) (by kernel_rfl) (by kernel_rfl) (fun _ _ _ h => h) (Or.inl ⟨by first | rfl | go_simp, by intro w9 hSw; (try dsimp only at hSw); go_simp⟩) (by assumption) ?_
      simp only [getElem_toArray, getElem_cons_zero, getElem_cons_succ, Act.put, setIfInBounds_toArray, set_cons_zero, set_cons_succ]
      refine wpAnyH_take (i := 5) (v := .pointer (some ⟨w.heap.size, 10, none⟩)) rfl (by kernel_rfl) (by kernel_rfl) (by kernel_rfl) (fun _ _ _ h => h) (Or.inl ⟨by first | rfl | go_simp, by intro w9 hSw; (try dsimp only at hSw); go_simp⟩) (by assumption) ?_
      simp only [getElem_toArray, getElem_cons_zero, getElem_cons_succ, Act.put, setIfInBounds_toArray, set_cons_zero, set_cons_succ]
      refine wpAnyH_ready (rs := [0, 2, 4, 6]) (by kernel_rfl) (by simp) ?_
      refine AllReadyH.cons rfl (fun K hK => ?n1001) (AllReadyH.cons rfl (fun K hK => ?n1002) (AllReadyH.cons rfl (fun K hK => ?n1003) (AllReadyH.cons rfl (fun K hK => ?n1004) (AllReadyH.nil))))
      case' n1001 =>
       go_simp
       have b9 := (Below.refl X0.heap.size X0).alloc (Nat.le_refl _) (.cells #[] 24)
       generalize X0.alloc (.cells #[] 24) = X1 at *
       replace K1 := K1.below b9 K1.lt
       replace K2 := K2.below b9 K2.lt
       replace BX := Base.thenB BX b9
       replace RD := Row.below RD b9
       replace RS := Row.below RS b9
       clear b9
       refine hK.out _ _ trivial (fun hHeld => ?_)
       clear hK K
       try simp only [getElem_toArray, getElem_cons_zero, getElem_cons_succ, Act.put, setIfInBounds_toArray, set_cons_zero, set_cons_succ]
       refine wpAnyH_ready (rs := [2, 4, 6]) (by kernel_rfl) (by simp) ?_
       refine AllReadyH.cons rfl (fun K hK => ?n1005) (AllReadyH.cons rfl (fun K hK => ?n1006) (AllReadyH.cons rfl (fun K hK => ?n1007) (AllReadyH.nil)))
       case' n1005 =>
        have c90 := K1.cell 9
        go_simp
        clear c90
        refine hK.out _ _ trivial (fun hHeld => ?_)
        clear hK K
        try simp only [getElem_toArray, getElem_cons_zero, getElem_cons_succ, Act.put, setIfInBounds_toArray, set_cons_zero, set_cons_succ]
        refine wpAnyH_ready (rs := [3, 4, 6]) (by kernel_rfl) (by simp) ?_
        refine AllReadyH.cons rfl (fun K hK => ?n1008) (AllReadyH.cons rfl (fun K hK => ?n1009) (AllReadyH.cons rfl (fun K hK => ?n1010) (AllReadyH.nil)))
        case' n1008 =>
         refine ap_a rfl _ _ rfl _ rfl AA p.ac.length cA p.ac rfl rfl (CellsAt.below HA.out BX) n3 ?_
         intro A1 a1 X2 hc9 RA b9
         replace RA := (Row.of_new hc9 RA).less (show w.heap.size + 2 ≤ X1.heap.size from K2.lt)
         clear hc9
         have oRA := RA.one
         replace K1 := K1.below b9 K1.lt
         replace K2 := K2.below b9 K2.lt
         replace BX := Base.thenB BX b9
         replace RD := Row.below RD b9
         replace RS := Row.below RS b9
         clear b9
         refine hK.out _ _ trivial (fun hHeld => ?_)
         clear hK K
         try simp only [getElem_toArray, getElem_cons_zero, getElem_cons_succ, Act.put, setIfInBounds_toArray, set_cons_zero, set_cons_succ]
         refine wpAnyH_ready (rs := [4, 6]) (by kernel_rfl) (by simp) ?_
         refine AllReadyH.cons rfl (fun K hK => ?n1011) (AllReadyH.cons rfl (fun K hK => ?n1012) (AllReadyH.nil))
         case' n1011 =>
          go_simp
          have b9 := (Below.refl X2.heap.size X2).alloc (Nat.le_refl _) (.cells #[] 122)
          generalize X2.alloc (.cells #[] 122) = X3 at *
          replace K1 := K1.below b9 K1.lt
          replace K2 := K2.below b9 K2.lt
          replace BX := Base.thenB BX b9
          replace RD := Row.below RD b9
          replace RS := Row.below RS b9
          replace RA := Row.below RA b9
          clear b9
          refine hK.out _ _ trivial (fun hHeld => ?_)
          clear hK K
          try simp only [getElem_toArray, getElem_cons_zero, getElem_cons_succ, Act.put, setIfInBounds_toArray, set_cons_zero, set_cons_succ]
          refine wpAnyH_ready (rs := [6]) (by kernel_rfl) (by simp) ?_
          refine AllReadyH.cons rfl (fun K hK => ?_) (AllReadyH.nil)
          have c90 := K1.cell 10
          go_simp
          clear c90
          refine hK.out _ _ trivial (fun hHeld => ?_)
          clear hK K
          try simp only [getElem_toArray, getElem_cons_zero, getElem_cons_succ, Act.put, setIfInBounds_toArray, set_cons_zero, set_cons_succ]
          refine wpAnyH_take (i := 8) (v := .pointer (some ⟨w.heap.size, 9, none⟩)) rfl (by kernel_rfl) (by kernel_rfl) (by kernel_rfl) (fun _ _ _ h => h) (Or.inl ⟨by first | rfl | go_simp, by intro w9 hSw; (try dsimp only at hSw); go_simp⟩) (by assumption) ?_
          simp only [getElem_toArray, getElem_cons_zero, getElem_cons_succ, Act.put, setIfInBounds_toArray, set_cons_zero, set_cons_succ]
          refine wpAnyH_ready (rs := [7]) (by kernel_rfl) (by simp) ?_
          refine AllReadyH.cons rfl (fun K hK => ?_) (AllReadyH.nil)
          refine ap_i rfl _ _ rfl _ rfl AI p.ids.length cI p.ids rfl rfl (CellsAt.below HI.out BX) n4 ?_
          intro I1 i1 X4 hc9 RI b9
          replace RI := (Row.of_new hc9 RI).less (show w.heap.size + 2 ≤ X3.heap.size from K2.lt)
          clear hc9
          have oRI := RI.one
          replace K1 := K1.below b9 K1.lt
          replace K2 := K2.below b9 K2.lt
          replace BX := Base.thenB BX b9
          replace RD := Row.below RD b9
          replace RS := Row.below RS b9
          replace RA := Row.below RA b9
          clear b9
          refine hK.out _ _ trivial (fun hHeld => ?_)
          clear hK K
          try simp only [getElem_toArray, getElem_cons_zero, getElem_cons_succ, Act.put, setIfInBounds_toArray, set_cons_zero, set_cons_succ]
          skip
         case' n1012 =>
          have c90 := K1.cell 10
          go_simp
          clear c90
          refine hK.out _ _ trivial (fun hHeld => ?_)
          clear hK K
          try simp only [getElem_toArray, getElem_cons_zero, getElem_cons_succ, Act.put, setIfInBounds_toArray, set_cons_zero, set_cons_succ]
          refine wpAnyH_take (i := 8) (v := .pointer (some ⟨w.heap.size, 9, none⟩)) rfl (by kernel_rfl) (by kernel_rfl) (by kernel_rfl) (fun _ _ _ h => h) (Or.inl ⟨by first | rfl | go_simp, by intro w9 hSw; (try dsimp only at hSw); go_simp⟩) (by assumption) ?_
          simp only [getElem_toArray, getElem_cons_zero, getElem_cons_succ, Act.put, setIfInBounds_toArray, set_cons_zero, set_cons_succ]
          refine wpAnyH_ready (rs := [4]) (by kernel_rfl) (by simp) ?_
          refine AllReadyH.cons rfl (fun K hK => ?_) (AllReadyH.nil)
          go_simp
          have b9 := (Below.refl X2.heap.size X2).alloc (Nat.le_refl _) (.cells #[] 122)
          generalize X2.alloc (.cells #[] 122) = X3 at *
          replace K1 := K1.below b9 K1.lt
          replace K2 := K2.below b9 K2.lt
          replace BX := Base.thenB BX b9
          replace RD := Row.below RD b9
          replace RS := Row.below RS b9
          replace RA := Row.below RA b9
          clear b9
          refine hK.out _ _ trivial (fun hHeld => ?_)
          clear hK K
          try simp only [getElem_toArray, getElem_cons_zero, getElem_cons_succ, Act.put, setIfInBounds_toArray, set_cons_zero, set_cons_succ]
          refine wpAnyH_ready (rs := [7]) (by kernel_rfl) (by simp) ?_
          refine AllReadyH.cons rfl (fun K hK => ?_) (AllReadyH.nil)
          refine ap_i rfl _ _ rfl _ rfl AI p.ids.length cI p.ids rfl rfl (CellsAt.below HI.out BX) n4 ?_
          intro I1 i1 X4 hc9 RI b9
          replace RI := (Row.of_new hc9 RI).less (show w.heap.size + 2 ≤ X3.heap.size from K2.lt)
          clear hc9
          have oRI := RI.one
          replace K1 := K1.below b9 K1.lt
          replace K2 := K2.below b9 K2.lt
          replace BX := Base.thenB BX b9
          replace RD := Row.below RD b9
          replace RS := Row.below RS b9
          replace RA := Row.below RA b9
          clear b9
          refine hK.out _ _ trivial (fun hHeld => ?_)
          clear hK K
          try simp only [getElem_toArray, getElem_cons_zero, getElem_cons_succ, Act.put, setIfInBounds_toArray, set_cons_zero, set_cons_succ]
          skip
        case' n1009 =>
         go_simp
         have b9 := (Below.refl X1.heap.size X1).alloc (Nat.le_refl _) (.cells #[] 122)
         generalize X1.alloc (.cells #[] 122) = X2 at *
         replace K1 := K1.below b9 K1.lt
         replace K2 := K2.below b9 K2.lt
         replace BX := Base.thenB BX b9
         replace RD := Row.below RD b9
         replace RS := Row.below RS b9
         clear b9
         refine hK.out _ _ trivial (fun hHeld => ?_)
         clear hK K
         try simp only [getElem_toArray, getElem_cons_zero, getElem_cons_succ, Act.put, setIfInBounds_toArray, set_cons_zero, set_cons_succ]
         refine wpAnyH_ready (rs := [3, 6]) (by kernel_rfl) (by simp) ?_
         refine AllReadyH.cons rfl (fun K hK => ?n1013) (AllReadyH.cons rfl (fun K hK => ?n1014) (AllReadyH.nil))
         case' n1013 =>
          refine ap_a rfl _ _ rfl _ rfl AA p.ac.length cA p.ac rfl rfl (CellsAt.below HA.out BX) n3 ?_
          intro A1 a1 X3 hc9 RA b9
          replace RA := (Row.of_new hc9 RA).less (show w.heap.size + 2 ≤ X2.heap.size from K2.lt)
          clear hc9
          have oRA := RA.one
          replace K1 := K1.below b9 K1.lt
          replace K2 := K2.below b9 K2.lt
          replace BX := Base.thenB BX b9
          replace RD := Row.below RD b9
          replace RS := Row.below RS b9
          clear b9
          refine hK.out _ _ trivial (fun hHeld => ?_)
          clear hK K
          try simp only [getElem_toArray, getElem_cons_zero, getElem_cons_succ, Act.put, setIfInBounds_toArray, set_cons_zero, set_cons_succ]
          refine wpAnyH_ready (rs := [6]) (by kernel_rfl) (by simp) ?_
          refine AllReadyH.cons rfl (fun K hK => ?_) (AllReadyH.nil)
          have c90 := K1.cell 10
          go_simp
          clear c90
          refine hK.out _ _ trivial (fun hHeld => ?_)
          clear hK K
          try simp only [getElem_toArray, getElem_cons_zero, getElem_cons_succ, Act.put, setIfInBounds_toArray, set_cons_zero, set_cons_succ]
          refine wpAnyH_take (i := 8) (v := .pointer (some ⟨w.heap.size, 9, none⟩)) rfl (by kernel_rfl) (by kernel_rfl) (by kernel_rfl) (fun _ _ _ h => h) (Or.inl ⟨by first | rfl | go_simp, by intro w9 hSw; (try dsimp only at hSw); go_simp⟩) (by assumption) ?_
          simp only [getElem_toArray, getElem_cons_zero, getElem_cons_succ, Act.put, setIfInBounds_toArray, set_cons_zero, set_cons_succ]
          refine wpAnyH_ready (rs := [7]) (by kernel_rfl) (by simp) ?_
          refine AllReadyH.cons rfl (fun K hK => ?_) (AllReadyH.nil)
          refine ap_i rfl _ _ rfl _ rfl AI p.ids.length cI p.ids rfl rfl (CellsAt.below HI.out BX) n4 ?_
          intro I1 i1 X4 hc9 RI b9
          replace RI := (Row.of_new hc9 RI).less (show w.heap.size + 2 ≤ X3.heap.size from K2.lt)
          clear hc9
          have oRI := RI.one
          replace K1 := K1.below b9 K1.lt
          replace K2 := K2.below b9 K2.lt
          replace BX := Base.thenB BX b9
          replace RD := Row.below RD b9
          replace RS := Row.below RS b9
          replace RA := Row.below RA b9
          clear b9
          refine hK.out _ _ trivial (fun hHeld => ?_)
          clear hK K
          try simp only [getElem_toArray, getElem_cons_zero, getElem_cons_succ, Act.put, setIfInBounds_toArray, set_cons_zero, set_cons_succ]
          skip
         case' n1014 =>
          have c90 := K1.cell 10
          go_simp
          clear c90
          refine hK.out _ _ trivial (fun hHeld => ?_)
          clear hK K
          try simp only [getElem_toArray, getElem_cons_zero, getElem_cons_succ, Act.put, setIfInBounds_toArray, set_cons_zero, set_cons_succ]
          refine wpAnyH_ready (rs := [3]) (by kernel_rfl) (by simp) ?_
          refine AllReadyH.cons rfl (fun K hK => ?_) (AllReadyH.nil)
          refine ap_a rfl _ _ rfl _ rfl AA p.ac.length cA p.ac rfl rfl (CellsAt.below HA.out BX) n3 ?_
          intro A1 a1 X3 hc9 RA b9
          replace RA := (Row.of_new hc9 RA).less (show w.heap.size + 2 ≤ X2.heap.size from K2.lt)
          clear hc9
          have oRA := RA.one
          replace K1 := K1.below b9 K1.lt
          replace K2 := K2.below b9 K2.lt
          replace BX := Base.thenB BX b9
          replace RD := Row.below RD b9
          replace RS := Row.below RS b9
          clear b9
          refine hK.out _ _ trivial (fun hHeld => ?_)
          clear hK K
          try simp only [getElem_toArray, getElem_cons_zero, getElem_cons_succ, Act.put, setIfInBounds_toArray, set_cons_zero, set_cons_succ]
          refine wpAnyH_take (i := 8) (v := .pointer (some ⟨w.heap.size, 9, none⟩)) rfl (by kernel_rfl) (by kernel_rfl) (by kernel_rfl) (fun _ _ _ h => h) (Or.inl ⟨by first | rfl | go_simp, by intro w9 hSw; (try dsimp only at hSw); go_simp⟩) (by assumption) ?_
          simp only [getElem_toArray, getElem_cons_zero, getElem_cons_succ, Act.put, setIfInBounds_toArray, set_cons_zero, set_cons_succ]
          refine wpAnyH_ready (rs := [7]) (by kernel_rfl) (by simp) ?_
          refine AllReadyH.cons rfl (fun K hK => ?_) (AllReadyH.nil)
          refine ap_i rfl _ _ rfl _ rfl AI p.ids.length cI p.ids rfl rfl (CellsAt.below HI.out BX) n4 ?_
          intro I1 i1 X4 hc9 RI b9
          replace RI := (Row.of_new hc9 RI).less (show w.heap.size + 2 ≤ X3.heap.size from K2.lt)
          clear hc9
          have oRI := RI.one
          replace K1 := K1.below b9 K1.lt
          replace K2 := K2.below b9 K2.lt
          replace BX := Base.thenB BX b9
          replace RD := Row.below RD b9
          replace RS := Row.below RS b9
          replace RA := Row.below RA b9
          clear b9
          refine hK.out _ _ trivial (fun hHeld => ?_)
          clear hK K
          try simp only [getElem_toArray, getElem_cons_zero, getElem_cons_succ, Act.put, setIfInBounds_toArray, set_cons_zero, set_cons_succ]
          skip
        case' n1010 =>
         have c90 := K1.cell 10
         go_simp
         clear c90
         refine hK.out _ _ trivial (fun hHeld => ?_)
         clear hK K
         try simp only [getElem_toArray, getElem_cons_zero, getElem_cons_succ, Act.put, setIfInBounds_toArray, set_cons_zero, set_cons_succ]
         refine wpAnyH_ready (rs := [3, 4]) (by kernel_rfl) (by simp) ?_
         refine AllReadyH.cons rfl (fun K hK => ?n1015) (AllReadyH.cons rfl (fun K hK => ?n1016) (AllReadyH.nil))
         case' n1015 =>
          refine ap_a rfl _ _ rfl _ rfl AA p.ac.length cA p.ac rfl rfl (CellsAt.below HA.out BX) n3 ?_
          intro A1 a1 X2 hc9 RA b9
          replace RA := (Row.of_new hc9 RA).less (show w.heap.size + 2 ≤ X1.heap.size from K2.lt)
          clear hc9
          have oRA := RA.one
          replace K1 := K1.below b9 K1.lt
          replace K2 := K2.below b9 K2.lt
          replace BX := Base.thenB BX b9
          replace RD := Row.below RD b9
          replace RS := Row.below RS b9
          clear b9
          refine hK.out _ _ trivial (fun hHeld => ?_)
          clear hK K
          try simp only [getElem_toArray, getElem_cons_zero, getElem_cons_succ, Act.put, setIfInBounds_toArray, set_cons_zero, set_cons_succ]
          refine wpAnyH_take (i := 8) (v := .pointer (some ⟨w.heap.size, 9, none⟩)) rfl (by kernel_rfl) (by kernel_rfl) (by kernel_rfl) (fun _ _ _ h => h) (Or.inl ⟨by first | rfl | go_simp, by intro w9 hSw; (try dsimp only at hSw); go_simp⟩) (by assumption) ?_
          simp only [getElem_toArray, getElem_cons_zero, getElem_cons_succ, Act.put, setIfInBounds_toArray, set_cons_zero, set_cons_succ]
          refine wpAnyH_ready (rs := [4]) (by kernel_rfl) (by simp) ?_
          refine AllReadyH.cons rfl (fun K hK => ?_) (AllReadyH.nil)
          go_simp
          have b9 := (Below.refl X2.heap.size X2).alloc (Nat.le_refl _) (.cells #[] 122)
          generalize X2.alloc (.cells #[] 122) = X3 at *
          replace K1 := K1.below b9 K1.lt
          replace K2 := K2.below b9 K2.lt
          replace BX := Base.thenB BX b9
          replace RD := Row.below RD b9
          replace RS := Row.below RS b9
          replace RA := Row.below RA b9
          clear b9
          refine hK.out _ _ trivial (fun hHeld => ?_)
          clear hK K
          try simp only [getElem_toArray, getElem_cons_zero, getElem_cons_succ, Act.put, setIfInBounds_toArray, set_cons_zero, set_cons_succ]
          refine wpAnyH_ready (rs := [7]) (by kernel_rfl) (by simp) ?_
          refine AllReadyH.cons rfl (fun K hK => ?_) (AllReadyH.nil)
          refine ap_i rfl _ _ rfl _ rfl AI p.ids.length cI p.ids rfl rfl (CellsAt.below HI.out BX) n4 ?_
          intro I1 i1 X4 hc9 RI b9
          replace RI := (Row.of_new hc9 RI).less (show w.heap.size + 2 ≤ X3.heap.size from K2.lt)
          clear hc9
          have oRI := RI.one
          replace K1 := K1.below b9 K1.lt
          replace K2 := K2.below b9 K2.lt
          replace BX := Base.thenB BX b9
          replace RD := Row.below RD b9
          replace RS := Row.below RS b9
          replace RA := Row.below RA b9
          clear b9
          refine hK.out _ _ trivial (fun hHeld => ?_)
          clear hK K
          try simp only [getElem_toArray, getElem_cons_zero, getElem_cons_succ, Act.put, setIfInBounds_toArray, set_cons_zero, set_cons_succ]
          skip
         case' n1016 =>
          go_simp
          have b9 := (Below.refl X1.heap.size X1).alloc (Nat.le_refl _) (.cells #[] 122)
          generalize X1.alloc (.cells #[] 122) = X2 at *
          replace K1 := K1.below b9 K1.lt
          replace K2 := K2.below b9 K2.lt
          replace BX := Base.thenB BX b9
          replace RD := Row.below RD b9
          replace RS := Row.below RS b9
          clear b9
          refine hK.out _ _ trivial (fun hHeld => ?_)
          clear hK K
          try simp only [getElem_toArray, getElem_cons_zero, getElem_cons_succ, Act.put, setIfInBounds_toArray, set_cons_zero, set_cons_succ]
          refine wpAnyH_ready (rs := [3]) (by kernel_rfl) (by simp) ?_
          refine AllReadyH.cons rfl (fun K hK => ?_) (AllReadyH.nil)
          refine ap_a rfl _ _ rfl _ rfl AA p.ac.length cA p.ac rfl rfl (CellsAt.below HA.out BX) n3 ?_
          intro A1 a1 X3 hc9 RA b9
          replace RA := (Row.of_new hc9 RA).less (show w.heap.size + 2 ≤ X2.heap.size from K2.lt)
          clear hc9
          have oRA := RA.one
          replace K1 := K1.below b9 K1.lt
          replace K2 := K2.below b9 K2.lt
          replace BX := Base.thenB BX b9
          replace RD := Row.below RD b9
          replace RS := Row.below RS b9
          clear b9
          refine hK.out _ _ trivial (fun hHeld => ?_)
          clear hK K
          try simp only [getElem_toArray, getElem_cons_zero, getElem_cons_succ, Act.put, setIfInBounds_toArray, set_cons_zero, set_cons_succ]
          refine wpAnyH_take (i := 8) (v := .pointer (some ⟨w.heap.size, 9, none⟩)) rfl (by kernel_rfl) (by kernel_rfl) (by kernel_rfl) (fun _ _ _ h => h) (Or.inl ⟨by first | rfl | go_simp, by intro w9 hSw; (try dsimp only at hSw); go_simp⟩) (by assumption) ?_
          simp only [getElem_toArray, getElem_cons_zero, getElem_cons_succ, Act.put, setIfInBounds_toArray, set_cons_zero, set_cons_succ]
          refine wpAnyH_ready (rs := [7]) (by kernel_rfl) (by simp) ?_
          refine AllReadyH.cons rfl (fun K hK => ?_) (AllReadyH.nil)
          refine ap_i rfl _ _ rfl _ rfl AI p.ids.length cI p.ids rfl rfl (CellsAt.below HI.out BX) n4 ?_
          intro I1 i1 X4 hc9 RI b9
          replace RI := (Row.of_new hc9 RI).less (show w.heap.size + 2 ≤ X3.heap.size from K2.lt)
          clear hc9
          have oRI := RI.one
          replace K1 := K1.below b9 K1.lt
          replace K2 := K2.below b9 K2.lt
          replace BX := Base.thenB BX b9
          replace RD := Row.below RD b9
          replace RS := Row.below RS b9
          replace RA := Row.below RA b9
          clear b9
          refine hK.out _ _ trivial (fun hHeld => ?_)
          clear hK K
          try simp only [getElem_toArray, getElem_cons_zero, getElem_cons_succ, Act.put, setIfInBounds_toArray, set_cons_zero, set_cons_succ]
          skip
       case' n1006 =>
        go_simp
        have b9 := (Below.refl X1.heap.size X1).alloc (Nat.le_refl _) (.cells #[] 122)
        generalize X1.alloc (.cells #[] 122) = X2 at *
        replace K1 := K1.below b9 K1.lt
        replace K2 := K2.below b9 K2.lt
        replace BX := Base.thenB BX b9
        replace RD := Row.below RD b9
        replace RS := Row.below RS b9
        clear b9
        refine hK.out _ _ trivial (fun hHeld => ?_)
        clear hK K
        try simp only [getElem_toArray, getElem_cons_zero, getElem_cons_succ, Act.put, setIfInBounds_toArray, set_cons_zero, set_cons_succ]
        refine wpAnyH_ready (rs := [2, 6]) (by kernel_rfl) (by simp) ?_
        refine AllReadyH.cons rfl (fun K hK => ?n1017) (AllReadyH.cons rfl (fun K hK => ?n1018) (AllReadyH.nil))
        case' n1017 =>
         have c90 := K1.cell 9
         go_simp
         clear c90
         refine hK.out _ _ trivial (fun hHeld => ?_)
         clear hK K
         try simp only [getElem_toArray, getElem_cons_zero, getElem_cons_succ, Act.put, setIfInBounds_toArray, set_cons_zero, set_cons_succ]
         refine wpAnyH_ready (rs := [3, 6]) (by kernel_rfl) (by simp) ?_
         refine AllReadyH.cons rfl (fun K hK => ?n1019) (AllReadyH.cons rfl (fun K hK => ?n1020) (AllReadyH.nil))
         case' n1019 =>
          refine ap_a rfl _ _ rfl _ rfl AA p.ac.length cA p.ac rfl rfl (CellsAt.below HA.out BX) n3 ?_
          intro A1 a1 X3 hc9 RA b9
          replace RA := (Row.of_new hc9 RA).less (show w.heap.size + 2 ≤ X2.heap.size from K2.lt)
          clear hc9
          have oRA := RA.one
          replace K1 := K1.below b9 K1.lt
          replace K2 := K2.below b9 K2.lt
          replace BX := Base.thenB BX b9
          replace RD := Row.below RD b9
          replace RS := Row.below RS b9
          clear b9
          refine hK.out _ _ trivial (fun hHeld => ?_)
          clear hK K
          try simp only [getElem_toArray, getElem_cons_zero, getElem_cons_succ, Act.put, setIfInBounds_toArray, set_cons_zero, set_cons_succ]
          refine wpAnyH_ready (rs := [6]) (by kernel_rfl) (by simp) ?_
          refine AllReadyH.cons rfl (fun K hK => ?_) (AllReadyH.nil)
          have c90 := K1.cell 10
          go_simp
          clear c90
          refine hK.out _ _ trivial (fun hHeld => ?_)
          clear hK K
          try simp only [getElem_toArray, getElem_cons_zero, getElem_cons_succ, Act.put, setIfInBounds_toArray, set_cons_zero, set_cons_succ]
          refine wpAnyH_take (i := 8) (v := .pointer (some ⟨w.heap.size, 9, none⟩)) rfl (by kernel_rfl) (by kernel_rfl) (by kernel_rfl) (fun _ _ _ h => h) (Or.inl ⟨by first | rfl | go_simp, by intro w9 hSw; (try dsimp only at hSw); go_simp⟩) (by assumption) ?_
          simp only [getElem_toArray, getElem_cons_zero, getElem_cons_succ, Act.put, setIfInBounds_toArray, set_cons_zero, set_cons_succ]
          refine wpAnyH_ready (rs := [7]) (by kernel_rfl) (by simp) ?_
          refine AllReadyH.cons rfl (fun K hK => ?_) (AllReadyH.nil)
          refine ap_i rfl _ _ rfl _ rfl AI p.ids.length cI p.ids rfl rfl (CellsAt.below HI.out BX) n4 ?_
          intro I1 i1 X4 hc9 RI b9
          replace RI := (Row.of_new hc9 RI).less (show w.heap.size + 2 ≤ X3.heap.size from K2.lt)
          clear hc9
          have oRI := RI.one
          replace K1 := K1.below b9 K1.lt
          replace K2 := K2.below b9 K2.lt
          replace BX := Base.thenB BX b9
          replace RD := Row.below RD b9
          replace RS := Row.below RS b9
          replace RA := Row.below RA b9
          clear b9
          refine hK.out _ _ trivial (fun hHeld => ?_)
          clear hK K
          try simp only [getElem_toArray, getElem_cons_zero, getElem_cons_succ, Act.put, setIfInBounds_toArray, set_cons_zero, set_cons_succ]
          skip
         case' n1020 =>
          have c90 := K1.cell 10
          go_simp
          clear c90
          refine hK.out _ _ trivial (fun hHeld => ?_)
          clear hK K
          try simp only [getElem_toArray, getElem_cons_zero, getElem_cons_succ, Act.put, setIfInBounds_toArray, set_cons_zero, set_cons_succ]
          refine wpAnyH_ready (rs := [3]) (by kernel_rfl) (by simp) ?_
          refine AllReadyH.cons rfl (fun K hK => ?_) (AllReadyH.nil)
          refine ap_a rfl _ _ rfl _ rfl AA p.ac.length cA p.ac rfl rfl (CellsAt.below HA.out BX) n3 ?_
          intro A1 a1 X3 hc9 RA b9
          replace RA := (Row.of_new hc9 RA).less (show w.heap.size + 2 ≤ X2.heap.size from K2.lt)
          clear hc9
          have oRA := RA.one
          replace K1 := K1.below b9 K1.lt
          replace K2 := K2.below b9 K2.lt
          replace BX := Base.thenB BX b9
          replace RD := Row.below RD b9
          replace RS := Row.below RS b9
          clear b9
          refine hK.out _ _ trivial (fun hHeld => ?_)
          clear hK K
          try simp only [getElem_toArray, getElem_cons_zero, getElem_cons_succ, Act.put, setIfInBounds_toArray, set_cons_zero, set_cons_succ]
          refine wpAnyH_take (i := 8) (v := .pointer (some ⟨w.heap.size, 9, none⟩)) rfl (by kernel_rfl) (by kernel_rfl) (by kernel_rfl) (fun _ _ _ h => h) (Or.inl ⟨by first | rfl | go_simp, by intro w9 hSw; (try dsimp only at hSw); go_simp⟩) (by assumption) ?_
          simp only [getElem_toArray, getElem_cons_zero, getElem_cons_succ, Act.put, setIfInBounds_toArray, set_cons_zero, set_cons_succ]
          refine wpAnyH_ready (rs := [7]) (by kernel_rfl) (by simp) ?_
          refine AllReadyH.cons rfl (fun K hK => ?_) (AllReadyH.nil)
          refine ap_i rfl _ _ rfl _ rfl AI p.ids.length cI p.ids rfl rfl (CellsAt.below HI.out BX) n4 ?_
          intro I1 i1 X4 hc9 RI b9
          replace RI := (Row.of_new hc9 RI).less (show w.heap.size + 2 ≤ X3.heap.size from K2.lt)
          clear hc9
          have oRI := RI.one
          replace K1 := K1.below b9 K1.lt
          replace K2 := K2.below b9 K2.lt
          replace BX := Base.thenB BX b9
          replace RD := Row.below RD b9
          replace RS := Row.below RS b9
          replace RA := Row.below RA b9
          clear b9
          refine hK.out _ _ trivial (fun hHeld => ?_)
          clear hK K
          try simp only [getElem_toArray, getElem_cons_zero, getElem_cons_succ, Act.put, setIfInBounds_toArray, set_cons_zero, set_cons_succ]
          skip
        case' n1018 =>
         have c90 := K1.cell 10
         go_simp
         clear c90
         refine hK.out _ _ trivial (fun hHeld => ?_)
         clear hK K
         try simp only [getElem_toArray, getElem_cons_zero, getElem_cons_succ, Act.put, setIfInBounds_toArray, set_cons_zero, set_cons_succ]
         refine wpAnyH_ready (rs := [2]) (by kernel_rfl) (by simp) ?_
         refine AllReadyH.cons rfl (fun K hK => ?_) (AllReadyH.nil)
         have c90 := K1.cell 9
         go_simp
         clear c90
         refine hK.out _ _ trivial (fun hHeld => ?_)
         clear hK K
         try simp only [getElem_toArray, getElem_cons_zero, getElem_cons_succ, Act.put, setIfInBounds_toArray, set_cons_zero, set_cons_succ]
         refine wpAnyH_ready (rs := [3]) (by kernel_rfl) (by simp) ?_
         refine AllReadyH.cons rfl (fun K hK => ?_) (AllReadyH.nil)
         refine ap_a rfl _ _ rfl _ rfl AA p.ac.length cA p.ac rfl rfl (CellsAt.below HA.out BX) n3 ?_
         intro A1 a1 X3 hc9 RA b9
         replace RA := (Row.of_new hc9 RA).less (show w.heap.size + 2 ≤ X2.heap.size from K2.lt)
         clear hc9
         have oRA := RA.one
         replace K1 := K1.below b9 K1.lt
         replace K2 := K2.below b9 K2.lt
         replace BX := Base.thenB BX b9
         replace RD := Row.below RD b9
         replace RS := Row.below RS b9
         clear b9
         refine hK.out _ _ trivial (fun hHeld => ?_)
         clear hK K
         try simp only [getElem_toArray, getElem_cons_zero, getElem_cons_succ, Act.put, setIfInBounds_toArray, set_cons_zero, set_cons_succ]
         refine wpAnyH_take (i := 8) (v := .pointer (some ⟨w.heap.size, 9, none⟩)) rfl (by kernel_rfl) (by kernel_rfl) (by kernel_rfl) (fun _ _ _ h => h) (Or.inl ⟨by first | rfl | go_simp, by intro w9 hSw; (try dsimp only at hSw); go_simp⟩) (by assumption) ?_
         simp only [getElem_toArray, getElem_cons_zero, getElem_cons_succ, Act.put, setIfInBounds_toArray, set_cons_zero, set_cons_succ]
         refine wpAnyH_ready (rs := [7]) (by kernel_rfl) (by simp) ?_
         refine AllReadyH.cons rfl (fun K hK => ?_) (AllReadyH.nil)
         refine ap_i rfl _ _ rfl _ rfl AI p.ids.length cI p.ids rfl rfl (CellsAt.below HI.out BX) n4 ?_
         intro I1 i1 X4 hc9 RI b9
         replace RI := (Row.of_new hc9 RI).less (show w.heap.size + 2 ≤ X3.heap.size from K2.lt)
         clear hc9
         have oRI := RI.one
         replace K1 := K1.below b9 K1.lt
         replace K2 := K2.below b9 K2.lt
         replace BX := Base.thenB BX b9
         replace RD := Row.below RD b9
         replace RS := Row.below RS b9
         replace RA := Row.below RA b9
         clear b9
         refine hK.out _ _ trivial (fun hHeld => ?_)
         clear hK K
         try simp only [getElem_toArray, getElem_cons_zero, getElem_cons_succ, Act.put, setIfInBounds_toArray, set_cons_zero, set_cons_succ]
         skip
       case' n1007 =>
        have c90 := K1.cell 10
        go_simp
        clear c90
        refine hK.out _ _ trivial (fun hHeld => ?_)
        clear hK K
        try simp only [getElem_toArray, getElem_cons_zero, getElem_cons_succ, Act.put, setIfInBounds_toArray, set_cons_zero, set_cons_succ]
        refine wpAnyH_ready (rs := [2, 4]) (by kernel_rfl) (by simp) ?_
        refine AllReadyH.cons rfl (fun K hK => ?n1021) (AllReadyH.cons rfl (fun K hK => ?n1022) (AllReadyH.nil))
        case' n1021 =>
         have c90 := K1.cell 9
         go_simp
         clear c90
         refine hK.out _ _ trivial (fun hHeld => ?_)
         clear hK K
         try simp only [getElem_toArray, getElem_cons_zero, getElem_cons_succ, Act.put, setIfInBounds_toArray, set_cons_zero, set_cons_succ]
         refine wpAnyH_ready (rs := [3, 4]) (by kernel_rfl) (by simp) ?_
         refine AllReadyH.cons rfl (fun K hK => ?n1023) (AllReadyH.cons rfl (fun K hK => ?n1024) (AllReadyH.nil))
         case' n1023 =>
          refine ap_a rfl _ _ rfl _ rfl AA p.ac.length cA p.ac rfl rfl (CellsAt.below HA.out BX) n3 ?_
          intro A1 a1 X2 hc9 RA b9
          replace RA := (Row.of_new hc9 RA).less (show w.heap.size + 2 ≤ X1.heap.size from K2.lt)
          clear hc9
          have oRA := RA.one
          replace K1 := K1.below b9 K1.lt
          replace K2 := K2.below b9 K2.lt
          replace BX := Base.thenB BX b9
          replace RD := Row.below RD b9
          replace RS := Row.below RS b9
          clear b9
          refine hK.out _ _ trivial (fun hHeld => ?_)
          clear hK K
          try simp only [getElem_toArray, getElem_cons_zero, getElem_cons_succ, Act.put, setIfInBounds_toArray, set_cons_zero, set_cons_succ]
          refine wpAnyH_take (i := 8) (v := .pointer (some ⟨w.heap.size, 9, none⟩)) rfl (by kernel_rfl) (by kernel_rfl) (by kernel_rfl) (fun _ _ _ h => h) (Or.inl ⟨by first | rfl | go_simp, by intro w9 hSw; (try dsimp only at hSw); go_simp⟩) (by assumption) ?_
          simp only [getElem_toArray, getElem_cons_zero, getElem_cons_succ, Act.put, setIfInBounds_toArray, set_cons_zero, set_cons_succ]
          refine wpAnyH_ready (rs := [4]) (by kernel_rfl) (by simp) ?_
          refine AllReadyH.cons rfl (fun K hK => ?_) (AllReadyH.nil)
          go_simp
          have b9 := (Below.refl X2.heap.size X2).alloc (Nat.le_refl _) (.cells #[] 122)
          generalize X2.alloc (.cells #[] 122) = X3 at *
          replace K1 := K1.below b9 K1.lt
          replace K2 := K2.below b9 K2.lt
          replace BX := Base.thenB BX b9
          replace RD := Row.below RD b9
          replace RS := Row.below RS b9
          replace RA := Row.below RA b9
          clear b9
          refine hK.out _ _ trivial (fun hHeld => ?_)
          clear hK K
          try simp only [getElem_toArray, getElem_cons_zero, getElem_cons_succ, Act.put, setIfInBounds_toArray, set_cons_zero, set_cons_succ]
          refine wpAnyH_ready (rs := [7]) (by kernel_rfl) (by simp) ?_
          refine AllReadyH.cons rfl (fun K hK => ?_) (AllReadyH.nil)
          refine ap_i rfl _ _ rfl _ rfl AI p.ids.length cI p.ids rfl rfl (CellsAt.below HI.out BX) n4 ?_
          intro I1 i1 X4 hc9 RI b9
          replace RI := (Row.of_new hc9 RI).less (show w.heap.size + 2 ≤ X3.heap.size from K2.lt)
          clear hc9
          have oRI := RI.one
          replace K1 := K1.below b9 K1.lt
          replace K2 := K2.below b9 K2.lt
          replace BX := Base.thenB BX b9
          replace RD := Row.below RD b9
          replace RS := Row.below RS b9
          replace RA := Row.below RA b9
          clear b9
          refine hK.out _ _ trivial (fun hHeld => ?_)
          clear hK K
          try simp only [getElem_toArray, getElem_cons_zero, getElem_cons_succ, Act.put, setIfInBounds_toArray, set_cons_zero, set_cons_succ]
          skip
         case' n1024 =>
          go_simp
          have b9 := (Below.refl X1.heap.size X1).alloc (Nat.le_refl _) (.cells #[] 122)
          generalize X1.alloc (.cells #[] 122) = X2 at *
          replace K1 := K1.below b9 K1.lt
          replace K2 := K2.below b9 K2.lt
          replace BX := Base.thenB BX b9
          replace RD := Row.below RD b9
          replace RS := Row.below RS b9
          clear b9
          refine hK.out _ _ trivial (fun hHeld => ?_)
          clear hK K
          try simp only [getElem_toArray, getElem_cons_zero, getElem_cons_succ, Act.put, setIfInBounds_toArray, set_cons_zero, set_cons_succ]
          refine wpAnyH_ready (rs := [3]) (by kernel_rfl) (by simp) ?_
          refine AllReadyH.cons rfl (fun K hK => ?_) (AllReadyH.nil)
          refine ap_a rfl _ _ rfl _ rfl AA p.ac.length cA p.ac rfl rfl (CellsAt.below HA.out BX) n3 ?_
          intro A1 a1 X3 hc9 RA b9
          replace RA := (Row.of_new hc9 RA).less (show w.heap.size + 2 ≤ X2.heap.size from K2.lt)
          clear hc9
          have oRA := RA.one
          replace K1 := K1.below b9 K1.lt
          replace K2 := K2.below b9 K2.lt
          replace BX := Base.thenB BX b9
          replace RD := Row.below RD b9
          replace RS := Row.below RS b9
          clear b9
          refine hK.out _ _ trivial (fun hHeld => ?_)
          clear hK K
          try simp only [getElem_toArray, getElem_cons_zero, getElem_cons_succ, Act.put, setIfInBounds_toArray, set_cons_zero, set_cons_succ]
          refine wpAnyH_take (i := 8) (v := .pointer (some ⟨w.heap.size, 9, none⟩)) rfl (by kernel_rfl) (by kernel_rfl) (by kernel_rfl) (fun _ _ _ h => h) (Or.inl ⟨by first | rfl | go_simp, by intro w9 hSw; (try dsimp only at hSw); go_simp⟩) (by assumption) ?_
          simp only [getElem_toArray, getElem_cons_zero, getElem_cons_succ, Act.put, setIfInBounds_toArray, set_cons_zero, set_cons_succ]
          refine wpAnyH_ready (rs := [7]) (by kernel_rfl) (by simp) ?_
          refine AllReadyH.cons rfl (fun K hK => ?_) (AllReadyH.nil)
          refine ap_i rfl _ _ rfl _ rfl AI p.ids.length cI p.ids rfl rfl (CellsAt.below HI.out BX) n4 ?_
          intro I1 i1 X4 hc9 RI b9
          replace RI := (Row.of_new hc9 RI).less (show w.heap.size + 2 ≤ X3.heap.size from K2.lt)
          clear hc9
          have oRI := RI.one
          replace K1 := K1.below b9 K1.lt
          replace K2 := K2.below b9 K2.lt
          replace BX := Base.thenB BX b9
          replace RD := Row.below RD b9
          replace RS := Row.below RS b9
          replace RA := Row.below RA b9
          clear b9
          refine hK.out _ _ trivial (fun hHeld => ?_)
          clear hK K
          try simp only [getElem_toArray, getElem_cons_zero, getElem_cons_succ, Act.put, setIfInBounds_toArray, set_cons_zero, set_cons_succ]
          skip
        case' n1022 =>
         go_simp
         have b9 := (Below.refl X1.heap.size X1).alloc (Nat.le_refl _) (.cells #[] 122)
         generalize X1.alloc (.cells #[] 122) = X2 at *
         replace K1 := K1.below b9 K1.lt
         replace K2 := K2.below b9 K2.lt
         replace BX := Base.thenB BX b9
         replace RD := Row.below RD b9
         replace RS := Row.below RS b9
         clear b9
         refine hK.out _ _ trivial (fun hHeld => ?_)
         clear hK K
         try simp only [getElem_toArray, getElem_cons_zero, getElem_cons_succ, Act.put, setIfInBounds_toArray, set_cons_zero, set_cons_succ]
         refine wpAnyH_ready (rs := [2]) (by kernel_rfl) (by simp) ?_
         refine AllReadyH.cons rfl (fun K hK => ?_) (AllReadyH.nil)
         have c90 := K1.cell 9
         go_simp
         clear c90
         refine hK.out _ _ trivial (fun hHeld => ?_)
         clear hK K
         try simp only [getElem_toArray, getElem_cons_zero, getElem_cons_succ, Act.put, setIfInBounds_toArray, set_cons_zero, set_cons_succ]
         refine wpAnyH_ready (rs := [3]) (by kernel_rfl) (by simp) ?_
         refine AllReadyH.cons rfl (fun K hK => ?_) (AllReadyH.nil)
         refine ap_a rfl _ _ rfl _ rfl AA p.ac.length cA p.ac rfl rfl (CellsAt.below HA.out BX) n3 ?_
         intro A1 a1 X3 hc9 RA b9
         replace RA := (Row.of_new hc9 RA).less (show w.heap.size + 2 ≤ X2.heap.size from K2.lt)
         clear hc9
         have oRA := RA.one
         replace K1 := K1.below b9 K1.lt
         replace K2 := K2.below b9 K2.lt
         replace BX := Base.thenB BX b9
         replace RD := Row.below RD b9
         replace RS := Row.below RS b9
         clear b9
         refine hK.out _ _ trivial (fun hHeld => ?_)
         clear hK K
         try simp only [getElem_toArray, getElem_cons_zero, getElem_cons_succ, Act.put, setIfInBounds_toArray, set_cons_zero, set_cons_succ]
         refine wpAnyH_take (i := 8) (v := .pointer (some ⟨w.heap.size, 9, none⟩)) rfl (by kernel_rfl) (by kernel_rfl) (by kernel_rfl) (fun _ _ _ h => h) (Or.inl ⟨by first | rfl | go_simp, by intro w9 hSw; (try dsimp only at hSw); go_simp⟩) (by assumption) ?_
         simp only [getElem_toArray, getElem_cons_zero, getElem_cons_succ, Act.put, setIfInBounds_toArray, set_cons_zero, set_cons_succ]
         refine wpAnyH_ready (rs := [7]) (by kernel_rfl) (by simp) ?_
         refine AllReadyH.cons rfl (fun K hK => ?_) (AllReadyH.nil)
         refine ap_i rfl _ _ rfl _ rfl AI p.ids.length cI p.ids rfl rfl (CellsAt.below HI.out BX) n4 ?_
         intro I1 i1 X4 hc9 RI b9
         replace RI := (Row.of_new hc9 RI).less (show w.heap.size + 2 ≤ X3.heap.size from K2.lt)
         clear hc9
         have oRI := RI.one
         replace K1 := K1.below b9 K1.lt
         replace K2 := K2.below b9 K2.lt
         replace BX := Base.thenB BX b9
         replace RD := Row.below RD b9
         replace RS := Row.below RS b9
         replace RA := Row.below RA b9
         clear b9
         refine hK.out _ _ trivial (fun hHeld => ?_)
         clear hK K
         try simp only [getElem_toArray, getElem_cons_zero, getElem_cons_succ, Act.put, setIfInBounds_toArray, set_cons_zero, set_cons_succ]
         skip
      case' n1002 =>
       have c90 := K1.cell 9
       go_simp
       clear c90
       refine hK.out _ _ trivial (fun hHeld => ?_)
       clear hK K
       try simp only [getElem_toArray, getElem_cons_zero, getElem_cons_succ, Act.put, setIfInBounds_toArray, set_cons_zero, set_cons_succ]
       refine wpAnyH_ready (rs := [0, 4, 6]) (by kernel_rfl) (by simp) ?_
       refine AllReadyH.cons rfl (fun K hK => ?n1025) (AllReadyH.cons rfl (fun K hK => ?n1026) (AllReadyH.cons rfl (fun K hK => ?n1027) (AllReadyH.nil)))
       case' n1025 =>
        go_simp
        have b9 := (Below.refl X0.heap.size X0).alloc (Nat.le_refl _) (.cells #[] 24)
        generalize X0.alloc (.cells #[] 24) = X1 at *
        replace K1 := K1.below b9 K1.lt
        replace K2 := K2.below b9 K2.lt
        replace BX := Base.thenB BX b9
        replace RD := Row.below RD b9
        replace RS := Row.below RS b9
        clear b9
        refine hK.out _ _ trivial (fun hHeld => ?_)
        clear hK K
        try simp only [getElem_toArray, getElem_cons_zero, getElem_cons_succ, Act.put, setIfInBounds_toArray, set_cons_zero, set_cons_succ]
        refine wpAnyH_ready (rs := [3, 4, 6]) (by kernel_rfl) (by simp) ?_
        refine AllReadyH.cons rfl (fun K hK => ?n1028) (AllReadyH.cons rfl (fun K hK => ?n1029) (AllReadyH.cons rfl (fun K hK => ?n1030) (AllReadyH.nil)))
        case' n1028 =>
         refine ap_a rfl _ _ rfl _ rfl AA p.ac.length cA p.ac rfl rfl (CellsAt.below HA.out BX) n3 ?_
         intro A1 a1 X2 hc9 RA b9
         replace RA := (Row.of_new hc9 RA).less (show w.heap.size + 2 ≤ X1.heap.size from K2.lt)
         clear hc9
         have oRA := RA.one
         replace K1 := K1.below b9 K1.lt
         replace K2 := K2.below b9 K2.lt
         replace BX := Base.thenB BX b9
         replace RD := Row.below RD b9
         replace RS := Row.below RS b9
         clear b9
         refine hK.out _ _ trivial (fun hHeld => ?_)
         clear hK K
         try simp only [getElem_toArray, getElem_cons_zero, getElem_cons_succ, Act.put, setIfInBounds_toArray, set_cons_zero, set_cons_succ]
         refine wpAnyH_ready (rs := [4, 6]) (by kernel_rfl) (by simp) ?_
         refine AllReadyH.cons rfl (fun K hK => ?n1031) (AllReadyH.cons rfl (fun K hK => ?n1032) (AllReadyH.nil))
         case' n1031 =>
          go_simp
          have b9 := (Below.refl X2.heap.size X2).alloc (Nat.le_refl _) (.cells #[] 122)
          generalize X2.alloc (.cells #[] 122) = X3 at *
          replace K1 := K1.below b9 K1.lt
          replace K2 := K2.below b9 K2.lt
          replace BX := Base.thenB BX b9
          replace RD := Row.below RD b9
          replace RS := Row.below RS b9
          replace RA := Row.below RA b9
          clear b9
          refine hK.out _ _ trivial (fun hHeld => ?_)
          clear hK K
          try simp only [getElem_toArray, getElem_cons_zero, getElem_cons_succ, Act.put, setIfInBounds_toArray, set_cons_zero, set_cons_succ]
          refine wpAnyH_ready (rs := [6]) (by kernel_rfl) (by simp) ?_
          refine AllReadyH.cons rfl (fun K hK => ?_) (AllReadyH.nil)
          have c90 := K1.cell 10
          go_simp
          clear c90
          refine hK.out _ _ trivial (fun hHeld => ?_)
          clear hK K
          try simp only [getElem_toArray, getElem_cons_zero, getElem_cons_succ, Act.put, setIfInBounds_toArray, set_cons_zero, set_cons_succ]
          refine wpAnyH_take (i := 8) (v := .pointer (some ⟨w.heap.size, 9, none⟩)) rfl (by kernel_rfl) (by kernel_rfl) (by kernel_rfl) (fun _ _ _ h => h) (Or.inl ⟨by first | rfl | go_simp, by intro w9 hSw; (try dsimp only at hSw); go_simp⟩) (by assumption) ?_
          simp only [getElem_toArray, getElem_cons_zero, getElem_cons_succ, Act.put, setIfInBounds_toArray, set_cons_zero, set_cons_succ]
          refine wpAnyH_ready (rs := [7]) (by kernel_rfl) (by simp) ?_
          refine AllReadyH.cons rfl (fun K hK => ?_) (AllReadyH.nil)
          refine ap_i rfl _ _ rfl _ rfl AI p.ids.length cI p.ids rfl rfl (CellsAt.below HI.out BX) n4 ?_
          intro I1 i1 X4 hc9 RI b9
          replace RI := (Row.of_new hc9 RI).less (show w.heap.size + 2 ≤ X3.heap.size from K2.lt)
          clear hc9
          have oRI := RI.one
          replace K1 := K1.below b9 K1.lt
          replace K2 := K2.below b9 K2.lt
          replace BX := Base.thenB BX b9
          replace RD := Row.below RD b9
          replace RS := Row.below RS b9
          replace RA := Row.below RA b9
          clear b9
          refine hK.out _ _ trivial (fun hHeld => ?_)
          clear hK K
          try simp only [getElem_toArray, getElem_cons_zero, getElem_cons_succ, Act.put, setIfInBounds_toArray, set_cons_zero, set_cons_succ]
          skip
         case' n1032 =>
          have c90 := K1.cell 10
          go_simp
          clear c90
          refine hK.out _ _ trivial (fun hHeld => ?_)
          clear hK K
          try simp only [getElem_toArray, getElem_cons_zero, getElem_cons_succ, Act.put, setIfInBounds_toArray, set_cons_zero, set_cons_succ]
          refine wpAnyH_take (i := 8) (v := .pointer (some ⟨w.heap.size, 9, none⟩)) rfl (by kernel_rfl) (by kernel_rfl) (by kernel_rfl) (fun _ _ _ h => h) (Or.inl ⟨by first | rfl | go_simp, by intro w9 hSw; (try dsimp only at hSw); go_simp⟩) (by assumption) ?_
          simp only [getElem_toArray, getElem_cons_zero, getElem_cons_succ, Act.put, setIfInBounds_toArray, set_cons_zero, set_cons_succ]
          refine wpAnyH_ready (rs := [4]) (by kernel_rfl) (by simp) ?_
          refine AllReadyH.cons rfl (fun K hK => ?_) (AllReadyH.nil)
          go_simp
          have b9 := (Below.refl X2.heap.size X2).alloc (Nat.le_refl _) (.cells #[] 122)
          generalize X2.alloc (.cells #[] 122) = X3 at *
          replace K1 := K1.below b9 K1.lt
          replace K2 := K2.below b9 K2.lt
          replace BX := Base.thenB BX b9
          replace RD := Row.below RD b9
          replace RS := Row.below RS b9
          replace RA := Row.below RA b9
          clear b9
          refine hK.out _ _ trivial (fun hHeld => ?_)
          clear hK K
          try simp only [getElem_toArray, getElem_cons_zero, getElem_cons_succ, Act.put, setIfInBounds_toArray, set_cons_zero, set_cons_succ]
          refine wpAnyH_ready (rs := [7]) (by kernel_rfl) (by simp) ?_
          refine AllReadyH.cons rfl (fun K hK => ?_) (AllReadyH.nil)
          refine ap_i rfl _ _ rfl _ rfl AI p.ids.length cI p.ids rfl rfl (CellsAt.below HI.out BX) n4 ?_
          intro I1 i1 X4 hc9 RI b9
          replace RI := (Row.of_new hc9 RI).less (show w.heap.size + 2 ≤ X3.heap.size from K2.lt)
          clear hc9
          have oRI := RI.one
          replace K1 := K1.below b9 K1.lt
          replace K2 := K2.below b9 K2.lt
          replace BX := Base.thenB BX b9
          replace RD := Row.below RD b9
          replace RS := Row.below RS b9
          replace RA := Row.below RA b9
          clear b9
          refine hK.out _ _ trivial (fun hHeld => ?_)
          clear hK K
          try simp only [getElem_toArray, getElem_cons_zero, getElem_cons_succ, Act.put, setIfInBounds_toArray, set_cons_zero, set_cons_succ]
          skip
        case' n1029 =>
         go_simp
         have b9 := (Below.refl X1.heap.size X1).alloc (Nat.le_refl _) (.cells #[] 122)
         generalize X1.alloc (.cells #[] 122) = X2 at *
         replace K1 := K1.below b9 K1.lt
         replace K2 := K2.below b9 K2.lt
         replace BX := Base.thenB BX b9
         replace RD := Row.below RD b9
         replace RS := Row.below RS b9
         clear b9
         refine hK.out _ _ trivial (fun hHeld => ?_)
         clear hK K
         try simp only [getElem_toArray, getElem_cons_zero, getElem_cons_succ, Act.put, setIfInBounds_toArray, set_cons_zero, set_cons_succ]
         refine wpAnyH_ready (rs := [3, 6]) (by kernel_rfl) (by simp) ?_
         refine AllReadyH.cons rfl (fun K hK => ?n1033) (AllReadyH.cons rfl (fun K hK => ?n1034) (AllReadyH.nil))
         case' n1033 =>
          refine ap_a rfl _ _ rfl _ rfl AA p.ac.length cA p.ac rfl rfl (CellsAt.below HA.out BX) n3 ?_
          intro A1 a1 X3 hc9 RA b9
          replace RA := (Row.of_new hc9 RA).less (show w.heap.size + 2 ≤ X2.heap.size from K2.lt)
          clear hc9
          have oRA := RA.one
          replace K1 := K1.below b9 K1.lt
          replace K2 := K2.below b9 K2.lt
          replace BX := Base.thenB BX b9
          replace RD := Row.below RD b9
          replace RS := Row.below RS b9
          clear b9
          refine hK.out _ _ trivial (fun hHeld => ?_)
          clear hK K
          try simp only [getElem_toArray, getElem_cons_zero, getElem_cons_succ, Act.put, setIfInBounds_toArray, set_cons_zero, set_cons_succ]
          refine wpAnyH_ready (rs := [6]) (by kernel_rfl) (by simp) ?_
          refine AllReadyH.cons rfl (fun K hK => ?_) (AllReadyH.nil)
          have c90 := K1.cell 10
          go_simp
          clear c90
          refine hK.out _ _ trivial (fun hHeld => ?_)
          clear hK K
          try simp only [getElem_toArray, getElem_cons_zero, getElem_cons_succ, Act.put, setIfInBounds_toArray, set_cons_zero, set_cons_succ]
          refine wpAnyH_take (i := 8) (v := .pointer (some ⟨w.heap.size, 9, none⟩)) rfl (by kernel_rfl) (by kernel_rfl) (by kernel_rfl) (fun _ _ _ h => h) (Or.inl ⟨by first | rfl | go_simp, by intro w9 hSw; (try dsimp only at hSw); go_simp⟩) (by assumption) ?_
          simp only [getElem_toArray, getElem_cons_zero, getElem_cons_succ, Act.put, setIfInBounds_toArray, set_cons_zero, set_cons_succ]
          refine wpAnyH_ready (rs := [7]) (by kernel_rfl) (by simp) ?_
          refine AllReadyH.cons rfl (fun K hK => ?_) (AllReadyH.nil)
          refine ap_i rfl _ _ rfl _ rfl AI p.ids.length cI p.ids rfl rfl (CellsAt.below HI.out BX) n4 ?_
          intro I1 i1 X4 hc9 RI b9
          replace RI := (Row.of_new hc9 RI).less (show w.heap.size + 2 ≤ X3.heap.size from K2.lt)
          clear hc9
          have oRI := RI.one
          replace K1 := K1.below b9 K1.lt
          replace K2 := K2.below b9 K2.lt
          replace BX := Base.thenB BX b9
          replace RD := Row.below RD b9
          replace RS := Row.below RS b9
          replace RA := Row.below RA b9
          clear b9
          refine hK.out _ _ trivial (fun hHeld => ?_)
          clear hK K
          try simp only [getElem_toArray, getElem_cons_zero, getElem_cons_succ, Act.put, setIfInBounds_toArray, set_cons_zero, set_cons_succ]
          skip
         case' n1034 =>
          have c90 := K1.cell 10
          go_simp
          clear c90
          refine hK.out _ _ trivial (fun hHeld => ?_)
          clear hK K
          try simp only [getElem_toArray, getElem_cons_zero, getElem_cons_succ, Act.put, setIfInBounds_toArray, set_cons_zero, set_cons_succ]
          refine wpAnyH_ready (rs := [3]) (by kernel_rfl) (by simp) ?_
          refine AllReadyH.cons rfl (fun K hK => ?_) (AllReadyH.nil)
          refine ap_a rfl _ _ rfl _ rfl AA p.ac.length cA p.ac rfl rfl (CellsAt.below HA.out BX) n3 ?_
          intro A1 a1 X3 hc9 RA b9
          replace RA := (Row.of_new hc9 RA).less (show w.heap.size + 2 ≤ X2.heap.size from K2.lt)
          clear hc9
          have oRA := RA.one
          replace K1 := K1.below b9 K1.lt
          replace K2 := K2.below b9 K2.lt
          replace BX := Base.thenB BX b9
          replace RD := Row.below RD b9
          replace RS := Row.below RS b9
          clear b9
          refine hK.out _ _ trivial (fun hHeld => ?_)
          clear hK K
          try simp only [getElem_toArray, getElem_cons_zero, getElem_cons_succ, Act.put, setIfInBounds_toArray, set_cons_zero, set_cons_succ]
          refine wpAnyH_take (i := 8) (v := .pointer (some ⟨w.heap.size, 9, none⟩)) rfl (by kernel_rfl) (by kernel_rfl) (by kernel_rfl) (fun _ _ _ h => h) (Or.inl ⟨by first | rfl | go_simp, by intro w9 hSw; (try dsimp only at hSw); go_simp⟩) (by assumption) ?_
          simp only [getElem_toArray, getElem_cons_zero, getElem_cons_succ, Act.put, setIfInBounds_toArray, set_cons_zero, set_cons_succ]
          refine wpAnyH_ready (rs := [7]) (by kernel_rfl) (by simp) ?_
          refine AllReadyH.cons rfl (fun K hK => ?_) (AllReadyH.nil)
          refine ap_i rfl _ _ rfl _ rfl AI p.ids.length cI p.ids rfl rfl (CellsAt.below HI.out BX) n4 ?_
          intro I1 i1 X4 hc9 RI b9
          replace RI := (Row.of_new hc9 RI).less (show w.heap.size + 2 ≤ X3.heap.size from K2.lt)
          clear hc9
          have oRI := RI.one
          replace K1 := K1.below b9 K1.lt
          replace K2 := K2.below b9 K2.lt
          replace BX := Base.thenB BX b9
          replace RD := Row.below RD b9
          replace RS := Row.below RS b9
          replace RA := Row.below RA b9
          clear b9
          refine hK.out _ _ trivial (fun hHeld => ?_)
          clear hK K
          try simp only [getElem_toArray, getElem_cons_zero, getElem_cons_succ, Act.put, setIfInBounds_toArray, set_cons_zero, set_cons_succ]
          skip
        case' n1030 =>
         have c90 := K1.cell 10
         go_simp
         clear c90
         refine hK.out _ _ trivial (fun hHeld => ?_)
         clear hK K
         try simp only [getElem_toArray, getElem_cons_zero, getElem_cons_succ, Act.put, setIfInBounds_toArray, set_cons_zero, set_cons_succ]
         refine wpAnyH_ready (rs := [3, 4]) (by kernel_rfl) (by simp) ?_
         refine AllReadyH.cons rfl (fun K hK => ?n1035) (AllReadyH.cons rfl (fun K hK => ?n1036) (AllReadyH.nil))
         case' n1035 =>
          refine ap_a rfl _ _ rfl _ rfl AA p.ac.length cA p.ac rfl rfl (CellsAt.below HA.out BX) n3 ?_
          intro A1 a1 X2 hc9 RA b9
          replace RA := (Row.of_new hc9 RA).less (show w.heap.size + 2 ≤ X1.heap.size from K2.lt)
          clear hc9
          have oRA := RA.one
          replace K1 := K1.below b9 K1.lt
          replace K2 := K2.below b9 K2.lt
          replace BX := Base.thenB BX b9
          replace RD := Row.below RD b9
          replace RS := Row.below RS b9
          clear b9
          refine hK.out _ _ trivial (fun hHeld => ?_)
          clear hK K
          try simp only [getElem_toArray, getElem_cons_zero, getElem_cons_succ, Act.put, setIfInBounds_toArray, set_cons_zero, set_cons_succ]
          refine wpAnyH_take (i := 8) (v := .pointer (some ⟨w.heap.size, 9, none⟩)) rfl (by kernel_rfl) (by kernel_rfl) (by kernel_rfl) (fun _ _ _ h => h) (Or.inl ⟨by first | rfl | go_simp, by intro w9 hSw; (try dsimp only at hSw); go_simp⟩) (by assumption) ?_
          simp only [getElem_toArray, getElem_cons_zero, getElem_cons_succ, Act.put, setIfInBounds_toArray, set_cons_zero, set_cons_succ]
          refine wpAnyH_ready (rs := [4]) (by kernel_rfl) (by simp) ?_
          refine AllReadyH.cons rfl (fun K hK => ?_) (AllReadyH.nil)
          go_simp
          have b9 := (Below.refl X2.heap.size X2).alloc (Nat.le_refl _) (.cells #[] 122)
          generalize X2.alloc (.cells #[] 122) = X3 at *
          replace K1 := K1.below b9 K1.lt
          replace K2 := K2.below b9 K2.lt
          replace BX := Base.thenB BX b9
          replace RD := Row.below RD b9
          replace RS := Row.below RS b9
          replace RA := Row.below RA b9
          clear b9
          refine hK.out _ _ trivial (fun hHeld => ?_)
          clear hK K
          try simp only [getElem_toArray, getElem_cons_zero, getElem_cons_succ, Act.put, setIfInBounds_toArray, set_cons_zero, set_cons_succ]
          refine wpAnyH_ready (rs := [7]) (by kernel_rfl) (by simp) ?_
          refine AllReadyH.cons rfl (fun K hK => ?_) (AllReadyH.nil)
          refine ap_i rfl _ _ rfl _ rfl AI p.ids.length cI p.ids rfl rfl (CellsAt.below HI.out BX) n4 ?_
          intro I1 i1 X4 hc9 RI b9
          replace RI := (Row.of_new hc9 RI).less (show w.heap.size + 2 ≤ X3.heap.size from K2.lt)
          clear hc9
          have oRI := RI.one
          replace K1 := K1.below b9 K1.lt
          replace K2 := K2.below b9 K2.lt
          replace BX := Base.thenB BX b9
          replace RD := Row.below RD b9
          replace RS := Row.below RS b9
          replace RA := Row.below RA b9
          clear b9
          refine hK.out _ _ trivial (fun hHeld => ?_)
          clear hK K
          try simp only [getElem_toArray, getElem_cons_zero, getElem_cons_succ, Act.put, setIfInBounds_toArray, set_cons_zero, set_cons_succ]
          skip
         case' n1036 =>
          go_simp
          have b9 := (Below.refl X1.heap.size X1).alloc (Nat.le_refl _) (.cells #[] 122)
          generalize X1.alloc (.cells #[] 122) = X2 at *
          replace K1 := K1.below b9 K1.lt
          replace K2 := K2.below b9 K2.lt
          replace BX := Base.thenB BX b9
          replace RD := Row.below RD b9
          replace RS := Row.below RS b9
          clear b9
          refine hK.out _ _ trivial (fun hHeld => ?_)
          clear hK K
          try simp only [getElem_toArray, getElem_cons_zero, getElem_cons_succ, Act.put, setIfInBounds_toArray, set_cons_zero, set_cons_succ]
          refine wpAnyH_ready (rs := [3]) (by kernel_rfl) (by simp) ?_
          refine AllReadyH.cons rfl (fun K hK => ?_) (AllReadyH.nil)
          refine ap_a rfl _ _ rfl _ rfl AA p.ac.length cA p.ac rfl rfl (CellsAt.below HA.out BX) n3 ?_
          intro A1 a1 X3 hc9 RA b9
          replace RA := (Row.of_new hc9 RA).less (show w.heap.size + 2 ≤ X2.heap.size from K2.lt)
          clear hc9
          have oRA := RA.one
          replace K1 := K1.below b9 K1.lt
          replace K2 := K2.below b9 K2.lt
          replace BX := Base.thenB BX b9
          replace RD := Row.below RD b9
          replace RS := Row.below RS b9
          clear b9
          refine hK.out _ _ trivial (fun hHeld => ?_)
          clear hK K
          try simp only [getElem_toArray, getElem_cons_zero, getElem_cons_succ, Act.put, setIfInBounds_toArray, set_cons_zero, set_cons_succ]
          refine wpAnyH_take (i := 8) (v := .pointer (some ⟨w.heap.size, 9, none⟩)) rfl (by kernel_rfl) (by kernel_rfl) (by kernel_rfl) (fun _ _ _ h => h) (Or.inl ⟨by first | rfl | go_simp, by intro w9 hSw; (try dsimp only at hSw); go_simp⟩) (by assumption) ?_
          simp only [getElem_toArray, getElem_cons_zero, getElem_cons_succ, Act.put, setIfInBounds_toArray, set_cons_zero, set_cons_succ]
          refine wpAnyH_ready (rs := [7]) (by kernel_rfl) (by simp) ?_
          refine AllReadyH.cons rfl (fun K hK => ?_) (AllReadyH.nil)
          refine ap_i rfl _ _ rfl _ rfl AI p.ids.length cI p.ids rfl rfl (CellsAt.below HI.out BX) n4 ?_
          intro I1 i1 X4 hc9 RI b9
          replace RI := (Row.of_new hc9 RI).less (show w.heap.size + 2 ≤ X3.heap.size from K2.lt)
          clear hc9
          have oRI := RI.one
          replace K1 := K1.below b9 K1.lt
          replace K2 := K2.below b9 K2.lt
          replace BX := Base.thenB BX b9
          replace RD := Row.below RD b9
          replace RS := Row.below RS b9
          replace RA := Row.below RA b9
          clear b9
          refine hK.out _ _ trivial (fun hHeld => ?_)
          clear hK K
          try simp only [getElem_toArray, getElem_cons_zero, getElem_cons_succ, Act.put, setIfInBounds_toArray, set_cons_zero, set_cons_succ]
          skip
       case' n1026 =>
        go_simp
        have b9 := (Below.refl X0.heap.size X0).alloc (Nat.le_refl _) (.cells #[] 122)
        generalize X0.alloc (.cells #[] 122) = X1 at *
        replace K1 := K1.below b9 K1.lt
        replace K2 := K2.below b9 K2.lt
        replace BX := Base.thenB BX b9
        replace RD := Row.below RD b9
        replace RS := Row.below RS b9
        clear b9
        refine hK.out _ _ trivial (fun hHeld => ?_)
        clear hK K
        try simp only [getElem_toArray, getElem_cons_zero, getElem_cons_succ, Act.put, setIfInBounds_toArray, set_cons_zero, set_cons_succ]
        refine wpAnyH_ready (rs := [0, 6]) (by kernel_rfl) (by simp) ?_
        refine AllReadyH.cons rfl (fun K hK => ?n1037) (AllReadyH.cons rfl (fun K hK => ?n1038) (AllReadyH.nil))
        case' n1037 =>
         go_simp
         have b9 := (Below.refl X1.heap.size X1).alloc (Nat.le_refl _) (.cells #[] 24)
         generalize X1.alloc (.cells #[] 24) = X2 at *
         replace K1 := K1.below b9 K1.lt
         replace K2 := K2.below b9 K2.lt
         replace BX := Base.thenB BX b9
         replace RD := Row.below RD b9
         replace RS := Row.below RS b9
         clear b9
         refine hK.out _ _ trivial (fun hHeld => ?_)
         clear hK K
         try simp only [getElem_toArray, getElem_cons_zero, getElem_cons_succ, Act.put, setIfInBounds_toArray, set_cons_zero, set_cons_succ]
         refine wpAnyH_ready (rs := [3, 6]) (by kernel_rfl) (by simp) ?_
         refine AllReadyH.cons rfl (fun K hK => ?n1039) (AllReadyH.cons rfl (fun K hK => ?n1040) (AllReadyH.nil))
         case' n1039 =>
          refine ap_a rfl _ _ rfl _ rfl AA p.ac.length cA p.ac rfl rfl (CellsAt.below HA.out BX) n3 ?_
          intro A1 a1 X3 hc9 RA b9
          replace RA := (Row.of_new hc9 RA).less (show w.heap.size + 2 ≤ X2.heap.size from K2.lt)
          clear hc9
          have oRA := RA.one
          replace K1 := K1.below b9 K1.lt
          replace K2 := K2.below b9 K2.lt
          replace BX := Base.thenB BX b9
          replace RD := Row.below RD b9
          replace RS := Row.below RS b9
          clear b9
          refine hK.out _ _ trivial (fun hHeld => ?_)
          clear hK K
          try simp only [getElem_toArray, getElem_cons_zero, getElem_cons_succ, Act.put, setIfInBounds_toArray, set_cons_zero, set_cons_succ]
          refine wpAnyH_ready (rs := [6]) (by kernel_rfl) (by simp) ?_
          refine AllReadyH.cons rfl (fun K hK => ?_) (AllReadyH.nil)
          have c90 := K1.cell 10
          go_simp
          clear c90
          refine hK.out _ _ trivial (fun hHeld => ?_)
          clear hK K
          try simp only [getElem_toArray, getElem_cons_zero, getElem_cons_succ, Act.put, setIfInBounds_toArray, set_cons_zero, set_cons_succ]
          refine wpAnyH_take (i := 8) (v := .pointer (some ⟨w.heap.size, 9, none⟩)) rfl (by kernel_rfl) (by kernel_rfl) (by kernel_rfl) (fun _ _ _ h => h) (Or.inl ⟨by first | rfl | go_simp, by intro w9 hSw; (try dsimp only at hSw); go_simp⟩) (by assumption) ?_
          simp only [getElem_toArray, getElem_cons_zero, getElem_cons_succ, Act.put, setIfInBounds_toArray, set_cons_zero, set_cons_succ]
          refine wpAnyH_ready (rs := [7]) (by kernel_rfl) (by simp) ?_
          refine AllReadyH.cons rfl (fun K hK => ?_) (AllReadyH.nil)
          refine ap_i rfl _ _ rfl _ rfl AI p.ids.length cI p.ids rfl rfl (CellsAt.below HI.out BX) n4 ?_
          intro I1 i1 X4 hc9 RI b9
          replace RI := (Row.of_new hc9 RI).less (show w.heap.size + 2 ≤ X3.heap.size from K2.lt)
          clear hc9
          have oRI := RI.one
          replace K1 := K1.below b9 K1.lt
          replace K2 := K2.below b9 K2.lt
          replace BX := Base.thenB BX b9
          replace RD := Row.below RD b9
          replace RS := Row.below RS b9
          replace RA := Row.below RA b9
          clear b9
          refine hK.out _ _ trivial (fun hHeld => ?_)
          clear hK K
          try simp only [getElem_toArray, getElem_cons_zero, getElem_cons_succ, Act.put, setIfInBounds_toArray, set_cons_zero, set_cons_succ]
          skip
         case' n1040 =>
          have c90 := K1.cell 10
          go_simp
          clear c90
          refine hK.out _ _ trivial (fun hHeld => ?_)
          clear hK K
          try simp only [getElem_toArray, getElem_cons_zero, getElem_cons_succ, Act.put, setIfInBounds_toArray, set_cons_zero, set_cons_succ]
          refine wpAnyH_ready (rs := [3]) (by kernel_rfl) (by simp) ?_
          refine AllReadyH.cons rfl (fun K hK => ?_) (AllReadyH.nil)
          refine ap_a rfl _ _ rfl _ rfl AA p.ac.length cA p.ac rfl rfl (CellsAt.below HA.out BX) n3 ?_
          intro A1 a1 X3 hc9 RA b9
          replace RA := (Row.of_new hc9 RA).less (show w.heap.size + 2 ≤ X2.heap.size from K2.lt)
          clear hc9
          have oRA := RA.one
          replace K1 := K1.below b9 K1.lt
          replace K2 := K2.below b9 K2.lt
          replace BX := Base.thenB BX b9
          replace RD := Row.below RD b9
          replace RS := Row.below RS b9
          clear b9
          refine hK.out _ _ trivial (fun hHeld => ?_)
          clear hK K
          try simp only [getElem_toArray, getElem_cons_zero, getElem_cons_succ, Act.put, setIfInBounds_toArray, set_cons_zero, set_cons_succ]
          refine wpAnyH_take (i := 8) (v := .pointer (some ⟨w.heap.size, 9, none⟩)) rfl (by kernel_rfl) (by kernel_rfl) (by kernel_rfl) (fun _ _ _ h => h) (Or.inl ⟨by first | rfl | go_simp, by intro w9 hSw; (try dsimp only at hSw); go_simp⟩) (by assumption) ?_
          simp only [getElem_toArray, getElem_cons_zero, getElem_cons_succ, Act.put, setIfInBounds_toArray, set_cons_zero, set_cons_succ]
          refine wpAnyH_ready (rs := [7]) (by kernel_rfl) (by simp) ?_
          refine AllReadyH.cons rfl (fun K hK => ?_) (AllReadyH.nil)
          refine ap_i rfl _ _ rfl _ rfl AI p.ids.length cI p.ids rfl rfl (CellsAt.below HI.out BX) n4 ?_
          intro I1 i1 X4 hc9 RI b9
          replace RI := (Row.of_new hc9 RI).less (show w.heap.size + 2 ≤ X3.heap.size from K2.lt)
          clear hc9
          have oRI := RI.one
          replace K1 := K1.below b9 K1.lt
          replace K2 := K2.below b9 K2.lt
          replace BX := Base.thenB BX b9
          replace RD := Row.below RD b9
          replace RS := Row.below RS b9
          replace RA := Row.below RA b9
          clear b9
          refine hK.out _ _ trivial (fun hHeld => ?_)
          clear hK K
          try simp only [getElem_toArray, getElem_cons_zero, getElem_cons_succ, Act.put, setIfInBounds_toArray, set_cons_zero, set_cons_succ]
          skip
        case' n1038 =>
         have c90 := K1.cell 10
         go_simp
         clear c90
         refine hK.out _ _ trivial (fun hHeld => ?_)
         clear hK K
         try simp only [getElem_toArray, getElem_cons_zero, getElem_cons_succ, Act.put, setIfInBounds_toArray, set_cons_zero, set_cons_succ]
         refine wpAnyH_ready (rs := [0]) (by kernel_rfl) (by simp) ?_
         refine AllReadyH.cons rfl (fun K hK => ?_) (AllReadyH.nil)
         go_simp
         have b9 := (Below.refl X1.heap.size X1).alloc (Nat.le_refl _) (.cells #[] 24)
         generalize X1.alloc (.cells #[] 24) = X2 at *
         replace K1 := K1.below b9 K1.lt
         replace K2 := K2.below b9 K2.lt
         replace BX := Base.thenB BX b9
         replace RD := Row.below RD b9
         replace RS := Row.below RS b9
         clear b9
         refine hK.out _ _ trivial (fun hHeld => ?_)
         clear hK K
         try simp only [getElem_toArray, getElem_cons_zero, getElem_cons_succ, Act.put, setIfInBounds_toArray, set_cons_zero, set_cons_succ]
         refine wpAnyH_ready (rs := [3]) (by kernel_rfl) (by simp) ?_
         refine AllReadyH.cons rfl (fun K hK => ?_) (AllReadyH.nil)
         refine ap_a rfl _ _ rfl _ rfl AA p.ac.length cA p.ac rfl rfl (CellsAt.below HA.out BX) n3 ?_
         intro A1 a1 X3 hc9 RA b9
         replace RA := (Row.of_new hc9 RA).less (show w.heap.size + 2 ≤ X2.heap.size from K2.lt)
         clear hc9
         have oRA := RA.one
         replace K1 := K1.below b9 K1.lt
         replace K2 := K2.below b9 K2.lt
         replace BX := Base.thenB BX b9
         replace RD := Row.below RD b9
         replace RS := Row.below RS b9
         clear b9
         refine hK.out _ _ trivial (fun hHeld => ?_)
         clear hK K
         try simp only [getElem_toArray, getElem_cons_zero, getElem_cons_succ, Act.put, setIfInBounds_toArray, set_cons_zero, set_cons_succ]
         refine wpAnyH_take (i := 8) (v := .pointer (some ⟨w.heap.size, 9, none⟩)) rfl (by kernel_rfl) (by kernel_rfl) (by kernel_rfl) (fun _ _ _ h => h) (Or.inl ⟨by first | rfl | go_simp, by intro w9 hSw; (try dsimp only at hSw); go_simp⟩) (by assumption) ?_
         simp only [getElem_toArray, getElem_cons_zero, getElem_cons_succ, Act.put, setIfInBounds_toArray, set_cons_zero, set_cons_succ]
         refine wpAnyH_ready (rs := [7]) (by kernel_rfl) (by simp) ?_
         refine AllReadyH.cons rfl (fun K hK => ?_) (AllReadyH.nil)
         refine ap_i rfl _ _ rfl _ rfl AI p.ids.length cI p.ids rfl rfl (CellsAt.below HI.out BX) n4 ?_
         intro I1 i1 X4 hc9 RI b9
         replace RI := (Row.of_new hc9 RI).less (show w.heap.size + 2 ≤ X3.heap.size from K2.lt)
         clear hc9
         have oRI := RI.one
         replace K1 := K1.below b9 K1.lt
         replace K2 := K2.below b9 K2.lt
         replace BX := Base.thenB BX b9
         replace RD := Row.below RD b9
         replace RS := Row.below RS b9
         replace RA := Row.below RA b9
         clear b9
         refine hK.out _ _ trivial (fun hHeld => ?_)
         clear hK K
         try simp only [getElem_toArray, getElem_cons_zero, getElem_cons_succ, Act.put, setIfInBounds_toArray, set_cons_zero, set_cons_succ]
         skip
       case' n1027 =>
        have c90 := K1.cell 10
        go_simp
        clear c90
        refine hK.out _ _ trivial (fun hHeld => ?_)
        clear hK K
        try simp only [getElem_toArray, getElem_cons_zero, getElem_cons_succ, Act.put, setIfInBounds_toArray, set_cons_zero, set_cons_succ]
        refine wpAnyH_ready (rs := [0, 4]) (by kernel_rfl) (by simp) ?_
        refine AllReadyH.cons rfl (fun K hK => ?n1041) (AllReadyH.cons rfl (fun K hK => ?n1042) (AllReadyH.nil))
        case' n1041 =>
         go_simp
         have b9 := (Below.refl X0.heap.size X0).alloc (Nat.le_refl _) (.cells #[] 24)
         generalize X0.alloc (.cells #[] 24) = X1 at *
         replace K1 := K1.below b9 K1.lt
         replace K2 := K2.below b9 K2.lt
         replace BX := Base.thenB BX b9
         replace RD := Row.below RD b9
         replace RS := Row.below RS b9
         clear b9
         refine hK.out _ _ trivial (fun hHeld => ?_)
         clear hK K
         try simp only [getElem_toArray, getElem_cons_zero, getElem_cons_succ, Act.put, setIfInBounds_toArray, set_cons_zero, set_cons_succ]
         refine wpAnyH_ready (rs := [3, 4]) (by kernel_rfl) (by simp) ?_
         refine AllReadyH.cons rfl (fun K hK => ?n1043) (AllReadyH.cons rfl (fun K hK => ?n1044) (AllReadyH.nil))
         case' n1043 =>
          refine ap_a rfl _ _ rfl _ rfl AA p.ac.length cA p.ac rfl rfl (CellsAt.below HA.out BX) n3 ?_
          intro A1 a1 X2 hc9 RA b9
          replace RA := (Row.of_new hc9 RA).less (show w.heap.size + 2 ≤ X1.heap.size from K2.lt)
          clear hc9
          have oRA := RA.one
          replace K1 := K1.below b9 K1.lt
          replace K2 := K2.below b9 K2.lt
          replace BX := Base.thenB BX b9
          replace RD := Row.below RD b9
          replace RS := Row.below RS b9
          clear b9
          refine hK.out _ _ trivial (fun hHeld => ?_)
          clear hK K
          try simp only [getElem_toArray, getElem_cons_zero, getElem_cons_succ, Act.put, setIfInBounds_toArray, set_cons_zero, set_cons_succ]
          refine wpAnyH_take (i := 8) (v := .pointer (some ⟨w.heap.size, 9, none⟩)) rfl (by kernel_rfl) (by kernel_rfl) (by kernel_rfl) (fun _ _ _ h => h) (Or.inl ⟨by first | rfl | go_simp, by intro w9 hSw; (try dsimp only at hSw); go_simp⟩) (by assumption) ?_
          simp only [getElem_toArray, getElem_cons_zero, getElem_cons_succ, Act.put, setIfInBounds_toArray, set_cons_zero, set_cons_succ]
          refine wpAnyH_ready (rs := [4]) (by kernel_rfl) (by simp) ?_
          refine AllReadyH.cons rfl (fun K hK => ?_) (AllReadyH.nil)
          go_simp
          have b9 := (Below.refl X2.heap.size X2).alloc (Nat.le_refl _) (.cells #[] 122)
          generalize X2.alloc (.cells #[] 122) = X3 at *
          replace K1 := K1.below b9 K1.lt
          replace K2 := K2.below b9 K2.lt
          replace BX := Base.thenB BX b9
          replace RD := Row.below RD b9
          replace RS := Row.below RS b9
          replace RA := Row.below RA b9
          clear b9
          refine hK.out _ _ trivial (fun hHeld => ?_)
          clear hK K
          try simp only [getElem_toArray, getElem_cons_zero, getElem_cons_succ, Act.put, setIfInBounds_toArray, set_cons_zero, set_cons_succ]
          refine wpAnyH_ready (rs := [7]) (by kernel_rfl) (by simp) ?_
          refine AllReadyH.cons rfl (fun K hK => ?_) (AllReadyH.nil)
          refine ap_i rfl _ _ rfl _ rfl AI p.ids.length cI p.ids rfl rfl (CellsAt.below HI.out BX) n4 ?_
          intro I1 i1 X4 hc9 RI b9
          replace RI := (Row.of_new hc9 RI).less (show w.heap.size + 2 ≤ X3.heap.size from K2.lt)
          clear hc9
          have oRI := RI.one
          replace K1 := K1.below b9 K1.lt
          replace K2 := K2.below b9 K2.lt
          replace BX := Base.thenB BX b9
          replace RD := Row.below RD b9
          replace RS := Row.below RS b9
          replace RA := Row.below RA b9
          clear b9
          refine hK.out _ _ trivial (fun hHeld => ?_)
          clear hK K
          try simp only [getElem_toArray, getElem_cons_zero, getElem_cons_succ, Act.put, setIfInBounds_toArray, set_cons_zero, set_cons_succ]
          skip
         case' n1044 =>
          go_simp
          have b9 := (Below.refl X1.heap.size X1).alloc (Nat.le_refl _) (.cells #[] 122)
          generalize X1.alloc (.cells #[] 122) = X2 at *
          replace K1 := K1.below b9 K1.lt
          replace K2 := K2.below b9 K2.lt
          replace BX := Base.thenB BX b9
          replace RD := Row.below RD b9
          replace RS := Row.below RS b9
          clear b9
          refine hK.out _ _ trivial (fun hHeld => ?_)
          clear hK K
          try simp only [getElem_toArray, getElem_cons_zero, getElem_cons_succ, Act.put, setIfInBounds_toArray, set_cons_zero, set_cons_succ]
          refine wpAnyH_ready (rs := [3]) (by kernel_rfl) (by simp) ?_
          refine AllReadyH.cons rfl (fun K hK => ?_) (AllReadyH.nil)
          refine ap_a rfl _ _ rfl _ rfl AA p.ac.length cA p.ac rfl rfl (CellsAt.below HA.out BX) n3 ?_
          intro A1 a1 X3 hc9 RA b9
          replace RA := (Row.of_new hc9 RA).less (show w.heap.size + 2 ≤ X2.heap.size from K2.lt)
          clear hc9
          have oRA := RA.one
          replace K1 := K1.below b9 K1.lt
          replace K2 := K2.below b9 K2.lt
          replace BX := Base.thenB BX b9
          replace RD := Row.below RD b9
          replace RS := Row.below RS b9
          clear b9
          refine hK.out _ _ trivial (fun hHeld => ?_)
          clear hK K
          try simp only [getElem_toArray, getElem_cons_zero, getElem_cons_succ, Act.put, setIfInBounds_toArray, set_cons_zero, set_cons_succ]
          refine wpAnyH_take (i := 8) (v := .pointer (some ⟨w.heap.size, 9, none⟩)) rfl (by kernel_rfl) (by kernel_rfl) (by kernel_rfl) (fun _ _ _ h => h) (Or.inl ⟨by first | rfl | go_simp, by intro w9 hSw; (try dsimp only at hSw); go_simp⟩) (by assumption) ?_
          simp only [getElem_toArray, getElem_cons_zero, getElem_cons_succ, Act.put, setIfInBounds_toArray, set_cons_zero, set_cons_succ]
          refine wpAnyH_ready (rs := [7]) (by kernel_rfl) (by simp) ?_
          refine AllReadyH.cons rfl (fun K hK => ?_) (AllReadyH.nil)
          refine ap_i rfl _ _ rfl _ rfl AI p.ids.length cI p.ids rfl rfl (CellsAt.below HI.out BX) n4 ?_
          intro I1 i1 X4 hc9 RI b9
          replace RI := (Row.of_new hc9 RI).less (show w.heap.size + 2 ≤ X3.heap.size from K2.lt)
          clear hc9
          have oRI := RI.one
          replace K1 := K1.below b9 K1.lt
          replace K2 := K2.below b9 K2.lt
          replace BX := Base.thenB BX b9
          replace RD := Row.below RD b9
          replace RS := Row.below RS b9
          replace RA := Row.below RA b9
          clear b9
          refine hK.out _ _ trivial (fun hHeld => ?_)
          clear hK K
          try simp only [getElem_toArray, getElem_cons_zero, getElem_cons_succ, Act.put, setIfInBounds_toArray, set_cons_zero, set_cons_succ]
          skip
        case' n1042 =>
         go_simp
         have b9 := (Below.refl X0.heap.size X0).alloc (Nat.le_refl _) (.cells #[] 122)
         generalize X0.alloc (.cells #[] 122) = X1 at *
         replace K1 := K1.below b9 K1.lt
         replace K2 := K2.below b9 K2.lt
         replace BX := Base.thenB BX b9
         replace RD := Row.below RD b9
         replace RS := Row.below RS b9
         clear b9
         refine hK.out _ _ trivial (fun hHeld => ?_)
         clear hK K
         try simp only [getElem_toArray, getElem_cons_zero, getElem_cons_succ, Act.put, setIfInBounds_toArray, set_cons_zero, set_cons_succ]
         refine wpAnyH_ready (rs := [0]) (by kernel_rfl) (by simp) ?_
         refine AllReadyH.cons rfl (fun K hK => ?_) (AllReadyH.nil)
         go_simp
         have b9 := (Below.refl X1.heap.size X1).alloc (Nat.le_refl _) (.cells #[] 24)
         generalize X1.alloc (.cells #[] 24) = X2 at *
         replace K1 := K1.below b9 K1.lt
         replace K2 := K2.below b9 K2.lt
         replace BX := Base.thenB BX b9
         replace RD := Row.below RD b9
         replace RS := Row.below RS b9
         clear b9
         refine hK.out _ _ trivial (fun hHeld => ?_)
         clear hK K
         try simp only [getElem_toArray, getElem_cons_zero, getElem_cons_succ, Act.put, setIfInBounds_toArray, set_cons_zero, set_cons_succ]
         refine wpAnyH_ready (rs := [3]) (by kernel_rfl) (by simp) ?_
         refine AllReadyH.cons rfl (fun K hK => ?_) (AllReadyH.nil)
         refine ap_a rfl _ _ rfl _ rfl AA p.ac.length cA p.ac rfl rfl (CellsAt.below HA.out BX) n3 ?_
         intro A1 a1 X3 hc9 RA b9
         replace RA := (Row.of_new hc9 RA).less (show w.heap.size + 2 ≤ X2.heap.size from K2.lt)
         clear hc9
         have oRA := RA.one
         replace K1 := K1.below b9 K1.lt
         replace K2 := K2.below b9 K2.lt
         replace BX := Base.thenB BX b9
         replace RD := Row.below RD b9
         replace RS := Row.below RS b9
         clear b9
         refine hK.out _ _ trivial (fun hHeld => ?_)
         clear hK K
         try simp only [getElem_toArray, getElem_cons_zero, getElem_cons_succ, Act.put, setIfInBounds_toArray, set_cons_zero, set_cons_succ]
         refine wpAnyH_take (i := 8) (v := .pointer (some ⟨w.heap.size, 9, none⟩)) rfl (by kernel_rfl) (by kernel_rfl) (by kernel_rfl) (fun _ _ _ h => h) (Or.inl ⟨by first | rfl | go_simp, by intro w9 hSw; (try dsimp only at hSw); go_simp⟩) (by assumption) ?_
         simp only [getElem_toArray, getElem_cons_zero, getElem_cons_succ, Act.put, setIfInBounds_toArray, set_cons_zero, set_cons_succ]
         refine wpAnyH_ready (rs := [7]) (by kernel_rfl) (by simp) ?_
         refine AllReadyH.cons rfl (fun K hK => ?_) (AllReadyH.nil)
         refine ap_i rfl _ _ rfl _ rfl AI p.ids.length cI p.ids rfl rfl (CellsAt.below HI.out BX) n4 ?_
         intro I1 i1 X4 hc9 RI b9
         replace RI := (Row.of_new hc9 RI).less (show w.heap.size + 2 ≤ X3.heap.size from K2.lt)
         clear hc9
         have oRI := RI.one
         replace K1 := K1.below b9 K1.lt
         replace K2 := K2.below b9 K2.lt
         replace BX := Base.thenB BX b9
         replace RD := Row.below RD b9
         replace RS := Row.below RS b9
         replace RA := Row.below RA b9
         clear b9
         refine hK.out _ _ trivial (fun hHeld => ?_)
         clear hK K
         try simp only [getElem_toArray, getElem_cons_zero, getElem_cons_succ, Act.put, setIfInBounds_toArray, set_cons_zero, set_cons_succ]
         skip
      case' n1003 =>
       go_simp
       have b9 := (Below.refl X0.heap.size X0).alloc (Nat.le_refl _) (.cells #[] 122)
       generalize X0.alloc (.cells #[] 122) = X1 at *
       replace K1 := K1.below b9 K1.lt
       replace K2 := K2.below b9 K2.lt
       replace BX := Base.thenB BX b9
       replace RD := Row.below RD b9
       replace RS := Row.below RS b9
       clear b9
       refine hK.out _ _ trivial (fun hHeld => ?_)
       clear hK K
       try simp only [getElem_toArray, getElem_cons_zero, getElem_cons_succ, Act.put, setIfInBounds_toArray, set_cons_zero, set_cons_succ]
       refine wpAnyH_ready (rs := [0, 2, 6]) (by kernel_rfl) (by simp) ?_
       refine AllReadyH.cons rfl (fun K hK => ?n1045) (AllReadyH.cons rfl (fun K hK => ?n1046) (AllReadyH.cons rfl (fun K hK => ?n1047) (AllReadyH.nil)))
       case' n1045 =>
        go_simp
        have b9 := (Below.refl X1.heap.size X1).alloc (Nat.le_refl _) (.cells #[] 24)
        generalize X1.alloc (.cells #[] 24) = X2 at *
        replace K1 := K1.below b9 K1.lt
        replace K2 := K2.below b9 K2.lt
        replace BX := Base.thenB BX b9
        replace RD := Row.below RD b9
        replace RS := Row.below RS b9
        clear b9
        refine hK.out _ _ trivial (fun hHeld => ?_)
        clear hK K
        try simp only [getElem_toArray, getElem_cons_zero, getElem_cons_succ, Act.put, setIfInBounds_toArray, set_cons_zero, set_cons_succ]
        refine wpAnyH_ready (rs := [2, 6]) (by kernel_rfl) (by simp) ?_
        refine AllReadyH.cons rfl (fun K hK => ?n1048) (AllReadyH.cons rfl (fun K hK => ?n1049) (AllReadyH.nil))
        case' n1048 =>
         have c90 := K1.cell 9
         go_simp
         clear c90
         refine hK.out _ _ trivial (fun hHeld => ?_)
         clear hK K
         try simp only [getElem_toArray, getElem_cons_zero, getElem_cons_succ, Act.put, setIfInBounds_toArray, set_cons_zero, set_cons_succ]
         refine wpAnyH_ready (rs := [3, 6]) (by kernel_rfl) (by simp) ?_
         refine AllReadyH.cons rfl (fun K hK => ?n1050) (AllReadyH.cons rfl (fun K hK => ?n1051) (AllReadyH.nil))
         case' n1050 =>
          refine ap_a rfl _ _ rfl _ rfl AA p.ac.length cA p.ac rfl rfl (CellsAt.below HA.out BX) n3 ?_
          intro A1 a1 X3 hc9 RA b9
          replace RA := (Row.of_new hc9 RA).less (show w.heap.size + 2 ≤ X2.heap.size from K2.lt)
          clear hc9
          have oRA := RA.one
          replace K1 := K1.below b9 K1.lt
          replace K2 := K2.below b9 K2.lt
          replace BX := Base.thenB BX b9
          replace RD := Row.below RD b9
          replace RS := Row.below RS b9
          clear b9
          refine hK.out _ _ trivial (fun hHeld => ?_)
          clear hK K
          try simp only [getElem_toArray, getElem_cons_zero, getElem_cons_succ, Act.put, setIfInBounds_toArray, set_cons_zero, set_cons_succ]
          refine wpAnyH_ready (rs := [6]) (by kernel_rfl) (by simp) ?_
          refine AllReadyH.cons rfl (fun K hK => ?_) (AllReadyH.nil)
          have c90 := K1.cell 10
          go_simp
          clear c90
          refine hK.out _ _ trivial (fun hHeld => ?_)
          clear hK K
          try simp only [getElem_toArray, getElem_cons_zero, getElem_cons_succ, Act.put, setIfInBounds_toArray, set_cons_zero, set_cons_succ]
          refine wpAnyH_take (i := 8) (v := .pointer (some ⟨w.heap.size, 9, none⟩)) rfl (by kernel_rfl) (by kernel_rfl) (by kernel_rfl) (fun _ _ _ h => h) (Or.inl ⟨by first | rfl | go_simp, by intro w9 hSw; (try dsimp only at hSw); go_simp⟩) (by assumption) ?_
          simp only [getElem_toArray, getElem_cons_zero, getElem_cons_succ, Act.put, setIfInBounds_toArray, set_cons_zero, set_cons_succ]
          refine wpAnyH_ready (rs := [7]) (by kernel_rfl) (by simp) ?_
          refine AllReadyH.cons rfl (fun K hK => ?_) (AllReadyH.nil)
          refine ap_i rfl _ _ rfl _ rfl AI p.ids.length cI p.ids rfl rfl (CellsAt.below HI.out BX) n4 ?_
          intro I1 i1 X4 hc9 RI b9
          replace RI := (Row.of_new hc9 RI).less (show w.heap.size + 2 ≤ X3.heap.size from K2.lt)
          clear hc9
          have oRI := RI.one
          replace K1 := K1.below b9 K1.lt
          replace K2 := K2.below b9 K2.lt
          replace BX := Base.thenB BX b9
          replace RD := Row.below RD b9
          replace RS := Row.below RS b9
          replace RA := Row.below RA b9
          clear b9
          refine hK.out _ _ trivial (fun hHeld => ?_)
          clear hK K
          try simp only [getElem_toArray, getElem_cons_zero, getElem_cons_succ, Act.put, setIfInBounds_toArray, set_cons_zero, set_cons_succ]
          skip
         case' n1051 =>
          have c90 := K1.cell 10
          go_simp
          clear c90
          refine hK.out _ _ trivial (fun hHeld => ?_)
          clear hK K
          try simp only [getElem_toArray, getElem_cons_zero, getElem_cons_succ, Act.put, setIfInBounds_toArray, set_cons_zero, set_cons_succ]
          refine wpAnyH_ready (rs := [3]) (by kernel_rfl) (by simp) ?_
          refine AllReadyH.cons rfl (fun K hK => ?_) (AllReadyH.nil)
          refine ap_a rfl _ _ rfl _ rfl AA p.ac.length cA p.ac rfl rfl (CellsAt.below HA.out BX) n3 ?_
          intro A1 a1 X3 hc9 RA b9
          replace RA := (Row.of_new hc9 RA).less (show w.heap.size + 2 ≤ X2.heap.size from K2.lt)
          clear hc9
          have oRA := RA.one
          replace K1 := K1.below b9 K1.lt
          replace K2 := K2.below b9 K2.lt
          replace BX := Base.thenB BX b9
          replace RD := Row.below RD b9
          replace RS := Row.below RS b9
          clear b9
          refine hK.out _ _ trivial (fun hHeld => ?_)
          clear hK K
          try simp only [getElem_toArray, getElem_cons_zero, getElem_cons_succ, Act.put, setIfInBounds_toArray, set_cons_zero, set_cons_succ]
          refine wpAnyH_take (i := 8) (v := .pointer (some ⟨w.heap.size, 9, none⟩)) rfl (by kernel_rfl) (by kernel_rfl) (by kernel_rfl) (fun _ _ _ h => h) (Or.inl ⟨by first | rfl | go_simp, by intro w9 hSw; (try dsimp only at hSw); go_simp⟩) (by assumption) ?_
          simp only [getElem_toArray, getElem_cons_zero, getElem_cons_succ, Act.put, setIfInBounds_toArray, set_cons_zero, set_cons_succ]
          refine wpAnyH_ready (rs := [7]) (by kernel_rfl) (by simp) ?_
          refine AllReadyH.cons rfl (fun K hK => ?_) (AllReadyH.nil)
          refine ap_i rfl _ _ rfl _ rfl AI p.ids.length cI p.ids rfl rfl (CellsAt.below HI.out BX) n4 ?_
          intro I1 i1 X4 hc9 RI b9
          replace RI := (Row.of_new hc9 RI).less (show w.heap.size + 2 ≤ X3.heap.size from K2.lt)
          clear hc9
          have oRI := RI.one
          replace K1 := K1.below b9 K1.lt
          replace K2 := K2.below b9 K2.lt
          replace BX := Base.thenB BX b9
          replace RD := Row.below RD b9
          replace RS := Row.below RS b9
          replace RA := Row.below RA b9
          clear b9
          refine hK.out _ _ trivial (fun hHeld => ?_)
          clear hK K
          try simp only [getElem_toArray, getElem_cons_zero, getElem_cons_succ, Act.put, setIfInBounds_toArray, set_cons_zero, set_cons_succ]
          skip
        case' n1049 =>
         have c90 := K1.cell 10
         go_simp
         clear c90
         refine hK.out _ _ trivial (fun hHeld => ?_)
         clear hK K
         try simp only [getElem_toArray, getElem_cons_zero, getElem_cons_succ, Act.put, setIfInBounds_toArray, set_cons_zero, set_cons_succ]
         refine wpAnyH_ready (rs := [2]) (by kernel_rfl) (by simp) ?_
         refine AllReadyH.cons rfl (fun K hK => ?_) (AllReadyH.nil)
         have c90 := K1.cell 9
         go_simp
         clear c90
         refine hK.out _ _ trivial (fun hHeld => ?_)
         clear hK K
         try simp only [getElem_toArray, getElem_cons_zero, getElem_cons_succ, Act.put, setIfInBounds_toArray, set_cons_zero, set_cons_succ]
         refine wpAnyH_ready (rs := [3]) (by kernel_rfl) (by simp) ?_
         refine AllReadyH.cons rfl (fun K hK => ?_) (AllReadyH.nil)
         refine ap_a rfl _ _ rfl _ rfl AA p.ac.length cA p.ac rfl rfl (CellsAt.below HA.out BX) n3 ?_
         intro A1 a1 X3 hc9 RA b9
         replace RA := (Row.of_new hc9 RA).less (show w.heap.size + 2 ≤ X2.heap.size from K2.lt)
         clear hc9
         have oRA := RA.one
         replace K1 := K1.below b9 K1.lt
         replace K2 := K2.below b9 K2.lt
         replace BX := Base.thenB BX b9
         replace RD := Row.below RD b9
         replace RS := Row.below RS b9
         clear b9
         refine hK.out _ _ trivial (fun hHeld => ?_)
         clear hK K
         try simp only [getElem_toArray, getElem_cons_zero, getElem_cons_succ, Act.put, setIfInBounds_toArray, set_cons_zero, set_cons_succ]
         refine wpAnyH_take (i := 8) (v := .pointer (some ⟨w.heap.size, 9, none⟩)) rfl (by kernel_rfl) (by kernel_rfl) (by kernel_rfl) (fun _ _ _ h => h) (Or.inl ⟨by first | rfl | go_simp, by intro w9 hSw; (try dsimp only at hSw); go_simp⟩) (by assumption) ?_
         simp only [getElem_toArray, getElem_cons_zero, getElem_cons_succ, Act.put, setIfInBounds_toArray, set_cons_zero, set_cons_succ]
         refine wpAnyH_ready (rs := [7]) (by kernel_rfl) (by simp) ?_
         refine AllReadyH.cons rfl (fun K hK => ?_) (AllReadyH.nil)
         refine ap_i rfl _ _ rfl _ rfl AI p.ids.length cI p.ids rfl rfl (CellsAt.below HI.out BX) n4 ?_
         intro I1 i1 X4 hc9 RI b9
         replace RI := (Row.of_new hc9 RI).less (show w.heap.size + 2 ≤ X3.heap.size from K2.lt)
         clear hc9
         have oRI := RI.one
         replace K1 := K1.below b9 K1.lt
         replace K2 := K2.below b9 K2.lt
         replace BX := Base.thenB BX b9
         replace RD := Row.below RD b9
         replace RS := Row.below RS b9
         replace RA := Row.below RA b9
         clear b9
         refine hK.out _ _ trivial (fun hHeld => ?_)
         clear hK K
         try simp only [getElem_toArray, getElem_cons_zero, getElem_cons_succ, Act.put, setIfInBounds_toArray, set_cons_zero, set_cons_succ]
         skip
       case' n1046 =>
        have c90 := K1.cell 9
        go_simp
        clear c90
        refine hK.out _ _ trivial (fun hHeld => ?_)
        clear hK K
        try simp only [getElem_toArray, getElem_cons_zero, getElem_cons_succ, Act.put, setIfInBounds_toArray, set_cons_zero, set_cons_succ]
        refine wpAnyH_ready (rs := [0, 6]) (by kernel_rfl) (by simp) ?_
        refine AllReadyH.cons rfl (fun K hK => ?n1052) (AllReadyH.cons rfl (fun K hK => ?n1053) (AllReadyH.nil))
        case' n1052 =>
         go_simp
         have b9 := (Below.refl X1.heap.size X1).alloc (Nat.le_refl _) (.cells #[] 24)
         generalize X1.alloc (.cells #[] 24) = X2 at *
         replace K1 := K1.below b9 K1.lt
         replace K2 := K2.below b9 K2.lt
         replace BX := Base.thenB BX b9
         replace RD := Row.below RD b9
         replace RS := Row.below RS b9
         clear b9
         refine hK.out _ _ trivial (fun hHeld => ?_)
         clear hK K
         try simp only [getElem_toArray, getElem_cons_zero, getElem_cons_succ, Act.put, setIfInBounds_toArray, set_cons_zero, set_cons_succ]
         refine wpAnyH_ready (rs := [3, 6]) (by kernel_rfl) (by simp) ?_
         refine AllReadyH.cons rfl (fun K hK => ?n1054) (AllReadyH.cons rfl (fun K hK => ?n1055) (AllReadyH.nil))
         case' n1054 =>
          refine ap_a rfl _ _ rfl _ rfl AA p.ac.length cA p.ac rfl rfl (CellsAt.below HA.out BX) n3 ?_
          intro A1 a1 X3 hc9 RA b9
          replace RA := (Row.of_new hc9 RA).less (show w.heap.size + 2 ≤ X2.heap.size from K2.lt)
          clear hc9
          have oRA := RA.one
          replace K1 := K1.below b9 K1.lt
          replace K2 := K2.below b9 K2.lt
          replace BX := Base.thenB BX b9
          replace RD := Row.below RD b9
          replace RS := Row.below RS b9
          clear b9
          refine hK.out _ _ trivial (fun hHeld => ?_)
          clear hK K
          try simp only [getElem_toArray, getElem_cons_zero, getElem_cons_succ, Act.put, setIfInBounds_toArray, set_cons_zero, set_cons_succ]
          refine wpAnyH_ready (rs := [6]) (by kernel_rfl) (by simp) ?_
          refine AllReadyH.cons rfl (fun K hK => ?_) (AllReadyH.nil)
          have c90 := K1.cell 10
          go_simp
          clear c90
          refine hK.out _ _ trivial (fun hHeld => ?_)
          clear hK K
          try simp only [getElem_toArray, getElem_cons_zero, getElem_cons_succ, Act.put, setIfInBounds_toArray, set_cons_zero, set_cons_succ]
          refine wpAnyH_take (i := 8) (v := .pointer (some ⟨w.heap.size, 9, none⟩)) rfl (by kernel_rfl) (by kernel_rfl) (by kernel_rfl) (fun _ _ _ h => h) (Or.inl ⟨by first | rfl | go_simp, by intro w9 hSw; (try dsimp only at hSw); go_simp⟩) (by assumption) ?_
          simp only [getElem_toArray, getElem_cons_zero, getElem_cons_succ, Act.put, setIfInBounds_toArray, set_cons_zero, set_cons_succ]
          refine wpAnyH_ready (rs := [7]) (by kernel_rfl) (by simp) ?_
          refine AllReadyH.cons rfl (fun K hK => ?_) (AllReadyH.nil)
          refine ap_i rfl _ _ rfl _ rfl AI p.ids.length cI p.ids rfl rfl (CellsAt.below HI.out BX) n4 ?_
          intro I1 i1 X4 hc9 RI b9
          replace RI := (Row.of_new hc9 RI).less (show w.heap.size + 2 ≤ X3.heap.size from K2.lt)
          clear hc9
          have oRI := RI.one
          replace K1 := K1.below b9 K1.lt
          replace K2 := K2.below b9 K2.lt
          replace BX := Base.thenB BX b9
          replace RD := Row.below RD b9
          replace RS := Row.below RS b9
          replace RA := Row.below RA b9
          clear b9
          refine hK.out _ _ trivial (fun hHeld => ?_)
          clear hK K
          try simp only [getElem_toArray, getElem_cons_zero, getElem_cons_succ, Act.put, setIfInBounds_toArray, set_cons_zero, set_cons_succ]
          skip
         case' n1055 =>
          have c90 := K1.cell 10
          go_simp
          clear c90
          refine hK.out _ _ trivial (fun hHeld => ?_)
          clear hK K
          try simp only [getElem_toArray, getElem_cons_zero, getElem_cons_succ, Act.put, setIfInBounds_toArray, set_cons_zero, set_cons_succ]
          refine wpAnyH_ready (rs := [3]) (by kernel_rfl) (by simp) ?_
          refine AllReadyH.cons rfl (fun K hK => ?_) (AllReadyH.nil)
          refine ap_a rfl _ _ rfl _ rfl AA p.ac.length cA p.ac rfl rfl (CellsAt.below HA.out BX) n3 ?_
          intro A1 a1 X3 hc9 RA b9
          replace RA := (Row.of_new hc9 RA).less (show w.heap.size + 2 ≤ X2.heap.size from K2.lt)
          clear hc9
          have oRA := RA.one
          replace K1 := K1.below b9 K1.lt
          replace K2 := K2.below b9 K2.lt
          replace BX := Base.thenB BX b9
          replace RD := Row.below RD b9
          replace RS := Row.below RS b9
          clear b9
          refine hK.out _ _ trivial (fun hHeld => ?_)
          clear hK K
          try simp only [getElem_toArray, getElem_cons_zero, getElem_cons_succ, Act.put, setIfInBounds_toArray, set_cons_zero, set_cons_succ]
          refine wpAnyH_take (i := 8) (v := .pointer (some ⟨w.heap.size, 9, none⟩)) rfl (by kernel_rfl) (by kernel_rfl) (by kernel_rfl) (fun _ _ _ h => h) (Or.inl ⟨by first | rfl | go_simp, by intro w9 hSw; (try dsimp only at hSw); go_simp⟩) (by assumption) ?_
          simp only [getElem_toArray, getElem_cons_zero, getElem_cons_succ, Act.put, setIfInBounds_toArray, set_cons_zero, set_cons_succ]
          refine wpAnyH_ready (rs := [7]) (by kernel_rfl) (by simp) ?_
          refine AllReadyH.cons rfl (fun K hK => ?_) (AllReadyH.nil)
          refine ap_i rfl _ _ rfl _ rfl AI p.ids.length cI p.ids rfl rfl (CellsAt.below HI.out BX) n4 ?_
          intro I1 i1 X4 hc9 RI b9
          replace RI := (Row.of_new hc9 RI).less (show w.heap.size + 2 ≤ X3.heap.size from K2.lt)
          clear hc9
          have oRI := RI.one
          replace K1 := K1.below b9 K1.lt
          replace K2 := K2.below b9 K2.lt
          replace BX := Base.thenB BX b9
          replace RD := Row.below RD b9
          replace RS := Row.below RS b9
          replace RA := Row.below RA b9
          clear b9
          refine hK.out _ _ trivial (fun hHeld => ?_)
          clear hK K
          try simp only [getElem_toArray, getElem_cons_zero, getElem_cons_succ, Act.put, setIfInBounds_toArray, set_cons_zero, set_cons_succ]
          skip
        case' n1053 =>
         have c90 := K1.cell 10
         go_simp
         clear c90
         refine hK.out _ _ trivial (fun hHeld => ?_)
         clear hK K
         try simp only [getElem_toArray, getElem_cons_zero, getElem_cons_succ, Act.put, setIfInBounds_toArray, set_cons_zero, set_cons_succ]
         refine wpAnyH_ready (rs := [0]) (by kernel_rfl) (by simp) ?_
         refine AllReadyH.cons rfl (fun K hK => ?_) (AllReadyH.nil)
         go_simp
         have b9 := (Below.refl X1.heap.size X1).alloc (Nat.le_refl _) (.cells #[] 24)
         generalize X1.alloc (.cells #[] 24) = X2 at *
         replace K1 := K1.below b9 K1.lt
         replace K2 := K2.below b9 K2.lt
         replace BX := Base.thenB BX b9
         replace RD := Row.below RD b9
         replace RS := Row.below RS b9
         clear b9
         refine hK.out _ _ trivial (fun hHeld => ?_)
         clear hK K
         try simp only [getElem_toArray, getElem_cons_zero, getElem_cons_succ, Act.put, setIfInBounds_toArray, set_cons_zero, set_cons_succ]
         refine wpAnyH_ready (rs := [3]) (by kernel_rfl) (by simp) ?_
         refine AllReadyH.cons rfl (fun K hK => ?_) (AllReadyH.nil)
         refine ap_a rfl _ _ rfl _ rfl AA p.ac.length cA p.ac rfl rfl (CellsAt.below HA.out BX) n3 ?_
         intro A1 a1 X3 hc9 RA b9
         replace RA := (Row.of_new hc9 RA).less (show w.heap.size + 2 ≤ X2.heap.size from K2.lt)
         clear hc9
         have oRA := RA.one
         replace K1 := K1.below b9 K1.lt
         replace K2 := K2.below b9 K2.lt
         replace BX := Base.thenB BX b9
         replace RD := Row.below RD b9
         replace RS := Row.below RS b9
         clear b9
         refine hK.out _ _ trivial (fun hHeld => ?_)
         clear hK K
         try simp only [getElem_toArray, getElem_cons_zero, getElem_cons_succ, Act.put, setIfInBounds_toArray, set_cons_zero, set_cons_succ]
         refine wpAnyH_take (i := 8) (v := .pointer (some ⟨w.heap.size, 9, none⟩)) rfl (by kernel_rfl) (by kernel_rfl) (by kernel_rfl) (fun _ _ _ h => h) (Or.inl ⟨by first | rfl | go_simp, by intro w9 hSw; (try dsimp only at hSw); go_simp⟩) (by assumption) ?_
         simp only [getElem_toArray, getElem_cons_zero, getElem_cons_succ, Act.put, setIfInBounds_toArray, set_cons_zero, set_cons_succ]
         refine wpAnyH_ready (rs := [7]) (by kernel_rfl) (by simp) ?_
         refine AllReadyH.cons rfl (fun K hK => ?_) (AllReadyH.nil)
         refine ap_i rfl _ _ rfl _ rfl AI p.ids.length cI p.ids rfl rfl (CellsAt.below HI.out BX) n4 ?_
         intro I1 i1 X4 hc9 RI b9
         replace RI := (Row.of_new hc9 RI).less (show w.heap.size + 2 ≤ X3.heap.size from K2.lt)
         clear hc9
         have oRI := RI.one
         replace K1 := K1.below b9 K1.lt
         replace K2 := K2.below b9 K2.lt
         replace BX := Base.thenB BX b9
         replace RD := Row.below RD b9
         replace RS := Row.below RS b9
         replace RA := Row.below RA b9
         clear b9
         refine hK.out _ _ trivial (fun hHeld => ?_)
         clear hK K
         try simp only [getElem_toArray, getElem_cons_zero, getElem_cons_succ, Act.put, setIfInBounds_toArray, set_cons_zero, set_cons_succ]
         skip
       case' n1047 =>
        have c90 := K1.cell 10
        go_simp
        clear c90
        refine hK.out _ _ trivial (fun hHeld => ?_)
        clear hK K
        try simp only [getElem_toArray, getElem_cons_zero, getElem_cons_succ, Act.put, setIfInBounds_toArray, set_cons_zero, set_cons_succ]
        refine wpAnyH_ready (rs := [0, 2]) (by kernel_rfl) (by simp) ?_
        refine AllReadyH.cons rfl (fun K hK => ?n1056) (AllReadyH.cons rfl (fun K hK => ?n1057) (AllReadyH.nil))
        case' n1056 =>
         go_simp
         have b9 := (Below.refl X1.heap.size X1).alloc (Nat.le_refl _) (.cells #[] 24)
         generalize X1.alloc (.cells #[] 24) = X2 at *
         replace K1 := K1.below b9 K1.lt
         replace K2 := K2.below b9 K2.lt
         replace BX := Base.thenB BX b9
         replace RD := Row.below RD b9
         replace RS := Row.below RS b9
         clear b9
         refine hK.out _ _ trivial (fun hHeld => ?_)
         clear hK K
         try simp only [getElem_toArray, getElem_cons_zero, getElem_cons_succ, Act.put, setIfInBounds_toArray, set_cons_zero, set_cons_succ]
         refine wpAnyH_ready (rs := [2]) (by kernel_rfl) (by simp) ?_
         refine AllReadyH.cons rfl (fun K hK => ?_) (AllReadyH.nil)
         have c90 := K1.cell 9
         go_simp
         clear c90
         refine hK.out _ _ trivial (fun hHeld => ?_)
         clear hK K
         try simp only [getElem_toArray, getElem_cons_zero, getElem_cons_succ, Act.put, setIfInBounds_toArray, set_cons_zero, set_cons_succ]
         refine wpAnyH_ready (rs := [3]) (by kernel_rfl) (by simp) ?_
         refine AllReadyH.cons rfl (fun K hK => ?_) (AllReadyH.nil)
         refine ap_a rfl _ _ rfl _ rfl AA p.ac.length cA p.ac rfl rfl (CellsAt.below HA.out BX) n3 ?_
         intro A1 a1 X3 hc9 RA b9
         replace RA := (Row.of_new hc9 RA).less (show w.heap.size + 2 ≤ X2.heap.size from K2.lt)
         clear hc9
         have oRA := RA.one
         replace K1 := K1.below b9 K1.lt
         replace K2 := K2.below b9 K2.lt
         replace BX := Base.thenB BX b9
         replace RD := Row.below RD b9
         replace RS := Row.below RS b9
         clear b9
         refine hK.out _ _ trivial (fun hHeld => ?_)
         clear hK K
         try simp only [getElem_toArray, getElem_cons_zero, getElem_cons_succ, Act.put, setIfInBounds_toArray, set_cons_zero, set_cons_succ]
         refine wpAnyH_take (i := 8) (v := .pointer (some ⟨w.heap.size, 9, none⟩)) rfl (by kernel_rfl) (by kernel_rfl) (by kernel_rfl) (fun _ _ _ h => h) (Or.inl ⟨by first | rfl | go_simp, by intro w9 hSw; (try dsimp only at hSw); go_simp⟩) (by assumption) ?_
         simp only [getElem_toArray, getElem_cons_zero, getElem_cons_succ, Act.put, setIfInBounds_toArray, set_cons_zero, set_cons_succ]
         refine wpAnyH_ready (rs := [7]) (by kernel_rfl) (by simp) ?_
         refine AllReadyH.cons rfl (fun K hK => ?_) (AllReadyH.nil)
         refine ap_i rfl _ _ rfl _ rfl AI p.ids.length cI p.ids rfl rfl (CellsAt.below HI.out BX) n4 ?_
         intro I1 i1 X4 hc9 RI b9
         replace RI := (Row.of_new hc9 RI).less (show w.heap.size + 2 ≤ X3.heap.size from K2.lt)
         clear hc9
         have oRI := RI.one
         replace K1 := K1.below b9 K1.lt
         replace K2 := K2.below b9 K2.lt
         replace BX := Base.thenB BX b9
         replace RD := Row.below RD b9
         replace RS := Row.below RS b9
         replace RA := Row.below RA b9
         clear b9
         refine hK.out _ _ trivial (fun hHeld => ?_)
         clear hK K
         try simp only [getElem_toArray, getElem_cons_zero, getElem_cons_succ, Act.put, setIfInBounds_toArray, set_cons_zero, set_cons_succ]
         skip
        case' n1057 =>
         have c90 := K1.cell 9
         go_simp
         clear c90
         refine hK.out _ _ trivial (fun hHeld => ?_)
         clear hK K
         try simp only [getElem_toArray, getElem_cons_zero, getElem_cons_succ, Act.put, setIfInBounds_toArray, set_cons_zero, set_cons_succ]
         refine wpAnyH_ready (rs := [0]) (by kernel_rfl) (by simp) ?_
         refine AllReadyH.cons rfl (fun K hK => ?_) (AllReadyH.nil)
         go_simp
         have b9 := (Below.refl X1.heap.size X1).alloc (Nat.le_refl _) (.cells #[] 24)
         generalize X1.alloc (.cells #[] 24) = X2 at *
         replace K1 := K1.below b9 K1.lt
         replace K2 := K2.below b9 K2.lt
         replace BX := Base.thenB BX b9
         replace RD := Row.below RD b9
         replace RS := Row.below RS b9
         clear b9
         refine hK.out _ _ trivial (fun hHeld => ?_)
         clear hK K
         try simp only [getElem_toArray, getElem_cons_zero, getElem_cons_succ, Act.put, setIfInBounds_toArray, set_cons_zero, set_cons_succ]
         refine wpAnyH_ready (rs := [3]) (by kernel_rfl) (by simp) ?_
         refine AllReadyH.cons rfl (fun K hK => ?_) (AllReadyH.nil)
         refine ap_a rfl _ _ rfl _ rfl AA p.ac.length cA p.ac rfl rfl (CellsAt.below HA.out BX) n3 ?_
         intro A1 a1 X3 hc9 RA b9
         replace RA := (Row.of_new hc9 RA).less (show w.heap.size + 2 ≤ X2.heap.size from K2.lt)
         clear hc9
         have oRA := RA.one
         replace K1 := K1.below b9 K1.lt
         replace K2 := K2.below b9 K2.lt
         replace BX := Base.thenB BX b9
         replace RD := Row.below RD b9
         replace RS := Row.below RS b9
         clear b9
         refine hK.out _ _ trivial (fun hHeld => ?_)
         clear hK K
         try simp only [getElem_toArray, getElem_cons_zero, getElem_cons_succ, Act.put, setIfInBounds_toArray, set_cons_zero, set_cons_succ]
         refine wpAnyH_take (i := 8) (v := .pointer (some ⟨w.heap.size, 9, none⟩)) rfl (by kernel_rfl) (by kernel_rfl) (by kernel_rfl) (fun _ _ _ h => h) (Or.inl ⟨by first | rfl | go_simp, by intro w9 hSw; (try dsimp only at hSw); go_simp⟩) (by assumption) ?_
         simp only [getElem_toArray, getElem_cons_zero, getElem_cons_succ, Act.put, setIfInBounds_toArray, set_cons_zero, set_cons_succ]
         refine wpAnyH_ready (rs := [7]) (by kernel_rfl) (by simp) ?_
         refine AllReadyH.cons rfl (fun K hK => ?_) (AllReadyH.nil)
         refine ap_i rfl _ _ rfl _ rfl AI p.ids.length cI p.ids rfl rfl (CellsAt.below HI.out BX) n4 ?_
         intro I1 i1 X4 hc9 RI b9
         replace RI := (Row.of_new hc9 RI).less (show w.heap.size + 2 ≤ X3.heap.size from K2.lt)
         clear hc9
         have oRI := RI.one
         replace K1 := K1.below b9 K1.lt
         replace K2 := K2.below b9 K2.lt
         replace BX := Base.thenB BX b9
         replace RD := Row.below RD b9
         replace RS := Row.below RS b9
         replace RA := Row.below RA b9
         clear b9
         refine hK.out _ _ trivial (fun hHeld => ?_)
         clear hK K
         try simp only [getElem_toArray, getElem_cons_zero, getElem_cons_succ, Act.put, setIfInBounds_toArray, set_cons_zero, set_cons_succ]
         skip
      case' n1004 =>
       have c90 := K1.cell 10
       go_simp
       clear c90
       refine hK.out _ _ trivial (fun hHeld => ?_)
       clear hK K
       try simp only [getElem_toArray, getElem_cons_zero, getElem_cons_succ, Act.put, setIfInBounds_toArray, set_cons_zero, set_cons_succ]
       refine wpAnyH_ready (rs := [0, 2, 4]) (by kernel_rfl) (by simp) ?_
       refine AllReadyH.cons rfl (fun K hK => ?n1058) (AllReadyH.cons rfl (fun K hK => ?n1059) (AllReadyH.cons rfl (fun K hK => ?n1060) (AllReadyH.nil)))
       case' n1058 =>
        go_simp
        have b9 := (Below.refl X0.heap.size X0).alloc (Nat.le_refl _) (.cells #[] 24)
        generalize X0.alloc (.cells #[] 24) = X1 at *
        replace K1 := K1.below b9 K1.lt
        replace K2 := K2.below b9 K2.lt
        replace BX := Base.thenB BX b9
        replace RD := Row.below RD b9
        replace RS := Row.below RS b9
        clear b9
        refine hK.out _ _ trivial (fun hHeld => ?_)
        clear hK K
        try simp only [getElem_toArray, getElem_cons_zero, getElem_cons_succ, Act.put, setIfInBounds_toArray, set_cons_zero, set_cons_succ]
        refine wpAnyH_ready (rs := [2, 4]) (by kernel_rfl) (by simp) ?_
        refine AllReadyH.cons rfl (fun K hK => ?n1061) (AllReadyH.cons rfl (fun K hK => ?n1062) (AllReadyH.nil))
        case' n1061 =>
         have c90 := K1.cell 9
         go_simp
         clear c90
         refine hK.out _ _ trivial (fun hHeld => ?_)
         clear hK K
         try simp only [getElem_toArray, getElem_cons_zero, getElem_cons_succ, Act.put, setIfInBounds_toArray, set_cons_zero, set_cons_succ]
         refine wpAnyH_ready (rs := [3, 4]) (by kernel_rfl) (by simp) ?_
         refine AllReadyH.cons rfl (fun K hK => ?n1063) (AllReadyH.cons rfl (fun K hK => ?n1064) (AllReadyH.nil))
         case' n1063 =>
          refine ap_a rfl _ _ rfl _ rfl AA p.ac.length cA p.ac rfl rfl (CellsAt.below HA.out BX) n3 ?_
          intro A1 a1 X2 hc9 RA b9
          replace RA := (Row.of_new hc9 RA).less (show w.heap.size + 2 ≤ X1.heap.size from K2.lt)
          clear hc9
          have oRA := RA.one
          replace K1 := K1.below b9 K1.lt
          replace K2 := K2.below b9 K2.lt
          replace BX := Base.thenB BX b9
          replace RD := Row.below RD b9
          replace RS := Row.below RS b9
          clear b9
          refine hK.out _ _ trivial (fun hHeld => ?_)
          clear hK K
          try simp only [getElem_toArray, getElem_cons_zero, getElem_cons_succ, Act.put, setIfInBounds_toArray, set_cons_zero, set_cons_succ]
          refine wpAnyH_take (i := 8) (v := .pointer (some ⟨w.heap.size, 9, none⟩)) rfl (by kernel_rfl) (by kernel_rfl) (by kernel_rfl) (fun _ _ _ h => h) (Or.inl ⟨by first | rfl | go_simp, by intro w9 hSw; (try dsimp only at hSw); go_simp⟩) (by assumption) ?_
          simp only [getElem_toArray, getElem_cons_zero, getElem_cons_succ, Act.put, setIfInBounds_toArray, set_cons_zero, set_cons_succ]
          refine wpAnyH_ready (rs := [4]) (by kernel_rfl) (by simp) ?_
          refine AllReadyH.cons rfl (fun K hK => ?_) (AllReadyH.nil)
          go_simp
          have b9 := (Below.refl X2.heap.size X2).alloc (Nat.le_refl _) (.cells #[] 122)
          generalize X2.alloc (.cells #[] 122) = X3 at *
          replace K1 := K1.below b9 K1.lt
          replace K2 := K2.below b9 K2.lt
          replace BX := Base.thenB BX b9
          replace RD := Row.below RD b9
          replace RS := Row.below RS b9
          replace RA := Row.below RA b9
          clear b9
          refine hK.out _ _ trivial (fun hHeld => ?_)
          clear hK K
          try simp only [getElem_toArray, getElem_cons_zero, getElem_cons_succ, Act.put, setIfInBounds_toArray, set_cons_zero, set_cons_succ]
          refine wpAnyH_ready (rs := [7]) (by kernel_rfl) (by simp) ?_
          refine AllReadyH.cons rfl (fun K hK => ?_) (AllReadyH.nil)
          refine ap_i rfl _ _ rfl _ rfl AI p.ids.length cI p.ids rfl rfl (CellsAt.below HI.out BX) n4 ?_
          intro I1 i1 X4 hc9 RI b9
          replace RI := (Row.of_new hc9 RI).less (show w.heap.size + 2 ≤ X3.heap.size from K2.lt)
          clear hc9
          have oRI := RI.one
          replace K1 := K1.below b9 K1.lt
          replace K2 := K2.below b9 K2.lt
          replace BX := Base.thenB BX b9
          replace RD := Row.below RD b9
          replace RS := Row.below RS b9
          replace RA := Row.below RA b9
          clear b9
          refine hK.out _ _ trivial (fun hHeld => ?_)
          clear hK K
          try simp only [getElem_toArray, getElem_cons_zero, getElem_cons_succ, Act.put, setIfInBounds_toArray, set_cons_zero, set_cons_succ]
          skip
         case' n1064 =>
          go_simp
          have b9 := (Below.refl X1.heap.size X1).alloc (Nat.le_refl _) (.cells #[] 122)
          generalize X1.alloc (.cells #[] 122) = X2 at *
          replace K1 := K1.below b9 K1.lt
          replace K2 := K2.below b9 K2.lt
          replace BX := Base.thenB BX b9
          replace RD := Row.below RD b9
          replace RS := Row.below RS b9
          clear b9
          refine hK.out _ _ trivial (fun hHeld => ?_)
          clear hK K
          try simp only [getElem_toArray, getElem_cons_zero, getElem_cons_succ, Act.put, setIfInBounds_toArray, set_cons_zero, set_cons_succ]
          refine wpAnyH_ready (rs := [3]) (by kernel_rfl) (by simp) ?_
          refine AllReadyH.cons rfl (fun K hK => ?_) (AllReadyH.nil)
          refine ap_a rfl _ _ rfl _ rfl AA p.ac.length cA p.ac rfl rfl (CellsAt.below HA.out BX) n3 ?_
          intro A1 a1 X3 hc9 RA b9
          replace RA := (Row.of_new hc9 RA).less (show w.heap.size + 2 ≤ X2.heap.size from K2.lt)
          clear hc9
          have oRA := RA.one
          replace K1 := K1.below b9 K1.lt
          replace K2 := K2.below b9 K2.lt
          replace BX := Base.thenB BX b9
          replace RD := Row.below RD b9
          replace RS := Row.below RS b9
          clear b9
          refine hK.out _ _ trivial (fun hHeld => ?_)
          clear hK K
          try simp only [getElem_toArray, getElem_cons_zero, getElem_cons_succ, Act.put, setIfInBounds_toArray, set_cons_zero, set_cons_succ]
          refine wpAnyH_take (i := 8) (v := .pointer (some ⟨w.heap.size, 9, none⟩)) rfl (by kernel_rfl) (by kernel_rfl) (by kernel_rfl) (fun _ _ _ h => h) (Or.inl ⟨by first | rfl | go_simp, by intro w9 hSw; (try dsimp only at hSw); go_simp⟩) (by assumption) ?_
          simp only [getElem_toArray, getElem_cons_zero, getElem_cons_succ, Act.put, setIfInBounds_toArray, set_cons_zero, set_cons_succ]
          refine wpAnyH_ready (rs := [7]) (by kernel_rfl) (by simp) ?_
          refine AllReadyH.cons rfl (fun K hK => ?_) (AllReadyH.nil)
          refine ap_i rfl _ _ rfl _ rfl AI p.ids.length cI p.ids rfl rfl (CellsAt.below HI.out BX) n4 ?_
          intro I1 i1 X4 hc9 RI b9
          replace RI := (Row.of_new hc9 RI).less (show w.heap.size + 2 ≤ X3.heap.size from K2.lt)
          clear hc9
          have oRI := RI.one
          replace K1 := K1.below b9 K1.lt
          replace K2 := K2.below b9 K2.lt
          replace BX := Base.thenB BX b9
          replace RD := Row.below RD b9
          replace RS := Row.below RS b9
          replace RA := Row.below RA b9
          clear b9
          refine hK.out _ _ trivial (fun hHeld => ?_)
          clear hK K
          try simp only [getElem_toArray, getElem_cons_zero, getElem_cons_succ, Act.put, setIfInBounds_toArray, set_cons_zero, set_cons_succ]
          skip
        case' n1062 =>
         go_simp
         have b9 := (Below.refl X1.heap.size X1).alloc (Nat.le_refl _) (.cells #[] 122)
         generalize X1.alloc (.cells #[] 122) = X2 at *
         replace K1 := K1.below b9 K1.lt
         replace K2 := K2.below b9 K2.lt
         replace BX := Base.thenB BX b9
         replace RD := Row.below RD b9
         replace RS := Row.below RS b9
         clear b9
         refine hK.out _ _ trivial (fun hHeld => ?_)
         clear hK K
         try simp only [getElem_toArray, getElem_cons_zero, getElem_cons_succ, Act.put, setIfInBounds_toArray, set_cons_zero, set_cons_succ]
         refine wpAnyH_ready (rs := [2]) (by kernel_rfl) (by simp) ?_
         refine AllReadyH.cons rfl (fun K hK => ?_) (AllReadyH.nil)
         have c90 := K1.cell 9
         go_simp
         clear c90
         refine hK.out _ _ trivial (fun hHeld => ?_)
         clear hK K
         try simp only [getElem_toArray, getElem_cons_zero, getElem_cons_succ, Act.put, setIfInBounds_toArray, set_cons_zero, set_cons_succ]
         refine wpAnyH_ready (rs := [3]) (by kernel_rfl) (by simp) ?_
         refine AllReadyH.cons rfl (fun K hK => ?_) (AllReadyH.nil)
         refine ap_a rfl _ _ rfl _ rfl AA p.ac.length cA p.ac rfl rfl (CellsAt.below HA.out BX) n3 ?_
         intro A1 a1 X3 hc9 RA b9
         replace RA := (Row.of_new hc9 RA).less (show w.heap.size + 2 ≤ X2.heap.size from K2.lt)
         clear hc9
         have oRA := RA.one
         replace K1 := K1.below b9 K1.lt
         replace K2 := K2.below b9 K2.lt
         replace BX := Base.thenB BX b9
         replace RD := Row.below RD b9
         replace RS := Row.below RS b9
         clear b9
         refine hK.out _ _ trivial (fun hHeld => ?_)
         clear hK K
         try simp only [getElem_toArray, getElem_cons_zero, getElem_cons_succ, Act.put, setIfInBounds_toArray, set_cons_zero, set_cons_succ]
         refine wpAnyH_take (i := 8) (v := .pointer (some ⟨w.heap.size, 9, none⟩)) rfl (by kernel_rfl) (by kernel_rfl) (by kernel_rfl) (fun _ _ _ h => h) (Or.inl ⟨by first | rfl | go_simp, by intro w9 hSw; (try dsimp only at hSw); go_simp⟩) (by assumption) ?_
         simp only [getElem_toArray, getElem_cons_zero, getElem_cons_succ, Act.put, setIfInBounds_toArray, set_cons_zero, set_cons_succ]
         refine wpAnyH_ready (rs := [7]) (by kernel_rfl) (by simp) ?_
         refine AllReadyH.cons rfl (fun K hK => ?_) (AllReadyH.nil)
         refine ap_i rfl _ _ rfl _ rfl AI p.ids.length cI p.ids rfl rfl (CellsAt.below HI.out BX) n4 ?_
         intro I1 i1 X4 hc9 RI b9
         replace RI := (Row.of_new hc9 RI).less (show w.heap.size + 2 ≤ X3.heap.size from K2.lt)
         clear hc9
         have oRI := RI.one
         replace K1 := K1.below b9 K1.lt
         replace K2 := K2.below b9 K2.lt
         replace BX := Base.thenB BX b9
         replace RD := Row.below RD b9
         replace RS := Row.below RS b9
         replace RA := Row.below RA b9
         clear b9
         refine hK.out _ _ trivial (fun hHeld => ?_)
         clear hK K
         try simp only [getElem_toArray, getElem_cons_zero, getElem_cons_succ, Act.put, setIfInBounds_toArray, set_cons_zero, set_cons_succ]
         skip
       case' n1059 =>
        have c90 := K1.cell 9
        go_simp
        clear c90
        refine hK.out _ _ trivial (fun hHeld => ?_)
        clear hK K
        try simp only [getElem_toArray, getElem_cons_zero, getElem_cons_succ, Act.put, setIfInBounds_toArray, set_cons_zero, set_cons_succ]
        refine wpAnyH_ready (rs := [0, 4]) (by kernel_rfl) (by simp) ?_
        refine AllReadyH.cons rfl (fun K hK => ?n1065) (AllReadyH.cons rfl (fun K hK => ?n1066) (AllReadyH.nil))
        case' n1065 =>
         go_simp
         have b9 := (Below.refl X0.heap.size X0).alloc (Nat.le_refl _) (.cells #[] 24)
         generalize X0.alloc (.cells #[] 24) = X1 at *
         replace K1 := K1.below b9 K1.lt
         replace K2 := K2.below b9 K2.lt
         replace BX := Base.thenB BX b9
         replace RD := Row.below RD b9
         replace RS := Row.below RS b9
         clear b9
         refine hK.out _ _ trivial (fun hHeld => ?_)
         clear hK K
         try simp only [getElem_toArray, getElem_cons_zero, getElem_cons_succ, Act.put, setIfInBounds_toArray, set_cons_zero, set_cons_succ]
         refine wpAnyH_ready (rs := [3, 4]) (by kernel_rfl) (by simp) ?_
         refine AllReadyH.cons rfl (fun K hK => ?n1067) (AllReadyH.cons rfl (fun K hK => ?n1068) (AllReadyH.nil))
         case' n1067 =>
          refine ap_a rfl _ _ rfl _ rfl AA p.ac.length cA p.ac rfl rfl (CellsAt.below HA.out BX) n3 ?_
          intro A1 a1 X2 hc9 RA b9
          replace RA := (Row.of_new hc9 RA).less (show w.heap.size + 2 ≤ X1.heap.size from K2.lt)
          clear hc9
          have oRA := RA.one
          replace K1 := K1.below b9 K1.lt
          replace K2 := K2.below b9 K2.lt
          replace BX := Base.thenB BX b9
          replace RD := Row.below RD b9
          replace RS := Row.below RS b9
          clear b9
          refine hK.out _ _ trivial (fun hHeld => ?_)
          clear hK K
          try simp only [getElem_toArray, getElem_cons_zero, getElem_cons_succ, Act.put, setIfInBounds_toArray, set_cons_zero, set_cons_succ]
          refine wpAnyH_take (i := 8) (v := .pointer (some ⟨w.heap.size, 9, none⟩)) rfl (by kernel_rfl) (by kernel_rfl) (by kernel_rfl) (fun _ _ _ h => h) (Or.inl ⟨by first | rfl | go_simp, by intro w9 hSw; (try dsimp only at hSw); go_simp⟩) (by assumption) ?_
          simp only [getElem_toArray, getElem_cons_zero, getElem_cons_succ, Act.put, setIfInBounds_toArray, set_cons_zero, set_cons_succ]
          refine wpAnyH_ready (rs := [4]) (by kernel_rfl) (by simp) ?_
          refine AllReadyH.cons rfl (fun K hK => ?_) (AllReadyH.nil)
          go_simp
          have b9 := (Below.refl X2.heap.size X2).alloc (Nat.le_refl _) (.cells #[] 122)
          generalize X2.alloc (.cells #[] 122) = X3 at *
          replace K1 := K1.below b9 K1.lt
          replace K2 := K2.below b9 K2.lt
          replace BX := Base.thenB BX b9
          replace RD := Row.below RD b9
          replace RS := Row.below RS b9
          replace RA := Row.below RA b9
          clear b9
          refine hK.out _ _ trivial (fun hHeld => ?_)
          clear hK K
          try simp only [getElem_toArray, getElem_cons_zero, getElem_cons_succ, Act.put, setIfInBounds_toArray, set_cons_zero, set_cons_succ]
          refine wpAnyH_ready (rs := [7]) (by kernel_rfl) (by simp) ?_
          refine AllReadyH.cons rfl (fun K hK => ?_) (AllReadyH.nil)
          refine ap_i rfl _ _ rfl _ rfl AI p.ids.length cI p.ids rfl rfl (CellsAt.below HI.out BX) n4 ?_
          intro I1 i1 X4 hc9 RI b9
          replace RI := (Row.of_new hc9 RI).less (show w.heap.size + 2 ≤ X3.heap.size from K2.lt)
          clear hc9
          have oRI := RI.one
          replace K1 := K1.below b9 K1.lt
          replace K2 := K2.below b9 K2.lt
          replace BX := Base.thenB BX b9
          replace RD := Row.below RD b9
          replace RS := Row.below RS b9
          replace RA := Row.below RA b9
          clear b9
          refine hK.out _ _ trivial (fun hHeld => ?_)
          clear hK K
          try simp only [getElem_toArray, getElem_cons_zero, getElem_cons_succ, Act.put, setIfInBounds_toArray, set_cons_zero, set_cons_succ]
          skip
         case' n1068 =>
          go_simp
          have b9 := (Below.refl X1.heap.size X1).alloc (Nat.le_refl _) (.cells #[] 122)
          generalize X1.alloc (.cells #[] 122) = X2 at *
          replace K1 := K1.below b9 K1.lt
          replace K2 := K2.below b9 K2.lt
          replace BX := Base.thenB BX b9
          replace RD := Row.below RD b9
          replace RS := Row.below RS b9
          clear b9
          refine hK.out _ _ trivial (fun hHeld => ?_)
          clear hK K
          try simp only [getElem_toArray, getElem_cons_zero, getElem_cons_succ, Act.put, setIfInBounds_toArray, set_cons_zero, set_cons_succ]
          refine wpAnyH_ready (rs := [3]) (by kernel_rfl) (by simp) ?_
          refine AllReadyH.cons rfl (fun K hK => ?_) (AllReadyH.nil)
          refine ap_a rfl _ _ rfl _ rfl AA p.ac.length cA p.ac rfl rfl (CellsAt.below HA.out BX) n3 ?_
          intro A1 a1 X3 hc9 RA b9
          replace RA := (Row.of_new hc9 RA).less (show w.heap.size + 2 ≤ X2.heap.size from K2.lt)
          clear hc9
          have oRA := RA.one
          replace K1 := K1.below b9 K1.lt
          replace K2 := K2.below b9 K2.lt
          replace BX := Base.thenB BX b9
          replace RD := Row.below RD b9
          replace RS := Row.below RS b9
          clear b9
          refine hK.out _ _ trivial (fun hHeld => ?_)
          clear hK K
          try simp only [getElem_toArray, getElem_cons_zero, getElem_cons_succ, Act.put, setIfInBounds_toArray, set_cons_zero, set_cons_succ]
          refine wpAnyH_take (i := 8) (v := .pointer (some ⟨w.heap.size, 9, none⟩)) rfl (by kernel_rfl) (by kernel_rfl) (by kernel_rfl) (fun _ _ _ h => h) (Or.inl ⟨by first | rfl | go_simp, by intro w9 hSw; (try dsimp only at hSw); go_simp⟩) (by assumption) ?_
          simp only [getElem_toArray, getElem_cons_zero, getElem_cons_succ, Act.put, setIfInBounds_toArray, set_cons_zero, set_cons_succ]
          refine wpAnyH_ready (rs := [7]) (by kernel_rfl) (by simp) ?_
          refine AllReadyH.cons rfl (fun K hK => ?_) (AllReadyH.nil)
          refine ap_i rfl _ _ rfl _ rfl AI p.ids.length cI p.ids rfl rfl (CellsAt.below HI.out BX) n4 ?_
          intro I1 i1 X4 hc9 RI b9
          replace RI := (Row.of_new hc9 RI).less (show w.heap.size + 2 ≤ X3.heap.size from K2.lt)
          clear hc9
          have oRI := RI.one
          replace K1 := K1.below b9 K1.lt
          replace K2 := K2.below b9 K2.lt
          replace BX := Base.thenB BX b9
          replace RD := Row.below RD b9
          replace RS := Row.below RS b9
          replace RA := Row.below RA b9
          clear b9
          refine hK.out _ _ trivial (fun hHeld => ?_)
          clear hK K
          try simp only [getElem_toArray, getElem_cons_zero, getElem_cons_succ, Act.put, setIfInBounds_toArray, set_cons_zero, set_cons_succ]
          skip
        case' n1066 =>
         go_simp
         have b9 := (Below.refl X0.heap.size X0).alloc (Nat.le_refl _) (.cells #[] 122)
         generalize X0.alloc (.cells #[] 122) = X1 at *
         replace K1 := K1.below b9 K1.lt
         replace K2 := K2.below b9 K2.lt
         replace BX := Base.thenB BX b9
         replace RD := Row.below RD b9
         replace RS := Row.below RS b9
         clear b9
         refine hK.out _ _ trivial (fun hHeld => ?_)
         clear hK K
         try simp only [getElem_toArray, getElem_cons_zero, getElem_cons_succ, Act.put, setIfInBounds_toArray, set_cons_zero, set_cons_succ]
         refine wpAnyH_ready (rs := [0]) (by kernel_rfl) (by simp) ?_
         refine AllReadyH.cons rfl (fun K hK => ?_) (AllReadyH.nil)
         go_simp
         have b9 := (Below.refl X1.heap.size X1).alloc (Nat.le_refl _) (.cells #[] 24)
         generalize X1.alloc (.cells #[] 24) = X2 at *
         replace K1 := K1.below b9 K1.lt
         replace K2 := K2.below b9 K2.lt
         replace BX := Base.thenB BX b9
         replace RD := Row.below RD b9
         replace RS := Row.below RS b9
         clear b9
         refine hK.out _ _ trivial (fun hHeld => ?_)
         clear hK K
         try simp only [getElem_toArray, getElem_cons_zero, getElem_cons_succ, Act.put, setIfInBounds_toArray, set_cons_zero, set_cons_succ]
         refine wpAnyH_ready (rs := [3]) (by kernel_rfl) (by simp) ?_
         refine AllReadyH.cons rfl (fun K hK => ?_) (AllReadyH.nil)
         refine ap_a rfl _ _ rfl _ rfl AA p.ac.length cA p.ac rfl rfl (CellsAt.below HA.out BX) n3 ?_
         intro A1 a1 X3 hc9 RA b9
         replace RA := (Row.of_new hc9 RA).less (show w.heap.size + 2 ≤ X2.heap.size from K2.lt)
         clear hc9
         have oRA := RA.one
         replace K1 := K1.below b9 K1.lt
         replace K2 := K2.below b9 K2.lt
         replace BX := Base.thenB BX b9
         replace RD := Row.below RD b9
         replace RS := Row.below RS b9
         clear b9
         refine hK.out _ _ trivial (fun hHeld => ?_)
         clear hK K
         try simp only [getElem_toArray, getElem_cons_zero, getElem_cons_succ, Act.put, setIfInBounds_toArray, set_cons_zero, set_cons_succ]
         refine wpAnyH_take (i := 8) (v := .pointer (some ⟨w.heap.size, 9, none⟩)) rfl (by kernel_rfl) (by kernel_rfl) (by kernel_rfl) (fun _ _ _ h => h) (Or.inl ⟨by first | rfl | go_simp, by intro w9 hSw; (try dsimp only at hSw); go_simp⟩) (by assumption) ?_
         simp only [getElem_toArray, getElem_cons_zero, getElem_cons_succ, Act.put, setIfInBounds_toArray, set_cons_zero, set_cons_succ]
         refine wpAnyH_ready (rs := [7]) (by kernel_rfl) (by simp) ?_
         refine AllReadyH.cons rfl (fun K hK => ?_) (AllReadyH.nil)
         refine ap_i rfl _ _ rfl _ rfl AI p.ids.length cI p.ids rfl rfl (CellsAt.below HI.out BX) n4 ?_
         intro I1 i1 X4 hc9 RI b9
         replace RI := (Row.of_new hc9 RI).less (show w.heap.size + 2 ≤ X3.heap.size from K2.lt)
         clear hc9
         have oRI := RI.one
         replace K1 := K1.below b9 K1.lt
         replace K2 := K2.below b9 K2.lt
         replace BX := Base.thenB BX b9
         replace RD := Row.below RD b9
         replace RS := Row.below RS b9
         replace RA := Row.below RA b9
         clear b9
         refine hK.out _ _ trivial (fun hHeld => ?_)
         clear hK K
         try simp only [getElem_toArray, getElem_cons_zero, getElem_cons_succ, Act.put, setIfInBounds_toArray, set_cons_zero, set_cons_succ]
         skip
       case' n1060 =>
        go_simp
        have b9 := (Below.refl X0.heap.size X0).alloc (Nat.le_refl _) (.cells #[] 122)
        generalize X0.alloc (.cells #[] 122) = X1 at *
        replace K1 := K1.below b9 K1.lt
        replace K2 := K2.below b9 K2.lt
        replace BX := Base.thenB BX b9
        replace RD := Row.below RD b9
        replace RS := Row.below RS b9
        clear b9
        refine hK.out _ _ trivial (fun hHeld => ?_)
        clear hK K
        try simp only [getElem_toArray, getElem_cons_zero, getElem_cons_succ, Act.put, setIfInBounds_toArray, set_cons_zero, set_cons_succ]
        refine wpAnyH_ready (rs := [0, 2]) (by kernel_rfl) (by simp) ?_
        refine AllReadyH.cons rfl (fun K hK => ?n1069) (AllReadyH.cons rfl (fun K hK => ?n1070) (AllReadyH.nil))
        case' n1069 =>
         go_simp
         have b9 := (Below.refl X1.heap.size X1).alloc (Nat.le_refl _) (.cells #[] 24)
         generalize X1.alloc (.cells #[] 24) = X2 at *
         replace K1 := K1.below b9 K1.lt
         replace K2 := K2.below b9 K2.lt
         replace BX := Base.thenB BX b9
         replace RD := Row.below RD b9
         replace RS := Row.below RS b9
         clear b9
         refine hK.out _ _ trivial (fun hHeld => ?_)
         clear hK K
         try simp only [getElem_toArray, getElem_cons_zero, getElem_cons_succ, Act.put, setIfInBounds_toArray, set_cons_zero, set_cons_succ]
         refine wpAnyH_ready (rs := [2]) (by kernel_rfl) (by simp) ?_
         refine AllReadyH.cons rfl (fun K hK => ?_) (AllReadyH.nil)
         have c90 := K1.cell 9
         go_simp
         clear c90
         refine hK.out _ _ trivial (fun hHeld => ?_)
         clear hK K
         try simp only [getElem_toArray, getElem_cons_zero, getElem_cons_succ, Act.put, setIfInBounds_toArray, set_cons_zero, set_cons_succ]
         refine wpAnyH_ready (rs := [3]) (by kernel_rfl) (by simp) ?_
         refine AllReadyH.cons rfl (fun K hK => ?_) (AllReadyH.nil)
         refine ap_a rfl _ _ rfl _ rfl AA p.ac.length cA p.ac rfl rfl (CellsAt.below HA.out BX) n3 ?_
         intro A1 a1 X3 hc9 RA b9
         replace RA := (Row.of_new hc9 RA).less (show w.heap.size + 2 ≤ X2.heap.size from K2.lt)
         clear hc9
         have oRA := RA.one
         replace K1 := K1.below b9 K1.lt
         replace K2 := K2.below b9 K2.lt
         replace BX := Base.thenB BX b9
         replace RD := Row.below RD b9
         replace RS := Row.below RS b9
         clear b9
         refine hK.out _ _ trivial (fun hHeld => ?_)
         clear hK K
         try simp only [getElem_toArray, getElem_cons_zero, getElem_cons_succ, Act.put, setIfInBounds_toArray, set_cons_zero, set_cons_succ]
         refine wpAnyH_take (i := 8) (v := .pointer (some ⟨w.heap.size, 9, none⟩)) rfl (by kernel_rfl) (by kernel_rfl) (by kernel_rfl) (fun _ _ _ h => h) (Or.inl ⟨by first | rfl | go_simp, by intro w9 hSw; (try dsimp only at hSw); go_simp⟩) (by assumption) ?_
         simp only [getElem_toArray, getElem_cons_zero, getElem_cons_succ, Act.put, setIfInBounds_toArray, set_cons_zero, set_cons_succ]
         refine wpAnyH_ready (rs := [7]) (by kernel_rfl) (by simp) ?_
         refine AllReadyH.cons rfl (fun K hK => ?_) (AllReadyH.nil)
         refine ap_i rfl _ _ rfl _ rfl AI p.ids.length cI p.ids rfl rfl (CellsAt.below HI.out BX) n4 ?_
         intro I1 i1 X4 hc9 RI b9
         replace RI := (Row.of_new hc9 RI).less (show w.heap.size + 2 ≤ X3.heap.size from K2.lt)
         clear hc9
         have oRI := RI.one
         replace K1 := K1.below b9 K1.lt
         replace K2 := K2.below b9 K2.lt
         replace BX := Base.thenB BX b9
         replace RD := Row.below RD b9
         replace RS := Row.below RS b9
         replace RA := Row.below RA b9
         clear b9
         refine hK.out _ _ trivial (fun hHeld => ?_)
         clear hK K
         try simp only [getElem_toArray, getElem_cons_zero, getElem_cons_succ, Act.put, setIfInBounds_toArray, set_cons_zero, set_cons_succ]
         skip
        case' n1070 =>
         have c90 := K1.cell 9
         go_simp
         clear c90
         refine hK.out _ _ trivial (fun hHeld => ?_)
         clear hK K
         try simp only [getElem_toArray, getElem_cons_zero, getElem_cons_succ, Act.put, setIfInBounds_toArray, set_cons_zero, set_cons_succ]
         refine wpAnyH_ready (rs := [0]) (by kernel_rfl) (by simp) ?_
         refine AllReadyH.cons rfl (fun K hK => ?_) (AllReadyH.nil)
         go_simp
         have b9 := (Below.refl X1.heap.size X1).alloc (Nat.le_refl _) (.cells #[] 24)
         generalize X1.alloc (.cells #[] 24) = X2 at *
         replace K1 := K1.below b9 K1.lt
         replace K2 := K2.below b9 K2.lt
         replace BX := Base.thenB BX b9
         replace RD := Row.below RD b9
         replace RS := Row.below RS b9
         clear b9
         refine hK.out _ _ trivial (fun hHeld => ?_)
         clear hK K
         try simp only [getElem_toArray, getElem_cons_zero, getElem_cons_succ, Act.put, setIfInBounds_toArray, set_cons_zero, set_cons_succ]
         refine wpAnyH_ready (rs := [3]) (by kernel_rfl) (by simp) ?_
         refine AllReadyH.cons rfl (fun K hK => ?_) (AllReadyH.nil)
         refine ap_a rfl _ _ rfl _ rfl AA p.ac.length cA p.ac rfl rfl (CellsAt.below HA.out BX) n3 ?_
         intro A1 a1 X3 hc9 RA b9
         replace RA := (Row.of_new hc9 RA).less (show w.heap.size + 2 ≤ X2.heap.size from K2.lt)
         clear hc9
         have oRA := RA.one
         replace K1 := K1.below b9 K1.lt
         replace K2 := K2.below b9 K2.lt
         replace BX := Base.thenB BX b9
         replace RD := Row.below RD b9
         replace RS := Row.below RS b9
         clear b9
         refine hK.out _ _ trivial (fun hHeld => ?_)
         clear hK K
         try simp only [getElem_toArray, getElem_cons_zero, getElem_cons_succ, Act.put, setIfInBounds_toArray, set_cons_zero, set_cons_succ]
         refine wpAnyH_take (i := 8) (v := .pointer (some ⟨w.heap.size, 9, none⟩)) rfl (by kernel_rfl) (by kernel_rfl) (by kernel_rfl) (fun _ _ _ h => h) (Or.inl ⟨by first | rfl | go_simp, by intro w9 hSw; (try dsimp only at hSw); go_simp⟩) (by assumption) ?_
         simp only [getElem_toArray, getElem_cons_zero, getElem_cons_succ, Act.put, setIfInBounds_toArray, set_cons_zero, set_cons_succ]
         refine wpAnyH_ready (rs := [7]) (by kernel_rfl) (by simp) ?_
         refine AllReadyH.cons rfl (fun K hK => ?_) (AllReadyH.nil)
         refine ap_i rfl _ _ rfl _ rfl AI p.ids.length cI p.ids rfl rfl (CellsAt.below HI.out BX) n4 ?_
         intro I1 i1 X4 hc9 RI b9
         replace RI := (Row.of_new hc9 RI).less (show w.heap.size + 2 ≤ X3.heap.size from K2.lt)
         clear hc9
         have oRI := RI.one
         replace K1 := K1.below b9 K1.lt
         replace K2 := K2.below b9 K2.lt
         replace BX := Base.thenB BX b9
         replace RD := Row.below RD b9
         replace RS := Row.below RS b9
         replace RA := Row.below RA b9
         clear b9
         refine hK.out _ _ trivial (fun hHeld => ?_)
         clear hK K
         try simp only [getElem_toArray, getElem_cons_zero, getElem_cons_succ, Act.put, setIfInBounds_toArray, set_cons_zero, set_cons_succ]
         skip
      all_goals
       refine wpAnyH_ready (rs := [9]) (by kernel_rfl) (by simp) ?_
       refine AllReadyH.cons rfl (fun K hK => ?_) (AllReadyH.nil)
       refine Av.step_store_cell rfl _ _ _ rfl (w.heap.size) 9 (.slice A1 p.ac.length a1) rfl rfl 29 _ K1 (by show 9 < 12; decide) (by kernel_rfl) rfl ?_
       replace K1 : Blk (X4.setCell ⟨w.heap.size, 9, none⟩ (.slice A1 p.ac.length a1)) (w.heap.size) 29 #[.int .i64 p.k, .int .i64 p.it, .int .i64 p.ok, .int .u64 p.ob, .int .i64 p.tk, .int .u64 p.tb, .slice D1 p.ds.length d1, .slice S1 p.sc.length s1, .int .i64 p.po, .slice A1 p.ac.length a1, .slice AI p.ids.length cI, .int .u64 p.sd] := (Av.bset K1 9 (.slice A1 p.ac.length a1) rfl)
       replace K2 : Blk (X4.setCell ⟨w.heap.size, 9, none⟩ (.slice A1 p.ac.length a1)) (w.heap.size + 1) 29 #[.int .i64 0, .int .i64 0, .int .i64 0, .int .u64 0, .int .i64 0, .int .u64 0, .slice none 0 0, .slice none 0 0, .int .i64 0, .slice none 0 0, .slice none 0 0, .int .u64 0] := Av.bother (K2) (by omega) _
       replace BX : Below w.heap.size w (X4.setCell ⟨w.heap.size, 9, none⟩ (.slice A1 p.ac.length a1)) := (BX.setCell (p := ⟨w.heap.size, 9, none⟩) (by simp only; omega) _)
       replace RD := (Row.far (i := 9) (x := .slice A1 p.ac.length a1) RD (show w.heap.size < w.heap.size + 2 by omega))
       replace RS := (Row.far (i := 9) (x := .slice A1 p.ac.length a1) RS (show w.heap.size < w.heap.size + 2 by omega))
       replace RA := (Row.far (i := 9) (x := .slice A1 p.ac.length a1) RA (show w.heap.size < w.heap.size + 2 by omega))
       replace RI := (Row.far (i := 9) (x := .slice A1 p.ac.length a1) RI (show w.heap.size < w.heap.size + 2 by omega))
       generalize (X4.setCell ⟨w.heap.size, 9, none⟩ (.slice A1 p.ac.length a1)) = X121 at *
       refine hK.out _ _ trivial (fun hHeld => ?_)
       clear hK K
       try simp only [getElem_toArray, getElem_cons_zero, getElem_cons_succ, Act.put, setIfInBounds_toArray, set_cons_zero, set_cons_succ]
       refine wpAnyH_take (i := 10) (v := .pointer (some ⟨w.heap.size, 10, none⟩)) rfl (by kernel_rfl) (by kernel_rfl) (by kernel_rfl) (fun _ _ _ h => h) (Or.inl ⟨by first | rfl | go_simp, by intro w9 hSw; (try dsimp only at hSw); go_simp⟩) (by assumption) ?_
       simp only [getElem_toArray, getElem_cons_zero, getElem_cons_succ, Act.put, setIfInBounds_toArray, set_cons_zero, set_cons_succ]
       refine wpAnyH_ready (rs := [11]) (by kernel_rfl) (by simp) ?_
       refine AllReadyH.cons rfl (fun K hK => ?_) (AllReadyH.nil)
       refine Av.step_store_cell rfl _ _ _ rfl (w.heap.size) 10 (.slice I1 p.ids.length i1) rfl rfl 29 _ K1 (by show 10 < 12; decide) (by kernel_rfl) rfl ?_
       replace K1 : Blk (X121.setCell ⟨w.heap.size, 10, none⟩ (.slice I1 p.ids.length i1)) (w.heap.size) 29 #[.int .i64 p.k, .int .i64 p.it, .int .i64 p.ok, .int .u64 p.ob, .int .i64 p.tk, .int .u64 p.tb, .slice D1 p.ds.length d1, .slice S1 p.sc.length s1, .int .i64 p.po, .slice A1 p.ac.length a1, .slice I1 p.ids.length i1, .int .u64 p.sd] := (Av.bset K1 10 (.slice I1 p.ids.length i1) rfl)
       replace K2 : Blk (X121.setCell ⟨w.heap.size, 10, none⟩ (.slice I1 p.ids.length i1)) (w.heap.size + 1) 29 #[.int .i64 0, .int .i64 0, .int .i64 0, .int .u64 0, .int .i64 0, .int .u64 0, .slice none 0 0, .slice none 0 0, .int .i64 0, .slice none 0 0, .slice none 0 0, .int .u64 0] := Av.bother (K2) (by omega) _
       replace BX : Below w.heap.size w (X121.setCell ⟨w.heap.size, 10, none⟩ (.slice I1 p.ids.length i1)) := (BX.setCell (p := ⟨w.heap.size, 10, none⟩) (by simp only; omega) _)
       replace RD := (Row.far (i := 10) (x := .slice I1 p.ids.length i1) RD (show w.heap.size < w.heap.size + 2 by omega))
       replace RS := (Row.far (i := 10) (x := .slice I1 p.ids.length i1) RS (show w.heap.size < w.heap.size + 2 by omega))
       replace RA := (Row.far (i := 10) (x := .slice I1 p.ids.length i1) RA (show w.heap.size < w.heap.size + 2 by omega))
       replace RI := (Row.far (i := 10) (x := .slice I1 p.ids.length i1) RI (show w.heap.size < w.heap.size + 2 by omega))
       generalize (X121.setCell ⟨w.heap.size, 10, none⟩ (.slice I1 p.ids.length i1)) = X122 at *
       refine hK.out _ _ trivial (fun hHeld => ?_)
       clear hK K
       try simp only [getElem_toArray, getElem_cons_zero, getElem_cons_succ, Act.put, setIfInBounds_toArray, set_cons_zero, set_cons_succ]
       refine wpAnyH_done (by kernel_rfl) ?_ _
       go_wp2_with fail
       go_meet
       exact ⟨A1, a1, I1, i1, K1, K2, RD, RS, RA, RI, BX⟩
    case rest =>
      clear RD RS K1 K2 BX
      obtain ⟨A1, a1, I1, i1, K1, K2, RD, RS, RA, RI, BX⟩ := hcut
      have HZ : Has wc (w.heap.size + 2) p (.slice D1 p.ds.length d1) (.slice S1 p.sc.length s1) (.slice A1 p.ac.length a1) (.slice I1 p.ids.length i1) := ⟨RD, RS, RA, RI⟩
      clear RD RS RA RI
      have H1 : (#[.int .i64 p.k, .int .i64 p.it, .int .i64 p.ok, .int .u64 p.ob, .int .i64 p.tk, .int .u64 p.tb, .slice D1 p.ds.length d1, .slice S1 p.sc.length s1, .int .i64 p.po, .slice A1 p.ac.length a1, .slice I1 p.ids.length i1, .int .u64 p.sd] : Array Value).all (·.oneCell') = true := by rw [← Array.all_toList]; rfl
      generalize wc = W2 at *
      go_wp2_with (first
        | (refine wpList_store_row rfl 29 (.tmp 2) _ rfl (w.heap.size + 1) #[.int .i64 p.k, .int .i64 p.it, .int .i64 p.ok, .int .u64 p.ob, .int .i64 p.tk, .int .u64 p.tb, .slice D1 p.ds.length d1, .slice S1 p.sc.length s1, .int .i64 p.po, .slice A1 p.ac.length a1, .slice I1 p.ids.length i1, .int .u64 p.sd] rfl rfl 29 _ K2 (by kernel_rfl) rfl H1 ?_)
        | (refine wpList_load_row rfl 29 (.tmp 1) rfl w.heap.size rfl 29 _ (0, 0) _ K1 Tryd.underlying29 rfl (by kernel_rfl) ?_))
      have KR : Blk (W2.setRow (w.heap.size + 1) #[.int .i64 p.k, .int .i64 p.it, .int .i64 p.ok, .int .u64 p.ob, .int .i64 p.tk, .int .u64 p.tb, .slice D1 p.ds.length d1, .slice S1 p.sc.length s1, .int .i64 p.po, .slice A1 p.ac.length a1, .slice I1 p.ids.length i1, .int .u64 p.sd]) (w.heap.size + 1) 29 #[.int .i64 p.k, .int .i64 p.it, .int .i64 p.ok, .int .u64 p.ob, .int .i64 p.tk, .int .u64 p.tb, .slice D1 p.ds.length d1, .slice S1 p.sc.length s1, .int .i64 p.po, .slice A1 p.ac.length a1, .slice I1 p.ids.length i1, .int .u64 p.sd] := bset_row K2
      have BE := below_setRow BX (Nat.le_succ _) #[.int .i64 p.k, .int .i64 p.it, .int .i64 p.ok, .int .u64 p.ob, .int .i64 p.tk, .int .u64 p.tb, .slice D1 p.ds.length d1, .slice S1 p.sc.length s1, .int .i64 p.po, .slice A1 p.ac.length a1, .slice I1 p.ids.length i1, .int .u64 p.sd]
      have HE := HZ.farR (g := w.heap.size + 1) (cs := #[.int .i64 p.k, .int .i64 p.it, .int .i64 p.ok, .int .u64 p.ob, .int .i64 p.tk, .int .u64 p.tb, .slice D1 p.ds.length d1, .slice S1 p.sc.length s1, .int .i64 p.po, .slice A1 p.ac.length a1, .slice I1 p.ids.length i1, .int .u64 p.sd]) (by omega)
      generalize W2.setRow (w.heap.size + 1) #[.int .i64 p.k, .int .i64 p.it, .int .i64 p.ok, .int .u64 p.ob, .int .i64 p.tk, .int .u64 p.tb, .slice D1 p.ds.length d1, .slice S1 p.sc.length s1, .int .i64 p.po, .slice A1 p.ac.length a1, .slice I1 p.ids.length i1, .int .u64 p.sd] = Y at *
      refine bodyPost_ret (v := .agg #[.int .i64 p.k, .int .i64 p.it, .int .i64 p.ok, .int .u64 p.ob, .int .i64 p.tk, .int .u64 p.tb, .slice D1 p.ds.length d1, .slice S1 p.sc.length s1, .int .i64 p.po, .slice A1 p.ac.length a1, .slice I1 p.ids.length i1, .int .u64 p.sd]) ?_ rfl ⟨_, _, _, _, rfl, HE.less (by omega), BE⟩
      have HL := run_loadVar_row (P := Tryd.prog) Y (w.heap.size + 1) 29 29 #[.int .i64 p.k, .int .i64 p.it, .int .i64 p.ok, .int .u64 p.ob, .int .i64 p.tk, .int .u64 p.tb, .slice D1 p.ds.length d1, .slice S1 p.sc.length s1, .int .i64 p.po, .slice A1 p.ac.length a1, .slice I1 p.ids.length i1, .int .u64 p.sd] (0, 0) _ KR Tryd.underlying29 rfl (by kernel_rfl)
      generalize (#[.int .i64 p.k, .int .i64 p.it, .int .i64 p.ok, .int .u64 p.ob, .int .i64 p.tk, .int .u64 p.tb, .slice D1 p.ds.length d1, .slice S1 p.sc.length s1, .int .i64 p.po, .slice A1 p.ac.length a1, .slice I1 p.ids.length i1, .int .u64 p.sd] : Array Value) = CS at *
      simp [results, show (Tryd.f15).results = #[.cell 2 29] from rfl, asAddr, HL, Act.put]
end Go.Proofs.YtcbliliinmfnjaaDoor.Av
