/- The form of parameters: Encode, the layer's and the document's. -/
import Derived.Test.YtcjlliilfecmnaaDoorKM5
import Derived.Test.YtcjlliilfecmnaaDoorKM3
set_option linter.unusedVariables false
set_option linter.unusedSimpArgs false
namespace Go.Proofs.YtcjlliilfecmnaaDoor.Cn
open Go.RowKit Mem Clk Rw

abbrev parC (a b s o i l t : Int) (m : Nat) (h d g : Int) : Obj := .cells #[.int .u32 a, .int .u32 b, .int .i64 s, .int .i64 o, .int .i64 i, .int .i64 l, .int .i64 t, .int .u64 (m : Int), .int .i64 h, .int .i64 d, .int .i64 g] 31
theorem gives_none {w w' : World} {e : Ending} {x : Int} {r : List Int × Int} (hr : r = ([], x)) (he : e = .returned (.tuple #[.slice none 0 0, .int .i64 x])) (hb : Below w.heap.size w w') : Oct.Gives w w' e r := by
  subst hr
  exact ⟨none, 0, he, World.ownsRow_nil _ _ _ _, hb⟩
set_option maxRecDepth 100000 in
set_option maxHeartbeats 1000000 in
theorem encode_any (a b s o i l t h d g : Int) (m : Nat) (w : World) (ha : 0 ≤ a ∧ a ≤ 4294967295) (hb : 0 ≤ b ∧ b ≤ 4294967295) (hm : m ≤ 18446744073709551615) :
    Calls Tryd.prog 34 #[.agg (par a b s o i l t m h d g)] w fun e w' => Oct.Gives w w' e (encR a b s o i l t m h d g) := by
  have F0 : Mem.Blk (w.alloc (parC a b s o i l t m h d g)) w.heap.size 31 _ := Blk.fresh w _ _
  have hbel : Below w.heap.size w (w.alloc (parC a b s o i l t m h d g)) := (Below.refl _ w).alloc (Nat.le_refl _) _
  have HC := Lib.hid fun w => check_any a b s o i l t h d g m w hm
  have HG := Lib.hid (okP_good (s := s) (o := o) (i := i) (l := l) (t := t) (m := m) (h := h) (d := d) (g := g) ha hb.1)
  have HE := Lib.hid (enc_good (s := s) (o := o) (i := i) (l := l) (t := t) (m := m) (h := h) (d := d) (g := g) ha hb.1)
  have HN := Lib.hid (enc_bad (a := a) (b := b) (s := s) (o := o) (i := i) (l := l) (t := t) (m := m) (h := h) (d := d) (g := g))
  generalize okP a b s o i l t m h d g = R at *
  clear ha hb hm
  by_cases hR : R = 0
  · obtain ⟨ha, hb, ⟨u1, u2, u3, u4, u5, u6, u7, u8, u9, u10⟩, hm, hh, hd, hg⟩ := HG.out hR
    have hE := Lib.hid (HE.out hR)
    have HBD : Hid (∀ x ∈ nmL a b s o i l t m h d g, 0 ≤ x ∧ x ≤ 9223372036854775807) := Lib.hid (by
      intro x hx
      simp only [nmL, List.mem_cons, List.not_mem_nil, or_false] at hx
      rcases hx with rfl | rfl | rfl | rfl | rfl | rfl | rfl | rfl | rfl | rfl | rfl <;> omega)
    have e1 := i64_in a (by omega)
    have e2 := i64_in b (by omega)
    have e3 := i64_in (m : Int) (by omega)
    clear u1 u2 u3 u4 u5 u6 u7 u8 u9 u10 hm hh hd hg ha hb HG HE HN
    subst hR
    go_enter Tryd.func34, Tryd.ntmps34
    go_wp2_with fail
    generalize w.alloc (parC a b s o i l t m h d g) = W at *
    obtain ⟨c0, c1, c2, c3, c4, c5, c6, c7, c8, c9, c10⟩ := elv_of F0
    have hg0 := F0.lt
    go_wp2_with (first
      | (go_at_call 48; refine (HC.out _).mono ?_; rintro e w1 ⟨rfl, b1⟩; have B1 := thenB hbel b1; have F1 := F0.below b1 hg0; clear c0 c1 c2 c3 c4 c5 c6 c7 c8 c9 c10 F0 hg0; obtain ⟨c0, c1, c2, c3, c4, c5, c6, c7, c8, c9, c10⟩ := elv_of F1; obtain ⟨k0, k1, k2, k3, k4, k5, k6, k7, k8, k9, k10⟩ := elv_of (F1.alloc (updC s o i l t)))
      | (go_at_call 53; refine (form_any _ (nmL a b s o i l t m h d g) _ rfl HBD.out (Base.litg .i64 _ (nmL a b s o i l t m h d g) _ _ _ (by simp) rfl)).mono ?_; rintro e w3 ⟨A, c, rfl, own3, b3⟩))
    go_ret2
    have b4 := Base.alloc2 _ _ _ b3
    rw [← hE.out]
    exact ⟨A, c, rfl, own_base own3 (by have := B1.size; simp; omega), thenB B1 b4⟩
  · have hE := Lib.hid (HN.out hR)
    have q0 : (R != 0) = true := by simp [hR]
    clear HG HE HN hR
    go_enter Tryd.func34, Tryd.ntmps34
    go_wp2_with fail
    generalize w.alloc (parC a b s o i l t m h d g) = W at *
    obtain ⟨c0, c1, c2, c3, c4, c5, c6, c7, c8, c9, c10⟩ := elv_of F0
    clear F0
    go_wp2_with (go_at_call 48; refine (HC.out _).mono ?_; rintro e w1 ⟨rfl, b1⟩; have B1 := thenB hbel b1)
    go_ret2
    exact gives_none hE.out rfl B1
set_option maxRecDepth 100000 in
set_option maxHeartbeats 1000000 in
theorem rfields_any (a b s o i l t h d g : Int) (m : Nat) (w : World) (G : Good a b s o i l t m h d g) :
    Calls Tryd.prog 57 #[.agg (par a b s o i l t m h d g)] w fun e w' => (∃ k : Nat, e = .returned (.slice (some ⟨k, 0, none⟩) 11 11) ∧ Oct.FldsAt w' w'.heap.size (some ⟨k, 0, none⟩) (flL a b s o i l t m h d g)) ∧ Below w.heap.size w w' := by
  have F0 : Mem.Blk (w.alloc (parC a b s o i l t m h d g)) w.heap.size 31 _ := Blk.fresh w _ _
  have hbel : Below w.heap.size w (w.alloc (parC a b s o i l t m h d g)) := (Below.refl _ w).alloc (Nat.le_refl _) _
  have hsz : (w.alloc (parC a b s o i l t m h d g)).heap.size = w.heap.size + 1 := by simp
  obtain ⟨ha, hb, ⟨u1, u2, u3, u4, u5, u6, u7, u8, u9, u10⟩, hm, hh, hd, hg⟩ := G
  have e0 : IntKind.u64.wrap a = a := by rw [Ser.wrap_u64]; omega
  have e1 : IntKind.u64.wrap b = b := by rw [Ser.wrap_u64]; omega
  have e2 : IntKind.u64.wrap s = s := by rw [Ser.wrap_u64]; omega
  have e3 : IntKind.u64.wrap o = o := by rw [Ser.wrap_u64]; omega
  have e4 : IntKind.u64.wrap i = i := by rw [Ser.wrap_u64]; omega
  have e5 : IntKind.u64.wrap l = l := by rw [Ser.wrap_u64]; omega
  have e6 : IntKind.u64.wrap t = t := by rw [Ser.wrap_u64]; omega
  have e7 : IntKind.u64.wrap h = h := by rw [Ser.wrap_u64]; omega
  have e8 : IntKind.u64.wrap d = d := by rw [Ser.wrap_u64]; omega
  have e9 : IntKind.u64.wrap g = g := by rw [Ser.wrap_u64]; omega
  clear u1 u2 u3 u4 u5 u6 u7 u8 u9 u10 hm hh hd hg ha hb
  go_enter Tryd.func57, Tryd.ntmps57
  go_wp2_with fail
  generalize w.alloc (parC a b s o i l t m h d g) = W at *
  obtain ⟨c0, c1, c2, c3, c4, c5, c6, c7, c8, c9, c10⟩ := elv_of F0
  clear F0
  go_wp2_with fail
  go_ret
  have L := CellsAt.lit (W.alloc (updC s o i l t)) ((flL a b s o i l t m h d g).flatMap encF) _ 67 rfl
  obtain ⟨k, off, e, hlt, hc⟩ := ListAt.open_ (l := flL a b s o i l t m h d g) L sizF (by decide) (Nat.succ_pos _)
  refine ⟨⟨_, rfl, .inr ⟨k, off, ?_, hlt, fun j x hj => ⟨hc j x hj 0 _ rfl, hc j x hj 1 _ rfl⟩⟩⟩, (hbel.alloc hbel.size _).alloc (by have := hbel.size; simp; omega) _⟩
  rw [show (W.alloc (updC s o i l t)).heap.size = w.heap.size + 1 + 1 by simp [hsz]] at e
  exact e
theorem rencode_any (a b s o i l t h d g : Int) (m : Nat) (w : World) (ha : 0 ≤ a ∧ a ≤ 4294967295) (hb : 0 ≤ b ∧ b ≤ 4294967295) (hm : m ≤ 18446744073709551615) :
    Calls Tryd.prog 38 #[.agg (par a b s o i l t m h d g)] w fun e w' => Oct.Gives w w' e (encR a b s o i l t m h d g) := by
  have F0 : Mem.Blk (w.alloc (parC a b s o i l t m h d g)) w.heap.size 31 _ := Blk.fresh w _ _
  have hbel : Below w.heap.size w (w.alloc (parC a b s o i l t m h d g)) := (Below.refl _ w).alloc (Nat.le_refl _) _
  have HC := Lib.hid fun w => rcheck_any a b s o i l t h d g m w hm
  have HG := Lib.hid (okP_good (s := s) (o := o) (i := i) (l := l) (t := t) (m := m) (h := h) (d := d) (g := g) ha hb.1)
  have HE := Lib.hid (enc_good (s := s) (o := o) (i := i) (l := l) (t := t) (m := m) (h := h) (d := d) (g := g) ha hb.1)
  have HN := Lib.hid (enc_bad (a := a) (b := b) (s := s) (o := o) (i := i) (l := l) (t := t) (m := m) (h := h) (d := d) (g := g))
  generalize okP a b s o i l t m h d g = R at *
  clear ha hb hm
  by_cases hR : R = 0
  · have G := HG.out hR
    have hE := Lib.hid (HE.out hR)
    have HF := Lib.hid fun w => rfields_any a b s o i l t h d g m w G
    have HFB : Hid (Oct.Fields (flL a b s o i l t m h d g)) := Lib.hid (by
      obtain ⟨ha, hb, ⟨u1, u2, u3, u4, u5, u6, u7, u8, u9, u10⟩, hm, hh, hd, hg⟩ := G
      intro x hx
      simp only [flL, List.mem_cons, List.not_mem_nil, or_false] at hx
      rcases hx with rfl | rfl | rfl | rfl | rfl | rfl | rfl | rfl | rfl | rfl | rfl <;> dsimp only <;> omega)
    clear G HG HE HN
    subst hR
    go_enter Tryd.func38, Tryd.ntmps38
    go_wp2_with fail
    generalize w.alloc (parC a b s o i l t m h d g) = W at *
    obtain ⟨c0, c1, c2, c3, c4, c5, c6, c7, c8, c9, c10⟩ := elv_of F0
    have hg0 := F0.lt
    go_wp2_with (first
      | (go_at_call 33; refine (HC.out _).mono ?_; rintro e w1 ⟨rfl, b1⟩; have B1 := thenB hbel b1; have F1 := F0.below b1 hg0; clear c0 c1 c2 c3 c4 c5 c6 c7 c8 c9 c10 F0 hg0; obtain ⟨c0, c1, c2, c3, c4, c5, c6, c7, c8, c9, c10⟩ := elv_of F1)
      | (go_at_call 57; refine (HF.out _).mono ?_; rintro e w2 ⟨⟨k, rfl, hfl⟩, b2⟩; have B2 := thenB B1 b2; have HP := Oct.rput_any (some ⟨k, 0, none⟩) 11 11 (flL a b s o i l t m h d g) w2 HFB.out rfl (by decide) hfl)
      | (go_at_call 56; refine HP.mono ?_; rintro e w3 ⟨A, c, rfl, own3, b3⟩))
    go_ret2
    rw [← hE.out]
    exact ⟨A, c, rfl, own_base own3 B2.size, thenB B2 b3⟩
  · have hE := Lib.hid (HN.out hR)
    have q0 : (R != 0) = true := by simp [hR]
    clear HG HE HN hR
    go_enter Tryd.func38, Tryd.ntmps38
    go_wp2_with fail
    generalize w.alloc (parC a b s o i l t m h d g) = W at *
    obtain ⟨c0, c1, c2, c3, c4, c5, c6, c7, c8, c9, c10⟩ := elv_of F0
    clear F0
    go_wp2_with (go_at_call 33; refine (HC.out _).mono ?_; rintro e w1 ⟨rfl, b1⟩; have B1 := thenB hbel b1)
    go_ret2
    exact gives_none hE.out rfl B1
end Go.Proofs.YtcjlliilfecmnaaDoor.Cn
