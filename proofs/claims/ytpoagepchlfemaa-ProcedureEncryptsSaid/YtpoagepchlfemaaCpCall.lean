/- Control PDUs: the functions of a part, whatever part it is: contracts. -/
import Derived.Test.YtpoagepchlfemaaCpPart
set_option linter.unusedVariables false
set_option linter.unusedSimpArgs false
namespace Go.Proofs.Ytpoagepchlfemaa.Cp
open Go.RowKit Mem Oct Rw Av
open Cn (okU)
theorem part_form {w : World} {V : Value} {p : Pt} (h : PartAt w V p) : ∃ S f1 c1 f2 c2 f3 c3, V = (.agg #[S, .func (.func f1) #[] c1, .func (.func f2) #[] c2, .func (.func f3) #[] c3]) ∧ SzAt w S (szP p) := by
  cases p
  · obtain ⟨S, rfl, h⟩ := h; exact ⟨S, _, _, _, _, _, _, rfl, h⟩
  · obtain ⟨S, rfl, h⟩ := h; exact ⟨S, _, _, _, _, _, _, rfl, h⟩
  · obtain ⟨S, rfl, h⟩ := h; exact ⟨S, _, _, _, _, _, _, rfl, h⟩
  · obtain ⟨S, b, l, g, rfl, h, _⟩ := h; exact ⟨S, _, _, _, _, _, _, rfl, h⟩
  · obtain ⟨S, b, l, g, rfl, h, _⟩ := h; exact ⟨S, _, _, _, _, _, _, rfl, h⟩
  · obtain ⟨S, b, l, g, rfl, h, _⟩ := h; exact ⟨S, _, _, _, _, _, _, rfl, h⟩
  · obtain ⟨S, b, l, g, rfl, h, _⟩ := h; exact ⟨S, _, _, _, _, _, _, rfl, h⟩
  · obtain ⟨S, b, rfl, h, _⟩ := h; exact ⟨S, _, _, _, _, _, _, rfl, h⟩
  · obtain ⟨S, b, rfl, h, _⟩ := h; exact ⟨S, _, _, _, _, _, _, rfl, h⟩
  · obtain ⟨S, b, rfl, h, _⟩ := h; exact ⟨S, _, _, _, _, _, _, rfl, h⟩
theorem agg4 {a b c d a' b' c' d' : Value} (h : Value.agg #[a, b, c, d] = .agg #[a', b', c', d']) : a = a' ∧ b = b' ∧ c = c' ∧ d = d' := by
  injection h with h
  have h := congrArg Array.toList h
  simp only [List.cons.injEq, and_true] at h
  exact ⟨h.1, h.2.1, h.2.2.1, h.2.2.2⟩
theorem func_inj {f f' : Nat} {c c' : Array Value} (h : Value.func (.func f) #[] c = .func (.func f') #[] c') : f = f' ∧ c = c' := by
  injection h with h1 _ h3
  injection h1 with h1
  exact ⟨h1, h3⟩
/-- A function is entered when it is called. -/
def Ent (f : Nat) : Prop := ∀ (xs : Array Value) (w : World), (callFunc f xs).run Try.prog w = .ok (.enter f xs) w
theorem ent_update_1 : Ent 88 := fun xs w => by go_simp
theorem ent_update_2 : Ent 89 := fun xs w => by go_simp
theorem ent_update_3 : Ent 90 := fun xs w => by go_simp
theorem ent_instant_1 : Ent 92 := fun xs w => by go_simp
theorem ent_instant_2 : Ent 93 := fun xs w => by go_simp
theorem ent_anything : Ent 87 := fun xs w => by go_simp
theorem ent_channels_1 : Ent 94 := fun xs w => by go_simp
theorem ent_channels_2 : Ent 95 := fun xs w => by go_simp
theorem ent_channels_3 : Ent 96 := fun xs w => by go_simp
theorem ent_small_1 : Ent 82 := fun xs w => by go_simp
theorem ent_small_2 : Ent 83 := fun xs w => by go_simp
theorem ent_small_3 : Ent 84 := fun xs w => by go_simp
theorem ent_large_1 : Ent 85 := fun xs w => by go_simp
theorem ent_large_2 : Ent 86 := fun xs w => by go_simp
theorem ents {w : World} {S : Value} {f1 f2 f3 : Nat} {c1 c2 c3 : Array Value} {p : Pt} (h : PartAt w (.agg #[S, .func (.func f1) #[] c1, .func (.func f2) #[] c2, .func (.func f3) #[] c3]) p) : Ent f1 ∧ Ent f2 ∧ Ent f3 := by
  cases p
  · obtain ⟨S', e, h⟩ := h
    obtain ⟨rfl, e1, e2, e3⟩ := agg4 e
    obtain ⟨rfl, rfl⟩ := func_inj e1
    obtain ⟨rfl, rfl⟩ := func_inj e2
    obtain ⟨rfl, rfl⟩ := func_inj e3
    exact ⟨ent_update_1, ent_update_2, ent_update_3⟩
  · obtain ⟨S', e, h⟩ := h
    obtain ⟨rfl, e1, e2, e3⟩ := agg4 e
    obtain ⟨rfl, rfl⟩ := func_inj e1
    obtain ⟨rfl, rfl⟩ := func_inj e2
    obtain ⟨rfl, rfl⟩ := func_inj e3
    exact ⟨ent_instant_1, ent_instant_2, ent_anything⟩
  · obtain ⟨S', e, h⟩ := h
    obtain ⟨rfl, e1, e2, e3⟩ := agg4 e
    obtain ⟨rfl, rfl⟩ := func_inj e1
    obtain ⟨rfl, rfl⟩ := func_inj e2
    obtain ⟨rfl, rfl⟩ := func_inj e3
    exact ⟨ent_channels_1, ent_channels_2, ent_channels_3⟩
  · obtain ⟨S', b, l, g9, e, h, kb, kl, kh⟩ := h
    obtain ⟨rfl, e1, e2, e3⟩ := agg4 e
    obtain ⟨rfl, rfl⟩ := func_inj e1
    obtain ⟨rfl, rfl⟩ := func_inj e2
    obtain ⟨rfl, rfl⟩ := func_inj e3
    exact ⟨ent_small_1, ent_small_2, ent_small_3⟩
  · obtain ⟨S', b, l, g9, e, h, kb, kl, kh⟩ := h
    obtain ⟨rfl, e1, e2, e3⟩ := agg4 e
    obtain ⟨rfl, rfl⟩ := func_inj e1
    obtain ⟨rfl, rfl⟩ := func_inj e2
    obtain ⟨rfl, rfl⟩ := func_inj e3
    exact ⟨ent_small_1, ent_small_2, ent_small_3⟩
  · obtain ⟨S', b, l, g9, e, h, kb, kl, kh⟩ := h
    obtain ⟨rfl, e1, e2, e3⟩ := agg4 e
    obtain ⟨rfl, rfl⟩ := func_inj e1
    obtain ⟨rfl, rfl⟩ := func_inj e2
    obtain ⟨rfl, rfl⟩ := func_inj e3
    exact ⟨ent_small_1, ent_small_2, ent_small_3⟩
  · obtain ⟨S', b, l, g9, e, h, kb, kl, kh⟩ := h
    obtain ⟨rfl, e1, e2, e3⟩ := agg4 e
    obtain ⟨rfl, rfl⟩ := func_inj e1
    obtain ⟨rfl, rfl⟩ := func_inj e2
    obtain ⟨rfl, rfl⟩ := func_inj e3
    exact ⟨ent_small_1, ent_small_2, ent_small_3⟩
  · obtain ⟨S', b, e, h, kb⟩ := h
    obtain ⟨rfl, e1, e2, e3⟩ := agg4 e
    obtain ⟨rfl, rfl⟩ := func_inj e1
    obtain ⟨rfl, rfl⟩ := func_inj e2
    obtain ⟨rfl, rfl⟩ := func_inj e3
    exact ⟨ent_large_1, ent_large_2, ent_anything⟩
  · obtain ⟨S', b, e, h, kb⟩ := h
    obtain ⟨rfl, e1, e2, e3⟩ := agg4 e
    obtain ⟨rfl, rfl⟩ := func_inj e1
    obtain ⟨rfl, rfl⟩ := func_inj e2
    obtain ⟨rfl, rfl⟩ := func_inj e3
    exact ⟨ent_large_1, ent_large_2, ent_anything⟩
  · obtain ⟨S', b, e, h, kb⟩ := h
    obtain ⟨rfl, e1, e2, e3⟩ := agg4 e
    obtain ⟨rfl, rfl⟩ := func_inj e1
    obtain ⟨rfl, rfl⟩ := func_inj e2
    obtain ⟨rfl, rfl⟩ := func_inj e3
    exact ⟨ent_large_1, ent_large_2, ent_anything⟩
theorem get_call {w : World} {S : Value} {f1 f2 f3 : Nat} {c1 c2 c3 : Array Value} {p : Pt} (h : PartAt w (.agg #[S, .func (.func f1) #[] c1, .func (.func f2) #[] c2, .func (.func f3) #[] c3]) p) (c : Ct) : Calls Try.prog f1 (#[.agg (encC c)] ++ c1) w fun e w' => Gets w w' e (getP p c) := by
  cases p
  · obtain ⟨S', e, h⟩ := h
    obtain ⟨rfl, e1, e2, e3⟩ := agg4 e
    obtain ⟨rfl, rfl⟩ := func_inj e1
    obtain ⟨rfl, rfl⟩ := func_inj e2
    obtain ⟨rfl, rfl⟩ := func_inj e3
    exact getup_any c w
  · obtain ⟨S', e, h⟩ := h
    obtain ⟨rfl, e1, e2, e3⟩ := agg4 e
    obtain ⟨rfl, rfl⟩ := func_inj e1
    obtain ⟨rfl, rfl⟩ := func_inj e2
    obtain ⟨rfl, rfl⟩ := func_inj e3
    exact getim_any c w
  · obtain ⟨S', e, h⟩ := h
    obtain ⟨rfl, e1, e2, e3⟩ := agg4 e
    obtain ⟨rfl, rfl⟩ := func_inj e1
    obtain ⟨rfl, rfl⟩ := func_inj e2
    obtain ⟨rfl, rfl⟩ := func_inj e3
    exact getch_any c w
  · obtain ⟨S', b, l, g9, e, h, kb, kl, kh⟩ := h
    obtain ⟨rfl, e1, e2, e3⟩ := agg4 e
    obtain ⟨rfl, rfl⟩ := func_inj e1
    obtain ⟨rfl, rfl⟩ := func_inj e2
    obtain ⟨rfl, rfl⟩ := func_inj e3
    exact getsmall_any fld_rs c c.rs b w rfl kb
  · obtain ⟨S', b, l, g9, e, h, kb, kl, kh⟩ := h
    obtain ⟨rfl, e1, e2, e3⟩ := agg4 e
    obtain ⟨rfl, rfl⟩ := func_inj e1
    obtain ⟨rfl, rfl⟩ := func_inj e2
    obtain ⟨rfl, rfl⟩ := func_inj e3
    exact getsmall_any fld_rj c c.rj b w rfl kb
  · obtain ⟨S', b, l, g9, e, h, kb, kl, kh⟩ := h
    obtain ⟨rfl, e1, e2, e3⟩ := agg4 e
    obtain ⟨rfl, rfl⟩ := func_inj e1
    obtain ⟨rfl, rfl⟩ := func_inj e2
    obtain ⟨rfl, rfl⟩ := func_inj e3
    exact getsmall_any fld_vs c c.vs b w rfl kb
  · obtain ⟨S', b, l, g9, e, h, kb, kl, kh⟩ := h
    obtain ⟨rfl, e1, e2, e3⟩ := agg4 e
    obtain ⟨rfl, rfl⟩ := func_inj e1
    obtain ⟨rfl, rfl⟩ := func_inj e2
    obtain ⟨rfl, rfl⟩ := func_inj e3
    exact getsmall_any fld_ln c c.ln b w rfl kb
  · obtain ⟨S', b, e, h, kb⟩ := h
    obtain ⟨rfl, e1, e2, e3⟩ := agg4 e
    obtain ⟨rfl, rfl⟩ := func_inj e1
    obtain ⟨rfl, rfl⟩ := func_inj e2
    obtain ⟨rfl, rfl⟩ := func_inj e3
    exact getlarge_any fld_sa c c.st b w rfl kb
  · obtain ⟨S', b, e, h, kb⟩ := h
    obtain ⟨rfl, e1, e2, e3⟩ := agg4 e
    obtain ⟨rfl, rfl⟩ := func_inj e1
    obtain ⟨rfl, rfl⟩ := func_inj e2
    obtain ⟨rfl, rfl⟩ := func_inj e3
    exact getlarge_any fld_mk c c.mr b w rfl kb
  · obtain ⟨S', b, e, h, kb⟩ := h
    obtain ⟨rfl, e1, e2, e3⟩ := agg4 e
    obtain ⟨rfl, rfl⟩ := func_inj e1
    obtain ⟨rfl, rfl⟩ := func_inj e2
    obtain ⟨rfl, rfl⟩ := func_inj e3
    exact getlarge_any fld_fe c c.ft b w rfl kb
theorem chk_call {w : World} {S : Value} {f1 f2 f3 : Nat} {c1 c2 c3 : Array Value} {p : Pt} (h : PartAt w (.agg #[S, .func (.func f1) #[] c1, .func (.func f2) #[] c2, .func (.func f3) #[] c3]) p) (c : Ct) (hm : c.m ≤ 18446744073709551615) : Calls Try.prog f3 (#[.agg (encC c)] ++ c3) w fun e w' => e = .returned (.int .i64 (chkP p c)) ∧ Below w.heap.size w w' := by
  cases p
  · obtain ⟨S', e, h⟩ := h
    obtain ⟨rfl, e1, e2, e3⟩ := agg4 e
    obtain ⟨rfl, rfl⟩ := func_inj e1
    obtain ⟨rfl, rfl⟩ := func_inj e2
    obtain ⟨rfl, rfl⟩ := func_inj e3
    exact chkup_any c w
  · obtain ⟨S', e, h⟩ := h
    obtain ⟨rfl, e1, e2, e3⟩ := agg4 e
    obtain ⟨rfl, rfl⟩ := func_inj e1
    obtain ⟨rfl, rfl⟩ := func_inj e2
    obtain ⟨rfl, rfl⟩ := func_inj e3
    exact chkany_any c w
  · obtain ⟨S', e, h⟩ := h
    obtain ⟨rfl, e1, e2, e3⟩ := agg4 e
    obtain ⟨rfl, rfl⟩ := func_inj e1
    obtain ⟨rfl, rfl⟩ := func_inj e2
    obtain ⟨rfl, rfl⟩ := func_inj e3
    exact chkch_any c w hm
  · obtain ⟨S', b, l, g9, e, h, kb, kl, kh⟩ := h
    obtain ⟨rfl, e1, e2, e3⟩ := agg4 e
    obtain ⟨rfl, rfl⟩ := func_inj e1
    obtain ⟨rfl, rfl⟩ := func_inj e2
    obtain ⟨rfl, rfl⟩ := func_inj e3
    exact chksmall_any fld_rs c c.rs 0 255 b l g9 w rfl kb kl kh
  · obtain ⟨S', b, l, g9, e, h, kb, kl, kh⟩ := h
    obtain ⟨rfl, e1, e2, e3⟩ := agg4 e
    obtain ⟨rfl, rfl⟩ := func_inj e1
    obtain ⟨rfl, rfl⟩ := func_inj e2
    obtain ⟨rfl, rfl⟩ := func_inj e3
    exact chksmall_any fld_rj c c.rj 0 255 b l g9 w rfl kb kl kh
  · obtain ⟨S', b, l, g9, e, h, kb, kl, kh⟩ := h
    obtain ⟨rfl, e1, e2, e3⟩ := agg4 e
    obtain ⟨rfl, rfl⟩ := func_inj e1
    obtain ⟨rfl, rfl⟩ := func_inj e2
    obtain ⟨rfl, rfl⟩ := func_inj e3
    exact chksmall_any fld_vs c c.vs 0 255 b l g9 w rfl kb kl kh
  · obtain ⟨S', b, l, g9, e, h, kb, kl, kh⟩ := h
    obtain ⟨rfl, e1, e2, e3⟩ := agg4 e
    obtain ⟨rfl, rfl⟩ := func_inj e1
    obtain ⟨rfl, rfl⟩ := func_inj e2
    obtain ⟨rfl, rfl⟩ := func_inj e3
    exact chksmall_any fld_ln c c.ln 27 251 b l g9 w rfl kb kl kh
  · obtain ⟨S', b, e, h, kb⟩ := h
    obtain ⟨rfl, e1, e2, e3⟩ := agg4 e
    obtain ⟨rfl, rfl⟩ := func_inj e1
    obtain ⟨rfl, rfl⟩ := func_inj e2
    obtain ⟨rfl, rfl⟩ := func_inj e3
    exact chkany_any c w
  · obtain ⟨S', b, e, h, kb⟩ := h
    obtain ⟨rfl, e1, e2, e3⟩ := agg4 e
    obtain ⟨rfl, rfl⟩ := func_inj e1
    obtain ⟨rfl, rfl⟩ := func_inj e2
    obtain ⟨rfl, rfl⟩ := func_inj e3
    exact chkany_any c w
  · obtain ⟨S', b, e, h, kb⟩ := h
    obtain ⟨rfl, e1, e2, e3⟩ := agg4 e
    obtain ⟨rfl, rfl⟩ := func_inj e1
    obtain ⟨rfl, rfl⟩ := func_inj e2
    obtain ⟨rfl, rfl⟩ := func_inj e3
    exact chkany_any c w
theorem set_call {w : World} {S : Value} {f1 f2 f3 : Nat} {c1 c2 c3 : Array Value} {p : Pt} (h : PartAt w (.agg #[S, .func (.func f1) #[] c1, .func (.func f2) #[] c2, .func (.func f3) #[] c3]) p) (c : Ct) (g : Nat) (KC : Blk w g 57 (encC c)) (A : Option Addr) (n cc : Nat) (ns : List Int) (hn : ns.length = n) (hp : ns.length = (szP p).length) (hz : ∀ z ∈ ns, 0 ≤ z) (hne : ∀ a, A = some a → a.block ≠ g) (hr : Ints .u64 w w.heap.size A ns) :
    Calls Try.prog f2 (#[.pointer (some ⟨g, 0, none⟩), .slice A n cc] ++ c2) w fun e w' => Sets w w' e g (setP p c ns) := by
  subst hn
  have hA : ∃ ba oa, A = some ⟨ba, oa, none⟩ := by
    rcases hr with h0 | ⟨ba, oa, e, _⟩
    · rw [h0] at hp; cases p <;> cases hp
    · exact ⟨ba, oa, e⟩
  obtain ⟨ba, oa, rfl⟩ := hA
  have hne' : ba ≠ g := hne _ rfl
  cases p
  · obtain ⟨S', e, h⟩ := h
    obtain ⟨rfl, e1, e2, e3⟩ := agg4 e
    obtain ⟨rfl, rfl⟩ := func_inj e1
    obtain ⟨rfl, rfl⟩ := func_inj e2
    obtain ⟨rfl, rfl⟩ := func_inj e3
    match ns, hp with
    | [z0, z1, z2, z3, z4], _ => exact set_up c z0 z1 z2 z3 z4 g ba oa cc w KC hne' hr
  · obtain ⟨S', e, h⟩ := h
    obtain ⟨rfl, e1, e2, e3⟩ := agg4 e
    obtain ⟨rfl, rfl⟩ := func_inj e1
    obtain ⟨rfl, rfl⟩ := func_inj e2
    obtain ⟨rfl, rfl⟩ := func_inj e3
    match ns, hp with
    | [z0], _ => exact set_im c z0 g ba oa cc w KC hne' hr
  · obtain ⟨S', e, h⟩ := h
    obtain ⟨rfl, e1, e2, e3⟩ := agg4 e
    obtain ⟨rfl, rfl⟩ := func_inj e1
    obtain ⟨rfl, rfl⟩ := func_inj e2
    obtain ⟨rfl, rfl⟩ := func_inj e3
    match ns, hp with
    | [z0], _ => exact set_ch c z0 g ba oa cc w KC hne' hr (hz z0 (by simp))
  · obtain ⟨S', b, l, g9, e, h, kb, kl, kh⟩ := h
    obtain ⟨rfl, e1, e2, e3⟩ := agg4 e
    obtain ⟨rfl, rfl⟩ := func_inj e1
    obtain ⟨rfl, rfl⟩ := func_inj e2
    obtain ⟨rfl, rfl⟩ := func_inj e3
    match ns, hp with
    | [z0], _ => exact set_rs c z0 g b ba oa cc w KC kb hne' hr
  · obtain ⟨S', b, l, g9, e, h, kb, kl, kh⟩ := h
    obtain ⟨rfl, e1, e2, e3⟩ := agg4 e
    obtain ⟨rfl, rfl⟩ := func_inj e1
    obtain ⟨rfl, rfl⟩ := func_inj e2
    obtain ⟨rfl, rfl⟩ := func_inj e3
    match ns, hp with
    | [z0], _ => exact set_rj c z0 g b ba oa cc w KC kb hne' hr
  · obtain ⟨S', b, l, g9, e, h, kb, kl, kh⟩ := h
    obtain ⟨rfl, e1, e2, e3⟩ := agg4 e
    obtain ⟨rfl, rfl⟩ := func_inj e1
    obtain ⟨rfl, rfl⟩ := func_inj e2
    obtain ⟨rfl, rfl⟩ := func_inj e3
    match ns, hp with
    | [z0], _ => exact set_vs c z0 g b ba oa cc w KC kb hne' hr
  · obtain ⟨S', b, l, g9, e, h, kb, kl, kh⟩ := h
    obtain ⟨rfl, e1, e2, e3⟩ := agg4 e
    obtain ⟨rfl, rfl⟩ := func_inj e1
    obtain ⟨rfl, rfl⟩ := func_inj e2
    obtain ⟨rfl, rfl⟩ := func_inj e3
    match ns, hp with
    | [z0], _ => exact set_ln c z0 g b ba oa cc w KC kb hne' hr
  · obtain ⟨S', b, e, h, kb⟩ := h
    obtain ⟨rfl, e1, e2, e3⟩ := agg4 e
    obtain ⟨rfl, rfl⟩ := func_inj e1
    obtain ⟨rfl, rfl⟩ := func_inj e2
    obtain ⟨rfl, rfl⟩ := func_inj e3
    match ns, hp with
    | [z0], _ => exact set_sa c z0 g b ba oa cc w KC kb hne' hr
  · obtain ⟨S', b, e, h, kb⟩ := h
    obtain ⟨rfl, e1, e2, e3⟩ := agg4 e
    obtain ⟨rfl, rfl⟩ := func_inj e1
    obtain ⟨rfl, rfl⟩ := func_inj e2
    obtain ⟨rfl, rfl⟩ := func_inj e3
    match ns, hp with
    | [z0], _ => exact set_mk c z0 g b ba oa cc w KC kb hne' hr
  · obtain ⟨S', b, e, h, kb⟩ := h
    obtain ⟨rfl, e1, e2, e3⟩ := agg4 e
    obtain ⟨rfl, rfl⟩ := func_inj e1
    obtain ⟨rfl, rfl⟩ := func_inj e2
    obtain ⟨rfl, rfl⟩ := func_inj e3
    match ns, hp with
    | [z0], _ => exact set_fe c z0 g b ba oa cc w KC kb hne' hr
end Go.Proofs.Ytpoagepchlfemaa.Cp
