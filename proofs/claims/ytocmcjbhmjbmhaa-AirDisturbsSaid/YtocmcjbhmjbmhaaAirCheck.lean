/- Whether a medium and its transmissions are valid: the layer's answer. -/
import Derived.Test.YtocmcjbhmjbmhaaAirSent
set_option linter.unusedVariables false
set_option linter.unusedSimpArgs false
namespace Go.Proofs.Ytocmcjbhmjbmhaa.Air
open Go.RowKit Mem Rw Base

def chk (m : Med) (ts : List Tr) : Int :=
  if m.dev < 0 then 5 else if 8 < m.dev then 5 else if 1000 < m.jams.length then 4 else if 1000 < m.loss.length then 4 else if 1000 < ts.length then 4
  else if chkL m.dev none m.links = 0 then (if m.jams.any badJ then 5 else if m.loss.any (badS m.dev) then 5 else chkT m.dev none ts) else chkL m.dev none m.links
theorem chk_ok {m : Med} {ts : List Tr} (h : chk m ts = 0) : 0 ≤ m.dev ∧ m.dev ≤ 8 ∧ m.jams.length ≤ 1000 ∧ m.loss.length ≤ 1000 ∧ ts.length ≤ 1000 ∧ chkL m.dev none m.links = 0 ∧ m.jams.any badJ = false ∧ m.loss.any (badS m.dev) = false ∧ chkT m.dev none ts = 0 := by
  unfold chk at h
  split at h
  · cases h
  split at h
  · cases h
  split at h
  · cases h
  split at h
  · cases h
  split at h
  · cases h
  split at h
  · rename_i e
    split at h
    · cases h
    split at h
    · cases h
    rename_i a b
    refine ⟨by omega, by omega, by omega, by omega, by omega, e, by simpa using a, by simpa using b, h⟩
  · rename_i e
    exact absurd h e
theorem chk_cases (D : Int) (nj ns k : Nat) (z t : Int) (qj qs : Bool) {r : Int} (h : (if D < 0 then 5 else if 8 < D then 5 else if 1000 < nj then 4 else if 1000 < ns then 4 else if 1000 < k then 4 else if z = 0 then (if qj then 5 else if qs then 5 else t) else z) = r) :
    (D < 0 → r = 5) ∧ (¬ D < 0 → 8 < D → r = 5) ∧ (¬ D < 0 → ¬ 8 < D → 1000 < nj → r = 4) ∧ (¬ D < 0 → ¬ 8 < D → ¬ 1000 < nj → 1000 < ns → r = 4) ∧ (¬ D < 0 → ¬ 8 < D → ¬ 1000 < nj → ¬ 1000 < ns → 1000 < k → r = 4) ∧
      (¬ D < 0 → ¬ 8 < D → ¬ 1000 < nj → ¬ 1000 < ns → ¬ 1000 < k → (¬ z = 0 → r = z) ∧ (z = 0 → (qj = true → r = 5) ∧ (qj = false → (qs = true → r = 5) ∧ (qs = false → r = t)))) := by
  subst h
  refine ⟨fun a => by rw [if_pos a], fun a b => by rw [if_neg a, if_pos b], fun a b c => by rw [if_neg a, if_neg b, if_pos c], fun a b c d => by rw [if_neg a, if_neg b, if_neg c, if_pos d], fun a b c d e => by rw [if_neg a, if_neg b, if_neg c, if_neg d, if_pos e], fun a b c d e => ?_⟩
  rw [if_neg a, if_neg b, if_neg c, if_neg d, if_neg e]
  refine ⟨fun x => by rw [if_neg x], fun x => ?_⟩
  rw [if_pos x]
  refine ⟨fun y => by rw [if_pos y], fun y => ⟨fun u => by rw [if_neg (by rw [y]; decide), if_pos u], fun u => by rw [if_neg (by rw [y]; decide), if_neg (by rw [u]; decide)]⟩⟩
set_option maxHeartbeats 4000000 in
theorem check_any (m : Med) (p : Pl) (L : Option Addr) (kc : Nat) (l : List Tx) (w : World) (hk : l.length ≤ 8796093022208) (hm : MedAt w w.heap.size p m) (hr : TxsAt w w.heap.size L l) :
    Calls Try.prog 17 #[mv m p, .slice L l.length kc] w fun e w' => e = .returned (.int .i64 (chk m (l.map Tx.tr))) ∧ Below w.heap.size w w' := by
  obtain ⟨D, links, jams, loss⟩ := m
  obtain ⟨A, c, J, cj, S, cs⟩ := p
  obtain ⟨m1, m2, m3, m4, m5, m6⟩ := hm
  simp only at m1 m2 m3 m4 m5 m6
  unfold mv
  simp only
  have HL : Hid (∀ w', Below w.heap.size w w' → Calls Try.prog 35 #[.agg #[.int .i64 D, .slice A links.length c, .slice J jams.length cj, .slice S loss.length cs]] w' fun e w2 => e = .returned (.int .i64 (chkL D none links)) ∧ Below w'.heap.size w' w2) := Lib.hid fun w' b =>
    checklinks_any D A J S _ c _ cj _ cs links w' rfl m4 (CellsAt.later m1 b)
  have HJ : Hid (∀ w', Below w.heap.size w w' → Calls Try.prog 38 #[.slice J jams.length cj, .func (.func 39) #[] #[]] w' fun e w2 => e = .returned (.bool (jams.any badJ)) ∧ Below w'.heap.size w' w2) := Lib.hid fun w' b =>
    containsj_any J _ cj jams w' rfl m5 (CellsAt.later m2 b)
  have HS : Hid (∀ B w', Below w.heap.size w w' → Four w' B D (.slice A links.length c) (.slice J jams.length cj) (.slice S loss.length cs) → Calls Try.prog 40 #[.slice S loss.length cs, .func (.func 36) #[] #[.pointer (some ⟨B, 0, none⟩)]] w' fun e w2 => e = .returned (.bool (loss.any (badS D))) ∧ Below w'.heap.size w' w2) := Lib.hid fun B w' b f =>
    containss_any D _ _ _ B S _ cs loss w' rfl m6 (CellsAt.later m3 b) f
  have HT : Hid (∀ w', Below w.heap.size w w' → Calls Try.prog 41 #[.agg #[.int .i64 D, .slice A links.length c, .slice J jams.length cj, .slice S loss.length cs], .slice L l.length kc] w' fun e w2 => e = .returned (.int .i64 (chkT D none (l.map Tx.tr))) ∧ Below w'.heap.size w' w2) := Lib.hid fun w' b =>
    checksent_any D A J S L _ c _ cj _ cs _ kc l w' rfl hk (hr.later b)
  have hmf : ∀ (fn : Fn) (first cap : Array Value) (w : World), (Instr.makeFunc fn first cap).run Try.prog w = .ok (.func fn first cap) w := fun _ _ _ _ => rfl
  generalize hr0 : chk ⟨D, links, jams, loss⟩ (l.map Tx.tr) = r
  unfold chk at hr0
  simp only at hr0
  rw [List.length_map] at hr0
  generalize chkL D none links = z at *
  generalize jams.any badJ = qj at *
  generalize loss.any (badS D) = qs at *
  generalize chkT D none (l.map Tx.tr) = t at *
  generalize links.length = n at *
  generalize jams.length = nj at *
  generalize loss.length = ns at *
  generalize l.length = k at *
  obtain ⟨r1, r2, r3, r4, r5, r6⟩ := chk_cases D nj ns k z t qj qs hr0
  have B0 : Below w.heap.size w (w.alloc (.cells #[.int .i64 D, .slice A n c, .slice J nj cj, .slice S ns cs] 34)) := (Below.refl _ w).alloc (Nat.le_refl _) _
  have F0 := four_of (Blk.fresh w 34 #[.int .i64 D, .slice A n c, .slice J nj cj, .slice S ns cs])
  clear hr0 hr m1 m2 m3
  by_cases c1 : D < 0
  · have e := Lib.hid (r1  c1)
    clear r1 r2 r3 r4 r5 r6 HL HJ HS HT
    go_enter Try.func17, Try.ntmps17
    go_wp2_with fail
    go_ret
    exact ⟨Ser.ret_int e.out.symm, B0⟩
  by_cases c2 : 8 < D
  · have e := Lib.hid (r2 c1 c2)
    clear r1 r2 r3 r4 r5 r6 HL HJ HS HT
    go_enter Try.func17, Try.ntmps17
    go_wp2_with fail
    go_ret
    exact ⟨Ser.ret_int e.out.symm, B0⟩
  by_cases c3 : 1000 < nj
  · have e := Lib.hid (r3 c1 c2 c3)
    have c3' : (1000 : Int) < ((nj : Nat) : Int) := by omega
    clear r1 r2 r3 r4 r5 r6 HL HJ HS HT
    go_enter Try.func17, Try.ntmps17
    go_wp2_with fail
    go_ret
    exact ⟨Ser.ret_int e.out.symm, B0⟩
  by_cases c4 : 1000 < ns
  · have e := Lib.hid (r4 c1 c2 c3 c4)
    have c4' : (1000 : Int) < ((ns : Nat) : Int) := by omega
    have c3' : ¬ (1000 : Int) < ((nj : Nat) : Int) := by omega
    clear r1 r2 r3 r4 r5 r6 HL HJ HS HT
    go_enter Try.func17, Try.ntmps17
    go_wp2_with fail
    go_ret
    exact ⟨Ser.ret_int e.out.symm, B0⟩
  by_cases c5 : 1000 < k
  · have e := Lib.hid (r5 c1 c2 c3 c4 c5)
    have c5' : (1000 : Int) < ((k : Nat) : Int) := by omega
    have c3' : ¬ (1000 : Int) < ((nj : Nat) : Int) := by omega
    have c4' : ¬ (1000 : Int) < ((ns : Nat) : Int) := by omega
    clear r1 r2 r3 r4 r5 r6 HL HJ HS HT
    go_enter Try.func17, Try.ntmps17
    go_wp2_with fail
    go_ret
    exact ⟨Ser.ret_int e.out.symm, B0⟩
  have c3' : ¬ (1000 : Int) < ((nj : Nat) : Int) := by omega
  have c4' : ¬ (1000 : Int) < ((ns : Nat) : Int) := by omega
  have c5' : ¬ (1000 : Int) < ((k : Nat) : Int) := by omega
  obtain ⟨s1, s2⟩ := r6 c1 c2 c3 c4 c5
  clear r1 r2 r3 r4 r5
  by_cases cz : z = 0
  · have s3 := s2 cz
    clear s1 s2
    subst cz
    cases qj with
    | true =>
      have e := Lib.hid (s3.1 rfl)
      clear s3
      go_enter Try.func17, Try.ntmps17
      go_wp2_with (first
      | (go_at_call 35; refine (HL.out _ B0).mono ?_; rintro e w1 ⟨rfl, b1⟩; have B1 := thenB B0 b1; have F1 := F0.below b1)
      | (go_at_call 38; refine (HJ.out _ B1).mono ?_; rintro e w2 ⟨rfl, b2⟩; have B2 := thenB B1 b2; have F2 := F1.below b2)
      | (go_at_call 40; refine (HS.out _ _ B2 F2).mono ?_; rintro e w3 ⟨rfl, b3⟩; have B3 := thenB B2 b3; have F3 := F2.below b3)
      | (go_at_call 41; refine (HT.out _ B3).mono ?_; rintro e w4 ⟨rfl, b4⟩; have B4 := thenB B3 b4))
      go_ret
      exact ⟨Ser.ret_int e.out.symm, B2⟩
    | false =>
      have s4 := s3.2 rfl
      clear s3
      cases qs with
      | true =>
        have e := Lib.hid (s4.1 rfl)
        clear s4
        go_enter Try.func17, Try.ntmps17
        go_wp2_with (first
      | (go_at_call 35; refine (HL.out _ B0).mono ?_; rintro e w1 ⟨rfl, b1⟩; have B1 := thenB B0 b1; have F1 := F0.below b1)
      | (go_at_call 38; refine (HJ.out _ B1).mono ?_; rintro e w2 ⟨rfl, b2⟩; have B2 := thenB B1 b2; have F2 := F1.below b2)
      | (go_at_call 40; refine (HS.out _ _ B2 F2).mono ?_; rintro e w3 ⟨rfl, b3⟩; have B3 := thenB B2 b3; have F3 := F2.below b3)
      | (go_at_call 41; refine (HT.out _ B3).mono ?_; rintro e w4 ⟨rfl, b4⟩; have B4 := thenB B3 b4))
        go_ret
        exact ⟨Ser.ret_int e.out.symm, B3⟩
      | false =>
        have e := Lib.hid (s4.2 rfl)
        clear s4
        go_enter Try.func17, Try.ntmps17
        go_wp2_with (first
      | (go_at_call 35; refine (HL.out _ B0).mono ?_; rintro e w1 ⟨rfl, b1⟩; have B1 := thenB B0 b1; have F1 := F0.below b1)
      | (go_at_call 38; refine (HJ.out _ B1).mono ?_; rintro e w2 ⟨rfl, b2⟩; have B2 := thenB B1 b2; have F2 := F1.below b2)
      | (go_at_call 40; refine (HS.out _ _ B2 F2).mono ?_; rintro e w3 ⟨rfl, b3⟩; have B3 := thenB B2 b3; have F3 := F2.below b3)
      | (go_at_call 41; refine (HT.out _ B3).mono ?_; rintro e w4 ⟨rfl, b4⟩; have B4 := thenB B3 b4))
        go_ret
        exact ⟨Ser.ret_int e.out.symm, B4⟩
  · have e := Lib.hid (s1 cz)
    have cz' : (z != 0) = true := by simpa using cz
    clear s1 s2
    go_enter Try.func17, Try.ntmps17
    go_wp2_with (first
      | (go_at_call 35; refine (HL.out _ B0).mono ?_; rintro e w1 ⟨rfl, b1⟩; have B1 := thenB B0 b1; have F1 := F0.below b1)
      | (go_at_call 38; refine (HJ.out _ B1).mono ?_; rintro e w2 ⟨rfl, b2⟩; have B2 := thenB B1 b2; have F2 := F1.below b2)
      | (go_at_call 40; refine (HS.out _ _ B2 F2).mono ?_; rintro e w3 ⟨rfl, b3⟩; have B3 := thenB B2 b3; have F3 := F2.below b3)
      | (go_at_call 41; refine (HT.out _ B3).mono ?_; rintro e w4 ⟨rfl, b4⟩; have B4 := thenB B3 b4))
    go_ret
    exact ⟨Ser.ret_int e.out.symm, B1⟩
end Go.Proofs.Ytocmcjbhmjbmhaa.Air
