/- Plain arithmetic for the layer of assessment: rates, the worst channel, the channels that remain, counts. No program is mentioned. -/
import Derived.Test.YtngkpnkjapdnaaaChmMath
set_option linter.unusedVariables false
namespace Go.Proofs.Ytngkpnkjapdnaaa.As
open Chm

def lim (n : Int) : Int := max 0 (min n 65536)
theorem lim_bd (n : Int) : 0 ≤ lim n ∧ lim n ≤ 65536 := by unfold lim; omega
theorem lim_lim (n : Int) : lim (lim n) = lim n := by unfold lim; omega
def rateZ (t : Int × Int) : Int := if lim t.1 + lim t.2 = 0 then 0 else lim t.2 * 1000 / (lim t.1 + lim t.2)
theorem rate_lim (t : Int × Int) : rateZ (lim t.1, lim t.2) = rateZ t := by unfold rateZ; simp only [lim_lim]
def badB (t : Int × Int) : Bool := decide (8 ≤ lim t.1 + lim t.2) && decide (250 ≤ rateZ t)
theorem bad_zero : badB (0, 0) = false := by decide
def more (n : Int) : Int := if 65536 ≤ n then n else n + 1
def recT (ok : Bool) (f : Int × Int) : Int × Int := if ok then (more f.1, f.2) else (f.1, more f.2)
def recL (fs : List (Int × Int)) (ch : Int) (ok : Bool) : List (Int × Int) :=
  if 0 ≤ ch then (match fs[ch.toNat]? with | some f => fs.set ch.toNat (recT ok f) | none => fs) else fs
theorem recL_len (fs : List (Int × Int)) (ch : Int) (ok : Bool) : (recL fs ch ok).length = fs.length := by
  unfold recL
  split
  · split
    · simp
    · rfl
  · rfl
theorem recL_at {fs : List (Int × Int)} {j : Nat} {ok : Bool} {f : Int × Int} (h : fs[j]? = some f) : recL fs (j : Int) ok = fs.set j (recT ok f) := by
  unfold recL; rw [if_pos (by omega), Int.toNat_natCast, h]
theorem recL_out {fs : List (Int × Int)} {ch : Int} {ok : Bool} (h : ch < 0 ∨ (fs.length : Int) ≤ ch) : recL fs ch ok = fs := by
  unfold recL
  split
  · rw [List.getElem?_eq_none (by omega)]
  · rfl
def decT (f : Int × Int) : Int × Int := (lim f.1 / 2, lim f.2 / 2)
/-- The tally of a channel. -/
def tal (fs : List (Int × Int)) (c : Nat) : Int × Int := fs.getD c (0, 0)
theorem tal_in {fs : List (Int × Int)} {c : Nat} {f : Int × Int} (h : fs[c]? = some f) : tal fs c = f := by unfold tal; rw [List.getD_eq_getElem?_getD, h]; rfl
theorem tal_out {fs : List (Int × Int)} {c : Nat} (h : fs.length ≤ c) : tal fs c = (0, 0) := by unfold tal; rw [List.getD_eq_getElem?_getD, List.getElem?_eq_none h]; rfl
/-- The worst bad channel so far. -/
def upd (fs : List (Int × Int)) (b : Option Nat) (c : Nat) : Option Nat :=
  if badB (tal fs c) then (match b with | none => some c | some d => if rateZ (tal fs d) < rateZ (tal fs c) then some c else some d) else b
def wst (fs : List (Int × Int)) (cs : List Nat) : Option Nat := cs.foldl (upd fs) none
theorem wst_snoc (fs : List (Int × Int)) (cs : List Nat) (c : Nat) : wst fs (cs ++ [c]) = upd fs (wst fs cs) c := by unfold wst; rw [List.foldl_append]; rfl
def Worst (fs : List (Int × Int)) (pre : List Nat) : Option Nat → Prop
  | none => ∀ c ∈ pre, badB (tal fs c) = false
  | some d => d ∈ pre ∧ badB (tal fs d) = true ∧ ∀ c ∈ pre, badB (tal fs c) = true → rateZ (tal fs c) ≤ rateZ (tal fs d)
theorem worst_step {fs : List (Int × Int)} {pre : List Nat} {b : Option Nat} (c : Nat) (h : Worst fs pre b) : Worst fs (pre ++ [c]) (upd fs b c) := by
  unfold upd
  by_cases hb : badB (tal fs c) = true
  · rw [if_pos hb]
    cases b with
    | none =>
      refine ⟨by simp, hb, fun x hx hxb => ?_⟩
      rcases List.mem_append.1 hx with h' | h'
      · have := h x h'; rw [hxb] at this; cases this
      · rw [List.mem_singleton.1 h']; exact Int.le_refl _
    | some d =>
      obtain ⟨h1, h2, h3⟩ := h
      simp only
      by_cases hr : rateZ (tal fs d) < rateZ (tal fs c)
      · rw [if_pos hr]
        refine ⟨by simp, hb, fun x hx hxb => ?_⟩
        rcases List.mem_append.1 hx with h' | h'
        · have := h3 x h' hxb; omega
        · rw [List.mem_singleton.1 h']; exact Int.le_refl _
      · rw [if_neg hr]
        refine ⟨by simp [h1], h2, fun x hx hxb => ?_⟩
        rcases List.mem_append.1 hx with h' | h'
        · exact h3 x h' hxb
        · rw [List.mem_singleton.1 h']; omega
  · rw [if_neg hb]
    cases b with
    | none =>
      intro x hx
      rcases List.mem_append.1 hx with h' | h'
      · exact h x h'
      · rw [List.mem_singleton.1 h']; simpa using hb
    | some d =>
      obtain ⟨h1, h2, h3⟩ := h
      refine ⟨by simp [h1], h2, fun x hx hxb => ?_⟩
      rcases List.mem_append.1 hx with h' | h'
      · exact h3 x h' hxb
      · rw [List.mem_singleton.1 h'] at hxb; exact absurd hxb hb
theorem worst_acc (fs : List (Int × Int)) : ∀ (cs pre : List Nat) (b : Option Nat), Worst fs pre b → Worst fs (pre ++ cs) (cs.foldl (upd fs) b) := by
  intro cs
  induction cs with
  | nil => intro pre b h; simpa using h
  | cons c r ih =>
    intro pre b h
    have := ih (pre ++ [c]) (upd fs b c) (worst_step c h)
    simpa using this
theorem worst_of (fs : List (Int × Int)) (cs : List Nat) : Worst fs cs (wst fs cs) := by
  have := worst_acc fs cs [] none (fun c hc => by cases hc)
  rwa [List.nil_append] at this
/-- A map without a channel. -/
def clr (m c : Nat) : Nat := m &&& (18446744073709551615 - 2 ^ c)
theorem clr_has {m c i : Nat} (hc : c < 37) : hasN (clr m c) i = (hasN m i && !decide (c = i)) := by
  unfold hasN clr
  by_cases hi : i < 37
  · have e : (18446744073709551615 - 2 ^ c : Nat) = 2 ^ 64 - (2 ^ c + 1) := by
      rw [show (2 : Nat) ^ 64 = 18446744073709551616 from by decide]; omega
    rw [e, Nat.testBit_and, Nat.testBit_two_pow_sub_succ (Nat.pow_lt_pow_right (by decide) (by omega)), Nat.testBit_two_pow]
    simp [hi, show i < 64 by omega]
  · simp [hi]
theorem clr_le (m c : Nat) : clr m c ≤ m := Nat.and_le_left
theorem chans_clr {m c : Nat} (hc : c < 37) : chans (clr m c) = (chans m).filter (fun i => !decide (c = i)) := by
  unfold chans
  rw [List.filter_filter]
  apply List.filter_congr
  intro i hi
  rw [clr_has hc, Bool.and_comm]
theorem nodup_chans (m : Nat) : (chans m).Nodup := (List.nodup_range).filter _
theorem filter_eraseIdx {l : List Nat} (h : l.Nodup) : ∀ (i c : Nat), l[i]? = some c → l.filter (fun j => !decide (c = j)) = l.eraseIdx i := by
  induction l with
  | nil => intro i c hi; simp at hi
  | cons a r ih =>
    intro i c hi
    rw [List.nodup_cons] at h
    cases i with
    | zero =>
      simp at hi; subst hi
      rw [List.filter_cons, if_neg (by simp), List.eraseIdx_cons_zero]
      apply List.filter_eq_self.2
      intro x hx
      have : ¬ a = x := fun e => h.1 (e ▸ hx)
      simp [this]
    | succ i =>
      simp at hi
      have hm : c ∈ r := List.mem_of_getElem? hi
      have : ¬ c = a := fun e => h.1 (e ▸ hm)
      rw [List.filter_cons, if_pos (by simp [this]), List.eraseIdx_cons_succ, ih h.2 i c hi]
theorem chans_erase {m i c : Nat} (h : (chans m)[i]? = some c) : chans (clr m c) = (chans m).eraseIdx i := by
  have hm : c ∈ chans m := List.mem_of_getElem? h
  rw [chans_clr (hasN_lt (mem_chans.1 hm)), filter_eraseIdx (nodup_chans m) i c h]
theorem clr_count {m c : Nat} (h : hasN m c = true) : (chans (clr m c)).length + 1 = (chans m).length := by
  obtain ⟨i, hi⟩ := List.getElem?_of_mem (mem_chans.2 h)
  rw [chans_erase hi, List.length_eraseIdx]
  have : i < (chans m).length := (List.getElem?_eq_some_iff.1 hi).1
  rw [if_pos this]; omega
/-- What remains of a map after at most n steps. -/
def pro (fs : List (Int × Int)) (least : Nat) : Nat → Nat → Nat
  | 0, m => m
  | n + 1, m => if least < (chans m).length then (match wst fs (chans m) with | none => m | some c => pro fs least n (clr m c)) else m
theorem pro_done {fs : List (Int × Int)} {least m : Nat} (n : Nat) (h : (chans m).length ≤ least) : pro fs least n m = m := by
  cases n with
  | zero => rfl
  | succ n => unfold pro; rw [if_neg (by omega)]
theorem pro_none {fs : List (Int × Int)} {least m : Nat} (n : Nat) (h : wst fs (chans m) = none) : pro fs least n m = m := by
  cases n with
  | zero => rfl
  | succ n => unfold pro; rw [h]; simp
theorem pro_some {fs : List (Int × Int)} {least m c n : Nat} (hl : least < (chans m).length) (h : wst fs (chans m) = some c) : pro fs least (n + 1) m = pro fs least n (clr m c) := by
  conv => lhs; unfold pro
  rw [if_pos hl, h]
/-- What is known of a map that remains of another one. -/
structure Left (fs : List (Int × Int)) (least M m : Nat) : Prop where
  sub : ∀ c, hasN m c = true → hasN M c = true
  big : min least (chans M).length ≤ (chans m).length
  bad : ∀ c, hasN M c = true → hasN m c = false → badB (tal fs c) = true
  ord : ∀ c d, hasN m c = true → badB (tal fs c) = true → hasN M d = true → hasN m d = false → rateZ (tal fs c) ≤ rateZ (tal fs d)
theorem left_self (fs : List (Int × Int)) (least M : Nat) : Left fs least M M :=
  ⟨fun _ h => h, by omega, fun c h h' => (by rw [h] at h'; cases h'), fun c d _ _ h h' => (by rw [h] at h'; cases h')⟩
theorem left_step {fs : List (Int × Int)} {least M m c : Nat} (h : Left fs least M m) (hl : least < (chans m).length) (hw : wst fs (chans m) = some c) : Left fs least M (clr m c) := by
  have hW := worst_of fs (chans m)
  rw [hw] at hW
  obtain ⟨h1, h2, h3⟩ := hW
  have hc := mem_chans.1 h1
  have hc37 := hasN_lt hc
  have hk := clr_count hc
  refine ⟨fun x hx => ?_, by omega, fun x hx hx' => ?_, fun x d hx hxb hd hd' => ?_⟩
  · rw [clr_has hc37, Bool.and_eq_true] at hx
    exact h.sub x hx.1
  · rw [clr_has hc37] at hx'
    by_cases e : c = x
    · subst e; exact h2
    · simp [e] at hx'
      exact h.bad x hx hx'
  · rw [clr_has hc37, Bool.and_eq_true] at hx
    rw [clr_has hc37] at hd'
    by_cases e : c = d
    · subst e; exact h3 x (mem_chans.2 hx.1) hxb
    · simp [e] at hd'
      exact h.ord x d hx.1 hxb hd hd'
theorem left_pro {fs : List (Int × Int)} {least M : Nat} : ∀ (n m : Nat), (chans m).length ≤ n → Left fs least M m →
    Left fs least M (pro fs least n m) ∧ ((chans (pro fs least n m)).length ≤ least ∨ ∀ c, hasN (pro fs least n m) c = true → badB (tal fs c) = false) := by
  intro n
  induction n with
  | zero => intro m hm h; exact ⟨h, .inl (by show (chans m).length ≤ least; omega)⟩
  | succ n ih =>
    intro m hm h
    by_cases hl : least < (chans m).length
    · cases hw : wst fs (chans m) with
      | none =>
        rw [pro_none _ hw]
        refine ⟨h, .inr fun c hc => ?_⟩
        have := worst_of fs (chans m)
        rw [hw] at this
        exact this c (mem_chans.2 hc)
      | some c =>
        rw [pro_some hl hw]
        have hW := worst_of fs (chans m)
        rw [hw] at hW
        have := clr_count (mem_chans.1 hW.1)
        exact ih (clr m c) (by omega) (left_step h hl hw)
    · rw [pro_done _ (by omega)]
      exact ⟨h, .inl (by omega)⟩
theorem pro_le {fs : List (Int × Int)} {least : Nat} : ∀ (n m : Nat), pro fs least n m ≤ m := by
  intro n
  induction n with
  | zero => intro m; exact Nat.le_refl _
  | succ n ih =>
    intro m
    unfold pro
    split
    · split
      · exact Nat.le_refl _
      · exact Nat.le_trans (ih _) (clr_le _ _)
    · exact Nat.le_refl _
theorem count_mono {m M : Nat} (h : ∀ c, hasN m c = true → hasN M c = true) : (chans m).length ≤ (chans M).length := by
  unfold chans
  rw [← List.countP_eq_length_filter, ← List.countP_eq_length_filter]
  exact List.countP_mono_left (fun c _ => h c)
/-- The map of some channels. -/
def ofL : List Nat → Nat
  | [] => 0
  | c :: r => 2 ^ c + ofL r
theorem ofL_append (l r : List Nat) : ofL (l ++ r) = ofL l + ofL r := by
  induction l with
  | nil => simp [ofL]
  | cons c l ih => simp [ofL, ih]; omega
theorem ofL_range (m : Nat) : ∀ n, n ≤ 37 → ofL ((List.range n).filter (hasN m)) = m % 2 ^ n := by
  intro n
  induction n with
  | zero => intro _; simp [ofL, Nat.mod_one]
  | succ n ih =>
    intro hn
    rw [List.range_succ, List.filter_append, ofL_append, ih (by omega)]
    have e : m % 2 ^ (n + 1) = m % 2 ^ n + 2 ^ n * (m / 2 ^ n % 2) := by rw [Nat.pow_succ]; exact Nat.mod_mul
    rw [e]
    congr 1
    have hb : hasN m n = m.testBit n := by simp [hasN]; omega
    rw [← Nat.toNat_testBit]
    by_cases h : m.testBit n = true
    · rw [List.filter_cons, if_pos (by rw [hb]; exact h), h]; simp [ofL]
    · rw [List.filter_cons, if_neg (by rw [hb]; exact h)]
      simp at h; rw [h]; simp [ofL]
theorem ofL_chans {m : Nat} (h : m < 137438953472) : ofL (chans m) = m := by
  unfold chans
  rw [ofL_range m 37 (by omega)]
  exact Nat.mod_eq_of_lt h
theorem ofL_take_le (l : List Nat) (k : Nat) : ofL (l.take k) ≤ ofL l := by
  have := ofL_append (l.take k) (l.drop k)
  rw [List.take_append_drop] at this
  omega
theorem chans_mod (m : Nat) : chans (m % 137438953472) = chans m := by
  unfold chans
  apply List.filter_congr
  intro i hi
  rw [List.mem_range] at hi
  unfold hasN
  have := Nat.testBit_mod_two_pow m 37 i
  rw [show (2 : Nat) ^ 37 = 137438953472 from by decide] at this
  rw [this]; simp [hi]
theorem has_mod (m i : Nat) : hasN (m % 137438953472) i = hasN m i := by
  unfold hasN
  have := Nat.testBit_mod_two_pow m 37 i
  rw [show (2 : Nat) ^ 37 = 137438953472 from by decide] at this
  rw [this]
  by_cases hi : i < 37
  · simp [hi]
  · simp [hi]
/-! Counts -/
def goods (c : Nat) (ps : List (Int × Bool)) : Nat := (ps.filter (fun p => decide (p.1 = (c : Int)) && p.2)).length
def bads (c : Nat) (ps : List (Int × Bool)) : Nat := (ps.filter (fun p => decide (p.1 = (c : Int)) && !p.2)).length
theorem goods_le (c : Nat) (ps : List (Int × Bool)) : goods c ps ≤ ps.length := List.length_filter_le _ _
theorem bads_le (c : Nat) (ps : List (Int × Bool)) : bads c ps ≤ ps.length := List.length_filter_le _ _
theorem goods_snoc (c : Nat) (ps : List (Int × Bool)) (ch : Int) (ok : Bool) : goods c (ps ++ [(ch, ok)]) = goods c ps + (if ch = (c : Int) ∧ ok = true then 1 else 0) := by
  unfold goods; rw [List.filter_append, List.length_append]
  congr 1
  rw [List.filter_cons]
  by_cases h : ch = (c : Int) ∧ ok = true
  · rw [if_pos h, if_pos (by simp [h.1, h.2])]; rfl
  · rw [if_neg h, if_neg (by simpa using h)]; rfl
theorem bads_snoc (c : Nat) (ps : List (Int × Bool)) (ch : Int) (ok : Bool) : bads c (ps ++ [(ch, ok)]) = bads c ps + (if ch = (c : Int) ∧ ok = false then 1 else 0) := by
  unfold bads; rw [List.filter_append, List.length_append]
  congr 1
  rw [List.filter_cons]
  by_cases h : ch = (c : Int) ∧ ok = false
  · rw [if_pos h, if_pos (by simp [h.1, h.2])]; rfl
  · rw [if_neg h, if_neg (by simpa using h)]; rfl
/-- The tallies after some packets. -/
def tals (ps : List (Int × Bool)) : List (Int × Int) := (List.range 37).map (fun c => ((goods c ps : Int), (bads c ps : Int)))
theorem tals_len (ps : List (Int × Bool)) : (tals ps).length = 37 := by simp [tals]
theorem tals_at (ps : List (Int × Bool)) (c : Nat) (hc : c < 37) : (tals ps)[c]? = some ((goods c ps : Int), (bads c ps : Int)) := by
  unfold tals; rw [List.getElem?_map, List.getElem?_range hc]; rfl
theorem tals_nil : tals [] = List.replicate 37 (0, 0) := by decide +kernel
theorem tals_snoc (ps : List (Int × Bool)) (ch : Int) (ok : Bool) (hl : ps.length < 65536) : tals (ps ++ [(ch, ok)]) = recL (tals ps) ch ok := by
  apply List.ext_getElem?
  intro i
  by_cases hi : i < 37
  · rw [tals_at _ i hi, goods_snoc, bads_snoc]
    have g1 := goods_le i ps
    have g2 := bads_le i ps
    by_cases h0 : ch < 0 ∨ (37 : Int) ≤ ch
    · rw [recL_out (by rw [tals_len]; exact h0), tals_at _ i hi, if_neg (by omega), if_neg (by omega)]; rfl
    · obtain ⟨j, rfl⟩ := Int.eq_ofNat_of_zero_le (show 0 ≤ ch by omega)
      rw [recL_at (tals_at ps j (by omega)), List.getElem?_set]
      by_cases e : j = i
      · subst e
        rw [if_pos rfl]
        simp only [tals_len, hi, if_true]
        unfold recT more
        cases ok
        · simp; omega
        · simp; omega
      · rw [if_neg e, tals_at _ i hi, if_neg (by omega), if_neg (by omega)]; rfl
  · rw [List.getElem?_eq_none (by rw [tals_len]; omega), List.getElem?_eq_none (by rw [recL_len, tals_len]; omega)]
end Go.Proofs.Ytngkpnkjapdnaaa.As
