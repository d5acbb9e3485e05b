/- Plain arithmetic for the layer of the channel maps: channels, their number, ranges. No program is mentioned. -/
import Derived.WalkKit
set_option linter.unusedVariables false
namespace Go.Proofs.Ytpoagepchlfemaa.Chm

/-- Whether a data channel is in a map. -/
def hasN (m c : Nat) : Bool := decide (c < 37) && m.testBit c
def chans (m : Nat) : List Nat := (List.range 37).filter (hasN m)
theorem hasN_lt {m c : Nat} (h : hasN m c = true) : c < 37 := by simp [hasN] at h; exact h.1
theorem mem_chans {m c : Nat} : c ∈ chans m ↔ hasN m c = true := by
  unfold chans
  rw [List.mem_filter, List.mem_range]
  exact ⟨fun h => h.2, fun h => ⟨hasN_lt h, h⟩⟩
theorem chans_le (m : Nat) : (chans m).length ≤ 37 := by
  have := List.length_filter_le (hasN m) (List.range 37)
  rwa [List.length_range] at this

/-- How many of the lowest bits are ones. -/
def cnt : Nat → Nat → Nat
  | 0, _ => 0
  | n + 1, x => x % 2 + cnt n (x / 2)
theorem cnt_add (a b : Nat) : ∀ x, cnt (a + b) x = cnt a x + cnt b (x / 2 ^ a) := by
  induction a with
  | zero => intro x; simp [cnt]
  | succ a ih =>
    intro x
    rw [show a + 1 + b = (a + b) + 1 by omega]
    simp only [cnt]
    rw [ih, Nat.div_div_eq_div_mul, Nat.pow_succ, Nat.mul_comm 2, Nat.add_assoc]
theorem cnt_zero (n : Nat) : cnt n 0 = 0 := by
  induction n with
  | zero => rfl
  | succ n ih => simp [cnt, ih]
theorem cnt_mod (n : Nat) : ∀ x, cnt n (x % 2 ^ n) = cnt n x := by
  induction n with
  | zero => intro x; rfl
  | succ n ih =>
    intro x
    simp only [cnt]
    rw [show x % 2 ^ (n + 1) % 2 = x % 2 by rw [Nat.pow_succ, Nat.mul_comm]; exact Nat.mod_mul_right_mod _ _ _]
    rw [show x % 2 ^ (n + 1) / 2 = x / 2 % 2 ^ n by rw [Nat.pow_succ, Nat.mul_comm]; exact Nat.mod_mul_right_div_self _ _ _, ih]
theorem cnt_le (n : Nat) : ∀ x, cnt n x ≤ n := by
  induction n with
  | zero => intro x; exact Nat.le_refl _
  | succ n ih => intro x; simp only [cnt]; have := ih (x / 2); omega
theorem cnt_range (n : Nat) : ∀ x : Nat, ((List.range n).filter (fun c => x.testBit c)).length = cnt n x := by
  induction n with
  | zero => intro x; rfl
  | succ n ih =>
    intro x
    rw [List.range_succ_eq_map, List.filter_cons, List.filter_map, cnt]
    have e : (fun c => x.testBit c) ∘ Nat.succ = fun c => (x / 2).testBit c := by funext c; simp [Nat.testBit_succ]
    rw [e]
    have h0 : x.testBit 0 = decide (x % 2 = 1) := Nat.testBit_zero x
    rw [h0]
    by_cases h : x % 2 = 1
    · rw [if_pos (by simpa using h), List.length_cons, List.length_map, ih, h]; omega
    · rw [if_neg (by simpa using h), List.length_map, ih]; omega
theorem chans_cnt (m : Nat) : (chans m).length = cnt 37 m := by
  rw [← cnt_range]
  unfold chans
  rw [List.filter_congr (q := fun c => m.testBit c)]
  intro c hc
  rw [List.mem_range] at hc
  simp [hasN, hc]

/-! Counting by bytes -/
def mapB (f : Nat → Nat) : Nat → Nat → Nat
  | 0, _ => 0
  | n + 1, x => f (x % 256) + 256 * mapB f n (x / 256)
def rep (c : Nat) : Nat → Nat
  | 0 => 0
  | n + 1 => c + 256 * rep c n
theorem land_split (a b c d : Nat) (ha : a < 256) (hc : c < 256) : (a + 256 * b) &&& (c + 256 * d) = (a &&& c) + 256 * (b &&& d) := by
  have h1 := @Nat.and_mod_two_pow (a + 256 * b) (c + 256 * d) 8
  have h2 := @Nat.and_div_two_pow (a + 256 * b) (c + 256 * d) 8
  have e : (2 : Nat) ^ 8 = 256 := by decide
  rw [e] at h1 h2
  rw [show (a + 256 * b) % 256 = a by omega, show (c + 256 * d) % 256 = c by omega] at h1
  rw [show (a + 256 * b) / 256 = b by omega, show (c + 256 * d) / 256 = d by omega] at h2
  have := Nat.mod_add_div ((a + 256 * b) &&& (c + 256 * d)) 256
  rw [h1, h2] at this
  exact this.symm
theorem mapB_comp (f g : Nat → Nat) (hf : ∀ a, a < 256 → f a < 256) (n : Nat) : ∀ x, mapB g n (mapB f n x) = mapB (fun a => g (f a)) n x := by
  induction n with
  | zero => intro x; rfl
  | succ n ih =>
    intro x
    have := hf (x % 256) (Nat.mod_lt _ (by decide))
    simp only [mapB]
    rw [show (f (x % 256) + 256 * mapB f n (x / 256)) % 256 = f (x % 256) by omega, show (f (x % 256) + 256 * mapB f n (x / 256)) / 256 = mapB f n (x / 256) by omega, ih]
theorem mapB_congr (f g : Nat → Nat) (h : ∀ a, a < 256 → f a = g a) (n : Nat) : ∀ x, mapB f n x = mapB g n x := by
  induction n with
  | zero => intro x; rfl
  | succ n ih => intro x; simp only [mapB]; rw [ih, h _ (Nat.mod_lt _ (by decide))]
def f1 (a : Nat) : Nat := (a / 2 &&& 85) + (a &&& 85)
def f2 (a : Nat) : Nat := (a / 4 &&& 51) + (a &&& 51)
def f3 (a : Nat) : Nat := a / 16 + a &&& 15
theorem p1 (n : Nat) : ∀ x, (x / 2 &&& rep 85 n) + (x &&& rep 85 n) = mapB f1 n x := by
  have d : ∀ a : Fin 256, ∀ e : Fin 2, (a.val / 2 + 128 * e.val) &&& 85 = a.val / 2 &&& 85 := by decide +kernel
  induction n with
  | zero => intro x; simp [rep, mapB]
  | succ n ih =>
    intro x
    have e1 : x = x % 256 + 256 * (x / 256) := by omega
    have e2 : x / 2 = (x % 256 / 2 + 128 * (x / 256 % 2)) + 256 * (x / 256 / 2) := by omega
    have h1 : x &&& rep 85 (n + 1) = (x % 256 &&& 85) + 256 * (x / 256 &&& rep 85 n) := by
      rw [← land_split _ _ _ _ (Nat.mod_lt _ (by decide)) (by decide), ← e1]; rfl
    have h2 : x / 2 &&& rep 85 (n + 1) = (x % 256 / 2 &&& 85) + 256 * (x / 256 / 2 &&& rep 85 n) := by
      rw [e2]
      show (_ + 256 * (x / 256 / 2)) &&& (85 + 256 * rep 85 n) = _
      rw [land_split _ _ _ _ (by omega) (by decide), d ⟨x % 256, Nat.mod_lt _ (by decide)⟩ ⟨x / 256 % 2, Nat.mod_lt _ (by decide)⟩]
    rw [h1, h2]
    simp only [mapB, f1]
    rw [← ih]
    omega
theorem p2 (n : Nat) : ∀ x, (x / 4 &&& rep 51 n) + (x &&& rep 51 n) = mapB f2 n x := by
  have d : ∀ a : Fin 256, ∀ e : Fin 4, (a.val / 4 + 64 * e.val) &&& 51 = a.val / 4 &&& 51 := by decide +kernel
  induction n with
  | zero => intro x; simp [rep, mapB]
  | succ n ih =>
    intro x
    have e1 : x = x % 256 + 256 * (x / 256) := by omega
    have e2 : x / 4 = (x % 256 / 4 + 64 * (x / 256 % 4)) + 256 * (x / 256 / 4) := by omega
    have h1 : x &&& rep 51 (n + 1) = (x % 256 &&& 51) + 256 * (x / 256 &&& rep 51 n) := by
      rw [← land_split _ _ _ _ (Nat.mod_lt _ (by decide)) (by decide), ← e1]; rfl
    have h2 : x / 4 &&& rep 51 (n + 1) = (x % 256 / 4 &&& 51) + 256 * (x / 256 / 4 &&& rep 51 n) := by
      rw [e2]
      show (_ + 256 * (x / 256 / 4)) &&& (51 + 256 * rep 51 n) = _
      rw [land_split _ _ _ _ (by omega) (by decide), d ⟨x % 256, Nat.mod_lt _ (by decide)⟩ ⟨x / 256 % 4, Nat.mod_lt _ (by decide)⟩]
    rw [h1, h2]
    simp only [mapB, f2]
    rw [← ih]
    omega
/-- Each half of each byte is at most four. -/
def okB : Nat → Nat → Prop
  | 0, x => x = 0
  | n + 1, x => x % 256 / 16 ≤ 4 ∧ x % 16 ≤ 4 ∧ okB n (x / 256)
theorem okB_low {n x : Nat} (h : okB n x) : x % 16 ≤ 4 := by
  cases n with
  | zero => have : x = 0 := h; omega
  | succ n => exact h.2.1
theorem p3 (n : Nat) : ∀ x, okB n x → (x / 16 + x) &&& rep 15 n = mapB f3 n x := by
  have d : ∀ a : Fin 256, ∀ e : Fin 16, (a.val / 16 + 16 * e.val + a.val) &&& 15 = a.val / 16 + a.val &&& 15 := by decide +kernel
  induction n with
  | zero => intro x _; simp [rep, mapB]
  | succ n ih =>
    intro x ⟨k1, k2, k3⟩
    have k4 := okB_low k3
    have e2 : x / 16 + x = (x % 256 / 16 + 16 * (x / 256 % 16) + x % 256) + 256 * (x / 256 / 16 + x / 256) := by omega
    rw [e2]
    show (_ + 256 * (x / 256 / 16 + x / 256)) &&& (15 + 256 * rep 15 n) = _
    rw [land_split _ _ _ _ (by omega) (by decide), d ⟨x % 256, Nat.mod_lt _ (by decide)⟩ ⟨x / 256 % 16, Nat.mod_lt _ (by decide)⟩, ih _ k3]
    rfl
theorem okB_map (f : Nat → Nat) (h : ∀ a, a < 256 → f a < 256 ∧ f a / 16 ≤ 4 ∧ f a % 16 ≤ 4) (n : Nat) : ∀ x, okB n (mapB f n x) := by
  induction n with
  | zero => intro x; rfl
  | succ n ih =>
    intro x
    obtain ⟨h1, h2, h3⟩ := h (x % 256) (Nat.mod_lt _ (by decide))
    refine ⟨?_, ?_, ?_⟩
    · simp only [mapB]; rw [show (f (x % 256) + 256 * mapB f n (x / 256)) % 256 = f (x % 256) by omega]; exact h2
    · simp only [mapB]; rw [show (f (x % 256) + 256 * mapB f n (x / 256)) % 16 = f (x % 256) % 16 by omega]; exact h3
    · simp only [mapB]; rw [show (f (x % 256) + 256 * mapB f n (x / 256)) / 256 = mapB f n (x / 256) by omega]; exact ih _
theorem f1_fin : ∀ a : Fin 256, f1 a.val < 256 := by decide +kernel
theorem f2_fin : ∀ a : Fin 256, f2 (f1 a.val) < 256 ∧ f2 (f1 a.val) / 16 ≤ 4 ∧ f2 (f1 a.val) % 16 ≤ 4 := by decide +kernel
theorem f3_fin : ∀ a : Fin 256, f3 (f2 (f1 a.val)) = cnt 8 a.val := by decide +kernel
/-- The three steps on pairs, fours and bytes. -/
def pop1 (x : Nat) : Nat := (x / 2 &&& 6148914691236517205) + (x &&& 6148914691236517205)
def pop2 (x : Nat) : Nat := (x / 4 &&& 3689348814741910323) + (x &&& 3689348814741910323)
def pop3 (x : Nat) : Nat := (x / 16 + x) &&& 1085102592571150095
theorem pop_bytes (x : Nat) : pop3 (pop2 (pop1 x)) = mapB (cnt 8) 8 x := by
  have h1 : pop1 x = mapB f1 8 x := by rw [← p1]; rfl
  have h2 : pop2 (mapB f1 8 x) = mapB (fun a => f2 (f1 a)) 8 x := by
    rw [← mapB_comp f1 f2 (fun a ha => f1_fin ⟨a, ha⟩), ← p2]; rfl
  have h3 : pop3 (mapB (fun a => f2 (f1 a)) 8 x) = mapB (fun a => f3 (f2 (f1 a))) 8 x := by
    rw [← mapB_comp (fun a => f2 (f1 a)) f3 (fun a ha => (f2_fin ⟨a, ha⟩).1), ← p3 8 _ (okB_map _ (fun a ha => f2_fin ⟨a, ha⟩) 8 x)]; rfl
  rw [h1, h2, h3]
  exact mapB_congr _ _ (fun a ha => f3_fin ⟨a, ha⟩) 8 x
theorem land_le (a b : Nat) : a &&& b ≤ b := Nat.and_le_right
theorem pop1_bd {x : Nat} : pop1 x ≤ 12297829382473034410 := by
  unfold pop1; have := land_le (x / 2) 6148914691236517205; have := land_le x 6148914691236517205; omega
theorem pop2_bd {x : Nat} : pop2 x ≤ 7378697629483820646 := by
  unfold pop2; have := land_le (x / 4) 3689348814741910323; have := land_le x 3689348814741910323; omega
/-- The bytes are added. -/
def tot (x : Nat) : Nat := ((x + x / 256) + (x + x / 256) / 65536 + ((x + x / 256) + (x + x / 256) / 65536) / 4294967296) % 128
theorem tot_sum (x c0 c1 c2 c3 c4 c5 c6 c7 : Nat) (hx : x = c0 + 256 * (c1 + 256 * (c2 + 256 * (c3 + 256 * (c4 + 256 * (c5 + 256 * (c6 + 256 * (c7 + 256 * 0)))))))) (h0 : c0 ≤ 8) (h1 : c1 ≤ 8) (h2 : c2 ≤ 8) (h3 : c3 ≤ 8) (h4 : c4 ≤ 8) (h5 : c5 ≤ 8) (h6 : c6 ≤ 8) (h7 : c7 ≤ 8) :
    tot x = c0 + c1 + c2 + c3 + c4 + c5 + c6 + c7 := by
  unfold tot
  have e1 : x / 256 = c1 + 256 * c2 + 65536 * c3 + 16777216 * c4 + 4294967296 * c5 + 1099511627776 * c6 + 281474976710656 * c7 := by omega
  obtain ⟨y, hy⟩ : ∃ y, y = x + x / 256 := ⟨_, rfl⟩
  rw [← hy]
  have e2 : y = (c0 + c1) + 256 * (c1 + c2) + 65536 * (c2 + c3) + 16777216 * (c3 + c4) + 4294967296 * (c4 + c5) + 1099511627776 * (c5 + c6) + 281474976710656 * (c6 + c7) + 72057594037927936 * c7 := by omega
  clear e1 hx hy
  have e3 : y / 65536 = (c2 + c3) + 256 * (c3 + c4) + 65536 * (c4 + c5) + 16777216 * (c5 + c6) + 4294967296 * (c6 + c7) + 1099511627776 * c7 := by omega
  obtain ⟨z, hz⟩ : ∃ z, z = y + y / 65536 := ⟨_, rfl⟩
  rw [← hz]
  have e4 : z = (c0 + c1 + c2 + c3) + 256 * (c1 + c2 + c3 + c4) + 65536 * (c2 + c3 + c4 + c5) + 16777216 * (c3 + c4 + c5 + c6) + 4294967296 * (c4 + c5 + c6 + c7) + 1099511627776 * (c5 + c6 + c7) + 281474976710656 * (c6 + c7) + 72057594037927936 * c7 := by omega
  clear e2 e3 hz
  have e5 : z / 4294967296 = (c4 + c5 + c6 + c7) + 256 * (c5 + c6 + c7) + 65536 * (c6 + c7) + 16777216 * c7 := by omega
  rw [e5]
  clear e5
  omega
theorem mapB_bd (f : Nat → Nat) (h : ∀ y, f y ≤ 8) (n : Nat) : ∀ x, mapB f n x ≤ rep 8 n := by
  induction n with
  | zero => intro x; exact Nat.le_refl _
  | succ n ih => intro x; have := h (x % 256); have := ih (x / 256); simp only [mapB, rep]; omega
theorem mapB_le (x : Nat) : mapB (cnt 8) 8 x ≤ 578721382704613384 := mapB_bd _ (cnt_le 8) 8 x
theorem cnt_byte (n x : Nat) : cnt (8 + n) x = cnt 8 (x % 256) + cnt n (x / 256) := by
  rw [cnt_add, ← cnt_mod 8 x]
theorem pop_all (x : Nat) : tot (pop3 (pop2 (pop1 x))) = cnt 64 x := by
  rw [pop_bytes]
  simp only [mapB]
  rw [tot_sum _ _ _ _ _ _ _ _ _ rfl (cnt_le _ _) (cnt_le _ _) (cnt_le _ _) (cnt_le _ _) (cnt_le _ _) (cnt_le _ _) (cnt_le _ _) (cnt_le _ _)]
  rw [show (64 : Nat) = 8 + (8 + (8 + (8 + (8 + (8 + (8 + (8 + 0))))))) from rfl]
  rw [cnt_byte, cnt_byte, cnt_byte, cnt_byte, cnt_byte, cnt_byte, cnt_byte, cnt_byte]
  rw [show ∀ y, cnt 0 y = 0 from fun _ => rfl]
  omega
theorem cnt_map (m : Nat) : cnt 64 (m % 137438953472) = (chans m).length := by
  have h : (137438953472 : Nat) = 2 ^ 37 := by decide
  rw [chans_cnt, show (64 : Nat) = 37 + 27 from rfl, cnt_add, h, cnt_mod 37 m, Nat.div_eq_of_lt (Nat.mod_lt _ (by decide)), cnt_zero, Nat.add_zero]
end Go.Proofs.Ytpoagepchlfemaa.Chm
