/- Plain arithmetic for the layer of wrapping counters: powers of two, lowest bits, distances, sums, and the nearest number with given lowest bits. No program is mentioned. Words for memory: a slice that reads as a list of integers (nil and empty ones among them), kept over what a call writes elsewhere; append onto a row of the call's own from any such slice. No program is mentioned. Plain arithmetic for the layer of the clocks. No program is mentioned. What each function of the layer of the clocks returns: contracts over the program. What a clock shows, and the first time at which it shows something: contracts over the program. The first time at which a clock shows something: contracts over the program. -/
import Derived.WalkKit
import Derived.Laws.AppendOwnNone
import Derived.Laws.BytesArg
import Derived.Deep.RegionLaw
import Derived.Test.YtcbliliinmfnjaaDoorProg
import Derived.Lib.MinMax
import Derived.Lib.Hide
import Derived.BigQuiet
import Derived.Deep.QuietTactic
import Derived.WalkSpells
import Derived.Deep.RegionHeld3
import Derived.Deep.RegionWith
section
set_option linter.unusedVariables false
namespace Go.Proofs.YtcbliliinmfnjaaDoor.Ser

/-- A power of two, kept behind a name. -/
def p2 (k : Nat) : Int := 2 ^ k
theorem p2_pos (k : Nat) : 1 ≤ p2 k := by
  have : (0 : Int) < 2 ^ k := Int.pow_pos (by decide)
  unfold p2; omega
theorem p2_succ (k : Nat) : p2 k * 2 = p2 (k + 1) := by unfold p2; rw [Int.pow_succ]
theorem p2_mono (a b : Nat) (h : a ≤ b) : p2 a ≤ p2 b := by
  obtain ⟨d, rfl⟩ := Nat.exists_eq_add_of_le h
  have h1 := p2_pos a
  have h2 := p2_pos d
  unfold p2 at *
  rw [Int.pow_add]
  have : (2 : Int) ^ a * 1 ≤ 2 ^ a * 2 ^ d := Int.mul_le_mul_of_nonneg_left h2 (by omega)
  omega
theorem p2_63 : p2 63 = 9223372036854775808 := by decide
theorem p2_64 : p2 64 = 18446744073709551616 := by decide
theorem p2_le63 (k : Nat) (h : k ≤ 63) : p2 k ≤ 9223372036854775808 := by
  have := p2_mono k 63 h; rw [p2_63] at this; exact this
theorem p2_le62 (k : Nat) (h : k < 63) : p2 k ≤ 4611686018427387904 := by
  have := p2_mono k 62 (by omega); rw [show p2 62 = 4611686018427387904 by decide] at this; exact this
theorem p2_dvd (k : Nat) (h : k ≤ 64) : ∃ c : Int, p2 k * c = 18446744073709551616 := by
  refine ⟨2 ^ (64 - k), ?_⟩
  unfold p2
  rw [← Int.pow_add, show k + (64 - k) = 64 by omega]; decide

/-- How many bits are kept. -/
def keep (b : Int) : Nat := (max 0 (min b 64)).toNat
theorem and_mask (n : Int) (k : Nat) (hk : k ≤ 64) (h0 : 0 ≤ n) (h1 : n ≤ 18446744073709551615) :
    bits BinOp.and IntKind.u64 n (IntKind.u64.wrap (IntKind.u64.wrap (2 ^ k) - 1)) = n % p2 k := by
  have hp := p2_pos k
  by_cases h : k = 64
  · subst h
    rw [show IntKind.u64.wrap (IntKind.u64.wrap (2 ^ 64) - 1) = 18446744073709551615 by decide, u64_and n _ h0 (by omega) (by decide) (by decide)]
    have e : n.toNat &&& (18446744073709551615 : Int).toNat = n.toNat % 2 ^ 64 := Nat.and_two_pow_sub_one_eq_mod n.toNat 64
    rw [e, p2_64]; omega
  · have hm := p2_le63 k (by omega)
    have e1 : IntKind.u64.wrap (2 ^ k) = p2 k := IntWalk.u64_in _ (by unfold p2 at *; omega)
    have e2 : IntKind.u64.wrap (p2 k - 1) = p2 k - 1 := IntWalk.u64_in _ (by omega)
    rw [e1, e2, u64_and n _ h0 (by omega) (by omega) (by omega)]
    have ep : p2 k = ((2 ^ k : Nat) : Int) := by unfold p2; simp
    have ek : (p2 k - 1).toNat = 2 ^ k - 1 := by rw [ep]; omega
    rw [ek, Nat.and_two_pow_sub_one_eq_mod, ep]
    obtain ⟨m, rfl⟩ := Int.eq_ofNat_of_zero_le h0
    simp

/-- The distance of two numbers. -/
def dst (x last : Int) : Int := max x last - min x last
theorem ret_int {k : IntKind} {a b : Int} (h : a = b) : Ending.returned (.int k a) = .returned (.int k b) := by rw [h]
theorem ret_bool {a b : Bool} (h : a = b) : Ending.returned (.bool a) = .returned (.bool b) := by rw [h]

def kp (b : Int) : Nat := (max 1 (min b 63)).toNat
theorem kp_bd (b : Int) : 1 ≤ kp b ∧ kp b ≤ 63 := by unfold kp; omega
/-- What is known of the parts: all linear. -/
structure Parts (last low q r l p : Int) : Prop where
  p2 : 2 ≤ p
  pm : p ≤ 9223372036854775808
  r0 : 0 ≤ r
  rp : r < p
  l0 : 0 ≤ l
  lp : l < p
  q0 : 0 ≤ q
  qp : q = 0 ∨ p ≤ q
  qm : q + p = 18446744073709551616 ∨ q + p + p ≤ 18446744073709551616
  e : last = q + r
theorem parts (last low b : Int) (h0 : 0 ≤ last) (h1 : last ≤ 18446744073709551615) :
    Parts last low (last - last % p2 (kp b)) (last % p2 (kp b)) (low % p2 (kp b)) (p2 (kp b)) := by
  have hk := kp_bd b
  have hp1 : 2 ≤ p2 (kp b) := by have := p2_mono 1 (kp b) hk.1; rw [show p2 1 = 2 by decide] at this; exact this
  have hp2 := p2_le63 (kp b) hk.2
  obtain ⟨c, hc⟩ := p2_dvd (kp b) (by omega)
  generalize p2 (kp b) = p at *
  have hr0 := Int.emod_nonneg last (show p ≠ 0 by omega)
  have hr1 := Int.emod_lt_of_pos last (show 0 < p by omega)
  have hl0 := Int.emod_nonneg low (show p ≠ 0 by omega)
  have hl1 := Int.emod_lt_of_pos low (show 0 < p by omega)
  have hq : last - last % p = p * (last / p) := by have := Int.mul_ediv_add_emod last p; omega
  have hd0 : 0 ≤ last / p := Int.ediv_nonneg h0 (by omega)
  have hdc : last / p < c := by
    refine Int.lt_of_mul_lt_mul_left (a := p) ?_ (by omega)
    omega
  rw [hq]
  generalize hm : last / p = m at *
  have hmp : 0 ≤ p * m := Int.mul_nonneg (by omega) hd0
  refine ⟨hp1, hp2, hr0, hr1, hl0, hl1, hmp, ?_, ?_, by omega⟩
  · by_cases h : m = 0
    · left; rw [h]; simp
    · right
      have : p * 1 ≤ p * m := Int.mul_le_mul_of_nonneg_left (by omega) (by omega)
      omega
  · by_cases h : m + 1 = c
    · left
      have : p * (m + 1) = p * c := by rw [h]
      rw [Int.mul_add] at this; omega
    · right
      have : p * (m + 1 + 1) ≤ p * c := Int.mul_le_mul_of_nonneg_left (by omega) (by omega)
      rw [Int.mul_add, Int.mul_add] at this; omega
theorem wrap_u64 (n : Int) : IntKind.u64.wrap n = n % 18446744073709551616 := IntKind.wrap_u64 n
end Go.Proofs.YtcbliliinmfnjaaDoor.Ser

end
section
set_option linter.unusedVariables false
set_option linter.unusedSimpArgs false
namespace Go.Proofs.YtcbliliinmfnjaaDoor.Mem
open Go.RowKit

/-- The slice that begins at A reads the integers zs, and lies in a block below B. -/
def Ints (k : IntKind) (w : World) (B : Nat) (A : Option Addr) (zs : List Int) : Prop :=
  zs = [] ∨ ∃ b off, A = some ⟨b, off, none⟩ ∧ b < B ∧ ∀ j, j < zs.length → w.cell? ⟨b, off + j, none⟩ = some (.int k (zs.getD j 0))

section
variable {k : IntKind} {w w' : World} {B B' : Nat} {A : Option Addr} {zs : List Int}
theorem Ints.at_ {i : Nat} (h : Ints k w B A zs) (hi : i < zs.length) :
    ∃ b off, A = some ⟨b, off, none⟩ ∧ b < B ∧ ∀ j, j < zs.length → w.cell? ⟨b, off + j, none⟩ = some (.int k (zs.getD j 0)) := by
  rcases h with rfl | h
  · simp at hi
  · exact h
theorem Ints.keep (h : Ints k w B A zs) (hk : ∀ p : Addr, p.block < B → w'.cell? p = w.cell? p) : Ints k w' B A zs := by
  rcases h with rfl | ⟨b, off, e, hb, hc⟩
  · exact .inl rfl
  · exact .inr ⟨b, off, e, hb, fun j hj => (hk _ hb).trans (hc j hj)⟩
theorem Ints.more (h : Ints k w B A zs) (hB : B ≤ B') : Ints k w B' A zs := by
  rcases h with rfl | ⟨b, off, e, hb, hc⟩
  · exact .inl rfl
  · exact .inr ⟨b, off, e, by omega, hc⟩
theorem Ints.below (h : Ints k w B A zs) (hb : Below B w w') : Ints k w' B A zs := h.keep fun _ hp => hb.cell hp
theorem Ints.alloc (h : Ints k w B A zs) (hB : B ≤ w.heap.size) (o : Obj) : Ints k (w.alloc o) B A zs := h.below ((Below.refl _ _).alloc hB o)
theorem Ints.drew (h : Ints k w B A zs) : Ints k w.drew B A zs := h
/-- A cut 's[i:]': the model's address is the old one where nothing is left of the capacity. -/
theorem Ints.cut {c i : Nat} (h : Ints k w B A zs) (hi : i ≤ zs.length) (hc : zs.length ≤ c) :
    Ints k w B (if c = i then A else A.map (·.add i)) (zs.drop i) := by
  rcases h with rfl | ⟨b, off, e, hb, hcell⟩
  · simp [Ints]
  · by_cases hz : zs.length = i
    · left; rw [← hz]; simp
    · right
      rw [if_neg (by omega)]
      refine ⟨b, off + i, ?_, hb, fun j hj => ?_⟩
      · subst e
        show some (Addr.add ⟨b, off, none⟩ i) = _
        unfold Addr.add
        by_cases h0 : i = 0
        · simp [h0]
        · simp [h0]
      · have hj' : i + j < zs.length := by simp at hj; omega
        have := hcell (i + j) hj'
        rw [show off + i + j = off + (i + j) by omega, this]
        simp [List.getD, List.getElem?_drop]
theorem Ints.pre {i : Nat} (h : Ints k w B A zs) : Ints k w B A (zs.take i) := by
  rcases h with rfl | ⟨b, off, e, hb, hcell⟩
  · simp [Ints]
  · right
    refine ⟨b, off, e, hb, fun j hj => ?_⟩
    have hj' : j < zs.length := by simp at hj; omega
    rw [hcell j hj']
    have hji : j < i := by simp at hj; omega
    simp [List.getD, List.getElem?_take, hji]
/-- What the call owns reads so. -/
theorem Ints.own {base : Nat} {e : TypeId} {n c : Nat} (h : w.ownsRow base e 1 (.slice A n c) n (zs.map (Value.int k))) : Ints k w w.heap.size A zs := by
  rcases h.2 with ⟨hv, hn⟩ | ⟨g, cap, cur, hv, hbg, hg, hnc, hcm, hcs, htake⟩
  · left
    have := h.1; simp [hn] at this; exact this
  · by_cases hz : zs = []
    · exact .inl hz
    · right
      injection hv with hA hn hc
      subst hA
      have hlt : g < w.heap.size := by
        rcases Nat.lt_or_ge g w.heap.size with hlt | hge
        · exact hlt
        · rw [Array.getElem?_eq_none hge] at hg; cases hg
      refine ⟨g, 0, rfl, hlt, fun j hj => ?_⟩
      have hcell := h.cells (g := g) rfl j (.int k (zs.getD j 0)) (by simp [List.getD, List.getElem?_map, hj])
      have e : (⟨g, 0, none⟩ : Addr).add j = ⟨g, 0 + j, none⟩ := by
        unfold Addr.add
        by_cases h0 : j = 0
        · simp [h0]
        · simp [h0]
      rw [← e]; exact hcell
theorem own_cap {base : Nat} {e : TypeId} {n c : Nat} {xs : List Value} (h : w.ownsRow base e 1 (.slice A n c) n xs) : n ≤ c := by
  rcases h.2 with ⟨hv, hn⟩ | ⟨g, cap, cur, hv, hbg, hg, hnc, hcm, hcs, htake⟩
  · injection hv with hA hn' hc; omega
  · injection hv with hA hn' hc; omega
/-- Its form. -/
theorem own_form {base : Nat} {e : TypeId} {size n : Nat} {v : Value} {xs : List Value} (h : w.ownsRow base e size v n xs) : ∃ A c, v = .slice A n c := by
  rcases h.2 with ⟨hv, hn⟩ | ⟨g, cap, cur, hv, _⟩
  · exact ⟨none, 0, by rw [hv, hn]⟩
  · exact ⟨_, _, hv⟩
end

/-- Block g is known whole. -/
def Blk (w : World) (g : Nat) (t : TypeId) (cs : Array Value) : Prop := w.heap[g]? = some (.cells cs t (0, 0))
section
variable {w w' : World} {g : Nat} {t : TypeId} {cs : Array Value}
theorem Blk.lt (h : Blk w g t cs) : g < w.heap.size := by
  rcases Nat.lt_or_ge g w.heap.size with hlt | hge
  · exact hlt
  · unfold Blk at h
    rw [Array.getElem?_eq_none hge] at h
    cases h
theorem Blk.cell (h : Blk w g t cs) (i : Nat) : w.cell? ⟨g, i, none⟩ = cs[i]? := cell_of_row w g i cs t (0, 0) h
theorem Blk.fresh (w : World) (t : TypeId) (cs : Array Value) : Blk (w.alloc (.cells cs t)) w.heap.size t cs := heap_alloc_new w _
theorem Blk.alloc (h : Blk w g t cs) (o : Obj) : Blk (w.alloc o) g t cs := by
  have hl := h.lt
  unfold Blk at *; rw [Below.heap_alloc w o g hl]; exact h
theorem Blk.below {B : Nat} (h : Blk w g t cs) (hb : Below B w w') (hg : g < B) : Blk w' g t cs := by
  unfold Blk at *; rw [hb.block g hg]; exact h
theorem Blk.drew (h : Blk w g t cs) : Blk w.drew g t cs := h
/-- An append onto a row of another element type leaves it. -/
theorem Blk.grown {base : Nat} {e : TypeId} {size n : Nat} {v : Value} {xs : List Value} (h : Blk w g t cs) (hown : w.ownsRow base e size v n xs) (hne : e ≠ t) (hg : w.grownBy w' v.ownBlock) : Blk w' g t cs := by
  have hb : some g ≠ v.ownBlock := by
    rcases hown.2 with ⟨rfl, _⟩ | ⟨g', cap, cur, rfl, _, hh, _⟩
    · simp [Value.ownBlock]
    · intro he
      have e1 : g = g' := by simpa [Value.ownBlock] using he
      subst e1
      unfold Blk at h
      rw [h] at hh
      injection hh with hh
      injection hh with _ ht
      exact hne ht.symm
  have hl := h.lt
  unfold Blk at *
  rw [hg.block g hl hb]; exact h
end

section
variable {P : Program} {w : World}
/-- append onto a row of the call's own, of a slice that reads as zs: nil and empty ones too. -/
theorem run_append_ints (k : IntKind) (base : Nat) (t ty e : TypeId) (i : TypeInfo) (z : Value) (bytes : Nat) (ht : P.underlying t = some (.slice e)) (hi : P.info? e = some i) (hz : i.zero = some z)
    (hsize : i.size = 1) (hby : i.bytes = bytes) (hzs : z.cells.size = 1)
    (v : Value) (n : Nat) (xs : List Value) (hown : w.ownsRow base e 1 v n xs)
    (B : Nat) (A : Option Addr) (m c : Nat) (zs : List Int) (hm : zs.length = m) (hr : Ints k w B A zs) 
    (h63 : n + m ≤ maxLen) (hbytes : (n + m) * bytes ≤ 140737488355328) (hbase : base ≤ w.heap.size) :
    ∃ v' w', (Builtin.append_ #[t, t] ty #[v, .slice A m c]).run P w = .ok v' w' ∧ w'.ownsRow base e 1 v' (n + m) (xs ++ zs.map (Value.int k)) ∧ w.grownBy w' v.ownBlock := by
  have h1 : ∀ u ∈ zs.map (Value.int k), u.oneCell' = true := ints_oneCell k zs
  have go : ∀ ad : Addr, (∀ j u, (zs.map (Value.int k))[j]? = some u → w.cell? (ad.add j) = some u) →
      ∃ v' w', (Builtin.append_ #[t, t] ty #[v, .slice (some ad) m c]).run P w = .ok v' w' ∧ w'.ownsRow base e 1 v' (n + m) (xs ++ zs.map (Value.int k)) ∧ w.grownBy w' v.ownBlock := fun ad hc => by
    obtain ⟨v', w', h2, h3, h4, _⟩ := run_append_own (P := P) w base t ty e i z 1 bytes ht hi hz hsize hby hzs (by decide) v n xs hown ad m c (zs.map (Value.int k)) (by simp [hm]) hc h1 h63 hbytes hbase
    exact ⟨v', w', h2, h3, h4⟩
  rcases hr with hnil | ⟨b, off, rfl, hb, hcell⟩
  · subst hnil
    have hm0 : m = 0 := by simpa using hm.symm
    subst hm0
    cases A with
    | none =>
      refine ⟨v, w, ?_, by simpa using hown, World.grownBy.refl w _⟩
      rcases hown.2 with ⟨rfl, rfl⟩ | ⟨g, cap, cur, rfl, _, _, hnc, _⟩
      · simp [Builtin.append_, run_underlying ht, sizeOf, typeInfo, hi, Builtin.lenOf, Builtin.firstCells]
      · simp [Builtin.append_, run_underlying ht, sizeOf, typeInfo, hi, Builtin.lenOf, Builtin.firstCells, hnc, storeCells]
    | some ad => exact go ad (by simp)
  · refine go _ fun j u hu => ?_
    have hj : j < zs.length := by
      rcases Nat.lt_or_ge j zs.length with h | h
      · exact h
      · simp [List.getElem?_eq_none h] at hu
    have e1 : (⟨b, off, none⟩ : Addr).add j = ⟨b, off + j, none⟩ := by
      unfold Addr.add
      by_cases h0 : j = 0
      · simp [h0]
      · simp [h0]
    rw [e1, hcell j hj]
    simp [List.getElem?_map, List.getElem?_eq_getElem hj] at hu
    simp [List.getD, List.getElem?_eq_getElem hj, hu]
theorem wpList_append_ints {ops : Array Oper} {rest : List Oper} {o : Oper} {a : Act} {Q : Exit → Act → World → Prop} (hgd : o.guard = none) (s x : Operand) (t : TypeId)
    (ho : o.op = .call { callee := .builtin .append, args := #[s, x], argTypes := #[t, t] })
    (k : IntKind) (base : Nat) (e : TypeId) (i : TypeInfo) (z : Value) (bytes : Nat) (ht : P.underlying t = some (.slice e)) (hi : P.info? e = some i) (hz : i.zero = some z)
    (hsize : i.size = 1) (hby : i.bytes = bytes) (hzs : z.cells.size = 1)
    (v : Value) (n : Nat) (xs : List Value) (hs : a.eval s = v) (hown : w.ownsRow base e 1 v n xs)
    (B : Nat) (A : Option Addr) (m c : Nat) (zs : List Int) (hx : a.eval x = .slice A m c) (hm : zs.length = m) (hr : Ints k w B A zs)
    (h63 : n + m ≤ maxLen) (hbytes : (n + m) * bytes ≤ 140737488355328) (hbase : base ≤ w.heap.size)
    (h : ∀ v' w', w'.ownsRow base e 1 v' (n + m) (xs ++ zs.map (Value.int k)) → Below base w w' → w.grownBy w' v.ownBlock → wpList P ops Q rest (a.put o.dst v') w') : wpList P ops Q (o :: rest) a w := by
  refine wpList_plain hgd fun K hK => ?_
  obtain ⟨v', w', hrun, h2, h3⟩ := run_append_ints (P := P) (w := w) k base t o.type e i z bytes ht hi hz hsize hby hzs v n xs hown B A m c zs hm hr h63 hbytes hbase
  unfold Oper.wp execOp
  simp only [ho, resolve, invoke, builtin, Sem.run_bind, Sem.run_pure, Result.andThen_ok, List.map_toArray, List.map_cons, List.map_nil, hs, hx, hrun]
  exact hK _ _ (h v' w' h2 ((Below.refl base w).grown h3 hbase fun g hg => (hown.lt g hg).1) h3)
/-- A new block of some integers, as the model lays it for what is to be appended. -/
theorem Ints.lit (k : IntKind) (w : World) (zs : List Int) (cs : Array Value) (e : TypeId) (h : cs = (zs.map (Value.int k)).toArray) : Ints k (w.alloc (.cells cs e)) (w.heap.size + 1) (some ⟨w.heap.size, 0, none⟩) zs := by
  right
  refine ⟨w.heap.size, 0, rfl, by omega, fun j hj => ?_⟩
  rw [World.cell?_alloc_at _ _ _ _ rfl, h]
  simp [List.getD, List.getElem?_eq_getElem hj]
/-- string(b) of a slice of bytes, nil and empty ones too. -/
theorem run_string_ints (src e : TypeId) (hs : P.underlying src = some (.slice e)) (he : P.underlying e = some (.int .u8)) {dst : TypeId} (hd : P.underlying dst = some .string)
    (B : Nat) (A : Option Addr) (n c : Nat) (zs : List Int) (hz : zs.length = n) (hr : Ints .u8 w B A zs) :
    (convert src dst (.slice A n c)).run P w = .ok (.string (strOfNums zs)) w := by
  rcases hr with rfl | ⟨b, off, rfl, _, hc⟩
  · have hn : n = 0 := by simpa using hz.symm
    subst hn
    cases A with
    | none => exact run_convert_bytes_nil w src e hs he 0 c dst hd
    | some ad =>
      rw [run_convert_bytes_string w src dst e _ 0 c hs he hd, run_bytesToString w ad 0 c [] (by simp [loadCells, loadCellsFrom])]
      rfl
  · exact run_convert_bytes_arg w src e hs he b off n c zs hz (fun i hi => hc i (by omega)) dst hd
/-- Integers that are bytes. -/
def Bytes (zs : List Int) : Prop := ∀ z ∈ zs, 0 ≤ z ∧ z ≤ 255
theorem strOfNums_inj {xs ys : List Int} (hx : Bytes xs) (hy : Bytes ys) : strOfNums xs = strOfNums ys ↔ xs = ys := by
  refine ⟨fun h => ?_, fun h => by rw [h]⟩
  have h1 : xs.map (fun n => UInt8.ofNat n.toNat) = ys.map (fun n => UInt8.ofNat n.toNat) := by
    rw [← strOfNums_data, ← strOfNums_data, h]
  clear h
  induction xs generalizing ys with
  | nil => cases ys with
    | nil => rfl
    | cons y ys => simp at h1
  | cons x xs ih => cases ys with
    | nil => simp at h1
    | cons y ys =>
      simp only [List.map_cons, List.cons.injEq] at h1
      have bx := hx x (by simp)
      have by_ := hy y (by simp)
      have e1 : x.toNat = y.toNat := by
        have := congrArg UInt8.toNat h1.1
        simp at this; omega
      have e2 : x = y := by omega
      rw [e2, ih (fun z hz => hx z (by simp [hz])) (fun z hz => hy z (by simp [hz])) h1.2]
end
end Go.Proofs.YtcbliliinmfnjaaDoor.Mem

end
section
set_option linter.unusedVariables false
namespace Go.Proofs.YtcbliliinmfnjaaDoor.Clk

/-- The number from lo to hi that is nearest to n. -/
def lim (n lo hi : Int) : Int := max lo (min n hi)
theorem lim_eq {n lo hi : Int} (h : lo ≤ hi) : n = lim n lo hi ↔ lo ≤ n ∧ n ≤ hi := by unfold lim; omega

theorem mul_bd {a b A B : Int} (ha : 0 ≤ a) (ha' : a ≤ A) (hb : -B ≤ b) (hb' : b ≤ B) : -(A * B) ≤ a * b ∧ a * b ≤ A * B := by
  have hB : 0 ≤ B := by omega
  have h1 : a * b ≤ a * B := Int.mul_le_mul_of_nonneg_left hb' ha
  have h2 : a * B ≤ A * B := Int.mul_le_mul_of_nonneg_right ha' hB
  have h3 : a * (-B) ≤ a * b := Int.mul_le_mul_of_nonneg_left hb ha
  have h4 : a * (-B) = -(a * B) := Int.mul_neg a B
  omega

end Go.Proofs.YtcbliliinmfnjaaDoor.Clk

end
section
set_option linter.unusedVariables false
set_option linter.unusedSimpArgs false
namespace Go.Proofs.YtcbliliinmfnjaaDoor.Clk
open Go.RowKit Mem

theorem frz {w : World} {a : Nat} {t : TypeId} {c : Array Value} (h : Mem.Blk w a t c) (j : Nat) : w.frozen? ⟨a, j, none⟩ = false := by
  simp [World.frozen?, show w.heap[a]? = _ from h]
end Go.Proofs.YtcbliliinmfnjaaDoor.Clk

end
section
set_option linter.unusedVariables false
set_option linter.unusedSimpArgs false
namespace Go.Proofs.YtcbliliinmfnjaaDoor.Clk
open Go.RowKit Mem

theorem i64_in (x : Int) (h : -9223372036854775808 ≤ x ∧ x ≤ 9223372036854775807) : IntKind.i64.wrap x = x := by
  simp only [IntKind.wrap, IntKind.bits, IntKind.signed]; simp; split <;> omega
def okC (p s : Int) : Int := if -500 ≤ p ∧ p ≤ 500 ∧ 0 ≤ s ∧ s ≤ 1099511627776 then 0 else 5
end Go.Proofs.YtcbliliinmfnjaaDoor.Clk

end
section
set_option linter.unusedVariables false
set_option linter.unusedSimpArgs false
namespace Go.Proofs.YtcbliliinmfnjaaDoor.Clk
open Go.RowKit Mem

end Go.Proofs.YtcbliliinmfnjaaDoor.Clk

end
