/- What a valid medium gives; what happens dd transmissions, and what is heard, by value. -/
import Derived.Test.YtocmcjbhmjbmhaaAirForms
set_option linter.unusedVariables false
set_option linter.unusedSimpArgs false
namespace Go.Proofs.Ytocmcjbhmjbmhaa.Air
open Go.RowKit Mem Rw Base Rd

theorem chkT_all {D : Int} : ∀ {ts : List Tr} {o : Option Tr}, chkT D o ts = 0 → ∀ t ∈ ts, badT D t = false ∧ t.bs.length ≤ 260
  | [], _, _ => by simp
  | t :: r, o, h => by
    rw [chkT] at h
    split at h
    · cases h
    split at h
    · cases h
    split at h
    · cases h
    rename_i h2 h3
    intro u hu
    rcases List.mem_cons.mp hu with rfl | hu
    · exact ⟨by simpa using h2, by omega⟩
    · exact chkT_all h u hu
theorem chk_near {m : Med} {ts : List Tr} (h : chk m ts = 0) : ∀ t ∈ ts, Near t := fun t ht => by
  have := (chkT_all (chk_ok h).2.2.2.2.2.2.2.2 t ht).1
  unfold badT at this
  simp only [Bool.or_eq_false_iff, decide_eq_false_iff_not] at this
  exact ⟨by have := this.1.2; omega, by have := this.2; omega⟩
theorem near_map {l : List Tx} {ts : List Tr} (ht : l.map Tx.tr = ts) (h : ∀ t ∈ ts, Near t) : ∀ y ∈ l, Near y.tr := fun y hy => h _ (by rw [← ht]; exact List.mem_map_of_mem hy)
theorem dist_m (m : Med) (p : Pl) (L : Option Addr) (kc k : Nat) (l : List Tx) (ts : List Tr) (i : Nat) (t : Tr) (dd : Int) (w : World) (hl : l.length = k) (ht : l.map Tx.tr = ts) (hi : ts[i]? = some t) (hk : k ≤ 8796093022208) (hn : ∀ t ∈ ts, Near t) (hm : MedAt w w.heap.size p m) (hr : TxsAt w w.heap.size L l) :
    Calls Try.prog 24 #[mv m p, .slice L k kc, .int .i64 (i : Int), .int .i64 dd] w fun e w' => e = .returned (.int .i64 (disT m ts t i dd)) ∧ Below w.heap.size w w' := by
  subst hl; subst ht
  rw [List.getElem?_map] at hi
  cases hq : l[i]? with
  | none => rw [hq] at hi; cases hi
  | some x =>
    rw [hq] at hi
    obtain rfl : x.tr = t := by simpa using hi
    exact dist_in m p L kc l i x dd w hq hk hm hr (near_map rfl hn)
/-- What Hear returns. -/
def HearsTo (m : Med) (ts : List Tr) (q : Ln) (B : Nat) (e : Ending) (w' : World) : Prop :=
  match hearR m ts q with
  | none => e = .returned (.tuple #[.agg #[.int .i64 0, .int .i64 0, .int .i64 0, .int .i64 0, .int .i64 0, .slice none 0 0], .bool false])
  | some (b, u) => ∃ RA rc bs, e = .returned (.tuple #[.agg #[.int .i64 u.id, .int .i64 q.dev, .int .i64 (disT m ts u b q.dev), .int .i64 u.st, .int .i64 (endT u), .slice RA bs.length rc], .bool true]) ∧ bs = heard (disT m ts u b q.dev) u.bs ∧ bs.length ≤ rc ∧ NewAt w' B RA (bs.map (Value.int .u8))
theorem hear_m (m : Med) (p : Pl) (L : Option Addr) (kc k : Nat) (l : List Tx) (ts : List Tr) (q : Ln) (w : World) (hl : l.length = k) (ht : l.map Tx.tr = ts) (hk : k ≤ 8796093022208) (hn : ∀ t ∈ ts, Near t) (hm : MedAt w w.heap.size p m) (hr : TxsAt w w.heap.size L l) :
    Calls Try.prog 26 #[mv m p, .slice L k kc, .agg #[.int .i64 q.dev, .int .i64 q.ch, .int .i64 q.st, .int .i64 q.en]] w fun e w' => HearsTo m ts q w.heap.size e w' ∧ Below w.heap.size w w' := by
  subst hl; subst ht
  exact hear_any m p L kc l q w hk hm hr (near_map rfl hn)
end Go.Proofs.Ytocmcjbhmjbmhaa.Air
