/- Rows of changes of the call's own: what an append leaves, and where. No function is mentioned. -/
import Derived.Test.YtejojcanmlgegaaInLists
import Derived.Test.YtejojcanmlgegaaAirOwn0
import Derived.Maps.AppendAt
import Derived.Deep.RegionLaw
set_option linter.unusedVariables false
set_option linter.unusedSimpArgs false
namespace Go.Proofs.Ytejojcanmlgegaa.Nst
open Go.RowKit Mem Rw Base

def Far (V V' : Value) : Prop := ∀ g, V.ownBlock = some g → V'.ownBlock ≠ some g
theorem Far.symm {V V' : Value} (h : Far V V') : Far V' V := fun g h1 h2 => h g h2 h1
theorem Far.nil (V : Value) : Far (.slice none 0 0) V := fun g h => by simp [Value.ownBlock] at h
section
variable {w w' : World} {B k n m : Nat} {e : TypeId} {U V V' : Value} {xs ys : List Value}
/-- Another row, when a row grew. -/
theorem own_grow (h : w.ownsRow B e k U n xs) (hg : w.grownBy w' V.ownBlock) (hf : Far U V) : w'.ownsRow B e k U n xs := by
  refine ⟨h.1, ?_⟩
  rcases h.2 with h' | ⟨g, cap, cur, hv, hbg, hk, r⟩
  · exact .inl h'
  · refine .inr ⟨g, cap, cur, hv, hbg, ?_, r⟩
    have hlt : g < w.heap.size := by
      rcases Nat.lt_or_ge g w.heap.size with hlt | hge
      · exact hlt
      · rw [Array.getElem?_eq_none hge] at hk; cases hk
    have e : U.ownBlock = some g := by rw [hv]; rfl
    rw [hg.block g hlt (fun h => hf g e h.symm)]; exact hk
theorem far_grow (h : Far U V) (hl : ∀ g, U.ownBlock = some g → g < w.heap.size) (hp : V'.ownBlock = V.ownBlock ∨ V'.ownBlock = some w.heap.size) : Far U V' := fun g h1 h2 => by
  rcases hp with e | e
  · exact h g h1 (by rw [← e]; exact h2)
  · rw [e] at h2
    have := hl g h1
    injection h2 with h2
    omega
theorem own_lt (h : w.ownsRow B e k U n xs) : ∀ g, U.ownBlock = some g → g < w.heap.size := fun g hg => (h.lt g hg).2
end
section
variable {P : Program} {w : World}
theorem wpList_append_at {ops : Array Oper} {rest : List Oper} {o : Oper} {a : Act} {Q : Exit → Act → World → Prop} (hgd : o.guard = none) (s x : Operand) (t : TypeId)
    (ho : o.op = .call { callee := .builtin .append, args := #[s, x], argTypes := #[t, t] })
    (base : Nat) (e : TypeId) (i : TypeInfo) (z : Value) (k bytes : Nat) (ht : P.underlying t = some (.slice e)) (hi : P.info? e = some i) (hz : i.zero = some z)
    (hsize : i.size = k) (hby : i.bytes = bytes) (hzs : z.cells.size = k) (hk0 : 0 < k)
    (v : Value) (n : Nat) (xs : List Value) (hs : a.eval s = v) (hown : w.ownsRow base e k v n xs)
    (g m c : Nat) (ys : List Value) (hx : a.eval x = .slice (some ⟨g, 0, none⟩) m c) (hm : ys.length = m * k) (h1 : ∀ u ∈ ys, u.oneCell' = true) (hr : CellsAt w w.heap.size (some ⟨g, 0, none⟩) ys)
    (h63 : n + m ≤ maxLen) (hbytes : (n + m) * bytes ≤ 140737488355328) (hbase : base ≤ w.heap.size)
    (h : ∀ v' w', w'.ownsRow base e k v' (n + m) (xs ++ ys) → Below base w w' → w.grownBy w' v.ownBlock → (v'.ownBlock = v.ownBlock ∨ v'.ownBlock = some w.heap.size) → wpList P ops Q rest (a.put o.dst v') w') : wpList P ops Q (o :: rest) a w := by
  refine wpList_plain hgd fun K hK => ?_
  obtain ⟨v', w', hrun, h2, h3, _, h4⟩ := run_append_own_at (P := P) w base t o.type e i z k bytes ht hi hz hsize hby hzs hk0 v n xs hown ⟨g, 0, none⟩ m c ys hm (fun j u hj => by
    rcases hr with hr | ⟨b, off, e, _, hc⟩
    · rw [hr] at hj; simp at hj
    · injection e with e
      injection e with e1 e2 e3
      subst e1; subst e2
      rw [plain_add]
      exact hc j u hj) h1 h63 hbytes hbase
  unfold Oper.wp execOp
  simp only [ho, resolve, invoke, builtin, Sem.run_bind, Sem.run_pure, Result.andThen_ok, List.map_toArray, List.map_cons, List.map_nil, hs, hx, hrun]
  exact hK _ _ (h v' w' h2 ((Below.refl base w).grown h3 hbase fun g hg => (hown.lt g hg).1) h3 h4)
end
end Go.Proofs.Ytejojcanmlgegaa.Nst
