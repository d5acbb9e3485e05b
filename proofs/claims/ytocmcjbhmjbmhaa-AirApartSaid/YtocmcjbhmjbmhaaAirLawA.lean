/- The statement on transmissions apart, walked: it returns true. -/
import Derived.Test.YtocmcjbhmjbmhaaAirLawA0
import Derived.Test.YtocmcjbhmjbmhaaAirLawA1
import Derived.Test.YtocmcjbhmjbmhaaAirLawA2
set_option linter.unusedVariables false
set_option linter.unusedSimpArgs false
namespace Go.Proofs.Ytocmcjbhmjbmhaa.Air
open Go.RowKit Mem Rw Base Rd

theorem apart_law (m : Med) (q : Pl) (A : Option Addr) (c : Nat) (xs : List Tx) (l : Ln) (k : Int) (w : World) (ga : GoodA w (m, q)) (ta : TxsAt w w.heap.size A xs) (g : ∀ x ∈ xs, GoodT w x) (hc : xs.length ≤ c) (hb : c * 56 ≤ 140737488351232) (gl : GoodL l) (hk : -9223372036854775808 ≤ k ∧ k ≤ 9223372036854775807) :
    Calls Try.prog 9 #[mv m q, .slice A xs.length c, .agg #[.int .i64 l.dev, .int .i64 l.ch, .int .i64 l.st, .int .i64 l.en], .int .i64 k] w fun e w' => e = .returned (.bool true) ∧ Below w.heap.size w w' := by
  by_cases hr : ¬ fewP m xs.length ∨ k < 0 ∨ (xs.length : Int) ≤ k ∨ chk m (xs.map Tx.tr) ≠ 0
  · exact apart_rare m q A c xs l k w ga ta g hc hb hr
  · have hf : fewP m xs.length := Decidable.byContradiction fun h => hr (.inl h)
    have h0 : ¬ k < 0 := fun h => hr (.inr (.inl h))
    have h1 : ¬ (xs.length : Int) ≤ k := fun h => hr (.inr (.inr (.inl h)))
    have hz : chk m (xs.map Tx.tr) = 0 := Decidable.byContradiction fun h => hr (.inr (.inr (.inr h)))
    clear hr
    obtain ⟨k, rfl⟩ : ∃ j : Nat, k = (j : Int) := ⟨k.toNat, by omega⟩
    have hkx : k < xs.length := by omega
    obtain ⟨x, hx, hxm⟩ := has (l := xs) rfl hkx
    by_cases hX : x.frm = l.dev ∨ x.ch = l.ch
    · exact apart_near m q A c xs l k x w ga ta g hc hb hf hz hkx hx hX
    · have hX1 : x.frm ≠ l.dev := fun h => hX (.inl h)
      have hX2 : x.ch ≠ l.ch := fun h => hX (.inr h)
      have near := chk_near hz
      have e1 : xs.map Tx.tr = (xs.take k).map Tx.tr ++ x.tr :: (xs.drop (k + 1)).map Tx.tr := by
        rw [← List.map_cons, ← List.map_append]
        congr 1
        obtain ⟨hlt, he⟩ := List.getElem?_eq_some_iff.mp hx
        rw [← he, ← List.drop_eq_getElem_cons hlt, List.take_append_drop]
      have e2 : (xs.take k ++ xs.drop (k + 1)).map Tx.tr = (xs.take k).map Tx.tr ++ (xs.drop (k + 1)).map Tx.tr := List.map_append
      have near2 : ∀ t ∈ (xs.take k ++ xs.drop (k + 1)).map Tx.tr, Near t := fun t ht => near t (by
        rw [e2] at ht
        rw [e1]
        rcases List.mem_append.mp ht with h | h
        · exact List.mem_append_left _ h
        · exact List.mem_append_right _ (List.mem_cons_of_mem _ h))
      have am := apart_math m ((xs.take k).map Tx.tr) ((xs.drop (k + 1)).map Tx.tr) x.tr l hX1 hX2
      rw [← e1, ← e2] at am
      have hn64 : xs.length ≤ 64 := hf.2.2.2
      cases hh : hearR m ((xs.take k ++ xs.drop (k + 1)).map Tx.tr) l with
      | none =>
        have hh' := am.1 hh
        refine apart_core m q A c xs l k x 0 0 0 0 0 [] false w ga ta g hc hb hf hz hkx hx hX1 hX2 (fun w' p A' c' l' h1 h2 h3 h4 => ?_) (fun w' p A' c' l' h1 h2 h3 h4 => ?_)
        · refine (hear_m m p A' c' xs.length l' _ l w' h1 h2 (by omega) near h3 h4).mono ?_
          rintro e w2 ⟨hq, bb⟩
          unfold HearsTo at hq
          rw [hh'] at hq
          exact ⟨none, 0, hq, .inl rfl, bb⟩
        · refine (hear_m m p A' c' _ l' _ l w' h1 h2 (by omega) near2 h3 h4).mono ?_
          rintro e w2 ⟨hq, bb⟩
          unfold HearsTo at hq
          rw [hh] at hq
          exact ⟨none, 0, hq, .inl rfl, bb⟩
      | some bt =>
        obtain ⟨b, t⟩ := bt
        obtain ⟨b2, hh', hd⟩ := am.2 b t hh
        refine apart_core m q A c xs l k x t.id l.dev (disT m ((xs.take k ++ xs.drop (k + 1)).map Tx.tr) t b l.dev) t.st (endT t) (heard (disT m ((xs.take k ++ xs.drop (k + 1)).map Tx.tr) t b l.dev) t.bs) true w ga ta g hc hb hf hz hkx hx hX1 hX2 (fun w' p A' c' l' h1 h2 h3 h4 => ?_) (fun w' p A' c' l' h1 h2 h3 h4 => ?_)
        · refine (hear_m m p A' c' xs.length l' _ l w' h1 h2 (by omega) near h3 h4).mono ?_
          rintro e w2 ⟨hq, bb⟩
          unfold HearsTo at hq
          rw [hh'] at hq
          obtain ⟨RA, rc, bs, he, hbs, _, hN⟩ := hq
          rw [hd] at he hbs
          subst hbs
          exact ⟨RA, rc, he, hN, bb⟩
        · refine (hear_m m p A' c' _ l' _ l w' h1 h2 (by omega) near2 h3 h4).mono ?_
          rintro e w2 ⟨hq, bb⟩
          unfold HearsTo at hq
          rw [hh] at hq
          obtain ⟨RA, rc, bs, he, hbs, _, hN⟩ := hq
          subst hbs
          exact ⟨RA, rc, he, hN, bb⟩
end Go.Proofs.Ytocmcjbhmjbmhaa.Air
