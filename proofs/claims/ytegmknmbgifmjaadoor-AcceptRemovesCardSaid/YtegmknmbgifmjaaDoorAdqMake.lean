/- Making an address of a number: contracts over the program. -/
import Derived.Test.YtegmknmbgifmjaaDoorAdqCheck
set_option linter.unusedVariables false
set_option linter.unusedSimpArgs false
namespace Go.Proofs.YtegmknmbgifmjaaDoor.Adr
open Go.RowKit Mem Oct Base

/-- What is known when two numbers are laid into a box. -/
theorem wrote {w W : World} {B g : Nat} {x y u v : Value} {t : TypeId} (hbel : Below B w W) (hg : B ≤ g) (F : Mem.Blk W g t #[u, v]) :
    W.cell? ⟨g, 0, none⟩ = some u ∧ W.cell? ⟨g, 1, none⟩ = some v ∧ W.frozen? ⟨g, 0, none⟩ = false ∧ W.frozen? ⟨g, 1, none⟩ = false ∧
    ((W.setCell ⟨g, 0, none⟩ x).setCell ⟨g, 1, none⟩ y).cell? ⟨g, 0, none⟩ = some x ∧ ((W.setCell ⟨g, 0, none⟩ x).setCell ⟨g, 1, none⟩ y).cell? ⟨g, 1, none⟩ = some y ∧
    Below B w ((W.setCell ⟨g, 0, none⟩ x).setCell ⟨g, 1, none⟩ y) := by
  have h0 : W.cell? ⟨g, 0, none⟩ = some u := F.cell 0
  have h1 : W.cell? ⟨g, 1, none⟩ = some v := F.cell 1
  have e0 : (W.setCell ⟨g, 0, none⟩ x).cell? ⟨g, 0, none⟩ = some x := World.cell?_setCell_same' _ _ _ (by rw [h0]; rfl)
  have e1 : (W.setCell ⟨g, 0, none⟩ x).cell? ⟨g, 1, none⟩ = some v := (World.cell?_setCell_other _ _ _ _ (by simp)).trans h1
  exact ⟨h0, h1, frozen_of_row W g 0 _ t F, frozen_of_row W g 1 _ t F, (World.cell?_setCell_other _ _ _ _ (by simp)).trans e0, World.cell?_setCell_same' _ _ _ (by rw [e1]; rfl),
    hbel.trans ((((Below.refl B W).setCell (p := ⟨g, 0, none⟩) hg _).setCell (p := ⟨g, 1, none⟩) hg _))⟩
/-- Joining lower bits to a number that has none. -/
theorem or_add (k : Nat) (x y : Int) (hx : 0 ≤ x) (hm : x + y ≤ 18446744073709551615) (hy : 0 ≤ y) (hy' : y < 2 ^ k) (hd : x % 2 ^ k = 0) : bits BinOp.or IntKind.u64 x y = x + y := by
  obtain ⟨m, rfl⟩ := Int.eq_ofNat_of_zero_le hx
  obtain ⟨n, rfl⟩ := Int.eq_ofNat_of_zero_le hy
  rw [u64_or _ _ (by omega) (by omega) (by omega) (by omega), Int.toNat_natCast, Int.toNat_natCast]
  have hn : n < 2 ^ k := by have : ((n : Nat) : Int) < ((2 ^ k : Nat) : Int) := by push_cast; exact hy'
                            omega
  have hd' : m % 2 ^ k = 0 := by
    have : ((m % 2 ^ k : Nat) : Int) = 0 := by push_cast; exact hd
    omega
  have h := Nat.div_add_mod m (2 ^ k)
  rw [hd', Nat.add_zero] at h
  have e := Nat.two_pow_add_eq_or_of_lt hn (m / 2 ^ k)
  rw [h] at e
  rw [← e]; simp
end Go.Proofs.YtegmknmbgifmjaaDoor.Adr
