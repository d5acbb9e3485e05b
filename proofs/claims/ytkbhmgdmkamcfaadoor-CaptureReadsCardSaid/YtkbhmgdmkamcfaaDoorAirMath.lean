/- What the layer of the medium speaks of: transmissions, links, jams, losses, listens, as lists; and what happens to them. No program is mentioned. -/
import Derived.Test.YtkbhmgdmkamcfaaDoorRw
set_option linter.unusedVariables false
set_option linter.unusedSimpArgs false
namespace Go.Proofs.YtkbhmgdmkamcfaaDoor.Air
open Go.RowKit Mem Rw

/-- A transmission, its bytes by value. -/
structure Tr where
  id : Int
  frm : Int
  ch : Int
  st : Int
  bs : List Int
/-- The same as it lies in memory. -/
structure Tx where
  id : Int
  frm : Int
  ch : Int
  st : Int
  A : Option Addr
  c : Nat
  bs : List Int
def Tx.tr (x : Tx) : Tr := ⟨x.id, x.frm, x.ch, x.st, x.bs⟩
def encT (x : Tx) : List Value := [.int .i64 x.id, .int .i64 x.frm, .int .i64 x.ch, .int .i64 x.st, .slice x.A x.bs.length x.c]
def encP (p : Int × Int) : List Value := [.int .i64 p.1, .int .i64 p.2]
structure Jm where
  ch : Int
  st : Int
  en : Int
def encJ (j : Jm) : List Value := [.int .i64 j.ch, .int .i64 j.st, .int .i64 j.en]
structure Ln where
  dev : Int
  ch : Int
  st : Int
  en : Int
def encL (l : Ln) : List Value := [.int .i64 l.dev, .int .i64 l.ch, .int .i64 l.st, .int .i64 l.en]
theorem sizT : Sized encT 5 := fun x => ⟨rfl, fun u hu => by simp [encT] at hu; rcases hu with rfl | rfl | rfl | rfl | rfl <;> rfl⟩
theorem sizP : Sized encP 2 := fun x => ⟨rfl, fun u hu => by simp [encP] at hu; rcases hu with rfl | rfl <;> rfl⟩
theorem sizJ : Sized encJ 3 := fun x => ⟨rfl, fun u hu => by simp [encJ] at hu; rcases hu with rfl | rfl | rfl <;> rfl⟩
theorem sizL : Sized encL 4 := fun x => ⟨rfl, fun u hu => by simp [encL] at hu; rcases hu with rfl | rfl | rfl | rfl <;> rfl⟩

/-- An integer of 64 bits. -/
def I64 (z : Int) : Prop := -9223372036854775808 ≤ z ∧ z ≤ 9223372036854775807
/-- The bytes of a transmission, where it says. -/
def Own (w : World) (B : Nat) (x : Tx) : Prop := x.bs.length ≤ x.c ∧ x.bs.length ≤ 140737488351232 ∧ Ints .u8 w B x.A x.bs
def TxsAt (w : World) (B : Nat) (A : Option Addr) (l : List Tx) : Prop := ListAt encT w B A l ∧ ∀ x ∈ l, Own w B x
theorem Own.below {w w' : World} {B : Nat} {x : Tx} (h : Own w B x) (hb : Below B w w') : Own w' B x := ⟨h.1, h.2.1, h.2.2.below hb⟩
theorem Own.more {w : World} {B B' : Nat} {x : Tx} (h : Own w B x) (hB : B ≤ B') : Own w B' x := ⟨h.1, h.2.1, h.2.2.more hB⟩
theorem TxsAt.below {w w' : World} {B : Nat} {A : Option Addr} {l : List Tx} (h : TxsAt w B A l) (hb : Below B w w') : TxsAt w' B A l := ⟨CellsAt.below h.1 hb, fun x hx => (h.2 x hx).below hb⟩
theorem TxsAt.more {w : World} {B B' : Nat} {A : Option Addr} {l : List Tx} (h : TxsAt w B A l) (hB : B ≤ B') : TxsAt w B' A l := ⟨CellsAt.more h.1 hB, fun x hx => (h.2 x hx).more hB⟩
theorem TxsAt.later {w w' : World} {A : Option Addr} {l : List Tx} (h : TxsAt w w.heap.size A l) (hb : Below w.heap.size w w') : TxsAt w' w'.heap.size A l := (h.below hb).more hb.size

/-- A medium. -/
structure Med where
  dev : Int
  links : List (Int × Int)
  jams : List Jm
  loss : List (Int × Int)
/-- Where its three slices begin, and their capacities. -/
structure Pl where
  A : Option Addr
  ac : Nat
  J : Option Addr
  jc : Nat
  S : Option Addr
  sc : Nat
def mv (m : Med) (p : Pl) : Value := .agg #[.int .i64 m.dev, .slice p.A m.links.length p.ac, .slice p.J m.jams.length p.jc, .slice p.S m.loss.length p.sc]
/-- The medium that a struct is. -/
structure MedAt (w : World) (B : Nat) (p : Pl) (m : Med) : Prop where
  a : ListAt encP w B p.A m.links
  j : ListAt encJ w B p.J m.jams
  s : ListAt encP w B p.S m.loss
  ab : m.links.length ≤ 8796093022208
  jb : m.jams.length ≤ 8796093022208
  sb : m.loss.length ≤ 8796093022208
theorem MedAt.below {w w' : World} {B : Nat} {p : Pl} {m : Med} (h : MedAt w B p m) (hb : Below B w w') : MedAt w' B p m := ⟨CellsAt.below h.a hb, CellsAt.below h.j hb, CellsAt.below h.s hb, h.ab, h.jb, h.sb⟩
theorem MedAt.more {w : World} {B B' : Nat} {p : Pl} {m : Med} (h : MedAt w B p m) (hB : B ≤ B') : MedAt w B' p m := ⟨CellsAt.more h.a hB, CellsAt.more h.j hB, CellsAt.more h.s hB, h.ab, h.jb, h.sb⟩
theorem MedAt.later {w w' : World} {p : Pl} {m : Med} (h : MedAt w w.heap.size p m) (hb : Below w.heap.size w w') : MedAt w' w'.heap.size p m := (h.below hb).more hb.size

def airT (n : Int) : Int := 8 * (max 0 n + 10)
def endT (t : Tr) : Int := t.st + 8 * ((t.bs.length : Int) + 10)
def meetB (a b : Tr) : Bool := decide (a.st < endT b) && decide (b.st < endT a)
def overB (a b : Tr) : Bool := decide (a.ch = b.ch) && meetB a b
def inR (ls : List (Int × Int)) (x y : Int) : Bool := (ls.any fun p => p.1 == x && p.2 == y) || ls.any fun p => p.1 == y && p.2 == x
theorem inR_or (ls : List (Int × Int)) (x y : Int) : (ls.any fun p => (p.1 == x && p.2 == y) || (p.1 == y && p.2 == x)) = inR ls x y := by
  unfold inR
  induction ls with
  | nil => rfl
  | cons p r ih => simp only [List.any_cons]; rw [ih]; cases (p.1 == x && p.2 == y) <;> cases (p.1 == y && p.2 == x) <;> simp
theorem airT_len (n : Nat) : airT (n : Int) = 8 * ((n : Int) + 10) := by unfold airT; omega
theorem meetB_comm (a b : Tr) : meetB a b = meetB b a := Bool.and_comm ..
theorem overB_comm (a b : Tr) : overB a b = overB b a := by
  unfold overB
  rw [meetB_comm]
  congr 1
  by_cases h : a.ch = b.ch
  · rw [decide_eq_true h, decide_eq_true h.symm]
  · rw [decide_eq_false h, decide_eq_false (fun e => h e.symm)]
/-- The start of a transmission is small. -/
def Near (t : Tr) : Prop := -1099511627776 ≤ t.st ∧ t.st ≤ 1099511627776
end Go.Proofs.YtkbhmgdmkamcfaaDoor.Air
