/- The bytes of a record: the layer's answer. -/
import Derived.Test.YtkbhmgdmkamcfaaDoorCapMath
import Derived.Test.YtkbhmgdmkamcfaaDoorOctJoin
import Derived.Deep.RegionHeld3
set_option linter.unusedVariables false
set_option linter.unusedSimpArgs false
namespace Go.Proofs.YtkbhmgdmkamcfaaDoor.Cap
open Go.RowKit Mem Rw Air Base Oct

set_option maxRecDepth 100000 in
set_option maxHeartbeats 4000000 in
theorem encode_any (t h f q : Int) (bA : Option Addr) (bn bc : Nat) (bs : List Int) (w : World) (hb : bs.length = bn) (hr : rightB ⟨t, h, f, q, bs⟩ = true) (hl : bn ≤ 260) (bb : Bytes bs) (hi : Ints .u8 w w.heap.size bA bs) (hT : Crc.Tab w) :
    Calls Tryd.prog 35 #[.agg #[.int .i64 t, .int .i64 h, .int .i64 f, .int .i64 q, .slice bA bn bc]] w fun e w' => Base.Makes w w' e (recL ⟨t, h, f, q, bs⟩) := by
  obtain ⟨h1, h2, h3, h4, h5, h6, h7, h8⟩ := (right_iff _).mp hr
  simp only at h1 h2 h3 h4 h5 h6 h7 h8
  have hw0 : IntKind.u64.wrap t = t := by rw [IntKind.wrap_u64]; omega
  have hw1 : IntKind.u64.wrap h = h := by rw [IntKind.wrap_u64]; omega
  have hw2 : IntKind.u64.wrap f = f := by rw [IntKind.wrap_u64]; omega
  have hw3 : IntKind.u64.wrap q = q := by rw [IntKind.wrap_u64]; omega
  have hw4 : IntKind.u64.wrap (bn : Int) = (bn : Int) := by rw [IntKind.wrap_u64]; omega
  have HP : Hid (∀ (w' : World) (A : Option Addr) (c : Nat), Oct.FldsAt w' w'.heap.size A (fldsL ⟨t, h, f, q, bs⟩) → Calls Tryd.prog 55 #[.slice A 5 c] w' fun e w2 => ∃ A2 c2, e = .returned (.tuple #[.slice A2 13 c2, .int .i64 0]) ∧ Ints .u8 w2 w2.heap.size A2 (Oct.putL (fldsL ⟨t, h, f, q, bs⟩)) ∧ Below w'.heap.size w' w2) := Lib.hid fun w' A c hA => by
    refine (Oct.put_any A 5 c (fldsL ⟨t, h, f, q, bs⟩) w' (fun x hx => ?_) rfl (by decide) hA).mono ?_
    · simp only [fldsL, List.mem_cons, List.not_mem_nil, or_false] at hx
      rcases hx with rfl | rfl | rfl | rfl | rfl <;> exact ⟨by simp only; omega, by simp only; omega⟩
    · rintro e w2 ⟨A2, c2, he, ho, hbl⟩
      rw [flds_put hr (by simp only; omega)] at he ho
      rw [put_len] at he ho
      exact ⟨A2, c2, he, Ints.own ho, hbl⟩
  have HJ : Hid (∀ (w' : World) (A2 A : Option Addr) (c2 c : Nat), Oct.PartsAt w' w'.heap.size A [(A2, c2, Oct.putL (fldsL ⟨t, h, f, q, bs⟩)), (bA, bc, bs)] → Calls Tryd.prog 57 #[.slice A 2 c] w' fun e w2 => ∃ A3 c3, e = .returned (.slice A3 (13 + bn) c3) ∧ Ints .u8 w2 w2.heap.size A3 (bodL ⟨t, h, f, q, bs⟩) ∧ Below w'.heap.size w' w2) := Lib.hid fun w' A2 A c2 c hA => by
    refine (Oct.join_any A 2 c _ w' rfl (by decide) hA (by simp [Oct.joinL, put_len]; omega)).mono ?_
    rintro e w2 ⟨A3, c3, he, ho, hbl⟩
    rw [show Oct.joinL [(A2, c2, Oct.putL (fldsL ⟨t, h, f, q, bs⟩)), (bA, bc, bs)] = bodL ⟨t, h, f, q, bs⟩ by simp [Oct.joinL, bodL], body_len] at he ho
    rw [show (13 + (⟨t, h, f, q, bs⟩ : Tr).bs.length) = 13 + bn by simp only; omega] at he ho
    exact ⟨A3, c3, he, Ints.own ho, hbl⟩
  have hbod : Bytes (bodL ⟨t, h, f, q, bs⟩) := by
    unfold bodL
    refine bytes_append ?_ bb
    simp only [fldsL, Oct.putL]
    exact bytes_append (numL_bytes _ _) (bytes_append (numL_bytes _ _) (bytes_append (numL_bytes _ _) (bytes_append (numL_bytes _ _) (bytes_append (numL_bytes _ _) (by intro z hz; cases hz)))))
  have HA : Hid (∀ (w' : World) (A3 : Option Addr) (c3 : Nat), Ints .u8 w' w'.heap.size A3 (bodL ⟨t, h, f, q, bs⟩) → Crc.Tab w' → Calls Tryd.prog 56 #[.int .u32 0, .slice A3 (13 + bn) c3] w' fun e w2 => Base.Makes w' w2 e (recL ⟨t, h, f, q, bs⟩)) := Lib.hid fun w' A3 c3 h1 h2 => Crc.append_any 0 A3 (13 + bn) c3 _ w' (by decide) (by rw [body_len]; simp only; omega) hbod h1 (by omega) h2
  have HF : Hid (∀ (X : World), Oct.FldsAt (X.alloc (.cells #[.int .i64 8, .int .u64 t, .int .i64 1, .int .u64 h, .int .i64 1, .int .u64 f, .int .i64 1, .int .u64 q, .int .i64 2, .int .u64 (bn : Int)] 96)) (X.alloc (.cells #[.int .i64 8, .int .u64 t, .int .i64 1, .int .u64 h, .int .i64 1, .int .u64 f, .int .i64 1, .int .u64 q, .int .i64 2, .int .u64 (bn : Int)] 96)).heap.size (some ⟨X.heap.size, 0, none⟩) (fldsL ⟨t, h, f, q, bs⟩)) := Lib.hid fun X => by
    right
    refine ⟨X.heap.size, 0, rfl, by simp, fun j p hj => ?_⟩
    have hc : ∀ o v, (#[.int .i64 8, .int .u64 t, .int .i64 1, .int .u64 h, .int .i64 1, .int .u64 f, .int .i64 1, .int .u64 q, .int .i64 2, .int .u64 (bn : Int)] : Array Value)[o]? = some v → (X.alloc (.cells #[.int .i64 8, .int .u64 t, .int .i64 1, .int .u64 h, .int .i64 1, .int .u64 f, .int .i64 1, .int .u64 q, .int .i64 2, .int .u64 (bn : Int)] 96)).cell? ⟨X.heap.size, o, none⟩ = some v := fun o v hv => by rw [(Blk.fresh X 96 #[.int .i64 8, .int .u64 t, .int .i64 1, .int .u64 h, .int .i64 1, .int .u64 f, .int .i64 1, .int .u64 q, .int .i64 2, .int .u64 (bn : Int)]).cell o]; exact hv
    match j, hj with
    | 0, hj => simp [fldsL] at hj; subst hj; exact ⟨hc 0 _ rfl, hc 1 _ rfl⟩
    | 1, hj => simp [fldsL] at hj; subst hj; exact ⟨hc 2 _ rfl, hc 3 _ rfl⟩
    | 2, hj => simp [fldsL] at hj; subst hj; exact ⟨hc 4 _ rfl, hc 5 _ rfl⟩
    | 3, hj => simp [fldsL] at hj; subst hj; exact ⟨hc 6 _ rfl, hc 7 _ rfl⟩
    | 4, hj => simp [fldsL] at hj; subst hj; exact ⟨hc 8 _ rfl, by show _ = some (Value.int .u64 ((bs.length : Nat) : Int)); rw [hb]; exact hc 9 _ rfl⟩
    | j + 5, hj => simp [fldsL] at hj
  have HQ : Hid (∀ (X : World) (A2 : Option Addr) (c2 : Nat), Ints .u8 X X.heap.size A2 (Oct.putL (fldsL ⟨t, h, f, q, bs⟩)) → Ints .u8 X X.heap.size bA bs → Oct.PartsAt (X.alloc (.cells #[.slice A2 13 c2, .slice bA bn bc] 32)) (X.alloc (.cells #[.slice A2 13 c2, .slice bA bn bc] 32)).heap.size (some ⟨X.heap.size, 0, none⟩) [(A2, c2, Oct.putL (fldsL ⟨t, h, f, q, bs⟩)), (bA, bc, bs)]) := Lib.hid fun X A2 c2 g1 g2 => by
    right
    refine ⟨X.heap.size, 0, rfl, by simp, fun j p hj => ?_⟩
    have hc : ∀ o v, (#[Value.slice A2 13 c2, .slice bA bn bc] : Array Value)[o]? = some v → (X.alloc (.cells #[.slice A2 13 c2, .slice bA bn bc] 32)).cell? ⟨X.heap.size, o, none⟩ = some v := fun o v hv => by rw [(Blk.fresh X 32 #[.slice A2 13 c2, .slice bA bn bc]).cell o]; exact hv
    match j, hj with
    | 0, hj => simp at hj; subst hj; exact ⟨by rw [put_len]; exact hc 0 _ rfl, Base.kept g1 _⟩
    | 1, hj => simp at hj; subst hj; exact ⟨by simp only; rw [hb]; exact hc 1 _ rfl, Base.kept g2 _⟩
    | j + 2, hj => simp at hj
  have B0 : Below w.heap.size w (w.alloc (.cells #[.int .i64 t, .int .i64 h, .int .i64 f, .int .i64 q, .slice bA bn bc] 52)) := (Below.refl _ w).alloc (Nat.le_refl _) _
  have U0 : (w.alloc (.cells #[.int .i64 t, .int .i64 h, .int .i64 f, .int .i64 q, .slice bA bn bc] 52)).cell? ⟨w.heap.size, 0, none⟩ = some (.int .i64 t) ∧ (w.alloc (.cells #[.int .i64 t, .int .i64 h, .int .i64 f, .int .i64 q, .slice bA bn bc] 52)).cell? ⟨w.heap.size, 1, none⟩ = some (.int .i64 h) ∧ (w.alloc (.cells #[.int .i64 t, .int .i64 h, .int .i64 f, .int .i64 q, .slice bA bn bc] 52)).cell? ⟨w.heap.size, 2, none⟩ = some (.int .i64 f) ∧ (w.alloc (.cells #[.int .i64 t, .int .i64 h, .int .i64 f, .int .i64 q, .slice bA bn bc] 52)).cell? ⟨w.heap.size, 3, none⟩ = some (.int .i64 q) ∧ (w.alloc (.cells #[.int .i64 t, .int .i64 h, .int .i64 f, .int .i64 q, .slice bA bn bc] 52)).cell? ⟨w.heap.size, 4, none⟩ = some (.slice bA bn bc) := by
    have T := Blk.fresh w 52 #[.int .i64 t, .int .i64 h, .int .i64 f, .int .i64 q, .slice bA bn bc]
    exact ⟨T.cell 0, T.cell 1, T.cell 2, T.cell 3, T.cell 4⟩
  have HK : Hid (∀ X, Below (w.alloc (.cells #[.int .i64 t, .int .i64 h, .int .i64 f, .int .i64 q, .slice bA bn bc] 52)).heap.size (w.alloc (.cells #[.int .i64 t, .int .i64 h, .int .i64 f, .int .i64 q, .slice bA bn bc] 52)) X → X.cell? ⟨w.heap.size, 0, none⟩ = some (.int .i64 t) ∧ X.cell? ⟨w.heap.size, 1, none⟩ = some (.int .i64 h) ∧ X.cell? ⟨w.heap.size, 2, none⟩ = some (.int .i64 f) ∧ X.cell? ⟨w.heap.size, 3, none⟩ = some (.int .i64 q) ∧ X.cell? ⟨w.heap.size, 4, none⟩ = some (.slice bA bn bc)) := Lib.hid fun X bb => by
    have e : w.heap.size < (w.alloc (.cells #[.int .i64 t, .int .i64 h, .int .i64 f, .int .i64 q, .slice bA bn bc] 52)).heap.size := by simp
    exact ⟨(bb.cell (p := ⟨w.heap.size, 0, none⟩) e).trans U0.1, (bb.cell (p := ⟨w.heap.size, 1, none⟩) e).trans U0.2.1, (bb.cell (p := ⟨w.heap.size, 2, none⟩) e).trans U0.2.2.1, (bb.cell (p := ⟨w.heap.size, 3, none⟩) e).trans U0.2.2.2.1, (bb.cell (p := ⟨w.heap.size, 4, none⟩) e).trans U0.2.2.2.2⟩
  clear hr h1 h2 h3 h4 h5 h6 h7 h8 hbod
  go_enter Tryd.func35, Tryd.ntmps35
  go_wp2_with fail
  have hWs : (w.alloc (.cells #[.int .i64 t, .int .i64 h, .int .i64 f, .int .i64 q, .slice bA bn bc] 52)).heap.size = w.heap.size + 1 := by simp
  generalize w.alloc (.cells #[.int .i64 t, .int .i64 h, .int .i64 f, .int .i64 q, .slice bA bn bc] 52) = W at *
  have FW := HF.out W
  have BW1 : Below W.heap.size W (W.alloc (.cells #[.int .i64 8, .int .u64 t, .int .i64 1, .int .u64 h, .int .i64 1, .int .u64 f, .int .i64 1, .int .u64 q, .int .i64 2, .int .u64 (bn : Int)] 96)) := (Below.refl _ W).alloc (Nat.le_refl _) _
  generalize W.alloc (.cells #[.int .i64 8, .int .u64 t, .int .i64 1, .int .u64 h, .int .i64 1, .int .u64 f, .int .i64 1, .int .u64 q, .int .i64 2, .int .u64 (bn : Int)] 96) = W1 at *
  rw [hWs] at FW
  go_at_call 55
  refine (HP.out _ _ _ FW).mono ?_
  rintro e w2 ⟨A2, c2, rfl, i2, b2⟩
  have BW2 := thenB BW1 b2
  have K2 := HK.out _ BW2
  have J2 := Lib.hid (later hi (thenB B0 BW2))
  have I2 := Lib.hid i2
  clear i2 hw0 hw1 hw2 hw3 hw4 HP HF FW hi bb hl
  go_wp2_with fail
  have PW := HQ.out w2 A2 c2 I2.out J2.out
  have BW3 : Below W.heap.size W (w2.alloc (.cells #[.slice A2 13 c2, .slice bA bn bc] 32)) := BW2.alloc BW2.size _
  generalize w2.alloc (.cells #[.slice A2 13 c2, .slice bA bn bc] 32) = W3 at *
  go_at_call 57
  refine (HJ.out _ _ _ _ _ PW).mono ?_
  rintro e w4 ⟨A3, c3, rfl, i3, b4⟩
  have BW4 := thenB BW3 b4
  go_wp2_with fail
  go_at_call 56
  refine (HA.out _ _ _ i3 (hT.below (thenB B0 BW4))).mono ?_
  rintro e w5 ⟨A5, c5, rfl, o5, b5⟩
  go_wp2_with fail
  go_ret
  exact ⟨A5, c5, rfl, own_base o5 (thenB B0 BW4).size, thenB B0 (thenB BW4 b5)⟩
end Go.Proofs.YtkbhmgdmkamcfaaDoor.Cap
