/- Advertising PDUs: what Decode returns; what follows the addresses, in all cases: contracts over the program. Advertising PDUs: Decode by the layer: contracts over the program. -/
import Derived.Test.YtcjlliilfecmnaaDoorKApCmp3
section
set_option linter.unusedVariables false
set_option linter.unusedSimpArgs false
namespace Go.Proofs.YtcjlliilfecmnaaDoor.Ap
open Go.RowKit Mem Oct
open Base (thenB)

theorem complete_any (k sk sb tk tb : Int) (A : Option Addr) (n c : Nat) (L : List Int) (w : World) (hx : L.length = n) (hnc : n ≤ c) (hn : n ≤ 1000) (bL : Bytes L) (hr : Ints .u8 w w.heap.size A L) :
    Calls Tryd.prog 42 #[.agg #[.int .i64 k, .int .i64 sk, .int .u64 sb, .int .i64 tk, .int .u64 tb, .slice none 0 0, .int .u32 0, .int .u32 0, .int .i64 0, .int .i64 0, .int .i64 0, .int .i64 0, .int .i64 0, .int .u64 0, .int .i64 0, .int .i64 0, .int .i64 0], .slice A n c] w fun e w' => CPd w w' e (cmpl k sk sb tk tb L) A n c L := by
  cases hC : conB k with
  | true => exact complete_conn k sk sb tk tb A n c L w hx hnc hn bL hr hC
  | false =>
    cases hD : datB k with
    | true => exact complete_data k sk sb tk tb A n c L w hx hC hD
    | false => exact complete_none k sk sb tk tb A n c L w hx hC hD
/-- The addresses with which a payload begins have this form. -/
theorem adrs_form (k : Int) (ys : List Int) : ∃ sk sb tk tb L er, adrs k ys = (adrP k sk sb tk tb, L, er) := by
  unfold adrs; split
  · exact ⟨_, _, _, _, _, _, rfl⟩
  · exact ⟨_, _, _, _, _, _, rfl⟩
theorem adrs_bytes {k : Int} {ys : List Int} (h : Bytes ys) : Bytes (adrs k ys).2.1 := by
  unfold adrs; split
  · exact dA_bytes (dA_bytes h)
  · exact dA_bytes h
theorem adrs_len (k : Int) (ys : List Int) : (adrs k ys).2.1.length ≤ ys.length := by
  unfold adrs; split
  · exact Nat.le_trans (dA_len _) (dA_len _)
  · exact dA_len _
/-- What Decode returns: the PDU, the error. -/
def decP (xs : List Int) : Pd × Int :=
  if hdrE xs ≠ 0 then (zp, hdrE xs) else
  if (adrs (xs.getD 0 0 % 16) (xs.drop 2)).2.2 ≠ 0 then (zp, (adrs (xs.getD 0 0 % 16) (xs.drop 2)).2.2) else
  if xs.getD 0 0 ≠ fstB (adrs (xs.getD 0 0 % 16) (xs.drop 2)).1 then (zp, 2) else
  if (cmpl (adrs (xs.getD 0 0 % 16) (xs.drop 2)).1.k (adrs (xs.getD 0 0 % 16) (xs.drop 2)).1.sk (adrs (xs.getD 0 0 % 16) (xs.drop 2)).1.sb (adrs (xs.getD 0 0 % 16) (xs.drop 2)).1.tk (adrs (xs.getD 0 0 % 16) (xs.drop 2)).1.tb (adrs (xs.getD 0 0 % 16) (xs.drop 2)).2.1).2 ≠ 0 then (zp, (cmpl (adrs (xs.getD 0 0 % 16) (xs.drop 2)).1.k (adrs (xs.getD 0 0 % 16) (xs.drop 2)).1.sk (adrs (xs.getD 0 0 % 16) (xs.drop 2)).1.sb (adrs (xs.getD 0 0 % 16) (xs.drop 2)).1.tk (adrs (xs.getD 0 0 % 16) (xs.drop 2)).1.tb (adrs (xs.getD 0 0 % 16) (xs.drop 2)).2.1).2) else
  ((cmpl (adrs (xs.getD 0 0 % 16) (xs.drop 2)).1.k (adrs (xs.getD 0 0 % 16) (xs.drop 2)).1.sk (adrs (xs.getD 0 0 % 16) (xs.drop 2)).1.sb (adrs (xs.getD 0 0 % 16) (xs.drop 2)).1.tk (adrs (xs.getD 0 0 % 16) (xs.drop 2)).1.tb (adrs (xs.getD 0 0 % 16) (xs.drop 2)).2.1).1, 0)
theorem decP_hdr {xs : List Int} (h : hdrE xs ≠ 0) : decP xs = (zp, hdrE xs) := by unfold decP; rw [if_pos h]
theorem decP_adr {xs : List Int} {p : Pd} {L : List Int} {er : Int} (h : hdrE xs = 0) (ha : adrs (xs.getD 0 0 % 16) (xs.drop 2) = (p, L, er)) (he : er ≠ 0) : decP xs = (zp, er) := by unfold decP; rw [if_neg (by simpa using h), ha, if_pos he]
theorem decP_fst {xs : List Int} {p : Pd} {L : List Int} (h : hdrE xs = 0) (ha : adrs (xs.getD 0 0 % 16) (xs.drop 2) = (p, L, 0)) (hf : xs.getD 0 0 ≠ fstB p) : decP xs = (zp, 2) := by unfold decP; rw [if_neg (by simpa using h), ha, if_neg (by simp), if_pos hf]
theorem decP_cmp {xs : List Int} {p : Pd} {L : List Int} (h : hdrE xs = 0) (ha : adrs (xs.getD 0 0 % 16) (xs.drop 2) = (p, L, 0)) (hf : xs.getD 0 0 = fstB p) (hc : (cmpl p.k p.sk p.sb p.tk p.tb L).2 ≠ 0) : decP xs = (zp, (cmpl p.k p.sk p.sb p.tk p.tb L).2) := by
  unfold decP; rw [if_neg (by simpa using h), ha, if_neg (by simp), if_neg (by simpa using hf), if_pos hc]
theorem decP_ok {xs : List Int} {p : Pd} {L : List Int} (h : hdrE xs = 0) (ha : adrs (xs.getD 0 0 % 16) (xs.drop 2) = (p, L, 0)) (hf : xs.getD 0 0 = fstB p) (hc : (cmpl p.k p.sk p.sb p.tk p.tb L).2 = 0) : decP xs = ((cmpl p.k p.sk p.sb p.tk p.tb L).1, 0) := by
  unfold decP; rw [if_neg (by simpa using h), ha, if_neg (by simp), if_neg (by simpa using hf), if_neg (by simpa using hc)]
theorem hdr_ok {xs : List Int} (h : hdrE xs = 0) : 2 ≤ xs.length ∧ xs.getD 0 0 % 16 ≤ 6 ∧ (xs.length : Int) = 2 + xs.getD 1 0 := by
  unfold hdrE at h
  split at h
  · omega
  · split at h
    · omega
    · split at h
      · omega
      · split at h
        · omega
        · split at h
          · omega
          · exact ⟨by omega, by omega, by omega⟩
/-- A PDU was decoded. -/
def Decd (w w' : World) (e : Ending) (r : Pd × Int) : Prop :=
  ∃ A c, e = .returned (.tuple #[.agg (cel r.1 (.slice A r.1.ds.length c)), .int .i64 r.2]) ∧ r.1.ds.length ≤ c ∧ Ints .u8 w' w'.heap.size A r.1.ds ∧ Below w.heap.size w w'
end Go.Proofs.YtcjlliilfecmnaaDoor.Ap

end
section
set_option linter.unusedVariables false
set_option linter.unusedSimpArgs false
namespace Go.Proofs.YtcjlliilfecmnaaDoor.Ap
open Go.RowKit Mem Oct
open Base (thenB)

set_option maxRecDepth 100000 in
set_option maxHeartbeats 4000000 in
theorem decode_hdr (A : Option Addr) (n c : Nat) (xs : List Int) (w : World) (hx : xs.length = n) (bxs : Bytes xs) (hr : Ints .u8 w w.heap.size A xs) (h : hdrE xs ≠ 0) :
    Calls Tryd.prog 16 #[.slice A n c] w fun e w' => Decd w w' e (decP xs) := by
  have BX : Below w.heap.size w (w.alloc (.cells #[.int .i64 0, .int .i64 0, .int .u64 0, .int .i64 0, .int .u64 0, .slice none 0 0, .int .u32 0, .int .u32 0, .int .i64 0, .int .i64 0, .int .i64 0, .int .i64 0, .int .i64 0, .int .u64 0, .int .i64 0, .int .i64 0, .int .i64 0] 33)) := (Below.refl _ _).alloc (Nat.le_refl _) _
  have K2 := Blk.fresh w 33 #[.int .i64 0, .int .i64 0, .int .u64 0, .int .i64 0, .int .u64 0, .slice none 0 0, .int .u32 0, .int .u32 0, .int .i64 0, .int .i64 0, .int .i64 0, .int .i64 0, .int .i64 0, .int .u64 0, .int .i64 0, .int .i64 0, .int .i64 0]
  have HH : Hid (∀ w', Below w.heap.size w w' → Calls Tryd.prog 40 #[.slice A n c] w' fun e w2 => e = .returned (.int .i64 (hdrE xs)) ∧ Below w'.heap.size w' w2) := Lib.hid fun w' b => header_any A n c xs w' hx bxs (Base.later hr b)
  have HZ : Hid (decP xs = (zp, hdrE xs)) := Lib.hid (decP_hdr h)
  have g1 : (hdrE xs != 0) = true := by simpa using h
  clear hx hr bxs h
  generalize hdrE xs = E at *
  generalize decP xs = R at *
  go_enter Tryd.func16, Tryd.ntmps16
  go_wp2_with fail
  generalize w.alloc (.cells #[.int .i64 0, .int .i64 0, .int .u64 0, .int .i64 0, .int .u64 0, .slice none 0 0, .int .u32 0, .int .u32 0, .int .i64 0, .int .i64 0, .int .i64 0, .int .i64 0, .int .i64 0, .int .u64 0, .int .i64 0, .int .i64 0, .int .i64 0] 33) = W0 at *
  refine (HH.out W0 BX).mono ?_
  rintro e w1 ⟨rfl, b1⟩
  have BX := thenB BX b1
  have K2 := K2.below b1 K2.lt
  have H1 : (#[.int .i64 0, .int .i64 0, .int .u64 0, .int .i64 0, .int .u64 0, .slice none 0 0, .int .u32 0, .int .u32 0, .int .i64 0, .int .i64 0, .int .i64 0, .int .i64 0, .int .i64 0, .int .u64 0, .int .i64 0, .int .i64 0, .int .i64 0] : Array Value).all (·.oneCell') = true := by rw [← Array.all_toList]; rfl
  go_wp2_with (refine wpList_store_row rfl 33 (.tmp 2) _ rfl w.heap.size #[.int .i64 0, .int .i64 0, .int .u64 0, .int .i64 0, .int .u64 0, .slice none 0 0, .int .u32 0, .int .u32 0, .int .i64 0, .int .i64 0, .int .i64 0, .int .i64 0, .int .i64 0, .int .u64 0, .int .i64 0, .int .i64 0, .int .i64 0] rfl rfl 33 _ K2 (by kernel_rfl) rfl H1 ?_)
  have KR : Blk (w1.setRow w.heap.size #[.int .i64 0, .int .i64 0, .int .u64 0, .int .i64 0, .int .u64 0, .slice none 0 0, .int .u32 0, .int .u32 0, .int .i64 0, .int .i64 0, .int .i64 0, .int .i64 0, .int .i64 0, .int .u64 0, .int .i64 0, .int .i64 0, .int .i64 0]) w.heap.size 33 #[.int .i64 0, .int .i64 0, .int .u64 0, .int .i64 0, .int .u64 0, .slice none 0 0, .int .u32 0, .int .u32 0, .int .i64 0, .int .i64 0, .int .i64 0, .int .i64 0, .int .i64 0, .int .u64 0, .int .i64 0, .int .i64 0, .int .i64 0] := setRow_heap w1 w.heap.size _ #[.int .i64 0, .int .i64 0, .int .u64 0, .int .i64 0, .int .u64 0, .slice none 0 0, .int .u32 0, .int .u32 0, .int .i64 0, .int .i64 0, .int .i64 0, .int .i64 0, .int .i64 0, .int .u64 0, .int .i64 0, .int .i64 0, .int .i64 0] 33 (0, 0) K2
  have BE := below_setRow BX (Nat.le_refl _) #[.int .i64 0, .int .i64 0, .int .u64 0, .int .i64 0, .int .u64 0, .slice none 0 0, .int .u32 0, .int .u32 0, .int .i64 0, .int .i64 0, .int .i64 0, .int .i64 0, .int .i64 0, .int .u64 0, .int .i64 0, .int .i64 0, .int .i64 0]
  generalize w1.setRow w.heap.size #[.int .i64 0, .int .i64 0, .int .u64 0, .int .i64 0, .int .u64 0, .slice none 0 0, .int .u32 0, .int .u32 0, .int .i64 0, .int .i64 0, .int .i64 0, .int .i64 0, .int .i64 0, .int .u64 0, .int .i64 0, .int .i64 0, .int .i64 0] = Y at *
  refine bodyPost_ret (v := .tuple #[.agg #[.int .i64 0, .int .i64 0, .int .u64 0, .int .i64 0, .int .u64 0, .slice none 0 0, .int .u32 0, .int .u32 0, .int .i64 0, .int .i64 0, .int .i64 0, .int .i64 0, .int .i64 0, .int .u64 0, .int .i64 0, .int .i64 0, .int .i64 0], .int .i64 E]) ?_ rfl ⟨none, 0, (by rw [HZ.out]; rfl), (by rw [HZ.out]; exact Nat.le_refl _), (by rw [HZ.out]; exact .inl rfl), BE⟩
  have HL := run_loadVar_row (P := Tryd.prog) Y w.heap.size 33 33 #[.int .i64 0, .int .i64 0, .int .u64 0, .int .i64 0, .int .u64 0, .slice none 0 0, .int .u32 0, .int .u32 0, .int .i64 0, .int .i64 0, .int .i64 0, .int .i64 0, .int .i64 0, .int .u64 0, .int .i64 0, .int .i64 0, .int .i64 0] (0, 0) _ KR Tryd.underlying33 rfl (by kernel_rfl)
  generalize (#[.int .i64 0, .int .i64 0, .int .u64 0, .int .i64 0, .int .u64 0, .slice none 0 0, .int .u32 0, .int .u32 0, .int .i64 0, .int .i64 0, .int .i64 0, .int .i64 0, .int .i64 0, .int .u64 0, .int .i64 0, .int .i64 0, .int .i64 0] : Array Value) = CS at *
  simp [results, show (Tryd.f16).results = #[.cell 2 33, .slot 3] from rfl, asAddr, HL, Act.put]
end Go.Proofs.YtcjlliilfecmnaaDoor.Ap

end
