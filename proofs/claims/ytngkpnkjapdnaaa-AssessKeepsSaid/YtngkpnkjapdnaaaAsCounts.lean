/- The statement on counts, walked: it returns true. -/
import Derived.Test.YtngkpnkjapdnaaaAsLaws2
set_option linter.unusedVariables false
set_option linter.unusedSimpArgs false
namespace Go.Proofs.Ytngkpnkjapdnaaa.As
open Go.RowKit Mem Chm Base

/-- The slice that begins at A reads the packets ps. -/
def HeardAt (w : World) (B : Nat) (A : Option Addr) (ps : List (Int × Bool)) : Prop :=
  ps = [] ∨ ∃ b off, A = some ⟨b, off, none⟩ ∧ b < B ∧ ∀ j f, ps[j]? = some f → w.cell? ⟨b, off + j * 2, none⟩ = some (.int .i64 f.1) ∧ w.cell? ⟨b, off + j * 2 + 1, none⟩ = some (.bool f.2)
theorem HeardAt.below {w w' : World} {B : Nat} {A : Option Addr} {fs : List (Int × Bool)} (h : HeardAt w B A fs) (hb : Below B w w') : HeardAt w' B A fs := by
  rcases h with h | ⟨b, off, e, hlt, hc⟩
  · exact .inl h
  · exact .inr ⟨b, off, e, hlt, fun j p hj => ⟨(hb.cell (p := ⟨b, off + j * 2, none⟩) hlt).trans (hc j p hj).1, (hb.cell (p := ⟨b, off + j * 2 + 1, none⟩) hlt).trans (hc j p hj).2⟩⟩
theorem HeardAt.at_ {w : World} {B : Nat} {A : Option Addr} {fs : List (Int × Bool)} {i : Nat} (h : HeardAt w B A fs) (hi : i < fs.length) :
    ∃ b off, A = some ⟨b, off, none⟩ ∧ b < B ∧ ∀ j f, fs[j]? = some f → w.cell? ⟨b, off + j * 2, none⟩ = some (.int .i64 f.1) ∧ w.cell? ⟨b, off + j * 2 + 1, none⟩ = some (.bool f.2) := by
  rcases h with rfl | h
  · simp at hi
  · exact h
theorem tals_small (ps : List (Int × Bool)) (h : ps.length ≤ 200) : Small (tals ps) := by
  intro f hf
  unfold tals at hf
  rw [List.mem_map] at hf
  obtain ⟨c, _, rfl⟩ := hf
  have := goods_le c ps
  have := bads_le c ps
  simp only
  omega
theorem take_at {ps : List (Int × Bool)} {k : Nat} {f : Int × Bool} (h : ps[k]? = some f) : ps.take (k + 1) = ps.take k ++ [f] := by
  have hk : k < ps.length := (List.getElem?_eq_some_iff.1 h).1
  rw [List.take_succ_eq_append_getElem hk, (List.getElem?_eq_some_iff.1 h).2]
set_option maxRecDepth 100000 in
set_option maxHeartbeats 4000000 in
theorem law_counts (A : Option Addr) (n c : Nat) (ps : List (Int × Bool)) (w : World) (hl : ps.length = n) (hc : n ≤ c) (hr : HeardAt w w.heap.size A ps) (hb : ∀ f ∈ ps, -9223372036854775808 ≤ f.1 ∧ f.1 ≤ 9223372036854775807) (hs : c * 16 ≤ 140737488351232) :
    Calls Try.prog 8 #[.slice A n c] w fun e w' => e = .returned (.bool true) ∧ Below w.heap.size w w' := by
  have HL := Lib.hid (lives_any w)
  by_cases h0 : 200 < n
  · have g0 : (200 : Int) < (n : Int) := by omega
    go_enter Try.func8, Try.ntmps8
    go_wp2_with (go_at_call 9; refine HL.out.mono ?_; rintro e w1 ⟨rfl, b1⟩)
    go_ret
    exact ⟨rfl, b1⟩
  · have g0 : ¬ (200 : Int) < (n : Int) := by omega
    have g0' : decide ((200 : Int) < (n : Int)) = false := decide_eq_false g0
    have hn : n ≤ 200 := by omega
    have HF : Hid (∀ w, Calls Try.prog 11 #[] w fun e w' => ∃ A c, e = .returned (.slice A 37 c) ∧ PairsAt w' w'.heap.size A (tals (ps.take 0)) ∧ Below w.heap.size w w') := Lib.hid fun w =>
      (fresh_any w).mono fun e w' h => by
        obtain ⟨A, c, he, _, hi, hb⟩ := h.read (n := 37) (by simp)
        rw [List.take_zero, tals_nil]
        exact ⟨A, c, he, hi, hb⟩
    have HRec : Hid (∀ k ch ok, ps[k]? = some (ch, ok) → ∀ A c w, PairsAt w w.heap.size A (tals (ps.take k)) → Calls Try.prog 13 #[.slice A 37 c, .int .i64 ch, .bool ok] w fun e w' => ∃ A c, e = .returned (.slice A 37 c) ∧ PairsAt w' w'.heap.size A (tals (ps.take (k + 1))) ∧ Below w.heap.size w w') := Lib.hid fun k ch ok hk A c w h => by
      have hlen : (ps.take k).length ≤ 200 := by rw [List.length_take]; omega
      have e : tals (ps.take (k + 1)) = recL (tals (ps.take k)) ch ok := by rw [take_at hk, tals_snoc _ _ _ (by omega)]
      rw [e]
      exact (record_any A 37 c _ ch ok w (tals_len _) h (by decide) (tals_small _ hlen)).mono fun e w' h => by
        obtain ⟨A, c, he, _, hi, hb⟩ := h.read (n := 37) (by rw [recL_len, tals_len])
        exact ⟨A, c, he, hi, hb⟩
    have HAt : Hid (∀ k, k < n → ∃ ch ok, ps[k]? = some (ch, ok) ∧ -9223372036854775808 ≤ ch ∧ ch ≤ 9223372036854775807) := Lib.hid fun k hk => by
      have hk' : k < ps.length := by omega
      exact ⟨_, _, List.getElem?_eq_getElem hk', hb _ (List.getElem_mem hk')⟩
    have HTk : Hid (ps.take n = ps) := Lib.hid (by rw [← hl, List.take_length])
    have HLen := Lib.hid hl
    clear hb hl
    go_enter Try.func8, Try.ntmps8
    go_wp2_with (first
      | (go_at_call 9; refine HL.out.mono ?_; rintro e w1 ⟨rfl, b1⟩)
      | (go_at_call 11; refine (HF.out _).mono ?_; rintro e w2 ⟨A2, c2, rfl, P2, b2⟩; have B2 := thenB b1 b2))
    go_loopw [3, 4] (fun s3 s4 wr => ∃ k : Nat, k ≤ n ∧ s4 = .int .i64 (k : Nat) ∧ (∃ A3 c3, s3 = .slice A3 37 c3 ∧ PairsAt wr wr.heap.size A3 (tals (ps.take k))) ∧ Below w.heap.size w wr) (fun _ s4 _ => n - (intOf s4).toNat)
    case atStart => exact ⟨0, by omega, rfl, ⟨A2, c2, rfl, P2⟩, B2⟩
    case round =>
      obtain ⟨k, hk, rfl, ⟨A3, c3, rfl, P3⟩, hB⟩ := hrel
      by_cases c1 : k < n
      · obtain ⟨ch, ok, hp, hch⟩ := HAt.out k c1
        have HR := Lib.hid (HRec.out k ch ok hp)
        obtain ⟨b, off, rfl, hlt, hcl⟩ := (hr.below hB).at_ (i := k) (by rw [HLen.out]; omega)
        obtain ⟨x1, x2⟩ := hcl k _ hp
        simp only at x1 x2
        clear hcl hp
        have g1 : (0 : Int) ≤ (k : Int) := by omega
        have g2 : (k : Int) < (n : Int) := by omega
        have B3 := hB.drew
        have P3' := P3.drew
        go_wp2_with fail
        have d1 : wr.drew.cell? ⟨b, off + k * 2, none⟩ = some (.int .i64 ch) := x1
        have d2 : wr.drew.cell? ⟨b, off + k * 2 + 1, none⟩ = some (.bool ok) := x2
        go_region_held3 (fun w' => w'.cell? ⟨b, off + k * 2, none⟩ = some (.int .i64 ch) ∧ w'.cell? ⟨b, off + k * 2 + 1, none⟩ = some (.bool ok)) (first | exact K4 | exact ⟨d1, d2⟩) (first | (go_at_call 13; refine (HR.out _ _ _ P3').mono ?_; rintro e w4 ⟨A4, c4, rfl, P4, b4⟩; have B4 := thenB B3 b4; have K4 := cells_below ⟨d1, d2⟩ b4))
        go_wp2_with fail
        go_roundw
        case rel => exact ⟨k + 1, by omega, by go_num, ⟨A4, c4, rfl, P4⟩, B4⟩
        case measure => simp [intOf]; omega
      · obtain rfl : k = n := by omega
        rw [HTk.out] at P3
        clear HF HRec HL
        have hsz := hB.size
        have HG0 : Hid (∀ q, goods q (ps.take 0) = 0 ∧ bads q (ps.take 0) = 0) := Lib.hid fun q => ⟨rfl, rfl⟩
        go_wp2_with fail
        go_loopw [5, 6, 7, 8] (fun s5 s6 s7 s8 wr2 => ∃ q : Nat, q ≤ 37 ∧ s5 = .int .i64 (q : Nat) ∧ wr2 = wr) (fun s5 _ _ _ _ => 37 - (intOf s5).toNat)
        case atStart => exact ⟨0, by omega, rfl, rfl⟩
        case round =>
          obtain ⟨q, hq, rfl, rfl⟩ := hrel
          by_cases cq : q < 37
          · have gq : decide ((q : Int) < 37) = true := decide_eq_true (by omega)
            have HQ0 := HG0.out q
            have HSt : Hid (∀ i ch ok, ps[i]? = some (ch, ok) → goods q (ps.take (i + 1)) = goods q (ps.take i) + (if ch = (q : Int) ∧ ok = true then 1 else 0) ∧ bads q (ps.take (i + 1)) = bads q (ps.take i) + (if ch = (q : Int) ∧ ok = false then 1 else 0)) := Lib.hid fun i ch ok h => by
              rw [take_at h]; exact ⟨goods_snoc _ _ _ _, bads_snoc _ _ _ _⟩
            have HLe : Hid (∀ i, goods q (ps.take i) ≤ i ∧ bads q (ps.take i) ≤ i) := Lib.hid fun i => by
              have h1 := goods_le q (ps.take i)
              have h2 := bads_le q (ps.take i)
              rw [List.length_take] at h1 h2
              omega
            go_wp2_with fail
            go_loopw [6, 7, 8] (fun s6 s7 s8 wr3 => ∃ i : Nat, i ≤ k ∧ s8 = .int .i64 (i : Nat) ∧ s6 = .int .i64 (goods q (ps.take i) : Nat) ∧ s7 = .int .i64 (bads q (ps.take i) : Nat) ∧ wr3 = wr) (fun _ _ s8 _ => k - (intOf s8).toNat)
            case atStart => exact ⟨0, by omega, rfl, by rw [HQ0.1]; rfl, by rw [HQ0.2]; rfl, rfl⟩
            case round =>
              obtain ⟨i, hi, rfl, rfl, rfl, rfl⟩ := hrel
              by_cases c2' : i < k
              · obtain ⟨ch, ok, hp, hch⟩ := HAt.out i c2'
                obtain ⟨b, off, rfl, hlt, hcl⟩ := (hr.below hB).at_ (i := i) (by rw [HLen.out]; omega)
                obtain ⟨x1, x2⟩ := hcl i _ hp
                simp only at x1 x2
                obtain ⟨s1, s2⟩ := HSt.out i ch ok hp
                obtain ⟨l1, l2⟩ := HLe.out i
                have g1 : (0 : Int) ≤ (i : Int) := by omega
                have g2 : (i : Int) < (k : Int) := by omega
                clear hcl hp
                by_cases he : ch = (q : Int)
                · have ge : (ch == (q : Int)) = true := by simpa using he
                  cases ok
                  · rw [if_neg (by simp)] at s1
                    rw [if_pos ⟨he, rfl⟩] at s2
                    have HS1 := Lib.hid s1
                    have HS2 := Lib.hid s2
                    clear s1 s2 he
                    generalize goods q (ps.take i) = G at *
                    generalize bads q (ps.take i) = D at *
                    go_wp2_with fail
                    go_roundw
                    case rel => exact ⟨i + 1, by omega, by go_num, by rw [HS1.out]; rfl, by rw [HS2.out]; go_num, trivial⟩
                    case measure => simp [intOf]; omega
                  · rw [if_pos ⟨he, rfl⟩] at s1
                    rw [if_neg (by simp)] at s2
                    have HS1 := Lib.hid s1
                    have HS2 := Lib.hid s2
                    clear s1 s2 he
                    generalize goods q (ps.take i) = G at *
                    generalize bads q (ps.take i) = D at *
                    go_wp2_with fail
                    go_roundw
                    case rel => exact ⟨i + 1, by omega, by go_num, by rw [HS1.out]; go_num, by rw [HS2.out]; rfl, trivial⟩
                    case measure => simp [intOf]; omega
                · have ge : (ch == (q : Int)) = false := by simpa using he
                  rw [if_neg (fun h => he h.1)] at s1 s2
                  have HS1 := Lib.hid s1
                  have HS2 := Lib.hid s2
                  clear s1 s2 he
                  generalize goods q (ps.take i) = G at *
                  generalize bads q (ps.take i) = D at *
                  go_wp2_with fail
                  go_roundw
                  case rel => exact ⟨i + 1, by omega, by go_num, by rw [HS1.out]; rfl, by rw [HS2.out]; rfl, trivial⟩
                  case measure => simp [intOf]; omega
              · obtain rfl : i = k := by omega
                obtain ⟨b, off, rfl, hlt, hcl⟩ := P3.at_ (i := q) (by rw [tals_len]; omega)
                obtain ⟨x1, x2⟩ := hcl q _ (tals_at ps q cq)
                simp only at x1 x2
                rw [HTk.out]
                clear hcl
                have g1 : (0 : Int) ≤ (q : Int) := by omega
                have g2 : (q : Int) < 37 := by omega
                obtain ⟨l1, l2⟩ := HLe.out i
                rw [HTk.out] at l1 l2
                generalize goods q ps = G at *
                generalize bads q ps = D at *
                go_wp2_with fail
                go_roundw
                case rel => exact ⟨q + 1, by omega, by go_num, trivial⟩
                case measure => simp [intOf]; omega
          · obtain rfl : q = 37 := by omega
            go_wp2_with fail
            go_ret
            exact ⟨rfl, hB⟩
end Go.Proofs.Ytngkpnkjapdnaaa.As
