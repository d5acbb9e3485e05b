/- The document's examples come out as it says: a contract over the program. -/
import Derived.Test.YtpbfnkicbejdbaaAdBuild
set_option linter.unusedVariables false
set_option linter.unusedSimpArgs false
namespace Go.Proofs.Ytpbfnkicbejdbaa.Ad
open Go.RowKit Mem Rw Oct
open Base (thenB later kept)

def bL : List Int := [2, 1, 6, 3, 3, 1, 24, 3, 9, 97, 98]
theorem bL_bytes : Bytes bL := Base.bytes_lit bL (by decide)
theorem chL_ab : chL ⟨#[97, 98]⟩ = [97, 98] := by kernel_rfl
theorem ab_str : strOfNums (findR bL 9).1 = ⟨#[97, 98]⟩ := by kernel_rfl
theorem one_bytes : Bytes ([1, 5] : List Int) := Base.bytes_lit [1, 5] (by decide)
theorem six_bytes : Bytes ([6] : List Int) := Base.bytes_lit [6] (by decide)
theorem lv_build (A : Option Addr) (w : World) (hr : Ints .u16 w w.heap.size A [6145]) :
    Calls Try.prog 25 #[.int .i64 6, .string ⟨#[97, 98]⟩, .slice A 1 1] w fun e w' => ∃ P pc, e = .returned (.tuple #[.slice P 11 pc, .int .i64 0]) ∧ 11 ≤ pc ∧ Ints .u8 w' w'.heap.size P bL ∧ Below w.heap.size w w' := by
  refine (build_any 6 ⟨#[97, 98]⟩ A 1 1 [6145] w (by omega) (by show 2 ≤ 140737488351232; omega) rfl (by omega) (fun z hz => by simp at hz; subst hz; omega) hr).mono ?_
  rw [chL_ab, show buildR 6 [97, 98] [6145] = (bL, 0) by decide]
  rintro e w' ⟨P, pc, he, ho, hb⟩
  exact ⟨P, pc, he, own_capK ho, Ints.own ho, hb⟩
theorem lv_find (A : Option Addr) (c : Nat) (hc : 11 ≤ c) (w : World) (hr : Ints .u8 w w.heap.size A bL) :
    Calls Try.prog 18 #[.slice A 11 c, .int .i64 1] w fun e w' => ∃ P pc, e = .returned (.tuple #[.slice P 1 pc, .bool true]) ∧ Ints .u8 w' w'.heap.size P [6] ∧ Below w.heap.size w w' := by
  refine (find_any A 11 c 1 bL w rfl hc (by omega) bL_bytes hr).mono ?_
  rw [show findR bL 1 = ([6], true) by decide]
  rintro e w' ⟨P, pc, he, h1, h2, h3, hb⟩
  exact ⟨P, pc, he, h3, hb⟩
theorem lv_dec (A : Option Addr) (w : World) (hr : Ints .u8 w w.heap.size A [1, 5]) :
    Calls Try.prog 14 #[.slice A 2 2] w fun e w' => ∃ LA lc l, e = .returned (.tuple #[.slice LA 1 lc, .int .i64 0]) ∧ l.length = 1 ∧ l.map El.e = [(5, [])] ∧ ElsAt w' w'.heap.size LA l ∧ Below w.heap.size w w' := by
  refine (decode_any A 2 2 [1, 5] w rfl (by omega) (by omega) one_bytes hr).mono ?_
  rw [show decR [1, 5] = ([(5, [])], 0) by decide]
  intro e w' h
  obtain ⟨LA, n, lc, l, he, hn, _, hm, hE, _, hb⟩ := h.read
  have h1 : n = 1 := by rw [← hn, ← List.length_map (f := El.e), hm]; rfl
  subst h1
  exact ⟨LA, lc, l, he, hn, hm, hE, hb⟩
theorem five_at (w : World) : ElsAt (w.alloc (.cells #[.int .i64 5, .slice none 0 0] 49)) (w.alloc (.cells #[.int .i64 5, .slice none 0 0] 49)).heap.size (some ⟨w.heap.size, 0, none⟩) [⟨5, none, 0, []⟩] :=
  ⟨CellsAt.lit w _ _ _ rfl, fun x hx => by simp at hx; subst hx; exact ⟨Nat.le_refl _, by simp, .inl rfl⟩⟩
theorem lv_enc (w : World) :
    Calls Try.prog 10 #[.slice (some ⟨w.heap.size, 0, none⟩) 1 1] (w.alloc (.cells #[.int .i64 5, .slice none 0 0] 49)) fun e w' => ∃ P pc, e = .returned (.tuple #[.slice P 2 pc, .int .i64 0]) ∧ Ints .u8 w' w'.heap.size P [1, 5] ∧ Below (w.alloc (.cells #[.int .i64 5, .slice none 0 0] 49)).heap.size (w.alloc (.cells #[.int .i64 5, .slice none 0 0] 49)) w' := by
  refine (encode_any _ 1 1 _ _ rfl (by omega) (five_at w)).mono ?_
  rw [show encR (([⟨5, none, 0, []⟩] : List El).map El.e) = ([1, 5], 0) by decide]
  rintro e w' ⟨P, pc, he, ho, hb⟩
  exact ⟨P, pc, he, Ints.own ho, hb⟩
theorem lv_name (A : Option Addr) (c : Nat) (hc : 11 ≤ c) (w : World) (hr : Ints .u8 w w.heap.size A bL) :
    Calls Try.prog 20 #[.slice A 11 c] w fun e w' => e = .returned (.string ⟨#[97, 98]⟩) ∧ Below w.heap.size w w' := by
  have := name_any A 11 c bL w rfl hc (by omega) bL_bytes hr
  rwa [ab_str] at this
theorem lv_svc (A : Option Addr) (c : Nat) (hc : 11 ≤ c) (w : World) (hr : Ints .u8 w w.heap.size A bL) :
    Calls Try.prog 23 #[.slice A 11 c] w fun e w' => ∃ P pc, e = .returned (.slice P 1 pc) ∧ Ints .u16 w' w'.heap.size P [6145] ∧ Below w.heap.size w w' := by
  refine (services_any A 11 c bL w rfl hc (by omega) bL_bytes hr).mono ?_
  rw [show svcR bL = [6145] by decide]
  intro e w' h
  obtain ⟨P, pc, he, _, hi, hb⟩ := h.read rfl
  exact ⟨P, pc, he, hi, hb⟩
theorem five_atg (w : World) (g : Nat) (hg : g = w.heap.size) : ElsAt (w.alloc (.cells #[.int .i64 5, .slice none 0 0] 49)) (w.alloc (.cells #[.int .i64 5, .slice none 0 0] 49)).heap.size (some ⟨g, 0, none⟩) [⟨5, none, 0, []⟩] := by
  subst hg; exact five_at w
theorem five_by {l : List El} (h : l.map El.e = [(5, [])]) : ∀ x ∈ l, Bytes x.v := fun x hx z hz => by
  have h1 : x.e ∈ l.map El.e := List.mem_map_of_mem hx
  rw [h] at h1
  have h2 : x.e = (5, []) := by simpa using h1
  have h3 : x.v = [] := congrArg Prod.snd h2
  rw [h3] at hz; simp at hz
theorem lv_els (LA : Option Addr) (lc : Nat) (l : List El) (w : World) (g : Nat) (hg : g = w.heap.size) (hl1 : l.length = 1) (hlm : l.map El.e = [(5, [])]) (hl : ElsAt w w.heap.size LA l) :
    Calls Try.prog 17 #[.slice LA 1 lc, .slice (some ⟨g, 0, none⟩) 1 1] (w.alloc (.cells #[.int .i64 5, .slice none 0 0] 49)) fun e w' => e = .returned (.bool true) ∧ Below (w.alloc (.cells #[.int .i64 5, .slice none 0 0] 49)).heap.size (w.alloc (.cells #[.int .i64 5, .slice none 0 0] 49)) w' := by
  have h1 := hl.kept (.cells #[.int .i64 5, .slice none 0 0] 49)
  have h2 := five_atg w g hg
  generalize w.alloc (.cells #[.int .i64 5, .slice none 0 0] 49) = W at *
  exact els_eq LA (some ⟨g, 0, none⟩) 1 lc 1 l [⟨5, none, 0, []⟩] W hl1 rfl (by omega) hlm (five_by hlm) h1 h2
set_option maxRecDepth 100000 in
set_option maxHeartbeats 4000000 in
theorem lives_any (w : World) : Calls Try.prog 9 #[] w fun e w' => e = .returned (.bool true) ∧ Below w.heap.size w w' := by
  have t1 : Hid (1 = 1) := Lib.hid rfl
  have t2 : Hid (1 = 1) := Lib.hid rfl
  go_enter Try.func9, Try.ntmps9
  go_wp2_with (first
    | (go_at_call 25; refine (lv_build _ _ (Base.litg .u16 _ [6145] _ _ _ (by simp) rfl)).mono ?_; rintro e w1 ⟨P, pc, rfl, hpc, hp, b1⟩; have b0 := Base.alloc2 _ _ _ b1; have hb := later (Base.lit2 .u8 w bL _ 5 rfl _) b1; clear b1)
    | (go_at_call 18; refine (lv_find _ 11 (Nat.le_refl _) _ hb).mono ?_; rintro e w2 ⟨V, vc, rfl, hv, b2⟩; have hb := later hb b2; have hp := later hp b2; have b0 := thenB b0 b2; clear b2)
    | (go_at_call 14; refine (lv_dec _ _ (Base.litg .u8 _ [1, 5] _ _ _ (by simp) rfl)).mono ?_; rintro e w3 ⟨LA, lc, l, rfl, hl1, hlm, hl, b3⟩; have HL1 := Lib.hid hl1; have HLm := Lib.hid hlm; clear hl1 hlm; have hb := later (kept hb _) b3; have hp := later (kept hp _) b3; have hv := later (kept hv _) b3; have b0 := thenB b0 (Base.alloc1 _ _ b3); clear b3)
    | (go_at_call 10; refine (lv_enc _).mono ?_; rintro e w4 ⟨C, cc, rfl, hc, b4⟩; have hb := later (kept hb _) b4; have hp := later (kept hp _) b4; have hv := later (kept hv _) b4; have hl := (hl.kept _).later b4; have b0 := thenB b0 (Base.alloc1 _ _ b4); clear b4)
    | (go_at_call 13; clear t1; refine (Base.same_to (b := true) (by simp) rfl rfl bL_bytes bL_bytes hp hb).mono ?_; rintro e w9 ⟨rfl, rfl⟩; clear hp)
    | (go_at_call 20; refine (lv_name _ 11 (Nat.le_refl _) _ hb).mono ?_; rintro e w5 ⟨rfl, b5⟩; have hb := later hb b5; have hv := later hv b5; have hl := hl.later b5; have hc := later hc b5; have b0 := thenB b0 b5; clear b5)
    | (go_at_call 23; refine (lv_svc _ 11 (Nat.le_refl _) _ hb).mono ?_; rintro e w6 ⟨S, sc, rfl, hs, b6⟩; clear hb; have hv := later hv b6; have hl := hl.later b6; have hc := later hc b6; have b0 := thenB b0 b6; clear b6)
    | (go_at_call 22; refine (short_eq _ _ 1 _ _ [6145] _ rfl (by omega) (kept hs _) (Base.litg .u16 _ [6145] _ _ _ (by simp) rfl)).mono ?_; rintro e w7 ⟨rfl, b7⟩; clear hs; have hv := later (kept hv _) b7; have hl := (hl.kept _).later b7; have hc := later (kept hc _) b7; have b0 := thenB b0 (Base.alloc1 _ _ b7); clear b7)
    | (go_at_call 13; clear t2; refine (Base.same_to (b := true) (by simp) rfl rfl six_bytes six_bytes (kept hv _) (Base.litg .u8 _ [6] _ _ _ (by simp) rfl)).mono ?_; rintro e w9 ⟨rfl, rfl⟩; clear hv; have hl := hl.kept (.cells #[.int .u8 6] 5); have hc := kept hc (.cells #[.int .u8 6] 5); have b0 := b0.alloc b0.size (.cells #[.int .u8 6] 5))
    | (go_at_call 17; refine (lv_els LA lc l (w7.alloc (.cells #[.int .u8 6] 5)) (w7.heap.size + 1) (by simp) HL1.out HLm.out hl).mono ?_; rintro e w8 ⟨rfl, b8⟩; clear hl; have hc := later (kept hc _) b8; have b0 := thenB b0 (Base.alloc1 _ _ b8); clear b8)
    | (go_at_call 13; refine (Base.same_to (b := true) (by simp) rfl rfl one_bytes one_bytes (kept hc _) (Base.litg .u8 _ [1, 5] _ _ _ (by simp) rfl)).mono ?_; rintro e w9 ⟨rfl, rfl⟩))
  go_ret
  exact ⟨rfl, b0.alloc b0.size _⟩
end Go.Proofs.Ytpbfnkicbejdbaa.Ad
