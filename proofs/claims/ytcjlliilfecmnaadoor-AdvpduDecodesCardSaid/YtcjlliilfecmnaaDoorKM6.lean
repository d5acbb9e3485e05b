/- Bytes as the form of parameters: plain mathematics over the numbers of the form. Bytes to numbers: what the functions of the layer of bytes, and of its specification, return: contracts over the program. What Take gives of the form. Addresses: kinds, prefixes, random parts, the order: plain arithmetic. No program is mentioned. What each function of the layer of addresses returns that asks for numbers alone: contracts over the program. -/
import Derived.Test.YtcjlliilfecmnaaDoorKCnEnc2
import Derived.Test.YtcjlliilfecmnaaDoorKM4
import Derived.WalkKit
import Derived.Test.YtcjlliilfecmnaaDoorKM3
import Derived.Deep.RegionHeld3
section
set_option linter.unusedVariables false
set_option linter.unusedSimpArgs false
namespace Go.Proofs.YtcjlliilfecmnaaDoor.Cn
open Go.RowKit Mem Clk Rw

theorem numL_valL {l : List Int} (h : Bytes l) : Oct.numL l.length (Oct.valL l) = l := by
  induction l with
  | nil => rfl
  | cons x r ih =>
    have hx := h x (List.mem_cons_self ..)
    have hr : Bytes r := fun z hz => h z (List.mem_cons_of_mem _ hz)
    have hb := Oct.valL_bd hr
    simp only [List.length_cons, Oct.numL, Oct.valL]
    rw [show (x + 256 * Oct.valL r) % 256 = x by omega, show (x + 256 * Oct.valL r) / 256 = Oct.valL r by omega, ih hr]
/-- Numbers of the form, each in as many bytes as it has. -/
structure Wide (a b s o i l t : Int) (m : Nat) (h d g : Int) : Prop where
  ha : 0 ≤ a ∧ a ≤ 4294967295
  hb : 0 ≤ b ∧ b ≤ 16777215
  hs : 0 ≤ s ∧ s ≤ 255
  ho : 0 ≤ o ∧ o ≤ 65535
  hi : 0 ≤ i ∧ i ≤ 65535
  hl : 0 ≤ l ∧ l ≤ 65535
  ht : 0 ≤ t ∧ t ≤ 65535
  hm : m ≤ 1099511627775
  hh : 0 ≤ h ∧ h ≤ 255
  hd : 0 ≤ d ∧ d ≤ 65535
  hg : 0 ≤ g ∧ g ≤ 255
theorem val_of {xs : List Int} (hx : Bytes xs) (k : Nat) (hk : k ≤ xs.length) : (0 ≤ Oct.valL (xs.take k) ∧ Oct.valL (xs.take k) < Ser.p2 (8 * k)) ∧ Oct.numL k (Oct.valL (xs.take k)) = xs.take k := by
  have hb : Bytes (xs.take k) := fun z hz => hx z (List.mem_of_mem_take hz)
  have hl : (xs.take k).length = k := by rw [List.length_take]; omega
  have h1 := Oct.valL_bd hb
  have h2 := numL_valL hb
  rw [hl] at h1 h2
  exact ⟨h1, h2⟩
theorem form_of {xs : List Int} (hx : Bytes xs) (hl : xs.length = 25) : ∃ (a b s o i l t : Int) (m : Nat) (h d g : Int), Oct.numsL xs szL = nmL a b s o i l t m h d g ∧ Wide a b s o i l t m h d g ∧ xs = Oct.putL (flL a b s o i l t m h d g) := by
  have bd : ∀ k, Bytes (xs.drop k) := fun k z hz => hx z (List.mem_of_mem_drop hz)
  have ld : ∀ k, (xs.drop k).length = 25 - k := fun k => by rw [List.length_drop, hl]
  have p4 : Ser.p2 (8 * 4) = 4294967296 := by decide
  have p3 : Ser.p2 (8 * 3) = 16777216 := by decide
  have p1 : Ser.p2 (8 * 1) = 256 := by decide
  have p2' : Ser.p2 (8 * 2) = 65536 := by decide
  have p5 : Ser.p2 (8 * 5) = 1099511627776 := by decide
  have v0 := val_of hx 4 (by omega)
  have v1 := val_of (bd 4) 3 (by rw [ld]; omega)
  have v2 := val_of (bd 7) 1 (by rw [ld]; omega)
  have v3 := val_of (bd 8) 2 (by rw [ld]; omega)
  have v4 := val_of (bd 10) 2 (by rw [ld]; omega)
  have v5 := val_of (bd 12) 2 (by rw [ld]; omega)
  have v6 := val_of (bd 14) 2 (by rw [ld]; omega)
  have v7 := val_of (bd 16) 5 (by rw [ld]; omega)
  have v8 := val_of (bd 21) 1 (by rw [ld]; omega)
  have v9 := val_of (bd 22) 2 (by rw [ld]; omega)
  have v10 := val_of (bd 24) 1 (by rw [ld]; omega)
  rw [p4] at v0
  rw [p3] at v1
  rw [p1] at v2 v8 v10
  rw [p2'] at v3 v4 v5 v6 v9
  rw [p5] at v7
  have hm : (((Oct.valL ((xs.drop 16).take 5)).toNat : Nat) : Int) = Oct.valL ((xs.drop 16).take 5) := Int.toNat_of_nonneg v7.1.1
  refine ⟨Oct.valL (xs.take 4), Oct.valL ((xs.drop 4).take 3), Oct.valL ((xs.drop 7).take 1), Oct.valL ((xs.drop 8).take 2), Oct.valL ((xs.drop 10).take 2), Oct.valL ((xs.drop 12).take 2), Oct.valL ((xs.drop 14).take 2), (Oct.valL ((xs.drop 16).take 5)).toNat, Oct.valL ((xs.drop 21).take 1), Oct.valL ((xs.drop 22).take 2), Oct.valL ((xs.drop 24).take 1), ?_, ?_, ?_⟩
  · simp only [szL, Oct.numsL, nmL, hm, List.drop_drop]
    rfl
  · exact ⟨by omega, by omega, by omega, by omega, by omega, by omega, by omega, by omega, by omega, by omega, by omega⟩
  · have e : Oct.putL (flL (Oct.valL (xs.take 4)) (Oct.valL ((xs.drop 4).take 3)) (Oct.valL ((xs.drop 7).take 1)) (Oct.valL ((xs.drop 8).take 2)) (Oct.valL ((xs.drop 10).take 2)) (Oct.valL ((xs.drop 12).take 2)) (Oct.valL ((xs.drop 14).take 2)) (Oct.valL ((xs.drop 16).take 5)).toNat (Oct.valL ((xs.drop 21).take 1)) (Oct.valL ((xs.drop 22).take 2)) (Oct.valL ((xs.drop 24).take 1))) =
        xs.take 4 ++ ((xs.drop 4).take 3 ++ ((xs.drop 7).take 1 ++ ((xs.drop 8).take 2 ++ ((xs.drop 10).take 2 ++ ((xs.drop 12).take 2 ++ ((xs.drop 14).take 2 ++ ((xs.drop 16).take 5 ++ ((xs.drop 21).take 1 ++ ((xs.drop 22).take 2 ++ ((xs.drop 24).take 1 ++ [])))))))))) := by
      simp only [flL, Oct.putL, hm]
      rw [show (4 : Int).toNat = 4 from rfl, show (3 : Int).toNat = 3 from rfl, show (1 : Int).toNat = 1 from rfl, show (2 : Int).toNat = 2 from rfl, show (5 : Int).toNat = 5 from rfl]
      rw [v0.2, v1.2, v2.2, v3.2, v4.2, v5.2, v6.2, v7.2, v8.2, v9.2, v10.2]
    rw [e]
    have st : ∀ k n : Nat, (xs.drop k).take n ++ xs.drop (k + n) = xs.drop k := fun k n => by rw [← List.drop_drop]; exact List.take_append_drop n _
    have h24 : (xs.drop 24).take 1 ++ [] = xs.drop 24 := by rw [List.append_nil]; exact List.take_of_length_le (by rw [ld]; omega)
    rw [h24, st 22 2, st 21 1, st 16 5, st 14 2, st 12 2, st 10 2, st 8 2, st 7 1, st 4 3, List.take_append_drop]
/-- The numbers of the form are read again. -/
theorem nums_put {a b s o i l t : Int} {m : Nat} {h d g : Int} (k : Wide a b s o i l t m h d g) : Oct.numsL (Oct.putL (flL a b s o i l t m h d g)) szL = nmL a b s o i l t m h d g := by
  obtain ⟨ha, hb, hs, ho, hi, hl, ht, hm, hh, hd, hg⟩ := k
  have p4 : Ser.p2 (8 * 4) = 4294967296 := by decide
  have p3 : Ser.p2 (8 * 3) = 16777216 := by decide
  have p1 : Ser.p2 (8 * 1) = 256 := by decide
  have p2' : Ser.p2 (8 * 2) = 65536 := by decide
  have p5 : Ser.p2 (8 * 5) = 1099511627776 := by decide
  have tk : ∀ (n : Nat) (v : Int) (r : List Int), (Oct.numL n v ++ r).take n = Oct.numL n v := fun n v r => by rw [List.take_append_of_le_length (by rw [Oct.numL_len]; exact Nat.le_refl _), List.take_of_length_le (by rw [Oct.numL_len]; exact Nat.le_refl _)]
  have dp : ∀ (n : Nat) (v : Int) (r : List Int), (Oct.numL n v ++ r).drop n = r := fun n v r => by rw [List.drop_append_of_le_length (by rw [Oct.numL_len]; exact Nat.le_refl _), List.drop_of_length_le (by rw [Oct.numL_len]; exact Nat.le_refl _), List.nil_append]
  simp only [szL, flL, Oct.putL, Oct.numsL, nmL, show (4 : Int).toNat = 4 from rfl, show (3 : Int).toNat = 3 from rfl, show (1 : Int).toNat = 1 from rfl, show (2 : Int).toNat = 2 from rfl, show (5 : Int).toNat = 5 from rfl, tk, dp]
  rw [Oct.valL_numL 4 a ha.1 (by omega), Oct.valL_numL 3 b hb.1 (by omega), Oct.valL_numL 1 s hs.1 (by omega), Oct.valL_numL 2 o ho.1 (by omega), Oct.valL_numL 2 i hi.1 (by omega), Oct.valL_numL 2 l hl.1 (by omega), Oct.valL_numL 2 t ht.1 (by omega), Oct.valL_numL 5 m (by omega) (by omega), Oct.valL_numL 1 h hh.1 (by omega), Oct.valL_numL 2 d hd.1 (by omega), Oct.valL_numL 1 g hg.1 (by omega)]
theorem good_wide {a b s o i l t : Int} {m : Nat} {h d g : Int} (k : Good a b s o i l t m h d g) : Wide a b s o i l t m h d g := by
  obtain ⟨ha, hb, ⟨u1, u2, u3, u4, u5, u6, u7, u8, u9, u10⟩, hm, hh, hd, hg⟩ := k
  exact ⟨ha, by omega, by omega, by omega, by omega, by omega, by omega, by omega, by omega, by omega, by omega⟩
theorem put_bytes (fs : List (Int × Int)) : Bytes (Oct.putL fs) := by
  induction fs with
  | nil => intro z hz; cases hz
  | cons f r ih =>
    intro z hz
    rcases List.mem_append.mp hz with h | h
    · exact Oct.numL_bytes _ _ z h
    · exact ih z h
end Go.Proofs.YtcjlliilfecmnaaDoor.Cn

end
section
set_option linter.unusedVariables false
set_option linter.unusedSimpArgs false
namespace Go.Proofs.YtcjlliilfecmnaaDoor.Oct
open Go.RowKit Mem

theorem info_u64 : (Tryd.prog.info? 22).map (fun i => (i.zero, i.size, i.bytes)) = some (some (.int .u64 0), 1, 8) := by kernel_rfl
/-- Three results: numbers, bytes, an error. -/
def Gives3 (w w' : World) (e : Ending) (r : List Int × List Int × Int) : Prop :=
  ∃ A c A' c', e = .returned (.tuple #[.slice A r.1.length c, .slice A' r.2.1.length c', .int .i64 r.2.2]) ∧ w'.ownsRow w.heap.size 22 1 (.slice A r.1.length c) r.1.length (r.1.map (Value.int .u64)) ∧
    w'.ownsRow w.heap.size 5 1 (.slice A' r.2.1.length c') r.2.1.length (r.2.1.map (Value.int .u8)) ∧ Below w.heap.size w w'
theorem gives3_err {w w' : World} {e : Ending} {x : Int} {r : List Int × List Int × Int} (hr : r = ([], [], x)) (he : e = .returned (.tuple #[.slice none 0 0, .slice none 0 0, .int .i64 x])) (hb : Below w.heap.size w w') : Gives3 w w' e r := by
  subst hr
  exact ⟨none, 0, none, 0, he, World.ownsRow_nil _ _ _ _, World.ownsRow_nil _ _ _ _, hb⟩
theorem gives3_of {w w' : World} {e : Ending} {v : Value} {A' : Option Addr} {m c' : Nat} {ns bs : List Int} {r : List Int × List Int × Int} (hr : r = (ns, bs, 0)) (he : e = .returned (.tuple #[v, .slice A' m c', .int .i64 0])) (hm : bs.length = m)
    (hv : w'.ownsRow w.heap.size 22 1 v ns.length (ns.map (Value.int .u64))) (ho : w'.ownsRow w.heap.size 5 1 (.slice A' bs.length c') bs.length (bs.map (Value.int .u8))) (hb : Below w.heap.size w w') : Gives3 w w' e r := by
  obtain ⟨A, c, hf⟩ := own_form hv
  subst hr hm
  exact ⟨A, c, A', c', by rw [he, hf], by rw [← hf]; exact hv, ho, hb⟩
theorem take_any (A A' : Option Addr) (n n' c c' : Nat) (xs zs : List Int) (w : World) (hx : xs.length = n) (hz : zs.length = n') (hnc : n ≤ c) (hn : n ≤ 140737488351232) (hn' : n' ≤ 17592186043904) (bxs : Bytes xs) (bzs : Sizes zs) (hr : Ints .u8 w w.heap.size A xs) (hr' : Ints .i64 w w.heap.size A' zs) :
    Calls Tryd.prog 74 #[.slice A n c, .slice A' n' c'] w fun e w' => Gives3 w w' e (takeR xs zs) := by
  obtain ⟨i0, hi, hz0, hz1, hz2⟩ := info_parts info_u64
  have Hx := Lib.hid hx
  have Hz := Lib.hid hz
  clear hx hz
  go_enter Tryd.func74, Tryd.ntmps74
  go_wp2_with fail
  go_loop [7, 15] (fun t i => ∃ k : Nat, k ≤ n' ∧ i = .int .i64 k ∧ okZ (zs.take k) = true ∧ t = .int .i64 (sumZ (zs.take k))) (fun _ i => n' - (intOf i).toNat)
  case atStart => exact ⟨0, by omega, rfl, rfl, rfl⟩
  case round =>
    obtain ⟨k, hk, rfl, hok, rfl⟩ := hrel
    have HOK := Lib.hid hok
    clear hok
    by_cases c1 : k < n'
    · obtain ⟨b, off, rfl, hb, hc⟩ := hr'.at_ (i := k) (by rw [Hz.out]; omega)
      have f1 := hc k (by rw [Hz.out]; omega)
      clear hc
      have bz := sizes_get bzs k
      obtain ⟨z, hzk⟩ : ∃ z, zs.getD k 0 = z := ⟨_, rfl⟩
      rw [hzk] at f1 bz
      have HZ := Lib.hid hzk
      clear hzk
      have hsum := sumZ_le HOK.out
      cases hv : decide (1 ≤ z ∧ z ≤ 8)
      · have HR : Hid (takeR xs zs = ([], [], 5)) := Lib.hid (takeR_size _ (by rw [Hz.out]; exact c1) (by rw [HZ.out]; exact hv))
        go_wp2_with (go_at_call 62; refine (valid_any _ _ (by omega)).mono ?_; rintro e w' ⟨rfl, rfl⟩)
        go_ret3
        exact gives3_err HR.out rfl (Below.refl _ _)
      · have hz8 : 1 ≤ z ∧ z ≤ 8 := of_decide_eq_true hv
        have HO2 := Lib.hid (okZ_snoc HOK.out (by rw [Hz.out]; exact c1) (by rw [HZ.out]; exact hv))
        have HS2 := Lib.hid (sumZ_snoc (zs := zs) (k := k) (by rw [Hz.out]; exact c1) HZ.out)
        have hlen : (zs.take k).length ≤ k := List.length_take_le _ _
        go_wp2_with (go_at_call 62; refine (valid_any _ _ (by omega)).mono ?_; rintro e w' ⟨rfl, rfl⟩)
        go_round
        case rel => exact ⟨k + 1, by omega, by go_num, HO2.out, by rw [HS2.out]⟩
        case measure => simp [intOf]; omega
    · have hkn : k = n' := by omega
      have HT : Hid (zs.take k = zs) := Lib.hid (List.take_of_length_le (by rw [Hz.out]; omega))
      rw [HT.out] at HOK ⊢
      clear hkn
      by_cases hlt : (n : Int) < sumZ zs
      · have HR : Hid (takeR xs zs = ([], [], 3)) := Lib.hid (takeR_short HOK.out (by rw [Hx.out]; exact hlt))
        go_wp2_with fail
        go_ret3
        exact gives3_err HR.out rfl (Below.refl _ _)
      · have HG := Lib.hid (takeR_good HOK.out (by rw [Hx.out]; exact hlt))
        go_wp2_with fail
        go_loopw [0, 10, 32] (fun s v i wr => ∃ j : Nat, j ≤ n' ∧ i = .int .i64 j ∧ ∃ Ab nb cb, s = .slice Ab nb cb ∧ nb ≤ cb ∧ (xs.drop (sumZ (zs.take j)).toNat).length = nb ∧ Ints .u8 wr w.heap.size Ab (xs.drop (sumZ (zs.take j)).toNat) ∧ wr.ownsRow w.heap.size 22 1 v j ((numsL xs (zs.take j)).map (Value.int .u64)) ∧ Below w.heap.size w wr) (fun _ _ i _ => n' - (intOf i).toNat)
        case atStart => exact ⟨0, by omega, rfl, A, n, c, rfl, hnc, by simpa [sumZ] using Hx.out, by simpa [sumZ] using hr, World.ownsRow_nil _ _ _ _, Below.refl _ _⟩
        case round =>
          obtain ⟨j, hj, rfl, Ab, nb, cb, rfl, hcb, hlb, hib, hown, hbel⟩ := hrel
          by_cases c2 : j < n'
          · obtain ⟨b, off, rfl, hb, hc⟩ := (hr'.below hbel).at_ (i := j) (by rw [Hz.out]; omega)
            have f1 := hc j (by rw [Hz.out]; omega)
            clear hc
            have hz8 := okZ_get HOK.out (k := j) (by rw [Hz.out]; omega)
            have HNS := Lib.hid (numsL_snoc HOK.out xs j (by rw [Hz.out]; omega))
            obtain ⟨z, hzk⟩ : ∃ z, zs.getD j 0 = z := ⟨_, rfl⟩
            have HSS := Lib.hid (sumZ_snoc (zs := zs) (k := j) (by rw [Hz.out]; omega) hzk)
            have hT := (sumZ_take_le HOK.out (j + 1)).2
            have hT0 := (sumZ_take_le HOK.out j).1
            rw [HSS.out] at hT
            rw [hzk] at f1 hz8 HNS
            clear hzk
            obtain ⟨m, rfl⟩ := Int.eq_ofNat_of_zero_le (show 0 ≤ z by omega)
            rw [Int.toNat_natCast] at HNS
            have HS3 : Hid ((sumZ (zs.take (j + 1))).toNat = (sumZ (zs.take j)).toNat + m) := Lib.hid (by rw [HSS.out]; omega)
            have hmn : m ≤ nb := by rw [List.length_drop, Hx.out] at hlb; omega
            generalize hys : xs.drop (sumZ (zs.take j)).toNat = ys at *
            have HYS := Lib.hid hys
            have HLB := Lib.hid hlb
            clear hys hlb
            have bys : Bytes ys := by rw [← HYS.out]; exact bytes_drop bxs _
            have hlm : (ys.take m).length = m := by rw [List.length_take, HLB.out]; omega
            have HLM := Lib.hid hlm
            have hpre := hib.pre (i := m)
            have hcut := hib.cut (c := cb) (i := m) (by rw [HLB.out]; exact hmn) (by rw [HLB.out]; exact hcb)
            clear hlm hT
            go_wp2_with (first | (go_at_call 81; refine (number_any _ _ _ (ys.take m) _ HLM.out (bytes_take bys m) (hpre.more hbel.size) (by omega)).mono ?_; rintro e w' ⟨rfl, rfl⟩) | (at_builtin; refine wpList_append_ints rfl _ _ 83 rfl .u64 w.heap.size 22 i0 _ 8 Tryd.underlying83 hi hz0 hz1 hz2 rfl _ j _ rfl (hown.alloc _) (wr.heap.size + 1) _ 1 1 [valL (ys.take m)] rfl rfl ?c1 ?c2 ?c3 ?c4 ?_; (case c1 => exact Ints.lit _ _ _ _ _ rfl); (case c2 => unfold maxLen; omega); (case c3 => omega); (case c4 => have := hbel.size; simp; omega); intro v2 w2 hown2 hb2 _))
            go_roundw
            case rel =>
              have hb3 := (hbel.alloc hbel.size (.cells #[.int .u64 (valL (ys.take m))] 22)).trans hb2
              refine ⟨j + 1, by omega, by go_num, _, _, _, rfl, ?_, ?_, ?_, ?_, hb3⟩
              · omega
              · rw [HS3.out, ← List.drop_drop, HYS.out, List.length_drop, HLB.out]
              · rw [HS3.out, ← List.drop_drop, HYS.out]
                exact (hcut.alloc hbel.size _).below hb2
              · rw [HNS.out, List.map_append]; exact hown2
            case measure => simp [intOf]; omega
          · have hjn : j = n' := by omega
            have HT2 : Hid (zs.take j = zs) := Lib.hid (List.take_of_length_le (by rw [Hz.out]; omega))
            rw [HT2.out] at hlb hib hown
            have HLB := Lib.hid hlb
            have HOW : Hid (wr.ownsRow w.heap.size 22 1 u10 (numsL xs zs).length ((numsL xs zs).map (Value.int .u64))) := Lib.hid (by rw [numsL_len, Hz.out, ← hjn]; exact hown)
            have hnb : nb ≤ 140737488351232 := by rw [← hlb, List.length_drop, Hx.out]; omega
            have hnil : Ab = none → nb = 0 := by
              intro e
              rcases hib with h | ⟨_, _, e', _⟩
              · rw [← hlb, h]; rfl
              · rw [e] at e'; cases e'
            clear hjn hlb
            go_wp2_with (go_at_call 82; refine (clone_any _ _ _ (xs.drop (sumZ zs).toNat) _ HLB.out (hib.more hbel.size) hnb hnil).mono ?_; rintro e w3 ⟨A3, c3, rfl, hown3, hb3⟩)
            go_ret3
            exact gives3_of HG.out rfl (by rw [List.length_drop]) (own_below HOW.out hb3) (own_base hown3 hbel.size) (hbel.trans (hb3.mono hbel.size))
theorem rtake_any (A A' : Option Addr) (n n' c c' : Nat) (xs zs : List Int) (w : World) (hx : xs.length = n) (hz : zs.length = n') (hnc : n ≤ c) (hn : n ≤ 140737488351232) (hn' : n' ≤ 17592186043904) (bxs : Bytes xs) (bzs : Sizes zs) (hr : Ints .u8 w w.heap.size A xs) (hr' : Ints .i64 w w.heap.size A' zs) :
    Calls Tryd.prog 61 #[.slice A n c, .slice A' n' c'] w fun e w' => Gives3 w w' e (takeR xs zs) := by
  obtain ⟨i0, hi, hz0, hz1, hz2⟩ := info_parts info_u64
  have Hx := Lib.hid hx
  have Hz := Lib.hid hz
  clear hx hz
  go_enter Tryd.func61, Tryd.ntmps61
  go_wp2_with fail
  go_loop [7, 8] (fun t i => ∃ k : Nat, k ≤ n' ∧ i = .int .i64 k ∧ okZ (zs.take k) = true ∧ t = .int .i64 (sumZ (zs.take k))) (fun _ i => n' - (intOf i).toNat)
  case atStart => exact ⟨0, by omega, rfl, rfl, rfl⟩
  case round =>
    obtain ⟨k, hk, rfl, hok, rfl⟩ := hrel
    have HOK := Lib.hid hok
    clear hok
    by_cases c1 : k < n'
    · obtain ⟨b, off, rfl, hb, hc⟩ := hr'.at_ (i := k) (by rw [Hz.out]; omega)
      have f1 := hc k (by rw [Hz.out]; omega)
      clear hc
      have bz := sizes_get bzs k
      obtain ⟨z, hzk⟩ : ∃ z, zs.getD k 0 = z := ⟨_, rfl⟩
      rw [hzk] at f1 bz
      have HZ := Lib.hid hzk
      clear hzk
      have hsum := sumZ_le HOK.out
      by_cases d1 : z < 1
      · have HR : Hid (takeR xs zs = ([], [], 5)) := Lib.hid (takeR_size _ (by rw [Hz.out]; exact c1) (by rw [HZ.out]; simp; omega))
        go_wp2_with fail
        go_ret3
        exact gives3_err HR.out rfl (Below.refl _ _)
      · have d1' : decide (z < 1) = false := by simpa using d1
        by_cases d2 : 8 < z
        · have HR : Hid (takeR xs zs = ([], [], 5)) := Lib.hid (takeR_size _ (by rw [Hz.out]; exact c1) (by rw [HZ.out]; simp; omega))
          go_wp2_with fail
          go_ret3
          exact gives3_err HR.out rfl (Below.refl _ _)
        · have d2' : decide (8 < z) = false := by simpa using d2
          have HO2 := Lib.hid (okZ_snoc HOK.out (by rw [Hz.out]; exact c1) (by rw [HZ.out]; simp; omega))
          have HS2 := Lib.hid (sumZ_snoc (zs := zs) (k := k) (by rw [Hz.out]; exact c1) HZ.out)
          have hlen : (zs.take k).length ≤ k := List.length_take_le _ _
          go_wp2_with fail
          go_round
          case rel => exact ⟨k + 1, by omega, by go_num, HO2.out, by rw [HS2.out]⟩
          case measure => simp [intOf]; omega
    · have hkn : k = n' := by omega
      have HT : Hid (zs.take k = zs) := Lib.hid (List.take_of_length_le (by rw [Hz.out]; omega))
      rw [HT.out] at HOK ⊢
      clear hkn
      by_cases hlt : (n : Int) < sumZ zs
      · have HR : Hid (takeR xs zs = ([], [], 3)) := Lib.hid (takeR_short HOK.out (by rw [Hx.out]; exact hlt))
        go_wp2_with fail
        go_ret3
        exact gives3_err HR.out rfl (Below.refl _ _)
      · have HG := Lib.hid (takeR_good HOK.out (by rw [Hx.out]; exact hlt))
        go_wp2_with fail
        have hb00 : Below w.heap.size w (w.alloc (.cells #[] 22)) := (Below.refl _ _).alloc (Nat.le_refl _) _
        go_loopw [0, 9, 10] (fun s v i wr => ∃ j : Nat, j ≤ n' ∧ i = .int .i64 j ∧ ∃ Ab nb cb, s = .slice Ab nb cb ∧ nb ≤ cb ∧ (xs.drop (sumZ (zs.take j)).toNat).length = nb ∧ Ints .u8 wr w.heap.size Ab (xs.drop (sumZ (zs.take j)).toNat) ∧ wr.ownsRow w.heap.size 22 1 v j ((numsL xs (zs.take j)).map (Value.int .u64)) ∧ Below w.heap.size w wr) (fun _ _ i _ => n' - (intOf i).toNat)
        case atStart => exact ⟨0, by omega, rfl, A, n, c, rfl, hnc, by simpa [sumZ] using Hx.out, by simpa [sumZ] using hr.below hb00, World.ownsRow_made _ _ 0 (Nat.le_refl _) (by unfold maxLen; omega) rfl, hb00⟩
        case round =>
          obtain ⟨j, hj, rfl, Ab, nb, cb, rfl, hcb, hlb, hib, hown, hbel⟩ := hrel
          by_cases c2 : j < n'
          · obtain ⟨b, off, rfl, hb, hc⟩ := (hr'.below hbel).at_ (i := j) (by rw [Hz.out]; omega)
            have f1 := hc j (by rw [Hz.out]; omega)
            have hr2 := hr'.below hbel
            clear hc
            have hz8 := okZ_get HOK.out (k := j) (by rw [Hz.out]; omega)
            have HNS := Lib.hid (numsL_snoc HOK.out xs j (by rw [Hz.out]; omega))
            obtain ⟨z, hzk⟩ : ∃ z, zs.getD j 0 = z := ⟨_, rfl⟩
            have HSS := Lib.hid (sumZ_snoc (zs := zs) (k := j) (by rw [Hz.out]; omega) hzk)
            have hT := (sumZ_take_le HOK.out (j + 1)).2
            have hT0 := (sumZ_take_le HOK.out j).1
            rw [HSS.out] at hT
            rw [hzk] at f1 hz8 HNS
            clear hzk
            obtain ⟨m, rfl⟩ := Int.eq_ofNat_of_zero_le (show 0 ≤ z by omega)
            rw [Int.toNat_natCast] at HNS
            have HS3 : Hid ((sumZ (zs.take (j + 1))).toNat = (sumZ (zs.take j)).toNat + m) := Lib.hid (by rw [HSS.out]; omega)
            have hmn : m ≤ nb := by rw [List.length_drop, Hx.out] at hlb; omega
            generalize hys : xs.drop (sumZ (zs.take j)).toNat = ys at *
            have HYS := Lib.hid hys
            have HLB := Lib.hid hlb
            clear hys hlb
            have bys : Bytes ys := by rw [← HYS.out]; exact bytes_drop bxs _
            have hlm : (ys.take m).length = m := by rw [List.length_take, HLB.out]; omega
            have HLM := Lib.hid hlm
            have hpre := hib.pre (i := m)
            have hcut := hib.cut (c := cb) (i := m) (by rw [HLB.out]; exact hmn) (by rw [HLB.out]; exact hcb)
            clear hlm hT
            go_wp2_with (first | (go_at_call 76; refine (value_any _ _ _ (ys.take m) _ HLM.out (bytes_take bys m) (hpre.more hbel.size) (by omega)).mono ?_; rintro e w' ⟨rfl, rfl⟩) | (at_builtin; refine wpList_append_ints rfl _ _ 83 rfl .u64 w.heap.size 22 i0 _ 8 Tryd.underlying83 hi hz0 hz1 hz2 rfl _ j _ rfl (hown.alloc _) (wr.heap.size + 1) _ 1 1 [valL (ys.take m)] rfl rfl ?c1 ?c2 ?c3 ?c4 ?_; (case c1 => exact Ints.lit _ _ _ _ _ rfl); (case c2 => unfold maxLen; omega); (case c3 => omega); (case c4 => have := hbel.size; simp; omega); intro v2 w2 hown2 hb2 _; have f4 := ((((Below.refl w.heap.size wr).alloc hbel.size (.cells #[.int .u64 (valL (ys.take m))] 22)).trans hb2).cell (p := ⟨b, off + j, none⟩) hb).trans f1))
            go_roundw
            case rel =>
              have hb3 := (hbel.alloc hbel.size (.cells #[.int .u64 (valL (ys.take m))] 22)).trans hb2
              refine ⟨j + 1, by omega, by go_num, _, _, _, rfl, ?_, ?_, ?_, ?_, hb3⟩
              · omega
              · rw [HS3.out, ← List.drop_drop, HYS.out, List.length_drop, HLB.out]
              · rw [HS3.out, ← List.drop_drop, HYS.out]
                exact (hcut.alloc hbel.size _).below hb2
              · rw [HNS.out, List.map_append]; exact hown2
            case measure => simp [intOf]; omega
          · have hjn : j = n' := by omega
            have HT2 : Hid (zs.take j = zs) := Lib.hid (List.take_of_length_le (by rw [Hz.out]; omega))
            rw [HT2.out] at hlb hib hown
            have HLB := Lib.hid hlb
            have HOW : Hid (wr.ownsRow w.heap.size 22 1 u9 (numsL xs zs).length ((numsL xs zs).map (Value.int .u64))) := Lib.hid (by rw [numsL_len, Hz.out, ← hjn]; exact hown)
            have hnb : nb ≤ 140737488351232 := by rw [← hlb, List.length_drop, Hx.out]; omega
            obtain ⟨i1, hi', hz0', hz1', hz2'⟩ := info_parts info_u8
            clear hjn hlb
            go_wp2_with (at_builtin; refine wpList_append_ints rfl _ _ 25 rfl .u8 wr.heap.size 5 i1 _ 1 Tryd.underlying25 hi' hz0' hz1' hz2' rfl (.slice (some ⟨wr.heap.size, 0, none⟩) 0 0) 0 [] rfl (World.ownsRow_made _ _ 0 (Nat.le_refl _) (by unfold maxLen; omega) rfl) w.heap.size Ab nb cb (xs.drop (sumZ zs).toNat) rfl HLB.out ?c1 ?c2 ?c3 ?c4 ?_; (case c1 => exact hib.alloc hbel.size _); (case c2 => unfold maxLen; omega); (case c3 => omega); (case c4 => simp); intro v3 w3 hown3 hb3 _)
            go_ret3
            have hb4 : Below wr.heap.size wr w3 := ((Below.refl _ _).alloc (Nat.le_refl _) _).trans hb3
            simp only [Nat.zero_add, List.nil_append] at hown3
            obtain ⟨A3, c3, hv3⟩ := own_form hown3
            rw [hv3] at hown3
            refine gives3_of (A' := A3) (c' := c3) HG.out ?_ HLB.out (own_below HOW.out hb4) (own_base (by rw [HLB.out]; exact hown3) hbel.size) (hbel.trans (hb4.mono hbel.size))
            rw [← hv3]; rfl
end Go.Proofs.YtcjlliilfecmnaaDoor.Oct

end
section
set_option linter.unusedVariables false
set_option linter.unusedSimpArgs false
namespace Go.Proofs.YtcjlliilfecmnaaDoor.Cn
open Go.RowKit Mem Clk Rw

abbrev Nums (w : World) (k : Nat) (a b s o i l t : Int) (m : Nat) (h d g : Int) : Prop := w.cell? ⟨k, 0, none⟩ = some (.int .u64 a) ∧ w.cell? ⟨k, 1, none⟩ = some (.int .u64 b) ∧ w.cell? ⟨k, 2, none⟩ = some (.int .u64 s) ∧ w.cell? ⟨k, 3, none⟩ = some (.int .u64 o) ∧ w.cell? ⟨k, 4, none⟩ = some (.int .u64 i) ∧ w.cell? ⟨k, 5, none⟩ = some (.int .u64 l) ∧ w.cell? ⟨k, 6, none⟩ = some (.int .u64 t) ∧ w.cell? ⟨k, 7, none⟩ = some (.int .u64 (m : Int)) ∧ w.cell? ⟨k, 8, none⟩ = some (.int .u64 h) ∧ w.cell? ⟨k, 9, none⟩ = some (.int .u64 d) ∧ w.cell? ⟨k, 10, none⟩ = some (.int .u64 g)
theorem nums_below {w w' : World} {k : Nat} {a b s o i l t : Int} {m : Nat} {h d g : Int} (H : Nums w k a b s o i l t m h d g) (x : Below w.heap.size w w') : Nums w' k a b s o i l t m h d g := by
  have hg := World.block_lt_of_cell? _ _ H.1
  obtain ⟨h0, h1, h2, h3, h4, h5, h6, h7, h8, h9, h10⟩ := H
  exact ⟨(x.cell (p := ⟨k, 0, none⟩) hg).trans h0, (x.cell (p := ⟨k, 1, none⟩) hg).trans h1, (x.cell (p := ⟨k, 2, none⟩) hg).trans h2, (x.cell (p := ⟨k, 3, none⟩) hg).trans h3, (x.cell (p := ⟨k, 4, none⟩) hg).trans h4, (x.cell (p := ⟨k, 5, none⟩) hg).trans h5, (x.cell (p := ⟨k, 6, none⟩) hg).trans h6, (x.cell (p := ⟨k, 7, none⟩) hg).trans h7, (x.cell (p := ⟨k, 8, none⟩) hg).trans h8, (x.cell (p := ⟨k, 9, none⟩) hg).trans h9, (x.cell (p := ⟨k, 10, none⟩) hg).trans h10⟩
theorem par_set {X : World} {g : Nat} {t : TypeId} {z0 z1 z2 z3 z4 z5 z6 z7 z8 z9 z10 : Value} (v0 v1 v2 v3 v4 v5 v6 v7 v8 v9 v10 : Value) (h : Blk X g t #[z0, z1, z2, z3, z4, z5, z6, z7, z8, z9, z10]) :
    Blk (((((((((((X.setCell ⟨g, 0, none⟩ (v0)).setCell ⟨g, 1, none⟩ (v1)).setCell ⟨g, 2, none⟩ (v2)).setCell ⟨g, 3, none⟩ (v3)).setCell ⟨g, 4, none⟩ (v4)).setCell ⟨g, 5, none⟩ (v5)).setCell ⟨g, 6, none⟩ (v6)).setCell ⟨g, 7, none⟩ (v7)).setCell ⟨g, 8, none⟩ (v8)).setCell ⟨g, 9, none⟩ (v9)).setCell ⟨g, 10, none⟩ (v10)) g t #[v0, v1, v2, v3, v4, v5, v6, v7, v8, v9, v10] := by
  have := (blk_setc (blk_setc (blk_setc (blk_setc (blk_setc (blk_setc (blk_setc (blk_setc (blk_setc (blk_setc (blk_setc h 0 v0) 1 v1) 2 v2) 3 v3) 4 v4) 5 v5) 6 v6) 7 v7) 8 v8) 9 v9) 10 v10)
  simpa using this
theorem par_below {W X : World} {B g : Nat} (v0 v1 v2 v3 v4 v5 v6 v7 v8 v9 v10 : Value) (b : Below B W X) (hg : B ≤ g) : Below B W (((((((((((X.setCell ⟨g, 0, none⟩ (v0)).setCell ⟨g, 1, none⟩ (v1)).setCell ⟨g, 2, none⟩ (v2)).setCell ⟨g, 3, none⟩ (v3)).setCell ⟨g, 4, none⟩ (v4)).setCell ⟨g, 5, none⟩ (v5)).setCell ⟨g, 6, none⟩ (v6)).setCell ⟨g, 7, none⟩ (v7)).setCell ⟨g, 8, none⟩ (v8)).setCell ⟨g, 9, none⟩ (v9)).setCell ⟨g, 10, none⟩ (v10)) :=
  (((((((((((b.setCell (p := ⟨g, 0, none⟩) hg _).setCell (p := ⟨g, 1, none⟩) hg _).setCell (p := ⟨g, 2, none⟩) hg _).setCell (p := ⟨g, 3, none⟩) hg _).setCell (p := ⟨g, 4, none⟩) hg _).setCell (p := ⟨g, 5, none⟩) hg _).setCell (p := ⟨g, 6, none⟩) hg _).setCell (p := ⟨g, 7, none⟩) hg _).setCell (p := ⟨g, 8, none⟩) hg _).setCell (p := ⟨g, 9, none⟩) hg _).setCell (p := ⟨g, 10, none⟩) hg _)
theorem upd_below' {W X : World} {B g : Nat} (v0 v1 v2 v3 v4 : Value) (b : Below B W X) (hg : B ≤ g) : Below B W (((((X.setCell ⟨g, 0, none⟩ (v0)).setCell ⟨g, 1, none⟩ (v1)).setCell ⟨g, 2, none⟩ (v2)).setCell ⟨g, 3, none⟩ (v3)).setCell ⟨g, 4, none⟩ (v4)) :=
  (((((b.setCell (p := ⟨g, 0, none⟩) hg _).setCell (p := ⟨g, 1, none⟩) hg _).setCell (p := ⟨g, 2, none⟩) hg _).setCell (p := ⟨g, 3, none⟩) hg _).setCell (p := ⟨g, 4, none⟩) hg _)
theorem par_frz {w : World} {k : Nat} {ty : TypeId} {cs : Array Value} (H : Blk w k ty cs) : w.frozen? ⟨k, 0, none⟩ = false ∧ w.frozen? ⟨k, 1, none⟩ = false ∧ w.frozen? ⟨k, 2, none⟩ = false ∧ w.frozen? ⟨k, 3, none⟩ = false ∧ w.frozen? ⟨k, 4, none⟩ = false ∧ w.frozen? ⟨k, 5, none⟩ = false ∧ w.frozen? ⟨k, 6, none⟩ = false ∧ w.frozen? ⟨k, 7, none⟩ = false ∧ w.frozen? ⟨k, 8, none⟩ = false ∧ w.frozen? ⟨k, 9, none⟩ = false ∧ w.frozen? ⟨k, 10, none⟩ = false :=
  ⟨frz H 0, frz H 1, frz H 2, frz H 3, frz H 4, frz H 5, frz H 6, frz H 7, frz H 8, frz H 9, frz H 10⟩
def zrL : List Int := nmL 0 0 0 0 0 0 0 0 0 0 0
def okN (n : List Int) : Int := okP (n.getD 0 0) (n.getD 1 0) (n.getD 2 0) (n.getD 3 0) (n.getD 4 0) (n.getD 5 0) (n.getD 6 0) (n.getD 7 0).toNat (n.getD 8 0) (n.getD 9 0) (n.getD 10 0)
def parN (n : List Int) : Value := .agg (par (n.getD 0 0) (n.getD 1 0) (n.getD 2 0) (n.getD 3 0) (n.getD 4 0) (n.getD 5 0) (n.getD 6 0) (n.getD 7 0).toNat (n.getD 8 0) (n.getD 9 0) (n.getD 10 0))
/-- What Decode returns: the numbers, and the error. -/
def decR (xs : List Int) : List Int × Int := if xs.length < 25 then (zrL, 3) else if 25 < xs.length then (zrL, 2) else if okN (Oct.numsL xs szL) = 0 then (Oct.numsL xs szL, 0) else (zrL, okN (Oct.numsL xs szL))
theorem okN_nm (a b s o i l t : Int) (m : Nat) (h d g : Int) : okN (nmL a b s o i l t m h d g) = okP a b s o i l t m h d g := by
  simp [okN, nmL]
theorem parN_nm (a b s o i l t : Int) (m : Nat) (h d g : Int) : parN (nmL a b s o i l t m h d g) = .agg (par a b s o i l t m h d g) := by
  simp [parN, nmL, par]
theorem sz_sizes : Oct.Sizes szL := fun z hz => by have := sz_bd z hz; omega
theorem sz_sum : Oct.okZ szL = true ∧ Oct.sumZ szL = 25 := by decide
theorem take_short (A A' : Option Addr) (n c c' : Nat) (xs : List Int) (w : World) (hx : xs.length = n) (hnc : n ≤ c) (hn : n ≤ 140737488351232) (bxs : Bytes xs) (hr : Ints .u8 w w.heap.size A xs) (hr' : Ints .i64 w w.heap.size A' szL) (h : n < 25) :
    Calls Tryd.prog 74 #[.slice A n c, .slice A' 11 c'] w fun e w' => (∃ A1 c1 A2 c2, e = .returned (.tuple #[.slice A1 0 c1, .slice A2 0 c2, .int .i64 3])) ∧ Below w.heap.size w w' := by
  refine (Oct.take_any A A' n 11 c c' xs szL w hx rfl hnc hn (by decide) bxs sz_sizes hr hr').mono ?_
  rw [Oct.takeR_short sz_sum.1 (by rw [sz_sum.2]; omega)]
  rintro e w' ⟨A1, c1, A2, c2, he, o1, o2, b⟩
  exact ⟨⟨A1, c1, A2, c2, he⟩, b⟩
theorem take_good (A A' : Option Addr) (n c c' : Nat) (xs : List Int) (w : World) (hx : xs.length = n) (hnc : n ≤ c) (hn : n ≤ 140737488351232) (bxs : Bytes xs) (hr : Ints .u8 w w.heap.size A xs) (hr' : Ints .i64 w w.heap.size A' szL) (h : 25 ≤ n) :
    Calls Tryd.prog 74 #[.slice A n c, .slice A' 11 c'] w fun e w' => (∃ q c1 A2 c2, e = .returned (.tuple #[.slice (some ⟨q, 0, none⟩) 11 c1, .slice A2 (n - 25) c2, .int .i64 0]) ∧ w.heap.size ≤ q ∧ 11 ≤ c1 ∧ ∀ (a b s o i l t : Int) (m : Nat) (h d g : Int), Oct.numsL xs szL = nmL a b s o i l t m h d g → Nums w' q a b s o i l t m h d g) ∧ Below w.heap.size w w' := by
  refine (Oct.take_any A A' n 11 c c' xs szL w hx rfl hnc hn (by decide) bxs sz_sizes hr hr').mono ?_
  rw [Oct.takeR_good sz_sum.1 (by rw [sz_sum.2]; omega)]
  rintro e w' ⟨A1, c1, A2, c2, he, o1, o2, b⟩
  have hl : (Oct.numsL xs szL).length = 11 := by rw [Oct.numsL_len]; rfl
  have hl2 : (xs.drop (Oct.sumZ szL).toNat).length = n - 25 := by rw [sz_sum.2, List.length_drop, hx]; rfl
  simp only [hl, hl2] at he o1
  obtain ⟨q, rfl, hq, hq2⟩ := Base.own_block o1 (by decide)
  refine ⟨⟨q, c1, A2, c2, he, hq, own_cap o1, ?_⟩, b⟩
  intro a b' s o i l t m h' d g hN
  rw [hN] at o1
  obtain ⟨b1, off, e1, hb1, hc⟩ := (Ints.own o1).at_ (i := 0) (Nat.succ_pos _)
  injection e1 with e1; injection e1 with e1 e2; subst e1; subst e2
  have H : ∀ j, j < 11 → _ := fun j hj => hc j hj
  simp only [Nat.zero_add] at H
  exact ⟨H 0 (by decide), H 1 (by decide), H 2 (by decide), H 3 (by decide), H 4 (by decide), H 5 (by decide), H 6 (by decide), H 7 (by decide), H 8 (by decide), H 9 (by decide), H 10 (by decide)⟩
theorem rtake_short (A A' : Option Addr) (n c c' : Nat) (xs : List Int) (w : World) (hx : xs.length = n) (hnc : n ≤ c) (hn : n ≤ 140737488351232) (bxs : Bytes xs) (hr : Ints .u8 w w.heap.size A xs) (hr' : Ints .i64 w w.heap.size A' szL) (h : n < 25) :
    Calls Tryd.prog 61 #[.slice A n c, .slice A' 11 c'] w fun e w' => (∃ A1 c1 A2 c2, e = .returned (.tuple #[.slice A1 0 c1, .slice A2 0 c2, .int .i64 3])) ∧ Below w.heap.size w w' := by
  refine (Oct.rtake_any A A' n 11 c c' xs szL w hx rfl hnc hn (by decide) bxs sz_sizes hr hr').mono ?_
  rw [Oct.takeR_short sz_sum.1 (by rw [sz_sum.2]; omega)]
  rintro e w' ⟨A1, c1, A2, c2, he, o1, o2, b⟩
  exact ⟨⟨A1, c1, A2, c2, he⟩, b⟩
theorem rtake_good (A A' : Option Addr) (n c c' : Nat) (xs : List Int) (w : World) (hx : xs.length = n) (hnc : n ≤ c) (hn : n ≤ 140737488351232) (bxs : Bytes xs) (hr : Ints .u8 w w.heap.size A xs) (hr' : Ints .i64 w w.heap.size A' szL) (h : 25 ≤ n) :
    Calls Tryd.prog 61 #[.slice A n c, .slice A' 11 c'] w fun e w' => (∃ q c1 A2 c2, e = .returned (.tuple #[.slice (some ⟨q, 0, none⟩) 11 c1, .slice A2 (n - 25) c2, .int .i64 0]) ∧ w.heap.size ≤ q ∧ 11 ≤ c1 ∧ ∀ (a b s o i l t : Int) (m : Nat) (h d g : Int), Oct.numsL xs szL = nmL a b s o i l t m h d g → Nums w' q a b s o i l t m h d g) ∧ Below w.heap.size w w' := by
  refine (Oct.rtake_any A A' n 11 c c' xs szL w hx rfl hnc hn (by decide) bxs sz_sizes hr hr').mono ?_
  rw [Oct.takeR_good sz_sum.1 (by rw [sz_sum.2]; omega)]
  rintro e w' ⟨A1, c1, A2, c2, he, o1, o2, b⟩
  have hl : (Oct.numsL xs szL).length = 11 := by rw [Oct.numsL_len]; rfl
  have hl2 : (xs.drop (Oct.sumZ szL).toNat).length = n - 25 := by rw [sz_sum.2, List.length_drop, hx]; rfl
  simp only [hl, hl2] at he o1
  obtain ⟨q, rfl, hq, hq2⟩ := Base.own_block o1 (by decide)
  refine ⟨⟨q, c1, A2, c2, he, hq, own_cap o1, ?_⟩, b⟩
  intro a b' s o i l t m h' d g hN
  rw [hN] at o1
  obtain ⟨b1, off, e1, hb1, hc⟩ := (Ints.own o1).at_ (i := 0) (Nat.succ_pos _)
  injection e1 with e1; injection e1 with e1 e2; subst e1; subst e2
  have H : ∀ j, j < 11 → _ := fun j hj => hc j hj
  simp only [Nat.zero_add] at H
  exact ⟨H 0 (by decide), H 1 (by decide), H 2 (by decide), H 3 (by decide), H 4 (by decide), H 5 (by decide), H 6 (by decide), H 7 (by decide), H 8 (by decide), H 9 (by decide), H 10 (by decide)⟩
end Go.Proofs.YtcjlliilfecmnaaDoor.Cn

end
section
set_option linter.unusedVariables false
namespace Go.Proofs.YtcjlliilfecmnaaDoor.Adr

/-- The prefix of a kind, its random part, the greatest number of its bits. -/
def pre (k : Int) : Int := if k = 2 then 3 else if k = 3 then 1 else 0
def part (k b : Int) : Int := if k = 3 then b % 70368744177664 / 16777216 else b % 70368744177664
def most (k : Int) : Int := if k = 3 then 4194303 else 70368744177663
/-- The random part nearest to a number. -/
def lim (n g : Int) : Int := max 1 (min n (g - 1))
def fit (n g : Int) : Int := if n = 0 then 1 else if n = g then g - 1 else n
theorem lim_fit {n g : Int} (h0 : 0 ≤ n) (h1 : n ≤ g) (hg : 3 ≤ g) : lim n g = fit n g := by unfold lim fit; split <;> (try split) <;> omega
/-- Whether prefix and random part are those of a valid address. -/
def wf (k b : Int) : Bool := decide (b / 70368744177664 = pre k) && decide (part k b = lim (part k b) (most k))
/-- The error of an address, 0 if there is none. -/
def chk (k b : Int) : Int :=
  if k < 1 ∨ 4 < k then 12 else if 281474976710656 ≤ b then 5 else if k = 1 then 0 else if wf k b = true then 0 else 1
theorem part_bd {k b : Int} (hb : 0 ≤ b) : 0 ≤ part k b ∧ part k b ≤ most k := by unfold part most; split <;> omega
theorem most_bd (k : Int) : 3 ≤ most k ∧ most k ≤ 70368744177663 := by unfold most; split <;> omega
theorem part_ok {k b : Int} (hb : 0 ≤ b) : (part k b = lim (part k b) (most k)) ↔ ¬ part k b = 0 ∧ ¬ part k b = most k := by
  have h1 := part_bd (k := k) hb
  have h2 := most_bd k
  rw [lim_fit h1.1 h1.2 h2.1]
  unfold fit
  constructor
  · intro h; split at h
    · omega
    · split at h <;> omega
  · intro h; rw [if_neg h.1, if_neg h.2]
theorem wf_ref {k b : Int} (hb : 0 ≤ b) : (!wf k b) = (decide (b / 70368744177664 ≠ pre k) || decide (part k b = 0) || decide (part k b = most k)) := by
  unfold wf
  have := part_ok (k := k) hb
  by_cases h1 : b / 70368744177664 = pre k
  · by_cases h2 : part k b = 0
    · have : ¬ part k b = lim (part k b) (most k) := fun e => (this.1 e).1 h2
      rw [decide_eq_false this]; simp [h2]
    · by_cases h3 : part k b = most k
      · have : ¬ part k b = lim (part k b) (most k) := fun e => (this.1 e).2 h3
        rw [decide_eq_false this]; simp [h3]
      · rw [decide_eq_true (this.2 ⟨h2, h3⟩)]; simp [h1, h2, h3]
  · simp [h1]
theorem chk_kind {k b : Int} (h : k < 1 ∨ 4 < k) : chk k b = 12 := by unfold chk; rw [if_pos h]
theorem chk_range {k b : Int} (h : 1 ≤ k ∧ k ≤ 4) (hb : 281474976710656 ≤ b) : chk k b = 5 := by unfold chk; rw [if_neg (by omega), if_pos hb]
theorem chk_public {b : Int} (hb : b < 281474976710656) : chk 1 b = 0 := by unfold chk; rw [if_neg (by omega), if_neg (by omega), if_pos rfl]
theorem chk_wf {k b : Int} (h : 2 ≤ k ∧ k ≤ 4) (hb : b < 281474976710656) (hw : wf k b = true) : chk k b = 0 := by unfold chk; rw [if_neg (by omega), if_neg (by omega), if_neg (by omega), if_pos hw]
theorem chk_bad {k b : Int} (h : 2 ≤ k ∧ k ≤ 4) (hb : b < 281474976710656) (hw : wf k b = false) : chk k b = 1 := by unfold chk; rw [if_neg (by omega), if_neg (by omega), if_neg (by omega), if_neg (by rw [hw]; simp)]
theorem chk_ok {k b : Int} (h : chk k b = 0) : (1 ≤ k ∧ k ≤ 4) ∧ b < 281474976710656 := by
  unfold chk at h
  split at h
  · omega
  · split at h <;> omega
theorem chk_bd (k b : Int) : 0 ≤ chk k b ∧ chk k b ≤ 12 := by unfold chk; split <;> (try split) <;> (try split) <;> (try split) <;> omega
/-- The address that is made of a number. -/
def mk (k b : Int) : Int :=
  if k = 1 then b % 281474976710656 else
  if k = 3 then 70368744177664 + fit (b / 16777216 % 4194304) 4194303 * 16777216 + b % 16777216 else
  pre k * 70368744177664 + fit (b % 70368744177664) 70368744177663
theorem fit_bd {n g : Int} (h0 : 0 ≤ n) (h1 : n ≤ g) (hg : 3 ≤ g) : 1 ≤ fit n g ∧ fit n g ≤ g - 1 := by unfold fit; split <;> (try split) <;> omega
theorem mk_bd {k b : Int} (hk : 1 ≤ k ∧ k ≤ 4) : 0 ≤ mk k b ∧ mk k b < 281474976710656 := by
  unfold mk
  split
  · omega
  · split
    · have := fit_bd (n := b / 16777216 % 4194304) (g := 4194303) (by omega) (by omega) (by omega); omega
    · have := fit_bd (n := b % 70368744177664) (g := 70368744177663) (by omega) (by omega) (by omega)
      have hp : 0 ≤ pre k ∧ pre k ≤ 3 := by unfold pre; split <;> (try split) <;> omega
      omega
theorem mk_part {k b : Int} (hk : 2 ≤ k ∧ k ≤ 4) : mk k b / 70368744177664 = pre k ∧ 0 < part k (mk k b) ∧ part k (mk k b) < most k := by
  have hk' : k = 2 ∨ k = 3 ∨ k = 4 := by omega
  rcases hk' with rfl | rfl | rfl
  · have := fit_bd (n := b % 70368744177664) (g := 70368744177663) (by omega) (by omega) (by omega)
    simp only [mk, pre, part, most]; simp; omega
  · have := fit_bd (n := b / 16777216 % 4194304) (g := 4194303) (by omega) (by omega) (by omega)
    simp only [mk, pre, part, most]; simp; omega
  · have := fit_bd (n := b % 70368744177664) (g := 70368744177663) (by omega) (by omega) (by omega)
    simp only [mk, pre, part, most]; simp; omega
theorem chk_mk {k b : Int} (hk : 1 ≤ k ∧ k ≤ 4) : chk k (mk k b) = 0 := by
  have hm := mk_bd (b := b) hk
  by_cases h1 : k = 1
  · subst h1; exact chk_public (by omega)
  · have hp := mk_part (k := k) (b := b) (by omega)
    refine chk_wf (by omega) (by omega) ?_
    unfold wf
    rw [decide_eq_true hp.1, decide_eq_true ((part_ok (by omega)).2 ⟨by omega, by omega⟩)]; rfl
/-- The order of numbers, the order of addresses. -/
def cmpZ (a b : Int) : Int := if a < b then -1 else if b < a then 1 else 0
def orZ (x y : Int) : Int := if x = 0 then y else x
def cmpA (k b k' b' : Int) : Int := orZ (cmpZ k k') (cmpZ b b')
theorem cmpZ_bd (a b : Int) : -1 ≤ cmpZ a b ∧ cmpZ a b ≤ 1 := by unfold cmpZ; split <;> (try split) <;> omega
theorem cmpA_bd (k b k' b' : Int) : -1 ≤ cmpA k b k' b' ∧ cmpA k b k' b' ≤ 1 := by
  have h1 := cmpZ_bd k k'; have h2 := cmpZ_bd b b'; unfold cmpA orZ; split <;> omega
theorem cmpA_neg (k b k' b' : Int) : cmpA k b k' b' = - cmpA k' b' k b := by
  unfold cmpA orZ cmpZ; repeat' split
  all_goals omega
theorem cmpA_zero (k b k' b' : Int) : cmpA k b k' b' = 0 ↔ k = k' ∧ b = b' := by
  unfold cmpA orZ cmpZ; repeat' split
  all_goals omega
theorem cmpA_le_iff (k b k' b' : Int) : cmpA k b k' b' ≤ 0 ↔ k < k' ∨ (k = k' ∧ b ≤ b') := by
  unfold cmpA orZ cmpZ; repeat' split
  all_goals omega
theorem cmpA_lt_iff (k b k' b' : Int) : cmpA k b k' b' < 0 ↔ k < k' ∨ (k = k' ∧ b < b') := by
  unfold cmpA orZ cmpZ; repeat' split
  all_goals omega
theorem cmpA_le (k b k' b' k2 b2 : Int) (h1 : cmpA k b k' b' ≤ 0) (h2 : cmpA k' b' k2 b2 ≤ 0) : cmpA k b k2 b2 ≤ 0 := by
  rw [cmpA_le_iff] at *; omega
theorem cmpA_lt (k b k' b' k2 b2 : Int) (h1 : cmpA k b k' b' < 0) (h2 : cmpA k' b' k2 b2 < 0) : cmpA k b k2 b2 < 0 := by
  rw [cmpA_lt_iff] at *; omega
end Go.Proofs.YtcjlliilfecmnaaDoor.Adr

end
section
set_option linter.unusedVariables false
set_option linter.unusedSimpArgs false
namespace Go.Proofs.YtcjlliilfecmnaaDoor.Adr
open Go.RowKit Mem Oct Base

def ats : List Int := [0, 0, 0, 24, 0]
def pres : List Int := [0, 0, 3, 1, 0]
def lets : List Int := [0, 112, 115, 114, 97]
/-- The tables lie as their initialisers lay them. -/
def Tab (w : World) : Prop := 2 ≤ w.heap.size ∧ (∀ i : Nat, i < 5 → w.cell? ⟨0, i, none⟩ = some (.int .i64 (ats.getD i 0))) ∧ (∀ i : Nat, i < 5 → w.cell? ⟨1, i, none⟩ = some (.int .u64 (pres.getD i 0)))
theorem Tab.below {w w' : World} (h : Tab w) (hb : Below w.heap.size w w') : Tab w' := by
  have h3 := h.1
  refine ⟨Nat.le_trans h.1 hb.size, fun i hi => ?_, fun i hi => ?_⟩
  · rw [hb.cell (by show (0 : Nat) < w.heap.size; omega)]; exact h.2.1 i hi
  · rw [hb.cell (by show (1 : Nat) < w.heap.size; omega)]; exact h.2.2 i hi
theorem Tab.drew {w : World} (h : Tab w) : Tab w.drew := h
theorem Tab.alloc {w : World} (h : Tab w) (o : Obj) : Tab (w.alloc o) := h.below ((Below.refl _ _).alloc (Nat.le_refl _) o)

theorem low_to (n : Int) (k : Nat) (r : Int) (hn : 0 ≤ n ∧ n ≤ 18446744073709551615) (hk : k ≤ 64) (hr : n % Ser.p2 k = r) :
    Hid (∀ w, Calls Tryd.prog 64 #[.int .u64 n, .int .i64 k] w fun e w' => e = .returned (.int .u64 r) ∧ w = w') := Lib.hid fun w => by
  have H := Ser.and_mask n k hk hn.1 hn.2
  rw [hr] at H
  have HH := Lib.hid H
  clear H hr
  go_enter Tryd.func64, Tryd.ntmps64
  go_wp2
  go_ret
  exact ⟨Ser.ret_int (by simpa using HH.out), rfl⟩
theorem low_toI (n k r : Int) (hn : 0 ≤ n ∧ n ≤ 18446744073709551615) (hk : 0 ≤ k ∧ k ≤ 64) (hr : n % Ser.p2 k.toNat = r) :
    Hid (∀ w, Calls Tryd.prog 64 #[.int .u64 n, .int .i64 k] w fun e w' => e = .returned (.int .u64 r) ∧ w = w') := by
  obtain ⟨m, rfl⟩ := Int.eq_ofNat_of_zero_le hk.1
  exact low_to n m r hn (by omega) (by simpa using hr)
theorem limit_any (n k : Int) (w : World) (hn : 0 ≤ n ∧ n ≤ 18446744073709551615) (hk : 2 ≤ k ∧ k ≤ 4) (hT : Tab w) :
    Calls Tryd.prog 65 #[.int .u64 n, .int .i64 k] w fun e w' => e = .returned (.int .u64 (lim n (most k))) ∧ w = w' := by
  have hk' : k = 2 ∨ k = 3 ∨ k = 4 := by omega
  have L1 := low_toI 18446744073709551615 46 70368744177663 (by omega) (by omega) (by decide)
  have L2 := low_toI 18446744073709551615 22 4194303 (by omega) (by omega) (by decide)
  rcases hk' with rfl | rfl | rfl
  · have f : w.cell? ⟨0, 2, none⟩ = some (.int .i64 0) := hT.2.1 2 (by decide)
    go_enter Tryd.func65, Tryd.ntmps65
    go_wp2_with (go_at_call 64; refine (L1.out _).mono ?_; rintro e w' ⟨rfl, rfl⟩)
    go_ret
    exact ⟨rfl, rfl⟩
  · have f : w.cell? ⟨0, 3, none⟩ = some (.int .i64 24) := hT.2.1 3 (by decide)
    go_enter Tryd.func65, Tryd.ntmps65
    go_wp2_with (go_at_call 64; refine (L2.out _).mono ?_; rintro e w' ⟨rfl, rfl⟩)
    go_ret
    exact ⟨rfl, rfl⟩
  · have f : w.cell? ⟨0, 4, none⟩ = some (.int .i64 0) := hT.2.1 4 (by decide)
    go_enter Tryd.func65, Tryd.ntmps65
    go_wp2_with (go_at_call 64; refine (L1.out _).mono ?_; rintro e w' ⟨rfl, rfl⟩)
    go_ret
    exact ⟨rfl, rfl⟩
theorem known_any (k : Int) (w : World) (hk : -9223372036854775808 ≤ k ∧ k ≤ 9223372036854775807) :
    Calls Tryd.prog 46 #[.int .i64 k] w fun e w' => e = .returned (.bool (decide (1 ≤ k ∧ k ≤ 4))) ∧ w = w' := by
  by_cases h : 0 < k
  · have e1 : Hid (decide (k < 5) = decide (1 ≤ k ∧ k ≤ 4)) := Lib.hid (by congr 1; apply propext; omega)
    go_enter Tryd.func46, Tryd.ntmps46
    go_wp2
    go_ret
    exact ⟨Ser.ret_bool e1.out, rfl⟩
  · have e1 : Hid (false = decide (1 ≤ k ∧ k ≤ 4)) := Lib.hid (by symm; apply decide_eq_false; omega)
    go_enter Tryd.func46, Tryd.ntmps46
    go_wp2
    go_ret
    exact ⟨congrArg (fun b => Ending.returned (.bool b)) (by have := e1.out; rwa [Bool.decide_and] at this), rfl⟩
/-- A number of a kind that has been boxed. -/
def boxed (w : World) (k b : Int) : World := w.alloc (.cells #[.int .i64 k, .int .u64 b] 24)
structure Box (w : World) (g : Nat) (k b : Int) : Prop where
  c0 : w.cell? ⟨g, 0, none⟩ = some (.int .i64 k)
  c1 : w.cell? ⟨g, 1, none⟩ = some (.int .u64 b)
  lt : g < w.heap.size
theorem box_new (w : World) (k b : Int) : Box (w.alloc (.cells #[.int .i64 k, .int .u64 b] 24)) w.heap.size k b :=
  ⟨(Blk.fresh w 24 #[.int .i64 k, .int .u64 b]).cell 0, (Blk.fresh w 24 #[.int .i64 k, .int .u64 b]).cell 1, by simp⟩
theorem Box.below {w w' : World} {g : Nat} {k b : Int} (h : Box w g k b) (hb : Below w.heap.size w w') : Box w' g k b :=
  ⟨(hb.cell (p := ⟨g, 0, none⟩) h.lt).trans h.c0, (hb.cell (p := ⟨g, 1, none⟩) h.lt).trans h.c1, Nat.lt_of_lt_of_le h.lt hb.size⟩
/-- Where the random part of a kind begins. -/
def atZ (k : Int) : Int := if k = 3 then 24 else 0
theorem atZ_bd (k : Int) : 0 ≤ atZ k ∧ atZ k ≤ 24 := by unfold atZ; split <;> omega
theorem part_at (k b : Int) : b % 70368744177664 / 2 ^ (atZ k).toNat = part k b := by
  unfold atZ part; split
  · rfl
  · show _ / 2 ^ 0 = _; omega
/-- The tables at the places of a kind. -/
structure At (w : World) (k : Int) : Prop where
  c : w.cell? ⟨0, k.toNat, none⟩ = some (.int .i64 (atZ k))
  p : w.cell? ⟨1, k.toNat, none⟩ = some (.int .u64 (pre k))
theorem Tab.at_ {w : World} (h : Tab w) (k : Int) (hk : 2 ≤ k ∧ k ≤ 4) : At w k := by
  have hk' : k = 2 ∨ k = 3 ∨ k = 4 := by omega
  rcases hk' with rfl | rfl | rfl
  · exact ⟨h.2.1 2 (by decide), h.2.2 2 (by decide)⟩
  · exact ⟨h.2.1 3 (by decide), h.2.2 3 (by decide)⟩
  · exact ⟨h.2.1 4 (by decide), h.2.2 4 (by decide)⟩
theorem pre_bd (k : Int) : 0 ≤ pre k ∧ pre k ≤ 3 := by unfold pre; split <;> (try split) <;> omega
theorem well_any (k b : Int) (w : World) (hk : 2 ≤ k ∧ k ≤ 4) (hb : 0 ≤ b ∧ b ≤ 281474976710655) (hT : Tab w) :
    Calls Tryd.prog 47 #[.agg #[.int .i64 k, .int .u64 b]] w fun e w' => e = .returned (.bool (wf k b)) ∧ Below w.heap.size w w' := by
  have hW0 := box_new w k b
  have hB : Below w.heap.size w (w.alloc (.cells #[.int .i64 k, .int .u64 b] 24)) := (Below.refl _ _).alloc (Nat.le_refl _) _
  have T1 := hT.below hB
  have A1 := T1.at_ k hk
  have L := low_toI b 46 (b % 70368744177664) (by omega) (by omega) (by rw [show Ser.p2 (46 : Int).toNat = 70368744177664 by decide])
  have bp := part_bd (k := k) hb.1
  have bm := most_bd k
  have bt := atZ_bd k
  have br := pre_bd k
  have hp := part_at k b
  obtain ⟨ℓ, hl⟩ : ∃ ℓ, lim (part k b) (most k) = ℓ := ⟨_, rfl⟩
  have Lm : Hid (∀ w, Tab w → Calls Tryd.prog 65 #[.int .u64 (b % 70368744177664 / 2 ^ (atZ k).toNat), .int .i64 k] w fun e w' => e = .returned (.int .u64 ℓ) ∧ w = w') := Lib.hid fun w hT => by
    rw [hp, ← hl]; exact limit_any _ _ w (by omega) hk hT
  have HW : Hid (wf k b = (decide (b / 70368744177664 = pre k) && decide (b % 70368744177664 / 2 ^ (atZ k).toNat = ℓ))) := Lib.hid (by rw [hp, ← hl]; rfl)
  have p0 := A1.p
  clear hl hp bp
  generalize hQ : pre k = Q at *
  clear hQ
  have hcase : b / 70368744177664 = Q ∨ ¬ b / 70368744177664 = Q := by omega
  go_enter Tryd.func47, Tryd.ntmps47
  go_wp2_with fail
  generalize w.alloc (.cells #[.int .i64 k, .int .u64 b] 24) = W at *
  have c0 : W.drew.cell? ⟨w.heap.size, 0, none⟩ = some (.int .i64 k) := hW0.c0
  have c1 : W.drew.cell? ⟨w.heap.size, 1, none⟩ = some (.int .u64 b) := hW0.c1
  have a0 : W.drew.cell? ⟨0, k.toNat, none⟩ = some (.int .i64 (atZ k)) := A1.c
  have g1 : (0 : Int) ≤ k := by omega
  have g2 : k < 5 := by omega
  generalize atZ k = t at *
  go_region_held3 (fun w' => w'.cell? ⟨w.heap.size, 0, none⟩ = some (.int .i64 k) ∧ w'.cell? ⟨w.heap.size, 1, none⟩ = some (.int .u64 b) ∧ w'.cell? ⟨0, k.toNat, none⟩ = some (.int .i64 t)) (exact ⟨c0, c1, a0⟩) (first
    | (go_at_call 64; refine (L.out _).mono ?_; rintro e w' ⟨rfl, rfl⟩))
  go_wp2_with fail
  have c0' : W.drew.drew.cell? ⟨w.heap.size, 0, none⟩ = some (.int .i64 k) := hW0.c0
  have c1' : W.drew.drew.cell? ⟨w.heap.size, 1, none⟩ = some (.int .u64 b) := hW0.c1
  have p0' : W.drew.drew.cell? ⟨1, k.toNat, none⟩ = some (.int .u64 Q) := p0
  have T2 : Tab W.drew.drew := T1
  have hB2 : Below w.heap.size w W.drew.drew := hB.drew.drew
  rcases hcase with h1 | h1
  · have hd : (b / 70368744177664 == Q) = true := by simpa using h1
    have HX : Hid (wf k b = (b % 70368744177664 / 2 ^ t.toNat == ℓ)) := Lib.hid (by rw [HW.out, decide_eq_true h1]; simp only [Bool.true_and]; exact (Bool.beq_eq_decide_eq ..).symm)
    go_region_held3 (fun w' => w'.cell? ⟨w.heap.size, 0, none⟩ = some (.int .i64 k) ∧ w'.cell? ⟨w.heap.size, 1, none⟩ = some (.int .u64 b) ∧ w'.cell? ⟨1, k.toNat, none⟩ = some (.int .u64 Q)) (exact ⟨c0', c1', p0'⟩) (first
      | (go_at_call 65; refine (Lm.out _ T2).mono ?_; rintro e w' ⟨rfl, rfl⟩))
    go_wp2_with fail
    go_ret
    exact ⟨Ser.ret_bool HX.out.symm, hB2⟩
  · have hd : (b / 70368744177664 == Q) = false := by simpa using h1
    have HX : Hid (wf k b = false) := Lib.hid (by rw [HW.out, decide_eq_false h1]; rfl)
    clear h1 Lm HW
    go_region
    go_wp2_with fail
    go_ret
    exact ⟨Ser.ret_bool HX.out.symm, hB2⟩
end Go.Proofs.YtcjlliilfecmnaaDoor.Adr

end
