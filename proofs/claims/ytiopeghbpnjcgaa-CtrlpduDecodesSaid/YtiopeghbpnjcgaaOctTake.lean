/- Bytes to numbers: what the functions of the layer of bytes, and of its specification, return: contracts over the program. -/
import Derived.Test.YtiopeghbpnjcgaaOctJoin
set_option linter.unusedVariables false
set_option linter.unusedSimpArgs false
namespace Go.Proofs.Ytiopeghbpnjcgaa.Oct
open Go.RowKit Mem

theorem info_u64 : (Try.prog.info? 24).map (fun i => (i.zero, i.size, i.bytes)) = some (some (.int .u64 0), 1, 8) := by kernel_rfl
/-- Three results: numbers, bytes, an error. -/
def Gives3 (w w' : World) (e : Ending) (r : List Int × List Int × Int) : Prop :=
  ∃ A c A' c', e = .returned (.tuple #[.slice A r.1.length c, .slice A' r.2.1.length c', .int .i64 r.2.2]) ∧ w'.ownsRow w.heap.size 24 1 (.slice A r.1.length c) r.1.length (r.1.map (Value.int .u64)) ∧
    w'.ownsRow w.heap.size 5 1 (.slice A' r.2.1.length c') r.2.1.length (r.2.1.map (Value.int .u8)) ∧ Below w.heap.size w w'
theorem gives3_err {w w' : World} {e : Ending} {x : Int} {r : List Int × List Int × Int} (hr : r = ([], [], x)) (he : e = .returned (.tuple #[.slice none 0 0, .slice none 0 0, .int .i64 x])) (hb : Below w.heap.size w w') : Gives3 w w' e r := by
  subst hr
  exact ⟨none, 0, none, 0, he, World.ownsRow_nil _ _ _ _, World.ownsRow_nil _ _ _ _, hb⟩
theorem gives3_of {w w' : World} {e : Ending} {v : Value} {A' : Option Addr} {m c' : Nat} {ns bs : List Int} {r : List Int × List Int × Int} (hr : r = (ns, bs, 0)) (he : e = .returned (.tuple #[v, .slice A' m c', .int .i64 0])) (hm : bs.length = m)
    (hv : w'.ownsRow w.heap.size 24 1 v ns.length (ns.map (Value.int .u64))) (ho : w'.ownsRow w.heap.size 5 1 (.slice A' bs.length c') bs.length (bs.map (Value.int .u8))) (hb : Below w.heap.size w w') : Gives3 w w' e r := by
  obtain ⟨A, c, hf⟩ := own_form hv
  subst hr hm
  exact ⟨A, c, A', c', by rw [he, hf], by rw [← hf]; exact hv, ho, hb⟩
theorem take_any (A A' : Option Addr) (n n' c c' : Nat) (xs zs : List Int) (w : World) (hx : xs.length = n) (hz : zs.length = n') (hnc : n ≤ c) (hn : n ≤ 140737488351232) (hn' : n' ≤ 17592186043904) (bxs : Bytes xs) (bzs : Sizes zs) (hr : Ints .u8 w w.heap.size A xs) (hr' : Ints .i64 w w.heap.size A' zs) :
    Calls Try.prog 28 #[.slice A n c, .slice A' n' c'] w fun e w' => Gives3 w w' e (takeR xs zs) := by
  obtain ⟨i0, hi, hz0, hz1, hz2⟩ := info_parts info_u64
  have Hx := Lib.hid hx
  have Hz := Lib.hid hz
  clear hx hz
  go_enter Try.func28, Try.ntmps28
  go_wp2_with fail
  go_loop [7, 15] (fun t i => ∃ k : Nat, k ≤ n' ∧ i = .int .i64 k ∧ okZ (zs.take k) = true ∧ t = .int .i64 (sumZ (zs.take k))) (fun _ i => n' - (intOf i).toNat)
  case atStart => exact ⟨0, by omega, rfl, rfl, rfl⟩
  case round =>
    obtain ⟨k, hk, rfl, hok, rfl⟩ := hrel
    have HOK := Lib.hid hok
    clear hok
    by_cases c1 : k < n'
    · obtain ⟨b, off, rfl, hb, hc⟩ := hr'.at_ (i := k) (by rw [Hz.out]; omega)
      have f1 := hc k (by rw [Hz.out]; omega)
      clear hc
      have bz := sizes_get bzs k
      obtain ⟨z, hzk⟩ : ∃ z, zs.getD k 0 = z := ⟨_, rfl⟩
      rw [hzk] at f1 bz
      have HZ := Lib.hid hzk
      clear hzk
      have hsum := sumZ_le HOK.out
      cases hv : decide (1 ≤ z ∧ z ≤ 8)
      · have HR : Hid (takeR xs zs = ([], [], 5)) := Lib.hid (takeR_size _ (by rw [Hz.out]; exact c1) (by rw [HZ.out]; exact hv))
        go_wp2_with (go_at_call 46; refine (valid_any _ _ (by omega)).mono ?_; rintro e w' ⟨rfl, rfl⟩)
        go_ret3
        exact gives3_err HR.out rfl (Below.refl _ _)
      · have hz8 : 1 ≤ z ∧ z ≤ 8 := of_decide_eq_true hv
        have HO2 := Lib.hid (okZ_snoc HOK.out (by rw [Hz.out]; exact c1) (by rw [HZ.out]; exact hv))
        have HS2 := Lib.hid (sumZ_snoc (zs := zs) (k := k) (by rw [Hz.out]; exact c1) HZ.out)
        have hlen : (zs.take k).length ≤ k := List.length_take_le _ _
        go_wp2_with (go_at_call 46; refine (valid_any _ _ (by omega)).mono ?_; rintro e w' ⟨rfl, rfl⟩)
        go_round
        case rel => exact ⟨k + 1, by omega, by go_num, HO2.out, by rw [HS2.out]⟩
        case measure => simp [intOf]; omega
    · have hkn : k = n' := by omega
      have HT : Hid (zs.take k = zs) := Lib.hid (List.take_of_length_le (by rw [Hz.out]; omega))
      rw [HT.out] at HOK ⊢
      clear hkn
      by_cases hlt : (n : Int) < sumZ zs
      · have HR : Hid (takeR xs zs = ([], [], 3)) := Lib.hid (takeR_short HOK.out (by rw [Hx.out]; exact hlt))
        go_wp2_with fail
        go_ret3
        exact gives3_err HR.out rfl (Below.refl _ _)
      · have HG := Lib.hid (takeR_good HOK.out (by rw [Hx.out]; exact hlt))
        go_wp2_with fail
        go_loopw [0, 10, 32] (fun s v i wr => ∃ j : Nat, j ≤ n' ∧ i = .int .i64 j ∧ ∃ Ab nb cb, s = .slice Ab nb cb ∧ nb ≤ cb ∧ (xs.drop (sumZ (zs.take j)).toNat).length = nb ∧ Ints .u8 wr w.heap.size Ab (xs.drop (sumZ (zs.take j)).toNat) ∧ wr.ownsRow w.heap.size 24 1 v j ((numsL xs (zs.take j)).map (Value.int .u64)) ∧ Below w.heap.size w wr) (fun _ _ i _ => n' - (intOf i).toNat)
        case atStart => exact ⟨0, by omega, rfl, A, n, c, rfl, hnc, by simpa [sumZ] using Hx.out, by simpa [sumZ] using hr, World.ownsRow_nil _ _ _ _, Below.refl _ _⟩
        case round =>
          obtain ⟨j, hj, rfl, Ab, nb, cb, rfl, hcb, hlb, hib, hown, hbel⟩ := hrel
          by_cases c2 : j < n'
          · obtain ⟨b, off, rfl, hb, hc⟩ := (hr'.below hbel).at_ (i := j) (by rw [Hz.out]; omega)
            have f1 := hc j (by rw [Hz.out]; omega)
            clear hc
            have hz8 := okZ_get HOK.out (k := j) (by rw [Hz.out]; omega)
            have HNS := Lib.hid (numsL_snoc HOK.out xs j (by rw [Hz.out]; omega))
            obtain ⟨z, hzk⟩ : ∃ z, zs.getD j 0 = z := ⟨_, rfl⟩
            have HSS := Lib.hid (sumZ_snoc (zs := zs) (k := j) (by rw [Hz.out]; omega) hzk)
            have hT := (sumZ_take_le HOK.out (j + 1)).2
            have hT0 := (sumZ_take_le HOK.out j).1
            rw [HSS.out] at hT
            rw [hzk] at f1 hz8 HNS
            clear hzk
            obtain ⟨m, rfl⟩ := Int.eq_ofNat_of_zero_le (show 0 ≤ z by omega)
            rw [Int.toNat_natCast] at HNS
            have HS3 : Hid ((sumZ (zs.take (j + 1))).toNat = (sumZ (zs.take j)).toNat + m) := Lib.hid (by rw [HSS.out]; omega)
            have hmn : m ≤ nb := by rw [List.length_drop, Hx.out] at hlb; omega
            generalize hys : xs.drop (sumZ (zs.take j)).toNat = ys at *
            have HYS := Lib.hid hys
            have HLB := Lib.hid hlb
            clear hys hlb
            have bys : Bytes ys := by rw [← HYS.out]; exact bytes_drop bxs _
            have hlm : (ys.take m).length = m := by rw [List.length_take, HLB.out]; omega
            have HLM := Lib.hid hlm
            have hpre := hib.pre (i := m)
            have hcut := hib.cut (c := cb) (i := m) (by rw [HLB.out]; exact hmn) (by rw [HLB.out]; exact hcb)
            clear hlm hT
            go_wp2_with (first | (go_at_call 48; refine (number_any _ _ _ (ys.take m) _ HLM.out (bytes_take bys m) (hpre.more hbel.size) (by omega)).mono ?_; rintro e w' ⟨rfl, rfl⟩) | (at_builtin; refine wpList_append_ints rfl _ _ 51 rfl .u64 w.heap.size 24 i0 _ 8 Try.underlying51 hi hz0 hz1 hz2 rfl _ j _ rfl (hown.alloc _) (wr.heap.size + 1) _ 1 1 [valL (ys.take m)] rfl rfl ?c1 ?c2 ?c3 ?c4 ?_; (case c1 => exact Ints.lit _ _ _ _ _ rfl); (case c2 => unfold maxLen; omega); (case c3 => omega); (case c4 => have := hbel.size; simp; omega); intro v2 w2 hown2 hb2 _))
            go_roundw
            case rel =>
              have hb3 := (hbel.alloc hbel.size (.cells #[.int .u64 (valL (ys.take m))] 24)).trans hb2
              refine ⟨j + 1, by omega, by go_num, _, _, _, rfl, ?_, ?_, ?_, ?_, hb3⟩
              · omega
              · rw [HS3.out, ← List.drop_drop, HYS.out, List.length_drop, HLB.out]
              · rw [HS3.out, ← List.drop_drop, HYS.out]
                exact (hcut.alloc hbel.size _).below hb2
              · rw [HNS.out, List.map_append]; exact hown2
            case measure => simp [intOf]; omega
          · have hjn : j = n' := by omega
            have HT2 : Hid (zs.take j = zs) := Lib.hid (List.take_of_length_le (by rw [Hz.out]; omega))
            rw [HT2.out] at hlb hib hown
            have HLB := Lib.hid hlb
            have HOW : Hid (wr.ownsRow w.heap.size 24 1 u10 (numsL xs zs).length ((numsL xs zs).map (Value.int .u64))) := Lib.hid (by rw [numsL_len, Hz.out, ← hjn]; exact hown)
            have hnb : nb ≤ 140737488351232 := by rw [← hlb, List.length_drop, Hx.out]; omega
            have hnil : Ab = none → nb = 0 := by
              intro e
              rcases hib with h | ⟨_, _, e', _⟩
              · rw [← hlb, h]; rfl
              · rw [e] at e'; cases e'
            clear hjn hlb
            go_wp2_with (go_at_call 49; refine (clone_any _ _ _ (xs.drop (sumZ zs).toNat) _ HLB.out (hib.more hbel.size) hnb hnil).mono ?_; rintro e w3 ⟨A3, c3, rfl, hown3, hb3⟩)
            go_ret3
            exact gives3_of HG.out rfl (by rw [List.length_drop]) (own_below HOW.out hb3) (own_base hown3 hbel.size) (hbel.trans (hb3.mono hbel.size))
end Go.Proofs.Ytiopeghbpnjcgaa.Oct
