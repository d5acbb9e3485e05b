/- The name; the services: contracts over the program. -/
import Derived.Test.YtpbfnkicbejdbaaAdFind
import Derived.Test.YtpbfnkicbejdbaaAdLift
set_option linter.unusedVariables false
set_option linter.unusedSimpArgs false
namespace Go.Proofs.Ytpbfnkicbejdbaa.Ad
open Go.RowKit Go.Shelf Mem Rw Oct
open Base (thenB later kept)
attribute [local go_sem] Oper.semAt_some

theorem name_any (A : Option Addr) (n c : Nat) (xs : List Int) (w : World) (hx : xs.length = n) (hnc : n ≤ c) (hm : n ≤ 140737488355328) (bx : Bytes xs) (hr : Ints .u8 w w.heap.size A xs) :
    Calls Try.prog 20 #[.slice A n c] w fun e w' => e = .returned (.string (strOfNums (findR xs 9).1)) ∧ Below w.heap.size w w' := by
  have HF := Lib.hid (find_any A n c 9 xs w hx hnc hm bx hr)
  generalize findR xs 9 = R at *
  have hst : ∀ (w' : World) (A' : Option Addr) (c' q : Nat), R.1.length = q → Ints .u8 w' w'.heap.size A' R.1 → (convert 24 9 (.slice A' q c')).run Try.prog w' = .ok (.string (strOfNums R.1)) w' := fun w' A' c' q hq h => run_string_ints 24 5 Try.underlying24 Try.underlying5 Try.underlying9 w'.heap.size A' q c' R.1 hq h
  have HS := Lib.hid hst
  clear hst hx hr bx
  go_enter Try.func20, Try.ntmps20
  go_wp2_with (go_at_call 18; refine HF.out.mono ?_; clear HF; rintro e w1 ⟨A1, c1, rfl, h1, h2, hi1, b1⟩; have hcv := HS.out w1 A1 c1 _ rfl hi1; clear HS)
  go_ret
  exact ⟨rfl, b1⟩
theorem info_u16 : (Try.prog.info? 47).map (fun i => (i.zero, i.size, i.bytes)) = some (some (.int .u16 0), 1, 2) := by kernel_rfl
/-- What a call makes of numbers of two bytes. -/
def MakesS (w w' : World) (e : Ending) (zs : List Int) : Prop :=
  ∃ A c, e = .returned (.slice A zs.length c) ∧ w'.ownsRow w.heap.size 47 1 (.slice A zs.length c) zs.length (zs.map (Value.int .u16)) ∧ Below w.heap.size w w'
theorem makesS_of {w w' : World} {e : Ending} {v : Value} {zs : List Int} (he : e = .returned v) (h : w'.ownsRow w.heap.size 47 1 v zs.length (zs.map (Value.int .u16))) (hb : Below w.heap.size w w') : MakesS w w' e zs := by
  obtain ⟨A, c, hv⟩ := own_form h
  exact ⟨A, c, by rw [he, hv], by rw [← hv]; exact h, hb⟩
theorem MakesS.read {w w' : World} {e : Ending} {zs : List Int} (h : MakesS w w' e zs) {n : Nat} (hn : zs.length = n) : ∃ A c, e = .returned (.slice A n c) ∧ n ≤ c ∧ Ints .u16 w' w'.heap.size A zs ∧ Below w.heap.size w w' := by
  subst hn
  obtain ⟨A, c, he, ho, hb⟩ := h
  exact ⟨A, c, he, own_cap ho, Ints.own ho, hb⟩
theorem svc_two (a b : Int) (r : List Int) : svc (a :: b :: r) = (a + 256 * b) :: svc r := rfl
theorem svc_len : ∀ (v : List Int), (svc v).length ≤ v.length
  | [] => by simp [svc]
  | [_] => by simp [svc]
  | a :: b :: r => by
    rw [svc_two]
    have := svc_len r
    simp only [List.length_cons]
    omega
/-- The services of the values that have come. -/
def svs (pre : List Vl) : List Int := (pre.map (·.v)).flatMap svc
theorem svs_snoc (pre : List Vl) (x : Vl) : svs (pre ++ [x]) = svs pre ++ svc x.v := by simp [svs]
/-- A slice of bytes, whose block is known. -/
def Rd8 (w : World) (A : Option Addr) (zs : List Int) : Prop := zs = [] ∨ ∃ (g off : Nat) (cs : Array Value), A = some ⟨g, off, none⟩ ∧ w.heap[g]? = some (Obj.cells cs 5 (0, 0)) ∧ ∀ j, j < zs.length → cs[off + j]? = some (.int .u8 (zs.getD j 0))
theorem rd8_of {w : World} {base n c : Nat} {A : Option Addr} {zs : List Int} (h : w.ownsRow base 5 1 (.slice A n c) n (zs.map (Value.int .u8))) : Rd8 w A zs := by
  have hl := own_len h
  rcases h.2 with ⟨hv, hn⟩ | ⟨g, cap, cur, hv, hbg, hg, hnc, hcm, hcs, htake⟩
  · left; exact List.eq_nil_of_length_eq_zero (by omega)
  · right
    injection hv with hA hn hc
    refine ⟨g, 0, cur, hA, hg, fun j hj => ?_⟩
    have h1 : (cur.toList.take (n * 1))[j]? = (zs.map (Value.int .u8))[j]? := by rw [htake]
    rw [List.getElem?_take, if_pos (by omega)] at h1
    rw [Nat.zero_add, ← Array.getElem?_toList, h1]
    simp [List.getD, List.getElem?_eq_getElem hj]
theorem Rd8.open_ {w : World} {A : Option Addr} {zs : List Int} (h : Rd8 w A zs) (h0 : 0 < zs.length) : ∃ g off, A = some ⟨g, off, none⟩ ∧ ∀ j, j < zs.length → w.cell? ⟨g, off + j, none⟩ = some (.int .u8 (zs.getD j 0)) := by
  rcases h with h | ⟨g, off, cs, hA, hg, hc⟩
  · rw [h] at h0; simp at h0
  · exact ⟨g, off, hA, fun j hj => (cell_of_row w g (off + j) cs _ (0, 0) hg).trans (hc j hj)⟩
theorem Rd8.keep {w w' : World} {A : Option Addr} {zs : List Int} (h : Rd8 w A zs) (k : KeepT w w') : Rd8 w' A zs := by
  rcases h with h | ⟨g, off, cs, hA, hg, hc⟩
  · exact .inl h
  · exact .inr ⟨g, off, cs, hA, k.2 _ _ _ _ (.inr (.inl rfl)) hg, hc⟩
theorem Rd8.cut {w : World} {g off off' i : Nat} {zs : List Int} (h : Rd8 w (some ⟨g, off, none⟩) zs) (ho : off' = off + i ∨ zs.length ≤ i) : Rd8 w (some ⟨g, off', none⟩) (zs.drop i) := by
  rcases ho with rfl | ho
  · rcases h with h | ⟨g', off', cs, hA, hg, hc⟩
    · left; rw [h]; simp
    · cases hA
      refine .inr ⟨g, off + i, cs, rfl, hg, fun j hj => ?_⟩
      rw [List.length_drop] at hj
      rw [Nat.add_assoc, hc (i + j) (by omega)]
      simp [List.getD, List.getElem?_drop]
  · left; exact List.drop_of_length_le ho
theorem cut_two (b off n c : Nat) (hi : 2 ≤ n) (hn : n ≤ c) : ∃ off', (∀ w : World, (Instr.slice 24 (.slice (some ⟨b, off, none⟩) n c) (some (.int .i64 2)) none none).run Try.prog w = .ok (.slice (some ⟨b, off', none⟩) (n - 2) (c - 2)) w) ∧ (off' = off + 2 ∨ n ≤ 2) := by
  have hs : ∀ w' : World, (sizeOf (Try.prog.elem 24)).run Try.prog w' = .ok 1 w' := fun w' => by kernel_rfl
  by_cases hc : c = 2
  · refine ⟨off, fun w => ?_, .inr (by omega)⟩
    rw [run_slice_l w 24 (some ⟨b, off, none⟩) n c (by kernel_rfl) .i64 2 (by omega) (by omega), hs]
    simp [Result.andThen, sliced, hc]
  · refine ⟨off + 2, fun w => ?_, .inl rfl⟩
    rw [run_slice_l w 24 (some ⟨b, off, none⟩) n c (by kernel_rfl) .i64 2 (by omega) (by omega), hs]
    simp [Result.andThen, sliced, hc, plain_add]
theorem or_two {a b : Int} (ha : 0 ≤ a ∧ a ≤ 255) (hb : 0 ≤ b ∧ b ≤ 255) : bits BinOp.or IntKind.u16 a (b * 256) = a + 256 * b := by
  rw [u16_or a (b * 256) ha.1 (by omega) (by omega) (by omega)]
  have e : (b * 256).toNat ||| a.toNat = (b * 256).toNat + a.toNat := nat_join 8 _ _ (by omega) (by omega)
  rw [Nat.or_comm, e]; omega
theorem keeps_append {W w1 : World} {base size k : Nat} {e : TypeId} {v : Value} {xs : List Value} (hrow : W.ownsRow base e size v k xs) (hg : W.grownBy w1 v.ownBlock) (B : Nat) : KeepsFrom B W w1 :=
  (KeepsOthers.of_grownBy hg fun j o ej hj => by
    rcases hrow.2 with ⟨rfl, _⟩ | ⟨g, cap, cur, rfl, _, hgb, _⟩
    · simp [Value.ownBlock] at ej
    · obtain rfl : g = j := by simpa [Value.ownBlock] using ej
      rw [hgb] at hj; cases hj; rfl).from B
def InvS (w V : World) (pre : List Vl) (W : World) : Prop := (((∃ v, Boxed W w.heap.size 40 v ∧ W.ownsRow w.heap.size 47 1 v (svs pre).length ((svs pre).map (Value.int .u16)) ∧ True) ∧ (svs pre).length ≤ 31 * pre.length) ∧ Below w.heap.size w W) ∧ V.heap.size ≤ W.heap.size
theorem invS_own (w V : World) (hs : V.heap.size = w.heap.size + 3) : OwnFrom V.heap.size (InvS w V) := by
  rintro s W W' row ⟨⟨⟨h1, h2⟩, h4⟩, h5⟩ hg hr
  exact ⟨⟨⟨holdsRow_own w.heap.size w.heap.size 40 47 1 (fun pre => (svs pre).length) (fun pre => (svs pre).map (Value.int .u16)) (fun _ _ => True) s W W' row h1 hg (fun r e => (hr r e).2), h2⟩, ownFrom_below (β := Unit) (n₀ := w.heap.size) (Nat.le_refl _) (by omega) () W W' row h4 hg hr⟩, Nat.le_trans h5 hg.size⟩
set_option maxRecDepth 100000 in
set_option maxHeartbeats 4000000 in
theorem services_any (A : Option Addr) (n c : Nat) (xs : List Int) (w : World) (hx : xs.length = n) (hnc : n ≤ c) (hm : n ≤ 140737488355328) (bx : Bytes xs) (hr : Ints .u8 w w.heap.size A xs) :
    Calls Try.prog 23 #[.slice A n c] w fun e w' => MakesS w w' e (svcR xs) := by
  obtain ⟨i0, hi, hz0, hz1, hz2⟩ := info_parts info_u16
  refine (callsIn_wide (n := 3)).1 ?_
  refine callsIn_of_wp_marks Try.func23 rfl trivial ?_ rfl
  simp only [Try.ntmps23, List.size_toArray, List.length_cons, List.length_nil, Nat.reduceAdd, Nat.reduceSub, Array.replicate_succ, Array.replicate_zero, List.push_toArray, List.append_toArray, List.nil_append, List.cons_append]
  gi_wp2_with (refine ⟨trivial, ?_⟩; gi_at_call 28; refine (callsIn_wide.2 (values_any _ _ _ _ _)).mono ?_; rintro e w2 ⟨rfl, rfl⟩)
  have b0 := ((Boxed.new w 40 (.slice none 0 0)).alloc (.cells #[.slice A n c] 24)).alloc (.cells #[.int .i64 3] 3)
  have b2 := (Boxed.new (w.alloc (.cells #[.slice none 0 0] 40)) 24 (.slice A n c)).alloc (.cells #[.int .i64 3] 3)
  have b3 := Boxed.new ((w.alloc (.cells #[.slice none 0 0] 40)).alloc (.cells #[.slice A n c] 24)) 3 (.int .i64 3)
  simp only [World.size_alloc] at b2 b3
  have hB : Below w.heap.size w _ := (((Below.refl w.heap.size w).alloc (Nat.le_refl _) (.cells #[.slice none 0 0] 40)).alloc (by simp) (.cells #[.slice A n c] 24)).alloc (by simp; omega) (.cells #[.int .i64 3] 3)
  have hs : (((w.alloc (.cells #[.slice none 0 0] 40)).alloc (.cells #[.slice A n c] 24)).alloc (.cells #[.int .i64 3] 3)).heap.size = w.heap.size + 3 := by simp
  generalize ((w.alloc (.cells #[.slice none 0 0] 40)).alloc (.cells #[.slice A n c] 24)).alloc (.cells #[.int .i64 3] 3) = V at *
  refine wpIn_range_tells rfl (by omega) (gf := 36) (lb := #[.pointer (some ⟨w.heap.size + 1, 0, none⟩), .pointer (some ⟨w.heap.size + 1 + 1, 0, none⟩)]) rfl trivial (enters_of Try.func36 (by kernel_rfl) rfl)
    (values_tells (3 - 1) (by omega) (w.heap.size + 1) (w.heap.size + 1 + 1) A n c 3 xs hx hm hnc bx V b2 b3 (later hr hB)) (fun h k => h.trans k) (fun W l o o' hl ho hc => KeepT.put W l o o' ho hc) (fun _ => rfl)
    (InvS w V) (fun _ _ => False) (invS_own w V hs) (fun _ _ _ _ h _ _ => h)
    ⟨⟨⟨⟨_, b0, World.ownsRow_nil _ _ _ _, trivial⟩, by simp [svs]⟩, hB⟩, Nat.le_refl _⟩
    (fun x a' W => a' = { tmps := #[.slice A n c, undef, .slice none 0 0, .pointer (some ⟨w.heap.size, 0, none⟩), .slice x.A x.v.length x.c, .slice A n c, .func (.func 36) #[] #[.pointer (some ⟨w.heap.size + 1, 0, none⟩), .pointer (some ⟨w.heap.size + 1 + 1, 0, none⟩)], .slice x.A x.v.length x.c, undef, undef, undef, undef, undef, undef, undef, undef, undef, undef, undef, undef, undef, undef, undef, undef, undef, undef, undef], defers := [] } ∧ Hid (TellV x W))
    (fun x a' s W W' row h hg hr => ⟨h.1, Lib.hid (tellV_grown h.2.out hg (fun r e => (hr r e).2))⟩) ?assign ?body ?done ?stop
  case assign =>
    intro l pre x W K hI hG hK
    have HG := Lib.hid hG
    have HK := Lib.hid hK
    have HI := Lib.hid hI
    clear hG hK hI
    simp only [encV]
    gi_wp2
    exact HK.out _ _ (KeepsFrom.refl _ _) (KeepT.refl _) HI.out ⟨rfl, HG⟩
  case body =>
    rintro l pre ⟨xA, xc, xv⟩ a' W ⟨⟨⟨⟨v, hv, hrow, _⟩, hlen⟩, hbel⟩, hsz⟩ ⟨rfl, hT⟩ hpre
    simp only
    obtain ⟨q, hq⟩ : ∃ q, xv.length = q := ⟨_, rfl⟩
    have hT1 := hT.out.1.1
    have hT2 := hT.out.2.1
    simp only [hq] at hT1 hT2
    have HRd : Hid (Rd8 W xA xv) := Lib.hid (rd8_of hT.out.2.2.choose_spec)
    have HBx : Hid (Bytes xv) := Lib.hid hT.out.1.2
    have HS := Lib.hid (svs_snoc pre ⟨xA, xc, xv⟩)
    simp only [hq]
    generalize svs pre = F at *
    clear hT
    gi_wp2
    gi_loopw [4] (fun s4 wr => ∃ (B : Option Addr) (k c' : Nat) (zs acc : List Int), s4 = .slice B k c' ∧ zs.length = k ∧ k ≤ c' ∧ k ≤ 31 ∧ acc.length + k ≤ q ∧ Hid (Bytes zs) ∧ Hid (Rd8 wr B zs) ∧ Hid (acc ++ svc zs = svc xv) ∧ (∃ v, Boxed wr w.heap.size 40 v ∧ wr.ownsRow w.heap.size 47 1 v (F.length + acc.length) ((F ++ acc).map (Value.int .u16)) ∧ True) ∧ Hid (KeepT W wr) ∧ Hid (KeepsFrom V.heap.size W wr) ∧ Hid (Below w.heap.size w wr) ∧ Hid (V.heap.size ≤ wr.heap.size)) (fun s4 _ => lenS s4)
    case atStart => exact ⟨xA, q, xc, xv, [], rfl, hq, hT2, hT1, by simp, HBx, HRd, Lib.hid rfl, ⟨v, hv, by simpa using hrow, trivial⟩, Lib.hid (KeepT.refl _), Lib.hid (KeepsFrom.refl _ _), Lib.hid hbel, Lib.hid hsz⟩
    case round =>
      obtain ⟨B, k, c', zs, acc, rfl, hz, hkc, hk31, hak, HB, HR, HA, ⟨u, hu, hur, _⟩, HK, HF, HBl, HSz⟩ := hrel
      clear hv hrow
      by_cases c1 : 2 ≤ k
      · obtain ⟨a, b, r, rfl⟩ : ∃ a b r, zs = a :: b :: r := by
          match zs, hz with
          | [], h => simp at h; omega
          | [_], h => simp at h; omega
          | a :: b :: r, _ => exact ⟨a, b, r, rfl⟩
        have ba : 0 ≤ a ∧ a ≤ 255 := HB.out a (by simp)
        have bb : 0 ≤ b ∧ b ≤ 255 := HB.out b (by simp)
        obtain ⟨g, off, rfl, hcl⟩ := HR.out.open_ (by simp)
        have e0 : wr.cell? ⟨g, off, none⟩ = some (.int .u8 a) := hcl 0 (by simp)
        have e1 : wr.cell? ⟨g, off + 1, none⟩ = some (.int .u8 b) := hcl 1 (by simp)
        obtain ⟨off', hcut, hoff⟩ := cut_two g off k c' c1 hkc
        have w1 : IntKind.u16.wrap a = a := by rw [Ser.wrap_u16]; omega
        have w2 : IntKind.u16.wrap b = b := by rw [Ser.wrap_u16]; omega
        have w3 : IntKind.u16.wrap (b * 256) = b * 256 := by rw [Ser.wrap_u16]; omega
        have w4 : bits BinOp.or IntKind.u16 a (b * 256) = a + 256 * b := or_two ba bb
        have g1 : ¬ (k : Int) ≤ 0 ∧ ¬ (k : Int) ≤ 1 ∧ (0 : Int) < (k : Int) ∧ (1 : Int) < (k : Int) ∧ (2 : Int) ≤ (k : Int) ∧ 1 < k ∧ 0 < k ∧ 2 ≤ k := by omega
        have cu := hu.cell
        have hFl : F.length ≤ 31 * 32 := by have : pre.length ≤ 32 := by omega
                                            have := Nat.mul_le_mul_left 31 this
                                            omega
        obtain ⟨cs, hcs, hca, hcb⟩ : ∃ cs : Array Value, wr.heap[g]? = some (Obj.cells cs 5 (0, 0)) ∧ cs[off]? = some (.int .u8 a) ∧ cs[off + 1]? = some (.int .u8 b) := by
          rcases HR.out with h | ⟨g', off', cs, hA', hg', hc'⟩
          · cases h
          · cases hA'
            exact ⟨cs, hg', hc' 0 (by simp), hc' 1 (by simp)⟩
        obtain ⟨N, hN⟩ : ∃ N, F.length + acc.length = N := ⟨_, rfl⟩
        rw [hN] at hur
        have hN2 : N ≤ 2000 := by omega
        have hmx : Try.prog.follows .mixedOrders = true := by kernel_rfl
        have hw0 : w.heap.size ≤ wr.heap.size := HBl.out.size
        clear hcl e0 e1
        gi_wp2
        refine region_in_round (S := (fun w' => w'.cell? ⟨g, off, none⟩ = some (.int .u8 a) ∧ w'.cell? ⟨g, off + 1, none⟩ = some (.int .u8 b))) (fun a' w' => ∃ s11 s12 s13 s14 s15 s16 s17 s18 s19 s20 s21 s22 s23 : Value, a' = { tmps := #[.slice A n c, undef, .slice none 0 0, .pointer (some ⟨w.heap.size, 0, none⟩), .slice (some ⟨g, off, none⟩) k c', .slice A n c, .func (.func 36) #[] #[.pointer (some ⟨w.heap.size + 1, 0, none⟩), .pointer (some ⟨w.heap.size + 1 + 1, 0, none⟩)], .slice xA q xc, .slice (some ⟨g, off, none⟩) k c', .int .i64 (k : Int), .bool true, s11, s12, s13, s14, s15, s16, s17, s18, s19, s20, s21, s22, s23, u24, u25, undef], defers := [] } ∧ ∃ u', Boxed w' w.heap.size 40 u' ∧ w'.ownsRow w.heap.size 47 1 u' (N + 1) ((F ++ acc).map (Value.int .u16) ++ [(a + 256 * b)].map (Value.int .u16)) ∧ KeepT wr w' ∧ KeepsFrom V.heap.size wr w' ∧ Below w.heap.size wr w') hmx (by kernel_rfl) ?_ (fun hHeld => ?_) ?_
        · exact ⟨(cell_of_row wr g off cs _ (0, 0) hcs).trans hca, (cell_of_row wr g (off + 1) cs _ (0, 0) hcs).trans hcb⟩
        · have CSg : wr.drew.heap[g]? = some (Obj.cells cs 5 (0, 0)) := hcs
          have KK : KeepT wr wr.drew := KeepT.refl wr
          have KF : KeepsFrom V.heap.size wr wr.drew := (KeepsOthers.drew wr).from _
          have BB : Below w.heap.size wr wr.drew := (Below.refl w.heap.size wr).drew
          have sz : w.heap.size ≤ wr.drew.heap.size := hw0
          have hu : Boxed wr.drew w.heap.size 40 u := hu
          have hur : wr.drew.ownsRow w.heap.size 47 1 u N ((F ++ acc).map (Value.int .u16)) := hur
          have cu := hu.cell
          have TT := And.intro ((cell_of_row wr.drew g off cs _ (0, 0) CSg).trans hca) ((cell_of_row wr.drew g (off + 1) cs _ (0, 0) CSg).trans hcb)
          generalize wr.drew = X0 at *
          refine wpAnyH_take (i := 1) (v := .slice (some ⟨g, off, none⟩) k c') rfl (by kernel_rfl) (by kernel_rfl) (by kernel_rfl) (fun _ _ _ h => h) (Or.inl ⟨by first | rfl | go_simp, by intro w9 hSw; (try dsimp only at hSw); go_simp⟩) (by assumption) ?_
          simp only [List.getElem_toArray, List.getElem_cons_zero, List.getElem_cons_succ, Act.put, List.setIfInBounds_toArray, List.set_cons_zero, List.set_cons_succ]
          refine wpAnyH_take (i := 2) (v := .pointer (some ⟨g, off, none⟩)) rfl (by kernel_rfl) (by kernel_rfl) (by kernel_rfl) (fun _ _ _ h => h) (Or.inl ⟨by first | rfl | go_simp, by intro w9 hSw; (try dsimp only at hSw); go_simp⟩) (by assumption) ?_
          simp only [List.getElem_toArray, List.getElem_cons_zero, List.getElem_cons_succ, Act.put, List.setIfInBounds_toArray, List.set_cons_zero, List.set_cons_succ]
          refine wpAnyH_take (i := 3) (v := .int .u8 a) rfl (by kernel_rfl) (by kernel_rfl) (by kernel_rfl) (fun _ _ _ h => h) (Or.inl ⟨by first | rfl | go_simp, by intro w9 hSw; (try dsimp only at hSw); go_simp⟩) (by assumption) ?_
          simp only [List.getElem_toArray, List.getElem_cons_zero, List.getElem_cons_succ, Act.put, List.setIfInBounds_toArray, List.set_cons_zero, List.set_cons_succ]
          refine wpAnyH_take (i := 4) (v := .int .u16 a) rfl (by kernel_rfl) (by kernel_rfl) (by kernel_rfl) (fun _ _ _ h => h) (Or.inl ⟨by first | rfl | go_simp, by intro w9 hSw; (try dsimp only at hSw); go_simp⟩) (by assumption) ?_
          simp only [List.getElem_toArray, List.getElem_cons_zero, List.getElem_cons_succ, Act.put, List.setIfInBounds_toArray, List.set_cons_zero, List.set_cons_succ]
          refine wpAnyH_take (i := 5) (v := .slice (some ⟨g, off, none⟩) k c') rfl (by kernel_rfl) (by kernel_rfl) (by kernel_rfl) (fun _ _ _ h => h) (Or.inl ⟨by first | rfl | go_simp, by intro w9 hSw; (try dsimp only at hSw); go_simp⟩) (by assumption) ?_
          simp only [List.getElem_toArray, List.getElem_cons_zero, List.getElem_cons_succ, Act.put, List.setIfInBounds_toArray, List.set_cons_zero, List.set_cons_succ]
          refine wpAnyH_take (i := 6) (v := .pointer (some ⟨g, off + 1, none⟩)) rfl (by kernel_rfl) (by kernel_rfl) (by kernel_rfl) (fun _ _ _ h => h) (Or.inl ⟨by first | rfl | go_simp, by intro w9 hSw; (try dsimp only at hSw); go_simp⟩) (by assumption) ?_
          simp only [List.getElem_toArray, List.getElem_cons_zero, List.getElem_cons_succ, Act.put, List.setIfInBounds_toArray, List.set_cons_zero, List.set_cons_succ]
          refine wpAnyH_take (i := 7) (v := .int .u8 b) rfl (by kernel_rfl) (by kernel_rfl) (by kernel_rfl) (fun _ _ _ h => h) (Or.inl ⟨by first | rfl | go_simp, by intro w9 hSw; (try dsimp only at hSw); go_simp⟩) (by assumption) ?_
          simp only [List.getElem_toArray, List.getElem_cons_zero, List.getElem_cons_succ, Act.put, List.setIfInBounds_toArray, List.set_cons_zero, List.set_cons_succ]
          refine wpAnyH_take (i := 8) (v := .int .u16 b) rfl (by kernel_rfl) (by kernel_rfl) (by kernel_rfl) (fun _ _ _ h => h) (Or.inl ⟨by first | rfl | go_simp, by intro w9 hSw; (try dsimp only at hSw); go_simp⟩) (by assumption) ?_
          simp only [List.getElem_toArray, List.getElem_cons_zero, List.getElem_cons_succ, Act.put, List.setIfInBounds_toArray, List.set_cons_zero, List.set_cons_succ]
          refine wpAnyH_take (i := 9) (v := .int .u16 (b * 256)) rfl (by kernel_rfl) (by kernel_rfl) (by kernel_rfl) (fun _ _ _ h => h) (Or.inl ⟨by first | rfl | go_simp, by intro w9 hSw; (try dsimp only at hSw); go_simp⟩) (by assumption) ?_
          simp only [List.getElem_toArray, List.getElem_cons_zero, List.getElem_cons_succ, Act.put, List.setIfInBounds_toArray, List.set_cons_zero, List.set_cons_succ]
          refine wpAnyH_take (i := 10) (v := .int .u16 (a + 256 * b)) rfl (by kernel_rfl) (by kernel_rfl) (by kernel_rfl) (fun _ _ _ h => h) (Or.inl ⟨by first | rfl | go_simp, by intro w9 hSw; (try dsimp only at hSw); go_simp⟩) (by assumption) ?_
          simp only [List.getElem_toArray, List.getElem_cons_zero, List.getElem_cons_succ, Act.put, List.setIfInBounds_toArray, List.set_cons_zero, List.set_cons_succ]
          refine wpAnyH_ready (rs := [0, 11]) (by kernel_rfl) (by simp) ?_
          refine AllReadyH.cons rfl (fun K hK => ?_) (AllReadyH.cons rfl (fun K hK => ?_) (AllReadyH.nil))
          · skip
            go_simp
            skip
            refine hK.out _ _ TT (fun hHeld => ?_)
            clear hK K
            try simp only [List.getElem_toArray, List.getElem_cons_zero, List.getElem_cons_succ, Act.put, List.setIfInBounds_toArray, List.set_cons_zero, List.set_cons_succ]
            refine wpAnyH_ready (rs := [11]) (by kernel_rfl) (by simp) ?_
            refine AllReadyH.cons rfl (fun K hK => ?_) (AllReadyH.nil)
            go_simp
            have kt := KeepT.alloc X0 (.cells #[.int .u16 (a + 256 * b)] 47)
            have kf : KeepsFrom V.heap.size X0 _ := (KeepsOthers.alloc X0 (.cells #[.int .u16 (a + 256 * b)] 47)).from _
            have bw := (Below.refl w.heap.size X0).alloc sz (.cells #[.int .u16 (a + 256 * b)] 47)
            have PI := Base.lit1 .u16 X0 [(a + 256 * b)] #[.int .u16 (a + 256 * b)] 47 rfl
            have hu := hu.alloc (.cells #[.int .u16 (a + 256 * b)] 47)
            have hur := hur.alloc (.cells #[.int .u16 (a + 256 * b)] 47)
            have cu := hu.cell
            generalize X0.alloc (.cells #[.int .u16 (a + 256 * b)] 47) = X2 at *
            have CSg := kt.2 _ _ _ _ (.inr (.inl rfl)) CSg
            have KK := KK.trans kt
            have KF := KF.trans kf
            have BB := BB.trans bw
            have sz := Nat.le_trans sz kt.1
            have TT := And.intro ((cell_of_row X2 g off cs _ (0, 0) CSg).trans hca) ((cell_of_row X2 g (off + 1) cs _ (0, 0) CSg).trans hcb)
            refine hK.out _ _ TT (fun hHeld => ?_)
            clear hK K
            try simp only [List.getElem_toArray, List.getElem_cons_zero, List.getElem_cons_succ, Act.put, List.setIfInBounds_toArray, List.set_cons_zero, List.set_cons_succ]
            refine wpAnyH_ready (rs := [12]) (by kernel_rfl) (by simp) ?_
            refine AllReadyH.cons rfl (fun K hK => ?_) (AllReadyH.nil)
            refine step_append_ints rfl (.tmp 11) (.tmp 22) 40 rfl .u16 w.heap.size 47 i0 _ 2 Try.underlying40 hi hz0 hz1 hz2 rfl u N ((F ++ acc).map (Value.int .u16)) rfl hur X2.heap.size (some ⟨X0.heap.size, 0, none⟩) 1 1 [(a + 256 * b)] rfl rfl PI (by unfold maxLen; omega) (by omega) sz ?_
            intro v' X3 own bw hgr
            obtain ⟨g', cap', rfl⟩ := ownsRow_succ own
            have kt := KeepT.grown hur (by decide) hgr
            have kf : KeepsFrom V.heap.size X2 X3 := keeps_append hur hgr _
            have hu := hu.kept hgr (hu.not_row (by decide) hur)
            have cu := hu.cell
            have CSg := kt.2 _ _ _ _ (.inr (.inl rfl)) CSg
            have KK := KK.trans kt
            have KF := KF.trans kf
            have BB := BB.trans bw
            have sz := Nat.le_trans sz kt.1
            have TT := And.intro ((cell_of_row X3 g off cs _ (0, 0) CSg).trans hca) ((cell_of_row X3 g (off + 1) cs _ (0, 0) CSg).trans hcb)
            refine hK.out _ _ TT (fun hHeld => ?_)
            clear hK K
            try simp only [List.getElem_toArray, List.getElem_cons_zero, List.getElem_cons_succ, Act.put, List.setIfInBounds_toArray, List.set_cons_zero, List.set_cons_succ]
            refine wpAnyH_ready (rs := [13]) (by kernel_rfl) (by simp) ?_
            refine AllReadyH.cons rfl (fun K hK => ?_) (AllReadyH.nil)
            have fu := hu.frozen
            have kt := KeepT.set hu (by decide) (.slice (some ⟨g', 0, none⟩) (N + 1) cap')
            have kf : KeepsFrom V.heap.size X3 _ := (KeepsOthers.setCell X3 ⟨w.heap.size, 0, none⟩ (.slice (some ⟨g', 0, none⟩) (N + 1) cap')).from _
            have bw := (Below.refl w.heap.size X3).setCell (p := ⟨w.heap.size, 0, none⟩) (Nat.le_refl _) (.slice (some ⟨g', 0, none⟩) (N + 1) cap')
            have own := own_set own hu (by decide) 0 (.slice (some ⟨g', 0, none⟩) (N + 1) cap')
            have hu := hu.set (.slice (some ⟨g', 0, none⟩) (N + 1) cap')
            go_simp
            clear cu fu
            generalize X3.setCell ⟨w.heap.size, 0, none⟩ (.slice (some ⟨g', 0, none⟩) (N + 1) cap') = X4 at *
            have CSg := kt.2 _ _ _ _ (.inr (.inl rfl)) CSg
            have KK := KK.trans kt
            have KF := KF.trans kf
            have BB := BB.trans bw
            have sz := Nat.le_trans sz kt.1
            have TT := And.intro ((cell_of_row X4 g off cs _ (0, 0) CSg).trans hca) ((cell_of_row X4 g (off + 1) cs _ (0, 0) CSg).trans hcb)
            refine hK.out _ _ TT (fun hHeld => ?_)
            clear hK K
            try simp only [List.getElem_toArray, List.getElem_cons_zero, List.getElem_cons_succ, Act.put, List.setIfInBounds_toArray, List.set_cons_zero, List.set_cons_succ]
            refine wpAnyH_done (by kernel_rfl) ?_ _
            exact ⟨_, _, _, _, _, _, _, _, _, _, _, _, _, rfl, _, hu, own, KK, KF, BB⟩
          · skip
            go_simp
            have kt := KeepT.alloc X0 (.cells #[.int .u16 (a + 256 * b)] 47)
            have kf : KeepsFrom V.heap.size X0 _ := (KeepsOthers.alloc X0 (.cells #[.int .u16 (a + 256 * b)] 47)).from _
            have bw := (Below.refl w.heap.size X0).alloc sz (.cells #[.int .u16 (a + 256 * b)] 47)
            have PI := Base.lit1 .u16 X0 [(a + 256 * b)] #[.int .u16 (a + 256 * b)] 47 rfl
            have hu := hu.alloc (.cells #[.int .u16 (a + 256 * b)] 47)
            have hur := hur.alloc (.cells #[.int .u16 (a + 256 * b)] 47)
            have cu := hu.cell
            generalize X0.alloc (.cells #[.int .u16 (a + 256 * b)] 47) = X5 at *
            have CSg := kt.2 _ _ _ _ (.inr (.inl rfl)) CSg
            have KK := KK.trans kt
            have KF := KF.trans kf
            have BB := BB.trans bw
            have sz := Nat.le_trans sz kt.1
            have TT := And.intro ((cell_of_row X5 g off cs _ (0, 0) CSg).trans hca) ((cell_of_row X5 g (off + 1) cs _ (0, 0) CSg).trans hcb)
            refine hK.out _ _ TT (fun hHeld => ?_)
            clear hK K
            try simp only [List.getElem_toArray, List.getElem_cons_zero, List.getElem_cons_succ, Act.put, List.setIfInBounds_toArray, List.set_cons_zero, List.set_cons_succ]
            refine wpAnyH_ready (rs := [0]) (by kernel_rfl) (by simp) ?_
            refine AllReadyH.cons rfl (fun K hK => ?_) (AllReadyH.nil)
            go_simp
            skip
            refine hK.out _ _ TT (fun hHeld => ?_)
            clear hK K
            try simp only [List.getElem_toArray, List.getElem_cons_zero, List.getElem_cons_succ, Act.put, List.setIfInBounds_toArray, List.set_cons_zero, List.set_cons_succ]
            refine wpAnyH_ready (rs := [12]) (by kernel_rfl) (by simp) ?_
            refine AllReadyH.cons rfl (fun K hK => ?_) (AllReadyH.nil)
            refine step_append_ints rfl (.tmp 11) (.tmp 22) 40 rfl .u16 w.heap.size 47 i0 _ 2 Try.underlying40 hi hz0 hz1 hz2 rfl u N ((F ++ acc).map (Value.int .u16)) rfl hur X5.heap.size (some ⟨X0.heap.size, 0, none⟩) 1 1 [(a + 256 * b)] rfl rfl PI (by unfold maxLen; omega) (by omega) sz ?_
            intro v' X7 own bw hgr
            obtain ⟨g', cap', rfl⟩ := ownsRow_succ own
            have kt := KeepT.grown hur (by decide) hgr
            have kf : KeepsFrom V.heap.size X5 X7 := keeps_append hur hgr _
            have hu := hu.kept hgr (hu.not_row (by decide) hur)
            have cu := hu.cell
            have CSg := kt.2 _ _ _ _ (.inr (.inl rfl)) CSg
            have KK := KK.trans kt
            have KF := KF.trans kf
            have BB := BB.trans bw
            have sz := Nat.le_trans sz kt.1
            have TT := And.intro ((cell_of_row X7 g off cs _ (0, 0) CSg).trans hca) ((cell_of_row X7 g (off + 1) cs _ (0, 0) CSg).trans hcb)
            refine hK.out _ _ TT (fun hHeld => ?_)
            clear hK K
            try simp only [List.getElem_toArray, List.getElem_cons_zero, List.getElem_cons_succ, Act.put, List.setIfInBounds_toArray, List.set_cons_zero, List.set_cons_succ]
            refine wpAnyH_ready (rs := [13]) (by kernel_rfl) (by simp) ?_
            refine AllReadyH.cons rfl (fun K hK => ?_) (AllReadyH.nil)
            have fu := hu.frozen
            have kt := KeepT.set hu (by decide) (.slice (some ⟨g', 0, none⟩) (N + 1) cap')
            have kf : KeepsFrom V.heap.size X7 _ := (KeepsOthers.setCell X7 ⟨w.heap.size, 0, none⟩ (.slice (some ⟨g', 0, none⟩) (N + 1) cap')).from _
            have bw := (Below.refl w.heap.size X7).setCell (p := ⟨w.heap.size, 0, none⟩) (Nat.le_refl _) (.slice (some ⟨g', 0, none⟩) (N + 1) cap')
            have own := own_set own hu (by decide) 0 (.slice (some ⟨g', 0, none⟩) (N + 1) cap')
            have hu := hu.set (.slice (some ⟨g', 0, none⟩) (N + 1) cap')
            go_simp
            clear cu fu
            generalize X7.setCell ⟨w.heap.size, 0, none⟩ (.slice (some ⟨g', 0, none⟩) (N + 1) cap') = X8 at *
            have CSg := kt.2 _ _ _ _ (.inr (.inl rfl)) CSg
            have KK := KK.trans kt
            have KF := KF.trans kf
            have BB := BB.trans bw
            have sz := Nat.le_trans sz kt.1
            have TT := And.intro ((cell_of_row X8 g off cs _ (0, 0) CSg).trans hca) ((cell_of_row X8 g (off + 1) cs _ (0, 0) CSg).trans hcb)
            refine hK.out _ _ TT (fun hHeld => ?_)
            clear hK K
            try simp only [List.getElem_toArray, List.getElem_cons_zero, List.getElem_cons_succ, Act.put, List.setIfInBounds_toArray, List.set_cons_zero, List.set_cons_succ]
            refine wpAnyH_done (by kernel_rfl) ?_ _
            exact ⟨_, _, _, _, _, _, _, _, _, _, _, _, _, rfl, _, hu, own, KK, KF, BB⟩
        · rintro a' w' ⟨s11, s12, s13, s14, s15, s16, s17, s18, s19, s20, s21, s22, s23, rfl, u', hu', hur', hKK, hKF, hBB⟩
          gi_wp2
          go_roundw
          case rel => exact ⟨some ⟨g, off', none⟩, k - 2, c' - 2, r, acc ++ [a + 256 * b], rfl, by simp at hz; omega, by omega, by omega, by simp; omega, Lib.hid (fun z hz => HB.out z (by simp [hz])), Lib.hid (by have := (HR.out.keep hKK).cut (i := 2) (off' := off') (by rcases hoff with h | h; exact .inl h; exact .inr (by rw [hz]; exact h)); simpa using this), Lib.hid (by rw [← HA.out, svc_two, List.append_assoc]; rfl), ⟨u', hu', by rw [List.length_append, ← Nat.add_assoc, hN, ← List.append_assoc, List.map_append]; exact hur', trivial⟩, Lib.hid (HK.out.trans hKK), Lib.hid (HF.out.trans hKF), Lib.hid (HBl.out.trans hBB), Lib.hid (Nat.le_trans HSz.out hKK.1)⟩
          case measure => simp [lenS]; omega
      · have hsv : svc zs = [] := by
          match zs, hz with
          | [], _ => rfl
          | [_], _ => rfl
          | _ :: _ :: _, h => simp at h; omega
        have HA2 : Hid (acc = svc xv) := Lib.hid (by rw [← HA.out, hsv, List.append_nil])
        clear hsv
        have hlx : (svc xv).length ≤ 31 := Nat.le_trans (svc_len xv) (by omega)
        gi_wp2
        refine ⟨HF.out, HK.out, ⟨⟨⟨⟨u, hu, ?_, trivial⟩, ?_⟩, HBl.out⟩, HSz.out⟩⟩
        · rw [HS.out, ← HA2.out, List.length_append]; exact hur
        · rw [HS.out, List.length_append, List.length_append, List.length_singleton]; omega
  case done =>
    rintro D ys W hD hS ⟨⟨⟨⟨v, hv, hrow, _⟩, hlen⟩, hbel⟩, hsz⟩ hK
    have HE : Hid (svcR xs = svs ys) := Lib.hid (by unfold svcR svs; rw [show ys.map (·.v) = vals xs 3 from hS])
    have cV := hv.cell
    clear hS
    gi_wp2
    refine ⟨by simp, .inl ⟨_, _, rfl, run_takeDeferred hK, ?_⟩⟩
    refine ⟨_, results_tmp rfl _ _ _, ?_⟩
    rw [HE.out]
    exact makesS_of rfl (own_grown hrow (grownBy_putObj' _ D (.deferred none)) (fun r e => by cases e; exact ⟨_, hK, rfl⟩)) (hbel.trans (below_put _ (by omega) hK))
  case stop =>
    rintro D pre W _ _ h _
    exact h.elim
end Go.Proofs.Ytpbfnkicbejdbaa.Ad
