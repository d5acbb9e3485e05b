/- Advertisers: what is sent: contracts over the program. -/
import Derived.Test.YtcbliliinmfnjaaDoorKM16
set_option linter.unusedVariables false
set_option linter.unusedSimpArgs false
namespace Go.Proofs.YtcbliliinmfnjaaDoor.Av
open Go.RowKit Mem Oct Rw Ap Ace Prv
open Base (thenB)

/-- What is sent, as cells; V the slice of the data. -/
def encD (x : Sd × Value) : List Value := [.int .i64 x.1.ch, .int .i64 x.1.tm] ++ (cel x.1.q x.2).toList
/-- V is a slice of what is sent, in memory that is not older than m. -/
def Snds (w : World) (m : Nat) (V : Value) (l : List Sd) : Prop :=
  ∃ Vs : List Value, Vs.length = l.length ∧ Row w m V l.length ((l.zip Vs).flatMap encD) ∧ ∀ x ∈ l.zip Vs, Row w m x.2 x.1.q.ds.length (x.1.q.ds.map (Value.int .u8))
theorem Snds.below {w w' : World} {m : Nat} {V : Value} {l : List Sd} (h : Snds w m V l) (b : Below w.heap.size w w') : Snds w' m V l := by
  obtain ⟨Vs, h1, h2, h3⟩ := h
  exact ⟨Vs, h1, h2.below b, fun x hx => (h3 x hx).below b⟩
theorem Snds.less {w : World} {m m' : Nat} {V : Value} {l : List Sd} (h : Snds w m V l) (hm : m' ≤ m) : Snds w m' V l := by
  obtain ⟨Vs, h1, h2, h3⟩ := h
  exact ⟨Vs, h1, h2.less hm, fun x hx => (h3 x hx).less hm⟩
theorem Snds.nil (w : World) (m : Nat) : Snds w m (.slice none 0 0) [] := ⟨[], rfl, Row.nil _ _ _ _, by simp⟩
theorem Snds.farR {w : World} {m g : Nat} {V : Value} {l : List Sd} {cs : Array Value} (h : Snds w m V l) (hg : g < m) : Snds (w.setRow g cs) m V l := by
  obtain ⟨Vs, h1, h2, h3⟩ := h
  exact ⟨Vs, h1, h2.farR hg, fun x hx => (h3 x hx).farR hg⟩
theorem info_snd : (Tryd.prog.info? 54).map (fun i => (i.zero, i.size, i.bytes)) = some (some (.agg #[.int .i64 0, .int .i64 0, .int .i64 0, .int .i64 0, .int .u64 0, .int .i64 0, .int .u64 0, .slice none 0 0, .int .u32 0, .int .u32 0, .int .i64 0, .int .i64 0, .int .i64 0, .int .i64 0, .int .i64 0, .int .u64 0, .int .i64 0, .int .i64 0, .int .i64 0]), 19, 160) := by kernel_rfl
theorem Row.lit {w : World} {m n : Nat} {cs : Array Value} {e : TypeId} {ys : List Value} (hm : m ≤ w.heap.size) (h : cs = ys.toArray) : Row (w.alloc (.cells cs e)) m (.slice (some ⟨w.heap.size, 0, none⟩) n n) n ys := by
  refine ⟨_, n, rfl, Nat.le_refl _, .inr ⟨w.heap.size, 0, rfl, hm, by simp, fun q u hq => ?_⟩⟩
  rw [World.cell?_alloc_at _ _ _ _ rfl, h]
  simpa using hq
set_option maxRecDepth 100000 in
set_option maxHeartbeats 4000000 in
theorem fire1_any (I now : Int) (g6 g2 : Nat) (a : Ad) (VD VS VA VI : Value) (m : Nat) (w : World) (hI : 0 ≤ I ∧ I ≤ 2) (hn : 0 ≤ now ∧ now ≤ 4398046511104) (hne : g6 ≠ g2) (K6 : Blk w g6 3 #[.int .i64 now]) (K2 : Blk w g2 33 (vcel a VD VS VA VI)) (hW : PW a.p) (hH : Has w m a.p VD VS VA VI) :
    Calls Tryd.prog 51 #[.int .i64 I, .pointer (some ⟨g6, 0, none⟩), .pointer (some ⟨g2, 0, none⟩)] w fun e w' => ∃ V, e = .returned (.agg (encD (⟨37 + I, now + I * 1000, annP a.p⟩, V)).toArray) ∧ Row w' w.heap.size V a.p.ds.length (a.p.ds.map (Value.int .u8)) ∧ Below w.heap.size w w' := by
  have BX : Below w.heap.size w (w.alloc (.cells #[.int .i64 0, .int .i64 0, .int .i64 0, .int .i64 0, .int .u64 0, .int .i64 0, .int .u64 0, .slice none 0 0, .int .u32 0, .int .u32 0, .int .i64 0, .int .i64 0, .int .i64 0, .int .i64 0, .int .i64 0, .int .u64 0, .int .i64 0, .int .i64 0, .int .i64 0] 54)) := (Below.refl _ _).alloc (Nat.le_refl _) _
  have l6 := K6.lt
  have l2 := K2.lt
  have K4 : Blk (w.alloc (.cells #[.int .i64 0, .int .i64 0, .int .i64 0, .int .i64 0, .int .u64 0, .int .i64 0, .int .u64 0, .slice none 0 0, .int .u32 0, .int .u32 0, .int .i64 0, .int .i64 0, .int .i64 0, .int .i64 0, .int .i64 0, .int .u64 0, .int .i64 0, .int .i64 0, .int .i64 0] 54)) (w.heap.size) 54 #[.int .i64 0, .int .i64 0, .int .i64 0, .int .i64 0, .int .u64 0, .int .i64 0, .int .u64 0, .slice none 0 0, .int .u32 0, .int .u32 0, .int .i64 0, .int .i64 0, .int .i64 0, .int .i64 0, .int .i64 0, .int .u64 0, .int .i64 0, .int .i64 0, .int .i64 0] := Blk.fresh w 54 #[.int .i64 0, .int .i64 0, .int .i64 0, .int .i64 0, .int .u64 0, .int .i64 0, .int .u64 0, .slice none 0 0, .int .u32 0, .int .u32 0, .int .i64 0, .int .i64 0, .int .i64 0, .int .i64 0, .int .i64 0, .int .u64 0, .int .i64 0, .int .i64 0, .int .i64 0]
  have K6 : Blk (w.alloc (.cells #[.int .i64 0, .int .i64 0, .int .i64 0, .int .i64 0, .int .u64 0, .int .i64 0, .int .u64 0, .slice none 0 0, .int .u32 0, .int .u32 0, .int .i64 0, .int .i64 0, .int .i64 0, .int .i64 0, .int .i64 0, .int .u64 0, .int .i64 0, .int .i64 0, .int .i64 0] 54)) (g6) 3 #[.int .i64 now] := K6.alloc _
  have K2 : Blk (w.alloc (.cells #[.int .i64 0, .int .i64 0, .int .i64 0, .int .i64 0, .int .u64 0, .int .i64 0, .int .u64 0, .slice none 0 0, .int .u32 0, .int .u32 0, .int .i64 0, .int .i64 0, .int .i64 0, .int .i64 0, .int .i64 0, .int .u64 0, .int .i64 0, .int .i64 0, .int .i64 0] 54)) (g2) 33 #[.int .i64 a.p.k, .int .i64 a.p.it, .int .i64 a.p.ok, .int .u64 a.p.ob, .int .i64 a.p.tk, .int .u64 a.p.tb, VD, VS, .int .i64 a.p.po, VA, VI, .int .u64 a.p.sd, .bool a.on, .int .i64 a.ev, .int .i64 a.nx] := K2.alloc _
  have HP : Hid (∀ X, Below w.heap.size w X → Calls Tryd.prog 52 #[.agg (pcel a.p VD VS VA VI)] X fun e w' => ∃ V, e = .returned (.agg #[.int .i64 a.p.k, .int .i64 a.p.ok, .int .u64 a.p.ob, .int .i64 a.p.tk, .int .u64 a.p.tb, V, .int .u32 0, .int .u32 0, .int .i64 0, .int .i64 0, .int .i64 0, .int .i64 0, .int .i64 0, .int .u64 0, .int .i64 0, .int .i64 0, .int .i64 0]) ∧ Row w' X.heap.size V a.p.ds.length (a.p.ds.map (Value.int .u8)) ∧ Below X.heap.size X w') := Lib.hid fun X b => announcement_any a.p _ _ _ _ m X hW (hH.below b)
  have e1 : IntKind.i64.wrap (37 + I) = 37 + I := by simp only [IntKind.wrap, IntKind.signed, IntKind.bits]; simp; omega
  have e2 : IntKind.i64.wrap (I * 1000) = I * 1000 := by simp only [IntKind.wrap, IntKind.signed, IntKind.bits]; simp; omega
  have e3 : IntKind.i64.wrap (now + I * 1000) = now + I * 1000 := by simp only [IntKind.wrap, IntKind.signed, IntKind.bits]; simp; omega
  clear hW hH hI hn
  go_enter Tryd.func51, Tryd.ntmps51
  go_upto_region 1 with (fail)
  generalize w.alloc (.cells #[.int .i64 0, .int .i64 0, .int .i64 0, .int .i64 0, .int .u64 0, .int .i64 0, .int .u64 0, .slice none 0 0, .int .u32 0, .int .u32 0, .int .i64 0, .int .i64 0, .int .i64 0, .int .i64 0, .int .i64 0, .int .u64 0, .int .i64 0, .int .i64 0, .int .i64 0] 54) = W0 at *
  refine wp_region_held_drew (S := (fun w' => Blk w' (g2) 33 #[.int .i64 a.p.k, .int .i64 a.p.it, .int .i64 a.p.ok, .int .u64 a.p.ob, .int .i64 a.p.tk, .int .u64 a.p.tb, VD, VS, .int .i64 a.p.po, VA, VI, .int .u64 a.p.sd, .bool a.on, .int .i64 a.ev, .int .i64 a.nx] ∧ Blk w' (g6) 3 #[.int .i64 now])) (by kernel_rfl) ?_ (fun hHeld => ?_)
  · exact ⟨K2, K6⟩
  replace K6 : Blk W0.drew (g6) 3 #[.int .i64 now] := K6
  replace K2 : Blk W0.drew (g2) 33 #[.int .i64 a.p.k, .int .i64 a.p.it, .int .i64 a.p.ok, .int .u64 a.p.ob, .int .i64 a.p.tk, .int .u64 a.p.tb, VD, VS, .int .i64 a.p.po, VA, VI, .int .u64 a.p.sd, .bool a.on, .int .i64 a.ev, .int .i64 a.nx] := K2
  replace K4 : Blk W0.drew (w.heap.size) 54 #[.int .i64 0, .int .i64 0, .int .i64 0, .int .i64 0, .int .u64 0, .int .i64 0, .int .u64 0, .slice none 0 0, .int .u32 0, .int .u32 0, .int .i64 0, .int .i64 0, .int .i64 0, .int .i64 0, .int .i64 0, .int .u64 0, .int .i64 0, .int .i64 0, .int .i64 0] := K4
  replace BX : Below w.heap.size w W0.drew := BX.drew
  generalize W0.drew = X0 at *
  refine wpAnyH_take (i := 0) (v := .int .i64 I) rfl (by kernel_rfl) (by kernel_rfl) (by kernel_rfl) (fun _ _ _ h => h) (Or.inl ⟨by first | rfl | go_simp, by intro w9 hSw; (try dsimp only at hSw); go_simp⟩) (by assumption) ?_
  simp only [List.getElem_toArray, List.getElem_cons_zero, List.getElem_cons_succ, Act.put, List.setIfInBounds_toArray, List.set_cons_zero, List.set_cons_succ]
  refine wpAnyH_take (i := 1) (v := .int .i64 (37 + I)) rfl (by kernel_rfl) (by kernel_rfl) (by kernel_rfl) (fun _ _ _ h => h) (Or.inl ⟨by first | rfl | go_simp, by intro w9 hSw; (try dsimp only at hSw); go_simp⟩) (by assumption) ?_
  simp only [List.getElem_toArray, List.getElem_cons_zero, List.getElem_cons_succ, Act.put, List.setIfInBounds_toArray, List.set_cons_zero, List.set_cons_succ]
  refine wpAnyH_take (i := 2) (v := .int .i64 now) rfl (by kernel_rfl) (by kernel_rfl) (by kernel_rfl) (fun _ _ _ h => h) (Or.inl ⟨by first | rfl | go_simp, by intro w9 hSw; (try dsimp only at hSw); have c9 := hSw.2.cell 0; clear hSw; go_simp⟩) (by assumption) ?_
  simp only [List.getElem_toArray, List.getElem_cons_zero, List.getElem_cons_succ, Act.put, List.setIfInBounds_toArray, List.set_cons_zero, List.set_cons_succ]
  refine wpAnyH_take (i := 3) (v := .int .i64 I) rfl (by kernel_rfl) (by kernel_rfl) (by kernel_rfl) (fun _ _ _ h => h) (Or.inl ⟨by first | rfl | go_simp, by intro w9 hSw; (try dsimp only at hSw); go_simp⟩) (by assumption) ?_
  simp only [List.getElem_toArray, List.getElem_cons_zero, List.getElem_cons_succ, Act.put, List.setIfInBounds_toArray, List.set_cons_zero, List.set_cons_succ]
  refine wpAnyH_take (i := 4) (v := .int .i64 (I * 1000)) rfl (by kernel_rfl) (by kernel_rfl) (by kernel_rfl) (fun _ _ _ h => h) (Or.inl ⟨by first | rfl | go_simp, by intro w9 hSw; (try dsimp only at hSw); go_simp⟩) (by assumption) ?_
  simp only [List.getElem_toArray, List.getElem_cons_zero, List.getElem_cons_succ, Act.put, List.setIfInBounds_toArray, List.set_cons_zero, List.set_cons_succ]
  refine wpAnyH_take (i := 5) (v := .int .i64 (now + I * 1000)) rfl (by kernel_rfl) (by kernel_rfl) (by kernel_rfl) (fun _ _ _ h => h) (Or.inl ⟨by first | rfl | go_simp, by intro w9 hSw; (try dsimp only at hSw); go_simp⟩) (by assumption) ?_
  simp only [List.getElem_toArray, List.getElem_cons_zero, List.getElem_cons_succ, Act.put, List.setIfInBounds_toArray, List.set_cons_zero, List.set_cons_succ]
  refine wpAnyH_take (i := 6) (v := .pointer (some ⟨g2, 0, none⟩)) rfl (by kernel_rfl) (by kernel_rfl) (by kernel_rfl) (fun _ _ _ h => h) (Or.inl ⟨by first | rfl | go_simp, by intro w9 hSw; (try dsimp only at hSw); go_simp⟩) (by assumption) ?_
  simp only [List.getElem_toArray, List.getElem_cons_zero, List.getElem_cons_succ, Act.put, List.setIfInBounds_toArray, List.set_cons_zero, List.set_cons_succ]
  refine wpAnyH_take (i := 7) (v := .agg #[.int .i64 a.p.k, .int .i64 a.p.it, .int .i64 a.p.ok, .int .u64 a.p.ob, .int .i64 a.p.tk, .int .u64 a.p.tb, VD, VS, .int .i64 a.p.po, VA, VI, .int .u64 a.p.sd]) rfl (by kernel_rfl) (by kernel_rfl) (by kernel_rfl) (fun _ _ _ h => h) (Av.yields_part (by first | rfl | go_simp) _ _ rfl (g2) 0 rfl #[.int .i64 a.p.k, .int .i64 a.p.it, .int .i64 a.p.ok, .int .u64 a.p.ob, .int .i64 a.p.tk, .int .u64 a.p.tb, VD, VS, .int .i64 a.p.po, VA, VI, .int .u64 a.p.sd] _ 33 #[.int .i64 a.p.k, .int .i64 a.p.it, .int .i64 a.p.ok, .int .u64 a.p.ob, .int .i64 a.p.tk, .int .u64 a.p.tb, VD, VS, .int .i64 a.p.po, VA, VI, .int .u64 a.p.sd, .bool a.on, .int .i64 a.ev, .int .i64 a.nx] (fun w9 hSw => hSw.1) rfl Tryd.underlying29 rfl (by kernel_rfl)) (by assumption) ?_
  simp only [List.getElem_toArray, List.getElem_cons_zero, List.getElem_cons_succ, Act.put, List.setIfInBounds_toArray, List.set_cons_zero, List.set_cons_succ]
  refine wpAnyH_ready (rs := [8]) (by kernel_rfl) (by simp) ?_
  refine AllReadyH.cons rfl (fun K hK => ?_) (AllReadyH.nil)
  go_simp
  refine (HP.out X0 BX).mono ?_
  rintro e X1 ⟨V1, rfl, HR, b9⟩
  obtain ⟨A1, c1, e1, _⟩ := id HR
  subst e1
  have HR := HR.less (show w.heap.size + 1 ≤ X0.heap.size from K4.lt)
  replace K6 := K6.below b9 K6.lt
  replace K2 := K2.below b9 K2.lt
  replace K4 := K4.below b9 K4.lt
  replace BX := Base.thenB BX b9
  clear b9
  refine hK.out _ _ ⟨K2, K6⟩ (fun hHeld => ?_)
  clear hK K
  try simp only [List.getElem_toArray, List.getElem_cons_zero, List.getElem_cons_succ, Act.put, List.setIfInBounds_toArray, List.set_cons_zero, List.set_cons_succ]
  refine wpAnyH_take (i := 9) (v := .agg #[.int .i64 (37 + I), .int .i64 (now + I * 1000), .int .i64 a.p.k, .int .i64 a.p.ok, .int .u64 a.p.ob, .int .i64 a.p.tk, .int .u64 a.p.tb, .slice A1 a.p.ds.length c1, .int .u32 0, .int .u32 0, .int .i64 0, .int .i64 0, .int .i64 0, .int .i64 0, .int .i64 0, .int .u64 0, .int .i64 0, .int .i64 0, .int .i64 0]) rfl (by kernel_rfl) (by kernel_rfl) (by kernel_rfl) (fun _ _ _ h => h) (Av.yields_build (by first | rfl | go_simp) _ _ rfl #[.int .i64 (37 + I), .int .i64 (now + I * 1000), .int .i64 a.p.k, .int .i64 a.p.ok, .int .u64 a.p.ob, .int .i64 a.p.tk, .int .u64 a.p.tb, .slice A1 a.p.ds.length c1, .int .u32 0, .int .u32 0, .int .i64 0, .int .i64 0, .int .i64 0, .int .i64 0, .int .i64 0, .int .u64 0, .int .i64 0, .int .i64 0, .int .i64 0] (by kernel_rfl)) (by assumption) ?_
  simp only [List.getElem_toArray, List.getElem_cons_zero, List.getElem_cons_succ, Act.put, List.setIfInBounds_toArray, List.set_cons_zero, List.set_cons_succ]
  refine wpAnyH_ready (rs := [10]) (by kernel_rfl) (by simp) ?_
  refine AllReadyH.cons rfl (fun K hK => ?_) (AllReadyH.nil)
  have H9 : (#[.int .i64 (37 + I), .int .i64 (now + I * 1000), .int .i64 a.p.k, .int .i64 a.p.ok, .int .u64 a.p.ob, .int .i64 a.p.tk, .int .u64 a.p.tb, .slice A1 a.p.ds.length c1, .int .u32 0, .int .u32 0, .int .i64 0, .int .i64 0, .int .i64 0, .int .i64 0, .int .i64 0, .int .u64 0, .int .i64 0, .int .i64 0, .int .i64 0] : Array Value).all (·.oneCell') = true := by rw [← Array.all_toList]; rfl
  refine Av.step_store_row rfl 54 (.tmp 4) (.tmp 14) rfl (w.heap.size) #[.int .i64 (37 + I), .int .i64 (now + I * 1000), .int .i64 a.p.k, .int .i64 a.p.ok, .int .u64 a.p.ob, .int .i64 a.p.tk, .int .u64 a.p.tb, .slice A1 a.p.ds.length c1, .int .u32 0, .int .u32 0, .int .i64 0, .int .i64 0, .int .i64 0, .int .i64 0, .int .i64 0, .int .u64 0, .int .i64 0, .int .i64 0, .int .i64 0] rfl rfl 54 _ K4 (by kernel_rfl) rfl H9 ?_
  replace K6 : Blk (X1.setRow (w.heap.size) #[.int .i64 (37 + I), .int .i64 (now + I * 1000), .int .i64 a.p.k, .int .i64 a.p.ok, .int .u64 a.p.ob, .int .i64 a.p.tk, .int .u64 a.p.tb, .slice A1 a.p.ds.length c1, .int .u32 0, .int .u32 0, .int .i64 0, .int .i64 0, .int .i64 0, .int .i64 0, .int .i64 0, .int .u64 0, .int .i64 0, .int .i64 0, .int .i64 0]) (g6) 3 #[.int .i64 now] := Av.bother_row K6 (by omega)
  replace K2 : Blk (X1.setRow (w.heap.size) #[.int .i64 (37 + I), .int .i64 (now + I * 1000), .int .i64 a.p.k, .int .i64 a.p.ok, .int .u64 a.p.ob, .int .i64 a.p.tk, .int .u64 a.p.tb, .slice A1 a.p.ds.length c1, .int .u32 0, .int .u32 0, .int .i64 0, .int .i64 0, .int .i64 0, .int .i64 0, .int .i64 0, .int .u64 0, .int .i64 0, .int .i64 0, .int .i64 0]) (g2) 33 #[.int .i64 a.p.k, .int .i64 a.p.it, .int .i64 a.p.ok, .int .u64 a.p.ob, .int .i64 a.p.tk, .int .u64 a.p.tb, VD, VS, .int .i64 a.p.po, VA, VI, .int .u64 a.p.sd, .bool a.on, .int .i64 a.ev, .int .i64 a.nx] := Av.bother_row K2 (by omega)
  replace K4 : Blk (X1.setRow (w.heap.size) #[.int .i64 (37 + I), .int .i64 (now + I * 1000), .int .i64 a.p.k, .int .i64 a.p.ok, .int .u64 a.p.ob, .int .i64 a.p.tk, .int .u64 a.p.tb, .slice A1 a.p.ds.length c1, .int .u32 0, .int .u32 0, .int .i64 0, .int .i64 0, .int .i64 0, .int .i64 0, .int .i64 0, .int .u64 0, .int .i64 0, .int .i64 0, .int .i64 0]) (w.heap.size) 54 #[.int .i64 (37 + I), .int .i64 (now + I * 1000), .int .i64 a.p.k, .int .i64 a.p.ok, .int .u64 a.p.ob, .int .i64 a.p.tk, .int .u64 a.p.tb, .slice A1 a.p.ds.length c1, .int .u32 0, .int .u32 0, .int .i64 0, .int .i64 0, .int .i64 0, .int .i64 0, .int .i64 0, .int .u64 0, .int .i64 0, .int .i64 0, .int .i64 0] := Av.bset_row K4
  replace BX : Below w.heap.size w (X1.setRow (w.heap.size) #[.int .i64 (37 + I), .int .i64 (now + I * 1000), .int .i64 a.p.k, .int .i64 a.p.ok, .int .u64 a.p.ob, .int .i64 a.p.tk, .int .u64 a.p.tb, .slice A1 a.p.ds.length c1, .int .u32 0, .int .u32 0, .int .i64 0, .int .i64 0, .int .i64 0, .int .i64 0, .int .i64 0, .int .u64 0, .int .i64 0, .int .i64 0, .int .i64 0]) := below_setRow BX (by omega) _
  replace HR := Row.farR (cs := #[.int .i64 (37 + I), .int .i64 (now + I * 1000), .int .i64 a.p.k, .int .i64 a.p.ok, .int .u64 a.p.ob, .int .i64 a.p.tk, .int .u64 a.p.tb, .slice A1 a.p.ds.length c1, .int .u32 0, .int .u32 0, .int .i64 0, .int .i64 0, .int .i64 0, .int .i64 0, .int .i64 0, .int .u64 0, .int .i64 0, .int .i64 0, .int .i64 0]) HR (show w.heap.size < w.heap.size + 1 by omega)
  clear H9
  generalize X1.setRow (w.heap.size) #[.int .i64 (37 + I), .int .i64 (now + I * 1000), .int .i64 a.p.k, .int .i64 a.p.ok, .int .u64 a.p.ob, .int .i64 a.p.tk, .int .u64 a.p.tb, .slice A1 a.p.ds.length c1, .int .u32 0, .int .u32 0, .int .i64 0, .int .i64 0, .int .i64 0, .int .i64 0, .int .i64 0, .int .u64 0, .int .i64 0, .int .i64 0, .int .i64 0] = X2 at *
  refine hK.out _ _ ⟨K2, K6⟩ (fun hHeld => ?_)
  clear hK K
  try simp only [List.getElem_toArray, List.getElem_cons_zero, List.getElem_cons_succ, Act.put, List.setIfInBounds_toArray, List.set_cons_zero, List.set_cons_succ]
  refine wpAnyH_done (by kernel_rfl) ?_ _
  go_wp2_with fail
  refine bodyPost_ret (v := .agg #[.int .i64 (37 + I), .int .i64 (now + I * 1000), .int .i64 a.p.k, .int .i64 a.p.ok, .int .u64 a.p.ob, .int .i64 a.p.tk, .int .u64 a.p.tb, .slice A1 a.p.ds.length c1, .int .u32 0, .int .u32 0, .int .i64 0, .int .i64 0, .int .i64 0, .int .i64 0, .int .i64 0, .int .u64 0, .int .i64 0, .int .i64 0, .int .i64 0]) ?_ rfl ⟨_, rfl, HR.less (by omega), BX⟩
  clear hHeld
  have HL := run_loadVar_row (P := Tryd.prog) X2 (w.heap.size) 54 54 #[.int .i64 (37 + I), .int .i64 (now + I * 1000), .int .i64 a.p.k, .int .i64 a.p.ok, .int .u64 a.p.ob, .int .i64 a.p.tk, .int .u64 a.p.tb, .slice A1 a.p.ds.length c1, .int .u32 0, .int .u32 0, .int .i64 0, .int .i64 0, .int .i64 0, .int .i64 0, .int .i64 0, .int .u64 0, .int .i64 0, .int .i64 0, .int .i64 0] (0, 0) _ K4 Tryd.underlying54 rfl (by kernel_rfl)
  generalize (#[.int .i64 (37 + I), .int .i64 (now + I * 1000), .int .i64 a.p.k, .int .i64 a.p.ok, .int .u64 a.p.ob, .int .i64 a.p.tk, .int .u64 a.p.tb, .slice A1 a.p.ds.length c1, .int .u32 0, .int .u32 0, .int .i64 0, .int .i64 0, .int .i64 0, .int .i64 0, .int .i64 0, .int .u64 0, .int .i64 0, .int .i64 0, .int .i64 0] : Array Value) = CS at *
  simp [results, show (Tryd.f51).results = #[.cell 4 54] from rfl, asAddr, HL, Act.put]
end Go.Proofs.YtcbliliinmfnjaaDoor.Av
