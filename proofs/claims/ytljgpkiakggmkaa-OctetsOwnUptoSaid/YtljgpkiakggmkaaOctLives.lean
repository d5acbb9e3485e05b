/- The program answers as the document's examples for the layer of bytes say: a contract over the program. -/
import Derived.Test.YtljgpkiakggmkaaOctRput
import Derived.Test.YtljgpkiakggmkaaOctTake
set_option linter.unusedVariables false
set_option linter.unusedSimpArgs false
namespace Go.Proofs.Ytljgpkiakggmkaa.Oct
open Go.RowKit Mem

theorem info_int : (Try.prog.info? 3).map (fun i => (i.zero, i.size, i.bytes)) = some (some (.int .i64 0), 1, 8) := by kernel_rfl
theorem bytes_lit (l : List Int) (h : l.all (fun z => decide (0 ≤ z ∧ z ≤ 255)) = true) : Bytes l := fun z hz => by
  rw [List.all_eq_true] at h; simpa using h z hz
theorem lit1 (k : IntKind) (w : World) (zs : List Int) (cs : Array Value) (e : TypeId) (h : cs = (zs.map (Value.int k)).toArray) : Ints k (w.alloc (.cells cs e)) (w.alloc (.cells cs e)).heap.size (some ⟨w.heap.size, 0, none⟩) zs := by
  have := Ints.lit k w zs cs e h
  simpa using this
theorem lit2 (k : IntKind) (w : World) (zs : List Int) (cs : Array Value) (e : TypeId) (h : cs = (zs.map (Value.int k)).toArray) (o : Obj) : Ints k ((w.alloc (.cells cs e)).alloc o) ((w.alloc (.cells cs e)).alloc o).heap.size (some ⟨w.heap.size, 0, none⟩) zs :=
  ((lit1 k w zs cs e h).alloc (Nat.le_refl _) o).more (by simp)
theorem litg (k : IntKind) (w : World) (zs : List Int) (cs : Array Value) (e : TypeId) (g : Nat) (hg : g = w.heap.size) (h : cs = (zs.map (Value.int k)).toArray) : Ints k (w.alloc (.cells cs e)) (w.alloc (.cells cs e)).heap.size (some ⟨g, 0, none⟩) zs := by
  subst hg; exact lit1 k w zs cs e h
theorem alloc1 (w : World) (o : Obj) {w' : World} (h : Below (w.alloc o).heap.size (w.alloc o) w') : Below w.heap.size w w' := ((Below.refl w.heap.size w).alloc (Nat.le_refl _) _).trans (h.mono (by simp))
theorem alloc2 (w : World) (o o' : Obj) {w' : World} (h : Below ((w.alloc o).alloc o').heap.size ((w.alloc o).alloc o') w') : Below w.heap.size w w' := alloc1 w o (alloc1 _ o' h)
theorem kept {k : IntKind} {w : World} {A : Option Addr} {zs : List Int} (h : Ints k w w.heap.size A zs) (o : Obj) : Ints k (w.alloc o) (w.alloc o).heap.size A zs := (h.alloc (Nat.le_refl _) o).more (by simp)
/-- What is read in a world is read in a later one. -/
theorem later {k : IntKind} {w w' : World} {A : Option Addr} {zs : List Int} (h : Ints k w w.heap.size A zs) (hb : Below w.heap.size w w') : Ints k w' w'.heap.size A zs := (h.below hb).more hb.size
theorem put_to {fs : List (Int × Int)} {r : List Int × Int} (hr : putR fs = r) {A : Option Addr} {n c : Nat} {w : World} (hf : Fields fs) (hl : fs.length = n) (hn : n ≤ 8796093022208) (h : FldsAt w w.heap.size A fs) :
    Calls Try.prog 29 #[.slice A n c] w fun e w' => Gives w w' e r := by
  rw [← hr]; exact put_any A n c fs w hf hl hn h
theorem take_to {xs zs : List Int} {r : List Int × List Int × Int} (hr : takeR xs zs = r) {A A' : Option Addr} {n n' c c' : Nat} {w : World} (hx : xs.length = n) (hz : zs.length = n') (hnc : n ≤ c) (hn : n ≤ 140737488351232) (hn' : n' ≤ 17592186043904) (bxs : Bytes xs) (bzs : Sizes zs) (h : Ints .u8 w w.heap.size A xs) (h' : Ints .i64 w w.heap.size A' zs) :
    Calls Try.prog 33 #[.slice A n c, .slice A' n' c'] w fun e w' => Gives3 w w' e r := by
  rw [← hr]; exact take_any A A' n n' c c' xs zs w hx hz hnc hn hn' bxs bzs h h'
theorem flds_lit (w : World) (s1 v1 s2 v2 : Int) (e : TypeId) : FldsAt (w.alloc (.cells #[.int .i64 s1, .int .u64 v1, .int .i64 s2, .int .u64 v2] e)) (w.alloc (.cells #[.int .i64 s1, .int .u64 v1, .int .i64 s2, .int .u64 v2] e)).heap.size (some ⟨w.heap.size, 0, none⟩) [(s1, v1), (s2, v2)] := by
  refine .inr ⟨w.heap.size, 0, rfl, by simp, fun j f hj => ?_⟩
  rw [World.cell?_alloc_at _ _ _ _ rfl, World.cell?_alloc_at _ _ _ _ rfl]
  rcases j with _ | _ | j
  · simp at hj; subst hj; exact ⟨rfl, rfl⟩
  · simp at hj; subst hj; exact ⟨rfl, rfl⟩
  · simp at hj
theorem unhex_to {s : ByteArray} {r : List Int × Int} (hr : unhexR (chL s) = r) {w : World} (hs : s.size ≤ 140737488355328) :
    Calls Try.prog 40 #[.string s] w fun e w' => Gives w w' e r := by
  rw [← hr]; exact unhex_any s w hs
theorem hex_to {xs : List Int} {s : ByteArray} (hr : strOfNums (hexL xs) = s) {A : Option Addr} {n c : Nat} {w : World} (hx : xs.length = n) (bxs : Bytes xs) (h : Ints .u8 w w.heap.size A xs) (hn : n ≤ 70368744177664) :
    Calls Try.prog 42 #[.slice A n c] w fun e w' => e = .returned (.string s) ∧ Below w.heap.size w w' := by
  rw [← hr]; exact hex_any A n c xs w hx bxs h hn
theorem xor_to {xs ys zs : List Int} (hr : xorL xs ys = zs) {A A' : Option Addr} {n n' c c' : Nat} {w : World} (hx : xs.length = n) (hy : ys.length = n') (bxs : Bytes xs) (bys : Bytes ys) (h : Ints .u8 w w.heap.size A xs) (h' : Ints .u8 w w.heap.size A' ys) (hn : n ≤ 140737488351232) (hn' : n' ≤ 140737488351232) :
    Calls Try.prog 38 #[.slice A n c, .slice A' n' c'] w fun e w' => Makes w w' e zs := by
  rw [← hr]; exact xor_any A A' n n' c c' xs ys w hx hy bxs bys h h' hn hn'
theorem join_to {ps : List (Option Addr × Nat × List Int)} {zs : List Int} (hr : joinL ps = zs) {A : Option Addr} {n c : Nat} {w : World} (hp : ps.length = n) (hn : n ≤ 1048576) (h : PartsAt w w.heap.size A ps) (ht : zs.length ≤ 140737488351232) :
    Calls Try.prog 37 #[.slice A n c] w fun e w' => Makes w w' e zs := by
  subst hr; exact join_any A n c ps w hp hn h ht
theorem same_to {b : Bool} {xs ys : List Int} (hr : decide (xs = ys) = b) {A A' : Option Addr} {n n' c c' : Nat} {w : World} (hx : xs.length = n) (hy : ys.length = n') (bx : Bytes xs) (by_ : Bytes ys) (h : Ints .u8 w w.heap.size A xs) (h' : Ints .u8 w w.heap.size A' ys) :
    Calls Try.prog 32 #[.slice A n c, .slice A' n' c'] w fun e w' => e = .returned (.bool b) ∧ Below w.heap.size w w' := by
  rw [← hr]; exact (same_any A A' n n' c c' xs ys w hx hy bx by_ h h').mono fun e w' ⟨he, hw⟩ => ⟨he, hw ▸ Below.refl _ _⟩
theorem samenum_to {b : Bool} {xs ys : List Int} (hr : decide (xs = ys) = b) {A A' : Option Addr} {n n' c c' : Nat} {w : World} (hx : xs.length = n) (hy : ys.length = n') (hn : n ≤ 140737488351232) (hn' : n' ≤ 140737488351232) (h : Ints .u64 w w.heap.size A xs) (h' : Ints .u64 w w.heap.size A' ys) :
    Calls Try.prog 36 #[.slice A n c, .slice A' n' c'] w fun e w' => e = .returned (.bool b) ∧ Below w.heap.size w w' := by
  rw [← hr]; exact samenum_any A A' n n' c c' xs ys w hx hy hn hn' h h'
theorem lives2_any (w : World) : Calls Try.prog 31 #[] w fun e w' => e = .returned (.bool true) ∧ Below w.heap.size w w' := by
  have r1 := Lib.hid (show putR [(2, 258), (1, 7)] = ([2, 1, 7], 0) by decide)
  have r2 := Lib.hid (show takeR [2, 1, 7, 9] [2, 1] = ([258, 7], [9], 0) by decide)
  have hf : Fields [(2, 258), (1, 7)] := fun f hf => by
    simp only [List.mem_cons, List.not_mem_nil, or_false] at hf
    rcases hf with rfl | rfl <;> decide
  have HF := Lib.hid hf
  clear hf
  go_enter Try.func31, Try.ntmps31
  go_wp2_with fail
  refine (put_to r1.out HF.out rfl (by decide) (by exact flds_lit _ _ _ _ _ _)).mono ?_
  rintro e w1 ⟨A1, c1, rfl, o1, b1⟩
  have hb1 := ((Below.refl w.heap.size w).alloc (Nat.le_refl _) _).trans (b1.mono (by simp))
  have i1 := Ints.own o1
  clear b1 o1
  go_wp2_with fail
  refine (take_to r2.out rfl rfl (by decide) (by decide) (by decide) (bytes_lit _ (by decide)) (fun z hz => by simp at hz; omega) (by exact lit2 .u8 _ [2, 1, 7, 9] _ _ rfl _) (by exact litg .i64 _ [2, 1] _ _ _ (by simp) rfl)).mono ?_
  rintro e w2 ⟨A2, c2, A3, c3, rfl, o2, o3, b2⟩
  have k2 : Below w1.heap.size w1 w2 := alloc2 _ _ _ b2
  have hb2 := hb1.trans (k2.mono hb1.size)
  have i2 := Ints.own o2
  have i3 := Ints.own o3
  have i1 := later i1 k2
  clear b2 o2 o3 k2 hb1
  have r3 := Lib.hid (show unhexR (chL { data := #[48, 97, 102, 102] }) = ([10, 255], 0) by decide)
  go_wp2_with fail
  refine (unhex_to r3.out (by decide)).mono ?_
  rintro e w3 ⟨A4, c4, rfl, o4, b3⟩
  have hb3 := hb2.trans (b3.mono hb2.size)
  have i1 := later i1 b3
  have i2 := later i2 b3
  have i3 := later i3 b3
  have i4 := Ints.own o4
  clear b3 o4 hb2
  go_wp2_with fail
  refine (same_to (b := true) (xs := [2, 1, 7]) (ys := [2, 1, 7]) (by decide) rfl rfl (bytes_lit _ (by decide)) (bytes_lit _ (by decide)) (by exact kept i1 _) (by exact lit1 .u8 _ [2, 1, 7] _ _ rfl)).mono ?_
  rintro e w4 ⟨rfl, b4⟩
  have k4 := alloc1 _ _ b4
  have hb4 := hb3.trans (k4.mono hb3.size)
  have i2 := later i2 k4
  have i3 := later i3 k4
  have i4 := later i4 k4
  clear b4 k4 hb3 i1
  go_wp2_with fail
  refine (samenum_to (b := true) (xs := [258, 7]) (ys := [258, 7]) (by decide) rfl rfl (by decide) (by decide) (by exact kept i2 _) (by exact lit1 .u64 _ [258, 7] _ _ rfl)).mono ?_
  rintro e w5 ⟨rfl, b5⟩
  have k5 := alloc1 _ _ b5
  have hb5 := hb4.trans (k5.mono hb4.size)
  have i3 := later i3 k5
  have i4 := later i4 k5
  clear b5 k5 hb4 i2
  go_wp2_with fail
  refine (same_to (b := true) (xs := [9]) (ys := [9]) (by decide) rfl rfl (bytes_lit _ (by decide)) (bytes_lit _ (by decide)) (by exact kept i3 _) (by exact lit1 .u8 _ [9] _ _ rfl)).mono ?_
  rintro e w6 ⟨rfl, b6⟩
  have k6 := alloc1 _ _ b6
  have hb6 := hb5.trans (k6.mono hb5.size)
  have i4 := later i4 k6
  clear b6 k6 hb5 i3
  go_wp2_with fail
  refine (hex_to (s := { data := #[48, 97, 102, 102] }) (xs := [10, 255]) (by decide) rfl (bytes_lit _ (by decide)) (by exact lit1 .u8 _ [10, 255] _ _ rfl) (by decide)).mono ?_
  rintro e w7 ⟨rfl, b7⟩
  have k7 := alloc1 _ _ b7
  have hb7 := hb6.trans (k7.mono hb6.size)
  have i4 := later i4 k7
  clear b7 k7 hb6
  go_wp2_with fail
  refine (same_to (b := true) (xs := [10, 255]) (ys := [10, 255]) (by decide) rfl rfl (bytes_lit _ (by decide)) (bytes_lit _ (by decide)) (by exact kept i4 _) (by exact lit1 .u8 _ [10, 255] _ _ rfl)).mono ?_
  rintro e w8 ⟨rfl, b8⟩
  have k8 := alloc1 _ _ b8
  have hb8 := hb7.trans (k8.mono hb7.size)
  clear b8 k8 hb7 i4
  go_wp2_with fail
  refine (xor_to (xs := [255, 15]) (ys := [15, 255, 1]) (zs := [240, 240]) (by decide) rfl rfl (bytes_lit _ (by decide)) (bytes_lit _ (by decide)) (by exact lit2 .u8 _ [255, 15] _ _ rfl _) (by exact litg .u8 _ [15, 255, 1] _ _ _ (by simp) rfl) (by decide) (by decide)).mono ?_
  rintro e w9 ⟨A9, c9, rfl, o9, b9⟩
  have k9 := alloc2 _ _ _ b9
  have hb9 := hb8.trans (k9.mono hb8.size)
  have i9 := Ints.own o9
  clear b9 k9 hb8 o9
  go_wp2_with fail
  refine (same_to (b := true) (xs := [240, 240]) (ys := [240, 240]) (by decide) rfl rfl (bytes_lit _ (by decide)) (bytes_lit _ (by decide)) (by exact kept i9 _) (by exact lit1 .u8 _ [240, 240] _ _ rfl)).mono ?_
  rintro e w10 ⟨rfl, b10⟩
  have k10 := alloc1 _ _ b10
  have hb10 := hb9.trans (k10.mono hb9.size)
  clear b10 k10 hb9 i9
  go_wp2_with fail
  refine (join_to (ps := [(some ⟨w10.heap.size, 0, none⟩, 1, [1]), (none, 0, []), (some ⟨w10.heap.size + 1, 0, none⟩, 2, [2, 3])]) (zs := [1, 2, 3]) (by rfl) rfl (show 3 ≤ 1048576 by decide) (by exact parts_lit _ _ _ _ _ (by simp) rfl (fun p hp => by
    simp only [List.mem_cons, List.not_mem_nil, or_false] at hp
    rcases hp with rfl | rfl | rfl
    · exact lit2 .u8 _ [1] _ _ rfl _
    · exact .inl rfl
    · exact litg .u8 _ [2, 3] _ _ _ (by simp) rfl)) (by decide)).mono ?_
  rintro e w11 ⟨A11, c11, rfl, o11, b11⟩
  have k11 := alloc1 _ _ (alloc2 _ _ _ b11)
  have hb11 := hb10.trans (k11.mono hb10.size)
  have i11 := Ints.own o11
  clear b11 k11 hb10 o11
  go_wp2_with fail
  refine (same_to (b := true) (xs := [1, 2, 3]) (ys := [1, 2, 3]) (by decide) rfl rfl (bytes_lit _ (by decide)) (bytes_lit _ (by decide)) (by exact kept i11 _) (by exact lit1 .u8 _ [1, 2, 3] _ _ rfl)).mono ?_
  rintro e w12 ⟨rfl, b12⟩
  have k12 := alloc1 _ _ b12
  have hb12 := hb11.trans (k12.mono hb11.size)
  clear b12 k12 hb11 i11
  go_wp2_with fail
  go_ret
  exact ⟨rfl, hb12⟩
end Go.Proofs.Ytljgpkiakggmkaa.Oct
