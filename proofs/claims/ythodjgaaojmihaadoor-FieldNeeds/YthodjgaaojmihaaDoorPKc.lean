/- Parse of package packet, by what its parts answer. Conditions: as said. -/
import Derived.Test.YthodjgaaojmihaaDoorPKa
import Derived.Test.YthodjgaaojmihaaDoorPCa
import Derived.Test.YthodjgaaojmihaaDoorXH
namespace Go.Proofs.YthodjgaaojmihaaDoor
open Go.RowKit
set_option maxRecDepth 20000
theorem one36 : zeroPk.all (·.oneCell') = true := by decide +kernel
theorem info36 {c : Array Value} (h : c.size = 36) : (Tryd.prog.info? 34).map (·.size) = some c.size := by rw [h]; exact Ca.size36
theorem results_pk {fn : Func} {p u : Tmp} (h : fn.results = #[.cell p 34, .tmp u]) (tmps : Array Value) (w : World) (g : Nat) (cs : Array Value)
    (hp : tmps.getD p undef = .pointer (some ⟨g, 0, none⟩)) (hg : w.heap[g]? = some (.cells cs 34 (0, 0))) (hs : cs.size = 36) :
    (results fn tmps).run Tryd.prog w = .ok (.tuple #[.agg cs, tmps.getD u undef]) w := by
  rw [results_cell_tmp h, hp]
  simp only [asAddr, Sem.run_pure, Result.andThen_ok, run_loadVar_row w g 34 34 cs (0, 0) _ hg Tryd.underlying34 rfl (info36 hs)]
theorem zsize : zeroPk.size = 36 := rfl
theorem rowAs {W : World} {b : Nat} {p q : Array Value} {t : TypeId} (e : p = q) (h : W.heap[b]? = some (.cells p t (0, 0))) : W.heap[b]? = some (.cells q t (0, 0)) := by rw [← e]; exact h
theorem letP {q : Array Value} (h : q.size = 36) : ∃ p, Hid (q = p) ∧ Hid (p.size = 36) := ⟨_, rfl, h⟩
theorem szSet {p : Array Value} {i : Nat} {v : Value} (h : p.size = 36) : (p.setIfInBounds i v).size = 36 := by rw [Array.size_setIfInBounds]; exact h
theorem szPut {p : Array Value} {i : Nat} {vs : List Value} (h : p.size = 36) : (Ca.putC p i vs).size = 36 := by rw [Ca.putC_size]; exact h
theorem zSet {w W : World} {x : Option Obj} (_ : Below w.heap.size w W) (h : W.heap[w.heap.size]? = x) (i : Nat) (v : Value) : (W.setCell ⟨w.heap.size + 1, i, none⟩ v).heap[w.heap.size]? = x := (Below.heap_setCell _ _ _ _ (show w.heap.size ≠ w.heap.size + 1 by omega)).trans h
theorem bSet {w W : World} (h : Below w.heap.size w W) (i : Nat) (v : Value) : Below w.heap.size w (W.setCell ⟨w.heap.size + 1, i, none⟩ v) := h.setCell (show w.heap.size ≤ w.heap.size + 1 by omega) _
theorem fFirst {w W : World} {X Y : Obj} (hb : Below ((w.alloc X).alloc Y).heap.size ((w.alloc X).alloc Y) W) : Below w.heap.size w W ∧ W.heap[w.heap.size]? = some X ∧ W.heap[w.heap.size + 1]? = some Y :=
  ⟨(below2 w _ _).trans (hb.mono (by simp; omega)), (hb.block _ (Ca.lt_of_heap (Ca.two_first w _ _))).trans (Ca.two_first w _ _), (hb.block _ (Ca.lt_of_heap (Ca.two_last w _ _))).trans (Ca.two_last w _ _)⟩
theorem fCall {w V W : World} {x y : Obj} (B : Below w.heap.size w V) (h2 : V.heap[w.heap.size]? = some x) (h4 : V.heap[w.heap.size + 1]? = some y) (hb : Below V.heap.size V W) : Hid (Below w.heap.size w W) ∧ Hid (W.heap[w.heap.size]? = some x) ∧ Hid (W.heap[w.heap.size + 1]? = some y) :=
  ⟨B.trans (hb.mono B.size), (hb.block _ (Ca.lt_of_heap h2)).trans h2, (hb.block _ (Ca.lt_of_heap h4)).trans h4⟩
theorem fStore {w V W : World} {x y : Option Obj} (B : Below w.heap.size w V) (h2 : V.heap[w.heap.size]? = x) (y1 : W.heap[w.heap.size + 1]? = y) (y2 : ∀ k, k ≠ w.heap.size + 1 → W.heap[k]? = V.heap[k]?) (y4 : Below (w.heap.size + 1) V W) : Hid (Below w.heap.size w W) ∧ Hid (W.heap[w.heap.size]? = x) ∧ Hid (W.heap[w.heap.size + 1]? = y) :=
  ⟨B.trans (y4.mono (by omega)), (y2 _ (by omega)).trans h2, y1⟩
theorem conv9 {W : World} {a : Option Addr} {n : Nat} {zs : List Int} (cap : Nat) (h : BS W a n zs) : (convert 22 9 (.slice a n cap)).run Tryd.prog W = .ok (.string (strOfNums zs)) W := run_conv_bs _ h 22 9 5 Tryd.underlying22 Tryd.underlying5 Tryd.underlying9
set_option maxHeartbeats 2000000 in
theorem parse_bad (w : World) (a : Option Addr) (n cap : Nat) (zs : List Int) (h : BS w a n zs) (d s tag et at_ f : Int) (tg : Bool) (hf : (f != 0) = true)
    (HH : Hid (∀ W, BS W a n zs → Calls Tryd.prog 9 #[.slice a n cap] W fun e w' => e = .returned (Eth.ethV d s tg tag et at_ f) ∧ Below W.heap.size W w')) :
    Calls Tryd.prog 4 #[.slice a n cap] w fun e w' => e = .returned (.tuple #[.agg zeroPk, .int .i64 f]) ∧ Below w.heap.size w w' := by
  go_enter Tryd.func4, Tryd.ntmps4
  go_wp2_with fail
  refine scope_from ?_
  go_wp2_with fail
  refine (HH.out _ (h.below (below2 w _ _))).mono ?_
  unfold Eth.ethV
  rintro e W1 ⟨rfl, hb⟩
  obtain ⟨B_W1, R2_W1, R4_W1⟩ : Hid _ ∧ Hid _ ∧ Hid _ := fFirst hb
  clear hb HH
  go_wp2_with (refine Ca.wpList_store_at rfl 25 _ _ rfl (w.heap.size + 1) 0 (zeroPk) #[.int .u64 d, .int .u64 s, .bool tg, .int .i64 tag, .int .i64 et] 34 rfl rfl R4_W1.out (by kernel_rfl) (Nat.le_of_ble_eq_true (by kernel_rfl)) (by kernel_rfl) ?_)
  intro W2 y1 y2 y3 y4
  obtain ⟨B_W2, R2_W2, R4_W2⟩ := fStore B_W1.out R2_W1.out y1 y2 y4
  clear y1 y2 y3 y4
  clear B_W1 R2_W1 R4_W1
  go_wp2_with fail
  go_step3
  show FromLabel _ _ _ _ _ _
  refine from_label rfl ?_
  go_wp2_with (refine Ca.wpList_store_row rfl 34 _ _ rfl (w.heap.size) zeroPk zeroPk 34 rfl rfl R2_W2.out (info36 zsize) rfl one36 ?_)
  intro W9 y1 y2 y3 y4
  go_wp2
  simp only [Exit.jumpTo]
  exact bodyPost_ret (results_pk (p := 2) (u := 3) rfl _ _ (w.heap.size) zeroPk rfl y1 zsize) rfl ⟨rfl, B_W2.out.trans (y4.mono (Nat.le_refl _))⟩
set_option maxHeartbeats 2000000 in
theorem parse_bodyA (w : World) (b off n cap A : Nat) (zs : List Int) (h : BS w (some ⟨b, off, none⟩) n zs) (hcap : n ≤ cap) (hm : A ≤ n) (hA0 : 0 < A) (d s tag et : Int) (tg : Bool) (hc : ¬ cap = A) (e1 : (et == 2054) = false) (e2 : (et == 2048) = false) (bd : ByteArray) (hbd : strOfNums (zs.drop A) = bd) (HH : Hid (∀ W, BS W (some ⟨b, off, none⟩) n zs → Calls Tryd.prog 9 #[.slice (some ⟨b, off, none⟩) n cap] W fun e w' => e = .returned (Eth.ethV d s tg tag et A 0) ∧ Below W.heap.size W w')) :
    Calls Tryd.prog 4 #[.slice (some ⟨b, off, none⟩) n cap] w fun e w' => e = .returned (.tuple #[.agg ((Ca.putC (zeroPk) 0 (#[.int .u64 d, .int .u64 s, .bool tg, .int .i64 tag, .int .i64 et]).toList).setIfInBounds 34 (.string bd)), .int .i64 0]) ∧ Below w.heap.size w w' := by
  obtain ⟨R, hR⟩ : ∃ R, (Ca.putC (zeroPk) 0 (#[.int .u64 d, .int .u64 s, .bool tg, .int .i64 tag, .int .i64 et]).toList).setIfInBounds 34 (.string bd) = R := ⟨_, rfl⟩
  rw [hR]
  have HRS : Hid (R.size = 36) := by show _ = _; rw [← hR]; kernel_rfl
  have HRO : Hid (R.all (·.oneCell') = true) := by show _ = _; rw [← hR]; kernel_rfl
  have HR : Hid ((Ca.putC (zeroPk) 0 (#[.int .u64 d, .int .u64 s, .bool tg, .int .i64 tag, .int .i64 et]).toList).setIfInBounds 34 (.string bd) = R) := hR
  clear hR
  have h1 : (A : Int) ≤ n := by omega
  have h2 : (n : Int) ≤ cap := by omega
  have H : Hid (BS w (some ⟨b, off, none⟩) n zs) := h
  clear h
  go_enter Tryd.func4, Tryd.ntmps4
  go_wp2_with fail
  refine scope_from ?_
  go_wp2_with fail
  refine (HH.out _ (H.out.below (below2 w _ _))).mono ?_
  unfold Eth.ethV
  rintro e W1 ⟨rfl, hb⟩
  obtain ⟨B_W1, R2_W1, R4_W1⟩ : Hid _ ∧ Hid _ ∧ Hid _ := fFirst hb
  clear hb HH
  go_wp2_with (refine Ca.wpList_store_at rfl 25 _ _ rfl (w.heap.size + 1) 0 (zeroPk) #[.int .u64 d, .int .u64 s, .bool tg, .int .i64 tag, .int .i64 et] 34 rfl rfl R4_W1.out (by kernel_rfl) (Nat.le_of_ble_eq_true (by kernel_rfl)) (by kernel_rfl) ?_)
  intro W2 y1 y2 y3 y4
  obtain ⟨B_W2, R2_W2, R4_W2⟩ := fStore B_W1.out R2_W1.out y1 y2 y4
  clear y1 y2 y3 y4
  clear B_W1 R2_W1 R4_W1
  have c4 := (Ca.cell_row R4_W2.out 4).trans (show _ = some (Value.int .i64 et) by kernel_rfl)
  have c34 := (Ca.cell_row R4_W2.out 34).trans (show _ = some (Value.string ⟨#[]⟩) by kernel_rfl)
  have f34 := frozen_of_row W2 _ 34 _ _ R4_W2.out
  have HB : Hid (BS W2 (some ⟨b, off + A, none⟩) (n - A) (zs.drop A)) := (H.out.below B_W2.out).drop (by omega) A (by omega)
  have cv : (convert 22 9 (.slice (some ⟨b, off + A, none⟩) (n - A) (cap - A))).run Tryd.prog W2 = .ok (.string (strOfNums (zs.drop A))) W2 := conv9 _ HB.out
  rw [hbd] at cv
  have RW : Hid ((W2.setCell ⟨w.heap.size + 1, 34, none⟩ (.string bd)).heap[w.heap.size + 1]? = some (.cells R 34 (0, 0))) := by
    show _ = _
    rw [← HR.out]; exact Ca.row_setCell R4_W2.out 34 _
  have ZW : Hid ((W2.setCell ⟨w.heap.size + 1, 34, none⟩ (.string bd)).heap[w.heap.size]? = some (.cells zeroPk 34 (0, 0))) := (Below.heap_setCell _ _ _ _ (show w.heap.size ≠ w.heap.size + 1 by omega)).trans R2_W2.out
  have BW : Hid (Below w.heap.size w (W2.setCell ⟨w.heap.size + 1, 34, none⟩ (.string bd))) := B_W2.out.setCell (show w.heap.size ≤ w.heap.size + 1 by omega) _
  clear B_W2 R2_W2 R4_W2 HB hbd H
  go_wp2_with (first
    | refine wpList_load_row rfl 34 _ rfl (w.heap.size + 1) rfl 34 R (0, 0) _ RW.out Tryd.underlying34 rfl (info36 HRS.out) ?_
    | refine Ca.wpList_store_row rfl 34 _ _ rfl (w.heap.size) zeroPk R 34 rfl rfl ZW.out (info36 HRS.out) (Eq.trans (b := 36) rfl HRS.out.symm) HRO.out ?_
    | fail)
  intro W9 y1 y2 y3 y4
  go_wp2
  simp only [Exit.jumpTo]
  exact bodyPost_ret (results_pk (p := 2) (u := 3) rfl _ _ (w.heap.size) R rfl y1 HRS.out) rfl ⟨rfl, BW.out.trans (y4.mono (Nat.le_refl _))⟩
set_option maxHeartbeats 2000000 in
theorem parse_bodyAt (w : World) (b off A : Nat) (zs : List Int) (h : BS w (some ⟨b, off, none⟩) A zs) (d s tag et : Int) (tg : Bool) (e1 : (et == 2054) = false) (e2 : (et == 2048) = false) (bd : ByteArray) (hbd : strOfNums (zs.drop A) = bd) (HH : Hid (∀ W, BS W (some ⟨b, off, none⟩) A zs → Calls Tryd.prog 9 #[.slice (some ⟨b, off, none⟩) A A] W fun e w' => e = .returned (Eth.ethV d s tg tag et A 0) ∧ Below W.heap.size W w')) :
    Calls Tryd.prog 4 #[.slice (some ⟨b, off, none⟩) A A] w fun e w' => e = .returned (.tuple #[.agg ((Ca.putC (zeroPk) 0 (#[.int .u64 d, .int .u64 s, .bool tg, .int .i64 tag, .int .i64 et]).toList).setIfInBounds 34 (.string bd)), .int .i64 0]) ∧ Below w.heap.size w w' := by
  obtain ⟨R, hR⟩ : ∃ R, (Ca.putC (zeroPk) 0 (#[.int .u64 d, .int .u64 s, .bool tg, .int .i64 tag, .int .i64 et]).toList).setIfInBounds 34 (.string bd) = R := ⟨_, rfl⟩
  rw [hR]
  have HRS : Hid (R.size = 36) := by show _ = _; rw [← hR]; kernel_rfl
  have HRO : Hid (R.all (·.oneCell') = true) := by show _ = _; rw [← hR]; kernel_rfl
  have HR : Hid ((Ca.putC (zeroPk) 0 (#[.int .u64 d, .int .u64 s, .bool tg, .int .i64 tag, .int .i64 et]).toList).setIfInBounds 34 (.string bd) = R) := hR
  clear hR
  have H : Hid (BS w (some ⟨b, off, none⟩) A zs) := h
  clear h
  go_enter Tryd.func4, Tryd.ntmps4
  go_wp2_with fail
  refine scope_from ?_
  go_wp2_with fail
  refine (HH.out _ (H.out.below (below2 w _ _))).mono ?_
  unfold Eth.ethV
  rintro e W1 ⟨rfl, hb⟩
  obtain ⟨B_W1, R2_W1, R4_W1⟩ : Hid _ ∧ Hid _ ∧ Hid _ := fFirst hb
  clear hb HH
  go_wp2_with (refine Ca.wpList_store_at rfl 25 _ _ rfl (w.heap.size + 1) 0 (zeroPk) #[.int .u64 d, .int .u64 s, .bool tg, .int .i64 tag, .int .i64 et] 34 rfl rfl R4_W1.out (by kernel_rfl) (Nat.le_of_ble_eq_true (by kernel_rfl)) (by kernel_rfl) ?_)
  intro W2 y1 y2 y3 y4
  obtain ⟨B_W2, R2_W2, R4_W2⟩ := fStore B_W1.out R2_W1.out y1 y2 y4
  clear y1 y2 y3 y4
  clear B_W1 R2_W1 R4_W1
  have c4 := (Ca.cell_row R4_W2.out 4).trans (show _ = some (Value.int .i64 et) by kernel_rfl)
  have c34 := (Ca.cell_row R4_W2.out 34).trans (show _ = some (Value.string ⟨#[]⟩) by kernel_rfl)
  have f34 := frozen_of_row W2 _ 34 _ _ R4_W2.out
  have HB : Hid (zs.drop A = []) := List.drop_eq_nil_of_le (by have := H.out.len; omega)
  have cv : (convert 22 9 (.slice (some ⟨b, off, none⟩) 0 0)).run Tryd.prog W2 = .ok (.string (strOfNums (zs.drop A))) W2 := by
    rw [HB.out]
    exact conv9 0 (BS.empty (w := W2) (some ⟨b, off, none⟩))
  rw [hbd] at cv
  have RW : Hid ((W2.setCell ⟨w.heap.size + 1, 34, none⟩ (.string bd)).heap[w.heap.size + 1]? = some (.cells R 34 (0, 0))) := by
    show _ = _
    rw [← HR.out]; exact Ca.row_setCell R4_W2.out 34 _
  have ZW : Hid ((W2.setCell ⟨w.heap.size + 1, 34, none⟩ (.string bd)).heap[w.heap.size]? = some (.cells zeroPk 34 (0, 0))) := (Below.heap_setCell _ _ _ _ (show w.heap.size ≠ w.heap.size + 1 by omega)).trans R2_W2.out
  have BW : Hid (Below w.heap.size w (W2.setCell ⟨w.heap.size + 1, 34, none⟩ (.string bd))) := B_W2.out.setCell (show w.heap.size ≤ w.heap.size + 1 by omega) _
  clear B_W2 R2_W2 R4_W2 HB hbd H
  go_wp2_with (first
    | refine wpList_load_row rfl 34 _ rfl (w.heap.size + 1) rfl 34 R (0, 0) _ RW.out Tryd.underlying34 rfl (info36 HRS.out) ?_
    | refine Ca.wpList_store_row rfl 34 _ _ rfl (w.heap.size) zeroPk R 34 rfl rfl ZW.out (info36 HRS.out) (Eq.trans (b := 36) rfl HRS.out.symm) HRO.out ?_
    | fail)
  intro W9 y1 y2 y3 y4
  go_wp2
  simp only [Exit.jumpTo]
  exact bodyPost_ret (results_pk (p := 2) (u := 3) rfl _ _ (w.heap.size) R rfl y1 HRS.out) rfl ⟨rfl, BW.out.trans (y4.mono (Nat.le_refl _))⟩
end Go.Proofs.YthodjgaaojmihaaDoor
