/- Parse of the document, by its parts. Conditions: as said. -/
import Derived.Test.YtpiokeidcnbmbaaPLd
import Derived.Test.YtpiokeidcnbmbaaPKk
import Derived.Test.YtpiokeidcnbmbaaYH
import Derived.Test.YtpiokeidcnbmbaaYT
namespace Go.Proofs.Ytpiokeidcnbmbaa
open Go.RowKit
set_option maxRecDepth 20000
set_option linter.unusedSimpArgs false
theorem isSt {P : Program} {ops : Array Oper} {rest : List Oper} {op : Oper} {a : Act} {w : World} {Q : Exit → Act → World → Prop} (ty : TypeId) (x y : Operand) (_ : op.op = .store ty x y) (_ : op.guard = none) (h : wpList P ops Q (op :: rest) a w) : wpList P ops Q (op :: rest) a w := h
theorem isBd {P : Program} {ops : Array Oper} {rest : List Oper} {op : Oper} {a : Act} {w : World} {Q : Exit → Act → World → Prop} (ty : TypeId) (x : Array (Nat × Operand)) (_ : op.op = .build ty x) (_ : op.guard = none) (h : wpList P ops Q (op :: rest) a w) : wpList P ops Q (op :: rest) a w := h
theorem isLd {P : Program} {ops : Array Oper} {rest : List Oper} {op : Oper} {a : Act} {w : World} {Q : Exit → Act → World → Prop} (ty : TypeId) (x : Operand) (_ : op.op = .load ty x) (h : wpList P ops Q (op :: rest) a w) : wpList P ops Q (op :: rest) a w := h
theorem info_eth : (Try.prog.info? 25).map (·.size) = some 5 := by kernel_rfl
theorem info_arp : (Try.prog.info? 28).map (·.size) = some 5 := by kernel_rfl
theorem info_ip : (Try.prog.info? 30).map (·.size) = some 8 := by kernel_rfl
theorem info_l4 : (Try.prog.info? 32).map (·.size) = some 14 := by kernel_rfl
set_option maxHeartbeats 4000000 in
theorem rparse_bad (w : World) (a : Option Addr) (n cap : Nat) (zs : List Int) (h : BS w a n zs) (d s tag et A f : Int) (tg : Bool) (hf : (f != 0) = true)
    (HH : Hid (∀ W, BS W a n zs → Calls Try.prog 22 #[.slice a n cap] W fun e w' => e = .returned (Eth.ethV d s tg tag et A f) ∧ Below W.heap.size W w')) :
    Calls Try.prog 9 #[.slice a n cap] w fun e w' => e = .returned (.tuple #[.agg zeroPk, .int .i64 f]) ∧ Below w.heap.size w w' := by
  have HB0 : Hid (BS w a n zs) := h
  clear h
  have L2 : Hid ((w.alloc (.cells zeroPk 34)).heap[w.heap.size]? = some (.cells zeroPk 34 (0, 0))) := heap_alloc_new w _
  have LB : Hid (Below w.heap.size w (w.alloc (.cells zeroPk 34))) := below1 w _
  go_enter Try.func9, Try.ntmps9
  go_wp2_with fail
  refine (HH.out _ (HB0.out.below LB.out)).mono ?_
  unfold Eth.ethV
  rintro e W1 ⟨rfl, hb⟩
  have B_1 : Hid (Below w.heap.size w W1) := LB.out.trans (hb.mono (by first | exact LB.out.size | (simp; omega)))
  have Z_1 : Hid (W1.heap[w.heap.size]? = some (.cells zeroPk 34 (0, 0))) := (hb.block _ (Ca.lt_of_heap L2.out)).trans L2.out
  have S_1 : Hid (BS W1 a n zs) := (HB0.out.below LB.out).below hb
  clear hb L2 LB HH HB0
  have B_2 : Hid (Below w.heap.size w (W1.alloc (.cells #[.int .u64 d, .int .u64 s, .bool tg, .int .i64 tag, .int .i64 et] 25))) := B_1.out.alloc B_1.out.size _
  have Z_2 : Hid ((W1.alloc (.cells #[.int .u64 d, .int .u64 s, .bool tg, .int .i64 tag, .int .i64 et] 25)).heap[w.heap.size]? = some (.cells zeroPk 34 (0, 0))) := (below1 W1 _).block _ (Ca.lt_of_heap Z_1.out) |>.trans Z_1.out
  go_wp2_with (first
    | ((with_reducible (refine isSt 25 _ _ rfl rfl ?_)); refine Ca.wpList_store_new rfl 25 _ _ rfl #[.int .u64 0, .int .u64 0, .bool false, .int .i64 0, .int .i64 0] #[.int .u64 d, .int .u64 s, .bool tg, .int .i64 tag, .int .i64 et] _ rfl rfl rfl info_eth rfl (by kernel_rfl) ?_)
    | ((with_reducible (refine isBd 34 _ rfl rfl ?_)); refine Ca.wpList_build_as rfl 34 _ rfl zeroPk (by rw [List.map_toArray]; show Try.prog.built 34 [] = _; kernel_rfl) ?_)
    | ((with_reducible (refine isSt 34 _ _ rfl rfl ?_)); refine Ca.wpList_store_row rfl 34 _ _ rfl (w.heap.size) zeroPk zeroPk 34 rfl rfl Z_2.out (info36 zsize) (Eq.trans (b := 36) rfl zsize.symm) one36 ?_)
    | fail)
  intro W9 y1 y2 y3 y4
  go_wp2
  exact bodyPost_ret (results_pk (p := 2) (u := 3) rfl _ _ (w.heap.size) zeroPk rfl y1 zsize) rfl ⟨rfl, B_2.out.trans (y4.mono (by omega))⟩
set_option maxHeartbeats 4000000 in
theorem rparse_body (w : World) (b off n cap A : Nat) (zs : List Int) (h : BS w (some ⟨b, off, none⟩) n zs) (hcap : n ≤ cap) (hAn : A ≤ n) (hc : ¬ cap = A) (hA0 : 0 < A) (d s tag et : Int) (tg : Bool) (e1 : (et == 2054) = false) (e2 : (et != 2048) = true) (bd : ByteArray) (hbd : strOfNums (zs.drop A) = bd) (r : Array Value) (hr : (Ca.putC zeroPk 0 (#[.int .u64 d, .int .u64 s, .bool tg, .int .i64 tag, .int .i64 et]).toList).setIfInBounds 34 (.string bd) = r)
    (HH : Hid (∀ W, BS W (some ⟨b, off, none⟩) n zs → Calls Try.prog 22 #[.slice (some ⟨b, off, none⟩) n cap] W fun e w' => e = .returned (Eth.ethV d s tg tag et A 0) ∧ Below W.heap.size W w')) :
    Calls Try.prog 9 #[.slice (some ⟨b, off, none⟩) n cap] w fun e w' => e = .returned (.tuple #[.agg r, .int .i64 0]) ∧ Below w.heap.size w w' := by
  have HBD : StopP (strOfNums (zs.drop A) = bd) := StopP.mk hbd
  have HR : StopP ((Ca.putC zeroPk 0 (#[.int .u64 d, .int .u64 s, .bool tg, .int .i64 tag, .int .i64 et]).toList).setIfInBounds 34 (.string bd) = r) := StopP.mk hr
  clear hbd hr
  have HB0 : Hid (BS w (some ⟨b, off, none⟩) n zs) := h
  clear h
  have L2 : Hid ((w.alloc (.cells zeroPk 34)).heap[w.heap.size]? = some (.cells zeroPk 34 (0, 0))) := heap_alloc_new w _
  have LB : Hid (Below w.heap.size w (w.alloc (.cells zeroPk 34))) := below1 w _
  go_enter Try.func9, Try.ntmps9
  go_wp2_with fail
  refine (HH.out _ (HB0.out.below LB.out)).mono ?_
  unfold Eth.ethV
  rintro e W1 ⟨rfl, hb⟩
  have B_1 : Hid (Below w.heap.size w W1) := LB.out.trans (hb.mono (by first | exact LB.out.size | (simp; omega)))
  have Z_1 : Hid (W1.heap[w.heap.size]? = some (.cells zeroPk 34 (0, 0))) := (hb.block _ (Ca.lt_of_heap L2.out)).trans L2.out
  have S_1 : Hid (BS W1 (some ⟨b, off, none⟩) n zs) := (HB0.out.below LB.out).below hb
  clear hb L2 LB HH HB0
  obtain ⟨o1, ho1⟩ : ∃ p, Ca.putC zeroPk 0 (#[.int .u64 d, .int .u64 s, .bool tg, .int .i64 tag, .int .i64 et]).toList = p := ⟨_, rfl⟩
  have Zo1 : Hid (o1.size = 36) := by show _ = _; rw [← ho1]; kernel_rfl
  have Oo1 : Hid (o1.all (·.oneCell') = true) := by show _ = _; rw [← ho1]; kernel_rfl
  have hbld : Try.prog.built 34 [(0, .agg #[.int .u64 d, .int .u64 s, .bool tg, .int .i64 tag, .int .i64 et])] = some o1 := by rw [← ho1]; kernel_rfl
  have EO1 : StopP (Ca.putC zeroPk 0 (#[.int .u64 d, .int .u64 s, .bool tg, .int .i64 tag, .int .i64 et]).toList = o1) := StopP.mk ho1
  clear ho1
  go_wp2_with (first
    | ((with_reducible (refine isSt 25 _ _ rfl rfl ?_)); refine Ca.wpList_store_new rfl 25 _ _ rfl #[.int .u64 0, .int .u64 0, .bool false, .int .i64 0, .int .i64 0] #[.int .u64 d, .int .u64 s, .bool tg, .int .i64 tag, .int .i64 et] _ rfl rfl rfl info_eth rfl (by kernel_rfl) ?_; refine StopP.out ?_)
    | fail)
  have hb2 := below1 W1 (.cells #[.int .u64 d, .int .u64 s, .bool tg, .int .i64 tag, .int .i64 et] 25)
  have B_2 : Hid (Below w.heap.size w (W1.alloc (.cells #[.int .u64 d, .int .u64 s, .bool tg, .int .i64 tag, .int .i64 et] 25))) := B_1.out.trans (hb2.mono B_1.out.size)
  have Z_2 : Hid ((W1.alloc (.cells #[.int .u64 d, .int .u64 s, .bool tg, .int .i64 tag, .int .i64 et] 25)).heap[w.heap.size]? = some (.cells zeroPk 34 (0, 0))) := (hb2.block _ (Ca.lt_of_heap Z_1.out)).trans Z_1.out
  have E_2 : Hid ((W1.alloc (.cells #[.int .u64 d, .int .u64 s, .bool tg, .int .i64 tag, .int .i64 et] 25)).heap[W1.heap.size]? = some (.cells #[.int .u64 d, .int .u64 s, .bool tg, .int .i64 tag, .int .i64 et] 25 (0, 0))) := heap_alloc_new W1 _
  have S_2 : Hid (BS (W1.alloc (.cells #[.int .u64 d, .int .u64 s, .bool tg, .int .i64 tag, .int .i64 et] 25)) (some ⟨b, off, none⟩) n zs) := S_1.out.below hb2
  have N_2 : Hid (w.heap.size < W1.heap.size) := Ca.lt_of_heap Z_1.out
  obtain ⟨W2, hW⟩ : ∃ V, (W1.alloc (.cells #[.int .u64 d, .int .u64 s, .bool tg, .int .i64 tag, .int .i64 et] 25)) = V := ⟨_, rfl⟩
  obtain ⟨ge, hge⟩ : ∃ n, W1.heap.size = n := ⟨_, rfl⟩
  rw [hW] at B_2 Z_2 E_2 S_2 ⊢
  rw [hge] at E_2 N_2 ⊢
  clear hW hge hb2 B_1 Z_1 S_1
  refine StopP.mk ?_
  go_wp2_with (first
    | ((with_reducible (refine isLd 25 _ rfl ?_)); refine wpList_load_row rfl 25 _ rfl ge rfl 25 #[.int .u64 d, .int .u64 s, .bool tg, .int .i64 tag, .int .i64 et] (0, 0) _ E_2.out Try.underlying25 rfl info_eth ?_; refine Ca.wpList_build_as rfl 34 _ rfl o1 (by rw [List.map_toArray]; show Try.prog.built 34 [(0, .agg #[.int .u64 d, .int .u64 s, .bool tg, .int .i64 tag, .int .i64 et])] = _; exact hbld) ?_)
    | ((with_reducible (refine isSt 34 _ _ rfl rfl ?_)); refine Ca.wpList_store_new rfl 34 _ _ rfl zeroPk o1 _ rfl rfl rfl (info36 Zo1.out) (Eq.trans (b := 36) rfl Zo1.out.symm) Oo1.out ?_; refine StopP.out ?_)
    | fail)
  have hb3 := below1 W2 (.cells o1 34)
  have B_3 : Hid (Below w.heap.size w (W2.alloc (.cells o1 34))) := B_2.out.trans (hb3.mono B_2.out.size)
  have Z_3 : Hid ((W2.alloc (.cells o1 34)).heap[w.heap.size]? = some (.cells zeroPk 34 (0, 0))) := (hb3.block _ (Ca.lt_of_heap Z_2.out)).trans Z_2.out
  have E_3 : Hid ((W2.alloc (.cells o1 34)).heap[ge]? = some (.cells #[.int .u64 d, .int .u64 s, .bool tg, .int .i64 tag, .int .i64 et] 25 (0, 0))) := (hb3.block _ (Ca.lt_of_heap E_2.out)).trans E_2.out
  have P_3 : Hid ((W2.alloc (.cells o1 34)).heap[W2.heap.size]? = some (.cells o1 34 (0, 0))) := heap_alloc_new W2 _
  have S_3 : Hid (BS (W2.alloc (.cells o1 34)) (some ⟨b, off, none⟩) n zs) := S_2.out.below hb3
  have N_3 : Hid (w.heap.size < ge ∧ ge < W2.heap.size) := ⟨N_2.out, Ca.lt_of_heap E_2.out⟩
  obtain ⟨W3, hW⟩ : ∃ V, W2.alloc (.cells o1 34) = V := ⟨_, rfl⟩
  obtain ⟨gp, hgp⟩ : ∃ n, W2.heap.size = n := ⟨_, rfl⟩
  rw [hW] at B_3 Z_3 E_3 P_3 S_3 ⊢
  rw [hgp] at P_3 N_3 ⊢
  clear hW hgp hb3 B_2 Z_2 S_2 E_2 N_2 hbld
  refine StopP.mk ?_
  have cty := (Ca.cell_row E_3.out 4).trans (show _ = some (Value.int .i64 et) by rfl)
  have i1 : (A : Int) ≤ (n : Int) := by omega
  have i2 : (n : Int) ≤ (cap : Int) := by omega
  have cv := run_conv_bs (P := Try.prog) (w := W3) (cap - A) (S_3.out.drop (by omega) A hAn) 22 9 5 Try.underlying22 Try.underlying5 Try.underlying9
  rw [HBD.out] at cv
  have c34 := (Ca.cell_row P_3.out 34).trans (show _ = some (Value.string ⟨#[]⟩) by rw [← EO1.out]; kernel_rfl)
  have f34 := frozen_of_row W3 _ 34 _ _ P_3.out
  have ER : o1.setIfInBounds 34 (.string bd) = r := by rw [← EO1.out]; exact HR.out
  have Zr : Hid (r.size = 36) := by show _ = _; rw [← ER, Array.size_setIfInBounds]; exact Zo1.out
  have Or : Hid (r.all (·.oneCell') = true) := by show _ = _; rw [← HR.out]; kernel_rfl
  have P_4 : Hid ((W3.setCell ⟨gp, 34, none⟩ (.string bd)).heap[gp]? = some (.cells r 34 (0, 0))) := by show _ = _; rw [← ER]; exact Ca.row_setCell P_3.out 34 _
  have Z_4 : Hid ((W3.setCell ⟨gp, 34, none⟩ (.string bd)).heap[w.heap.size]? = some (.cells zeroPk 34 (0, 0))) := (Below.heap_setCell _ _ _ _ (show w.heap.size ≠ gp by have := N_3.out; omega)).trans Z_3.out
  have B_4 : Hid (Below w.heap.size w (W3.setCell ⟨gp, 34, none⟩ (.string bd))) := B_3.out.setCell (by have := N_3.out; show w.heap.size ≤ gp; omega) _
  clear ER EO1 HR HBD
  go_wp2_with (first
    | ((with_reducible (refine isLd 34 _ rfl ?_)); refine wpList_load_row rfl 34 _ rfl gp rfl 34 r (0, 0) _ P_4.out Try.underlying34 rfl (info36 Zr.out) ?_)
    | ((with_reducible (refine isSt 34 _ _ rfl rfl ?_)); refine Ca.wpList_store_row rfl 34 _ _ rfl (w.heap.size) zeroPk r 34 rfl rfl Z_4.out (info36 Zr.out) (Eq.trans (b := 36) rfl Zr.out.symm) Or.out ?_)
    | fail)
  intro W9 y1 y2 y3 y4
  go_wp2
  exact bodyPost_ret (results_pk (p := 2) (u := 3) rfl _ _ (w.heap.size) r rfl y1 Zr.out) rfl ⟨rfl, B_4.out.trans (y4.mono (by omega))⟩
set_option maxHeartbeats 4000000 in
theorem rparse_bodyt (w : World) (b off : Nat) (A : Nat) (zs : List Int) (h : BS w (some ⟨b, off, none⟩) A zs) (d s tag et : Int) (tg : Bool) (e1 : (et == 2054) = false) (e2 : (et != 2048) = true) (bd : ByteArray) (hbd : strOfNums (zs.drop A) = bd) (r : Array Value) (hr : (Ca.putC zeroPk 0 (#[.int .u64 d, .int .u64 s, .bool tg, .int .i64 tag, .int .i64 et]).toList).setIfInBounds 34 (.string bd) = r)
    (HH : Hid (∀ W, BS W (some ⟨b, off, none⟩) A zs → Calls Try.prog 22 #[.slice (some ⟨b, off, none⟩) A A] W fun e w' => e = .returned (Eth.ethV d s tg tag et A 0) ∧ Below W.heap.size W w')) :
    Calls Try.prog 9 #[.slice (some ⟨b, off, none⟩) A A] w fun e w' => e = .returned (.tuple #[.agg r, .int .i64 0]) ∧ Below w.heap.size w w' := by
  have HBD : StopP (strOfNums (zs.drop A) = bd) := StopP.mk hbd
  have HR : StopP ((Ca.putC zeroPk 0 (#[.int .u64 d, .int .u64 s, .bool tg, .int .i64 tag, .int .i64 et]).toList).setIfInBounds 34 (.string bd) = r) := StopP.mk hr
  clear hbd hr
  have HB0 : Hid (BS w (some ⟨b, off, none⟩) A zs) := h
  clear h
  have L2 : Hid ((w.alloc (.cells zeroPk 34)).heap[w.heap.size]? = some (.cells zeroPk 34 (0, 0))) := heap_alloc_new w _
  have LB : Hid (Below w.heap.size w (w.alloc (.cells zeroPk 34))) := below1 w _
  go_enter Try.func9, Try.ntmps9
  go_wp2_with fail
  refine (HH.out _ (HB0.out.below LB.out)).mono ?_
  unfold Eth.ethV
  rintro e W1 ⟨rfl, hb⟩
  have B_1 : Hid (Below w.heap.size w W1) := LB.out.trans (hb.mono (by first | exact LB.out.size | (simp; omega)))
  have Z_1 : Hid (W1.heap[w.heap.size]? = some (.cells zeroPk 34 (0, 0))) := (hb.block _ (Ca.lt_of_heap L2.out)).trans L2.out
  have S_1 : Hid (BS W1 (some ⟨b, off, none⟩) A zs) := (HB0.out.below LB.out).below hb
  clear hb L2 LB HH HB0
  obtain ⟨o1, ho1⟩ : ∃ p, Ca.putC zeroPk 0 (#[.int .u64 d, .int .u64 s, .bool tg, .int .i64 tag, .int .i64 et]).toList = p := ⟨_, rfl⟩
  have Zo1 : Hid (o1.size = 36) := by show _ = _; rw [← ho1]; kernel_rfl
  have Oo1 : Hid (o1.all (·.oneCell') = true) := by show _ = _; rw [← ho1]; kernel_rfl
  have hbld : Try.prog.built 34 [(0, .agg #[.int .u64 d, .int .u64 s, .bool tg, .int .i64 tag, .int .i64 et])] = some o1 := by rw [← ho1]; kernel_rfl
  have EO1 : StopP (Ca.putC zeroPk 0 (#[.int .u64 d, .int .u64 s, .bool tg, .int .i64 tag, .int .i64 et]).toList = o1) := StopP.mk ho1
  clear ho1
  go_wp2_with (first
    | ((with_reducible (refine isSt 25 _ _ rfl rfl ?_)); refine Ca.wpList_store_new rfl 25 _ _ rfl #[.int .u64 0, .int .u64 0, .bool false, .int .i64 0, .int .i64 0] #[.int .u64 d, .int .u64 s, .bool tg, .int .i64 tag, .int .i64 et] _ rfl rfl rfl info_eth rfl (by kernel_rfl) ?_; refine StopP.out ?_)
    | fail)
  have hb2 := below1 W1 (.cells #[.int .u64 d, .int .u64 s, .bool tg, .int .i64 tag, .int .i64 et] 25)
  have B_2 : Hid (Below w.heap.size w (W1.alloc (.cells #[.int .u64 d, .int .u64 s, .bool tg, .int .i64 tag, .int .i64 et] 25))) := B_1.out.trans (hb2.mono B_1.out.size)
  have Z_2 : Hid ((W1.alloc (.cells #[.int .u64 d, .int .u64 s, .bool tg, .int .i64 tag, .int .i64 et] 25)).heap[w.heap.size]? = some (.cells zeroPk 34 (0, 0))) := (hb2.block _ (Ca.lt_of_heap Z_1.out)).trans Z_1.out
  have E_2 : Hid ((W1.alloc (.cells #[.int .u64 d, .int .u64 s, .bool tg, .int .i64 tag, .int .i64 et] 25)).heap[W1.heap.size]? = some (.cells #[.int .u64 d, .int .u64 s, .bool tg, .int .i64 tag, .int .i64 et] 25 (0, 0))) := heap_alloc_new W1 _
  have S_2 : Hid (BS (W1.alloc (.cells #[.int .u64 d, .int .u64 s, .bool tg, .int .i64 tag, .int .i64 et] 25)) (some ⟨b, off, none⟩) A zs) := S_1.out.below hb2
  have N_2 : Hid (w.heap.size < W1.heap.size) := Ca.lt_of_heap Z_1.out
  obtain ⟨W2, hW⟩ : ∃ V, (W1.alloc (.cells #[.int .u64 d, .int .u64 s, .bool tg, .int .i64 tag, .int .i64 et] 25)) = V := ⟨_, rfl⟩
  obtain ⟨ge, hge⟩ : ∃ n, W1.heap.size = n := ⟨_, rfl⟩
  rw [hW] at B_2 Z_2 E_2 S_2 ⊢
  rw [hge] at E_2 N_2 ⊢
  clear hW hge hb2 B_1 Z_1 S_1
  refine StopP.mk ?_
  go_wp2_with (first
    | ((with_reducible (refine isLd 25 _ rfl ?_)); refine wpList_load_row rfl 25 _ rfl ge rfl 25 #[.int .u64 d, .int .u64 s, .bool tg, .int .i64 tag, .int .i64 et] (0, 0) _ E_2.out Try.underlying25 rfl info_eth ?_; refine Ca.wpList_build_as rfl 34 _ rfl o1 (by rw [List.map_toArray]; show Try.prog.built 34 [(0, .agg #[.int .u64 d, .int .u64 s, .bool tg, .int .i64 tag, .int .i64 et])] = _; exact hbld) ?_)
    | ((with_reducible (refine isSt 34 _ _ rfl rfl ?_)); refine Ca.wpList_store_new rfl 34 _ _ rfl zeroPk o1 _ rfl rfl rfl (info36 Zo1.out) (Eq.trans (b := 36) rfl Zo1.out.symm) Oo1.out ?_; refine StopP.out ?_)
    | fail)
  have hb3 := below1 W2 (.cells o1 34)
  have B_3 : Hid (Below w.heap.size w (W2.alloc (.cells o1 34))) := B_2.out.trans (hb3.mono B_2.out.size)
  have Z_3 : Hid ((W2.alloc (.cells o1 34)).heap[w.heap.size]? = some (.cells zeroPk 34 (0, 0))) := (hb3.block _ (Ca.lt_of_heap Z_2.out)).trans Z_2.out
  have E_3 : Hid ((W2.alloc (.cells o1 34)).heap[ge]? = some (.cells #[.int .u64 d, .int .u64 s, .bool tg, .int .i64 tag, .int .i64 et] 25 (0, 0))) := (hb3.block _ (Ca.lt_of_heap E_2.out)).trans E_2.out
  have P_3 : Hid ((W2.alloc (.cells o1 34)).heap[W2.heap.size]? = some (.cells o1 34 (0, 0))) := heap_alloc_new W2 _
  have S_3 : Hid (BS (W2.alloc (.cells o1 34)) (some ⟨b, off, none⟩) A zs) := S_2.out.below hb3
  have N_3 : Hid (w.heap.size < ge ∧ ge < W2.heap.size) := ⟨N_2.out, Ca.lt_of_heap E_2.out⟩
  obtain ⟨W3, hW⟩ : ∃ V, W2.alloc (.cells o1 34) = V := ⟨_, rfl⟩
  obtain ⟨gp, hgp⟩ : ∃ n, W2.heap.size = n := ⟨_, rfl⟩
  rw [hW] at B_3 Z_3 E_3 P_3 S_3 ⊢
  rw [hgp] at P_3 N_3 ⊢
  clear hW hgp hb3 B_2 Z_2 S_2 E_2 N_2 hbld
  refine StopP.mk ?_
  have cty := (Ca.cell_row E_3.out 4).trans (show _ = some (Value.int .i64 et) by rfl)
  have cv := run_conv_bs (P := Try.prog) (w := W3) (0) (BS.empty (w := W3) (some ⟨b, off, none⟩)) 22 9 5 Try.underlying22 Try.underlying5 Try.underlying9
  rw [show strOfNums [] = bd by rw [← HBD.out, List.drop_of_length_le (by have := S_3.out.len; omega)]] at cv
  have c34 := (Ca.cell_row P_3.out 34).trans (show _ = some (Value.string ⟨#[]⟩) by rw [← EO1.out]; kernel_rfl)
  have f34 := frozen_of_row W3 _ 34 _ _ P_3.out
  have ER : o1.setIfInBounds 34 (.string bd) = r := by rw [← EO1.out]; exact HR.out
  have Zr : Hid (r.size = 36) := by show _ = _; rw [← ER, Array.size_setIfInBounds]; exact Zo1.out
  have Or : Hid (r.all (·.oneCell') = true) := by show _ = _; rw [← HR.out]; kernel_rfl
  have P_4 : Hid ((W3.setCell ⟨gp, 34, none⟩ (.string bd)).heap[gp]? = some (.cells r 34 (0, 0))) := by show _ = _; rw [← ER]; exact Ca.row_setCell P_3.out 34 _
  have Z_4 : Hid ((W3.setCell ⟨gp, 34, none⟩ (.string bd)).heap[w.heap.size]? = some (.cells zeroPk 34 (0, 0))) := (Below.heap_setCell _ _ _ _ (show w.heap.size ≠ gp by have := N_3.out; omega)).trans Z_3.out
  have B_4 : Hid (Below w.heap.size w (W3.setCell ⟨gp, 34, none⟩ (.string bd))) := B_3.out.setCell (by have := N_3.out; show w.heap.size ≤ gp; omega) _
  clear ER EO1 HR HBD
  go_wp2_with (first
    | ((with_reducible (refine isLd 34 _ rfl ?_)); refine wpList_load_row rfl 34 _ rfl gp rfl 34 r (0, 0) _ P_4.out Try.underlying34 rfl (info36 Zr.out) ?_)
    | ((with_reducible (refine isSt 34 _ _ rfl rfl ?_)); refine Ca.wpList_store_row rfl 34 _ _ rfl (w.heap.size) zeroPk r 34 rfl rfl Z_4.out (info36 Zr.out) (Eq.trans (b := 36) rfl Zr.out.symm) Or.out ?_)
    | fail)
  intro W9 y1 y2 y3 y4
  go_wp2
  exact bodyPost_ret (results_pk (p := 2) (u := 3) rfl _ _ (w.heap.size) r rfl y1 Zr.out) rfl ⟨rfl, B_4.out.trans (y4.mono (by omega))⟩
set_option maxHeartbeats 4000000 in
theorem rparse_arpbad (w : World) (b off n cap A : Nat) (zs : List Int) (h : BS w (some ⟨b, off, none⟩) n zs) (hcap : n ≤ cap) (hAn : A ≤ n) (hc : ¬ cap = A) (hA0 : 0 < A) (d s tag : Int) (tg : Bool) (op sha spa tha tpa : Int) (f : Int) (hf : (f != 0) = true)
    (HH : Hid (∀ W, BS W (some ⟨b, off, none⟩) n zs → Calls Try.prog 22 #[.slice (some ⟨b, off, none⟩) n cap] W fun e w' => e = .returned (Eth.ethV d s tg tag 2054 A 0) ∧ Below W.heap.size W w'))
    (HI : Hid (∀ W, BS W (some ⟨b, off + A, none⟩) (n - A) (zs.drop A) → Calls Try.prog 23 #[.slice (some ⟨b, off + A, none⟩) (n - A) (cap - A)] W fun e w' => e = .returned (.tuple #[.agg #[.int .i64 op, .int .u64 sha, .int .u32 spa, .int .u64 tha, .int .u32 tpa], .int .i64 f]) ∧ Below W.heap.size W w')) :
    Calls Try.prog 9 #[.slice (some ⟨b, off, none⟩) n cap] w fun e w' => e = .returned (.tuple #[.agg zeroPk, .int .i64 f]) ∧ Below w.heap.size w w' := by
  have HB0 : Hid (BS w (some ⟨b, off, none⟩) n zs) := h
  clear h
  have L2 : Hid ((w.alloc (.cells zeroPk 34)).heap[w.heap.size]? = some (.cells zeroPk 34 (0, 0))) := heap_alloc_new w _
  have LB : Hid (Below w.heap.size w (w.alloc (.cells zeroPk 34))) := below1 w _
  go_enter Try.func9, Try.ntmps9
  go_wp2_with fail
  refine (HH.out _ (HB0.out.below LB.out)).mono ?_
  unfold Eth.ethV
  rintro e W1 ⟨rfl, hb⟩
  have B_1 : Hid (Below w.heap.size w W1) := LB.out.trans (hb.mono (by first | exact LB.out.size | (simp; omega)))
  have Z_1 : Hid (W1.heap[w.heap.size]? = some (.cells zeroPk 34 (0, 0))) := (hb.block _ (Ca.lt_of_heap L2.out)).trans L2.out
  have S_1 : Hid (BS W1 (some ⟨b, off, none⟩) n zs) := (HB0.out.below LB.out).below hb
  clear hb L2 LB HH HB0
  obtain ⟨o1, ho1⟩ : ∃ p, Ca.putC zeroPk 0 (#[.int .u64 d, .int .u64 s, .bool tg, .int .i64 tag, .int .i64 2054]).toList = p := ⟨_, rfl⟩
  have Zo1 : Hid (o1.size = 36) := by show _ = _; rw [← ho1]; kernel_rfl
  have Oo1 : Hid (o1.all (·.oneCell') = true) := by show _ = _; rw [← ho1]; kernel_rfl
  have hbld : Try.prog.built 34 [(0, .agg #[.int .u64 d, .int .u64 s, .bool tg, .int .i64 tag, .int .i64 2054])] = some o1 := by rw [← ho1]; kernel_rfl
  have EO1 : StopP (Ca.putC zeroPk 0 (#[.int .u64 d, .int .u64 s, .bool tg, .int .i64 tag, .int .i64 2054]).toList = o1) := StopP.mk ho1
  clear ho1
  go_wp2_with (first
    | ((with_reducible (refine isSt 25 _ _ rfl rfl ?_)); refine Ca.wpList_store_new rfl 25 _ _ rfl #[.int .u64 0, .int .u64 0, .bool false, .int .i64 0, .int .i64 0] #[.int .u64 d, .int .u64 s, .bool tg, .int .i64 tag, .int .i64 2054] _ rfl rfl rfl info_eth rfl (by kernel_rfl) ?_; refine StopP.out ?_)
    | fail)
  have hb2 := below1 W1 (.cells #[.int .u64 d, .int .u64 s, .bool tg, .int .i64 tag, .int .i64 2054] 25)
  have B_2 : Hid (Below w.heap.size w (W1.alloc (.cells #[.int .u64 d, .int .u64 s, .bool tg, .int .i64 tag, .int .i64 2054] 25))) := B_1.out.trans (hb2.mono B_1.out.size)
  have Z_2 : Hid ((W1.alloc (.cells #[.int .u64 d, .int .u64 s, .bool tg, .int .i64 tag, .int .i64 2054] 25)).heap[w.heap.size]? = some (.cells zeroPk 34 (0, 0))) := (hb2.block _ (Ca.lt_of_heap Z_1.out)).trans Z_1.out
  have E_2 : Hid ((W1.alloc (.cells #[.int .u64 d, .int .u64 s, .bool tg, .int .i64 tag, .int .i64 2054] 25)).heap[W1.heap.size]? = some (.cells #[.int .u64 d, .int .u64 s, .bool tg, .int .i64 tag, .int .i64 2054] 25 (0, 0))) := heap_alloc_new W1 _
  have S_2 : Hid (BS (W1.alloc (.cells #[.int .u64 d, .int .u64 s, .bool tg, .int .i64 tag, .int .i64 2054] 25)) (some ⟨b, off, none⟩) n zs) := S_1.out.below hb2
  have N_2 : Hid (w.heap.size < W1.heap.size) := Ca.lt_of_heap Z_1.out
  obtain ⟨W2, hW⟩ : ∃ V, (W1.alloc (.cells #[.int .u64 d, .int .u64 s, .bool tg, .int .i64 tag, .int .i64 2054] 25)) = V := ⟨_, rfl⟩
  obtain ⟨ge, hge⟩ : ∃ n, W1.heap.size = n := ⟨_, rfl⟩
  rw [hW] at B_2 Z_2 E_2 S_2 ⊢
  rw [hge] at E_2 N_2 ⊢
  clear hW hge hb2 B_1 Z_1 S_1
  refine StopP.mk ?_
  go_wp2_with (first
    | ((with_reducible (refine isLd 25 _ rfl ?_)); refine wpList_load_row rfl 25 _ rfl ge rfl 25 #[.int .u64 d, .int .u64 s, .bool tg, .int .i64 tag, .int .i64 2054] (0, 0) _ E_2.out Try.underlying25 rfl info_eth ?_; refine Ca.wpList_build_as rfl 34 _ rfl o1 (by rw [List.map_toArray]; show Try.prog.built 34 [(0, .agg #[.int .u64 d, .int .u64 s, .bool tg, .int .i64 tag, .int .i64 2054])] = _; exact hbld) ?_)
    | ((with_reducible (refine isSt 34 _ _ rfl rfl ?_)); refine Ca.wpList_store_new rfl 34 _ _ rfl zeroPk o1 _ rfl rfl rfl (info36 Zo1.out) (Eq.trans (b := 36) rfl Zo1.out.symm) Oo1.out ?_; refine StopP.out ?_)
    | fail)
  have hb3 := below1 W2 (.cells o1 34)
  have B_3 : Hid (Below w.heap.size w (W2.alloc (.cells o1 34))) := B_2.out.trans (hb3.mono B_2.out.size)
  have Z_3 : Hid ((W2.alloc (.cells o1 34)).heap[w.heap.size]? = some (.cells zeroPk 34 (0, 0))) := (hb3.block _ (Ca.lt_of_heap Z_2.out)).trans Z_2.out
  have E_3 : Hid ((W2.alloc (.cells o1 34)).heap[ge]? = some (.cells #[.int .u64 d, .int .u64 s, .bool tg, .int .i64 tag, .int .i64 2054] 25 (0, 0))) := (hb3.block _ (Ca.lt_of_heap E_2.out)).trans E_2.out
  have P_3 : Hid ((W2.alloc (.cells o1 34)).heap[W2.heap.size]? = some (.cells o1 34 (0, 0))) := heap_alloc_new W2 _
  have S_3 : Hid (BS (W2.alloc (.cells o1 34)) (some ⟨b, off, none⟩) n zs) := S_2.out.below hb3
  have N_3 : Hid (w.heap.size < ge ∧ ge < W2.heap.size) := ⟨N_2.out, Ca.lt_of_heap E_2.out⟩
  obtain ⟨W3, hW⟩ : ∃ V, W2.alloc (.cells o1 34) = V := ⟨_, rfl⟩
  obtain ⟨gp, hgp⟩ : ∃ n, W2.heap.size = n := ⟨_, rfl⟩
  rw [hW] at B_3 Z_3 E_3 P_3 S_3 ⊢
  rw [hgp] at P_3 N_3 ⊢
  clear hW hgp hb3 B_2 Z_2 S_2 E_2 N_2 hbld
  refine StopP.mk ?_
  have cty := (Ca.cell_row E_3.out 4).trans (show _ = some (Value.int .i64 2054) by rfl)
  clear EO1
  have i1 : (A : Int) ≤ (n : Int) := by omega
  have i2 : (n : Int) ≤ (cap : Int) := by omega
  go_wp2_with fail
  refine (HI.out _ (S_3.out.drop (by omega) A hAn)).mono ?_
  rintro e W4 ⟨rfl, hb⟩
  have B_4 : Hid (Below w.heap.size w W4) := B_3.out.trans (hb.mono B_3.out.size)
  have Z_4 : Hid (W4.heap[w.heap.size]? = some (.cells zeroPk 34 (0, 0))) := (hb.block _ (Ca.lt_of_heap Z_3.out)).trans Z_3.out
  have B_5 : Hid (Below w.heap.size w (W4.alloc (.cells #[.int .i64 op, .int .u64 sha, .int .u32 spa, .int .u64 tha, .int .u32 tpa] 28))) := B_4.out.alloc B_4.out.size _
  have Z_5 : Hid ((W4.alloc (.cells #[.int .i64 op, .int .u64 sha, .int .u32 spa, .int .u64 tha, .int .u32 tpa] 28)).heap[w.heap.size]? = some (.cells zeroPk 34 (0, 0))) := (below1 W4 _).block _ (Ca.lt_of_heap Z_4.out) |>.trans Z_4.out
  clear hb HI B_3 Z_3 E_3 P_3 S_3 cty
  go_wp2_with (first
    | ((with_reducible (refine isSt 28 _ _ rfl rfl ?_)); refine Ca.wpList_store_new rfl 28 _ _ rfl #[.int .i64 0, .int .u64 0, .int .u32 0, .int .u64 0, .int .u32 0] #[.int .i64 op, .int .u64 sha, .int .u32 spa, .int .u64 tha, .int .u32 tpa] _ rfl rfl rfl info_arp rfl (by kernel_rfl) ?_)
    | ((with_reducible (refine isBd 34 _ rfl rfl ?_)); refine Ca.wpList_build_as rfl 34 _ rfl zeroPk (by rw [List.map_toArray]; show Try.prog.built 34 [] = _; kernel_rfl) ?_)
    | ((with_reducible (refine isSt 34 _ _ rfl rfl ?_)); refine Ca.wpList_store_row rfl 34 _ _ rfl (w.heap.size) zeroPk zeroPk 34 rfl rfl Z_5.out (info36 zsize) (Eq.trans (b := 36) rfl zsize.symm) one36 ?_)
    | fail)
  intro W9 y1 y2 y3 y4
  go_wp2
  exact bodyPost_ret (results_pk (p := 2) (u := 3) rfl _ _ (w.heap.size) zeroPk rfl y1 zsize) rfl ⟨rfl, B_5.out.trans (y4.mono (by omega))⟩
set_option maxHeartbeats 4000000 in
theorem rparse_arpbadt (w : World) (b off A : Nat) (zs : List Int) (h : BS w (some ⟨b, off, none⟩) A zs) (d s tag : Int) (tg : Bool) (op sha spa tha tpa : Int) (f : Int) (hf : (f != 0) = true)
    (HH : Hid (∀ W, BS W (some ⟨b, off, none⟩) A zs → Calls Try.prog 22 #[.slice (some ⟨b, off, none⟩) A A] W fun e w' => e = .returned (Eth.ethV d s tg tag 2054 A 0) ∧ Below W.heap.size W w'))
    (HI : Hid (∀ W, BS W (some ⟨b, off, none⟩) 0 [] → Calls Try.prog 23 #[.slice (some ⟨b, off, none⟩) 0 0] W fun e w' => e = .returned (.tuple #[.agg #[.int .i64 op, .int .u64 sha, .int .u32 spa, .int .u64 tha, .int .u32 tpa], .int .i64 f]) ∧ Below W.heap.size W w')) :
    Calls Try.prog 9 #[.slice (some ⟨b, off, none⟩) A A] w fun e w' => e = .returned (.tuple #[.agg zeroPk, .int .i64 f]) ∧ Below w.heap.size w w' := by
  have HB0 : Hid (BS w (some ⟨b, off, none⟩) A zs) := h
  clear h
  have L2 : Hid ((w.alloc (.cells zeroPk 34)).heap[w.heap.size]? = some (.cells zeroPk 34 (0, 0))) := heap_alloc_new w _
  have LB : Hid (Below w.heap.size w (w.alloc (.cells zeroPk 34))) := below1 w _
  go_enter Try.func9, Try.ntmps9
  go_wp2_with fail
  refine (HH.out _ (HB0.out.below LB.out)).mono ?_
  unfold Eth.ethV
  rintro e W1 ⟨rfl, hb⟩
  have B_1 : Hid (Below w.heap.size w W1) := LB.out.trans (hb.mono (by first | exact LB.out.size | (simp; omega)))
  have Z_1 : Hid (W1.heap[w.heap.size]? = some (.cells zeroPk 34 (0, 0))) := (hb.block _ (Ca.lt_of_heap L2.out)).trans L2.out
  have S_1 : Hid (BS W1 (some ⟨b, off, none⟩) A zs) := (HB0.out.below LB.out).below hb
  clear hb L2 LB HH HB0
  obtain ⟨o1, ho1⟩ : ∃ p, Ca.putC zeroPk 0 (#[.int .u64 d, .int .u64 s, .bool tg, .int .i64 tag, .int .i64 2054]).toList = p := ⟨_, rfl⟩
  have Zo1 : Hid (o1.size = 36) := by show _ = _; rw [← ho1]; kernel_rfl
  have Oo1 : Hid (o1.all (·.oneCell') = true) := by show _ = _; rw [← ho1]; kernel_rfl
  have hbld : Try.prog.built 34 [(0, .agg #[.int .u64 d, .int .u64 s, .bool tg, .int .i64 tag, .int .i64 2054])] = some o1 := by rw [← ho1]; kernel_rfl
  have EO1 : StopP (Ca.putC zeroPk 0 (#[.int .u64 d, .int .u64 s, .bool tg, .int .i64 tag, .int .i64 2054]).toList = o1) := StopP.mk ho1
  clear ho1
  go_wp2_with (first
    | ((with_reducible (refine isSt 25 _ _ rfl rfl ?_)); refine Ca.wpList_store_new rfl 25 _ _ rfl #[.int .u64 0, .int .u64 0, .bool false, .int .i64 0, .int .i64 0] #[.int .u64 d, .int .u64 s, .bool tg, .int .i64 tag, .int .i64 2054] _ rfl rfl rfl info_eth rfl (by kernel_rfl) ?_; refine StopP.out ?_)
    | fail)
  have hb2 := below1 W1 (.cells #[.int .u64 d, .int .u64 s, .bool tg, .int .i64 tag, .int .i64 2054] 25)
  have B_2 : Hid (Below w.heap.size w (W1.alloc (.cells #[.int .u64 d, .int .u64 s, .bool tg, .int .i64 tag, .int .i64 2054] 25))) := B_1.out.trans (hb2.mono B_1.out.size)
  have Z_2 : Hid ((W1.alloc (.cells #[.int .u64 d, .int .u64 s, .bool tg, .int .i64 tag, .int .i64 2054] 25)).heap[w.heap.size]? = some (.cells zeroPk 34 (0, 0))) := (hb2.block _ (Ca.lt_of_heap Z_1.out)).trans Z_1.out
  have E_2 : Hid ((W1.alloc (.cells #[.int .u64 d, .int .u64 s, .bool tg, .int .i64 tag, .int .i64 2054] 25)).heap[W1.heap.size]? = some (.cells #[.int .u64 d, .int .u64 s, .bool tg, .int .i64 tag, .int .i64 2054] 25 (0, 0))) := heap_alloc_new W1 _
  have S_2 : Hid (BS (W1.alloc (.cells #[.int .u64 d, .int .u64 s, .bool tg, .int .i64 tag, .int .i64 2054] 25)) (some ⟨b, off, none⟩) A zs) := S_1.out.below hb2
  have N_2 : Hid (w.heap.size < W1.heap.size) := Ca.lt_of_heap Z_1.out
  obtain ⟨W2, hW⟩ : ∃ V, (W1.alloc (.cells #[.int .u64 d, .int .u64 s, .bool tg, .int .i64 tag, .int .i64 2054] 25)) = V := ⟨_, rfl⟩
  obtain ⟨ge, hge⟩ : ∃ n, W1.heap.size = n := ⟨_, rfl⟩
  rw [hW] at B_2 Z_2 E_2 S_2 ⊢
  rw [hge] at E_2 N_2 ⊢
  clear hW hge hb2 B_1 Z_1 S_1
  refine StopP.mk ?_
  go_wp2_with (first
    | ((with_reducible (refine isLd 25 _ rfl ?_)); refine wpList_load_row rfl 25 _ rfl ge rfl 25 #[.int .u64 d, .int .u64 s, .bool tg, .int .i64 tag, .int .i64 2054] (0, 0) _ E_2.out Try.underlying25 rfl info_eth ?_; refine Ca.wpList_build_as rfl 34 _ rfl o1 (by rw [List.map_toArray]; show Try.prog.built 34 [(0, .agg #[.int .u64 d, .int .u64 s, .bool tg, .int .i64 tag, .int .i64 2054])] = _; exact hbld) ?_)
    | ((with_reducible (refine isSt 34 _ _ rfl rfl ?_)); refine Ca.wpList_store_new rfl 34 _ _ rfl zeroPk o1 _ rfl rfl rfl (info36 Zo1.out) (Eq.trans (b := 36) rfl Zo1.out.symm) Oo1.out ?_; refine StopP.out ?_)
    | fail)
  have hb3 := below1 W2 (.cells o1 34)
  have B_3 : Hid (Below w.heap.size w (W2.alloc (.cells o1 34))) := B_2.out.trans (hb3.mono B_2.out.size)
  have Z_3 : Hid ((W2.alloc (.cells o1 34)).heap[w.heap.size]? = some (.cells zeroPk 34 (0, 0))) := (hb3.block _ (Ca.lt_of_heap Z_2.out)).trans Z_2.out
  have E_3 : Hid ((W2.alloc (.cells o1 34)).heap[ge]? = some (.cells #[.int .u64 d, .int .u64 s, .bool tg, .int .i64 tag, .int .i64 2054] 25 (0, 0))) := (hb3.block _ (Ca.lt_of_heap E_2.out)).trans E_2.out
  have P_3 : Hid ((W2.alloc (.cells o1 34)).heap[W2.heap.size]? = some (.cells o1 34 (0, 0))) := heap_alloc_new W2 _
  have S_3 : Hid (BS (W2.alloc (.cells o1 34)) (some ⟨b, off, none⟩) A zs) := S_2.out.below hb3
  have N_3 : Hid (w.heap.size < ge ∧ ge < W2.heap.size) := ⟨N_2.out, Ca.lt_of_heap E_2.out⟩
  obtain ⟨W3, hW⟩ : ∃ V, W2.alloc (.cells o1 34) = V := ⟨_, rfl⟩
  obtain ⟨gp, hgp⟩ : ∃ n, W2.heap.size = n := ⟨_, rfl⟩
  rw [hW] at B_3 Z_3 E_3 P_3 S_3 ⊢
  rw [hgp] at P_3 N_3 ⊢
  clear hW hgp hb3 B_2 Z_2 S_2 E_2 N_2 hbld
  refine StopP.mk ?_
  have cty := (Ca.cell_row E_3.out 4).trans (show _ = some (Value.int .i64 2054) by rfl)
  clear EO1
  go_wp2_with fail
  refine (HI.out _ (BS.empty (some ⟨b, off, none⟩))).mono ?_
  rintro e W4 ⟨rfl, hb⟩
  have B_4 : Hid (Below w.heap.size w W4) := B_3.out.trans (hb.mono B_3.out.size)
  have Z_4 : Hid (W4.heap[w.heap.size]? = some (.cells zeroPk 34 (0, 0))) := (hb.block _ (Ca.lt_of_heap Z_3.out)).trans Z_3.out
  have B_5 : Hid (Below w.heap.size w (W4.alloc (.cells #[.int .i64 op, .int .u64 sha, .int .u32 spa, .int .u64 tha, .int .u32 tpa] 28))) := B_4.out.alloc B_4.out.size _
  have Z_5 : Hid ((W4.alloc (.cells #[.int .i64 op, .int .u64 sha, .int .u32 spa, .int .u64 tha, .int .u32 tpa] 28)).heap[w.heap.size]? = some (.cells zeroPk 34 (0, 0))) := (below1 W4 _).block _ (Ca.lt_of_heap Z_4.out) |>.trans Z_4.out
  clear hb HI B_3 Z_3 E_3 P_3 S_3 cty
  go_wp2_with (first
    | ((with_reducible (refine isSt 28 _ _ rfl rfl ?_)); refine Ca.wpList_store_new rfl 28 _ _ rfl #[.int .i64 0, .int .u64 0, .int .u32 0, .int .u64 0, .int .u32 0] #[.int .i64 op, .int .u64 sha, .int .u32 spa, .int .u64 tha, .int .u32 tpa] _ rfl rfl rfl info_arp rfl (by kernel_rfl) ?_)
    | ((with_reducible (refine isBd 34 _ rfl rfl ?_)); refine Ca.wpList_build_as rfl 34 _ rfl zeroPk (by rw [List.map_toArray]; show Try.prog.built 34 [] = _; kernel_rfl) ?_)
    | ((with_reducible (refine isSt 34 _ _ rfl rfl ?_)); refine Ca.wpList_store_row rfl 34 _ _ rfl (w.heap.size) zeroPk zeroPk 34 rfl rfl Z_5.out (info36 zsize) (Eq.trans (b := 36) rfl zsize.symm) one36 ?_)
    | fail)
  intro W9 y1 y2 y3 y4
  go_wp2
  exact bodyPost_ret (results_pk (p := 2) (u := 3) rfl _ _ (w.heap.size) zeroPk rfl y1 zsize) rfl ⟨rfl, B_5.out.trans (y4.mono (by omega))⟩
set_option maxHeartbeats 4000000 in
theorem rparse_ipbad (w : World) (b off n cap A : Nat) (zs : List Int) (h : BS w (some ⟨b, off, none⟩) n zs) (hcap : n ≤ cap) (hAn : A ≤ n) (hc : ¬ cap = A) (hA0 : 0 < A) (d s tag : Int) (tg : Bool) (tos id fr ttl pr src dst : Int) (io : List Int) (sz tt : Int) (f : Int) (hf : (f != 0) = true)
    (HH : Hid (∀ W, BS W (some ⟨b, off, none⟩) n zs → Calls Try.prog 22 #[.slice (some ⟨b, off, none⟩) n cap] W fun e w' => e = .returned (Eth.ethV d s tg tag 2048 A 0) ∧ Below W.heap.size W w'))
    (HI : Hid (∀ W, BS W (some ⟨b, off + A, none⟩) (n - A) (zs.drop A) → Calls Try.prog 24 #[.slice (some ⟨b, off + A, none⟩) (n - A) (cap - A)] W fun e w' => e = .returned (.tuple #[.agg #[.int .i64 tos, .int .i64 id, .int .i64 fr, .int .i64 ttl, .int .i64 pr, .int .u32 src, .int .u32 dst, .string (strOfNums io)], .int .i64 sz, .int .i64 tt, .int .i64 f]) ∧ Below W.heap.size W w')) :
    Calls Try.prog 9 #[.slice (some ⟨b, off, none⟩) n cap] w fun e w' => e = .returned (.tuple #[.agg zeroPk, .int .i64 f]) ∧ Below w.heap.size w w' := by
  have HB0 : Hid (BS w (some ⟨b, off, none⟩) n zs) := h
  clear h
  have L2 : Hid ((w.alloc (.cells zeroPk 34)).heap[w.heap.size]? = some (.cells zeroPk 34 (0, 0))) := heap_alloc_new w _
  have LB : Hid (Below w.heap.size w (w.alloc (.cells zeroPk 34))) := below1 w _
  go_enter Try.func9, Try.ntmps9
  go_wp2_with fail
  refine (HH.out _ (HB0.out.below LB.out)).mono ?_
  unfold Eth.ethV
  rintro e W1 ⟨rfl, hb⟩
  have B_1 : Hid (Below w.heap.size w W1) := LB.out.trans (hb.mono (by first | exact LB.out.size | (simp; omega)))
  have Z_1 : Hid (W1.heap[w.heap.size]? = some (.cells zeroPk 34 (0, 0))) := (hb.block _ (Ca.lt_of_heap L2.out)).trans L2.out
  have S_1 : Hid (BS W1 (some ⟨b, off, none⟩) n zs) := (HB0.out.below LB.out).below hb
  clear hb L2 LB HH HB0
  obtain ⟨o1, ho1⟩ : ∃ p, Ca.putC zeroPk 0 (#[.int .u64 d, .int .u64 s, .bool tg, .int .i64 tag, .int .i64 2048]).toList = p := ⟨_, rfl⟩
  have Zo1 : Hid (o1.size = 36) := by show _ = _; rw [← ho1]; kernel_rfl
  have Oo1 : Hid (o1.all (·.oneCell') = true) := by show _ = _; rw [← ho1]; kernel_rfl
  have hbld : Try.prog.built 34 [(0, .agg #[.int .u64 d, .int .u64 s, .bool tg, .int .i64 tag, .int .i64 2048])] = some o1 := by rw [← ho1]; kernel_rfl
  have EO1 : StopP (Ca.putC zeroPk 0 (#[.int .u64 d, .int .u64 s, .bool tg, .int .i64 tag, .int .i64 2048]).toList = o1) := StopP.mk ho1
  clear ho1
  go_wp2_with (first
    | ((with_reducible (refine isSt 25 _ _ rfl rfl ?_)); refine Ca.wpList_store_new rfl 25 _ _ rfl #[.int .u64 0, .int .u64 0, .bool false, .int .i64 0, .int .i64 0] #[.int .u64 d, .int .u64 s, .bool tg, .int .i64 tag, .int .i64 2048] _ rfl rfl rfl info_eth rfl (by kernel_rfl) ?_; refine StopP.out ?_)
    | fail)
  have hb2 := below1 W1 (.cells #[.int .u64 d, .int .u64 s, .bool tg, .int .i64 tag, .int .i64 2048] 25)
  have B_2 : Hid (Below w.heap.size w (W1.alloc (.cells #[.int .u64 d, .int .u64 s, .bool tg, .int .i64 tag, .int .i64 2048] 25))) := B_1.out.trans (hb2.mono B_1.out.size)
  have Z_2 : Hid ((W1.alloc (.cells #[.int .u64 d, .int .u64 s, .bool tg, .int .i64 tag, .int .i64 2048] 25)).heap[w.heap.size]? = some (.cells zeroPk 34 (0, 0))) := (hb2.block _ (Ca.lt_of_heap Z_1.out)).trans Z_1.out
  have E_2 : Hid ((W1.alloc (.cells #[.int .u64 d, .int .u64 s, .bool tg, .int .i64 tag, .int .i64 2048] 25)).heap[W1.heap.size]? = some (.cells #[.int .u64 d, .int .u64 s, .bool tg, .int .i64 tag, .int .i64 2048] 25 (0, 0))) := heap_alloc_new W1 _
  have S_2 : Hid (BS (W1.alloc (.cells #[.int .u64 d, .int .u64 s, .bool tg, .int .i64 tag, .int .i64 2048] 25)) (some ⟨b, off, none⟩) n zs) := S_1.out.below hb2
  have N_2 : Hid (w.heap.size < W1.heap.size) := Ca.lt_of_heap Z_1.out
  obtain ⟨W2, hW⟩ : ∃ V, (W1.alloc (.cells #[.int .u64 d, .int .u64 s, .bool tg, .int .i64 tag, .int .i64 2048] 25)) = V := ⟨_, rfl⟩
  obtain ⟨ge, hge⟩ : ∃ n, W1.heap.size = n := ⟨_, rfl⟩
  rw [hW] at B_2 Z_2 E_2 S_2 ⊢
  rw [hge] at E_2 N_2 ⊢
  clear hW hge hb2 B_1 Z_1 S_1
  refine StopP.mk ?_
  go_wp2_with (first
    | ((with_reducible (refine isLd 25 _ rfl ?_)); refine wpList_load_row rfl 25 _ rfl ge rfl 25 #[.int .u64 d, .int .u64 s, .bool tg, .int .i64 tag, .int .i64 2048] (0, 0) _ E_2.out Try.underlying25 rfl info_eth ?_; refine Ca.wpList_build_as rfl 34 _ rfl o1 (by rw [List.map_toArray]; show Try.prog.built 34 [(0, .agg #[.int .u64 d, .int .u64 s, .bool tg, .int .i64 tag, .int .i64 2048])] = _; exact hbld) ?_)
    | ((with_reducible (refine isSt 34 _ _ rfl rfl ?_)); refine Ca.wpList_store_new rfl 34 _ _ rfl zeroPk o1 _ rfl rfl rfl (info36 Zo1.out) (Eq.trans (b := 36) rfl Zo1.out.symm) Oo1.out ?_; refine StopP.out ?_)
    | fail)
  have hb3 := below1 W2 (.cells o1 34)
  have B_3 : Hid (Below w.heap.size w (W2.alloc (.cells o1 34))) := B_2.out.trans (hb3.mono B_2.out.size)
  have Z_3 : Hid ((W2.alloc (.cells o1 34)).heap[w.heap.size]? = some (.cells zeroPk 34 (0, 0))) := (hb3.block _ (Ca.lt_of_heap Z_2.out)).trans Z_2.out
  have E_3 : Hid ((W2.alloc (.cells o1 34)).heap[ge]? = some (.cells #[.int .u64 d, .int .u64 s, .bool tg, .int .i64 tag, .int .i64 2048] 25 (0, 0))) := (hb3.block _ (Ca.lt_of_heap E_2.out)).trans E_2.out
  have P_3 : Hid ((W2.alloc (.cells o1 34)).heap[W2.heap.size]? = some (.cells o1 34 (0, 0))) := heap_alloc_new W2 _
  have S_3 : Hid (BS (W2.alloc (.cells o1 34)) (some ⟨b, off, none⟩) n zs) := S_2.out.below hb3
  have N_3 : Hid (w.heap.size < ge ∧ ge < W2.heap.size) := ⟨N_2.out, Ca.lt_of_heap E_2.out⟩
  obtain ⟨W3, hW⟩ : ∃ V, W2.alloc (.cells o1 34) = V := ⟨_, rfl⟩
  obtain ⟨gp, hgp⟩ : ∃ n, W2.heap.size = n := ⟨_, rfl⟩
  rw [hW] at B_3 Z_3 E_3 P_3 S_3 ⊢
  rw [hgp] at P_3 N_3 ⊢
  clear hW hgp hb3 B_2 Z_2 S_2 E_2 N_2 hbld
  refine StopP.mk ?_
  have cty := (Ca.cell_row E_3.out 4).trans (show _ = some (Value.int .i64 2048) by rfl)
  clear EO1
  have i1 : (A : Int) ≤ (n : Int) := by omega
  have i2 : (n : Int) ≤ (cap : Int) := by omega
  go_wp2_with fail
  refine (HI.out _ (S_3.out.drop (by omega) A hAn)).mono ?_
  rintro e W4 ⟨rfl, hb⟩
  have B_4 : Hid (Below w.heap.size w W4) := B_3.out.trans (hb.mono B_3.out.size)
  have Z_4 : Hid (W4.heap[w.heap.size]? = some (.cells zeroPk 34 (0, 0))) := (hb.block _ (Ca.lt_of_heap Z_3.out)).trans Z_3.out
  have B_5 : Hid (Below w.heap.size w (W4.alloc (.cells #[.int .i64 tos, .int .i64 id, .int .i64 fr, .int .i64 ttl, .int .i64 pr, .int .u32 src, .int .u32 dst, .string (strOfNums io)] 30))) := B_4.out.alloc B_4.out.size _
  have Z_5 : Hid ((W4.alloc (.cells #[.int .i64 tos, .int .i64 id, .int .i64 fr, .int .i64 ttl, .int .i64 pr, .int .u32 src, .int .u32 dst, .string (strOfNums io)] 30)).heap[w.heap.size]? = some (.cells zeroPk 34 (0, 0))) := (below1 W4 _).block _ (Ca.lt_of_heap Z_4.out) |>.trans Z_4.out
  clear hb HI B_3 Z_3 E_3 P_3 S_3 cty
  go_wp2_with (first
    | ((with_reducible (refine isSt 30 _ _ rfl rfl ?_)); refine Ca.wpList_store_new rfl 30 _ _ rfl #[.int .i64 0, .int .i64 0, .int .i64 0, .int .i64 0, .int .i64 0, .int .u32 0, .int .u32 0, .string ⟨#[]⟩] #[.int .i64 tos, .int .i64 id, .int .i64 fr, .int .i64 ttl, .int .i64 pr, .int .u32 src, .int .u32 dst, .string (strOfNums io)] _ rfl rfl rfl info_ip rfl (by kernel_rfl) ?_)
    | ((with_reducible (refine isBd 34 _ rfl rfl ?_)); refine Ca.wpList_build_as rfl 34 _ rfl zeroPk (by rw [List.map_toArray]; show Try.prog.built 34 [] = _; kernel_rfl) ?_)
    | ((with_reducible (refine isSt 34 _ _ rfl rfl ?_)); refine Ca.wpList_store_row rfl 34 _ _ rfl (w.heap.size) zeroPk zeroPk 34 rfl rfl Z_5.out (info36 zsize) (Eq.trans (b := 36) rfl zsize.symm) one36 ?_)
    | fail)
  intro W9 y1 y2 y3 y4
  go_wp2
  exact bodyPost_ret (results_pk (p := 2) (u := 3) rfl _ _ (w.heap.size) zeroPk rfl y1 zsize) rfl ⟨rfl, B_5.out.trans (y4.mono (by omega))⟩
set_option maxHeartbeats 4000000 in
theorem rparse_ipbadt (w : World) (b off A : Nat) (zs : List Int) (h : BS w (some ⟨b, off, none⟩) A zs) (d s tag : Int) (tg : Bool) (tos id fr ttl pr src dst : Int) (io : List Int) (sz tt : Int) (f : Int) (hf : (f != 0) = true)
    (HH : Hid (∀ W, BS W (some ⟨b, off, none⟩) A zs → Calls Try.prog 22 #[.slice (some ⟨b, off, none⟩) A A] W fun e w' => e = .returned (Eth.ethV d s tg tag 2048 A 0) ∧ Below W.heap.size W w'))
    (HI : Hid (∀ W, BS W (some ⟨b, off, none⟩) 0 [] → Calls Try.prog 24 #[.slice (some ⟨b, off, none⟩) 0 0] W fun e w' => e = .returned (.tuple #[.agg #[.int .i64 tos, .int .i64 id, .int .i64 fr, .int .i64 ttl, .int .i64 pr, .int .u32 src, .int .u32 dst, .string (strOfNums io)], .int .i64 sz, .int .i64 tt, .int .i64 f]) ∧ Below W.heap.size W w')) :
    Calls Try.prog 9 #[.slice (some ⟨b, off, none⟩) A A] w fun e w' => e = .returned (.tuple #[.agg zeroPk, .int .i64 f]) ∧ Below w.heap.size w w' := by
  have HB0 : Hid (BS w (some ⟨b, off, none⟩) A zs) := h
  clear h
  have L2 : Hid ((w.alloc (.cells zeroPk 34)).heap[w.heap.size]? = some (.cells zeroPk 34 (0, 0))) := heap_alloc_new w _
  have LB : Hid (Below w.heap.size w (w.alloc (.cells zeroPk 34))) := below1 w _
  go_enter Try.func9, Try.ntmps9
  go_wp2_with fail
  refine (HH.out _ (HB0.out.below LB.out)).mono ?_
  unfold Eth.ethV
  rintro e W1 ⟨rfl, hb⟩
  have B_1 : Hid (Below w.heap.size w W1) := LB.out.trans (hb.mono (by first | exact LB.out.size | (simp; omega)))
  have Z_1 : Hid (W1.heap[w.heap.size]? = some (.cells zeroPk 34 (0, 0))) := (hb.block _ (Ca.lt_of_heap L2.out)).trans L2.out
  have S_1 : Hid (BS W1 (some ⟨b, off, none⟩) A zs) := (HB0.out.below LB.out).below hb
  clear hb L2 LB HH HB0
  obtain ⟨o1, ho1⟩ : ∃ p, Ca.putC zeroPk 0 (#[.int .u64 d, .int .u64 s, .bool tg, .int .i64 tag, .int .i64 2048]).toList = p := ⟨_, rfl⟩
  have Zo1 : Hid (o1.size = 36) := by show _ = _; rw [← ho1]; kernel_rfl
  have Oo1 : Hid (o1.all (·.oneCell') = true) := by show _ = _; rw [← ho1]; kernel_rfl
  have hbld : Try.prog.built 34 [(0, .agg #[.int .u64 d, .int .u64 s, .bool tg, .int .i64 tag, .int .i64 2048])] = some o1 := by rw [← ho1]; kernel_rfl
  have EO1 : StopP (Ca.putC zeroPk 0 (#[.int .u64 d, .int .u64 s, .bool tg, .int .i64 tag, .int .i64 2048]).toList = o1) := StopP.mk ho1
  clear ho1
  go_wp2_with (first
    | ((with_reducible (refine isSt 25 _ _ rfl rfl ?_)); refine Ca.wpList_store_new rfl 25 _ _ rfl #[.int .u64 0, .int .u64 0, .bool false, .int .i64 0, .int .i64 0] #[.int .u64 d, .int .u64 s, .bool tg, .int .i64 tag, .int .i64 2048] _ rfl rfl rfl info_eth rfl (by kernel_rfl) ?_; refine StopP.out ?_)
    | fail)
  have hb2 := below1 W1 (.cells #[.int .u64 d, .int .u64 s, .bool tg, .int .i64 tag, .int .i64 2048] 25)
  have B_2 : Hid (Below w.heap.size w (W1.alloc (.cells #[.int .u64 d, .int .u64 s, .bool tg, .int .i64 tag, .int .i64 2048] 25))) := B_1.out.trans (hb2.mono B_1.out.size)
  have Z_2 : Hid ((W1.alloc (.cells #[.int .u64 d, .int .u64 s, .bool tg, .int .i64 tag, .int .i64 2048] 25)).heap[w.heap.size]? = some (.cells zeroPk 34 (0, 0))) := (hb2.block _ (Ca.lt_of_heap Z_1.out)).trans Z_1.out
  have E_2 : Hid ((W1.alloc (.cells #[.int .u64 d, .int .u64 s, .bool tg, .int .i64 tag, .int .i64 2048] 25)).heap[W1.heap.size]? = some (.cells #[.int .u64 d, .int .u64 s, .bool tg, .int .i64 tag, .int .i64 2048] 25 (0, 0))) := heap_alloc_new W1 _
  have S_2 : Hid (BS (W1.alloc (.cells #[.int .u64 d, .int .u64 s, .bool tg, .int .i64 tag, .int .i64 2048] 25)) (some ⟨b, off, none⟩) A zs) := S_1.out.below hb2
  have N_2 : Hid (w.heap.size < W1.heap.size) := Ca.lt_of_heap Z_1.out
  obtain ⟨W2, hW⟩ : ∃ V, (W1.alloc (.cells #[.int .u64 d, .int .u64 s, .bool tg, .int .i64 tag, .int .i64 2048] 25)) = V := ⟨_, rfl⟩
  obtain ⟨ge, hge⟩ : ∃ n, W1.heap.size = n := ⟨_, rfl⟩
  rw [hW] at B_2 Z_2 E_2 S_2 ⊢
  rw [hge] at E_2 N_2 ⊢
  clear hW hge hb2 B_1 Z_1 S_1
  refine StopP.mk ?_
  go_wp2_with (first
    | ((with_reducible (refine isLd 25 _ rfl ?_)); refine wpList_load_row rfl 25 _ rfl ge rfl 25 #[.int .u64 d, .int .u64 s, .bool tg, .int .i64 tag, .int .i64 2048] (0, 0) _ E_2.out Try.underlying25 rfl info_eth ?_; refine Ca.wpList_build_as rfl 34 _ rfl o1 (by rw [List.map_toArray]; show Try.prog.built 34 [(0, .agg #[.int .u64 d, .int .u64 s, .bool tg, .int .i64 tag, .int .i64 2048])] = _; exact hbld) ?_)
    | ((with_reducible (refine isSt 34 _ _ rfl rfl ?_)); refine Ca.wpList_store_new rfl 34 _ _ rfl zeroPk o1 _ rfl rfl rfl (info36 Zo1.out) (Eq.trans (b := 36) rfl Zo1.out.symm) Oo1.out ?_; refine StopP.out ?_)
    | fail)
  have hb3 := below1 W2 (.cells o1 34)
  have B_3 : Hid (Below w.heap.size w (W2.alloc (.cells o1 34))) := B_2.out.trans (hb3.mono B_2.out.size)
  have Z_3 : Hid ((W2.alloc (.cells o1 34)).heap[w.heap.size]? = some (.cells zeroPk 34 (0, 0))) := (hb3.block _ (Ca.lt_of_heap Z_2.out)).trans Z_2.out
  have E_3 : Hid ((W2.alloc (.cells o1 34)).heap[ge]? = some (.cells #[.int .u64 d, .int .u64 s, .bool tg, .int .i64 tag, .int .i64 2048] 25 (0, 0))) := (hb3.block _ (Ca.lt_of_heap E_2.out)).trans E_2.out
  have P_3 : Hid ((W2.alloc (.cells o1 34)).heap[W2.heap.size]? = some (.cells o1 34 (0, 0))) := heap_alloc_new W2 _
  have S_3 : Hid (BS (W2.alloc (.cells o1 34)) (some ⟨b, off, none⟩) A zs) := S_2.out.below hb3
  have N_3 : Hid (w.heap.size < ge ∧ ge < W2.heap.size) := ⟨N_2.out, Ca.lt_of_heap E_2.out⟩
  obtain ⟨W3, hW⟩ : ∃ V, W2.alloc (.cells o1 34) = V := ⟨_, rfl⟩
  obtain ⟨gp, hgp⟩ : ∃ n, W2.heap.size = n := ⟨_, rfl⟩
  rw [hW] at B_3 Z_3 E_3 P_3 S_3 ⊢
  rw [hgp] at P_3 N_3 ⊢
  clear hW hgp hb3 B_2 Z_2 S_2 E_2 N_2 hbld
  refine StopP.mk ?_
  have cty := (Ca.cell_row E_3.out 4).trans (show _ = some (Value.int .i64 2048) by rfl)
  clear EO1
  go_wp2_with fail
  refine (HI.out _ (BS.empty (some ⟨b, off, none⟩))).mono ?_
  rintro e W4 ⟨rfl, hb⟩
  have B_4 : Hid (Below w.heap.size w W4) := B_3.out.trans (hb.mono B_3.out.size)
  have Z_4 : Hid (W4.heap[w.heap.size]? = some (.cells zeroPk 34 (0, 0))) := (hb.block _ (Ca.lt_of_heap Z_3.out)).trans Z_3.out
  have B_5 : Hid (Below w.heap.size w (W4.alloc (.cells #[.int .i64 tos, .int .i64 id, .int .i64 fr, .int .i64 ttl, .int .i64 pr, .int .u32 src, .int .u32 dst, .string (strOfNums io)] 30))) := B_4.out.alloc B_4.out.size _
  have Z_5 : Hid ((W4.alloc (.cells #[.int .i64 tos, .int .i64 id, .int .i64 fr, .int .i64 ttl, .int .i64 pr, .int .u32 src, .int .u32 dst, .string (strOfNums io)] 30)).heap[w.heap.size]? = some (.cells zeroPk 34 (0, 0))) := (below1 W4 _).block _ (Ca.lt_of_heap Z_4.out) |>.trans Z_4.out
  clear hb HI B_3 Z_3 E_3 P_3 S_3 cty
  go_wp2_with (first
    | ((with_reducible (refine isSt 30 _ _ rfl rfl ?_)); refine Ca.wpList_store_new rfl 30 _ _ rfl #[.int .i64 0, .int .i64 0, .int .i64 0, .int .i64 0, .int .i64 0, .int .u32 0, .int .u32 0, .string ⟨#[]⟩] #[.int .i64 tos, .int .i64 id, .int .i64 fr, .int .i64 ttl, .int .i64 pr, .int .u32 src, .int .u32 dst, .string (strOfNums io)] _ rfl rfl rfl info_ip rfl (by kernel_rfl) ?_)
    | ((with_reducible (refine isBd 34 _ rfl rfl ?_)); refine Ca.wpList_build_as rfl 34 _ rfl zeroPk (by rw [List.map_toArray]; show Try.prog.built 34 [] = _; kernel_rfl) ?_)
    | ((with_reducible (refine isSt 34 _ _ rfl rfl ?_)); refine Ca.wpList_store_row rfl 34 _ _ rfl (w.heap.size) zeroPk zeroPk 34 rfl rfl Z_5.out (info36 zsize) (Eq.trans (b := 36) rfl zsize.symm) one36 ?_)
    | fail)
  intro W9 y1 y2 y3 y4
  go_wp2
  exact bodyPost_ret (results_pk (p := 2) (u := 3) rfl _ _ (w.heap.size) zeroPk rfl y1 zsize) rfl ⟨rfl, B_5.out.trans (y4.mono (by omega))⟩
end Go.Proofs.Ytpiokeidcnbmbaa
