/- Parts of the proof, in one text. -/
import Derived.Test.YtpiokeidcnbmbaaPKc
import Derived.Test.YtpiokeidcnbmbaaL4n
import Derived.Deep.RegionHeld3
import Derived.Lib.AppendStr
namespace Go.Proofs.Ytpiokeidcnbmbaa
open Go.RowKit
set_option maxRecDepth 20000
theorem own_base {w : World} {b b' : Nat} {e : TypeId} {k : Nat} {v : Value} {n : Nat} {xs : List Value} (h : w.ownsRow b e k v n xs) (hb : b' ≤ b) : w.ownsRow b' e k v n xs := by
  refine ⟨h.1, ?_⟩
  rcases h.2 with h0 | ⟨g, cap, cur, e1, h1, h2⟩
  · exact .inl h0
  · exact .inr ⟨g, cap, cur, e1, Nat.le_trans hb h1, h2⟩
set_option maxHeartbeats 2000000 in
theorem printIp_ok (tos id fr ttl pr src dst : Int) (io : List Int) (k ty co re sp dp : Int) (ns : Bool) (sq ak fl wi ur : Int) (lo ds : List Int) (N M : Nat) (E I : List Int) (hNM : M + N ≤ 1000000) (w : World)
    (HL : Hid (∀ W, Calls Try.prog 79 #[.int .u32 src, .int .u32 dst, .agg #[.int .i64 k, .int .i64 ty, .int .i64 co, .int .u32 re, .int .i64 sp, .int .i64 dp, .bool ns, .int .u32 sq, .int .u32 ak, .int .i64 fl, .int .i64 wi, .int .i64 ur, .string (strOfNums lo), .string (strOfNums ds)]] W fun e w' => ∃ g, e = .returned (.tuple #[.slice (some ⟨g, 0, none⟩) N N, .int .i64 0]) ∧ EncS W w' g N N E))
    (HI : Hid (∀ W, Calls Try.prog 80 #[.agg #[.int .i64 tos, .int .i64 id, .int .i64 fr, .int .i64 ttl, .int .i64 pr, .int .u32 src, .int .u32 dst, .string (strOfNums io)], .int .i64 N] W fun e w' => ∃ a cap, e = .returned (.tuple #[.slice a M cap, .int .i64 0]) ∧ w'.ownsRow W.heap.size 5 1 (.slice a M cap) M (I.map (Value.int .u8)) ∧ Below W.heap.size W w')) :
    Calls Try.prog 62 #[.agg #[.int .i64 tos, .int .i64 id, .int .i64 fr, .int .i64 ttl, .int .i64 pr, .int .u32 src, .int .u32 dst, .string (strOfNums io)], .agg #[.int .i64 k, .int .i64 ty, .int .i64 co, .int .u32 re, .int .i64 sp, .int .i64 dp, .bool ns, .int .u32 sq, .int .u32 ak, .int .i64 fl, .int .i64 wi, .int .i64 ur, .string (strOfNums lo), .string (strOfNums ds)]] w fun e w' => ∃ a cap, e = .returned (.tuple #[.slice a (M + N) cap, .int .i64 0]) ∧ RB w w' (.slice a (M + N) cap) (M + N) (I ++ E) := by
  obtain ⟨i0, hi, hz0, hz1, hz2⟩ := info_parts info5
  go_enter Try.func62, Try.ntmps62
  go_wp2_with fail
  refine (HL.out _).mono ?_
  rintro e W1 ⟨g, rfl, e1⟩
  have hb := e1.bel
  have B1 : Hid (Below w.heap.size w W1) := (below2 w _ _).trans (hb.mono (by simp; omega))
  have E1 : Hid (BS W1 (some ⟨g, 0, none⟩) N E) := e1.bs
  obtain ⟨x0, x1, x2, x3, x4, x5, x6, x7⟩ := AtB.eight (AtB.below ((atB_new w #[.int .i64 tos, .int .i64 id, .int .i64 fr, .int .i64 ttl, .int .i64 pr, .int .u32 src, .int .u32 dst, .string (strOfNums io)] 30 _ rfl).below (below1 _ _)) hb)
  clear hb HL e1
  go_wp2_with fail
  refine (HI.out _).mono ?_
  rintro e W2 ⟨a, cap, rfl, own2, hb⟩
  have B2 : Hid (Below w.heap.size w W2) := B1.out.trans (hb.mono B1.out.size)
  have E2 : Hid (BS W2 (some ⟨g, 0, none⟩) N E) := E1.out.below hb
  have R2 : Hid (RB w W2 (.slice a M cap) M I) := ⟨own_base own2 B1.out.size, B2.out⟩
  clear hb HI x0 x1 x2 x3 x4 x5 x6 x7 B1 E1 own2
  go_wp2_with (at_builtin; refine wpList_append_rb (w1 := w) Try.underlying22 info5 (by rfl) _ _ rfl _ M I rfl R2.out _ N N E rfl E2.out (by omega) ?_)
  intro a3 c3 W3 r3
  have R3 : Hid (RB w W3 (.slice a3 (M + N) c3) (M + N) (I ++ E)) := r3
  clear r3 R2 E2 B2
  go_wp2
  go_ret2
  exact ⟨a3, c3, rfl, R3.out⟩
end Go.Proofs.Ytpiokeidcnbmbaa

namespace Go.Proofs.Ytpiokeidcnbmbaa
open Go.RowKit
set_option maxRecDepth 20000
set_option maxHeartbeats 2000000 in
theorem inner_ip (ps : Array Value) (h5 : ps[5]? = some (.bool false)) (h11 : ps[11]? = some (.bool true)) (tos id fr ttl pr src dst : Int) (io : List Int) (k ty co re sp dp : Int) (ns : Bool) (sq ak fl wi ur : Int) (lo ds : List Int) (hI : ps.extract 12 (12 + 8) = #[.int .i64 tos, .int .i64 id, .int .i64 fr, .int .i64 ttl, .int .i64 pr, .int .u32 src, .int .u32 dst, .string (strOfNums io)]) (hL : ps.extract 20 (20 + 14) = #[.int .i64 k, .int .i64 ty, .int .i64 co, .int .u32 re, .int .i64 sp, .int .i64 dp, .bool ns, .int .u32 sq, .int .u32 ak, .int .i64 fl, .int .i64 wi, .int .i64 ur, .string (strOfNums lo), .string (strOfNums ds)]) (n : Nat) (B : List Int) (w : World)
    (HP : Hid (∀ W, Calls Try.prog 62 #[.agg #[.int .i64 tos, .int .i64 id, .int .i64 fr, .int .i64 ttl, .int .i64 pr, .int .u32 src, .int .u32 dst, .string (strOfNums io)], .agg #[.int .i64 k, .int .i64 ty, .int .i64 co, .int .u32 re, .int .i64 sp, .int .i64 dp, .bool ns, .int .u32 sq, .int .u32 ak, .int .i64 fl, .int .i64 wi, .int .i64 ur, .string (strOfNums lo), .string (strOfNums ds)]] W fun e w' => ∃ a cap, e = .returned (.tuple #[.slice a n cap, .int .i64 0]) ∧ RB W w' (.slice a n cap) n B)) :
    Calls Try.prog 30 #[.agg ps] w fun e w' => ∃ a cap, e = .returned (.tuple #[.slice a n cap, .int .i64 0]) ∧ RB w w' (.slice a n cap) n B := by
  have R1 : Hid ((w.alloc (.cells ps 34)).heap[w.heap.size]? = some (.cells ps 34 (0, 0))) := heap_alloc_new w _
  have c5 := (Ca.cell_row R1.out 5).trans h5
  have c11 := (Ca.cell_row R1.out 11).trans h11
  have hI9 : (ps.extract 12 (12 + 8)).size = 8 := by rw [hI]; rfl
  have hL9 : (ps.extract 20 (20 + 14)).size = 14 := by rw [hL]; rfl
  clear h5 h11
  go_enter Try.func30, Try.ntmps30
  go_wp2_with (first
    | (refine Ca.wpList_load_at rfl 30 _ rfl w.heap.size 12 8 rfl ps 34 _ R1.out Try.underlying30 rfl hI9 (by kernel_rfl) ?_; rw [hI])
    | (refine Ca.wpList_load_at rfl 32 _ rfl w.heap.size 20 14 rfl ps 34 _ R1.out Try.underlying32 rfl hL9 (by kernel_rfl) ?_; rw [hL])
    | fail)
  refine (HP.out _).mono ?_
  rintro e W1 ⟨a, cap, rfl, r1⟩
  have R3 : Hid (RB w W1 (.slice a n cap) n B) := ⟨own_base r1.own (by simp), (below1 w _).trans (r1.bel.mono (by simp))⟩
  clear r1 HP R1 c5 c11
  go_wp2
  go_ret2
  exact ⟨a, cap, rfl, R3.out⟩
theorem inner_none (ps : Array Value) (h5 : ps[5]? = some (.bool false)) (h11 : ps[11]? = some (.bool false)) (w : World) :
    Calls Try.prog 30 #[.agg ps] w fun e w' => e = .returned (.tuple #[.slice none 0 0, .int .i64 0]) ∧ Below w.heap.size w w' := by
  have R1 : Hid ((w.alloc (.cells ps 34)).heap[w.heap.size]? = some (.cells ps 34 (0, 0))) := heap_alloc_new w _
  have c5 := (Ca.cell_row R1.out 5).trans h5
  have c11 := (Ca.cell_row R1.out 11).trans h11
  clear h5 h11
  go_enter Try.func30, Try.ntmps30
  go_wp2
  go_ret2
  exact ⟨rfl, below1 w _⟩
end Go.Proofs.Ytpiokeidcnbmbaa

namespace Go.Proofs.Ytpiokeidcnbmbaa
open Go.RowKit Go.Lib
set_option maxRecDepth 20000
set_option linter.unusedSimpArgs false
set_option maxHeartbeats 2000000 in
theorem kindOf_any (tos id fr ttl pr src dst : Int) (io : List Int) (w : World) : Calls Try.prog 57 #[.agg #[.int .i64 tos, .int .i64 id, .int .i64 fr, .int .i64 ttl, .int .i64 pr, .int .u32 src, .int .u32 dst, .string (strOfNums io)]] w fun e w' => e = .returned (.int .i64 (if wholeB fr = true then kindV pr else 0)) ∧ Below w.heap.size w w' := by
  have HW : Hid (∀ W, Calls Try.prog 20 #[.agg #[.int .i64 tos, .int .i64 id, .int .i64 fr, .int .i64 ttl, .int .i64 pr, .int .u32 src, .int .u32 dst, .string (strOfNums io)]] W fun e w' => e = .returned (.bool (wholeB fr)) ∧ Below W.heap.size W w') := fun W => ipwhole_any tos id fr ttl pr src dst io W
  generalize wholeB fr = b at *
  have fin : ∀ W1, Below (w.alloc (.cells #[.int .i64 tos, .int .i64 id, .int .i64 fr, .int .i64 ttl, .int .i64 pr, .int .u32 src, .int .u32 dst, .string (strOfNums io)] 30)).heap.size (w.alloc (.cells #[.int .i64 tos, .int .i64 id, .int .i64 fr, .int .i64 ttl, .int .i64 pr, .int .u32 src, .int .u32 dst, .string (strOfNums io)] 30)) W1 → Below w.heap.size w W1 := fun W1 hb => (below1 w _).trans (hb.mono (by simp))
  unfold kindV
  cases b
  · go_enter Try.func57, Try.ntmps57
    go_wp2_with fail
    refine (HW.out _).mono ?_
    rintro e W1 ⟨rfl, hb⟩
    have B1 : Hid (Below w.heap.size w W1) := fin _ hb
    clear hb fin
    go_wp2
    go_ret
    exact ⟨rfl, B1.out⟩
  by_cases h1 : pr = 1
  · subst h1
    go_enter Try.func57, Try.ntmps57
    go_wp2_with fail
    refine (HW.out _).mono ?_
    rintro e W1 ⟨rfl, hb⟩
    have B1 : Hid (Below w.heap.size w W1) := fin _ hb
    obtain ⟨x0, x1, x2, x3, x4, x5, x6, x7⟩ := AtB.eight (AtB.below (atB_new w #[.int .i64 tos, .int .i64 id, .int .i64 fr, .int .i64 ttl, .int .i64 1, .int .u32 src, .int .u32 dst, .string (strOfNums io)] 30 _ rfl) hb)
    clear hb fin
    go_wp2
    go_ret
    exact ⟨rfl, B1.out⟩
  by_cases h2 : pr = 17
  · subst h2
    go_enter Try.func57, Try.ntmps57
    go_wp2_with fail
    refine (HW.out _).mono ?_
    rintro e W1 ⟨rfl, hb⟩
    have B1 : Hid (Below w.heap.size w W1) := fin _ hb
    obtain ⟨x0, x1, x2, x3, x4, x5, x6, x7⟩ := AtB.eight (AtB.below (atB_new w #[.int .i64 tos, .int .i64 id, .int .i64 fr, .int .i64 ttl, .int .i64 17, .int .u32 src, .int .u32 dst, .string (strOfNums io)] 30 _ rfl) hb)
    clear hb fin
    go_wp2
    go_ret
    exact ⟨rfl, B1.out⟩
  by_cases h3 : pr = 6
  · subst h3
    go_enter Try.func57, Try.ntmps57
    go_wp2_with fail
    refine (HW.out _).mono ?_
    rintro e W1 ⟨rfl, hb⟩
    have B1 : Hid (Below w.heap.size w W1) := fin _ hb
    obtain ⟨x0, x1, x2, x3, x4, x5, x6, x7⟩ := AtB.eight (AtB.below (atB_new w #[.int .i64 tos, .int .i64 id, .int .i64 fr, .int .i64 ttl, .int .i64 6, .int .u32 src, .int .u32 dst, .string (strOfNums io)] 30 _ rfl) hb)
    clear hb fin
    go_wp2
    go_ret
    exact ⟨rfl, B1.out⟩
  · rw [if_pos rfl, if_neg h1, if_neg h2, if_neg h3]
    have e1 : (pr == 1) = false := by simp [h1]
    have e2 : (pr == 17) = false := by simp [h2]
    have e3 : (pr == 6) = false := by simp [h3]
    go_enter Try.func57, Try.ntmps57
    go_wp2_with fail
    refine (HW.out _).mono ?_
    rintro e W1 ⟨rfl, hb⟩
    have B1 : Hid (Below w.heap.size w W1) := fin _ hb
    obtain ⟨x0, x1, x2, x3, x4, x5, x6, x7⟩ := AtB.eight (AtB.below (atB_new w #[.int .i64 tos, .int .i64 id, .int .i64 fr, .int .i64 ttl, .int .i64 pr, .int .u32 src, .int .u32 dst, .string (strOfNums io)] 30 _ rfl) hb)
    clear hb fin
    go_wp2
    go_ret
    exact ⟨rfl, B1.out⟩
theorem own_below {W W' : World} {b : Nat} {e : TypeId} {k : Nat} {v : Value} {n : Nat} {xs : List Value} (h : W.ownsRow b e k v n xs) (hb : Below W.heap.size W W') : W'.ownsRow b e k v n xs := by
  refine ⟨h.1, ?_⟩
  rcases h.2 with h0 | ⟨g, cap, cur, e1, h1, h2, h3⟩
  · exact .inl h0
  · exact .inr ⟨g, cap, cur, e1, h1, (hb.block g (Ca.lt_of_heap h2)).trans h2, h3⟩
theorem step_str_rb {P : Program} {w1 w : World} {ops : Array Oper} {o : Oper} {act : Act} {K : Act → World → Prop} {Q : Exit → Act → World → Prop} {E : Prop} (hgd : o.guard = none) (s x : Operand) (u : TypeId)
    (ho : o.op = .call { callee := .builtin .append, args := #[s, x], argTypes := #[22, u] })
    (i : TypeInfo) (ht : P.underlying 22 = some (.slice 5)) (hu : P.underlying u = some .string) (hi : P.info? 5 = some i) (hz : i.zero = some (.int .u8 0)) (hsize : i.size = 1) (hby : i.bytes = 1)
    (v : Value) (n : Nat) (xs : List Int) (hs : act.eval s = v) (hr : RB w1 w v n xs)
    (os : List Int) (hf : ∀ i, 0 ≤ os.getD i 0 ∧ os.getD i 0 ≤ 255) (hx : act.eval x = .string (strOfNums os)) (hsum : n + os.length ≤ 140737488355328)
    (h : ∀ a' cap' w', RB w1 w' (.slice a' (n + os.length) cap') (n + os.length) (xs ++ os) → K (act.put o.dst (.slice a' (n + os.length) cap')) w') :
    if Region.wanted o (yielded ops act.tmps) = true then Oper.wp P o act w K Q else E := by
  have hw : Region.wanted o (yielded ops act.tmps) = true := by simp [Region.wanted, hgd]
  rw [if_pos hw]
  have hsz := strOfNums_size os
  obtain ⟨v', w', hrun, h2, h3, _⟩ := run_append_own_string (P := P) w w1.heap.size 22 u o.type 5 i ht hu hi hz hsize hby v n _ hr.own (strOfNums os) (by rw [hsz]; unfold maxLen; omega) (by rw [hsz]; omega) hr.bel.size
  rw [hsz, strCells_nums hf, ← List.map_append] at h2
  obtain ⟨a', cap', rfl, _⟩ := own_form h2
  unfold Oper.wp execOp
  simp only [ho, resolve, invoke, builtin, Sem.run_bind, Sem.run_pure, Result.andThen_ok, List.map_toArray, List.map_cons, List.map_nil, hs, hx, hrun]
  exact h a' cap' w' (rb_step hr h2 h3)
set_option maxHeartbeats 4000000 in
theorem print_ok (ps : Array Value) (hs : ps.size = 36) (d s tag et : Int) (tg : Bool) (hE : ps.extract 0 (0 + 5) = #[.int .u64 d, .int .u64 s, .bool tg, .int .i64 tag, .int .i64 et]) (bd pd : List Int) (h34 : ps[34]? = some (.string (strOfNums bd))) (h35 : ps[35]? = some (.string (strOfNums pd))) (fb : ∀ i, 0 ≤ bd.getD i 0 ∧ bd.getD i 0 ≤ 255) (fp : ∀ i, 0 ≤ pd.getD i 0 ∧ pd.getD i 0 ≤ 255)
    (n m : Nat) (HB IB : List Int) (fi : ∀ i, 0 ≤ IB.getD i 0 ∧ IB.getD i 0 ≤ 255) (hlen : n + m + bd.length + pd.length ≤ 9018) (w : World)
    (HF : Hid (∀ W, Calls Try.prog 28 #[.agg ps] W fun e w' => e = .returned (.bool true) ∧ Below W.heap.size W w'))
    (HH : Hid (∀ W, Calls Try.prog 29 #[.agg #[.int .u64 d, .int .u64 s, .bool tg, .int .i64 tag, .int .i64 et]] W fun e w' => ∃ a cap, e = .returned (.tuple #[.slice a n cap, .int .i64 0]) ∧ w'.ownsRow W.heap.size 5 1 (.slice a n cap) n (HB.map (Value.int .u8)) ∧ Below W.heap.size W w'))
    (HI : Hid (∀ W, Calls Try.prog 30 #[.agg ps] W fun e w' => ∃ a cap, e = .returned (.tuple #[.slice a m cap, .int .i64 0]) ∧ RB W w' (.slice a m cap) m IB)) :
    Calls Try.prog 11 #[.agg ps] w fun e w' => ∃ a cap, e = .returned (.tuple #[.slice a (n + m + bd.length + pd.length) cap, .int .i64 0]) ∧ RB w w' (.slice a (n + m + bd.length + pd.length) cap) (n + m + bd.length + pd.length) (HB ++ IB ++ bd ++ pd) := by
  obtain ⟨i0, hi, hz0, hz1, hz2⟩ := info_parts info5
  have hI0 : (n : Int) + m + bd.length + pd.length ≤ 9018 := by omega
  have hb1 := strOfNums_size bd
  have hb2 := strOfNums_size pd
  have w1 : IntKind.i64.wrap ((n : Int) + m) = (n : Int) + m := by simp [IntKind.wrap, IntKind.bits, IntKind.signed]; omega
  have w2 : IntKind.i64.wrap ((n : Int) + m + bd.length) = (n : Int) + m + bd.length := by simp [IntKind.wrap, IntKind.bits, IntKind.signed]; omega
  have w3 : IntKind.i64.wrap ((n : Int) + m + bd.length + pd.length) = (n : Int) + m + bd.length + pd.length := by simp [IntKind.wrap, IntKind.bits, IntKind.signed]; omega
  have h9E : (ps.extract 0 (0 + 5)).size = 5 := by rw [hE]; rfl
  have HS : Hid (ps.size = 36) := hs
  have H34 : Hid (ps[34]? = some (.string (strOfNums bd))) := h34
  have H35 : Hid (ps[35]? = some (.string (strOfNums pd))) := h35
  clear hs h34 h35
  obtain ⟨wb, hwb⟩ : ∃ V, w.alloc (.cells ps 34) = V := ⟨_, rfl⟩
  have R0 : Hid (wb.heap[w.heap.size]? = some (.cells ps 34 (0, 0))) := by show _ = _; rw [← hwb]; exact heap_alloc_new w _
  have LB : Hid (Below w.heap.size w wb) := by show Below _ _ _; rw [← hwb]; exact below1 w _
  have HWB : Hid (w.alloc (.cells ps 34) = wb) := hwb
  clear hwb
  go_enter Try.func11, Try.ntmps11
  go_wp2_with fail
  refine scope_from ?_
  go_wp2_with (refine wpList_load_row rfl 34 _ rfl (w.heap.size) rfl 34 ps (0, 0) _ (heap_alloc_new w _) Try.underlying34 rfl (info36 HS.out) ?_)
  refine (HF.out _).mono ?_
  rintro e W1 ⟨rfl, hb⟩
  rw [HWB.out] at hb
  have B1 : Hid (Below wb.heap.size wb W1) := hb
  have R1 : Hid (W1.heap[w.heap.size]? = some (.cells ps 34 (0, 0))) := (hb.block _ (Ca.lt_of_heap R0.out)).trans R0.out
  clear hb HF
  go_wp2_with (refine Ca.wpList_load_at rfl 25 _ rfl (w.heap.size) 0 5 rfl ps 34 _ R1.out Try.underlying25 rfl h9E (by kernel_rfl) ?_; rw [hE])
  refine (HH.out _).mono ?_
  rintro e W2 ⟨a0, c0, rfl, own2, hb⟩
  have B2 : Hid (Below wb.heap.size wb W2) := B1.out.trans (hb.mono B1.out.size)
  have R2 : Hid (W2.heap[w.heap.size]? = some (.cells ps 34 (0, 0))) := (hb.block _ (Ca.lt_of_heap R1.out)).trans R1.out
  have O2 : Hid (W2.ownsRow wb.heap.size 5 1 (.slice a0 n c0) n (HB.map (Value.int .u8))) := own_base own2 B1.out.size
  clear hb HH R1 B1 own2
  go_wp2_with (refine wpList_load_row rfl 34 _ rfl (w.heap.size) rfl 34 ps (0, 0) _ R2.out Try.underlying34 rfl (info36 HS.out) ?_)
  refine (HI.out _).mono ?_
  rintro e W3 ⟨a1, c1, rfl, r3⟩
  have hb := r3.bel
  have B3 : Hid (Below wb.heap.size wb W3) := B2.out.trans (hb.mono B2.out.size)
  have R3 : Hid (W3.heap[w.heap.size]? = some (.cells ps 34 (0, 0))) := (hb.block _ (Ca.lt_of_heap R2.out)).trans R2.out
  have O3 : Hid (RB wb W3 (.slice a0 n c0) n HB) := ⟨own_below O2.out hb, B3.out⟩
  have I3 : Hid (BS W3 a1 m IB) := own_bs r3.own fi (by omega)
  clear hb HI R2 B2 O2 r3
  have c34 := (Ca.cell_row R3.out 34).trans H34.out
  have c35 := (Ca.cell_row R3.out 35).trans H35.out
  go_wp2_with fail
  clear c34 c35
  refine wp_region_held_drew (S := (fun W => W.heap[w.heap.size]? = some (.cells ps 34 (0, 0)))) (by kernel_rfl) R3.out (fun hHeld => ?_)
  have O4 : Hid (RB wb W3.drew (.slice a0 n c0) n HB) := O3.out.drew
  have I4 : Hid (BS W3.drew a1 m IB) := I3.out.drew
  obtain ⟨W4, hW4⟩ : ∃ V, W3.drew = V := ⟨_, rfl⟩
  rw [hW4] at O4 I4 hHeld ⊢
  clear hW4 R3 O3 I3 B3
  refine wpAnyH_take (i := 0) (v := ?_) rfl (by kernel_rfl) (by kernel_rfl) (by kernel_rfl) (fun _ _ _ h => h) (Or.inl ⟨by rfl, ?_⟩) (by assumption) ?_
  rotate_left
  · (intro w hSw; (try dsimp only at hSw); go_simp; try with_reducible rfl)
  try simp only [List.getElem_toArray, List.getElem_cons_zero, List.getElem_cons_succ, Act.put, List.setIfInBounds_toArray, List.set_cons_zero, List.set_cons_succ]
  refine wpAnyH_take (i := 1) (v := ?_) rfl (by kernel_rfl) (by kernel_rfl) (by kernel_rfl) (fun _ _ _ h => h) (Or.inl ⟨by rfl, ?_⟩) (by assumption) ?_
  rotate_left
  · (intro w hSw; (try dsimp only at hSw); go_simp; try with_reducible rfl)
  try simp only [List.getElem_toArray, List.getElem_cons_zero, List.getElem_cons_succ, Act.put, List.setIfInBounds_toArray, List.set_cons_zero, List.set_cons_succ]
  refine wpAnyH_take (i := 3) (v := ?_) rfl (by kernel_rfl) (by kernel_rfl) (by kernel_rfl) (fun _ _ _ h => h) (Or.inl ⟨by rfl, ?_⟩) (by assumption) ?_
  rotate_left
  · (intro w hSw; (try dsimp only at hSw); go_simp; try with_reducible rfl)
  try simp only [List.getElem_toArray, List.getElem_cons_zero, List.getElem_cons_succ, Act.put, List.setIfInBounds_toArray, List.set_cons_zero, List.set_cons_succ]
  refine wpAnyH_take (i := 4) (v := .string (strOfNums bd)) rfl (by kernel_rfl) (by kernel_rfl) (by kernel_rfl) (fun _ _ _ h => h) (Or.inl ⟨by rfl, fun W hW => by have c := (Ca.cell_row hW 34).trans H34.out; go_simp⟩) (by assumption) ?_
  try simp only [List.getElem_toArray, List.getElem_cons_zero, List.getElem_cons_succ, Act.put, List.setIfInBounds_toArray, List.set_cons_zero, List.set_cons_succ]
  refine wpAnyH_take (i := 6) (v := ?_) rfl (by kernel_rfl) (by kernel_rfl) (by kernel_rfl) (fun _ _ _ h => h) (Or.inl ⟨by rfl, ?_⟩) (by assumption) ?_
  rotate_left
  · (intro w hSw; (try dsimp only at hSw); go_simp; try with_reducible rfl)
  try simp only [List.getElem_toArray, List.getElem_cons_zero, List.getElem_cons_succ, Act.put, List.setIfInBounds_toArray, List.set_cons_zero, List.set_cons_succ]
  refine wpAnyH_take (i := 7) (v := .string (strOfNums pd)) rfl (by kernel_rfl) (by kernel_rfl) (by kernel_rfl) (fun _ _ _ h => h) (Or.inl ⟨by rfl, fun W hW => by have c := (Ca.cell_row hW 35).trans H35.out; go_simp⟩) (by assumption) ?_
  try simp only [List.getElem_toArray, List.getElem_cons_zero, List.getElem_cons_succ, Act.put, List.setIfInBounds_toArray, List.set_cons_zero, List.set_cons_succ]
  refine wpAnyH_ready (rs := [2]) (by kernel_rfl) (by simp) ?_
  refine AllReadyH.cons (o := _) rfl (fun K hK => ?_) AllReadyH.nil
  refine step_append_rb (w1 := wb) Try.underlying22 info5 rfl (.tmp 39) (.tmp 40) rfl _ n HB rfl O4.out _ m c1 IB rfl I4.out (by omega) ?_
  intro a5 c5 W5 r5
  have R5 : Hid (W5.heap[w.heap.size]? = some (.cells ps 34 (0, 0))) := (r5.bel.block _ (Ca.lt_of_heap R0.out)).trans R0.out
  have O5 : Hid (RB wb W5 (.slice a5 (n + m) c5) (n + m) (HB ++ IB)) := r5
  clear r5 O4 I4
  refine hK _ _ R5.out (fun hHeld => ?_)
  try simp only [List.getElem_toArray, List.getElem_cons_zero, List.getElem_cons_succ, Act.put, List.setIfInBounds_toArray, List.set_cons_zero, List.set_cons_succ]
  refine wpAnyH_ready (rs := [5]) (by kernel_rfl) (by simp) ?_
  refine AllReadyH.cons (o := _) rfl (fun K hK => ?_) AllReadyH.nil
  refine step_str_rb (w1 := wb) rfl (.tmp 41) (.tmp 43) 9 rfl i0 Try.underlying22 Try.underlying9 hi hz0 hz1 hz2 _ (n + m) (HB ++ IB) rfl O5.out bd fb rfl (by omega) ?_
  intro a6 c6 W6 r6
  have R6 : Hid (W6.heap[w.heap.size]? = some (.cells ps 34 (0, 0))) := (r6.bel.block _ (Ca.lt_of_heap R0.out)).trans R0.out
  have O6 : Hid (RB wb W6 (.slice a6 (n + m + bd.length) c6) (n + m + bd.length) (HB ++ IB ++ bd)) := r6
  clear r6 O5 R5
  refine hK _ _ R6.out (fun hHeld => ?_)
  try simp only [List.getElem_toArray, List.getElem_cons_zero, List.getElem_cons_succ, Act.put, List.setIfInBounds_toArray, List.set_cons_zero, List.set_cons_succ]
  refine wpAnyH_ready (rs := [8]) (by kernel_rfl) (by simp) ?_
  refine AllReadyH.cons (o := _) rfl (fun K hK => ?_) AllReadyH.nil
  refine step_str_rb (w1 := wb) rfl (.tmp 44) (.tmp 46) 9 rfl i0 Try.underlying22 Try.underlying9 hi hz0 hz1 hz2 _ (n + m + bd.length) (HB ++ IB ++ bd) rfl O6.out pd fp rfl (by omega) ?_
  intro a7 c7 W7 r7
  have R7 : Hid (W7.heap[w.heap.size]? = some (.cells ps 34 (0, 0))) := (r7.bel.block _ (Ca.lt_of_heap R0.out)).trans R0.out
  have O7 : Hid (RB w W7 (.slice a7 (n + m + bd.length + pd.length) c7) (n + m + bd.length + pd.length) (HB ++ IB ++ bd ++ pd)) := ⟨own_base r7.own LB.out.size, LB.out.trans (r7.bel.mono LB.out.size)⟩
  clear r7 O6 R6
  refine hK _ _ R7.out (fun hHeld => ?_)
  try simp only [List.getElem_toArray, List.getElem_cons_zero, List.getElem_cons_succ, Act.put, List.setIfInBounds_toArray, List.set_cons_zero, List.set_cons_succ]
  refine wpAnyH_ready (rs := [9]) (by kernel_rfl) (by simp) ?_
  refine AllReadyH.cons (o := _) rfl (fun K hK => ?_) AllReadyH.nil
  go_simp
  refine hK _ _ R7.out (fun hHeld => ?_)
  try simp only [List.getElem_toArray, List.getElem_cons_zero, List.getElem_cons_succ, Act.put, List.setIfInBounds_toArray, List.set_cons_zero, List.set_cons_succ]
  refine wpAnyH_ready (rs := [10]) (by kernel_rfl) (by simp) ?_
  refine AllReadyH.cons (o := _) rfl (fun K hK => ?_) AllReadyH.nil
  go_simp
  refine hK _ _ R7.out (fun hHeld => ?_)
  refine wpAnyH_done (by kernel_rfl) ?_ _
  clear hHeld
  try simp only [List.getElem_toArray, List.getElem_cons_zero, List.getElem_cons_succ, Act.put, List.setIfInBounds_toArray, List.set_cons_zero, List.set_cons_succ]
  go_wp2
  simp only [Exit.jumpTo]
  go_ret2
  exact ⟨a7, c7, rfl, O7.out⟩
end Go.Proofs.Ytpiokeidcnbmbaa
