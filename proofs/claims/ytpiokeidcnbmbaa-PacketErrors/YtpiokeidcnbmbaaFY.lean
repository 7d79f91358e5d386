/- Parts of the proof, in one text. -/
import Derived.Test.YtpiokeidcnbmbaaFG1
import Derived.Test.YtpiokeidcnbmbaaL4u
import Derived.Deep.RegionHeld3
import Derived.Lib.AppendStr
import Derived.Test.YtpiokeidcnbmbaaCD
import Derived.Deep.DeepAppendWide
import Derived.Test.YtpiokeidcnbmbaaL4w
import Derived.Laws.StructEq
import Derived.Test.YtpiokeidcnbmbaaFG2
import Derived.Test.YtpiokeidcnbmbaaXG
import Derived.Test.YtpiokeidcnbmbaaL4n
import Derived.Test.YtpiokeidcnbmbaaIH
import Derived.Test.YtpiokeidcnbmbaaL4m
import Derived.Test.YtpiokeidcnbmbaaCE
namespace Go.Proofs.Ytpiokeidcnbmbaa
open Go.RowKit
set_option maxRecDepth 20000
theorem own_base {w : World} {b b' : Nat} {e : TypeId} {k : Nat} {v : Value} {n : Nat} {xs : List Value} (h : w.ownsRow b e k v n xs) (hb : b' ≤ b) : w.ownsRow b' e k v n xs := by
  refine ⟨h.1, ?_⟩
  rcases h.2 with h0 | ⟨g, cap, cur, e1, h1, h2⟩
  · exact .inl h0
  · exact .inr ⟨g, cap, cur, e1, Nat.le_trans hb h1, h2⟩
set_option maxHeartbeats 2000000 in
theorem printIp_l4 (tos id fr ttl pr src dst : Int) (io : List Int) (k ty co re sp dp : Int) (ns : Bool) (sq ak fl wi ur : Int) (lo ds : List Int) (f : Int) (hf : (f != 0) = true) (w : World)
    (HL : Hid (∀ W, Calls Try.prog 79 #[.int .u32 src, .int .u32 dst, .agg #[.int .i64 k, .int .i64 ty, .int .i64 co, .int .u32 re, .int .i64 sp, .int .i64 dp, .bool ns, .int .u32 sq, .int .u32 ak, .int .i64 fl, .int .i64 wi, .int .i64 ur, .string (strOfNums lo), .string (strOfNums ds)]] W fun e w' => e = .returned (.tuple #[.slice none 0 0, .int .i64 f]) ∧ Below W.heap.size W w')) :
    Calls Try.prog 62 #[.agg #[.int .i64 tos, .int .i64 id, .int .i64 fr, .int .i64 ttl, .int .i64 pr, .int .u32 src, .int .u32 dst, .string (strOfNums io)], .agg #[.int .i64 k, .int .i64 ty, .int .i64 co, .int .u32 re, .int .i64 sp, .int .i64 dp, .bool ns, .int .u32 sq, .int .u32 ak, .int .i64 fl, .int .i64 wi, .int .i64 ur, .string (strOfNums lo), .string (strOfNums ds)]] w fun e w' => e = .returned (.tuple #[.slice none 0 0, .int .i64 f]) ∧ Below w.heap.size w w' := by
  go_enter Try.func62, Try.ntmps62
  go_wp2_with fail
  refine (HL.out _).mono ?_
  rintro e W1 ⟨rfl, hb⟩
  have B1 : Hid (Below w.heap.size w W1) := (below2 w _ _).trans (hb.mono (by simp; omega))
  clear hb HL
  go_wp2
  go_ret2
  exact ⟨rfl, B1.out⟩
set_option maxHeartbeats 2000000 in
theorem printIp_ip (tos id fr ttl pr src dst : Int) (io : List Int) (k ty co re sp dp : Int) (ns : Bool) (sq ak fl wi ur : Int) (lo ds : List Int) (f : Int) (hf : (f != 0) = true) (N : Nat) (w : World)
    (HL : Hid (∀ W, Calls Try.prog 79 #[.int .u32 src, .int .u32 dst, .agg #[.int .i64 k, .int .i64 ty, .int .i64 co, .int .u32 re, .int .i64 sp, .int .i64 dp, .bool ns, .int .u32 sq, .int .u32 ak, .int .i64 fl, .int .i64 wi, .int .i64 ur, .string (strOfNums lo), .string (strOfNums ds)]] W fun e w' => ∃ g, e = .returned (.tuple #[.slice (some ⟨g, 0, none⟩) N N, .int .i64 0]) ∧ Below W.heap.size W w'))
    (HI : Hid (∀ W, Calls Try.prog 80 #[.agg #[.int .i64 tos, .int .i64 id, .int .i64 fr, .int .i64 ttl, .int .i64 pr, .int .u32 src, .int .u32 dst, .string (strOfNums io)], .int .i64 N] W fun e w' => e = .returned (.tuple #[.slice none 0 0, .int .i64 f]) ∧ Below W.heap.size W w')) :
    Calls Try.prog 62 #[.agg #[.int .i64 tos, .int .i64 id, .int .i64 fr, .int .i64 ttl, .int .i64 pr, .int .u32 src, .int .u32 dst, .string (strOfNums io)], .agg #[.int .i64 k, .int .i64 ty, .int .i64 co, .int .u32 re, .int .i64 sp, .int .i64 dp, .bool ns, .int .u32 sq, .int .u32 ak, .int .i64 fl, .int .i64 wi, .int .i64 ur, .string (strOfNums lo), .string (strOfNums ds)]] w fun e w' => e = .returned (.tuple #[.slice none 0 0, .int .i64 f]) ∧ Below w.heap.size w w' := by
  go_enter Try.func62, Try.ntmps62
  go_wp2_with fail
  refine (HL.out _).mono ?_
  rintro e W1 ⟨g, rfl, hb⟩
  have B1 : Hid (Below w.heap.size w W1) := (below2 w _ _).trans (hb.mono (by simp; omega))
  obtain ⟨x0, x1, x2, x3, x4, x5, x6, x7⟩ := AtB.eight (AtB.below ((atB_new w #[.int .i64 tos, .int .i64 id, .int .i64 fr, .int .i64 ttl, .int .i64 pr, .int .u32 src, .int .u32 dst, .string (strOfNums io)] 30 _ rfl).below (below1 _ _)) hb)
  clear hb HL
  go_wp2_with fail
  refine (HI.out _).mono ?_
  rintro e W2 ⟨rfl, hb⟩
  have B2 : Hid (Below w.heap.size w W2) := B1.out.trans (hb.mono B1.out.size)
  clear hb HI x0 x1 x2 x3 x4 x5 x6 x7 B1
  go_wp2
  go_ret2
  exact ⟨rfl, B2.out⟩
set_option maxHeartbeats 2000000 in
theorem printIp_ok (tos id fr ttl pr src dst : Int) (io : List Int) (k ty co re sp dp : Int) (ns : Bool) (sq ak fl wi ur : Int) (lo ds : List Int) (N M : Nat) (E I : List Int) (hNM : M + N ≤ 1000000) (w : World)
    (HL : Hid (∀ W, Calls Try.prog 79 #[.int .u32 src, .int .u32 dst, .agg #[.int .i64 k, .int .i64 ty, .int .i64 co, .int .u32 re, .int .i64 sp, .int .i64 dp, .bool ns, .int .u32 sq, .int .u32 ak, .int .i64 fl, .int .i64 wi, .int .i64 ur, .string (strOfNums lo), .string (strOfNums ds)]] W fun e w' => ∃ g, e = .returned (.tuple #[.slice (some ⟨g, 0, none⟩) N N, .int .i64 0]) ∧ EncS W w' g N N E))
    (HI : Hid (∀ W, Calls Try.prog 80 #[.agg #[.int .i64 tos, .int .i64 id, .int .i64 fr, .int .i64 ttl, .int .i64 pr, .int .u32 src, .int .u32 dst, .string (strOfNums io)], .int .i64 N] W fun e w' => ∃ a cap, e = .returned (.tuple #[.slice a M cap, .int .i64 0]) ∧ w'.ownsRow W.heap.size 5 1 (.slice a M cap) M (I.map (Value.int .u8)) ∧ Below W.heap.size W w')) :
    Calls Try.prog 62 #[.agg #[.int .i64 tos, .int .i64 id, .int .i64 fr, .int .i64 ttl, .int .i64 pr, .int .u32 src, .int .u32 dst, .string (strOfNums io)], .agg #[.int .i64 k, .int .i64 ty, .int .i64 co, .int .u32 re, .int .i64 sp, .int .i64 dp, .bool ns, .int .u32 sq, .int .u32 ak, .int .i64 fl, .int .i64 wi, .int .i64 ur, .string (strOfNums lo), .string (strOfNums ds)]] w fun e w' => ∃ a cap, e = .returned (.tuple #[.slice a (M + N) cap, .int .i64 0]) ∧ RB w w' (.slice a (M + N) cap) (M + N) (I ++ E) := by
  obtain ⟨i0, hi, hz0, hz1, hz2⟩ := info_parts info5
  go_enter Try.func62, Try.ntmps62
  go_wp2_with fail
  refine (HL.out _).mono ?_
  rintro e W1 ⟨g, rfl, e1⟩
  have hb := e1.bel
  have B1 : Hid (Below w.heap.size w W1) := (below2 w _ _).trans (hb.mono (by simp; omega))
  have E1 : Hid (BS W1 (some ⟨g, 0, none⟩) N E) := e1.bs
  obtain ⟨x0, x1, x2, x3, x4, x5, x6, x7⟩ := AtB.eight (AtB.below ((atB_new w #[.int .i64 tos, .int .i64 id, .int .i64 fr, .int .i64 ttl, .int .i64 pr, .int .u32 src, .int .u32 dst, .string (strOfNums io)] 30 _ rfl).below (below1 _ _)) hb)
  clear hb HL e1
  go_wp2_with fail
  refine (HI.out _).mono ?_
  rintro e W2 ⟨a, cap, rfl, own2, hb⟩
  have B2 : Hid (Below w.heap.size w W2) := B1.out.trans (hb.mono B1.out.size)
  have E2 : Hid (BS W2 (some ⟨g, 0, none⟩) N E) := E1.out.below hb
  have R2 : Hid (RB w W2 (.slice a M cap) M I) := ⟨own_base own2 B1.out.size, B2.out⟩
  clear hb HI x0 x1 x2 x3 x4 x5 x6 x7 B1 E1 own2
  go_wp2_with (at_builtin; refine wpList_append_rb (w1 := w) Try.underlying22 info5 (by rfl) _ _ rfl _ M I rfl R2.out _ N N E rfl E2.out (by omega) ?_)
  intro a3 c3 W3 r3
  have R3 : Hid (RB w W3 (.slice a3 (M + N) c3) (M + N) (I ++ E)) := r3
  clear r3 R2 E2 B2
  go_wp2
  go_ret2
  exact ⟨a3, c3, rfl, R3.out⟩
end Go.Proofs.Ytpiokeidcnbmbaa

namespace Go.Proofs.Ytpiokeidcnbmbaa
open Go.RowKit
set_option maxRecDepth 20000
set_option maxHeartbeats 2000000 in
theorem inner_ip (ps : Array Value) (h5 : ps[5]? = some (.bool false)) (h11 : ps[11]? = some (.bool true)) (tos id fr ttl pr src dst : Int) (io : List Int) (k ty co re sp dp : Int) (ns : Bool) (sq ak fl wi ur : Int) (lo ds : List Int) (hI : ps.extract 12 (12 + 8) = #[.int .i64 tos, .int .i64 id, .int .i64 fr, .int .i64 ttl, .int .i64 pr, .int .u32 src, .int .u32 dst, .string (strOfNums io)]) (hL : ps.extract 20 (20 + 14) = #[.int .i64 k, .int .i64 ty, .int .i64 co, .int .u32 re, .int .i64 sp, .int .i64 dp, .bool ns, .int .u32 sq, .int .u32 ak, .int .i64 fl, .int .i64 wi, .int .i64 ur, .string (strOfNums lo), .string (strOfNums ds)]) (n : Nat) (B : List Int) (w : World)
    (HP : Hid (∀ W, Calls Try.prog 62 #[.agg #[.int .i64 tos, .int .i64 id, .int .i64 fr, .int .i64 ttl, .int .i64 pr, .int .u32 src, .int .u32 dst, .string (strOfNums io)], .agg #[.int .i64 k, .int .i64 ty, .int .i64 co, .int .u32 re, .int .i64 sp, .int .i64 dp, .bool ns, .int .u32 sq, .int .u32 ak, .int .i64 fl, .int .i64 wi, .int .i64 ur, .string (strOfNums lo), .string (strOfNums ds)]] W fun e w' => ∃ a cap, e = .returned (.tuple #[.slice a n cap, .int .i64 0]) ∧ RB W w' (.slice a n cap) n B)) :
    Calls Try.prog 30 #[.agg ps] w fun e w' => ∃ a cap, e = .returned (.tuple #[.slice a n cap, .int .i64 0]) ∧ RB w w' (.slice a n cap) n B := by
  have R1 : Hid ((w.alloc (.cells ps 34)).heap[w.heap.size]? = some (.cells ps 34 (0, 0))) := heap_alloc_new w _
  have c5 := (Ca.cell_row R1.out 5).trans h5
  have c11 := (Ca.cell_row R1.out 11).trans h11
  have hI9 : (ps.extract 12 (12 + 8)).size = 8 := by rw [hI]; rfl
  have hL9 : (ps.extract 20 (20 + 14)).size = 14 := by rw [hL]; rfl
  clear h5 h11
  go_enter Try.func30, Try.ntmps30
  go_wp2_with (first
    | (refine Ca.wpList_load_at rfl 30 _ rfl w.heap.size 12 8 rfl ps 34 _ R1.out Try.underlying30 rfl hI9 (by kernel_rfl) ?_; rw [hI])
    | (refine Ca.wpList_load_at rfl 32 _ rfl w.heap.size 20 14 rfl ps 34 _ R1.out Try.underlying32 rfl hL9 (by kernel_rfl) ?_; rw [hL])
    | fail)
  refine (HP.out _).mono ?_
  rintro e W1 ⟨a, cap, rfl, r1⟩
  have R3 : Hid (RB w W1 (.slice a n cap) n B) := ⟨own_base r1.own (by simp), (below1 w _).trans (r1.bel.mono (by simp))⟩
  clear r1 HP R1 c5 c11
  go_wp2
  go_ret2
  exact ⟨a, cap, rfl, R3.out⟩
set_option maxHeartbeats 2000000 in
theorem inner_ipbad (ps : Array Value) (h5 : ps[5]? = some (.bool false)) (h11 : ps[11]? = some (.bool true)) (tos id fr ttl pr src dst : Int) (io : List Int) (k ty co re sp dp : Int) (ns : Bool) (sq ak fl wi ur : Int) (lo ds : List Int) (hI : ps.extract 12 (12 + 8) = #[.int .i64 tos, .int .i64 id, .int .i64 fr, .int .i64 ttl, .int .i64 pr, .int .u32 src, .int .u32 dst, .string (strOfNums io)]) (hL : ps.extract 20 (20 + 14) = #[.int .i64 k, .int .i64 ty, .int .i64 co, .int .u32 re, .int .i64 sp, .int .i64 dp, .bool ns, .int .u32 sq, .int .u32 ak, .int .i64 fl, .int .i64 wi, .int .i64 ur, .string (strOfNums lo), .string (strOfNums ds)]) (f : Int) (w : World)
    (HP : Hid (∀ W, Calls Try.prog 62 #[.agg #[.int .i64 tos, .int .i64 id, .int .i64 fr, .int .i64 ttl, .int .i64 pr, .int .u32 src, .int .u32 dst, .string (strOfNums io)], .agg #[.int .i64 k, .int .i64 ty, .int .i64 co, .int .u32 re, .int .i64 sp, .int .i64 dp, .bool ns, .int .u32 sq, .int .u32 ak, .int .i64 fl, .int .i64 wi, .int .i64 ur, .string (strOfNums lo), .string (strOfNums ds)]] W fun e w' => e = .returned (.tuple #[.slice none 0 0, .int .i64 f]) ∧ Below W.heap.size W w')) :
    Calls Try.prog 30 #[.agg ps] w fun e w' => e = .returned (.tuple #[.slice none 0 0, .int .i64 f]) ∧ Below w.heap.size w w' := by
  have R1 : Hid ((w.alloc (.cells ps 34)).heap[w.heap.size]? = some (.cells ps 34 (0, 0))) := heap_alloc_new w _
  have c5 := (Ca.cell_row R1.out 5).trans h5
  have c11 := (Ca.cell_row R1.out 11).trans h11
  have hI9 : (ps.extract 12 (12 + 8)).size = 8 := by rw [hI]; rfl
  have hL9 : (ps.extract 20 (20 + 14)).size = 14 := by rw [hL]; rfl
  clear h5 h11
  go_enter Try.func30, Try.ntmps30
  go_wp2_with (first
    | (refine Ca.wpList_load_at rfl 30 _ rfl w.heap.size 12 8 rfl ps 34 _ R1.out Try.underlying30 rfl hI9 (by kernel_rfl) ?_; rw [hI])
    | (refine Ca.wpList_load_at rfl 32 _ rfl w.heap.size 20 14 rfl ps 34 _ R1.out Try.underlying32 rfl hL9 (by kernel_rfl) ?_; rw [hL])
    | fail)
  refine (HP.out _).mono ?_
  rintro e W1 ⟨rfl, r1⟩
  have R3 : Hid (Below w.heap.size w W1) := (below1 w _).trans (r1.mono (by simp))
  clear r1 HP R1 c5 c11
  go_wp2
  go_ret2
  exact ⟨rfl, R3.out⟩
theorem inner_none (ps : Array Value) (h5 : ps[5]? = some (.bool false)) (h11 : ps[11]? = some (.bool false)) (w : World) :
    Calls Try.prog 30 #[.agg ps] w fun e w' => e = .returned (.tuple #[.slice none 0 0, .int .i64 0]) ∧ Below w.heap.size w w' := by
  have R1 : Hid ((w.alloc (.cells ps 34)).heap[w.heap.size]? = some (.cells ps 34 (0, 0))) := heap_alloc_new w _
  have c5 := (Ca.cell_row R1.out 5).trans h5
  have c11 := (Ca.cell_row R1.out 11).trans h11
  clear h5 h11
  go_enter Try.func30, Try.ntmps30
  go_wp2
  go_ret2
  exact ⟨rfl, below1 w _⟩
end Go.Proofs.Ytpiokeidcnbmbaa

namespace Go.Proofs.Ytpiokeidcnbmbaa
open Go.RowKit Go.Lib
set_option maxRecDepth 20000
set_option linter.unusedSimpArgs false
set_option maxHeartbeats 2000000 in
theorem kindOf_any (tos id fr ttl pr src dst : Int) (io : List Int) (w : World) : Calls Try.prog 57 #[.agg #[.int .i64 tos, .int .i64 id, .int .i64 fr, .int .i64 ttl, .int .i64 pr, .int .u32 src, .int .u32 dst, .string (strOfNums io)]] w fun e w' => e = .returned (.int .i64 (if wholeB fr = true then kindV pr else 0)) ∧ Below w.heap.size w w' := by
  have HW : Hid (∀ W, Calls Try.prog 20 #[.agg #[.int .i64 tos, .int .i64 id, .int .i64 fr, .int .i64 ttl, .int .i64 pr, .int .u32 src, .int .u32 dst, .string (strOfNums io)]] W fun e w' => e = .returned (.bool (wholeB fr)) ∧ Below W.heap.size W w') := fun W => ipwhole_any tos id fr ttl pr src dst io W
  generalize wholeB fr = b at *
  have fin : ∀ W1, Below (w.alloc (.cells #[.int .i64 tos, .int .i64 id, .int .i64 fr, .int .i64 ttl, .int .i64 pr, .int .u32 src, .int .u32 dst, .string (strOfNums io)] 30)).heap.size (w.alloc (.cells #[.int .i64 tos, .int .i64 id, .int .i64 fr, .int .i64 ttl, .int .i64 pr, .int .u32 src, .int .u32 dst, .string (strOfNums io)] 30)) W1 → Below w.heap.size w W1 := fun W1 hb => (below1 w _).trans (hb.mono (by simp))
  unfold kindV
  cases b
  · go_enter Try.func57, Try.ntmps57
    go_wp2_with fail
    refine (HW.out _).mono ?_
    rintro e W1 ⟨rfl, hb⟩
    have B1 : Hid (Below w.heap.size w W1) := fin _ hb
    clear hb fin
    go_wp2
    go_ret
    exact ⟨rfl, B1.out⟩
  by_cases h1 : pr = 1
  · subst h1
    go_enter Try.func57, Try.ntmps57
    go_wp2_with fail
    refine (HW.out _).mono ?_
    rintro e W1 ⟨rfl, hb⟩
    have B1 : Hid (Below w.heap.size w W1) := fin _ hb
    obtain ⟨x0, x1, x2, x3, x4, x5, x6, x7⟩ := AtB.eight (AtB.below (atB_new w #[.int .i64 tos, .int .i64 id, .int .i64 fr, .int .i64 ttl, .int .i64 1, .int .u32 src, .int .u32 dst, .string (strOfNums io)] 30 _ rfl) hb)
    clear hb fin
    go_wp2
    go_ret
    exact ⟨rfl, B1.out⟩
  by_cases h2 : pr = 17
  · subst h2
    go_enter Try.func57, Try.ntmps57
    go_wp2_with fail
    refine (HW.out _).mono ?_
    rintro e W1 ⟨rfl, hb⟩
    have B1 : Hid (Below w.heap.size w W1) := fin _ hb
    obtain ⟨x0, x1, x2, x3, x4, x5, x6, x7⟩ := AtB.eight (AtB.below (atB_new w #[.int .i64 tos, .int .i64 id, .int .i64 fr, .int .i64 ttl, .int .i64 17, .int .u32 src, .int .u32 dst, .string (strOfNums io)] 30 _ rfl) hb)
    clear hb fin
    go_wp2
    go_ret
    exact ⟨rfl, B1.out⟩
  by_cases h3 : pr = 6
  · subst h3
    go_enter Try.func57, Try.ntmps57
    go_wp2_with fail
    refine (HW.out _).mono ?_
    rintro e W1 ⟨rfl, hb⟩
    have B1 : Hid (Below w.heap.size w W1) := fin _ hb
    obtain ⟨x0, x1, x2, x3, x4, x5, x6, x7⟩ := AtB.eight (AtB.below (atB_new w #[.int .i64 tos, .int .i64 id, .int .i64 fr, .int .i64 ttl, .int .i64 6, .int .u32 src, .int .u32 dst, .string (strOfNums io)] 30 _ rfl) hb)
    clear hb fin
    go_wp2
    go_ret
    exact ⟨rfl, B1.out⟩
  · rw [if_pos rfl, if_neg h1, if_neg h2, if_neg h3]
    have e1 : (pr == 1) = false := by simp [h1]
    have e2 : (pr == 17) = false := by simp [h2]
    have e3 : (pr == 6) = false := by simp [h3]
    go_enter Try.func57, Try.ntmps57
    go_wp2_with fail
    refine (HW.out _).mono ?_
    rintro e W1 ⟨rfl, hb⟩
    have B1 : Hid (Below w.heap.size w W1) := fin _ hb
    obtain ⟨x0, x1, x2, x3, x4, x5, x6, x7⟩ := AtB.eight (AtB.below (atB_new w #[.int .i64 tos, .int .i64 id, .int .i64 fr, .int .i64 ttl, .int .i64 pr, .int .u32 src, .int .u32 dst, .string (strOfNums io)] 30 _ rfl) hb)
    clear hb fin
    go_wp2
    go_ret
    exact ⟨rfl, B1.out⟩
theorem own_below {W W' : World} {b : Nat} {e : TypeId} {k : Nat} {v : Value} {n : Nat} {xs : List Value} (h : W.ownsRow b e k v n xs) (hb : Below W.heap.size W W') : W'.ownsRow b e k v n xs := by
  refine ⟨h.1, ?_⟩
  rcases h.2 with h0 | ⟨g, cap, cur, e1, h1, h2, h3⟩
  · exact .inl h0
  · exact .inr ⟨g, cap, cur, e1, h1, (hb.block g (Ca.lt_of_heap h2)).trans h2, h3⟩
theorem step_str_rb {P : Program} {w1 w : World} {ops : Array Oper} {o : Oper} {act : Act} {K : Act → World → Prop} {Q : Exit → Act → World → Prop} {E : Prop} (hgd : o.guard = none) (s x : Operand) (u : TypeId)
    (ho : o.op = .call { callee := .builtin .append, args := #[s, x], argTypes := #[22, u] })
    (i : TypeInfo) (ht : P.underlying 22 = some (.slice 5)) (hu : P.underlying u = some .string) (hi : P.info? 5 = some i) (hz : i.zero = some (.int .u8 0)) (hsize : i.size = 1) (hby : i.bytes = 1)
    (v : Value) (n : Nat) (xs : List Int) (hs : act.eval s = v) (hr : RB w1 w v n xs)
    (os : List Int) (hf : ∀ i, 0 ≤ os.getD i 0 ∧ os.getD i 0 ≤ 255) (hx : act.eval x = .string (strOfNums os)) (hsum : n + os.length ≤ 140737488355328)
    (h : ∀ a' cap' w', RB w1 w' (.slice a' (n + os.length) cap') (n + os.length) (xs ++ os) → K (act.put o.dst (.slice a' (n + os.length) cap')) w') :
    if Region.wanted o (yielded ops act.tmps) = true then Oper.wp P o act w K Q else E := by
  have hw : Region.wanted o (yielded ops act.tmps) = true := by simp [Region.wanted, hgd]
  rw [if_pos hw]
  have hsz := strOfNums_size os
  obtain ⟨v', w', hrun, h2, h3, _⟩ := run_append_own_string (P := P) w w1.heap.size 22 u o.type 5 i ht hu hi hz hsize hby v n _ hr.own (strOfNums os) (by rw [hsz]; unfold maxLen; omega) (by rw [hsz]; omega) hr.bel.size
  rw [hsz, strCells_nums hf, ← List.map_append] at h2
  obtain ⟨a', cap', rfl, _⟩ := own_form h2
  unfold Oper.wp execOp
  simp only [ho, resolve, invoke, builtin, Sem.run_bind, Sem.run_pure, Result.andThen_ok, List.map_toArray, List.map_cons, List.map_nil, hs, hx, hrun]
  exact h a' cap' w' (rb_step hr h2 h3)
set_option maxHeartbeats 4000000 in
theorem print_ok (ps : Array Value) (hs : ps.size = 36) (d s tag et : Int) (tg : Bool) (hE : ps.extract 0 (0 + 5) = #[.int .u64 d, .int .u64 s, .bool tg, .int .i64 tag, .int .i64 et]) (bd pd : List Int) (h34 : ps[34]? = some (.string (strOfNums bd))) (h35 : ps[35]? = some (.string (strOfNums pd))) (fb : ∀ i, 0 ≤ bd.getD i 0 ∧ bd.getD i 0 ≤ 255) (fp : ∀ i, 0 ≤ pd.getD i 0 ∧ pd.getD i 0 ≤ 255)
    (n m : Nat) (HB IB : List Int) (fi : ∀ i, 0 ≤ IB.getD i 0 ∧ IB.getD i 0 ≤ 255) (hlen : n + m + bd.length + pd.length ≤ 9018) (w : World)
    (HF : Hid (∀ W, Calls Try.prog 28 #[.agg ps] W fun e w' => e = .returned (.bool true) ∧ Below W.heap.size W w'))
    (HH : Hid (∀ W, Calls Try.prog 29 #[.agg #[.int .u64 d, .int .u64 s, .bool tg, .int .i64 tag, .int .i64 et]] W fun e w' => ∃ a cap, e = .returned (.tuple #[.slice a n cap, .int .i64 0]) ∧ w'.ownsRow W.heap.size 5 1 (.slice a n cap) n (HB.map (Value.int .u8)) ∧ Below W.heap.size W w'))
    (HI : Hid (∀ W, Calls Try.prog 30 #[.agg ps] W fun e w' => ∃ a cap, e = .returned (.tuple #[.slice a m cap, .int .i64 0]) ∧ RB W w' (.slice a m cap) m IB)) :
    Calls Try.prog 11 #[.agg ps] w fun e w' => ∃ a cap, e = .returned (.tuple #[.slice a (n + m + bd.length + pd.length) cap, .int .i64 0]) ∧ RB w w' (.slice a (n + m + bd.length + pd.length) cap) (n + m + bd.length + pd.length) (HB ++ IB ++ bd ++ pd) := by
  obtain ⟨i0, hi, hz0, hz1, hz2⟩ := info_parts info5
  have hI0 : (n : Int) + m + bd.length + pd.length ≤ 9018 := by omega
  have hb1 := strOfNums_size bd
  have hb2 := strOfNums_size pd
  have w1 : IntKind.i64.wrap ((n : Int) + m) = (n : Int) + m := by simp [IntKind.wrap, IntKind.bits, IntKind.signed]; omega
  have w2 : IntKind.i64.wrap ((n : Int) + m + bd.length) = (n : Int) + m + bd.length := by simp [IntKind.wrap, IntKind.bits, IntKind.signed]; omega
  have w3 : IntKind.i64.wrap ((n : Int) + m + bd.length + pd.length) = (n : Int) + m + bd.length + pd.length := by simp [IntKind.wrap, IntKind.bits, IntKind.signed]; omega
  have h9E : (ps.extract 0 (0 + 5)).size = 5 := by rw [hE]; rfl
  have HS : Hid (ps.size = 36) := hs
  have H34 : Hid (ps[34]? = some (.string (strOfNums bd))) := h34
  have H35 : Hid (ps[35]? = some (.string (strOfNums pd))) := h35
  clear hs h34 h35
  obtain ⟨wb, hwb⟩ : ∃ V, w.alloc (.cells ps 34) = V := ⟨_, rfl⟩
  have R0 : Hid (wb.heap[w.heap.size]? = some (.cells ps 34 (0, 0))) := by show _ = _; rw [← hwb]; exact heap_alloc_new w _
  have LB : Hid (Below w.heap.size w wb) := by show Below _ _ _; rw [← hwb]; exact below1 w _
  have HWB : Hid (w.alloc (.cells ps 34) = wb) := hwb
  clear hwb
  go_enter Try.func11, Try.ntmps11
  go_wp2_with fail
  refine scope_from ?_
  go_wp2_with (refine wpList_load_row rfl 34 _ rfl (w.heap.size) rfl 34 ps (0, 0) _ (heap_alloc_new w _) Try.underlying34 rfl (info36 HS.out) ?_)
  refine (HF.out _).mono ?_
  rintro e W1 ⟨rfl, hb⟩
  rw [HWB.out] at hb
  have B1 : Hid (Below wb.heap.size wb W1) := hb
  have R1 : Hid (W1.heap[w.heap.size]? = some (.cells ps 34 (0, 0))) := (hb.block _ (Ca.lt_of_heap R0.out)).trans R0.out
  clear hb HF
  go_wp2_with (refine Ca.wpList_load_at rfl 25 _ rfl (w.heap.size) 0 5 rfl ps 34 _ R1.out Try.underlying25 rfl h9E (by kernel_rfl) ?_; rw [hE])
  refine (HH.out _).mono ?_
  rintro e W2 ⟨a0, c0, rfl, own2, hb⟩
  have B2 : Hid (Below wb.heap.size wb W2) := B1.out.trans (hb.mono B1.out.size)
  have R2 : Hid (W2.heap[w.heap.size]? = some (.cells ps 34 (0, 0))) := (hb.block _ (Ca.lt_of_heap R1.out)).trans R1.out
  have O2 : Hid (W2.ownsRow wb.heap.size 5 1 (.slice a0 n c0) n (HB.map (Value.int .u8))) := own_base own2 B1.out.size
  clear hb HH R1 B1 own2
  go_wp2_with (refine wpList_load_row rfl 34 _ rfl (w.heap.size) rfl 34 ps (0, 0) _ R2.out Try.underlying34 rfl (info36 HS.out) ?_)
  refine (HI.out _).mono ?_
  rintro e W3 ⟨a1, c1, rfl, r3⟩
  have hb := r3.bel
  have B3 : Hid (Below wb.heap.size wb W3) := B2.out.trans (hb.mono B2.out.size)
  have R3 : Hid (W3.heap[w.heap.size]? = some (.cells ps 34 (0, 0))) := (hb.block _ (Ca.lt_of_heap R2.out)).trans R2.out
  have O3 : Hid (RB wb W3 (.slice a0 n c0) n HB) := ⟨own_below O2.out hb, B3.out⟩
  have I3 : Hid (BS W3 a1 m IB) := own_bs r3.own fi (by omega)
  clear hb HI R2 B2 O2 r3
  have c34 := (Ca.cell_row R3.out 34).trans H34.out
  have c35 := (Ca.cell_row R3.out 35).trans H35.out
  go_wp2_with fail
  clear c34 c35
  refine wp_region_held_drew (S := (fun W => W.heap[w.heap.size]? = some (.cells ps 34 (0, 0)))) (by kernel_rfl) R3.out (fun hHeld => ?_)
  have O4 : Hid (RB wb W3.drew (.slice a0 n c0) n HB) := O3.out.drew
  have I4 : Hid (BS W3.drew a1 m IB) := I3.out.drew
  obtain ⟨W4, hW4⟩ : ∃ V, W3.drew = V := ⟨_, rfl⟩
  rw [hW4] at O4 I4 hHeld ⊢
  clear hW4 R3 O3 I3 B3
  refine wpAnyH_take (i := 0) (v := ?_) rfl (by kernel_rfl) (by kernel_rfl) (by kernel_rfl) (fun _ _ _ h => h) (Or.inl ⟨by rfl, ?_⟩) (by assumption) ?_
  rotate_left
  · (intro w hSw; (try dsimp only at hSw); go_simp; try with_reducible rfl)
  try simp only [List.getElem_toArray, List.getElem_cons_zero, List.getElem_cons_succ, Act.put, List.setIfInBounds_toArray, List.set_cons_zero, List.set_cons_succ]
  refine wpAnyH_take (i := 1) (v := ?_) rfl (by kernel_rfl) (by kernel_rfl) (by kernel_rfl) (fun _ _ _ h => h) (Or.inl ⟨by rfl, ?_⟩) (by assumption) ?_
  rotate_left
  · (intro w hSw; (try dsimp only at hSw); go_simp; try with_reducible rfl)
  try simp only [List.getElem_toArray, List.getElem_cons_zero, List.getElem_cons_succ, Act.put, List.setIfInBounds_toArray, List.set_cons_zero, List.set_cons_succ]
  refine wpAnyH_take (i := 3) (v := ?_) rfl (by kernel_rfl) (by kernel_rfl) (by kernel_rfl) (fun _ _ _ h => h) (Or.inl ⟨by rfl, ?_⟩) (by assumption) ?_
  rotate_left
  · (intro w hSw; (try dsimp only at hSw); go_simp; try with_reducible rfl)
  try simp only [List.getElem_toArray, List.getElem_cons_zero, List.getElem_cons_succ, Act.put, List.setIfInBounds_toArray, List.set_cons_zero, List.set_cons_succ]
  refine wpAnyH_take (i := 4) (v := .string (strOfNums bd)) rfl (by kernel_rfl) (by kernel_rfl) (by kernel_rfl) (fun _ _ _ h => h) (Or.inl ⟨by rfl, fun W hW => by have c := (Ca.cell_row hW 34).trans H34.out; go_simp⟩) (by assumption) ?_
  try simp only [List.getElem_toArray, List.getElem_cons_zero, List.getElem_cons_succ, Act.put, List.setIfInBounds_toArray, List.set_cons_zero, List.set_cons_succ]
  refine wpAnyH_take (i := 6) (v := ?_) rfl (by kernel_rfl) (by kernel_rfl) (by kernel_rfl) (fun _ _ _ h => h) (Or.inl ⟨by rfl, ?_⟩) (by assumption) ?_
  rotate_left
  · (intro w hSw; (try dsimp only at hSw); go_simp; try with_reducible rfl)
  try simp only [List.getElem_toArray, List.getElem_cons_zero, List.getElem_cons_succ, Act.put, List.setIfInBounds_toArray, List.set_cons_zero, List.set_cons_succ]
  refine wpAnyH_take (i := 7) (v := .string (strOfNums pd)) rfl (by kernel_rfl) (by kernel_rfl) (by kernel_rfl) (fun _ _ _ h => h) (Or.inl ⟨by rfl, fun W hW => by have c := (Ca.cell_row hW 35).trans H35.out; go_simp⟩) (by assumption) ?_
  try simp only [List.getElem_toArray, List.getElem_cons_zero, List.getElem_cons_succ, Act.put, List.setIfInBounds_toArray, List.set_cons_zero, List.set_cons_succ]
  refine wpAnyH_ready (rs := [2]) (by kernel_rfl) (by simp) ?_
  refine AllReadyH.cons (o := _) rfl (fun K hK => ?_) AllReadyH.nil
  refine step_append_rb (w1 := wb) Try.underlying22 info5 rfl (.tmp 39) (.tmp 40) rfl _ n HB rfl O4.out _ m c1 IB rfl I4.out (by omega) ?_
  intro a5 c5 W5 r5
  have R5 : Hid (W5.heap[w.heap.size]? = some (.cells ps 34 (0, 0))) := (r5.bel.block _ (Ca.lt_of_heap R0.out)).trans R0.out
  have O5 : Hid (RB wb W5 (.slice a5 (n + m) c5) (n + m) (HB ++ IB)) := r5
  clear r5 O4 I4
  refine hK _ _ R5.out (fun hHeld => ?_)
  try simp only [List.getElem_toArray, List.getElem_cons_zero, List.getElem_cons_succ, Act.put, List.setIfInBounds_toArray, List.set_cons_zero, List.set_cons_succ]
  refine wpAnyH_ready (rs := [5]) (by kernel_rfl) (by simp) ?_
  refine AllReadyH.cons (o := _) rfl (fun K hK => ?_) AllReadyH.nil
  refine step_str_rb (w1 := wb) rfl (.tmp 41) (.tmp 43) 9 rfl i0 Try.underlying22 Try.underlying9 hi hz0 hz1 hz2 _ (n + m) (HB ++ IB) rfl O5.out bd fb rfl (by omega) ?_
  intro a6 c6 W6 r6
  have R6 : Hid (W6.heap[w.heap.size]? = some (.cells ps 34 (0, 0))) := (r6.bel.block _ (Ca.lt_of_heap R0.out)).trans R0.out
  have O6 : Hid (RB wb W6 (.slice a6 (n + m + bd.length) c6) (n + m + bd.length) (HB ++ IB ++ bd)) := r6
  clear r6 O5 R5
  refine hK _ _ R6.out (fun hHeld => ?_)
  try simp only [List.getElem_toArray, List.getElem_cons_zero, List.getElem_cons_succ, Act.put, List.setIfInBounds_toArray, List.set_cons_zero, List.set_cons_succ]
  refine wpAnyH_ready (rs := [8]) (by kernel_rfl) (by simp) ?_
  refine AllReadyH.cons (o := _) rfl (fun K hK => ?_) AllReadyH.nil
  refine step_str_rb (w1 := wb) rfl (.tmp 44) (.tmp 46) 9 rfl i0 Try.underlying22 Try.underlying9 hi hz0 hz1 hz2 _ (n + m + bd.length) (HB ++ IB ++ bd) rfl O6.out pd fp rfl (by omega) ?_
  intro a7 c7 W7 r7
  have R7 : Hid (W7.heap[w.heap.size]? = some (.cells ps 34 (0, 0))) := (r7.bel.block _ (Ca.lt_of_heap R0.out)).trans R0.out
  have O7 : Hid (RB w W7 (.slice a7 (n + m + bd.length + pd.length) c7) (n + m + bd.length + pd.length) (HB ++ IB ++ bd ++ pd)) := ⟨own_base r7.own LB.out.size, LB.out.trans (r7.bel.mono LB.out.size)⟩
  clear r7 O6 R6
  refine hK _ _ R7.out (fun hHeld => ?_)
  try simp only [List.getElem_toArray, List.getElem_cons_zero, List.getElem_cons_succ, Act.put, List.setIfInBounds_toArray, List.set_cons_zero, List.set_cons_succ]
  refine wpAnyH_ready (rs := [9]) (by kernel_rfl) (by simp) ?_
  refine AllReadyH.cons (o := _) rfl (fun K hK => ?_) AllReadyH.nil
  go_simp
  refine hK _ _ R7.out (fun hHeld => ?_)
  try simp only [List.getElem_toArray, List.getElem_cons_zero, List.getElem_cons_succ, Act.put, List.setIfInBounds_toArray, List.set_cons_zero, List.set_cons_succ]
  refine wpAnyH_ready (rs := [10]) (by kernel_rfl) (by simp) ?_
  refine AllReadyH.cons (o := _) rfl (fun K hK => ?_) AllReadyH.nil
  go_simp
  refine hK _ _ R7.out (fun hHeld => ?_)
  refine wpAnyH_done (by kernel_rfl) ?_ _
  clear hHeld
  try simp only [List.getElem_toArray, List.getElem_cons_zero, List.getElem_cons_succ, Act.put, List.setIfInBounds_toArray, List.set_cons_zero, List.set_cons_succ]
  go_wp2
  simp only [Exit.jumpTo]
  go_ret2
  exact ⟨a7, c7, rfl, O7.out⟩
end Go.Proofs.Ytpiokeidcnbmbaa

namespace Go.Proofs.Ytpiokeidcnbmbaa
open Go.RowKit
set_option maxRecDepth 20000
set_option linter.unusedSimpArgs false
/-- append of a text to a row of the call's own that is not empty, also where both together take more than 2^47 bytes. -/
theorem append_str_wide {P : Program} (w : World) (base : Nat) (t u ty : TypeId) (i : TypeInfo) (ht : P.underlying t = some (.slice 5)) (hu : P.underlying u = some .string) (hi : P.info? 5 = some i) (hz : i.zero = some (.int .u8 0)) (hsize : i.size = 1) (hby : i.bytes = 1)
    (v : Value) (n : Nat) (xs : List Value) (hown : w.ownsRow base 5 1 v n xs) (hn : 0 < n) (s : ByteArray) (hbig : n + s.size ≤ 211106232532992) (hbase : base ≤ w.heap.size) :
    ∃ v' w', (Builtin.append_ #[t, u] ty #[v, .string s]).run P w = .ok v' w' ∧ w'.ownsRow base 5 1 v' (n + s.size) (xs ++ Lib.strCells s) ∧ w.grownBy w' v.ownBlock := by
  by_cases hc : n + s.size ≤ 140737488355328
  · obtain ⟨v', w', h1, h2, h3, _⟩ := Lib.run_append_own_string (P := P) w base t u ty 5 i ht hu hi hz hsize hby v n xs hown s (by unfold maxLen; omega) hc hbase
    exact ⟨v', w', h1, h2, h3⟩
  have hx : xs.length = n := by simpa using hown.1
  have hs := Lib.strCells_length s
  have hall : (xs ++ Lib.strCells s).length = (n + s.size) * 1 := by simp [hx, hs]
  rcases hown.2 with ⟨_, h0⟩ | ⟨g, cap, cur, rfl, k1, k2, k3, k4, k5, k6⟩
  · omega
  have k5' : cur.size = cap := by simpa using k5
  have k6' : cur.toList.take n = xs := by simpa using k6
  by_cases hr : n + s.size ≤ cap
  · have run := Lib.run_append_room_string (P := P) w t u ty 5 i ht hu hi hsize g n cap cur k2 s hr (by omega)
    refine ⟨_, _, run, ⟨hall, .inr ⟨g, cap, _, rfl, k1, setRow_heap w g cur _ 5 _ k2, hr, k4, ?_, ?_⟩⟩, rfl, rfl, rfl, by simp, fun k _ hk => setRow_other w g k _ (fun e => hk (by simp [Value.ownBlock, e]))⟩
    · simp only [List.size_toArray, List.length_append, List.length_take, List.length_drop, Array.length_toList, hs]
      omega
    · rw [k6', ← hall]
      exact List.take_left
  · have hm : n + s.size ≤ maxLen := by unfold maxLen; omega
    have run := Lib.run_append_grow_string (P := P) w t u ty 5 i (.int .u8 0) ht hu hi hz ⟨g, 0, none⟩ n cap xs (by rw [hsize]; omega) (hown.cells (g := g) rfl) s (by omega) (by omega) (by rw [hby]; exact growslice_fits_wide (by omega) (by omega))
    have c1 := grownCap_ge w (n + s.size) cap 5
    have c2 := grownCap_le_maxLen w (n + s.size) cap 5 hm
    refine ⟨_, _, run, ⟨hall, .inr ⟨w.heap.size, _, _, rfl, hbase, heap_alloc_new w.drew _, c1, c2, ?_, ?_⟩⟩, rfl, rfl, rfl, by simp, fun k hk _ => heap_alloc_old w.drew _ hk⟩
    · have one : (Value.int IntKind.u8 0).cells.size = 1 := rfl
      simp only [Array.size_append, List.size_toArray, size_zeroCells, one, hx, hs]
      omega
    · simp only [Array.toList_append, List.append_assoc]
      rw [← List.append_assoc, ← hall]
      exact List.take_left
theorem BS.grown {W W' : World} {a : Option Addr} {m : Nat} {zs : List Int} {r : Option Nat} (h : BS W a m zs) (hg : W.grownBy W' r) (hne : ∀ x k, a = some x → r = some k → x.block ≠ k) : BS W' a m zs := by
  refine ⟨h.len, h.fits, h.room, ?_⟩
  rcases h.cells with h0 | ⟨b, off, rfl, hc⟩
  · exact .inl h0
  · refine .inr ⟨b, off, rfl, fun i hi => ?_⟩
    have hb := hg.block b (cell_lt (hc i hi)) (fun e => hne _ _ rfl e.symm rfl)
    rw [← hc i hi]
    unfold World.cell?
    rw [hb]
theorem step_str_wide {P : Program} {w1 w : World} {ops : Array Oper} {o : Oper} {act : Act} {K : Act → World → Prop} {Q : Exit → Act → World → Prop} {E : Prop} (hgd : o.guard = none) (s x : Operand) (u : TypeId)
    (ho : o.op = .call { callee := .builtin .append, args := #[s, x], argTypes := #[22, u] })
    (i : TypeInfo) (ht : P.underlying 22 = some (.slice 5)) (hu : P.underlying u = some .string) (hi : P.info? 5 = some i) (hz : i.zero = some (.int .u8 0)) (hsize : i.size = 1) (hby : i.bytes = 1)
    (v : Value) (n : Nat) (xs : List Int) (hs : act.eval s = v) (hr : RB w1 w v n xs) (hn : 0 < n)
    (os : List Int) (hf : ∀ i, 0 ≤ os.getD i 0 ∧ os.getD i 0 ≤ 255) (hx : act.eval x = .string (strOfNums os)) (hsum : n + os.length ≤ 211106232532992)
    (h : ∀ a' cap' w', RB w1 w' (.slice a' (n + os.length) cap') (n + os.length) (xs ++ os) → K (act.put o.dst (.slice a' (n + os.length) cap')) w') :
    if Region.wanted o (yielded ops act.tmps) = true then Oper.wp P o act w K Q else E := by
  have hw : Region.wanted o (yielded ops act.tmps) = true := by simp [Region.wanted, hgd]
  rw [if_pos hw]
  have hsz := strOfNums_size os
  obtain ⟨v', w', hrun, h2, h3⟩ := append_str_wide (P := P) w w1.heap.size 22 u o.type i ht hu hi hz hsize hby v n _ hr.own hn (strOfNums os) (by rw [hsz]; omega) hr.bel.size
  rw [hsz, strCells_nums hf, ← List.map_append] at h2
  obtain ⟨a', cap', rfl, _⟩ := own_form h2
  unfold Oper.wp execOp
  simp only [ho, resolve, invoke, builtin, Sem.run_bind, Sem.run_pure, Result.andThen_ok, List.map_toArray, List.map_cons, List.map_nil, hs, hx, hrun]
  exact h a' cap' w' (rb_step hr h2 h3)
set_option maxHeartbeats 2000000 in
theorem rprint_form (ps : Array Value) (hs : ps.size = 36) (w : World)
    (HF : Hid (∀ W, Calls Try.prog 31 #[.agg ps] W fun e w' => e = .returned (.bool false) ∧ Below W.heap.size W w')) :
    Calls Try.prog 12 #[.agg ps] w fun e w' => e = .returned (.tuple #[.slice none 0 0, .int .i64 1]) ∧ Below w.heap.size w w' := by
  have HS : Hid (ps.size = 36) := hs
  clear hs
  obtain ⟨wb, hwb⟩ : ∃ V, w.alloc (.cells ps 34) = V := ⟨_, rfl⟩
  have R0 : Hid (wb.heap[w.heap.size]? = some (.cells ps 34 (0, 0))) := by show _ = _; rw [← hwb]; exact heap_alloc_new w _
  have LB : Hid (Below w.heap.size w wb) := by show Below _ _ _; rw [← hwb]; exact below1 w _
  have HWB : Hid (w.alloc (.cells ps 34) = wb) := hwb
  clear hwb
  go_enter Try.func12, Try.ntmps12
  go_wp2_with (refine wpList_load_row rfl 34 _ rfl (w.heap.size) rfl 34 ps (0, 0) _ (heap_alloc_new w _) Try.underlying34 rfl (info36 HS.out) ?_)
  refine (HF.out _).mono ?_
  rintro e W1 ⟨rfl, hb⟩
  rw [HWB.out] at hb
  have B1 : Hid (Below wb.heap.size wb W1) := hb
  have R1 : Hid (W1.heap[w.heap.size]? = some (.cells ps 34 (0, 0))) := (hb.block _ (Ca.lt_of_heap R0.out)).trans R0.out
  clear hb HF
  go_wp2_with fail
  go_ret2
  exact ⟨rfl, LB.out.trans (B1.out.mono LB.out.size)⟩
set_option maxHeartbeats 2000000 in
theorem rprint_head (ps : Array Value) (hs : ps.size = 36) (d s tag et : Int) (tg : Bool) (hE : ps.extract 0 (0 + 5) = #[.int .u64 d, .int .u64 s, .bool tg, .int .i64 tag, .int .i64 et]) (f : Int) (hf : (f != 0) = true) (w : World)
    (HF : Hid (∀ W, Calls Try.prog 31 #[.agg ps] W fun e w' => e = .returned (.bool true) ∧ Below W.heap.size W w'))
    (HH : Hid (∀ W, Calls Try.prog 32 #[.agg #[.int .u64 d, .int .u64 s, .bool tg, .int .i64 tag, .int .i64 et]] W fun e w' => e = .returned (.tuple #[.slice none 0 0, .int .i64 f]) ∧ Below W.heap.size W w')) :
    Calls Try.prog 12 #[.agg ps] w fun e w' => e = .returned (.tuple #[.slice none 0 0, .int .i64 f]) ∧ Below w.heap.size w w' := by
  have h9E : (ps.extract 0 (0 + 5)).size = 5 := by rw [hE]; rfl
  have HS : Hid (ps.size = 36) := hs
  clear hs
  obtain ⟨wb, hwb⟩ : ∃ V, w.alloc (.cells ps 34) = V := ⟨_, rfl⟩
  have R0 : Hid (wb.heap[w.heap.size]? = some (.cells ps 34 (0, 0))) := by show _ = _; rw [← hwb]; exact heap_alloc_new w _
  have LB : Hid (Below w.heap.size w wb) := by show Below _ _ _; rw [← hwb]; exact below1 w _
  have HWB : Hid (w.alloc (.cells ps 34) = wb) := hwb
  clear hwb
  go_enter Try.func12, Try.ntmps12
  go_wp2_with (refine wpList_load_row rfl 34 _ rfl (w.heap.size) rfl 34 ps (0, 0) _ (heap_alloc_new w _) Try.underlying34 rfl (info36 HS.out) ?_)
  refine (HF.out _).mono ?_
  rintro e W1 ⟨rfl, hb⟩
  rw [HWB.out] at hb
  have B1 : Hid (Below wb.heap.size wb W1) := hb
  have R1 : Hid (W1.heap[w.heap.size]? = some (.cells ps 34 (0, 0))) := (hb.block _ (Ca.lt_of_heap R0.out)).trans R0.out
  clear hb HF
  go_wp2_with (refine Ca.wpList_load_at rfl 25 _ rfl (w.heap.size) 0 5 rfl ps 34 _ R1.out Try.underlying25 rfl h9E (by kernel_rfl) ?_; rw [hE])
  refine (HH.out _).mono ?_
  rintro e W2 ⟨rfl, hb⟩
  have B2 : Hid (Below wb.heap.size wb W2) := B1.out.trans (hb.mono B1.out.size)
  clear hb HH R1 B1
  go_wp2_with fail
  go_ret2
  exact ⟨rfl, LB.out.trans (B2.out.mono LB.out.size)⟩
set_option maxHeartbeats 2000000 in
theorem rprint_arpbad (ps : Array Value) (hs : ps.size = 36) (d s tag et : Int) (tg : Bool) (hE : ps.extract 0 (0 + 5) = #[.int .u64 d, .int .u64 s, .bool tg, .int .i64 tag, .int .i64 et]) (op sha spa tha tpa : Int) (hA : ps.extract 6 (6 + 5) = #[.int .i64 op, .int .u64 sha, .int .u32 spa, .int .u64 tha, .int .u32 tpa]) (h5 : ps[5]? = some (.bool true)) (n : Nat) (HB : List Int) (f : Int) (hf : (f != 0) = true) (w : World)
    (HF : Hid (∀ W, Calls Try.prog 31 #[.agg ps] W fun e w' => e = .returned (.bool true) ∧ Below W.heap.size W w'))
    (HH : Hid (∀ W, Calls Try.prog 32 #[.agg #[.int .u64 d, .int .u64 s, .bool tg, .int .i64 tag, .int .i64 et]] W fun e w' => ∃ a cap, e = .returned (.tuple #[.slice a n cap, .int .i64 0]) ∧ RB W w' (.slice a n cap) n HB))
    (HA : Hid (∀ W, Calls Try.prog 33 #[.agg #[.int .i64 op, .int .u64 sha, .int .u32 spa, .int .u64 tha, .int .u32 tpa]] W fun e w' => e = .returned (.tuple #[.slice none 0 0, .int .i64 f]) ∧ Below W.heap.size W w')) :
    Calls Try.prog 12 #[.agg ps] w fun e w' => e = .returned (.tuple #[.slice none 0 0, .int .i64 f]) ∧ Below w.heap.size w w' := by
  have h9E : (ps.extract 0 (0 + 5)).size = 5 := by rw [hE]; rfl
  have h9A : (ps.extract 6 (6 + 5)).size = 5 := by rw [hA]; rfl
  have H5 : Hid (ps[5]? = some (.bool true)) := h5
  clear h5
  have HS : Hid (ps.size = 36) := hs
  clear hs
  obtain ⟨wb, hwb⟩ : ∃ V, w.alloc (.cells ps 34) = V := ⟨_, rfl⟩
  have R0 : Hid (wb.heap[w.heap.size]? = some (.cells ps 34 (0, 0))) := by show _ = _; rw [← hwb]; exact heap_alloc_new w _
  have LB : Hid (Below w.heap.size w wb) := by show Below _ _ _; rw [← hwb]; exact below1 w _
  have HWB : Hid (w.alloc (.cells ps 34) = wb) := hwb
  clear hwb
  go_enter Try.func12, Try.ntmps12
  go_wp2_with (refine wpList_load_row rfl 34 _ rfl (w.heap.size) rfl 34 ps (0, 0) _ (heap_alloc_new w _) Try.underlying34 rfl (info36 HS.out) ?_)
  refine (HF.out _).mono ?_
  rintro e W1 ⟨rfl, hb⟩
  rw [HWB.out] at hb
  have B1 : Hid (Below wb.heap.size wb W1) := hb
  have R1 : Hid (W1.heap[w.heap.size]? = some (.cells ps 34 (0, 0))) := (hb.block _ (Ca.lt_of_heap R0.out)).trans R0.out
  clear hb HF
  go_wp2_with (refine Ca.wpList_load_at rfl 25 _ rfl (w.heap.size) 0 5 rfl ps 34 _ R1.out Try.underlying25 rfl h9E (by kernel_rfl) ?_; rw [hE])
  refine (HH.out _).mono ?_
  rintro e W2 ⟨a0, c0, rfl, r2⟩
  have B2 : Hid (Below wb.heap.size wb W2) := B1.out.trans (r2.bel.mono B1.out.size)
  have R2 : Hid (W2.heap[w.heap.size]? = some (.cells ps 34 (0, 0))) := (r2.bel.block _ (Ca.lt_of_heap R1.out)).trans R1.out
  have O2 : Hid (RB wb W2 (.slice a0 n c0) n HB) := ⟨own_base r2.own B1.out.size, B2.out⟩
  clear r2 HH R1 B1
  have c5x := (Ca.cell_row R2.out 5).trans H5.out
  go_wp2_with (refine Ca.wpList_load_at rfl 28 _ rfl (w.heap.size) 6 5 rfl ps 34 _ R2.out Try.underlying28 rfl h9A (by kernel_rfl) ?_; rw [hA])
  refine (HA.out _).mono ?_
  rintro e W3 ⟨rfl, hb⟩
  have B3 : Hid (Below wb.heap.size wb W3) := B2.out.trans (hb.mono B2.out.size)
  clear hb HA R2 B2 O2 c5x
  go_wp2_with fail
  go_ret2
  exact ⟨rfl, LB.out.trans (B3.out.mono LB.out.size)⟩
set_option maxHeartbeats 2000000 in
theorem rprint_l4bad (ps : Array Value) (hs : ps.size = 36) (d s tag et : Int) (tg : Bool) (hE : ps.extract 0 (0 + 5) = #[.int .u64 d, .int .u64 s, .bool tg, .int .i64 tag, .int .i64 et]) (tos id fr ttl pr src dst : Int) (io : List Int) (k ty co re sp dp : Int) (ns : Bool) (sq ak fl wi ur : Int) (lo ds : List Int) (hI : ps.extract 12 (12 + 8) = #[.int .i64 tos, .int .i64 id, .int .i64 fr, .int .i64 ttl, .int .i64 pr, .int .u32 src, .int .u32 dst, .string (strOfNums io)]) (hL : ps.extract 20 (20 + 14) = #[.int .i64 k, .int .i64 ty, .int .i64 co, .int .u32 re, .int .i64 sp, .int .i64 dp, .bool ns, .int .u32 sq, .int .u32 ak, .int .i64 fl, .int .i64 wi, .int .i64 ur, .string (strOfNums lo), .string (strOfNums ds)]) (h5 : ps[5]? = some (.bool false)) (h11 : ps[11]? = some (.bool true)) (h17 : ps[17]? = some (.int .u32 src)) (h18 : ps[18]? = some (.int .u32 dst)) (n : Nat) (HB : List Int) (f : Int) (hf : (f != 0) = true) (w : World)
    (HF : Hid (∀ W, Calls Try.prog 31 #[.agg ps] W fun e w' => e = .returned (.bool true) ∧ Below W.heap.size W w'))
    (HH : Hid (∀ W, Calls Try.prog 32 #[.agg #[.int .u64 d, .int .u64 s, .bool tg, .int .i64 tag, .int .i64 et]] W fun e w' => ∃ a cap, e = .returned (.tuple #[.slice a n cap, .int .i64 0]) ∧ RB W w' (.slice a n cap) n HB))
    (HL : Hid (∀ W, Calls Try.prog 34 #[.int .u32 src, .int .u32 dst, .agg #[.int .i64 k, .int .i64 ty, .int .i64 co, .int .u32 re, .int .i64 sp, .int .i64 dp, .bool ns, .int .u32 sq, .int .u32 ak, .int .i64 fl, .int .i64 wi, .int .i64 ur, .string (strOfNums lo), .string (strOfNums ds)]] W fun e w' => e = .returned (.tuple #[.slice none 0 0, .int .i64 f]) ∧ Below W.heap.size W w')) :
    Calls Try.prog 12 #[.agg ps] w fun e w' => e = .returned (.tuple #[.slice none 0 0, .int .i64 f]) ∧ Below w.heap.size w w' := by
  have h9E : (ps.extract 0 (0 + 5)).size = 5 := by rw [hE]; rfl
  have h9I : (ps.extract 12 (12 + 8)).size = 8 := by rw [hI]; rfl
  have h9L : (ps.extract 20 (20 + 14)).size = 14 := by rw [hL]; rfl
  have H5 : Hid (ps[5]? = some (.bool false)) := h5
  have H11 : Hid (ps[11]? = some (.bool true)) := h11
  have H17 : Hid (ps[17]? = some (.int .u32 src)) := h17
  have H18 : Hid (ps[18]? = some (.int .u32 dst)) := h18
  clear h5 h11 h17 h18
  have HS : Hid (ps.size = 36) := hs
  clear hs
  obtain ⟨wb, hwb⟩ : ∃ V, w.alloc (.cells ps 34) = V := ⟨_, rfl⟩
  have R0 : Hid (wb.heap[w.heap.size]? = some (.cells ps 34 (0, 0))) := by show _ = _; rw [← hwb]; exact heap_alloc_new w _
  have LB : Hid (Below w.heap.size w wb) := by show Below _ _ _; rw [← hwb]; exact below1 w _
  have HWB : Hid (w.alloc (.cells ps 34) = wb) := hwb
  clear hwb
  go_enter Try.func12, Try.ntmps12
  go_wp2_with (refine wpList_load_row rfl 34 _ rfl (w.heap.size) rfl 34 ps (0, 0) _ (heap_alloc_new w _) Try.underlying34 rfl (info36 HS.out) ?_)
  refine (HF.out _).mono ?_
  rintro e W1 ⟨rfl, hb⟩
  rw [HWB.out] at hb
  have B1 : Hid (Below wb.heap.size wb W1) := hb
  have R1 : Hid (W1.heap[w.heap.size]? = some (.cells ps 34 (0, 0))) := (hb.block _ (Ca.lt_of_heap R0.out)).trans R0.out
  clear hb HF
  go_wp2_with (refine Ca.wpList_load_at rfl 25 _ rfl (w.heap.size) 0 5 rfl ps 34 _ R1.out Try.underlying25 rfl h9E (by kernel_rfl) ?_; rw [hE])
  refine (HH.out _).mono ?_
  rintro e W2 ⟨a0, c0, rfl, r2⟩
  have B2 : Hid (Below wb.heap.size wb W2) := B1.out.trans (r2.bel.mono B1.out.size)
  have R2 : Hid (W2.heap[w.heap.size]? = some (.cells ps 34 (0, 0))) := (r2.bel.block _ (Ca.lt_of_heap R1.out)).trans R1.out
  have O2 : Hid (RB wb W2 (.slice a0 n c0) n HB) := ⟨own_base r2.own B1.out.size, B2.out⟩
  clear r2 HH R1 B1
  have c5x := (Ca.cell_row R2.out 5).trans H5.out
  have c11x := (Ca.cell_row R2.out 11).trans H11.out
  have c17x := (Ca.cell_row R2.out 17).trans H17.out
  have c18x := (Ca.cell_row R2.out 18).trans H18.out
  go_wp2_with (refine Ca.wpList_load_at rfl 32 _ rfl (w.heap.size) 20 14 rfl ps 34 _ R2.out Try.underlying32 rfl h9L (by kernel_rfl) ?_; rw [hL])
  refine (HL.out _).mono ?_
  rintro e W3 ⟨rfl, hb⟩
  have B3 : Hid (Below wb.heap.size wb W3) := B2.out.trans (hb.mono B2.out.size)
  clear hb HL R2 B2 O2 c5x c11x c17x c18x
  go_wp2_with fail
  go_ret2
  exact ⟨rfl, LB.out.trans (B3.out.mono LB.out.size)⟩
set_option maxHeartbeats 2000000 in
theorem rprint_ipbad (ps : Array Value) (hs : ps.size = 36) (d s tag et : Int) (tg : Bool) (hE : ps.extract 0 (0 + 5) = #[.int .u64 d, .int .u64 s, .bool tg, .int .i64 tag, .int .i64 et]) (tos id fr ttl pr src dst : Int) (io : List Int) (k ty co re sp dp : Int) (ns : Bool) (sq ak fl wi ur : Int) (lo ds : List Int) (hI : ps.extract 12 (12 + 8) = #[.int .i64 tos, .int .i64 id, .int .i64 fr, .int .i64 ttl, .int .i64 pr, .int .u32 src, .int .u32 dst, .string (strOfNums io)]) (hL : ps.extract 20 (20 + 14) = #[.int .i64 k, .int .i64 ty, .int .i64 co, .int .u32 re, .int .i64 sp, .int .i64 dp, .bool ns, .int .u32 sq, .int .u32 ak, .int .i64 fl, .int .i64 wi, .int .i64 ur, .string (strOfNums lo), .string (strOfNums ds)]) (h5 : ps[5]? = some (.bool false)) (h11 : ps[11]? = some (.bool true)) (h17 : ps[17]? = some (.int .u32 src)) (h18 : ps[18]? = some (.int .u32 dst)) (n m : Nat) (HB DB : List Int) (f : Int) (hf : (f != 0) = true) (w : World)
    (HF : Hid (∀ W, Calls Try.prog 31 #[.agg ps] W fun e w' => e = .returned (.bool true) ∧ Below W.heap.size W w'))
    (HH : Hid (∀ W, Calls Try.prog 32 #[.agg #[.int .u64 d, .int .u64 s, .bool tg, .int .i64 tag, .int .i64 et]] W fun e w' => ∃ a cap, e = .returned (.tuple #[.slice a n cap, .int .i64 0]) ∧ RB W w' (.slice a n cap) n HB))
    (HL : Hid (∀ W, Calls Try.prog 34 #[.int .u32 src, .int .u32 dst, .agg #[.int .i64 k, .int .i64 ty, .int .i64 co, .int .u32 re, .int .i64 sp, .int .i64 dp, .bool ns, .int .u32 sq, .int .u32 ak, .int .i64 fl, .int .i64 wi, .int .i64 ur, .string (strOfNums lo), .string (strOfNums ds)]] W fun e w' => ∃ a cap, e = .returned (.tuple #[.slice a m cap, .int .i64 0]) ∧ BS w' a m DB ∧ FrA W a ∧ Below W.heap.size W w'))
    (HP : Hid (∀ W, Calls Try.prog 35 #[.agg #[.int .i64 tos, .int .i64 id, .int .i64 fr, .int .i64 ttl, .int .i64 pr, .int .u32 src, .int .u32 dst, .string (strOfNums io)], .int .i64 m] W fun e w' => e = .returned (.tuple #[.slice none 0 0, .int .i64 f]) ∧ Below W.heap.size W w')) :
    Calls Try.prog 12 #[.agg ps] w fun e w' => e = .returned (.tuple #[.slice none 0 0, .int .i64 f]) ∧ Below w.heap.size w w' := by
  have h9E : (ps.extract 0 (0 + 5)).size = 5 := by rw [hE]; rfl
  have h9I : (ps.extract 12 (12 + 8)).size = 8 := by rw [hI]; rfl
  have h9L : (ps.extract 20 (20 + 14)).size = 14 := by rw [hL]; rfl
  have H5 : Hid (ps[5]? = some (.bool false)) := h5
  have H11 : Hid (ps[11]? = some (.bool true)) := h11
  have H17 : Hid (ps[17]? = some (.int .u32 src)) := h17
  have H18 : Hid (ps[18]? = some (.int .u32 dst)) := h18
  clear h5 h11 h17 h18
  have HS : Hid (ps.size = 36) := hs
  clear hs
  obtain ⟨wb, hwb⟩ : ∃ V, w.alloc (.cells ps 34) = V := ⟨_, rfl⟩
  have R0 : Hid (wb.heap[w.heap.size]? = some (.cells ps 34 (0, 0))) := by show _ = _; rw [← hwb]; exact heap_alloc_new w _
  have LB : Hid (Below w.heap.size w wb) := by show Below _ _ _; rw [← hwb]; exact below1 w _
  have HWB : Hid (w.alloc (.cells ps 34) = wb) := hwb
  clear hwb
  go_enter Try.func12, Try.ntmps12
  go_wp2_with (refine wpList_load_row rfl 34 _ rfl (w.heap.size) rfl 34 ps (0, 0) _ (heap_alloc_new w _) Try.underlying34 rfl (info36 HS.out) ?_)
  refine (HF.out _).mono ?_
  rintro e W1 ⟨rfl, hb⟩
  rw [HWB.out] at hb
  have B1 : Hid (Below wb.heap.size wb W1) := hb
  have R1 : Hid (W1.heap[w.heap.size]? = some (.cells ps 34 (0, 0))) := (hb.block _ (Ca.lt_of_heap R0.out)).trans R0.out
  clear hb HF
  go_wp2_with (refine Ca.wpList_load_at rfl 25 _ rfl (w.heap.size) 0 5 rfl ps 34 _ R1.out Try.underlying25 rfl h9E (by kernel_rfl) ?_; rw [hE])
  refine (HH.out _).mono ?_
  rintro e W2 ⟨a0, c0, rfl, r2⟩
  have B2 : Hid (Below wb.heap.size wb W2) := B1.out.trans (r2.bel.mono B1.out.size)
  have R2 : Hid (W2.heap[w.heap.size]? = some (.cells ps 34 (0, 0))) := (r2.bel.block _ (Ca.lt_of_heap R1.out)).trans R1.out
  have O2 : Hid (RB wb W2 (.slice a0 n c0) n HB) := ⟨own_base r2.own B1.out.size, B2.out⟩
  clear r2 HH R1 B1
  have c5x := (Ca.cell_row R2.out 5).trans H5.out
  have c11x := (Ca.cell_row R2.out 11).trans H11.out
  have c17x := (Ca.cell_row R2.out 17).trans H17.out
  have c18x := (Ca.cell_row R2.out 18).trans H18.out
  go_wp2_with (refine Ca.wpList_load_at rfl 32 _ rfl (w.heap.size) 20 14 rfl ps 34 _ R2.out Try.underlying32 rfl h9L (by kernel_rfl) ?_; rw [hL])
  refine (HL.out _).mono ?_
  rintro e W3 ⟨a1, c1, rfl, b1, fr, hb⟩
  have B3 : Hid (Below wb.heap.size wb W3) := B2.out.trans (hb.mono B2.out.size)
  have F3 : Hid (∀ x k, a1 = some x → (Value.slice a0 n c0).ownBlock = some k → x.block ≠ k) := fun x k hx hk => by
    have h1 := fr x hx
    have h2 := (World.ownsRow.lt O2.out.own k hk).2
    omega
  have R3 : Hid (W3.heap[w.heap.size]? = some (.cells ps 34 (0, 0))) := (hb.block _ (Ca.lt_of_heap R2.out)).trans R2.out
  have O3 : Hid (RB wb W3 (.slice a0 n c0) n HB) := ⟨own_below O2.out.own hb, B3.out⟩
  have D3 : Hid (BS W3 a1 m DB) := b1
  clear hb b1 fr HL R2 B2 O2 c5x c11x c17x c18x
  go_wp2_with (refine Ca.wpList_load_at rfl 30 _ rfl (w.heap.size) 12 8 rfl ps 34 _ R3.out Try.underlying30 rfl h9I (by kernel_rfl) ?_; rw [hI])
  refine (HP.out _).mono ?_
  rintro e W4 ⟨rfl, hb⟩
  have B4 : Hid (Below wb.heap.size wb W4) := B3.out.trans (hb.mono B3.out.size)
  clear hb HP R3 B3 O3 D3
  go_wp2_with fail
  go_ret2
  exact ⟨rfl, LB.out.trans (B4.out.mono LB.out.size)⟩
set_option maxHeartbeats 4000000 in
theorem rprint_plain (ps : Array Value) (hs : ps.size = 36) (d s tag et : Int) (tg : Bool) (hE : ps.extract 0 (0 + 5) = #[.int .u64 d, .int .u64 s, .bool tg, .int .i64 tag, .int .i64 et]) (bd pd : List Int) (fb : ∀ i, 0 ≤ bd.getD i 0 ∧ bd.getD i 0 ≤ 255) (fp : ∀ i, 0 ≤ pd.getD i 0 ∧ pd.getD i 0 ≤ 255) (h5 : ps[5]? = some (.bool false)) (h11 : ps[11]? = some (.bool false)) (h34 : ps[34]? = some (.string (strOfNums bd))) (h35 : ps[35]? = some (.string (strOfNums pd))) (n : Nat) (HB : List Int) (hlen : n + bd.length + pd.length ≤ 9018) (w : World)
    (HF : Hid (∀ W, Calls Try.prog 31 #[.agg ps] W fun e w' => e = .returned (.bool true) ∧ Below W.heap.size W w'))
    (HH : Hid (∀ W, Calls Try.prog 32 #[.agg #[.int .u64 d, .int .u64 s, .bool tg, .int .i64 tag, .int .i64 et]] W fun e w' => ∃ a cap, e = .returned (.tuple #[.slice a n cap, .int .i64 0]) ∧ RB W w' (.slice a n cap) n HB)) :
    Calls Try.prog 12 #[.agg ps] w fun e w' => ∃ a cap, e = .returned (.tuple #[.slice a (n + bd.length + pd.length) cap, .int .i64 0]) ∧ RB w w' (.slice a (n + bd.length + pd.length) cap) (n + bd.length + pd.length) (HB ++ bd ++ pd) := by
  obtain ⟨i0, hi, hz0, hz1, hz2⟩ := info_parts info5
  have hb1 := strOfNums_size bd
  have hb2 := strOfNums_size pd
  have hI0 : (n : Int) + bd.length + pd.length ≤ 9018 := by omega
  have h9E : (ps.extract 0 (0 + 5)).size = 5 := by rw [hE]; rfl
  have H5 : Hid (ps[5]? = some (.bool false)) := h5
  have H11 : Hid (ps[11]? = some (.bool false)) := h11
  have H34 : Hid (ps[34]? = some (.string (strOfNums bd))) := h34
  have H35 : Hid (ps[35]? = some (.string (strOfNums pd))) := h35
  clear h5 h11 h34 h35
  have HS : Hid (ps.size = 36) := hs
  clear hs
  obtain ⟨wb, hwb⟩ : ∃ V, w.alloc (.cells ps 34) = V := ⟨_, rfl⟩
  have R0 : Hid (wb.heap[w.heap.size]? = some (.cells ps 34 (0, 0))) := by show _ = _; rw [← hwb]; exact heap_alloc_new w _
  have LB : Hid (Below w.heap.size w wb) := by show Below _ _ _; rw [← hwb]; exact below1 w _
  have HWB : Hid (w.alloc (.cells ps 34) = wb) := hwb
  clear hwb
  go_enter Try.func12, Try.ntmps12
  go_wp2_with (refine wpList_load_row rfl 34 _ rfl (w.heap.size) rfl 34 ps (0, 0) _ (heap_alloc_new w _) Try.underlying34 rfl (info36 HS.out) ?_)
  refine (HF.out _).mono ?_
  rintro e W1 ⟨rfl, hb⟩
  rw [HWB.out] at hb
  have B1 : Hid (Below wb.heap.size wb W1) := hb
  have R1 : Hid (W1.heap[w.heap.size]? = some (.cells ps 34 (0, 0))) := (hb.block _ (Ca.lt_of_heap R0.out)).trans R0.out
  clear hb HF
  go_wp2_with (refine Ca.wpList_load_at rfl 25 _ rfl (w.heap.size) 0 5 rfl ps 34 _ R1.out Try.underlying25 rfl h9E (by kernel_rfl) ?_; rw [hE])
  refine (HH.out _).mono ?_
  rintro e W2 ⟨a0, c0, rfl, r2⟩
  have B2 : Hid (Below wb.heap.size wb W2) := B1.out.trans (r2.bel.mono B1.out.size)
  have R2 : Hid (W2.heap[w.heap.size]? = some (.cells ps 34 (0, 0))) := (r2.bel.block _ (Ca.lt_of_heap R1.out)).trans R1.out
  have O2 : Hid (RB wb W2 (.slice a0 n c0) n HB) := ⟨own_base r2.own B1.out.size, B2.out⟩
  clear r2 HH R1 B1
  have c5x := (Ca.cell_row R2.out 5).trans H5.out
  have c11x := (Ca.cell_row R2.out 11).trans H11.out
  go_wp2_with fail
  clear c5x c11x
  refine wp_region_held_drew (S := (fun W => W.heap[w.heap.size]? = some (.cells ps 34 (0, 0)))) (by kernel_rfl) R2.out (fun hHeld => ?_)
  have Ot : Hid (RB wb W2.drew (.slice a0 (n) c0) (n) (HB)) := O2.out.drew
  obtain ⟨Wt, hWt⟩ : ∃ V, W2.drew = V := ⟨_, rfl⟩
  rw [hWt] at Ot hHeld ⊢
  clear hWt R2 O2
  refine wpAnyH_take (i := 0) (v := ?_) rfl (by kernel_rfl) (by kernel_rfl) (by kernel_rfl) (fun _ _ _ h => h) (Or.inl ⟨by rfl, ?_⟩) (by assumption) ?_
  rotate_left
  · (intro w hSw; (try dsimp only at hSw); go_simp; try with_reducible rfl)
  try simp only [List.getElem_toArray, List.getElem_cons_zero, List.getElem_cons_succ, Act.put, List.setIfInBounds_toArray, List.set_cons_zero, List.set_cons_succ]
  refine wpAnyH_take (i := 1) (v := ?_) rfl (by kernel_rfl) (by kernel_rfl) (by kernel_rfl) (fun _ _ _ h => h) (Or.inl ⟨by rfl, ?_⟩) (by assumption) ?_
  rotate_left
  · (intro w hSw; (try dsimp only at hSw); go_simp; try with_reducible rfl)
  try simp only [List.getElem_toArray, List.getElem_cons_zero, List.getElem_cons_succ, Act.put, List.setIfInBounds_toArray, List.set_cons_zero, List.set_cons_succ]
  refine wpAnyH_take (i := 2) (v := .string (strOfNums bd)) rfl (by kernel_rfl) (by kernel_rfl) (by kernel_rfl) (fun _ _ _ h => h) (Or.inl ⟨by rfl, fun W hW => by have c := (Ca.cell_row hW 34).trans H34.out; go_simp⟩) (by assumption) ?_
  try simp only [List.getElem_toArray, List.getElem_cons_zero, List.getElem_cons_succ, Act.put, List.setIfInBounds_toArray, List.set_cons_zero, List.set_cons_succ]
  refine wpAnyH_take (i := 4) (v := ?_) rfl (by kernel_rfl) (by kernel_rfl) (by kernel_rfl) (fun _ _ _ h => h) (Or.inl ⟨by rfl, ?_⟩) (by assumption) ?_
  rotate_left
  · (intro w hSw; (try dsimp only at hSw); go_simp; try with_reducible rfl)
  try simp only [List.getElem_toArray, List.getElem_cons_zero, List.getElem_cons_succ, Act.put, List.setIfInBounds_toArray, List.set_cons_zero, List.set_cons_succ]
  refine wpAnyH_take (i := 5) (v := .string (strOfNums pd)) rfl (by kernel_rfl) (by kernel_rfl) (by kernel_rfl) (fun _ _ _ h => h) (Or.inl ⟨by rfl, fun W hW => by have c := (Ca.cell_row hW 35).trans H35.out; go_simp⟩) (by assumption) ?_
  try simp only [List.getElem_toArray, List.getElem_cons_zero, List.getElem_cons_succ, Act.put, List.setIfInBounds_toArray, List.set_cons_zero, List.set_cons_succ]
  refine wpAnyH_ready (rs := [3]) (by kernel_rfl) (by simp) ?_
  refine AllReadyH.cons (o := _) rfl (fun K hK => ?_) AllReadyH.nil
  refine step_str_rb (w1 := wb) rfl (.tmp 70) (.tmp 72) 9 rfl i0 Try.underlying22 Try.underlying9 hi hz0 hz1 hz2 _ (n) (HB) rfl Ot.out bd fb rfl (by omega) ?_
  intro a6 c6 W6 r6
  have R6 : Hid (W6.heap[w.heap.size]? = some (.cells ps 34 (0, 0))) := (r6.bel.block _ (Ca.lt_of_heap R0.out)).trans R0.out
  have O6 : Hid (RB wb W6 (.slice a6 (n + bd.length) c6) (n + bd.length) (HB ++ bd)) := r6
  clear r6 Ot
  refine hK _ _ R6.out (fun hHeld => ?_)
  try simp only [List.getElem_toArray, List.getElem_cons_zero, List.getElem_cons_succ, Act.put, List.setIfInBounds_toArray, List.set_cons_zero, List.set_cons_succ]
  refine wpAnyH_ready (rs := [6]) (by kernel_rfl) (by simp) ?_
  refine AllReadyH.cons (o := _) rfl (fun K hK => ?_) AllReadyH.nil
  refine step_str_rb (w1 := wb) rfl (.tmp 73) (.tmp 75) 9 rfl i0 Try.underlying22 Try.underlying9 hi hz0 hz1 hz2 _ (n + bd.length) (HB ++ bd) rfl O6.out pd fp rfl (by omega) ?_
  intro a7 c7 W7 r7
  have R7 : Hid (W7.heap[w.heap.size]? = some (.cells ps 34 (0, 0))) := (r7.bel.block _ (Ca.lt_of_heap R0.out)).trans R0.out
  have B7 : Hid (Below wb.heap.size wb W7) := r7.bel
  have O7 : Hid (RB w W7 (.slice a7 (n + bd.length + pd.length) c7) (n + bd.length + pd.length) (HB ++ bd ++ pd)) := ⟨own_base r7.own LB.out.size, LB.out.trans (r7.bel.mono LB.out.size)⟩
  clear r7 O6 R6
  refine hK _ _ R7.out (fun hHeld => ?_)
  try simp only [List.getElem_toArray, List.getElem_cons_zero, List.getElem_cons_succ, Act.put, List.setIfInBounds_toArray, List.set_cons_zero, List.set_cons_succ]
  refine wpAnyH_ready (rs := [7]) (by kernel_rfl) (by simp) ?_
  refine AllReadyH.cons (o := _) rfl (fun K hK => ?_) AllReadyH.nil
  go_simp
  refine hK _ _ R7.out (fun hHeld => ?_)
  refine wpAnyH_done (by kernel_rfl) ?_ _
  clear hHeld
  try simp only [List.getElem_toArray, List.getElem_cons_zero, List.getElem_cons_succ, Act.put, List.setIfInBounds_toArray, List.set_cons_zero, List.set_cons_succ]
  go_wp2_with fail
  go_ret2
  exact ⟨a7, c7, rfl, O7.out⟩
set_option maxHeartbeats 4000000 in
theorem rprint_arp (ps : Array Value) (hs : ps.size = 36) (d s tag et : Int) (tg : Bool) (hE : ps.extract 0 (0 + 5) = #[.int .u64 d, .int .u64 s, .bool tg, .int .i64 tag, .int .i64 et]) (op sha spa tha tpa : Int) (hA : ps.extract 6 (6 + 5) = #[.int .i64 op, .int .u64 sha, .int .u32 spa, .int .u64 tha, .int .u32 tpa]) (bd pd : List Int) (fb : ∀ i, 0 ≤ bd.getD i 0 ∧ bd.getD i 0 ≤ 255) (fp : ∀ i, 0 ≤ pd.getD i 0 ∧ pd.getD i 0 ≤ 255) (h5 : ps[5]? = some (.bool true)) (h11 : ps[11]? = some (.bool false)) (h34 : ps[34]? = some (.string (strOfNums bd))) (h35 : ps[35]? = some (.string (strOfNums pd))) (n : Nat) (HB AB : List Int) (hlen : n + 28 + bd.length + pd.length ≤ 9018) (w : World)
    (HF : Hid (∀ W, Calls Try.prog 31 #[.agg ps] W fun e w' => e = .returned (.bool true) ∧ Below W.heap.size W w'))
    (HH : Hid (∀ W, Calls Try.prog 32 #[.agg #[.int .u64 d, .int .u64 s, .bool tg, .int .i64 tag, .int .i64 et]] W fun e w' => ∃ a cap, e = .returned (.tuple #[.slice a n cap, .int .i64 0]) ∧ RB W w' (.slice a n cap) n HB))
    (HA : Hid (∀ W, Calls Try.prog 33 #[.agg #[.int .i64 op, .int .u64 sha, .int .u32 spa, .int .u64 tha, .int .u32 tpa]] W fun e w' => ∃ a cap, e = .returned (.tuple #[.slice a 28 cap, .int .i64 0]) ∧ BS w' a 28 AB ∧ Below W.heap.size W w')) :
    Calls Try.prog 12 #[.agg ps] w fun e w' => ∃ a cap, e = .returned (.tuple #[.slice a (n + 28 + bd.length + pd.length) cap, .int .i64 0]) ∧ RB w w' (.slice a (n + 28 + bd.length + pd.length) cap) (n + 28 + bd.length + pd.length) (HB ++ AB ++ bd ++ pd) := by
  obtain ⟨i0, hi, hz0, hz1, hz2⟩ := info_parts info5
  have hb1 := strOfNums_size bd
  have hb2 := strOfNums_size pd
  have hI0 : (n : Int) + 28 + bd.length + pd.length ≤ 9018 := by omega
  have h9E : (ps.extract 0 (0 + 5)).size = 5 := by rw [hE]; rfl
  have h9A : (ps.extract 6 (6 + 5)).size = 5 := by rw [hA]; rfl
  have H5 : Hid (ps[5]? = some (.bool true)) := h5
  have H11 : Hid (ps[11]? = some (.bool false)) := h11
  have H34 : Hid (ps[34]? = some (.string (strOfNums bd))) := h34
  have H35 : Hid (ps[35]? = some (.string (strOfNums pd))) := h35
  clear h5 h11 h34 h35
  have HS : Hid (ps.size = 36) := hs
  clear hs
  obtain ⟨wb, hwb⟩ : ∃ V, w.alloc (.cells ps 34) = V := ⟨_, rfl⟩
  have R0 : Hid (wb.heap[w.heap.size]? = some (.cells ps 34 (0, 0))) := by show _ = _; rw [← hwb]; exact heap_alloc_new w _
  have LB : Hid (Below w.heap.size w wb) := by show Below _ _ _; rw [← hwb]; exact below1 w _
  have HWB : Hid (w.alloc (.cells ps 34) = wb) := hwb
  clear hwb
  go_enter Try.func12, Try.ntmps12
  go_wp2_with (refine wpList_load_row rfl 34 _ rfl (w.heap.size) rfl 34 ps (0, 0) _ (heap_alloc_new w _) Try.underlying34 rfl (info36 HS.out) ?_)
  refine (HF.out _).mono ?_
  rintro e W1 ⟨rfl, hb⟩
  rw [HWB.out] at hb
  have B1 : Hid (Below wb.heap.size wb W1) := hb
  have R1 : Hid (W1.heap[w.heap.size]? = some (.cells ps 34 (0, 0))) := (hb.block _ (Ca.lt_of_heap R0.out)).trans R0.out
  clear hb HF
  go_wp2_with (refine Ca.wpList_load_at rfl 25 _ rfl (w.heap.size) 0 5 rfl ps 34 _ R1.out Try.underlying25 rfl h9E (by kernel_rfl) ?_; rw [hE])
  refine (HH.out _).mono ?_
  rintro e W2 ⟨a0, c0, rfl, r2⟩
  have B2 : Hid (Below wb.heap.size wb W2) := B1.out.trans (r2.bel.mono B1.out.size)
  have R2 : Hid (W2.heap[w.heap.size]? = some (.cells ps 34 (0, 0))) := (r2.bel.block _ (Ca.lt_of_heap R1.out)).trans R1.out
  have O2 : Hid (RB wb W2 (.slice a0 n c0) n HB) := ⟨own_base r2.own B1.out.size, B2.out⟩
  clear r2 HH R1 B1
  have c5x := (Ca.cell_row R2.out 5).trans H5.out
  go_wp2_with (refine Ca.wpList_load_at rfl 28 _ rfl (w.heap.size) 6 5 rfl ps 34 _ R2.out Try.underlying28 rfl h9A (by kernel_rfl) ?_; rw [hA])
  refine (HA.out _).mono ?_
  rintro e W3 ⟨a1, c1, rfl, b1, hb⟩
  have B3 : Hid (Below wb.heap.size wb W3) := B2.out.trans (hb.mono B2.out.size)
  have O3 : Hid (RB wb W3 (.slice a0 n c0) n HB) := ⟨own_below O2.out.own hb, B3.out⟩
  have D3 : Hid (BS W3 a1 28 AB) := b1
  clear hb b1 HA R2 B2 O2 c5x
  go_wp2_with (at_builtin; refine wpList_append_rb (w1 := wb) Try.underlying22 info5 rfl (.tmp 34) (.tmp 35) rfl _ _ _ rfl O3.out _ _ c1 _ rfl D3.out (by omega) ?_)
  intro a4 c4 W4 r4
  have R4 : Hid (W4.heap[w.heap.size]? = some (.cells ps 34 (0, 0))) := (r4.bel.block _ (Ca.lt_of_heap R0.out)).trans R0.out
  have O4 : Hid (RB wb W4 (.slice a4 (n + 28) c4) (n + 28) (HB ++ AB)) := r4
  clear r4 O3 D3 B3
  have c11x := (Ca.cell_row R4.out 11).trans H11.out
  go_wp2_with fail
  clear c11x
  refine wp_region_held_drew (S := (fun W => W.heap[w.heap.size]? = some (.cells ps 34 (0, 0)))) (by kernel_rfl) R4.out (fun hHeld => ?_)
  have Ot : Hid (RB wb W4.drew (.slice a4 (n + 28) c4) (n + 28) (HB ++ AB)) := O4.out.drew
  obtain ⟨Wt, hWt⟩ : ∃ V, W4.drew = V := ⟨_, rfl⟩
  rw [hWt] at Ot hHeld ⊢
  clear hWt R4 O4
  refine wpAnyH_take (i := 0) (v := ?_) rfl (by kernel_rfl) (by kernel_rfl) (by kernel_rfl) (fun _ _ _ h => h) (Or.inl ⟨by rfl, ?_⟩) (by assumption) ?_
  rotate_left
  · (intro w hSw; (try dsimp only at hSw); go_simp; try with_reducible rfl)
  try simp only [List.getElem_toArray, List.getElem_cons_zero, List.getElem_cons_succ, Act.put, List.setIfInBounds_toArray, List.set_cons_zero, List.set_cons_succ]
  refine wpAnyH_take (i := 1) (v := ?_) rfl (by kernel_rfl) (by kernel_rfl) (by kernel_rfl) (fun _ _ _ h => h) (Or.inl ⟨by rfl, ?_⟩) (by assumption) ?_
  rotate_left
  · (intro w hSw; (try dsimp only at hSw); go_simp; try with_reducible rfl)
  try simp only [List.getElem_toArray, List.getElem_cons_zero, List.getElem_cons_succ, Act.put, List.setIfInBounds_toArray, List.set_cons_zero, List.set_cons_succ]
  refine wpAnyH_take (i := 2) (v := .string (strOfNums bd)) rfl (by kernel_rfl) (by kernel_rfl) (by kernel_rfl) (fun _ _ _ h => h) (Or.inl ⟨by rfl, fun W hW => by have c := (Ca.cell_row hW 34).trans H34.out; go_simp⟩) (by assumption) ?_
  try simp only [List.getElem_toArray, List.getElem_cons_zero, List.getElem_cons_succ, Act.put, List.setIfInBounds_toArray, List.set_cons_zero, List.set_cons_succ]
  refine wpAnyH_take (i := 4) (v := ?_) rfl (by kernel_rfl) (by kernel_rfl) (by kernel_rfl) (fun _ _ _ h => h) (Or.inl ⟨by rfl, ?_⟩) (by assumption) ?_
  rotate_left
  · (intro w hSw; (try dsimp only at hSw); go_simp; try with_reducible rfl)
  try simp only [List.getElem_toArray, List.getElem_cons_zero, List.getElem_cons_succ, Act.put, List.setIfInBounds_toArray, List.set_cons_zero, List.set_cons_succ]
  refine wpAnyH_take (i := 5) (v := .string (strOfNums pd)) rfl (by kernel_rfl) (by kernel_rfl) (by kernel_rfl) (fun _ _ _ h => h) (Or.inl ⟨by rfl, fun W hW => by have c := (Ca.cell_row hW 35).trans H35.out; go_simp⟩) (by assumption) ?_
  try simp only [List.getElem_toArray, List.getElem_cons_zero, List.getElem_cons_succ, Act.put, List.setIfInBounds_toArray, List.set_cons_zero, List.set_cons_succ]
  refine wpAnyH_ready (rs := [3]) (by kernel_rfl) (by simp) ?_
  refine AllReadyH.cons (o := _) rfl (fun K hK => ?_) AllReadyH.nil
  refine step_str_rb (w1 := wb) rfl (.tmp 70) (.tmp 72) 9 rfl i0 Try.underlying22 Try.underlying9 hi hz0 hz1 hz2 _ (n + 28) (HB ++ AB) rfl Ot.out bd fb rfl (by omega) ?_
  intro a6 c6 W6 r6
  have R6 : Hid (W6.heap[w.heap.size]? = some (.cells ps 34 (0, 0))) := (r6.bel.block _ (Ca.lt_of_heap R0.out)).trans R0.out
  have O6 : Hid (RB wb W6 (.slice a6 (n + 28 + bd.length) c6) (n + 28 + bd.length) (HB ++ AB ++ bd)) := r6
  clear r6 Ot
  refine hK _ _ R6.out (fun hHeld => ?_)
  try simp only [List.getElem_toArray, List.getElem_cons_zero, List.getElem_cons_succ, Act.put, List.setIfInBounds_toArray, List.set_cons_zero, List.set_cons_succ]
  refine wpAnyH_ready (rs := [6]) (by kernel_rfl) (by simp) ?_
  refine AllReadyH.cons (o := _) rfl (fun K hK => ?_) AllReadyH.nil
  refine step_str_rb (w1 := wb) rfl (.tmp 73) (.tmp 75) 9 rfl i0 Try.underlying22 Try.underlying9 hi hz0 hz1 hz2 _ (n + 28 + bd.length) (HB ++ AB ++ bd) rfl O6.out pd fp rfl (by omega) ?_
  intro a7 c7 W7 r7
  have R7 : Hid (W7.heap[w.heap.size]? = some (.cells ps 34 (0, 0))) := (r7.bel.block _ (Ca.lt_of_heap R0.out)).trans R0.out
  have B7 : Hid (Below wb.heap.size wb W7) := r7.bel
  have O7 : Hid (RB w W7 (.slice a7 (n + 28 + bd.length + pd.length) c7) (n + 28 + bd.length + pd.length) (HB ++ AB ++ bd ++ pd)) := ⟨own_base r7.own LB.out.size, LB.out.trans (r7.bel.mono LB.out.size)⟩
  clear r7 O6 R6
  refine hK _ _ R7.out (fun hHeld => ?_)
  try simp only [List.getElem_toArray, List.getElem_cons_zero, List.getElem_cons_succ, Act.put, List.setIfInBounds_toArray, List.set_cons_zero, List.set_cons_succ]
  refine wpAnyH_ready (rs := [7]) (by kernel_rfl) (by simp) ?_
  refine AllReadyH.cons (o := _) rfl (fun K hK => ?_) AllReadyH.nil
  go_simp
  refine hK _ _ R7.out (fun hHeld => ?_)
  refine wpAnyH_done (by kernel_rfl) ?_ _
  clear hHeld
  try simp only [List.getElem_toArray, List.getElem_cons_zero, List.getElem_cons_succ, Act.put, List.setIfInBounds_toArray, List.set_cons_zero, List.set_cons_succ]
  go_wp2_with fail
  go_ret2
  exact ⟨a7, c7, rfl, O7.out⟩
set_option maxHeartbeats 4000000 in
theorem rprint_ip (ps : Array Value) (hs : ps.size = 36) (d s tag et : Int) (tg : Bool) (hE : ps.extract 0 (0 + 5) = #[.int .u64 d, .int .u64 s, .bool tg, .int .i64 tag, .int .i64 et]) (tos id fr ttl pr src dst : Int) (io : List Int) (k ty co re sp dp : Int) (ns : Bool) (sq ak fl wi ur : Int) (lo ds : List Int) (hI : ps.extract 12 (12 + 8) = #[.int .i64 tos, .int .i64 id, .int .i64 fr, .int .i64 ttl, .int .i64 pr, .int .u32 src, .int .u32 dst, .string (strOfNums io)]) (hL : ps.extract 20 (20 + 14) = #[.int .i64 k, .int .i64 ty, .int .i64 co, .int .u32 re, .int .i64 sp, .int .i64 dp, .bool ns, .int .u32 sq, .int .u32 ak, .int .i64 fl, .int .i64 wi, .int .i64 ur, .string (strOfNums lo), .string (strOfNums ds)]) (bd pd : List Int) (fb : ∀ i, 0 ≤ bd.getD i 0 ∧ bd.getD i 0 ≤ 255) (fp : ∀ i, 0 ≤ pd.getD i 0 ∧ pd.getD i 0 ≤ 255) (h5 : ps[5]? = some (.bool false)) (h11 : ps[11]? = some (.bool true)) (h17 : ps[17]? = some (.int .u32 src)) (h18 : ps[18]? = some (.int .u32 dst)) (h34 : ps[34]? = some (.string (strOfNums bd))) (h35 : ps[35]? = some (.string (strOfNums pd))) (n m k9 : Nat) (HB DB IB : List Int) (hlen : n + k9 + m + bd.length + pd.length ≤ 9018) (w : World)
    (HF : Hid (∀ W, Calls Try.prog 31 #[.agg ps] W fun e w' => e = .returned (.bool true) ∧ Below W.heap.size W w'))
    (HH : Hid (∀ W, Calls Try.prog 32 #[.agg #[.int .u64 d, .int .u64 s, .bool tg, .int .i64 tag, .int .i64 et]] W fun e w' => ∃ a cap, e = .returned (.tuple #[.slice a n cap, .int .i64 0]) ∧ RB W w' (.slice a n cap) n HB))
    (HL : Hid (∀ W, Calls Try.prog 34 #[.int .u32 src, .int .u32 dst, .agg #[.int .i64 k, .int .i64 ty, .int .i64 co, .int .u32 re, .int .i64 sp, .int .i64 dp, .bool ns, .int .u32 sq, .int .u32 ak, .int .i64 fl, .int .i64 wi, .int .i64 ur, .string (strOfNums lo), .string (strOfNums ds)]] W fun e w' => ∃ a cap, e = .returned (.tuple #[.slice a m cap, .int .i64 0]) ∧ BS w' a m DB ∧ FrA W a ∧ Below W.heap.size W w'))
    (HP : Hid (∀ W, Calls Try.prog 35 #[.agg #[.int .i64 tos, .int .i64 id, .int .i64 fr, .int .i64 ttl, .int .i64 pr, .int .u32 src, .int .u32 dst, .string (strOfNums io)], .int .i64 m] W fun e w' => ∃ a cap, e = .returned (.tuple #[.slice a k9 cap, .int .i64 0]) ∧ BS w' a k9 IB ∧ Below W.heap.size W w')) :
    Calls Try.prog 12 #[.agg ps] w fun e w' => ∃ a cap, e = .returned (.tuple #[.slice a (n + k9 + m + bd.length + pd.length) cap, .int .i64 0]) ∧ RB w w' (.slice a (n + k9 + m + bd.length + pd.length) cap) (n + k9 + m + bd.length + pd.length) (HB ++ IB ++ DB ++ bd ++ pd) := by
  obtain ⟨i0, hi, hz0, hz1, hz2⟩ := info_parts info5
  have hb1 := strOfNums_size bd
  have hb2 := strOfNums_size pd
  have hI0 : (n : Int) + k9 + m + bd.length + pd.length ≤ 9018 := by omega
  have h9E : (ps.extract 0 (0 + 5)).size = 5 := by rw [hE]; rfl
  have h9I : (ps.extract 12 (12 + 8)).size = 8 := by rw [hI]; rfl
  have h9L : (ps.extract 20 (20 + 14)).size = 14 := by rw [hL]; rfl
  have H5 : Hid (ps[5]? = some (.bool false)) := h5
  have H11 : Hid (ps[11]? = some (.bool true)) := h11
  have H17 : Hid (ps[17]? = some (.int .u32 src)) := h17
  have H18 : Hid (ps[18]? = some (.int .u32 dst)) := h18
  have H34 : Hid (ps[34]? = some (.string (strOfNums bd))) := h34
  have H35 : Hid (ps[35]? = some (.string (strOfNums pd))) := h35
  clear h5 h11 h17 h18 h34 h35
  have HS : Hid (ps.size = 36) := hs
  clear hs
  obtain ⟨wb, hwb⟩ : ∃ V, w.alloc (.cells ps 34) = V := ⟨_, rfl⟩
  have R0 : Hid (wb.heap[w.heap.size]? = some (.cells ps 34 (0, 0))) := by show _ = _; rw [← hwb]; exact heap_alloc_new w _
  have LB : Hid (Below w.heap.size w wb) := by show Below _ _ _; rw [← hwb]; exact below1 w _
  have HWB : Hid (w.alloc (.cells ps 34) = wb) := hwb
  clear hwb
  go_enter Try.func12, Try.ntmps12
  go_wp2_with (refine wpList_load_row rfl 34 _ rfl (w.heap.size) rfl 34 ps (0, 0) _ (heap_alloc_new w _) Try.underlying34 rfl (info36 HS.out) ?_)
  refine (HF.out _).mono ?_
  rintro e W1 ⟨rfl, hb⟩
  rw [HWB.out] at hb
  have B1 : Hid (Below wb.heap.size wb W1) := hb
  have R1 : Hid (W1.heap[w.heap.size]? = some (.cells ps 34 (0, 0))) := (hb.block _ (Ca.lt_of_heap R0.out)).trans R0.out
  clear hb HF
  go_wp2_with (refine Ca.wpList_load_at rfl 25 _ rfl (w.heap.size) 0 5 rfl ps 34 _ R1.out Try.underlying25 rfl h9E (by kernel_rfl) ?_; rw [hE])
  refine (HH.out _).mono ?_
  rintro e W2 ⟨a0, c0, rfl, r2⟩
  have B2 : Hid (Below wb.heap.size wb W2) := B1.out.trans (r2.bel.mono B1.out.size)
  have R2 : Hid (W2.heap[w.heap.size]? = some (.cells ps 34 (0, 0))) := (r2.bel.block _ (Ca.lt_of_heap R1.out)).trans R1.out
  have O2 : Hid (RB wb W2 (.slice a0 n c0) n HB) := ⟨own_base r2.own B1.out.size, B2.out⟩
  clear r2 HH R1 B1
  have c5x := (Ca.cell_row R2.out 5).trans H5.out
  have c11x := (Ca.cell_row R2.out 11).trans H11.out
  have c17x := (Ca.cell_row R2.out 17).trans H17.out
  have c18x := (Ca.cell_row R2.out 18).trans H18.out
  go_wp2_with (refine Ca.wpList_load_at rfl 32 _ rfl (w.heap.size) 20 14 rfl ps 34 _ R2.out Try.underlying32 rfl h9L (by kernel_rfl) ?_; rw [hL])
  refine (HL.out _).mono ?_
  rintro e W3 ⟨a1, c1, rfl, b1, fr, hb⟩
  have B3 : Hid (Below wb.heap.size wb W3) := B2.out.trans (hb.mono B2.out.size)
  have F3 : Hid (∀ x k, a1 = some x → (Value.slice a0 n c0).ownBlock = some k → x.block ≠ k) := fun x k hx hk => by
    have h1 := fr x hx
    have h2 := (World.ownsRow.lt O2.out.own k hk).2
    omega
  have R3 : Hid (W3.heap[w.heap.size]? = some (.cells ps 34 (0, 0))) := (hb.block _ (Ca.lt_of_heap R2.out)).trans R2.out
  have O3 : Hid (RB wb W3 (.slice a0 n c0) n HB) := ⟨own_below O2.out.own hb, B3.out⟩
  have D3 : Hid (BS W3 a1 m DB) := b1
  clear hb b1 fr HL R2 B2 O2 c5x c11x c17x c18x
  go_wp2_with (refine Ca.wpList_load_at rfl 30 _ rfl (w.heap.size) 12 8 rfl ps 34 _ R3.out Try.underlying30 rfl h9I (by kernel_rfl) ?_; rw [hI])
  refine (HP.out _).mono ?_
  rintro e W4 ⟨a2, c2, rfl, b2, hb⟩
  have B4 : Hid (Below wb.heap.size wb W4) := B3.out.trans (hb.mono B3.out.size)
  have O4 : Hid (RB wb W4 (.slice a0 n c0) n HB) := ⟨own_below O3.out.own hb, B4.out⟩
  have D4 : Hid (BS W4 a1 m DB) := D3.out.below hb
  have I4 : Hid (BS W4 a2 k9 IB) := b2
  clear hb b2 HP R3 B3 O3 D3
  go_wp2_with (at_builtin; refine wpList_append_bsa rfl (.tmp 65) (.tmp 66) 22 rfl wb.heap.size 5 i0 Try.underlying22 hi hz0 hz1 hz2 _ _ _ rfl O4.out.own _ _ c2 _ rfl I4.out (by omega) O4.out.bel.size ?_)
  intro a5 c5 W5 o5 g5 _
  have O5 : Hid (RB wb W5 (.slice a5 (n + k9) c5) (n + k9) (HB ++ IB)) := rb_step O4.out (by rw [List.map_append]; exact o5) g5
  have D5 : Hid (BS W5 a1 m DB) := D4.out.grown g5 F3.out
  clear o5 g5 O4 D4 I4 B4 F3
  go_wp2_with (at_builtin; refine wpList_append_rb (w1 := wb) Try.underlying22 info5 rfl (.tmp 67) (.tmp 68) rfl _ _ _ rfl O5.out _ _ c1 _ rfl D5.out (by omega) ?_)
  intro a8 c8 W8 r8
  have R8 : Hid (W8.heap[w.heap.size]? = some (.cells ps 34 (0, 0))) := (r8.bel.block _ (Ca.lt_of_heap R0.out)).trans R0.out
  have O8 : Hid (RB wb W8 (.slice a8 (n + k9 + m) c8) (n + k9 + m) (HB ++ IB ++ DB)) := by show RB _ _ _ _ _; rw [List.append_assoc]; exact r8
  clear r8 O5 D5
  go_wp2_with fail
  refine wp_region_held_drew (S := (fun W => W.heap[w.heap.size]? = some (.cells ps 34 (0, 0)))) (by kernel_rfl) R8.out (fun hHeld => ?_)
  have Ot : Hid (RB wb W8.drew (.slice a8 (n + k9 + m) c8) (n + k9 + m) (HB ++ IB ++ DB)) := O8.out.drew
  obtain ⟨Wt, hWt⟩ : ∃ V, W8.drew = V := ⟨_, rfl⟩
  rw [hWt] at Ot hHeld ⊢
  clear hWt R8 O8
  refine wpAnyH_take (i := 0) (v := ?_) rfl (by kernel_rfl) (by kernel_rfl) (by kernel_rfl) (fun _ _ _ h => h) (Or.inl ⟨by rfl, ?_⟩) (by assumption) ?_
  rotate_left
  · (intro w hSw; (try dsimp only at hSw); go_simp; try with_reducible rfl)
  try simp only [List.getElem_toArray, List.getElem_cons_zero, List.getElem_cons_succ, Act.put, List.setIfInBounds_toArray, List.set_cons_zero, List.set_cons_succ]
  refine wpAnyH_take (i := 1) (v := ?_) rfl (by kernel_rfl) (by kernel_rfl) (by kernel_rfl) (fun _ _ _ h => h) (Or.inl ⟨by rfl, ?_⟩) (by assumption) ?_
  rotate_left
  · (intro w hSw; (try dsimp only at hSw); go_simp; try with_reducible rfl)
  try simp only [List.getElem_toArray, List.getElem_cons_zero, List.getElem_cons_succ, Act.put, List.setIfInBounds_toArray, List.set_cons_zero, List.set_cons_succ]
  refine wpAnyH_take (i := 2) (v := .string (strOfNums bd)) rfl (by kernel_rfl) (by kernel_rfl) (by kernel_rfl) (fun _ _ _ h => h) (Or.inl ⟨by rfl, fun W hW => by have c := (Ca.cell_row hW 34).trans H34.out; go_simp⟩) (by assumption) ?_
  try simp only [List.getElem_toArray, List.getElem_cons_zero, List.getElem_cons_succ, Act.put, List.setIfInBounds_toArray, List.set_cons_zero, List.set_cons_succ]
  refine wpAnyH_take (i := 4) (v := ?_) rfl (by kernel_rfl) (by kernel_rfl) (by kernel_rfl) (fun _ _ _ h => h) (Or.inl ⟨by rfl, ?_⟩) (by assumption) ?_
  rotate_left
  · (intro w hSw; (try dsimp only at hSw); go_simp; try with_reducible rfl)
  try simp only [List.getElem_toArray, List.getElem_cons_zero, List.getElem_cons_succ, Act.put, List.setIfInBounds_toArray, List.set_cons_zero, List.set_cons_succ]
  refine wpAnyH_take (i := 5) (v := .string (strOfNums pd)) rfl (by kernel_rfl) (by kernel_rfl) (by kernel_rfl) (fun _ _ _ h => h) (Or.inl ⟨by rfl, fun W hW => by have c := (Ca.cell_row hW 35).trans H35.out; go_simp⟩) (by assumption) ?_
  try simp only [List.getElem_toArray, List.getElem_cons_zero, List.getElem_cons_succ, Act.put, List.setIfInBounds_toArray, List.set_cons_zero, List.set_cons_succ]
  refine wpAnyH_ready (rs := [3]) (by kernel_rfl) (by simp) ?_
  refine AllReadyH.cons (o := _) rfl (fun K hK => ?_) AllReadyH.nil
  refine step_str_rb (w1 := wb) rfl (.tmp 70) (.tmp 72) 9 rfl i0 Try.underlying22 Try.underlying9 hi hz0 hz1 hz2 _ (n + k9 + m) (HB ++ IB ++ DB) rfl Ot.out bd fb rfl (by omega) ?_
  intro a6 c6 W6 r6
  have R6 : Hid (W6.heap[w.heap.size]? = some (.cells ps 34 (0, 0))) := (r6.bel.block _ (Ca.lt_of_heap R0.out)).trans R0.out
  have O6 : Hid (RB wb W6 (.slice a6 (n + k9 + m + bd.length) c6) (n + k9 + m + bd.length) (HB ++ IB ++ DB ++ bd)) := r6
  clear r6 Ot
  refine hK _ _ R6.out (fun hHeld => ?_)
  try simp only [List.getElem_toArray, List.getElem_cons_zero, List.getElem_cons_succ, Act.put, List.setIfInBounds_toArray, List.set_cons_zero, List.set_cons_succ]
  refine wpAnyH_ready (rs := [6]) (by kernel_rfl) (by simp) ?_
  refine AllReadyH.cons (o := _) rfl (fun K hK => ?_) AllReadyH.nil
  refine step_str_rb (w1 := wb) rfl (.tmp 73) (.tmp 75) 9 rfl i0 Try.underlying22 Try.underlying9 hi hz0 hz1 hz2 _ (n + k9 + m + bd.length) (HB ++ IB ++ DB ++ bd) rfl O6.out pd fp rfl (by omega) ?_
  intro a7 c7 W7 r7
  have R7 : Hid (W7.heap[w.heap.size]? = some (.cells ps 34 (0, 0))) := (r7.bel.block _ (Ca.lt_of_heap R0.out)).trans R0.out
  have B7 : Hid (Below wb.heap.size wb W7) := r7.bel
  have O7 : Hid (RB w W7 (.slice a7 (n + k9 + m + bd.length + pd.length) c7) (n + k9 + m + bd.length + pd.length) (HB ++ IB ++ DB ++ bd ++ pd)) := ⟨own_base r7.own LB.out.size, LB.out.trans (r7.bel.mono LB.out.size)⟩
  clear r7 O6 R6
  refine hK _ _ R7.out (fun hHeld => ?_)
  try simp only [List.getElem_toArray, List.getElem_cons_zero, List.getElem_cons_succ, Act.put, List.setIfInBounds_toArray, List.set_cons_zero, List.set_cons_succ]
  refine wpAnyH_ready (rs := [7]) (by kernel_rfl) (by simp) ?_
  refine AllReadyH.cons (o := _) rfl (fun K hK => ?_) AllReadyH.nil
  go_simp
  refine hK _ _ R7.out (fun hHeld => ?_)
  refine wpAnyH_done (by kernel_rfl) ?_ _
  clear hHeld
  try simp only [List.getElem_toArray, List.getElem_cons_zero, List.getElem_cons_succ, Act.put, List.setIfInBounds_toArray, List.set_cons_zero, List.set_cons_succ]
  go_wp2_with fail
  go_ret2
  exact ⟨a7, c7, rfl, O7.out⟩
set_option maxHeartbeats 4000000 in
theorem rprint_plainL (ps : Array Value) (hs : ps.size = 36) (d s tag et : Int) (tg : Bool) (hE : ps.extract 0 (0 + 5) = #[.int .u64 d, .int .u64 s, .bool tg, .int .i64 tag, .int .i64 et]) (bd pd : List Int) (fb : ∀ i, 0 ≤ bd.getD i 0 ∧ bd.getD i 0 ≤ 255) (fp : ∀ i, 0 ≤ pd.getD i 0 ∧ pd.getD i 0 ≤ 255) (h5 : ps[5]? = some (.bool false)) (h11 : ps[11]? = some (.bool false)) (h34 : ps[34]? = some (.string (strOfNums bd))) (h35 : ps[35]? = some (.string (strOfNums pd))) (n : Nat) (HB : List Int) (hn0 : 0 < n) (hlen : 9018 < n + bd.length + pd.length) (hroom : n + bd.length + pd.length ≤ 211106232532992) (w : World)
    (HF : Hid (∀ W, Calls Try.prog 31 #[.agg ps] W fun e w' => e = .returned (.bool true) ∧ Below W.heap.size W w'))
    (HH : Hid (∀ W, Calls Try.prog 32 #[.agg #[.int .u64 d, .int .u64 s, .bool tg, .int .i64 tag, .int .i64 et]] W fun e w' => ∃ a cap, e = .returned (.tuple #[.slice a n cap, .int .i64 0]) ∧ RB W w' (.slice a n cap) n HB)) :
    Calls Try.prog 12 #[.agg ps] w fun e w' => e = .returned (.tuple #[.slice none 0 0, .int .i64 3]) ∧ Below w.heap.size w w' := by
  obtain ⟨i0, hi, hz0, hz1, hz2⟩ := info_parts info5
  have hb1 := strOfNums_size bd
  have hb2 := strOfNums_size pd
  have hI0 : (9018 : Int) < (n : Int) + bd.length + pd.length := by omega
  have h9E : (ps.extract 0 (0 + 5)).size = 5 := by rw [hE]; rfl
  have H5 : Hid (ps[5]? = some (.bool false)) := h5
  have H11 : Hid (ps[11]? = some (.bool false)) := h11
  have H34 : Hid (ps[34]? = some (.string (strOfNums bd))) := h34
  have H35 : Hid (ps[35]? = some (.string (strOfNums pd))) := h35
  clear h5 h11 h34 h35
  have HS : Hid (ps.size = 36) := hs
  clear hs
  obtain ⟨wb, hwb⟩ : ∃ V, w.alloc (.cells ps 34) = V := ⟨_, rfl⟩
  have R0 : Hid (wb.heap[w.heap.size]? = some (.cells ps 34 (0, 0))) := by show _ = _; rw [← hwb]; exact heap_alloc_new w _
  have LB : Hid (Below w.heap.size w wb) := by show Below _ _ _; rw [← hwb]; exact below1 w _
  have HWB : Hid (w.alloc (.cells ps 34) = wb) := hwb
  clear hwb
  go_enter Try.func12, Try.ntmps12
  go_wp2_with (refine wpList_load_row rfl 34 _ rfl (w.heap.size) rfl 34 ps (0, 0) _ (heap_alloc_new w _) Try.underlying34 rfl (info36 HS.out) ?_)
  refine (HF.out _).mono ?_
  rintro e W1 ⟨rfl, hb⟩
  rw [HWB.out] at hb
  have B1 : Hid (Below wb.heap.size wb W1) := hb
  have R1 : Hid (W1.heap[w.heap.size]? = some (.cells ps 34 (0, 0))) := (hb.block _ (Ca.lt_of_heap R0.out)).trans R0.out
  clear hb HF
  go_wp2_with (refine Ca.wpList_load_at rfl 25 _ rfl (w.heap.size) 0 5 rfl ps 34 _ R1.out Try.underlying25 rfl h9E (by kernel_rfl) ?_; rw [hE])
  refine (HH.out _).mono ?_
  rintro e W2 ⟨a0, c0, rfl, r2⟩
  have B2 : Hid (Below wb.heap.size wb W2) := B1.out.trans (r2.bel.mono B1.out.size)
  have R2 : Hid (W2.heap[w.heap.size]? = some (.cells ps 34 (0, 0))) := (r2.bel.block _ (Ca.lt_of_heap R1.out)).trans R1.out
  have O2 : Hid (RB wb W2 (.slice a0 n c0) n HB) := ⟨own_base r2.own B1.out.size, B2.out⟩
  clear r2 HH R1 B1
  have c5x := (Ca.cell_row R2.out 5).trans H5.out
  have c11x := (Ca.cell_row R2.out 11).trans H11.out
  go_wp2_with fail
  clear c5x c11x
  refine wp_region_held_drew (S := (fun W => W.heap[w.heap.size]? = some (.cells ps 34 (0, 0)))) (by kernel_rfl) R2.out (fun hHeld => ?_)
  have Ot : Hid (RB wb W2.drew (.slice a0 (n) c0) (n) (HB)) := O2.out.drew
  obtain ⟨Wt, hWt⟩ : ∃ V, W2.drew = V := ⟨_, rfl⟩
  rw [hWt] at Ot hHeld ⊢
  clear hWt R2 O2
  refine wpAnyH_take (i := 0) (v := ?_) rfl (by kernel_rfl) (by kernel_rfl) (by kernel_rfl) (fun _ _ _ h => h) (Or.inl ⟨by rfl, ?_⟩) (by assumption) ?_
  rotate_left
  · (intro w hSw; (try dsimp only at hSw); go_simp; try with_reducible rfl)
  try simp only [List.getElem_toArray, List.getElem_cons_zero, List.getElem_cons_succ, Act.put, List.setIfInBounds_toArray, List.set_cons_zero, List.set_cons_succ]
  refine wpAnyH_take (i := 1) (v := ?_) rfl (by kernel_rfl) (by kernel_rfl) (by kernel_rfl) (fun _ _ _ h => h) (Or.inl ⟨by rfl, ?_⟩) (by assumption) ?_
  rotate_left
  · (intro w hSw; (try dsimp only at hSw); go_simp; try with_reducible rfl)
  try simp only [List.getElem_toArray, List.getElem_cons_zero, List.getElem_cons_succ, Act.put, List.setIfInBounds_toArray, List.set_cons_zero, List.set_cons_succ]
  refine wpAnyH_take (i := 2) (v := .string (strOfNums bd)) rfl (by kernel_rfl) (by kernel_rfl) (by kernel_rfl) (fun _ _ _ h => h) (Or.inl ⟨by rfl, fun W hW => by have c := (Ca.cell_row hW 34).trans H34.out; go_simp⟩) (by assumption) ?_
  try simp only [List.getElem_toArray, List.getElem_cons_zero, List.getElem_cons_succ, Act.put, List.setIfInBounds_toArray, List.set_cons_zero, List.set_cons_succ]
  refine wpAnyH_take (i := 4) (v := ?_) rfl (by kernel_rfl) (by kernel_rfl) (by kernel_rfl) (fun _ _ _ h => h) (Or.inl ⟨by rfl, ?_⟩) (by assumption) ?_
  rotate_left
  · (intro w hSw; (try dsimp only at hSw); go_simp; try with_reducible rfl)
  try simp only [List.getElem_toArray, List.getElem_cons_zero, List.getElem_cons_succ, Act.put, List.setIfInBounds_toArray, List.set_cons_zero, List.set_cons_succ]
  refine wpAnyH_take (i := 5) (v := .string (strOfNums pd)) rfl (by kernel_rfl) (by kernel_rfl) (by kernel_rfl) (fun _ _ _ h => h) (Or.inl ⟨by rfl, fun W hW => by have c := (Ca.cell_row hW 35).trans H35.out; go_simp⟩) (by assumption) ?_
  try simp only [List.getElem_toArray, List.getElem_cons_zero, List.getElem_cons_succ, Act.put, List.setIfInBounds_toArray, List.set_cons_zero, List.set_cons_succ]
  refine wpAnyH_ready (rs := [3]) (by kernel_rfl) (by simp) ?_
  refine AllReadyH.cons (o := _) rfl (fun K hK => ?_) AllReadyH.nil
  refine step_str_wide (w1 := wb) rfl (.tmp 70) (.tmp 72) 9 rfl i0 Try.underlying22 Try.underlying9 hi hz0 hz1 hz2 _ (n) (HB) rfl Ot.out (by omega) bd fb rfl (by omega) ?_
  intro a6 c6 W6 r6
  have R6 : Hid (W6.heap[w.heap.size]? = some (.cells ps 34 (0, 0))) := (r6.bel.block _ (Ca.lt_of_heap R0.out)).trans R0.out
  have O6 : Hid (RB wb W6 (.slice a6 (n + bd.length) c6) (n + bd.length) (HB ++ bd)) := r6
  clear r6 Ot
  refine hK _ _ R6.out (fun hHeld => ?_)
  try simp only [List.getElem_toArray, List.getElem_cons_zero, List.getElem_cons_succ, Act.put, List.setIfInBounds_toArray, List.set_cons_zero, List.set_cons_succ]
  refine wpAnyH_ready (rs := [6]) (by kernel_rfl) (by simp) ?_
  refine AllReadyH.cons (o := _) rfl (fun K hK => ?_) AllReadyH.nil
  refine step_str_wide (w1 := wb) rfl (.tmp 73) (.tmp 75) 9 rfl i0 Try.underlying22 Try.underlying9 hi hz0 hz1 hz2 _ (n + bd.length) (HB ++ bd) rfl O6.out (by omega) pd fp rfl (by omega) ?_
  intro a7 c7 W7 r7
  have R7 : Hid (W7.heap[w.heap.size]? = some (.cells ps 34 (0, 0))) := (r7.bel.block _ (Ca.lt_of_heap R0.out)).trans R0.out
  have B7 : Hid (Below wb.heap.size wb W7) := r7.bel
  have O7 : Hid (RB w W7 (.slice a7 (n + bd.length + pd.length) c7) (n + bd.length + pd.length) (HB ++ bd ++ pd)) := ⟨own_base r7.own LB.out.size, LB.out.trans (r7.bel.mono LB.out.size)⟩
  clear r7 O6 R6
  refine hK _ _ R7.out (fun hHeld => ?_)
  try simp only [List.getElem_toArray, List.getElem_cons_zero, List.getElem_cons_succ, Act.put, List.setIfInBounds_toArray, List.set_cons_zero, List.set_cons_succ]
  refine wpAnyH_ready (rs := [7]) (by kernel_rfl) (by simp) ?_
  refine AllReadyH.cons (o := _) rfl (fun K hK => ?_) AllReadyH.nil
  go_simp
  refine hK _ _ R7.out (fun hHeld => ?_)
  refine wpAnyH_done (by kernel_rfl) ?_ _
  clear hHeld
  try simp only [List.getElem_toArray, List.getElem_cons_zero, List.getElem_cons_succ, Act.put, List.setIfInBounds_toArray, List.set_cons_zero, List.set_cons_succ]
  go_wp2_with fail
  go_ret2
  exact ⟨rfl, LB.out.trans (B7.out.mono LB.out.size)⟩
set_option maxHeartbeats 4000000 in
theorem rprint_arpL (ps : Array Value) (hs : ps.size = 36) (d s tag et : Int) (tg : Bool) (hE : ps.extract 0 (0 + 5) = #[.int .u64 d, .int .u64 s, .bool tg, .int .i64 tag, .int .i64 et]) (op sha spa tha tpa : Int) (hA : ps.extract 6 (6 + 5) = #[.int .i64 op, .int .u64 sha, .int .u32 spa, .int .u64 tha, .int .u32 tpa]) (bd pd : List Int) (fb : ∀ i, 0 ≤ bd.getD i 0 ∧ bd.getD i 0 ≤ 255) (fp : ∀ i, 0 ≤ pd.getD i 0 ∧ pd.getD i 0 ≤ 255) (h5 : ps[5]? = some (.bool true)) (h11 : ps[11]? = some (.bool false)) (h34 : ps[34]? = some (.string (strOfNums bd))) (h35 : ps[35]? = some (.string (strOfNums pd))) (n : Nat) (HB AB : List Int) (hn9 : n ≤ 1000) (hn0 : 0 < n) (hlen : 9018 < n + 28 + bd.length + pd.length) (hroom : n + 28 + bd.length + pd.length ≤ 211106232532992) (w : World)
    (HF : Hid (∀ W, Calls Try.prog 31 #[.agg ps] W fun e w' => e = .returned (.bool true) ∧ Below W.heap.size W w'))
    (HH : Hid (∀ W, Calls Try.prog 32 #[.agg #[.int .u64 d, .int .u64 s, .bool tg, .int .i64 tag, .int .i64 et]] W fun e w' => ∃ a cap, e = .returned (.tuple #[.slice a n cap, .int .i64 0]) ∧ RB W w' (.slice a n cap) n HB))
    (HA : Hid (∀ W, Calls Try.prog 33 #[.agg #[.int .i64 op, .int .u64 sha, .int .u32 spa, .int .u64 tha, .int .u32 tpa]] W fun e w' => ∃ a cap, e = .returned (.tuple #[.slice a 28 cap, .int .i64 0]) ∧ BS w' a 28 AB ∧ Below W.heap.size W w')) :
    Calls Try.prog 12 #[.agg ps] w fun e w' => e = .returned (.tuple #[.slice none 0 0, .int .i64 3]) ∧ Below w.heap.size w w' := by
  obtain ⟨i0, hi, hz0, hz1, hz2⟩ := info_parts info5
  have hb1 := strOfNums_size bd
  have hb2 := strOfNums_size pd
  have hI0 : (9018 : Int) < (n : Int) + 28 + bd.length + pd.length := by omega
  have h9E : (ps.extract 0 (0 + 5)).size = 5 := by rw [hE]; rfl
  have h9A : (ps.extract 6 (6 + 5)).size = 5 := by rw [hA]; rfl
  have H5 : Hid (ps[5]? = some (.bool true)) := h5
  have H11 : Hid (ps[11]? = some (.bool false)) := h11
  have H34 : Hid (ps[34]? = some (.string (strOfNums bd))) := h34
  have H35 : Hid (ps[35]? = some (.string (strOfNums pd))) := h35
  clear h5 h11 h34 h35
  have HS : Hid (ps.size = 36) := hs
  clear hs
  obtain ⟨wb, hwb⟩ : ∃ V, w.alloc (.cells ps 34) = V := ⟨_, rfl⟩
  have R0 : Hid (wb.heap[w.heap.size]? = some (.cells ps 34 (0, 0))) := by show _ = _; rw [← hwb]; exact heap_alloc_new w _
  have LB : Hid (Below w.heap.size w wb) := by show Below _ _ _; rw [← hwb]; exact below1 w _
  have HWB : Hid (w.alloc (.cells ps 34) = wb) := hwb
  clear hwb
  go_enter Try.func12, Try.ntmps12
  go_wp2_with (refine wpList_load_row rfl 34 _ rfl (w.heap.size) rfl 34 ps (0, 0) _ (heap_alloc_new w _) Try.underlying34 rfl (info36 HS.out) ?_)
  refine (HF.out _).mono ?_
  rintro e W1 ⟨rfl, hb⟩
  rw [HWB.out] at hb
  have B1 : Hid (Below wb.heap.size wb W1) := hb
  have R1 : Hid (W1.heap[w.heap.size]? = some (.cells ps 34 (0, 0))) := (hb.block _ (Ca.lt_of_heap R0.out)).trans R0.out
  clear hb HF
  go_wp2_with (refine Ca.wpList_load_at rfl 25 _ rfl (w.heap.size) 0 5 rfl ps 34 _ R1.out Try.underlying25 rfl h9E (by kernel_rfl) ?_; rw [hE])
  refine (HH.out _).mono ?_
  rintro e W2 ⟨a0, c0, rfl, r2⟩
  have B2 : Hid (Below wb.heap.size wb W2) := B1.out.trans (r2.bel.mono B1.out.size)
  have R2 : Hid (W2.heap[w.heap.size]? = some (.cells ps 34 (0, 0))) := (r2.bel.block _ (Ca.lt_of_heap R1.out)).trans R1.out
  have O2 : Hid (RB wb W2 (.slice a0 n c0) n HB) := ⟨own_base r2.own B1.out.size, B2.out⟩
  clear r2 HH R1 B1
  have c5x := (Ca.cell_row R2.out 5).trans H5.out
  go_wp2_with (refine Ca.wpList_load_at rfl 28 _ rfl (w.heap.size) 6 5 rfl ps 34 _ R2.out Try.underlying28 rfl h9A (by kernel_rfl) ?_; rw [hA])
  refine (HA.out _).mono ?_
  rintro e W3 ⟨a1, c1, rfl, b1, hb⟩
  have B3 : Hid (Below wb.heap.size wb W3) := B2.out.trans (hb.mono B2.out.size)
  have O3 : Hid (RB wb W3 (.slice a0 n c0) n HB) := ⟨own_below O2.out.own hb, B3.out⟩
  have D3 : Hid (BS W3 a1 28 AB) := b1
  clear hb b1 HA R2 B2 O2 c5x
  go_wp2_with (at_builtin; refine wpList_append_rb (w1 := wb) Try.underlying22 info5 rfl (.tmp 34) (.tmp 35) rfl _ _ _ rfl O3.out _ _ c1 _ rfl D3.out (by omega) ?_)
  intro a4 c4 W4 r4
  have R4 : Hid (W4.heap[w.heap.size]? = some (.cells ps 34 (0, 0))) := (r4.bel.block _ (Ca.lt_of_heap R0.out)).trans R0.out
  have O4 : Hid (RB wb W4 (.slice a4 (n + 28) c4) (n + 28) (HB ++ AB)) := r4
  clear r4 O3 D3 B3
  have c11x := (Ca.cell_row R4.out 11).trans H11.out
  go_wp2_with fail
  clear c11x
  refine wp_region_held_drew (S := (fun W => W.heap[w.heap.size]? = some (.cells ps 34 (0, 0)))) (by kernel_rfl) R4.out (fun hHeld => ?_)
  have Ot : Hid (RB wb W4.drew (.slice a4 (n + 28) c4) (n + 28) (HB ++ AB)) := O4.out.drew
  obtain ⟨Wt, hWt⟩ : ∃ V, W4.drew = V := ⟨_, rfl⟩
  rw [hWt] at Ot hHeld ⊢
  clear hWt R4 O4
  refine wpAnyH_take (i := 0) (v := ?_) rfl (by kernel_rfl) (by kernel_rfl) (by kernel_rfl) (fun _ _ _ h => h) (Or.inl ⟨by rfl, ?_⟩) (by assumption) ?_
  rotate_left
  · (intro w hSw; (try dsimp only at hSw); go_simp; try with_reducible rfl)
  try simp only [List.getElem_toArray, List.getElem_cons_zero, List.getElem_cons_succ, Act.put, List.setIfInBounds_toArray, List.set_cons_zero, List.set_cons_succ]
  refine wpAnyH_take (i := 1) (v := ?_) rfl (by kernel_rfl) (by kernel_rfl) (by kernel_rfl) (fun _ _ _ h => h) (Or.inl ⟨by rfl, ?_⟩) (by assumption) ?_
  rotate_left
  · (intro w hSw; (try dsimp only at hSw); go_simp; try with_reducible rfl)
  try simp only [List.getElem_toArray, List.getElem_cons_zero, List.getElem_cons_succ, Act.put, List.setIfInBounds_toArray, List.set_cons_zero, List.set_cons_succ]
  refine wpAnyH_take (i := 2) (v := .string (strOfNums bd)) rfl (by kernel_rfl) (by kernel_rfl) (by kernel_rfl) (fun _ _ _ h => h) (Or.inl ⟨by rfl, fun W hW => by have c := (Ca.cell_row hW 34).trans H34.out; go_simp⟩) (by assumption) ?_
  try simp only [List.getElem_toArray, List.getElem_cons_zero, List.getElem_cons_succ, Act.put, List.setIfInBounds_toArray, List.set_cons_zero, List.set_cons_succ]
  refine wpAnyH_take (i := 4) (v := ?_) rfl (by kernel_rfl) (by kernel_rfl) (by kernel_rfl) (fun _ _ _ h => h) (Or.inl ⟨by rfl, ?_⟩) (by assumption) ?_
  rotate_left
  · (intro w hSw; (try dsimp only at hSw); go_simp; try with_reducible rfl)
  try simp only [List.getElem_toArray, List.getElem_cons_zero, List.getElem_cons_succ, Act.put, List.setIfInBounds_toArray, List.set_cons_zero, List.set_cons_succ]
  refine wpAnyH_take (i := 5) (v := .string (strOfNums pd)) rfl (by kernel_rfl) (by kernel_rfl) (by kernel_rfl) (fun _ _ _ h => h) (Or.inl ⟨by rfl, fun W hW => by have c := (Ca.cell_row hW 35).trans H35.out; go_simp⟩) (by assumption) ?_
  try simp only [List.getElem_toArray, List.getElem_cons_zero, List.getElem_cons_succ, Act.put, List.setIfInBounds_toArray, List.set_cons_zero, List.set_cons_succ]
  refine wpAnyH_ready (rs := [3]) (by kernel_rfl) (by simp) ?_
  refine AllReadyH.cons (o := _) rfl (fun K hK => ?_) AllReadyH.nil
  refine step_str_wide (w1 := wb) rfl (.tmp 70) (.tmp 72) 9 rfl i0 Try.underlying22 Try.underlying9 hi hz0 hz1 hz2 _ (n + 28) (HB ++ AB) rfl Ot.out (by omega) bd fb rfl (by omega) ?_
  intro a6 c6 W6 r6
  have R6 : Hid (W6.heap[w.heap.size]? = some (.cells ps 34 (0, 0))) := (r6.bel.block _ (Ca.lt_of_heap R0.out)).trans R0.out
  have O6 : Hid (RB wb W6 (.slice a6 (n + 28 + bd.length) c6) (n + 28 + bd.length) (HB ++ AB ++ bd)) := r6
  clear r6 Ot
  refine hK _ _ R6.out (fun hHeld => ?_)
  try simp only [List.getElem_toArray, List.getElem_cons_zero, List.getElem_cons_succ, Act.put, List.setIfInBounds_toArray, List.set_cons_zero, List.set_cons_succ]
  refine wpAnyH_ready (rs := [6]) (by kernel_rfl) (by simp) ?_
  refine AllReadyH.cons (o := _) rfl (fun K hK => ?_) AllReadyH.nil
  refine step_str_wide (w1 := wb) rfl (.tmp 73) (.tmp 75) 9 rfl i0 Try.underlying22 Try.underlying9 hi hz0 hz1 hz2 _ (n + 28 + bd.length) (HB ++ AB ++ bd) rfl O6.out (by omega) pd fp rfl (by omega) ?_
  intro a7 c7 W7 r7
  have R7 : Hid (W7.heap[w.heap.size]? = some (.cells ps 34 (0, 0))) := (r7.bel.block _ (Ca.lt_of_heap R0.out)).trans R0.out
  have B7 : Hid (Below wb.heap.size wb W7) := r7.bel
  have O7 : Hid (RB w W7 (.slice a7 (n + 28 + bd.length + pd.length) c7) (n + 28 + bd.length + pd.length) (HB ++ AB ++ bd ++ pd)) := ⟨own_base r7.own LB.out.size, LB.out.trans (r7.bel.mono LB.out.size)⟩
  clear r7 O6 R6
  refine hK _ _ R7.out (fun hHeld => ?_)
  try simp only [List.getElem_toArray, List.getElem_cons_zero, List.getElem_cons_succ, Act.put, List.setIfInBounds_toArray, List.set_cons_zero, List.set_cons_succ]
  refine wpAnyH_ready (rs := [7]) (by kernel_rfl) (by simp) ?_
  refine AllReadyH.cons (o := _) rfl (fun K hK => ?_) AllReadyH.nil
  go_simp
  refine hK _ _ R7.out (fun hHeld => ?_)
  refine wpAnyH_done (by kernel_rfl) ?_ _
  clear hHeld
  try simp only [List.getElem_toArray, List.getElem_cons_zero, List.getElem_cons_succ, Act.put, List.setIfInBounds_toArray, List.set_cons_zero, List.set_cons_succ]
  go_wp2_with fail
  go_ret2
  exact ⟨rfl, LB.out.trans (B7.out.mono LB.out.size)⟩
set_option maxHeartbeats 4000000 in
theorem rprint_ipL (ps : Array Value) (hs : ps.size = 36) (d s tag et : Int) (tg : Bool) (hE : ps.extract 0 (0 + 5) = #[.int .u64 d, .int .u64 s, .bool tg, .int .i64 tag, .int .i64 et]) (tos id fr ttl pr src dst : Int) (io : List Int) (k ty co re sp dp : Int) (ns : Bool) (sq ak fl wi ur : Int) (lo ds : List Int) (hI : ps.extract 12 (12 + 8) = #[.int .i64 tos, .int .i64 id, .int .i64 fr, .int .i64 ttl, .int .i64 pr, .int .u32 src, .int .u32 dst, .string (strOfNums io)]) (hL : ps.extract 20 (20 + 14) = #[.int .i64 k, .int .i64 ty, .int .i64 co, .int .u32 re, .int .i64 sp, .int .i64 dp, .bool ns, .int .u32 sq, .int .u32 ak, .int .i64 fl, .int .i64 wi, .int .i64 ur, .string (strOfNums lo), .string (strOfNums ds)]) (bd pd : List Int) (fb : ∀ i, 0 ≤ bd.getD i 0 ∧ bd.getD i 0 ≤ 255) (fp : ∀ i, 0 ≤ pd.getD i 0 ∧ pd.getD i 0 ≤ 255) (h5 : ps[5]? = some (.bool false)) (h11 : ps[11]? = some (.bool true)) (h17 : ps[17]? = some (.int .u32 src)) (h18 : ps[18]? = some (.int .u32 dst)) (h34 : ps[34]? = some (.string (strOfNums bd))) (h35 : ps[35]? = some (.string (strOfNums pd))) (n m k9 : Nat) (HB DB IB : List Int) (hn9 : n ≤ 1000) (hm9 : m ≤ 1000000) (hk9 : k9 ≤ 1000) (hn0 : 0 < n) (hlen : 9018 < n + k9 + m + bd.length + pd.length) (hroom : n + k9 + m + bd.length + pd.length ≤ 211106232532992) (w : World)
    (HF : Hid (∀ W, Calls Try.prog 31 #[.agg ps] W fun e w' => e = .returned (.bool true) ∧ Below W.heap.size W w'))
    (HH : Hid (∀ W, Calls Try.prog 32 #[.agg #[.int .u64 d, .int .u64 s, .bool tg, .int .i64 tag, .int .i64 et]] W fun e w' => ∃ a cap, e = .returned (.tuple #[.slice a n cap, .int .i64 0]) ∧ RB W w' (.slice a n cap) n HB))
    (HL : Hid (∀ W, Calls Try.prog 34 #[.int .u32 src, .int .u32 dst, .agg #[.int .i64 k, .int .i64 ty, .int .i64 co, .int .u32 re, .int .i64 sp, .int .i64 dp, .bool ns, .int .u32 sq, .int .u32 ak, .int .i64 fl, .int .i64 wi, .int .i64 ur, .string (strOfNums lo), .string (strOfNums ds)]] W fun e w' => ∃ a cap, e = .returned (.tuple #[.slice a m cap, .int .i64 0]) ∧ BS w' a m DB ∧ FrA W a ∧ Below W.heap.size W w'))
    (HP : Hid (∀ W, Calls Try.prog 35 #[.agg #[.int .i64 tos, .int .i64 id, .int .i64 fr, .int .i64 ttl, .int .i64 pr, .int .u32 src, .int .u32 dst, .string (strOfNums io)], .int .i64 m] W fun e w' => ∃ a cap, e = .returned (.tuple #[.slice a k9 cap, .int .i64 0]) ∧ BS w' a k9 IB ∧ Below W.heap.size W w')) :
    Calls Try.prog 12 #[.agg ps] w fun e w' => e = .returned (.tuple #[.slice none 0 0, .int .i64 3]) ∧ Below w.heap.size w w' := by
  obtain ⟨i0, hi, hz0, hz1, hz2⟩ := info_parts info5
  have hb1 := strOfNums_size bd
  have hb2 := strOfNums_size pd
  have hI0 : (9018 : Int) < (n : Int) + k9 + m + bd.length + pd.length := by omega
  have h9E : (ps.extract 0 (0 + 5)).size = 5 := by rw [hE]; rfl
  have h9I : (ps.extract 12 (12 + 8)).size = 8 := by rw [hI]; rfl
  have h9L : (ps.extract 20 (20 + 14)).size = 14 := by rw [hL]; rfl
  have H5 : Hid (ps[5]? = some (.bool false)) := h5
  have H11 : Hid (ps[11]? = some (.bool true)) := h11
  have H17 : Hid (ps[17]? = some (.int .u32 src)) := h17
  have H18 : Hid (ps[18]? = some (.int .u32 dst)) := h18
  have H34 : Hid (ps[34]? = some (.string (strOfNums bd))) := h34
  have H35 : Hid (ps[35]? = some (.string (strOfNums pd))) := h35
  clear h5 h11 h17 h18 h34 h35
  have HS : Hid (ps.size = 36) := hs
  clear hs
  obtain ⟨wb, hwb⟩ : ∃ V, w.alloc (.cells ps 34) = V := ⟨_, rfl⟩
  have R0 : Hid (wb.heap[w.heap.size]? = some (.cells ps 34 (0, 0))) := by show _ = _; rw [← hwb]; exact heap_alloc_new w _
  have LB : Hid (Below w.heap.size w wb) := by show Below _ _ _; rw [← hwb]; exact below1 w _
  have HWB : Hid (w.alloc (.cells ps 34) = wb) := hwb
  clear hwb
  go_enter Try.func12, Try.ntmps12
  go_wp2_with (refine wpList_load_row rfl 34 _ rfl (w.heap.size) rfl 34 ps (0, 0) _ (heap_alloc_new w _) Try.underlying34 rfl (info36 HS.out) ?_)
  refine (HF.out _).mono ?_
  rintro e W1 ⟨rfl, hb⟩
  rw [HWB.out] at hb
  have B1 : Hid (Below wb.heap.size wb W1) := hb
  have R1 : Hid (W1.heap[w.heap.size]? = some (.cells ps 34 (0, 0))) := (hb.block _ (Ca.lt_of_heap R0.out)).trans R0.out
  clear hb HF
  go_wp2_with (refine Ca.wpList_load_at rfl 25 _ rfl (w.heap.size) 0 5 rfl ps 34 _ R1.out Try.underlying25 rfl h9E (by kernel_rfl) ?_; rw [hE])
  refine (HH.out _).mono ?_
  rintro e W2 ⟨a0, c0, rfl, r2⟩
  have B2 : Hid (Below wb.heap.size wb W2) := B1.out.trans (r2.bel.mono B1.out.size)
  have R2 : Hid (W2.heap[w.heap.size]? = some (.cells ps 34 (0, 0))) := (r2.bel.block _ (Ca.lt_of_heap R1.out)).trans R1.out
  have O2 : Hid (RB wb W2 (.slice a0 n c0) n HB) := ⟨own_base r2.own B1.out.size, B2.out⟩
  clear r2 HH R1 B1
  have c5x := (Ca.cell_row R2.out 5).trans H5.out
  have c11x := (Ca.cell_row R2.out 11).trans H11.out
  have c17x := (Ca.cell_row R2.out 17).trans H17.out
  have c18x := (Ca.cell_row R2.out 18).trans H18.out
  go_wp2_with (refine Ca.wpList_load_at rfl 32 _ rfl (w.heap.size) 20 14 rfl ps 34 _ R2.out Try.underlying32 rfl h9L (by kernel_rfl) ?_; rw [hL])
  refine (HL.out _).mono ?_
  rintro e W3 ⟨a1, c1, rfl, b1, fr, hb⟩
  have B3 : Hid (Below wb.heap.size wb W3) := B2.out.trans (hb.mono B2.out.size)
  have F3 : Hid (∀ x k, a1 = some x → (Value.slice a0 n c0).ownBlock = some k → x.block ≠ k) := fun x k hx hk => by
    have h1 := fr x hx
    have h2 := (World.ownsRow.lt O2.out.own k hk).2
    omega
  have R3 : Hid (W3.heap[w.heap.size]? = some (.cells ps 34 (0, 0))) := (hb.block _ (Ca.lt_of_heap R2.out)).trans R2.out
  have O3 : Hid (RB wb W3 (.slice a0 n c0) n HB) := ⟨own_below O2.out.own hb, B3.out⟩
  have D3 : Hid (BS W3 a1 m DB) := b1
  clear hb b1 fr HL R2 B2 O2 c5x c11x c17x c18x
  go_wp2_with (refine Ca.wpList_load_at rfl 30 _ rfl (w.heap.size) 12 8 rfl ps 34 _ R3.out Try.underlying30 rfl h9I (by kernel_rfl) ?_; rw [hI])
  refine (HP.out _).mono ?_
  rintro e W4 ⟨a2, c2, rfl, b2, hb⟩
  have B4 : Hid (Below wb.heap.size wb W4) := B3.out.trans (hb.mono B3.out.size)
  have O4 : Hid (RB wb W4 (.slice a0 n c0) n HB) := ⟨own_below O3.out.own hb, B4.out⟩
  have D4 : Hid (BS W4 a1 m DB) := D3.out.below hb
  have I4 : Hid (BS W4 a2 k9 IB) := b2
  clear hb b2 HP R3 B3 O3 D3
  go_wp2_with (at_builtin; refine wpList_append_bsa rfl (.tmp 65) (.tmp 66) 22 rfl wb.heap.size 5 i0 Try.underlying22 hi hz0 hz1 hz2 _ _ _ rfl O4.out.own _ _ c2 _ rfl I4.out (by omega) O4.out.bel.size ?_)
  intro a5 c5 W5 o5 g5 _
  have O5 : Hid (RB wb W5 (.slice a5 (n + k9) c5) (n + k9) (HB ++ IB)) := rb_step O4.out (by rw [List.map_append]; exact o5) g5
  have D5 : Hid (BS W5 a1 m DB) := D4.out.grown g5 F3.out
  clear o5 g5 O4 D4 I4 B4 F3
  go_wp2_with (at_builtin; refine wpList_append_rb (w1 := wb) Try.underlying22 info5 rfl (.tmp 67) (.tmp 68) rfl _ _ _ rfl O5.out _ _ c1 _ rfl D5.out (by omega) ?_)
  intro a8 c8 W8 r8
  have R8 : Hid (W8.heap[w.heap.size]? = some (.cells ps 34 (0, 0))) := (r8.bel.block _ (Ca.lt_of_heap R0.out)).trans R0.out
  have O8 : Hid (RB wb W8 (.slice a8 (n + k9 + m) c8) (n + k9 + m) (HB ++ IB ++ DB)) := by show RB _ _ _ _ _; rw [List.append_assoc]; exact r8
  clear r8 O5 D5
  go_wp2_with fail
  refine wp_region_held_drew (S := (fun W => W.heap[w.heap.size]? = some (.cells ps 34 (0, 0)))) (by kernel_rfl) R8.out (fun hHeld => ?_)
  have Ot : Hid (RB wb W8.drew (.slice a8 (n + k9 + m) c8) (n + k9 + m) (HB ++ IB ++ DB)) := O8.out.drew
  obtain ⟨Wt, hWt⟩ : ∃ V, W8.drew = V := ⟨_, rfl⟩
  rw [hWt] at Ot hHeld ⊢
  clear hWt R8 O8
  refine wpAnyH_take (i := 0) (v := ?_) rfl (by kernel_rfl) (by kernel_rfl) (by kernel_rfl) (fun _ _ _ h => h) (Or.inl ⟨by rfl, ?_⟩) (by assumption) ?_
  rotate_left
  · (intro w hSw; (try dsimp only at hSw); go_simp; try with_reducible rfl)
  try simp only [List.getElem_toArray, List.getElem_cons_zero, List.getElem_cons_succ, Act.put, List.setIfInBounds_toArray, List.set_cons_zero, List.set_cons_succ]
  refine wpAnyH_take (i := 1) (v := ?_) rfl (by kernel_rfl) (by kernel_rfl) (by kernel_rfl) (fun _ _ _ h => h) (Or.inl ⟨by rfl, ?_⟩) (by assumption) ?_
  rotate_left
  · (intro w hSw; (try dsimp only at hSw); go_simp; try with_reducible rfl)
  try simp only [List.getElem_toArray, List.getElem_cons_zero, List.getElem_cons_succ, Act.put, List.setIfInBounds_toArray, List.set_cons_zero, List.set_cons_succ]
  refine wpAnyH_take (i := 2) (v := .string (strOfNums bd)) rfl (by kernel_rfl) (by kernel_rfl) (by kernel_rfl) (fun _ _ _ h => h) (Or.inl ⟨by rfl, fun W hW => by have c := (Ca.cell_row hW 34).trans H34.out; go_simp⟩) (by assumption) ?_
  try simp only [List.getElem_toArray, List.getElem_cons_zero, List.getElem_cons_succ, Act.put, List.setIfInBounds_toArray, List.set_cons_zero, List.set_cons_succ]
  refine wpAnyH_take (i := 4) (v := ?_) rfl (by kernel_rfl) (by kernel_rfl) (by kernel_rfl) (fun _ _ _ h => h) (Or.inl ⟨by rfl, ?_⟩) (by assumption) ?_
  rotate_left
  · (intro w hSw; (try dsimp only at hSw); go_simp; try with_reducible rfl)
  try simp only [List.getElem_toArray, List.getElem_cons_zero, List.getElem_cons_succ, Act.put, List.setIfInBounds_toArray, List.set_cons_zero, List.set_cons_succ]
  refine wpAnyH_take (i := 5) (v := .string (strOfNums pd)) rfl (by kernel_rfl) (by kernel_rfl) (by kernel_rfl) (fun _ _ _ h => h) (Or.inl ⟨by rfl, fun W hW => by have c := (Ca.cell_row hW 35).trans H35.out; go_simp⟩) (by assumption) ?_
  try simp only [List.getElem_toArray, List.getElem_cons_zero, List.getElem_cons_succ, Act.put, List.setIfInBounds_toArray, List.set_cons_zero, List.set_cons_succ]
  refine wpAnyH_ready (rs := [3]) (by kernel_rfl) (by simp) ?_
  refine AllReadyH.cons (o := _) rfl (fun K hK => ?_) AllReadyH.nil
  refine step_str_wide (w1 := wb) rfl (.tmp 70) (.tmp 72) 9 rfl i0 Try.underlying22 Try.underlying9 hi hz0 hz1 hz2 _ (n + k9 + m) (HB ++ IB ++ DB) rfl Ot.out (by omega) bd fb rfl (by omega) ?_
  intro a6 c6 W6 r6
  have R6 : Hid (W6.heap[w.heap.size]? = some (.cells ps 34 (0, 0))) := (r6.bel.block _ (Ca.lt_of_heap R0.out)).trans R0.out
  have O6 : Hid (RB wb W6 (.slice a6 (n + k9 + m + bd.length) c6) (n + k9 + m + bd.length) (HB ++ IB ++ DB ++ bd)) := r6
  clear r6 Ot
  refine hK _ _ R6.out (fun hHeld => ?_)
  try simp only [List.getElem_toArray, List.getElem_cons_zero, List.getElem_cons_succ, Act.put, List.setIfInBounds_toArray, List.set_cons_zero, List.set_cons_succ]
  refine wpAnyH_ready (rs := [6]) (by kernel_rfl) (by simp) ?_
  refine AllReadyH.cons (o := _) rfl (fun K hK => ?_) AllReadyH.nil
  refine step_str_wide (w1 := wb) rfl (.tmp 73) (.tmp 75) 9 rfl i0 Try.underlying22 Try.underlying9 hi hz0 hz1 hz2 _ (n + k9 + m + bd.length) (HB ++ IB ++ DB ++ bd) rfl O6.out (by omega) pd fp rfl (by omega) ?_
  intro a7 c7 W7 r7
  have R7 : Hid (W7.heap[w.heap.size]? = some (.cells ps 34 (0, 0))) := (r7.bel.block _ (Ca.lt_of_heap R0.out)).trans R0.out
  have B7 : Hid (Below wb.heap.size wb W7) := r7.bel
  have O7 : Hid (RB w W7 (.slice a7 (n + k9 + m + bd.length + pd.length) c7) (n + k9 + m + bd.length + pd.length) (HB ++ IB ++ DB ++ bd ++ pd)) := ⟨own_base r7.own LB.out.size, LB.out.trans (r7.bel.mono LB.out.size)⟩
  clear r7 O6 R6
  refine hK _ _ R7.out (fun hHeld => ?_)
  try simp only [List.getElem_toArray, List.getElem_cons_zero, List.getElem_cons_succ, Act.put, List.setIfInBounds_toArray, List.set_cons_zero, List.set_cons_succ]
  refine wpAnyH_ready (rs := [7]) (by kernel_rfl) (by simp) ?_
  refine AllReadyH.cons (o := _) rfl (fun K hK => ?_) AllReadyH.nil
  go_simp
  refine hK _ _ R7.out (fun hHeld => ?_)
  refine wpAnyH_done (by kernel_rfl) ?_ _
  clear hHeld
  try simp only [List.getElem_toArray, List.getElem_cons_zero, List.getElem_cons_succ, Act.put, List.setIfInBounds_toArray, List.set_cons_zero, List.set_cons_succ]
  go_wp2_with fail
  go_ret2
  exact ⟨rfl, LB.out.trans (B7.out.mono LB.out.size)⟩
end Go.Proofs.Ytpiokeidcnbmbaa

namespace Go.Proofs.Ytpiokeidcnbmbaa
open Go.RowKit
set_option maxRecDepth 20000
set_option maxHeartbeats 8000000 in
theorem eqEth (d : Int) (s : Int) (tg : Bool) (tag : Int) (et : Int) (d9 : Int) (s9 : Int) (tg9 : Bool) (tag9 : Int) (et9 : Int) (W : World) : (Op.equalIn 9999 25 (.agg #[.int .u64 d, .int .u64 s, .bool tg, .int .i64 tag, .int .i64 et]) (.agg #[.int .u64 d9, .int .u64 s9, .bool tg9, .int .i64 tag9, .int .i64 et9])).run Try.prog W = .ok (d == d9 && s == s9 && tg == tg9 && tag == tag9 && et == et9) W := by
  cases h0 : (d == d9)
  · simp [go_sem, h0]
  cases h1 : (s == s9)
  · simp [go_sem, h0, h1]
  cases h2 : (tg == tg9)
  · simp [go_sem, h0, h1, h2]
  cases h3 : (tag == tag9)
  · simp [go_sem, h0, h1, h2, h3]
  cases h4 : (et == et9)
  · simp [go_sem, h0, h1, h2, h3, h4]
  simp [go_sem, h0, h1, h2, h3, h4]
set_option maxHeartbeats 8000000 in
theorem eqArp (op : Int) (sha : Int) (spa : Int) (tha : Int) (tpa : Int) (op9 : Int) (sha9 : Int) (spa9 : Int) (tha9 : Int) (tpa9 : Int) (W : World) : (Op.equalIn 9999 28 (.agg #[.int .i64 op, .int .u64 sha, .int .u32 spa, .int .u64 tha, .int .u32 tpa]) (.agg #[.int .i64 op9, .int .u64 sha9, .int .u32 spa9, .int .u64 tha9, .int .u32 tpa9])).run Try.prog W = .ok (op == op9 && sha == sha9 && spa == spa9 && tha == tha9 && tpa == tpa9) W := by
  cases h0 : (op == op9)
  · simp [go_sem, h0]
  cases h1 : (sha == sha9)
  · simp [go_sem, h0, h1]
  cases h2 : (spa == spa9)
  · simp [go_sem, h0, h1, h2]
  cases h3 : (tha == tha9)
  · simp [go_sem, h0, h1, h2, h3]
  cases h4 : (tpa == tpa9)
  · simp [go_sem, h0, h1, h2, h3, h4]
  simp [go_sem, h0, h1, h2, h3, h4]
set_option maxHeartbeats 8000000 in
theorem eqIp (tos : Int) (id : Int) (fr : Int) (ttl : Int) (pr : Int) (src : Int) (dst : Int) (io : ByteArray) (tos9 : Int) (id9 : Int) (fr9 : Int) (ttl9 : Int) (pr9 : Int) (src9 : Int) (dst9 : Int) (io9 : ByteArray) (W : World) : (Op.equalIn 9999 30 (.agg #[.int .i64 tos, .int .i64 id, .int .i64 fr, .int .i64 ttl, .int .i64 pr, .int .u32 src, .int .u32 dst, .string io]) (.agg #[.int .i64 tos9, .int .i64 id9, .int .i64 fr9, .int .i64 ttl9, .int .i64 pr9, .int .u32 src9, .int .u32 dst9, .string io9])).run Try.prog W = .ok (tos == tos9 && id == id9 && fr == fr9 && ttl == ttl9 && pr == pr9 && src == src9 && dst == dst9 && io.toList == io9.toList) W := by
  cases h0 : (tos == tos9)
  · simp [go_sem, h0]
  cases h1 : (id == id9)
  · simp [go_sem, h0, h1]
  cases h2 : (fr == fr9)
  · simp [go_sem, h0, h1, h2]
  cases h3 : (ttl == ttl9)
  · simp [go_sem, h0, h1, h2, h3]
  cases h4 : (pr == pr9)
  · simp [go_sem, h0, h1, h2, h3, h4]
  cases h5 : (src == src9)
  · simp [go_sem, h0, h1, h2, h3, h4, h5]
  cases h6 : (dst == dst9)
  · simp [go_sem, h0, h1, h2, h3, h4, h5, h6]
  cases h7 : (io.toList == io9.toList)
  · simp [go_sem, h0, h1, h2, h3, h4, h5, h6, h7]
  simp [go_sem, h0, h1, h2, h3, h4, h5, h6, h7]
set_option maxHeartbeats 8000000 in
theorem eqL4 (k : Int) (ty : Int) (co : Int) (re : Int) (sp : Int) (dp : Int) (ns : Bool) (sq : Int) (ak : Int) (fl : Int) (wi : Int) (ur : Int) (lo : ByteArray) (ds : ByteArray) (k9 : Int) (ty9 : Int) (co9 : Int) (re9 : Int) (sp9 : Int) (dp9 : Int) (ns9 : Bool) (sq9 : Int) (ak9 : Int) (fl9 : Int) (wi9 : Int) (ur9 : Int) (lo9 : ByteArray) (ds9 : ByteArray) (W : World) : (Op.equalIn 9999 32 (.agg #[.int .i64 k, .int .i64 ty, .int .i64 co, .int .u32 re, .int .i64 sp, .int .i64 dp, .bool ns, .int .u32 sq, .int .u32 ak, .int .i64 fl, .int .i64 wi, .int .i64 ur, .string lo, .string ds]) (.agg #[.int .i64 k9, .int .i64 ty9, .int .i64 co9, .int .u32 re9, .int .i64 sp9, .int .i64 dp9, .bool ns9, .int .u32 sq9, .int .u32 ak9, .int .i64 fl9, .int .i64 wi9, .int .i64 ur9, .string lo9, .string ds9])).run Try.prog W = .ok (k == k9 && ty == ty9 && co == co9 && re == re9 && sp == sp9 && dp == dp9 && ns == ns9 && sq == sq9 && ak == ak9 && fl == fl9 && wi == wi9 && ur == ur9 && lo.toList == lo9.toList && ds.toList == ds9.toList) W := by
  cases h0 : (k == k9)
  · simp [go_sem, h0]
  cases h1 : (ty == ty9)
  · simp [go_sem, h0, h1]
  cases h2 : (co == co9)
  · simp [go_sem, h0, h1, h2]
  cases h3 : (re == re9)
  · simp [go_sem, h0, h1, h2, h3]
  cases h4 : (sp == sp9)
  · simp [go_sem, h0, h1, h2, h3, h4]
  cases h5 : (dp == dp9)
  · simp [go_sem, h0, h1, h2, h3, h4, h5]
  cases h6 : (ns == ns9)
  · simp [go_sem, h0, h1, h2, h3, h4, h5, h6]
  cases h7 : (sq == sq9)
  · simp [go_sem, h0, h1, h2, h3, h4, h5, h6, h7]
  cases h8 : (ak == ak9)
  · simp [go_sem, h0, h1, h2, h3, h4, h5, h6, h7, h8]
  cases h9 : (fl == fl9)
  · simp [go_sem, h0, h1, h2, h3, h4, h5, h6, h7, h8, h9]
  cases h10 : (wi == wi9)
  · simp [go_sem, h0, h1, h2, h3, h4, h5, h6, h7, h8, h9, h10]
  cases h11 : (ur == ur9)
  · simp [go_sem, h0, h1, h2, h3, h4, h5, h6, h7, h8, h9, h10, h11]
  cases h12 : (lo.toList == lo9.toList)
  · simp [go_sem, h0, h1, h2, h3, h4, h5, h6, h7, h8, h9, h10, h11, h12]
  cases h13 : (ds.toList == ds9.toList)
  · simp [go_sem, h0, h1, h2, h3, h4, h5, h6, h7, h8, h9, h10, h11, h12, h13]
  simp [go_sem, h0, h1, h2, h3, h4, h5, h6, h7, h8, h9, h10, h11, h12, h13]
set_option maxHeartbeats 8000000 in
theorem eqPacket (d : Int) (s : Int) (tg : Bool) (tag : Int) (et : Int) (ia : Bool) (op : Int) (sha : Int) (spa : Int) (tha : Int) (tpa : Int) (ii : Bool) (tos : Int) (id : Int) (fr : Int) (ttl : Int) (pr : Int) (src : Int) (dst : Int) (io : ByteArray) (k : Int) (ty : Int) (co : Int) (re : Int) (sp : Int) (dp : Int) (ns : Bool) (sq : Int) (ak : Int) (fl : Int) (wi : Int) (ur : Int) (lo : ByteArray) (ds : ByteArray) (bd : ByteArray) (pd : ByteArray) (d9 : Int) (s9 : Int) (tg9 : Bool) (tag9 : Int) (et9 : Int) (ia9 : Bool) (op9 : Int) (sha9 : Int) (spa9 : Int) (tha9 : Int) (tpa9 : Int) (ii9 : Bool) (tos9 : Int) (id9 : Int) (fr9 : Int) (ttl9 : Int) (pr9 : Int) (src9 : Int) (dst9 : Int) (io9 : ByteArray) (k9 : Int) (ty9 : Int) (co9 : Int) (re9 : Int) (sp9 : Int) (dp9 : Int) (ns9 : Bool) (sq9 : Int) (ak9 : Int) (fl9 : Int) (wi9 : Int) (ur9 : Int) (lo9 : ByteArray) (ds9 : ByteArray) (bd9 : ByteArray) (pd9 : ByteArray) (W : World) : (Op.equalIn 10000 34 (.agg #[.int .u64 d, .int .u64 s, .bool tg, .int .i64 tag, .int .i64 et, .bool ia, .int .i64 op, .int .u64 sha, .int .u32 spa, .int .u64 tha, .int .u32 tpa, .bool ii, .int .i64 tos, .int .i64 id, .int .i64 fr, .int .i64 ttl, .int .i64 pr, .int .u32 src, .int .u32 dst, .string io, .int .i64 k, .int .i64 ty, .int .i64 co, .int .u32 re, .int .i64 sp, .int .i64 dp, .bool ns, .int .u32 sq, .int .u32 ak, .int .i64 fl, .int .i64 wi, .int .i64 ur, .string lo, .string ds, .string bd, .string pd]) (.agg #[.int .u64 d9, .int .u64 s9, .bool tg9, .int .i64 tag9, .int .i64 et9, .bool ia9, .int .i64 op9, .int .u64 sha9, .int .u32 spa9, .int .u64 tha9, .int .u32 tpa9, .bool ii9, .int .i64 tos9, .int .i64 id9, .int .i64 fr9, .int .i64 ttl9, .int .i64 pr9, .int .u32 src9, .int .u32 dst9, .string io9, .int .i64 k9, .int .i64 ty9, .int .i64 co9, .int .u32 re9, .int .i64 sp9, .int .i64 dp9, .bool ns9, .int .u32 sq9, .int .u32 ak9, .int .i64 fl9, .int .i64 wi9, .int .i64 ur9, .string lo9, .string ds9, .string bd9, .string pd9])).run Try.prog W = .ok ((d == d9 && s == s9 && tg == tg9 && tag == tag9 && et == et9) && (ia == ia9) && (op == op9 && sha == sha9 && spa == spa9 && tha == tha9 && tpa == tpa9) && (ii == ii9) && (tos == tos9 && id == id9 && fr == fr9 && ttl == ttl9 && pr == pr9 && src == src9 && dst == dst9 && io.toList == io9.toList) && (k == k9 && ty == ty9 && co == co9 && re == re9 && sp == sp9 && dp == dp9 && ns == ns9 && sq == sq9 && ak == ak9 && fl == fl9 && wi == wi9 && ur == ur9 && lo.toList == lo9.toList && ds.toList == ds9.toList) && (bd.toList == bd9.toList) && (pd.toList == pd9.toList)) W := by
  rw [show (10000 : Nat) = 9999 + 1 from rfl, run_equalIn_struct W 9999 34 _ _ (by kernel_rfl) (by kernel_rfl)]
  cases h0 : (d == d9 && s == s9 && tg == tg9 && tag == tag9 && et == et9)
  · simp [go_sem, eqEth, eqArp, eqIp, eqL4, h0]
  cases h1 : (ia == ia9)
  · simp [go_sem, eqEth, eqArp, eqIp, eqL4, h0, h1]
  cases h2 : (op == op9 && sha == sha9 && spa == spa9 && tha == tha9 && tpa == tpa9)
  · simp [go_sem, eqEth, eqArp, eqIp, eqL4, h0, h1, h2]
  cases h3 : (ii == ii9)
  · simp [go_sem, eqEth, eqArp, eqIp, eqL4, h0, h1, h2, h3]
  cases h4 : (tos == tos9 && id == id9 && fr == fr9 && ttl == ttl9 && pr == pr9 && src == src9 && dst == dst9 && io.toList == io9.toList)
  · simp [go_sem, eqEth, eqArp, eqIp, eqL4, h0, h1, h2, h3, h4]
  cases h5 : (k == k9 && ty == ty9 && co == co9 && re == re9 && sp == sp9 && dp == dp9 && ns == ns9 && sq == sq9 && ak == ak9 && fl == fl9 && wi == wi9 && ur == ur9 && lo.toList == lo9.toList && ds.toList == ds9.toList)
  · simp [go_sem, eqEth, eqArp, eqIp, eqL4, h0, h1, h2, h3, h4, h5]
  cases h6 : (bd.toList == bd9.toList)
  · simp [go_sem, eqEth, eqArp, eqIp, eqL4, h0, h1, h2, h3, h4, h5, h6]
  cases h7 : (pd.toList == pd9.toList)
  · simp [go_sem, eqEth, eqArp, eqIp, eqL4, h0, h1, h2, h3, h4, h5, h6, h7]
  simp [go_sem, eqEth, eqArp, eqIp, eqL4, h0, h1, h2, h3, h4, h5, h6, h7]
end Go.Proofs.Ytpiokeidcnbmbaa

namespace Go.Proofs.Ytpiokeidcnbmbaa
open Go.RowKit
set_option maxRecDepth 20000
/-- A packet's numbers. -/
structure PkR where
  d : Int
  s : Int
  tg : Bool
  tag : Int
  et : Int
  ia : Bool
  op : Int
  sha : Int
  spa : Int
  tha : Int
  tpa : Int
  ii : Bool
  tos : Int
  id : Int
  fr : Int
  ttl : Int
  pr : Int
  src : Int
  dst : Int
  io : List Int
  l : L4R
  bd : List Int
  pd : List Int
def PkR.ps (x : PkR) : Array Value := #[.int .u64 x.d, .int .u64 x.s, .bool x.tg, .int .i64 x.tag, .int .i64 x.et, .bool x.ia, .int .i64 x.op, .int .u64 x.sha, .int .u32 x.spa, .int .u64 x.tha, .int .u32 x.tpa, .bool x.ii, .int .i64 x.tos, .int .i64 x.id, .int .i64 x.fr, .int .i64 x.ttl, .int .i64 x.pr, .int .u32 x.src, .int .u32 x.dst, .string (strOfNums x.io), .int .i64 x.l.k, .int .i64 x.l.ty, .int .i64 x.l.co, .int .u32 x.l.re, .int .i64 x.l.sp, .int .i64 x.l.dp, .bool x.l.ns, .int .u32 x.l.sq, .int .u32 x.l.ak, .int .i64 x.l.fl, .int .i64 x.l.wi, .int .i64 x.l.ur, .string (strOfNums x.l.os), .string (strOfNums x.l.ds), .string (strOfNums x.bd), .string (strOfNums x.pd)]
structure PkR.Fine (x : PkR) : Prop where
  d : 0 ≤ x.d ∧ x.d ≤ 18446744073709551615
  s : 0 ≤ x.s ∧ x.s ≤ 18446744073709551615
  sha : 0 ≤ x.sha ∧ x.sha ≤ 18446744073709551615
  tha : 0 ≤ x.tha ∧ x.tha ≤ 18446744073709551615
  spa : 0 ≤ x.spa ∧ x.spa ≤ 4294967295
  tpa : 0 ≤ x.tpa ∧ x.tpa ≤ 4294967295
  src : 0 ≤ x.src ∧ x.src ≤ 4294967295
  dst : 0 ≤ x.dst ∧ x.dst ≤ 4294967295
  io : ∀ i, 0 ≤ x.io.getD i 0 ∧ x.io.getD i 0 ≤ 255
  bd : ∀ i, 0 ≤ x.bd.getD i 0 ∧ x.bd.getD i 0 ≤ 255
  pd : ∀ i, 0 ≤ x.pd.getD i 0 ∧ x.pd.getD i 0 ≤ 255
  iol : x.io.length ≤ 140737488355328
  bdl : x.bd.length ≤ 140737488355328
  pdl : x.pd.length ≤ 140737488355328
  l : x.l.Fine
def PkR.eqB (x y : PkR) : Bool := (x.d == y.d && x.s == y.s && x.tg == y.tg && x.tag == y.tag && x.et == y.et) && (x.ia == y.ia) && (x.op == y.op && x.sha == y.sha && x.spa == y.spa && x.tha == y.tha && x.tpa == y.tpa) && (x.ii == y.ii) && (x.tos == y.tos && x.id == y.id && x.fr == y.fr && x.ttl == y.ttl && x.pr == y.pr && x.src == y.src && x.dst == y.dst && (strOfNums x.io).toList == (strOfNums y.io).toList) && (x.l.k == y.l.k && x.l.ty == y.l.ty && x.l.co == y.l.co && x.l.re == y.l.re && x.l.sp == y.l.sp && x.l.dp == y.l.dp && x.l.ns == y.l.ns && x.l.sq == y.l.sq && x.l.ak == y.l.ak && x.l.fl == y.l.fl && x.l.wi == y.l.wi && x.l.ur == y.l.ur && (strOfNums x.l.os).toList == (strOfNums y.l.os).toList && (strOfNums x.l.ds).toList == (strOfNums y.l.ds).toList) && ((strOfNums x.bd).toList == (strOfNums y.bd).toList) && ((strOfNums x.pd).toList == (strOfNums y.pd).toList)
theorem PkR.eqRun (x y : PkR) (W : World) : (binOp .eql 34 (.agg x.ps) (.agg y.ps)).run Try.prog W = .ok (.bool (x.eqB y)) W := by
  rw [run_eql_struct]
  rw [show (Op.equalIn 10000 34 (.agg x.ps) (.agg y.ps)).run Try.prog W = .ok (x.eqB y) W from eqPacket x.d x.s x.tg x.tag x.et x.ia x.op x.sha x.spa x.tha x.tpa x.ii x.tos x.id x.fr x.ttl x.pr x.src x.dst (strOfNums x.io) x.l.k x.l.ty x.l.co x.l.re x.l.sp x.l.dp x.l.ns x.l.sq x.l.ak x.l.fl x.l.wi x.l.ur (strOfNums x.l.os) (strOfNums x.l.ds) (strOfNums x.bd) (strOfNums x.pd) y.d y.s y.tg y.tag y.et y.ia y.op y.sha y.spa y.tha y.tpa y.ii y.tos y.id y.fr y.ttl y.pr y.src y.dst (strOfNums y.io) y.l.k y.l.ty y.l.co y.l.re y.l.sp y.l.dp y.l.ns y.l.sq y.l.ak y.l.fl y.l.wi y.l.ur (strOfNums y.l.os) (strOfNums y.l.ds) (strOfNums y.bd) (strOfNums y.pd) W]
  rfl
theorem PkR.neqRun (x y : PkR) (W : World) : (binOp .neq 34 (.agg x.ps) (.agg y.ps)).run Try.prog W = .ok (.bool (!(x.eqB y))) W := by
  rw [run_neq_struct]
  rw [show (Op.equalIn 10000 34 (.agg x.ps) (.agg y.ps)).run Try.prog W = .ok (x.eqB y) W from eqPacket x.d x.s x.tg x.tag x.et x.ia x.op x.sha x.spa x.tha x.tpa x.ii x.tos x.id x.fr x.ttl x.pr x.src x.dst (strOfNums x.io) x.l.k x.l.ty x.l.co x.l.re x.l.sp x.l.dp x.l.ns x.l.sq x.l.ak x.l.fl x.l.wi x.l.ur (strOfNums x.l.os) (strOfNums x.l.ds) (strOfNums x.bd) (strOfNums x.pd) y.d y.s y.tg y.tag y.et y.ia y.op y.sha y.spa y.tha y.tpa y.ii y.tos y.id y.fr y.ttl y.pr y.src y.dst (strOfNums y.io) y.l.k y.l.ty y.l.co y.l.re y.l.sp y.l.dp y.l.ns y.l.sq y.l.ak y.l.fl y.l.wi y.l.ur (strOfNums y.l.os) (strOfNums y.l.ds) (strOfNums y.bd) (strOfNums y.pd) W]
  rfl
theorem str_beq {a b : List Int} (ha : ∀ i, 0 ≤ a.getD i 0 ∧ a.getD i 0 ≤ 255) (hb : ∀ i, 0 ≤ b.getD i 0 ∧ b.getD i 0 ≤ 255) (h : ((strOfNums a).toList == (strOfNums b).toList) = true) : a = b := by
  refine Eth.str_inj ha hb ?_
  have h1 := eq_of_beq h
  rw [ByteArray.toList_eq, ByteArray.toList_eq] at h1
  exact ByteArray.ext (Array.toList_inj.1 h1)
theorem PkR.eqB_yes {x y : PkR} (hx : x.Fine) (hy : y.Fine) (h : x.eqB y = true) : x = y := by
  have q1 := hx.io; have q2 := hx.bd; have q3 := hx.pd; have q4 := hx.l.os; have q5 := hx.l.ds
  have p1 := hy.io; have p2 := hy.bd; have p3 := hy.pd; have p4 := hy.l.os; have p5 := hy.l.ds
  obtain ⟨d, s, tg, tag, et, ia, op, sha, spa, tha, tpa, ii, tos, id, fr, ttl, pr, src, dst, io, l, bd, pd⟩ := x
  obtain ⟨d9, s9, tg9, tag9, et9, ia9, op9, sha9, spa9, tha9, tpa9, ii9, tos9, id9, fr9, ttl9, pr9, src9, dst9, io9, l9, bd9, pd9⟩ := y
  obtain ⟨k, ty, co, re, sp, dp, ns, sq, ak, fl, wi, ur, lo, ds⟩ := l
  obtain ⟨k9, ty9, co9, re9, sp9, dp9, ns9, sq9, ak9, fl9, wi9, ur9, lo9, ds9⟩ := l9
  simp only [PkR.eqB, Bool.and_eq_true] at h
  obtain ⟨⟨⟨⟨⟨⟨⟨⟨⟨⟨⟨a1, a2⟩, a3⟩, a4⟩, a5⟩, a6⟩, ⟨⟨⟨⟨b1, b2⟩, b3⟩, b4⟩, b5⟩⟩, a7⟩, ⟨⟨⟨⟨⟨⟨⟨c1, c2⟩, c3⟩, c4⟩, c5⟩, c6⟩, c7⟩, c8⟩⟩, ⟨⟨⟨⟨⟨⟨⟨⟨⟨⟨⟨⟨⟨d1, d2⟩, d3⟩, d4⟩, d5⟩, d6⟩, d7⟩, d8⟩, d9⟩, d10⟩, d11⟩, d12⟩, d13⟩, d14⟩⟩, e1⟩, e2⟩ := h
  obtain rfl := eq_of_beq a1; obtain rfl := eq_of_beq a2; obtain rfl := eq_of_beq a3; obtain rfl := eq_of_beq a4; obtain rfl := eq_of_beq a5; obtain rfl := eq_of_beq a6; obtain rfl := eq_of_beq a7
  obtain rfl := eq_of_beq b1; obtain rfl := eq_of_beq b2; obtain rfl := eq_of_beq b3; obtain rfl := eq_of_beq b4; obtain rfl := eq_of_beq b5
  obtain rfl := eq_of_beq c1; obtain rfl := eq_of_beq c2; obtain rfl := eq_of_beq c3; obtain rfl := eq_of_beq c4; obtain rfl := eq_of_beq c5; obtain rfl := eq_of_beq c6; obtain rfl := eq_of_beq c7
  obtain rfl := eq_of_beq d1; obtain rfl := eq_of_beq d2; obtain rfl := eq_of_beq d3; obtain rfl := eq_of_beq d4; obtain rfl := eq_of_beq d5; obtain rfl := eq_of_beq d6; obtain rfl := eq_of_beq d7; obtain rfl := eq_of_beq d8; obtain rfl := eq_of_beq d9; obtain rfl := eq_of_beq d10; obtain rfl := eq_of_beq d11; obtain rfl := eq_of_beq d12
  obtain rfl := str_beq q1 p1 c8
  obtain rfl := str_beq q2 p2 e1
  obtain rfl := str_beq q3 p3 e2
  obtain rfl := str_beq q4 p4 d13
  obtain rfl := str_beq q5 p5 d14
  rfl
theorem PkR.eqB_self (x : PkR) : x.eqB x = true := by simp [PkR.eqB]
theorem PkR.eqB_no {x y : PkR} (hx : x.Fine) (hy : y.Fine) (h : x ≠ y) : x.eqB y = false := by
  cases g : x.eqB y
  · rfl
  · exact absurd (PkR.eqB_yes hx hy g) h
def zeroPkR : PkR := ⟨0, 0, false, 0, 0, false, 0, 0, 0, 0, 0, false, 0, 0, 0, 0, 0, 0, 0, [], zeroR, [], []⟩
theorem zeroPkR_ps : zeroPkR.ps = zeroPk := by kernel_rfl
theorem zeroR_fine : zeroR.Fine := ⟨by decide, by decide, by decide, fun i => by simp [zeroR], fun i => by simp [zeroR], by decide⟩
theorem zeroPkR_fine : zeroPkR.Fine := ⟨by decide, by decide, by decide, by decide, by decide, by decide, by decide, by decide, fun i => by simp [zeroPkR], fun i => by simp [zeroPkR], fun i => by simp [zeroPkR], by decide, by decide, by decide, zeroR_fine⟩
def PkR.ownP (x : PkR) : PkR := { zeroPkR with d := x.d, s := x.s, tg := x.tg, tag := x.tag, et := x.et, bd := x.bd }
def PkR.ownA (x : PkR) : PkR := { zeroPkR with d := x.d, s := x.s, tg := x.tg, tag := x.tag, et := x.et, ia := true, op := x.op, sha := x.sha, spa := x.spa, tha := x.tha, tpa := x.tpa, pd := x.pd }
def PkR.ownI (x : PkR) : PkR := { zeroPkR with d := x.d, s := x.s, tg := x.tg, tag := x.tag, et := x.et, ii := true, tos := x.tos, id := x.id, fr := x.fr, ttl := x.ttl, pr := x.pr, src := x.src, dst := x.dst, io := x.io, l := { x.l with k := if wholeB x.fr = true then kindV x.pr else 0 }, pd := x.pd }
def PkR.own (x : PkR) : PkR := if x.et = 2054 then x.ownA else if x.et = 2048 then x.ownI else x.ownP
theorem PkR.own_fine {x : PkR} (h : x.Fine) : x.own.Fine := by
  have z := zeroPkR_fine
  unfold PkR.own
  split
  · exact ⟨h.d, h.s, h.sha, h.tha, h.spa, h.tpa, z.src, z.dst, z.io, z.bd, h.pd, z.iol, z.bdl, h.pdl, z.l⟩
  · split
    · exact ⟨h.d, h.s, z.sha, z.tha, z.spa, z.tpa, h.src, h.dst, h.io, z.bd, h.pd, h.iol, z.bdl, h.pdl, ⟨h.l.re, h.l.sq, h.l.ak, h.l.os, h.l.ds, h.l.room⟩⟩
    · exact ⟨h.d, h.s, z.sha, z.tha, z.spa, z.tpa, z.src, z.dst, z.io, h.bd, z.pd, z.iol, h.bdl, z.pdl, z.l⟩
theorem PkR.size (x : PkR) : x.ps.size = 36 := rfl
set_option maxHeartbeats 4000000 in
/-- isOfForm of every packet. -/
theorem PkR.form (x : PkR) (w : World) : Calls Try.prog 28 #[.agg x.ps] w fun e w' => e = .returned (.bool (x.eqB x.own)) ∧ Below w.heap.size w w' := by
  by_cases h1 : x.et = 2054
  · have ho : x.own = x.ownA := by unfold PkR.own; rw [if_pos h1]
    rw [ho]
    obtain ⟨d, s, tg, tag, et, ia, op, sha, spa, tha, tpa, ii, tos, id, fr, ttl, pr, src, dst, io, l, bd, pd⟩ := x
    simp only at h1
    subst h1
    have e : (Ca.putC ((Ca.putC zeroPk 0 (#[.int .u64 d, .int .u64 s, .bool tg, .int .i64 tag, .int .i64 2054]).toList).setIfInBounds 5 (.bool true)) 6 (#[.int .i64 op, .int .u64 sha, .int .u32 spa, .int .u64 tha, .int .u32 tpa]).toList).setIfInBounds 35 (.string (strOfNums pd)) = ((⟨d, s, tg, tag, 2054, ia, op, sha, spa, tha, tpa, ii, tos, id, fr, ttl, pr, src, dst, io, l, bd, pd⟩ : PkR).ownA).ps := by kernel_rfl
    have hq : ∀ W, (binOp .eql 34 (.agg (⟨d, s, tg, tag, 2054, ia, op, sha, spa, tha, tpa, ii, tos, id, fr, ttl, pr, src, dst, io, l, bd, pd⟩ : PkR).ps) (.agg ((Ca.putC ((Ca.putC zeroPk 0 (#[.int .u64 d, .int .u64 s, .bool tg, .int .i64 tag, .int .i64 2054]).toList).setIfInBounds 5 (.bool true)) 6 (#[.int .i64 op, .int .u64 sha, .int .u32 spa, .int .u64 tha, .int .u32 tpa]).toList).setIfInBounds 35 (.string (strOfNums pd))))).run Try.prog W = .ok (.bool ((⟨d, s, tg, tag, 2054, ia, op, sha, spa, tha, tpa, ii, tos, id, fr, ttl, pr, src, dst, io, l, bd, pd⟩ : PkR).eqB ((⟨d, s, tg, tag, 2054, ia, op, sha, spa, tha, tpa, ii, tos, id, fr, ttl, pr, src, dst, io, l, bd, pd⟩ : PkR).ownA))) W := fun W => (congrArg (fun a => (binOp .eql 34 (.agg (⟨d, s, tg, tag, 2054, ia, op, sha, spa, tha, tpa, ii, tos, id, fr, ttl, pr, src, dst, io, l, bd, pd⟩ : PkR).ps) (.agg a)).run Try.prog W) e).trans (PkR.eqRun (⟨d, s, tg, tag, 2054, ia, op, sha, spa, tha, tpa, ii, tos, id, fr, ttl, pr, src, dst, io, l, bd, pd⟩ : PkR) ((⟨d, s, tg, tag, 2054, ia, op, sha, spa, tha, tpa, ii, tos, id, fr, ttl, pr, src, dst, io, l, bd, pd⟩ : PkR).ownA) W)
    clear e
    refine form_arp _ (PkR.size _) d s tag tg op sha spa tha tpa (strOfNums pd) (by kernel_rfl) (by kernel_rfl) (by kernel_rfl) (by kernel_rfl) _ w (fun W => ?_)
    exact hq W
  by_cases h2 : x.et = 2048
  · have ho : x.own = x.ownI := by unfold PkR.own; rw [if_neg h1, if_pos h2]
    rw [ho]
    obtain ⟨d, s, tg, tag, et, ia, op, sha, spa, tha, tpa, ii, tos, id, fr, ttl, pr, src, dst, io, l, bd, pd⟩ := x
    obtain ⟨k, ty, co, re, sp, dp, ns, sq, ak, fl, wi, ur, lo, ds⟩ := l
    simp only at h2
    subst h2
    have e : ((Ca.putC (Ca.putC ((Ca.putC zeroPk 0 (#[.int .u64 d, .int .u64 s, .bool tg, .int .i64 tag, .int .i64 2048]).toList).setIfInBounds 11 (.bool true)) 12 (#[.int .i64 tos, .int .i64 id, .int .i64 fr, .int .i64 ttl, .int .i64 pr, .int .u32 src, .int .u32 dst, .string (strOfNums io)]).toList) 20 (#[.int .i64 k, .int .i64 ty, .int .i64 co, .int .u32 re, .int .i64 sp, .int .i64 dp, .bool ns, .int .u32 sq, .int .u32 ak, .int .i64 fl, .int .i64 wi, .int .i64 ur, .string (strOfNums lo), .string (strOfNums ds)]).toList).setIfInBounds 35 (.string (strOfNums pd))).setIfInBounds 20 (.int .i64 (if wholeB fr = true then kindV pr else 0)) = ((⟨d, s, tg, tag, 2048, ia, op, sha, spa, tha, tpa, ii, tos, id, fr, ttl, pr, src, dst, io, ⟨k, ty, co, re, sp, dp, ns, sq, ak, fl, wi, ur, lo, ds⟩, bd, pd⟩ : PkR).ownI).ps := by kernel_rfl
    have hq : ∀ W, (binOp .eql 34 (.agg (⟨d, s, tg, tag, 2048, ia, op, sha, spa, tha, tpa, ii, tos, id, fr, ttl, pr, src, dst, io, ⟨k, ty, co, re, sp, dp, ns, sq, ak, fl, wi, ur, lo, ds⟩, bd, pd⟩ : PkR).ps) (.agg (((Ca.putC (Ca.putC ((Ca.putC zeroPk 0 (#[.int .u64 d, .int .u64 s, .bool tg, .int .i64 tag, .int .i64 2048]).toList).setIfInBounds 11 (.bool true)) 12 (#[.int .i64 tos, .int .i64 id, .int .i64 fr, .int .i64 ttl, .int .i64 pr, .int .u32 src, .int .u32 dst, .string (strOfNums io)]).toList) 20 (#[.int .i64 k, .int .i64 ty, .int .i64 co, .int .u32 re, .int .i64 sp, .int .i64 dp, .bool ns, .int .u32 sq, .int .u32 ak, .int .i64 fl, .int .i64 wi, .int .i64 ur, .string (strOfNums lo), .string (strOfNums ds)]).toList).setIfInBounds 35 (.string (strOfNums pd))).setIfInBounds 20 (.int .i64 (if wholeB fr = true then kindV pr else 0))))).run Try.prog W = .ok (.bool ((⟨d, s, tg, tag, 2048, ia, op, sha, spa, tha, tpa, ii, tos, id, fr, ttl, pr, src, dst, io, ⟨k, ty, co, re, sp, dp, ns, sq, ak, fl, wi, ur, lo, ds⟩, bd, pd⟩ : PkR).eqB ((⟨d, s, tg, tag, 2048, ia, op, sha, spa, tha, tpa, ii, tos, id, fr, ttl, pr, src, dst, io, ⟨k, ty, co, re, sp, dp, ns, sq, ak, fl, wi, ur, lo, ds⟩, bd, pd⟩ : PkR).ownI))) W := fun W => (congrArg (fun a => (binOp .eql 34 (.agg (⟨d, s, tg, tag, 2048, ia, op, sha, spa, tha, tpa, ii, tos, id, fr, ttl, pr, src, dst, io, ⟨k, ty, co, re, sp, dp, ns, sq, ak, fl, wi, ur, lo, ds⟩, bd, pd⟩ : PkR).ps) (.agg a)).run Try.prog W) e).trans (PkR.eqRun (⟨d, s, tg, tag, 2048, ia, op, sha, spa, tha, tpa, ii, tos, id, fr, ttl, pr, src, dst, io, ⟨k, ty, co, re, sp, dp, ns, sq, ak, fl, wi, ur, lo, ds⟩, bd, pd⟩ : PkR) ((⟨d, s, tg, tag, 2048, ia, op, sha, spa, tha, tpa, ii, tos, id, fr, ttl, pr, src, dst, io, ⟨k, ty, co, re, sp, dp, ns, sq, ak, fl, wi, ur, lo, ds⟩, bd, pd⟩ : PkR).ownI) W)
    clear e
    refine form_ip _ (PkR.size _) d s tag tg tos id fr ttl pr src dst io k ty co re sp dp ns sq ak fl wi ur lo ds (strOfNums pd) (by kernel_rfl) (by kernel_rfl) (by kernel_rfl) (by kernel_rfl) (by kernel_rfl) (if wholeB fr = true then kindV pr else 0) _ w (fun W => ?_) (fun W => kindOf_any tos id fr ttl pr src dst io W)
    exact hq W
  · have ho : x.own = x.ownP := by unfold PkR.own; rw [if_neg h1, if_neg h2]
    rw [ho]
    obtain ⟨d, s, tg, tag, et, ia, op, sha, spa, tha, tpa, ii, tos, id, fr, ttl, pr, src, dst, io, l, bd, pd⟩ := x
    simp only at h1 h2
    have e : (Ca.putC zeroPk 0 (#[.int .u64 d, .int .u64 s, .bool tg, .int .i64 tag, .int .i64 et]).toList).setIfInBounds 34 (.string (strOfNums bd)) = ((⟨d, s, tg, tag, et, ia, op, sha, spa, tha, tpa, ii, tos, id, fr, ttl, pr, src, dst, io, l, bd, pd⟩ : PkR).ownP).ps := by kernel_rfl
    have hq : ∀ W, (binOp .eql 34 (.agg (⟨d, s, tg, tag, et, ia, op, sha, spa, tha, tpa, ii, tos, id, fr, ttl, pr, src, dst, io, l, bd, pd⟩ : PkR).ps) (.agg ((Ca.putC zeroPk 0 (#[.int .u64 d, .int .u64 s, .bool tg, .int .i64 tag, .int .i64 et]).toList).setIfInBounds 34 (.string (strOfNums bd))))).run Try.prog W = .ok (.bool ((⟨d, s, tg, tag, et, ia, op, sha, spa, tha, tpa, ii, tos, id, fr, ttl, pr, src, dst, io, l, bd, pd⟩ : PkR).eqB ((⟨d, s, tg, tag, et, ia, op, sha, spa, tha, tpa, ii, tos, id, fr, ttl, pr, src, dst, io, l, bd, pd⟩ : PkR).ownP))) W := fun W => (congrArg (fun a => (binOp .eql 34 (.agg (⟨d, s, tg, tag, et, ia, op, sha, spa, tha, tpa, ii, tos, id, fr, ttl, pr, src, dst, io, l, bd, pd⟩ : PkR).ps) (.agg a)).run Try.prog W) e).trans (PkR.eqRun (⟨d, s, tg, tag, et, ia, op, sha, spa, tha, tpa, ii, tos, id, fr, ttl, pr, src, dst, io, l, bd, pd⟩ : PkR) ((⟨d, s, tg, tag, et, ia, op, sha, spa, tha, tpa, ii, tos, id, fr, ttl, pr, src, dst, io, l, bd, pd⟩ : PkR).ownP) W)
    clear e
    refine form_plain _ (PkR.size _) d s tag et tg (strOfNums bd) (by kernel_rfl) (by kernel_rfl) (by kernel_rfl) (by simpa using h1) (by simpa using h2) _ w (fun W => ?_)
    exact hq W
end Go.Proofs.Ytpiokeidcnbmbaa

namespace Go.Proofs.Ytpiokeidcnbmbaa
open Go.RowKit
set_option maxRecDepth 20000
set_option maxHeartbeats 2000000 in
theorem inner_arp (ps : Array Value) (h5 : ps[5]? = some (.bool true)) (op sha spa tha tpa : Int) (hA : ps.extract 6 (6 + 5) = #[.int .i64 op, .int .u64 sha, .int .u32 spa, .int .u64 tha, .int .u32 tpa]) (n : Nat) (B : List Int) (w : World)
    (HP : Hid (∀ W, Calls Try.prog 61 #[.agg #[.int .i64 op, .int .u64 sha, .int .u32 spa, .int .u64 tha, .int .u32 tpa]] W fun e w' => ∃ a cap, e = .returned (.tuple #[.slice a n cap, .int .i64 0]) ∧ RB W w' (.slice a n cap) n B)) :
    Calls Try.prog 30 #[.agg ps] w fun e w' => ∃ a cap, e = .returned (.tuple #[.slice a n cap, .int .i64 0]) ∧ RB w w' (.slice a n cap) n B := by
  have R1 : Hid ((w.alloc (.cells ps 34)).heap[w.heap.size]? = some (.cells ps 34 (0, 0))) := heap_alloc_new w _
  have c5 := (Ca.cell_row R1.out 5).trans h5
  have hA9 : (ps.extract 6 (6 + 5)).size = 5 := by rw [hA]; rfl
  clear h5
  go_enter Try.func30, Try.ntmps30
  go_wp2_with (first
    | (refine Ca.wpList_load_at rfl 28 _ rfl w.heap.size 6 5 rfl ps 34 _ R1.out Try.underlying28 rfl hA9 (by kernel_rfl) ?_; rw [hA])
    | fail)
  refine (HP.out _).mono ?_
  rintro e W1 ⟨a, cap, rfl, r1⟩
  have R3 : Hid (RB w W1 (.slice a n cap) n B) := ⟨own_base r1.own (by simp), (below1 w _).trans (r1.bel.mono (by simp))⟩
  clear r1 HP R1 c5
  go_wp2
  go_ret2
  exact ⟨a, cap, rfl, R3.out⟩
set_option maxHeartbeats 2000000 in
theorem inner_arpbad (ps : Array Value) (h5 : ps[5]? = some (.bool true)) (op sha spa tha tpa : Int) (hA : ps.extract 6 (6 + 5) = #[.int .i64 op, .int .u64 sha, .int .u32 spa, .int .u64 tha, .int .u32 tpa]) (f : Int) (w : World)
    (HP : Hid (∀ W, Calls Try.prog 61 #[.agg #[.int .i64 op, .int .u64 sha, .int .u32 spa, .int .u64 tha, .int .u32 tpa]] W fun e w' => e = .returned (.tuple #[.slice none 0 0, .int .i64 f]) ∧ Below W.heap.size W w')) :
    Calls Try.prog 30 #[.agg ps] w fun e w' => e = .returned (.tuple #[.slice none 0 0, .int .i64 f]) ∧ Below w.heap.size w w' := by
  have R1 : Hid ((w.alloc (.cells ps 34)).heap[w.heap.size]? = some (.cells ps 34 (0, 0))) := heap_alloc_new w _
  have c5 := (Ca.cell_row R1.out 5).trans h5
  have hA9 : (ps.extract 6 (6 + 5)).size = 5 := by rw [hA]; rfl
  clear h5
  go_enter Try.func30, Try.ntmps30
  go_wp2_with (first
    | (refine Ca.wpList_load_at rfl 28 _ rfl w.heap.size 6 5 rfl ps 34 _ R1.out Try.underlying28 rfl hA9 (by kernel_rfl) ?_; rw [hA])
    | fail)
  refine (HP.out _).mono ?_
  rintro e W1 ⟨rfl, r1⟩
  have R3 : Hid (Below w.heap.size w W1) := (below1 w _).trans (r1.mono (by simp))
  clear r1 HP R1 c5
  go_wp2
  go_ret2
  exact ⟨rfl, R3.out⟩
set_option maxHeartbeats 2000000 in
theorem print_form (ps : Array Value) (hs : ps.size = 36) (w : World)
    (HF : Hid (∀ W, Calls Try.prog 28 #[.agg ps] W fun e w' => e = .returned (.bool false) ∧ Below W.heap.size W w')) :
    Calls Try.prog 11 #[.agg ps] w fun e w' => e = .returned (.tuple #[.slice none 0 0, .int .i64 1]) ∧ Below w.heap.size w w' := by
  have HS : Hid (ps.size = 36) := hs
  clear hs
  obtain ⟨wb, hwb⟩ : ∃ V, w.alloc (.cells ps 34) = V := ⟨_, rfl⟩
  have R0 : Hid (wb.heap[w.heap.size]? = some (.cells ps 34 (0, 0))) := by show _ = _; rw [← hwb]; exact heap_alloc_new w _
  have LB : Hid (Below w.heap.size w wb) := by show Below _ _ _; rw [← hwb]; exact below1 w _
  have HWB : Hid (w.alloc (.cells ps 34) = wb) := hwb
  clear hwb
  go_enter Try.func11, Try.ntmps11
  go_wp2_with fail
  refine scope_from ?_
  go_wp2_with (refine wpList_load_row rfl 34 _ rfl (w.heap.size) rfl 34 ps (0, 0) _ (heap_alloc_new w _) Try.underlying34 rfl (info36 HS.out) ?_)
  refine (HF.out _).mono ?_
  rintro e W1 ⟨rfl, hb⟩
  rw [HWB.out] at hb
  have B1 : Hid (Below wb.heap.size wb W1) := hb
  have R1 : Hid (W1.heap[w.heap.size]? = some (.cells ps 34 (0, 0))) := (hb.block _ (Ca.lt_of_heap R0.out)).trans R0.out
  clear hb HF
  go_wp2_with fail
  go_step3
  show FromLabel _ _ _ _ _ _
  refine from_label rfl ?_
  go_wp2
  simp only [Exit.jumpTo]
  go_ret2
  exact ⟨rfl, LB.out.trans (B1.out.mono LB.out.size)⟩
set_option maxHeartbeats 2000000 in
theorem print_head (ps : Array Value) (hs : ps.size = 36) (d s tag et : Int) (tg : Bool) (hE : ps.extract 0 (0 + 5) = #[.int .u64 d, .int .u64 s, .bool tg, .int .i64 tag, .int .i64 et]) (f : Int) (hf : (f != 0) = true) (w : World)
    (HF : Hid (∀ W, Calls Try.prog 28 #[.agg ps] W fun e w' => e = .returned (.bool true) ∧ Below W.heap.size W w'))
    (HH : Hid (∀ W, Calls Try.prog 29 #[.agg #[.int .u64 d, .int .u64 s, .bool tg, .int .i64 tag, .int .i64 et]] W fun e w' => e = .returned (.tuple #[.slice none 0 0, .int .i64 f]) ∧ Below W.heap.size W w')) :
    Calls Try.prog 11 #[.agg ps] w fun e w' => e = .returned (.tuple #[.slice none 0 0, .int .i64 f]) ∧ Below w.heap.size w w' := by
  have h9E : (ps.extract 0 (0 + 5)).size = 5 := by rw [hE]; rfl
  have HS : Hid (ps.size = 36) := hs
  clear hs
  obtain ⟨wb, hwb⟩ : ∃ V, w.alloc (.cells ps 34) = V := ⟨_, rfl⟩
  have R0 : Hid (wb.heap[w.heap.size]? = some (.cells ps 34 (0, 0))) := by show _ = _; rw [← hwb]; exact heap_alloc_new w _
  have LB : Hid (Below w.heap.size w wb) := by show Below _ _ _; rw [← hwb]; exact below1 w _
  have HWB : Hid (w.alloc (.cells ps 34) = wb) := hwb
  clear hwb
  go_enter Try.func11, Try.ntmps11
  go_wp2_with fail
  refine scope_from ?_
  go_wp2_with (refine wpList_load_row rfl 34 _ rfl (w.heap.size) rfl 34 ps (0, 0) _ (heap_alloc_new w _) Try.underlying34 rfl (info36 HS.out) ?_)
  refine (HF.out _).mono ?_
  rintro e W1 ⟨rfl, hb⟩
  rw [HWB.out] at hb
  have B1 : Hid (Below wb.heap.size wb W1) := hb
  have R1 : Hid (W1.heap[w.heap.size]? = some (.cells ps 34 (0, 0))) := (hb.block _ (Ca.lt_of_heap R0.out)).trans R0.out
  clear hb HF
  go_wp2_with (refine Ca.wpList_load_at rfl 25 _ rfl (w.heap.size) 0 5 rfl ps 34 _ R1.out Try.underlying25 rfl h9E (by kernel_rfl) ?_; rw [hE])
  refine (HH.out _).mono ?_
  rintro e W2 ⟨rfl, hb⟩
  have B2 : Hid (Below wb.heap.size wb W2) := B1.out.trans (hb.mono B1.out.size)
  clear hb HH R1 B1
  go_wp2_with fail
  go_step3
  show FromLabel _ _ _ _ _ _
  refine from_label rfl ?_
  go_wp2
  simp only [Exit.jumpTo]
  go_ret2
  exact ⟨rfl, LB.out.trans (B2.out.mono LB.out.size)⟩
set_option maxHeartbeats 2000000 in
theorem print_inner (ps : Array Value) (hs : ps.size = 36) (d s tag et : Int) (tg : Bool) (hE : ps.extract 0 (0 + 5) = #[.int .u64 d, .int .u64 s, .bool tg, .int .i64 tag, .int .i64 et]) (f : Int) (hf : (f != 0) = true) (n : Nat) (HB : List Int) (w : World)
    (HF : Hid (∀ W, Calls Try.prog 28 #[.agg ps] W fun e w' => e = .returned (.bool true) ∧ Below W.heap.size W w'))
    (HH : Hid (∀ W, Calls Try.prog 29 #[.agg #[.int .u64 d, .int .u64 s, .bool tg, .int .i64 tag, .int .i64 et]] W fun e w' => ∃ a cap, e = .returned (.tuple #[.slice a n cap, .int .i64 0]) ∧ w'.ownsRow W.heap.size 5 1 (.slice a n cap) n (HB.map (Value.int .u8)) ∧ Below W.heap.size W w'))
    (HI : Hid (∀ W, Calls Try.prog 30 #[.agg ps] W fun e w' => e = .returned (.tuple #[.slice none 0 0, .int .i64 f]) ∧ Below W.heap.size W w')) :
    Calls Try.prog 11 #[.agg ps] w fun e w' => e = .returned (.tuple #[.slice none 0 0, .int .i64 f]) ∧ Below w.heap.size w w' := by
  have h9E : (ps.extract 0 (0 + 5)).size = 5 := by rw [hE]; rfl
  have HS : Hid (ps.size = 36) := hs
  clear hs
  obtain ⟨wb, hwb⟩ : ∃ V, w.alloc (.cells ps 34) = V := ⟨_, rfl⟩
  have R0 : Hid (wb.heap[w.heap.size]? = some (.cells ps 34 (0, 0))) := by show _ = _; rw [← hwb]; exact heap_alloc_new w _
  have LB : Hid (Below w.heap.size w wb) := by show Below _ _ _; rw [← hwb]; exact below1 w _
  have HWB : Hid (w.alloc (.cells ps 34) = wb) := hwb
  clear hwb
  go_enter Try.func11, Try.ntmps11
  go_wp2_with fail
  refine scope_from ?_
  go_wp2_with (refine wpList_load_row rfl 34 _ rfl (w.heap.size) rfl 34 ps (0, 0) _ (heap_alloc_new w _) Try.underlying34 rfl (info36 HS.out) ?_)
  refine (HF.out _).mono ?_
  rintro e W1 ⟨rfl, hb⟩
  rw [HWB.out] at hb
  have B1 : Hid (Below wb.heap.size wb W1) := hb
  have R1 : Hid (W1.heap[w.heap.size]? = some (.cells ps 34 (0, 0))) := (hb.block _ (Ca.lt_of_heap R0.out)).trans R0.out
  clear hb HF
  go_wp2_with (refine Ca.wpList_load_at rfl 25 _ rfl (w.heap.size) 0 5 rfl ps 34 _ R1.out Try.underlying25 rfl h9E (by kernel_rfl) ?_; rw [hE])
  refine (HH.out _).mono ?_
  rintro e W2 ⟨a0, c0, rfl, own2, hb⟩
  have B2 : Hid (Below wb.heap.size wb W2) := B1.out.trans (hb.mono B1.out.size)
  have R2 : Hid (W2.heap[w.heap.size]? = some (.cells ps 34 (0, 0))) := (hb.block _ (Ca.lt_of_heap R1.out)).trans R1.out
  clear hb HH R1 B1 own2
  go_wp2_with (refine wpList_load_row rfl 34 _ rfl (w.heap.size) rfl 34 ps (0, 0) _ R2.out Try.underlying34 rfl (info36 HS.out) ?_)
  refine (HI.out _).mono ?_
  rintro e W3 ⟨rfl, hb⟩
  have B3 : Hid (Below wb.heap.size wb W3) := B2.out.trans (hb.mono B2.out.size)
  clear hb HI R2 B2
  go_wp2_with fail
  go_step3
  show FromLabel _ _ _ _ _ _
  refine from_label rfl ?_
  go_wp2
  simp only [Exit.jumpTo]
  go_ret2
  exact ⟨rfl, LB.out.trans (B3.out.mono LB.out.size)⟩
set_option maxHeartbeats 2000000 in
theorem print_long (ps : Array Value) (hs : ps.size = 36) (d s tag et : Int) (tg : Bool) (hE : ps.extract 0 (0 + 5) = #[.int .u64 d, .int .u64 s, .bool tg, .int .i64 tag, .int .i64 et]) (n m : Nat) (HB IB : List Int) (bd pd : List Int) (h34 : ps[34]? = some (.string (strOfNums bd))) (h35 : ps[35]? = some (.string (strOfNums pd))) (hn : n ≤ 1000) (hm : m ≤ 1000000) (hb9 : bd.length ≤ 140737488355328) (hp9 : pd.length ≤ 140737488355328) (hlen : 9018 < n + m + bd.length + pd.length) (w : World)
    (HF : Hid (∀ W, Calls Try.prog 28 #[.agg ps] W fun e w' => e = .returned (.bool true) ∧ Below W.heap.size W w'))
    (HH : Hid (∀ W, Calls Try.prog 29 #[.agg #[.int .u64 d, .int .u64 s, .bool tg, .int .i64 tag, .int .i64 et]] W fun e w' => ∃ a cap, e = .returned (.tuple #[.slice a n cap, .int .i64 0]) ∧ w'.ownsRow W.heap.size 5 1 (.slice a n cap) n (HB.map (Value.int .u8)) ∧ Below W.heap.size W w'))
    (HI : Hid (∀ W, Calls Try.prog 30 #[.agg ps] W fun e w' => ∃ a cap, e = .returned (.tuple #[.slice a m cap, .int .i64 0]) ∧ RB W w' (.slice a m cap) m IB)) :
    Calls Try.prog 11 #[.agg ps] w fun e w' => e = .returned (.tuple #[.slice none 0 0, .int .i64 3]) ∧ Below w.heap.size w w' := by
  have h9E : (ps.extract 0 (0 + 5)).size = 5 := by rw [hE]; rfl
  have hb1 := strOfNums_size bd
  have hb2 := strOfNums_size pd
  have hI0 : (9018 : Int) < (n : Int) + m + bd.length + pd.length := by omega
  have w1 : IntKind.i64.wrap ((n : Int) + m) = (n : Int) + m := by simp [IntKind.wrap, IntKind.bits, IntKind.signed]; omega
  have w2 : IntKind.i64.wrap ((n : Int) + m + bd.length) = (n : Int) + m + bd.length := by simp [IntKind.wrap, IntKind.bits, IntKind.signed]; omega
  have w3 : IntKind.i64.wrap ((n : Int) + m + bd.length + pd.length) = (n : Int) + m + bd.length + pd.length := by simp [IntKind.wrap, IntKind.bits, IntKind.signed]; omega
  have H34 : Hid (ps[34]? = some (.string (strOfNums bd))) := h34
  have H35 : Hid (ps[35]? = some (.string (strOfNums pd))) := h35
  clear h34 h35
  have HS : Hid (ps.size = 36) := hs
  clear hs
  obtain ⟨wb, hwb⟩ : ∃ V, w.alloc (.cells ps 34) = V := ⟨_, rfl⟩
  have R0 : Hid (wb.heap[w.heap.size]? = some (.cells ps 34 (0, 0))) := by show _ = _; rw [← hwb]; exact heap_alloc_new w _
  have LB : Hid (Below w.heap.size w wb) := by show Below _ _ _; rw [← hwb]; exact below1 w _
  have HWB : Hid (w.alloc (.cells ps 34) = wb) := hwb
  clear hwb
  go_enter Try.func11, Try.ntmps11
  go_wp2_with fail
  refine scope_from ?_
  go_wp2_with (refine wpList_load_row rfl 34 _ rfl (w.heap.size) rfl 34 ps (0, 0) _ (heap_alloc_new w _) Try.underlying34 rfl (info36 HS.out) ?_)
  refine (HF.out _).mono ?_
  rintro e W1 ⟨rfl, hb⟩
  rw [HWB.out] at hb
  have B1 : Hid (Below wb.heap.size wb W1) := hb
  have R1 : Hid (W1.heap[w.heap.size]? = some (.cells ps 34 (0, 0))) := (hb.block _ (Ca.lt_of_heap R0.out)).trans R0.out
  clear hb HF
  go_wp2_with (refine Ca.wpList_load_at rfl 25 _ rfl (w.heap.size) 0 5 rfl ps 34 _ R1.out Try.underlying25 rfl h9E (by kernel_rfl) ?_; rw [hE])
  refine (HH.out _).mono ?_
  rintro e W2 ⟨a0, c0, rfl, own2, hb⟩
  have B2 : Hid (Below wb.heap.size wb W2) := B1.out.trans (hb.mono B1.out.size)
  have R2 : Hid (W2.heap[w.heap.size]? = some (.cells ps 34 (0, 0))) := (hb.block _ (Ca.lt_of_heap R1.out)).trans R1.out
  clear hb HH R1 B1 own2
  go_wp2_with (refine wpList_load_row rfl 34 _ rfl (w.heap.size) rfl 34 ps (0, 0) _ R2.out Try.underlying34 rfl (info36 HS.out) ?_)
  refine (HI.out _).mono ?_
  rintro e W3 ⟨a1, c1, rfl, r3⟩
  have B3 : Hid (Below wb.heap.size wb W3) := B2.out.trans (r3.bel.mono B2.out.size)
  have R3 : Hid (W3.heap[w.heap.size]? = some (.cells ps 34 (0, 0))) := (r3.bel.block _ (Ca.lt_of_heap R2.out)).trans R2.out
  clear HI R2 B2 r3
  have c34 := (Ca.cell_row R3.out 34).trans H34.out
  have c35 := (Ca.cell_row R3.out 35).trans H35.out
  go_wp2_with fail
  go_step3
  show FromLabel _ _ _ _ _ _
  refine from_label rfl ?_
  go_wp2
  simp only [Exit.jumpTo]
  go_ret2
  exact ⟨rfl, LB.out.trans (B3.out.mono LB.out.size)⟩
end Go.Proofs.Ytpiokeidcnbmbaa

namespace Go.Proofs.Ytpiokeidcnbmbaa
open Go.RowKit
set_option maxRecDepth 20000
theorem L4R.enc_fits {x : L4R} (hf : x.Fine) (src dst : Int) (hs : 0 ≤ src) (ht : 0 ≤ dst) : ∀ i, 0 ≤ (x.enc src dst).getD i 0 ∧ (x.enc src dst).getD i 0 ≤ 255 := by
  have hB := L4R.body_fits hf
  unfold L4R.enc
  split
  · exact hB
  · have := chkC_bd src dst x.k x.body hs ht hB
    unfold setC
    exact fits_set (fits_set hB _ _ (by omega)) _ _ (by omega)
def PkR.head (x : PkR) : List Int := Eth.headBytes x.d x.s x.tg x.tag x.et
def PkR.ipb (x : PkR) : List Int := Ip.ipB x.tos x.id x.fr x.ttl x.pr x.src x.dst x.io x.l.body.length
def PkR.inner (x : PkR) : List Int := if x.et = 2054 then Eth.arpBytes x.op x.sha x.spa x.tha x.tpa else if x.et = 2048 then x.ipb ++ x.l.enc x.src x.dst else []
def PkR.bytes (x : PkR) : List Int := x.head ++ x.inner ++ x.bd ++ x.pd
/-- May it be, but for its length? -/
structure PkR.Fits (x : PkR) : Prop where
  own : x = x.own
  head : Eth.fitsB x.d x.s x.tg x.tag x.et = true
  arp : x.et = 2054 → Eth.arpFits x.op x.sha x.tha = true
  l4 : x.et = 2048 → x.l.ok = true
  ip : x.et = 2048 → Ip.encOk x.tos x.id x.fr x.ttl x.pr x.io.length x.l.body.length = true
theorem arpBytes_len (op sha spa tha tpa : Int) : (Eth.arpBytes op sha spa tha tpa).length = 28 := by simp [Eth.arpBytes, be_len]
theorem arpBytes_bd (op sha spa tha tpa : Int) : ∀ i, 0 ≤ (Eth.arpBytes op sha spa tha tpa).getD i 0 ∧ (Eth.arpBytes op sha spa tha tpa).getD i 0 ≤ 255 := by
  unfold Eth.arpBytes
  refine fits_append (fits_append (fits_append (fits_append (fits_append ?_ (be_bd _ _)) (be_bd _ _)) (be_bd _ _)) (be_bd _ _)) (be_bd _ _)
  intro i
  rcases i with _ | _ | _ | _ | _ | _ | i <;> simp
theorem headBytes_bd (d s : Int) (tg : Bool) (tag ty : Int) : ∀ i, 0 ≤ (Eth.headBytes d s tg tag ty).getD i 0 ∧ (Eth.headBytes d s tg tag ty).getD i 0 ≤ 255 := by
  unfold Eth.headBytes
  refine fits_append (fits_append (fits_append (be_bd _ _) (be_bd _ _)) ?_) (be_bd _ _)
  split
  · exact fits_append (be_bd _ _) (be_bd _ _)
  · intro i; simp
theorem headBytes_len (d s : Int) (tg : Bool) (tag ty : Int) : (Eth.headBytes d s tg tag ty).length = if tg = true then 18 else 14 := by
  cases tg <;> simp [Eth.headBytes, be_len]
theorem PkR.flagsA {x : PkR} (h : x = x.own) (e : x.et = 2054) : x.ia = true ∧ x.ii = false := by
  have h1 : x.own = x.ownA := by unfold PkR.own; rw [if_pos e]
  rw [h1] at h
  rw [h]; exact ⟨rfl, rfl⟩
theorem PkR.flagsI {x : PkR} (h : x = x.own) (e : x.et = 2048) : x.ia = false ∧ x.ii = true ∧ x.bd = [] ∧ x.l.k = if wholeB x.fr = true then kindV x.pr else 0 := by
  have h1 : x.own = x.ownI := by unfold PkR.own; rw [if_neg (by omega), if_pos e]
  have h2 := h
  rw [h1] at h2
  refine ⟨by rw [h2]; rfl, by rw [h2]; rfl, by rw [h2]; rfl, ?_⟩
  have h3 : x.l = x.ownI.l := congrArg PkR.l h2
  rw [h3]; rfl
theorem PkR.flagsP {x : PkR} (h : x = x.own) (e1 : x.et ≠ 2054) (e2 : x.et ≠ 2048) : x.ia = false ∧ x.ii = false ∧ x.pd = [] := by
  have h1 : x.own = x.ownP := by unfold PkR.own; rw [if_neg e1, if_neg e2]
  rw [h1] at h
  rw [h]; exact ⟨rfl, rfl, rfl⟩
theorem PkR.get5 (x : PkR) : x.ps[5]? = some (.bool x.ia) := rfl
theorem PkR.get11 (x : PkR) : x.ps[11]? = some (.bool x.ii) := rfl
theorem PkR.get34 (x : PkR) : x.ps[34]? = some (.string (strOfNums x.bd)) := rfl
theorem PkR.get35 (x : PkR) : x.ps[35]? = some (.string (strOfNums x.pd)) := rfl
theorem PkR.exE (x : PkR) : x.ps.extract 0 (0 + 5) = #[.int .u64 x.d, .int .u64 x.s, .bool x.tg, .int .i64 x.tag, .int .i64 x.et] := by kernel_rfl
theorem PkR.exA (x : PkR) : x.ps.extract 6 (6 + 5) = #[.int .i64 x.op, .int .u64 x.sha, .int .u32 x.spa, .int .u64 x.tha, .int .u32 x.tpa] := by kernel_rfl
theorem PkR.exI (x : PkR) : x.ps.extract 12 (12 + 8) = #[.int .i64 x.tos, .int .i64 x.id, .int .i64 x.fr, .int .i64 x.ttl, .int .i64 x.pr, .int .u32 x.src, .int .u32 x.dst, .string (strOfNums x.io)] := by kernel_rfl
theorem PkR.exL (x : PkR) : x.ps.extract 20 (20 + 14) = #[.int .i64 x.l.k, .int .i64 x.l.ty, .int .i64 x.l.co, .int .u32 x.l.re, .int .i64 x.l.sp, .int .i64 x.l.dp, .bool x.l.ns, .int .u32 x.l.sq, .int .u32 x.l.ak, .int .i64 x.l.fl, .int .i64 x.l.wi, .int .i64 x.l.ur, .string (strOfNums x.l.os), .string (strOfNums x.l.ds)] := by kernel_rfl
theorem PkR.inner_bd {x : PkR} (hx : x.Fine) (h : x.Fits) : ∀ i, 0 ≤ x.inner.getD i 0 ∧ x.inner.getD i 0 ≤ 255 := by
  unfold PkR.inner
  split
  · exact arpBytes_bd _ _ _ _ _
  · split
    · exact fits_append (Ip.ipB_bd (Ip.encOk_yes (h.ip (by assumption))) hx.src hx.dst hx.io) (L4R.enc_fits hx.l _ _ hx.src.1 hx.dst.1)
    · intro i; simp
theorem PkR.ipb_len (x : PkR) : x.ipb.length = 20 + x.io.length := Ip.ipB_len ..
theorem PkR.inner_len {x : PkR} (h : x.Fits) : x.inner.length ≤ 65535 := by
  unfold PkR.inner
  split
  · rw [arpBytes_len]; omega
  · split
    · have h1 := (Ip.encOk_yes (h.ip (by assumption)))
      have h2 := h1.data
      have h3 := h1.most
      rw [List.length_append, PkR.ipb_len, L4R.enc_len]
      omega
    · simp
theorem PkR.bytes_bd {x : PkR} (hx : x.Fine) (h : x.Fits) : ∀ i, 0 ≤ x.bytes.getD i 0 ∧ x.bytes.getD i 0 ≤ 255 :=
  fits_append (fits_append (fits_append (headBytes_bd _ _ _ _ _) (PkR.inner_bd hx h)) hx.bd) hx.pd
theorem PkR.encHead {x : PkR} (hx : x.Fine) (h : Eth.fitsB x.d x.s x.tg x.tag x.et = true) (W : World) : Calls Try.prog 29 #[.agg #[.int .u64 x.d, .int .u64 x.s, .bool x.tg, .int .i64 x.tag, .int .i64 x.et]] W fun e w' => ∃ a cap, e = .returned (.tuple #[.slice a x.head.length cap, .int .i64 0]) ∧ w'.ownsRow W.heap.size 5 1 (.slice a x.head.length cap) x.head.length (x.head.map (Value.int .u8)) ∧ Below W.heap.size W w' := by
  unfold PkR.head
  cases g : x.tg
  · rw [g] at h
    exact Eth.encodeHead_plain x.d x.s x.tag x.et W hx.d.1 hx.s.1 h
  · rw [g] at h
    exact Eth.encodeHead_tagged x.d x.s x.tag x.et W hx.d.1 hx.s.1 h
theorem PkR.formT {x : PkR} (h : x = x.own) (W : World) : Calls Try.prog 28 #[.agg x.ps] W fun e w' => e = .returned (.bool true) ∧ Below W.heap.size W w' := by
  have := PkR.form x W
  rw [show x.eqB x.own = true by rw [← h]; exact PkR.eqB_self x] at this
  exact this
theorem PkR.formF {x : PkR} (hx : x.Fine) (h : x ≠ x.own) (W : World) : Calls Try.prog 28 #[.agg x.ps] W fun e w' => e = .returned (.bool false) ∧ Below W.heap.size W w' := by
  have := PkR.form x W
  rw [PkR.eqB_no hx (PkR.own_fine hx) h] at this
  exact this
set_option maxHeartbeats 1000000 in
theorem PkR.innerYes {x : PkR} (hx : x.Fine) (h : x.Fits) (W : World) : Calls Try.prog 30 #[.agg x.ps] W fun e w' => ∃ a cap, e = .returned (.tuple #[.slice a x.inner.length cap, .int .i64 0]) ∧ RB W w' (.slice a x.inner.length cap) x.inner.length x.inner := by
  by_cases e1 : x.et = 2054
  · have hi : x.inner = Eth.arpBytes x.op x.sha x.spa x.tha x.tpa := by unfold PkR.inner; rw [if_pos e1]
    rw [hi, arpBytes_len]
    refine inner_arp x.ps (by rw [PkR.get5, (PkR.flagsA h.own e1).1]) _ _ _ _ _ (PkR.exA x) 28 _ W (fun V => ?_)
    refine (Eth.encodeArp_yes x.op x.sha x.spa x.tha x.tpa V hx.sha.1 hx.spa hx.tha.1 hx.tpa (h.arp e1)).mono ?_
    rintro e w' ⟨a, cap, rfl, o, b⟩
    exact ⟨a, cap, rfl, o, b⟩
  by_cases e2 : x.et = 2048
  · have hi : x.inner = x.ipb ++ x.l.enc x.src x.dst := by unfold PkR.inner; rw [if_neg e1, if_pos e2]
    have hl : x.inner.length = 20 + x.io.length + x.l.body.length := by rw [hi, List.length_append, PkR.ipb_len, L4R.enc_len]
    have hI := PkR.inner_len h
    rw [hl] at hI
    rw [hl, hi]
    have hf := PkR.flagsI h.own e2
    refine inner_ip x.ps (by rw [PkR.get5, hf.1]) (by rw [PkR.get11, hf.2.1]) _ _ _ _ _ _ _ _ _ _ _ _ _ _ _ _ _ _ _ _ _ _ (PkR.exI x) (PkR.exL x) _ _ W (fun V => ?_)
    refine printIp_ok _ _ _ _ _ _ _ _ _ _ _ _ _ _ _ _ _ _ _ _ _ _ x.l.body.length (20 + x.io.length) _ _ (by omega) V (fun U => ?_) (fun U => ?_)
    · exact encode_ok x.l hx.l (h.l4 e2) x.src x.dst hx.src hx.dst U
    · exact Ip.encode_yes x.tos x.id x.fr x.ttl x.pr x.src x.dst x.io x.l.body.length U hx.src hx.dst hx.io (h.ip e2)
  · have hi : x.inner = [] := by unfold PkR.inner; rw [if_neg e1, if_neg e2]
    have hf := PkR.flagsP h.own e1 e2
    rw [hi]
    refine (inner_none x.ps (by rw [PkR.get5, hf.1]) (by rw [PkR.get11, hf.2.1]) W).mono ?_
    rintro e w' ⟨rfl, b⟩
    exact ⟨none, 0, rfl, ⟨by simp, .inl ⟨rfl, rfl⟩⟩, b⟩
/-- Print of a packet that may be. -/
theorem PkR.printYes {x : PkR} (hx : x.Fine) (h : x.Fits) (hl : x.bytes.length ≤ 9018) (w : World) : Calls Try.prog 11 #[.agg x.ps] w fun e w' => ∃ a cap, e = .returned (.tuple #[.slice a x.bytes.length cap, .int .i64 0]) ∧ RB w w' (.slice a x.bytes.length cap) x.bytes.length x.bytes := by
  have hn : x.bytes.length = x.head.length + x.inner.length + x.bd.length + x.pd.length := by simp only [PkR.bytes, List.length_append]
  rw [hn] at hl
  have := print_ok x.ps (PkR.size x) x.d x.s x.tag x.et x.tg (PkR.exE x) x.bd x.pd (PkR.get34 x) (PkR.get35 x) hx.bd hx.pd x.head.length x.inner.length x.head x.inner (PkR.inner_bd hx h) hl w (fun W => PkR.formT h.own W) (fun W => PkR.encHead hx h.head W) (fun W => PkR.innerYes hx h W)
  rw [← hn] at this
  exact this
theorem PkR.printLong {x : PkR} (hx : x.Fine) (h : x.Fits) (hl : 9018 < x.bytes.length) (w : World) : Calls Try.prog 11 #[.agg x.ps] w fun e w' => e = .returned (.tuple #[.slice none 0 0, .int .i64 3]) ∧ Below w.heap.size w w' := by
  have hn : x.bytes.length = x.head.length + x.inner.length + x.bd.length + x.pd.length := by simp only [PkR.bytes, List.length_append]
  rw [hn] at hl
  have h1 := PkR.inner_len h
  have h2 : x.head.length ≤ 18 := by unfold PkR.head; rw [headBytes_len]; split <;> omega
  exact print_long x.ps (PkR.size x) x.d x.s x.tag x.et x.tg (PkR.exE x) x.head.length x.inner.length x.head x.inner x.bd x.pd (PkR.get34 x) (PkR.get35 x) (by omega) (by omega) hx.bdl hx.pdl hl w (fun W => PkR.formT h.own W) (fun W => PkR.encHead hx h.head W) (fun W => PkR.innerYes hx h W)
set_option maxHeartbeats 1000000 in
theorem PkR.innerNo {x : PkR} (hx : x.Fine) (ho : x = x.own) (hh : Eth.fitsB x.d x.s x.tg x.tag x.et = true) (h : ¬ x.Fits) (W : World) : Calls Try.prog 30 #[.agg x.ps] W fun e w' => e = .returned (.tuple #[.slice none 0 0, .int .i64 1]) ∧ Below W.heap.size W w' := by
  by_cases e1 : x.et = 2054
  · refine inner_arpbad x.ps (by rw [PkR.get5, (PkR.flagsA ho e1).1]) _ _ _ _ _ (PkR.exA x) 1 W (fun V => ?_)
    refine Eth.encodeArp_no x.op x.sha x.spa x.tha x.tpa V ?_
    cases g : Eth.arpFits x.op x.sha x.tha
    · rfl
    · exact absurd ⟨ho, hh, fun _ => g, fun e => by omega, fun e => by omega⟩ h
  by_cases e2 : x.et = 2048
  · have hf := PkR.flagsI ho e2
    refine inner_ipbad x.ps (by rw [PkR.get5, hf.1]) (by rw [PkR.get11, hf.2.1]) _ _ _ _ _ _ _ _ _ _ _ _ _ _ _ _ _ _ _ _ _ _ (PkR.exI x) (PkR.exL x) 1 W (fun V => ?_)
    cases g : x.l.ok
    · exact printIp_l4 _ _ _ _ _ _ _ _ _ _ _ _ _ _ _ _ _ _ _ _ _ _ 1 rfl V (fun U => encode_no x.l hx.l g x.src x.dst U)
    · refine printIp_ip _ _ _ _ _ _ _ _ _ _ _ _ _ _ _ _ _ _ _ _ _ _ 1 rfl x.l.body.length V (fun U => ?_) (fun U => ?_)
      · refine (encode_ok x.l hx.l g x.src x.dst hx.src hx.dst U).mono ?_
        rintro e w' ⟨gg, rfl, s⟩
        exact ⟨gg, rfl, s.bel⟩
      · refine Ip.encode_no x.tos x.id x.fr x.ttl x.pr x.src x.dst x.io x.l.body.length U hx.iol ?_
        cases g2 : Ip.encOk x.tos x.id x.fr x.ttl x.pr x.io.length x.l.body.length
        · rfl
        · exact absurd ⟨ho, hh, fun e => absurd e e1, fun _ => g, fun _ => g2⟩ h
  · exact absurd ⟨ho, hh, fun e => absurd e e1, fun e => absurd e e2, fun e => absurd e e2⟩ h
/-- .. and of one that may not. -/
theorem PkR.printNo {x : PkR} (hx : x.Fine) (h : ¬ x.Fits) (w : World) : Calls Try.prog 11 #[.agg x.ps] w fun e w' => e = .returned (.tuple #[.slice none 0 0, .int .i64 1]) ∧ Below w.heap.size w w' := by
  by_cases ho : x = x.own
  · cases hh : Eth.fitsB x.d x.s x.tg x.tag x.et
    · exact print_head x.ps (PkR.size x) x.d x.s x.tag x.et x.tg (PkR.exE x) 1 rfl w (fun W => PkR.formT ho W) (fun W => Eth.encodeHead_no _ _ _ _ _ W hh)
    · exact print_inner x.ps (PkR.size x) x.d x.s x.tag x.et x.tg (PkR.exE x) 1 rfl x.head.length x.head w (fun W => PkR.formT ho W) (fun W => PkR.encHead hx hh W) (fun W => PkR.innerNo hx ho hh h W)
  · exact print_form x.ps (PkR.size x) w (fun W => PkR.formF hx ho W)
end Go.Proofs.Ytpiokeidcnbmbaa

namespace Go.Proofs.Ytpiokeidcnbmbaa
open Go.RowKit
set_option maxRecDepth 20000
theorem PkR.get16 (x : PkR) : x.ps[16]? = some (.int .i64 x.pr) := rfl
theorem PkR.g17 (x : PkR) : x.ps[17]? = some (.int .u32 x.src) := rfl
theorem PkR.g18 (x : PkR) : x.ps[18]? = some (.int .u32 x.dst) := rfl
theorem PkR.g20 (x : PkR) : x.ps[20]? = some (.int .i64 x.l.k) := rfl
theorem PkR.g4 (x : PkR) : x.ps[4]? = some (.int .i64 x.et) := rfl
/-- A packet of this form, its kind aside. -/
def PkR.ownJ (x : PkR) : PkR := { zeroPkR with d := x.d, s := x.s, tg := x.tg, tag := x.tag, et := x.et, ii := true, tos := x.tos, id := x.id, fr := x.fr, ttl := x.ttl, pr := x.pr, src := x.src, dst := x.dst, io := x.io, l := x.l, pd := x.pd }
theorem PkR.ownJ_eq {x : PkR} (h : x.l.k = if wholeB x.fr = true then kindV x.pr else 0) : x.ownJ = x.ownI := by
  unfold PkR.ownJ PkR.ownI
  rw [← h]
theorem PkR.eqI_no {x : PkR} (h : x.l.k ≠ if wholeB x.fr = true then kindV x.pr else 0) : x.eqB x.ownI = false := by
  have e : (x.l.k == x.ownI.l.k) = false := by
    show (x.l.k == (if wholeB x.fr = true then kindV x.pr else 0)) = false
    simpa using h
  unfold PkR.eqB
  rw [e]
  simp
set_option maxHeartbeats 4000000 in
/-- fits of every packet. -/
theorem PkR.rform (x : PkR) (w : World) : Calls Try.prog 31 #[.agg x.ps] w fun e w' => e = .returned (.bool (x.eqB x.own)) ∧ Below w.heap.size w w' := by
  by_cases h1 : x.et = 2054
  · have ho : x.own = x.ownA := by unfold PkR.own; rw [if_pos h1]
    rw [ho]
    have e : (Ca.putC ((Ca.putC zeroPk 0 (#[.int .u64 x.d, .int .u64 x.s, .bool x.tg, .int .i64 x.tag, .int .i64 2054]).toList).setIfInBounds 5 (.bool true)) 6 (#[.int .i64 x.op, .int .u64 x.sha, .int .u32 x.spa, .int .u64 x.tha, .int .u32 x.tpa]).toList).setIfInBounds 35 (.string (strOfNums x.pd)) = x.ownA.ps := by
      unfold PkR.ownA
      rw [h1]
      kernel_rfl
    refine rform_arp _ (PkR.size _) x.d x.s x.tag x.tg x.op x.sha x.spa x.tha x.tpa (strOfNums x.pd) (by rw [PkR.exE, h1]) (PkR.exA x) (by rw [PkR.g4, h1]) (PkR.get35 x) _ w (fun W => ?_)
    rw [e]
    exact PkR.eqRun x x.ownA W
  by_cases h2 : x.et = 2048
  · have ho : x.own = x.ownI := by unfold PkR.own; rw [if_neg h1, if_pos h2]
    rw [ho]
    have e : (Ca.putC (Ca.putC ((Ca.putC zeroPk 0 (#[.int .u64 x.d, .int .u64 x.s, .bool x.tg, .int .i64 x.tag, .int .i64 2048]).toList).setIfInBounds 11 (.bool true)) 12 (#[.int .i64 x.tos, .int .i64 x.id, .int .i64 x.fr, .int .i64 x.ttl, .int .i64 x.pr, .int .u32 x.src, .int .u32 x.dst, .string (strOfNums x.io)]).toList) 20 (#[.int .i64 x.l.k, .int .i64 x.l.ty, .int .i64 x.l.co, .int .u32 x.l.re, .int .i64 x.l.sp, .int .i64 x.l.dp, .bool x.l.ns, .int .u32 x.l.sq, .int .u32 x.l.ak, .int .i64 x.l.fl, .int .i64 x.l.wi, .int .i64 x.l.ur, .string (strOfNums x.l.os), .string (strOfNums x.l.ds)]).toList).setIfInBounds 35 (.string (strOfNums x.pd)) = x.ownJ.ps := by
      unfold PkR.ownJ
      rw [h2]
      kernel_rfl
    cases hw : wholeB x.fr
    · have HW : ∀ W, Calls Try.prog 25 #[.agg #[.int .i64 x.tos, .int .i64 x.id, .int .i64 x.fr, .int .i64 x.ttl, .int .i64 x.pr, .int .u32 x.src, .int .u32 x.dst, .string (strOfNums x.io)]] W fun e w' => e = .returned (.bool false) ∧ Below W.heap.size W w' := fun W => by
        rw [← hw]; exact rwhole_any x.tos x.id x.fr x.ttl x.pr x.src x.dst x.io W
      have hkk : (if wholeB x.fr = true then kindV x.pr else 0) = 0 := by rw [hw]; rfl
      by_cases hk : x.l.k = 0
      · rw [← PkR.ownJ_eq (x := x) (by rw [hkk]; exact hk)]
        refine rform_ipF _ (PkR.size _) x.d x.s x.tag x.tg _ _ _ _ _ _ _ _ _ _ _ _ _ _ _ _ _ _ _ _ _ _ (strOfNums x.pd) (by rw [PkR.exE, h2]) (PkR.exI x) (PkR.exL x) (by rw [PkR.g4, h2]) (PkR.get16 x) (PkR.g20 x) (PkR.get35 x) _ w (by simpa using hk) HW (fun W => ?_)
        rw [e]
        exact PkR.eqRun x x.ownJ W
      · rw [PkR.eqI_no (x := x) (by rw [hkk]; exact hk)]
        exact rform_ipFn _ (PkR.size _) x.d x.s x.tag x.tg _ _ _ _ _ _ _ _ _ _ _ _ _ _ _ _ _ _ _ _ _ _ (strOfNums x.pd) (by rw [PkR.exE, h2]) (PkR.exI x) (PkR.exL x) (by rw [PkR.g4, h2]) (PkR.get16 x) (PkR.g20 x) (PkR.get35 x) w (by simpa using hk) HW
    · have HW : ∀ W, Calls Try.prog 25 #[.agg #[.int .i64 x.tos, .int .i64 x.id, .int .i64 x.fr, .int .i64 x.ttl, .int .i64 x.pr, .int .u32 x.src, .int .u32 x.dst, .string (strOfNums x.io)]] W fun e w' => e = .returned (.bool true) ∧ Below W.heap.size W w' := fun W => by
        rw [← hw]; exact rwhole_any x.tos x.id x.fr x.ttl x.pr x.src x.dst x.io W
      have hkk : (if wholeB x.fr = true then kindV x.pr else 0) = kindV x.pr := by rw [hw]; rfl
      by_cases hk : x.l.k = kindV x.pr
      · rw [← PkR.ownJ_eq (x := x) (by rw [hkk]; exact hk)]
        refine rform_ipW _ (PkR.size _) x.d x.s x.tag x.tg _ _ _ _ _ _ _ _ _ _ _ _ _ _ _ _ _ _ _ _ _ _ (strOfNums x.pd) (by rw [PkR.exE, h2]) (PkR.exI x) (PkR.exL x) (by rw [PkR.g4, h2]) (PkR.get16 x) (PkR.g20 x) (PkR.get35 x) (kindV x.pr) _ w (by simpa using hk) HW (fun W => ?_) (fun W => rkind_any x.pr W)
        rw [e]
        exact PkR.eqRun x x.ownJ W
      · rw [PkR.eqI_no (x := x) (by rw [hkk]; exact hk)]
        exact rform_ipWn _ (PkR.size _) x.d x.s x.tag x.tg _ _ _ _ _ _ _ _ _ _ _ _ _ _ _ _ _ _ _ _ _ _ (strOfNums x.pd) (by rw [PkR.exE, h2]) (PkR.exI x) (PkR.exL x) (by rw [PkR.g4, h2]) (PkR.get16 x) (PkR.g20 x) (PkR.get35 x) (kindV x.pr) w (by simpa using hk) HW (fun W => rkind_any x.pr W)
  · have ho : x.own = x.ownP := by unfold PkR.own; rw [if_neg h1, if_neg h2]
    rw [ho]
    have e : (Ca.putC zeroPk 0 (#[.int .u64 x.d, .int .u64 x.s, .bool x.tg, .int .i64 x.tag, .int .i64 x.et]).toList).setIfInBounds 34 (.string (strOfNums x.bd)) = x.ownP.ps := by
      unfold PkR.ownP
      kernel_rfl
    refine rform_plain _ (PkR.size _) x.d x.s x.tag x.et x.tg (strOfNums x.bd) (PkR.exE x) (PkR.g4 x) (PkR.get34 x) (by simpa using h1) (by simpa using h2) _ w (fun W => ?_)
    rw [e]
    exact PkR.eqRun x x.ownP W
theorem PkR.rformT {x : PkR} (h : x = x.own) (W : World) : Calls Try.prog 31 #[.agg x.ps] W fun e w' => e = .returned (.bool true) ∧ Below W.heap.size W w' := by
  have := PkR.rform x W
  rw [show x.eqB x.own = true by rw [← h]; exact PkR.eqB_self x] at this
  exact this
theorem PkR.rformF {x : PkR} (hx : x.Fine) (h : x ≠ x.own) (W : World) : Calls Try.prog 31 #[.agg x.ps] W fun e w' => e = .returned (.bool false) ∧ Below W.heap.size W w' := by
  have := PkR.rform x W
  rw [PkR.eqB_no hx (PkR.own_fine hx) h] at this
  exact this
theorem PkR.rencHead {x : PkR} (hx : x.Fine) (h : Eth.fitsB x.d x.s x.tg x.tag x.et = true) (W : World) : Calls Try.prog 32 #[.agg #[.int .u64 x.d, .int .u64 x.s, .bool x.tg, .int .i64 x.tag, .int .i64 x.et]] W fun e w' => ∃ a cap, e = .returned (.tuple #[.slice a x.head.length cap, .int .i64 0]) ∧ RB W w' (.slice a x.head.length cap) x.head.length x.head := by
  unfold PkR.head
  cases g : x.tg
  · rw [g] at h
    exact Eth.rencode_plain x.d x.s x.tag x.et W hx.d.1 hx.s.1 h
  · rw [g] at h
    exact Eth.rencode_tagged x.d x.s x.tag x.et W hx.d.1 hx.s.1 h
theorem PkR.head_pos (x : PkR) : 14 ≤ x.head.length ∧ x.head.length ≤ 18 := by
  unfold PkR.head; rw [headBytes_len]; split <;> omega
theorem PkR.sizes {x : PkR} (hx : x.Fine) (h : x.Fits) : x.bytes.length ≤ 140737488355328 + 100000 ∧ x.bytes.length = x.head.length + x.inner.length + x.bd.length + x.pd.length := by
  have hn : x.bytes.length = x.head.length + x.inner.length + x.bd.length + x.pd.length := by simp only [PkR.bytes, List.length_append]
  have h1 := PkR.inner_len h
  have h2 := x.head_pos
  have h3 := hx.bdl
  have h4 := hx.pdl
  have h5 : x.bd = [] ∨ x.pd = [] := by
    by_cases e1 : x.et = 2054
    · left
      have ho := h.own
      rw [ho]; unfold PkR.own; rw [if_pos e1]; rfl
    · by_cases e2 : x.et = 2048
      · exact .inl (PkR.flagsI h.own e2).2.2.1
      · exact .inr (PkR.flagsP h.own e1 e2).2.2
  refine ⟨?_, hn⟩
  rcases h5 with e | e
  · rw [e] at hn; simp at hn; omega
  · rw [e] at hn; simp at hn; omega
theorem PkR.rprintNo {x : PkR} (hx : x.Fine) (h9 : x.l.os.length ≤ 140737488355328) (h : ¬ x.Fits) (w : World) : Calls Try.prog 12 #[.agg x.ps] w fun e w' => e = .returned (.tuple #[.slice none 0 0, .int .i64 1]) ∧ Below w.heap.size w w' := by
  by_cases ho : x = x.own
  · cases hh : Eth.fitsB x.d x.s x.tg x.tag x.et
    · exact rprint_head x.ps (PkR.size x) x.d x.s x.tag x.et x.tg (PkR.exE x) 1 rfl w (fun W => PkR.rformT ho W) (fun W => Eth.rencode_no _ _ _ _ _ W hh)
    by_cases e1 : x.et = 2054
    · refine rprint_arpbad x.ps (PkR.size x) x.d x.s x.tag x.et x.tg (PkR.exE x) _ _ _ _ _ (PkR.exA x) (by rw [PkR.get5, (PkR.flagsA ho e1).1]) x.head.length x.head 1 rfl w (fun W => PkR.rformT ho W) (fun W => PkR.rencHead hx hh W) (fun V => ?_)
      refine Eth.rencodeArp_no x.op x.sha x.spa x.tha x.tpa V ?_
      cases g : Eth.arpFits x.op x.sha x.tha
      · rfl
      · exact absurd ⟨ho, hh, fun _ => g, fun e => by omega, fun e => by omega⟩ h
    by_cases e2 : x.et = 2048
    · have hf := PkR.flagsI ho e2
      cases g : x.l.ok
      · exact rprint_l4bad x.ps (PkR.size x) x.d x.s x.tag x.et x.tg (PkR.exE x) _ _ _ _ _ _ _ _ _ _ _ _ _ _ _ _ _ _ _ _ _ _ (PkR.exI x) (PkR.exL x) (by rw [PkR.get5, hf.1]) (by rw [PkR.get11, hf.2.1]) (PkR.g17 x) (PkR.g18 x) x.head.length x.head 1 rfl w (fun W => PkR.rformT ho W) (fun W => PkR.rencHead hx hh W) (fun U => renf_none x.l hx.l h9 g x.src x.dst U)
      · refine rprint_ipbad x.ps (PkR.size x) x.d x.s x.tag x.et x.tg (PkR.exE x) _ _ _ _ _ _ _ _ _ _ _ _ _ _ _ _ _ _ _ _ _ _ (PkR.exI x) (PkR.exL x) (by rw [PkR.get5, hf.1]) (by rw [PkR.get11, hf.2.1]) (PkR.g17 x) (PkR.g18 x) x.head.length x.l.body.length x.head (x.l.enc x.src x.dst) 1 rfl w (fun W => PkR.rformT ho W) (fun W => PkR.rencHead hx hh W) (fun U => renf_any x.l hx.l h9 g x.src x.dst hx.src hx.dst U) (fun U => ?_)
        refine Ip.rencode_no x.tos x.id x.fr x.ttl x.pr x.src x.dst x.io x.l.body.length U hx.iol ?_
        cases g2 : Ip.encOk x.tos x.id x.fr x.ttl x.pr x.io.length x.l.body.length
        · rfl
        · exact absurd ⟨ho, hh, fun e => absurd e e1, fun _ => g, fun _ => g2⟩ h
    · exact absurd ⟨ho, hh, fun e => absurd e e1, fun e => absurd e e2, fun e => absurd e e2⟩ h
  · exact rprint_form x.ps (PkR.size x) w (fun W => PkR.rformF hx ho W)
set_option maxHeartbeats 1000000 in
theorem PkR.rprintYes {x : PkR} (hx : x.Fine) (h9 : x.l.os.length ≤ 140737488355328) (h : x.Fits) (hl : x.bytes.length ≤ 9018) (w : World) : Calls Try.prog 12 #[.agg x.ps] w fun e w' => ∃ a cap, e = .returned (.tuple #[.slice a x.bytes.length cap, .int .i64 0]) ∧ RB w w' (.slice a x.bytes.length cap) x.bytes.length x.bytes := by
  obtain ⟨_, hn⟩ := PkR.sizes hx h
  rw [hn] at hl ⊢
  have ho := h.own
  by_cases e1 : x.et = 2054
  · have hi : x.inner = Eth.arpBytes x.op x.sha x.spa x.tha x.tpa := by unfold PkR.inner; rw [if_pos e1]
    have hf := PkR.flagsA ho e1
    have hb : x.bytes = x.head ++ Eth.arpBytes x.op x.sha x.spa x.tha x.tpa ++ x.bd ++ x.pd := by unfold PkR.bytes; rw [hi]
    rw [hi, arpBytes_len] at hl ⊢
    rw [hb]
    exact rprint_arp x.ps (PkR.size x) x.d x.s x.tag x.et x.tg (PkR.exE x) _ _ _ _ _ (PkR.exA x) x.bd x.pd hx.bd hx.pd (by rw [PkR.get5, hf.1]) (by rw [PkR.get11, hf.2]) (PkR.get34 x) (PkR.get35 x) x.head.length x.head _ hl w (fun W => PkR.rformT ho W) (fun W => PkR.rencHead hx h.head W) (fun W => Eth.rencodeArp_yes x.op x.sha x.spa x.tha x.tpa W hx.sha.1 hx.spa hx.tha.1 hx.tpa (h.arp e1))
  by_cases e2 : x.et = 2048
  · have hf := PkR.flagsI ho e2
    have hi : x.inner = x.ipb ++ x.l.enc x.src x.dst := by unfold PkR.inner; rw [if_neg e1, if_pos e2]
    have hil : x.inner.length = 20 + x.io.length + x.l.body.length := by rw [hi, List.length_append, PkR.ipb_len, L4R.enc_len]
    have hb : x.bytes = x.head ++ x.ipb ++ x.l.enc x.src x.dst ++ x.bd ++ x.pd := by unfold PkR.bytes; rw [hi, List.append_assoc x.head x.ipb]
    rw [hil, ← Nat.add_assoc] at hl ⊢
    rw [hb]
    exact rprint_ip x.ps (PkR.size x) x.d x.s x.tag x.et x.tg (PkR.exE x) _ _ _ _ _ _ _ _ _ _ _ _ _ _ _ _ _ _ _ _ _ _ (PkR.exI x) (PkR.exL x) x.bd x.pd hx.bd hx.pd (by rw [PkR.get5, hf.1]) (by rw [PkR.get11, hf.2.1]) (PkR.g17 x) (PkR.g18 x) (PkR.get34 x) (PkR.get35 x) x.head.length x.l.body.length (20 + x.io.length) x.head (x.l.enc x.src x.dst) x.ipb hl w (fun W => PkR.rformT ho W) (fun W => PkR.rencHead hx h.head W) (fun U => renf_any x.l hx.l h9 (h.l4 e2) x.src x.dst hx.src hx.dst U) (fun U => Ip.rencode_yes x.tos x.id x.fr x.ttl x.pr x.src x.dst x.io x.l.body.length U hx.src hx.dst hx.io (h.ip e2))
  · have hi : x.inner = [] := by unfold PkR.inner; rw [if_neg e1, if_neg e2]
    have hf := PkR.flagsP ho e1 e2
    have hb : x.bytes = x.head ++ x.bd ++ x.pd := by unfold PkR.bytes; rw [hi, List.append_nil]
    rw [hi, List.length_nil, Nat.add_zero] at hl ⊢
    rw [hb]
    exact rprint_plain x.ps (PkR.size x) x.d x.s x.tag x.et x.tg (PkR.exE x) x.bd x.pd hx.bd hx.pd (by rw [PkR.get5, hf.1]) (by rw [PkR.get11, hf.2.1]) (PkR.get34 x) (PkR.get35 x) x.head.length x.head hl w (fun W => PkR.rformT ho W) (fun W => PkR.rencHead hx h.head W)
set_option maxHeartbeats 1000000 in
theorem PkR.rprintLong {x : PkR} (hx : x.Fine) (h9 : x.l.os.length ≤ 140737488355328) (h : x.Fits) (hl : 9018 < x.bytes.length) (w : World) : Calls Try.prog 12 #[.agg x.ps] w fun e w' => e = .returned (.tuple #[.slice none 0 0, .int .i64 3]) ∧ Below w.heap.size w w' := by
  obtain ⟨hm, hn⟩ := PkR.sizes hx h
  have hh := x.head_pos
  have hin := PkR.inner_len h
  rw [hn] at hl hm
  have ho := h.own
  by_cases e1 : x.et = 2054
  · have hi : x.inner = Eth.arpBytes x.op x.sha x.spa x.tha x.tpa := by unfold PkR.inner; rw [if_pos e1]
    have hf := PkR.flagsA ho e1
    rw [hi, arpBytes_len] at hl hm
    exact rprint_arpL x.ps (PkR.size x) x.d x.s x.tag x.et x.tg (PkR.exE x) _ _ _ _ _ (PkR.exA x) x.bd x.pd hx.bd hx.pd (by rw [PkR.get5, hf.1]) (by rw [PkR.get11, hf.2]) (PkR.get34 x) (PkR.get35 x) x.head.length x.head _ (by omega) (by omega) hl (by omega) w (fun W => PkR.rformT ho W) (fun W => PkR.rencHead hx h.head W) (fun W => Eth.rencodeArp_yes x.op x.sha x.spa x.tha x.tpa W hx.sha.1 hx.spa hx.tha.1 hx.tpa (h.arp e1))
  by_cases e2 : x.et = 2048
  · have hf := PkR.flagsI ho e2
    have he := Ip.encOk_yes (h.ip e2)
    have h4 := he.most
    have hi : x.inner = x.ipb ++ x.l.enc x.src x.dst := by unfold PkR.inner; rw [if_neg e1, if_pos e2]
    have hil : x.inner.length = 20 + x.io.length + x.l.body.length := by rw [hi, List.length_append, PkR.ipb_len, L4R.enc_len]
    rw [hil] at hin
    rw [hil, ← Nat.add_assoc] at hl hm
    exact rprint_ipL x.ps (PkR.size x) x.d x.s x.tag x.et x.tg (PkR.exE x) _ _ _ _ _ _ _ _ _ _ _ _ _ _ _ _ _ _ _ _ _ _ (PkR.exI x) (PkR.exL x) x.bd x.pd hx.bd hx.pd (by rw [PkR.get5, hf.1]) (by rw [PkR.get11, hf.2.1]) (PkR.g17 x) (PkR.g18 x) (PkR.get34 x) (PkR.get35 x) x.head.length x.l.body.length (20 + x.io.length) x.head (x.l.enc x.src x.dst) x.ipb (by omega) (by omega) (by omega) (by omega) hl (by omega) w (fun W => PkR.rformT ho W) (fun W => PkR.rencHead hx h.head W) (fun U => renf_any x.l hx.l h9 (h.l4 e2) x.src x.dst hx.src hx.dst U) (fun U => Ip.rencode_yes x.tos x.id x.fr x.ttl x.pr x.src x.dst x.io x.l.body.length U hx.src hx.dst hx.io (h.ip e2))
  · have hi : x.inner = [] := by unfold PkR.inner; rw [if_neg e1, if_neg e2]
    have hf := PkR.flagsP ho e1 e2
    rw [hi, List.length_nil, Nat.add_zero] at hl hm
    exact rprint_plainL x.ps (PkR.size x) x.d x.s x.tag x.et x.tg (PkR.exE x) x.bd x.pd hx.bd hx.pd (by rw [PkR.get5, hf.1]) (by rw [PkR.get11, hf.2.1]) (PkR.get34 x) (PkR.get35 x) x.head.length x.head (by omega) hl (by omega) w (fun W => PkR.rformT ho W) (fun W => PkR.rencHead hx h.head W)
end Go.Proofs.Ytpiokeidcnbmbaa
