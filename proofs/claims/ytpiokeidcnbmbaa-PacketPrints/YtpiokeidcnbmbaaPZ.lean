/- PacketPrints: the bytes of any packet, as the document says; and back. For every input; no condition beyond the given row's own. -/
import Derived.Test.YtpiokeidcnbmbaaPG1
import Derived.Test.YtpiokeidcnbmbaaL4u
import Derived.Deep.RegionHeld3
import Derived.Lib.AppendStr
import Derived.Test.YtpiokeidcnbmbaaCD
import Derived.Deep.DeepAppendWide
import Derived.Test.YtpiokeidcnbmbaaL4w
import Derived.Laws.StructEq
import Derived.Test.YtpiokeidcnbmbaaPG2
import Derived.Test.YtpiokeidcnbmbaaXG
import Derived.Test.YtpiokeidcnbmbaaL4n
import Derived.Test.YtpiokeidcnbmbaaIH
import Derived.Test.YtpiokeidcnbmbaaL4m
import Derived.Test.YtpiokeidcnbmbaaCE
import Derived.Test.YtpiokeidcnbmbaaPD1
import Derived.Test.YtpiokeidcnbmbaaIF
import Derived.ProofKit
import Derived.ShutString
import Derived.ChangeOld
import Derived.SizedLaws
import Derived.Deep.Slices
import Derived.Test.YtpiokeidcnbmbaaPD2
namespace Go.Proofs.Ytpiokeidcnbmbaa
open Go.RowKit
set_option maxRecDepth 20000
theorem own_base {w : World} {b b' : Nat} {e : TypeId} {k : Nat} {v : Value} {n : Nat} {xs : List Value} (h : w.ownsRow b e k v n xs) (hb : b' ≤ b) : w.ownsRow b' e k v n xs := by
  refine ⟨h.1, ?_⟩
  rcases h.2 with h0 | ⟨g, cap, cur, e1, h1, h2⟩
  · exact .inl h0
  · exact .inr ⟨g, cap, cur, e1, Nat.le_trans hb h1, h2⟩
set_option maxHeartbeats 2000000 in
theorem printIp_l4 (tos id fr ttl pr src dst : Int) (io : List Int) (k ty co re sp dp : Int) (ns : Bool) (sq ak fl wi ur : Int) (lo ds : List Int) (f : Int) (hf : (f != 0) = true) (w : World)
    (HL : Hid (∀ W, Calls Try.prog 79 #[.int .u32 src, .int .u32 dst, .agg #[.int .i64 k, .int .i64 ty, .int .i64 co, .int .u32 re, .int .i64 sp, .int .i64 dp, .bool ns, .int .u32 sq, .int .u32 ak, .int .i64 fl, .int .i64 wi, .int .i64 ur, .string (strOfNums lo), .string (strOfNums ds)]] W fun e w' => e = .returned (.tuple #[.slice none 0 0, .int .i64 f]) ∧ Below W.heap.size W w')) :
    Calls Try.prog 62 #[.agg #[.int .i64 tos, .int .i64 id, .int .i64 fr, .int .i64 ttl, .int .i64 pr, .int .u32 src, .int .u32 dst, .string (strOfNums io)], .agg #[.int .i64 k, .int .i64 ty, .int .i64 co, .int .u32 re, .int .i64 sp, .int .i64 dp, .bool ns, .int .u32 sq, .int .u32 ak, .int .i64 fl, .int .i64 wi, .int .i64 ur, .string (strOfNums lo), .string (strOfNums ds)]] w fun e w' => e = .returned (.tuple #[.slice none 0 0, .int .i64 f]) ∧ Below w.heap.size w w' := by
  go_enter Try.func62, Try.ntmps62
  go_wp2_with fail
  refine (HL.out _).mono ?_
  rintro e W1 ⟨rfl, hb⟩
  have B1 : Hid (Below w.heap.size w W1) := (below2 w _ _).trans (hb.mono (by simp; omega))
  clear hb HL
  go_wp2
  go_ret2
  exact ⟨rfl, B1.out⟩
set_option maxHeartbeats 2000000 in
theorem printIp_ip (tos id fr ttl pr src dst : Int) (io : List Int) (k ty co re sp dp : Int) (ns : Bool) (sq ak fl wi ur : Int) (lo ds : List Int) (f : Int) (hf : (f != 0) = true) (N : Nat) (w : World)
    (HL : Hid (∀ W, Calls Try.prog 79 #[.int .u32 src, .int .u32 dst, .agg #[.int .i64 k, .int .i64 ty, .int .i64 co, .int .u32 re, .int .i64 sp, .int .i64 dp, .bool ns, .int .u32 sq, .int .u32 ak, .int .i64 fl, .int .i64 wi, .int .i64 ur, .string (strOfNums lo), .string (strOfNums ds)]] W fun e w' => ∃ g, e = .returned (.tuple #[.slice (some ⟨g, 0, none⟩) N N, .int .i64 0]) ∧ Below W.heap.size W w'))
    (HI : Hid (∀ W, Calls Try.prog 80 #[.agg #[.int .i64 tos, .int .i64 id, .int .i64 fr, .int .i64 ttl, .int .i64 pr, .int .u32 src, .int .u32 dst, .string (strOfNums io)], .int .i64 N] W fun e w' => e = .returned (.tuple #[.slice none 0 0, .int .i64 f]) ∧ Below W.heap.size W w')) :
    Calls Try.prog 62 #[.agg #[.int .i64 tos, .int .i64 id, .int .i64 fr, .int .i64 ttl, .int .i64 pr, .int .u32 src, .int .u32 dst, .string (strOfNums io)], .agg #[.int .i64 k, .int .i64 ty, .int .i64 co, .int .u32 re, .int .i64 sp, .int .i64 dp, .bool ns, .int .u32 sq, .int .u32 ak, .int .i64 fl, .int .i64 wi, .int .i64 ur, .string (strOfNums lo), .string (strOfNums ds)]] w fun e w' => e = .returned (.tuple #[.slice none 0 0, .int .i64 f]) ∧ Below w.heap.size w w' := by
  go_enter Try.func62, Try.ntmps62
  go_wp2_with fail
  refine (HL.out _).mono ?_
  rintro e W1 ⟨g, rfl, hb⟩
  have B1 : Hid (Below w.heap.size w W1) := (below2 w _ _).trans (hb.mono (by simp; omega))
  obtain ⟨x0, x1, x2, x3, x4, x5, x6, x7⟩ := AtB.eight (AtB.below ((atB_new w #[.int .i64 tos, .int .i64 id, .int .i64 fr, .int .i64 ttl, .int .i64 pr, .int .u32 src, .int .u32 dst, .string (strOfNums io)] 30 _ rfl).below (below1 _ _)) hb)
  clear hb HL
  go_wp2_with fail
  refine (HI.out _).mono ?_
  rintro e W2 ⟨rfl, hb⟩
  have B2 : Hid (Below w.heap.size w W2) := B1.out.trans (hb.mono B1.out.size)
  clear hb HI x0 x1 x2 x3 x4 x5 x6 x7 B1
  go_wp2
  go_ret2
  exact ⟨rfl, B2.out⟩
set_option maxHeartbeats 2000000 in
theorem printIp_ok (tos id fr ttl pr src dst : Int) (io : List Int) (k ty co re sp dp : Int) (ns : Bool) (sq ak fl wi ur : Int) (lo ds : List Int) (N M : Nat) (E I : List Int) (hNM : M + N ≤ 1000000) (w : World)
    (HL : Hid (∀ W, Calls Try.prog 79 #[.int .u32 src, .int .u32 dst, .agg #[.int .i64 k, .int .i64 ty, .int .i64 co, .int .u32 re, .int .i64 sp, .int .i64 dp, .bool ns, .int .u32 sq, .int .u32 ak, .int .i64 fl, .int .i64 wi, .int .i64 ur, .string (strOfNums lo), .string (strOfNums ds)]] W fun e w' => ∃ g, e = .returned (.tuple #[.slice (some ⟨g, 0, none⟩) N N, .int .i64 0]) ∧ EncS W w' g N N E))
    (HI : Hid (∀ W, Calls Try.prog 80 #[.agg #[.int .i64 tos, .int .i64 id, .int .i64 fr, .int .i64 ttl, .int .i64 pr, .int .u32 src, .int .u32 dst, .string (strOfNums io)], .int .i64 N] W fun e w' => ∃ a cap, e = .returned (.tuple #[.slice a M cap, .int .i64 0]) ∧ w'.ownsRow W.heap.size 5 1 (.slice a M cap) M (I.map (Value.int .u8)) ∧ Below W.heap.size W w')) :
    Calls Try.prog 62 #[.agg #[.int .i64 tos, .int .i64 id, .int .i64 fr, .int .i64 ttl, .int .i64 pr, .int .u32 src, .int .u32 dst, .string (strOfNums io)], .agg #[.int .i64 k, .int .i64 ty, .int .i64 co, .int .u32 re, .int .i64 sp, .int .i64 dp, .bool ns, .int .u32 sq, .int .u32 ak, .int .i64 fl, .int .i64 wi, .int .i64 ur, .string (strOfNums lo), .string (strOfNums ds)]] w fun e w' => ∃ a cap, e = .returned (.tuple #[.slice a (M + N) cap, .int .i64 0]) ∧ RB w w' (.slice a (M + N) cap) (M + N) (I ++ E) := by
  obtain ⟨i0, hi, hz0, hz1, hz2⟩ := info_parts info5
  go_enter Try.func62, Try.ntmps62
  go_wp2_with fail
  refine (HL.out _).mono ?_
  rintro e W1 ⟨g, rfl, e1⟩
  have hb := e1.bel
  have B1 : Hid (Below w.heap.size w W1) := (below2 w _ _).trans (hb.mono (by simp; omega))
  have E1 : Hid (BS W1 (some ⟨g, 0, none⟩) N E) := e1.bs
  obtain ⟨x0, x1, x2, x3, x4, x5, x6, x7⟩ := AtB.eight (AtB.below ((atB_new w #[.int .i64 tos, .int .i64 id, .int .i64 fr, .int .i64 ttl, .int .i64 pr, .int .u32 src, .int .u32 dst, .string (strOfNums io)] 30 _ rfl).below (below1 _ _)) hb)
  clear hb HL e1
  go_wp2_with fail
  refine (HI.out _).mono ?_
  rintro e W2 ⟨a, cap, rfl, own2, hb⟩
  have B2 : Hid (Below w.heap.size w W2) := B1.out.trans (hb.mono B1.out.size)
  have E2 : Hid (BS W2 (some ⟨g, 0, none⟩) N E) := E1.out.below hb
  have R2 : Hid (RB w W2 (.slice a M cap) M I) := ⟨own_base own2 B1.out.size, B2.out⟩
  clear hb HI x0 x1 x2 x3 x4 x5 x6 x7 B1 E1 own2
  go_wp2_with (at_builtin; refine wpList_append_rb (w1 := w) Try.underlying22 info5 (by rfl) _ _ rfl _ M I rfl R2.out _ N N E rfl E2.out (by omega) ?_)
  intro a3 c3 W3 r3
  have R3 : Hid (RB w W3 (.slice a3 (M + N) c3) (M + N) (I ++ E)) := r3
  clear r3 R2 E2 B2
  go_wp2
  go_ret2
  exact ⟨a3, c3, rfl, R3.out⟩
end Go.Proofs.Ytpiokeidcnbmbaa

namespace Go.Proofs.Ytpiokeidcnbmbaa
open Go.RowKit
set_option maxRecDepth 20000
set_option maxHeartbeats 2000000 in
theorem inner_ip (ps : Array Value) (h5 : ps[5]? = some (.bool false)) (h11 : ps[11]? = some (.bool true)) (tos id fr ttl pr src dst : Int) (io : List Int) (k ty co re sp dp : Int) (ns : Bool) (sq ak fl wi ur : Int) (lo ds : List Int) (hI : ps.extract 12 (12 + 8) = #[.int .i64 tos, .int .i64 id, .int .i64 fr, .int .i64 ttl, .int .i64 pr, .int .u32 src, .int .u32 dst, .string (strOfNums io)]) (hL : ps.extract 20 (20 + 14) = #[.int .i64 k, .int .i64 ty, .int .i64 co, .int .u32 re, .int .i64 sp, .int .i64 dp, .bool ns, .int .u32 sq, .int .u32 ak, .int .i64 fl, .int .i64 wi, .int .i64 ur, .string (strOfNums lo), .string (strOfNums ds)]) (n : Nat) (B : List Int) (w : World)
    (HP : Hid (∀ W, Calls Try.prog 62 #[.agg #[.int .i64 tos, .int .i64 id, .int .i64 fr, .int .i64 ttl, .int .i64 pr, .int .u32 src, .int .u32 dst, .string (strOfNums io)], .agg #[.int .i64 k, .int .i64 ty, .int .i64 co, .int .u32 re, .int .i64 sp, .int .i64 dp, .bool ns, .int .u32 sq, .int .u32 ak, .int .i64 fl, .int .i64 wi, .int .i64 ur, .string (strOfNums lo), .string (strOfNums ds)]] W fun e w' => ∃ a cap, e = .returned (.tuple #[.slice a n cap, .int .i64 0]) ∧ RB W w' (.slice a n cap) n B)) :
    Calls Try.prog 30 #[.agg ps] w fun e w' => ∃ a cap, e = .returned (.tuple #[.slice a n cap, .int .i64 0]) ∧ RB w w' (.slice a n cap) n B := by
  have R1 : Hid ((w.alloc (.cells ps 34)).heap[w.heap.size]? = some (.cells ps 34 (0, 0))) := heap_alloc_new w _
  have c5 := (Ca.cell_row R1.out 5).trans h5
  have c11 := (Ca.cell_row R1.out 11).trans h11
  have hI9 : (ps.extract 12 (12 + 8)).size = 8 := by rw [hI]; rfl
  have hL9 : (ps.extract 20 (20 + 14)).size = 14 := by rw [hL]; rfl
  clear h5 h11
  go_enter Try.func30, Try.ntmps30
  go_wp2_with (first
    | (refine Ca.wpList_load_at rfl 30 _ rfl w.heap.size 12 8 rfl ps 34 _ R1.out Try.underlying30 rfl hI9 (by kernel_rfl) ?_; rw [hI])
    | (refine Ca.wpList_load_at rfl 32 _ rfl w.heap.size 20 14 rfl ps 34 _ R1.out Try.underlying32 rfl hL9 (by kernel_rfl) ?_; rw [hL])
    | fail)
  refine (HP.out _).mono ?_
  rintro e W1 ⟨a, cap, rfl, r1⟩
  have R3 : Hid (RB w W1 (.slice a n cap) n B) := ⟨own_base r1.own (by simp), (below1 w _).trans (r1.bel.mono (by simp))⟩
  clear r1 HP R1 c5 c11
  go_wp2
  go_ret2
  exact ⟨a, cap, rfl, R3.out⟩
set_option maxHeartbeats 2000000 in
theorem inner_ipbad (ps : Array Value) (h5 : ps[5]? = some (.bool false)) (h11 : ps[11]? = some (.bool true)) (tos id fr ttl pr src dst : Int) (io : List Int) (k ty co re sp dp : Int) (ns : Bool) (sq ak fl wi ur : Int) (lo ds : List Int) (hI : ps.extract 12 (12 + 8) = #[.int .i64 tos, .int .i64 id, .int .i64 fr, .int .i64 ttl, .int .i64 pr, .int .u32 src, .int .u32 dst, .string (strOfNums io)]) (hL : ps.extract 20 (20 + 14) = #[.int .i64 k, .int .i64 ty, .int .i64 co, .int .u32 re, .int .i64 sp, .int .i64 dp, .bool ns, .int .u32 sq, .int .u32 ak, .int .i64 fl, .int .i64 wi, .int .i64 ur, .string (strOfNums lo), .string (strOfNums ds)]) (f : Int) (w : World)
    (HP : Hid (∀ W, Calls Try.prog 62 #[.agg #[.int .i64 tos, .int .i64 id, .int .i64 fr, .int .i64 ttl, .int .i64 pr, .int .u32 src, .int .u32 dst, .string (strOfNums io)], .agg #[.int .i64 k, .int .i64 ty, .int .i64 co, .int .u32 re, .int .i64 sp, .int .i64 dp, .bool ns, .int .u32 sq, .int .u32 ak, .int .i64 fl, .int .i64 wi, .int .i64 ur, .string (strOfNums lo), .string (strOfNums ds)]] W fun e w' => e = .returned (.tuple #[.slice none 0 0, .int .i64 f]) ∧ Below W.heap.size W w')) :
    Calls Try.prog 30 #[.agg ps] w fun e w' => e = .returned (.tuple #[.slice none 0 0, .int .i64 f]) ∧ Below w.heap.size w w' := by
  have R1 : Hid ((w.alloc (.cells ps 34)).heap[w.heap.size]? = some (.cells ps 34 (0, 0))) := heap_alloc_new w _
  have c5 := (Ca.cell_row R1.out 5).trans h5
  have c11 := (Ca.cell_row R1.out 11).trans h11
  have hI9 : (ps.extract 12 (12 + 8)).size = 8 := by rw [hI]; rfl
  have hL9 : (ps.extract 20 (20 + 14)).size = 14 := by rw [hL]; rfl
  clear h5 h11
  go_enter Try.func30, Try.ntmps30
  go_wp2_with (first
    | (refine Ca.wpList_load_at rfl 30 _ rfl w.heap.size 12 8 rfl ps 34 _ R1.out Try.underlying30 rfl hI9 (by kernel_rfl) ?_; rw [hI])
    | (refine Ca.wpList_load_at rfl 32 _ rfl w.heap.size 20 14 rfl ps 34 _ R1.out Try.underlying32 rfl hL9 (by kernel_rfl) ?_; rw [hL])
    | fail)
  refine (HP.out _).mono ?_
  rintro e W1 ⟨rfl, r1⟩
  have R3 : Hid (Below w.heap.size w W1) := (below1 w _).trans (r1.mono (by simp))
  clear r1 HP R1 c5 c11
  go_wp2
  go_ret2
  exact ⟨rfl, R3.out⟩
theorem inner_none (ps : Array Value) (h5 : ps[5]? = some (.bool false)) (h11 : ps[11]? = some (.bool false)) (w : World) :
    Calls Try.prog 30 #[.agg ps] w fun e w' => e = .returned (.tuple #[.slice none 0 0, .int .i64 0]) ∧ Below w.heap.size w w' := by
  have R1 : Hid ((w.alloc (.cells ps 34)).heap[w.heap.size]? = some (.cells ps 34 (0, 0))) := heap_alloc_new w _
  have c5 := (Ca.cell_row R1.out 5).trans h5
  have c11 := (Ca.cell_row R1.out 11).trans h11
  clear h5 h11
  go_enter Try.func30, Try.ntmps30
  go_wp2
  go_ret2
  exact ⟨rfl, below1 w _⟩
end Go.Proofs.Ytpiokeidcnbmbaa

namespace Go.Proofs.Ytpiokeidcnbmbaa
open Go.RowKit Go.Lib
set_option maxRecDepth 20000
set_option linter.unusedSimpArgs false
set_option maxHeartbeats 2000000 in
theorem kindOf_any (tos id fr ttl pr src dst : Int) (io : List Int) (w : World) : Calls Try.prog 57 #[.agg #[.int .i64 tos, .int .i64 id, .int .i64 fr, .int .i64 ttl, .int .i64 pr, .int .u32 src, .int .u32 dst, .string (strOfNums io)]] w fun e w' => e = .returned (.int .i64 (if wholeB fr = true then kindV pr else 0)) ∧ Below w.heap.size w w' := by
  have HW : Hid (∀ W, Calls Try.prog 20 #[.agg #[.int .i64 tos, .int .i64 id, .int .i64 fr, .int .i64 ttl, .int .i64 pr, .int .u32 src, .int .u32 dst, .string (strOfNums io)]] W fun e w' => e = .returned (.bool (wholeB fr)) ∧ Below W.heap.size W w') := fun W => ipwhole_any tos id fr ttl pr src dst io W
  generalize wholeB fr = b at *
  have fin : ∀ W1, Below (w.alloc (.cells #[.int .i64 tos, .int .i64 id, .int .i64 fr, .int .i64 ttl, .int .i64 pr, .int .u32 src, .int .u32 dst, .string (strOfNums io)] 30)).heap.size (w.alloc (.cells #[.int .i64 tos, .int .i64 id, .int .i64 fr, .int .i64 ttl, .int .i64 pr, .int .u32 src, .int .u32 dst, .string (strOfNums io)] 30)) W1 → Below w.heap.size w W1 := fun W1 hb => (below1 w _).trans (hb.mono (by simp))
  unfold kindV
  cases b
  · go_enter Try.func57, Try.ntmps57
    go_wp2_with fail
    refine (HW.out _).mono ?_
    rintro e W1 ⟨rfl, hb⟩
    have B1 : Hid (Below w.heap.size w W1) := fin _ hb
    clear hb fin
    go_wp2
    go_ret
    exact ⟨rfl, B1.out⟩
  by_cases h1 : pr = 1
  · subst h1
    go_enter Try.func57, Try.ntmps57
    go_wp2_with fail
    refine (HW.out _).mono ?_
    rintro e W1 ⟨rfl, hb⟩
    have B1 : Hid (Below w.heap.size w W1) := fin _ hb
    obtain ⟨x0, x1, x2, x3, x4, x5, x6, x7⟩ := AtB.eight (AtB.below (atB_new w #[.int .i64 tos, .int .i64 id, .int .i64 fr, .int .i64 ttl, .int .i64 1, .int .u32 src, .int .u32 dst, .string (strOfNums io)] 30 _ rfl) hb)
    clear hb fin
    go_wp2
    go_ret
    exact ⟨rfl, B1.out⟩
  by_cases h2 : pr = 17
  · subst h2
    go_enter Try.func57, Try.ntmps57
    go_wp2_with fail
    refine (HW.out _).mono ?_
    rintro e W1 ⟨rfl, hb⟩
    have B1 : Hid (Below w.heap.size w W1) := fin _ hb
    obtain ⟨x0, x1, x2, x3, x4, x5, x6, x7⟩ := AtB.eight (AtB.below (atB_new w #[.int .i64 tos, .int .i64 id, .int .i64 fr, .int .i64 ttl, .int .i64 17, .int .u32 src, .int .u32 dst, .string (strOfNums io)] 30 _ rfl) hb)
    clear hb fin
    go_wp2
    go_ret
    exact ⟨rfl, B1.out⟩
  by_cases h3 : pr = 6
  · subst h3
    go_enter Try.func57, Try.ntmps57
    go_wp2_with fail
    refine (HW.out _).mono ?_
    rintro e W1 ⟨rfl, hb⟩
    have B1 : Hid (Below w.heap.size w W1) := fin _ hb
    obtain ⟨x0, x1, x2, x3, x4, x5, x6, x7⟩ := AtB.eight (AtB.below (atB_new w #[.int .i64 tos, .int .i64 id, .int .i64 fr, .int .i64 ttl, .int .i64 6, .int .u32 src, .int .u32 dst, .string (strOfNums io)] 30 _ rfl) hb)
    clear hb fin
    go_wp2
    go_ret
    exact ⟨rfl, B1.out⟩
  · rw [if_pos rfl, if_neg h1, if_neg h2, if_neg h3]
    have e1 : (pr == 1) = false := by simp [h1]
    have e2 : (pr == 17) = false := by simp [h2]
    have e3 : (pr == 6) = false := by simp [h3]
    go_enter Try.func57, Try.ntmps57
    go_wp2_with fail
    refine (HW.out _).mono ?_
    rintro e W1 ⟨rfl, hb⟩
    have B1 : Hid (Below w.heap.size w W1) := fin _ hb
    obtain ⟨x0, x1, x2, x3, x4, x5, x6, x7⟩ := AtB.eight (AtB.below (atB_new w #[.int .i64 tos, .int .i64 id, .int .i64 fr, .int .i64 ttl, .int .i64 pr, .int .u32 src, .int .u32 dst, .string (strOfNums io)] 30 _ rfl) hb)
    clear hb fin
    go_wp2
    go_ret
    exact ⟨rfl, B1.out⟩
theorem own_below {W W' : World} {b : Nat} {e : TypeId} {k : Nat} {v : Value} {n : Nat} {xs : List Value} (h : W.ownsRow b e k v n xs) (hb : Below W.heap.size W W') : W'.ownsRow b e k v n xs := by
  refine ⟨h.1, ?_⟩
  rcases h.2 with h0 | ⟨g, cap, cur, e1, h1, h2, h3⟩
  · exact .inl h0
  · exact .inr ⟨g, cap, cur, e1, h1, (hb.block g (Ca.lt_of_heap h2)).trans h2, h3⟩
theorem step_str_rb {P : Program} {w1 w : World} {ops : Array Oper} {o : Oper} {act : Act} {K : Act → World → Prop} {Q : Exit → Act → World → Prop} {E : Prop} (hgd : o.guard = none) (s x : Operand) (u : TypeId)
    (ho : o.op = .call { callee := .builtin .append, args := #[s, x], argTypes := #[22, u] })
    (i : TypeInfo) (ht : P.underlying 22 = some (.slice 5)) (hu : P.underlying u = some .string) (hi : P.info? 5 = some i) (hz : i.zero = some (.int .u8 0)) (hsize : i.size = 1) (hby : i.bytes = 1)
    (v : Value) (n : Nat) (xs : List Int) (hs : act.eval s = v) (hr : RB w1 w v n xs)
    (os : List Int) (hf : ∀ i, 0 ≤ os.getD i 0 ∧ os.getD i 0 ≤ 255) (hx : act.eval x = .string (strOfNums os)) (hsum : n + os.length ≤ 140737488355328)
    (h : ∀ a' cap' w', RB w1 w' (.slice a' (n + os.length) cap') (n + os.length) (xs ++ os) → K (act.put o.dst (.slice a' (n + os.length) cap')) w') :
    if Region.wanted o (yielded ops act.tmps) = true then Oper.wp P o act w K Q else E := by
  have hw : Region.wanted o (yielded ops act.tmps) = true := by simp [Region.wanted, hgd]
  rw [if_pos hw]
  have hsz := strOfNums_size os
  obtain ⟨v', w', hrun, h2, h3, _⟩ := run_append_own_string (P := P) w w1.heap.size 22 u o.type 5 i ht hu hi hz hsize hby v n _ hr.own (strOfNums os) (by rw [hsz]; unfold maxLen; omega) (by rw [hsz]; omega) hr.bel.size
  rw [hsz, strCells_nums hf, ← List.map_append] at h2
  obtain ⟨a', cap', rfl, _⟩ := own_form h2
  unfold Oper.wp execOp
  simp only [ho, resolve, invoke, builtin, Sem.run_bind, Sem.run_pure, Result.andThen_ok, List.map_toArray, List.map_cons, List.map_nil, hs, hx, hrun]
  exact h a' cap' w' (rb_step hr h2 h3)
set_option maxHeartbeats 4000000 in
theorem print_ok (ps : Array Value) (hs : ps.size = 36) (d s tag et : Int) (tg : Bool) (hE : ps.extract 0 (0 + 5) = #[.int .u64 d, .int .u64 s, .bool tg, .int .i64 tag, .int .i64 et]) (bd pd : List Int) (h34 : ps[34]? = some (.string (strOfNums bd))) (h35 : ps[35]? = some (.string (strOfNums pd))) (fb : ∀ i, 0 ≤ bd.getD i 0 ∧ bd.getD i 0 ≤ 255) (fp : ∀ i, 0 ≤ pd.getD i 0 ∧ pd.getD i 0 ≤ 255)
    (n m : Nat) (HB IB : List Int) (fi : ∀ i, 0 ≤ IB.getD i 0 ∧ IB.getD i 0 ≤ 255) (hlen : n + m + bd.length + pd.length ≤ 9018) (w : World)
    (HF : Hid (∀ W, Calls Try.prog 28 #[.agg ps] W fun e w' => e = .returned (.bool true) ∧ Below W.heap.size W w'))
    (HH : Hid (∀ W, Calls Try.prog 29 #[.agg #[.int .u64 d, .int .u64 s, .bool tg, .int .i64 tag, .int .i64 et]] W fun e w' => ∃ a cap, e = .returned (.tuple #[.slice a n cap, .int .i64 0]) ∧ w'.ownsRow W.heap.size 5 1 (.slice a n cap) n (HB.map (Value.int .u8)) ∧ Below W.heap.size W w'))
    (HI : Hid (∀ W, Calls Try.prog 30 #[.agg ps] W fun e w' => ∃ a cap, e = .returned (.tuple #[.slice a m cap, .int .i64 0]) ∧ RB W w' (.slice a m cap) m IB)) :
    Calls Try.prog 11 #[.agg ps] w fun e w' => ∃ a cap, e = .returned (.tuple #[.slice a (n + m + bd.length + pd.length) cap, .int .i64 0]) ∧ RB w w' (.slice a (n + m + bd.length + pd.length) cap) (n + m + bd.length + pd.length) (HB ++ IB ++ bd ++ pd) := by
  obtain ⟨i0, hi, hz0, hz1, hz2⟩ := info_parts info5
  have hI0 : (n : Int) + m + bd.length + pd.length ≤ 9018 := by omega
  have hb1 := strOfNums_size bd
  have hb2 := strOfNums_size pd
  have w1 : IntKind.i64.wrap ((n : Int) + m) = (n : Int) + m := by simp [IntKind.wrap, IntKind.bits, IntKind.signed]; omega
  have w2 : IntKind.i64.wrap ((n : Int) + m + bd.length) = (n : Int) + m + bd.length := by simp [IntKind.wrap, IntKind.bits, IntKind.signed]; omega
  have w3 : IntKind.i64.wrap ((n : Int) + m + bd.length + pd.length) = (n : Int) + m + bd.length + pd.length := by simp [IntKind.wrap, IntKind.bits, IntKind.signed]; omega
  have h9E : (ps.extract 0 (0 + 5)).size = 5 := by rw [hE]; rfl
  have HS : Hid (ps.size = 36) := hs
  have H34 : Hid (ps[34]? = some (.string (strOfNums bd))) := h34
  have H35 : Hid (ps[35]? = some (.string (strOfNums pd))) := h35
  clear hs h34 h35
  obtain ⟨wb, hwb⟩ : ∃ V, w.alloc (.cells ps 34) = V := ⟨_, rfl⟩
  have R0 : Hid (wb.heap[w.heap.size]? = some (.cells ps 34 (0, 0))) := by show _ = _; rw [← hwb]; exact heap_alloc_new w _
  have LB : Hid (Below w.heap.size w wb) := by show Below _ _ _; rw [← hwb]; exact below1 w _
  have HWB : Hid (w.alloc (.cells ps 34) = wb) := hwb
  clear hwb
  go_enter Try.func11, Try.ntmps11
  go_wp2_with fail
  refine scope_from ?_
  go_wp2_with (refine wpList_load_row rfl 34 _ rfl (w.heap.size) rfl 34 ps (0, 0) _ (heap_alloc_new w _) Try.underlying34 rfl (info36 HS.out) ?_)
  refine (HF.out _).mono ?_
  rintro e W1 ⟨rfl, hb⟩
  rw [HWB.out] at hb
  have B1 : Hid (Below wb.heap.size wb W1) := hb
  have R1 : Hid (W1.heap[w.heap.size]? = some (.cells ps 34 (0, 0))) := (hb.block _ (Ca.lt_of_heap R0.out)).trans R0.out
  clear hb HF
  go_wp2_with (refine Ca.wpList_load_at rfl 25 _ rfl (w.heap.size) 0 5 rfl ps 34 _ R1.out Try.underlying25 rfl h9E (by kernel_rfl) ?_; rw [hE])
  refine (HH.out _).mono ?_
  rintro e W2 ⟨a0, c0, rfl, own2, hb⟩
  have B2 : Hid (Below wb.heap.size wb W2) := B1.out.trans (hb.mono B1.out.size)
  have R2 : Hid (W2.heap[w.heap.size]? = some (.cells ps 34 (0, 0))) := (hb.block _ (Ca.lt_of_heap R1.out)).trans R1.out
  have O2 : Hid (W2.ownsRow wb.heap.size 5 1 (.slice a0 n c0) n (HB.map (Value.int .u8))) := own_base own2 B1.out.size
  clear hb HH R1 B1 own2
  go_wp2_with (refine wpList_load_row rfl 34 _ rfl (w.heap.size) rfl 34 ps (0, 0) _ R2.out Try.underlying34 rfl (info36 HS.out) ?_)
  refine (HI.out _).mono ?_
  rintro e W3 ⟨a1, c1, rfl, r3⟩
  have hb := r3.bel
  have B3 : Hid (Below wb.heap.size wb W3) := B2.out.trans (hb.mono B2.out.size)
  have R3 : Hid (W3.heap[w.heap.size]? = some (.cells ps 34 (0, 0))) := (hb.block _ (Ca.lt_of_heap R2.out)).trans R2.out
  have O3 : Hid (RB wb W3 (.slice a0 n c0) n HB) := ⟨own_below O2.out hb, B3.out⟩
  have I3 : Hid (BS W3 a1 m IB) := own_bs r3.own fi (by omega)
  clear hb HI R2 B2 O2 r3
  have c34 := (Ca.cell_row R3.out 34).trans H34.out
  have c35 := (Ca.cell_row R3.out 35).trans H35.out
  go_wp2_with fail
  clear c34 c35
  refine wp_region_held_drew (S := (fun W => W.heap[w.heap.size]? = some (.cells ps 34 (0, 0)))) (by kernel_rfl) R3.out (fun hHeld => ?_)
  have O4 : Hid (RB wb W3.drew (.slice a0 n c0) n HB) := O3.out.drew
  have I4 : Hid (BS W3.drew a1 m IB) := I3.out.drew
  obtain ⟨W4, hW4⟩ : ∃ V, W3.drew = V := ⟨_, rfl⟩
  rw [hW4] at O4 I4 hHeld ⊢
  clear hW4 R3 O3 I3 B3
  refine wpAnyH_take (i := 0) (v := ?_) rfl (by kernel_rfl) (by kernel_rfl) (by kernel_rfl) (fun _ _ _ h => h) (Or.inl ⟨by rfl, ?_⟩) (by assumption) ?_
  rotate_left
  · (intro w hSw; (try dsimp only at hSw); go_simp; try with_reducible rfl)
  try simp only [List.getElem_toArray, List.getElem_cons_zero, List.getElem_cons_succ, Act.put, List.setIfInBounds_toArray, List.set_cons_zero, List.set_cons_succ]
  refine wpAnyH_take (i := 1) (v := ?_) rfl (by kernel_rfl) (by kernel_rfl) (by kernel_rfl) (fun _ _ _ h => h) (Or.inl ⟨by rfl, ?_⟩) (by assumption) ?_
  rotate_left
  · (intro w hSw; (try dsimp only at hSw); go_simp; try with_reducible rfl)
  try simp only [List.getElem_toArray, List.getElem_cons_zero, List.getElem_cons_succ, Act.put, List.setIfInBounds_toArray, List.set_cons_zero, List.set_cons_succ]
  refine wpAnyH_take (i := 3) (v := ?_) rfl (by kernel_rfl) (by kernel_rfl) (by kernel_rfl) (fun _ _ _ h => h) (Or.inl ⟨by rfl, ?_⟩) (by assumption) ?_
  rotate_left
  · (intro w hSw; (try dsimp only at hSw); go_simp; try with_reducible rfl)
  try simp only [List.getElem_toArray, List.getElem_cons_zero, List.getElem_cons_succ, Act.put, List.setIfInBounds_toArray, List.set_cons_zero, List.set_cons_succ]
  refine wpAnyH_take (i := 4) (v := .string (strOfNums bd)) rfl (by kernel_rfl) (by kernel_rfl) (by kernel_rfl) (fun _ _ _ h => h) (Or.inl ⟨by rfl, fun W hW => by have c := (Ca.cell_row hW 34).trans H34.out; go_simp⟩) (by assumption) ?_
  try simp only [List.getElem_toArray, List.getElem_cons_zero, List.getElem_cons_succ, Act.put, List.setIfInBounds_toArray, List.set_cons_zero, List.set_cons_succ]
  refine wpAnyH_take (i := 6) (v := ?_) rfl (by kernel_rfl) (by kernel_rfl) (by kernel_rfl) (fun _ _ _ h => h) (Or.inl ⟨by rfl, ?_⟩) (by assumption) ?_
  rotate_left
  · (intro w hSw; (try dsimp only at hSw); go_simp; try with_reducible rfl)
  try simp only [List.getElem_toArray, List.getElem_cons_zero, List.getElem_cons_succ, Act.put, List.setIfInBounds_toArray, List.set_cons_zero, List.set_cons_succ]
  refine wpAnyH_take (i := 7) (v := .string (strOfNums pd)) rfl (by kernel_rfl) (by kernel_rfl) (by kernel_rfl) (fun _ _ _ h => h) (Or.inl ⟨by rfl, fun W hW => by have c := (Ca.cell_row hW 35).trans H35.out; go_simp⟩) (by assumption) ?_
  try simp only [List.getElem_toArray, List.getElem_cons_zero, List.getElem_cons_succ, Act.put, List.setIfInBounds_toArray, List.set_cons_zero, List.set_cons_succ]
  refine wpAnyH_ready (rs := [2]) (by kernel_rfl) (by simp) ?_
  refine AllReadyH.cons (o := _) rfl (fun K hK => ?_) AllReadyH.nil
  refine step_append_rb (w1 := wb) Try.underlying22 info5 rfl (.tmp 39) (.tmp 40) rfl _ n HB rfl O4.out _ m c1 IB rfl I4.out (by omega) ?_
  intro a5 c5 W5 r5
  have R5 : Hid (W5.heap[w.heap.size]? = some (.cells ps 34 (0, 0))) := (r5.bel.block _ (Ca.lt_of_heap R0.out)).trans R0.out
  have O5 : Hid (RB wb W5 (.slice a5 (n + m) c5) (n + m) (HB ++ IB)) := r5
  clear r5 O4 I4
  refine hK _ _ R5.out (fun hHeld => ?_)
  try simp only [List.getElem_toArray, List.getElem_cons_zero, List.getElem_cons_succ, Act.put, List.setIfInBounds_toArray, List.set_cons_zero, List.set_cons_succ]
  refine wpAnyH_ready (rs := [5]) (by kernel_rfl) (by simp) ?_
  refine AllReadyH.cons (o := _) rfl (fun K hK => ?_) AllReadyH.nil
  refine step_str_rb (w1 := wb) rfl (.tmp 41) (.tmp 43) 9 rfl i0 Try.underlying22 Try.underlying9 hi hz0 hz1 hz2 _ (n + m) (HB ++ IB) rfl O5.out bd fb rfl (by omega) ?_
  intro a6 c6 W6 r6
  have R6 : Hid (W6.heap[w.heap.size]? = some (.cells ps 34 (0, 0))) := (r6.bel.block _ (Ca.lt_of_heap R0.out)).trans R0.out
  have O6 : Hid (RB wb W6 (.slice a6 (n + m + bd.length) c6) (n + m + bd.length) (HB ++ IB ++ bd)) := r6
  clear r6 O5 R5
  refine hK _ _ R6.out (fun hHeld => ?_)
  try simp only [List.getElem_toArray, List.getElem_cons_zero, List.getElem_cons_succ, Act.put, List.setIfInBounds_toArray, List.set_cons_zero, List.set_cons_succ]
  refine wpAnyH_ready (rs := [8]) (by kernel_rfl) (by simp) ?_
  refine AllReadyH.cons (o := _) rfl (fun K hK => ?_) AllReadyH.nil
  refine step_str_rb (w1 := wb) rfl (.tmp 44) (.tmp 46) 9 rfl i0 Try.underlying22 Try.underlying9 hi hz0 hz1 hz2 _ (n + m + bd.length) (HB ++ IB ++ bd) rfl O6.out pd fp rfl (by omega) ?_
  intro a7 c7 W7 r7
  have R7 : Hid (W7.heap[w.heap.size]? = some (.cells ps 34 (0, 0))) := (r7.bel.block _ (Ca.lt_of_heap R0.out)).trans R0.out
  have O7 : Hid (RB w W7 (.slice a7 (n + m + bd.length + pd.length) c7) (n + m + bd.length + pd.length) (HB ++ IB ++ bd ++ pd)) := ⟨own_base r7.own LB.out.size, LB.out.trans (r7.bel.mono LB.out.size)⟩
  clear r7 O6 R6
  refine hK _ _ R7.out (fun hHeld => ?_)
  try simp only [List.getElem_toArray, List.getElem_cons_zero, List.getElem_cons_succ, Act.put, List.setIfInBounds_toArray, List.set_cons_zero, List.set_cons_succ]
  refine wpAnyH_ready (rs := [9]) (by kernel_rfl) (by simp) ?_
  refine AllReadyH.cons (o := _) rfl (fun K hK => ?_) AllReadyH.nil
  go_simp
  refine hK _ _ R7.out (fun hHeld => ?_)
  try simp only [List.getElem_toArray, List.getElem_cons_zero, List.getElem_cons_succ, Act.put, List.setIfInBounds_toArray, List.set_cons_zero, List.set_cons_succ]
  refine wpAnyH_ready (rs := [10]) (by kernel_rfl) (by simp) ?_
  refine AllReadyH.cons (o := _) rfl (fun K hK => ?_) AllReadyH.nil
  go_simp
  refine hK _ _ R7.out (fun hHeld => ?_)
  refine wpAnyH_done (by kernel_rfl) ?_ _
  clear hHeld
  try simp only [List.getElem_toArray, List.getElem_cons_zero, List.getElem_cons_succ, Act.put, List.setIfInBounds_toArray, List.set_cons_zero, List.set_cons_succ]
  go_wp2
  simp only [Exit.jumpTo]
  go_ret2
  exact ⟨a7, c7, rfl, O7.out⟩
end Go.Proofs.Ytpiokeidcnbmbaa

namespace Go.Proofs.Ytpiokeidcnbmbaa
open Go.RowKit
set_option maxRecDepth 20000
set_option linter.unusedSimpArgs false
/-- append of a text to a row of the call's own that is not empty, also where both together take more than 2^47 bytes. -/
theorem append_str_wide {P : Program} (w : World) (base : Nat) (t u ty : TypeId) (i : TypeInfo) (ht : P.underlying t = some (.slice 5)) (hu : P.underlying u = some .string) (hi : P.info? 5 = some i) (hz : i.zero = some (.int .u8 0)) (hsize : i.size = 1) (hby : i.bytes = 1)
    (v : Value) (n : Nat) (xs : List Value) (hown : w.ownsRow base 5 1 v n xs) (hn : 0 < n) (s : ByteArray) (hbig : n + s.size ≤ 211106232532992) (hbase : base ≤ w.heap.size) :
    ∃ v' w', (Builtin.append_ #[t, u] ty #[v, .string s]).run P w = .ok v' w' ∧ w'.ownsRow base 5 1 v' (n + s.size) (xs ++ Lib.strCells s) ∧ w.grownBy w' v.ownBlock := by
  by_cases hc : n + s.size ≤ 140737488355328
  · obtain ⟨v', w', h1, h2, h3, _⟩ := Lib.run_append_own_string (P := P) w base t u ty 5 i ht hu hi hz hsize hby v n xs hown s (by unfold maxLen; omega) hc hbase
    exact ⟨v', w', h1, h2, h3⟩
  have hx : xs.length = n := by simpa using hown.1
  have hs := Lib.strCells_length s
  have hall : (xs ++ Lib.strCells s).length = (n + s.size) * 1 := by simp [hx, hs]
  rcases hown.2 with ⟨_, h0⟩ | ⟨g, cap, cur, rfl, k1, k2, k3, k4, k5, k6⟩
  · omega
  have k5' : cur.size = cap := by simpa using k5
  have k6' : cur.toList.take n = xs := by simpa using k6
  by_cases hr : n + s.size ≤ cap
  · have run := Lib.run_append_room_string (P := P) w t u ty 5 i ht hu hi hsize g n cap cur k2 s hr (by omega)
    refine ⟨_, _, run, ⟨hall, .inr ⟨g, cap, _, rfl, k1, setRow_heap w g cur _ 5 _ k2, hr, k4, ?_, ?_⟩⟩, rfl, rfl, rfl, by simp, fun k _ hk => setRow_other w g k _ (fun e => hk (by simp [Value.ownBlock, e]))⟩
    · simp only [List.size_toArray, List.length_append, List.length_take, List.length_drop, Array.length_toList, hs]
      omega
    · rw [k6', ← hall]
      exact List.take_left
  · have hm : n + s.size ≤ maxLen := by unfold maxLen; omega
    have run := Lib.run_append_grow_string (P := P) w t u ty 5 i (.int .u8 0) ht hu hi hz ⟨g, 0, none⟩ n cap xs (by rw [hsize]; omega) (hown.cells (g := g) rfl) s (by omega) (by omega) (by rw [hby]; exact growslice_fits_wide (by omega) (by omega))
    have c1 := grownCap_ge w (n + s.size) cap 5
    have c2 := grownCap_le_maxLen w (n + s.size) cap 5 hm
    refine ⟨_, _, run, ⟨hall, .inr ⟨w.heap.size, _, _, rfl, hbase, heap_alloc_new w.drew _, c1, c2, ?_, ?_⟩⟩, rfl, rfl, rfl, by simp, fun k hk _ => heap_alloc_old w.drew _ hk⟩
    · have one : (Value.int IntKind.u8 0).cells.size = 1 := rfl
      simp only [Array.size_append, List.size_toArray, size_zeroCells, one, hx, hs]
      omega
    · simp only [Array.toList_append, List.append_assoc]
      rw [← List.append_assoc, ← hall]
      exact List.take_left
theorem BS.grown {W W' : World} {a : Option Addr} {m : Nat} {zs : List Int} {r : Option Nat} (h : BS W a m zs) (hg : W.grownBy W' r) (hne : ∀ x k, a = some x → r = some k → x.block ≠ k) : BS W' a m zs := by
  refine ⟨h.len, h.fits, h.room, ?_⟩
  rcases h.cells with h0 | ⟨b, off, rfl, hc⟩
  · exact .inl h0
  · refine .inr ⟨b, off, rfl, fun i hi => ?_⟩
    have hb := hg.block b (cell_lt (hc i hi)) (fun e => hne _ _ rfl e.symm rfl)
    rw [← hc i hi]
    unfold World.cell?
    rw [hb]
theorem step_str_wide {P : Program} {w1 w : World} {ops : Array Oper} {o : Oper} {act : Act} {K : Act → World → Prop} {Q : Exit → Act → World → Prop} {E : Prop} (hgd : o.guard = none) (s x : Operand) (u : TypeId)
    (ho : o.op = .call { callee := .builtin .append, args := #[s, x], argTypes := #[22, u] })
    (i : TypeInfo) (ht : P.underlying 22 = some (.slice 5)) (hu : P.underlying u = some .string) (hi : P.info? 5 = some i) (hz : i.zero = some (.int .u8 0)) (hsize : i.size = 1) (hby : i.bytes = 1)
    (v : Value) (n : Nat) (xs : List Int) (hs : act.eval s = v) (hr : RB w1 w v n xs) (hn : 0 < n)
    (os : List Int) (hf : ∀ i, 0 ≤ os.getD i 0 ∧ os.getD i 0 ≤ 255) (hx : act.eval x = .string (strOfNums os)) (hsum : n + os.length ≤ 211106232532992)
    (h : ∀ a' cap' w', RB w1 w' (.slice a' (n + os.length) cap') (n + os.length) (xs ++ os) → K (act.put o.dst (.slice a' (n + os.length) cap')) w') :
    if Region.wanted o (yielded ops act.tmps) = true then Oper.wp P o act w K Q else E := by
  have hw : Region.wanted o (yielded ops act.tmps) = true := by simp [Region.wanted, hgd]
  rw [if_pos hw]
  have hsz := strOfNums_size os
  obtain ⟨v', w', hrun, h2, h3⟩ := append_str_wide (P := P) w w1.heap.size 22 u o.type i ht hu hi hz hsize hby v n _ hr.own hn (strOfNums os) (by rw [hsz]; omega) hr.bel.size
  rw [hsz, strCells_nums hf, ← List.map_append] at h2
  obtain ⟨a', cap', rfl, _⟩ := own_form h2
  unfold Oper.wp execOp
  simp only [ho, resolve, invoke, builtin, Sem.run_bind, Sem.run_pure, Result.andThen_ok, List.map_toArray, List.map_cons, List.map_nil, hs, hx, hrun]
  exact h a' cap' w' (rb_step hr h2 h3)
set_option maxHeartbeats 2000000 in
theorem rprint_form (ps : Array Value) (hs : ps.size = 36) (w : World)
    (HF : Hid (∀ W, Calls Try.prog 31 #[.agg ps] W fun e w' => e = .returned (.bool false) ∧ Below W.heap.size W w')) :
    Calls Try.prog 12 #[.agg ps] w fun e w' => e = .returned (.tuple #[.slice none 0 0, .int .i64 1]) ∧ Below w.heap.size w w' := by
  have HS : Hid (ps.size = 36) := hs
  clear hs
  obtain ⟨wb, hwb⟩ : ∃ V, w.alloc (.cells ps 34) = V := ⟨_, rfl⟩
  have R0 : Hid (wb.heap[w.heap.size]? = some (.cells ps 34 (0, 0))) := by show _ = _; rw [← hwb]; exact heap_alloc_new w _
  have LB : Hid (Below w.heap.size w wb) := by show Below _ _ _; rw [← hwb]; exact below1 w _
  have HWB : Hid (w.alloc (.cells ps 34) = wb) := hwb
  clear hwb
  go_enter Try.func12, Try.ntmps12
  go_wp2_with (refine wpList_load_row rfl 34 _ rfl (w.heap.size) rfl 34 ps (0, 0) _ (heap_alloc_new w _) Try.underlying34 rfl (info36 HS.out) ?_)
  refine (HF.out _).mono ?_
  rintro e W1 ⟨rfl, hb⟩
  rw [HWB.out] at hb
  have B1 : Hid (Below wb.heap.size wb W1) := hb
  have R1 : Hid (W1.heap[w.heap.size]? = some (.cells ps 34 (0, 0))) := (hb.block _ (Ca.lt_of_heap R0.out)).trans R0.out
  clear hb HF
  go_wp2_with fail
  go_ret2
  exact ⟨rfl, LB.out.trans (B1.out.mono LB.out.size)⟩
set_option maxHeartbeats 2000000 in
theorem rprint_head (ps : Array Value) (hs : ps.size = 36) (d s tag et : Int) (tg : Bool) (hE : ps.extract 0 (0 + 5) = #[.int .u64 d, .int .u64 s, .bool tg, .int .i64 tag, .int .i64 et]) (f : Int) (hf : (f != 0) = true) (w : World)
    (HF : Hid (∀ W, Calls Try.prog 31 #[.agg ps] W fun e w' => e = .returned (.bool true) ∧ Below W.heap.size W w'))
    (HH : Hid (∀ W, Calls Try.prog 32 #[.agg #[.int .u64 d, .int .u64 s, .bool tg, .int .i64 tag, .int .i64 et]] W fun e w' => e = .returned (.tuple #[.slice none 0 0, .int .i64 f]) ∧ Below W.heap.size W w')) :
    Calls Try.prog 12 #[.agg ps] w fun e w' => e = .returned (.tuple #[.slice none 0 0, .int .i64 f]) ∧ Below w.heap.size w w' := by
  have h9E : (ps.extract 0 (0 + 5)).size = 5 := by rw [hE]; rfl
  have HS : Hid (ps.size = 36) := hs
  clear hs
  obtain ⟨wb, hwb⟩ : ∃ V, w.alloc (.cells ps 34) = V := ⟨_, rfl⟩
  have R0 : Hid (wb.heap[w.heap.size]? = some (.cells ps 34 (0, 0))) := by show _ = _; rw [← hwb]; exact heap_alloc_new w _
  have LB : Hid (Below w.heap.size w wb) := by show Below _ _ _; rw [← hwb]; exact below1 w _
  have HWB : Hid (w.alloc (.cells ps 34) = wb) := hwb
  clear hwb
  go_enter Try.func12, Try.ntmps12
  go_wp2_with (refine wpList_load_row rfl 34 _ rfl (w.heap.size) rfl 34 ps (0, 0) _ (heap_alloc_new w _) Try.underlying34 rfl (info36 HS.out) ?_)
  refine (HF.out _).mono ?_
  rintro e W1 ⟨rfl, hb⟩
  rw [HWB.out] at hb
  have B1 : Hid (Below wb.heap.size wb W1) := hb
  have R1 : Hid (W1.heap[w.heap.size]? = some (.cells ps 34 (0, 0))) := (hb.block _ (Ca.lt_of_heap R0.out)).trans R0.out
  clear hb HF
  go_wp2_with (refine Ca.wpList_load_at rfl 25 _ rfl (w.heap.size) 0 5 rfl ps 34 _ R1.out Try.underlying25 rfl h9E (by kernel_rfl) ?_; rw [hE])
  refine (HH.out _).mono ?_
  rintro e W2 ⟨rfl, hb⟩
  have B2 : Hid (Below wb.heap.size wb W2) := B1.out.trans (hb.mono B1.out.size)
  clear hb HH R1 B1
  go_wp2_with fail
  go_ret2
  exact ⟨rfl, LB.out.trans (B2.out.mono LB.out.size)⟩
set_option maxHeartbeats 2000000 in
theorem rprint_arpbad (ps : Array Value) (hs : ps.size = 36) (d s tag et : Int) (tg : Bool) (hE : ps.extract 0 (0 + 5) = #[.int .u64 d, .int .u64 s, .bool tg, .int .i64 tag, .int .i64 et]) (op sha spa tha tpa : Int) (hA : ps.extract 6 (6 + 5) = #[.int .i64 op, .int .u64 sha, .int .u32 spa, .int .u64 tha, .int .u32 tpa]) (h5 : ps[5]? = some (.bool true)) (n : Nat) (HB : List Int) (f : Int) (hf : (f != 0) = true) (w : World)
    (HF : Hid (∀ W, Calls Try.prog 31 #[.agg ps] W fun e w' => e = .returned (.bool true) ∧ Below W.heap.size W w'))
    (HH : Hid (∀ W, Calls Try.prog 32 #[.agg #[.int .u64 d, .int .u64 s, .bool tg, .int .i64 tag, .int .i64 et]] W fun e w' => ∃ a cap, e = .returned (.tuple #[.slice a n cap, .int .i64 0]) ∧ RB W w' (.slice a n cap) n HB))
    (HA : Hid (∀ W, Calls Try.prog 33 #[.agg #[.int .i64 op, .int .u64 sha, .int .u32 spa, .int .u64 tha, .int .u32 tpa]] W fun e w' => e = .returned (.tuple #[.slice none 0 0, .int .i64 f]) ∧ Below W.heap.size W w')) :
    Calls Try.prog 12 #[.agg ps] w fun e w' => e = .returned (.tuple #[.slice none 0 0, .int .i64 f]) ∧ Below w.heap.size w w' := by
  have h9E : (ps.extract 0 (0 + 5)).size = 5 := by rw [hE]; rfl
  have h9A : (ps.extract 6 (6 + 5)).size = 5 := by rw [hA]; rfl
  have H5 : Hid (ps[5]? = some (.bool true)) := h5
  clear h5
  have HS : Hid (ps.size = 36) := hs
  clear hs
  obtain ⟨wb, hwb⟩ : ∃ V, w.alloc (.cells ps 34) = V := ⟨_, rfl⟩
  have R0 : Hid (wb.heap[w.heap.size]? = some (.cells ps 34 (0, 0))) := by show _ = _; rw [← hwb]; exact heap_alloc_new w _
  have LB : Hid (Below w.heap.size w wb) := by show Below _ _ _; rw [← hwb]; exact below1 w _
  have HWB : Hid (w.alloc (.cells ps 34) = wb) := hwb
  clear hwb
  go_enter Try.func12, Try.ntmps12
  go_wp2_with (refine wpList_load_row rfl 34 _ rfl (w.heap.size) rfl 34 ps (0, 0) _ (heap_alloc_new w _) Try.underlying34 rfl (info36 HS.out) ?_)
  refine (HF.out _).mono ?_
  rintro e W1 ⟨rfl, hb⟩
  rw [HWB.out] at hb
  have B1 : Hid (Below wb.heap.size wb W1) := hb
  have R1 : Hid (W1.heap[w.heap.size]? = some (.cells ps 34 (0, 0))) := (hb.block _ (Ca.lt_of_heap R0.out)).trans R0.out
  clear hb HF
  go_wp2_with (refine Ca.wpList_load_at rfl 25 _ rfl (w.heap.size) 0 5 rfl ps 34 _ R1.out Try.underlying25 rfl h9E (by kernel_rfl) ?_; rw [hE])
  refine (HH.out _).mono ?_
  rintro e W2 ⟨a0, c0, rfl, r2⟩
  have B2 : Hid (Below wb.heap.size wb W2) := B1.out.trans (r2.bel.mono B1.out.size)
  have R2 : Hid (W2.heap[w.heap.size]? = some (.cells ps 34 (0, 0))) := (r2.bel.block _ (Ca.lt_of_heap R1.out)).trans R1.out
  have O2 : Hid (RB wb W2 (.slice a0 n c0) n HB) := ⟨own_base r2.own B1.out.size, B2.out⟩
  clear r2 HH R1 B1
  have c5x := (Ca.cell_row R2.out 5).trans H5.out
  go_wp2_with (refine Ca.wpList_load_at rfl 28 _ rfl (w.heap.size) 6 5 rfl ps 34 _ R2.out Try.underlying28 rfl h9A (by kernel_rfl) ?_; rw [hA])
  refine (HA.out _).mono ?_
  rintro e W3 ⟨rfl, hb⟩
  have B3 : Hid (Below wb.heap.size wb W3) := B2.out.trans (hb.mono B2.out.size)
  clear hb HA R2 B2 O2 c5x
  go_wp2_with fail
  go_ret2
  exact ⟨rfl, LB.out.trans (B3.out.mono LB.out.size)⟩
set_option maxHeartbeats 2000000 in
theorem rprint_l4bad (ps : Array Value) (hs : ps.size = 36) (d s tag et : Int) (tg : Bool) (hE : ps.extract 0 (0 + 5) = #[.int .u64 d, .int .u64 s, .bool tg, .int .i64 tag, .int .i64 et]) (tos id fr ttl pr src dst : Int) (io : List Int) (k ty co re sp dp : Int) (ns : Bool) (sq ak fl wi ur : Int) (lo ds : List Int) (hI : ps.extract 12 (12 + 8) = #[.int .i64 tos, .int .i64 id, .int .i64 fr, .int .i64 ttl, .int .i64 pr, .int .u32 src, .int .u32 dst, .string (strOfNums io)]) (hL : ps.extract 20 (20 + 14) = #[.int .i64 k, .int .i64 ty, .int .i64 co, .int .u32 re, .int .i64 sp, .int .i64 dp, .bool ns, .int .u32 sq, .int .u32 ak, .int .i64 fl, .int .i64 wi, .int .i64 ur, .string (strOfNums lo), .string (strOfNums ds)]) (h5 : ps[5]? = some (.bool false)) (h11 : ps[11]? = some (.bool true)) (h17 : ps[17]? = some (.int .u32 src)) (h18 : ps[18]? = some (.int .u32 dst)) (n : Nat) (HB : List Int) (f : Int) (hf : (f != 0) = true) (w : World)
    (HF : Hid (∀ W, Calls Try.prog 31 #[.agg ps] W fun e w' => e = .returned (.bool true) ∧ Below W.heap.size W w'))
    (HH : Hid (∀ W, Calls Try.prog 32 #[.agg #[.int .u64 d, .int .u64 s, .bool tg, .int .i64 tag, .int .i64 et]] W fun e w' => ∃ a cap, e = .returned (.tuple #[.slice a n cap, .int .i64 0]) ∧ RB W w' (.slice a n cap) n HB))
    (HL : Hid (∀ W, Calls Try.prog 34 #[.int .u32 src, .int .u32 dst, .agg #[.int .i64 k, .int .i64 ty, .int .i64 co, .int .u32 re, .int .i64 sp, .int .i64 dp, .bool ns, .int .u32 sq, .int .u32 ak, .int .i64 fl, .int .i64 wi, .int .i64 ur, .string (strOfNums lo), .string (strOfNums ds)]] W fun e w' => e = .returned (.tuple #[.slice none 0 0, .int .i64 f]) ∧ Below W.heap.size W w')) :
    Calls Try.prog 12 #[.agg ps] w fun e w' => e = .returned (.tuple #[.slice none 0 0, .int .i64 f]) ∧ Below w.heap.size w w' := by
  have h9E : (ps.extract 0 (0 + 5)).size = 5 := by rw [hE]; rfl
  have h9I : (ps.extract 12 (12 + 8)).size = 8 := by rw [hI]; rfl
  have h9L : (ps.extract 20 (20 + 14)).size = 14 := by rw [hL]; rfl
  have H5 : Hid (ps[5]? = some (.bool false)) := h5
  have H11 : Hid (ps[11]? = some (.bool true)) := h11
  have H17 : Hid (ps[17]? = some (.int .u32 src)) := h17
  have H18 : Hid (ps[18]? = some (.int .u32 dst)) := h18
  clear h5 h11 h17 h18
  have HS : Hid (ps.size = 36) := hs
  clear hs
  obtain ⟨wb, hwb⟩ : ∃ V, w.alloc (.cells ps 34) = V := ⟨_, rfl⟩
  have R0 : Hid (wb.heap[w.heap.size]? = some (.cells ps 34 (0, 0))) := by show _ = _; rw [← hwb]; exact heap_alloc_new w _
  have LB : Hid (Below w.heap.size w wb) := by show Below _ _ _; rw [← hwb]; exact below1 w _
  have HWB : Hid (w.alloc (.cells ps 34) = wb) := hwb
  clear hwb
  go_enter Try.func12, Try.ntmps12
  go_wp2_with (refine wpList_load_row rfl 34 _ rfl (w.heap.size) rfl 34 ps (0, 0) _ (heap_alloc_new w _) Try.underlying34 rfl (info36 HS.out) ?_)
  refine (HF.out _).mono ?_
  rintro e W1 ⟨rfl, hb⟩
  rw [HWB.out] at hb
  have B1 : Hid (Below wb.heap.size wb W1) := hb
  have R1 : Hid (W1.heap[w.heap.size]? = some (.cells ps 34 (0, 0))) := (hb.block _ (Ca.lt_of_heap R0.out)).trans R0.out
  clear hb HF
  go_wp2_with (refine Ca.wpList_load_at rfl 25 _ rfl (w.heap.size) 0 5 rfl ps 34 _ R1.out Try.underlying25 rfl h9E (by kernel_rfl) ?_; rw [hE])
  refine (HH.out _).mono ?_
  rintro e W2 ⟨a0, c0, rfl, r2⟩
  have B2 : Hid (Below wb.heap.size wb W2) := B1.out.trans (r2.bel.mono B1.out.size)
  have R2 : Hid (W2.heap[w.heap.size]? = some (.cells ps 34 (0, 0))) := (r2.bel.block _ (Ca.lt_of_heap R1.out)).trans R1.out
  have O2 : Hid (RB wb W2 (.slice a0 n c0) n HB) := ⟨own_base r2.own B1.out.size, B2.out⟩
  clear r2 HH R1 B1
  have c5x := (Ca.cell_row R2.out 5).trans H5.out
  have c11x := (Ca.cell_row R2.out 11).trans H11.out
  have c17x := (Ca.cell_row R2.out 17).trans H17.out
  have c18x := (Ca.cell_row R2.out 18).trans H18.out
  go_wp2_with (refine Ca.wpList_load_at rfl 32 _ rfl (w.heap.size) 20 14 rfl ps 34 _ R2.out Try.underlying32 rfl h9L (by kernel_rfl) ?_; rw [hL])
  refine (HL.out _).mono ?_
  rintro e W3 ⟨rfl, hb⟩
  have B3 : Hid (Below wb.heap.size wb W3) := B2.out.trans (hb.mono B2.out.size)
  clear hb HL R2 B2 O2 c5x c11x c17x c18x
  go_wp2_with fail
  go_ret2
  exact ⟨rfl, LB.out.trans (B3.out.mono LB.out.size)⟩
set_option maxHeartbeats 2000000 in
theorem rprint_ipbad (ps : Array Value) (hs : ps.size = 36) (d s tag et : Int) (tg : Bool) (hE : ps.extract 0 (0 + 5) = #[.int .u64 d, .int .u64 s, .bool tg, .int .i64 tag, .int .i64 et]) (tos id fr ttl pr src dst : Int) (io : List Int) (k ty co re sp dp : Int) (ns : Bool) (sq ak fl wi ur : Int) (lo ds : List Int) (hI : ps.extract 12 (12 + 8) = #[.int .i64 tos, .int .i64 id, .int .i64 fr, .int .i64 ttl, .int .i64 pr, .int .u32 src, .int .u32 dst, .string (strOfNums io)]) (hL : ps.extract 20 (20 + 14) = #[.int .i64 k, .int .i64 ty, .int .i64 co, .int .u32 re, .int .i64 sp, .int .i64 dp, .bool ns, .int .u32 sq, .int .u32 ak, .int .i64 fl, .int .i64 wi, .int .i64 ur, .string (strOfNums lo), .string (strOfNums ds)]) (h5 : ps[5]? = some (.bool false)) (h11 : ps[11]? = some (.bool true)) (h17 : ps[17]? = some (.int .u32 src)) (h18 : ps[18]? = some (.int .u32 dst)) (n m : Nat) (HB DB : List Int) (f : Int) (hf : (f != 0) = true) (w : World)
    (HF : Hid (∀ W, Calls Try.prog 31 #[.agg ps] W fun e w' => e = .returned (.bool true) ∧ Below W.heap.size W w'))
    (HH : Hid (∀ W, Calls Try.prog 32 #[.agg #[.int .u64 d, .int .u64 s, .bool tg, .int .i64 tag, .int .i64 et]] W fun e w' => ∃ a cap, e = .returned (.tuple #[.slice a n cap, .int .i64 0]) ∧ RB W w' (.slice a n cap) n HB))
    (HL : Hid (∀ W, Calls Try.prog 34 #[.int .u32 src, .int .u32 dst, .agg #[.int .i64 k, .int .i64 ty, .int .i64 co, .int .u32 re, .int .i64 sp, .int .i64 dp, .bool ns, .int .u32 sq, .int .u32 ak, .int .i64 fl, .int .i64 wi, .int .i64 ur, .string (strOfNums lo), .string (strOfNums ds)]] W fun e w' => ∃ a cap, e = .returned (.tuple #[.slice a m cap, .int .i64 0]) ∧ BS w' a m DB ∧ FrA W a ∧ Below W.heap.size W w'))
    (HP : Hid (∀ W, Calls Try.prog 35 #[.agg #[.int .i64 tos, .int .i64 id, .int .i64 fr, .int .i64 ttl, .int .i64 pr, .int .u32 src, .int .u32 dst, .string (strOfNums io)], .int .i64 m] W fun e w' => e = .returned (.tuple #[.slice none 0 0, .int .i64 f]) ∧ Below W.heap.size W w')) :
    Calls Try.prog 12 #[.agg ps] w fun e w' => e = .returned (.tuple #[.slice none 0 0, .int .i64 f]) ∧ Below w.heap.size w w' := by
  have h9E : (ps.extract 0 (0 + 5)).size = 5 := by rw [hE]; rfl
  have h9I : (ps.extract 12 (12 + 8)).size = 8 := by rw [hI]; rfl
  have h9L : (ps.extract 20 (20 + 14)).size = 14 := by rw [hL]; rfl
  have H5 : Hid (ps[5]? = some (.bool false)) := h5
  have H11 : Hid (ps[11]? = some (.bool true)) := h11
  have H17 : Hid (ps[17]? = some (.int .u32 src)) := h17
  have H18 : Hid (ps[18]? = some (.int .u32 dst)) := h18
  clear h5 h11 h17 h18
  have HS : Hid (ps.size = 36) := hs
  clear hs
  obtain ⟨wb, hwb⟩ : ∃ V, w.alloc (.cells ps 34) = V := ⟨_, rfl⟩
  have R0 : Hid (wb.heap[w.heap.size]? = some (.cells ps 34 (0, 0))) := by show _ = _; rw [← hwb]; exact heap_alloc_new w _
  have LB : Hid (Below w.heap.size w wb) := by show Below _ _ _; rw [← hwb]; exact below1 w _
  have HWB : Hid (w.alloc (.cells ps 34) = wb) := hwb
  clear hwb
  go_enter Try.func12, Try.ntmps12
  go_wp2_with (refine wpList_load_row rfl 34 _ rfl (w.heap.size) rfl 34 ps (0, 0) _ (heap_alloc_new w _) Try.underlying34 rfl (info36 HS.out) ?_)
  refine (HF.out _).mono ?_
  rintro e W1 ⟨rfl, hb⟩
  rw [HWB.out] at hb
  have B1 : Hid (Below wb.heap.size wb W1) := hb
  have R1 : Hid (W1.heap[w.heap.size]? = some (.cells ps 34 (0, 0))) := (hb.block _ (Ca.lt_of_heap R0.out)).trans R0.out
  clear hb HF
  go_wp2_with (refine Ca.wpList_load_at rfl 25 _ rfl (w.heap.size) 0 5 rfl ps 34 _ R1.out Try.underlying25 rfl h9E (by kernel_rfl) ?_; rw [hE])
  refine (HH.out _).mono ?_
  rintro e W2 ⟨a0, c0, rfl, r2⟩
  have B2 : Hid (Below wb.heap.size wb W2) := B1.out.trans (r2.bel.mono B1.out.size)
  have R2 : Hid (W2.heap[w.heap.size]? = some (.cells ps 34 (0, 0))) := (r2.bel.block _ (Ca.lt_of_heap R1.out)).trans R1.out
  have O2 : Hid (RB wb W2 (.slice a0 n c0) n HB) := ⟨own_base r2.own B1.out.size, B2.out⟩
  clear r2 HH R1 B1
  have c5x := (Ca.cell_row R2.out 5).trans H5.out
  have c11x := (Ca.cell_row R2.out 11).trans H11.out
  have c17x := (Ca.cell_row R2.out 17).trans H17.out
  have c18x := (Ca.cell_row R2.out 18).trans H18.out
  go_wp2_with (refine Ca.wpList_load_at rfl 32 _ rfl (w.heap.size) 20 14 rfl ps 34 _ R2.out Try.underlying32 rfl h9L (by kernel_rfl) ?_; rw [hL])
  refine (HL.out _).mono ?_
  rintro e W3 ⟨a1, c1, rfl, b1, fr, hb⟩
  have B3 : Hid (Below wb.heap.size wb W3) := B2.out.trans (hb.mono B2.out.size)
  have F3 : Hid (∀ x k, a1 = some x → (Value.slice a0 n c0).ownBlock = some k → x.block ≠ k) := fun x k hx hk => by
    have h1 := fr x hx
    have h2 := (World.ownsRow.lt O2.out.own k hk).2
    omega
  have R3 : Hid (W3.heap[w.heap.size]? = some (.cells ps 34 (0, 0))) := (hb.block _ (Ca.lt_of_heap R2.out)).trans R2.out
  have O3 : Hid (RB wb W3 (.slice a0 n c0) n HB) := ⟨own_below O2.out.own hb, B3.out⟩
  have D3 : Hid (BS W3 a1 m DB) := b1
  clear hb b1 fr HL R2 B2 O2 c5x c11x c17x c18x
  go_wp2_with (refine Ca.wpList_load_at rfl 30 _ rfl (w.heap.size) 12 8 rfl ps 34 _ R3.out Try.underlying30 rfl h9I (by kernel_rfl) ?_; rw [hI])
  refine (HP.out _).mono ?_
  rintro e W4 ⟨rfl, hb⟩
  have B4 : Hid (Below wb.heap.size wb W4) := B3.out.trans (hb.mono B3.out.size)
  clear hb HP R3 B3 O3 D3
  go_wp2_with fail
  go_ret2
  exact ⟨rfl, LB.out.trans (B4.out.mono LB.out.size)⟩
set_option maxHeartbeats 4000000 in
theorem rprint_plain (ps : Array Value) (hs : ps.size = 36) (d s tag et : Int) (tg : Bool) (hE : ps.extract 0 (0 + 5) = #[.int .u64 d, .int .u64 s, .bool tg, .int .i64 tag, .int .i64 et]) (bd pd : List Int) (fb : ∀ i, 0 ≤ bd.getD i 0 ∧ bd.getD i 0 ≤ 255) (fp : ∀ i, 0 ≤ pd.getD i 0 ∧ pd.getD i 0 ≤ 255) (h5 : ps[5]? = some (.bool false)) (h11 : ps[11]? = some (.bool false)) (h34 : ps[34]? = some (.string (strOfNums bd))) (h35 : ps[35]? = some (.string (strOfNums pd))) (n : Nat) (HB : List Int) (hlen : n + bd.length + pd.length ≤ 9018) (w : World)
    (HF : Hid (∀ W, Calls Try.prog 31 #[.agg ps] W fun e w' => e = .returned (.bool true) ∧ Below W.heap.size W w'))
    (HH : Hid (∀ W, Calls Try.prog 32 #[.agg #[.int .u64 d, .int .u64 s, .bool tg, .int .i64 tag, .int .i64 et]] W fun e w' => ∃ a cap, e = .returned (.tuple #[.slice a n cap, .int .i64 0]) ∧ RB W w' (.slice a n cap) n HB)) :
    Calls Try.prog 12 #[.agg ps] w fun e w' => ∃ a cap, e = .returned (.tuple #[.slice a (n + bd.length + pd.length) cap, .int .i64 0]) ∧ RB w w' (.slice a (n + bd.length + pd.length) cap) (n + bd.length + pd.length) (HB ++ bd ++ pd) := by
  obtain ⟨i0, hi, hz0, hz1, hz2⟩ := info_parts info5
  have hb1 := strOfNums_size bd
  have hb2 := strOfNums_size pd
  have hI0 : (n : Int) + bd.length + pd.length ≤ 9018 := by omega
  have h9E : (ps.extract 0 (0 + 5)).size = 5 := by rw [hE]; rfl
  have H5 : Hid (ps[5]? = some (.bool false)) := h5
  have H11 : Hid (ps[11]? = some (.bool false)) := h11
  have H34 : Hid (ps[34]? = some (.string (strOfNums bd))) := h34
  have H35 : Hid (ps[35]? = some (.string (strOfNums pd))) := h35
  clear h5 h11 h34 h35
  have HS : Hid (ps.size = 36) := hs
  clear hs
  obtain ⟨wb, hwb⟩ : ∃ V, w.alloc (.cells ps 34) = V := ⟨_, rfl⟩
  have R0 : Hid (wb.heap[w.heap.size]? = some (.cells ps 34 (0, 0))) := by show _ = _; rw [← hwb]; exact heap_alloc_new w _
  have LB : Hid (Below w.heap.size w wb) := by show Below _ _ _; rw [← hwb]; exact below1 w _
  have HWB : Hid (w.alloc (.cells ps 34) = wb) := hwb
  clear hwb
  go_enter Try.func12, Try.ntmps12
  go_wp2_with (refine wpList_load_row rfl 34 _ rfl (w.heap.size) rfl 34 ps (0, 0) _ (heap_alloc_new w _) Try.underlying34 rfl (info36 HS.out) ?_)
  refine (HF.out _).mono ?_
  rintro e W1 ⟨rfl, hb⟩
  rw [HWB.out] at hb
  have B1 : Hid (Below wb.heap.size wb W1) := hb
  have R1 : Hid (W1.heap[w.heap.size]? = some (.cells ps 34 (0, 0))) := (hb.block _ (Ca.lt_of_heap R0.out)).trans R0.out
  clear hb HF
  go_wp2_with (refine Ca.wpList_load_at rfl 25 _ rfl (w.heap.size) 0 5 rfl ps 34 _ R1.out Try.underlying25 rfl h9E (by kernel_rfl) ?_; rw [hE])
  refine (HH.out _).mono ?_
  rintro e W2 ⟨a0, c0, rfl, r2⟩
  have B2 : Hid (Below wb.heap.size wb W2) := B1.out.trans (r2.bel.mono B1.out.size)
  have R2 : Hid (W2.heap[w.heap.size]? = some (.cells ps 34 (0, 0))) := (r2.bel.block _ (Ca.lt_of_heap R1.out)).trans R1.out
  have O2 : Hid (RB wb W2 (.slice a0 n c0) n HB) := ⟨own_base r2.own B1.out.size, B2.out⟩
  clear r2 HH R1 B1
  have c5x := (Ca.cell_row R2.out 5).trans H5.out
  have c11x := (Ca.cell_row R2.out 11).trans H11.out
  go_wp2_with fail
  clear c5x c11x
  refine wp_region_held_drew (S := (fun W => W.heap[w.heap.size]? = some (.cells ps 34 (0, 0)))) (by kernel_rfl) R2.out (fun hHeld => ?_)
  have Ot : Hid (RB wb W2.drew (.slice a0 (n) c0) (n) (HB)) := O2.out.drew
  obtain ⟨Wt, hWt⟩ : ∃ V, W2.drew = V := ⟨_, rfl⟩
  rw [hWt] at Ot hHeld ⊢
  clear hWt R2 O2
  refine wpAnyH_take (i := 0) (v := ?_) rfl (by kernel_rfl) (by kernel_rfl) (by kernel_rfl) (fun _ _ _ h => h) (Or.inl ⟨by rfl, ?_⟩) (by assumption) ?_
  rotate_left
  · (intro w hSw; (try dsimp only at hSw); go_simp; try with_reducible rfl)
  try simp only [List.getElem_toArray, List.getElem_cons_zero, List.getElem_cons_succ, Act.put, List.setIfInBounds_toArray, List.set_cons_zero, List.set_cons_succ]
  refine wpAnyH_take (i := 1) (v := ?_) rfl (by kernel_rfl) (by kernel_rfl) (by kernel_rfl) (fun _ _ _ h => h) (Or.inl ⟨by rfl, ?_⟩) (by assumption) ?_
  rotate_left
  · (intro w hSw; (try dsimp only at hSw); go_simp; try with_reducible rfl)
  try simp only [List.getElem_toArray, List.getElem_cons_zero, List.getElem_cons_succ, Act.put, List.setIfInBounds_toArray, List.set_cons_zero, List.set_cons_succ]
  refine wpAnyH_take (i := 2) (v := .string (strOfNums bd)) rfl (by kernel_rfl) (by kernel_rfl) (by kernel_rfl) (fun _ _ _ h => h) (Or.inl ⟨by rfl, fun W hW => by have c := (Ca.cell_row hW 34).trans H34.out; go_simp⟩) (by assumption) ?_
  try simp only [List.getElem_toArray, List.getElem_cons_zero, List.getElem_cons_succ, Act.put, List.setIfInBounds_toArray, List.set_cons_zero, List.set_cons_succ]
  refine wpAnyH_take (i := 4) (v := ?_) rfl (by kernel_rfl) (by kernel_rfl) (by kernel_rfl) (fun _ _ _ h => h) (Or.inl ⟨by rfl, ?_⟩) (by assumption) ?_
  rotate_left
  · (intro w hSw; (try dsimp only at hSw); go_simp; try with_reducible rfl)
  try simp only [List.getElem_toArray, List.getElem_cons_zero, List.getElem_cons_succ, Act.put, List.setIfInBounds_toArray, List.set_cons_zero, List.set_cons_succ]
  refine wpAnyH_take (i := 5) (v := .string (strOfNums pd)) rfl (by kernel_rfl) (by kernel_rfl) (by kernel_rfl) (fun _ _ _ h => h) (Or.inl ⟨by rfl, fun W hW => by have c := (Ca.cell_row hW 35).trans H35.out; go_simp⟩) (by assumption) ?_
  try simp only [List.getElem_toArray, List.getElem_cons_zero, List.getElem_cons_succ, Act.put, List.setIfInBounds_toArray, List.set_cons_zero, List.set_cons_succ]
  refine wpAnyH_ready (rs := [3]) (by kernel_rfl) (by simp) ?_
  refine AllReadyH.cons (o := _) rfl (fun K hK => ?_) AllReadyH.nil
  refine step_str_rb (w1 := wb) rfl (.tmp 70) (.tmp 72) 9 rfl i0 Try.underlying22 Try.underlying9 hi hz0 hz1 hz2 _ (n) (HB) rfl Ot.out bd fb rfl (by omega) ?_
  intro a6 c6 W6 r6
  have R6 : Hid (W6.heap[w.heap.size]? = some (.cells ps 34 (0, 0))) := (r6.bel.block _ (Ca.lt_of_heap R0.out)).trans R0.out
  have O6 : Hid (RB wb W6 (.slice a6 (n + bd.length) c6) (n + bd.length) (HB ++ bd)) := r6
  clear r6 Ot
  refine hK _ _ R6.out (fun hHeld => ?_)
  try simp only [List.getElem_toArray, List.getElem_cons_zero, List.getElem_cons_succ, Act.put, List.setIfInBounds_toArray, List.set_cons_zero, List.set_cons_succ]
  refine wpAnyH_ready (rs := [6]) (by kernel_rfl) (by simp) ?_
  refine AllReadyH.cons (o := _) rfl (fun K hK => ?_) AllReadyH.nil
  refine step_str_rb (w1 := wb) rfl (.tmp 73) (.tmp 75) 9 rfl i0 Try.underlying22 Try.underlying9 hi hz0 hz1 hz2 _ (n + bd.length) (HB ++ bd) rfl O6.out pd fp rfl (by omega) ?_
  intro a7 c7 W7 r7
  have R7 : Hid (W7.heap[w.heap.size]? = some (.cells ps 34 (0, 0))) := (r7.bel.block _ (Ca.lt_of_heap R0.out)).trans R0.out
  have B7 : Hid (Below wb.heap.size wb W7) := r7.bel
  have O7 : Hid (RB w W7 (.slice a7 (n + bd.length + pd.length) c7) (n + bd.length + pd.length) (HB ++ bd ++ pd)) := ⟨own_base r7.own LB.out.size, LB.out.trans (r7.bel.mono LB.out.size)⟩
  clear r7 O6 R6
  refine hK _ _ R7.out (fun hHeld => ?_)
  try simp only [List.getElem_toArray, List.getElem_cons_zero, List.getElem_cons_succ, Act.put, List.setIfInBounds_toArray, List.set_cons_zero, List.set_cons_succ]
  refine wpAnyH_ready (rs := [7]) (by kernel_rfl) (by simp) ?_
  refine AllReadyH.cons (o := _) rfl (fun K hK => ?_) AllReadyH.nil
  go_simp
  refine hK _ _ R7.out (fun hHeld => ?_)
  refine wpAnyH_done (by kernel_rfl) ?_ _
  clear hHeld
  try simp only [List.getElem_toArray, List.getElem_cons_zero, List.getElem_cons_succ, Act.put, List.setIfInBounds_toArray, List.set_cons_zero, List.set_cons_succ]
  go_wp2_with fail
  go_ret2
  exact ⟨a7, c7, rfl, O7.out⟩
set_option maxHeartbeats 4000000 in
theorem rprint_arp (ps : Array Value) (hs : ps.size = 36) (d s tag et : Int) (tg : Bool) (hE : ps.extract 0 (0 + 5) = #[.int .u64 d, .int .u64 s, .bool tg, .int .i64 tag, .int .i64 et]) (op sha spa tha tpa : Int) (hA : ps.extract 6 (6 + 5) = #[.int .i64 op, .int .u64 sha, .int .u32 spa, .int .u64 tha, .int .u32 tpa]) (bd pd : List Int) (fb : ∀ i, 0 ≤ bd.getD i 0 ∧ bd.getD i 0 ≤ 255) (fp : ∀ i, 0 ≤ pd.getD i 0 ∧ pd.getD i 0 ≤ 255) (h5 : ps[5]? = some (.bool true)) (h11 : ps[11]? = some (.bool false)) (h34 : ps[34]? = some (.string (strOfNums bd))) (h35 : ps[35]? = some (.string (strOfNums pd))) (n : Nat) (HB AB : List Int) (hlen : n + 28 + bd.length + pd.length ≤ 9018) (w : World)
    (HF : Hid (∀ W, Calls Try.prog 31 #[.agg ps] W fun e w' => e = .returned (.bool true) ∧ Below W.heap.size W w'))
    (HH : Hid (∀ W, Calls Try.prog 32 #[.agg #[.int .u64 d, .int .u64 s, .bool tg, .int .i64 tag, .int .i64 et]] W fun e w' => ∃ a cap, e = .returned (.tuple #[.slice a n cap, .int .i64 0]) ∧ RB W w' (.slice a n cap) n HB))
    (HA : Hid (∀ W, Calls Try.prog 33 #[.agg #[.int .i64 op, .int .u64 sha, .int .u32 spa, .int .u64 tha, .int .u32 tpa]] W fun e w' => ∃ a cap, e = .returned (.tuple #[.slice a 28 cap, .int .i64 0]) ∧ BS w' a 28 AB ∧ Below W.heap.size W w')) :
    Calls Try.prog 12 #[.agg ps] w fun e w' => ∃ a cap, e = .returned (.tuple #[.slice a (n + 28 + bd.length + pd.length) cap, .int .i64 0]) ∧ RB w w' (.slice a (n + 28 + bd.length + pd.length) cap) (n + 28 + bd.length + pd.length) (HB ++ AB ++ bd ++ pd) := by
  obtain ⟨i0, hi, hz0, hz1, hz2⟩ := info_parts info5
  have hb1 := strOfNums_size bd
  have hb2 := strOfNums_size pd
  have hI0 : (n : Int) + 28 + bd.length + pd.length ≤ 9018 := by omega
  have h9E : (ps.extract 0 (0 + 5)).size = 5 := by rw [hE]; rfl
  have h9A : (ps.extract 6 (6 + 5)).size = 5 := by rw [hA]; rfl
  have H5 : Hid (ps[5]? = some (.bool true)) := h5
  have H11 : Hid (ps[11]? = some (.bool false)) := h11
  have H34 : Hid (ps[34]? = some (.string (strOfNums bd))) := h34
  have H35 : Hid (ps[35]? = some (.string (strOfNums pd))) := h35
  clear h5 h11 h34 h35
  have HS : Hid (ps.size = 36) := hs
  clear hs
  obtain ⟨wb, hwb⟩ : ∃ V, w.alloc (.cells ps 34) = V := ⟨_, rfl⟩
  have R0 : Hid (wb.heap[w.heap.size]? = some (.cells ps 34 (0, 0))) := by show _ = _; rw [← hwb]; exact heap_alloc_new w _
  have LB : Hid (Below w.heap.size w wb) := by show Below _ _ _; rw [← hwb]; exact below1 w _
  have HWB : Hid (w.alloc (.cells ps 34) = wb) := hwb
  clear hwb
  go_enter Try.func12, Try.ntmps12
  go_wp2_with (refine wpList_load_row rfl 34 _ rfl (w.heap.size) rfl 34 ps (0, 0) _ (heap_alloc_new w _) Try.underlying34 rfl (info36 HS.out) ?_)
  refine (HF.out _).mono ?_
  rintro e W1 ⟨rfl, hb⟩
  rw [HWB.out] at hb
  have B1 : Hid (Below wb.heap.size wb W1) := hb
  have R1 : Hid (W1.heap[w.heap.size]? = some (.cells ps 34 (0, 0))) := (hb.block _ (Ca.lt_of_heap R0.out)).trans R0.out
  clear hb HF
  go_wp2_with (refine Ca.wpList_load_at rfl 25 _ rfl (w.heap.size) 0 5 rfl ps 34 _ R1.out Try.underlying25 rfl h9E (by kernel_rfl) ?_; rw [hE])
  refine (HH.out _).mono ?_
  rintro e W2 ⟨a0, c0, rfl, r2⟩
  have B2 : Hid (Below wb.heap.size wb W2) := B1.out.trans (r2.bel.mono B1.out.size)
  have R2 : Hid (W2.heap[w.heap.size]? = some (.cells ps 34 (0, 0))) := (r2.bel.block _ (Ca.lt_of_heap R1.out)).trans R1.out
  have O2 : Hid (RB wb W2 (.slice a0 n c0) n HB) := ⟨own_base r2.own B1.out.size, B2.out⟩
  clear r2 HH R1 B1
  have c5x := (Ca.cell_row R2.out 5).trans H5.out
  go_wp2_with (refine Ca.wpList_load_at rfl 28 _ rfl (w.heap.size) 6 5 rfl ps 34 _ R2.out Try.underlying28 rfl h9A (by kernel_rfl) ?_; rw [hA])
  refine (HA.out _).mono ?_
  rintro e W3 ⟨a1, c1, rfl, b1, hb⟩
  have B3 : Hid (Below wb.heap.size wb W3) := B2.out.trans (hb.mono B2.out.size)
  have O3 : Hid (RB wb W3 (.slice a0 n c0) n HB) := ⟨own_below O2.out.own hb, B3.out⟩
  have D3 : Hid (BS W3 a1 28 AB) := b1
  clear hb b1 HA R2 B2 O2 c5x
  go_wp2_with (at_builtin; refine wpList_append_rb (w1 := wb) Try.underlying22 info5 rfl (.tmp 34) (.tmp 35) rfl _ _ _ rfl O3.out _ _ c1 _ rfl D3.out (by omega) ?_)
  intro a4 c4 W4 r4
  have R4 : Hid (W4.heap[w.heap.size]? = some (.cells ps 34 (0, 0))) := (r4.bel.block _ (Ca.lt_of_heap R0.out)).trans R0.out
  have O4 : Hid (RB wb W4 (.slice a4 (n + 28) c4) (n + 28) (HB ++ AB)) := r4
  clear r4 O3 D3 B3
  have c11x := (Ca.cell_row R4.out 11).trans H11.out
  go_wp2_with fail
  clear c11x
  refine wp_region_held_drew (S := (fun W => W.heap[w.heap.size]? = some (.cells ps 34 (0, 0)))) (by kernel_rfl) R4.out (fun hHeld => ?_)
  have Ot : Hid (RB wb W4.drew (.slice a4 (n + 28) c4) (n + 28) (HB ++ AB)) := O4.out.drew
  obtain ⟨Wt, hWt⟩ : ∃ V, W4.drew = V := ⟨_, rfl⟩
  rw [hWt] at Ot hHeld ⊢
  clear hWt R4 O4
  refine wpAnyH_take (i := 0) (v := ?_) rfl (by kernel_rfl) (by kernel_rfl) (by kernel_rfl) (fun _ _ _ h => h) (Or.inl ⟨by rfl, ?_⟩) (by assumption) ?_
  rotate_left
  · (intro w hSw; (try dsimp only at hSw); go_simp; try with_reducible rfl)
  try simp only [List.getElem_toArray, List.getElem_cons_zero, List.getElem_cons_succ, Act.put, List.setIfInBounds_toArray, List.set_cons_zero, List.set_cons_succ]
  refine wpAnyH_take (i := 1) (v := ?_) rfl (by kernel_rfl) (by kernel_rfl) (by kernel_rfl) (fun _ _ _ h => h) (Or.inl ⟨by rfl, ?_⟩) (by assumption) ?_
  rotate_left
  · (intro w hSw; (try dsimp only at hSw); go_simp; try with_reducible rfl)
  try simp only [List.getElem_toArray, List.getElem_cons_zero, List.getElem_cons_succ, Act.put, List.setIfInBounds_toArray, List.set_cons_zero, List.set_cons_succ]
  refine wpAnyH_take (i := 2) (v := .string (strOfNums bd)) rfl (by kernel_rfl) (by kernel_rfl) (by kernel_rfl) (fun _ _ _ h => h) (Or.inl ⟨by rfl, fun W hW => by have c := (Ca.cell_row hW 34).trans H34.out; go_simp⟩) (by assumption) ?_
  try simp only [List.getElem_toArray, List.getElem_cons_zero, List.getElem_cons_succ, Act.put, List.setIfInBounds_toArray, List.set_cons_zero, List.set_cons_succ]
  refine wpAnyH_take (i := 4) (v := ?_) rfl (by kernel_rfl) (by kernel_rfl) (by kernel_rfl) (fun _ _ _ h => h) (Or.inl ⟨by rfl, ?_⟩) (by assumption) ?_
  rotate_left
  · (intro w hSw; (try dsimp only at hSw); go_simp; try with_reducible rfl)
  try simp only [List.getElem_toArray, List.getElem_cons_zero, List.getElem_cons_succ, Act.put, List.setIfInBounds_toArray, List.set_cons_zero, List.set_cons_succ]
  refine wpAnyH_take (i := 5) (v := .string (strOfNums pd)) rfl (by kernel_rfl) (by kernel_rfl) (by kernel_rfl) (fun _ _ _ h => h) (Or.inl ⟨by rfl, fun W hW => by have c := (Ca.cell_row hW 35).trans H35.out; go_simp⟩) (by assumption) ?_
  try simp only [List.getElem_toArray, List.getElem_cons_zero, List.getElem_cons_succ, Act.put, List.setIfInBounds_toArray, List.set_cons_zero, List.set_cons_succ]
  refine wpAnyH_ready (rs := [3]) (by kernel_rfl) (by simp) ?_
  refine AllReadyH.cons (o := _) rfl (fun K hK => ?_) AllReadyH.nil
  refine step_str_rb (w1 := wb) rfl (.tmp 70) (.tmp 72) 9 rfl i0 Try.underlying22 Try.underlying9 hi hz0 hz1 hz2 _ (n + 28) (HB ++ AB) rfl Ot.out bd fb rfl (by omega) ?_
  intro a6 c6 W6 r6
  have R6 : Hid (W6.heap[w.heap.size]? = some (.cells ps 34 (0, 0))) := (r6.bel.block _ (Ca.lt_of_heap R0.out)).trans R0.out
  have O6 : Hid (RB wb W6 (.slice a6 (n + 28 + bd.length) c6) (n + 28 + bd.length) (HB ++ AB ++ bd)) := r6
  clear r6 Ot
  refine hK _ _ R6.out (fun hHeld => ?_)
  try simp only [List.getElem_toArray, List.getElem_cons_zero, List.getElem_cons_succ, Act.put, List.setIfInBounds_toArray, List.set_cons_zero, List.set_cons_succ]
  refine wpAnyH_ready (rs := [6]) (by kernel_rfl) (by simp) ?_
  refine AllReadyH.cons (o := _) rfl (fun K hK => ?_) AllReadyH.nil
  refine step_str_rb (w1 := wb) rfl (.tmp 73) (.tmp 75) 9 rfl i0 Try.underlying22 Try.underlying9 hi hz0 hz1 hz2 _ (n + 28 + bd.length) (HB ++ AB ++ bd) rfl O6.out pd fp rfl (by omega) ?_
  intro a7 c7 W7 r7
  have R7 : Hid (W7.heap[w.heap.size]? = some (.cells ps 34 (0, 0))) := (r7.bel.block _ (Ca.lt_of_heap R0.out)).trans R0.out
  have B7 : Hid (Below wb.heap.size wb W7) := r7.bel
  have O7 : Hid (RB w W7 (.slice a7 (n + 28 + bd.length + pd.length) c7) (n + 28 + bd.length + pd.length) (HB ++ AB ++ bd ++ pd)) := ⟨own_base r7.own LB.out.size, LB.out.trans (r7.bel.mono LB.out.size)⟩
  clear r7 O6 R6
  refine hK _ _ R7.out (fun hHeld => ?_)
  try simp only [List.getElem_toArray, List.getElem_cons_zero, List.getElem_cons_succ, Act.put, List.setIfInBounds_toArray, List.set_cons_zero, List.set_cons_succ]
  refine wpAnyH_ready (rs := [7]) (by kernel_rfl) (by simp) ?_
  refine AllReadyH.cons (o := _) rfl (fun K hK => ?_) AllReadyH.nil
  go_simp
  refine hK _ _ R7.out (fun hHeld => ?_)
  refine wpAnyH_done (by kernel_rfl) ?_ _
  clear hHeld
  try simp only [List.getElem_toArray, List.getElem_cons_zero, List.getElem_cons_succ, Act.put, List.setIfInBounds_toArray, List.set_cons_zero, List.set_cons_succ]
  go_wp2_with fail
  go_ret2
  exact ⟨a7, c7, rfl, O7.out⟩
set_option maxHeartbeats 4000000 in
theorem rprint_ip (ps : Array Value) (hs : ps.size = 36) (d s tag et : Int) (tg : Bool) (hE : ps.extract 0 (0 + 5) = #[.int .u64 d, .int .u64 s, .bool tg, .int .i64 tag, .int .i64 et]) (tos id fr ttl pr src dst : Int) (io : List Int) (k ty co re sp dp : Int) (ns : Bool) (sq ak fl wi ur : Int) (lo ds : List Int) (hI : ps.extract 12 (12 + 8) = #[.int .i64 tos, .int .i64 id, .int .i64 fr, .int .i64 ttl, .int .i64 pr, .int .u32 src, .int .u32 dst, .string (strOfNums io)]) (hL : ps.extract 20 (20 + 14) = #[.int .i64 k, .int .i64 ty, .int .i64 co, .int .u32 re, .int .i64 sp, .int .i64 dp, .bool ns, .int .u32 sq, .int .u32 ak, .int .i64 fl, .int .i64 wi, .int .i64 ur, .string (strOfNums lo), .string (strOfNums ds)]) (bd pd : List Int) (fb : ∀ i, 0 ≤ bd.getD i 0 ∧ bd.getD i 0 ≤ 255) (fp : ∀ i, 0 ≤ pd.getD i 0 ∧ pd.getD i 0 ≤ 255) (h5 : ps[5]? = some (.bool false)) (h11 : ps[11]? = some (.bool true)) (h17 : ps[17]? = some (.int .u32 src)) (h18 : ps[18]? = some (.int .u32 dst)) (h34 : ps[34]? = some (.string (strOfNums bd))) (h35 : ps[35]? = some (.string (strOfNums pd))) (n m k9 : Nat) (HB DB IB : List Int) (hlen : n + k9 + m + bd.length + pd.length ≤ 9018) (w : World)
    (HF : Hid (∀ W, Calls Try.prog 31 #[.agg ps] W fun e w' => e = .returned (.bool true) ∧ Below W.heap.size W w'))
    (HH : Hid (∀ W, Calls Try.prog 32 #[.agg #[.int .u64 d, .int .u64 s, .bool tg, .int .i64 tag, .int .i64 et]] W fun e w' => ∃ a cap, e = .returned (.tuple #[.slice a n cap, .int .i64 0]) ∧ RB W w' (.slice a n cap) n HB))
    (HL : Hid (∀ W, Calls Try.prog 34 #[.int .u32 src, .int .u32 dst, .agg #[.int .i64 k, .int .i64 ty, .int .i64 co, .int .u32 re, .int .i64 sp, .int .i64 dp, .bool ns, .int .u32 sq, .int .u32 ak, .int .i64 fl, .int .i64 wi, .int .i64 ur, .string (strOfNums lo), .string (strOfNums ds)]] W fun e w' => ∃ a cap, e = .returned (.tuple #[.slice a m cap, .int .i64 0]) ∧ BS w' a m DB ∧ FrA W a ∧ Below W.heap.size W w'))
    (HP : Hid (∀ W, Calls Try.prog 35 #[.agg #[.int .i64 tos, .int .i64 id, .int .i64 fr, .int .i64 ttl, .int .i64 pr, .int .u32 src, .int .u32 dst, .string (strOfNums io)], .int .i64 m] W fun e w' => ∃ a cap, e = .returned (.tuple #[.slice a k9 cap, .int .i64 0]) ∧ BS w' a k9 IB ∧ Below W.heap.size W w')) :
    Calls Try.prog 12 #[.agg ps] w fun e w' => ∃ a cap, e = .returned (.tuple #[.slice a (n + k9 + m + bd.length + pd.length) cap, .int .i64 0]) ∧ RB w w' (.slice a (n + k9 + m + bd.length + pd.length) cap) (n + k9 + m + bd.length + pd.length) (HB ++ IB ++ DB ++ bd ++ pd) := by
  obtain ⟨i0, hi, hz0, hz1, hz2⟩ := info_parts info5
  have hb1 := strOfNums_size bd
  have hb2 := strOfNums_size pd
  have hI0 : (n : Int) + k9 + m + bd.length + pd.length ≤ 9018 := by omega
  have h9E : (ps.extract 0 (0 + 5)).size = 5 := by rw [hE]; rfl
  have h9I : (ps.extract 12 (12 + 8)).size = 8 := by rw [hI]; rfl
  have h9L : (ps.extract 20 (20 + 14)).size = 14 := by rw [hL]; rfl
  have H5 : Hid (ps[5]? = some (.bool false)) := h5
  have H11 : Hid (ps[11]? = some (.bool true)) := h11
  have H17 : Hid (ps[17]? = some (.int .u32 src)) := h17
  have H18 : Hid (ps[18]? = some (.int .u32 dst)) := h18
  have H34 : Hid (ps[34]? = some (.string (strOfNums bd))) := h34
  have H35 : Hid (ps[35]? = some (.string (strOfNums pd))) := h35
  clear h5 h11 h17 h18 h34 h35
  have HS : Hid (ps.size = 36) := hs
  clear hs
  obtain ⟨wb, hwb⟩ : ∃ V, w.alloc (.cells ps 34) = V := ⟨_, rfl⟩
  have R0 : Hid (wb.heap[w.heap.size]? = some (.cells ps 34 (0, 0))) := by show _ = _; rw [← hwb]; exact heap_alloc_new w _
  have LB : Hid (Below w.heap.size w wb) := by show Below _ _ _; rw [← hwb]; exact below1 w _
  have HWB : Hid (w.alloc (.cells ps 34) = wb) := hwb
  clear hwb
  go_enter Try.func12, Try.ntmps12
  go_wp2_with (refine wpList_load_row rfl 34 _ rfl (w.heap.size) rfl 34 ps (0, 0) _ (heap_alloc_new w _) Try.underlying34 rfl (info36 HS.out) ?_)
  refine (HF.out _).mono ?_
  rintro e W1 ⟨rfl, hb⟩
  rw [HWB.out] at hb
  have B1 : Hid (Below wb.heap.size wb W1) := hb
  have R1 : Hid (W1.heap[w.heap.size]? = some (.cells ps 34 (0, 0))) := (hb.block _ (Ca.lt_of_heap R0.out)).trans R0.out
  clear hb HF
  go_wp2_with (refine Ca.wpList_load_at rfl 25 _ rfl (w.heap.size) 0 5 rfl ps 34 _ R1.out Try.underlying25 rfl h9E (by kernel_rfl) ?_; rw [hE])
  refine (HH.out _).mono ?_
  rintro e W2 ⟨a0, c0, rfl, r2⟩
  have B2 : Hid (Below wb.heap.size wb W2) := B1.out.trans (r2.bel.mono B1.out.size)
  have R2 : Hid (W2.heap[w.heap.size]? = some (.cells ps 34 (0, 0))) := (r2.bel.block _ (Ca.lt_of_heap R1.out)).trans R1.out
  have O2 : Hid (RB wb W2 (.slice a0 n c0) n HB) := ⟨own_base r2.own B1.out.size, B2.out⟩
  clear r2 HH R1 B1
  have c5x := (Ca.cell_row R2.out 5).trans H5.out
  have c11x := (Ca.cell_row R2.out 11).trans H11.out
  have c17x := (Ca.cell_row R2.out 17).trans H17.out
  have c18x := (Ca.cell_row R2.out 18).trans H18.out
  go_wp2_with (refine Ca.wpList_load_at rfl 32 _ rfl (w.heap.size) 20 14 rfl ps 34 _ R2.out Try.underlying32 rfl h9L (by kernel_rfl) ?_; rw [hL])
  refine (HL.out _).mono ?_
  rintro e W3 ⟨a1, c1, rfl, b1, fr, hb⟩
  have B3 : Hid (Below wb.heap.size wb W3) := B2.out.trans (hb.mono B2.out.size)
  have F3 : Hid (∀ x k, a1 = some x → (Value.slice a0 n c0).ownBlock = some k → x.block ≠ k) := fun x k hx hk => by
    have h1 := fr x hx
    have h2 := (World.ownsRow.lt O2.out.own k hk).2
    omega
  have R3 : Hid (W3.heap[w.heap.size]? = some (.cells ps 34 (0, 0))) := (hb.block _ (Ca.lt_of_heap R2.out)).trans R2.out
  have O3 : Hid (RB wb W3 (.slice a0 n c0) n HB) := ⟨own_below O2.out.own hb, B3.out⟩
  have D3 : Hid (BS W3 a1 m DB) := b1
  clear hb b1 fr HL R2 B2 O2 c5x c11x c17x c18x
  go_wp2_with (refine Ca.wpList_load_at rfl 30 _ rfl (w.heap.size) 12 8 rfl ps 34 _ R3.out Try.underlying30 rfl h9I (by kernel_rfl) ?_; rw [hI])
  refine (HP.out _).mono ?_
  rintro e W4 ⟨a2, c2, rfl, b2, hb⟩
  have B4 : Hid (Below wb.heap.size wb W4) := B3.out.trans (hb.mono B3.out.size)
  have O4 : Hid (RB wb W4 (.slice a0 n c0) n HB) := ⟨own_below O3.out.own hb, B4.out⟩
  have D4 : Hid (BS W4 a1 m DB) := D3.out.below hb
  have I4 : Hid (BS W4 a2 k9 IB) := b2
  clear hb b2 HP R3 B3 O3 D3
  go_wp2_with (at_builtin; refine wpList_append_bsa rfl (.tmp 65) (.tmp 66) 22 rfl wb.heap.size 5 i0 Try.underlying22 hi hz0 hz1 hz2 _ _ _ rfl O4.out.own _ _ c2 _ rfl I4.out (by omega) O4.out.bel.size ?_)
  intro a5 c5 W5 o5 g5 _
  have O5 : Hid (RB wb W5 (.slice a5 (n + k9) c5) (n + k9) (HB ++ IB)) := rb_step O4.out (by rw [List.map_append]; exact o5) g5
  have D5 : Hid (BS W5 a1 m DB) := D4.out.grown g5 F3.out
  clear o5 g5 O4 D4 I4 B4 F3
  go_wp2_with (at_builtin; refine wpList_append_rb (w1 := wb) Try.underlying22 info5 rfl (.tmp 67) (.tmp 68) rfl _ _ _ rfl O5.out _ _ c1 _ rfl D5.out (by omega) ?_)
  intro a8 c8 W8 r8
  have R8 : Hid (W8.heap[w.heap.size]? = some (.cells ps 34 (0, 0))) := (r8.bel.block _ (Ca.lt_of_heap R0.out)).trans R0.out
  have O8 : Hid (RB wb W8 (.slice a8 (n + k9 + m) c8) (n + k9 + m) (HB ++ IB ++ DB)) := by show RB _ _ _ _ _; rw [List.append_assoc]; exact r8
  clear r8 O5 D5
  go_wp2_with fail
  refine wp_region_held_drew (S := (fun W => W.heap[w.heap.size]? = some (.cells ps 34 (0, 0)))) (by kernel_rfl) R8.out (fun hHeld => ?_)
  have Ot : Hid (RB wb W8.drew (.slice a8 (n + k9 + m) c8) (n + k9 + m) (HB ++ IB ++ DB)) := O8.out.drew
  obtain ⟨Wt, hWt⟩ : ∃ V, W8.drew = V := ⟨_, rfl⟩
  rw [hWt] at Ot hHeld ⊢
  clear hWt R8 O8
  refine wpAnyH_take (i := 0) (v := ?_) rfl (by kernel_rfl) (by kernel_rfl) (by kernel_rfl) (fun _ _ _ h => h) (Or.inl ⟨by rfl, ?_⟩) (by assumption) ?_
  rotate_left
  · (intro w hSw; (try dsimp only at hSw); go_simp; try with_reducible rfl)
  try simp only [List.getElem_toArray, List.getElem_cons_zero, List.getElem_cons_succ, Act.put, List.setIfInBounds_toArray, List.set_cons_zero, List.set_cons_succ]
  refine wpAnyH_take (i := 1) (v := ?_) rfl (by kernel_rfl) (by kernel_rfl) (by kernel_rfl) (fun _ _ _ h => h) (Or.inl ⟨by rfl, ?_⟩) (by assumption) ?_
  rotate_left
  · (intro w hSw; (try dsimp only at hSw); go_simp; try with_reducible rfl)
  try simp only [List.getElem_toArray, List.getElem_cons_zero, List.getElem_cons_succ, Act.put, List.setIfInBounds_toArray, List.set_cons_zero, List.set_cons_succ]
  refine wpAnyH_take (i := 2) (v := .string (strOfNums bd)) rfl (by kernel_rfl) (by kernel_rfl) (by kernel_rfl) (fun _ _ _ h => h) (Or.inl ⟨by rfl, fun W hW => by have c := (Ca.cell_row hW 34).trans H34.out; go_simp⟩) (by assumption) ?_
  try simp only [List.getElem_toArray, List.getElem_cons_zero, List.getElem_cons_succ, Act.put, List.setIfInBounds_toArray, List.set_cons_zero, List.set_cons_succ]
  refine wpAnyH_take (i := 4) (v := ?_) rfl (by kernel_rfl) (by kernel_rfl) (by kernel_rfl) (fun _ _ _ h => h) (Or.inl ⟨by rfl, ?_⟩) (by assumption) ?_
  rotate_left
  · (intro w hSw; (try dsimp only at hSw); go_simp; try with_reducible rfl)
  try simp only [List.getElem_toArray, List.getElem_cons_zero, List.getElem_cons_succ, Act.put, List.setIfInBounds_toArray, List.set_cons_zero, List.set_cons_succ]
  refine wpAnyH_take (i := 5) (v := .string (strOfNums pd)) rfl (by kernel_rfl) (by kernel_rfl) (by kernel_rfl) (fun _ _ _ h => h) (Or.inl ⟨by rfl, fun W hW => by have c := (Ca.cell_row hW 35).trans H35.out; go_simp⟩) (by assumption) ?_
  try simp only [List.getElem_toArray, List.getElem_cons_zero, List.getElem_cons_succ, Act.put, List.setIfInBounds_toArray, List.set_cons_zero, List.set_cons_succ]
  refine wpAnyH_ready (rs := [3]) (by kernel_rfl) (by simp) ?_
  refine AllReadyH.cons (o := _) rfl (fun K hK => ?_) AllReadyH.nil
  refine step_str_rb (w1 := wb) rfl (.tmp 70) (.tmp 72) 9 rfl i0 Try.underlying22 Try.underlying9 hi hz0 hz1 hz2 _ (n + k9 + m) (HB ++ IB ++ DB) rfl Ot.out bd fb rfl (by omega) ?_
  intro a6 c6 W6 r6
  have R6 : Hid (W6.heap[w.heap.size]? = some (.cells ps 34 (0, 0))) := (r6.bel.block _ (Ca.lt_of_heap R0.out)).trans R0.out
  have O6 : Hid (RB wb W6 (.slice a6 (n + k9 + m + bd.length) c6) (n + k9 + m + bd.length) (HB ++ IB ++ DB ++ bd)) := r6
  clear r6 Ot
  refine hK _ _ R6.out (fun hHeld => ?_)
  try simp only [List.getElem_toArray, List.getElem_cons_zero, List.getElem_cons_succ, Act.put, List.setIfInBounds_toArray, List.set_cons_zero, List.set_cons_succ]
  refine wpAnyH_ready (rs := [6]) (by kernel_rfl) (by simp) ?_
  refine AllReadyH.cons (o := _) rfl (fun K hK => ?_) AllReadyH.nil
  refine step_str_rb (w1 := wb) rfl (.tmp 73) (.tmp 75) 9 rfl i0 Try.underlying22 Try.underlying9 hi hz0 hz1 hz2 _ (n + k9 + m + bd.length) (HB ++ IB ++ DB ++ bd) rfl O6.out pd fp rfl (by omega) ?_
  intro a7 c7 W7 r7
  have R7 : Hid (W7.heap[w.heap.size]? = some (.cells ps 34 (0, 0))) := (r7.bel.block _ (Ca.lt_of_heap R0.out)).trans R0.out
  have B7 : Hid (Below wb.heap.size wb W7) := r7.bel
  have O7 : Hid (RB w W7 (.slice a7 (n + k9 + m + bd.length + pd.length) c7) (n + k9 + m + bd.length + pd.length) (HB ++ IB ++ DB ++ bd ++ pd)) := ⟨own_base r7.own LB.out.size, LB.out.trans (r7.bel.mono LB.out.size)⟩
  clear r7 O6 R6
  refine hK _ _ R7.out (fun hHeld => ?_)
  try simp only [List.getElem_toArray, List.getElem_cons_zero, List.getElem_cons_succ, Act.put, List.setIfInBounds_toArray, List.set_cons_zero, List.set_cons_succ]
  refine wpAnyH_ready (rs := [7]) (by kernel_rfl) (by simp) ?_
  refine AllReadyH.cons (o := _) rfl (fun K hK => ?_) AllReadyH.nil
  go_simp
  refine hK _ _ R7.out (fun hHeld => ?_)
  refine wpAnyH_done (by kernel_rfl) ?_ _
  clear hHeld
  try simp only [List.getElem_toArray, List.getElem_cons_zero, List.getElem_cons_succ, Act.put, List.setIfInBounds_toArray, List.set_cons_zero, List.set_cons_succ]
  go_wp2_with fail
  go_ret2
  exact ⟨a7, c7, rfl, O7.out⟩
set_option maxHeartbeats 4000000 in
theorem rprint_plainL (ps : Array Value) (hs : ps.size = 36) (d s tag et : Int) (tg : Bool) (hE : ps.extract 0 (0 + 5) = #[.int .u64 d, .int .u64 s, .bool tg, .int .i64 tag, .int .i64 et]) (bd pd : List Int) (fb : ∀ i, 0 ≤ bd.getD i 0 ∧ bd.getD i 0 ≤ 255) (fp : ∀ i, 0 ≤ pd.getD i 0 ∧ pd.getD i 0 ≤ 255) (h5 : ps[5]? = some (.bool false)) (h11 : ps[11]? = some (.bool false)) (h34 : ps[34]? = some (.string (strOfNums bd))) (h35 : ps[35]? = some (.string (strOfNums pd))) (n : Nat) (HB : List Int) (hn0 : 0 < n) (hlen : 9018 < n + bd.length + pd.length) (hroom : n + bd.length + pd.length ≤ 211106232532992) (w : World)
    (HF : Hid (∀ W, Calls Try.prog 31 #[.agg ps] W fun e w' => e = .returned (.bool true) ∧ Below W.heap.size W w'))
    (HH : Hid (∀ W, Calls Try.prog 32 #[.agg #[.int .u64 d, .int .u64 s, .bool tg, .int .i64 tag, .int .i64 et]] W fun e w' => ∃ a cap, e = .returned (.tuple #[.slice a n cap, .int .i64 0]) ∧ RB W w' (.slice a n cap) n HB)) :
    Calls Try.prog 12 #[.agg ps] w fun e w' => e = .returned (.tuple #[.slice none 0 0, .int .i64 3]) ∧ Below w.heap.size w w' := by
  obtain ⟨i0, hi, hz0, hz1, hz2⟩ := info_parts info5
  have hb1 := strOfNums_size bd
  have hb2 := strOfNums_size pd
  have hI0 : (9018 : Int) < (n : Int) + bd.length + pd.length := by omega
  have h9E : (ps.extract 0 (0 + 5)).size = 5 := by rw [hE]; rfl
  have H5 : Hid (ps[5]? = some (.bool false)) := h5
  have H11 : Hid (ps[11]? = some (.bool false)) := h11
  have H34 : Hid (ps[34]? = some (.string (strOfNums bd))) := h34
  have H35 : Hid (ps[35]? = some (.string (strOfNums pd))) := h35
  clear h5 h11 h34 h35
  have HS : Hid (ps.size = 36) := hs
  clear hs
  obtain ⟨wb, hwb⟩ : ∃ V, w.alloc (.cells ps 34) = V := ⟨_, rfl⟩
  have R0 : Hid (wb.heap[w.heap.size]? = some (.cells ps 34 (0, 0))) := by show _ = _; rw [← hwb]; exact heap_alloc_new w _
  have LB : Hid (Below w.heap.size w wb) := by show Below _ _ _; rw [← hwb]; exact below1 w _
  have HWB : Hid (w.alloc (.cells ps 34) = wb) := hwb
  clear hwb
  go_enter Try.func12, Try.ntmps12
  go_wp2_with (refine wpList_load_row rfl 34 _ rfl (w.heap.size) rfl 34 ps (0, 0) _ (heap_alloc_new w _) Try.underlying34 rfl (info36 HS.out) ?_)
  refine (HF.out _).mono ?_
  rintro e W1 ⟨rfl, hb⟩
  rw [HWB.out] at hb
  have B1 : Hid (Below wb.heap.size wb W1) := hb
  have R1 : Hid (W1.heap[w.heap.size]? = some (.cells ps 34 (0, 0))) := (hb.block _ (Ca.lt_of_heap R0.out)).trans R0.out
  clear hb HF
  go_wp2_with (refine Ca.wpList_load_at rfl 25 _ rfl (w.heap.size) 0 5 rfl ps 34 _ R1.out Try.underlying25 rfl h9E (by kernel_rfl) ?_; rw [hE])
  refine (HH.out _).mono ?_
  rintro e W2 ⟨a0, c0, rfl, r2⟩
  have B2 : Hid (Below wb.heap.size wb W2) := B1.out.trans (r2.bel.mono B1.out.size)
  have R2 : Hid (W2.heap[w.heap.size]? = some (.cells ps 34 (0, 0))) := (r2.bel.block _ (Ca.lt_of_heap R1.out)).trans R1.out
  have O2 : Hid (RB wb W2 (.slice a0 n c0) n HB) := ⟨own_base r2.own B1.out.size, B2.out⟩
  clear r2 HH R1 B1
  have c5x := (Ca.cell_row R2.out 5).trans H5.out
  have c11x := (Ca.cell_row R2.out 11).trans H11.out
  go_wp2_with fail
  clear c5x c11x
  refine wp_region_held_drew (S := (fun W => W.heap[w.heap.size]? = some (.cells ps 34 (0, 0)))) (by kernel_rfl) R2.out (fun hHeld => ?_)
  have Ot : Hid (RB wb W2.drew (.slice a0 (n) c0) (n) (HB)) := O2.out.drew
  obtain ⟨Wt, hWt⟩ : ∃ V, W2.drew = V := ⟨_, rfl⟩
  rw [hWt] at Ot hHeld ⊢
  clear hWt R2 O2
  refine wpAnyH_take (i := 0) (v := ?_) rfl (by kernel_rfl) (by kernel_rfl) (by kernel_rfl) (fun _ _ _ h => h) (Or.inl ⟨by rfl, ?_⟩) (by assumption) ?_
  rotate_left
  · (intro w hSw; (try dsimp only at hSw); go_simp; try with_reducible rfl)
  try simp only [List.getElem_toArray, List.getElem_cons_zero, List.getElem_cons_succ, Act.put, List.setIfInBounds_toArray, List.set_cons_zero, List.set_cons_succ]
  refine wpAnyH_take (i := 1) (v := ?_) rfl (by kernel_rfl) (by kernel_rfl) (by kernel_rfl) (fun _ _ _ h => h) (Or.inl ⟨by rfl, ?_⟩) (by assumption) ?_
  rotate_left
  · (intro w hSw; (try dsimp only at hSw); go_simp; try with_reducible rfl)
  try simp only [List.getElem_toArray, List.getElem_cons_zero, List.getElem_cons_succ, Act.put, List.setIfInBounds_toArray, List.set_cons_zero, List.set_cons_succ]
  refine wpAnyH_take (i := 2) (v := .string (strOfNums bd)) rfl (by kernel_rfl) (by kernel_rfl) (by kernel_rfl) (fun _ _ _ h => h) (Or.inl ⟨by rfl, fun W hW => by have c := (Ca.cell_row hW 34).trans H34.out; go_simp⟩) (by assumption) ?_
  try simp only [List.getElem_toArray, List.getElem_cons_zero, List.getElem_cons_succ, Act.put, List.setIfInBounds_toArray, List.set_cons_zero, List.set_cons_succ]
  refine wpAnyH_take (i := 4) (v := ?_) rfl (by kernel_rfl) (by kernel_rfl) (by kernel_rfl) (fun _ _ _ h => h) (Or.inl ⟨by rfl, ?_⟩) (by assumption) ?_
  rotate_left
  · (intro w hSw; (try dsimp only at hSw); go_simp; try with_reducible rfl)
  try simp only [List.getElem_toArray, List.getElem_cons_zero, List.getElem_cons_succ, Act.put, List.setIfInBounds_toArray, List.set_cons_zero, List.set_cons_succ]
  refine wpAnyH_take (i := 5) (v := .string (strOfNums pd)) rfl (by kernel_rfl) (by kernel_rfl) (by kernel_rfl) (fun _ _ _ h => h) (Or.inl ⟨by rfl, fun W hW => by have c := (Ca.cell_row hW 35).trans H35.out; go_simp⟩) (by assumption) ?_
  try simp only [List.getElem_toArray, List.getElem_cons_zero, List.getElem_cons_succ, Act.put, List.setIfInBounds_toArray, List.set_cons_zero, List.set_cons_succ]
  refine wpAnyH_ready (rs := [3]) (by kernel_rfl) (by simp) ?_
  refine AllReadyH.cons (o := _) rfl (fun K hK => ?_) AllReadyH.nil
  refine step_str_wide (w1 := wb) rfl (.tmp 70) (.tmp 72) 9 rfl i0 Try.underlying22 Try.underlying9 hi hz0 hz1 hz2 _ (n) (HB) rfl Ot.out (by omega) bd fb rfl (by omega) ?_
  intro a6 c6 W6 r6
  have R6 : Hid (W6.heap[w.heap.size]? = some (.cells ps 34 (0, 0))) := (r6.bel.block _ (Ca.lt_of_heap R0.out)).trans R0.out
  have O6 : Hid (RB wb W6 (.slice a6 (n + bd.length) c6) (n + bd.length) (HB ++ bd)) := r6
  clear r6 Ot
  refine hK _ _ R6.out (fun hHeld => ?_)
  try simp only [List.getElem_toArray, List.getElem_cons_zero, List.getElem_cons_succ, Act.put, List.setIfInBounds_toArray, List.set_cons_zero, List.set_cons_succ]
  refine wpAnyH_ready (rs := [6]) (by kernel_rfl) (by simp) ?_
  refine AllReadyH.cons (o := _) rfl (fun K hK => ?_) AllReadyH.nil
  refine step_str_wide (w1 := wb) rfl (.tmp 73) (.tmp 75) 9 rfl i0 Try.underlying22 Try.underlying9 hi hz0 hz1 hz2 _ (n + bd.length) (HB ++ bd) rfl O6.out (by omega) pd fp rfl (by omega) ?_
  intro a7 c7 W7 r7
  have R7 : Hid (W7.heap[w.heap.size]? = some (.cells ps 34 (0, 0))) := (r7.bel.block _ (Ca.lt_of_heap R0.out)).trans R0.out
  have B7 : Hid (Below wb.heap.size wb W7) := r7.bel
  have O7 : Hid (RB w W7 (.slice a7 (n + bd.length + pd.length) c7) (n + bd.length + pd.length) (HB ++ bd ++ pd)) := ⟨own_base r7.own LB.out.size, LB.out.trans (r7.bel.mono LB.out.size)⟩
  clear r7 O6 R6
  refine hK _ _ R7.out (fun hHeld => ?_)
  try simp only [List.getElem_toArray, List.getElem_cons_zero, List.getElem_cons_succ, Act.put, List.setIfInBounds_toArray, List.set_cons_zero, List.set_cons_succ]
  refine wpAnyH_ready (rs := [7]) (by kernel_rfl) (by simp) ?_
  refine AllReadyH.cons (o := _) rfl (fun K hK => ?_) AllReadyH.nil
  go_simp
  refine hK _ _ R7.out (fun hHeld => ?_)
  refine wpAnyH_done (by kernel_rfl) ?_ _
  clear hHeld
  try simp only [List.getElem_toArray, List.getElem_cons_zero, List.getElem_cons_succ, Act.put, List.setIfInBounds_toArray, List.set_cons_zero, List.set_cons_succ]
  go_wp2_with fail
  go_ret2
  exact ⟨rfl, LB.out.trans (B7.out.mono LB.out.size)⟩
set_option maxHeartbeats 4000000 in
theorem rprint_arpL (ps : Array Value) (hs : ps.size = 36) (d s tag et : Int) (tg : Bool) (hE : ps.extract 0 (0 + 5) = #[.int .u64 d, .int .u64 s, .bool tg, .int .i64 tag, .int .i64 et]) (op sha spa tha tpa : Int) (hA : ps.extract 6 (6 + 5) = #[.int .i64 op, .int .u64 sha, .int .u32 spa, .int .u64 tha, .int .u32 tpa]) (bd pd : List Int) (fb : ∀ i, 0 ≤ bd.getD i 0 ∧ bd.getD i 0 ≤ 255) (fp : ∀ i, 0 ≤ pd.getD i 0 ∧ pd.getD i 0 ≤ 255) (h5 : ps[5]? = some (.bool true)) (h11 : ps[11]? = some (.bool false)) (h34 : ps[34]? = some (.string (strOfNums bd))) (h35 : ps[35]? = some (.string (strOfNums pd))) (n : Nat) (HB AB : List Int) (hn9 : n ≤ 1000) (hn0 : 0 < n) (hlen : 9018 < n + 28 + bd.length + pd.length) (hroom : n + 28 + bd.length + pd.length ≤ 211106232532992) (w : World)
    (HF : Hid (∀ W, Calls Try.prog 31 #[.agg ps] W fun e w' => e = .returned (.bool true) ∧ Below W.heap.size W w'))
    (HH : Hid (∀ W, Calls Try.prog 32 #[.agg #[.int .u64 d, .int .u64 s, .bool tg, .int .i64 tag, .int .i64 et]] W fun e w' => ∃ a cap, e = .returned (.tuple #[.slice a n cap, .int .i64 0]) ∧ RB W w' (.slice a n cap) n HB))
    (HA : Hid (∀ W, Calls Try.prog 33 #[.agg #[.int .i64 op, .int .u64 sha, .int .u32 spa, .int .u64 tha, .int .u32 tpa]] W fun e w' => ∃ a cap, e = .returned (.tuple #[.slice a 28 cap, .int .i64 0]) ∧ BS w' a 28 AB ∧ Below W.heap.size W w')) :
    Calls Try.prog 12 #[.agg ps] w fun e w' => e = .returned (.tuple #[.slice none 0 0, .int .i64 3]) ∧ Below w.heap.size w w' := by
  obtain ⟨i0, hi, hz0, hz1, hz2⟩ := info_parts info5
  have hb1 := strOfNums_size bd
  have hb2 := strOfNums_size pd
  have hI0 : (9018 : Int) < (n : Int) + 28 + bd.length + pd.length := by omega
  have h9E : (ps.extract 0 (0 + 5)).size = 5 := by rw [hE]; rfl
  have h9A : (ps.extract 6 (6 + 5)).size = 5 := by rw [hA]; rfl
  have H5 : Hid (ps[5]? = some (.bool true)) := h5
  have H11 : Hid (ps[11]? = some (.bool false)) := h11
  have H34 : Hid (ps[34]? = some (.string (strOfNums bd))) := h34
  have H35 : Hid (ps[35]? = some (.string (strOfNums pd))) := h35
  clear h5 h11 h34 h35
  have HS : Hid (ps.size = 36) := hs
  clear hs
  obtain ⟨wb, hwb⟩ : ∃ V, w.alloc (.cells ps 34) = V := ⟨_, rfl⟩
  have R0 : Hid (wb.heap[w.heap.size]? = some (.cells ps 34 (0, 0))) := by show _ = _; rw [← hwb]; exact heap_alloc_new w _
  have LB : Hid (Below w.heap.size w wb) := by show Below _ _ _; rw [← hwb]; exact below1 w _
  have HWB : Hid (w.alloc (.cells ps 34) = wb) := hwb
  clear hwb
  go_enter Try.func12, Try.ntmps12
  go_wp2_with (refine wpList_load_row rfl 34 _ rfl (w.heap.size) rfl 34 ps (0, 0) _ (heap_alloc_new w _) Try.underlying34 rfl (info36 HS.out) ?_)
  refine (HF.out _).mono ?_
  rintro e W1 ⟨rfl, hb⟩
  rw [HWB.out] at hb
  have B1 : Hid (Below wb.heap.size wb W1) := hb
  have R1 : Hid (W1.heap[w.heap.size]? = some (.cells ps 34 (0, 0))) := (hb.block _ (Ca.lt_of_heap R0.out)).trans R0.out
  clear hb HF
  go_wp2_with (refine Ca.wpList_load_at rfl 25 _ rfl (w.heap.size) 0 5 rfl ps 34 _ R1.out Try.underlying25 rfl h9E (by kernel_rfl) ?_; rw [hE])
  refine (HH.out _).mono ?_
  rintro e W2 ⟨a0, c0, rfl, r2⟩
  have B2 : Hid (Below wb.heap.size wb W2) := B1.out.trans (r2.bel.mono B1.out.size)
  have R2 : Hid (W2.heap[w.heap.size]? = some (.cells ps 34 (0, 0))) := (r2.bel.block _ (Ca.lt_of_heap R1.out)).trans R1.out
  have O2 : Hid (RB wb W2 (.slice a0 n c0) n HB) := ⟨own_base r2.own B1.out.size, B2.out⟩
  clear r2 HH R1 B1
  have c5x := (Ca.cell_row R2.out 5).trans H5.out
  go_wp2_with (refine Ca.wpList_load_at rfl 28 _ rfl (w.heap.size) 6 5 rfl ps 34 _ R2.out Try.underlying28 rfl h9A (by kernel_rfl) ?_; rw [hA])
  refine (HA.out _).mono ?_
  rintro e W3 ⟨a1, c1, rfl, b1, hb⟩
  have B3 : Hid (Below wb.heap.size wb W3) := B2.out.trans (hb.mono B2.out.size)
  have O3 : Hid (RB wb W3 (.slice a0 n c0) n HB) := ⟨own_below O2.out.own hb, B3.out⟩
  have D3 : Hid (BS W3 a1 28 AB) := b1
  clear hb b1 HA R2 B2 O2 c5x
  go_wp2_with (at_builtin; refine wpList_append_rb (w1 := wb) Try.underlying22 info5 rfl (.tmp 34) (.tmp 35) rfl _ _ _ rfl O3.out _ _ c1 _ rfl D3.out (by omega) ?_)
  intro a4 c4 W4 r4
  have R4 : Hid (W4.heap[w.heap.size]? = some (.cells ps 34 (0, 0))) := (r4.bel.block _ (Ca.lt_of_heap R0.out)).trans R0.out
  have O4 : Hid (RB wb W4 (.slice a4 (n + 28) c4) (n + 28) (HB ++ AB)) := r4
  clear r4 O3 D3 B3
  have c11x := (Ca.cell_row R4.out 11).trans H11.out
  go_wp2_with fail
  clear c11x
  refine wp_region_held_drew (S := (fun W => W.heap[w.heap.size]? = some (.cells ps 34 (0, 0)))) (by kernel_rfl) R4.out (fun hHeld => ?_)
  have Ot : Hid (RB wb W4.drew (.slice a4 (n + 28) c4) (n + 28) (HB ++ AB)) := O4.out.drew
  obtain ⟨Wt, hWt⟩ : ∃ V, W4.drew = V := ⟨_, rfl⟩
  rw [hWt] at Ot hHeld ⊢
  clear hWt R4 O4
  refine wpAnyH_take (i := 0) (v := ?_) rfl (by kernel_rfl) (by kernel_rfl) (by kernel_rfl) (fun _ _ _ h => h) (Or.inl ⟨by rfl, ?_⟩) (by assumption) ?_
  rotate_left
  · (intro w hSw; (try dsimp only at hSw); go_simp; try with_reducible rfl)
  try simp only [List.getElem_toArray, List.getElem_cons_zero, List.getElem_cons_succ, Act.put, List.setIfInBounds_toArray, List.set_cons_zero, List.set_cons_succ]
  refine wpAnyH_take (i := 1) (v := ?_) rfl (by kernel_rfl) (by kernel_rfl) (by kernel_rfl) (fun _ _ _ h => h) (Or.inl ⟨by rfl, ?_⟩) (by assumption) ?_
  rotate_left
  · (intro w hSw; (try dsimp only at hSw); go_simp; try with_reducible rfl)
  try simp only [List.getElem_toArray, List.getElem_cons_zero, List.getElem_cons_succ, Act.put, List.setIfInBounds_toArray, List.set_cons_zero, List.set_cons_succ]
  refine wpAnyH_take (i := 2) (v := .string (strOfNums bd)) rfl (by kernel_rfl) (by kernel_rfl) (by kernel_rfl) (fun _ _ _ h => h) (Or.inl ⟨by rfl, fun W hW => by have c := (Ca.cell_row hW 34).trans H34.out; go_simp⟩) (by assumption) ?_
  try simp only [List.getElem_toArray, List.getElem_cons_zero, List.getElem_cons_succ, Act.put, List.setIfInBounds_toArray, List.set_cons_zero, List.set_cons_succ]
  refine wpAnyH_take (i := 4) (v := ?_) rfl (by kernel_rfl) (by kernel_rfl) (by kernel_rfl) (fun _ _ _ h => h) (Or.inl ⟨by rfl, ?_⟩) (by assumption) ?_
  rotate_left
  · (intro w hSw; (try dsimp only at hSw); go_simp; try with_reducible rfl)
  try simp only [List.getElem_toArray, List.getElem_cons_zero, List.getElem_cons_succ, Act.put, List.setIfInBounds_toArray, List.set_cons_zero, List.set_cons_succ]
  refine wpAnyH_take (i := 5) (v := .string (strOfNums pd)) rfl (by kernel_rfl) (by kernel_rfl) (by kernel_rfl) (fun _ _ _ h => h) (Or.inl ⟨by rfl, fun W hW => by have c := (Ca.cell_row hW 35).trans H35.out; go_simp⟩) (by assumption) ?_
  try simp only [List.getElem_toArray, List.getElem_cons_zero, List.getElem_cons_succ, Act.put, List.setIfInBounds_toArray, List.set_cons_zero, List.set_cons_succ]
  refine wpAnyH_ready (rs := [3]) (by kernel_rfl) (by simp) ?_
  refine AllReadyH.cons (o := _) rfl (fun K hK => ?_) AllReadyH.nil
  refine step_str_wide (w1 := wb) rfl (.tmp 70) (.tmp 72) 9 rfl i0 Try.underlying22 Try.underlying9 hi hz0 hz1 hz2 _ (n + 28) (HB ++ AB) rfl Ot.out (by omega) bd fb rfl (by omega) ?_
  intro a6 c6 W6 r6
  have R6 : Hid (W6.heap[w.heap.size]? = some (.cells ps 34 (0, 0))) := (r6.bel.block _ (Ca.lt_of_heap R0.out)).trans R0.out
  have O6 : Hid (RB wb W6 (.slice a6 (n + 28 + bd.length) c6) (n + 28 + bd.length) (HB ++ AB ++ bd)) := r6
  clear r6 Ot
  refine hK _ _ R6.out (fun hHeld => ?_)
  try simp only [List.getElem_toArray, List.getElem_cons_zero, List.getElem_cons_succ, Act.put, List.setIfInBounds_toArray, List.set_cons_zero, List.set_cons_succ]
  refine wpAnyH_ready (rs := [6]) (by kernel_rfl) (by simp) ?_
  refine AllReadyH.cons (o := _) rfl (fun K hK => ?_) AllReadyH.nil
  refine step_str_wide (w1 := wb) rfl (.tmp 73) (.tmp 75) 9 rfl i0 Try.underlying22 Try.underlying9 hi hz0 hz1 hz2 _ (n + 28 + bd.length) (HB ++ AB ++ bd) rfl O6.out (by omega) pd fp rfl (by omega) ?_
  intro a7 c7 W7 r7
  have R7 : Hid (W7.heap[w.heap.size]? = some (.cells ps 34 (0, 0))) := (r7.bel.block _ (Ca.lt_of_heap R0.out)).trans R0.out
  have B7 : Hid (Below wb.heap.size wb W7) := r7.bel
  have O7 : Hid (RB w W7 (.slice a7 (n + 28 + bd.length + pd.length) c7) (n + 28 + bd.length + pd.length) (HB ++ AB ++ bd ++ pd)) := ⟨own_base r7.own LB.out.size, LB.out.trans (r7.bel.mono LB.out.size)⟩
  clear r7 O6 R6
  refine hK _ _ R7.out (fun hHeld => ?_)
  try simp only [List.getElem_toArray, List.getElem_cons_zero, List.getElem_cons_succ, Act.put, List.setIfInBounds_toArray, List.set_cons_zero, List.set_cons_succ]
  refine wpAnyH_ready (rs := [7]) (by kernel_rfl) (by simp) ?_
  refine AllReadyH.cons (o := _) rfl (fun K hK => ?_) AllReadyH.nil
  go_simp
  refine hK _ _ R7.out (fun hHeld => ?_)
  refine wpAnyH_done (by kernel_rfl) ?_ _
  clear hHeld
  try simp only [List.getElem_toArray, List.getElem_cons_zero, List.getElem_cons_succ, Act.put, List.setIfInBounds_toArray, List.set_cons_zero, List.set_cons_succ]
  go_wp2_with fail
  go_ret2
  exact ⟨rfl, LB.out.trans (B7.out.mono LB.out.size)⟩
set_option maxHeartbeats 4000000 in
theorem rprint_ipL (ps : Array Value) (hs : ps.size = 36) (d s tag et : Int) (tg : Bool) (hE : ps.extract 0 (0 + 5) = #[.int .u64 d, .int .u64 s, .bool tg, .int .i64 tag, .int .i64 et]) (tos id fr ttl pr src dst : Int) (io : List Int) (k ty co re sp dp : Int) (ns : Bool) (sq ak fl wi ur : Int) (lo ds : List Int) (hI : ps.extract 12 (12 + 8) = #[.int .i64 tos, .int .i64 id, .int .i64 fr, .int .i64 ttl, .int .i64 pr, .int .u32 src, .int .u32 dst, .string (strOfNums io)]) (hL : ps.extract 20 (20 + 14) = #[.int .i64 k, .int .i64 ty, .int .i64 co, .int .u32 re, .int .i64 sp, .int .i64 dp, .bool ns, .int .u32 sq, .int .u32 ak, .int .i64 fl, .int .i64 wi, .int .i64 ur, .string (strOfNums lo), .string (strOfNums ds)]) (bd pd : List Int) (fb : ∀ i, 0 ≤ bd.getD i 0 ∧ bd.getD i 0 ≤ 255) (fp : ∀ i, 0 ≤ pd.getD i 0 ∧ pd.getD i 0 ≤ 255) (h5 : ps[5]? = some (.bool false)) (h11 : ps[11]? = some (.bool true)) (h17 : ps[17]? = some (.int .u32 src)) (h18 : ps[18]? = some (.int .u32 dst)) (h34 : ps[34]? = some (.string (strOfNums bd))) (h35 : ps[35]? = some (.string (strOfNums pd))) (n m k9 : Nat) (HB DB IB : List Int) (hn9 : n ≤ 1000) (hm9 : m ≤ 1000000) (hk9 : k9 ≤ 1000) (hn0 : 0 < n) (hlen : 9018 < n + k9 + m + bd.length + pd.length) (hroom : n + k9 + m + bd.length + pd.length ≤ 211106232532992) (w : World)
    (HF : Hid (∀ W, Calls Try.prog 31 #[.agg ps] W fun e w' => e = .returned (.bool true) ∧ Below W.heap.size W w'))
    (HH : Hid (∀ W, Calls Try.prog 32 #[.agg #[.int .u64 d, .int .u64 s, .bool tg, .int .i64 tag, .int .i64 et]] W fun e w' => ∃ a cap, e = .returned (.tuple #[.slice a n cap, .int .i64 0]) ∧ RB W w' (.slice a n cap) n HB))
    (HL : Hid (∀ W, Calls Try.prog 34 #[.int .u32 src, .int .u32 dst, .agg #[.int .i64 k, .int .i64 ty, .int .i64 co, .int .u32 re, .int .i64 sp, .int .i64 dp, .bool ns, .int .u32 sq, .int .u32 ak, .int .i64 fl, .int .i64 wi, .int .i64 ur, .string (strOfNums lo), .string (strOfNums ds)]] W fun e w' => ∃ a cap, e = .returned (.tuple #[.slice a m cap, .int .i64 0]) ∧ BS w' a m DB ∧ FrA W a ∧ Below W.heap.size W w'))
    (HP : Hid (∀ W, Calls Try.prog 35 #[.agg #[.int .i64 tos, .int .i64 id, .int .i64 fr, .int .i64 ttl, .int .i64 pr, .int .u32 src, .int .u32 dst, .string (strOfNums io)], .int .i64 m] W fun e w' => ∃ a cap, e = .returned (.tuple #[.slice a k9 cap, .int .i64 0]) ∧ BS w' a k9 IB ∧ Below W.heap.size W w')) :
    Calls Try.prog 12 #[.agg ps] w fun e w' => e = .returned (.tuple #[.slice none 0 0, .int .i64 3]) ∧ Below w.heap.size w w' := by
  obtain ⟨i0, hi, hz0, hz1, hz2⟩ := info_parts info5
  have hb1 := strOfNums_size bd
  have hb2 := strOfNums_size pd
  have hI0 : (9018 : Int) < (n : Int) + k9 + m + bd.length + pd.length := by omega
  have h9E : (ps.extract 0 (0 + 5)).size = 5 := by rw [hE]; rfl
  have h9I : (ps.extract 12 (12 + 8)).size = 8 := by rw [hI]; rfl
  have h9L : (ps.extract 20 (20 + 14)).size = 14 := by rw [hL]; rfl
  have H5 : Hid (ps[5]? = some (.bool false)) := h5
  have H11 : Hid (ps[11]? = some (.bool true)) := h11
  have H17 : Hid (ps[17]? = some (.int .u32 src)) := h17
  have H18 : Hid (ps[18]? = some (.int .u32 dst)) := h18
  have H34 : Hid (ps[34]? = some (.string (strOfNums bd))) := h34
  have H35 : Hid (ps[35]? = some (.string (strOfNums pd))) := h35
  clear h5 h11 h17 h18 h34 h35
  have HS : Hid (ps.size = 36) := hs
  clear hs
  obtain ⟨wb, hwb⟩ : ∃ V, w.alloc (.cells ps 34) = V := ⟨_, rfl⟩
  have R0 : Hid (wb.heap[w.heap.size]? = some (.cells ps 34 (0, 0))) := by show _ = _; rw [← hwb]; exact heap_alloc_new w _
  have LB : Hid (Below w.heap.size w wb) := by show Below _ _ _; rw [← hwb]; exact below1 w _
  have HWB : Hid (w.alloc (.cells ps 34) = wb) := hwb
  clear hwb
  go_enter Try.func12, Try.ntmps12
  go_wp2_with (refine wpList_load_row rfl 34 _ rfl (w.heap.size) rfl 34 ps (0, 0) _ (heap_alloc_new w _) Try.underlying34 rfl (info36 HS.out) ?_)
  refine (HF.out _).mono ?_
  rintro e W1 ⟨rfl, hb⟩
  rw [HWB.out] at hb
  have B1 : Hid (Below wb.heap.size wb W1) := hb
  have R1 : Hid (W1.heap[w.heap.size]? = some (.cells ps 34 (0, 0))) := (hb.block _ (Ca.lt_of_heap R0.out)).trans R0.out
  clear hb HF
  go_wp2_with (refine Ca.wpList_load_at rfl 25 _ rfl (w.heap.size) 0 5 rfl ps 34 _ R1.out Try.underlying25 rfl h9E (by kernel_rfl) ?_; rw [hE])
  refine (HH.out _).mono ?_
  rintro e W2 ⟨a0, c0, rfl, r2⟩
  have B2 : Hid (Below wb.heap.size wb W2) := B1.out.trans (r2.bel.mono B1.out.size)
  have R2 : Hid (W2.heap[w.heap.size]? = some (.cells ps 34 (0, 0))) := (r2.bel.block _ (Ca.lt_of_heap R1.out)).trans R1.out
  have O2 : Hid (RB wb W2 (.slice a0 n c0) n HB) := ⟨own_base r2.own B1.out.size, B2.out⟩
  clear r2 HH R1 B1
  have c5x := (Ca.cell_row R2.out 5).trans H5.out
  have c11x := (Ca.cell_row R2.out 11).trans H11.out
  have c17x := (Ca.cell_row R2.out 17).trans H17.out
  have c18x := (Ca.cell_row R2.out 18).trans H18.out
  go_wp2_with (refine Ca.wpList_load_at rfl 32 _ rfl (w.heap.size) 20 14 rfl ps 34 _ R2.out Try.underlying32 rfl h9L (by kernel_rfl) ?_; rw [hL])
  refine (HL.out _).mono ?_
  rintro e W3 ⟨a1, c1, rfl, b1, fr, hb⟩
  have B3 : Hid (Below wb.heap.size wb W3) := B2.out.trans (hb.mono B2.out.size)
  have F3 : Hid (∀ x k, a1 = some x → (Value.slice a0 n c0).ownBlock = some k → x.block ≠ k) := fun x k hx hk => by
    have h1 := fr x hx
    have h2 := (World.ownsRow.lt O2.out.own k hk).2
    omega
  have R3 : Hid (W3.heap[w.heap.size]? = some (.cells ps 34 (0, 0))) := (hb.block _ (Ca.lt_of_heap R2.out)).trans R2.out
  have O3 : Hid (RB wb W3 (.slice a0 n c0) n HB) := ⟨own_below O2.out.own hb, B3.out⟩
  have D3 : Hid (BS W3 a1 m DB) := b1
  clear hb b1 fr HL R2 B2 O2 c5x c11x c17x c18x
  go_wp2_with (refine Ca.wpList_load_at rfl 30 _ rfl (w.heap.size) 12 8 rfl ps 34 _ R3.out Try.underlying30 rfl h9I (by kernel_rfl) ?_; rw [hI])
  refine (HP.out _).mono ?_
  rintro e W4 ⟨a2, c2, rfl, b2, hb⟩
  have B4 : Hid (Below wb.heap.size wb W4) := B3.out.trans (hb.mono B3.out.size)
  have O4 : Hid (RB wb W4 (.slice a0 n c0) n HB) := ⟨own_below O3.out.own hb, B4.out⟩
  have D4 : Hid (BS W4 a1 m DB) := D3.out.below hb
  have I4 : Hid (BS W4 a2 k9 IB) := b2
  clear hb b2 HP R3 B3 O3 D3
  go_wp2_with (at_builtin; refine wpList_append_bsa rfl (.tmp 65) (.tmp 66) 22 rfl wb.heap.size 5 i0 Try.underlying22 hi hz0 hz1 hz2 _ _ _ rfl O4.out.own _ _ c2 _ rfl I4.out (by omega) O4.out.bel.size ?_)
  intro a5 c5 W5 o5 g5 _
  have O5 : Hid (RB wb W5 (.slice a5 (n + k9) c5) (n + k9) (HB ++ IB)) := rb_step O4.out (by rw [List.map_append]; exact o5) g5
  have D5 : Hid (BS W5 a1 m DB) := D4.out.grown g5 F3.out
  clear o5 g5 O4 D4 I4 B4 F3
  go_wp2_with (at_builtin; refine wpList_append_rb (w1 := wb) Try.underlying22 info5 rfl (.tmp 67) (.tmp 68) rfl _ _ _ rfl O5.out _ _ c1 _ rfl D5.out (by omega) ?_)
  intro a8 c8 W8 r8
  have R8 : Hid (W8.heap[w.heap.size]? = some (.cells ps 34 (0, 0))) := (r8.bel.block _ (Ca.lt_of_heap R0.out)).trans R0.out
  have O8 : Hid (RB wb W8 (.slice a8 (n + k9 + m) c8) (n + k9 + m) (HB ++ IB ++ DB)) := by show RB _ _ _ _ _; rw [List.append_assoc]; exact r8
  clear r8 O5 D5
  go_wp2_with fail
  refine wp_region_held_drew (S := (fun W => W.heap[w.heap.size]? = some (.cells ps 34 (0, 0)))) (by kernel_rfl) R8.out (fun hHeld => ?_)
  have Ot : Hid (RB wb W8.drew (.slice a8 (n + k9 + m) c8) (n + k9 + m) (HB ++ IB ++ DB)) := O8.out.drew
  obtain ⟨Wt, hWt⟩ : ∃ V, W8.drew = V := ⟨_, rfl⟩
  rw [hWt] at Ot hHeld ⊢
  clear hWt R8 O8
  refine wpAnyH_take (i := 0) (v := ?_) rfl (by kernel_rfl) (by kernel_rfl) (by kernel_rfl) (fun _ _ _ h => h) (Or.inl ⟨by rfl, ?_⟩) (by assumption) ?_
  rotate_left
  · (intro w hSw; (try dsimp only at hSw); go_simp; try with_reducible rfl)
  try simp only [List.getElem_toArray, List.getElem_cons_zero, List.getElem_cons_succ, Act.put, List.setIfInBounds_toArray, List.set_cons_zero, List.set_cons_succ]
  refine wpAnyH_take (i := 1) (v := ?_) rfl (by kernel_rfl) (by kernel_rfl) (by kernel_rfl) (fun _ _ _ h => h) (Or.inl ⟨by rfl, ?_⟩) (by assumption) ?_
  rotate_left
  · (intro w hSw; (try dsimp only at hSw); go_simp; try with_reducible rfl)
  try simp only [List.getElem_toArray, List.getElem_cons_zero, List.getElem_cons_succ, Act.put, List.setIfInBounds_toArray, List.set_cons_zero, List.set_cons_succ]
  refine wpAnyH_take (i := 2) (v := .string (strOfNums bd)) rfl (by kernel_rfl) (by kernel_rfl) (by kernel_rfl) (fun _ _ _ h => h) (Or.inl ⟨by rfl, fun W hW => by have c := (Ca.cell_row hW 34).trans H34.out; go_simp⟩) (by assumption) ?_
  try simp only [List.getElem_toArray, List.getElem_cons_zero, List.getElem_cons_succ, Act.put, List.setIfInBounds_toArray, List.set_cons_zero, List.set_cons_succ]
  refine wpAnyH_take (i := 4) (v := ?_) rfl (by kernel_rfl) (by kernel_rfl) (by kernel_rfl) (fun _ _ _ h => h) (Or.inl ⟨by rfl, ?_⟩) (by assumption) ?_
  rotate_left
  · (intro w hSw; (try dsimp only at hSw); go_simp; try with_reducible rfl)
  try simp only [List.getElem_toArray, List.getElem_cons_zero, List.getElem_cons_succ, Act.put, List.setIfInBounds_toArray, List.set_cons_zero, List.set_cons_succ]
  refine wpAnyH_take (i := 5) (v := .string (strOfNums pd)) rfl (by kernel_rfl) (by kernel_rfl) (by kernel_rfl) (fun _ _ _ h => h) (Or.inl ⟨by rfl, fun W hW => by have c := (Ca.cell_row hW 35).trans H35.out; go_simp⟩) (by assumption) ?_
  try simp only [List.getElem_toArray, List.getElem_cons_zero, List.getElem_cons_succ, Act.put, List.setIfInBounds_toArray, List.set_cons_zero, List.set_cons_succ]
  refine wpAnyH_ready (rs := [3]) (by kernel_rfl) (by simp) ?_
  refine AllReadyH.cons (o := _) rfl (fun K hK => ?_) AllReadyH.nil
  refine step_str_wide (w1 := wb) rfl (.tmp 70) (.tmp 72) 9 rfl i0 Try.underlying22 Try.underlying9 hi hz0 hz1 hz2 _ (n + k9 + m) (HB ++ IB ++ DB) rfl Ot.out (by omega) bd fb rfl (by omega) ?_
  intro a6 c6 W6 r6
  have R6 : Hid (W6.heap[w.heap.size]? = some (.cells ps 34 (0, 0))) := (r6.bel.block _ (Ca.lt_of_heap R0.out)).trans R0.out
  have O6 : Hid (RB wb W6 (.slice a6 (n + k9 + m + bd.length) c6) (n + k9 + m + bd.length) (HB ++ IB ++ DB ++ bd)) := r6
  clear r6 Ot
  refine hK _ _ R6.out (fun hHeld => ?_)
  try simp only [List.getElem_toArray, List.getElem_cons_zero, List.getElem_cons_succ, Act.put, List.setIfInBounds_toArray, List.set_cons_zero, List.set_cons_succ]
  refine wpAnyH_ready (rs := [6]) (by kernel_rfl) (by simp) ?_
  refine AllReadyH.cons (o := _) rfl (fun K hK => ?_) AllReadyH.nil
  refine step_str_wide (w1 := wb) rfl (.tmp 73) (.tmp 75) 9 rfl i0 Try.underlying22 Try.underlying9 hi hz0 hz1 hz2 _ (n + k9 + m + bd.length) (HB ++ IB ++ DB ++ bd) rfl O6.out (by omega) pd fp rfl (by omega) ?_
  intro a7 c7 W7 r7
  have R7 : Hid (W7.heap[w.heap.size]? = some (.cells ps 34 (0, 0))) := (r7.bel.block _ (Ca.lt_of_heap R0.out)).trans R0.out
  have B7 : Hid (Below wb.heap.size wb W7) := r7.bel
  have O7 : Hid (RB w W7 (.slice a7 (n + k9 + m + bd.length + pd.length) c7) (n + k9 + m + bd.length + pd.length) (HB ++ IB ++ DB ++ bd ++ pd)) := ⟨own_base r7.own LB.out.size, LB.out.trans (r7.bel.mono LB.out.size)⟩
  clear r7 O6 R6
  refine hK _ _ R7.out (fun hHeld => ?_)
  try simp only [List.getElem_toArray, List.getElem_cons_zero, List.getElem_cons_succ, Act.put, List.setIfInBounds_toArray, List.set_cons_zero, List.set_cons_succ]
  refine wpAnyH_ready (rs := [7]) (by kernel_rfl) (by simp) ?_
  refine AllReadyH.cons (o := _) rfl (fun K hK => ?_) AllReadyH.nil
  go_simp
  refine hK _ _ R7.out (fun hHeld => ?_)
  refine wpAnyH_done (by kernel_rfl) ?_ _
  clear hHeld
  try simp only [List.getElem_toArray, List.getElem_cons_zero, List.getElem_cons_succ, Act.put, List.setIfInBounds_toArray, List.set_cons_zero, List.set_cons_succ]
  go_wp2_with fail
  go_ret2
  exact ⟨rfl, LB.out.trans (B7.out.mono LB.out.size)⟩
end Go.Proofs.Ytpiokeidcnbmbaa

namespace Go.Proofs.Ytpiokeidcnbmbaa
open Go.RowKit
set_option maxRecDepth 20000
set_option maxHeartbeats 8000000 in
theorem eqEth (d : Int) (s : Int) (tg : Bool) (tag : Int) (et : Int) (d9 : Int) (s9 : Int) (tg9 : Bool) (tag9 : Int) (et9 : Int) (W : World) : (Op.equalIn 9999 25 (.agg #[.int .u64 d, .int .u64 s, .bool tg, .int .i64 tag, .int .i64 et]) (.agg #[.int .u64 d9, .int .u64 s9, .bool tg9, .int .i64 tag9, .int .i64 et9])).run Try.prog W = .ok (d == d9 && s == s9 && tg == tg9 && tag == tag9 && et == et9) W := by
  cases h0 : (d == d9)
  · simp [go_sem, h0]
  cases h1 : (s == s9)
  · simp [go_sem, h0, h1]
  cases h2 : (tg == tg9)
  · simp [go_sem, h0, h1, h2]
  cases h3 : (tag == tag9)
  · simp [go_sem, h0, h1, h2, h3]
  cases h4 : (et == et9)
  · simp [go_sem, h0, h1, h2, h3, h4]
  simp [go_sem, h0, h1, h2, h3, h4]
set_option maxHeartbeats 8000000 in
theorem eqArp (op : Int) (sha : Int) (spa : Int) (tha : Int) (tpa : Int) (op9 : Int) (sha9 : Int) (spa9 : Int) (tha9 : Int) (tpa9 : Int) (W : World) : (Op.equalIn 9999 28 (.agg #[.int .i64 op, .int .u64 sha, .int .u32 spa, .int .u64 tha, .int .u32 tpa]) (.agg #[.int .i64 op9, .int .u64 sha9, .int .u32 spa9, .int .u64 tha9, .int .u32 tpa9])).run Try.prog W = .ok (op == op9 && sha == sha9 && spa == spa9 && tha == tha9 && tpa == tpa9) W := by
  cases h0 : (op == op9)
  · simp [go_sem, h0]
  cases h1 : (sha == sha9)
  · simp [go_sem, h0, h1]
  cases h2 : (spa == spa9)
  · simp [go_sem, h0, h1, h2]
  cases h3 : (tha == tha9)
  · simp [go_sem, h0, h1, h2, h3]
  cases h4 : (tpa == tpa9)
  · simp [go_sem, h0, h1, h2, h3, h4]
  simp [go_sem, h0, h1, h2, h3, h4]
set_option maxHeartbeats 8000000 in
theorem eqIp (tos : Int) (id : Int) (fr : Int) (ttl : Int) (pr : Int) (src : Int) (dst : Int) (io : ByteArray) (tos9 : Int) (id9 : Int) (fr9 : Int) (ttl9 : Int) (pr9 : Int) (src9 : Int) (dst9 : Int) (io9 : ByteArray) (W : World) : (Op.equalIn 9999 30 (.agg #[.int .i64 tos, .int .i64 id, .int .i64 fr, .int .i64 ttl, .int .i64 pr, .int .u32 src, .int .u32 dst, .string io]) (.agg #[.int .i64 tos9, .int .i64 id9, .int .i64 fr9, .int .i64 ttl9, .int .i64 pr9, .int .u32 src9, .int .u32 dst9, .string io9])).run Try.prog W = .ok (tos == tos9 && id == id9 && fr == fr9 && ttl == ttl9 && pr == pr9 && src == src9 && dst == dst9 && io.toList == io9.toList) W := by
  cases h0 : (tos == tos9)
  · simp [go_sem, h0]
  cases h1 : (id == id9)
  · simp [go_sem, h0, h1]
  cases h2 : (fr == fr9)
  · simp [go_sem, h0, h1, h2]
  cases h3 : (ttl == ttl9)
  · simp [go_sem, h0, h1, h2, h3]
  cases h4 : (pr == pr9)
  · simp [go_sem, h0, h1, h2, h3, h4]
  cases h5 : (src == src9)
  · simp [go_sem, h0, h1, h2, h3, h4, h5]
  cases h6 : (dst == dst9)
  · simp [go_sem, h0, h1, h2, h3, h4, h5, h6]
  cases h7 : (io.toList == io9.toList)
  · simp [go_sem, h0, h1, h2, h3, h4, h5, h6, h7]
  simp [go_sem, h0, h1, h2, h3, h4, h5, h6, h7]
set_option maxHeartbeats 8000000 in
theorem eqL4 (k : Int) (ty : Int) (co : Int) (re : Int) (sp : Int) (dp : Int) (ns : Bool) (sq : Int) (ak : Int) (fl : Int) (wi : Int) (ur : Int) (lo : ByteArray) (ds : ByteArray) (k9 : Int) (ty9 : Int) (co9 : Int) (re9 : Int) (sp9 : Int) (dp9 : Int) (ns9 : Bool) (sq9 : Int) (ak9 : Int) (fl9 : Int) (wi9 : Int) (ur9 : Int) (lo9 : ByteArray) (ds9 : ByteArray) (W : World) : (Op.equalIn 9999 32 (.agg #[.int .i64 k, .int .i64 ty, .int .i64 co, .int .u32 re, .int .i64 sp, .int .i64 dp, .bool ns, .int .u32 sq, .int .u32 ak, .int .i64 fl, .int .i64 wi, .int .i64 ur, .string lo, .string ds]) (.agg #[.int .i64 k9, .int .i64 ty9, .int .i64 co9, .int .u32 re9, .int .i64 sp9, .int .i64 dp9, .bool ns9, .int .u32 sq9, .int .u32 ak9, .int .i64 fl9, .int .i64 wi9, .int .i64 ur9, .string lo9, .string ds9])).run Try.prog W = .ok (k == k9 && ty == ty9 && co == co9 && re == re9 && sp == sp9 && dp == dp9 && ns == ns9 && sq == sq9 && ak == ak9 && fl == fl9 && wi == wi9 && ur == ur9 && lo.toList == lo9.toList && ds.toList == ds9.toList) W := by
  cases h0 : (k == k9)
  · simp [go_sem, h0]
  cases h1 : (ty == ty9)
  · simp [go_sem, h0, h1]
  cases h2 : (co == co9)
  · simp [go_sem, h0, h1, h2]
  cases h3 : (re == re9)
  · simp [go_sem, h0, h1, h2, h3]
  cases h4 : (sp == sp9)
  · simp [go_sem, h0, h1, h2, h3, h4]
  cases h5 : (dp == dp9)
  · simp [go_sem, h0, h1, h2, h3, h4, h5]
  cases h6 : (ns == ns9)
  · simp [go_sem, h0, h1, h2, h3, h4, h5, h6]
  cases h7 : (sq == sq9)
  · simp [go_sem, h0, h1, h2, h3, h4, h5, h6, h7]
  cases h8 : (ak == ak9)
  · simp [go_sem, h0, h1, h2, h3, h4, h5, h6, h7, h8]
  cases h9 : (fl == fl9)
  · simp [go_sem, h0, h1, h2, h3, h4, h5, h6, h7, h8, h9]
  cases h10 : (wi == wi9)
  · simp [go_sem, h0, h1, h2, h3, h4, h5, h6, h7, h8, h9, h10]
  cases h11 : (ur == ur9)
  · simp [go_sem, h0, h1, h2, h3, h4, h5, h6, h7, h8, h9, h10, h11]
  cases h12 : (lo.toList == lo9.toList)
  · simp [go_sem, h0, h1, h2, h3, h4, h5, h6, h7, h8, h9, h10, h11, h12]
  cases h13 : (ds.toList == ds9.toList)
  · simp [go_sem, h0, h1, h2, h3, h4, h5, h6, h7, h8, h9, h10, h11, h12, h13]
  simp [go_sem, h0, h1, h2, h3, h4, h5, h6, h7, h8, h9, h10, h11, h12, h13]
set_option maxHeartbeats 8000000 in
theorem eqPacket (d : Int) (s : Int) (tg : Bool) (tag : Int) (et : Int) (ia : Bool) (op : Int) (sha : Int) (spa : Int) (tha : Int) (tpa : Int) (ii : Bool) (tos : Int) (id : Int) (fr : Int) (ttl : Int) (pr : Int) (src : Int) (dst : Int) (io : ByteArray) (k : Int) (ty : Int) (co : Int) (re : Int) (sp : Int) (dp : Int) (ns : Bool) (sq : Int) (ak : Int) (fl : Int) (wi : Int) (ur : Int) (lo : ByteArray) (ds : ByteArray) (bd : ByteArray) (pd : ByteArray) (d9 : Int) (s9 : Int) (tg9 : Bool) (tag9 : Int) (et9 : Int) (ia9 : Bool) (op9 : Int) (sha9 : Int) (spa9 : Int) (tha9 : Int) (tpa9 : Int) (ii9 : Bool) (tos9 : Int) (id9 : Int) (fr9 : Int) (ttl9 : Int) (pr9 : Int) (src9 : Int) (dst9 : Int) (io9 : ByteArray) (k9 : Int) (ty9 : Int) (co9 : Int) (re9 : Int) (sp9 : Int) (dp9 : Int) (ns9 : Bool) (sq9 : Int) (ak9 : Int) (fl9 : Int) (wi9 : Int) (ur9 : Int) (lo9 : ByteArray) (ds9 : ByteArray) (bd9 : ByteArray) (pd9 : ByteArray) (W : World) : (Op.equalIn 10000 34 (.agg #[.int .u64 d, .int .u64 s, .bool tg, .int .i64 tag, .int .i64 et, .bool ia, .int .i64 op, .int .u64 sha, .int .u32 spa, .int .u64 tha, .int .u32 tpa, .bool ii, .int .i64 tos, .int .i64 id, .int .i64 fr, .int .i64 ttl, .int .i64 pr, .int .u32 src, .int .u32 dst, .string io, .int .i64 k, .int .i64 ty, .int .i64 co, .int .u32 re, .int .i64 sp, .int .i64 dp, .bool ns, .int .u32 sq, .int .u32 ak, .int .i64 fl, .int .i64 wi, .int .i64 ur, .string lo, .string ds, .string bd, .string pd]) (.agg #[.int .u64 d9, .int .u64 s9, .bool tg9, .int .i64 tag9, .int .i64 et9, .bool ia9, .int .i64 op9, .int .u64 sha9, .int .u32 spa9, .int .u64 tha9, .int .u32 tpa9, .bool ii9, .int .i64 tos9, .int .i64 id9, .int .i64 fr9, .int .i64 ttl9, .int .i64 pr9, .int .u32 src9, .int .u32 dst9, .string io9, .int .i64 k9, .int .i64 ty9, .int .i64 co9, .int .u32 re9, .int .i64 sp9, .int .i64 dp9, .bool ns9, .int .u32 sq9, .int .u32 ak9, .int .i64 fl9, .int .i64 wi9, .int .i64 ur9, .string lo9, .string ds9, .string bd9, .string pd9])).run Try.prog W = .ok ((d == d9 && s == s9 && tg == tg9 && tag == tag9 && et == et9) && (ia == ia9) && (op == op9 && sha == sha9 && spa == spa9 && tha == tha9 && tpa == tpa9) && (ii == ii9) && (tos == tos9 && id == id9 && fr == fr9 && ttl == ttl9 && pr == pr9 && src == src9 && dst == dst9 && io.toList == io9.toList) && (k == k9 && ty == ty9 && co == co9 && re == re9 && sp == sp9 && dp == dp9 && ns == ns9 && sq == sq9 && ak == ak9 && fl == fl9 && wi == wi9 && ur == ur9 && lo.toList == lo9.toList && ds.toList == ds9.toList) && (bd.toList == bd9.toList) && (pd.toList == pd9.toList)) W := by
  rw [show (10000 : Nat) = 9999 + 1 from rfl, run_equalIn_struct W 9999 34 _ _ (by kernel_rfl) (by kernel_rfl)]
  cases h0 : (d == d9 && s == s9 && tg == tg9 && tag == tag9 && et == et9)
  · simp [go_sem, eqEth, eqArp, eqIp, eqL4, h0]
  cases h1 : (ia == ia9)
  · simp [go_sem, eqEth, eqArp, eqIp, eqL4, h0, h1]
  cases h2 : (op == op9 && sha == sha9 && spa == spa9 && tha == tha9 && tpa == tpa9)
  · simp [go_sem, eqEth, eqArp, eqIp, eqL4, h0, h1, h2]
  cases h3 : (ii == ii9)
  · simp [go_sem, eqEth, eqArp, eqIp, eqL4, h0, h1, h2, h3]
  cases h4 : (tos == tos9 && id == id9 && fr == fr9 && ttl == ttl9 && pr == pr9 && src == src9 && dst == dst9 && io.toList == io9.toList)
  · simp [go_sem, eqEth, eqArp, eqIp, eqL4, h0, h1, h2, h3, h4]
  cases h5 : (k == k9 && ty == ty9 && co == co9 && re == re9 && sp == sp9 && dp == dp9 && ns == ns9 && sq == sq9 && ak == ak9 && fl == fl9 && wi == wi9 && ur == ur9 && lo.toList == lo9.toList && ds.toList == ds9.toList)
  · simp [go_sem, eqEth, eqArp, eqIp, eqL4, h0, h1, h2, h3, h4, h5]
  cases h6 : (bd.toList == bd9.toList)
  · simp [go_sem, eqEth, eqArp, eqIp, eqL4, h0, h1, h2, h3, h4, h5, h6]
  cases h7 : (pd.toList == pd9.toList)
  · simp [go_sem, eqEth, eqArp, eqIp, eqL4, h0, h1, h2, h3, h4, h5, h6, h7]
  simp [go_sem, eqEth, eqArp, eqIp, eqL4, h0, h1, h2, h3, h4, h5, h6, h7]
end Go.Proofs.Ytpiokeidcnbmbaa

namespace Go.Proofs.Ytpiokeidcnbmbaa
open Go.RowKit
set_option maxRecDepth 20000
/-- A packet's numbers. -/
structure PkR where
  d : Int
  s : Int
  tg : Bool
  tag : Int
  et : Int
  ia : Bool
  op : Int
  sha : Int
  spa : Int
  tha : Int
  tpa : Int
  ii : Bool
  tos : Int
  id : Int
  fr : Int
  ttl : Int
  pr : Int
  src : Int
  dst : Int
  io : List Int
  l : L4R
  bd : List Int
  pd : List Int
def PkR.ps (x : PkR) : Array Value := #[.int .u64 x.d, .int .u64 x.s, .bool x.tg, .int .i64 x.tag, .int .i64 x.et, .bool x.ia, .int .i64 x.op, .int .u64 x.sha, .int .u32 x.spa, .int .u64 x.tha, .int .u32 x.tpa, .bool x.ii, .int .i64 x.tos, .int .i64 x.id, .int .i64 x.fr, .int .i64 x.ttl, .int .i64 x.pr, .int .u32 x.src, .int .u32 x.dst, .string (strOfNums x.io), .int .i64 x.l.k, .int .i64 x.l.ty, .int .i64 x.l.co, .int .u32 x.l.re, .int .i64 x.l.sp, .int .i64 x.l.dp, .bool x.l.ns, .int .u32 x.l.sq, .int .u32 x.l.ak, .int .i64 x.l.fl, .int .i64 x.l.wi, .int .i64 x.l.ur, .string (strOfNums x.l.os), .string (strOfNums x.l.ds), .string (strOfNums x.bd), .string (strOfNums x.pd)]
structure PkR.Fine (x : PkR) : Prop where
  d : 0 ≤ x.d ∧ x.d ≤ 18446744073709551615
  s : 0 ≤ x.s ∧ x.s ≤ 18446744073709551615
  sha : 0 ≤ x.sha ∧ x.sha ≤ 18446744073709551615
  tha : 0 ≤ x.tha ∧ x.tha ≤ 18446744073709551615
  spa : 0 ≤ x.spa ∧ x.spa ≤ 4294967295
  tpa : 0 ≤ x.tpa ∧ x.tpa ≤ 4294967295
  src : 0 ≤ x.src ∧ x.src ≤ 4294967295
  dst : 0 ≤ x.dst ∧ x.dst ≤ 4294967295
  io : ∀ i, 0 ≤ x.io.getD i 0 ∧ x.io.getD i 0 ≤ 255
  bd : ∀ i, 0 ≤ x.bd.getD i 0 ∧ x.bd.getD i 0 ≤ 255
  pd : ∀ i, 0 ≤ x.pd.getD i 0 ∧ x.pd.getD i 0 ≤ 255
  iol : x.io.length ≤ 140737488355328
  bdl : x.bd.length ≤ 140737488355328
  pdl : x.pd.length ≤ 140737488355328
  l : x.l.Fine
def PkR.eqB (x y : PkR) : Bool := (x.d == y.d && x.s == y.s && x.tg == y.tg && x.tag == y.tag && x.et == y.et) && (x.ia == y.ia) && (x.op == y.op && x.sha == y.sha && x.spa == y.spa && x.tha == y.tha && x.tpa == y.tpa) && (x.ii == y.ii) && (x.tos == y.tos && x.id == y.id && x.fr == y.fr && x.ttl == y.ttl && x.pr == y.pr && x.src == y.src && x.dst == y.dst && (strOfNums x.io).toList == (strOfNums y.io).toList) && (x.l.k == y.l.k && x.l.ty == y.l.ty && x.l.co == y.l.co && x.l.re == y.l.re && x.l.sp == y.l.sp && x.l.dp == y.l.dp && x.l.ns == y.l.ns && x.l.sq == y.l.sq && x.l.ak == y.l.ak && x.l.fl == y.l.fl && x.l.wi == y.l.wi && x.l.ur == y.l.ur && (strOfNums x.l.os).toList == (strOfNums y.l.os).toList && (strOfNums x.l.ds).toList == (strOfNums y.l.ds).toList) && ((strOfNums x.bd).toList == (strOfNums y.bd).toList) && ((strOfNums x.pd).toList == (strOfNums y.pd).toList)
theorem PkR.eqRun (x y : PkR) (W : World) : (binOp .eql 34 (.agg x.ps) (.agg y.ps)).run Try.prog W = .ok (.bool (x.eqB y)) W := by
  rw [run_eql_struct]
  rw [show (Op.equalIn 10000 34 (.agg x.ps) (.agg y.ps)).run Try.prog W = .ok (x.eqB y) W from eqPacket x.d x.s x.tg x.tag x.et x.ia x.op x.sha x.spa x.tha x.tpa x.ii x.tos x.id x.fr x.ttl x.pr x.src x.dst (strOfNums x.io) x.l.k x.l.ty x.l.co x.l.re x.l.sp x.l.dp x.l.ns x.l.sq x.l.ak x.l.fl x.l.wi x.l.ur (strOfNums x.l.os) (strOfNums x.l.ds) (strOfNums x.bd) (strOfNums x.pd) y.d y.s y.tg y.tag y.et y.ia y.op y.sha y.spa y.tha y.tpa y.ii y.tos y.id y.fr y.ttl y.pr y.src y.dst (strOfNums y.io) y.l.k y.l.ty y.l.co y.l.re y.l.sp y.l.dp y.l.ns y.l.sq y.l.ak y.l.fl y.l.wi y.l.ur (strOfNums y.l.os) (strOfNums y.l.ds) (strOfNums y.bd) (strOfNums y.pd) W]
  rfl
theorem PkR.neqRun (x y : PkR) (W : World) : (binOp .neq 34 (.agg x.ps) (.agg y.ps)).run Try.prog W = .ok (.bool (!(x.eqB y))) W := by
  rw [run_neq_struct]
  rw [show (Op.equalIn 10000 34 (.agg x.ps) (.agg y.ps)).run Try.prog W = .ok (x.eqB y) W from eqPacket x.d x.s x.tg x.tag x.et x.ia x.op x.sha x.spa x.tha x.tpa x.ii x.tos x.id x.fr x.ttl x.pr x.src x.dst (strOfNums x.io) x.l.k x.l.ty x.l.co x.l.re x.l.sp x.l.dp x.l.ns x.l.sq x.l.ak x.l.fl x.l.wi x.l.ur (strOfNums x.l.os) (strOfNums x.l.ds) (strOfNums x.bd) (strOfNums x.pd) y.d y.s y.tg y.tag y.et y.ia y.op y.sha y.spa y.tha y.tpa y.ii y.tos y.id y.fr y.ttl y.pr y.src y.dst (strOfNums y.io) y.l.k y.l.ty y.l.co y.l.re y.l.sp y.l.dp y.l.ns y.l.sq y.l.ak y.l.fl y.l.wi y.l.ur (strOfNums y.l.os) (strOfNums y.l.ds) (strOfNums y.bd) (strOfNums y.pd) W]
  rfl
theorem str_beq {a b : List Int} (ha : ∀ i, 0 ≤ a.getD i 0 ∧ a.getD i 0 ≤ 255) (hb : ∀ i, 0 ≤ b.getD i 0 ∧ b.getD i 0 ≤ 255) (h : ((strOfNums a).toList == (strOfNums b).toList) = true) : a = b := by
  refine Eth.str_inj ha hb ?_
  have h1 := eq_of_beq h
  rw [ByteArray.toList_eq, ByteArray.toList_eq] at h1
  exact ByteArray.ext (Array.toList_inj.1 h1)
theorem PkR.eqB_yes {x y : PkR} (hx : x.Fine) (hy : y.Fine) (h : x.eqB y = true) : x = y := by
  have q1 := hx.io; have q2 := hx.bd; have q3 := hx.pd; have q4 := hx.l.os; have q5 := hx.l.ds
  have p1 := hy.io; have p2 := hy.bd; have p3 := hy.pd; have p4 := hy.l.os; have p5 := hy.l.ds
  obtain ⟨d, s, tg, tag, et, ia, op, sha, spa, tha, tpa, ii, tos, id, fr, ttl, pr, src, dst, io, l, bd, pd⟩ := x
  obtain ⟨d9, s9, tg9, tag9, et9, ia9, op9, sha9, spa9, tha9, tpa9, ii9, tos9, id9, fr9, ttl9, pr9, src9, dst9, io9, l9, bd9, pd9⟩ := y
  obtain ⟨k, ty, co, re, sp, dp, ns, sq, ak, fl, wi, ur, lo, ds⟩ := l
  obtain ⟨k9, ty9, co9, re9, sp9, dp9, ns9, sq9, ak9, fl9, wi9, ur9, lo9, ds9⟩ := l9
  simp only [PkR.eqB, Bool.and_eq_true] at h
  obtain ⟨⟨⟨⟨⟨⟨⟨⟨⟨⟨⟨a1, a2⟩, a3⟩, a4⟩, a5⟩, a6⟩, ⟨⟨⟨⟨b1, b2⟩, b3⟩, b4⟩, b5⟩⟩, a7⟩, ⟨⟨⟨⟨⟨⟨⟨c1, c2⟩, c3⟩, c4⟩, c5⟩, c6⟩, c7⟩, c8⟩⟩, ⟨⟨⟨⟨⟨⟨⟨⟨⟨⟨⟨⟨⟨d1, d2⟩, d3⟩, d4⟩, d5⟩, d6⟩, d7⟩, d8⟩, d9⟩, d10⟩, d11⟩, d12⟩, d13⟩, d14⟩⟩, e1⟩, e2⟩ := h
  obtain rfl := eq_of_beq a1; obtain rfl := eq_of_beq a2; obtain rfl := eq_of_beq a3; obtain rfl := eq_of_beq a4; obtain rfl := eq_of_beq a5; obtain rfl := eq_of_beq a6; obtain rfl := eq_of_beq a7
  obtain rfl := eq_of_beq b1; obtain rfl := eq_of_beq b2; obtain rfl := eq_of_beq b3; obtain rfl := eq_of_beq b4; obtain rfl := eq_of_beq b5
  obtain rfl := eq_of_beq c1; obtain rfl := eq_of_beq c2; obtain rfl := eq_of_beq c3; obtain rfl := eq_of_beq c4; obtain rfl := eq_of_beq c5; obtain rfl := eq_of_beq c6; obtain rfl := eq_of_beq c7
  obtain rfl := eq_of_beq d1; obtain rfl := eq_of_beq d2; obtain rfl := eq_of_beq d3; obtain rfl := eq_of_beq d4; obtain rfl := eq_of_beq d5; obtain rfl := eq_of_beq d6; obtain rfl := eq_of_beq d7; obtain rfl := eq_of_beq d8; obtain rfl := eq_of_beq d9; obtain rfl := eq_of_beq d10; obtain rfl := eq_of_beq d11; obtain rfl := eq_of_beq d12
  obtain rfl := str_beq q1 p1 c8
  obtain rfl := str_beq q2 p2 e1
  obtain rfl := str_beq q3 p3 e2
  obtain rfl := str_beq q4 p4 d13
  obtain rfl := str_beq q5 p5 d14
  rfl
theorem PkR.eqB_self (x : PkR) : x.eqB x = true := by simp [PkR.eqB]
theorem PkR.eqB_no {x y : PkR} (hx : x.Fine) (hy : y.Fine) (h : x ≠ y) : x.eqB y = false := by
  cases g : x.eqB y
  · rfl
  · exact absurd (PkR.eqB_yes hx hy g) h
def zeroPkR : PkR := ⟨0, 0, false, 0, 0, false, 0, 0, 0, 0, 0, false, 0, 0, 0, 0, 0, 0, 0, [], zeroR, [], []⟩
theorem zeroPkR_ps : zeroPkR.ps = zeroPk := by kernel_rfl
theorem zeroR_fine : zeroR.Fine := ⟨by decide, by decide, by decide, fun i => by simp [zeroR], fun i => by simp [zeroR], by decide⟩
theorem zeroPkR_fine : zeroPkR.Fine := ⟨by decide, by decide, by decide, by decide, by decide, by decide, by decide, by decide, fun i => by simp [zeroPkR], fun i => by simp [zeroPkR], fun i => by simp [zeroPkR], by decide, by decide, by decide, zeroR_fine⟩
def PkR.ownP (x : PkR) : PkR := { zeroPkR with d := x.d, s := x.s, tg := x.tg, tag := x.tag, et := x.et, bd := x.bd }
def PkR.ownA (x : PkR) : PkR := { zeroPkR with d := x.d, s := x.s, tg := x.tg, tag := x.tag, et := x.et, ia := true, op := x.op, sha := x.sha, spa := x.spa, tha := x.tha, tpa := x.tpa, pd := x.pd }
def PkR.ownI (x : PkR) : PkR := { zeroPkR with d := x.d, s := x.s, tg := x.tg, tag := x.tag, et := x.et, ii := true, tos := x.tos, id := x.id, fr := x.fr, ttl := x.ttl, pr := x.pr, src := x.src, dst := x.dst, io := x.io, l := { x.l with k := if wholeB x.fr = true then kindV x.pr else 0 }, pd := x.pd }
def PkR.own (x : PkR) : PkR := if x.et = 2054 then x.ownA else if x.et = 2048 then x.ownI else x.ownP
theorem PkR.own_fine {x : PkR} (h : x.Fine) : x.own.Fine := by
  have z := zeroPkR_fine
  unfold PkR.own
  split
  · exact ⟨h.d, h.s, h.sha, h.tha, h.spa, h.tpa, z.src, z.dst, z.io, z.bd, h.pd, z.iol, z.bdl, h.pdl, z.l⟩
  · split
    · exact ⟨h.d, h.s, z.sha, z.tha, z.spa, z.tpa, h.src, h.dst, h.io, z.bd, h.pd, h.iol, z.bdl, h.pdl, ⟨h.l.re, h.l.sq, h.l.ak, h.l.os, h.l.ds, h.l.room⟩⟩
    · exact ⟨h.d, h.s, z.sha, z.tha, z.spa, z.tpa, z.src, z.dst, z.io, h.bd, z.pd, z.iol, h.bdl, z.pdl, z.l⟩
theorem PkR.size (x : PkR) : x.ps.size = 36 := rfl
set_option maxHeartbeats 4000000 in
/-- isOfForm of every packet. -/
theorem PkR.form (x : PkR) (w : World) : Calls Try.prog 28 #[.agg x.ps] w fun e w' => e = .returned (.bool (x.eqB x.own)) ∧ Below w.heap.size w w' := by
  by_cases h1 : x.et = 2054
  · have ho : x.own = x.ownA := by unfold PkR.own; rw [if_pos h1]
    rw [ho]
    obtain ⟨d, s, tg, tag, et, ia, op, sha, spa, tha, tpa, ii, tos, id, fr, ttl, pr, src, dst, io, l, bd, pd⟩ := x
    simp only at h1
    subst h1
    have e : (Ca.putC ((Ca.putC zeroPk 0 (#[.int .u64 d, .int .u64 s, .bool tg, .int .i64 tag, .int .i64 2054]).toList).setIfInBounds 5 (.bool true)) 6 (#[.int .i64 op, .int .u64 sha, .int .u32 spa, .int .u64 tha, .int .u32 tpa]).toList).setIfInBounds 35 (.string (strOfNums pd)) = ((⟨d, s, tg, tag, 2054, ia, op, sha, spa, tha, tpa, ii, tos, id, fr, ttl, pr, src, dst, io, l, bd, pd⟩ : PkR).ownA).ps := by kernel_rfl
    have hq : ∀ W, (binOp .eql 34 (.agg (⟨d, s, tg, tag, 2054, ia, op, sha, spa, tha, tpa, ii, tos, id, fr, ttl, pr, src, dst, io, l, bd, pd⟩ : PkR).ps) (.agg ((Ca.putC ((Ca.putC zeroPk 0 (#[.int .u64 d, .int .u64 s, .bool tg, .int .i64 tag, .int .i64 2054]).toList).setIfInBounds 5 (.bool true)) 6 (#[.int .i64 op, .int .u64 sha, .int .u32 spa, .int .u64 tha, .int .u32 tpa]).toList).setIfInBounds 35 (.string (strOfNums pd))))).run Try.prog W = .ok (.bool ((⟨d, s, tg, tag, 2054, ia, op, sha, spa, tha, tpa, ii, tos, id, fr, ttl, pr, src, dst, io, l, bd, pd⟩ : PkR).eqB ((⟨d, s, tg, tag, 2054, ia, op, sha, spa, tha, tpa, ii, tos, id, fr, ttl, pr, src, dst, io, l, bd, pd⟩ : PkR).ownA))) W := fun W => (congrArg (fun a => (binOp .eql 34 (.agg (⟨d, s, tg, tag, 2054, ia, op, sha, spa, tha, tpa, ii, tos, id, fr, ttl, pr, src, dst, io, l, bd, pd⟩ : PkR).ps) (.agg a)).run Try.prog W) e).trans (PkR.eqRun (⟨d, s, tg, tag, 2054, ia, op, sha, spa, tha, tpa, ii, tos, id, fr, ttl, pr, src, dst, io, l, bd, pd⟩ : PkR) ((⟨d, s, tg, tag, 2054, ia, op, sha, spa, tha, tpa, ii, tos, id, fr, ttl, pr, src, dst, io, l, bd, pd⟩ : PkR).ownA) W)
    clear e
    refine form_arp _ (PkR.size _) d s tag tg op sha spa tha tpa (strOfNums pd) (by kernel_rfl) (by kernel_rfl) (by kernel_rfl) (by kernel_rfl) _ w (fun W => ?_)
    exact hq W
  by_cases h2 : x.et = 2048
  · have ho : x.own = x.ownI := by unfold PkR.own; rw [if_neg h1, if_pos h2]
    rw [ho]
    obtain ⟨d, s, tg, tag, et, ia, op, sha, spa, tha, tpa, ii, tos, id, fr, ttl, pr, src, dst, io, l, bd, pd⟩ := x
    obtain ⟨k, ty, co, re, sp, dp, ns, sq, ak, fl, wi, ur, lo, ds⟩ := l
    simp only at h2
    subst h2
    have e : ((Ca.putC (Ca.putC ((Ca.putC zeroPk 0 (#[.int .u64 d, .int .u64 s, .bool tg, .int .i64 tag, .int .i64 2048]).toList).setIfInBounds 11 (.bool true)) 12 (#[.int .i64 tos, .int .i64 id, .int .i64 fr, .int .i64 ttl, .int .i64 pr, .int .u32 src, .int .u32 dst, .string (strOfNums io)]).toList) 20 (#[.int .i64 k, .int .i64 ty, .int .i64 co, .int .u32 re, .int .i64 sp, .int .i64 dp, .bool ns, .int .u32 sq, .int .u32 ak, .int .i64 fl, .int .i64 wi, .int .i64 ur, .string (strOfNums lo), .string (strOfNums ds)]).toList).setIfInBounds 35 (.string (strOfNums pd))).setIfInBounds 20 (.int .i64 (if wholeB fr = true then kindV pr else 0)) = ((⟨d, s, tg, tag, 2048, ia, op, sha, spa, tha, tpa, ii, tos, id, fr, ttl, pr, src, dst, io, ⟨k, ty, co, re, sp, dp, ns, sq, ak, fl, wi, ur, lo, ds⟩, bd, pd⟩ : PkR).ownI).ps := by kernel_rfl
    have hq : ∀ W, (binOp .eql 34 (.agg (⟨d, s, tg, tag, 2048, ia, op, sha, spa, tha, tpa, ii, tos, id, fr, ttl, pr, src, dst, io, ⟨k, ty, co, re, sp, dp, ns, sq, ak, fl, wi, ur, lo, ds⟩, bd, pd⟩ : PkR).ps) (.agg (((Ca.putC (Ca.putC ((Ca.putC zeroPk 0 (#[.int .u64 d, .int .u64 s, .bool tg, .int .i64 tag, .int .i64 2048]).toList).setIfInBounds 11 (.bool true)) 12 (#[.int .i64 tos, .int .i64 id, .int .i64 fr, .int .i64 ttl, .int .i64 pr, .int .u32 src, .int .u32 dst, .string (strOfNums io)]).toList) 20 (#[.int .i64 k, .int .i64 ty, .int .i64 co, .int .u32 re, .int .i64 sp, .int .i64 dp, .bool ns, .int .u32 sq, .int .u32 ak, .int .i64 fl, .int .i64 wi, .int .i64 ur, .string (strOfNums lo), .string (strOfNums ds)]).toList).setIfInBounds 35 (.string (strOfNums pd))).setIfInBounds 20 (.int .i64 (if wholeB fr = true then kindV pr else 0))))).run Try.prog W = .ok (.bool ((⟨d, s, tg, tag, 2048, ia, op, sha, spa, tha, tpa, ii, tos, id, fr, ttl, pr, src, dst, io, ⟨k, ty, co, re, sp, dp, ns, sq, ak, fl, wi, ur, lo, ds⟩, bd, pd⟩ : PkR).eqB ((⟨d, s, tg, tag, 2048, ia, op, sha, spa, tha, tpa, ii, tos, id, fr, ttl, pr, src, dst, io, ⟨k, ty, co, re, sp, dp, ns, sq, ak, fl, wi, ur, lo, ds⟩, bd, pd⟩ : PkR).ownI))) W := fun W => (congrArg (fun a => (binOp .eql 34 (.agg (⟨d, s, tg, tag, 2048, ia, op, sha, spa, tha, tpa, ii, tos, id, fr, ttl, pr, src, dst, io, ⟨k, ty, co, re, sp, dp, ns, sq, ak, fl, wi, ur, lo, ds⟩, bd, pd⟩ : PkR).ps) (.agg a)).run Try.prog W) e).trans (PkR.eqRun (⟨d, s, tg, tag, 2048, ia, op, sha, spa, tha, tpa, ii, tos, id, fr, ttl, pr, src, dst, io, ⟨k, ty, co, re, sp, dp, ns, sq, ak, fl, wi, ur, lo, ds⟩, bd, pd⟩ : PkR) ((⟨d, s, tg, tag, 2048, ia, op, sha, spa, tha, tpa, ii, tos, id, fr, ttl, pr, src, dst, io, ⟨k, ty, co, re, sp, dp, ns, sq, ak, fl, wi, ur, lo, ds⟩, bd, pd⟩ : PkR).ownI) W)
    clear e
    refine form_ip _ (PkR.size _) d s tag tg tos id fr ttl pr src dst io k ty co re sp dp ns sq ak fl wi ur lo ds (strOfNums pd) (by kernel_rfl) (by kernel_rfl) (by kernel_rfl) (by kernel_rfl) (by kernel_rfl) (if wholeB fr = true then kindV pr else 0) _ w (fun W => ?_) (fun W => kindOf_any tos id fr ttl pr src dst io W)
    exact hq W
  · have ho : x.own = x.ownP := by unfold PkR.own; rw [if_neg h1, if_neg h2]
    rw [ho]
    obtain ⟨d, s, tg, tag, et, ia, op, sha, spa, tha, tpa, ii, tos, id, fr, ttl, pr, src, dst, io, l, bd, pd⟩ := x
    simp only at h1 h2
    have e : (Ca.putC zeroPk 0 (#[.int .u64 d, .int .u64 s, .bool tg, .int .i64 tag, .int .i64 et]).toList).setIfInBounds 34 (.string (strOfNums bd)) = ((⟨d, s, tg, tag, et, ia, op, sha, spa, tha, tpa, ii, tos, id, fr, ttl, pr, src, dst, io, l, bd, pd⟩ : PkR).ownP).ps := by kernel_rfl
    have hq : ∀ W, (binOp .eql 34 (.agg (⟨d, s, tg, tag, et, ia, op, sha, spa, tha, tpa, ii, tos, id, fr, ttl, pr, src, dst, io, l, bd, pd⟩ : PkR).ps) (.agg ((Ca.putC zeroPk 0 (#[.int .u64 d, .int .u64 s, .bool tg, .int .i64 tag, .int .i64 et]).toList).setIfInBounds 34 (.string (strOfNums bd))))).run Try.prog W = .ok (.bool ((⟨d, s, tg, tag, et, ia, op, sha, spa, tha, tpa, ii, tos, id, fr, ttl, pr, src, dst, io, l, bd, pd⟩ : PkR).eqB ((⟨d, s, tg, tag, et, ia, op, sha, spa, tha, tpa, ii, tos, id, fr, ttl, pr, src, dst, io, l, bd, pd⟩ : PkR).ownP))) W := fun W => (congrArg (fun a => (binOp .eql 34 (.agg (⟨d, s, tg, tag, et, ia, op, sha, spa, tha, tpa, ii, tos, id, fr, ttl, pr, src, dst, io, l, bd, pd⟩ : PkR).ps) (.agg a)).run Try.prog W) e).trans (PkR.eqRun (⟨d, s, tg, tag, et, ia, op, sha, spa, tha, tpa, ii, tos, id, fr, ttl, pr, src, dst, io, l, bd, pd⟩ : PkR) ((⟨d, s, tg, tag, et, ia, op, sha, spa, tha, tpa, ii, tos, id, fr, ttl, pr, src, dst, io, l, bd, pd⟩ : PkR).ownP) W)
    clear e
    refine form_plain _ (PkR.size _) d s tag et tg (strOfNums bd) (by kernel_rfl) (by kernel_rfl) (by kernel_rfl) (by simpa using h1) (by simpa using h2) _ w (fun W => ?_)
    exact hq W
end Go.Proofs.Ytpiokeidcnbmbaa

namespace Go.Proofs.Ytpiokeidcnbmbaa
open Go.RowKit
set_option maxRecDepth 20000
set_option maxHeartbeats 2000000 in
theorem inner_arp (ps : Array Value) (h5 : ps[5]? = some (.bool true)) (op sha spa tha tpa : Int) (hA : ps.extract 6 (6 + 5) = #[.int .i64 op, .int .u64 sha, .int .u32 spa, .int .u64 tha, .int .u32 tpa]) (n : Nat) (B : List Int) (w : World)
    (HP : Hid (∀ W, Calls Try.prog 61 #[.agg #[.int .i64 op, .int .u64 sha, .int .u32 spa, .int .u64 tha, .int .u32 tpa]] W fun e w' => ∃ a cap, e = .returned (.tuple #[.slice a n cap, .int .i64 0]) ∧ RB W w' (.slice a n cap) n B)) :
    Calls Try.prog 30 #[.agg ps] w fun e w' => ∃ a cap, e = .returned (.tuple #[.slice a n cap, .int .i64 0]) ∧ RB w w' (.slice a n cap) n B := by
  have R1 : Hid ((w.alloc (.cells ps 34)).heap[w.heap.size]? = some (.cells ps 34 (0, 0))) := heap_alloc_new w _
  have c5 := (Ca.cell_row R1.out 5).trans h5
  have hA9 : (ps.extract 6 (6 + 5)).size = 5 := by rw [hA]; rfl
  clear h5
  go_enter Try.func30, Try.ntmps30
  go_wp2_with (first
    | (refine Ca.wpList_load_at rfl 28 _ rfl w.heap.size 6 5 rfl ps 34 _ R1.out Try.underlying28 rfl hA9 (by kernel_rfl) ?_; rw [hA])
    | fail)
  refine (HP.out _).mono ?_
  rintro e W1 ⟨a, cap, rfl, r1⟩
  have R3 : Hid (RB w W1 (.slice a n cap) n B) := ⟨own_base r1.own (by simp), (below1 w _).trans (r1.bel.mono (by simp))⟩
  clear r1 HP R1 c5
  go_wp2
  go_ret2
  exact ⟨a, cap, rfl, R3.out⟩
set_option maxHeartbeats 2000000 in
theorem inner_arpbad (ps : Array Value) (h5 : ps[5]? = some (.bool true)) (op sha spa tha tpa : Int) (hA : ps.extract 6 (6 + 5) = #[.int .i64 op, .int .u64 sha, .int .u32 spa, .int .u64 tha, .int .u32 tpa]) (f : Int) (w : World)
    (HP : Hid (∀ W, Calls Try.prog 61 #[.agg #[.int .i64 op, .int .u64 sha, .int .u32 spa, .int .u64 tha, .int .u32 tpa]] W fun e w' => e = .returned (.tuple #[.slice none 0 0, .int .i64 f]) ∧ Below W.heap.size W w')) :
    Calls Try.prog 30 #[.agg ps] w fun e w' => e = .returned (.tuple #[.slice none 0 0, .int .i64 f]) ∧ Below w.heap.size w w' := by
  have R1 : Hid ((w.alloc (.cells ps 34)).heap[w.heap.size]? = some (.cells ps 34 (0, 0))) := heap_alloc_new w _
  have c5 := (Ca.cell_row R1.out 5).trans h5
  have hA9 : (ps.extract 6 (6 + 5)).size = 5 := by rw [hA]; rfl
  clear h5
  go_enter Try.func30, Try.ntmps30
  go_wp2_with (first
    | (refine Ca.wpList_load_at rfl 28 _ rfl w.heap.size 6 5 rfl ps 34 _ R1.out Try.underlying28 rfl hA9 (by kernel_rfl) ?_; rw [hA])
    | fail)
  refine (HP.out _).mono ?_
  rintro e W1 ⟨rfl, r1⟩
  have R3 : Hid (Below w.heap.size w W1) := (below1 w _).trans (r1.mono (by simp))
  clear r1 HP R1 c5
  go_wp2
  go_ret2
  exact ⟨rfl, R3.out⟩
set_option maxHeartbeats 2000000 in
theorem print_form (ps : Array Value) (hs : ps.size = 36) (w : World)
    (HF : Hid (∀ W, Calls Try.prog 28 #[.agg ps] W fun e w' => e = .returned (.bool false) ∧ Below W.heap.size W w')) :
    Calls Try.prog 11 #[.agg ps] w fun e w' => e = .returned (.tuple #[.slice none 0 0, .int .i64 1]) ∧ Below w.heap.size w w' := by
  have HS : Hid (ps.size = 36) := hs
  clear hs
  obtain ⟨wb, hwb⟩ : ∃ V, w.alloc (.cells ps 34) = V := ⟨_, rfl⟩
  have R0 : Hid (wb.heap[w.heap.size]? = some (.cells ps 34 (0, 0))) := by show _ = _; rw [← hwb]; exact heap_alloc_new w _
  have LB : Hid (Below w.heap.size w wb) := by show Below _ _ _; rw [← hwb]; exact below1 w _
  have HWB : Hid (w.alloc (.cells ps 34) = wb) := hwb
  clear hwb
  go_enter Try.func11, Try.ntmps11
  go_wp2_with fail
  refine scope_from ?_
  go_wp2_with (refine wpList_load_row rfl 34 _ rfl (w.heap.size) rfl 34 ps (0, 0) _ (heap_alloc_new w _) Try.underlying34 rfl (info36 HS.out) ?_)
  refine (HF.out _).mono ?_
  rintro e W1 ⟨rfl, hb⟩
  rw [HWB.out] at hb
  have B1 : Hid (Below wb.heap.size wb W1) := hb
  have R1 : Hid (W1.heap[w.heap.size]? = some (.cells ps 34 (0, 0))) := (hb.block _ (Ca.lt_of_heap R0.out)).trans R0.out
  clear hb HF
  go_wp2_with fail
  go_step3
  show FromLabel _ _ _ _ _ _
  refine from_label rfl ?_
  go_wp2
  simp only [Exit.jumpTo]
  go_ret2
  exact ⟨rfl, LB.out.trans (B1.out.mono LB.out.size)⟩
set_option maxHeartbeats 2000000 in
theorem print_head (ps : Array Value) (hs : ps.size = 36) (d s tag et : Int) (tg : Bool) (hE : ps.extract 0 (0 + 5) = #[.int .u64 d, .int .u64 s, .bool tg, .int .i64 tag, .int .i64 et]) (f : Int) (hf : (f != 0) = true) (w : World)
    (HF : Hid (∀ W, Calls Try.prog 28 #[.agg ps] W fun e w' => e = .returned (.bool true) ∧ Below W.heap.size W w'))
    (HH : Hid (∀ W, Calls Try.prog 29 #[.agg #[.int .u64 d, .int .u64 s, .bool tg, .int .i64 tag, .int .i64 et]] W fun e w' => e = .returned (.tuple #[.slice none 0 0, .int .i64 f]) ∧ Below W.heap.size W w')) :
    Calls Try.prog 11 #[.agg ps] w fun e w' => e = .returned (.tuple #[.slice none 0 0, .int .i64 f]) ∧ Below w.heap.size w w' := by
  have h9E : (ps.extract 0 (0 + 5)).size = 5 := by rw [hE]; rfl
  have HS : Hid (ps.size = 36) := hs
  clear hs
  obtain ⟨wb, hwb⟩ : ∃ V, w.alloc (.cells ps 34) = V := ⟨_, rfl⟩
  have R0 : Hid (wb.heap[w.heap.size]? = some (.cells ps 34 (0, 0))) := by show _ = _; rw [← hwb]; exact heap_alloc_new w _
  have LB : Hid (Below w.heap.size w wb) := by show Below _ _ _; rw [← hwb]; exact below1 w _
  have HWB : Hid (w.alloc (.cells ps 34) = wb) := hwb
  clear hwb
  go_enter Try.func11, Try.ntmps11
  go_wp2_with fail
  refine scope_from ?_
  go_wp2_with (refine wpList_load_row rfl 34 _ rfl (w.heap.size) rfl 34 ps (0, 0) _ (heap_alloc_new w _) Try.underlying34 rfl (info36 HS.out) ?_)
  refine (HF.out _).mono ?_
  rintro e W1 ⟨rfl, hb⟩
  rw [HWB.out] at hb
  have B1 : Hid (Below wb.heap.size wb W1) := hb
  have R1 : Hid (W1.heap[w.heap.size]? = some (.cells ps 34 (0, 0))) := (hb.block _ (Ca.lt_of_heap R0.out)).trans R0.out
  clear hb HF
  go_wp2_with (refine Ca.wpList_load_at rfl 25 _ rfl (w.heap.size) 0 5 rfl ps 34 _ R1.out Try.underlying25 rfl h9E (by kernel_rfl) ?_; rw [hE])
  refine (HH.out _).mono ?_
  rintro e W2 ⟨rfl, hb⟩
  have B2 : Hid (Below wb.heap.size wb W2) := B1.out.trans (hb.mono B1.out.size)
  clear hb HH R1 B1
  go_wp2_with fail
  go_step3
  show FromLabel _ _ _ _ _ _
  refine from_label rfl ?_
  go_wp2
  simp only [Exit.jumpTo]
  go_ret2
  exact ⟨rfl, LB.out.trans (B2.out.mono LB.out.size)⟩
set_option maxHeartbeats 2000000 in
theorem print_inner (ps : Array Value) (hs : ps.size = 36) (d s tag et : Int) (tg : Bool) (hE : ps.extract 0 (0 + 5) = #[.int .u64 d, .int .u64 s, .bool tg, .int .i64 tag, .int .i64 et]) (f : Int) (hf : (f != 0) = true) (n : Nat) (HB : List Int) (w : World)
    (HF : Hid (∀ W, Calls Try.prog 28 #[.agg ps] W fun e w' => e = .returned (.bool true) ∧ Below W.heap.size W w'))
    (HH : Hid (∀ W, Calls Try.prog 29 #[.agg #[.int .u64 d, .int .u64 s, .bool tg, .int .i64 tag, .int .i64 et]] W fun e w' => ∃ a cap, e = .returned (.tuple #[.slice a n cap, .int .i64 0]) ∧ w'.ownsRow W.heap.size 5 1 (.slice a n cap) n (HB.map (Value.int .u8)) ∧ Below W.heap.size W w'))
    (HI : Hid (∀ W, Calls Try.prog 30 #[.agg ps] W fun e w' => e = .returned (.tuple #[.slice none 0 0, .int .i64 f]) ∧ Below W.heap.size W w')) :
    Calls Try.prog 11 #[.agg ps] w fun e w' => e = .returned (.tuple #[.slice none 0 0, .int .i64 f]) ∧ Below w.heap.size w w' := by
  have h9E : (ps.extract 0 (0 + 5)).size = 5 := by rw [hE]; rfl
  have HS : Hid (ps.size = 36) := hs
  clear hs
  obtain ⟨wb, hwb⟩ : ∃ V, w.alloc (.cells ps 34) = V := ⟨_, rfl⟩
  have R0 : Hid (wb.heap[w.heap.size]? = some (.cells ps 34 (0, 0))) := by show _ = _; rw [← hwb]; exact heap_alloc_new w _
  have LB : Hid (Below w.heap.size w wb) := by show Below _ _ _; rw [← hwb]; exact below1 w _
  have HWB : Hid (w.alloc (.cells ps 34) = wb) := hwb
  clear hwb
  go_enter Try.func11, Try.ntmps11
  go_wp2_with fail
  refine scope_from ?_
  go_wp2_with (refine wpList_load_row rfl 34 _ rfl (w.heap.size) rfl 34 ps (0, 0) _ (heap_alloc_new w _) Try.underlying34 rfl (info36 HS.out) ?_)
  refine (HF.out _).mono ?_
  rintro e W1 ⟨rfl, hb⟩
  rw [HWB.out] at hb
  have B1 : Hid (Below wb.heap.size wb W1) := hb
  have R1 : Hid (W1.heap[w.heap.size]? = some (.cells ps 34 (0, 0))) := (hb.block _ (Ca.lt_of_heap R0.out)).trans R0.out
  clear hb HF
  go_wp2_with (refine Ca.wpList_load_at rfl 25 _ rfl (w.heap.size) 0 5 rfl ps 34 _ R1.out Try.underlying25 rfl h9E (by kernel_rfl) ?_; rw [hE])
  refine (HH.out _).mono ?_
  rintro e W2 ⟨a0, c0, rfl, own2, hb⟩
  have B2 : Hid (Below wb.heap.size wb W2) := B1.out.trans (hb.mono B1.out.size)
  have R2 : Hid (W2.heap[w.heap.size]? = some (.cells ps 34 (0, 0))) := (hb.block _ (Ca.lt_of_heap R1.out)).trans R1.out
  clear hb HH R1 B1 own2
  go_wp2_with (refine wpList_load_row rfl 34 _ rfl (w.heap.size) rfl 34 ps (0, 0) _ R2.out Try.underlying34 rfl (info36 HS.out) ?_)
  refine (HI.out _).mono ?_
  rintro e W3 ⟨rfl, hb⟩
  have B3 : Hid (Below wb.heap.size wb W3) := B2.out.trans (hb.mono B2.out.size)
  clear hb HI R2 B2
  go_wp2_with fail
  go_step3
  show FromLabel _ _ _ _ _ _
  refine from_label rfl ?_
  go_wp2
  simp only [Exit.jumpTo]
  go_ret2
  exact ⟨rfl, LB.out.trans (B3.out.mono LB.out.size)⟩
set_option maxHeartbeats 2000000 in
theorem print_long (ps : Array Value) (hs : ps.size = 36) (d s tag et : Int) (tg : Bool) (hE : ps.extract 0 (0 + 5) = #[.int .u64 d, .int .u64 s, .bool tg, .int .i64 tag, .int .i64 et]) (n m : Nat) (HB IB : List Int) (bd pd : List Int) (h34 : ps[34]? = some (.string (strOfNums bd))) (h35 : ps[35]? = some (.string (strOfNums pd))) (hn : n ≤ 1000) (hm : m ≤ 1000000) (hb9 : bd.length ≤ 140737488355328) (hp9 : pd.length ≤ 140737488355328) (hlen : 9018 < n + m + bd.length + pd.length) (w : World)
    (HF : Hid (∀ W, Calls Try.prog 28 #[.agg ps] W fun e w' => e = .returned (.bool true) ∧ Below W.heap.size W w'))
    (HH : Hid (∀ W, Calls Try.prog 29 #[.agg #[.int .u64 d, .int .u64 s, .bool tg, .int .i64 tag, .int .i64 et]] W fun e w' => ∃ a cap, e = .returned (.tuple #[.slice a n cap, .int .i64 0]) ∧ w'.ownsRow W.heap.size 5 1 (.slice a n cap) n (HB.map (Value.int .u8)) ∧ Below W.heap.size W w'))
    (HI : Hid (∀ W, Calls Try.prog 30 #[.agg ps] W fun e w' => ∃ a cap, e = .returned (.tuple #[.slice a m cap, .int .i64 0]) ∧ RB W w' (.slice a m cap) m IB)) :
    Calls Try.prog 11 #[.agg ps] w fun e w' => e = .returned (.tuple #[.slice none 0 0, .int .i64 3]) ∧ Below w.heap.size w w' := by
  have h9E : (ps.extract 0 (0 + 5)).size = 5 := by rw [hE]; rfl
  have hb1 := strOfNums_size bd
  have hb2 := strOfNums_size pd
  have hI0 : (9018 : Int) < (n : Int) + m + bd.length + pd.length := by omega
  have w1 : IntKind.i64.wrap ((n : Int) + m) = (n : Int) + m := by simp [IntKind.wrap, IntKind.bits, IntKind.signed]; omega
  have w2 : IntKind.i64.wrap ((n : Int) + m + bd.length) = (n : Int) + m + bd.length := by simp [IntKind.wrap, IntKind.bits, IntKind.signed]; omega
  have w3 : IntKind.i64.wrap ((n : Int) + m + bd.length + pd.length) = (n : Int) + m + bd.length + pd.length := by simp [IntKind.wrap, IntKind.bits, IntKind.signed]; omega
  have H34 : Hid (ps[34]? = some (.string (strOfNums bd))) := h34
  have H35 : Hid (ps[35]? = some (.string (strOfNums pd))) := h35
  clear h34 h35
  have HS : Hid (ps.size = 36) := hs
  clear hs
  obtain ⟨wb, hwb⟩ : ∃ V, w.alloc (.cells ps 34) = V := ⟨_, rfl⟩
  have R0 : Hid (wb.heap[w.heap.size]? = some (.cells ps 34 (0, 0))) := by show _ = _; rw [← hwb]; exact heap_alloc_new w _
  have LB : Hid (Below w.heap.size w wb) := by show Below _ _ _; rw [← hwb]; exact below1 w _
  have HWB : Hid (w.alloc (.cells ps 34) = wb) := hwb
  clear hwb
  go_enter Try.func11, Try.ntmps11
  go_wp2_with fail
  refine scope_from ?_
  go_wp2_with (refine wpList_load_row rfl 34 _ rfl (w.heap.size) rfl 34 ps (0, 0) _ (heap_alloc_new w _) Try.underlying34 rfl (info36 HS.out) ?_)
  refine (HF.out _).mono ?_
  rintro e W1 ⟨rfl, hb⟩
  rw [HWB.out] at hb
  have B1 : Hid (Below wb.heap.size wb W1) := hb
  have R1 : Hid (W1.heap[w.heap.size]? = some (.cells ps 34 (0, 0))) := (hb.block _ (Ca.lt_of_heap R0.out)).trans R0.out
  clear hb HF
  go_wp2_with (refine Ca.wpList_load_at rfl 25 _ rfl (w.heap.size) 0 5 rfl ps 34 _ R1.out Try.underlying25 rfl h9E (by kernel_rfl) ?_; rw [hE])
  refine (HH.out _).mono ?_
  rintro e W2 ⟨a0, c0, rfl, own2, hb⟩
  have B2 : Hid (Below wb.heap.size wb W2) := B1.out.trans (hb.mono B1.out.size)
  have R2 : Hid (W2.heap[w.heap.size]? = some (.cells ps 34 (0, 0))) := (hb.block _ (Ca.lt_of_heap R1.out)).trans R1.out
  clear hb HH R1 B1 own2
  go_wp2_with (refine wpList_load_row rfl 34 _ rfl (w.heap.size) rfl 34 ps (0, 0) _ R2.out Try.underlying34 rfl (info36 HS.out) ?_)
  refine (HI.out _).mono ?_
  rintro e W3 ⟨a1, c1, rfl, r3⟩
  have B3 : Hid (Below wb.heap.size wb W3) := B2.out.trans (r3.bel.mono B2.out.size)
  have R3 : Hid (W3.heap[w.heap.size]? = some (.cells ps 34 (0, 0))) := (r3.bel.block _ (Ca.lt_of_heap R2.out)).trans R2.out
  clear HI R2 B2 r3
  have c34 := (Ca.cell_row R3.out 34).trans H34.out
  have c35 := (Ca.cell_row R3.out 35).trans H35.out
  go_wp2_with fail
  go_step3
  show FromLabel _ _ _ _ _ _
  refine from_label rfl ?_
  go_wp2
  simp only [Exit.jumpTo]
  go_ret2
  exact ⟨rfl, LB.out.trans (B3.out.mono LB.out.size)⟩
end Go.Proofs.Ytpiokeidcnbmbaa

namespace Go.Proofs.Ytpiokeidcnbmbaa
open Go.RowKit
set_option maxRecDepth 20000
theorem L4R.enc_fits {x : L4R} (hf : x.Fine) (src dst : Int) (hs : 0 ≤ src) (ht : 0 ≤ dst) : ∀ i, 0 ≤ (x.enc src dst).getD i 0 ∧ (x.enc src dst).getD i 0 ≤ 255 := by
  have hB := L4R.body_fits hf
  unfold L4R.enc
  split
  · exact hB
  · have := chkC_bd src dst x.k x.body hs ht hB
    unfold setC
    exact fits_set (fits_set hB _ _ (by omega)) _ _ (by omega)
def PkR.head (x : PkR) : List Int := Eth.headBytes x.d x.s x.tg x.tag x.et
def PkR.ipb (x : PkR) : List Int := Ip.ipB x.tos x.id x.fr x.ttl x.pr x.src x.dst x.io x.l.body.length
def PkR.inner (x : PkR) : List Int := if x.et = 2054 then Eth.arpBytes x.op x.sha x.spa x.tha x.tpa else if x.et = 2048 then x.ipb ++ x.l.enc x.src x.dst else []
def PkR.bytes (x : PkR) : List Int := x.head ++ x.inner ++ x.bd ++ x.pd
/-- May it be, but for its length? -/
structure PkR.Fits (x : PkR) : Prop where
  own : x = x.own
  head : Eth.fitsB x.d x.s x.tg x.tag x.et = true
  arp : x.et = 2054 → Eth.arpFits x.op x.sha x.tha = true
  l4 : x.et = 2048 → x.l.ok = true
  ip : x.et = 2048 → Ip.encOk x.tos x.id x.fr x.ttl x.pr x.io.length x.l.body.length = true
theorem arpBytes_len (op sha spa tha tpa : Int) : (Eth.arpBytes op sha spa tha tpa).length = 28 := by simp [Eth.arpBytes, be_len]
theorem arpBytes_bd (op sha spa tha tpa : Int) : ∀ i, 0 ≤ (Eth.arpBytes op sha spa tha tpa).getD i 0 ∧ (Eth.arpBytes op sha spa tha tpa).getD i 0 ≤ 255 := by
  unfold Eth.arpBytes
  refine fits_append (fits_append (fits_append (fits_append (fits_append ?_ (be_bd _ _)) (be_bd _ _)) (be_bd _ _)) (be_bd _ _)) (be_bd _ _)
  intro i
  rcases i with _ | _ | _ | _ | _ | _ | i <;> simp
theorem headBytes_bd (d s : Int) (tg : Bool) (tag ty : Int) : ∀ i, 0 ≤ (Eth.headBytes d s tg tag ty).getD i 0 ∧ (Eth.headBytes d s tg tag ty).getD i 0 ≤ 255 := by
  unfold Eth.headBytes
  refine fits_append (fits_append (fits_append (be_bd _ _) (be_bd _ _)) ?_) (be_bd _ _)
  split
  · exact fits_append (be_bd _ _) (be_bd _ _)
  · intro i; simp
theorem headBytes_len (d s : Int) (tg : Bool) (tag ty : Int) : (Eth.headBytes d s tg tag ty).length = if tg = true then 18 else 14 := by
  cases tg <;> simp [Eth.headBytes, be_len]
theorem PkR.flagsA {x : PkR} (h : x = x.own) (e : x.et = 2054) : x.ia = true ∧ x.ii = false := by
  have h1 : x.own = x.ownA := by unfold PkR.own; rw [if_pos e]
  rw [h1] at h
  rw [h]; exact ⟨rfl, rfl⟩
theorem PkR.flagsI {x : PkR} (h : x = x.own) (e : x.et = 2048) : x.ia = false ∧ x.ii = true ∧ x.bd = [] ∧ x.l.k = if wholeB x.fr = true then kindV x.pr else 0 := by
  have h1 : x.own = x.ownI := by unfold PkR.own; rw [if_neg (by omega), if_pos e]
  have h2 := h
  rw [h1] at h2
  refine ⟨by rw [h2]; rfl, by rw [h2]; rfl, by rw [h2]; rfl, ?_⟩
  have h3 : x.l = x.ownI.l := congrArg PkR.l h2
  rw [h3]; rfl
theorem PkR.flagsP {x : PkR} (h : x = x.own) (e1 : x.et ≠ 2054) (e2 : x.et ≠ 2048) : x.ia = false ∧ x.ii = false ∧ x.pd = [] := by
  have h1 : x.own = x.ownP := by unfold PkR.own; rw [if_neg e1, if_neg e2]
  rw [h1] at h
  rw [h]; exact ⟨rfl, rfl, rfl⟩
theorem PkR.get5 (x : PkR) : x.ps[5]? = some (.bool x.ia) := rfl
theorem PkR.get11 (x : PkR) : x.ps[11]? = some (.bool x.ii) := rfl
theorem PkR.get34 (x : PkR) : x.ps[34]? = some (.string (strOfNums x.bd)) := rfl
theorem PkR.get35 (x : PkR) : x.ps[35]? = some (.string (strOfNums x.pd)) := rfl
theorem PkR.exE (x : PkR) : x.ps.extract 0 (0 + 5) = #[.int .u64 x.d, .int .u64 x.s, .bool x.tg, .int .i64 x.tag, .int .i64 x.et] := by kernel_rfl
theorem PkR.exA (x : PkR) : x.ps.extract 6 (6 + 5) = #[.int .i64 x.op, .int .u64 x.sha, .int .u32 x.spa, .int .u64 x.tha, .int .u32 x.tpa] := by kernel_rfl
theorem PkR.exI (x : PkR) : x.ps.extract 12 (12 + 8) = #[.int .i64 x.tos, .int .i64 x.id, .int .i64 x.fr, .int .i64 x.ttl, .int .i64 x.pr, .int .u32 x.src, .int .u32 x.dst, .string (strOfNums x.io)] := by kernel_rfl
theorem PkR.exL (x : PkR) : x.ps.extract 20 (20 + 14) = #[.int .i64 x.l.k, .int .i64 x.l.ty, .int .i64 x.l.co, .int .u32 x.l.re, .int .i64 x.l.sp, .int .i64 x.l.dp, .bool x.l.ns, .int .u32 x.l.sq, .int .u32 x.l.ak, .int .i64 x.l.fl, .int .i64 x.l.wi, .int .i64 x.l.ur, .string (strOfNums x.l.os), .string (strOfNums x.l.ds)] := by kernel_rfl
theorem PkR.inner_bd {x : PkR} (hx : x.Fine) (h : x.Fits) : ∀ i, 0 ≤ x.inner.getD i 0 ∧ x.inner.getD i 0 ≤ 255 := by
  unfold PkR.inner
  split
  · exact arpBytes_bd _ _ _ _ _
  · split
    · exact fits_append (Ip.ipB_bd (Ip.encOk_yes (h.ip (by assumption))) hx.src hx.dst hx.io) (L4R.enc_fits hx.l _ _ hx.src.1 hx.dst.1)
    · intro i; simp
theorem PkR.ipb_len (x : PkR) : x.ipb.length = 20 + x.io.length := Ip.ipB_len ..
theorem PkR.inner_len {x : PkR} (h : x.Fits) : x.inner.length ≤ 65535 := by
  unfold PkR.inner
  split
  · rw [arpBytes_len]; omega
  · split
    · have h1 := (Ip.encOk_yes (h.ip (by assumption)))
      have h2 := h1.data
      have h3 := h1.most
      rw [List.length_append, PkR.ipb_len, L4R.enc_len]
      omega
    · simp
theorem PkR.bytes_bd {x : PkR} (hx : x.Fine) (h : x.Fits) : ∀ i, 0 ≤ x.bytes.getD i 0 ∧ x.bytes.getD i 0 ≤ 255 :=
  fits_append (fits_append (fits_append (headBytes_bd _ _ _ _ _) (PkR.inner_bd hx h)) hx.bd) hx.pd
theorem PkR.encHead {x : PkR} (hx : x.Fine) (h : Eth.fitsB x.d x.s x.tg x.tag x.et = true) (W : World) : Calls Try.prog 29 #[.agg #[.int .u64 x.d, .int .u64 x.s, .bool x.tg, .int .i64 x.tag, .int .i64 x.et]] W fun e w' => ∃ a cap, e = .returned (.tuple #[.slice a x.head.length cap, .int .i64 0]) ∧ w'.ownsRow W.heap.size 5 1 (.slice a x.head.length cap) x.head.length (x.head.map (Value.int .u8)) ∧ Below W.heap.size W w' := by
  unfold PkR.head
  cases g : x.tg
  · rw [g] at h
    exact Eth.encodeHead_plain x.d x.s x.tag x.et W hx.d.1 hx.s.1 h
  · rw [g] at h
    exact Eth.encodeHead_tagged x.d x.s x.tag x.et W hx.d.1 hx.s.1 h
theorem PkR.formT {x : PkR} (h : x = x.own) (W : World) : Calls Try.prog 28 #[.agg x.ps] W fun e w' => e = .returned (.bool true) ∧ Below W.heap.size W w' := by
  have := PkR.form x W
  rw [show x.eqB x.own = true by rw [← h]; exact PkR.eqB_self x] at this
  exact this
theorem PkR.formF {x : PkR} (hx : x.Fine) (h : x ≠ x.own) (W : World) : Calls Try.prog 28 #[.agg x.ps] W fun e w' => e = .returned (.bool false) ∧ Below W.heap.size W w' := by
  have := PkR.form x W
  rw [PkR.eqB_no hx (PkR.own_fine hx) h] at this
  exact this
set_option maxHeartbeats 1000000 in
theorem PkR.innerYes {x : PkR} (hx : x.Fine) (h : x.Fits) (W : World) : Calls Try.prog 30 #[.agg x.ps] W fun e w' => ∃ a cap, e = .returned (.tuple #[.slice a x.inner.length cap, .int .i64 0]) ∧ RB W w' (.slice a x.inner.length cap) x.inner.length x.inner := by
  by_cases e1 : x.et = 2054
  · have hi : x.inner = Eth.arpBytes x.op x.sha x.spa x.tha x.tpa := by unfold PkR.inner; rw [if_pos e1]
    rw [hi, arpBytes_len]
    refine inner_arp x.ps (by rw [PkR.get5, (PkR.flagsA h.own e1).1]) _ _ _ _ _ (PkR.exA x) 28 _ W (fun V => ?_)
    refine (Eth.encodeArp_yes x.op x.sha x.spa x.tha x.tpa V hx.sha.1 hx.spa hx.tha.1 hx.tpa (h.arp e1)).mono ?_
    rintro e w' ⟨a, cap, rfl, o, b⟩
    exact ⟨a, cap, rfl, o, b⟩
  by_cases e2 : x.et = 2048
  · have hi : x.inner = x.ipb ++ x.l.enc x.src x.dst := by unfold PkR.inner; rw [if_neg e1, if_pos e2]
    have hl : x.inner.length = 20 + x.io.length + x.l.body.length := by rw [hi, List.length_append, PkR.ipb_len, L4R.enc_len]
    have hI := PkR.inner_len h
    rw [hl] at hI
    rw [hl, hi]
    have hf := PkR.flagsI h.own e2
    refine inner_ip x.ps (by rw [PkR.get5, hf.1]) (by rw [PkR.get11, hf.2.1]) _ _ _ _ _ _ _ _ _ _ _ _ _ _ _ _ _ _ _ _ _ _ (PkR.exI x) (PkR.exL x) _ _ W (fun V => ?_)
    refine printIp_ok _ _ _ _ _ _ _ _ _ _ _ _ _ _ _ _ _ _ _ _ _ _ x.l.body.length (20 + x.io.length) _ _ (by omega) V (fun U => ?_) (fun U => ?_)
    · exact encode_ok x.l hx.l (h.l4 e2) x.src x.dst hx.src hx.dst U
    · exact Ip.encode_yes x.tos x.id x.fr x.ttl x.pr x.src x.dst x.io x.l.body.length U hx.src hx.dst hx.io (h.ip e2)
  · have hi : x.inner = [] := by unfold PkR.inner; rw [if_neg e1, if_neg e2]
    have hf := PkR.flagsP h.own e1 e2
    rw [hi]
    refine (inner_none x.ps (by rw [PkR.get5, hf.1]) (by rw [PkR.get11, hf.2.1]) W).mono ?_
    rintro e w' ⟨rfl, b⟩
    exact ⟨none, 0, rfl, ⟨by simp, .inl ⟨rfl, rfl⟩⟩, b⟩
/-- Print of a packet that may be. -/
theorem PkR.printYes {x : PkR} (hx : x.Fine) (h : x.Fits) (hl : x.bytes.length ≤ 9018) (w : World) : Calls Try.prog 11 #[.agg x.ps] w fun e w' => ∃ a cap, e = .returned (.tuple #[.slice a x.bytes.length cap, .int .i64 0]) ∧ RB w w' (.slice a x.bytes.length cap) x.bytes.length x.bytes := by
  have hn : x.bytes.length = x.head.length + x.inner.length + x.bd.length + x.pd.length := by simp only [PkR.bytes, List.length_append]
  rw [hn] at hl
  have := print_ok x.ps (PkR.size x) x.d x.s x.tag x.et x.tg (PkR.exE x) x.bd x.pd (PkR.get34 x) (PkR.get35 x) hx.bd hx.pd x.head.length x.inner.length x.head x.inner (PkR.inner_bd hx h) hl w (fun W => PkR.formT h.own W) (fun W => PkR.encHead hx h.head W) (fun W => PkR.innerYes hx h W)
  rw [← hn] at this
  exact this
theorem PkR.printLong {x : PkR} (hx : x.Fine) (h : x.Fits) (hl : 9018 < x.bytes.length) (w : World) : Calls Try.prog 11 #[.agg x.ps] w fun e w' => e = .returned (.tuple #[.slice none 0 0, .int .i64 3]) ∧ Below w.heap.size w w' := by
  have hn : x.bytes.length = x.head.length + x.inner.length + x.bd.length + x.pd.length := by simp only [PkR.bytes, List.length_append]
  rw [hn] at hl
  have h1 := PkR.inner_len h
  have h2 : x.head.length ≤ 18 := by unfold PkR.head; rw [headBytes_len]; split <;> omega
  exact print_long x.ps (PkR.size x) x.d x.s x.tag x.et x.tg (PkR.exE x) x.head.length x.inner.length x.head x.inner x.bd x.pd (PkR.get34 x) (PkR.get35 x) (by omega) (by omega) hx.bdl hx.pdl hl w (fun W => PkR.formT h.own W) (fun W => PkR.encHead hx h.head W) (fun W => PkR.innerYes hx h W)
set_option maxHeartbeats 1000000 in
theorem PkR.innerNo {x : PkR} (hx : x.Fine) (ho : x = x.own) (hh : Eth.fitsB x.d x.s x.tg x.tag x.et = true) (h : ¬ x.Fits) (W : World) : Calls Try.prog 30 #[.agg x.ps] W fun e w' => e = .returned (.tuple #[.slice none 0 0, .int .i64 1]) ∧ Below W.heap.size W w' := by
  by_cases e1 : x.et = 2054
  · refine inner_arpbad x.ps (by rw [PkR.get5, (PkR.flagsA ho e1).1]) _ _ _ _ _ (PkR.exA x) 1 W (fun V => ?_)
    refine Eth.encodeArp_no x.op x.sha x.spa x.tha x.tpa V ?_
    cases g : Eth.arpFits x.op x.sha x.tha
    · rfl
    · exact absurd ⟨ho, hh, fun _ => g, fun e => by omega, fun e => by omega⟩ h
  by_cases e2 : x.et = 2048
  · have hf := PkR.flagsI ho e2
    refine inner_ipbad x.ps (by rw [PkR.get5, hf.1]) (by rw [PkR.get11, hf.2.1]) _ _ _ _ _ _ _ _ _ _ _ _ _ _ _ _ _ _ _ _ _ _ (PkR.exI x) (PkR.exL x) 1 W (fun V => ?_)
    cases g : x.l.ok
    · exact printIp_l4 _ _ _ _ _ _ _ _ _ _ _ _ _ _ _ _ _ _ _ _ _ _ 1 rfl V (fun U => encode_no x.l hx.l g x.src x.dst U)
    · refine printIp_ip _ _ _ _ _ _ _ _ _ _ _ _ _ _ _ _ _ _ _ _ _ _ 1 rfl x.l.body.length V (fun U => ?_) (fun U => ?_)
      · refine (encode_ok x.l hx.l g x.src x.dst hx.src hx.dst U).mono ?_
        rintro e w' ⟨gg, rfl, s⟩
        exact ⟨gg, rfl, s.bel⟩
      · refine Ip.encode_no x.tos x.id x.fr x.ttl x.pr x.src x.dst x.io x.l.body.length U hx.iol ?_
        cases g2 : Ip.encOk x.tos x.id x.fr x.ttl x.pr x.io.length x.l.body.length
        · rfl
        · exact absurd ⟨ho, hh, fun e => absurd e e1, fun _ => g, fun _ => g2⟩ h
  · exact absurd ⟨ho, hh, fun e => absurd e e1, fun e => absurd e e2, fun e => absurd e e2⟩ h
/-- .. and of one that may not. -/
theorem PkR.printNo {x : PkR} (hx : x.Fine) (h : ¬ x.Fits) (w : World) : Calls Try.prog 11 #[.agg x.ps] w fun e w' => e = .returned (.tuple #[.slice none 0 0, .int .i64 1]) ∧ Below w.heap.size w w' := by
  by_cases ho : x = x.own
  · cases hh : Eth.fitsB x.d x.s x.tg x.tag x.et
    · exact print_head x.ps (PkR.size x) x.d x.s x.tag x.et x.tg (PkR.exE x) 1 rfl w (fun W => PkR.formT ho W) (fun W => Eth.encodeHead_no _ _ _ _ _ W hh)
    · exact print_inner x.ps (PkR.size x) x.d x.s x.tag x.et x.tg (PkR.exE x) 1 rfl x.head.length x.head w (fun W => PkR.formT ho W) (fun W => PkR.encHead hx hh W) (fun W => PkR.innerNo hx ho hh h W)
  · exact print_form x.ps (PkR.size x) w (fun W => PkR.formF hx ho W)
end Go.Proofs.Ytpiokeidcnbmbaa

namespace Go.Proofs.Ytpiokeidcnbmbaa
open Go.RowKit
set_option maxRecDepth 20000
theorem PkR.get16 (x : PkR) : x.ps[16]? = some (.int .i64 x.pr) := rfl
theorem PkR.g17 (x : PkR) : x.ps[17]? = some (.int .u32 x.src) := rfl
theorem PkR.g18 (x : PkR) : x.ps[18]? = some (.int .u32 x.dst) := rfl
theorem PkR.g20 (x : PkR) : x.ps[20]? = some (.int .i64 x.l.k) := rfl
theorem PkR.g4 (x : PkR) : x.ps[4]? = some (.int .i64 x.et) := rfl
/-- A packet of this form, its kind aside. -/
def PkR.ownJ (x : PkR) : PkR := { zeroPkR with d := x.d, s := x.s, tg := x.tg, tag := x.tag, et := x.et, ii := true, tos := x.tos, id := x.id, fr := x.fr, ttl := x.ttl, pr := x.pr, src := x.src, dst := x.dst, io := x.io, l := x.l, pd := x.pd }
theorem PkR.ownJ_eq {x : PkR} (h : x.l.k = if wholeB x.fr = true then kindV x.pr else 0) : x.ownJ = x.ownI := by
  unfold PkR.ownJ PkR.ownI
  rw [← h]
theorem PkR.eqI_no {x : PkR} (h : x.l.k ≠ if wholeB x.fr = true then kindV x.pr else 0) : x.eqB x.ownI = false := by
  have e : (x.l.k == x.ownI.l.k) = false := by
    show (x.l.k == (if wholeB x.fr = true then kindV x.pr else 0)) = false
    simpa using h
  unfold PkR.eqB
  rw [e]
  simp
set_option maxHeartbeats 4000000 in
/-- fits of every packet. -/
theorem PkR.rform (x : PkR) (w : World) : Calls Try.prog 31 #[.agg x.ps] w fun e w' => e = .returned (.bool (x.eqB x.own)) ∧ Below w.heap.size w w' := by
  by_cases h1 : x.et = 2054
  · have ho : x.own = x.ownA := by unfold PkR.own; rw [if_pos h1]
    rw [ho]
    have e : (Ca.putC ((Ca.putC zeroPk 0 (#[.int .u64 x.d, .int .u64 x.s, .bool x.tg, .int .i64 x.tag, .int .i64 2054]).toList).setIfInBounds 5 (.bool true)) 6 (#[.int .i64 x.op, .int .u64 x.sha, .int .u32 x.spa, .int .u64 x.tha, .int .u32 x.tpa]).toList).setIfInBounds 35 (.string (strOfNums x.pd)) = x.ownA.ps := by
      unfold PkR.ownA
      rw [h1]
      kernel_rfl
    refine rform_arp _ (PkR.size _) x.d x.s x.tag x.tg x.op x.sha x.spa x.tha x.tpa (strOfNums x.pd) (by rw [PkR.exE, h1]) (PkR.exA x) (by rw [PkR.g4, h1]) (PkR.get35 x) _ w (fun W => ?_)
    rw [e]
    exact PkR.eqRun x x.ownA W
  by_cases h2 : x.et = 2048
  · have ho : x.own = x.ownI := by unfold PkR.own; rw [if_neg h1, if_pos h2]
    rw [ho]
    have e : (Ca.putC (Ca.putC ((Ca.putC zeroPk 0 (#[.int .u64 x.d, .int .u64 x.s, .bool x.tg, .int .i64 x.tag, .int .i64 2048]).toList).setIfInBounds 11 (.bool true)) 12 (#[.int .i64 x.tos, .int .i64 x.id, .int .i64 x.fr, .int .i64 x.ttl, .int .i64 x.pr, .int .u32 x.src, .int .u32 x.dst, .string (strOfNums x.io)]).toList) 20 (#[.int .i64 x.l.k, .int .i64 x.l.ty, .int .i64 x.l.co, .int .u32 x.l.re, .int .i64 x.l.sp, .int .i64 x.l.dp, .bool x.l.ns, .int .u32 x.l.sq, .int .u32 x.l.ak, .int .i64 x.l.fl, .int .i64 x.l.wi, .int .i64 x.l.ur, .string (strOfNums x.l.os), .string (strOfNums x.l.ds)]).toList).setIfInBounds 35 (.string (strOfNums x.pd)) = x.ownJ.ps := by
      unfold PkR.ownJ
      rw [h2]
      kernel_rfl
    cases hw : wholeB x.fr
    · have HW : ∀ W, Calls Try.prog 25 #[.agg #[.int .i64 x.tos, .int .i64 x.id, .int .i64 x.fr, .int .i64 x.ttl, .int .i64 x.pr, .int .u32 x.src, .int .u32 x.dst, .string (strOfNums x.io)]] W fun e w' => e = .returned (.bool false) ∧ Below W.heap.size W w' := fun W => by
        rw [← hw]; exact rwhole_any x.tos x.id x.fr x.ttl x.pr x.src x.dst x.io W
      have hkk : (if wholeB x.fr = true then kindV x.pr else 0) = 0 := by rw [hw]; rfl
      by_cases hk : x.l.k = 0
      · rw [← PkR.ownJ_eq (x := x) (by rw [hkk]; exact hk)]
        refine rform_ipF _ (PkR.size _) x.d x.s x.tag x.tg _ _ _ _ _ _ _ _ _ _ _ _ _ _ _ _ _ _ _ _ _ _ (strOfNums x.pd) (by rw [PkR.exE, h2]) (PkR.exI x) (PkR.exL x) (by rw [PkR.g4, h2]) (PkR.get16 x) (PkR.g20 x) (PkR.get35 x) _ w (by simpa using hk) HW (fun W => ?_)
        rw [e]
        exact PkR.eqRun x x.ownJ W
      · rw [PkR.eqI_no (x := x) (by rw [hkk]; exact hk)]
        exact rform_ipFn _ (PkR.size _) x.d x.s x.tag x.tg _ _ _ _ _ _ _ _ _ _ _ _ _ _ _ _ _ _ _ _ _ _ (strOfNums x.pd) (by rw [PkR.exE, h2]) (PkR.exI x) (PkR.exL x) (by rw [PkR.g4, h2]) (PkR.get16 x) (PkR.g20 x) (PkR.get35 x) w (by simpa using hk) HW
    · have HW : ∀ W, Calls Try.prog 25 #[.agg #[.int .i64 x.tos, .int .i64 x.id, .int .i64 x.fr, .int .i64 x.ttl, .int .i64 x.pr, .int .u32 x.src, .int .u32 x.dst, .string (strOfNums x.io)]] W fun e w' => e = .returned (.bool true) ∧ Below W.heap.size W w' := fun W => by
        rw [← hw]; exact rwhole_any x.tos x.id x.fr x.ttl x.pr x.src x.dst x.io W
      have hkk : (if wholeB x.fr = true then kindV x.pr else 0) = kindV x.pr := by rw [hw]; rfl
      by_cases hk : x.l.k = kindV x.pr
      · rw [← PkR.ownJ_eq (x := x) (by rw [hkk]; exact hk)]
        refine rform_ipW _ (PkR.size _) x.d x.s x.tag x.tg _ _ _ _ _ _ _ _ _ _ _ _ _ _ _ _ _ _ _ _ _ _ (strOfNums x.pd) (by rw [PkR.exE, h2]) (PkR.exI x) (PkR.exL x) (by rw [PkR.g4, h2]) (PkR.get16 x) (PkR.g20 x) (PkR.get35 x) (kindV x.pr) _ w (by simpa using hk) HW (fun W => ?_) (fun W => rkind_any x.pr W)
        rw [e]
        exact PkR.eqRun x x.ownJ W
      · rw [PkR.eqI_no (x := x) (by rw [hkk]; exact hk)]
        exact rform_ipWn _ (PkR.size _) x.d x.s x.tag x.tg _ _ _ _ _ _ _ _ _ _ _ _ _ _ _ _ _ _ _ _ _ _ (strOfNums x.pd) (by rw [PkR.exE, h2]) (PkR.exI x) (PkR.exL x) (by rw [PkR.g4, h2]) (PkR.get16 x) (PkR.g20 x) (PkR.get35 x) (kindV x.pr) w (by simpa using hk) HW (fun W => rkind_any x.pr W)
  · have ho : x.own = x.ownP := by unfold PkR.own; rw [if_neg h1, if_neg h2]
    rw [ho]
    have e : (Ca.putC zeroPk 0 (#[.int .u64 x.d, .int .u64 x.s, .bool x.tg, .int .i64 x.tag, .int .i64 x.et]).toList).setIfInBounds 34 (.string (strOfNums x.bd)) = x.ownP.ps := by
      unfold PkR.ownP
      kernel_rfl
    refine rform_plain _ (PkR.size _) x.d x.s x.tag x.et x.tg (strOfNums x.bd) (PkR.exE x) (PkR.g4 x) (PkR.get34 x) (by simpa using h1) (by simpa using h2) _ w (fun W => ?_)
    rw [e]
    exact PkR.eqRun x x.ownP W
theorem PkR.rformT {x : PkR} (h : x = x.own) (W : World) : Calls Try.prog 31 #[.agg x.ps] W fun e w' => e = .returned (.bool true) ∧ Below W.heap.size W w' := by
  have := PkR.rform x W
  rw [show x.eqB x.own = true by rw [← h]; exact PkR.eqB_self x] at this
  exact this
theorem PkR.rformF {x : PkR} (hx : x.Fine) (h : x ≠ x.own) (W : World) : Calls Try.prog 31 #[.agg x.ps] W fun e w' => e = .returned (.bool false) ∧ Below W.heap.size W w' := by
  have := PkR.rform x W
  rw [PkR.eqB_no hx (PkR.own_fine hx) h] at this
  exact this
theorem PkR.rencHead {x : PkR} (hx : x.Fine) (h : Eth.fitsB x.d x.s x.tg x.tag x.et = true) (W : World) : Calls Try.prog 32 #[.agg #[.int .u64 x.d, .int .u64 x.s, .bool x.tg, .int .i64 x.tag, .int .i64 x.et]] W fun e w' => ∃ a cap, e = .returned (.tuple #[.slice a x.head.length cap, .int .i64 0]) ∧ RB W w' (.slice a x.head.length cap) x.head.length x.head := by
  unfold PkR.head
  cases g : x.tg
  · rw [g] at h
    exact Eth.rencode_plain x.d x.s x.tag x.et W hx.d.1 hx.s.1 h
  · rw [g] at h
    exact Eth.rencode_tagged x.d x.s x.tag x.et W hx.d.1 hx.s.1 h
theorem PkR.head_pos (x : PkR) : 14 ≤ x.head.length ∧ x.head.length ≤ 18 := by
  unfold PkR.head; rw [headBytes_len]; split <;> omega
theorem PkR.sizes {x : PkR} (hx : x.Fine) (h : x.Fits) : x.bytes.length ≤ 140737488355328 + 100000 ∧ x.bytes.length = x.head.length + x.inner.length + x.bd.length + x.pd.length := by
  have hn : x.bytes.length = x.head.length + x.inner.length + x.bd.length + x.pd.length := by simp only [PkR.bytes, List.length_append]
  have h1 := PkR.inner_len h
  have h2 := x.head_pos
  have h3 := hx.bdl
  have h4 := hx.pdl
  have h5 : x.bd = [] ∨ x.pd = [] := by
    by_cases e1 : x.et = 2054
    · left
      have ho := h.own
      rw [ho]; unfold PkR.own; rw [if_pos e1]; rfl
    · by_cases e2 : x.et = 2048
      · exact .inl (PkR.flagsI h.own e2).2.2.1
      · exact .inr (PkR.flagsP h.own e1 e2).2.2
  refine ⟨?_, hn⟩
  rcases h5 with e | e
  · rw [e] at hn; simp at hn; omega
  · rw [e] at hn; simp at hn; omega
theorem PkR.rprintNo {x : PkR} (hx : x.Fine) (h9 : x.l.os.length ≤ 140737488355328) (h : ¬ x.Fits) (w : World) : Calls Try.prog 12 #[.agg x.ps] w fun e w' => e = .returned (.tuple #[.slice none 0 0, .int .i64 1]) ∧ Below w.heap.size w w' := by
  by_cases ho : x = x.own
  · cases hh : Eth.fitsB x.d x.s x.tg x.tag x.et
    · exact rprint_head x.ps (PkR.size x) x.d x.s x.tag x.et x.tg (PkR.exE x) 1 rfl w (fun W => PkR.rformT ho W) (fun W => Eth.rencode_no _ _ _ _ _ W hh)
    by_cases e1 : x.et = 2054
    · refine rprint_arpbad x.ps (PkR.size x) x.d x.s x.tag x.et x.tg (PkR.exE x) _ _ _ _ _ (PkR.exA x) (by rw [PkR.get5, (PkR.flagsA ho e1).1]) x.head.length x.head 1 rfl w (fun W => PkR.rformT ho W) (fun W => PkR.rencHead hx hh W) (fun V => ?_)
      refine Eth.rencodeArp_no x.op x.sha x.spa x.tha x.tpa V ?_
      cases g : Eth.arpFits x.op x.sha x.tha
      · rfl
      · exact absurd ⟨ho, hh, fun _ => g, fun e => by omega, fun e => by omega⟩ h
    by_cases e2 : x.et = 2048
    · have hf := PkR.flagsI ho e2
      cases g : x.l.ok
      · exact rprint_l4bad x.ps (PkR.size x) x.d x.s x.tag x.et x.tg (PkR.exE x) _ _ _ _ _ _ _ _ _ _ _ _ _ _ _ _ _ _ _ _ _ _ (PkR.exI x) (PkR.exL x) (by rw [PkR.get5, hf.1]) (by rw [PkR.get11, hf.2.1]) (PkR.g17 x) (PkR.g18 x) x.head.length x.head 1 rfl w (fun W => PkR.rformT ho W) (fun W => PkR.rencHead hx hh W) (fun U => renf_none x.l hx.l h9 g x.src x.dst U)
      · refine rprint_ipbad x.ps (PkR.size x) x.d x.s x.tag x.et x.tg (PkR.exE x) _ _ _ _ _ _ _ _ _ _ _ _ _ _ _ _ _ _ _ _ _ _ (PkR.exI x) (PkR.exL x) (by rw [PkR.get5, hf.1]) (by rw [PkR.get11, hf.2.1]) (PkR.g17 x) (PkR.g18 x) x.head.length x.l.body.length x.head (x.l.enc x.src x.dst) 1 rfl w (fun W => PkR.rformT ho W) (fun W => PkR.rencHead hx hh W) (fun U => renf_any x.l hx.l h9 g x.src x.dst hx.src hx.dst U) (fun U => ?_)
        refine Ip.rencode_no x.tos x.id x.fr x.ttl x.pr x.src x.dst x.io x.l.body.length U hx.iol ?_
        cases g2 : Ip.encOk x.tos x.id x.fr x.ttl x.pr x.io.length x.l.body.length
        · rfl
        · exact absurd ⟨ho, hh, fun e => absurd e e1, fun _ => g, fun _ => g2⟩ h
    · exact absurd ⟨ho, hh, fun e => absurd e e1, fun e => absurd e e2, fun e => absurd e e2⟩ h
  · exact rprint_form x.ps (PkR.size x) w (fun W => PkR.rformF hx ho W)
set_option maxHeartbeats 1000000 in
theorem PkR.rprintYes {x : PkR} (hx : x.Fine) (h9 : x.l.os.length ≤ 140737488355328) (h : x.Fits) (hl : x.bytes.length ≤ 9018) (w : World) : Calls Try.prog 12 #[.agg x.ps] w fun e w' => ∃ a cap, e = .returned (.tuple #[.slice a x.bytes.length cap, .int .i64 0]) ∧ RB w w' (.slice a x.bytes.length cap) x.bytes.length x.bytes := by
  obtain ⟨_, hn⟩ := PkR.sizes hx h
  rw [hn] at hl ⊢
  have ho := h.own
  by_cases e1 : x.et = 2054
  · have hi : x.inner = Eth.arpBytes x.op x.sha x.spa x.tha x.tpa := by unfold PkR.inner; rw [if_pos e1]
    have hf := PkR.flagsA ho e1
    have hb : x.bytes = x.head ++ Eth.arpBytes x.op x.sha x.spa x.tha x.tpa ++ x.bd ++ x.pd := by unfold PkR.bytes; rw [hi]
    rw [hi, arpBytes_len] at hl ⊢
    rw [hb]
    exact rprint_arp x.ps (PkR.size x) x.d x.s x.tag x.et x.tg (PkR.exE x) _ _ _ _ _ (PkR.exA x) x.bd x.pd hx.bd hx.pd (by rw [PkR.get5, hf.1]) (by rw [PkR.get11, hf.2]) (PkR.get34 x) (PkR.get35 x) x.head.length x.head _ hl w (fun W => PkR.rformT ho W) (fun W => PkR.rencHead hx h.head W) (fun W => Eth.rencodeArp_yes x.op x.sha x.spa x.tha x.tpa W hx.sha.1 hx.spa hx.tha.1 hx.tpa (h.arp e1))
  by_cases e2 : x.et = 2048
  · have hf := PkR.flagsI ho e2
    have hi : x.inner = x.ipb ++ x.l.enc x.src x.dst := by unfold PkR.inner; rw [if_neg e1, if_pos e2]
    have hil : x.inner.length = 20 + x.io.length + x.l.body.length := by rw [hi, List.length_append, PkR.ipb_len, L4R.enc_len]
    have hb : x.bytes = x.head ++ x.ipb ++ x.l.enc x.src x.dst ++ x.bd ++ x.pd := by unfold PkR.bytes; rw [hi, List.append_assoc x.head x.ipb]
    rw [hil, ← Nat.add_assoc] at hl ⊢
    rw [hb]
    exact rprint_ip x.ps (PkR.size x) x.d x.s x.tag x.et x.tg (PkR.exE x) _ _ _ _ _ _ _ _ _ _ _ _ _ _ _ _ _ _ _ _ _ _ (PkR.exI x) (PkR.exL x) x.bd x.pd hx.bd hx.pd (by rw [PkR.get5, hf.1]) (by rw [PkR.get11, hf.2.1]) (PkR.g17 x) (PkR.g18 x) (PkR.get34 x) (PkR.get35 x) x.head.length x.l.body.length (20 + x.io.length) x.head (x.l.enc x.src x.dst) x.ipb hl w (fun W => PkR.rformT ho W) (fun W => PkR.rencHead hx h.head W) (fun U => renf_any x.l hx.l h9 (h.l4 e2) x.src x.dst hx.src hx.dst U) (fun U => Ip.rencode_yes x.tos x.id x.fr x.ttl x.pr x.src x.dst x.io x.l.body.length U hx.src hx.dst hx.io (h.ip e2))
  · have hi : x.inner = [] := by unfold PkR.inner; rw [if_neg e1, if_neg e2]
    have hf := PkR.flagsP ho e1 e2
    have hb : x.bytes = x.head ++ x.bd ++ x.pd := by unfold PkR.bytes; rw [hi, List.append_nil]
    rw [hi, List.length_nil, Nat.add_zero] at hl ⊢
    rw [hb]
    exact rprint_plain x.ps (PkR.size x) x.d x.s x.tag x.et x.tg (PkR.exE x) x.bd x.pd hx.bd hx.pd (by rw [PkR.get5, hf.1]) (by rw [PkR.get11, hf.2.1]) (PkR.get34 x) (PkR.get35 x) x.head.length x.head hl w (fun W => PkR.rformT ho W) (fun W => PkR.rencHead hx h.head W)
set_option maxHeartbeats 1000000 in
theorem PkR.rprintLong {x : PkR} (hx : x.Fine) (h9 : x.l.os.length ≤ 140737488355328) (h : x.Fits) (hl : 9018 < x.bytes.length) (w : World) : Calls Try.prog 12 #[.agg x.ps] w fun e w' => e = .returned (.tuple #[.slice none 0 0, .int .i64 3]) ∧ Below w.heap.size w w' := by
  obtain ⟨hm, hn⟩ := PkR.sizes hx h
  have hh := x.head_pos
  have hin := PkR.inner_len h
  rw [hn] at hl hm
  have ho := h.own
  by_cases e1 : x.et = 2054
  · have hi : x.inner = Eth.arpBytes x.op x.sha x.spa x.tha x.tpa := by unfold PkR.inner; rw [if_pos e1]
    have hf := PkR.flagsA ho e1
    rw [hi, arpBytes_len] at hl hm
    exact rprint_arpL x.ps (PkR.size x) x.d x.s x.tag x.et x.tg (PkR.exE x) _ _ _ _ _ (PkR.exA x) x.bd x.pd hx.bd hx.pd (by rw [PkR.get5, hf.1]) (by rw [PkR.get11, hf.2]) (PkR.get34 x) (PkR.get35 x) x.head.length x.head _ (by omega) (by omega) hl (by omega) w (fun W => PkR.rformT ho W) (fun W => PkR.rencHead hx h.head W) (fun W => Eth.rencodeArp_yes x.op x.sha x.spa x.tha x.tpa W hx.sha.1 hx.spa hx.tha.1 hx.tpa (h.arp e1))
  by_cases e2 : x.et = 2048
  · have hf := PkR.flagsI ho e2
    have he := Ip.encOk_yes (h.ip e2)
    have h4 := he.most
    have hi : x.inner = x.ipb ++ x.l.enc x.src x.dst := by unfold PkR.inner; rw [if_neg e1, if_pos e2]
    have hil : x.inner.length = 20 + x.io.length + x.l.body.length := by rw [hi, List.length_append, PkR.ipb_len, L4R.enc_len]
    rw [hil] at hin
    rw [hil, ← Nat.add_assoc] at hl hm
    exact rprint_ipL x.ps (PkR.size x) x.d x.s x.tag x.et x.tg (PkR.exE x) _ _ _ _ _ _ _ _ _ _ _ _ _ _ _ _ _ _ _ _ _ _ (PkR.exI x) (PkR.exL x) x.bd x.pd hx.bd hx.pd (by rw [PkR.get5, hf.1]) (by rw [PkR.get11, hf.2.1]) (PkR.g17 x) (PkR.g18 x) (PkR.get34 x) (PkR.get35 x) x.head.length x.l.body.length (20 + x.io.length) x.head (x.l.enc x.src x.dst) x.ipb (by omega) (by omega) (by omega) (by omega) hl (by omega) w (fun W => PkR.rformT ho W) (fun W => PkR.rencHead hx h.head W) (fun U => renf_any x.l hx.l h9 (h.l4 e2) x.src x.dst hx.src hx.dst U) (fun U => Ip.rencode_yes x.tos x.id x.fr x.ttl x.pr x.src x.dst x.io x.l.body.length U hx.src hx.dst hx.io (h.ip e2))
  · have hi : x.inner = [] := by unfold PkR.inner; rw [if_neg e1, if_neg e2]
    have hf := PkR.flagsP ho e1 e2
    rw [hi, List.length_nil, Nat.add_zero] at hl hm
    exact rprint_plainL x.ps (PkR.size x) x.d x.s x.tag x.et x.tg (PkR.exE x) x.bd x.pd hx.bd hx.pd (by rw [PkR.get5, hf.1]) (by rw [PkR.get11, hf.2.1]) (PkR.get34 x) (PkR.get35 x) x.head.length x.head (by omega) hl (by omega) w (fun W => PkR.rformT ho W) (fun W => PkR.rencHead hx h.head W)
end Go.Proofs.Ytpiokeidcnbmbaa

namespace Go.Proofs.Ytpiokeidcnbmbaa
open Go.RowKit
set_option maxRecDepth 20000
set_option linter.unusedSimpArgs false
/-- A goal at which a walk stops. -/
@[irreducible] def StopP (p : Prop) : Prop := p
theorem StopP.out {p : Prop} (h : StopP p) : p := by unfold StopP at h; exact h
theorem StopP.mk {p : Prop} (h : p) : StopP p := by unfold StopP; exact h
set_option maxHeartbeats 4000000 in
theorem echo_0 (ps : Array Value) (h11 : ps[11]? = some (.bool false)) (w : World) :
    Calls Try.prog 15 #[.agg ps] w fun e w' => e = .returned (.tuple #[.agg zeroPk, .bool false]) ∧ Below w.heap.size w w' := by
  have L1 : Hid _ := Ca.two_first w (.cells ps 34) (.cells zeroPk 34)
  have L2 : Hid _ := Ca.two_last w (.cells ps 34) (.cells zeroPk 34)
  have LB : Hid _ := below2 w (.cells ps 34) (.cells zeroPk 34)

  go_enter Try.func15, Try.ntmps15
  go_wp2_with (first
    | refine Ca.wpList_build_as rfl 34 _ rfl zeroPk (by rw [List.map_toArray]; show Try.prog.built 34 [] = _; kernel_rfl) ?_
    | refine Ca.wpList_store_row rfl 34 _ _ rfl (w.heap.size + 1) zeroPk zeroPk 34 rfl rfl L2.out (info36 zsize) rfl one36 ?_
    | fail)
  intro W9 y1 y2 y3 y4
  go_wp2
  exact bodyPost_ret (results_pk (p := 2) (u := 3) rfl _ _ (w.heap.size + 1) zeroPk rfl y1 zsize) rfl ⟨rfl, LB.out.trans (y4.mono (by omega))⟩
set_option maxHeartbeats 4000000 in
theorem echo_1 (ps : Array Value) (tos id fr ttl pr src dst : Int) (io : List Int) (hI : ps.extract 12 (12 + 8) = #[.int .i64 tos, .int .i64 id, .int .i64 fr, .int .i64 ttl, .int .i64 pr, .int .u32 src, .int .u32 dst, .string (strOfNums io)]) (h11 : ps[11]? = some (.bool true)) (h1 : wholeB fr = false) (w : World) :
    Calls Try.prog 15 #[.agg ps] w fun e w' => e = .returned (.tuple #[.agg zeroPk, .bool false]) ∧ Below w.heap.size w w' := by
  have L1 : Hid _ := Ca.two_first w (.cells ps 34) (.cells zeroPk 34)
  have L2 : Hid _ := Ca.two_last w (.cells ps 34) (.cells zeroPk 34)
  have LB : Hid _ := below2 w (.cells ps 34) (.cells zeroPk 34)
  go_enter Try.func15, Try.ntmps15
  go_wp2_with (refine Ca.wpList_load_atw (by rfl) 30 _ rfl (w.heap.size) 12 8 rfl ps #[.int .i64 tos, .int .i64 id, .int .i64 fr, .int .i64 ttl, .int .i64 pr, .int .u32 src, .int .u32 dst, .string (strOfNums io)] 34 _ L1.out Try.underlying30 rfl hI rfl (by kernel_rfl) ?_)
  refine (ipwhole_any tos id fr ttl pr src dst io _).mono ?_
  rintro e W1 ⟨rfl, hb⟩
  rw [h1]
  have B_W1 : Hid (Below w.heap.size w W1) := LB.out.trans (hb.mono (by first | exact LB.out.size | (simp; omega)))
  have R1_W1 : Hid (W1.heap[w.heap.size]? = some (.cells ps 34 (0, 0))) := (hb.block _ (Ca.lt_of_heap L1.out)).trans L1.out
  have R2_W1 : Hid (W1.heap[w.heap.size + 1]? = some (.cells zeroPk 34 (0, 0))) := (hb.block _ (Ca.lt_of_heap L2.out)).trans L2.out
  clear hb L1 L2 LB
  go_wp2_with (first
    | refine Ca.wpList_build_as rfl 34 _ rfl zeroPk (by rw [List.map_toArray]; show Try.prog.built 34 [] = _; kernel_rfl) ?_
    | refine Ca.wpList_store_row rfl 34 _ _ rfl (w.heap.size + 1) zeroPk zeroPk 34 rfl rfl R2_W1.out (info36 zsize) rfl one36 ?_
    | fail)
  intro W9 y1 y2 y3 y4
  go_wp2
  exact bodyPost_ret (results_pk (p := 2) (u := 3) rfl _ _ (w.heap.size + 1) zeroPk rfl y1 zsize) rfl ⟨rfl, B_W1.out.trans (y4.mono (by omega))⟩
set_option maxHeartbeats 4000000 in
theorem echo_2 (ps : Array Value) (hs : ps.size = 36) (ho : ps.all (·.oneCell') = true) (tos id fr ttl pr src dst : Int) (io : List Int) (k ty co re sp dp : Int) (ns : Bool) (sq ak fl wi ur : Int) (lo ds : List Int) (hI : ps.extract 12 (12 + 8) = #[.int .i64 tos, .int .i64 id, .int .i64 fr, .int .i64 ttl, .int .i64 pr, .int .u32 src, .int .u32 dst, .string (strOfNums io)]) (hL : ps.extract 20 (20 + 14) = #[.int .i64 k, .int .i64 ty, .int .i64 co, .int .u32 re, .int .i64 sp, .int .i64 dp, .bool ns, .int .u32 sq, .int .u32 ak, .int .i64 fl, .int .i64 wi, .int .i64 ur, .string (strOfNums lo), .string (strOfNums ds)]) (h11 : ps[11]? = some (.bool true)) (h1 : wholeB fr = true) (h2 : askedB k ty co = false) (w : World) :
    Calls Try.prog 15 #[.agg ps] w fun e w' => e = .returned (.tuple #[.agg zeroPk, .bool false]) ∧ Below w.heap.size w w' := by
  have L1 : Hid _ := Ca.two_first w (.cells ps 34) (.cells zeroPk 34)
  have L2 : Hid _ := Ca.two_last w (.cells ps 34) (.cells zeroPk 34)
  have LB : Hid _ := below2 w (.cells ps 34) (.cells zeroPk 34)
  have HS : Hid (ps.size = 36) := hs
  have HO : Hid (ps.all (·.oneCell') = true) := ho
  clear hs ho
  go_enter Try.func15, Try.ntmps15
  go_wp2_with (refine Ca.wpList_load_atw (by rfl) 30 _ rfl (w.heap.size) 12 8 rfl ps #[.int .i64 tos, .int .i64 id, .int .i64 fr, .int .i64 ttl, .int .i64 pr, .int .u32 src, .int .u32 dst, .string (strOfNums io)] 34 _ L1.out Try.underlying30 rfl hI rfl (by kernel_rfl) ?_)
  refine (ipwhole_any tos id fr ttl pr src dst io _).mono ?_
  rintro e W1 ⟨rfl, hb⟩
  rw [h1]
  have B_W1 : Hid (Below w.heap.size w W1) := LB.out.trans (hb.mono (by first | exact LB.out.size | (simp; omega)))
  have R1_W1 : Hid (W1.heap[w.heap.size]? = some (.cells ps 34 (0, 0))) := (hb.block _ (Ca.lt_of_heap L1.out)).trans L1.out
  have R2_W1 : Hid (W1.heap[w.heap.size + 1]? = some (.cells zeroPk 34 (0, 0))) := (hb.block _ (Ca.lt_of_heap L2.out)).trans L2.out
  clear hb L1 L2 LB
  clear h11
  go_wp2_with (refine Ca.wpList_load_atw (by rfl) 32 _ rfl (w.heap.size) 20 14 rfl ps #[.int .i64 k, .int .i64 ty, .int .i64 co, .int .u32 re, .int .i64 sp, .int .i64 dp, .bool ns, .int .u32 sq, .int .u32 ak, .int .i64 fl, .int .i64 wi, .int .i64 ur, .string (strOfNums lo), .string (strOfNums ds)] 34 _ R1_W1.out Try.underlying32 rfl hL rfl (by kernel_rfl) ?_)
  refine (asked_any k ty co re sp dp ns sq ak fl wi ur lo ds _).mono ?_
  rintro e W2 ⟨rfl, hb⟩
  rw [h2]
  have B_W2 : Hid (Below w.heap.size w W2) := B_W1.out.trans (hb.mono (by first | exact B_W1.out.size | (simp; omega)))
  have R1_W2 : Hid (W2.heap[w.heap.size]? = some (.cells ps 34 (0, 0))) := (hb.block _ (Ca.lt_of_heap R1_W1.out)).trans R1_W1.out
  have R2_W2 : Hid (W2.heap[w.heap.size + 1]? = some (.cells zeroPk 34 (0, 0))) := (hb.block _ (Ca.lt_of_heap R2_W1.out)).trans R2_W1.out
  clear hb B_W1 R1_W1 R2_W1
  go_wp2_with (first
    | refine Ca.wpList_build_as rfl 34 _ rfl zeroPk (by rw [List.map_toArray]; show Try.prog.built 34 [] = _; kernel_rfl) ?_
    | refine Ca.wpList_store_row rfl 34 _ _ rfl (w.heap.size + 1) zeroPk zeroPk 34 rfl rfl R2_W2.out (info36 zsize) rfl one36 ?_
    | fail)
  intro W9 y1 y2 y3 y4
  go_wp2
  exact bodyPost_ret (results_pk (p := 2) (u := 3) rfl _ _ (w.heap.size + 1) zeroPk rfl y1 zsize) rfl ⟨rfl, B_W2.out.trans (y4.mono (by omega))⟩
/-- The reply to an echo. -/
def echoQ (ps : Array Value) (d s src dst : Int) : Array Value := ((((((ps.setIfInBounds 0 (.int .u64 s)).setIfInBounds 1 (.int .u64 d)).setIfInBounds 18 (.int .u32 src)).setIfInBounds 17 (.int .u32 dst)).setIfInBounds 15 (.int .i64 64)).setIfInBounds 21 (.int .i64 0))
theorem echoQ_size {ps : Array Value} (h : ps.size = 36) (d s src dst : Int) : (echoQ ps d s src dst).size = 36 := by simp [echoQ, h]
theorem echoQ_one {ps : Array Value} (ho : ps.all (·.oneCell') = true) (d s src dst : Int) : (echoQ ps d s src dst).all (·.oneCell') = true := (Ca.set_one (Ca.set_one (Ca.set_one (Ca.set_one (Ca.set_one (Ca.set_one ho rfl) rfl) rfl) rfl) rfl) rfl)
set_option maxHeartbeats 4000000 in
theorem echo_3 (ps : Array Value) (hs : ps.size = 36) (ho : ps.all (·.oneCell') = true) (tos id fr ttl pr src dst : Int) (io : List Int) (k ty co re sp dp : Int) (ns : Bool) (sq ak fl wi ur : Int) (lo ds : List Int) (hI : ps.extract 12 (12 + 8) = #[.int .i64 tos, .int .i64 id, .int .i64 fr, .int .i64 ttl, .int .i64 pr, .int .u32 src, .int .u32 dst, .string (strOfNums io)]) (hL : ps.extract 20 (20 + 14) = #[.int .i64 k, .int .i64 ty, .int .i64 co, .int .u32 re, .int .i64 sp, .int .i64 dp, .bool ns, .int .u32 sq, .int .u32 ak, .int .i64 fl, .int .i64 wi, .int .i64 ur, .string (strOfNums lo), .string (strOfNums ds)]) (d s : Int) (h11 : ps[11]? = some (.bool true)) (h1 : wholeB fr = true) (h2 : askedB k ty co = true) (g0 : ps[0]? = some (.int .u64 d)) (g1 : ps[1]? = some (.int .u64 s)) (g15 : ps[15]? = some (.int .i64 ttl)) (g17 : ps[17]? = some (.int .u32 src)) (g18 : ps[18]? = some (.int .u32 dst)) (g21 : ps[21]? = some (.int .i64 ty)) (w : World) :
    Calls Try.prog 15 #[.agg ps] w fun e w' => e = .returned (.tuple #[.agg (echoQ ps d s src dst), .bool true]) ∧ Below w.heap.size w w' := by
  have Zq : Hid ((echoQ ps d s src dst).size = 36) := echoQ_size hs d s src dst
  have Oq : Hid ((echoQ ps d s src dst).all (·.oneCell') = true) := echoQ_one ho d s src dst
  have G0 : Hid (ps[0]? = some (.int .u64 d)) := g0
  have G1 : Hid (ps[1]? = some (.int .u64 s)) := g1
  have G15 : Hid (ps[15]? = some (.int .i64 ttl)) := g15
  have G17 : Hid (ps[17]? = some (.int .u32 src)) := g17
  have G18 : Hid (ps[18]? = some (.int .u32 dst)) := g18
  have G21 : Hid (ps[21]? = some (.int .i64 ty)) := g21
  clear g0 g1 g15 g17 g18 g21
  have L1 : Hid _ := Ca.two_first w (.cells ps 34) (.cells zeroPk 34)
  have L2 : Hid _ := Ca.two_last w (.cells ps 34) (.cells zeroPk 34)
  have LB : Hid _ := below2 w (.cells ps 34) (.cells zeroPk 34)
  have HS : Hid (ps.size = 36) := hs
  clear hs ho
  go_enter Try.func15, Try.ntmps15
  go_wp2_with (refine Ca.wpList_load_atw (by rfl) 30 _ rfl (w.heap.size) 12 8 rfl ps #[.int .i64 tos, .int .i64 id, .int .i64 fr, .int .i64 ttl, .int .i64 pr, .int .u32 src, .int .u32 dst, .string (strOfNums io)] 34 _ L1.out Try.underlying30 rfl hI rfl (by kernel_rfl) ?_)
  refine (ipwhole_any tos id fr ttl pr src dst io _).mono ?_
  rintro e W1 ⟨rfl, hb⟩
  rw [h1]
  have B_W1 : Hid (Below w.heap.size w W1) := LB.out.trans (hb.mono (by first | exact LB.out.size | (simp; omega)))
  have R1_W1 : Hid (W1.heap[w.heap.size]? = some (.cells ps 34 (0, 0))) := (hb.block _ (Ca.lt_of_heap L1.out)).trans L1.out
  have R2_W1 : Hid (W1.heap[w.heap.size + 1]? = some (.cells zeroPk 34 (0, 0))) := (hb.block _ (Ca.lt_of_heap L2.out)).trans L2.out
  clear hb L1 L2 LB
  clear h11
  go_wp2_with (refine Ca.wpList_load_atw (by rfl) 32 _ rfl (w.heap.size) 20 14 rfl ps #[.int .i64 k, .int .i64 ty, .int .i64 co, .int .u32 re, .int .i64 sp, .int .i64 dp, .bool ns, .int .u32 sq, .int .u32 ak, .int .i64 fl, .int .i64 wi, .int .i64 ur, .string (strOfNums lo), .string (strOfNums ds)] 34 _ R1_W1.out Try.underlying32 rfl hL rfl (by kernel_rfl) ?_)
  refine (asked_any k ty co re sp dp ns sq ak fl wi ur lo ds _).mono ?_
  rintro e W2 ⟨rfl, hb⟩
  rw [h2]
  have B_W2 : Hid (Below w.heap.size w W2) := B_W1.out.trans (hb.mono (by first | exact B_W1.out.size | (simp; omega)))
  have R1_W2 : Hid (W2.heap[w.heap.size]? = some (.cells ps 34 (0, 0))) := (hb.block _ (Ca.lt_of_heap R1_W1.out)).trans R1_W1.out
  have R2_W2 : Hid (W2.heap[w.heap.size + 1]? = some (.cells zeroPk 34 (0, 0))) := (hb.block _ (Ca.lt_of_heap R2_W1.out)).trans R2_W1.out
  clear hb B_W1 R1_W1 R2_W1
  have c0 := (Ca.cell_row R1_W2.out 0).trans (show (ps)[0]? = some (.int .u64 d) from by exact G0.out)
  have f0 := frozen_of_row W2 _ 0 _ _ R1_W2.out
  have c1 := (Ca.cell_row R1_W2.out 1).trans (show (ps)[1]? = some (.int .u64 s) from by exact G1.out)
  have f1 := frozen_of_row W2 _ 1 _ _ R1_W2.out
  go_wp2_with (show wpList _ _ _ ({ dst := some 30, op := _, type := _, pos := _, after := _, guard := _ } :: _) _ _; refine StopP.out ?_)
  clear c0 f0 c1 f1
  have R1_W3 : Hid (((W2.setCell ⟨w.heap.size, 0, none⟩ (.int .u64 s)).setCell ⟨w.heap.size, 1, none⟩ (.int .u64 d)).heap[w.heap.size]? = some (.cells ((ps.setIfInBounds 0 (.int .u64 s)).setIfInBounds 1 (.int .u64 d)) 34 (0, 0))) := (Ca.row_setCell (Ca.row_setCell R1_W2.out 0 (.int .u64 s)) 1 (.int .u64 d))
  have R2_W3 : Hid (((W2.setCell ⟨w.heap.size, 0, none⟩ (.int .u64 s)).setCell ⟨w.heap.size, 1, none⟩ (.int .u64 d)).heap[w.heap.size + 1]? = some (.cells zeroPk 34 (0, 0))) := ((Below.heap_setCell _ _ _ _ (show w.heap.size + 1 ≠ w.heap.size by omega)).trans ((Below.heap_setCell _ _ _ _ (show w.heap.size + 1 ≠ w.heap.size by omega)).trans R2_W2.out))
  have B_W3 : Hid (Below w.heap.size w ((W2.setCell ⟨w.heap.size, 0, none⟩ (.int .u64 s)).setCell ⟨w.heap.size, 1, none⟩ (.int .u64 d))) := ((B_W2.out.setCell (Nat.le_refl _) _).setCell (Nat.le_refl _) _)
  obtain ⟨W3, hW⟩ : ∃ V, ((W2.setCell ⟨w.heap.size, 0, none⟩ (.int .u64 s)).setCell ⟨w.heap.size, 1, none⟩ (.int .u64 d)) = V := ⟨_, rfl⟩
  rw [hW] at R1_W3 R2_W3 B_W3 ⊢
  clear hW R1_W2 R2_W2 B_W2
  refine StopP.mk ?_
  have c17 := (Ca.cell_row R1_W3.out 17).trans (show (((ps.setIfInBounds 0 (.int .u64 s)).setIfInBounds 1 (.int .u64 d)))[17]? = some (.int .u32 src) from by rw [Array.getElem?_setIfInBounds_ne (by decide)]; rw [Array.getElem?_setIfInBounds_ne (by decide)]; exact G17.out)
  have f17 := frozen_of_row W3 _ 17 _ _ R1_W3.out
  have c18 := (Ca.cell_row R1_W3.out 18).trans (show (((ps.setIfInBounds 0 (.int .u64 s)).setIfInBounds 1 (.int .u64 d)))[18]? = some (.int .u32 dst) from by rw [Array.getElem?_setIfInBounds_ne (by decide)]; rw [Array.getElem?_setIfInBounds_ne (by decide)]; exact G18.out)
  have f18 := frozen_of_row W3 _ 18 _ _ R1_W3.out
  go_wp2_with (show wpList _ _ _ ({ dst := some 40, op := _, type := _, pos := _, after := _, guard := _ } :: _) _ _; refine StopP.out ?_)
  clear c17 f17 c18 f18
  have R1_W4 : Hid (((W3.setCell ⟨w.heap.size, 18, none⟩ (.int .u32 src)).setCell ⟨w.heap.size, 17, none⟩ (.int .u32 dst)).heap[w.heap.size]? = some (.cells ((((ps.setIfInBounds 0 (.int .u64 s)).setIfInBounds 1 (.int .u64 d)).setIfInBounds 18 (.int .u32 src)).setIfInBounds 17 (.int .u32 dst)) 34 (0, 0))) := (Ca.row_setCell (Ca.row_setCell R1_W3.out 18 (.int .u32 src)) 17 (.int .u32 dst))
  have R2_W4 : Hid (((W3.setCell ⟨w.heap.size, 18, none⟩ (.int .u32 src)).setCell ⟨w.heap.size, 17, none⟩ (.int .u32 dst)).heap[w.heap.size + 1]? = some (.cells zeroPk 34 (0, 0))) := ((Below.heap_setCell _ _ _ _ (show w.heap.size + 1 ≠ w.heap.size by omega)).trans ((Below.heap_setCell _ _ _ _ (show w.heap.size + 1 ≠ w.heap.size by omega)).trans R2_W3.out))
  have B_W4 : Hid (Below w.heap.size w ((W3.setCell ⟨w.heap.size, 18, none⟩ (.int .u32 src)).setCell ⟨w.heap.size, 17, none⟩ (.int .u32 dst))) := ((B_W3.out.setCell (Nat.le_refl _) _).setCell (Nat.le_refl _) _)
  obtain ⟨W4, hW⟩ : ∃ V, ((W3.setCell ⟨w.heap.size, 18, none⟩ (.int .u32 src)).setCell ⟨w.heap.size, 17, none⟩ (.int .u32 dst)) = V := ⟨_, rfl⟩
  rw [hW] at R1_W4 R2_W4 B_W4 ⊢
  clear hW R1_W3 R2_W3 B_W3
  refine StopP.mk ?_
  have c15 := (Ca.cell_row R1_W4.out 15).trans (show (((((ps.setIfInBounds 0 (.int .u64 s)).setIfInBounds 1 (.int .u64 d)).setIfInBounds 18 (.int .u32 src)).setIfInBounds 17 (.int .u32 dst)))[15]? = some (.int .i64 ttl) from by rw [Array.getElem?_setIfInBounds_ne (by decide)]; rw [Array.getElem?_setIfInBounds_ne (by decide)]; rw [Array.getElem?_setIfInBounds_ne (by decide)]; rw [Array.getElem?_setIfInBounds_ne (by decide)]; exact G15.out)
  have f15 := frozen_of_row W4 _ 15 _ _ R1_W4.out
  go_wp2_with (show wpList _ _ _ ({ dst := some 42, op := _, type := _, pos := _, after := _, guard := _ } :: _) _ _; refine StopP.out ?_)
  clear c15 f15
  have R1_W5 : Hid ((W4.setCell ⟨w.heap.size, 15, none⟩ (.int .i64 64)).heap[w.heap.size]? = some (.cells (((((ps.setIfInBounds 0 (.int .u64 s)).setIfInBounds 1 (.int .u64 d)).setIfInBounds 18 (.int .u32 src)).setIfInBounds 17 (.int .u32 dst)).setIfInBounds 15 (.int .i64 64)) 34 (0, 0))) := (Ca.row_setCell R1_W4.out 15 (.int .i64 64))
  have R2_W5 : Hid ((W4.setCell ⟨w.heap.size, 15, none⟩ (.int .i64 64)).heap[w.heap.size + 1]? = some (.cells zeroPk 34 (0, 0))) := ((Below.heap_setCell _ _ _ _ (show w.heap.size + 1 ≠ w.heap.size by omega)).trans R2_W4.out)
  have B_W5 : Hid (Below w.heap.size w (W4.setCell ⟨w.heap.size, 15, none⟩ (.int .i64 64))) := (B_W4.out.setCell (Nat.le_refl _) _)
  obtain ⟨W5, hW⟩ : ∃ V, (W4.setCell ⟨w.heap.size, 15, none⟩ (.int .i64 64)) = V := ⟨_, rfl⟩
  rw [hW] at R1_W5 R2_W5 B_W5 ⊢
  clear hW R1_W4 R2_W4 B_W4
  refine StopP.mk ?_
  have c21 := (Ca.cell_row R1_W5.out 21).trans (show ((((((ps.setIfInBounds 0 (.int .u64 s)).setIfInBounds 1 (.int .u64 d)).setIfInBounds 18 (.int .u32 src)).setIfInBounds 17 (.int .u32 dst)).setIfInBounds 15 (.int .i64 64)))[21]? = some (.int .i64 ty) from by rw [Array.getElem?_setIfInBounds_ne (by decide)]; rw [Array.getElem?_setIfInBounds_ne (by decide)]; rw [Array.getElem?_setIfInBounds_ne (by decide)]; rw [Array.getElem?_setIfInBounds_ne (by decide)]; rw [Array.getElem?_setIfInBounds_ne (by decide)]; exact G21.out)
  have f21 := frozen_of_row W5 _ 21 _ _ R1_W5.out
  go_wp2_with (show wpList _ _ _ ({ dst := some 44, op := _, type := _, pos := _, after := _, guard := _ } :: _) _ _; refine StopP.out ?_)
  clear c21 f21
  have R1_W6 : Hid ((W5.setCell ⟨w.heap.size, 21, none⟩ (.int .i64 0)).heap[w.heap.size]? = some (.cells ((((((ps.setIfInBounds 0 (.int .u64 s)).setIfInBounds 1 (.int .u64 d)).setIfInBounds 18 (.int .u32 src)).setIfInBounds 17 (.int .u32 dst)).setIfInBounds 15 (.int .i64 64)).setIfInBounds 21 (.int .i64 0)) 34 (0, 0))) := (Ca.row_setCell R1_W5.out 21 (.int .i64 0))
  have R2_W6 : Hid ((W5.setCell ⟨w.heap.size, 21, none⟩ (.int .i64 0)).heap[w.heap.size + 1]? = some (.cells zeroPk 34 (0, 0))) := ((Below.heap_setCell _ _ _ _ (show w.heap.size + 1 ≠ w.heap.size by omega)).trans R2_W5.out)
  have B_W6 : Hid (Below w.heap.size w (W5.setCell ⟨w.heap.size, 21, none⟩ (.int .i64 0))) := (B_W5.out.setCell (Nat.le_refl _) _)
  obtain ⟨W6, hW⟩ : ∃ V, (W5.setCell ⟨w.heap.size, 21, none⟩ (.int .i64 0)) = V := ⟨_, rfl⟩
  rw [hW] at R1_W6 R2_W6 B_W6 ⊢
  clear hW R1_W5 R2_W5 B_W5
  refine StopP.mk ?_
  go_wp2_with (first
    | refine wpList_load_row rfl 34 _ rfl (w.heap.size) rfl 34 (echoQ ps d s src dst) (0, 0) _ R1_W6.out Try.underlying34 rfl (info36 Zq.out) ?_
    | refine Ca.wpList_store_row rfl 34 _ _ rfl (w.heap.size + 1) zeroPk (echoQ ps d s src dst) 34 rfl rfl R2_W6.out (info36 Zq.out) (Eq.trans (b := 36) rfl Zq.out.symm) Oq.out ?_
    | fail)
  intro W9 y1 y2 y3 y4
  go_wp2
  exact bodyPost_ret (results_pk (p := 2) (u := 3) rfl _ _ (w.heap.size + 1) (echoQ ps d s src dst) rfl y1 Zq.out) rfl ⟨rfl, B_W6.out.trans (y4.mono (by omega))⟩
end Go.Proofs.Ytpiokeidcnbmbaa

namespace Go.Proofs.Ytpiokeidcnbmbaa
open Go.RowKit
set_option maxRecDepth 20000
def livePk : Array Value := #[.int .u64 1, .int .u64 2, .bool false, .int .i64 0, .int .i64 2048, .bool false, .int .i64 0, .int .u64 0, .int .u32 0, .int .u64 0, .int .u32 0, .bool true, .int .i64 0, .int .i64 0, .int .i64 0, .int .i64 9, .int .i64 1, .int .u32 167772161, .int .u32 167772162, .string (strOfNums []), .int .i64 1, .int .i64 8, .int .i64 0, .int .u32 458752, .int .i64 0, .int .i64 0, .bool false, .int .u32 0, .int .u32 0, .int .i64 0, .int .i64 0, .int .i64 0, .string (strOfNums []), .string (strOfNums [112, 105, 110, 103]), .string (strOfNums []), .string (strOfNums [112, 97, 100])]
def liveL : L4R := ⟨1, 8, 0, 458752, 0, 0, false, 0, 0, 0, 0, 0, [], [112, 105, 110, 103]⟩
theorem liveL_fine : liveL.Fine := ⟨by decide, by decide, by decide, fun i => by simp [liveL], fun i => by
  rcases i with _ | _ | _ | _ | i <;> simp [liveL], by decide⟩
theorem liveL_ok : liveL.ok = true := by decide +kernel
/-- The bytes of the IPv4 packet, and of the whole. -/
def liveE : List Int := liveL.enc 167772161 167772162
def liveI : List Int := Ip.ipB 0 0 0 9 1 167772161 167772162 [] 12
def liveB : List Int := Eth.headBytes 1 2 false 0 2048 ++ (liveI ++ liveE) ++ [] ++ [112, 97, 100]
theorem liveL_len : liveL.body.length = 12 := by decide +kernel
theorem live_eq (W : World) : (binOp .eql 34 (.agg livePk) (.agg livePk)).run Try.prog W = .ok (.bool true) W := by kernel_rfl
theorem live_form (w : World) : Calls Try.prog 28 #[.agg livePk] w fun e w' => e = .returned (.bool true) ∧ Below w.heap.size w w' :=
  form_ip livePk rfl 1 2 0 false 0 0 0 9 1 167772161 167772162 [] 1 8 0 458752 0 0 false 0 0 0 0 0 [] [112, 105, 110, 103] (strOfNums [112, 97, 100]) (by kernel_rfl) (by kernel_rfl) (by kernel_rfl) (by kernel_rfl) (by kernel_rfl) 1 true w
    (fun W => live_eq W) (fun W => kindOf_any 0 0 0 9 1 167772161 167772162 [] W)
theorem live_inner (w : World) : Calls Try.prog 30 #[.agg livePk] w fun e w' => ∃ a cap, e = .returned (.tuple #[.slice a 32 cap, .int .i64 0]) ∧ RB w w' (.slice a 32 cap) 32 (liveI ++ liveE) := by
  refine inner_ip livePk (by kernel_rfl) (by kernel_rfl) 0 0 0 9 1 167772161 167772162 [] 1 8 0 458752 0 0 false 0 0 0 0 0 [] [112, 105, 110, 103] (by kernel_rfl) (by kernel_rfl) 32 (liveI ++ liveE) w (fun W => ?_)
  refine printIp_ok 0 0 0 9 1 167772161 167772162 [] 1 8 0 458752 0 0 false 0 0 0 0 0 [] [112, 105, 110, 103] 12 20 liveE liveI (by omega) W (fun V => ?_) (fun V => ?_)
  · have := encode_ok liveL liveL_fine liveL_ok 167772161 167772162 (by omega) (by omega) V
    rw [liveL_len] at this
    exact this
  · exact Ip.encode_yes 0 0 0 9 1 167772161 167772162 [] 12 V (by omega) (by omega) (fun i => by simp) (by decide +kernel)
theorem fits_all {L : List Int} (h : L.all (fun z => decide (0 ≤ z ∧ z ≤ 255)) = true) : ∀ i, 0 ≤ L.getD i 0 ∧ L.getD i 0 ≤ 255 := by
  intro i
  by_cases hi : i < L.length
  · have := (List.all_eq_true.1 h) (L.getD i 0) (by simp [List.getD_eq_getElem?_getD, hi])
    simpa using this
  · simp [List.getD_eq_getElem?_getD, List.getElem?_eq_none (by omega : L.length ≤ i)]
theorem live_fits : ∀ i, 0 ≤ (liveI ++ liveE).getD i 0 ∧ (liveI ++ liveE).getD i 0 ≤ 255 := fits_all (by decide +kernel)
theorem live_print (w : World) : Calls Try.prog 11 #[.agg livePk] w fun e w' => ∃ a cap, e = .returned (.tuple #[.slice a 49 cap, .int .i64 0]) ∧ RB w w' (.slice a 49 cap) 49 liveB := by
  refine print_ok livePk rfl 1 2 0 2048 false (by kernel_rfl) [] [112, 97, 100] (by kernel_rfl) (by kernel_rfl) (fun i => by simp) (fun i => by rcases i with _ | _ | _ | i <;> simp) 14 32 (Eth.headBytes 1 2 false 0 2048) (liveI ++ liveE) live_fits (by decide) w (fun W => live_form W) (fun W => ?_) (fun W => live_inner W)
  have := Eth.encodeHead_plain 1 2 0 2048 W (by omega) (by omega) (by decide +kernel)
  rw [show (Eth.headBytes 1 2 false 0 2048).length = 14 by decide +kernel] at this
  exact this
end Go.Proofs.Ytpiokeidcnbmbaa

namespace Go.Proofs.Ytpiokeidcnbmbaa
open Go.RowKit
set_option maxRecDepth 20000
theorem live_mok : Ip.MOk (liveB.drop 14) ((49 - 14 : Nat) : Int) 20 := by
  constructor <;> decide +kernel
theorem live_dec : (liveB.drop 34).take (46 - 34) = liveE := by decide +kernel
theorem live_lenB : liveB.length = 49 := by decide +kernel
theorem live_parse (w : World) (b off cap : Nat) (h : BS w (some ⟨b, off, none⟩) 49 liveB) (hcap : 49 ≤ cap) (hm : cap ≤ 9223372036854775807) :
    Calls Try.prog 8 #[.slice (some ⟨b, off, none⟩) 49 cap] w fun e w' => e = .returned (.tuple #[.agg livePk, .int .i64 0]) ∧ Below w.heap.size w w' := by
  have := parse_ok14A w b off 49 cap 34 46 liveB h 20 32 rfl rfl (by omega) (by omega) (by omega) hcap (by omega) (by omega) 1 2 0 false 0 0 0 9 1 167772161 167772162 [] (by decide +kernel) 1 8 0 458752 0 0 false 0 0 0 0 0 [] [112, 105, 110, 103] (strOfNums [112, 97, 100]) (by kernel_rfl)
    (fun W hB => ?_) (fun W hB => ?_) (fun W hB => ?_)
  · exact this
  · have := Eth.head_plain W b off 49 cap liveB hB hcap hm (by omega) (by omega) (by decide +kernel)
    rw [show num (liveB.take 6) = 1 by decide +kernel, show num ((liveB.drop 6).take 6) = 2 by decide +kernel, show num ((liveB.drop 12).take 2) = 2048 by decide +kernel] at this
    exact this
  · have := (Ip.decode_any W (some ⟨b, off + 14, none⟩) (49 - 14) (cap - 14) (liveB.drop 14) hB (by omega)).2 20 live_mok
    rw [show (liveB.drop 14).getD 2 0 * 256 + (liveB.drop 14).getD 3 0 = 32 by decide +kernel, show Ip.ipF (liveB.drop 14) 20 = .agg #[.int .i64 0, .int .i64 0, .int .i64 0, .int .i64 9, .int .i64 1, .int .u32 167772161, .int .u32 167772162, .string (strOfNums [])] by kernel_rfl] at this
    exact this
  · have hE : BS W (some ⟨b, off + 34, none⟩) (46 - 34) liveE := by
      rw [← live_dec]
      exact (hB.drop (by omega) 34 (by omega)).take (46 - 34) (by omega)
    have := decode_any 167772161 167772162 1 (by omega) (by omega) (some ⟨b, off + 34, none⟩) (46 - 34) (cap - 34) liveE (by omega) (fun x e => ⟨b, off + 34, by cases e; rfl⟩) (fun e => by cases e) W hE
    have hd : decE 167772161 167772162 1 liveE = 0 ∧ decR 167772161 167772162 1 liveE = liveL := dec_own liveL_fine liveL_ok 167772161 167772162 (by omega) (by omega)
    rw [show kindV 1 = 1 from rfl, hd.1, hd.2] at this
    exact this
end Go.Proofs.Ytpiokeidcnbmbaa

namespace Go.Proofs.Ytpiokeidcnbmbaa
open Go.RowKit
set_option maxRecDepth 20000
theorem echoType_8 (w : World) : Calls Try.prog 56 #[.int .i64 8] w fun e w' => e = .returned (.bool true) ∧ w' = w := by
  go_enter Try.func56, Try.ntmps56
  go_wp2
  go_ret
  exact ⟨rfl, rfl⟩
set_option maxHeartbeats 2000000 in
theorem live_ports (w : World) : Calls Try.prog 27 #[.agg livePk] w fun e w' => e = .returned (.tuple #[.int .i64 7, .int .i64 7]) ∧ Below w.heap.size w w' := by
  obtain ⟨ps, hps⟩ : ∃ p, livePk = p := ⟨_, rfl⟩
  have h11 : ps[11]? = some (.bool true) := by rw [← hps]; kernel_rfl
  have h20 : ps[20]? = some (.int .i64 1) := by rw [← hps]; kernel_rfl
  have h21 : ps[21]? = some (.int .i64 8) := by rw [← hps]; kernel_rfl
  have h23 : ps[23]? = some (.int .u32 458752) := by rw [← hps]; kernel_rfl
  rw [hps]
  clear hps
  go_enter Try.func27, Try.ntmps27
  go_wp2_with (go_at_call 56; refine (echoType_8 _).mono ?_; rintro e w' ⟨rfl, rfl⟩)
  go_ret2
  exact ⟨rfl, below1 w _⟩
theorem live_echo (w : World) : Calls Try.prog 15 #[.agg livePk] w fun e w' => e = .returned (.tuple #[.agg (echoQ livePk 1 2 167772161 167772162), .bool true]) ∧ Below w.heap.size w w' :=
  echo_3 livePk rfl (by kernel_rfl) 0 0 0 9 1 167772161 167772162 [] 1 8 0 458752 0 0 false 0 0 0 0 0 [] [112, 105, 110, 103] (by kernel_rfl) (by kernel_rfl) 1 2 (by kernel_rfl) (by decide +kernel) (by decide +kernel) (by kernel_rfl) (by kernel_rfl) (by kernel_rfl) (by kernel_rfl) (by kernel_rfl) (by kernel_rfl) w
end Go.Proofs.Ytpiokeidcnbmbaa

namespace Go.Proofs.Ytpiokeidcnbmbaa
open Go.RowKit
set_option maxRecDepth 20000
theorem livePk_size : livePk.size = 36 := rfl
theorem livePk_one : livePk.all (·.oneCell') = true := by kernel_rfl
theorem liveB_fits : ∀ i, 0 ≤ liveB.getD i 0 ∧ liveB.getD i 0 ≤ 255 := fits_all (by decide +kernel)
set_option maxHeartbeats 4000000 in
theorem lives_any (w : World) : Calls Try.prog 10 #[] w fun e w' => e = .returned (.bool true) ∧ Below w.heap.size w w' := by
  have Zq : Hid ((echoQ livePk 1 2 167772161 167772162).size = 36) := echoQ_size livePk_size _ _ _ _
  have Oq : Hid ((echoQ livePk 1 2 167772161 167772162).all (·.oneCell') = true) := echoQ_one livePk_one _ _ _ _
  go_enter Try.func10, Try.ntmps10
  go_wp2_with (first
    | refine Ca.wpList_build_as rfl 34 _ rfl livePk (by rw [List.map_toArray]; kernel_rfl) ?_
    | refine Ca.wpList_store_new rfl 34 _ _ rfl zeroPk livePk _ rfl rfl rfl (info36 livePk_size) rfl livePk_one ?_
    | refine wpList_load_row rfl 34 _ rfl (w.heap.size) rfl 34 livePk (0, 0) _ (heap_alloc_new w _) Try.underlying34 rfl (info36 livePk_size) ?_
    | fail)
  refine (live_print _).mono ?_
  rintro e W1 ⟨a, cap, rfl, r1⟩
  have hb := r1.bel
  have hcc := own_caps r1.own
  obtain ⟨g, rfl, hg1, hg2⟩ := own_some r1.own (by omega)
  have H1 : Hid (BS W1 (some ⟨g, 0, none⟩) 49 liveB) := own_bs r1.own liveB_fits (by omega)
  have B_1 : Hid (Below w.heap.size w W1) := (below1 w _).trans (hb.mono (by simp))
  have R1_1 : Hid (W1.heap[w.heap.size]? = some (.cells livePk 34 (0, 0))) := (hb.block _ (Ca.lt_of_heap (heap_alloc_new w _))).trans (heap_alloc_new w _)
  clear hb r1 hg1 hg2
  go_wp2_with fail
  refine (live_parse _ g 0 cap H1.out hcc.1 hcc.2).mono ?_
  rintro e W2 ⟨rfl, hb⟩
  have B_2 : Hid (Below w.heap.size w W2) := B_1.out.trans (hb.mono B_1.out.size)
  have R1_2 : Hid (W2.heap[w.heap.size]? = some (.cells livePk 34 (0, 0))) := (hb.block _ (Ca.lt_of_heap R1_1.out)).trans R1_1.out
  have hlt2 : Hid (w.heap.size < W2.heap.size) := Ca.lt_of_heap R1_2.out
  have R1_3 : Hid ((W2.alloc (.cells livePk 34)).heap[w.heap.size]? = some (.cells livePk 34 (0, 0))) := (heap_alloc_old _ _ hlt2.out).trans R1_2.out
  clear hb B_1 R1_1 H1
  go_wp2_with (first
    | refine Ca.wpList_store_new rfl 34 _ _ rfl zeroPk livePk _ rfl rfl rfl (info36 livePk_size) rfl livePk_one ?_
    | refine wpList_load_row rfl 34 _ rfl (w.heap.size) rfl 34 livePk (0, 0) _ R1_3.out Try.underlying34 rfl (info36 livePk_size) ?_
    | fail)
  have B_3 : Hid (Below w.heap.size w (W2.alloc (.cells livePk 34))) := B_2.out.alloc B_2.out.size _
  have R4_3 : Hid ((W2.alloc (.cells livePk 34)).heap[W2.heap.size]? = some (.cells livePk 34 (0, 0))) := heap_alloc_new W2 _
  obtain ⟨W3, hW⟩ : ∃ V, W2.alloc (.cells livePk 34) = V := ⟨_, rfl⟩
  obtain ⟨g4, hg⟩ : ∃ g, W2.heap.size = g := ⟨_, rfl⟩
  rw [hW] at R1_3 B_3 R4_3 ⊢
  rw [hg] at R4_3 hlt2 ⊢
  clear hW hg B_2 R1_2
  refine (live_echo _).mono ?_
  rintro e W4 ⟨rfl, hb⟩
  have B_4 : Hid (Below w.heap.size w W4) := B_3.out.trans (hb.mono B_3.out.size)
  have R1_4 : Hid (W4.heap[w.heap.size]? = some (.cells livePk 34 (0, 0))) := (hb.block _ (Ca.lt_of_heap R1_3.out)).trans R1_3.out
  have R4_4 : Hid (W4.heap[g4]? = some (.cells livePk 34 (0, 0))) := (hb.block _ (Ca.lt_of_heap R4_3.out)).trans R4_3.out
  have R1_5 : Hid ((W4.alloc (.cells (echoQ livePk 1 2 167772161 167772162) 34)).heap[w.heap.size]? = some (.cells livePk 34 (0, 0))) := (heap_alloc_old _ _ (Ca.lt_of_heap R1_4.out)).trans R1_4.out
  have R4_5 : Hid ((W4.alloc (.cells (echoQ livePk 1 2 167772161 167772162) 34)).heap[g4]? = some (.cells livePk 34 (0, 0))) := (heap_alloc_old _ _ (Ca.lt_of_heap R4_4.out)).trans R4_4.out
  clear hb B_3 R1_3 R4_3
  go_wp2_with (first
    | refine Ca.wpList_store_new rfl 34 _ _ rfl zeroPk (echoQ livePk 1 2 167772161 167772162) _ rfl rfl rfl (info36 Zq.out) (Eq.trans (b := 36) rfl Zq.out.symm) Oq.out ?_
    | refine wpList_load_row rfl 34 _ rfl (w.heap.size) rfl 34 livePk (0, 0) _ R1_5.out Try.underlying34 rfl (info36 livePk_size) ?_
    | fail)
  have B_5 : Hid (Below w.heap.size w (W4.alloc (.cells (echoQ livePk 1 2 167772161 167772162) 34))) := B_4.out.alloc B_4.out.size _
  have R6_5 : Hid ((W4.alloc (.cells (echoQ livePk 1 2 167772161 167772162) 34)).heap[W4.heap.size]? = some (.cells (echoQ livePk 1 2 167772161 167772162) 34 (0, 0))) := heap_alloc_new W4 _
  obtain ⟨W5, hW⟩ : ∃ V, W4.alloc (.cells (echoQ livePk 1 2 167772161 167772162) 34) = V := ⟨_, rfl⟩
  obtain ⟨g6, hg⟩ : ∃ g, W4.heap.size = g := ⟨_, rfl⟩
  rw [hW] at R1_5 R4_5 B_5 R6_5 ⊢
  rw [hg] at R6_5 ⊢
  clear hW hg B_4 R1_4 R4_4
  refine (live_ports _).mono ?_
  rintro e W6 ⟨rfl, hb⟩
  have B_6 : Hid (Below w.heap.size w W6) := B_5.out.trans (hb.mono B_5.out.size)
  have R1_6 : Hid (W6.heap[w.heap.size]? = some (.cells livePk 34 (0, 0))) := (hb.block _ (Ca.lt_of_heap R1_5.out)).trans R1_5.out
  have R4_6 : Hid (W6.heap[g4]? = some (.cells livePk 34 (0, 0))) := (hb.block _ (Ca.lt_of_heap R4_5.out)).trans R4_5.out
  have R6_6 : Hid (W6.heap[g6]? = some (.cells (echoQ livePk 1 2 167772161 167772162) 34 (0, 0))) := (hb.block _ (Ca.lt_of_heap R6_5.out)).trans R6_5.out
  clear hb B_5 R1_5 R4_5 R6_5
  have c21 := (Ca.cell_row R6_6.out 21).trans (show _ = some (Value.int .i64 0) by kernel_rfl)
  have c18 := (Ca.cell_row R6_6.out 18).trans (show _ = some (Value.int .u32 167772161) by kernel_rfl)
  have hq := live_eq
  go_wp2_with (first
    | refine Ca.wpList_load_want (by rfl) 34 _ rfl (w.heap.size) rfl 34 livePk (0, 0) _ R1_6.out Try.underlying34 rfl (info36 livePk_size) ?_
    | refine Ca.wpList_load_want (by rfl) 34 _ rfl g4 rfl 34 livePk (0, 0) _ R4_6.out Try.underlying34 rfl (info36 livePk_size) ?_
    | fail)
  go_ret
  exact ⟨rfl, B_6.out⟩
end Go.Proofs.Ytpiokeidcnbmbaa

namespace Go.Proofs.Ytpiokeidcnbmbaa.Ca
open Go.ChangeShapes Go.WideShapes Go.ChangeAt Go.RowKit
def OU64 (v : Value) : Prop := ∃ x, v = .int .u64 x ∧ 0 ≤ x ∧ x ≤ 18446744073709551615
def OI64 (v : Value) : Prop := ∃ x, v = .int .i64 x ∧ -9223372036854775808 ≤ x ∧ x ≤ 9223372036854775807
def OU32 (v : Value) : Prop := ∃ x, v = .int .u32 x ∧ 0 ≤ x ∧ x ≤ 4294967295
def OBool (v : Value) : Prop := ∃ x, v = .bool x
def OStr (v : Value) : Prop := ∃ x, v = .string x
theorem cells_u64 : Try.prog.cellsOf 23 = 1 := by kernel_rfl
theorem cells_i64 : Try.prog.cellsOf 3 = 1 := by kernel_rfl
theorem cells_u32 : Try.prog.cellsOf 26 = 1 := by kernel_rfl
theorem cells_b : Try.prog.cellsOf 4 = 1 := by kernel_rfl
theorem cells_s : Try.prog.cellsOf 9 = 1 := by kernel_rfl
theorem cells_eth : Try.prog.cellsOf 25 = 5 := by kernel_rfl
theorem cells_arp : Try.prog.cellsOf 28 = 5 := by kernel_rfl
theorem cells_ip : Try.prog.cellsOf 30 = 8 := by kernel_rfl
theorem cells_l4 : Try.prog.cellsOf 32 = 14 := by kernel_rfl
theorem cells_packet : Try.prog.cellsOf 34 = 36 := by kernel_rfl
section
variable {H : Type} {enc : TypeId × Value → H} {W : World} {n : Nat} {c : Value} {y : DataW H × List MemPlace}
theorem leaf_u64 (g : DataW.trod enc Try.prog W 0 (fun _ => true) true n 23 [c] = some y) : OU64 c := by
  obtain ⟨x, e, _, w⟩ := DataW.trod_int Try.underlying23 g
  simp at e; subst e
  exact ⟨x, rfl, bounds_u64 w⟩
theorem leaf_i64 (g : DataW.trod enc Try.prog W 0 (fun _ => true) true n 3 [c] = some y) : OI64 c := by
  obtain ⟨x, e, _, w⟩ := DataW.trod_int Try.underlying3 g
  simp at e; subst e
  exact ⟨x, rfl, bounds_i64 w⟩
theorem leaf_u32 (g : DataW.trod enc Try.prog W 0 (fun _ => true) true n 26 [c] = some y) : OU32 c := by
  obtain ⟨x, e, _, w⟩ := DataW.trod_int Try.underlying26 g
  simp at e; subst e
  exact ⟨x, rfl, bounds_u32 w⟩
theorem leaf_b (g : DataW.trod enc Try.prog W 0 (fun _ => true) true n 4 [c] = some y) : OBool c := by
  obtain ⟨x, e, _⟩ := DataW.trod_bool Try.underlying4 g
  simp at e; subst e
  exact ⟨x, rfl⟩
theorem leaf_s (g : DataW.trod enc Try.prog W 0 (fun _ => true) true n 9 [c] = some y) : OStr c := by
  obtain ⟨x, e, _⟩ := DataW.trod_string Try.underlying9 g
  simp at e; subst e
  exact ⟨x, rfl⟩
theorem open_eth {c0v c1v c2v c3v c4v : Value} (g : DataW.trod enc Try.prog W 0 (fun _ => true) true n 25 [c0v, c1v, c2v, c3v, c4v] = some y) : OU64 c0v ∧ OU64 c1v ∧ OBool c2v ∧ OI64 c3v ∧ OI64 c4v := by
  obtain ⟨xs, m, _, _, _, hlen, hf⟩ := DataW.trod_struct Try.underlying25 g
  match xs, hlen with
  | [y0, y1, y2, y3, y4], _ =>
    have g0 : DataW.trod enc Try.prog W 0 (fun _ => true) true m 23 (([c0v, c1v, c2v, c3v, c4v].drop 0).take (Try.prog.cellsOf 23)) = some y0 := hf 0 _ rfl
    rw [cells_u64] at g0
    have g1 : DataW.trod enc Try.prog W 0 (fun _ => true) true m 23 (([c0v, c1v, c2v, c3v, c4v].drop 1).take (Try.prog.cellsOf 23)) = some y1 := hf 1 _ rfl
    rw [cells_u64] at g1
    have g2 : DataW.trod enc Try.prog W 0 (fun _ => true) true m 4 (([c0v, c1v, c2v, c3v, c4v].drop 2).take (Try.prog.cellsOf 4)) = some y2 := hf 2 _ rfl
    rw [cells_b] at g2
    have g3 : DataW.trod enc Try.prog W 0 (fun _ => true) true m 3 (([c0v, c1v, c2v, c3v, c4v].drop 3).take (Try.prog.cellsOf 3)) = some y3 := hf 3 _ rfl
    rw [cells_i64] at g3
    have g4 : DataW.trod enc Try.prog W 0 (fun _ => true) true m 3 (([c0v, c1v, c2v, c3v, c4v].drop 4).take (Try.prog.cellsOf 3)) = some y4 := hf 4 _ rfl
    rw [cells_i64] at g4
    exact ⟨leaf_u64 g0, leaf_u64 g1, leaf_b g2, leaf_i64 g3, leaf_i64 g4⟩
theorem open_arp {c0v c1v c2v c3v c4v : Value} (g : DataW.trod enc Try.prog W 0 (fun _ => true) true n 28 [c0v, c1v, c2v, c3v, c4v] = some y) : OI64 c0v ∧ OU64 c1v ∧ OU32 c2v ∧ OU64 c3v ∧ OU32 c4v := by
  obtain ⟨xs, m, _, _, _, hlen, hf⟩ := DataW.trod_struct Try.underlying28 g
  match xs, hlen with
  | [y0, y1, y2, y3, y4], _ =>
    have g0 : DataW.trod enc Try.prog W 0 (fun _ => true) true m 3 (([c0v, c1v, c2v, c3v, c4v].drop 0).take (Try.prog.cellsOf 3)) = some y0 := hf 0 _ rfl
    rw [cells_i64] at g0
    have g1 : DataW.trod enc Try.prog W 0 (fun _ => true) true m 23 (([c0v, c1v, c2v, c3v, c4v].drop 1).take (Try.prog.cellsOf 23)) = some y1 := hf 1 _ rfl
    rw [cells_u64] at g1
    have g2 : DataW.trod enc Try.prog W 0 (fun _ => true) true m 26 (([c0v, c1v, c2v, c3v, c4v].drop 2).take (Try.prog.cellsOf 26)) = some y2 := hf 2 _ rfl
    rw [cells_u32] at g2
    have g3 : DataW.trod enc Try.prog W 0 (fun _ => true) true m 23 (([c0v, c1v, c2v, c3v, c4v].drop 3).take (Try.prog.cellsOf 23)) = some y3 := hf 3 _ rfl
    rw [cells_u64] at g3
    have g4 : DataW.trod enc Try.prog W 0 (fun _ => true) true m 26 (([c0v, c1v, c2v, c3v, c4v].drop 4).take (Try.prog.cellsOf 26)) = some y4 := hf 4 _ rfl
    rw [cells_u32] at g4
    exact ⟨leaf_i64 g0, leaf_u64 g1, leaf_u32 g2, leaf_u64 g3, leaf_u32 g4⟩
theorem open_ip {c0v c1v c2v c3v c4v c5v c6v c7v : Value} (g : DataW.trod enc Try.prog W 0 (fun _ => true) true n 30 [c0v, c1v, c2v, c3v, c4v, c5v, c6v, c7v] = some y) : OI64 c0v ∧ OI64 c1v ∧ OI64 c2v ∧ OI64 c3v ∧ OI64 c4v ∧ OU32 c5v ∧ OU32 c6v ∧ OStr c7v := by
  obtain ⟨xs, m, _, _, _, hlen, hf⟩ := DataW.trod_struct Try.underlying30 g
  match xs, hlen with
  | [y0, y1, y2, y3, y4, y5, y6, y7], _ =>
    have g0 : DataW.trod enc Try.prog W 0 (fun _ => true) true m 3 (([c0v, c1v, c2v, c3v, c4v, c5v, c6v, c7v].drop 0).take (Try.prog.cellsOf 3)) = some y0 := hf 0 _ rfl
    rw [cells_i64] at g0
    have g1 : DataW.trod enc Try.prog W 0 (fun _ => true) true m 3 (([c0v, c1v, c2v, c3v, c4v, c5v, c6v, c7v].drop 1).take (Try.prog.cellsOf 3)) = some y1 := hf 1 _ rfl
    rw [cells_i64] at g1
    have g2 : DataW.trod enc Try.prog W 0 (fun _ => true) true m 3 (([c0v, c1v, c2v, c3v, c4v, c5v, c6v, c7v].drop 2).take (Try.prog.cellsOf 3)) = some y2 := hf 2 _ rfl
    rw [cells_i64] at g2
    have g3 : DataW.trod enc Try.prog W 0 (fun _ => true) true m 3 (([c0v, c1v, c2v, c3v, c4v, c5v, c6v, c7v].drop 3).take (Try.prog.cellsOf 3)) = some y3 := hf 3 _ rfl
    rw [cells_i64] at g3
    have g4 : DataW.trod enc Try.prog W 0 (fun _ => true) true m 3 (([c0v, c1v, c2v, c3v, c4v, c5v, c6v, c7v].drop 4).take (Try.prog.cellsOf 3)) = some y4 := hf 4 _ rfl
    rw [cells_i64] at g4
    have g5 : DataW.trod enc Try.prog W 0 (fun _ => true) true m 26 (([c0v, c1v, c2v, c3v, c4v, c5v, c6v, c7v].drop 5).take (Try.prog.cellsOf 26)) = some y5 := hf 5 _ rfl
    rw [cells_u32] at g5
    have g6 : DataW.trod enc Try.prog W 0 (fun _ => true) true m 26 (([c0v, c1v, c2v, c3v, c4v, c5v, c6v, c7v].drop 6).take (Try.prog.cellsOf 26)) = some y6 := hf 6 _ rfl
    rw [cells_u32] at g6
    have g7 : DataW.trod enc Try.prog W 0 (fun _ => true) true m 9 (([c0v, c1v, c2v, c3v, c4v, c5v, c6v, c7v].drop 7).take (Try.prog.cellsOf 9)) = some y7 := hf 7 _ rfl
    rw [cells_s] at g7
    exact ⟨leaf_i64 g0, leaf_i64 g1, leaf_i64 g2, leaf_i64 g3, leaf_i64 g4, leaf_u32 g5, leaf_u32 g6, leaf_s g7⟩
theorem open_l4 {c0v c1v c2v c3v c4v c5v c6v c7v c8v c9v c10v c11v c12v c13v : Value} (g : DataW.trod enc Try.prog W 0 (fun _ => true) true n 32 [c0v, c1v, c2v, c3v, c4v, c5v, c6v, c7v, c8v, c9v, c10v, c11v, c12v, c13v] = some y) : OI64 c0v ∧ OI64 c1v ∧ OI64 c2v ∧ OU32 c3v ∧ OI64 c4v ∧ OI64 c5v ∧ OBool c6v ∧ OU32 c7v ∧ OU32 c8v ∧ OI64 c9v ∧ OI64 c10v ∧ OI64 c11v ∧ OStr c12v ∧ OStr c13v := by
  obtain ⟨xs, m, _, _, _, hlen, hf⟩ := DataW.trod_struct Try.underlying32 g
  match xs, hlen with
  | [y0, y1, y2, y3, y4, y5, y6, y7, y8, y9, y10, y11, y12, y13], _ =>
    have g0 : DataW.trod enc Try.prog W 0 (fun _ => true) true m 3 (([c0v, c1v, c2v, c3v, c4v, c5v, c6v, c7v, c8v, c9v, c10v, c11v, c12v, c13v].drop 0).take (Try.prog.cellsOf 3)) = some y0 := hf 0 _ rfl
    rw [cells_i64] at g0
    have g1 : DataW.trod enc Try.prog W 0 (fun _ => true) true m 3 (([c0v, c1v, c2v, c3v, c4v, c5v, c6v, c7v, c8v, c9v, c10v, c11v, c12v, c13v].drop 1).take (Try.prog.cellsOf 3)) = some y1 := hf 1 _ rfl
    rw [cells_i64] at g1
    have g2 : DataW.trod enc Try.prog W 0 (fun _ => true) true m 3 (([c0v, c1v, c2v, c3v, c4v, c5v, c6v, c7v, c8v, c9v, c10v, c11v, c12v, c13v].drop 2).take (Try.prog.cellsOf 3)) = some y2 := hf 2 _ rfl
    rw [cells_i64] at g2
    have g3 : DataW.trod enc Try.prog W 0 (fun _ => true) true m 26 (([c0v, c1v, c2v, c3v, c4v, c5v, c6v, c7v, c8v, c9v, c10v, c11v, c12v, c13v].drop 3).take (Try.prog.cellsOf 26)) = some y3 := hf 3 _ rfl
    rw [cells_u32] at g3
    have g4 : DataW.trod enc Try.prog W 0 (fun _ => true) true m 3 (([c0v, c1v, c2v, c3v, c4v, c5v, c6v, c7v, c8v, c9v, c10v, c11v, c12v, c13v].drop 4).take (Try.prog.cellsOf 3)) = some y4 := hf 4 _ rfl
    rw [cells_i64] at g4
    have g5 : DataW.trod enc Try.prog W 0 (fun _ => true) true m 3 (([c0v, c1v, c2v, c3v, c4v, c5v, c6v, c7v, c8v, c9v, c10v, c11v, c12v, c13v].drop 5).take (Try.prog.cellsOf 3)) = some y5 := hf 5 _ rfl
    rw [cells_i64] at g5
    have g6 : DataW.trod enc Try.prog W 0 (fun _ => true) true m 4 (([c0v, c1v, c2v, c3v, c4v, c5v, c6v, c7v, c8v, c9v, c10v, c11v, c12v, c13v].drop 6).take (Try.prog.cellsOf 4)) = some y6 := hf 6 _ rfl
    rw [cells_b] at g6
    have g7 : DataW.trod enc Try.prog W 0 (fun _ => true) true m 26 (([c0v, c1v, c2v, c3v, c4v, c5v, c6v, c7v, c8v, c9v, c10v, c11v, c12v, c13v].drop 7).take (Try.prog.cellsOf 26)) = some y7 := hf 7 _ rfl
    rw [cells_u32] at g7
    have g8 : DataW.trod enc Try.prog W 0 (fun _ => true) true m 26 (([c0v, c1v, c2v, c3v, c4v, c5v, c6v, c7v, c8v, c9v, c10v, c11v, c12v, c13v].drop 8).take (Try.prog.cellsOf 26)) = some y8 := hf 8 _ rfl
    rw [cells_u32] at g8
    have g9 : DataW.trod enc Try.prog W 0 (fun _ => true) true m 3 (([c0v, c1v, c2v, c3v, c4v, c5v, c6v, c7v, c8v, c9v, c10v, c11v, c12v, c13v].drop 9).take (Try.prog.cellsOf 3)) = some y9 := hf 9 _ rfl
    rw [cells_i64] at g9
    have g10 : DataW.trod enc Try.prog W 0 (fun _ => true) true m 3 (([c0v, c1v, c2v, c3v, c4v, c5v, c6v, c7v, c8v, c9v, c10v, c11v, c12v, c13v].drop 10).take (Try.prog.cellsOf 3)) = some y10 := hf 10 _ rfl
    rw [cells_i64] at g10
    have g11 : DataW.trod enc Try.prog W 0 (fun _ => true) true m 3 (([c0v, c1v, c2v, c3v, c4v, c5v, c6v, c7v, c8v, c9v, c10v, c11v, c12v, c13v].drop 11).take (Try.prog.cellsOf 3)) = some y11 := hf 11 _ rfl
    rw [cells_i64] at g11
    have g12 : DataW.trod enc Try.prog W 0 (fun _ => true) true m 9 (([c0v, c1v, c2v, c3v, c4v, c5v, c6v, c7v, c8v, c9v, c10v, c11v, c12v, c13v].drop 12).take (Try.prog.cellsOf 9)) = some y12 := hf 12 _ rfl
    rw [cells_s] at g12
    have g13 : DataW.trod enc Try.prog W 0 (fun _ => true) true m 9 (([c0v, c1v, c2v, c3v, c4v, c5v, c6v, c7v, c8v, c9v, c10v, c11v, c12v, c13v].drop 13).take (Try.prog.cellsOf 9)) = some y13 := hf 13 _ rfl
    rw [cells_s] at g13
    exact ⟨leaf_i64 g0, leaf_i64 g1, leaf_i64 g2, leaf_u32 g3, leaf_i64 g4, leaf_i64 g5, leaf_b g6, leaf_u32 g7, leaf_u32 g8, leaf_i64 g9, leaf_i64 g10, leaf_i64 g11, leaf_s g12, leaf_s g13⟩
theorem open_packet {c0v c1v c2v c3v c4v c5v c6v c7v c8v c9v c10v c11v c12v c13v c14v c15v c16v c17v c18v c19v c20v c21v c22v c23v c24v c25v c26v c27v c28v c29v c30v c31v c32v c33v c34v c35v : Value} (g : DataW.trod enc Try.prog W 0 (fun _ => true) true n 34 [c0v, c1v, c2v, c3v, c4v, c5v, c6v, c7v, c8v, c9v, c10v, c11v, c12v, c13v, c14v, c15v, c16v, c17v, c18v, c19v, c20v, c21v, c22v, c23v, c24v, c25v, c26v, c27v, c28v, c29v, c30v, c31v, c32v, c33v, c34v, c35v] = some y) : OU64 c0v ∧ OU64 c1v ∧ OBool c2v ∧ OI64 c3v ∧ OI64 c4v ∧ OBool c5v ∧ OI64 c6v ∧ OU64 c7v ∧ OU32 c8v ∧ OU64 c9v ∧ OU32 c10v ∧ OBool c11v ∧ OI64 c12v ∧ OI64 c13v ∧ OI64 c14v ∧ OI64 c15v ∧ OI64 c16v ∧ OU32 c17v ∧ OU32 c18v ∧ OStr c19v ∧ OI64 c20v ∧ OI64 c21v ∧ OI64 c22v ∧ OU32 c23v ∧ OI64 c24v ∧ OI64 c25v ∧ OBool c26v ∧ OU32 c27v ∧ OU32 c28v ∧ OI64 c29v ∧ OI64 c30v ∧ OI64 c31v ∧ OStr c32v ∧ OStr c33v ∧ OStr c34v ∧ OStr c35v := by
  obtain ⟨xs, m, _, _, _, hlen, hf⟩ := DataW.trod_struct Try.underlying34 g
  match xs, hlen with
  | [y0, y1, y2, y3, y4, y5, y6, y7], _ =>
    have g0 : DataW.trod enc Try.prog W 0 (fun _ => true) true m 25 (([c0v, c1v, c2v, c3v, c4v, c5v, c6v, c7v, c8v, c9v, c10v, c11v, c12v, c13v, c14v, c15v, c16v, c17v, c18v, c19v, c20v, c21v, c22v, c23v, c24v, c25v, c26v, c27v, c28v, c29v, c30v, c31v, c32v, c33v, c34v, c35v].drop 0).take (Try.prog.cellsOf 25)) = some y0 := hf 0 _ rfl
    rw [cells_eth] at g0
    have q0 := open_eth g0
    have g1 : DataW.trod enc Try.prog W 0 (fun _ => true) true m 4 (([c0v, c1v, c2v, c3v, c4v, c5v, c6v, c7v, c8v, c9v, c10v, c11v, c12v, c13v, c14v, c15v, c16v, c17v, c18v, c19v, c20v, c21v, c22v, c23v, c24v, c25v, c26v, c27v, c28v, c29v, c30v, c31v, c32v, c33v, c34v, c35v].drop 5).take (Try.prog.cellsOf 4)) = some y1 := hf 1 _ rfl
    rw [cells_b] at g1
    have g2 : DataW.trod enc Try.prog W 0 (fun _ => true) true m 28 (([c0v, c1v, c2v, c3v, c4v, c5v, c6v, c7v, c8v, c9v, c10v, c11v, c12v, c13v, c14v, c15v, c16v, c17v, c18v, c19v, c20v, c21v, c22v, c23v, c24v, c25v, c26v, c27v, c28v, c29v, c30v, c31v, c32v, c33v, c34v, c35v].drop 6).take (Try.prog.cellsOf 28)) = some y2 := hf 2 _ rfl
    rw [cells_arp] at g2
    have q2 := open_arp g2
    have g3 : DataW.trod enc Try.prog W 0 (fun _ => true) true m 4 (([c0v, c1v, c2v, c3v, c4v, c5v, c6v, c7v, c8v, c9v, c10v, c11v, c12v, c13v, c14v, c15v, c16v, c17v, c18v, c19v, c20v, c21v, c22v, c23v, c24v, c25v, c26v, c27v, c28v, c29v, c30v, c31v, c32v, c33v, c34v, c35v].drop 11).take (Try.prog.cellsOf 4)) = some y3 := hf 3 _ rfl
    rw [cells_b] at g3
    have g4 : DataW.trod enc Try.prog W 0 (fun _ => true) true m 30 (([c0v, c1v, c2v, c3v, c4v, c5v, c6v, c7v, c8v, c9v, c10v, c11v, c12v, c13v, c14v, c15v, c16v, c17v, c18v, c19v, c20v, c21v, c22v, c23v, c24v, c25v, c26v, c27v, c28v, c29v, c30v, c31v, c32v, c33v, c34v, c35v].drop 12).take (Try.prog.cellsOf 30)) = some y4 := hf 4 _ rfl
    rw [cells_ip] at g4
    have q4 := open_ip g4
    have g5 : DataW.trod enc Try.prog W 0 (fun _ => true) true m 32 (([c0v, c1v, c2v, c3v, c4v, c5v, c6v, c7v, c8v, c9v, c10v, c11v, c12v, c13v, c14v, c15v, c16v, c17v, c18v, c19v, c20v, c21v, c22v, c23v, c24v, c25v, c26v, c27v, c28v, c29v, c30v, c31v, c32v, c33v, c34v, c35v].drop 20).take (Try.prog.cellsOf 32)) = some y5 := hf 5 _ rfl
    rw [cells_l4] at g5
    have q5 := open_l4 g5
    have g6 : DataW.trod enc Try.prog W 0 (fun _ => true) true m 9 (([c0v, c1v, c2v, c3v, c4v, c5v, c6v, c7v, c8v, c9v, c10v, c11v, c12v, c13v, c14v, c15v, c16v, c17v, c18v, c19v, c20v, c21v, c22v, c23v, c24v, c25v, c26v, c27v, c28v, c29v, c30v, c31v, c32v, c33v, c34v, c35v].drop 34).take (Try.prog.cellsOf 9)) = some y6 := hf 6 _ rfl
    rw [cells_s] at g6
    have g7 : DataW.trod enc Try.prog W 0 (fun _ => true) true m 9 (([c0v, c1v, c2v, c3v, c4v, c5v, c6v, c7v, c8v, c9v, c10v, c11v, c12v, c13v, c14v, c15v, c16v, c17v, c18v, c19v, c20v, c21v, c22v, c23v, c24v, c25v, c26v, c27v, c28v, c29v, c30v, c31v, c32v, c33v, c34v, c35v].drop 35).take (Try.prog.cellsOf 9)) = some y7 := hf 7 _ rfl
    rw [cells_s] at g7
    exact ⟨q0.1, q0.2.1, q0.2.2.1, q0.2.2.2.1, q0.2.2.2.2, leaf_b g1, q2.1, q2.2.1, q2.2.2.1, q2.2.2.2.1, q2.2.2.2.2, leaf_b g3, q4.1, q4.2.1, q4.2.2.1, q4.2.2.2.1, q4.2.2.2.2.1, q4.2.2.2.2.2.1, q4.2.2.2.2.2.2.1, q4.2.2.2.2.2.2.2, q5.1, q5.2.1, q5.2.2.1, q5.2.2.2.1, q5.2.2.2.2.1, q5.2.2.2.2.2.1, q5.2.2.2.2.2.2.1, q5.2.2.2.2.2.2.2.1, q5.2.2.2.2.2.2.2.2.1, q5.2.2.2.2.2.2.2.2.2.1, q5.2.2.2.2.2.2.2.2.2.2.1, q5.2.2.2.2.2.2.2.2.2.2.2.1, q5.2.2.2.2.2.2.2.2.2.2.2.2.1, q5.2.2.2.2.2.2.2.2.2.2.2.2.2, leaf_s g6, leaf_s g7⟩
end
theorem own : ownKnob Try.prog.godebug = none := by kernel_rfl
theorem laidOut : laidOutB Try.prog = true := by kernel_rfl
set_option maxRecDepth 20000 in
set_option maxHeartbeats 2000000 in
theorem pst_of {H : Type} {enc : TypeId × Value → H} {W : World} {y : DataW H × List MemPlace} {n : Nat} {ps : Array Value} (hs : ps.size = 36) (hf : DataW.trod enc Try.prog W 0 (fun _ => true) true n 34 ps.toList = some y) : PSt ps := by
  obtain ⟨c0v, c1v, c2v, c3v, c4v, c5v, c6v, c7v, c8v, c9v, c10v, c11v, c12v, c13v, c14v, c15v, c16v, c17v, c18v, c19v, c20v, c21v, c22v, c23v, c24v, c25v, c26v, c27v, c28v, c29v, c30v, c31v, c32v, c33v, c34v, c35v, rfl⟩ := thirtysix hs
  have q := open_packet (show DataW.trod enc Try.prog W 0 (fun _ => true) true n 34 [c0v, c1v, c2v, c3v, c4v, c5v, c6v, c7v, c8v, c9v, c10v, c11v, c12v, c13v, c14v, c15v, c16v, c17v, c18v, c19v, c20v, c21v, c22v, c23v, c24v, c25v, c26v, c27v, c28v, c29v, c30v, c31v, c32v, c33v, c34v, c35v] = some y from hf)
  clear hf hs
  obtain ⟨⟨x0, rfl, b0⟩, ⟨x1, rfl, b1⟩, ⟨x2, rfl⟩, ⟨x3, rfl, b3⟩, ⟨x4, rfl, b4⟩, ⟨x5, rfl⟩, ⟨x6, rfl, b6⟩, ⟨x7, rfl, b7⟩, ⟨x8, rfl, b8⟩, ⟨x9, rfl, b9⟩, ⟨x10, rfl, b10⟩, ⟨x11, rfl⟩, ⟨x12, rfl, b12⟩, ⟨x13, rfl, b13⟩, ⟨x14, rfl, b14⟩, ⟨x15, rfl, b15⟩, ⟨x16, rfl, b16⟩, ⟨x17, rfl, b17⟩, ⟨x18, rfl, b18⟩, ⟨x19, rfl⟩, ⟨x20, rfl, b20⟩, ⟨x21, rfl, b21⟩, ⟨x22, rfl, b22⟩, ⟨x23, rfl, b23⟩, ⟨x24, rfl, b24⟩, ⟨x25, rfl, b25⟩, ⟨x26, rfl⟩, ⟨x27, rfl, b27⟩, ⟨x28, rfl, b28⟩, ⟨x29, rfl, b29⟩, ⟨x30, rfl, b30⟩, ⟨x31, rfl, b31⟩, ⟨x32, rfl⟩, ⟨x33, rfl⟩, ⟨x34, rfl⟩, ⟨x35, rfl⟩⟩ := q
  refine ⟨rfl, by simp [Value.oneCell'], fun i hi => ?_, fun i hi => ?_, fun i hi => ?_, fun i hi => ?_, fun i hi => ?_⟩ <;> simp only [List.mem_cons, List.not_mem_nil, or_false] at hi
  · rcases hi with rfl | rfl | rfl | rfl
    · exact ⟨x0, rfl, b0⟩
    · exact ⟨x1, rfl, b1⟩
    · exact ⟨x7, rfl, b7⟩
    · exact ⟨x9, rfl, b9⟩
  · rcases hi with rfl | rfl | rfl | rfl | rfl | rfl | rfl | rfl | rfl | rfl | rfl | rfl | rfl | rfl | rfl | rfl
    · exact ⟨x3, rfl, b3⟩
    · exact ⟨x4, rfl, b4⟩
    · exact ⟨x6, rfl, b6⟩
    · exact ⟨x12, rfl, b12⟩
    · exact ⟨x13, rfl, b13⟩
    · exact ⟨x14, rfl, b14⟩
    · exact ⟨x15, rfl, b15⟩
    · exact ⟨x16, rfl, b16⟩
    · exact ⟨x20, rfl, b20⟩
    · exact ⟨x21, rfl, b21⟩
    · exact ⟨x22, rfl, b22⟩
    · exact ⟨x24, rfl, b24⟩
    · exact ⟨x25, rfl, b25⟩
    · exact ⟨x29, rfl, b29⟩
    · exact ⟨x30, rfl, b30⟩
    · exact ⟨x31, rfl, b31⟩
  · rcases hi with rfl | rfl | rfl | rfl | rfl | rfl | rfl
    · exact ⟨x8, rfl, b8⟩
    · exact ⟨x10, rfl, b10⟩
    · exact ⟨x17, rfl, b17⟩
    · exact ⟨x18, rfl, b18⟩
    · exact ⟨x23, rfl, b23⟩
    · exact ⟨x27, rfl, b27⟩
    · exact ⟨x28, rfl, b28⟩
  · rcases hi with rfl | rfl | rfl | rfl
    · exact ⟨x2, rfl⟩
    · exact ⟨x5, rfl⟩
    · exact ⟨x11, rfl⟩
    · exact ⟨x26, rfl⟩
  · rcases hi with rfl | rfl | rfl | rfl | rfl
    · exact ⟨x19, rfl⟩
    · exact ⟨x32, rfl⟩
    · exact ⟨x33, rfl⟩
    · exact ⟨x34, rfl⟩
    · exact ⟨x35, rfl⟩
set_option maxRecDepth 20000 in
theorem open_pk {H : Type} {enc : TypeId × Value → H} {W : World} {v : Value} {d : DataW H} {p : List MemPlace} {r : Reach} {base : Nat}
    (hv : Value.okWide Try.prog W r base 34 v) (h : DataW.Trod enc Try.prog W 0 (fun _ => true) true 34 v d p) : ∃ ps, v = .agg ps ∧ PSt ps := by
  obtain ⟨ps, rfl, hps⟩ := okWide_struct Try.underlying34 hv
  obtain ⟨fuel, hf⟩ := h
  exact ⟨ps, rfl, pst_of (hps.trans cells_packet) hf⟩
theorem str_nums (s : ByteArray) : ∃ os : List Int, s = strOfNums os ∧ os.length = s.size ∧ (∀ i, 0 ≤ os.getD i 0 ∧ os.getD i 0 ≤ 255) := by
  refine ⟨s.data.toList.map fun x => (x.toNat : Int), ?_, by rw [List.length_map]; rfl, fun i => ?_⟩
  · cases s with
    | mk d =>
      have h : ∀ l : List UInt8, l.map ((fun n : Int => UInt8.ofNat n.toNat) ∘ fun x : UInt8 => (x.toNat : Int)) = l := by
        intro l
        induction l with
        | nil => rfl
        | cons x r ih => simp [ih]
      simp [strOfNums, h]
  · rw [List.getD_eq_getElem?_getD, List.getElem?_map]
    rcases hx : s.data.toList[i]? with _ | x
    · simp
    · have := x.toNat_lt
      simp; omega
set_option maxRecDepth 20000 in
set_option maxHeartbeats 4000000 in
theorem pst_letters {ps : Array Value} (h : PSt ps) : ∃ d s tag et op sha spa tha tpa tos id fr ttl pr src dst k ty co re sp dp sq ak fl wi ur : Int, ∃ tg ia ii ns : Bool, ∃ io lo ds bd pd : List Int, ps = #[.int .u64 d, .int .u64 s, .bool tg, .int .i64 tag, .int .i64 et, .bool ia, .int .i64 op, .int .u64 sha, .int .u32 spa, .int .u64 tha, .int .u32 tpa, .bool ii, .int .i64 tos, .int .i64 id, .int .i64 fr, .int .i64 ttl, .int .i64 pr, .int .u32 src, .int .u32 dst, .string (strOfNums io), .int .i64 k, .int .i64 ty, .int .i64 co, .int .u32 re, .int .i64 sp, .int .i64 dp, .bool ns, .int .u32 sq, .int .u32 ak, .int .i64 fl, .int .i64 wi, .int .i64 ur, .string (strOfNums lo), .string (strOfNums ds), .string (strOfNums bd), .string (strOfNums pd)] := by
  obtain ⟨c0v, c1v, c2v, c3v, c4v, c5v, c6v, c7v, c8v, c9v, c10v, c11v, c12v, c13v, c14v, c15v, c16v, c17v, c18v, c19v, c20v, c21v, c22v, c23v, c24v, c25v, c26v, c27v, c28v, c29v, c30v, c31v, c32v, c33v, c34v, c35v, rfl⟩ := thirtysix h.size
  obtain ⟨x0, hx0, _⟩ := h.u64 0 (by decide)
  obtain ⟨x1, hx1, _⟩ := h.u64 1 (by decide)
  obtain ⟨x2, hx2⟩ := h.bool 2 (by decide)
  obtain ⟨x3, hx3, _⟩ := h.i64 3 (by decide)
  obtain ⟨x4, hx4, _⟩ := h.i64 4 (by decide)
  obtain ⟨x5, hx5⟩ := h.bool 5 (by decide)
  obtain ⟨x6, hx6, _⟩ := h.i64 6 (by decide)
  obtain ⟨x7, hx7, _⟩ := h.u64 7 (by decide)
  obtain ⟨x8, hx8, _⟩ := h.u32 8 (by decide)
  obtain ⟨x9, hx9, _⟩ := h.u64 9 (by decide)
  obtain ⟨x10, hx10, _⟩ := h.u32 10 (by decide)
  obtain ⟨x11, hx11⟩ := h.bool 11 (by decide)
  obtain ⟨x12, hx12, _⟩ := h.i64 12 (by decide)
  obtain ⟨x13, hx13, _⟩ := h.i64 13 (by decide)
  obtain ⟨x14, hx14, _⟩ := h.i64 14 (by decide)
  obtain ⟨x15, hx15, _⟩ := h.i64 15 (by decide)
  obtain ⟨x16, hx16, _⟩ := h.i64 16 (by decide)
  obtain ⟨x17, hx17, _⟩ := h.u32 17 (by decide)
  obtain ⟨x18, hx18, _⟩ := h.u32 18 (by decide)
  obtain ⟨x19, hx19⟩ := h.str 19 (by decide)
  obtain ⟨x20, hx20, _⟩ := h.i64 20 (by decide)
  obtain ⟨x21, hx21, _⟩ := h.i64 21 (by decide)
  obtain ⟨x22, hx22, _⟩ := h.i64 22 (by decide)
  obtain ⟨x23, hx23, _⟩ := h.u32 23 (by decide)
  obtain ⟨x24, hx24, _⟩ := h.i64 24 (by decide)
  obtain ⟨x25, hx25, _⟩ := h.i64 25 (by decide)
  obtain ⟨x26, hx26⟩ := h.bool 26 (by decide)
  obtain ⟨x27, hx27, _⟩ := h.u32 27 (by decide)
  obtain ⟨x28, hx28, _⟩ := h.u32 28 (by decide)
  obtain ⟨x29, hx29, _⟩ := h.i64 29 (by decide)
  obtain ⟨x30, hx30, _⟩ := h.i64 30 (by decide)
  obtain ⟨x31, hx31, _⟩ := h.i64 31 (by decide)
  obtain ⟨x32, hx32⟩ := h.str 32 (by decide)
  obtain ⟨x33, hx33⟩ := h.str 33 (by decide)
  obtain ⟨x34, hx34⟩ := h.str 34 (by decide)
  obtain ⟨x35, hx35⟩ := h.str 35 (by decide)
  simp only [List.getElem?_toArray, List.getElem?_cons_zero, List.getElem?_cons_succ, Option.some.injEq] at hx0 hx1 hx2 hx3 hx4 hx5 hx6 hx7 hx8 hx9 hx10 hx11 hx12 hx13 hx14 hx15 hx16 hx17 hx18 hx19 hx20 hx21 hx22 hx23 hx24 hx25 hx26 hx27 hx28 hx29 hx30 hx31 hx32 hx33 hx34 hx35
  subst hx0 hx1 hx2 hx3 hx4 hx5 hx6 hx7 hx8 hx9 hx10 hx11 hx12 hx13 hx14 hx15 hx16 hx17 hx18 hx19 hx20 hx21 hx22 hx23 hx24 hx25 hx26 hx27 hx28 hx29 hx30 hx31 hx32 hx33 hx34 hx35
  obtain ⟨l19, rfl, _⟩ := str_nums x19
  obtain ⟨l32, rfl, _⟩ := str_nums x32
  obtain ⟨l33, rfl, _⟩ := str_nums x33
  obtain ⟨l34, rfl, _⟩ := str_nums x34
  obtain ⟨l35, rfl, _⟩ := str_nums x35
  exact ⟨x0, x1, x3, x4, x6, x7, x8, x9, x10, x12, x13, x14, x15, x16, x17, x18, x20, x21, x22, x23, x24, x25, x27, x28, x29, x30, x31, x2, x5, x11, x26, l19, l32, l33, l34, l35, rfl⟩
end Go.Proofs.Ytpiokeidcnbmbaa.Ca

namespace Go.Proofs.Ytpiokeidcnbmbaa.Ca
open Go.ChangeShapes Go.WideShapes Go.ChangeAt Go.RowKit
set_option maxRecDepth 20000
section
variable {H : Type} {enc : TypeId × Value → H} {W : World} {n : Nat} {c : Value} {y : DataW H × List MemPlace}
theorem w_leaf (g : DataW.trod enc Try.prog W 0 (fun _ => true) true n 9 [c] = some y) : ∃ s, c = .string s ∧ s.size ∈ y.1.weights Try.prog 9 := by
  obtain ⟨x, e, hy, _⟩ := DataW.trod_string Try.underlying9 g
  simp at e
  refine ⟨x, e, ?_⟩
  rw [hy]
  exact List.mem_singleton_self _
theorem w_ip {c0v c1v c2v c3v c4v c5v c6v c7v : Value} (g : DataW.trod enc Try.prog W 0 (fun _ => true) true n 30 [c0v, c1v, c2v, c3v, c4v, c5v, c6v, c7v] = some y) : (∃ s, c7v = .string s ∧ s.size ∈ y.1.weights Try.prog 30) := by
  obtain ⟨xs, m, _, hx, _, hlen, hf⟩ := DataW.trod_struct Try.underlying30 g
  match xs, hlen with
  | [y0, y1, y2, y3, y4, y5, y6, y7], _ =>
    have hd : y.1 = .agg [y0.1, y1.1, y2.1, y3.1, y4.1, y5.1, y6.1, y7.1] := by
      have := congrArg Prod.fst hx
      simpa using this
    have g7 : DataW.trod enc Try.prog W 0 (fun _ => true) true m 9 (([c0v, c1v, c2v, c3v, c4v, c5v, c6v, c7v].drop 7).take (Try.prog.cellsOf 9)) = some y7 := hf 7 _ rfl
    rw [cells_s] at g7
    obtain ⟨s7, e7, m7⟩ := w_leaf g7
    rw [hd]
    simp only [DataW.weights, Try.underlying30]
    exact ⟨s7, e7, DataW.weights_mem_each (j := 7) (t := 9) (d := y7.1) rfl rfl _ m7⟩
theorem w_l4 {c0v c1v c2v c3v c4v c5v c6v c7v c8v c9v c10v c11v c12v c13v : Value} (g : DataW.trod enc Try.prog W 0 (fun _ => true) true n 32 [c0v, c1v, c2v, c3v, c4v, c5v, c6v, c7v, c8v, c9v, c10v, c11v, c12v, c13v] = some y) : (∃ s, c12v = .string s ∧ s.size ∈ y.1.weights Try.prog 32) ∧ (∃ s, c13v = .string s ∧ s.size ∈ y.1.weights Try.prog 32) := by
  obtain ⟨xs, m, _, hx, _, hlen, hf⟩ := DataW.trod_struct Try.underlying32 g
  match xs, hlen with
  | [y0, y1, y2, y3, y4, y5, y6, y7, y8, y9, y10, y11, y12, y13], _ =>
    have hd : y.1 = .agg [y0.1, y1.1, y2.1, y3.1, y4.1, y5.1, y6.1, y7.1, y8.1, y9.1, y10.1, y11.1, y12.1, y13.1] := by
      have := congrArg Prod.fst hx
      simpa using this
    have g12 : DataW.trod enc Try.prog W 0 (fun _ => true) true m 9 (([c0v, c1v, c2v, c3v, c4v, c5v, c6v, c7v, c8v, c9v, c10v, c11v, c12v, c13v].drop 12).take (Try.prog.cellsOf 9)) = some y12 := hf 12 _ rfl
    rw [cells_s] at g12
    obtain ⟨s12, e12, m12⟩ := w_leaf g12
    have g13 : DataW.trod enc Try.prog W 0 (fun _ => true) true m 9 (([c0v, c1v, c2v, c3v, c4v, c5v, c6v, c7v, c8v, c9v, c10v, c11v, c12v, c13v].drop 13).take (Try.prog.cellsOf 9)) = some y13 := hf 13 _ rfl
    rw [cells_s] at g13
    obtain ⟨s13, e13, m13⟩ := w_leaf g13
    rw [hd]
    simp only [DataW.weights, Try.underlying32]
    exact ⟨⟨s12, e12, DataW.weights_mem_each (j := 12) (t := 9) (d := y12.1) rfl rfl _ m12⟩, ⟨s13, e13, DataW.weights_mem_each (j := 13) (t := 9) (d := y13.1) rfl rfl _ m13⟩⟩
theorem w_pk {c0v c1v c2v c3v c4v c5v c6v c7v c8v c9v c10v c11v c12v c13v c14v c15v c16v c17v c18v c19v c20v c21v c22v c23v c24v c25v c26v c27v c28v c29v c30v c31v c32v c33v c34v c35v : Value} (g : DataW.trod enc Try.prog W 0 (fun _ => true) true n 34 [c0v, c1v, c2v, c3v, c4v, c5v, c6v, c7v, c8v, c9v, c10v, c11v, c12v, c13v, c14v, c15v, c16v, c17v, c18v, c19v, c20v, c21v, c22v, c23v, c24v, c25v, c26v, c27v, c28v, c29v, c30v, c31v, c32v, c33v, c34v, c35v] = some y) : (∃ s, c19v = .string s ∧ s.size ∈ y.1.weights Try.prog 34) ∧ (∃ s, c32v = .string s ∧ s.size ∈ y.1.weights Try.prog 34) ∧ (∃ s, c33v = .string s ∧ s.size ∈ y.1.weights Try.prog 34) ∧ (∃ s, c34v = .string s ∧ s.size ∈ y.1.weights Try.prog 34) ∧ (∃ s, c35v = .string s ∧ s.size ∈ y.1.weights Try.prog 34) := by
  obtain ⟨xs, m, _, hx, _, hlen, hf⟩ := DataW.trod_struct Try.underlying34 g
  match xs, hlen with
  | [y0, y1, y2, y3, y4, y5, y6, y7], _ =>
    have hd : y.1 = .agg [y0.1, y1.1, y2.1, y3.1, y4.1, y5.1, y6.1, y7.1] := by
      have := congrArg Prod.fst hx
      simpa using this
    have g4 : DataW.trod enc Try.prog W 0 (fun _ => true) true m 30 (([c0v, c1v, c2v, c3v, c4v, c5v, c6v, c7v, c8v, c9v, c10v, c11v, c12v, c13v, c14v, c15v, c16v, c17v, c18v, c19v, c20v, c21v, c22v, c23v, c24v, c25v, c26v, c27v, c28v, c29v, c30v, c31v, c32v, c33v, c34v, c35v].drop 12).take (Try.prog.cellsOf 30)) = some y4 := hf 4 _ rfl
    rw [cells_ip] at g4
    have g5 : DataW.trod enc Try.prog W 0 (fun _ => true) true m 32 (([c0v, c1v, c2v, c3v, c4v, c5v, c6v, c7v, c8v, c9v, c10v, c11v, c12v, c13v, c14v, c15v, c16v, c17v, c18v, c19v, c20v, c21v, c22v, c23v, c24v, c25v, c26v, c27v, c28v, c29v, c30v, c31v, c32v, c33v, c34v, c35v].drop 20).take (Try.prog.cellsOf 32)) = some y5 := hf 5 _ rfl
    rw [cells_l4] at g5
    have g6 : DataW.trod enc Try.prog W 0 (fun _ => true) true m 9 (([c0v, c1v, c2v, c3v, c4v, c5v, c6v, c7v, c8v, c9v, c10v, c11v, c12v, c13v, c14v, c15v, c16v, c17v, c18v, c19v, c20v, c21v, c22v, c23v, c24v, c25v, c26v, c27v, c28v, c29v, c30v, c31v, c32v, c33v, c34v, c35v].drop 34).take (Try.prog.cellsOf 9)) = some y6 := hf 6 _ rfl
    rw [cells_s] at g6
    have g7 : DataW.trod enc Try.prog W 0 (fun _ => true) true m 9 (([c0v, c1v, c2v, c3v, c4v, c5v, c6v, c7v, c8v, c9v, c10v, c11v, c12v, c13v, c14v, c15v, c16v, c17v, c18v, c19v, c20v, c21v, c22v, c23v, c24v, c25v, c26v, c27v, c28v, c29v, c30v, c31v, c32v, c33v, c34v, c35v].drop 35).take (Try.prog.cellsOf 9)) = some y7 := hf 7 _ rfl
    rw [cells_s] at g7
    obtain ⟨s19, e19, m19⟩ := w_ip g4
    obtain ⟨⟨s32, e32, m32⟩, ⟨s33, e33, m33⟩⟩ := w_l4 g5
    obtain ⟨s34, e34, m34⟩ := w_leaf g6
    obtain ⟨s35, e35, m35⟩ := w_leaf g7
    rw [hd]
    simp only [DataW.weights, Try.underlying34]
    exact ⟨⟨s19, e19, DataW.weights_mem_each (j := 4) (t := 30) (d := y4.1) rfl rfl _ m19⟩, ⟨s32, e32, DataW.weights_mem_each (j := 5) (t := 32) (d := y5.1) rfl rfl _ m32⟩, ⟨s33, e33, DataW.weights_mem_each (j := 5) (t := 32) (d := y5.1) rfl rfl _ m33⟩, ⟨s34, e34, DataW.weights_mem_each (j := 6) (t := 9) (d := y6.1) rfl rfl _ m34⟩, ⟨s35, e35, DataW.weights_mem_each (j := 7) (t := 9) (d := y7.1) rfl rfl _ m35⟩⟩
end
theorem small_of {ts : List TypeId} {H : Type} {ds : List (DataW H)} {d : DataW H} (j : Nat) (hsz : (DataW.weightsEach Try.prog ts ds).all (· ≤ reachBytes) = true) (ht : ts[j]? = some 34) (hd : ds[j]? = some d) {k : Nat} (h : k ∈ d.weights Try.prog 34) : k ≤ 140737488351232 := by
  have q := of_decide_eq_true (List.all_eq_true.1 hsz _ (DataW.weights_mem_each ht hd _ h))
  unfold reachBytes at q
  omega
set_option maxHeartbeats 4000000 in
theorem open_pkR {H : Type} {enc : TypeId × Value → H} {W : World} {v : Value} {d : DataW H} {p : List MemPlace} {r : Reach} {base : Nat} {ts : List TypeId} {ds : List (DataW H)} (j : Nat)
    (hv : Value.okWide Try.prog W r base 34 v) (h : DataW.Trod enc Try.prog W 0 (fun _ => true) true 34 v d p) (hsz : (DataW.weightsEach Try.prog ts ds).all (· ≤ reachBytes) = true) (ht : ts[j]? = some 34) (hd : ds[j]? = some d) :
    ∃ x : PkR, v = .agg x.ps ∧ x.Fine ∧ x.l.os.length ≤ 140737488355328 := by
  obtain ⟨ps, rfl, hps⟩ := okWide_struct Try.underlying34 hv
  obtain ⟨fuel, hf⟩ := h
  have P := pst_of (hps.trans cells_packet) hf
  obtain ⟨c0v, c1v, c2v, c3v, c4v, c5v, c6v, c7v, c8v, c9v, c10v, c11v, c12v, c13v, c14v, c15v, c16v, c17v, c18v, c19v, c20v, c21v, c22v, c23v, c24v, c25v, c26v, c27v, c28v, c29v, c30v, c31v, c32v, c33v, c34v, c35v, rfl⟩ := thirtysix P.size
  have Z := w_pk hf
  obtain ⟨⟨s19, e19, m19⟩, ⟨s32, e32, m32⟩, ⟨s33, e33, m33⟩, ⟨s34, e34, m34⟩, ⟨s35, e35, m35⟩⟩ := Z
  have z19 := small_of j hsz ht hd m19
  have z32 := small_of j hsz ht hd m32
  have z33 := small_of j hsz ht hd m33
  have z34 := small_of j hsz ht hd m34
  have z35 := small_of j hsz ht hd m35
  clear m19 m32 m33 m34 m35 hf hv hsz ht hd
  obtain ⟨x0, hx0, r0⟩ := P.u64 0 (by decide)
  obtain ⟨x1, hx1, r1⟩ := P.u64 1 (by decide)
  obtain ⟨x2, hx2⟩ := P.bool 2 (by decide)
  obtain ⟨x3, hx3, r3⟩ := P.i64 3 (by decide)
  obtain ⟨x4, hx4, r4⟩ := P.i64 4 (by decide)
  obtain ⟨x5, hx5⟩ := P.bool 5 (by decide)
  obtain ⟨x6, hx6, r6⟩ := P.i64 6 (by decide)
  obtain ⟨x7, hx7, r7⟩ := P.u64 7 (by decide)
  obtain ⟨x8, hx8, r8⟩ := P.u32 8 (by decide)
  obtain ⟨x9, hx9, r9⟩ := P.u64 9 (by decide)
  obtain ⟨x10, hx10, r10⟩ := P.u32 10 (by decide)
  obtain ⟨x11, hx11⟩ := P.bool 11 (by decide)
  obtain ⟨x12, hx12, r12⟩ := P.i64 12 (by decide)
  obtain ⟨x13, hx13, r13⟩ := P.i64 13 (by decide)
  obtain ⟨x14, hx14, r14⟩ := P.i64 14 (by decide)
  obtain ⟨x15, hx15, r15⟩ := P.i64 15 (by decide)
  obtain ⟨x16, hx16, r16⟩ := P.i64 16 (by decide)
  obtain ⟨x17, hx17, r17⟩ := P.u32 17 (by decide)
  obtain ⟨x18, hx18, r18⟩ := P.u32 18 (by decide)
  obtain ⟨x20, hx20, r20⟩ := P.i64 20 (by decide)
  obtain ⟨x21, hx21, r21⟩ := P.i64 21 (by decide)
  obtain ⟨x22, hx22, r22⟩ := P.i64 22 (by decide)
  obtain ⟨x23, hx23, r23⟩ := P.u32 23 (by decide)
  obtain ⟨x24, hx24, r24⟩ := P.i64 24 (by decide)
  obtain ⟨x25, hx25, r25⟩ := P.i64 25 (by decide)
  obtain ⟨x26, hx26⟩ := P.bool 26 (by decide)
  obtain ⟨x27, hx27, r27⟩ := P.u32 27 (by decide)
  obtain ⟨x28, hx28, r28⟩ := P.u32 28 (by decide)
  obtain ⟨x29, hx29, r29⟩ := P.i64 29 (by decide)
  obtain ⟨x30, hx30, r30⟩ := P.i64 30 (by decide)
  obtain ⟨x31, hx31, r31⟩ := P.i64 31 (by decide)
  simp only [List.getElem?_toArray, List.getElem?_cons_zero, List.getElem?_cons_succ, Option.some.injEq] at hx0 hx1 hx2 hx3 hx4 hx5 hx6 hx7 hx8 hx9 hx10 hx11 hx12 hx13 hx14 hx15 hx16 hx17 hx18 hx20 hx21 hx22 hx23 hx24 hx25 hx26 hx27 hx28 hx29 hx30 hx31
  subst hx0 hx1 hx2 hx3 hx4 hx5 hx6 hx7 hx8 hx9 hx10 hx11 hx12 hx13 hx14 hx15 hx16 hx17 hx18 hx20 hx21 hx22 hx23 hx24 hx25 hx26 hx27 hx28 hx29 hx30 hx31 e19 e32 e33 e34 e35
  clear P
  obtain ⟨o19, rfl, l19, f19⟩ := str_nums s19
  obtain ⟨o32, rfl, l32, f32⟩ := str_nums s32
  obtain ⟨o33, rfl, l33, f33⟩ := str_nums s33
  obtain ⟨o34, rfl, l34, f34⟩ := str_nums s34
  obtain ⟨o35, rfl, l35, f35⟩ := str_nums s35
  refine ⟨⟨x0, x1, x2, x3, x4, x5, x6, x7, x8, x9, x10, x11, x12, x13, x14, x15, x16, x17, x18, o19, ⟨x20, x21, x22, x23, x24, x25, x26, x27, x28, x29, x30, x31, o32, o33⟩, o34, o35⟩, rfl, ?_⟩
  exact ⟨⟨r0, r1, r7, r9, r8, r10, r17, r18, f19, f34, f35, by show o19.length ≤ _; omega, by show o34.length ≤ _; omega, by show o35.length ≤ _; omega, ⟨r23, r27, r28, f32, f33, by show o33.length ≤ _; omega⟩⟩, by show o32.length ≤ _; omega⟩
end Go.Proofs.Ytpiokeidcnbmbaa.Ca

namespace Go.Proofs.Ytpiokeidcnbmbaa
open Go.RowKit
set_option maxRecDepth 20000
theorem PkR.head_len (x : PkR) : x.head.length = if x.tg = true then 18 else 14 := headBytes_len _ _ _ _ _
theorem PkR.et_of {x : PkR} (h : x = x.own) (hi : x.ii = true) : x.et = 2048 := by
  by_cases e1 : x.et = 2054
  · have := (PkR.flagsA h e1).2
    rw [hi] at this; cases this
  by_cases e2 : x.et = 2048
  · exact e2
  · have := (PkR.flagsP h e1 e2).2.1
    rw [hi] at this; cases this
theorem PkR.innerI {x : PkR} (e : x.et = 2048) : x.inner = x.ipb ++ x.l.enc x.src x.dst := by unfold PkR.inner; rw [if_neg (by omega), if_pos e]
theorem PkR.innerI_len {x : PkR} (e : x.et = 2048) : x.inner.length = 20 + x.io.length + x.l.body.length := by rw [PkR.innerI e, List.length_append, PkR.ipb_len, L4R.enc_len]
theorem PkR.bytesI {x : PkR} (h : x.Fits) (e : x.et = 2048) : x.bytes = x.head ++ (x.inner ++ x.pd) := by
  unfold PkR.bytes
  rw [(PkR.flagsI h.own e).2.2.1]; simp
theorem PkR.dropI {x : PkR} (h : x.Fits) (e : x.et = 2048) (A : Nat) (hA : x.head.length = A) : x.bytes.drop A = x.inner ++ x.pd := by
  rw [PkR.bytesI h e, List.drop_append_of_le_length (by omega), List.drop_of_length_le (by omega)]; rfl
theorem PkR.headV {x : PkR} (hx : x.Fine) (h : x.Fits) (hl : x.bytes.length ≤ 9018) (A : Nat) (hA : x.head.length = A) : Eth.headV x.bytes = Eth.ethV x.d x.s x.tg x.tag x.et A 0 := by
  have hb : x.bytes = Eth.headBytes x.d x.s x.tg x.tag x.et ++ (x.inner ++ x.bd ++ x.pd) := by unfold PkR.bytes PkR.head; simp
  have hn : x.bytes.length = x.head.length + (x.inner ++ x.bd ++ x.pd).length := by rw [hb, List.length_append]; rfl
  have := Eth.head_back x.d x.s x.tg x.tag x.et (x.inner ++ x.bd ++ x.pd) hx.d.1 hx.s.1 h.head (by have e1 : (Eth.headBytes x.d x.s x.tg x.tag x.et).length = x.head.length := rfl; omega)
  rw [← hb] at this
  rw [this, ← hA]; rfl
theorem PkR.mok {x : PkR} (hx : x.Fine) (h : x.Fits) (e : x.et = 2048) (A : Nat) (hA : x.head.length = A) : Ip.MOk (x.bytes.drop A) ((x.bytes.length - A : Nat) : Int) (20 + x.io.length) := by
  have hf := Ip.encOk_yes (h.ip e)
  have hn : x.bytes.length = x.head.length + (x.inner.length + x.pd.length) := by rw [PkR.bytesI h e, List.length_append, List.length_append]
  have := PkR.innerI_len e
  rw [PkR.dropI h e A hA, PkR.innerI e, List.append_assoc]
  exact Ip.hb_msr _ _ hf hx.src hx.dst hx.io (by omega)
theorem PkR.total {x : PkR} (h : x.Fits) (e : x.et = 2048) (A : Nat) (hA : x.head.length = A) : (x.bytes.drop A).getD 2 0 * 256 + (x.bytes.drop A).getD 3 0 = ((20 + x.io.length + x.l.body.length : Nat) : Int) := by
  rw [PkR.dropI h e A hA, PkR.innerI e, List.append_assoc]
  have := Ip.ipB_total x.tos x.id x.fr x.ttl x.pr x.src x.dst x.io x.l.body.length (x.l.enc x.src x.dst ++ x.pd)
  rw [show x.ipb = Ip.ipB x.tos x.id x.fr x.ttl x.pr x.src x.dst x.io x.l.body.length from rfl, this]
  omega
theorem PkR.ipRead {x : PkR} (h : x.Fits) (e : x.et = 2048) (A : Nat) (hA : x.head.length = A) : Ip.ipF (x.bytes.drop A) (20 + x.io.length) = .agg #[.int .i64 x.tos, .int .i64 x.id, .int .i64 x.fr, .int .i64 x.ttl, .int .i64 x.pr, .int .u32 x.src, .int .u32 x.dst, .string (strOfNums x.io)] := by
  rw [PkR.dropI h e A hA, PkR.innerI e, List.append_assoc]
  exact Ip.hb_read ..
theorem PkR.one (x : PkR) : x.ps.all (·.oneCell') = true := by kernel_rfl
end Go.Proofs.Ytpiokeidcnbmbaa

namespace Go.Proofs.Ytpiokeidcnbmbaa
open Go.RowKit
set_option maxRecDepth 20000
/-- The error of a frame's head, and what it says. -/
def hdT (zs : List Int) : Bool := decide (num ((zs.drop 12).take 2) = 33024)
def hdA (zs : List Int) : Nat := if hdT zs = true then 18 else 14
def hdG (zs : List Int) : Int := if hdT zs = true then num ((zs.drop 14).take 2) else 0
def hdY (zs : List Int) : Int := if hdT zs = true then num ((zs.drop 16).take 2) else num ((zs.drop 12).take 2)
def hdE (zs : List Int) : Int :=
  if 9018 < zs.length then 3 else if zs.length < 14 then 20
  else if hdT zs = true then (if zs.length < 18 then 20 else if num ((zs.drop 16).take 2) = 33024 then 21 else 0) else 0
theorem headV_bad (zs : List Int) (h : hdE zs ≠ 0) : Eth.headV zs = Eth.ethV 0 0 false 0 0 0 (hdE zs) := by
  unfold hdE at h ⊢
  unfold Eth.headV
  by_cases h1 : 9018 < zs.length
  · rw [if_pos h1, if_pos h1]
  rw [if_neg h1, if_neg h1]
  rw [if_neg h1] at h
  by_cases h2 : zs.length < 14
  · rw [if_pos h2, if_pos h2]
  rw [if_neg h2, if_neg h2]
  rw [if_neg h2] at h
  by_cases h3 : num ((zs.drop 12).take 2) = 33024
  · have ht : hdT zs = true := by unfold hdT; exact decide_eq_true h3
    rw [if_pos ht] at h ⊢
    rw [if_neg (fun x => x h3)]
    by_cases h4 : zs.length < 18
    · rw [if_pos h4, if_pos h4]
    rw [if_neg h4, if_neg h4]
    rw [if_neg h4] at h
    by_cases h5 : num ((zs.drop 16).take 2) = 33024
    · rw [if_pos h5, if_pos h5]
    · rw [if_neg h5] at h; exact absurd rfl h
  · have ht : ¬ hdT zs = true := by unfold hdT; simpa using h3
    rw [if_neg ht] at h
    exact absurd rfl h
theorem headV_ok (zs : List Int) (h : hdE zs = 0) : Eth.headV zs = Eth.ethV (num (zs.take 6)) (num ((zs.drop 6).take 6)) (hdT zs) (hdG zs) (hdY zs) (hdA zs) 0 ∧ hdA zs ≤ zs.length ∧ zs.length ≤ 9018 := by
  unfold hdE at h
  unfold Eth.headV hdG hdY hdA
  by_cases h1 : 9018 < zs.length
  · rw [if_pos h1] at h; omega
  rw [if_neg h1] at h ⊢
  by_cases h2 : zs.length < 14
  · rw [if_pos h2] at h; omega
  rw [if_neg h2] at h ⊢
  by_cases h3 : num ((zs.drop 12).take 2) = 33024
  · have ht : hdT zs = true := by unfold hdT; exact decide_eq_true h3
    rw [if_pos ht] at h
    rw [if_neg (fun x => x h3), if_pos ht, if_pos ht, if_pos ht]
    by_cases h4 : zs.length < 18
    · rw [if_pos h4] at h; omega
    rw [if_neg h4] at h ⊢
    by_cases h5 : num ((zs.drop 16).take 2) = 33024
    · rw [if_pos h5] at h; omega
    · rw [if_neg h5, ht]; exact ⟨rfl, by omega, by omega⟩
  · have ht : ¬ hdT zs = true := by unfold hdT; simpa using h3
    rw [if_pos h3, if_neg ht, if_neg ht, if_neg ht, Bool.eq_false_iff.2 ht]
    exact ⟨rfl, by omega, by omega⟩
/-- The error of an ARP packet. -/
def arE (zs : List Int) : Int := if zs.length < 28 then 20 else if num (zs.take 6) ≠ 4429186564 then 21 else 0
theorem arpOf_bad (zs : List Int) (h : arE zs ≠ 0) : Eth.arpOf zs = Eth.arpV 0 0 0 0 0 (arE zs) := by
  unfold arE at h ⊢
  unfold Eth.arpOf
  by_cases h1 : zs.length < 28
  · rw [if_pos h1, if_pos h1]
  rw [if_neg h1, if_neg h1]
  rw [if_neg h1] at h
  by_cases h2 : num (zs.take 6) ≠ 4429186564
  · rw [if_pos h2, if_pos h2]
  · rw [if_neg h2] at h; exact absurd rfl h
theorem arpOf_ok (zs : List Int) (h : arE zs = 0) : Eth.arpOf zs = Eth.arpV (num ((zs.drop 6).take 2)) (num ((zs.drop 8).take 6)) (num ((zs.drop 14).take 4)) (num ((zs.drop 18).take 6)) (num ((zs.drop 24).take 4)) 0 ∧ 28 ≤ zs.length := by
  unfold arE at h
  unfold Eth.arpOf
  by_cases h1 : zs.length < 28
  · rw [if_pos h1] at h; omega
  rw [if_neg h1] at h ⊢
  by_cases h2 : num (zs.take 6) ≠ 4429186564
  · rw [if_pos h2] at h; omega
  · rw [if_neg h2]; exact ⟨rfl, by omega⟩
/-- The packet of a head and what stands behind it. -/
def bodyR (d s : Int) (tg : Bool) (tag et : Int) (ys : List Int) : PkR := { zeroPkR with d := d, s := s, tg := tg, tag := tag, et := et, bd := ys }
def arpR (d s : Int) (tg : Bool) (tag : Int) (ys : List Int) : PkR := { zeroPkR with d := d, s := s, tg := tg, tag := tag, et := 2054, ia := true, op := num ((ys.drop 6).take 2), sha := num ((ys.drop 8).take 6), spa := num ((ys.drop 14).take 4), tha := num ((ys.drop 18).take 6), tpa := num ((ys.drop 24).take 4), pd := ys.drop 28 }
def ipT (ys : List Int) : Nat := (ys.getD 2 0 * 256 + ys.getD 3 0).toNat
def ipD (ys : List Int) (m : Nat) : List Int := (ys.drop m).take (ipT ys - m)
def ipR (d s : Int) (tg : Bool) (tag : Int) (ys : List Int) (m : Nat) (l : L4R) : PkR := { zeroPkR with d := d, s := s, tg := tg, tag := tag, et := 2048, ii := true, tos := num ((ys.drop 1).take 1), id := num ((ys.drop 4).take 2), fr := num ((ys.drop 6).take 2), ttl := num ((ys.drop 8).take 1), pr := num ((ys.drop 9).take 1), src := num ((ys.drop 12).take 4), dst := num ((ys.drop 16).take 4), io := (ys.drop 20).take (m - 20), l := l, pd := ys.drop (ipT ys) }
def l4e (ys : List Int) (m : Nat) : Int := decE (num ((ys.drop 12).take 4)) (num ((ys.drop 16).take 4)) (kindV (num ((ys.drop 9).take 1))) (ipD ys m)
def l4r (ys : List Int) (m : Nat) : L4R := decR (num ((ys.drop 12).take 4)) (num ((ys.drop 16).take 4)) (kindV (num ((ys.drop 9).take 1))) (ipD ys m)
def ipP (d s : Int) (tg : Bool) (tag : Int) (ys : List Int) (m : Nat) : PkR × Int :=
  if wholeB (num ((ys.drop 6).take 2)) = true then (if l4e ys m = 0 then (ipR d s tg tag ys m (l4r ys m), 0) else (zeroPkR, l4e ys m))
  else (ipR d s tg tag ys m { zeroR with ds := ipD ys m }, 0)
def ipE (ys : List Int) : Int := (Ip.msr ys ys.length).2.2
def ipM (ys : List Int) : Nat := (Ip.msr ys ys.length).1.toNat
def restR (d s : Int) (tg : Bool) (tag et : Int) (ys : List Int) : PkR × Int :=
  if et = 2054 then (if arE ys = 0 then (arpR d s tg tag ys, 0) else (zeroPkR, arE ys))
  else if et = 2048 then (if ipE ys = 0 then ipP d s tg tag ys (ipM ys) else (zeroPkR, ipE ys))
  else (bodyR d s tg tag et ys, 0)
def parseR (zs : List Int) : PkR × Int :=
  if hdE zs = 0 then restR (num (zs.take 6)) (num ((zs.drop 6).take 6)) (hdT zs) (hdG zs) (hdY zs) (zs.drop (hdA zs)) else (zeroPkR, hdE zs)
def pv (x : PkR × Int) : Value := .tuple #[.agg x.1.ps, .int .i64 x.2]
theorem pv_mk (x : PkR) (e : Int) : pv (x, e) = .tuple #[.agg x.ps, .int .i64 e] := rfl
theorem bodyR_ps (d s : Int) (tg : Bool) (tag et : Int) (ys : List Int) : (Ca.putC zeroPk 0 (#[.int .u64 d, .int .u64 s, .bool tg, .int .i64 tag, .int .i64 et]).toList).setIfInBounds 34 (.string (strOfNums ys)) = (bodyR d s tg tag et ys).ps := by kernel_rfl
theorem arpR_ps (d s : Int) (tg : Bool) (tag : Int) (ys : List Int) : (Ca.putC ((Ca.putC zeroPk 0 (#[.int .u64 d, .int .u64 s, .bool tg, .int .i64 tag, .int .i64 2054]).toList).setIfInBounds 5 (.bool true)) 6 (#[.int .i64 (num ((ys.drop 6).take 2)), .int .u64 (num ((ys.drop 8).take 6)), .int .u32 (num ((ys.drop 14).take 4)), .int .u64 (num ((ys.drop 18).take 6)), .int .u32 (num ((ys.drop 24).take 4))]).toList).setIfInBounds 35 (.string (strOfNums (ys.drop 28))) = (arpR d s tg tag ys).ps := by kernel_rfl
theorem ipR_ps (d s : Int) (tg : Bool) (tag : Int) (ys : List Int) (m : Nat) (k ty co re sp dp : Int) (ns : Bool) (sq ak fl wi ur : Int) (lo ds : List Int) : (Ca.putC (Ca.putC ((Ca.putC zeroPk 0 (#[.int .u64 d, .int .u64 s, .bool tg, .int .i64 tag, .int .i64 2048]).toList).setIfInBounds 11 (.bool true)) 12 (#[.int .i64 (num ((ys.drop 1).take 1)), .int .i64 (num ((ys.drop 4).take 2)), .int .i64 (num ((ys.drop 6).take 2)), .int .i64 (num ((ys.drop 8).take 1)), .int .i64 (num ((ys.drop 9).take 1)), .int .u32 (num ((ys.drop 12).take 4)), .int .u32 (num ((ys.drop 16).take 4)), .string (strOfNums ((ys.drop 20).take (m - 20)))]).toList) 20 (#[.int .i64 k, .int .i64 ty, .int .i64 co, .int .u32 re, .int .i64 sp, .int .i64 dp, .bool ns, .int .u32 sq, .int .u32 ak, .int .i64 fl, .int .i64 wi, .int .i64 ur, .string (strOfNums lo), .string (strOfNums ds)]).toList).setIfInBounds 35 (.string (strOfNums (ys.drop (ipT ys)))) = (ipR d s tg tag ys m ⟨k, ty, co, re, sp, dp, ns, sq, ak, fl, wi, ur, lo, ds⟩).ps := by kernel_rfl
theorem fragR_ps (d s : Int) (tg : Bool) (tag : Int) (ys : List Int) (m : Nat) (D : List Int) : (Ca.putC (Ca.putC ((Ca.putC zeroPk 0 (#[.int .u64 d, .int .u64 s, .bool tg, .int .i64 tag, .int .i64 2048]).toList).setIfInBounds 11 (.bool true)) 12 (#[.int .i64 (num ((ys.drop 1).take 1)), .int .i64 (num ((ys.drop 4).take 2)), .int .i64 (num ((ys.drop 6).take 2)), .int .i64 (num ((ys.drop 8).take 1)), .int .i64 (num ((ys.drop 9).take 1)), .int .u32 (num ((ys.drop 12).take 4)), .int .u32 (num ((ys.drop 16).take 4)), .string (strOfNums ((ys.drop 20).take (m - 20)))]).toList) 20 (#[.int .i64 0, .int .i64 0, .int .i64 0, .int .u32 0, .int .i64 0, .int .i64 0, .bool false, .int .u32 0, .int .u32 0, .int .i64 0, .int .i64 0, .int .i64 0, .string ⟨#[]⟩, .string (strOfNums D)]).toList).setIfInBounds 35 (.string (strOfNums (ys.drop (ipT ys)))) = (ipR d s tg tag ys m { zeroR with ds := D }).ps := by kernel_rfl
/-- Lengths of an IPv4 packet: wrong, or right. -/
theorem ip_cases (ys : List Int) (hz : ∀ i, 0 ≤ ys.getD i 0 ∧ ys.getD i 0 ≤ 255) : (ipE ys ≠ 0 ∧ (ipE ys = 20 ∨ ipE ys = 21 ∨ ipE ys = 30) ∧ Ip.msr ys ys.length = (0, 0, ipE ys)) ∨ (ipE ys = 0 ∧ Ip.MOk ys ys.length (ipM ys) ∧ ((ipT ys : Nat) : Int) = ys.getD 2 0 * 256 + ys.getD 3 0 ∧ ipM ys ≤ ipT ys ∧ ipT ys ≤ ys.length ∧ 20 ≤ ipM ys) := by
  rcases Ip.msr_cases ys ys.length hz with ⟨f, hf, he⟩ | ⟨m, hm⟩
  · have : ipE ys = f := by unfold ipE; rw [he]
    rw [this]
    exact .inl ⟨by omega, hf, he⟩
  · have he := Ip.msr_yes hm
    have h1 : ipE ys = 0 := by unfold ipE; rw [he]
    have h2 : ipM ys = m := by unfold ipM; rw [he]; rfl
    have := hz 2
    have := hz 3
    have h3 : ((ipT ys : Nat) : Int) = ys.getD 2 0 * 256 + ys.getD 3 0 := by unfold ipT; omega
    have h4 := hm.total
    have h5 := hm.room
    rw [h2]
    exact .inr ⟨h1, hm, h3, by omega, by omega, hm.twenty⟩
theorem ipFs (ys : List Int) (m : Nat) : Ip.ipF ys m = .agg #[.int .i64 (num ((ys.drop 1).take 1)), .int .i64 (num ((ys.drop 4).take 2)), .int .i64 (num ((ys.drop 6).take 2)), .int .i64 (num ((ys.drop 8).take 1)), .int .i64 (num ((ys.drop 9).take 1)), .int .u32 (num ((ys.drop 12).take 4)), .int .u32 (num ((ys.drop 16).take 4)), .string (strOfNums ((ys.drop 20).take (m - 20)))] := rfl
theorem ip_b4 (ys : List Int) (hz : ∀ i, 0 ≤ ys.getD i 0 ∧ ys.getD i 0 ≤ 255) (k : Nat) (hk : k + 4 ≤ ys.length) : 0 ≤ num ((ys.drop k).take 4) ∧ num ((ys.drop k).take 4) ≤ 4294967295 :=
  Eth.num_bd4 (Eth.fits_take (Eth.fits_drop hz k) 4) (by simp; omega)

set_option maxHeartbeats 2000000 in
theorem parse_rest14 (w : World) (b off n cap : Nat) (zs : List Int) (h : BS w (some ⟨b, off, none⟩) n zs) (hcap : n ≤ cap) (hm : cap ≤ 9223372036854775807) (hA : 14 ≤ n) (d s tag et : Int) (tg : Bool) (hv : Eth.headV zs = Eth.ethV d s tg tag et 14 0) (hok : (restR d s tg tag et (zs.drop 14)).2 = 0) :
    Calls Try.prog 8 #[.slice (some ⟨b, off, none⟩) n cap] w fun e w' => e = .returned (pv (restR d s tg tag et (zs.drop 14))) ∧ Below w.heap.size w w' := by
  have hl := h.len
  have hz := Eth.fits_drop h.fits 14
  have HH : ∀ W, BS W (some ⟨b, off, none⟩) n zs → Calls Try.prog 18 #[.slice (some ⟨b, off, none⟩) n cap] W fun e w' => e = .returned (Eth.ethV d s tg tag et 14 0) ∧ Below W.heap.size W w' := fun W hB => by
    rw [← hv]; exact Eth.head_any cap hB hcap hm
  have hyl : (zs.drop 14).length = n - 14 := by rw [List.length_drop, hl]
  unfold restR at hok ⊢
  by_cases e1 : et = 2054
  · subst e1
    rw [if_pos rfl] at hok ⊢
    by_cases ea : arE (zs.drop 14) = 0
    · rw [if_pos ea]
      obtain ⟨ho, h28⟩ := arpOf_ok _ ea
      have HI : ∀ W, BS W (some ⟨b, off + 14, none⟩) (n - 14) (zs.drop 14) → Calls Try.prog 19 #[.slice (some ⟨b, off + 14, none⟩) (n - 14) (cap - 14)] W fun e w' => e = .returned (Eth.arpOf (zs.drop 14)) ∧ Below W.heap.size W w' := fun W hB => Eth.arp_any (cap - 14) hB (by omega) (by omega)
      rw [ho] at HI
      have hpd : zs.drop (14 + 28) = (zs.drop 14).drop 28 := by rw [List.drop_drop]
      by_cases hc : cap = 42
      · obtain rfl : n = 42 := by omega
        subst hc
        have := parse_arp14t w b off zs h d s tag tg _ _ _ _ _ (strOfNums (zs.drop 42)) rfl HH HI
        rw [hpd, arpR_ps] at this
        rw [pv_mk]
        exact this
      · have := parse_arp14 w b off n cap zs h hcap (by omega) d s tag tg hc _ _ _ _ _ (strOfNums (zs.drop 42)) rfl HH HI
        rw [hpd, arpR_ps] at this
        rw [pv_mk]
        exact this
    · rw [if_neg ea] at hok
      exact absurd hok ea
  rw [if_neg e1] at hok ⊢
  by_cases e2 : et = 2048
  · subst e2
    rw [if_pos rfl] at hok ⊢
    have hroom : ((n - 14 : Nat) : Int) = (zs.drop 14).length := by rw [hyl]
    rcases ip_cases (zs.drop 14) hz with ⟨e0, ef, he⟩ | ⟨e0, hmk, hT, hmT, hTl, h20⟩
    · rw [if_neg e0] at hok
      exact absurd hok e0
    · rw [if_pos e0] at hok ⊢
      generalize hM : ipM (zs.drop 14) = m at *
      generalize hTT : ipT (zs.drop 14) = T at *
      have HI : ∀ W, BS W (some ⟨b, off + 14, none⟩) (n - 14) (zs.drop 14) → Calls Try.prog 17 #[.slice (some ⟨b, off + 14, none⟩) (n - 14) (cap - 14)] W fun e w' => e = .returned (.tuple #[Ip.ipF (zs.drop 14) m, .int .i64 m, .int .i64 T, .int .i64 0]) ∧ Below W.heap.size W w' := fun W hB => by
        have := (Ip.decode_any W _ (n - 14) (cap - 14) _ hB (by omega)).2 m (by rw [hroom]; exact hmk)
        rw [← hT] at this
        exact this
      rw [ipFs] at HI
      have hsrc := ip_b4 _ hz 12 (by omega)
      have hdst := ip_b4 _ hz 16 (by omega)
      have hD : (zs.drop (14 + m)).take (14 + T - (14 + m)) = ipD (zs.drop 14) m := by
        unfold ipD; rw [hTT, List.drop_drop, show 14 + T - (14 + m) = T - m by omega]
      have hP : zs.drop (14 + T) = (zs.drop 14).drop (ipT (zs.drop 14)) := by rw [hTT, List.drop_drop]
      have HL : ∀ (a : Option Addr) (k c : Nat), k ≤ c → (∀ x, a = some x → ∃ b off, x = ⟨b, off, none⟩) → (a = none → c = 0) → ∀ W, BS W a k (ipD (zs.drop 14) m) → Calls Try.prog 21 #[.int .u32 (num (((zs.drop 14).drop 12).take 4)), .int .u32 (num (((zs.drop 14).drop 16).take 4)), .int .i64 (num (((zs.drop 14).drop 9).take 1)), .slice a k c] W fun e w' => e = .returned (.tuple #[(l4r (zs.drop 14) m).v, .int .i64 (l4e (zs.drop 14) m)]) ∧ Below W.heap.size W w' :=
        fun a k c hk ha h0 W hB => decode_any _ _ _ hsrc hdst a k c _ hk ha h0 W hB
      have hlen : (ipD (zs.drop 14) m).length = T - m := by unfold ipD; rw [hTT, List.length_take, List.length_drop, hyl]; omega
      unfold ipP at hok ⊢
      by_cases hw : wholeB (num (((zs.drop 14).drop 6).take 2)) = true
      · rw [if_pos hw] at hok ⊢
        by_cases el : l4e (zs.drop 14) m = 0
        · rw [if_pos el]
          rw [el] at HL
          obtain ⟨L, hL4⟩ : ∃ L, l4r (zs.drop 14) m = L := ⟨_, rfl⟩
          rw [hL4] at HL ⊢
          obtain ⟨k, ty, co, re, sp, dp, ns, sq, ak, fl, wi, ur, lo, ds⟩ := L
          by_cases hc1 : cap = 14 + m
          · obtain rfl : n = 14 + m := by omega
            obtain rfl : T = m := by omega
            subst hc1
            have := parse_ok14B w b off (14 + T) zs h T T rfl rfl (by omega) d s tag tg _ _ _ _ _ _ _ _ hw k ty co re sp dp ns sq ak fl wi ur lo ds (strOfNums (zs.drop (14 + T))) rfl HH HI (fun W hB => HL (some ⟨b, off, none⟩) 0 0 (Nat.le_refl _) (fun x e => ⟨b, off, by cases e; rfl⟩) (fun e => by cases e) W (by rw [List.length_eq_zero_iff.1 (show (ipD (zs.drop 14) T).length = 0 by omega)]; exact BS.empty _))
            rw [hP, ipR_ps] at this
            rw [pv_mk]
            exact this
          by_cases hc2 : cap = 14 + T
          · obtain rfl : n = 14 + T := by omega
            subst hc2
            have := parse_ok14C w b off (14 + m) (14 + T) zs h m T rfl rfl (by omega) hmT hc1 d s tag tg _ _ _ _ _ _ _ _ hw k ty co re sp dp ns sq ak fl wi ur lo ds (strOfNums (zs.drop (14 + T))) rfl HH HI (fun W hB => HL (some ⟨b, off + (14 + m), none⟩) (14 + T - (14 + m)) (14 + T - (14 + m)) (Nat.le_refl _) (fun x e => ⟨b, off + (14 + m), by cases e; rfl⟩) (fun e => by cases e) W (by rw [← hD]; exact (hB.drop (by omega) (14 + m) (by omega)).take _ (by omega)))
            rw [hP, ipR_ps] at this
            rw [pv_mk]
            exact this
          · have := parse_ok14A w b off n cap (14 + m) (14 + T) zs h m T rfl rfl (by omega) hmT (by omega) hcap hc1 hc2 d s tag tg _ _ _ _ _ _ _ _ hw k ty co re sp dp ns sq ak fl wi ur lo ds (strOfNums (zs.drop (14 + T))) rfl HH HI (fun W hB => HL (some ⟨b, off + (14 + m), none⟩) (14 + T - (14 + m)) (cap - (14 + m)) (by omega) (fun x e => ⟨b, off + (14 + m), by cases e; rfl⟩) (fun e => by cases e) W (by rw [← hD]; exact (hB.drop (by omega) (14 + m) (by omega)).take _ (by omega)))
            rw [hP, ipR_ps] at this
            rw [pv_mk]
            exact this
        · rw [if_neg el] at hok
          exact absurd hok el
      · rw [if_neg hw]
        have hw' := Bool.eq_false_iff.2 hw
        by_cases hc1 : cap = 14 + m
        · obtain rfl : n = 14 + m := by omega
          obtain rfl : T = m := by omega
          subst hc1
          have := parse_frag14B w b off (14 + T) zs h T T rfl rfl (by omega) d s tag tg _ _ _ _ _ _ _ _ hw' (strOfNums ((zs.drop (14 + T)).take (14 + T - (14 + T)))) (strOfNums (zs.drop (14 + T))) rfl rfl HH HI
          rw [hD, hP, fragR_ps] at this
          rw [pv_mk]
          exact this
        by_cases hc2 : cap = 14 + T
        · obtain rfl : n = 14 + T := by omega
          subst hc2
          have := parse_frag14C w b off (14 + m) (14 + T) zs h m T rfl rfl (by omega) hmT hc1 d s tag tg _ _ _ _ _ _ _ _ hw' (strOfNums ((zs.drop (14 + m)).take (14 + T - (14 + m)))) (strOfNums (zs.drop (14 + T))) rfl rfl HH HI
          rw [hD, hP, fragR_ps] at this
          rw [pv_mk]
          exact this
        · have := parse_frag14A w b off n cap (14 + m) (14 + T) zs h m T rfl rfl (by omega) hmT (by omega) hcap hc1 hc2 d s tag tg _ _ _ _ _ _ _ _ hw' (strOfNums ((zs.drop (14 + m)).take (14 + T - (14 + m)))) (strOfNums (zs.drop (14 + T))) rfl rfl HH HI
          rw [hD, hP, fragR_ps] at this
          rw [pv_mk]
          exact this
  · rw [if_neg e2]
    by_cases hc : cap = 14
    · rw [pv_mk, ← bodyR_ps]
      exact parse_body14t w b off n cap zs h hcap hA d s tag et tg hc (by simpa using e1) (by simpa using e2) (strOfNums (zs.drop 14)) rfl HH
    · rw [pv_mk, ← bodyR_ps]
      exact parse_body14 w b off n cap zs h hcap hA d s tag et tg hc (by simpa using e1) (by simpa using e2) (strOfNums (zs.drop 14)) rfl HH

set_option maxHeartbeats 2000000 in
theorem parse_rest18 (w : World) (b off n cap : Nat) (zs : List Int) (h : BS w (some ⟨b, off, none⟩) n zs) (hcap : n ≤ cap) (hm : cap ≤ 9223372036854775807) (hA : 18 ≤ n) (d s tag et : Int) (tg : Bool) (hv : Eth.headV zs = Eth.ethV d s tg tag et 18 0) (hok : (restR d s tg tag et (zs.drop 18)).2 = 0) :
    Calls Try.prog 8 #[.slice (some ⟨b, off, none⟩) n cap] w fun e w' => e = .returned (pv (restR d s tg tag et (zs.drop 18))) ∧ Below w.heap.size w w' := by
  have hl := h.len
  have hz := Eth.fits_drop h.fits 18
  have HH : ∀ W, BS W (some ⟨b, off, none⟩) n zs → Calls Try.prog 18 #[.slice (some ⟨b, off, none⟩) n cap] W fun e w' => e = .returned (Eth.ethV d s tg tag et 18 0) ∧ Below W.heap.size W w' := fun W hB => by
    rw [← hv]; exact Eth.head_any cap hB hcap hm
  have hyl : (zs.drop 18).length = n - 18 := by rw [List.length_drop, hl]
  unfold restR at hok ⊢
  by_cases e1 : et = 2054
  · subst e1
    rw [if_pos rfl] at hok ⊢
    by_cases ea : arE (zs.drop 18) = 0
    · rw [if_pos ea]
      obtain ⟨ho, h28⟩ := arpOf_ok _ ea
      have HI : ∀ W, BS W (some ⟨b, off + 18, none⟩) (n - 18) (zs.drop 18) → Calls Try.prog 19 #[.slice (some ⟨b, off + 18, none⟩) (n - 18) (cap - 18)] W fun e w' => e = .returned (Eth.arpOf (zs.drop 18)) ∧ Below W.heap.size W w' := fun W hB => Eth.arp_any (cap - 18) hB (by omega) (by omega)
      rw [ho] at HI
      have hpd : zs.drop (18 + 28) = (zs.drop 18).drop 28 := by rw [List.drop_drop]
      by_cases hc : cap = 46
      · obtain rfl : n = 46 := by omega
        subst hc
        have := parse_arp18t w b off zs h d s tag tg _ _ _ _ _ (strOfNums (zs.drop 46)) rfl HH HI
        rw [hpd, arpR_ps] at this
        rw [pv_mk]
        exact this
      · have := parse_arp18 w b off n cap zs h hcap (by omega) d s tag tg hc _ _ _ _ _ (strOfNums (zs.drop 46)) rfl HH HI
        rw [hpd, arpR_ps] at this
        rw [pv_mk]
        exact this
    · rw [if_neg ea] at hok
      exact absurd hok ea
  rw [if_neg e1] at hok ⊢
  by_cases e2 : et = 2048
  · subst e2
    rw [if_pos rfl] at hok ⊢
    have hroom : ((n - 18 : Nat) : Int) = (zs.drop 18).length := by rw [hyl]
    rcases ip_cases (zs.drop 18) hz with ⟨e0, ef, he⟩ | ⟨e0, hmk, hT, hmT, hTl, h20⟩
    · rw [if_neg e0] at hok
      exact absurd hok e0
    · rw [if_pos e0] at hok ⊢
      generalize hM : ipM (zs.drop 18) = m at *
      generalize hTT : ipT (zs.drop 18) = T at *
      have HI : ∀ W, BS W (some ⟨b, off + 18, none⟩) (n - 18) (zs.drop 18) → Calls Try.prog 17 #[.slice (some ⟨b, off + 18, none⟩) (n - 18) (cap - 18)] W fun e w' => e = .returned (.tuple #[Ip.ipF (zs.drop 18) m, .int .i64 m, .int .i64 T, .int .i64 0]) ∧ Below W.heap.size W w' := fun W hB => by
        have := (Ip.decode_any W _ (n - 18) (cap - 18) _ hB (by omega)).2 m (by rw [hroom]; exact hmk)
        rw [← hT] at this
        exact this
      rw [ipFs] at HI
      have hsrc := ip_b4 _ hz 12 (by omega)
      have hdst := ip_b4 _ hz 16 (by omega)
      have hD : (zs.drop (18 + m)).take (18 + T - (18 + m)) = ipD (zs.drop 18) m := by
        unfold ipD; rw [hTT, List.drop_drop, show 18 + T - (18 + m) = T - m by omega]
      have hP : zs.drop (18 + T) = (zs.drop 18).drop (ipT (zs.drop 18)) := by rw [hTT, List.drop_drop]
      have HL : ∀ (a : Option Addr) (k c : Nat), k ≤ c → (∀ x, a = some x → ∃ b off, x = ⟨b, off, none⟩) → (a = none → c = 0) → ∀ W, BS W a k (ipD (zs.drop 18) m) → Calls Try.prog 21 #[.int .u32 (num (((zs.drop 18).drop 12).take 4)), .int .u32 (num (((zs.drop 18).drop 16).take 4)), .int .i64 (num (((zs.drop 18).drop 9).take 1)), .slice a k c] W fun e w' => e = .returned (.tuple #[(l4r (zs.drop 18) m).v, .int .i64 (l4e (zs.drop 18) m)]) ∧ Below W.heap.size W w' :=
        fun a k c hk ha h0 W hB => decode_any _ _ _ hsrc hdst a k c _ hk ha h0 W hB
      have hlen : (ipD (zs.drop 18) m).length = T - m := by unfold ipD; rw [hTT, List.length_take, List.length_drop, hyl]; omega
      unfold ipP at hok ⊢
      by_cases hw : wholeB (num (((zs.drop 18).drop 6).take 2)) = true
      · rw [if_pos hw] at hok ⊢
        by_cases el : l4e (zs.drop 18) m = 0
        · rw [if_pos el]
          rw [el] at HL
          obtain ⟨L, hL4⟩ : ∃ L, l4r (zs.drop 18) m = L := ⟨_, rfl⟩
          rw [hL4] at HL ⊢
          obtain ⟨k, ty, co, re, sp, dp, ns, sq, ak, fl, wi, ur, lo, ds⟩ := L
          by_cases hc1 : cap = 18 + m
          · obtain rfl : n = 18 + m := by omega
            obtain rfl : T = m := by omega
            subst hc1
            have := parse_ok18B w b off (18 + T) zs h T T rfl rfl (by omega) d s tag tg _ _ _ _ _ _ _ _ hw k ty co re sp dp ns sq ak fl wi ur lo ds (strOfNums (zs.drop (18 + T))) rfl HH HI (fun W hB => HL (some ⟨b, off, none⟩) 0 0 (Nat.le_refl _) (fun x e => ⟨b, off, by cases e; rfl⟩) (fun e => by cases e) W (by rw [List.length_eq_zero_iff.1 (show (ipD (zs.drop 18) T).length = 0 by omega)]; exact BS.empty _))
            rw [hP, ipR_ps] at this
            rw [pv_mk]
            exact this
          by_cases hc2 : cap = 18 + T
          · obtain rfl : n = 18 + T := by omega
            subst hc2
            have := parse_ok18C w b off (18 + m) (18 + T) zs h m T rfl rfl (by omega) hmT hc1 d s tag tg _ _ _ _ _ _ _ _ hw k ty co re sp dp ns sq ak fl wi ur lo ds (strOfNums (zs.drop (18 + T))) rfl HH HI (fun W hB => HL (some ⟨b, off + (18 + m), none⟩) (18 + T - (18 + m)) (18 + T - (18 + m)) (Nat.le_refl _) (fun x e => ⟨b, off + (18 + m), by cases e; rfl⟩) (fun e => by cases e) W (by rw [← hD]; exact (hB.drop (by omega) (18 + m) (by omega)).take _ (by omega)))
            rw [hP, ipR_ps] at this
            rw [pv_mk]
            exact this
          · have := parse_ok18A w b off n cap (18 + m) (18 + T) zs h m T rfl rfl (by omega) hmT (by omega) hcap hc1 hc2 d s tag tg _ _ _ _ _ _ _ _ hw k ty co re sp dp ns sq ak fl wi ur lo ds (strOfNums (zs.drop (18 + T))) rfl HH HI (fun W hB => HL (some ⟨b, off + (18 + m), none⟩) (18 + T - (18 + m)) (cap - (18 + m)) (by omega) (fun x e => ⟨b, off + (18 + m), by cases e; rfl⟩) (fun e => by cases e) W (by rw [← hD]; exact (hB.drop (by omega) (18 + m) (by omega)).take _ (by omega)))
            rw [hP, ipR_ps] at this
            rw [pv_mk]
            exact this
        · rw [if_neg el] at hok
          exact absurd hok el
      · rw [if_neg hw]
        have hw' := Bool.eq_false_iff.2 hw
        by_cases hc1 : cap = 18 + m
        · obtain rfl : n = 18 + m := by omega
          obtain rfl : T = m := by omega
          subst hc1
          have := parse_frag18B w b off (18 + T) zs h T T rfl rfl (by omega) d s tag tg _ _ _ _ _ _ _ _ hw' (strOfNums ((zs.drop (18 + T)).take (18 + T - (18 + T)))) (strOfNums (zs.drop (18 + T))) rfl rfl HH HI
          rw [hD, hP, fragR_ps] at this
          rw [pv_mk]
          exact this
        by_cases hc2 : cap = 18 + T
        · obtain rfl : n = 18 + T := by omega
          subst hc2
          have := parse_frag18C w b off (18 + m) (18 + T) zs h m T rfl rfl (by omega) hmT hc1 d s tag tg _ _ _ _ _ _ _ _ hw' (strOfNums ((zs.drop (18 + m)).take (18 + T - (18 + m)))) (strOfNums (zs.drop (18 + T))) rfl rfl HH HI
          rw [hD, hP, fragR_ps] at this
          rw [pv_mk]
          exact this
        · have := parse_frag18A w b off n cap (18 + m) (18 + T) zs h m T rfl rfl (by omega) hmT (by omega) hcap hc1 hc2 d s tag tg _ _ _ _ _ _ _ _ hw' (strOfNums ((zs.drop (18 + m)).take (18 + T - (18 + m)))) (strOfNums (zs.drop (18 + T))) rfl rfl HH HI
          rw [hD, hP, fragR_ps] at this
          rw [pv_mk]
          exact this
  · rw [if_neg e2]
    by_cases hc : cap = 18
    · rw [pv_mk, ← bodyR_ps]
      exact parse_body18t w b off n cap zs h hcap hA d s tag et tg hc (by simpa using e1) (by simpa using e2) (strOfNums (zs.drop 18)) rfl HH
    · rw [pv_mk, ← bodyR_ps]
      exact parse_body18 w b off n cap zs h hcap hA d s tag et tg hc (by simpa using e1) (by simpa using e2) (strOfNums (zs.drop 18)) rfl HH

/-- Parse of any bytes. -/
theorem parse_fine (w : World) (a : Option Addr) (n cap : Nat) (zs : List Int) (h : BS w a n zs) (hcap : n ≤ cap) (hm : cap ≤ 9223372036854775807) (hok : (parseR zs).2 = 0) :
    Calls Try.prog 8 #[.slice a n cap] w fun e w' => e = .returned (pv (parseR zs)) ∧ Below w.heap.size w w' := by
  have hl := h.len
  unfold parseR at hok ⊢
  by_cases h0 : hdE zs = 0
  · rw [if_pos h0] at hok ⊢
    obtain ⟨hv, h1, h2⟩ := headV_ok zs h0
    have h3 : 14 ≤ hdA zs := by unfold hdA; split <;> omega
    obtain ⟨b, off, rfl, _⟩ := h.cells.resolve_left (by omega)
    cases ht : hdT zs
    · have hA : hdA zs = 14 := by unfold hdA; rw [ht]; rfl
      rw [hA] at hv h1 hok ⊢
      rw [ht] at hv hok
      exact parse_rest14 w b off n cap zs h hcap hm (by omega) _ _ _ _ _ hv hok
    · have hA : hdA zs = 18 := by unfold hdA; rw [ht]; rfl
      rw [hA] at hv h1 hok ⊢
      rw [ht] at hv hok
      exact parse_rest18 w b off n cap zs h hcap hm (by omega) _ _ _ _ _ hv hok
  · rw [if_neg h0] at hok
    exact absurd hok h0
end Go.Proofs.Ytpiokeidcnbmbaa

namespace Go.Proofs.Ytpiokeidcnbmbaa
open Go.RowKit
set_option maxRecDepth 20000
theorem ethV_inj {d s tag et n e d' s' tag' et' n' e' : Int} {tg tg' : Bool} (h : Eth.ethV d s tg tag et n e = Eth.ethV d' s' tg' tag' et' n' e') : d = d' ∧ s = s' ∧ tg = tg' ∧ tag = tag' ∧ et = et' ∧ n = n' ∧ e = e' := by
  unfold Eth.ethV at h
  simp at h
  obtain ⟨⟨h1, h2, h3, h4, h5⟩, h6, h7⟩ := h
  exact ⟨h1, h2, h3, h4, h5, h6, h7⟩
theorem arpV_inj {a b c d e f a' b' c' d' e' f' : Int} (h : Eth.arpV a b c d e f = Eth.arpV a' b' c' d' e' f') : a = a' ∧ b = b' ∧ c = c' ∧ d = d' ∧ e = e' ∧ f = f' := by
  unfold Eth.arpV at h
  simp at h
  obtain ⟨⟨h1, h2, h3, h4, h5⟩, h6⟩ := h
  exact ⟨h1, h2, h3, h4, h5, h6⟩
/-- A frame whose head is that of a packet. -/
theorem parse_head {zs : List Int} {d s tag et : Int} {tg : Bool} {A : Nat} (h : Eth.headV zs = Eth.ethV d s tg tag et A 0) : parseR zs = restR d s tg tag et (zs.drop A) := by
  unfold parseR
  by_cases h0 : hdE zs = 0
  · rw [if_pos h0]
    have := (headV_ok zs h0).1
    rw [h] at this
    obtain ⟨rfl, rfl, rfl, rfl, rfl, h6, _⟩ := ethV_inj this
    rw [show hdA zs = A by omega]
  · have := headV_bad zs h0
    rw [h] at this
    exact absurd (ethV_inj this).2.2.2.2.2.2.symm h0
theorem ip_of_mok {ys : List Int} {m : Nat} (h : Ip.MOk ys ys.length m) : ipE ys = 0 ∧ ipM ys = m := by
  have he := Ip.msr_yes h
  constructor
  · unfold ipE; rw [he]
  · unfold ipM; rw [he]; rfl
theorem arp_of {ys : List Int} {op sha spa tha tpa : Int} (h : Eth.arpOf ys = Eth.arpV op sha spa tha tpa 0) : arE ys = 0 ∧ num ((ys.drop 6).take 2) = op ∧ num ((ys.drop 8).take 6) = sha ∧ num ((ys.drop 14).take 4) = spa ∧ num ((ys.drop 18).take 6) = tha ∧ num ((ys.drop 24).take 4) = tpa := by
  by_cases h0 : arE ys = 0
  · have := (arpOf_ok ys h0).1
    rw [h] at this
    obtain ⟨h1, h2, h3, h4, h5, _⟩ := arpV_inj this
    exact ⟨h0, h1.symm, h2.symm, h3.symm, h4.symm, h5.symm⟩
  · have := arpOf_bad ys h0
    rw [h] at this
    exact absurd (arpV_inj this).2.2.2.2.2.symm h0
theorem L4R.opaque {l : L4R} (hok : l.ok = true) (hk : l.k = 0) : l.body = l.ds ∧ l = { zeroR with ds := l.ds } := by
  obtain ⟨_, a1, a2, a3, a4, a5, a6, a7, a8, a9, a10, a11, a12⟩ : l.k = 0 ∧ l.ty = 0 ∧ l.co = 0 ∧ l.re = 0 ∧ l.sp = 0 ∧ l.dp = 0 ∧ l.ns = false ∧ l.sq = 0 ∧ l.ak = 0 ∧ l.fl = 0 ∧ l.wi = 0 ∧ l.ur = 0 ∧ l.os = [] := by
    rcases (L4R.okOf hok).kind with h | h | h | h
    · exact h
    · have := h.1; omega
    · have := h.1; omega
    · have := h.1; omega
  have hh := L4R.head_len l
  rw [hk, show fixV 0 = 0 from rfl] at hh
  have hh' : l.head = [] := List.length_eq_zero_iff.1 (by omega)
  refine ⟨by unfold L4R.body; rw [hh', a12]; rfl, ?_⟩
  obtain ⟨k, ty, co, re, sp, dp, ns, sq, ak, fl, wi, ur, os, ds⟩ := l
  simp only at hk a1 a2 a3 a4 a5 a6 a7 a8 a9 a10 a11 a12
  subst hk a1 a2 a3 a4 a5 a6 a7 a8 a9 a10 a11 a12
  rfl
theorem PkR.back {x : PkR} (hx : x.Fine) (h : x.Fits) (hl : x.bytes.length ≤ 9018) : parseR x.bytes = (x, 0) := by
  obtain ⟨A, hA⟩ : ∃ A, x.head.length = A := ⟨_, rfl⟩
  rw [parse_head (PkR.headV hx h hl A hA)]
  have ho := h.own
  unfold restR
  by_cases e1 : x.et = 2054
  · rw [if_pos e1]
    have hb : x.bytes.drop A = Eth.arpBytes x.op x.sha x.spa x.tha x.tpa ++ x.pd := by
      have e : x.bd = [] := by
        rw [ho]; unfold PkR.own; rw [if_pos e1]; rfl
      unfold PkR.bytes PkR.inner
      rw [if_pos e1, e, List.append_nil, List.append_assoc, List.drop_append_of_le_length (by omega), List.drop_of_length_le (by omega)]; rfl
    have ha := Eth.arp_back x.op x.sha x.spa x.tha x.tpa x.pd hx.sha.1 hx.spa hx.tha.1 hx.tpa (h.arp e1)
    rw [← hb] at ha
    obtain ⟨a0, a1, a2, a3, a4, a5⟩ := arp_of ha
    rw [if_pos a0]
    have hp : (x.bytes.drop A).drop 28 = x.pd := by
      have := arpBytes_len x.op x.sha x.spa x.tha x.tpa
      rw [hb, List.drop_append_of_le_length (by omega), List.drop_of_length_le (by omega)]; rfl
    have ho' : x = x.ownA := by
      conv => lhs; rw [ho]
      unfold PkR.own; rw [if_pos e1]
    refine Prod.ext ?_ rfl
    refine Eq.trans ?_ ho'.symm
    unfold arpR PkR.ownA
    rw [a1, a2, a3, a4, a5, hp, e1]
  rw [if_neg e1]
  by_cases e2 : x.et = 2048
  · rw [if_pos e2]
    have hm := PkR.mok hx h e2 A hA
    have hT := PkR.total h e2 A hA
    have hR := PkR.ipRead h e2 A hA
    have hd := PkR.dropI h e2 A hA
    have hi := PkR.innerI_len e2
    have hin := PkR.innerI e2
    have hbl := PkR.ipb_len x
    have hf := PkR.flagsI ho e2
    have hn : x.bytes.length = x.head.length + (x.inner.length + x.pd.length) := by rw [PkR.bytesI h e2, List.length_append, List.length_append]
    generalize hys : x.bytes.drop A = ys at *
    have hlen : ys.length = x.bytes.length - A := by rw [← hys, List.length_drop]
    rw [← hlen] at hm
    obtain ⟨m0, m1⟩ := ip_of_mok hm
    rw [if_pos m0, m1]
    have hTT : ipT ys = 20 + x.io.length + x.l.body.length := by unfold ipT; omega
    rw [ipFs] at hR
    simp only [Value.agg.injEq, Array.mk.injEq, List.cons.injEq, Value.int.injEq, Value.string.injEq, true_and, and_true] at hR
    obtain ⟨r1, r2, r3, r4, r5, r6, r7, r8⟩ := hR
    have hD : ipD ys (20 + x.io.length) = x.l.enc x.src x.dst := by
      have := L4R.enc_len x.l x.src x.dst
      unfold ipD
      rw [hTT, hd, hin, List.append_assoc, List.drop_append_of_le_length (by omega), List.drop_of_length_le (by omega), List.nil_append, List.take_append_of_le_length (by omega), List.take_of_length_le (by omega)]
    have hP : ys.drop (ipT ys) = x.pd := by
      rw [hTT, hd, List.drop_append_of_le_length (by omega), List.drop_of_length_le (by omega)]; rfl
    have hyz : ∀ i, 0 ≤ ys.getD i 0 ∧ ys.getD i 0 ≤ 255 := by rw [← hys]; exact Eth.fits_drop (PkR.bytes_bd hx h) A
    have r8' : (ys.drop 20).take (20 + x.io.length - 20) = x.io := Eth.str_inj (Eth.fits_take (Eth.fits_drop hyz 20) _) hx.io r8
    have ho' : x = x.ownI := by
      conv => lhs; rw [ho]
      unfold PkR.own; rw [if_neg e1, if_pos e2]
    have key : ∀ l, l = x.l → ipR x.d x.s x.tg x.tag ys (20 + x.io.length) l = x := fun l el => by
      refine Eq.trans ?_ ho'.symm
      unfold ipR PkR.ownI
      rw [r1, r2, r3, r4, r5, r6, r7, r8', hP, e2, el, ← hf.2.2.2]
    unfold ipP
    by_cases hw : wholeB (num ((ys.drop 6).take 2)) = true
    · rw [if_pos hw]
      rw [r3] at hw
      have hk : x.l.k = kindV x.pr := by rw [hf.2.2.2, if_pos hw]
      have hq := dec_own hx.l (h.l4 e2) x.src x.dst hx.src.1 hx.dst.1
      rw [hk] at hq
      have q1 : l4e ys (20 + x.io.length) = 0 := by unfold l4e; rw [hD, r5, r6, r7]; exact hq.1
      have q2 : l4r ys (20 + x.io.length) = x.l := by unfold l4r; rw [hD, r5, r6, r7]; exact hq.2
      rw [if_pos q1, key _ q2]
    · rw [if_neg hw]
      rw [r3] at hw
      have hk : x.l.k = 0 := by rw [hf.2.2.2, if_neg hw]
      obtain ⟨q1, q2⟩ := L4R.opaque (h.l4 e2) hk
      have q3 : x.l.enc x.src x.dst = x.l.ds := by unfold L4R.enc; rw [if_pos (.inl hk), q1]
      rw [hD, q3, key _ q2.symm]
  · rw [if_neg e2]
    have ho' : x = x.ownP := by
      conv => lhs; rw [ho]
      unfold PkR.own; rw [if_neg e1, if_neg e2]
    have hb : x.bytes.drop A = x.bd := by
      have e : x.pd = [] := (PkR.flagsP ho e1 e2).2.2
      unfold PkR.bytes PkR.inner
      rw [if_neg e1, if_neg e2, e, List.append_nil, List.append_nil, List.drop_append_of_le_length (by omega), List.drop_of_length_le (by omega)]; rfl
    refine Prod.ext ?_ rfl
    refine Eq.trans ?_ ho'.symm
    unfold bodyR PkR.ownP
    rw [hb]
end Go.Proofs.Ytpiokeidcnbmbaa

namespace Go.Proofs.Ytpiokeidcnbmbaa
open Go.RowKit
set_option maxRecDepth 20000
set_option linter.unusedSimpArgs false
set_option maxHeartbeats 4000000 in
theorem PkR.printsNo (x : PkR) (w : World) (f : Int) (hf : (f != 0) = true)
    (HP : Hid (∀ W, Calls Try.prog 11 #[.agg x.ps] W fun e w' => e = .returned (.tuple #[.slice none 0 0, .int .i64 f]) ∧ Below W.heap.size W w'))
    (HR : Hid (∀ W, Calls Try.prog 12 #[.agg x.ps] W fun e w' => e = .returned (.tuple #[.slice none 0 0, .int .i64 f]) ∧ Below W.heap.size W w')) :
    Calls Try.prog 4 #[.agg x.ps] w fun e w' => e = .returned (.bool true) ∧ Below w.heap.size w w' := by
  have HS : Hid (x.ps.size = 36) := PkR.size x
  have ON : Hid (x.ps.all (·.oneCell') = true) := PkR.one x
  have HE : Hid (∀ W, (binOp .eql 34 (.agg x.ps) (.agg x.ps)).run Try.prog W = .ok (.bool true) W) := fun W => by
    have := PkR.eqRun x x W
    rw [PkR.eqB_self] at this
    exact this
  obtain ⟨ps, hps⟩ : ∃ p, x.ps = p := ⟨_, rfl⟩
  rw [hps] at HS ON HE HP HR ⊢
  clear hps
  go_enter Try.func4, Try.ntmps4
  go_wp2_with (refine wpList_load_row rfl 34 _ rfl (w.heap.size) rfl 34 ps (0, 0) _ (heap_alloc_new w _) Try.underlying34 rfl (info36 HS.out) ?_)
  refine (HP.out _).mono ?_
  rintro e W1 ⟨rfl, hb⟩
  have B_1 : Hid (Below w.heap.size w W1) := (below1 w _).trans (hb.mono (by simp))
  have R_1 : Hid (W1.heap[w.heap.size]? = some (.cells ps 34 (0, 0))) := (hb.block _ (Ca.lt_of_heap (heap_alloc_new w _))).trans (heap_alloc_new w _)
  clear hb HP
  go_wp2_with (refine wpList_load_row rfl 34 _ rfl (w.heap.size) rfl 34 ps (0, 0) _ R_1.out Try.underlying34 rfl (info36 HS.out) ?_)
  refine (HR.out _).mono ?_
  rintro e W2 ⟨rfl, hb⟩
  have B_2 : Hid (Below w.heap.size w W2) := B_1.out.trans (hb.mono B_1.out.size)
  have R_2 : Hid (W2.heap[w.heap.size]? = some (.cells ps 34 (0, 0))) := (hb.block _ (Ca.lt_of_heap R_1.out)).trans R_1.out
  clear hb HR B_1 R_1
  go_wp2_with fail
  refine (lives_any _).mono ?_
  rintro e W3 ⟨rfl, hb⟩
  have B_3 : Hid (Below w.heap.size w W3) := B_2.out.trans (hb.mono B_2.out.size)
  have R_3 : Hid (W3.heap[w.heap.size]? = some (.cells ps 34 (0, 0))) := (hb.block _ (Ca.lt_of_heap R_2.out)).trans R_2.out
  clear hb B_2 R_2
  have cv := run_conv_bs (P := Try.prog) (w := W3) 0 (BS.empty none) 22 9 5 Try.underlying22 Try.underlying5 Try.underlying9
  go_wp2_with fail
  go_ret
  exact ⟨rfl, B_3.out⟩
set_option maxHeartbeats 4000000 in
theorem PkR.printsYes (x : PkR) (w : World) (n : Nat) (L : List Int) (fl : ∀ i, 0 ≤ L.getD i 0 ∧ L.getD i 0 ≤ 255) (hn : n ≤ 9018)
    (HP : Hid (∀ W, Calls Try.prog 11 #[.agg x.ps] W fun e w' => ∃ a cap, e = .returned (.tuple #[.slice a n cap, .int .i64 0]) ∧ RB W w' (.slice a n cap) n L))
    (HR : Hid (∀ W, Calls Try.prog 12 #[.agg x.ps] W fun e w' => ∃ a cap, e = .returned (.tuple #[.slice a n cap, .int .i64 0]) ∧ RB W w' (.slice a n cap) n L))
    (HQ : Hid (∀ W a cap, BS W a n L → n ≤ cap → cap ≤ 9223372036854775807 → Calls Try.prog 8 #[.slice a n cap] W fun e w' => e = .returned (.tuple #[.agg x.ps, .int .i64 0]) ∧ Below W.heap.size W w')) :
    Calls Try.prog 4 #[.agg x.ps] w fun e w' => e = .returned (.bool true) ∧ Below w.heap.size w w' := by
  have HS : Hid (x.ps.size = 36) := PkR.size x
  have ON : Hid (x.ps.all (·.oneCell') = true) := PkR.one x
  have HE : Hid (∀ W, (binOp .eql 34 (.agg x.ps) (.agg x.ps)).run Try.prog W = .ok (.bool true) W) := fun W => by
    have := PkR.eqRun x x W
    rw [PkR.eqB_self] at this
    exact this
  obtain ⟨ps, hps⟩ : ∃ p, x.ps = p := ⟨_, rfl⟩
  rw [hps] at HS ON HE HP HR HQ ⊢
  clear hps
  go_enter Try.func4, Try.ntmps4
  go_wp2_with (refine wpList_load_row rfl 34 _ rfl (w.heap.size) rfl 34 ps (0, 0) _ (heap_alloc_new w _) Try.underlying34 rfl (info36 HS.out) ?_)
  refine (HP.out _).mono ?_
  rintro e W1 ⟨a, cap, rfl, r1⟩
  have B_1 : Hid (Below w.heap.size w W1) := (below1 w _).trans (r1.bel.mono (by simp))
  have R_1 : Hid (W1.heap[w.heap.size]? = some (.cells ps 34 (0, 0))) := (r1.bel.block _ (Ca.lt_of_heap (heap_alloc_new w _))).trans (heap_alloc_new w _)
  have S_1 : Hid (BS W1 a n L) := r1.bs fl (by omega)
  have hcap : Hid (n ≤ cap ∧ cap ≤ 9223372036854775807) := own_caps r1.own
  clear r1 HP
  go_wp2_with (refine wpList_load_row rfl 34 _ rfl (w.heap.size) rfl 34 ps (0, 0) _ R_1.out Try.underlying34 rfl (info36 HS.out) ?_)
  refine (HR.out _).mono ?_
  rintro e W2 ⟨a2, cap2, rfl, r2⟩
  have B_2 : Hid (Below w.heap.size w W2) := B_1.out.trans (r2.bel.mono B_1.out.size)
  have R_2 : Hid (W2.heap[w.heap.size]? = some (.cells ps 34 (0, 0))) := (r2.bel.block _ (Ca.lt_of_heap R_1.out)).trans R_1.out
  have S_2 : Hid (BS W2 a n L) := S_1.out.below r2.bel
  have T_2 : Hid (BS W2 a2 n L) := r2.bs fl (by omega)
  clear r2 HR B_1 R_1 S_1
  go_wp2_with fail
  refine (lives_any _).mono ?_
  rintro e W3 ⟨rfl, hb⟩
  have B_3 : Hid (Below w.heap.size w W3) := B_2.out.trans (hb.mono B_2.out.size)
  have R_3 : Hid (W3.heap[w.heap.size]? = some (.cells ps 34 (0, 0))) := (hb.block _ (Ca.lt_of_heap R_2.out)).trans R_2.out
  have S_3 : Hid (BS W3 a n L) := S_2.out.below hb
  have T_3 : Hid (BS W3 a2 n L) := T_2.out.below hb
  clear hb B_2 R_2 S_2 T_2
  have cv := run_conv_bs (P := Try.prog) (w := W3) cap S_3.out 22 9 5 Try.underlying22 Try.underlying5 Try.underlying9
  have cv2 := run_conv_bs (P := Try.prog) (w := W3) cap2 T_3.out 22 9 5 Try.underlying22 Try.underlying5 Try.underlying9
  go_wp2_with fail
  refine (HQ.out _ _ _ S_3.out hcap.out.1 hcap.out.2).mono ?_
  rintro e W4 ⟨rfl, hb⟩
  have B_4 : Hid (Below w.heap.size w W4) := B_3.out.trans (hb.mono B_3.out.size)
  have R_4 : Hid (W4.heap[w.heap.size]? = some (.cells ps 34 (0, 0))) := (hb.block _ (Ca.lt_of_heap R_3.out)).trans R_3.out
  clear hb B_3 R_3 S_3 T_3 HQ cv cv2
  have R_5 : Hid ((W4.alloc (.cells ps 34)).heap[w.heap.size]? = some (.cells ps 34 (0, 0))) := hao4 _ R_4.out
  have he := HE.out
  go_wp2_with (first
    | refine Ca.wpList_store_new rfl 34 _ _ rfl zeroPk ps _ rfl rfl rfl (info36 HS.out) (Eq.trans (b := 36) rfl HS.out.symm) ON.out ?_
    | refine Ca.wpList_load_want (by rfl) 34 _ rfl (w.heap.size) rfl 34 ps (0, 0) _ R_5.out Try.underlying34 rfl (info36 HS.out) ?_
    | refine Ca.wpList_load_want (by rfl) 34 _ rfl (W4.heap.size) rfl 34 ps (0, 0) _ (heap_alloc_new W4 _) Try.underlying34 rfl (info36 HS.out) ?_
    | fail)
  go_ret
  exact ⟨rfl, B_4.out.alloc B_4.out.size _⟩
theorem prints_any (x : PkR) (hx : x.Fine) (h9 : x.l.os.length ≤ 140737488355328) (w : World) : Calls Try.prog 4 #[.agg x.ps] w fun e w' => e = .returned (.bool true) ∧ Below w.heap.size w w' := by
  by_cases hf : x.Fits
  · by_cases hl : x.bytes.length ≤ 9018
    · refine PkR.printsYes x w x.bytes.length x.bytes (PkR.bytes_bd hx hf) hl (fun W => PkR.printYes hx hf hl W) (fun W => PkR.rprintYes hx h9 hf hl W) (fun W a cap hB h1 h2 => ?_)
      have := parse_fine W a _ cap x.bytes hB h1 h2 (by rw [PkR.back hx hf hl])
      rw [PkR.back hx hf hl, pv_mk] at this
      exact this
    · exact PkR.printsNo x w 3 rfl (fun W => PkR.printLong hx hf (by omega) W) (fun W => PkR.rprintLong hx h9 hf (by omega) W)
  · exact PkR.printsNo x w 1 rfl (fun W => PkR.printNo hx hf W) (fun W => PkR.rprintNo hx h9 hf W)
end Go.Proofs.Ytpiokeidcnbmbaa

namespace Go.Proofs.Ytpiokeidcnbmbaa
open Go.ChangeShapes Go.WideShapes Go.ChangeAt Go.RowKit
open Go.Proofs.Ytpiokeidcnbmbaa.Ca (own laidOut)

set_option maxRecDepth 100000 in
theorem packetPrints_lifted (os : Os) (started : os.Started) (H : Type) (enc : TypeId × Value → H) :
    ReturnsInHanded {} Try.checked os 4 .any (Rows.packetPrintsSpec.pre6 enc Try.prog Try.f4 Rows.packetPrintsRow.domain false) (Rows.packetPrintsSpec.post enc Try.prog Try.f4 false true false false) := by
  refine returnsInHanded_of_change_sized (C := Try.checked) own started (by kernel_rfl) Try.func4
    (ChangeSpec.witness6 (enc := enc) (C := Try.checked) false ⟨#[], #[.agg zeroPk], []⟩ 8 (by kernel_rfl) (by kernel_rfl) (by kernel_rfl) (by kernel_rfl)) ?_
  intro W base args ds gs before hval0 hW _ hsz0 _
  have hsz : (DataW.weightsEach Try.prog (Try.f4.params.toList ++ Rows.packetPrintsSpec.plain.varTypes Try.prog) (ds ++ gs)).all (· ≤ reachBytes) = true := hsz0
  clear hsz0
  have hval : ∀ (j : Nat) t v, Try.f4.params[j]? = some t → args[j]? = some v → Value.okWide Try.prog W .any base t v := hval0
  have hW' := hW
  obtain ⟨p, q, hA0, hV, rfl, _, _⟩ := hW
  have hA : DataW.TrodAll enc Try.prog W 0 (fun _ => true) true Try.f4.params.toList args.toList ds p := hA0
  rw [Try.params4] at hA hval hsz
  obtain ⟨v0, vs0, d0, ds0, p0, q0, hargs, rfl, rfl, h0, r0⟩ := trodAll_cons hA
  obtain ⟨rfl, rfl, rfl⟩ := trodAll_nil r0
  obtain rfl : args = #[v0] := by cases args; simp_all
  obtain ⟨rfl, rfl⟩ := trodVars_none hV
  have k0 := h0
  have lt0 : ∀ x ∈ p0, x.block < W.heap.size := by obtain ⟨m, hm⟩ := k0; exact DataW.trod_lt m _ _ _ hm
  obtain ⟨x0, rfl, X0, X9⟩ := Ca.open_pkR 0 (hval 0 34 v0 rfl rfl) h0 hsz rfl rfl
  clear hA0 hval0
  refine (prints_any x0 X0 X9 W).mono fun e W' ⟨he, bel⟩ => ?_
  subst he
  exact ⟨_, rfl, _, _, _, [], _, [], hW', trodAll_mk1 (shut_bool Try.underlying4 _), (trodAll_cons_mk (Below.trod laidOut (by kernel_rfl) (of_decide_eq_true (by kernel_rfl)) k0 bel lt0) trodAll_mk0), rfl, bel.frame _, fun h => by cases h⟩

theorem packetPrints_proved : Rows.PacketPrintsSaid :=
  OpenClaim.holds_of_wide 4 Try.f4 rfl rfl rfl rfl rfl rfl rfl ⟨rfl, rfl, rfl, rfl, rfl⟩ rfl rfl rfl rfl rfl (by kernel_rfl) Try.func4 (by kernel_rfl)
    (of_decide_eq_true (by kernel_rfl)) (by unfold Func.isWrapper; first | (rw [if_pos (by decide +kernel)]; kernel_rfl) | (rw [if_neg (by decide +kernel)]; exact ⟨rfl, rfl⟩))
    (fun os started H enc _ => packetPrints_lifted os started H enc)
#print axioms packetPrints_proved
end Go.Proofs.Ytpiokeidcnbmbaa
