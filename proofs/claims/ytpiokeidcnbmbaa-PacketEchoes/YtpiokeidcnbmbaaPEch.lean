/- PacketEchoes: the reply to any packet, as the document says; and that a reply has none: all of it from Print's parts on. For every input; no condition beyond the given row's own. -/
import Derived.Test.YtpiokeidcnbmbaaPKc
import Derived.Test.YtpiokeidcnbmbaaL4u
import Derived.Test.YtpiokeidcnbmbaaPCb
import Derived.Deep.RegionHeld3
import Derived.Lib.AppendStr
import Derived.Test.YtpiokeidcnbmbaaPKd
import Derived.Test.YtpiokeidcnbmbaaIH
import Derived.Test.YtpiokeidcnbmbaaXE
import Derived.Test.YtpiokeidcnbmbaaIF
import Derived.ProofKit
import Derived.ShutString
import Derived.ChangeOld
import Derived.SizedLaws
import Derived.Deep.Slices
/- printIp of package packet, by what l4 and ip answer. Conditions: as said. -/
namespace Go.Proofs.Ytpiokeidcnbmbaa
open Go.RowKit
set_option maxRecDepth 20000
theorem own_base {w : World} {b b' : Nat} {e : TypeId} {k : Nat} {v : Value} {n : Nat} {xs : List Value} (h : w.ownsRow b e k v n xs) (hb : b' ≤ b) : w.ownsRow b' e k v n xs := by
  refine ⟨h.1, ?_⟩
  rcases h.2 with h0 | ⟨g, cap, cur, e1, h1, h2⟩
  · exact .inl h0
  · exact .inr ⟨g, cap, cur, e1, Nat.le_trans hb h1, h2⟩
set_option maxHeartbeats 2000000 in
theorem printIp_l4 (tos id fr ttl pr src dst : Int) (io : List Int) (k ty co re sp dp : Int) (ns : Bool) (sq ak fl wi ur : Int) (lo ds : List Int) (f : Int) (hf : (f != 0) = true) (w : World)
    (HL : Hid (∀ W, Calls Try.prog 79 #[.int .u32 src, .int .u32 dst, .agg #[.int .i64 k, .int .i64 ty, .int .i64 co, .int .u32 re, .int .i64 sp, .int .i64 dp, .bool ns, .int .u32 sq, .int .u32 ak, .int .i64 fl, .int .i64 wi, .int .i64 ur, .string (strOfNums lo), .string (strOfNums ds)]] W fun e w' => e = .returned (.tuple #[.slice none 0 0, .int .i64 f]) ∧ Below W.heap.size W w')) :
    Calls Try.prog 62 #[.agg #[.int .i64 tos, .int .i64 id, .int .i64 fr, .int .i64 ttl, .int .i64 pr, .int .u32 src, .int .u32 dst, .string (strOfNums io)], .agg #[.int .i64 k, .int .i64 ty, .int .i64 co, .int .u32 re, .int .i64 sp, .int .i64 dp, .bool ns, .int .u32 sq, .int .u32 ak, .int .i64 fl, .int .i64 wi, .int .i64 ur, .string (strOfNums lo), .string (strOfNums ds)]] w fun e w' => e = .returned (.tuple #[.slice none 0 0, .int .i64 f]) ∧ Below w.heap.size w w' := by
  go_enter Try.func62, Try.ntmps62
  go_wp2_with fail
  refine (HL.out _).mono ?_
  rintro e W1 ⟨rfl, hb⟩
  have B1 : Hid (Below w.heap.size w W1) := (below2 w _ _).trans (hb.mono (by simp; omega))
  clear hb HL
  go_wp2
  go_ret2
  exact ⟨rfl, B1.out⟩
set_option maxHeartbeats 2000000 in
theorem printIp_ip (tos id fr ttl pr src dst : Int) (io : List Int) (k ty co re sp dp : Int) (ns : Bool) (sq ak fl wi ur : Int) (lo ds : List Int) (f : Int) (hf : (f != 0) = true) (N : Nat) (w : World)
    (HL : Hid (∀ W, Calls Try.prog 79 #[.int .u32 src, .int .u32 dst, .agg #[.int .i64 k, .int .i64 ty, .int .i64 co, .int .u32 re, .int .i64 sp, .int .i64 dp, .bool ns, .int .u32 sq, .int .u32 ak, .int .i64 fl, .int .i64 wi, .int .i64 ur, .string (strOfNums lo), .string (strOfNums ds)]] W fun e w' => ∃ g, e = .returned (.tuple #[.slice (some ⟨g, 0, none⟩) N N, .int .i64 0]) ∧ Below W.heap.size W w'))
    (HI : Hid (∀ W, Calls Try.prog 80 #[.agg #[.int .i64 tos, .int .i64 id, .int .i64 fr, .int .i64 ttl, .int .i64 pr, .int .u32 src, .int .u32 dst, .string (strOfNums io)], .int .i64 N] W fun e w' => e = .returned (.tuple #[.slice none 0 0, .int .i64 f]) ∧ Below W.heap.size W w')) :
    Calls Try.prog 62 #[.agg #[.int .i64 tos, .int .i64 id, .int .i64 fr, .int .i64 ttl, .int .i64 pr, .int .u32 src, .int .u32 dst, .string (strOfNums io)], .agg #[.int .i64 k, .int .i64 ty, .int .i64 co, .int .u32 re, .int .i64 sp, .int .i64 dp, .bool ns, .int .u32 sq, .int .u32 ak, .int .i64 fl, .int .i64 wi, .int .i64 ur, .string (strOfNums lo), .string (strOfNums ds)]] w fun e w' => e = .returned (.tuple #[.slice none 0 0, .int .i64 f]) ∧ Below w.heap.size w w' := by
  go_enter Try.func62, Try.ntmps62
  go_wp2_with fail
  refine (HL.out _).mono ?_
  rintro e W1 ⟨g, rfl, hb⟩
  have B1 : Hid (Below w.heap.size w W1) := (below2 w _ _).trans (hb.mono (by simp; omega))
  obtain ⟨x0, x1, x2, x3, x4, x5, x6, x7⟩ := AtB.eight (AtB.below ((atB_new w #[.int .i64 tos, .int .i64 id, .int .i64 fr, .int .i64 ttl, .int .i64 pr, .int .u32 src, .int .u32 dst, .string (strOfNums io)] 30 _ rfl).below (below1 _ _)) hb)
  clear hb HL
  go_wp2_with fail
  refine (HI.out _).mono ?_
  rintro e W2 ⟨rfl, hb⟩
  have B2 : Hid (Below w.heap.size w W2) := B1.out.trans (hb.mono B1.out.size)
  clear hb HI x0 x1 x2 x3 x4 x5 x6 x7 B1
  go_wp2
  go_ret2
  exact ⟨rfl, B2.out⟩
set_option maxHeartbeats 2000000 in
theorem printIp_ok (tos id fr ttl pr src dst : Int) (io : List Int) (k ty co re sp dp : Int) (ns : Bool) (sq ak fl wi ur : Int) (lo ds : List Int) (N M : Nat) (E I : List Int) (hNM : M + N ≤ 1000000) (w : World)
    (HL : Hid (∀ W, Calls Try.prog 79 #[.int .u32 src, .int .u32 dst, .agg #[.int .i64 k, .int .i64 ty, .int .i64 co, .int .u32 re, .int .i64 sp, .int .i64 dp, .bool ns, .int .u32 sq, .int .u32 ak, .int .i64 fl, .int .i64 wi, .int .i64 ur, .string (strOfNums lo), .string (strOfNums ds)]] W fun e w' => ∃ g, e = .returned (.tuple #[.slice (some ⟨g, 0, none⟩) N N, .int .i64 0]) ∧ EncS W w' g N N E))
    (HI : Hid (∀ W, Calls Try.prog 80 #[.agg #[.int .i64 tos, .int .i64 id, .int .i64 fr, .int .i64 ttl, .int .i64 pr, .int .u32 src, .int .u32 dst, .string (strOfNums io)], .int .i64 N] W fun e w' => ∃ a cap, e = .returned (.tuple #[.slice a M cap, .int .i64 0]) ∧ w'.ownsRow W.heap.size 5 1 (.slice a M cap) M (I.map (Value.int .u8)) ∧ Below W.heap.size W w')) :
    Calls Try.prog 62 #[.agg #[.int .i64 tos, .int .i64 id, .int .i64 fr, .int .i64 ttl, .int .i64 pr, .int .u32 src, .int .u32 dst, .string (strOfNums io)], .agg #[.int .i64 k, .int .i64 ty, .int .i64 co, .int .u32 re, .int .i64 sp, .int .i64 dp, .bool ns, .int .u32 sq, .int .u32 ak, .int .i64 fl, .int .i64 wi, .int .i64 ur, .string (strOfNums lo), .string (strOfNums ds)]] w fun e w' => ∃ a cap, e = .returned (.tuple #[.slice a (M + N) cap, .int .i64 0]) ∧ RB w w' (.slice a (M + N) cap) (M + N) (I ++ E) := by
  obtain ⟨i0, hi, hz0, hz1, hz2⟩ := info_parts info5
  go_enter Try.func62, Try.ntmps62
  go_wp2_with fail
  refine (HL.out _).mono ?_
  rintro e W1 ⟨g, rfl, e1⟩
  have hb := e1.bel
  have B1 : Hid (Below w.heap.size w W1) := (below2 w _ _).trans (hb.mono (by simp; omega))
  have E1 : Hid (BS W1 (some ⟨g, 0, none⟩) N E) := e1.bs
  obtain ⟨x0, x1, x2, x3, x4, x5, x6, x7⟩ := AtB.eight (AtB.below ((atB_new w #[.int .i64 tos, .int .i64 id, .int .i64 fr, .int .i64 ttl, .int .i64 pr, .int .u32 src, .int .u32 dst, .string (strOfNums io)] 30 _ rfl).below (below1 _ _)) hb)
  clear hb HL e1
  go_wp2_with fail
  refine (HI.out _).mono ?_
  rintro e W2 ⟨a, cap, rfl, own2, hb⟩
  have B2 : Hid (Below w.heap.size w W2) := B1.out.trans (hb.mono B1.out.size)
  have E2 : Hid (BS W2 (some ⟨g, 0, none⟩) N E) := E1.out.below hb
  have R2 : Hid (RB w W2 (.slice a M cap) M I) := ⟨own_base own2 B1.out.size, B2.out⟩
  clear hb HI x0 x1 x2 x3 x4 x5 x6 x7 B1 E1 own2
  go_wp2_with (at_builtin; refine wpList_append_rb (w1 := w) Try.underlying22 info5 (by rfl) _ _ rfl _ M I rfl R2.out _ N N E rfl E2.out (by omega) ?_)
  intro a3 c3 W3 r3
  have R3 : Hid (RB w W3 (.slice a3 (M + N) c3) (M + N) (I ++ E)) := r3
  clear r3 R2 E2 B2
  go_wp2
  go_ret2
  exact ⟨a3, c3, rfl, R3.out⟩
end Go.Proofs.Ytpiokeidcnbmbaa
/- printInner of package packet, by what its parts answer. Conditions: as said. -/
namespace Go.Proofs.Ytpiokeidcnbmbaa
open Go.RowKit
set_option maxRecDepth 20000
set_option maxHeartbeats 2000000 in
theorem inner_ip (ps : Array Value) (h5 : ps[5]? = some (.bool false)) (h11 : ps[11]? = some (.bool true)) (tos id fr ttl pr src dst : Int) (io : List Int) (k ty co re sp dp : Int) (ns : Bool) (sq ak fl wi ur : Int) (lo ds : List Int) (hI : ps.extract 12 (12 + 8) = #[.int .i64 tos, .int .i64 id, .int .i64 fr, .int .i64 ttl, .int .i64 pr, .int .u32 src, .int .u32 dst, .string (strOfNums io)]) (hL : ps.extract 20 (20 + 14) = #[.int .i64 k, .int .i64 ty, .int .i64 co, .int .u32 re, .int .i64 sp, .int .i64 dp, .bool ns, .int .u32 sq, .int .u32 ak, .int .i64 fl, .int .i64 wi, .int .i64 ur, .string (strOfNums lo), .string (strOfNums ds)]) (n : Nat) (B : List Int) (w : World)
    (HP : Hid (∀ W, Calls Try.prog 62 #[.agg #[.int .i64 tos, .int .i64 id, .int .i64 fr, .int .i64 ttl, .int .i64 pr, .int .u32 src, .int .u32 dst, .string (strOfNums io)], .agg #[.int .i64 k, .int .i64 ty, .int .i64 co, .int .u32 re, .int .i64 sp, .int .i64 dp, .bool ns, .int .u32 sq, .int .u32 ak, .int .i64 fl, .int .i64 wi, .int .i64 ur, .string (strOfNums lo), .string (strOfNums ds)]] W fun e w' => ∃ a cap, e = .returned (.tuple #[.slice a n cap, .int .i64 0]) ∧ RB W w' (.slice a n cap) n B)) :
    Calls Try.prog 30 #[.agg ps] w fun e w' => ∃ a cap, e = .returned (.tuple #[.slice a n cap, .int .i64 0]) ∧ RB w w' (.slice a n cap) n B := by
  have R1 : Hid ((w.alloc (.cells ps 34)).heap[w.heap.size]? = some (.cells ps 34 (0, 0))) := heap_alloc_new w _
  have c5 := (Ca.cell_row R1.out 5).trans h5
  have c11 := (Ca.cell_row R1.out 11).trans h11
  have hI9 : (ps.extract 12 (12 + 8)).size = 8 := by rw [hI]; rfl
  have hL9 : (ps.extract 20 (20 + 14)).size = 14 := by rw [hL]; rfl
  clear h5 h11
  go_enter Try.func30, Try.ntmps30
  go_wp2_with (first
    | (refine Ca.wpList_load_at rfl 30 _ rfl w.heap.size 12 8 rfl ps 34 _ R1.out Try.underlying30 rfl hI9 (by kernel_rfl) ?_; rw [hI])
    | (refine Ca.wpList_load_at rfl 32 _ rfl w.heap.size 20 14 rfl ps 34 _ R1.out Try.underlying32 rfl hL9 (by kernel_rfl) ?_; rw [hL])
    | fail)
  refine (HP.out _).mono ?_
  rintro e W1 ⟨a, cap, rfl, r1⟩
  have R3 : Hid (RB w W1 (.slice a n cap) n B) := ⟨own_base r1.own (by simp), (below1 w _).trans (r1.bel.mono (by simp))⟩
  clear r1 HP R1 c5 c11
  go_wp2
  go_ret2
  exact ⟨a, cap, rfl, R3.out⟩
set_option maxHeartbeats 2000000 in
theorem inner_ipbad (ps : Array Value) (h5 : ps[5]? = some (.bool false)) (h11 : ps[11]? = some (.bool true)) (tos id fr ttl pr src dst : Int) (io : List Int) (k ty co re sp dp : Int) (ns : Bool) (sq ak fl wi ur : Int) (lo ds : List Int) (hI : ps.extract 12 (12 + 8) = #[.int .i64 tos, .int .i64 id, .int .i64 fr, .int .i64 ttl, .int .i64 pr, .int .u32 src, .int .u32 dst, .string (strOfNums io)]) (hL : ps.extract 20 (20 + 14) = #[.int .i64 k, .int .i64 ty, .int .i64 co, .int .u32 re, .int .i64 sp, .int .i64 dp, .bool ns, .int .u32 sq, .int .u32 ak, .int .i64 fl, .int .i64 wi, .int .i64 ur, .string (strOfNums lo), .string (strOfNums ds)]) (f : Int) (w : World)
    (HP : Hid (∀ W, Calls Try.prog 62 #[.agg #[.int .i64 tos, .int .i64 id, .int .i64 fr, .int .i64 ttl, .int .i64 pr, .int .u32 src, .int .u32 dst, .string (strOfNums io)], .agg #[.int .i64 k, .int .i64 ty, .int .i64 co, .int .u32 re, .int .i64 sp, .int .i64 dp, .bool ns, .int .u32 sq, .int .u32 ak, .int .i64 fl, .int .i64 wi, .int .i64 ur, .string (strOfNums lo), .string (strOfNums ds)]] W fun e w' => e = .returned (.tuple #[.slice none 0 0, .int .i64 f]) ∧ Below W.heap.size W w')) :
    Calls Try.prog 30 #[.agg ps] w fun e w' => e = .returned (.tuple #[.slice none 0 0, .int .i64 f]) ∧ Below w.heap.size w w' := by
  have R1 : Hid ((w.alloc (.cells ps 34)).heap[w.heap.size]? = some (.cells ps 34 (0, 0))) := heap_alloc_new w _
  have c5 := (Ca.cell_row R1.out 5).trans h5
  have c11 := (Ca.cell_row R1.out 11).trans h11
  have hI9 : (ps.extract 12 (12 + 8)).size = 8 := by rw [hI]; rfl
  have hL9 : (ps.extract 20 (20 + 14)).size = 14 := by rw [hL]; rfl
  clear h5 h11
  go_enter Try.func30, Try.ntmps30
  go_wp2_with (first
    | (refine Ca.wpList_load_at rfl 30 _ rfl w.heap.size 12 8 rfl ps 34 _ R1.out Try.underlying30 rfl hI9 (by kernel_rfl) ?_; rw [hI])
    | (refine Ca.wpList_load_at rfl 32 _ rfl w.heap.size 20 14 rfl ps 34 _ R1.out Try.underlying32 rfl hL9 (by kernel_rfl) ?_; rw [hL])
    | fail)
  refine (HP.out _).mono ?_
  rintro e W1 ⟨rfl, r1⟩
  have R3 : Hid (Below w.heap.size w W1) := (below1 w _).trans (r1.mono (by simp))
  clear r1 HP R1 c5 c11
  go_wp2
  go_ret2
  exact ⟨rfl, R3.out⟩
theorem inner_none (ps : Array Value) (h5 : ps[5]? = some (.bool false)) (h11 : ps[11]? = some (.bool false)) (w : World) :
    Calls Try.prog 30 #[.agg ps] w fun e w' => e = .returned (.tuple #[.slice none 0 0, .int .i64 0]) ∧ Below w.heap.size w w' := by
  have R1 : Hid ((w.alloc (.cells ps 34)).heap[w.heap.size]? = some (.cells ps 34 (0, 0))) := heap_alloc_new w _
  have c5 := (Ca.cell_row R1.out 5).trans h5
  have c11 := (Ca.cell_row R1.out 11).trans h11
  clear h5 h11
  go_enter Try.func30, Try.ntmps30
  go_wp2
  go_ret2
  exact ⟨rfl, below1 w _⟩
end Go.Proofs.Ytpiokeidcnbmbaa
/- isOfForm of package packet, of IPv4 frames. Conditions: as said. -/
namespace Go.Proofs.Ytpiokeidcnbmbaa
open Go.RowKit
set_option maxRecDepth 20000
set_option linter.unusedSimpArgs false
set_option maxHeartbeats 4000000 in
theorem form_ip (ps : Array Value) (hs : ps.size = 36) (d s tag : Int) (tg : Bool) (tos id fr ttl pr src dst : Int) (io : List Int) (k ty co re sp dp : Int) (ns : Bool) (sq ak fl wi ur : Int) (lo ds : List Int) (pd : ByteArray) (hE : ps.extract 0 (0 + 5) = #[.int .u64 d, .int .u64 s, .bool tg, .int .i64 tag, .int .i64 2048]) (hI : ps.extract 12 (12 + 8) = #[.int .i64 tos, .int .i64 id, .int .i64 fr, .int .i64 ttl, .int .i64 pr, .int .u32 src, .int .u32 dst, .string (strOfNums io)]) (hL : ps.extract 20 (20 + 14) = #[.int .i64 k, .int .i64 ty, .int .i64 co, .int .u32 re, .int .i64 sp, .int .i64 dp, .bool ns, .int .u32 sq, .int .u32 ak, .int .i64 fl, .int .i64 wi, .int .i64 ur, .string (strOfNums lo), .string (strOfNums ds)]) (h4 : ps[4]? = some (.int .i64 2048)) (h35 : ps[35]? = some (.string pd)) (kk : Int) (r : Bool) (w : World)
    (HQ : Hid (∀ W, (binOp .eql 34 (.agg ps) (.agg (((Ca.putC (Ca.putC ((Ca.putC zeroPk 0 (#[.int .u64 d, .int .u64 s, .bool tg, .int .i64 tag, .int .i64 2048]).toList).setIfInBounds 11 (.bool true)) 12 (#[.int .i64 tos, .int .i64 id, .int .i64 fr, .int .i64 ttl, .int .i64 pr, .int .u32 src, .int .u32 dst, .string (strOfNums io)]).toList) 20 (#[.int .i64 k, .int .i64 ty, .int .i64 co, .int .u32 re, .int .i64 sp, .int .i64 dp, .bool ns, .int .u32 sq, .int .u32 ak, .int .i64 fl, .int .i64 wi, .int .i64 ur, .string (strOfNums lo), .string (strOfNums ds)]).toList).setIfInBounds 35 (.string pd)).setIfInBounds 20 (.int .i64 kk)))).run Try.prog W = .ok (.bool r) W))
    (HC : Hid (∀ W, Calls Try.prog 57 #[.agg #[.int .i64 tos, .int .i64 id, .int .i64 fr, .int .i64 ttl, .int .i64 pr, .int .u32 src, .int .u32 dst, .string (strOfNums io)]] W fun e w' => e = .returned (.int .i64 kk) ∧ Below W.heap.size W w')) :
    Calls Try.prog 28 #[.agg ps] w fun e w' => e = .returned (.bool r) ∧ Below w.heap.size w w' := by
  obtain ⟨o1, ho1⟩ : ∃ p, Ca.putC zeroPk 0 (#[.int .u64 d, .int .u64 s, .bool tg, .int .i64 tag, .int .i64 2048]).toList = p := ⟨_, rfl⟩
  have Eo1 : Hid (Ca.putC zeroPk 0 (#[.int .u64 d, .int .u64 s, .bool tg, .int .i64 tag, .int .i64 2048]).toList = o1) := ho1
  have Zo1 : Hid (o1.size = 36) := by show _ = _; rw [← ho1]; kernel_rfl
  clear ho1
  obtain ⟨o2, ho2⟩ : ∃ p, o1.setIfInBounds 11 (.bool true) = p := ⟨_, rfl⟩
  have Eo2 : Hid (o1.setIfInBounds 11 (.bool true) = o2) := ho2
  have Zo2 : Hid (o2.size = 36) := by show _ = _; rw [← ho2]; rw [Array.size_setIfInBounds]; exact Zo1.out
  clear ho2
  obtain ⟨o3, ho3⟩ : ∃ p, Ca.putC o2 12 (#[.int .i64 tos, .int .i64 id, .int .i64 fr, .int .i64 ttl, .int .i64 pr, .int .u32 src, .int .u32 dst, .string (strOfNums io)]).toList = p := ⟨_, rfl⟩
  have Eo3 : Hid (Ca.putC o2 12 (#[.int .i64 tos, .int .i64 id, .int .i64 fr, .int .i64 ttl, .int .i64 pr, .int .u32 src, .int .u32 dst, .string (strOfNums io)]).toList = o3) := ho3
  have Zo3 : Hid (o3.size = 36) := by show _ = _; rw [← ho3]; rw [Ca.putC_size]; exact Zo2.out
  clear ho3
  obtain ⟨o4, ho4⟩ : ∃ p, Ca.putC o3 20 (#[.int .i64 k, .int .i64 ty, .int .i64 co, .int .u32 re, .int .i64 sp, .int .i64 dp, .bool ns, .int .u32 sq, .int .u32 ak, .int .i64 fl, .int .i64 wi, .int .i64 ur, .string (strOfNums lo), .string (strOfNums ds)]).toList = p := ⟨_, rfl⟩
  have Eo4 : Hid (Ca.putC o3 20 (#[.int .i64 k, .int .i64 ty, .int .i64 co, .int .u32 re, .int .i64 sp, .int .i64 dp, .bool ns, .int .u32 sq, .int .u32 ak, .int .i64 fl, .int .i64 wi, .int .i64 ur, .string (strOfNums lo), .string (strOfNums ds)]).toList = o4) := ho4
  have Zo4 : Hid (o4.size = 36) := by show _ = _; rw [← ho4]; rw [Ca.putC_size]; exact Zo3.out
  clear ho4
  obtain ⟨o5, ho5⟩ : ∃ p, o4.setIfInBounds 35 (.string pd) = p := ⟨_, rfl⟩
  have Eo5 : Hid (o4.setIfInBounds 35 (.string pd) = o5) := ho5
  have Zo5 : Hid (o5.size = 36) := by show _ = _; rw [← ho5]; rw [Array.size_setIfInBounds]; exact Zo4.out
  clear ho5
  obtain ⟨o6, ho6⟩ : ∃ p, o5.setIfInBounds 20 (.int .i64 kk) = p := ⟨_, rfl⟩
  have Eo6 : Hid (o5.setIfInBounds 20 (.int .i64 kk) = o6) := ho6
  have Zo6 : Hid (o6.size = 36) := by show _ = _; rw [← ho6]; rw [Array.size_setIfInBounds]; exact Zo5.out
  clear ho6
  rw [Eo1.out, Eo2.out, Eo3.out, Eo4.out, Eo5.out, Eo6.out] at HQ
  have h9E : (ps.extract 0 (0 + 5)).size = 5 := by rw [hE]; rfl
  have h9I : (ps.extract 12 (12 + 8)).size = 8 := by rw [hI]; rfl
  have HS : Hid (ps.size = 36) := hs
  have H4 : Hid (ps[4]? = some (.int .i64 2048)) := h4
  have H35 : Hid (ps[35]? = some (.string pd)) := h35
  have L1 : Hid _ := Ca.two_first w (.cells ps 34) (.cells zeroPk 34)
  have L3 : Hid _ := Ca.two_last w (.cells ps 34) (.cells zeroPk 34)
  have LB : Hid _ := below2 w (.cells ps 34) (.cells zeroPk 34)
  have hone1 : o1.all (·.oneCell') = true := by rw [← Eo1.out]; kernel_rfl
  have hbld : Try.prog.built 34 [(0, .agg #[.int .u64 d, .int .u64 s, .bool tg, .int .i64 tag, .int .i64 2048])] = some o1 := by rw [← Eo1.out]; kernel_rfl
  clear hs h4 h35
  go_enter Try.func28, Try.ntmps28
  go_wp2_with (first
    | (refine Ca.wpList_load_at rfl 25 _ rfl w.heap.size 0 5 rfl ps 34 _ (heap_alloc_new w _) Try.underlying25 rfl h9E (by kernel_rfl) ?_; rw [hE]; refine Ca.wpList_build_as rfl 34 _ rfl o1 (by rw [List.map_toArray]; show Try.prog.built 34 [(0, .agg #[.int .u64 d, .int .u64 s, .bool tg, .int .i64 tag, .int .i64 2048])] = _; exact hbld) ?_)
    | refine Ca.wpList_store_row rfl 34 _ _ rfl (w.heap.size + 1) zeroPk o1 34 rfl rfl L3.out (info36 Zo1.out) (Eq.trans (b := 36) rfl Zo1.out.symm) hone1 ?_
    | fail)
  intro W1 y1 y2 y3 y4
  have B_W1 : Hid (Below w.heap.size w W1) := LB.out.trans (y4.mono (by omega))
  have Rp_W1 : Hid (W1.heap[w.heap.size]? = some (.cells ps 34 (0, 0))) := (y2 _ (by omega)).trans L1.out
  have Ro_W1 : Hid (W1.heap[w.heap.size + 1]? = some (.cells o1 34 (0, 0))) := y1
  clear y1 y2 y3 y4 L1 L3 LB hbld hone1
  have c4 := (Ca.cell_row Rp_W1.out 4).trans H4.out
  go_wp2_with fail
  clear c4
  refine wp_region_held_drew (S := (fun W => W.heap[w.heap.size]? = some (.cells ps 34 (0, 0)))) (by kernel_rfl) Rp_W1.out (fun hHeld => ?_)
  have B_W2 : Hid (Below w.heap.size w W1.drew) := B_W1.out.drew
  have Rp_W2 : Hid (W1.drew.heap[w.heap.size]? = some (.cells ps 34 (0, 0))) := Rp_W1.out
  have Ro_W2 : Hid (W1.drew.heap[w.heap.size + 1]? = some (.cells o1 34 (0, 0))) := Ro_W1.out
  obtain ⟨W2, hW2⟩ : ∃ V, W1.drew = V := ⟨_, rfl⟩
  rw [hW2] at B_W2 Rp_W2 Ro_W2 hHeld ⊢
  clear hW2 B_W1 Rp_W1 Ro_W1
  refine wpAnyH_take (i := 0) (v := ?_) rfl (by kernel_rfl) (by kernel_rfl) (by kernel_rfl) (fun _ _ _ h => h) (Or.inl ⟨by rfl, ?_⟩) (by assumption) ?_
  rotate_left
  · (intro w hSw; (try dsimp only at hSw); go_simp; try with_reducible rfl)
  try simp only [List.getElem_toArray, List.getElem_cons_zero, List.getElem_cons_succ, Act.put, List.setIfInBounds_toArray, List.set_cons_zero, List.set_cons_succ]
  refine wpAnyH_take (i := 1) (v := .agg #[.int .i64 tos, .int .i64 id, .int .i64 fr, .int .i64 ttl, .int .i64 pr, .int .u32 src, .int .u32 dst, .string (strOfNums io)]) rfl (by kernel_rfl) (by kernel_rfl) (by kernel_rfl) (fun _ _ _ h => h) (Ca.yields_at (by rfl) 30 _ rfl (w.heap.size) 12 8 rfl 34 ps #[.int .i64 tos, .int .i64 id, .int .i64 fr, .int .i64 ttl, .int .i64 pr, .int .u32 src, .int .u32 dst, .string (strOfNums io)] _ (fun W hW => hW) hI rfl Try.underlying30 rfl (by kernel_rfl)) (by assumption) ?_
  try simp only [List.getElem_toArray, List.getElem_cons_zero, List.getElem_cons_succ, Act.put, List.setIfInBounds_toArray, List.set_cons_zero, List.set_cons_succ]
  refine wpAnyH_take (i := 2) (v := ?_) rfl (by kernel_rfl) (by kernel_rfl) (by kernel_rfl) (fun _ _ _ h => h) (Or.inl ⟨by rfl, ?_⟩) (by assumption) ?_
  rotate_left
  · (intro w hSw; (try dsimp only at hSw); go_simp; try with_reducible rfl)
  try simp only [List.getElem_toArray, List.getElem_cons_zero, List.getElem_cons_succ, Act.put, List.setIfInBounds_toArray, List.set_cons_zero, List.set_cons_succ]
  refine wpAnyH_take (i := 3) (v := .agg #[.int .i64 k, .int .i64 ty, .int .i64 co, .int .u32 re, .int .i64 sp, .int .i64 dp, .bool ns, .int .u32 sq, .int .u32 ak, .int .i64 fl, .int .i64 wi, .int .i64 ur, .string (strOfNums lo), .string (strOfNums ds)]) rfl (by kernel_rfl) (by kernel_rfl) (by kernel_rfl) (fun _ _ _ h => h) (Ca.yields_at (by rfl) 32 _ rfl (w.heap.size) 20 14 rfl 34 ps #[.int .i64 k, .int .i64 ty, .int .i64 co, .int .u32 re, .int .i64 sp, .int .i64 dp, .bool ns, .int .u32 sq, .int .u32 ak, .int .i64 fl, .int .i64 wi, .int .i64 ur, .string (strOfNums lo), .string (strOfNums ds)] _ (fun W hW => hW) hL rfl Try.underlying32 rfl (by kernel_rfl)) (by assumption) ?_
  try simp only [List.getElem_toArray, List.getElem_cons_zero, List.getElem_cons_succ, Act.put, List.setIfInBounds_toArray, List.set_cons_zero, List.set_cons_succ]
  refine wpAnyH_take (i := 4) (v := ?_) rfl (by kernel_rfl) (by kernel_rfl) (by kernel_rfl) (fun _ _ _ h => h) (Or.inl ⟨by rfl, ?_⟩) (by assumption) ?_
  rotate_left
  · (intro w hSw; (try dsimp only at hSw); go_simp; try with_reducible rfl)
  try simp only [List.getElem_toArray, List.getElem_cons_zero, List.getElem_cons_succ, Act.put, List.setIfInBounds_toArray, List.set_cons_zero, List.set_cons_succ]
  refine wpAnyH_take (i := 5) (v := .string pd) rfl (by kernel_rfl) (by kernel_rfl) (by kernel_rfl) (fun _ _ _ h => h) (Or.inl ⟨by rfl, fun W hW => by have c := (Ca.cell_row hW 35).trans H35.out; go_simp⟩) (by assumption) ?_
  try simp only [List.getElem_toArray, List.getElem_cons_zero, List.getElem_cons_succ, Act.put, List.setIfInBounds_toArray, List.set_cons_zero, List.set_cons_succ]
  refine wpAnyH_take (i := 6) (v := ?_) rfl (by kernel_rfl) (by kernel_rfl) (by kernel_rfl) (fun _ _ _ h => h) (Or.inl ⟨by rfl, ?_⟩) (by assumption) ?_
  rotate_left
  · (intro w hSw; (try dsimp only at hSw); go_simp; try with_reducible rfl)
  try simp only [List.getElem_toArray, List.getElem_cons_zero, List.getElem_cons_succ, Act.put, List.setIfInBounds_toArray, List.set_cons_zero, List.set_cons_succ]
  have c11 := (Ca.cell_row Ro_W2.out 11).trans (show _ = some (Value.bool false) by rw [← Eo1.out]; kernel_rfl)
  have f11 := frozen_of_row W2 _ 11 _ _ Ro_W2.out
  refine wpAnyH_ready (rs := [7]) (by kernel_rfl) (by simp) ?_
  refine AllReadyH.cons (o := _) rfl (fun K hK => ?_) AllReadyH.nil
  go_simp
  clear c11 f11
  have B_W3 : Hid (Below w.heap.size w (W2.setCell ⟨w.heap.size + 1, 11, none⟩ (.bool true))) := B_W2.out.setCell (show w.heap.size ≤ w.heap.size + 1 by omega) _
  have Rp_W3 : Hid ((W2.setCell ⟨w.heap.size + 1, 11, none⟩ (.bool true)).heap[w.heap.size]? = some (.cells ps 34 (0, 0))) := (Below.heap_setCell _ _ _ _ (show w.heap.size ≠ w.heap.size + 1 by omega)).trans Rp_W2.out
  have Ro_W3 : Hid ((W2.setCell ⟨w.heap.size + 1, 11, none⟩ (.bool true)).heap[w.heap.size + 1]? = some (.cells o2 34 (0, 0))) := by show _ = _; rw [← Eo2.out]; exact Ca.row_setCell Ro_W2.out 11 _
  clear B_W2 Rp_W2 Ro_W2
  obtain ⟨W3, hW⟩ : ∃ V, (W2.setCell ⟨w.heap.size + 1, 11, none⟩ (.bool true)) = V := ⟨_, rfl⟩
  rw [hW] at B_W3 Rp_W3 Ro_W3 ⊢
  clear hW
  refine hK _ _ Rp_W3.out (fun hHeld => ?_)
  try simp only [List.getElem_toArray, List.getElem_cons_zero, List.getElem_cons_succ, Act.put, List.setIfInBounds_toArray, List.set_cons_zero, List.set_cons_succ]
  refine wpAnyH_take (i := 8) (v := ?_) rfl (by kernel_rfl) (by kernel_rfl) (by kernel_rfl) (fun _ _ _ h => h) (Or.inl ⟨by rfl, ?_⟩) (by assumption) ?_
  rotate_left
  · (intro w hSw; (try dsimp only at hSw); go_simp; try with_reducible rfl)
  try simp only [List.getElem_toArray, List.getElem_cons_zero, List.getElem_cons_succ, Act.put, List.setIfInBounds_toArray, List.set_cons_zero, List.set_cons_succ]
  refine wpAnyH_ready (rs := [9]) (by kernel_rfl) (by simp) ?_
  refine AllReadyH.cons (o := _) rfl (fun K hK => ?_) AllReadyH.nil
  have hs_W4 : 12 + (#[.int .i64 tos, .int .i64 id, .int .i64 fr, .int .i64 ttl, .int .i64 pr, .int .u32 src, .int .u32 dst, .string (strOfNums io)] : Array Value).size ≤ o2.size := by rw [Zo2.out]; exact Nat.le_of_ble_eq_true (by kernel_rfl)
  refine Ca.step_store_at rfl 30 _ _ rfl (w.heap.size + 1) 12 o2 #[.int .i64 tos, .int .i64 id, .int .i64 fr, .int .i64 ttl, .int .i64 pr, .int .u32 src, .int .u32 dst, .string (strOfNums io)] 34 rfl rfl Ro_W3.out (by kernel_rfl) hs_W4 (by kernel_rfl) ?_
  intro W4 y1 y2 y3 y4
  have B_W4 : Hid (Below w.heap.size w W4) := B_W3.out.trans (y4.mono (by omega))
  have Rp_W4 : Hid (W4.heap[w.heap.size]? = some (.cells ps 34 (0, 0))) := (y2 _ (by omega)).trans Rp_W3.out
  have Ro_W4 : Hid (W4.heap[w.heap.size + 1]? = some (.cells o3 34 (0, 0))) := by show _ = _; rw [← Eo3.out]; exact y1
  clear y1 y2 y3 y4
  clear B_W3 Rp_W3 Ro_W3
  clear hs_W4
  refine hK _ _ Rp_W4.out (fun hHeld => ?_)
  try simp only [List.getElem_toArray, List.getElem_cons_zero, List.getElem_cons_succ, Act.put, List.setIfInBounds_toArray, List.set_cons_zero, List.set_cons_succ]
  refine wpAnyH_take (i := 10) (v := ?_) rfl (by kernel_rfl) (by kernel_rfl) (by kernel_rfl) (fun _ _ _ h => h) (Or.inl ⟨by rfl, ?_⟩) (by assumption) ?_
  rotate_left
  · (intro w hSw; (try dsimp only at hSw); go_simp; try with_reducible rfl)
  try simp only [List.getElem_toArray, List.getElem_cons_zero, List.getElem_cons_succ, Act.put, List.setIfInBounds_toArray, List.set_cons_zero, List.set_cons_succ]
  refine wpAnyH_ready (rs := [11]) (by kernel_rfl) (by simp) ?_
  refine AllReadyH.cons (o := _) rfl (fun K hK => ?_) AllReadyH.nil
  have hs_W5 : 20 + (#[.int .i64 k, .int .i64 ty, .int .i64 co, .int .u32 re, .int .i64 sp, .int .i64 dp, .bool ns, .int .u32 sq, .int .u32 ak, .int .i64 fl, .int .i64 wi, .int .i64 ur, .string (strOfNums lo), .string (strOfNums ds)] : Array Value).size ≤ o3.size := by rw [Zo3.out]; exact Nat.le_of_ble_eq_true (by kernel_rfl)
  refine Ca.step_store_at rfl 32 _ _ rfl (w.heap.size + 1) 20 o3 #[.int .i64 k, .int .i64 ty, .int .i64 co, .int .u32 re, .int .i64 sp, .int .i64 dp, .bool ns, .int .u32 sq, .int .u32 ak, .int .i64 fl, .int .i64 wi, .int .i64 ur, .string (strOfNums lo), .string (strOfNums ds)] 34 rfl rfl Ro_W4.out (by kernel_rfl) hs_W5 (by kernel_rfl) ?_
  intro W5 y1 y2 y3 y4
  have B_W5 : Hid (Below w.heap.size w W5) := B_W4.out.trans (y4.mono (by omega))
  have Rp_W5 : Hid (W5.heap[w.heap.size]? = some (.cells ps 34 (0, 0))) := (y2 _ (by omega)).trans Rp_W4.out
  have Ro_W5 : Hid (W5.heap[w.heap.size + 1]? = some (.cells o4 34 (0, 0))) := by show _ = _; rw [← Eo4.out]; exact y1
  clear y1 y2 y3 y4
  clear B_W4 Rp_W4 Ro_W4
  clear hs_W5
  refine hK _ _ Rp_W5.out (fun hHeld => ?_)
  try simp only [List.getElem_toArray, List.getElem_cons_zero, List.getElem_cons_succ, Act.put, List.setIfInBounds_toArray, List.set_cons_zero, List.set_cons_succ]
  refine wpAnyH_take (i := 12) (v := ?_) rfl (by kernel_rfl) (by kernel_rfl) (by kernel_rfl) (fun _ _ _ h => h) (Or.inl ⟨by rfl, ?_⟩) (by assumption) ?_
  rotate_left
  · (intro w hSw; (try dsimp only at hSw); go_simp; try with_reducible rfl)
  try simp only [List.getElem_toArray, List.getElem_cons_zero, List.getElem_cons_succ, Act.put, List.setIfInBounds_toArray, List.set_cons_zero, List.set_cons_succ]
  have c35 := (Ca.cell_row Ro_W5.out 35).trans (show _ = some (Value.string ⟨#[]⟩) by rw [← Eo4.out, ← Eo3.out, ← Eo2.out, ← Eo1.out]; kernel_rfl)
  have f35 := frozen_of_row W5 _ 35 _ _ Ro_W5.out
  refine wpAnyH_ready (rs := [13]) (by kernel_rfl) (by simp) ?_
  refine AllReadyH.cons (o := _) rfl (fun K hK => ?_) AllReadyH.nil
  go_simp
  clear c35 f35
  have B_W6 : Hid (Below w.heap.size w (W5.setCell ⟨w.heap.size + 1, 35, none⟩ (.string pd))) := B_W5.out.setCell (show w.heap.size ≤ w.heap.size + 1 by omega) _
  have Rp_W6 : Hid ((W5.setCell ⟨w.heap.size + 1, 35, none⟩ (.string pd)).heap[w.heap.size]? = some (.cells ps 34 (0, 0))) := (Below.heap_setCell _ _ _ _ (show w.heap.size ≠ w.heap.size + 1 by omega)).trans Rp_W5.out
  have Ro_W6 : Hid ((W5.setCell ⟨w.heap.size + 1, 35, none⟩ (.string pd)).heap[w.heap.size + 1]? = some (.cells o5 34 (0, 0))) := by show _ = _; rw [← Eo5.out]; exact Ca.row_setCell Ro_W5.out 35 _
  clear B_W5 Rp_W5 Ro_W5
  obtain ⟨W6, hW⟩ : ∃ V, (W5.setCell ⟨w.heap.size + 1, 35, none⟩ (.string pd)) = V := ⟨_, rfl⟩
  rw [hW] at B_W6 Rp_W6 Ro_W6 ⊢
  clear hW
  refine hK _ _ Rp_W6.out (fun hHeld => ?_)
  refine wpAnyH_done (by kernel_rfl) ?_ _
  clear hHeld
  try simp only [List.getElem_toArray, List.getElem_cons_zero, List.getElem_cons_succ, Act.put, List.setIfInBounds_toArray, List.set_cons_zero, List.set_cons_succ]
  go_wp2_with (refine Ca.wpList_load_at rfl 30 _ rfl (w.heap.size) 12 8 rfl ps 34 _ Rp_W6.out Try.underlying30 rfl h9I (by kernel_rfl) ?_; rw [hI])
  refine (HC.out _).mono ?_
  rintro e W7 ⟨rfl, hb⟩
  have B_W7 : Hid (Below w.heap.size w W7) := B_W6.out.trans (hb.mono B_W6.out.size)
  have Rp_W7 : Hid (W7.heap[w.heap.size]? = some (.cells ps 34 (0, 0))) := (hb.block _ (Ca.lt_of_heap Rp_W6.out)).trans Rp_W6.out
  have Ro_W7 : Hid (W7.heap[w.heap.size + 1]? = some (.cells o5 34 (0, 0))) := (hb.block _ (Ca.lt_of_heap Ro_W6.out)).trans Ro_W6.out
  clear hb HC B_W6 Rp_W6 Ro_W6
  have c20 := (Ca.cell_row Ro_W7.out 20).trans (show _ = some (Value.int .i64 k) by rw [← Eo5.out, ← Eo4.out, ← Eo3.out, ← Eo2.out, ← Eo1.out]; kernel_rfl)
  have f20 := frozen_of_row W7 _ 20 _ _ Ro_W7.out
  have B_x : Hid (Below w.heap.size w (W7.setCell ⟨w.heap.size + 1, 20, none⟩ (.int .i64 kk))) := B_W7.out.setCell (show w.heap.size ≤ w.heap.size + 1 by omega) _
  have Rp_x : Hid ((W7.setCell ⟨w.heap.size + 1, 20, none⟩ (.int .i64 kk)).heap[w.heap.size]? = some (.cells ps 34 (0, 0))) := (Below.heap_setCell _ _ _ _ (show w.heap.size ≠ w.heap.size + 1 by omega)).trans Rp_W7.out
  have Ro_x : Hid ((W7.setCell ⟨w.heap.size + 1, 20, none⟩ (.int .i64 kk)).heap[w.heap.size + 1]? = some (.cells o6 34 (0, 0))) := by show _ = _; rw [← Eo6.out]; exact Ca.row_setCell Ro_W7.out 20 _
  clear B_W7 Rp_W7 Ro_W7
  have hq := HQ.out
  go_wp2_with (first
    | refine wpList_load_row rfl 34 _ rfl (w.heap.size) rfl 34 ps (0, 0) _ Rp_x.out Try.underlying34 rfl (info36 HS.out) ?_
    | refine wpList_load_row rfl 34 _ rfl (w.heap.size + 1) rfl 34 o6 (0, 0) _ Ro_x.out Try.underlying34 rfl (info36 Zo6.out) ?_
    | fail)
  go_ret
  exact ⟨rfl, B_x.out⟩
end Go.Proofs.Ytpiokeidcnbmbaa
/- kindOf and Print of package packet, by what its parts answer. Conditions: as said. -/
namespace Go.Proofs.Ytpiokeidcnbmbaa
open Go.RowKit Go.Lib
set_option maxRecDepth 20000
set_option linter.unusedSimpArgs false
set_option maxHeartbeats 2000000 in
theorem kindOf_any (tos id fr ttl pr src dst : Int) (io : List Int) (w : World) : Calls Try.prog 57 #[.agg #[.int .i64 tos, .int .i64 id, .int .i64 fr, .int .i64 ttl, .int .i64 pr, .int .u32 src, .int .u32 dst, .string (strOfNums io)]] w fun e w' => e = .returned (.int .i64 (if wholeB fr = true then kindV pr else 0)) ∧ Below w.heap.size w w' := by
  have HW : Hid (∀ W, Calls Try.prog 20 #[.agg #[.int .i64 tos, .int .i64 id, .int .i64 fr, .int .i64 ttl, .int .i64 pr, .int .u32 src, .int .u32 dst, .string (strOfNums io)]] W fun e w' => e = .returned (.bool (wholeB fr)) ∧ Below W.heap.size W w') := fun W => ipwhole_any tos id fr ttl pr src dst io W
  generalize wholeB fr = b at *
  have fin : ∀ W1, Below (w.alloc (.cells #[.int .i64 tos, .int .i64 id, .int .i64 fr, .int .i64 ttl, .int .i64 pr, .int .u32 src, .int .u32 dst, .string (strOfNums io)] 30)).heap.size (w.alloc (.cells #[.int .i64 tos, .int .i64 id, .int .i64 fr, .int .i64 ttl, .int .i64 pr, .int .u32 src, .int .u32 dst, .string (strOfNums io)] 30)) W1 → Below w.heap.size w W1 := fun W1 hb => (below1 w _).trans (hb.mono (by simp))
  unfold kindV
  cases b
  · go_enter Try.func57, Try.ntmps57
    go_wp2_with fail
    refine (HW.out _).mono ?_
    rintro e W1 ⟨rfl, hb⟩
    have B1 : Hid (Below w.heap.size w W1) := fin _ hb
    clear hb fin
    go_wp2
    go_ret
    exact ⟨rfl, B1.out⟩
  by_cases h1 : pr = 1
  · subst h1
    go_enter Try.func57, Try.ntmps57
    go_wp2_with fail
    refine (HW.out _).mono ?_
    rintro e W1 ⟨rfl, hb⟩
    have B1 : Hid (Below w.heap.size w W1) := fin _ hb
    obtain ⟨x0, x1, x2, x3, x4, x5, x6, x7⟩ := AtB.eight (AtB.below (atB_new w #[.int .i64 tos, .int .i64 id, .int .i64 fr, .int .i64 ttl, .int .i64 1, .int .u32 src, .int .u32 dst, .string (strOfNums io)] 30 _ rfl) hb)
    clear hb fin
    go_wp2
    go_ret
    exact ⟨rfl, B1.out⟩
  by_cases h2 : pr = 17
  · subst h2
    go_enter Try.func57, Try.ntmps57
    go_wp2_with fail
    refine (HW.out _).mono ?_
    rintro e W1 ⟨rfl, hb⟩
    have B1 : Hid (Below w.heap.size w W1) := fin _ hb
    obtain ⟨x0, x1, x2, x3, x4, x5, x6, x7⟩ := AtB.eight (AtB.below (atB_new w #[.int .i64 tos, .int .i64 id, .int .i64 fr, .int .i64 ttl, .int .i64 17, .int .u32 src, .int .u32 dst, .string (strOfNums io)] 30 _ rfl) hb)
    clear hb fin
    go_wp2
    go_ret
    exact ⟨rfl, B1.out⟩
  by_cases h3 : pr = 6
  · subst h3
    go_enter Try.func57, Try.ntmps57
    go_wp2_with fail
    refine (HW.out _).mono ?_
    rintro e W1 ⟨rfl, hb⟩
    have B1 : Hid (Below w.heap.size w W1) := fin _ hb
    obtain ⟨x0, x1, x2, x3, x4, x5, x6, x7⟩ := AtB.eight (AtB.below (atB_new w #[.int .i64 tos, .int .i64 id, .int .i64 fr, .int .i64 ttl, .int .i64 6, .int .u32 src, .int .u32 dst, .string (strOfNums io)] 30 _ rfl) hb)
    clear hb fin
    go_wp2
    go_ret
    exact ⟨rfl, B1.out⟩
  · rw [if_pos rfl, if_neg h1, if_neg h2, if_neg h3]
    have e1 : (pr == 1) = false := by simp [h1]
    have e2 : (pr == 17) = false := by simp [h2]
    have e3 : (pr == 6) = false := by simp [h3]
    go_enter Try.func57, Try.ntmps57
    go_wp2_with fail
    refine (HW.out _).mono ?_
    rintro e W1 ⟨rfl, hb⟩
    have B1 : Hid (Below w.heap.size w W1) := fin _ hb
    obtain ⟨x0, x1, x2, x3, x4, x5, x6, x7⟩ := AtB.eight (AtB.below (atB_new w #[.int .i64 tos, .int .i64 id, .int .i64 fr, .int .i64 ttl, .int .i64 pr, .int .u32 src, .int .u32 dst, .string (strOfNums io)] 30 _ rfl) hb)
    clear hb fin
    go_wp2
    go_ret
    exact ⟨rfl, B1.out⟩
theorem own_below {W W' : World} {b : Nat} {e : TypeId} {k : Nat} {v : Value} {n : Nat} {xs : List Value} (h : W.ownsRow b e k v n xs) (hb : Below W.heap.size W W') : W'.ownsRow b e k v n xs := by
  refine ⟨h.1, ?_⟩
  rcases h.2 with h0 | ⟨g, cap, cur, e1, h1, h2, h3⟩
  · exact .inl h0
  · exact .inr ⟨g, cap, cur, e1, h1, (hb.block g (Ca.lt_of_heap h2)).trans h2, h3⟩
theorem step_str_rb {P : Program} {w1 w : World} {ops : Array Oper} {o : Oper} {act : Act} {K : Act → World → Prop} {Q : Exit → Act → World → Prop} {E : Prop} (hgd : o.guard = none) (s x : Operand) (u : TypeId)
    (ho : o.op = .call { callee := .builtin .append, args := #[s, x], argTypes := #[22, u] })
    (i : TypeInfo) (ht : P.underlying 22 = some (.slice 5)) (hu : P.underlying u = some .string) (hi : P.info? 5 = some i) (hz : i.zero = some (.int .u8 0)) (hsize : i.size = 1) (hby : i.bytes = 1)
    (v : Value) (n : Nat) (xs : List Int) (hs : act.eval s = v) (hr : RB w1 w v n xs)
    (os : List Int) (hf : ∀ i, 0 ≤ os.getD i 0 ∧ os.getD i 0 ≤ 255) (hx : act.eval x = .string (strOfNums os)) (hsum : n + os.length ≤ 140737488355328)
    (h : ∀ a' cap' w', RB w1 w' (.slice a' (n + os.length) cap') (n + os.length) (xs ++ os) → K (act.put o.dst (.slice a' (n + os.length) cap')) w') :
    if Region.wanted o (yielded ops act.tmps) = true then Oper.wp P o act w K Q else E := by
  have hw : Region.wanted o (yielded ops act.tmps) = true := by simp [Region.wanted, hgd]
  rw [if_pos hw]
  have hsz := strOfNums_size os
  obtain ⟨v', w', hrun, h2, h3, _⟩ := run_append_own_string (P := P) w w1.heap.size 22 u o.type 5 i ht hu hi hz hsize hby v n _ hr.own (strOfNums os) (by rw [hsz]; unfold maxLen; omega) (by rw [hsz]; omega) hr.bel.size
  rw [hsz, strCells_nums hf, ← List.map_append] at h2
  obtain ⟨a', cap', rfl, _⟩ := own_form h2
  unfold Oper.wp execOp
  simp only [ho, resolve, invoke, builtin, Sem.run_bind, Sem.run_pure, Result.andThen_ok, List.map_toArray, List.map_cons, List.map_nil, hs, hx, hrun]
  exact h a' cap' w' (rb_step hr h2 h3)
set_option maxHeartbeats 4000000 in
theorem print_ok (ps : Array Value) (hs : ps.size = 36) (d s tag et : Int) (tg : Bool) (hE : ps.extract 0 (0 + 5) = #[.int .u64 d, .int .u64 s, .bool tg, .int .i64 tag, .int .i64 et]) (bd pd : List Int) (h34 : ps[34]? = some (.string (strOfNums bd))) (h35 : ps[35]? = some (.string (strOfNums pd))) (fb : ∀ i, 0 ≤ bd.getD i 0 ∧ bd.getD i 0 ≤ 255) (fp : ∀ i, 0 ≤ pd.getD i 0 ∧ pd.getD i 0 ≤ 255)
    (n m : Nat) (HB IB : List Int) (fi : ∀ i, 0 ≤ IB.getD i 0 ∧ IB.getD i 0 ≤ 255) (hlen : n + m + bd.length + pd.length ≤ 9018) (w : World)
    (HF : Hid (∀ W, Calls Try.prog 28 #[.agg ps] W fun e w' => e = .returned (.bool true) ∧ Below W.heap.size W w'))
    (HH : Hid (∀ W, Calls Try.prog 29 #[.agg #[.int .u64 d, .int .u64 s, .bool tg, .int .i64 tag, .int .i64 et]] W fun e w' => ∃ a cap, e = .returned (.tuple #[.slice a n cap, .int .i64 0]) ∧ w'.ownsRow W.heap.size 5 1 (.slice a n cap) n (HB.map (Value.int .u8)) ∧ Below W.heap.size W w'))
    (HI : Hid (∀ W, Calls Try.prog 30 #[.agg ps] W fun e w' => ∃ a cap, e = .returned (.tuple #[.slice a m cap, .int .i64 0]) ∧ RB W w' (.slice a m cap) m IB)) :
    Calls Try.prog 11 #[.agg ps] w fun e w' => ∃ a cap, e = .returned (.tuple #[.slice a (n + m + bd.length + pd.length) cap, .int .i64 0]) ∧ RB w w' (.slice a (n + m + bd.length + pd.length) cap) (n + m + bd.length + pd.length) (HB ++ IB ++ bd ++ pd) := by
  obtain ⟨i0, hi, hz0, hz1, hz2⟩ := info_parts info5
  have hI0 : (n : Int) + m + bd.length + pd.length ≤ 9018 := by omega
  have hb1 := strOfNums_size bd
  have hb2 := strOfNums_size pd
  have w1 : IntKind.i64.wrap ((n : Int) + m) = (n : Int) + m := by simp [IntKind.wrap, IntKind.bits, IntKind.signed]; omega
  have w2 : IntKind.i64.wrap ((n : Int) + m + bd.length) = (n : Int) + m + bd.length := by simp [IntKind.wrap, IntKind.bits, IntKind.signed]; omega
  have w3 : IntKind.i64.wrap ((n : Int) + m + bd.length + pd.length) = (n : Int) + m + bd.length + pd.length := by simp [IntKind.wrap, IntKind.bits, IntKind.signed]; omega
  have h9E : (ps.extract 0 (0 + 5)).size = 5 := by rw [hE]; rfl
  have HS : Hid (ps.size = 36) := hs
  have H34 : Hid (ps[34]? = some (.string (strOfNums bd))) := h34
  have H35 : Hid (ps[35]? = some (.string (strOfNums pd))) := h35
  clear hs h34 h35
  obtain ⟨wb, hwb⟩ : ∃ V, w.alloc (.cells ps 34) = V := ⟨_, rfl⟩
  have R0 : Hid (wb.heap[w.heap.size]? = some (.cells ps 34 (0, 0))) := by show _ = _; rw [← hwb]; exact heap_alloc_new w _
  have LB : Hid (Below w.heap.size w wb) := by show Below _ _ _; rw [← hwb]; exact below1 w _
  have HWB : Hid (w.alloc (.cells ps 34) = wb) := hwb
  clear hwb
  go_enter Try.func11, Try.ntmps11
  go_wp2_with fail
  refine scope_from ?_
  go_wp2_with (refine wpList_load_row rfl 34 _ rfl (w.heap.size) rfl 34 ps (0, 0) _ (heap_alloc_new w _) Try.underlying34 rfl (info36 HS.out) ?_)
  refine (HF.out _).mono ?_
  rintro e W1 ⟨rfl, hb⟩
  rw [HWB.out] at hb
  have B1 : Hid (Below wb.heap.size wb W1) := hb
  have R1 : Hid (W1.heap[w.heap.size]? = some (.cells ps 34 (0, 0))) := (hb.block _ (Ca.lt_of_heap R0.out)).trans R0.out
  clear hb HF
  go_wp2_with (refine Ca.wpList_load_at rfl 25 _ rfl (w.heap.size) 0 5 rfl ps 34 _ R1.out Try.underlying25 rfl h9E (by kernel_rfl) ?_; rw [hE])
  refine (HH.out _).mono ?_
  rintro e W2 ⟨a0, c0, rfl, own2, hb⟩
  have B2 : Hid (Below wb.heap.size wb W2) := B1.out.trans (hb.mono B1.out.size)
  have R2 : Hid (W2.heap[w.heap.size]? = some (.cells ps 34 (0, 0))) := (hb.block _ (Ca.lt_of_heap R1.out)).trans R1.out
  have O2 : Hid (W2.ownsRow wb.heap.size 5 1 (.slice a0 n c0) n (HB.map (Value.int .u8))) := own_base own2 B1.out.size
  clear hb HH R1 B1 own2
  go_wp2_with (refine wpList_load_row rfl 34 _ rfl (w.heap.size) rfl 34 ps (0, 0) _ R2.out Try.underlying34 rfl (info36 HS.out) ?_)
  refine (HI.out _).mono ?_
  rintro e W3 ⟨a1, c1, rfl, r3⟩
  have hb := r3.bel
  have B3 : Hid (Below wb.heap.size wb W3) := B2.out.trans (hb.mono B2.out.size)
  have R3 : Hid (W3.heap[w.heap.size]? = some (.cells ps 34 (0, 0))) := (hb.block _ (Ca.lt_of_heap R2.out)).trans R2.out
  have O3 : Hid (RB wb W3 (.slice a0 n c0) n HB) := ⟨own_below O2.out hb, B3.out⟩
  have I3 : Hid (BS W3 a1 m IB) := own_bs r3.own fi (by omega)
  clear hb HI R2 B2 O2 r3
  have c34 := (Ca.cell_row R3.out 34).trans H34.out
  have c35 := (Ca.cell_row R3.out 35).trans H35.out
  go_wp2_with fail
  clear c34 c35
  refine wp_region_held_drew (S := (fun W => W.heap[w.heap.size]? = some (.cells ps 34 (0, 0)))) (by kernel_rfl) R3.out (fun hHeld => ?_)
  have O4 : Hid (RB wb W3.drew (.slice a0 n c0) n HB) := O3.out.drew
  have I4 : Hid (BS W3.drew a1 m IB) := I3.out.drew
  obtain ⟨W4, hW4⟩ : ∃ V, W3.drew = V := ⟨_, rfl⟩
  rw [hW4] at O4 I4 hHeld ⊢
  clear hW4 R3 O3 I3 B3
  refine wpAnyH_take (i := 0) (v := ?_) rfl (by kernel_rfl) (by kernel_rfl) (by kernel_rfl) (fun _ _ _ h => h) (Or.inl ⟨by rfl, ?_⟩) (by assumption) ?_
  rotate_left
  · (intro w hSw; (try dsimp only at hSw); go_simp; try with_reducible rfl)
  try simp only [List.getElem_toArray, List.getElem_cons_zero, List.getElem_cons_succ, Act.put, List.setIfInBounds_toArray, List.set_cons_zero, List.set_cons_succ]
  refine wpAnyH_take (i := 1) (v := ?_) rfl (by kernel_rfl) (by kernel_rfl) (by kernel_rfl) (fun _ _ _ h => h) (Or.inl ⟨by rfl, ?_⟩) (by assumption) ?_
  rotate_left
  · (intro w hSw; (try dsimp only at hSw); go_simp; try with_reducible rfl)
  try simp only [List.getElem_toArray, List.getElem_cons_zero, List.getElem_cons_succ, Act.put, List.setIfInBounds_toArray, List.set_cons_zero, List.set_cons_succ]
  refine wpAnyH_take (i := 3) (v := ?_) rfl (by kernel_rfl) (by kernel_rfl) (by kernel_rfl) (fun _ _ _ h => h) (Or.inl ⟨by rfl, ?_⟩) (by assumption) ?_
  rotate_left
  · (intro w hSw; (try dsimp only at hSw); go_simp; try with_reducible rfl)
  try simp only [List.getElem_toArray, List.getElem_cons_zero, List.getElem_cons_succ, Act.put, List.setIfInBounds_toArray, List.set_cons_zero, List.set_cons_succ]
  refine wpAnyH_take (i := 4) (v := .string (strOfNums bd)) rfl (by kernel_rfl) (by kernel_rfl) (by kernel_rfl) (fun _ _ _ h => h) (Or.inl ⟨by rfl, fun W hW => by have c := (Ca.cell_row hW 34).trans H34.out; go_simp⟩) (by assumption) ?_
  try simp only [List.getElem_toArray, List.getElem_cons_zero, List.getElem_cons_succ, Act.put, List.setIfInBounds_toArray, List.set_cons_zero, List.set_cons_succ]
  refine wpAnyH_take (i := 6) (v := ?_) rfl (by kernel_rfl) (by kernel_rfl) (by kernel_rfl) (fun _ _ _ h => h) (Or.inl ⟨by rfl, ?_⟩) (by assumption) ?_
  rotate_left
  · (intro w hSw; (try dsimp only at hSw); go_simp; try with_reducible rfl)
  try simp only [List.getElem_toArray, List.getElem_cons_zero, List.getElem_cons_succ, Act.put, List.setIfInBounds_toArray, List.set_cons_zero, List.set_cons_succ]
  refine wpAnyH_take (i := 7) (v := .string (strOfNums pd)) rfl (by kernel_rfl) (by kernel_rfl) (by kernel_rfl) (fun _ _ _ h => h) (Or.inl ⟨by rfl, fun W hW => by have c := (Ca.cell_row hW 35).trans H35.out; go_simp⟩) (by assumption) ?_
  try simp only [List.getElem_toArray, List.getElem_cons_zero, List.getElem_cons_succ, Act.put, List.setIfInBounds_toArray, List.set_cons_zero, List.set_cons_succ]
  refine wpAnyH_ready (rs := [2]) (by kernel_rfl) (by simp) ?_
  refine AllReadyH.cons (o := _) rfl (fun K hK => ?_) AllReadyH.nil
  refine step_append_rb (w1 := wb) Try.underlying22 info5 rfl (.tmp 39) (.tmp 40) rfl _ n HB rfl O4.out _ m c1 IB rfl I4.out (by omega) ?_
  intro a5 c5 W5 r5
  have R5 : Hid (W5.heap[w.heap.size]? = some (.cells ps 34 (0, 0))) := (r5.bel.block _ (Ca.lt_of_heap R0.out)).trans R0.out
  have O5 : Hid (RB wb W5 (.slice a5 (n + m) c5) (n + m) (HB ++ IB)) := r5
  clear r5 O4 I4
  refine hK _ _ R5.out (fun hHeld => ?_)
  try simp only [List.getElem_toArray, List.getElem_cons_zero, List.getElem_cons_succ, Act.put, List.setIfInBounds_toArray, List.set_cons_zero, List.set_cons_succ]
  refine wpAnyH_ready (rs := [5]) (by kernel_rfl) (by simp) ?_
  refine AllReadyH.cons (o := _) rfl (fun K hK => ?_) AllReadyH.nil
  refine step_str_rb (w1 := wb) rfl (.tmp 41) (.tmp 43) 9 rfl i0 Try.underlying22 Try.underlying9 hi hz0 hz1 hz2 _ (n + m) (HB ++ IB) rfl O5.out bd fb rfl (by omega) ?_
  intro a6 c6 W6 r6
  have R6 : Hid (W6.heap[w.heap.size]? = some (.cells ps 34 (0, 0))) := (r6.bel.block _ (Ca.lt_of_heap R0.out)).trans R0.out
  have O6 : Hid (RB wb W6 (.slice a6 (n + m + bd.length) c6) (n + m + bd.length) (HB ++ IB ++ bd)) := r6
  clear r6 O5 R5
  refine hK _ _ R6.out (fun hHeld => ?_)
  try simp only [List.getElem_toArray, List.getElem_cons_zero, List.getElem_cons_succ, Act.put, List.setIfInBounds_toArray, List.set_cons_zero, List.set_cons_succ]
  refine wpAnyH_ready (rs := [8]) (by kernel_rfl) (by simp) ?_
  refine AllReadyH.cons (o := _) rfl (fun K hK => ?_) AllReadyH.nil
  refine step_str_rb (w1 := wb) rfl (.tmp 44) (.tmp 46) 9 rfl i0 Try.underlying22 Try.underlying9 hi hz0 hz1 hz2 _ (n + m + bd.length) (HB ++ IB ++ bd) rfl O6.out pd fp rfl (by omega) ?_
  intro a7 c7 W7 r7
  have R7 : Hid (W7.heap[w.heap.size]? = some (.cells ps 34 (0, 0))) := (r7.bel.block _ (Ca.lt_of_heap R0.out)).trans R0.out
  have O7 : Hid (RB w W7 (.slice a7 (n + m + bd.length + pd.length) c7) (n + m + bd.length + pd.length) (HB ++ IB ++ bd ++ pd)) := ⟨own_base r7.own LB.out.size, LB.out.trans (r7.bel.mono LB.out.size)⟩
  clear r7 O6 R6
  refine hK _ _ R7.out (fun hHeld => ?_)
  try simp only [List.getElem_toArray, List.getElem_cons_zero, List.getElem_cons_succ, Act.put, List.setIfInBounds_toArray, List.set_cons_zero, List.set_cons_succ]
  refine wpAnyH_ready (rs := [9]) (by kernel_rfl) (by simp) ?_
  refine AllReadyH.cons (o := _) rfl (fun K hK => ?_) AllReadyH.nil
  go_simp
  refine hK _ _ R7.out (fun hHeld => ?_)
  try simp only [List.getElem_toArray, List.getElem_cons_zero, List.getElem_cons_succ, Act.put, List.setIfInBounds_toArray, List.set_cons_zero, List.set_cons_succ]
  refine wpAnyH_ready (rs := [10]) (by kernel_rfl) (by simp) ?_
  refine AllReadyH.cons (o := _) rfl (fun K hK => ?_) AllReadyH.nil
  go_simp
  refine hK _ _ R7.out (fun hHeld => ?_)
  refine wpAnyH_done (by kernel_rfl) ?_ _
  clear hHeld
  try simp only [List.getElem_toArray, List.getElem_cons_zero, List.getElem_cons_succ, Act.put, List.setIfInBounds_toArray, List.set_cons_zero, List.set_cons_succ]
  go_wp2
  simp only [Exit.jumpTo]
  go_ret2
  exact ⟨a7, c7, rfl, O7.out⟩
end Go.Proofs.Ytpiokeidcnbmbaa
/- Echo of package packet. No condition beyond cells of their kinds. -/
namespace Go.Proofs.Ytpiokeidcnbmbaa
open Go.RowKit
set_option maxRecDepth 20000
set_option linter.unusedSimpArgs false
/-- A goal at which a walk stops. -/
@[irreducible] def StopP (p : Prop) : Prop := p
theorem StopP.out {p : Prop} (h : StopP p) : p := by unfold StopP at h; exact h
theorem StopP.mk {p : Prop} (h : p) : StopP p := by unfold StopP; exact h
set_option maxHeartbeats 4000000 in
theorem echo_0 (ps : Array Value) (h11 : ps[11]? = some (.bool false)) (w : World) :
    Calls Try.prog 15 #[.agg ps] w fun e w' => e = .returned (.tuple #[.agg zeroPk, .bool false]) ∧ Below w.heap.size w w' := by
  have L1 : Hid _ := Ca.two_first w (.cells ps 34) (.cells zeroPk 34)
  have L2 : Hid _ := Ca.two_last w (.cells ps 34) (.cells zeroPk 34)
  have LB : Hid _ := below2 w (.cells ps 34) (.cells zeroPk 34)

  go_enter Try.func15, Try.ntmps15
  go_wp2_with (first
    | refine Ca.wpList_build_as rfl 34 _ rfl zeroPk (by rw [List.map_toArray]; show Try.prog.built 34 [] = _; kernel_rfl) ?_
    | refine Ca.wpList_store_row rfl 34 _ _ rfl (w.heap.size + 1) zeroPk zeroPk 34 rfl rfl L2.out (info36 zsize) rfl one36 ?_
    | fail)
  intro W9 y1 y2 y3 y4
  go_wp2
  exact bodyPost_ret (results_pk (p := 2) (u := 3) rfl _ _ (w.heap.size + 1) zeroPk rfl y1 zsize) rfl ⟨rfl, LB.out.trans (y4.mono (by omega))⟩
set_option maxHeartbeats 4000000 in
theorem echo_1 (ps : Array Value) (tos id fr ttl pr src dst : Int) (io : List Int) (hI : ps.extract 12 (12 + 8) = #[.int .i64 tos, .int .i64 id, .int .i64 fr, .int .i64 ttl, .int .i64 pr, .int .u32 src, .int .u32 dst, .string (strOfNums io)]) (h11 : ps[11]? = some (.bool true)) (h1 : wholeB fr = false) (w : World) :
    Calls Try.prog 15 #[.agg ps] w fun e w' => e = .returned (.tuple #[.agg zeroPk, .bool false]) ∧ Below w.heap.size w w' := by
  have L1 : Hid _ := Ca.two_first w (.cells ps 34) (.cells zeroPk 34)
  have L2 : Hid _ := Ca.two_last w (.cells ps 34) (.cells zeroPk 34)
  have LB : Hid _ := below2 w (.cells ps 34) (.cells zeroPk 34)
  go_enter Try.func15, Try.ntmps15
  go_wp2_with (refine Ca.wpList_load_atw (by rfl) 30 _ rfl (w.heap.size) 12 8 rfl ps #[.int .i64 tos, .int .i64 id, .int .i64 fr, .int .i64 ttl, .int .i64 pr, .int .u32 src, .int .u32 dst, .string (strOfNums io)] 34 _ L1.out Try.underlying30 rfl hI rfl (by kernel_rfl) ?_)
  refine (ipwhole_any tos id fr ttl pr src dst io _).mono ?_
  rintro e W1 ⟨rfl, hb⟩
  rw [h1]
  have B_W1 : Hid (Below w.heap.size w W1) := LB.out.trans (hb.mono (by first | exact LB.out.size | (simp; omega)))
  have R1_W1 : Hid (W1.heap[w.heap.size]? = some (.cells ps 34 (0, 0))) := (hb.block _ (Ca.lt_of_heap L1.out)).trans L1.out
  have R2_W1 : Hid (W1.heap[w.heap.size + 1]? = some (.cells zeroPk 34 (0, 0))) := (hb.block _ (Ca.lt_of_heap L2.out)).trans L2.out
  clear hb L1 L2 LB
  go_wp2_with (first
    | refine Ca.wpList_build_as rfl 34 _ rfl zeroPk (by rw [List.map_toArray]; show Try.prog.built 34 [] = _; kernel_rfl) ?_
    | refine Ca.wpList_store_row rfl 34 _ _ rfl (w.heap.size + 1) zeroPk zeroPk 34 rfl rfl R2_W1.out (info36 zsize) rfl one36 ?_
    | fail)
  intro W9 y1 y2 y3 y4
  go_wp2
  exact bodyPost_ret (results_pk (p := 2) (u := 3) rfl _ _ (w.heap.size + 1) zeroPk rfl y1 zsize) rfl ⟨rfl, B_W1.out.trans (y4.mono (by omega))⟩
set_option maxHeartbeats 4000000 in
theorem echo_2 (ps : Array Value) (hs : ps.size = 36) (ho : ps.all (·.oneCell') = true) (tos id fr ttl pr src dst : Int) (io : List Int) (k ty co re sp dp : Int) (ns : Bool) (sq ak fl wi ur : Int) (lo ds : List Int) (hI : ps.extract 12 (12 + 8) = #[.int .i64 tos, .int .i64 id, .int .i64 fr, .int .i64 ttl, .int .i64 pr, .int .u32 src, .int .u32 dst, .string (strOfNums io)]) (hL : ps.extract 20 (20 + 14) = #[.int .i64 k, .int .i64 ty, .int .i64 co, .int .u32 re, .int .i64 sp, .int .i64 dp, .bool ns, .int .u32 sq, .int .u32 ak, .int .i64 fl, .int .i64 wi, .int .i64 ur, .string (strOfNums lo), .string (strOfNums ds)]) (h11 : ps[11]? = some (.bool true)) (h1 : wholeB fr = true) (h2 : askedB k ty co = false) (w : World) :
    Calls Try.prog 15 #[.agg ps] w fun e w' => e = .returned (.tuple #[.agg zeroPk, .bool false]) ∧ Below w.heap.size w w' := by
  have L1 : Hid _ := Ca.two_first w (.cells ps 34) (.cells zeroPk 34)
  have L2 : Hid _ := Ca.two_last w (.cells ps 34) (.cells zeroPk 34)
  have LB : Hid _ := below2 w (.cells ps 34) (.cells zeroPk 34)
  have HS : Hid (ps.size = 36) := hs
  have HO : Hid (ps.all (·.oneCell') = true) := ho
  clear hs ho
  go_enter Try.func15, Try.ntmps15
  go_wp2_with (refine Ca.wpList_load_atw (by rfl) 30 _ rfl (w.heap.size) 12 8 rfl ps #[.int .i64 tos, .int .i64 id, .int .i64 fr, .int .i64 ttl, .int .i64 pr, .int .u32 src, .int .u32 dst, .string (strOfNums io)] 34 _ L1.out Try.underlying30 rfl hI rfl (by kernel_rfl) ?_)
  refine (ipwhole_any tos id fr ttl pr src dst io _).mono ?_
  rintro e W1 ⟨rfl, hb⟩
  rw [h1]
  have B_W1 : Hid (Below w.heap.size w W1) := LB.out.trans (hb.mono (by first | exact LB.out.size | (simp; omega)))
  have R1_W1 : Hid (W1.heap[w.heap.size]? = some (.cells ps 34 (0, 0))) := (hb.block _ (Ca.lt_of_heap L1.out)).trans L1.out
  have R2_W1 : Hid (W1.heap[w.heap.size + 1]? = some (.cells zeroPk 34 (0, 0))) := (hb.block _ (Ca.lt_of_heap L2.out)).trans L2.out
  clear hb L1 L2 LB
  clear h11
  go_wp2_with (refine Ca.wpList_load_atw (by rfl) 32 _ rfl (w.heap.size) 20 14 rfl ps #[.int .i64 k, .int .i64 ty, .int .i64 co, .int .u32 re, .int .i64 sp, .int .i64 dp, .bool ns, .int .u32 sq, .int .u32 ak, .int .i64 fl, .int .i64 wi, .int .i64 ur, .string (strOfNums lo), .string (strOfNums ds)] 34 _ R1_W1.out Try.underlying32 rfl hL rfl (by kernel_rfl) ?_)
  refine (asked_any k ty co re sp dp ns sq ak fl wi ur lo ds _).mono ?_
  rintro e W2 ⟨rfl, hb⟩
  rw [h2]
  have B_W2 : Hid (Below w.heap.size w W2) := B_W1.out.trans (hb.mono (by first | exact B_W1.out.size | (simp; omega)))
  have R1_W2 : Hid (W2.heap[w.heap.size]? = some (.cells ps 34 (0, 0))) := (hb.block _ (Ca.lt_of_heap R1_W1.out)).trans R1_W1.out
  have R2_W2 : Hid (W2.heap[w.heap.size + 1]? = some (.cells zeroPk 34 (0, 0))) := (hb.block _ (Ca.lt_of_heap R2_W1.out)).trans R2_W1.out
  clear hb B_W1 R1_W1 R2_W1
  go_wp2_with (first
    | refine Ca.wpList_build_as rfl 34 _ rfl zeroPk (by rw [List.map_toArray]; show Try.prog.built 34 [] = _; kernel_rfl) ?_
    | refine Ca.wpList_store_row rfl 34 _ _ rfl (w.heap.size + 1) zeroPk zeroPk 34 rfl rfl R2_W2.out (info36 zsize) rfl one36 ?_
    | fail)
  intro W9 y1 y2 y3 y4
  go_wp2
  exact bodyPost_ret (results_pk (p := 2) (u := 3) rfl _ _ (w.heap.size + 1) zeroPk rfl y1 zsize) rfl ⟨rfl, B_W2.out.trans (y4.mono (by omega))⟩
/-- The reply to an echo. -/
def echoQ (ps : Array Value) (d s src dst : Int) : Array Value := ((((((ps.setIfInBounds 0 (.int .u64 s)).setIfInBounds 1 (.int .u64 d)).setIfInBounds 18 (.int .u32 src)).setIfInBounds 17 (.int .u32 dst)).setIfInBounds 15 (.int .i64 64)).setIfInBounds 21 (.int .i64 0))
theorem echoQ_size {ps : Array Value} (h : ps.size = 36) (d s src dst : Int) : (echoQ ps d s src dst).size = 36 := by simp [echoQ, h]
theorem echoQ_one {ps : Array Value} (ho : ps.all (·.oneCell') = true) (d s src dst : Int) : (echoQ ps d s src dst).all (·.oneCell') = true := (Ca.set_one (Ca.set_one (Ca.set_one (Ca.set_one (Ca.set_one (Ca.set_one ho rfl) rfl) rfl) rfl) rfl) rfl)
set_option maxHeartbeats 4000000 in
theorem echo_3 (ps : Array Value) (hs : ps.size = 36) (ho : ps.all (·.oneCell') = true) (tos id fr ttl pr src dst : Int) (io : List Int) (k ty co re sp dp : Int) (ns : Bool) (sq ak fl wi ur : Int) (lo ds : List Int) (hI : ps.extract 12 (12 + 8) = #[.int .i64 tos, .int .i64 id, .int .i64 fr, .int .i64 ttl, .int .i64 pr, .int .u32 src, .int .u32 dst, .string (strOfNums io)]) (hL : ps.extract 20 (20 + 14) = #[.int .i64 k, .int .i64 ty, .int .i64 co, .int .u32 re, .int .i64 sp, .int .i64 dp, .bool ns, .int .u32 sq, .int .u32 ak, .int .i64 fl, .int .i64 wi, .int .i64 ur, .string (strOfNums lo), .string (strOfNums ds)]) (d s : Int) (h11 : ps[11]? = some (.bool true)) (h1 : wholeB fr = true) (h2 : askedB k ty co = true) (g0 : ps[0]? = some (.int .u64 d)) (g1 : ps[1]? = some (.int .u64 s)) (g15 : ps[15]? = some (.int .i64 ttl)) (g17 : ps[17]? = some (.int .u32 src)) (g18 : ps[18]? = some (.int .u32 dst)) (g21 : ps[21]? = some (.int .i64 ty)) (w : World) :
    Calls Try.prog 15 #[.agg ps] w fun e w' => e = .returned (.tuple #[.agg (echoQ ps d s src dst), .bool true]) ∧ Below w.heap.size w w' := by
  have Zq : Hid ((echoQ ps d s src dst).size = 36) := echoQ_size hs d s src dst
  have Oq : Hid ((echoQ ps d s src dst).all (·.oneCell') = true) := echoQ_one ho d s src dst
  have G0 : Hid (ps[0]? = some (.int .u64 d)) := g0
  have G1 : Hid (ps[1]? = some (.int .u64 s)) := g1
  have G15 : Hid (ps[15]? = some (.int .i64 ttl)) := g15
  have G17 : Hid (ps[17]? = some (.int .u32 src)) := g17
  have G18 : Hid (ps[18]? = some (.int .u32 dst)) := g18
  have G21 : Hid (ps[21]? = some (.int .i64 ty)) := g21
  clear g0 g1 g15 g17 g18 g21
  have L1 : Hid _ := Ca.two_first w (.cells ps 34) (.cells zeroPk 34)
  have L2 : Hid _ := Ca.two_last w (.cells ps 34) (.cells zeroPk 34)
  have LB : Hid _ := below2 w (.cells ps 34) (.cells zeroPk 34)
  have HS : Hid (ps.size = 36) := hs
  clear hs ho
  go_enter Try.func15, Try.ntmps15
  go_wp2_with (refine Ca.wpList_load_atw (by rfl) 30 _ rfl (w.heap.size) 12 8 rfl ps #[.int .i64 tos, .int .i64 id, .int .i64 fr, .int .i64 ttl, .int .i64 pr, .int .u32 src, .int .u32 dst, .string (strOfNums io)] 34 _ L1.out Try.underlying30 rfl hI rfl (by kernel_rfl) ?_)
  refine (ipwhole_any tos id fr ttl pr src dst io _).mono ?_
  rintro e W1 ⟨rfl, hb⟩
  rw [h1]
  have B_W1 : Hid (Below w.heap.size w W1) := LB.out.trans (hb.mono (by first | exact LB.out.size | (simp; omega)))
  have R1_W1 : Hid (W1.heap[w.heap.size]? = some (.cells ps 34 (0, 0))) := (hb.block _ (Ca.lt_of_heap L1.out)).trans L1.out
  have R2_W1 : Hid (W1.heap[w.heap.size + 1]? = some (.cells zeroPk 34 (0, 0))) := (hb.block _ (Ca.lt_of_heap L2.out)).trans L2.out
  clear hb L1 L2 LB
  clear h11
  go_wp2_with (refine Ca.wpList_load_atw (by rfl) 32 _ rfl (w.heap.size) 20 14 rfl ps #[.int .i64 k, .int .i64 ty, .int .i64 co, .int .u32 re, .int .i64 sp, .int .i64 dp, .bool ns, .int .u32 sq, .int .u32 ak, .int .i64 fl, .int .i64 wi, .int .i64 ur, .string (strOfNums lo), .string (strOfNums ds)] 34 _ R1_W1.out Try.underlying32 rfl hL rfl (by kernel_rfl) ?_)
  refine (asked_any k ty co re sp dp ns sq ak fl wi ur lo ds _).mono ?_
  rintro e W2 ⟨rfl, hb⟩
  rw [h2]
  have B_W2 : Hid (Below w.heap.size w W2) := B_W1.out.trans (hb.mono (by first | exact B_W1.out.size | (simp; omega)))
  have R1_W2 : Hid (W2.heap[w.heap.size]? = some (.cells ps 34 (0, 0))) := (hb.block _ (Ca.lt_of_heap R1_W1.out)).trans R1_W1.out
  have R2_W2 : Hid (W2.heap[w.heap.size + 1]? = some (.cells zeroPk 34 (0, 0))) := (hb.block _ (Ca.lt_of_heap R2_W1.out)).trans R2_W1.out
  clear hb B_W1 R1_W1 R2_W1
  have c0 := (Ca.cell_row R1_W2.out 0).trans (show (ps)[0]? = some (.int .u64 d) from by exact G0.out)
  have f0 := frozen_of_row W2 _ 0 _ _ R1_W2.out
  have c1 := (Ca.cell_row R1_W2.out 1).trans (show (ps)[1]? = some (.int .u64 s) from by exact G1.out)
  have f1 := frozen_of_row W2 _ 1 _ _ R1_W2.out
  go_wp2_with (show wpList _ _ _ ({ dst := some 30, op := _, type := _, pos := _, after := _, guard := _ } :: _) _ _; refine StopP.out ?_)
  clear c0 f0 c1 f1
  have R1_W3 : Hid (((W2.setCell ⟨w.heap.size, 0, none⟩ (.int .u64 s)).setCell ⟨w.heap.size, 1, none⟩ (.int .u64 d)).heap[w.heap.size]? = some (.cells ((ps.setIfInBounds 0 (.int .u64 s)).setIfInBounds 1 (.int .u64 d)) 34 (0, 0))) := (Ca.row_setCell (Ca.row_setCell R1_W2.out 0 (.int .u64 s)) 1 (.int .u64 d))
  have R2_W3 : Hid (((W2.setCell ⟨w.heap.size, 0, none⟩ (.int .u64 s)).setCell ⟨w.heap.size, 1, none⟩ (.int .u64 d)).heap[w.heap.size + 1]? = some (.cells zeroPk 34 (0, 0))) := ((Below.heap_setCell _ _ _ _ (show w.heap.size + 1 ≠ w.heap.size by omega)).trans ((Below.heap_setCell _ _ _ _ (show w.heap.size + 1 ≠ w.heap.size by omega)).trans R2_W2.out))
  have B_W3 : Hid (Below w.heap.size w ((W2.setCell ⟨w.heap.size, 0, none⟩ (.int .u64 s)).setCell ⟨w.heap.size, 1, none⟩ (.int .u64 d))) := ((B_W2.out.setCell (Nat.le_refl _) _).setCell (Nat.le_refl _) _)
  obtain ⟨W3, hW⟩ : ∃ V, ((W2.setCell ⟨w.heap.size, 0, none⟩ (.int .u64 s)).setCell ⟨w.heap.size, 1, none⟩ (.int .u64 d)) = V := ⟨_, rfl⟩
  rw [hW] at R1_W3 R2_W3 B_W3 ⊢
  clear hW R1_W2 R2_W2 B_W2
  refine StopP.mk ?_
  have c17 := (Ca.cell_row R1_W3.out 17).trans (show (((ps.setIfInBounds 0 (.int .u64 s)).setIfInBounds 1 (.int .u64 d)))[17]? = some (.int .u32 src) from by rw [Array.getElem?_setIfInBounds_ne (by decide)]; rw [Array.getElem?_setIfInBounds_ne (by decide)]; exact G17.out)
  have f17 := frozen_of_row W3 _ 17 _ _ R1_W3.out
  have c18 := (Ca.cell_row R1_W3.out 18).trans (show (((ps.setIfInBounds 0 (.int .u64 s)).setIfInBounds 1 (.int .u64 d)))[18]? = some (.int .u32 dst) from by rw [Array.getElem?_setIfInBounds_ne (by decide)]; rw [Array.getElem?_setIfInBounds_ne (by decide)]; exact G18.out)
  have f18 := frozen_of_row W3 _ 18 _ _ R1_W3.out
  go_wp2_with (show wpList _ _ _ ({ dst := some 40, op := _, type := _, pos := _, after := _, guard := _ } :: _) _ _; refine StopP.out ?_)
  clear c17 f17 c18 f18
  have R1_W4 : Hid (((W3.setCell ⟨w.heap.size, 18, none⟩ (.int .u32 src)).setCell ⟨w.heap.size, 17, none⟩ (.int .u32 dst)).heap[w.heap.size]? = some (.cells ((((ps.setIfInBounds 0 (.int .u64 s)).setIfInBounds 1 (.int .u64 d)).setIfInBounds 18 (.int .u32 src)).setIfInBounds 17 (.int .u32 dst)) 34 (0, 0))) := (Ca.row_setCell (Ca.row_setCell R1_W3.out 18 (.int .u32 src)) 17 (.int .u32 dst))
  have R2_W4 : Hid (((W3.setCell ⟨w.heap.size, 18, none⟩ (.int .u32 src)).setCell ⟨w.heap.size, 17, none⟩ (.int .u32 dst)).heap[w.heap.size + 1]? = some (.cells zeroPk 34 (0, 0))) := ((Below.heap_setCell _ _ _ _ (show w.heap.size + 1 ≠ w.heap.size by omega)).trans ((Below.heap_setCell _ _ _ _ (show w.heap.size + 1 ≠ w.heap.size by omega)).trans R2_W3.out))
  have B_W4 : Hid (Below w.heap.size w ((W3.setCell ⟨w.heap.size, 18, none⟩ (.int .u32 src)).setCell ⟨w.heap.size, 17, none⟩ (.int .u32 dst))) := ((B_W3.out.setCell (Nat.le_refl _) _).setCell (Nat.le_refl _) _)
  obtain ⟨W4, hW⟩ : ∃ V, ((W3.setCell ⟨w.heap.size, 18, none⟩ (.int .u32 src)).setCell ⟨w.heap.size, 17, none⟩ (.int .u32 dst)) = V := ⟨_, rfl⟩
  rw [hW] at R1_W4 R2_W4 B_W4 ⊢
  clear hW R1_W3 R2_W3 B_W3
  refine StopP.mk ?_
  have c15 := (Ca.cell_row R1_W4.out 15).trans (show (((((ps.setIfInBounds 0 (.int .u64 s)).setIfInBounds 1 (.int .u64 d)).setIfInBounds 18 (.int .u32 src)).setIfInBounds 17 (.int .u32 dst)))[15]? = some (.int .i64 ttl) from by rw [Array.getElem?_setIfInBounds_ne (by decide)]; rw [Array.getElem?_setIfInBounds_ne (by decide)]; rw [Array.getElem?_setIfInBounds_ne (by decide)]; rw [Array.getElem?_setIfInBounds_ne (by decide)]; exact G15.out)
  have f15 := frozen_of_row W4 _ 15 _ _ R1_W4.out
  go_wp2_with (show wpList _ _ _ ({ dst := some 42, op := _, type := _, pos := _, after := _, guard := _ } :: _) _ _; refine StopP.out ?_)
  clear c15 f15
  have R1_W5 : Hid ((W4.setCell ⟨w.heap.size, 15, none⟩ (.int .i64 64)).heap[w.heap.size]? = some (.cells (((((ps.setIfInBounds 0 (.int .u64 s)).setIfInBounds 1 (.int .u64 d)).setIfInBounds 18 (.int .u32 src)).setIfInBounds 17 (.int .u32 dst)).setIfInBounds 15 (.int .i64 64)) 34 (0, 0))) := (Ca.row_setCell R1_W4.out 15 (.int .i64 64))
  have R2_W5 : Hid ((W4.setCell ⟨w.heap.size, 15, none⟩ (.int .i64 64)).heap[w.heap.size + 1]? = some (.cells zeroPk 34 (0, 0))) := ((Below.heap_setCell _ _ _ _ (show w.heap.size + 1 ≠ w.heap.size by omega)).trans R2_W4.out)
  have B_W5 : Hid (Below w.heap.size w (W4.setCell ⟨w.heap.size, 15, none⟩ (.int .i64 64))) := (B_W4.out.setCell (Nat.le_refl _) _)
  obtain ⟨W5, hW⟩ : ∃ V, (W4.setCell ⟨w.heap.size, 15, none⟩ (.int .i64 64)) = V := ⟨_, rfl⟩
  rw [hW] at R1_W5 R2_W5 B_W5 ⊢
  clear hW R1_W4 R2_W4 B_W4
  refine StopP.mk ?_
  have c21 := (Ca.cell_row R1_W5.out 21).trans (show ((((((ps.setIfInBounds 0 (.int .u64 s)).setIfInBounds 1 (.int .u64 d)).setIfInBounds 18 (.int .u32 src)).setIfInBounds 17 (.int .u32 dst)).setIfInBounds 15 (.int .i64 64)))[21]? = some (.int .i64 ty) from by rw [Array.getElem?_setIfInBounds_ne (by decide)]; rw [Array.getElem?_setIfInBounds_ne (by decide)]; rw [Array.getElem?_setIfInBounds_ne (by decide)]; rw [Array.getElem?_setIfInBounds_ne (by decide)]; rw [Array.getElem?_setIfInBounds_ne (by decide)]; exact G21.out)
  have f21 := frozen_of_row W5 _ 21 _ _ R1_W5.out
  go_wp2_with (show wpList _ _ _ ({ dst := some 44, op := _, type := _, pos := _, after := _, guard := _ } :: _) _ _; refine StopP.out ?_)
  clear c21 f21
  have R1_W6 : Hid ((W5.setCell ⟨w.heap.size, 21, none⟩ (.int .i64 0)).heap[w.heap.size]? = some (.cells ((((((ps.setIfInBounds 0 (.int .u64 s)).setIfInBounds 1 (.int .u64 d)).setIfInBounds 18 (.int .u32 src)).setIfInBounds 17 (.int .u32 dst)).setIfInBounds 15 (.int .i64 64)).setIfInBounds 21 (.int .i64 0)) 34 (0, 0))) := (Ca.row_setCell R1_W5.out 21 (.int .i64 0))
  have R2_W6 : Hid ((W5.setCell ⟨w.heap.size, 21, none⟩ (.int .i64 0)).heap[w.heap.size + 1]? = some (.cells zeroPk 34 (0, 0))) := ((Below.heap_setCell _ _ _ _ (show w.heap.size + 1 ≠ w.heap.size by omega)).trans R2_W5.out)
  have B_W6 : Hid (Below w.heap.size w (W5.setCell ⟨w.heap.size, 21, none⟩ (.int .i64 0))) := (B_W5.out.setCell (Nat.le_refl _) _)
  obtain ⟨W6, hW⟩ : ∃ V, (W5.setCell ⟨w.heap.size, 21, none⟩ (.int .i64 0)) = V := ⟨_, rfl⟩
  rw [hW] at R1_W6 R2_W6 B_W6 ⊢
  clear hW R1_W5 R2_W5 B_W5
  refine StopP.mk ?_
  go_wp2_with (first
    | refine wpList_load_row rfl 34 _ rfl (w.heap.size) rfl 34 (echoQ ps d s src dst) (0, 0) _ R1_W6.out Try.underlying34 rfl (info36 Zq.out) ?_
    | refine Ca.wpList_store_row rfl 34 _ _ rfl (w.heap.size + 1) zeroPk (echoQ ps d s src dst) 34 rfl rfl R2_W6.out (info36 Zq.out) (Eq.trans (b := 36) rfl Zq.out.symm) Oq.out ?_
    | fail)
  intro W9 y1 y2 y3 y4
  go_wp2
  exact bodyPost_ret (results_pk (p := 2) (u := 3) rfl _ _ (w.heap.size + 1) (echoQ ps d s src dst) rfl y1 Zq.out) rfl ⟨rfl, B_W6.out.trans (y4.mono (by omega))⟩
end Go.Proofs.Ytpiokeidcnbmbaa
/- The document's Echo. No condition beyond cells of their kinds. -/
namespace Go.Proofs.Ytpiokeidcnbmbaa
open Go.RowKit
set_option maxRecDepth 20000
set_option linter.unusedSimpArgs false
set_option maxHeartbeats 4000000 in
theorem recho_0 (ps : Array Value) (h11 : ps[11]? = some (.bool false)) (w : World) :
    Calls Try.prog 16 #[.agg ps] w fun e w' => e = .returned (.tuple #[.agg zeroPk, .bool false]) ∧ Below w.heap.size w w' := by
  have L1 : Hid _ := Ca.two_first w (.cells ps 34) (.cells zeroPk 34)
  have L2 : Hid _ := Ca.two_last w (.cells ps 34) (.cells zeroPk 34)
  have LB : Hid _ := below2 w (.cells ps 34) (.cells zeroPk 34)
  go_enter Try.func16, Try.ntmps16
  go_wp2_with (first
    | refine Ca.wpList_build_as rfl 34 _ rfl zeroPk (by rw [List.map_toArray]; show Try.prog.built 34 [] = _; kernel_rfl) ?_
    | refine Ca.wpList_store_row rfl 34 _ _ rfl (w.heap.size + 1) zeroPk zeroPk 34 rfl rfl L2.out (info36 zsize) rfl one36 ?_
    | fail)
  intro W9 y1 y2 y3 y4
  go_wp2
  exact bodyPost_ret (results_pk (p := 2) (u := 3) rfl _ _ (w.heap.size + 1) zeroPk rfl y1 zsize) rfl ⟨rfl, LB.out.trans (y4.mono (by omega))⟩
set_option maxHeartbeats 4000000 in
theorem recho_1 (ps : Array Value) (tos id fr ttl pr src dst : Int) (io : List Int) (hI : ps.extract 12 (12 + 8) = #[.int .i64 tos, .int .i64 id, .int .i64 fr, .int .i64 ttl, .int .i64 pr, .int .u32 src, .int .u32 dst, .string (strOfNums io)]) (h11 : ps[11]? = some (.bool true)) (h1 : wholeB fr = false) (w : World) :
    Calls Try.prog 16 #[.agg ps] w fun e w' => e = .returned (.tuple #[.agg zeroPk, .bool false]) ∧ Below w.heap.size w w' := by
  have L1 : Hid _ := Ca.two_first w (.cells ps 34) (.cells zeroPk 34)
  have L2 : Hid _ := Ca.two_last w (.cells ps 34) (.cells zeroPk 34)
  have LB : Hid _ := below2 w (.cells ps 34) (.cells zeroPk 34)
  go_enter Try.func16, Try.ntmps16
  go_wp2_with (refine Ca.wpList_load_atw (by rfl) 30 _ rfl (w.heap.size) 12 8 rfl ps #[.int .i64 tos, .int .i64 id, .int .i64 fr, .int .i64 ttl, .int .i64 pr, .int .u32 src, .int .u32 dst, .string (strOfNums io)] 34 _ L1.out Try.underlying30 rfl hI rfl (by kernel_rfl) ?_)
  refine (rwhole_any tos id fr ttl pr src dst io _).mono ?_
  rintro e W1 ⟨rfl, hb⟩
  rw [h1]
  have B_W1 : Hid (Below w.heap.size w W1) := LB.out.trans (hb.mono (by first | exact LB.out.size | (simp; omega)))
  have R1_W1 : Hid (W1.heap[w.heap.size]? = some (.cells ps 34 (0, 0))) := (hb.block _ (Ca.lt_of_heap L1.out)).trans L1.out
  have R2_W1 : Hid (W1.heap[w.heap.size + 1]? = some (.cells zeroPk 34 (0, 0))) := (hb.block _ (Ca.lt_of_heap L2.out)).trans L2.out
  clear hb L1 L2 LB h11
  go_wp2_with (first
    | refine Ca.wpList_build_as rfl 34 _ rfl zeroPk (by rw [List.map_toArray]; show Try.prog.built 34 [] = _; kernel_rfl) ?_
    | refine Ca.wpList_store_row rfl 34 _ _ rfl (w.heap.size + 1) zeroPk zeroPk 34 rfl rfl R2_W1.out (info36 zsize) rfl one36 ?_
    | fail)
  intro W9 y1 y2 y3 y4
  go_wp2
  exact bodyPost_ret (results_pk (p := 2) (u := 3) rfl _ _ (w.heap.size + 1) zeroPk rfl y1 zsize) rfl ⟨rfl, B_W1.out.trans (y4.mono (by omega))⟩
set_option maxHeartbeats 4000000 in
theorem recho_2a (ps : Array Value) (tos id fr ttl pr src dst : Int) (io : List Int) (hI : ps.extract 12 (12 + 8) = #[.int .i64 tos, .int .i64 id, .int .i64 fr, .int .i64 ttl, .int .i64 pr, .int .u32 src, .int .u32 dst, .string (strOfNums io)]) (h11 : ps[11]? = some (.bool true)) (h1 : wholeB fr = true) (k : Int) (g20 : ps[20]? = some (.int .i64 k)) (e20 : (k != 1) = true) (w : World) :
    Calls Try.prog 16 #[.agg ps] w fun e w' => e = .returned (.tuple #[.agg zeroPk, .bool false]) ∧ Below w.heap.size w w' := by
  have L1 : Hid _ := Ca.two_first w (.cells ps 34) (.cells zeroPk 34)
  have L2 : Hid _ := Ca.two_last w (.cells ps 34) (.cells zeroPk 34)
  have LB : Hid _ := below2 w (.cells ps 34) (.cells zeroPk 34)
  go_enter Try.func16, Try.ntmps16
  go_wp2_with (refine Ca.wpList_load_atw (by rfl) 30 _ rfl (w.heap.size) 12 8 rfl ps #[.int .i64 tos, .int .i64 id, .int .i64 fr, .int .i64 ttl, .int .i64 pr, .int .u32 src, .int .u32 dst, .string (strOfNums io)] 34 _ L1.out Try.underlying30 rfl hI rfl (by kernel_rfl) ?_)
  refine (rwhole_any tos id fr ttl pr src dst io _).mono ?_
  rintro e W1 ⟨rfl, hb⟩
  rw [h1]
  have B_W1 : Hid (Below w.heap.size w W1) := LB.out.trans (hb.mono (by first | exact LB.out.size | (simp; omega)))
  have R1_W1 : Hid (W1.heap[w.heap.size]? = some (.cells ps 34 (0, 0))) := (hb.block _ (Ca.lt_of_heap L1.out)).trans L1.out
  have R2_W1 : Hid (W1.heap[w.heap.size + 1]? = some (.cells zeroPk 34 (0, 0))) := (hb.block _ (Ca.lt_of_heap L2.out)).trans L2.out
  clear hb L1 L2 LB h11
  have c20 := (Ca.cell_row R1_W1.out 20).trans g20
  go_wp2_with (first
    | refine Ca.wpList_build_as rfl 34 _ rfl zeroPk (by rw [List.map_toArray]; show Try.prog.built 34 [] = _; kernel_rfl) ?_
    | refine Ca.wpList_store_row rfl 34 _ _ rfl (w.heap.size + 1) zeroPk zeroPk 34 rfl rfl R2_W1.out (info36 zsize) rfl one36 ?_
    | fail)
  intro W9 y1 y2 y3 y4
  go_wp2
  exact bodyPost_ret (results_pk (p := 2) (u := 3) rfl _ _ (w.heap.size + 1) zeroPk rfl y1 zsize) rfl ⟨rfl, B_W1.out.trans (y4.mono (by omega))⟩
set_option maxHeartbeats 4000000 in
theorem recho_2b (ps : Array Value) (tos id fr ttl pr src dst : Int) (io : List Int) (hI : ps.extract 12 (12 + 8) = #[.int .i64 tos, .int .i64 id, .int .i64 fr, .int .i64 ttl, .int .i64 pr, .int .u32 src, .int .u32 dst, .string (strOfNums io)]) (h11 : ps[11]? = some (.bool true)) (h1 : wholeB fr = true) (k : Int) (g20 : ps[20]? = some (.int .i64 k)) (ty : Int) (g21 : ps[21]? = some (.int .i64 ty)) (e20 : (k != 1) = false) (e21 : (ty != 8) = true) (w : World) :
    Calls Try.prog 16 #[.agg ps] w fun e w' => e = .returned (.tuple #[.agg zeroPk, .bool false]) ∧ Below w.heap.size w w' := by
  have L1 : Hid _ := Ca.two_first w (.cells ps 34) (.cells zeroPk 34)
  have L2 : Hid _ := Ca.two_last w (.cells ps 34) (.cells zeroPk 34)
  have LB : Hid _ := below2 w (.cells ps 34) (.cells zeroPk 34)
  go_enter Try.func16, Try.ntmps16
  go_wp2_with (refine Ca.wpList_load_atw (by rfl) 30 _ rfl (w.heap.size) 12 8 rfl ps #[.int .i64 tos, .int .i64 id, .int .i64 fr, .int .i64 ttl, .int .i64 pr, .int .u32 src, .int .u32 dst, .string (strOfNums io)] 34 _ L1.out Try.underlying30 rfl hI rfl (by kernel_rfl) ?_)
  refine (rwhole_any tos id fr ttl pr src dst io _).mono ?_
  rintro e W1 ⟨rfl, hb⟩
  rw [h1]
  have B_W1 : Hid (Below w.heap.size w W1) := LB.out.trans (hb.mono (by first | exact LB.out.size | (simp; omega)))
  have R1_W1 : Hid (W1.heap[w.heap.size]? = some (.cells ps 34 (0, 0))) := (hb.block _ (Ca.lt_of_heap L1.out)).trans L1.out
  have R2_W1 : Hid (W1.heap[w.heap.size + 1]? = some (.cells zeroPk 34 (0, 0))) := (hb.block _ (Ca.lt_of_heap L2.out)).trans L2.out
  clear hb L1 L2 LB h11
  have c20 := (Ca.cell_row R1_W1.out 20).trans g20
  have c21 := (Ca.cell_row R1_W1.out 21).trans g21
  go_wp2_with (first
    | refine Ca.wpList_build_as rfl 34 _ rfl zeroPk (by rw [List.map_toArray]; show Try.prog.built 34 [] = _; kernel_rfl) ?_
    | refine Ca.wpList_store_row rfl 34 _ _ rfl (w.heap.size + 1) zeroPk zeroPk 34 rfl rfl R2_W1.out (info36 zsize) rfl one36 ?_
    | fail)
  intro W9 y1 y2 y3 y4
  go_wp2
  exact bodyPost_ret (results_pk (p := 2) (u := 3) rfl _ _ (w.heap.size + 1) zeroPk rfl y1 zsize) rfl ⟨rfl, B_W1.out.trans (y4.mono (by omega))⟩
set_option maxHeartbeats 4000000 in
theorem recho_2c (ps : Array Value) (tos id fr ttl pr src dst : Int) (io : List Int) (hI : ps.extract 12 (12 + 8) = #[.int .i64 tos, .int .i64 id, .int .i64 fr, .int .i64 ttl, .int .i64 pr, .int .u32 src, .int .u32 dst, .string (strOfNums io)]) (h11 : ps[11]? = some (.bool true)) (h1 : wholeB fr = true) (k : Int) (g20 : ps[20]? = some (.int .i64 k)) (ty co : Int) (g21 : ps[21]? = some (.int .i64 ty)) (g22 : ps[22]? = some (.int .i64 co)) (e20 : (k != 1) = false) (e21 : (ty != 8) = false) (e22 : (co != 0) = true) (w : World) :
    Calls Try.prog 16 #[.agg ps] w fun e w' => e = .returned (.tuple #[.agg zeroPk, .bool false]) ∧ Below w.heap.size w w' := by
  have L1 : Hid _ := Ca.two_first w (.cells ps 34) (.cells zeroPk 34)
  have L2 : Hid _ := Ca.two_last w (.cells ps 34) (.cells zeroPk 34)
  have LB : Hid _ := below2 w (.cells ps 34) (.cells zeroPk 34)
  go_enter Try.func16, Try.ntmps16
  go_wp2_with (refine Ca.wpList_load_atw (by rfl) 30 _ rfl (w.heap.size) 12 8 rfl ps #[.int .i64 tos, .int .i64 id, .int .i64 fr, .int .i64 ttl, .int .i64 pr, .int .u32 src, .int .u32 dst, .string (strOfNums io)] 34 _ L1.out Try.underlying30 rfl hI rfl (by kernel_rfl) ?_)
  refine (rwhole_any tos id fr ttl pr src dst io _).mono ?_
  rintro e W1 ⟨rfl, hb⟩
  rw [h1]
  have B_W1 : Hid (Below w.heap.size w W1) := LB.out.trans (hb.mono (by first | exact LB.out.size | (simp; omega)))
  have R1_W1 : Hid (W1.heap[w.heap.size]? = some (.cells ps 34 (0, 0))) := (hb.block _ (Ca.lt_of_heap L1.out)).trans L1.out
  have R2_W1 : Hid (W1.heap[w.heap.size + 1]? = some (.cells zeroPk 34 (0, 0))) := (hb.block _ (Ca.lt_of_heap L2.out)).trans L2.out
  clear hb L1 L2 LB h11
  have c20 := (Ca.cell_row R1_W1.out 20).trans g20
  have c21 := (Ca.cell_row R1_W1.out 21).trans g21
  have c22 := (Ca.cell_row R1_W1.out 22).trans g22
  go_wp2_with (first
    | refine Ca.wpList_build_as rfl 34 _ rfl zeroPk (by rw [List.map_toArray]; show Try.prog.built 34 [] = _; kernel_rfl) ?_
    | refine Ca.wpList_store_row rfl 34 _ _ rfl (w.heap.size + 1) zeroPk zeroPk 34 rfl rfl R2_W1.out (info36 zsize) rfl one36 ?_
    | fail)
  intro W9 y1 y2 y3 y4
  go_wp2
  exact bodyPost_ret (results_pk (p := 2) (u := 3) rfl _ _ (w.heap.size + 1) zeroPk rfl y1 zsize) rfl ⟨rfl, B_W1.out.trans (y4.mono (by omega))⟩
set_option maxHeartbeats 4000000 in
theorem recho_3 (ps : Array Value) (tos id fr ttl pr src dst : Int) (io : List Int) (hI : ps.extract 12 (12 + 8) = #[.int .i64 tos, .int .i64 id, .int .i64 fr, .int .i64 ttl, .int .i64 pr, .int .u32 src, .int .u32 dst, .string (strOfNums io)]) (h11 : ps[11]? = some (.bool true)) (hs : ps.size = 36) (ho : ps.all (·.oneCell') = true) (d s : Int) (h1 : wholeB fr = true) (g20 : ps[20]? = some (.int .i64 1)) (g22 : ps[22]? = some (.int .i64 0)) (g0 : ps[0]? = some (.int .u64 d)) (g1 : ps[1]? = some (.int .u64 s)) (g15 : ps[15]? = some (.int .i64 ttl)) (g17 : ps[17]? = some (.int .u32 src)) (g18 : ps[18]? = some (.int .u32 dst)) (g21 : ps[21]? = some (.int .i64 8)) (w : World) :
    Calls Try.prog 16 #[.agg ps] w fun e w' => e = .returned (.tuple #[.agg (echoQ ps d s src dst), .bool true]) ∧ Below w.heap.size w w' := by
  have L1 : Hid _ := Ca.two_first w (.cells ps 34) (.cells zeroPk 34)
  have L2 : Hid _ := Ca.two_last w (.cells ps 34) (.cells zeroPk 34)
  have LB : Hid _ := below2 w (.cells ps 34) (.cells zeroPk 34)
  have Zq : Hid ((echoQ ps d s src dst).size = 36) := echoQ_size hs d s src dst
  have Oq : Hid ((echoQ ps d s src dst).all (·.oneCell') = true) := echoQ_one ho d s src dst
  have G0 : Hid (ps[0]? = some (.int .u64 d)) := g0
  have G1 : Hid (ps[1]? = some (.int .u64 s)) := g1
  have G15 : Hid (ps[15]? = some (.int .i64 ttl)) := g15
  have G17 : Hid (ps[17]? = some (.int .u32 src)) := g17
  have G18 : Hid (ps[18]? = some (.int .u32 dst)) := g18
  have G21 : Hid (ps[21]? = some (.int .i64 8)) := g21
  have HS : Hid (ps.size = 36) := hs
  have HO : Hid (ps.all (·.oneCell') = true) := ho
  clear hs ho g0 g1 g15 g17 g18 g21
  go_enter Try.func16, Try.ntmps16
  go_wp2_with (refine Ca.wpList_load_atw (by rfl) 30 _ rfl (w.heap.size) 12 8 rfl ps #[.int .i64 tos, .int .i64 id, .int .i64 fr, .int .i64 ttl, .int .i64 pr, .int .u32 src, .int .u32 dst, .string (strOfNums io)] 34 _ L1.out Try.underlying30 rfl hI rfl (by kernel_rfl) ?_)
  refine (rwhole_any tos id fr ttl pr src dst io _).mono ?_
  rintro e W1 ⟨rfl, hb⟩
  rw [h1]
  have B_W1 : Hid (Below w.heap.size w W1) := LB.out.trans (hb.mono (by first | exact LB.out.size | (simp; omega)))
  have R1_W1 : Hid (W1.heap[w.heap.size]? = some (.cells ps 34 (0, 0))) := (hb.block _ (Ca.lt_of_heap L1.out)).trans L1.out
  have R2_W1 : Hid (W1.heap[w.heap.size + 1]? = some (.cells zeroPk 34 (0, 0))) := (hb.block _ (Ca.lt_of_heap L2.out)).trans L2.out
  clear hb L1 L2 LB h11
  have c20 := (Ca.cell_row R1_W1.out 20).trans g20
  have c21 := (Ca.cell_row R1_W1.out 21).trans G21.out
  have c22 := (Ca.cell_row R1_W1.out 22).trans g22
  go_wp2_with (first
    | refine wpList_load_row rfl 34 _ rfl (w.heap.size) rfl 34 ps (0, 0) _ R1_W1.out Try.underlying34 rfl (info36 HS.out) ?_
    | refine Ca.wpList_store_new rfl 34 _ _ rfl zeroPk ps _ rfl rfl rfl (info36 HS.out) (Eq.trans (b := 36) rfl HS.out.symm) HO.out ?_
    | fail)
  clear c20 c21 c22 g20 g22
  have hlt := Ca.lt_of_heap R2_W1.out
  have B_W2 : Hid (Below w.heap.size w (W1.alloc (.cells ps 34))) := B_W1.out.alloc B_W1.out.size _
  have R1_W2 : Hid ((W1.alloc (.cells ps 34)).heap[w.heap.size]? = some (.cells ps 34 (0, 0))) := (heap_alloc_old _ _ (by omega)).trans R1_W1.out
  have R2_W2 : Hid ((W1.alloc (.cells ps 34)).heap[w.heap.size + 1]? = some (.cells zeroPk 34 (0, 0))) := (heap_alloc_old _ _ hlt).trans R2_W1.out
  have R3_W2 : Hid ((W1.alloc (.cells ps 34)).heap[W1.heap.size]? = some (.cells ps 34 (0, 0))) := heap_alloc_new W1 _
  obtain ⟨W2, hW⟩ : ∃ V, W1.alloc (.cells ps 34) = V := ⟨_, rfl⟩
  obtain ⟨g3, hg⟩ : ∃ g, W1.heap.size = g := ⟨_, rfl⟩
  rw [hW] at B_W2 R1_W2 R2_W2 R3_W2 ⊢
  rw [hg] at R3_W2 hlt ⊢
  have HG : Hid (w.heap.size ≤ g3 ∧ w.heap.size ≠ g3 ∧ w.heap.size + 1 ≠ g3) := by show _ ∧ _; omega
  clear hW hg hlt B_W1 R1_W1 R2_W1
  refine wp_region_held_drew (S := (fun W => W.heap[w.heap.size]? = some (.cells ps 34 (0, 0)))) (by kernel_rfl) R1_W2.out (fun hHeld => ?_)
  have B_W3 : Hid (Below w.heap.size w W2.drew) := B_W2.out.drew
  have R1_W3 : Hid (W2.drew.heap[w.heap.size]? = some (.cells ps 34 (0, 0))) := R1_W2.out
  have R2_W3 : Hid (W2.drew.heap[w.heap.size + 1]? = some (.cells zeroPk 34 (0, 0))) := R2_W2.out
  have R3_W3 : Hid (W2.drew.heap[g3]? = some (.cells ps 34 (0, 0))) := R3_W2.out
  obtain ⟨W3, hW⟩ : ∃ V, W2.drew = V := ⟨_, rfl⟩
  rw [hW] at B_W3 R1_W3 R2_W3 R3_W3 hHeld ⊢
  clear hW B_W2 R1_W2 R2_W2 R3_W2
  refine wpAnyH_take (i := 0) (v := ?_) rfl (by kernel_rfl) (by kernel_rfl) (by kernel_rfl) (fun _ _ _ h => h) (Or.inl ⟨by rfl, ?_⟩) (by assumption) ?_
  rotate_left
  · (intro w hSw; (try dsimp only at hSw); go_simp; try with_reducible rfl)
  try simp only [List.getElem_toArray, List.getElem_cons_zero, List.getElem_cons_succ, Act.put, List.setIfInBounds_toArray, List.set_cons_zero, List.set_cons_succ]
  refine wpAnyH_take (i := 1) (v := ?_) rfl (by kernel_rfl) (by kernel_rfl) (by kernel_rfl) (fun _ _ _ h => h) (Or.inl ⟨by rfl, ?_⟩) (by assumption) ?_
  rotate_left
  · (intro w hSw; (try dsimp only at hSw); go_simp; try with_reducible rfl)
  try simp only [List.getElem_toArray, List.getElem_cons_zero, List.getElem_cons_succ, Act.put, List.setIfInBounds_toArray, List.set_cons_zero, List.set_cons_succ]
  refine wpAnyH_take (i := 2) (v := .int .u64 s) rfl (by kernel_rfl) (by kernel_rfl) (by kernel_rfl) (fun _ _ _ h => h) (Or.inl ⟨by rfl, fun W hW => by have c := (Ca.cell_row hW 1).trans G1.out; go_simp⟩) (by assumption) ?_
  try simp only [List.getElem_toArray, List.getElem_cons_zero, List.getElem_cons_succ, Act.put, List.setIfInBounds_toArray, List.set_cons_zero, List.set_cons_succ]
  refine wpAnyH_take (i := 3) (v := ?_) rfl (by kernel_rfl) (by kernel_rfl) (by kernel_rfl) (fun _ _ _ h => h) (Or.inl ⟨by rfl, ?_⟩) (by assumption) ?_
  rotate_left
  · (intro w hSw; (try dsimp only at hSw); go_simp; try with_reducible rfl)
  try simp only [List.getElem_toArray, List.getElem_cons_zero, List.getElem_cons_succ, Act.put, List.setIfInBounds_toArray, List.set_cons_zero, List.set_cons_succ]
  refine wpAnyH_take (i := 4) (v := ?_) rfl (by kernel_rfl) (by kernel_rfl) (by kernel_rfl) (fun _ _ _ h => h) (Or.inl ⟨by rfl, ?_⟩) (by assumption) ?_
  rotate_left
  · (intro w hSw; (try dsimp only at hSw); go_simp; try with_reducible rfl)
  try simp only [List.getElem_toArray, List.getElem_cons_zero, List.getElem_cons_succ, Act.put, List.setIfInBounds_toArray, List.set_cons_zero, List.set_cons_succ]
  refine wpAnyH_take (i := 5) (v := .int .u64 d) rfl (by kernel_rfl) (by kernel_rfl) (by kernel_rfl) (fun _ _ _ h => h) (Or.inl ⟨by rfl, fun W hW => by have c := (Ca.cell_row hW 0).trans G0.out; go_simp⟩) (by assumption) ?_
  try simp only [List.getElem_toArray, List.getElem_cons_zero, List.getElem_cons_succ, Act.put, List.setIfInBounds_toArray, List.set_cons_zero, List.set_cons_succ]
  refine wpAnyH_take (i := 6) (v := ?_) rfl (by kernel_rfl) (by kernel_rfl) (by kernel_rfl) (fun _ _ _ h => h) (Or.inl ⟨by rfl, ?_⟩) (by assumption) ?_
  rotate_left
  · (intro w hSw; (try dsimp only at hSw); go_simp; try with_reducible rfl)
  try simp only [List.getElem_toArray, List.getElem_cons_zero, List.getElem_cons_succ, Act.put, List.setIfInBounds_toArray, List.set_cons_zero, List.set_cons_succ]
  refine wpAnyH_take (i := 7) (v := ?_) rfl (by kernel_rfl) (by kernel_rfl) (by kernel_rfl) (fun _ _ _ h => h) (Or.inl ⟨by rfl, ?_⟩) (by assumption) ?_
  rotate_left
  · (intro w hSw; (try dsimp only at hSw); go_simp; try with_reducible rfl)
  try simp only [List.getElem_toArray, List.getElem_cons_zero, List.getElem_cons_succ, Act.put, List.setIfInBounds_toArray, List.set_cons_zero, List.set_cons_succ]
  have c0 := (Ca.cell_row R3_W3.out 0).trans (show (ps)[0]? = some (.int .u64 d) from by exact G0.out)
  have f0 := frozen_of_row W3 _ 0 _ _ R3_W3.out
  refine wpAnyH_ready (rs := [8]) (by kernel_rfl) (by simp) ?_
  refine AllReadyH.cons (o := _) rfl (fun K hK => ?_) AllReadyH.nil
  go_simp
  clear c0 f0
  have B_W4 : Hid (Below w.heap.size w (W3.setCell ⟨g3, 0, none⟩ (.int .u64 s))) := B_W3.out.setCell HG.out.1 _
  have R1_W4 : Hid ((W3.setCell ⟨g3, 0, none⟩ (.int .u64 s)).heap[w.heap.size]? = some (.cells ps 34 (0, 0))) := (Below.heap_setCell _ _ _ _ HG.out.2.1).trans R1_W3.out
  have R2_W4 : Hid ((W3.setCell ⟨g3, 0, none⟩ (.int .u64 s)).heap[w.heap.size + 1]? = some (.cells zeroPk 34 (0, 0))) := (Below.heap_setCell _ _ _ _ HG.out.2.2).trans R2_W3.out
  have R3_W4 : Hid ((W3.setCell ⟨g3, 0, none⟩ (.int .u64 s)).heap[g3]? = some (.cells (ps.setIfInBounds 0 (.int .u64 s)) 34 (0, 0))) := Ca.row_setCell R3_W3.out 0 _
  obtain ⟨W4, hW⟩ : ∃ V, (W3.setCell ⟨g3, 0, none⟩ (.int .u64 s)) = V := ⟨_, rfl⟩
  rw [hW] at B_W4 R1_W4 R2_W4 R3_W4 ⊢
  clear hW B_W3 R1_W3 R2_W3 R3_W3
  refine hK _ _ R1_W4.out (fun hHeld => ?_)
  try simp only [List.getElem_toArray, List.getElem_cons_zero, List.getElem_cons_succ, Act.put, List.setIfInBounds_toArray, List.set_cons_zero, List.set_cons_succ]
  refine wpAnyH_take (i := 9) (v := ?_) rfl (by kernel_rfl) (by kernel_rfl) (by kernel_rfl) (fun _ _ _ h => h) (Or.inl ⟨by rfl, ?_⟩) (by assumption) ?_
  rotate_left
  · (intro w hSw; (try dsimp only at hSw); go_simp; try with_reducible rfl)
  try simp only [List.getElem_toArray, List.getElem_cons_zero, List.getElem_cons_succ, Act.put, List.setIfInBounds_toArray, List.set_cons_zero, List.set_cons_succ]
  refine wpAnyH_take (i := 10) (v := ?_) rfl (by kernel_rfl) (by kernel_rfl) (by kernel_rfl) (fun _ _ _ h => h) (Or.inl ⟨by rfl, ?_⟩) (by assumption) ?_
  rotate_left
  · (intro w hSw; (try dsimp only at hSw); go_simp; try with_reducible rfl)
  try simp only [List.getElem_toArray, List.getElem_cons_zero, List.getElem_cons_succ, Act.put, List.setIfInBounds_toArray, List.set_cons_zero, List.set_cons_succ]
  have c1 := (Ca.cell_row R3_W4.out 1).trans (show ((ps.setIfInBounds 0 (.int .u64 s)))[1]? = some (.int .u64 s) from by rw [Array.getElem?_setIfInBounds_ne (by decide)]; exact G1.out)
  have f1 := frozen_of_row W4 _ 1 _ _ R3_W4.out
  refine wpAnyH_ready (rs := [11]) (by kernel_rfl) (by simp) ?_
  refine AllReadyH.cons (o := _) rfl (fun K hK => ?_) AllReadyH.nil
  go_simp
  clear c1 f1
  have B_W5 : Hid (Below w.heap.size w (W4.setCell ⟨g3, 1, none⟩ (.int .u64 d))) := B_W4.out.setCell HG.out.1 _
  have R1_W5 : Hid ((W4.setCell ⟨g3, 1, none⟩ (.int .u64 d)).heap[w.heap.size]? = some (.cells ps 34 (0, 0))) := (Below.heap_setCell _ _ _ _ HG.out.2.1).trans R1_W4.out
  have R2_W5 : Hid ((W4.setCell ⟨g3, 1, none⟩ (.int .u64 d)).heap[w.heap.size + 1]? = some (.cells zeroPk 34 (0, 0))) := (Below.heap_setCell _ _ _ _ HG.out.2.2).trans R2_W4.out
  have R3_W5 : Hid ((W4.setCell ⟨g3, 1, none⟩ (.int .u64 d)).heap[g3]? = some (.cells ((ps.setIfInBounds 0 (.int .u64 s)).setIfInBounds 1 (.int .u64 d)) 34 (0, 0))) := Ca.row_setCell R3_W4.out 1 _
  obtain ⟨W5, hW⟩ : ∃ V, (W4.setCell ⟨g3, 1, none⟩ (.int .u64 d)) = V := ⟨_, rfl⟩
  rw [hW] at B_W5 R1_W5 R2_W5 R3_W5 ⊢
  clear hW B_W4 R1_W4 R2_W4 R3_W4
  refine hK _ _ R1_W5.out (fun hHeld => ?_)
  refine wpAnyH_done (by kernel_rfl) ?_ _
  clear hHeld
  try simp only [List.getElem_toArray, List.getElem_cons_zero, List.getElem_cons_succ, Act.put, List.setIfInBounds_toArray, List.set_cons_zero, List.set_cons_succ]
  go_wp2_with fail
  refine wp_region_held_drew (S := (fun W => W.heap[w.heap.size]? = some (.cells ps 34 (0, 0)))) (by kernel_rfl) R1_W5.out (fun hHeld => ?_)
  have B_W6 : Hid (Below w.heap.size w W5.drew) := B_W5.out.drew
  have R1_W6 : Hid (W5.drew.heap[w.heap.size]? = some (.cells ps 34 (0, 0))) := R1_W5.out
  have R2_W6 : Hid (W5.drew.heap[w.heap.size + 1]? = some (.cells zeroPk 34 (0, 0))) := R2_W5.out
  have R3_W6 : Hid (W5.drew.heap[g3]? = some (.cells ((ps.setIfInBounds 0 (.int .u64 s)).setIfInBounds 1 (.int .u64 d)) 34 (0, 0))) := R3_W5.out
  obtain ⟨W6, hW⟩ : ∃ V, W5.drew = V := ⟨_, rfl⟩
  rw [hW] at B_W6 R1_W6 R2_W6 R3_W6 hHeld ⊢
  clear hW B_W5 R1_W5 R2_W5 R3_W5
  refine wpAnyH_take (i := 0) (v := ?_) rfl (by kernel_rfl) (by kernel_rfl) (by kernel_rfl) (fun _ _ _ h => h) (Or.inl ⟨by rfl, ?_⟩) (by assumption) ?_
  rotate_left
  · (intro w hSw; (try dsimp only at hSw); go_simp; try with_reducible rfl)
  try simp only [List.getElem_toArray, List.getElem_cons_zero, List.getElem_cons_succ, Act.put, List.setIfInBounds_toArray, List.set_cons_zero, List.set_cons_succ]
  refine wpAnyH_take (i := 1) (v := ?_) rfl (by kernel_rfl) (by kernel_rfl) (by kernel_rfl) (fun _ _ _ h => h) (Or.inl ⟨by rfl, ?_⟩) (by assumption) ?_
  rotate_left
  · (intro w hSw; (try dsimp only at hSw); go_simp; try with_reducible rfl)
  try simp only [List.getElem_toArray, List.getElem_cons_zero, List.getElem_cons_succ, Act.put, List.setIfInBounds_toArray, List.set_cons_zero, List.set_cons_succ]
  refine wpAnyH_take (i := 2) (v := .int .u32 src) rfl (by kernel_rfl) (by kernel_rfl) (by kernel_rfl) (fun _ _ _ h => h) (Or.inl ⟨by rfl, fun W hW => by have c := (Ca.cell_row hW 17).trans G17.out; go_simp⟩) (by assumption) ?_
  try simp only [List.getElem_toArray, List.getElem_cons_zero, List.getElem_cons_succ, Act.put, List.setIfInBounds_toArray, List.set_cons_zero, List.set_cons_succ]
  refine wpAnyH_take (i := 3) (v := ?_) rfl (by kernel_rfl) (by kernel_rfl) (by kernel_rfl) (fun _ _ _ h => h) (Or.inl ⟨by rfl, ?_⟩) (by assumption) ?_
  rotate_left
  · (intro w hSw; (try dsimp only at hSw); go_simp; try with_reducible rfl)
  try simp only [List.getElem_toArray, List.getElem_cons_zero, List.getElem_cons_succ, Act.put, List.setIfInBounds_toArray, List.set_cons_zero, List.set_cons_succ]
  refine wpAnyH_take (i := 4) (v := ?_) rfl (by kernel_rfl) (by kernel_rfl) (by kernel_rfl) (fun _ _ _ h => h) (Or.inl ⟨by rfl, ?_⟩) (by assumption) ?_
  rotate_left
  · (intro w hSw; (try dsimp only at hSw); go_simp; try with_reducible rfl)
  try simp only [List.getElem_toArray, List.getElem_cons_zero, List.getElem_cons_succ, Act.put, List.setIfInBounds_toArray, List.set_cons_zero, List.set_cons_succ]
  refine wpAnyH_take (i := 5) (v := .int .u32 dst) rfl (by kernel_rfl) (by kernel_rfl) (by kernel_rfl) (fun _ _ _ h => h) (Or.inl ⟨by rfl, fun W hW => by have c := (Ca.cell_row hW 18).trans G18.out; go_simp⟩) (by assumption) ?_
  try simp only [List.getElem_toArray, List.getElem_cons_zero, List.getElem_cons_succ, Act.put, List.setIfInBounds_toArray, List.set_cons_zero, List.set_cons_succ]
  refine wpAnyH_take (i := 6) (v := ?_) rfl (by kernel_rfl) (by kernel_rfl) (by kernel_rfl) (fun _ _ _ h => h) (Or.inl ⟨by rfl, ?_⟩) (by assumption) ?_
  rotate_left
  · (intro w hSw; (try dsimp only at hSw); go_simp; try with_reducible rfl)
  try simp only [List.getElem_toArray, List.getElem_cons_zero, List.getElem_cons_succ, Act.put, List.setIfInBounds_toArray, List.set_cons_zero, List.set_cons_succ]
  refine wpAnyH_take (i := 7) (v := ?_) rfl (by kernel_rfl) (by kernel_rfl) (by kernel_rfl) (fun _ _ _ h => h) (Or.inl ⟨by rfl, ?_⟩) (by assumption) ?_
  rotate_left
  · (intro w hSw; (try dsimp only at hSw); go_simp; try with_reducible rfl)
  try simp only [List.getElem_toArray, List.getElem_cons_zero, List.getElem_cons_succ, Act.put, List.setIfInBounds_toArray, List.set_cons_zero, List.set_cons_succ]
  have c18 := (Ca.cell_row R3_W6.out 18).trans (show (((ps.setIfInBounds 0 (.int .u64 s)).setIfInBounds 1 (.int .u64 d)))[18]? = some (.int .u32 dst) from by rw [Array.getElem?_setIfInBounds_ne (by decide)]; rw [Array.getElem?_setIfInBounds_ne (by decide)]; exact G18.out)
  have f18 := frozen_of_row W6 _ 18 _ _ R3_W6.out
  refine wpAnyH_ready (rs := [8]) (by kernel_rfl) (by simp) ?_
  refine AllReadyH.cons (o := _) rfl (fun K hK => ?_) AllReadyH.nil
  go_simp
  clear c18 f18
  have B_W7 : Hid (Below w.heap.size w (W6.setCell ⟨g3, 18, none⟩ (.int .u32 src))) := B_W6.out.setCell HG.out.1 _
  have R1_W7 : Hid ((W6.setCell ⟨g3, 18, none⟩ (.int .u32 src)).heap[w.heap.size]? = some (.cells ps 34 (0, 0))) := (Below.heap_setCell _ _ _ _ HG.out.2.1).trans R1_W6.out
  have R2_W7 : Hid ((W6.setCell ⟨g3, 18, none⟩ (.int .u32 src)).heap[w.heap.size + 1]? = some (.cells zeroPk 34 (0, 0))) := (Below.heap_setCell _ _ _ _ HG.out.2.2).trans R2_W6.out
  have R3_W7 : Hid ((W6.setCell ⟨g3, 18, none⟩ (.int .u32 src)).heap[g3]? = some (.cells (((ps.setIfInBounds 0 (.int .u64 s)).setIfInBounds 1 (.int .u64 d)).setIfInBounds 18 (.int .u32 src)) 34 (0, 0))) := Ca.row_setCell R3_W6.out 18 _
  obtain ⟨W7, hW⟩ : ∃ V, (W6.setCell ⟨g3, 18, none⟩ (.int .u32 src)) = V := ⟨_, rfl⟩
  rw [hW] at B_W7 R1_W7 R2_W7 R3_W7 ⊢
  clear hW B_W6 R1_W6 R2_W6 R3_W6
  refine hK _ _ R1_W7.out (fun hHeld => ?_)
  try simp only [List.getElem_toArray, List.getElem_cons_zero, List.getElem_cons_succ, Act.put, List.setIfInBounds_toArray, List.set_cons_zero, List.set_cons_succ]
  refine wpAnyH_take (i := 9) (v := ?_) rfl (by kernel_rfl) (by kernel_rfl) (by kernel_rfl) (fun _ _ _ h => h) (Or.inl ⟨by rfl, ?_⟩) (by assumption) ?_
  rotate_left
  · (intro w hSw; (try dsimp only at hSw); go_simp; try with_reducible rfl)
  try simp only [List.getElem_toArray, List.getElem_cons_zero, List.getElem_cons_succ, Act.put, List.setIfInBounds_toArray, List.set_cons_zero, List.set_cons_succ]
  refine wpAnyH_take (i := 10) (v := ?_) rfl (by kernel_rfl) (by kernel_rfl) (by kernel_rfl) (fun _ _ _ h => h) (Or.inl ⟨by rfl, ?_⟩) (by assumption) ?_
  rotate_left
  · (intro w hSw; (try dsimp only at hSw); go_simp; try with_reducible rfl)
  try simp only [List.getElem_toArray, List.getElem_cons_zero, List.getElem_cons_succ, Act.put, List.setIfInBounds_toArray, List.set_cons_zero, List.set_cons_succ]
  have c17 := (Ca.cell_row R3_W7.out 17).trans (show ((((ps.setIfInBounds 0 (.int .u64 s)).setIfInBounds 1 (.int .u64 d)).setIfInBounds 18 (.int .u32 src)))[17]? = some (.int .u32 src) from by rw [Array.getElem?_setIfInBounds_ne (by decide)]; rw [Array.getElem?_setIfInBounds_ne (by decide)]; rw [Array.getElem?_setIfInBounds_ne (by decide)]; exact G17.out)
  have f17 := frozen_of_row W7 _ 17 _ _ R3_W7.out
  refine wpAnyH_ready (rs := [11]) (by kernel_rfl) (by simp) ?_
  refine AllReadyH.cons (o := _) rfl (fun K hK => ?_) AllReadyH.nil
  go_simp
  clear c17 f17
  have B_W8 : Hid (Below w.heap.size w (W7.setCell ⟨g3, 17, none⟩ (.int .u32 dst))) := B_W7.out.setCell HG.out.1 _
  have R1_W8 : Hid ((W7.setCell ⟨g3, 17, none⟩ (.int .u32 dst)).heap[w.heap.size]? = some (.cells ps 34 (0, 0))) := (Below.heap_setCell _ _ _ _ HG.out.2.1).trans R1_W7.out
  have R2_W8 : Hid ((W7.setCell ⟨g3, 17, none⟩ (.int .u32 dst)).heap[w.heap.size + 1]? = some (.cells zeroPk 34 (0, 0))) := (Below.heap_setCell _ _ _ _ HG.out.2.2).trans R2_W7.out
  have R3_W8 : Hid ((W7.setCell ⟨g3, 17, none⟩ (.int .u32 dst)).heap[g3]? = some (.cells ((((ps.setIfInBounds 0 (.int .u64 s)).setIfInBounds 1 (.int .u64 d)).setIfInBounds 18 (.int .u32 src)).setIfInBounds 17 (.int .u32 dst)) 34 (0, 0))) := Ca.row_setCell R3_W7.out 17 _
  obtain ⟨W8, hW⟩ : ∃ V, (W7.setCell ⟨g3, 17, none⟩ (.int .u32 dst)) = V := ⟨_, rfl⟩
  rw [hW] at B_W8 R1_W8 R2_W8 R3_W8 ⊢
  clear hW B_W7 R1_W7 R2_W7 R3_W7
  refine hK _ _ R1_W8.out (fun hHeld => ?_)
  try simp only [List.getElem_toArray, List.getElem_cons_zero, List.getElem_cons_succ, Act.put, List.setIfInBounds_toArray, List.set_cons_zero, List.set_cons_succ]
  refine wpAnyH_take (i := 12) (v := ?_) rfl (by kernel_rfl) (by kernel_rfl) (by kernel_rfl) (fun _ _ _ h => h) (Or.inl ⟨by rfl, ?_⟩) (by assumption) ?_
  rotate_left
  · (intro w hSw; (try dsimp only at hSw); go_simp; try with_reducible rfl)
  try simp only [List.getElem_toArray, List.getElem_cons_zero, List.getElem_cons_succ, Act.put, List.setIfInBounds_toArray, List.set_cons_zero, List.set_cons_succ]
  refine wpAnyH_take (i := 13) (v := ?_) rfl (by kernel_rfl) (by kernel_rfl) (by kernel_rfl) (fun _ _ _ h => h) (Or.inl ⟨by rfl, ?_⟩) (by assumption) ?_
  rotate_left
  · (intro w hSw; (try dsimp only at hSw); go_simp; try with_reducible rfl)
  try simp only [List.getElem_toArray, List.getElem_cons_zero, List.getElem_cons_succ, Act.put, List.setIfInBounds_toArray, List.set_cons_zero, List.set_cons_succ]
  have c15 := (Ca.cell_row R3_W8.out 15).trans (show (((((ps.setIfInBounds 0 (.int .u64 s)).setIfInBounds 1 (.int .u64 d)).setIfInBounds 18 (.int .u32 src)).setIfInBounds 17 (.int .u32 dst)))[15]? = some (.int .i64 ttl) from by rw [Array.getElem?_setIfInBounds_ne (by decide)]; rw [Array.getElem?_setIfInBounds_ne (by decide)]; rw [Array.getElem?_setIfInBounds_ne (by decide)]; rw [Array.getElem?_setIfInBounds_ne (by decide)]; exact G15.out)
  have f15 := frozen_of_row W8 _ 15 _ _ R3_W8.out
  refine wpAnyH_ready (rs := [14]) (by kernel_rfl) (by simp) ?_
  refine AllReadyH.cons (o := _) rfl (fun K hK => ?_) AllReadyH.nil
  go_simp
  clear c15 f15
  have B_W9 : Hid (Below w.heap.size w (W8.setCell ⟨g3, 15, none⟩ (.int .i64 64))) := B_W8.out.setCell HG.out.1 _
  have R1_W9 : Hid ((W8.setCell ⟨g3, 15, none⟩ (.int .i64 64)).heap[w.heap.size]? = some (.cells ps 34 (0, 0))) := (Below.heap_setCell _ _ _ _ HG.out.2.1).trans R1_W8.out
  have R2_W9 : Hid ((W8.setCell ⟨g3, 15, none⟩ (.int .i64 64)).heap[w.heap.size + 1]? = some (.cells zeroPk 34 (0, 0))) := (Below.heap_setCell _ _ _ _ HG.out.2.2).trans R2_W8.out
  have R3_W9 : Hid ((W8.setCell ⟨g3, 15, none⟩ (.int .i64 64)).heap[g3]? = some (.cells (((((ps.setIfInBounds 0 (.int .u64 s)).setIfInBounds 1 (.int .u64 d)).setIfInBounds 18 (.int .u32 src)).setIfInBounds 17 (.int .u32 dst)).setIfInBounds 15 (.int .i64 64)) 34 (0, 0))) := Ca.row_setCell R3_W8.out 15 _
  obtain ⟨W9, hW⟩ : ∃ V, (W8.setCell ⟨g3, 15, none⟩ (.int .i64 64)) = V := ⟨_, rfl⟩
  rw [hW] at B_W9 R1_W9 R2_W9 R3_W9 ⊢
  clear hW B_W8 R1_W8 R2_W8 R3_W8
  refine hK _ _ R1_W9.out (fun hHeld => ?_)
  refine wpAnyH_done (by kernel_rfl) ?_ _
  clear hHeld
  try simp only [List.getElem_toArray, List.getElem_cons_zero, List.getElem_cons_succ, Act.put, List.setIfInBounds_toArray, List.set_cons_zero, List.set_cons_succ]
  have c21 := (Ca.cell_row R3_W9.out 21).trans (show ((((((ps.setIfInBounds 0 (.int .u64 s)).setIfInBounds 1 (.int .u64 d)).setIfInBounds 18 (.int .u32 src)).setIfInBounds 17 (.int .u32 dst)).setIfInBounds 15 (.int .i64 64)))[21]? = some (.int .i64 8) from by rw [Array.getElem?_setIfInBounds_ne (by decide)]; rw [Array.getElem?_setIfInBounds_ne (by decide)]; rw [Array.getElem?_setIfInBounds_ne (by decide)]; rw [Array.getElem?_setIfInBounds_ne (by decide)]; rw [Array.getElem?_setIfInBounds_ne (by decide)]; exact G21.out)
  have f21 := frozen_of_row W9 _ 21 _ _ R3_W9.out
  go_wp2_with (show wpList _ _ _ ({ dst := some 58, op := _, type := _, pos := _, after := _, guard := _ } :: _) _ _; refine StopP.out ?_)
  clear c21 f21
  have B_V1 : Hid (Below w.heap.size w (W9.setCell ⟨g3, 21, none⟩ (.int .i64 0))) := B_W9.out.setCell HG.out.1 _
  have R1_V1 : Hid ((W9.setCell ⟨g3, 21, none⟩ (.int .i64 0)).heap[w.heap.size]? = some (.cells ps 34 (0, 0))) := (Below.heap_setCell _ _ _ _ HG.out.2.1).trans R1_W9.out
  have R2_V1 : Hid ((W9.setCell ⟨g3, 21, none⟩ (.int .i64 0)).heap[w.heap.size + 1]? = some (.cells zeroPk 34 (0, 0))) := (Below.heap_setCell _ _ _ _ HG.out.2.2).trans R2_W9.out
  have R3_V1 : Hid ((W9.setCell ⟨g3, 21, none⟩ (.int .i64 0)).heap[g3]? = some (.cells ((((((ps.setIfInBounds 0 (.int .u64 s)).setIfInBounds 1 (.int .u64 d)).setIfInBounds 18 (.int .u32 src)).setIfInBounds 17 (.int .u32 dst)).setIfInBounds 15 (.int .i64 64)).setIfInBounds 21 (.int .i64 0)) 34 (0, 0))) := Ca.row_setCell R3_W9.out 21 _
  obtain ⟨V1, hW⟩ : ∃ V, (W9.setCell ⟨g3, 21, none⟩ (.int .i64 0)) = V := ⟨_, rfl⟩
  rw [hW] at B_V1 R1_V1 R2_V1 R3_V1 ⊢
  clear hW B_W9 R1_W9 R2_W9 R3_W9
  refine StopP.mk ?_
  go_wp2_with (first
    | refine wpList_load_row rfl 34 _ rfl g3 rfl 34 (echoQ ps d s src dst) (0, 0) _ R3_V1.out Try.underlying34 rfl (info36 Zq.out) ?_
    | refine Ca.wpList_store_row rfl 34 _ _ rfl (w.heap.size + 1) zeroPk (echoQ ps d s src dst) 34 rfl rfl R2_V1.out (info36 Zq.out) (Eq.trans (b := 36) rfl Zq.out.symm) Oq.out ?_
    | fail)
  intro V9 y1 y2 y3 y4
  go_wp2
  exact bodyPost_ret (results_pk (p := 2) (u := 3) rfl _ _ (w.heap.size + 1) (echoQ ps d s src dst) rfl y1 Zq.out) rfl ⟨rfl, B_V1.out.trans (y4.mono (by omega))⟩
end Go.Proofs.Ytpiokeidcnbmbaa
/- The packet of lives: its bytes, and back. No condition. -/
namespace Go.Proofs.Ytpiokeidcnbmbaa
open Go.RowKit
set_option maxRecDepth 20000
def livePk : Array Value := #[.int .u64 1, .int .u64 2, .bool false, .int .i64 0, .int .i64 2048, .bool false, .int .i64 0, .int .u64 0, .int .u32 0, .int .u64 0, .int .u32 0, .bool true, .int .i64 0, .int .i64 0, .int .i64 0, .int .i64 9, .int .i64 1, .int .u32 167772161, .int .u32 167772162, .string (strOfNums []), .int .i64 1, .int .i64 8, .int .i64 0, .int .u32 458752, .int .i64 0, .int .i64 0, .bool false, .int .u32 0, .int .u32 0, .int .i64 0, .int .i64 0, .int .i64 0, .string (strOfNums []), .string (strOfNums [112, 105, 110, 103]), .string (strOfNums []), .string (strOfNums [112, 97, 100])]
def liveL : L4R := ⟨1, 8, 0, 458752, 0, 0, false, 0, 0, 0, 0, 0, [], [112, 105, 110, 103]⟩
theorem liveL_fine : liveL.Fine := ⟨by decide, by decide, by decide, fun i => by simp [liveL], fun i => by
  rcases i with _ | _ | _ | _ | i <;> simp [liveL], by decide⟩
theorem liveL_ok : liveL.ok = true := by decide +kernel
/-- The bytes of the IPv4 packet, and of the whole. -/
def liveE : List Int := liveL.enc 167772161 167772162
def liveI : List Int := Ip.ipB 0 0 0 9 1 167772161 167772162 [] 12
def liveB : List Int := Eth.headBytes 1 2 false 0 2048 ++ (liveI ++ liveE) ++ [] ++ [112, 97, 100]
theorem liveL_len : liveL.body.length = 12 := by decide +kernel
theorem live_eq (W : World) : (binOp .eql 34 (.agg livePk) (.agg livePk)).run Try.prog W = .ok (.bool true) W := by kernel_rfl
theorem live_form (w : World) : Calls Try.prog 28 #[.agg livePk] w fun e w' => e = .returned (.bool true) ∧ Below w.heap.size w w' :=
  form_ip livePk rfl 1 2 0 false 0 0 0 9 1 167772161 167772162 [] 1 8 0 458752 0 0 false 0 0 0 0 0 [] [112, 105, 110, 103] (strOfNums [112, 97, 100]) (by kernel_rfl) (by kernel_rfl) (by kernel_rfl) (by kernel_rfl) (by kernel_rfl) 1 true w
    (fun W => live_eq W) (fun W => kindOf_any 0 0 0 9 1 167772161 167772162 [] W)
theorem live_inner (w : World) : Calls Try.prog 30 #[.agg livePk] w fun e w' => ∃ a cap, e = .returned (.tuple #[.slice a 32 cap, .int .i64 0]) ∧ RB w w' (.slice a 32 cap) 32 (liveI ++ liveE) := by
  refine inner_ip livePk (by kernel_rfl) (by kernel_rfl) 0 0 0 9 1 167772161 167772162 [] 1 8 0 458752 0 0 false 0 0 0 0 0 [] [112, 105, 110, 103] (by kernel_rfl) (by kernel_rfl) 32 (liveI ++ liveE) w (fun W => ?_)
  refine printIp_ok 0 0 0 9 1 167772161 167772162 [] 1 8 0 458752 0 0 false 0 0 0 0 0 [] [112, 105, 110, 103] 12 20 liveE liveI (by omega) W (fun V => ?_) (fun V => ?_)
  · have := encode_ok liveL liveL_fine liveL_ok 167772161 167772162 (by omega) (by omega) V
    rw [liveL_len] at this
    exact this
  · exact Ip.encode_yes 0 0 0 9 1 167772161 167772162 [] 12 V (by omega) (by omega) (fun i => by simp) (by decide +kernel)
theorem fits_all {L : List Int} (h : L.all (fun z => decide (0 ≤ z ∧ z ≤ 255)) = true) : ∀ i, 0 ≤ L.getD i 0 ∧ L.getD i 0 ≤ 255 := by
  intro i
  by_cases hi : i < L.length
  · have := (List.all_eq_true.1 h) (L.getD i 0) (by simp [List.getD_eq_getElem?_getD, hi])
    simpa using this
  · simp [List.getD_eq_getElem?_getD, List.getElem?_eq_none (by omega : L.length ≤ i)]
theorem live_fits : ∀ i, 0 ≤ (liveI ++ liveE).getD i 0 ∧ (liveI ++ liveE).getD i 0 ≤ 255 := fits_all (by decide +kernel)
theorem live_print (w : World) : Calls Try.prog 11 #[.agg livePk] w fun e w' => ∃ a cap, e = .returned (.tuple #[.slice a 49 cap, .int .i64 0]) ∧ RB w w' (.slice a 49 cap) 49 liveB := by
  refine print_ok livePk rfl 1 2 0 2048 false (by kernel_rfl) [] [112, 97, 100] (by kernel_rfl) (by kernel_rfl) (fun i => by simp) (fun i => by rcases i with _ | _ | _ | i <;> simp) 14 32 (Eth.headBytes 1 2 false 0 2048) (liveI ++ liveE) live_fits (by decide) w (fun W => live_form W) (fun W => ?_) (fun W => live_inner W)
  have := Eth.encodeHead_plain 1 2 0 2048 W (by omega) (by omega) (by decide +kernel)
  rw [show (Eth.headBytes 1 2 false 0 2048).length = 14 by decide +kernel] at this
  exact this
end Go.Proofs.Ytpiokeidcnbmbaa
/- The packet of lives, read. No condition. -/
namespace Go.Proofs.Ytpiokeidcnbmbaa
open Go.RowKit
set_option maxRecDepth 20000
theorem live_mok : Ip.MOk (liveB.drop 14) ((49 - 14 : Nat) : Int) 20 := by
  constructor <;> decide +kernel
theorem live_dec : (liveB.drop 34).take (46 - 34) = liveE := by decide +kernel
theorem live_lenB : liveB.length = 49 := by decide +kernel
theorem live_parse (w : World) (b off cap : Nat) (h : BS w (some ⟨b, off, none⟩) 49 liveB) (hcap : 49 ≤ cap) (hm : cap ≤ 9223372036854775807) :
    Calls Try.prog 8 #[.slice (some ⟨b, off, none⟩) 49 cap] w fun e w' => e = .returned (.tuple #[.agg livePk, .int .i64 0]) ∧ Below w.heap.size w w' := by
  have := parse_ok14A w b off 49 cap 34 46 liveB h 20 32 rfl rfl (by omega) (by omega) (by omega) hcap (by omega) (by omega) 1 2 0 false 0 0 0 9 1 167772161 167772162 [] (by decide +kernel) 1 8 0 458752 0 0 false 0 0 0 0 0 [] [112, 105, 110, 103] (strOfNums [112, 97, 100]) (by kernel_rfl)
    (fun W hB => ?_) (fun W hB => ?_) (fun W hB => ?_)
  · exact this
  · have := Eth.head_plain W b off 49 cap liveB hB hcap hm (by omega) (by omega) (by decide +kernel)
    rw [show num (liveB.take 6) = 1 by decide +kernel, show num ((liveB.drop 6).take 6) = 2 by decide +kernel, show num ((liveB.drop 12).take 2) = 2048 by decide +kernel] at this
    exact this
  · have := (Ip.decode_any W (some ⟨b, off + 14, none⟩) (49 - 14) (cap - 14) (liveB.drop 14) hB (by omega)).2 20 live_mok
    rw [show (liveB.drop 14).getD 2 0 * 256 + (liveB.drop 14).getD 3 0 = 32 by decide +kernel, show Ip.ipF (liveB.drop 14) 20 = .agg #[.int .i64 0, .int .i64 0, .int .i64 0, .int .i64 9, .int .i64 1, .int .u32 167772161, .int .u32 167772162, .string (strOfNums [])] by kernel_rfl] at this
    exact this
  · have hE : BS W (some ⟨b, off + 34, none⟩) (46 - 34) liveE := by
      rw [← live_dec]
      exact (hB.drop (by omega) 34 (by omega)).take (46 - 34) (by omega)
    have := decode_any 167772161 167772162 1 (by omega) (by omega) (some ⟨b, off + 34, none⟩) (46 - 34) (cap - 34) liveE (by omega) (fun x e => ⟨b, off + 34, by cases e; rfl⟩) (fun e => by cases e) W hE
    have hd : decE 167772161 167772162 1 liveE = 0 ∧ decR 167772161 167772162 1 liveE = liveL := dec_own liveL_fine liveL_ok 167772161 167772162 (by omega) (by omega)
    rw [show kindV 1 = 1 from rfl, hd.1, hd.2] at this
    exact this
end Go.Proofs.Ytpiokeidcnbmbaa
/- lives of the laws of packet. No condition. -/
namespace Go.Proofs.Ytpiokeidcnbmbaa
open Go.RowKit
set_option maxRecDepth 20000
theorem echoType_8 (w : World) : Calls Try.prog 56 #[.int .i64 8] w fun e w' => e = .returned (.bool true) ∧ w' = w := by
  go_enter Try.func56, Try.ntmps56
  go_wp2
  go_ret
  exact ⟨rfl, rfl⟩
set_option maxHeartbeats 2000000 in
theorem live_ports (w : World) : Calls Try.prog 27 #[.agg livePk] w fun e w' => e = .returned (.tuple #[.int .i64 7, .int .i64 7]) ∧ Below w.heap.size w w' := by
  obtain ⟨ps, hps⟩ : ∃ p, livePk = p := ⟨_, rfl⟩
  have h11 : ps[11]? = some (.bool true) := by rw [← hps]; kernel_rfl
  have h20 : ps[20]? = some (.int .i64 1) := by rw [← hps]; kernel_rfl
  have h21 : ps[21]? = some (.int .i64 8) := by rw [← hps]; kernel_rfl
  have h23 : ps[23]? = some (.int .u32 458752) := by rw [← hps]; kernel_rfl
  rw [hps]
  clear hps
  go_enter Try.func27, Try.ntmps27
  go_wp2_with (go_at_call 56; refine (echoType_8 _).mono ?_; rintro e w' ⟨rfl, rfl⟩)
  go_ret2
  exact ⟨rfl, below1 w _⟩
theorem live_echo (w : World) : Calls Try.prog 15 #[.agg livePk] w fun e w' => e = .returned (.tuple #[.agg (echoQ livePk 1 2 167772161 167772162), .bool true]) ∧ Below w.heap.size w w' :=
  echo_3 livePk rfl (by kernel_rfl) 0 0 0 9 1 167772161 167772162 [] 1 8 0 458752 0 0 false 0 0 0 0 0 [] [112, 105, 110, 103] (by kernel_rfl) (by kernel_rfl) 1 2 (by kernel_rfl) (by decide +kernel) (by decide +kernel) (by kernel_rfl) (by kernel_rfl) (by kernel_rfl) (by kernel_rfl) (by kernel_rfl) (by kernel_rfl) w
end Go.Proofs.Ytpiokeidcnbmbaa
/- lives of the laws of packet. No condition. -/
namespace Go.Proofs.Ytpiokeidcnbmbaa
open Go.RowKit
set_option maxRecDepth 20000
theorem livePk_size : livePk.size = 36 := rfl
theorem livePk_one : livePk.all (·.oneCell') = true := by kernel_rfl
theorem liveB_fits : ∀ i, 0 ≤ liveB.getD i 0 ∧ liveB.getD i 0 ≤ 255 := fits_all (by decide +kernel)
set_option maxHeartbeats 4000000 in
theorem lives_any (w : World) : Calls Try.prog 10 #[] w fun e w' => e = .returned (.bool true) ∧ Below w.heap.size w w' := by
  have Zq : Hid ((echoQ livePk 1 2 167772161 167772162).size = 36) := echoQ_size livePk_size _ _ _ _
  have Oq : Hid ((echoQ livePk 1 2 167772161 167772162).all (·.oneCell') = true) := echoQ_one livePk_one _ _ _ _
  go_enter Try.func10, Try.ntmps10
  go_wp2_with (first
    | refine Ca.wpList_build_as rfl 34 _ rfl livePk (by rw [List.map_toArray]; kernel_rfl) ?_
    | refine Ca.wpList_store_new rfl 34 _ _ rfl zeroPk livePk _ rfl rfl rfl (info36 livePk_size) rfl livePk_one ?_
    | refine wpList_load_row rfl 34 _ rfl (w.heap.size) rfl 34 livePk (0, 0) _ (heap_alloc_new w _) Try.underlying34 rfl (info36 livePk_size) ?_
    | fail)
  refine (live_print _).mono ?_
  rintro e W1 ⟨a, cap, rfl, r1⟩
  have hb := r1.bel
  have hcc := own_caps r1.own
  obtain ⟨g, rfl, hg1, hg2⟩ := own_some r1.own (by omega)
  have H1 : Hid (BS W1 (some ⟨g, 0, none⟩) 49 liveB) := own_bs r1.own liveB_fits (by omega)
  have B_1 : Hid (Below w.heap.size w W1) := (below1 w _).trans (hb.mono (by simp))
  have R1_1 : Hid (W1.heap[w.heap.size]? = some (.cells livePk 34 (0, 0))) := (hb.block _ (Ca.lt_of_heap (heap_alloc_new w _))).trans (heap_alloc_new w _)
  clear hb r1 hg1 hg2
  go_wp2_with fail
  refine (live_parse _ g 0 cap H1.out hcc.1 hcc.2).mono ?_
  rintro e W2 ⟨rfl, hb⟩
  have B_2 : Hid (Below w.heap.size w W2) := B_1.out.trans (hb.mono B_1.out.size)
  have R1_2 : Hid (W2.heap[w.heap.size]? = some (.cells livePk 34 (0, 0))) := (hb.block _ (Ca.lt_of_heap R1_1.out)).trans R1_1.out
  have hlt2 : Hid (w.heap.size < W2.heap.size) := Ca.lt_of_heap R1_2.out
  have R1_3 : Hid ((W2.alloc (.cells livePk 34)).heap[w.heap.size]? = some (.cells livePk 34 (0, 0))) := (heap_alloc_old _ _ hlt2.out).trans R1_2.out
  clear hb B_1 R1_1 H1
  go_wp2_with (first
    | refine Ca.wpList_store_new rfl 34 _ _ rfl zeroPk livePk _ rfl rfl rfl (info36 livePk_size) rfl livePk_one ?_
    | refine wpList_load_row rfl 34 _ rfl (w.heap.size) rfl 34 livePk (0, 0) _ R1_3.out Try.underlying34 rfl (info36 livePk_size) ?_
    | fail)
  have B_3 : Hid (Below w.heap.size w (W2.alloc (.cells livePk 34))) := B_2.out.alloc B_2.out.size _
  have R4_3 : Hid ((W2.alloc (.cells livePk 34)).heap[W2.heap.size]? = some (.cells livePk 34 (0, 0))) := heap_alloc_new W2 _
  obtain ⟨W3, hW⟩ : ∃ V, W2.alloc (.cells livePk 34) = V := ⟨_, rfl⟩
  obtain ⟨g4, hg⟩ : ∃ g, W2.heap.size = g := ⟨_, rfl⟩
  rw [hW] at R1_3 B_3 R4_3 ⊢
  rw [hg] at R4_3 hlt2 ⊢
  clear hW hg B_2 R1_2
  refine (live_echo _).mono ?_
  rintro e W4 ⟨rfl, hb⟩
  have B_4 : Hid (Below w.heap.size w W4) := B_3.out.trans (hb.mono B_3.out.size)
  have R1_4 : Hid (W4.heap[w.heap.size]? = some (.cells livePk 34 (0, 0))) := (hb.block _ (Ca.lt_of_heap R1_3.out)).trans R1_3.out
  have R4_4 : Hid (W4.heap[g4]? = some (.cells livePk 34 (0, 0))) := (hb.block _ (Ca.lt_of_heap R4_3.out)).trans R4_3.out
  have R1_5 : Hid ((W4.alloc (.cells (echoQ livePk 1 2 167772161 167772162) 34)).heap[w.heap.size]? = some (.cells livePk 34 (0, 0))) := (heap_alloc_old _ _ (Ca.lt_of_heap R1_4.out)).trans R1_4.out
  have R4_5 : Hid ((W4.alloc (.cells (echoQ livePk 1 2 167772161 167772162) 34)).heap[g4]? = some (.cells livePk 34 (0, 0))) := (heap_alloc_old _ _ (Ca.lt_of_heap R4_4.out)).trans R4_4.out
  clear hb B_3 R1_3 R4_3
  go_wp2_with (first
    | refine Ca.wpList_store_new rfl 34 _ _ rfl zeroPk (echoQ livePk 1 2 167772161 167772162) _ rfl rfl rfl (info36 Zq.out) (Eq.trans (b := 36) rfl Zq.out.symm) Oq.out ?_
    | refine wpList_load_row rfl 34 _ rfl (w.heap.size) rfl 34 livePk (0, 0) _ R1_5.out Try.underlying34 rfl (info36 livePk_size) ?_
    | fail)
  have B_5 : Hid (Below w.heap.size w (W4.alloc (.cells (echoQ livePk 1 2 167772161 167772162) 34))) := B_4.out.alloc B_4.out.size _
  have R6_5 : Hid ((W4.alloc (.cells (echoQ livePk 1 2 167772161 167772162) 34)).heap[W4.heap.size]? = some (.cells (echoQ livePk 1 2 167772161 167772162) 34 (0, 0))) := heap_alloc_new W4 _
  obtain ⟨W5, hW⟩ : ∃ V, W4.alloc (.cells (echoQ livePk 1 2 167772161 167772162) 34) = V := ⟨_, rfl⟩
  obtain ⟨g6, hg⟩ : ∃ g, W4.heap.size = g := ⟨_, rfl⟩
  rw [hW] at R1_5 R4_5 B_5 R6_5 ⊢
  rw [hg] at R6_5 ⊢
  clear hW hg B_4 R1_4 R4_4
  refine (live_ports _).mono ?_
  rintro e W6 ⟨rfl, hb⟩
  have B_6 : Hid (Below w.heap.size w W6) := B_5.out.trans (hb.mono B_5.out.size)
  have R1_6 : Hid (W6.heap[w.heap.size]? = some (.cells livePk 34 (0, 0))) := (hb.block _ (Ca.lt_of_heap R1_5.out)).trans R1_5.out
  have R4_6 : Hid (W6.heap[g4]? = some (.cells livePk 34 (0, 0))) := (hb.block _ (Ca.lt_of_heap R4_5.out)).trans R4_5.out
  have R6_6 : Hid (W6.heap[g6]? = some (.cells (echoQ livePk 1 2 167772161 167772162) 34 (0, 0))) := (hb.block _ (Ca.lt_of_heap R6_5.out)).trans R6_5.out
  clear hb B_5 R1_5 R4_5 R6_5
  have c21 := (Ca.cell_row R6_6.out 21).trans (show _ = some (Value.int .i64 0) by kernel_rfl)
  have c18 := (Ca.cell_row R6_6.out 18).trans (show _ = some (Value.int .u32 167772161) by kernel_rfl)
  have hq := live_eq
  go_wp2_with (first
    | refine Ca.wpList_load_want (by rfl) 34 _ rfl (w.heap.size) rfl 34 livePk (0, 0) _ R1_6.out Try.underlying34 rfl (info36 livePk_size) ?_
    | refine Ca.wpList_load_want (by rfl) 34 _ rfl g4 rfl 34 livePk (0, 0) _ R4_6.out Try.underlying34 rfl (info36 livePk_size) ?_
    | fail)
  go_ret
  exact ⟨rfl, B_6.out⟩
end Go.Proofs.Ytpiokeidcnbmbaa
/- The walk of PacketEchoes, by what both Echoes answer. Conditions: as said. -/
namespace Go.Proofs.Ytpiokeidcnbmbaa
open Go.RowKit
set_option maxRecDepth 20000
set_option maxHeartbeats 4000000 in
theorem echoes_walk (ps q : Array Value) (hs : ps.size = 36) (hq : q.size = 36) (oq : q.all (·.oneCell') = true) (ok : Bool) (w : World)
    (HE : Hid (∀ W, Calls Try.prog 15 #[.agg ps] W fun e w' => e = .returned (.tuple #[.agg q, .bool ok]) ∧ Below W.heap.size W w'))
    (HR : Hid (∀ W, Calls Try.prog 16 #[.agg ps] W fun e w' => e = .returned (.tuple #[.agg q, .bool ok]) ∧ Below W.heap.size W w'))
    (HA : Hid (∀ W, Calls Try.prog 15 #[.agg q] W fun e w' => e = .returned (.tuple #[.agg zeroPk, .bool false]) ∧ Below W.heap.size W w'))
    (HN : Hid (∀ W, (binOp .neq 34 (.agg q) (.agg q)).run Try.prog W = .ok (.bool false) W)) :
    Calls Try.prog 6 #[.agg ps] w fun e w' => e = .returned (.bool true) ∧ Below w.heap.size w w' := by
  have HS : Hid (ps.size = 36) := hs
  have Zq : Hid (q.size = 36) := hq
  have Oq : Hid (q.all (·.oneCell') = true) := oq
  clear hs hq oq
  go_enter Try.func6, Try.ntmps6
  go_wp2_with (refine wpList_load_row rfl 34 _ rfl (w.heap.size) rfl 34 ps (0, 0) _ (heap_alloc_new w _) Try.underlying34 rfl (info36 HS.out) ?_)
  refine (HE.out _).mono ?_
  rintro e W2 ⟨rfl, hb⟩
  have B_2 : Hid (Below w.heap.size w W2) := (below1 w _).trans (hb.mono (by simp))
  have R1_2 : Hid (W2.heap[w.heap.size]? = some (.cells ps 34 (0, 0))) := (hb.block _ (Ca.lt_of_heap (heap_alloc_new w _))).trans (heap_alloc_new w _)
  have R1_3 : Hid ((W2.alloc (.cells q 34)).heap[w.heap.size]? = some (.cells ps 34 (0, 0))) := (heap_alloc_old _ _ (Ca.lt_of_heap R1_2.out)).trans R1_2.out
  clear hb HE
  go_wp2_with (first
    | refine Ca.wpList_store_new rfl 34 _ _ rfl zeroPk q _ rfl rfl rfl (info36 Zq.out) (Eq.trans (b := 36) rfl Zq.out.symm) Oq.out ?_
    | refine wpList_load_row rfl 34 _ rfl (w.heap.size) rfl 34 ps (0, 0) _ R1_3.out Try.underlying34 rfl (info36 HS.out) ?_
    | fail)
  have B_3 : Hid (Below w.heap.size w (W2.alloc (.cells q 34))) := B_2.out.alloc B_2.out.size _
  have R4_3 : Hid ((W2.alloc (.cells q 34)).heap[W2.heap.size]? = some (.cells q 34 (0, 0))) := heap_alloc_new W2 _
  obtain ⟨W3, hW⟩ : ∃ V, W2.alloc (.cells q 34) = V := ⟨_, rfl⟩
  obtain ⟨g4, hg⟩ : ∃ g, W2.heap.size = g := ⟨_, rfl⟩
  rw [hW] at B_3 R4_3 ⊢
  rw [hg] at R4_3 ⊢
  clear hW hg B_2 R1_2 R1_3
  refine (HR.out _).mono ?_
  rintro e W4 ⟨rfl, hb⟩
  have B_4 : Hid (Below w.heap.size w W4) := B_3.out.trans (hb.mono B_3.out.size)
  have R4_4 : Hid (W4.heap[g4]? = some (.cells q 34 (0, 0))) := (hb.block _ (Ca.lt_of_heap R4_3.out)).trans R4_3.out
  clear hb HR B_3 R4_3
  go_wp2_with (first
    | refine Ca.wpList_store_new rfl 34 _ _ rfl zeroPk q _ rfl rfl rfl (info36 Zq.out) (Eq.trans (b := 36) rfl Zq.out.symm) Oq.out ?_
    | fail)
  have B_5 : Hid (Below w.heap.size w (W4.alloc (.cells q 34))) := B_4.out.alloc B_4.out.size _
  have R4_5 : Hid ((W4.alloc (.cells q 34)).heap[g4]? = some (.cells q 34 (0, 0))) := (heap_alloc_old _ _ (Ca.lt_of_heap R4_4.out)).trans R4_4.out
  have R6_5 : Hid ((W4.alloc (.cells q 34)).heap[W4.heap.size]? = some (.cells q 34 (0, 0))) := heap_alloc_new W4 _
  obtain ⟨W5, hW⟩ : ∃ V, W4.alloc (.cells q 34) = V := ⟨_, rfl⟩
  obtain ⟨g6, hg⟩ : ∃ g, W4.heap.size = g := ⟨_, rfl⟩
  rw [hW] at B_5 R4_5 R6_5 ⊢
  rw [hg] at R6_5 ⊢
  clear hW hg B_4 R4_4
  refine (lives_any _).mono ?_
  rintro e W6 ⟨rfl, hb⟩
  have B_6 : Hid (Below w.heap.size w W6) := B_5.out.trans (hb.mono B_5.out.size)
  have R4_6 : Hid (W6.heap[g4]? = some (.cells q 34 (0, 0))) := (hb.block _ (Ca.lt_of_heap R4_5.out)).trans R4_5.out
  have R6_6 : Hid (W6.heap[g6]? = some (.cells q 34 (0, 0))) := (hb.block _ (Ca.lt_of_heap R6_5.out)).trans R6_5.out
  clear hb B_5 R4_5 R6_5
  have hq := HN.out
  have hok : (ok != ok) = false := by simp
  go_wp2_with (first
    | refine Ca.wpList_load_want (by rfl) 34 _ rfl g4 rfl 34 q (0, 0) _ R4_6.out Try.underlying34 rfl (info36 Zq.out) ?_
    | refine Ca.wpList_load_want (by rfl) 34 _ rfl g6 rfl 34 q (0, 0) _ R6_6.out Try.underlying34 rfl (info36 Zq.out) ?_
    | fail)
  clear hq hok
  refine (HA.out _).mono ?_
  rintro e W7 ⟨rfl, hb⟩
  have B_7 : Hid (Below w.heap.size w W7) := B_6.out.trans (hb.mono B_6.out.size)
  have B_8 : Hid (Below w.heap.size w (W7.alloc (.cells zeroPk 34))) := B_7.out.alloc B_7.out.size _
  clear hb HA B_6 R4_6 R6_6
  go_wp2_with (first
    | refine Ca.wpList_store_new rfl 34 _ _ rfl zeroPk zeroPk _ rfl rfl rfl (info36 zsize) rfl one36 ?_
    | fail)
  go_ret
  exact ⟨rfl, B_8.out⟩
end Go.Proofs.Ytpiokeidcnbmbaa
/- PacketEchoes of every packet. No condition beyond cells of their kinds. -/
namespace Go.Proofs.Ytpiokeidcnbmbaa
open Go.RowKit
set_option maxRecDepth 20000
theorem neq_zero (W : World) : (binOp .neq 34 (.agg zeroPk) (.agg zeroPk)).run Try.prog W = .ok (.bool false) W := by kernel_rfl
set_option maxHeartbeats 4000000 in
theorem neq_lit (d s tag et op sha spa tha tpa tos id fr ttl pr src dst k ty co re sp dp sq ak fl wi ur : Int) (tg ia ii ns : Bool) (io lo ds bd pd : List Int) (W : World) : (binOp .neq 34 (.agg #[.int .u64 d, .int .u64 s, .bool tg, .int .i64 tag, .int .i64 et, .bool ia, .int .i64 op, .int .u64 sha, .int .u32 spa, .int .u64 tha, .int .u32 tpa, .bool ii, .int .i64 tos, .int .i64 id, .int .i64 fr, .int .i64 ttl, .int .i64 pr, .int .u32 src, .int .u32 dst, .string (strOfNums io), .int .i64 k, .int .i64 ty, .int .i64 co, .int .u32 re, .int .i64 sp, .int .i64 dp, .bool ns, .int .u32 sq, .int .u32 ak, .int .i64 fl, .int .i64 wi, .int .i64 ur, .string (strOfNums lo), .string (strOfNums ds), .string (strOfNums bd), .string (strOfNums pd)]) (.agg #[.int .u64 d, .int .u64 s, .bool tg, .int .i64 tag, .int .i64 et, .bool ia, .int .i64 op, .int .u64 sha, .int .u32 spa, .int .u64 tha, .int .u32 tpa, .bool ii, .int .i64 tos, .int .i64 id, .int .i64 fr, .int .i64 ttl, .int .i64 pr, .int .u32 src, .int .u32 dst, .string (strOfNums io), .int .i64 k, .int .i64 ty, .int .i64 co, .int .u32 re, .int .i64 sp, .int .i64 dp, .bool ns, .int .u32 sq, .int .u32 ak, .int .i64 fl, .int .i64 wi, .int .i64 ur, .string (strOfNums lo), .string (strOfNums ds), .string (strOfNums bd), .string (strOfNums pd)])).run Try.prog W = .ok (.bool false) W := by
  simp [go_sem]
theorem echo_zero (W : World) : Calls Try.prog 15 #[.agg zeroPk] W fun e w' => e = .returned (.tuple #[.agg zeroPk, .bool false]) ∧ Below W.heap.size W w' := echo_0 zeroPk (by kernel_rfl) W
set_option maxHeartbeats 4000000 in
theorem echoes_any (d s tag et op sha spa tha tpa tos id fr ttl pr src dst k ty co re sp dp sq ak fl wi ur : Int) (tg ia ii ns : Bool) (io lo ds bd pd : List Int) (w : World) :
    Calls Try.prog 6 #[.agg #[.int .u64 d, .int .u64 s, .bool tg, .int .i64 tag, .int .i64 et, .bool ia, .int .i64 op, .int .u64 sha, .int .u32 spa, .int .u64 tha, .int .u32 tpa, .bool ii, .int .i64 tos, .int .i64 id, .int .i64 fr, .int .i64 ttl, .int .i64 pr, .int .u32 src, .int .u32 dst, .string (strOfNums io), .int .i64 k, .int .i64 ty, .int .i64 co, .int .u32 re, .int .i64 sp, .int .i64 dp, .bool ns, .int .u32 sq, .int .u32 ak, .int .i64 fl, .int .i64 wi, .int .i64 ur, .string (strOfNums lo), .string (strOfNums ds), .string (strOfNums bd), .string (strOfNums pd)]] w fun e w' => e = .returned (.bool true) ∧ Below w.heap.size w w' := by
  cases ii
  · exact echoes_walk _ zeroPk (by kernel_rfl) zsize one36 false w (fun W => echo_0 _ (by kernel_rfl) W) (fun W => recho_0 _ (by kernel_rfl) W) echo_zero neq_zero
  cases h1 : wholeB fr
  · exact echoes_walk _ zeroPk (by kernel_rfl) zsize one36 false w (fun W => echo_1 _ tos id fr ttl pr src dst io (by kernel_rfl) (by kernel_rfl) h1 W) (fun W => recho_1 _ tos id fr ttl pr src dst io (by kernel_rfl) (by kernel_rfl) h1 W) echo_zero neq_zero
  by_cases h20 : k = 1
  · subst h20
    by_cases h21 : ty = 8
    · subst h21
      by_cases h22 : co = 0
      · subst h22
        have HA := fun W => echo_2 (echoQ #[.int .u64 d, .int .u64 s, .bool tg, .int .i64 tag, .int .i64 et, .bool ia, .int .i64 op, .int .u64 sha, .int .u32 spa, .int .u64 tha, .int .u32 tpa, .bool true, .int .i64 tos, .int .i64 id, .int .i64 fr, .int .i64 ttl, .int .i64 pr, .int .u32 src, .int .u32 dst, .string (strOfNums io), .int .i64 1, .int .i64 8, .int .i64 0, .int .u32 re, .int .i64 sp, .int .i64 dp, .bool ns, .int .u32 sq, .int .u32 ak, .int .i64 fl, .int .i64 wi, .int .i64 ur, .string (strOfNums lo), .string (strOfNums ds), .string (strOfNums bd), .string (strOfNums pd)] d s src dst) (by kernel_rfl) (by kernel_rfl) tos id fr 64 pr dst src io 1 0 0 re sp dp ns sq ak fl wi ur lo ds (by kernel_rfl) (by kernel_rfl) (by kernel_rfl) h1 (by rfl) W
        have H3 := fun W => echo_3 #[.int .u64 d, .int .u64 s, .bool tg, .int .i64 tag, .int .i64 et, .bool ia, .int .i64 op, .int .u64 sha, .int .u32 spa, .int .u64 tha, .int .u32 tpa, .bool true, .int .i64 tos, .int .i64 id, .int .i64 fr, .int .i64 ttl, .int .i64 pr, .int .u32 src, .int .u32 dst, .string (strOfNums io), .int .i64 1, .int .i64 8, .int .i64 0, .int .u32 re, .int .i64 sp, .int .i64 dp, .bool ns, .int .u32 sq, .int .u32 ak, .int .i64 fl, .int .i64 wi, .int .i64 ur, .string (strOfNums lo), .string (strOfNums ds), .string (strOfNums bd), .string (strOfNums pd)] (by kernel_rfl) (by kernel_rfl) tos id fr ttl pr src dst io 1 8 0 re sp dp ns sq ak fl wi ur lo ds (by kernel_rfl) (by kernel_rfl) d s (by kernel_rfl) h1 (by rfl) (by kernel_rfl) (by kernel_rfl) (by kernel_rfl) (by kernel_rfl) (by kernel_rfl) (by kernel_rfl) W
        have R3 := fun W => recho_3 #[.int .u64 d, .int .u64 s, .bool tg, .int .i64 tag, .int .i64 et, .bool ia, .int .i64 op, .int .u64 sha, .int .u32 spa, .int .u64 tha, .int .u32 tpa, .bool true, .int .i64 tos, .int .i64 id, .int .i64 fr, .int .i64 ttl, .int .i64 pr, .int .u32 src, .int .u32 dst, .string (strOfNums io), .int .i64 1, .int .i64 8, .int .i64 0, .int .u32 re, .int .i64 sp, .int .i64 dp, .bool ns, .int .u32 sq, .int .u32 ak, .int .i64 fl, .int .i64 wi, .int .i64 ur, .string (strOfNums lo), .string (strOfNums ds), .string (strOfNums bd), .string (strOfNums pd)] tos id fr ttl pr src dst io (by kernel_rfl) (by kernel_rfl) (by kernel_rfl) (by kernel_rfl) d s h1 (by kernel_rfl) (by kernel_rfl) (by kernel_rfl) (by kernel_rfl) (by kernel_rfl) (by kernel_rfl) (by kernel_rfl) (by kernel_rfl) W
        have e : echoQ #[.int .u64 d, .int .u64 s, .bool tg, .int .i64 tag, .int .i64 et, .bool ia, .int .i64 op, .int .u64 sha, .int .u32 spa, .int .u64 tha, .int .u32 tpa, .bool true, .int .i64 tos, .int .i64 id, .int .i64 fr, .int .i64 ttl, .int .i64 pr, .int .u32 src, .int .u32 dst, .string (strOfNums io), .int .i64 1, .int .i64 8, .int .i64 0, .int .u32 re, .int .i64 sp, .int .i64 dp, .bool ns, .int .u32 sq, .int .u32 ak, .int .i64 fl, .int .i64 wi, .int .i64 ur, .string (strOfNums lo), .string (strOfNums ds), .string (strOfNums bd), .string (strOfNums pd)] d s src dst = #[.int .u64 s, .int .u64 d, .bool tg, .int .i64 tag, .int .i64 et, .bool ia, .int .i64 op, .int .u64 sha, .int .u32 spa, .int .u64 tha, .int .u32 tpa, .bool true, .int .i64 tos, .int .i64 id, .int .i64 fr, .int .i64 64, .int .i64 pr, .int .u32 dst, .int .u32 src, .string (strOfNums io), .int .i64 1, .int .i64 0, .int .i64 0, .int .u32 re, .int .i64 sp, .int .i64 dp, .bool ns, .int .u32 sq, .int .u32 ak, .int .i64 fl, .int .i64 wi, .int .i64 ur, .string (strOfNums lo), .string (strOfNums ds), .string (strOfNums bd), .string (strOfNums pd)] := by kernel_rfl
        have HN : ∀ W, (binOp .neq 34 (.agg (echoQ #[.int .u64 d, .int .u64 s, .bool tg, .int .i64 tag, .int .i64 et, .bool ia, .int .i64 op, .int .u64 sha, .int .u32 spa, .int .u64 tha, .int .u32 tpa, .bool true, .int .i64 tos, .int .i64 id, .int .i64 fr, .int .i64 ttl, .int .i64 pr, .int .u32 src, .int .u32 dst, .string (strOfNums io), .int .i64 1, .int .i64 8, .int .i64 0, .int .u32 re, .int .i64 sp, .int .i64 dp, .bool ns, .int .u32 sq, .int .u32 ak, .int .i64 fl, .int .i64 wi, .int .i64 ur, .string (strOfNums lo), .string (strOfNums ds), .string (strOfNums bd), .string (strOfNums pd)] d s src dst)) (.agg (echoQ #[.int .u64 d, .int .u64 s, .bool tg, .int .i64 tag, .int .i64 et, .bool ia, .int .i64 op, .int .u64 sha, .int .u32 spa, .int .u64 tha, .int .u32 tpa, .bool true, .int .i64 tos, .int .i64 id, .int .i64 fr, .int .i64 ttl, .int .i64 pr, .int .u32 src, .int .u32 dst, .string (strOfNums io), .int .i64 1, .int .i64 8, .int .i64 0, .int .u32 re, .int .i64 sp, .int .i64 dp, .bool ns, .int .u32 sq, .int .u32 ak, .int .i64 fl, .int .i64 wi, .int .i64 ur, .string (strOfNums lo), .string (strOfNums ds), .string (strOfNums bd), .string (strOfNums pd)] d s src dst))).run Try.prog W = .ok (.bool false) W := fun W => by
          rw [e]
          exact neq_lit s d tag et op sha spa tha tpa tos id fr 64 pr dst src 1 0 0 re sp dp sq ak fl wi ur tg ia true ns io lo ds bd pd W
        have Zq : (echoQ #[.int .u64 d, .int .u64 s, .bool tg, .int .i64 tag, .int .i64 et, .bool ia, .int .i64 op, .int .u64 sha, .int .u32 spa, .int .u64 tha, .int .u32 tpa, .bool true, .int .i64 tos, .int .i64 id, .int .i64 fr, .int .i64 ttl, .int .i64 pr, .int .u32 src, .int .u32 dst, .string (strOfNums io), .int .i64 1, .int .i64 8, .int .i64 0, .int .u32 re, .int .i64 sp, .int .i64 dp, .bool ns, .int .u32 sq, .int .u32 ak, .int .i64 fl, .int .i64 wi, .int .i64 ur, .string (strOfNums lo), .string (strOfNums ds), .string (strOfNums bd), .string (strOfNums pd)] d s src dst).size = 36 := echoQ_size (by kernel_rfl) d s src dst
        have Oq : (echoQ #[.int .u64 d, .int .u64 s, .bool tg, .int .i64 tag, .int .i64 et, .bool ia, .int .i64 op, .int .u64 sha, .int .u32 spa, .int .u64 tha, .int .u32 tpa, .bool true, .int .i64 tos, .int .i64 id, .int .i64 fr, .int .i64 ttl, .int .i64 pr, .int .u32 src, .int .u32 dst, .string (strOfNums io), .int .i64 1, .int .i64 8, .int .i64 0, .int .u32 re, .int .i64 sp, .int .i64 dp, .bool ns, .int .u32 sq, .int .u32 ak, .int .i64 fl, .int .i64 wi, .int .i64 ur, .string (strOfNums lo), .string (strOfNums ds), .string (strOfNums bd), .string (strOfNums pd)] d s src dst).all (·.oneCell') = true := echoQ_one (by kernel_rfl) d s src dst
        clear e
        obtain ⟨q, hq⟩ : ∃ q, echoQ #[.int .u64 d, .int .u64 s, .bool tg, .int .i64 tag, .int .i64 et, .bool ia, .int .i64 op, .int .u64 sha, .int .u32 spa, .int .u64 tha, .int .u32 tpa, .bool true, .int .i64 tos, .int .i64 id, .int .i64 fr, .int .i64 ttl, .int .i64 pr, .int .u32 src, .int .u32 dst, .string (strOfNums io), .int .i64 1, .int .i64 8, .int .i64 0, .int .u32 re, .int .i64 sp, .int .i64 dp, .bool ns, .int .u32 sq, .int .u32 ak, .int .i64 fl, .int .i64 wi, .int .i64 ur, .string (strOfNums lo), .string (strOfNums ds), .string (strOfNums bd), .string (strOfNums pd)] d s src dst = q := ⟨_, rfl⟩
        rw [hq] at H3 R3 HA HN Zq Oq
        clear hq
        refine echoes_walk _ q (by kernel_rfl) Zq Oq true w ?_ ?_ ?_ ?_
        · exact H3
        · exact R3
        · exact HA
        · exact HN
      · have e2 : askedB 1 8 co = false := by simp [askedB, h22]
        exact echoes_walk _ zeroPk (by kernel_rfl) zsize one36 false w (fun W => echo_2 _ (by kernel_rfl) (by kernel_rfl) tos id fr ttl pr src dst io 1 8 co re sp dp ns sq ak fl wi ur lo ds (by kernel_rfl) (by kernel_rfl) (by kernel_rfl) h1 e2 W) (fun W => recho_2c _ tos id fr ttl pr src dst io (by kernel_rfl) (by kernel_rfl) h1 1 (by kernel_rfl) 8 co (by kernel_rfl) (by kernel_rfl) (by rfl) (by rfl) (by simp [h22]) W) echo_zero neq_zero
    · have e2 : askedB 1 ty co = false := by simp [askedB, h21]
      exact echoes_walk _ zeroPk (by kernel_rfl) zsize one36 false w (fun W => echo_2 _ (by kernel_rfl) (by kernel_rfl) tos id fr ttl pr src dst io 1 ty co re sp dp ns sq ak fl wi ur lo ds (by kernel_rfl) (by kernel_rfl) (by kernel_rfl) h1 e2 W) (fun W => recho_2b _ tos id fr ttl pr src dst io (by kernel_rfl) (by kernel_rfl) h1 1 (by kernel_rfl) ty (by kernel_rfl) (by rfl) (by simp [h21]) W) echo_zero neq_zero
  · have e2 : askedB k ty co = false := by simp [askedB, h20]
    exact echoes_walk _ zeroPk (by kernel_rfl) zsize one36 false w (fun W => echo_2 _ (by kernel_rfl) (by kernel_rfl) tos id fr ttl pr src dst io k ty co re sp dp ns sq ak fl wi ur lo ds (by kernel_rfl) (by kernel_rfl) (by kernel_rfl) h1 e2 W) (fun W => recho_2a _ tos id fr ttl pr src dst io (by kernel_rfl) (by kernel_rfl) h1 k (by kernel_rfl) (by simp [h20]) W) echo_zero neq_zero
end Go.Proofs.Ytpiokeidcnbmbaa
/- Packets among a law's arguments. Laws of the frame; no condition. -/
namespace Go.Proofs.Ytpiokeidcnbmbaa.Ca
open Go.ChangeShapes Go.WideShapes Go.ChangeAt Go.RowKit
def OU64 (v : Value) : Prop := ∃ x, v = .int .u64 x ∧ 0 ≤ x ∧ x ≤ 18446744073709551615
def OI64 (v : Value) : Prop := ∃ x, v = .int .i64 x ∧ -9223372036854775808 ≤ x ∧ x ≤ 9223372036854775807
def OU32 (v : Value) : Prop := ∃ x, v = .int .u32 x ∧ 0 ≤ x ∧ x ≤ 4294967295
def OBool (v : Value) : Prop := ∃ x, v = .bool x
def OStr (v : Value) : Prop := ∃ x, v = .string x
theorem cells_u64 : Try.prog.cellsOf 23 = 1 := by kernel_rfl
theorem cells_i64 : Try.prog.cellsOf 3 = 1 := by kernel_rfl
theorem cells_u32 : Try.prog.cellsOf 26 = 1 := by kernel_rfl
theorem cells_b : Try.prog.cellsOf 4 = 1 := by kernel_rfl
theorem cells_s : Try.prog.cellsOf 9 = 1 := by kernel_rfl
theorem cells_eth : Try.prog.cellsOf 25 = 5 := by kernel_rfl
theorem cells_arp : Try.prog.cellsOf 28 = 5 := by kernel_rfl
theorem cells_ip : Try.prog.cellsOf 30 = 8 := by kernel_rfl
theorem cells_l4 : Try.prog.cellsOf 32 = 14 := by kernel_rfl
theorem cells_packet : Try.prog.cellsOf 34 = 36 := by kernel_rfl
section
variable {H : Type} {enc : TypeId × Value → H} {W : World} {n : Nat} {c : Value} {y : DataW H × List MemPlace}
theorem leaf_u64 (g : DataW.trod enc Try.prog W 0 (fun _ => true) true n 23 [c] = some y) : OU64 c := by
  obtain ⟨x, e, _, w⟩ := DataW.trod_int Try.underlying23 g
  simp at e; subst e
  exact ⟨x, rfl, bounds_u64 w⟩
theorem leaf_i64 (g : DataW.trod enc Try.prog W 0 (fun _ => true) true n 3 [c] = some y) : OI64 c := by
  obtain ⟨x, e, _, w⟩ := DataW.trod_int Try.underlying3 g
  simp at e; subst e
  exact ⟨x, rfl, bounds_i64 w⟩
theorem leaf_u32 (g : DataW.trod enc Try.prog W 0 (fun _ => true) true n 26 [c] = some y) : OU32 c := by
  obtain ⟨x, e, _, w⟩ := DataW.trod_int Try.underlying26 g
  simp at e; subst e
  exact ⟨x, rfl, bounds_u32 w⟩
theorem leaf_b (g : DataW.trod enc Try.prog W 0 (fun _ => true) true n 4 [c] = some y) : OBool c := by
  obtain ⟨x, e, _⟩ := DataW.trod_bool Try.underlying4 g
  simp at e; subst e
  exact ⟨x, rfl⟩
theorem leaf_s (g : DataW.trod enc Try.prog W 0 (fun _ => true) true n 9 [c] = some y) : OStr c := by
  obtain ⟨x, e, _⟩ := DataW.trod_string Try.underlying9 g
  simp at e; subst e
  exact ⟨x, rfl⟩
theorem open_eth {c0v c1v c2v c3v c4v : Value} (g : DataW.trod enc Try.prog W 0 (fun _ => true) true n 25 [c0v, c1v, c2v, c3v, c4v] = some y) : OU64 c0v ∧ OU64 c1v ∧ OBool c2v ∧ OI64 c3v ∧ OI64 c4v := by
  obtain ⟨xs, m, _, _, _, hlen, hf⟩ := DataW.trod_struct Try.underlying25 g
  match xs, hlen with
  | [y0, y1, y2, y3, y4], _ =>
    have g0 : DataW.trod enc Try.prog W 0 (fun _ => true) true m 23 (([c0v, c1v, c2v, c3v, c4v].drop 0).take (Try.prog.cellsOf 23)) = some y0 := hf 0 _ rfl
    rw [cells_u64] at g0
    have g1 : DataW.trod enc Try.prog W 0 (fun _ => true) true m 23 (([c0v, c1v, c2v, c3v, c4v].drop 1).take (Try.prog.cellsOf 23)) = some y1 := hf 1 _ rfl
    rw [cells_u64] at g1
    have g2 : DataW.trod enc Try.prog W 0 (fun _ => true) true m 4 (([c0v, c1v, c2v, c3v, c4v].drop 2).take (Try.prog.cellsOf 4)) = some y2 := hf 2 _ rfl
    rw [cells_b] at g2
    have g3 : DataW.trod enc Try.prog W 0 (fun _ => true) true m 3 (([c0v, c1v, c2v, c3v, c4v].drop 3).take (Try.prog.cellsOf 3)) = some y3 := hf 3 _ rfl
    rw [cells_i64] at g3
    have g4 : DataW.trod enc Try.prog W 0 (fun _ => true) true m 3 (([c0v, c1v, c2v, c3v, c4v].drop 4).take (Try.prog.cellsOf 3)) = some y4 := hf 4 _ rfl
    rw [cells_i64] at g4
    exact ⟨leaf_u64 g0, leaf_u64 g1, leaf_b g2, leaf_i64 g3, leaf_i64 g4⟩
theorem open_arp {c0v c1v c2v c3v c4v : Value} (g : DataW.trod enc Try.prog W 0 (fun _ => true) true n 28 [c0v, c1v, c2v, c3v, c4v] = some y) : OI64 c0v ∧ OU64 c1v ∧ OU32 c2v ∧ OU64 c3v ∧ OU32 c4v := by
  obtain ⟨xs, m, _, _, _, hlen, hf⟩ := DataW.trod_struct Try.underlying28 g
  match xs, hlen with
  | [y0, y1, y2, y3, y4], _ =>
    have g0 : DataW.trod enc Try.prog W 0 (fun _ => true) true m 3 (([c0v, c1v, c2v, c3v, c4v].drop 0).take (Try.prog.cellsOf 3)) = some y0 := hf 0 _ rfl
    rw [cells_i64] at g0
    have g1 : DataW.trod enc Try.prog W 0 (fun _ => true) true m 23 (([c0v, c1v, c2v, c3v, c4v].drop 1).take (Try.prog.cellsOf 23)) = some y1 := hf 1 _ rfl
    rw [cells_u64] at g1
    have g2 : DataW.trod enc Try.prog W 0 (fun _ => true) true m 26 (([c0v, c1v, c2v, c3v, c4v].drop 2).take (Try.prog.cellsOf 26)) = some y2 := hf 2 _ rfl
    rw [cells_u32] at g2
    have g3 : DataW.trod enc Try.prog W 0 (fun _ => true) true m 23 (([c0v, c1v, c2v, c3v, c4v].drop 3).take (Try.prog.cellsOf 23)) = some y3 := hf 3 _ rfl
    rw [cells_u64] at g3
    have g4 : DataW.trod enc Try.prog W 0 (fun _ => true) true m 26 (([c0v, c1v, c2v, c3v, c4v].drop 4).take (Try.prog.cellsOf 26)) = some y4 := hf 4 _ rfl
    rw [cells_u32] at g4
    exact ⟨leaf_i64 g0, leaf_u64 g1, leaf_u32 g2, leaf_u64 g3, leaf_u32 g4⟩
theorem open_ip {c0v c1v c2v c3v c4v c5v c6v c7v : Value} (g : DataW.trod enc Try.prog W 0 (fun _ => true) true n 30 [c0v, c1v, c2v, c3v, c4v, c5v, c6v, c7v] = some y) : OI64 c0v ∧ OI64 c1v ∧ OI64 c2v ∧ OI64 c3v ∧ OI64 c4v ∧ OU32 c5v ∧ OU32 c6v ∧ OStr c7v := by
  obtain ⟨xs, m, _, _, _, hlen, hf⟩ := DataW.trod_struct Try.underlying30 g
  match xs, hlen with
  | [y0, y1, y2, y3, y4, y5, y6, y7], _ =>
    have g0 : DataW.trod enc Try.prog W 0 (fun _ => true) true m 3 (([c0v, c1v, c2v, c3v, c4v, c5v, c6v, c7v].drop 0).take (Try.prog.cellsOf 3)) = some y0 := hf 0 _ rfl
    rw [cells_i64] at g0
    have g1 : DataW.trod enc Try.prog W 0 (fun _ => true) true m 3 (([c0v, c1v, c2v, c3v, c4v, c5v, c6v, c7v].drop 1).take (Try.prog.cellsOf 3)) = some y1 := hf 1 _ rfl
    rw [cells_i64] at g1
    have g2 : DataW.trod enc Try.prog W 0 (fun _ => true) true m 3 (([c0v, c1v, c2v, c3v, c4v, c5v, c6v, c7v].drop 2).take (Try.prog.cellsOf 3)) = some y2 := hf 2 _ rfl
    rw [cells_i64] at g2
    have g3 : DataW.trod enc Try.prog W 0 (fun _ => true) true m 3 (([c0v, c1v, c2v, c3v, c4v, c5v, c6v, c7v].drop 3).take (Try.prog.cellsOf 3)) = some y3 := hf 3 _ rfl
    rw [cells_i64] at g3
    have g4 : DataW.trod enc Try.prog W 0 (fun _ => true) true m 3 (([c0v, c1v, c2v, c3v, c4v, c5v, c6v, c7v].drop 4).take (Try.prog.cellsOf 3)) = some y4 := hf 4 _ rfl
    rw [cells_i64] at g4
    have g5 : DataW.trod enc Try.prog W 0 (fun _ => true) true m 26 (([c0v, c1v, c2v, c3v, c4v, c5v, c6v, c7v].drop 5).take (Try.prog.cellsOf 26)) = some y5 := hf 5 _ rfl
    rw [cells_u32] at g5
    have g6 : DataW.trod enc Try.prog W 0 (fun _ => true) true m 26 (([c0v, c1v, c2v, c3v, c4v, c5v, c6v, c7v].drop 6).take (Try.prog.cellsOf 26)) = some y6 := hf 6 _ rfl
    rw [cells_u32] at g6
    have g7 : DataW.trod enc Try.prog W 0 (fun _ => true) true m 9 (([c0v, c1v, c2v, c3v, c4v, c5v, c6v, c7v].drop 7).take (Try.prog.cellsOf 9)) = some y7 := hf 7 _ rfl
    rw [cells_s] at g7
    exact ⟨leaf_i64 g0, leaf_i64 g1, leaf_i64 g2, leaf_i64 g3, leaf_i64 g4, leaf_u32 g5, leaf_u32 g6, leaf_s g7⟩
theorem open_l4 {c0v c1v c2v c3v c4v c5v c6v c7v c8v c9v c10v c11v c12v c13v : Value} (g : DataW.trod enc Try.prog W 0 (fun _ => true) true n 32 [c0v, c1v, c2v, c3v, c4v, c5v, c6v, c7v, c8v, c9v, c10v, c11v, c12v, c13v] = some y) : OI64 c0v ∧ OI64 c1v ∧ OI64 c2v ∧ OU32 c3v ∧ OI64 c4v ∧ OI64 c5v ∧ OBool c6v ∧ OU32 c7v ∧ OU32 c8v ∧ OI64 c9v ∧ OI64 c10v ∧ OI64 c11v ∧ OStr c12v ∧ OStr c13v := by
  obtain ⟨xs, m, _, _, _, hlen, hf⟩ := DataW.trod_struct Try.underlying32 g
  match xs, hlen with
  | [y0, y1, y2, y3, y4, y5, y6, y7, y8, y9, y10, y11, y12, y13], _ =>
    have g0 : DataW.trod enc Try.prog W 0 (fun _ => true) true m 3 (([c0v, c1v, c2v, c3v, c4v, c5v, c6v, c7v, c8v, c9v, c10v, c11v, c12v, c13v].drop 0).take (Try.prog.cellsOf 3)) = some y0 := hf 0 _ rfl
    rw [cells_i64] at g0
    have g1 : DataW.trod enc Try.prog W 0 (fun _ => true) true m 3 (([c0v, c1v, c2v, c3v, c4v, c5v, c6v, c7v, c8v, c9v, c10v, c11v, c12v, c13v].drop 1).take (Try.prog.cellsOf 3)) = some y1 := hf 1 _ rfl
    rw [cells_i64] at g1
    have g2 : DataW.trod enc Try.prog W 0 (fun _ => true) true m 3 (([c0v, c1v, c2v, c3v, c4v, c5v, c6v, c7v, c8v, c9v, c10v, c11v, c12v, c13v].drop 2).take (Try.prog.cellsOf 3)) = some y2 := hf 2 _ rfl
    rw [cells_i64] at g2
    have g3 : DataW.trod enc Try.prog W 0 (fun _ => true) true m 26 (([c0v, c1v, c2v, c3v, c4v, c5v, c6v, c7v, c8v, c9v, c10v, c11v, c12v, c13v].drop 3).take (Try.prog.cellsOf 26)) = some y3 := hf 3 _ rfl
    rw [cells_u32] at g3
    have g4 : DataW.trod enc Try.prog W 0 (fun _ => true) true m 3 (([c0v, c1v, c2v, c3v, c4v, c5v, c6v, c7v, c8v, c9v, c10v, c11v, c12v, c13v].drop 4).take (Try.prog.cellsOf 3)) = some y4 := hf 4 _ rfl
    rw [cells_i64] at g4
    have g5 : DataW.trod enc Try.prog W 0 (fun _ => true) true m 3 (([c0v, c1v, c2v, c3v, c4v, c5v, c6v, c7v, c8v, c9v, c10v, c11v, c12v, c13v].drop 5).take (Try.prog.cellsOf 3)) = some y5 := hf 5 _ rfl
    rw [cells_i64] at g5
    have g6 : DataW.trod enc Try.prog W 0 (fun _ => true) true m 4 (([c0v, c1v, c2v, c3v, c4v, c5v, c6v, c7v, c8v, c9v, c10v, c11v, c12v, c13v].drop 6).take (Try.prog.cellsOf 4)) = some y6 := hf 6 _ rfl
    rw [cells_b] at g6
    have g7 : DataW.trod enc Try.prog W 0 (fun _ => true) true m 26 (([c0v, c1v, c2v, c3v, c4v, c5v, c6v, c7v, c8v, c9v, c10v, c11v, c12v, c13v].drop 7).take (Try.prog.cellsOf 26)) = some y7 := hf 7 _ rfl
    rw [cells_u32] at g7
    have g8 : DataW.trod enc Try.prog W 0 (fun _ => true) true m 26 (([c0v, c1v, c2v, c3v, c4v, c5v, c6v, c7v, c8v, c9v, c10v, c11v, c12v, c13v].drop 8).take (Try.prog.cellsOf 26)) = some y8 := hf 8 _ rfl
    rw [cells_u32] at g8
    have g9 : DataW.trod enc Try.prog W 0 (fun _ => true) true m 3 (([c0v, c1v, c2v, c3v, c4v, c5v, c6v, c7v, c8v, c9v, c10v, c11v, c12v, c13v].drop 9).take (Try.prog.cellsOf 3)) = some y9 := hf 9 _ rfl
    rw [cells_i64] at g9
    have g10 : DataW.trod enc Try.prog W 0 (fun _ => true) true m 3 (([c0v, c1v, c2v, c3v, c4v, c5v, c6v, c7v, c8v, c9v, c10v, c11v, c12v, c13v].drop 10).take (Try.prog.cellsOf 3)) = some y10 := hf 10 _ rfl
    rw [cells_i64] at g10
    have g11 : DataW.trod enc Try.prog W 0 (fun _ => true) true m 3 (([c0v, c1v, c2v, c3v, c4v, c5v, c6v, c7v, c8v, c9v, c10v, c11v, c12v, c13v].drop 11).take (Try.prog.cellsOf 3)) = some y11 := hf 11 _ rfl
    rw [cells_i64] at g11
    have g12 : DataW.trod enc Try.prog W 0 (fun _ => true) true m 9 (([c0v, c1v, c2v, c3v, c4v, c5v, c6v, c7v, c8v, c9v, c10v, c11v, c12v, c13v].drop 12).take (Try.prog.cellsOf 9)) = some y12 := hf 12 _ rfl
    rw [cells_s] at g12
    have g13 : DataW.trod enc Try.prog W 0 (fun _ => true) true m 9 (([c0v, c1v, c2v, c3v, c4v, c5v, c6v, c7v, c8v, c9v, c10v, c11v, c12v, c13v].drop 13).take (Try.prog.cellsOf 9)) = some y13 := hf 13 _ rfl
    rw [cells_s] at g13
    exact ⟨leaf_i64 g0, leaf_i64 g1, leaf_i64 g2, leaf_u32 g3, leaf_i64 g4, leaf_i64 g5, leaf_b g6, leaf_u32 g7, leaf_u32 g8, leaf_i64 g9, leaf_i64 g10, leaf_i64 g11, leaf_s g12, leaf_s g13⟩
theorem open_packet {c0v c1v c2v c3v c4v c5v c6v c7v c8v c9v c10v c11v c12v c13v c14v c15v c16v c17v c18v c19v c20v c21v c22v c23v c24v c25v c26v c27v c28v c29v c30v c31v c32v c33v c34v c35v : Value} (g : DataW.trod enc Try.prog W 0 (fun _ => true) true n 34 [c0v, c1v, c2v, c3v, c4v, c5v, c6v, c7v, c8v, c9v, c10v, c11v, c12v, c13v, c14v, c15v, c16v, c17v, c18v, c19v, c20v, c21v, c22v, c23v, c24v, c25v, c26v, c27v, c28v, c29v, c30v, c31v, c32v, c33v, c34v, c35v] = some y) : OU64 c0v ∧ OU64 c1v ∧ OBool c2v ∧ OI64 c3v ∧ OI64 c4v ∧ OBool c5v ∧ OI64 c6v ∧ OU64 c7v ∧ OU32 c8v ∧ OU64 c9v ∧ OU32 c10v ∧ OBool c11v ∧ OI64 c12v ∧ OI64 c13v ∧ OI64 c14v ∧ OI64 c15v ∧ OI64 c16v ∧ OU32 c17v ∧ OU32 c18v ∧ OStr c19v ∧ OI64 c20v ∧ OI64 c21v ∧ OI64 c22v ∧ OU32 c23v ∧ OI64 c24v ∧ OI64 c25v ∧ OBool c26v ∧ OU32 c27v ∧ OU32 c28v ∧ OI64 c29v ∧ OI64 c30v ∧ OI64 c31v ∧ OStr c32v ∧ OStr c33v ∧ OStr c34v ∧ OStr c35v := by
  obtain ⟨xs, m, _, _, _, hlen, hf⟩ := DataW.trod_struct Try.underlying34 g
  match xs, hlen with
  | [y0, y1, y2, y3, y4, y5, y6, y7], _ =>
    have g0 : DataW.trod enc Try.prog W 0 (fun _ => true) true m 25 (([c0v, c1v, c2v, c3v, c4v, c5v, c6v, c7v, c8v, c9v, c10v, c11v, c12v, c13v, c14v, c15v, c16v, c17v, c18v, c19v, c20v, c21v, c22v, c23v, c24v, c25v, c26v, c27v, c28v, c29v, c30v, c31v, c32v, c33v, c34v, c35v].drop 0).take (Try.prog.cellsOf 25)) = some y0 := hf 0 _ rfl
    rw [cells_eth] at g0
    have q0 := open_eth g0
    have g1 : DataW.trod enc Try.prog W 0 (fun _ => true) true m 4 (([c0v, c1v, c2v, c3v, c4v, c5v, c6v, c7v, c8v, c9v, c10v, c11v, c12v, c13v, c14v, c15v, c16v, c17v, c18v, c19v, c20v, c21v, c22v, c23v, c24v, c25v, c26v, c27v, c28v, c29v, c30v, c31v, c32v, c33v, c34v, c35v].drop 5).take (Try.prog.cellsOf 4)) = some y1 := hf 1 _ rfl
    rw [cells_b] at g1
    have g2 : DataW.trod enc Try.prog W 0 (fun _ => true) true m 28 (([c0v, c1v, c2v, c3v, c4v, c5v, c6v, c7v, c8v, c9v, c10v, c11v, c12v, c13v, c14v, c15v, c16v, c17v, c18v, c19v, c20v, c21v, c22v, c23v, c24v, c25v, c26v, c27v, c28v, c29v, c30v, c31v, c32v, c33v, c34v, c35v].drop 6).take (Try.prog.cellsOf 28)) = some y2 := hf 2 _ rfl
    rw [cells_arp] at g2
    have q2 := open_arp g2
    have g3 : DataW.trod enc Try.prog W 0 (fun _ => true) true m 4 (([c0v, c1v, c2v, c3v, c4v, c5v, c6v, c7v, c8v, c9v, c10v, c11v, c12v, c13v, c14v, c15v, c16v, c17v, c18v, c19v, c20v, c21v, c22v, c23v, c24v, c25v, c26v, c27v, c28v, c29v, c30v, c31v, c32v, c33v, c34v, c35v].drop 11).take (Try.prog.cellsOf 4)) = some y3 := hf 3 _ rfl
    rw [cells_b] at g3
    have g4 : DataW.trod enc Try.prog W 0 (fun _ => true) true m 30 (([c0v, c1v, c2v, c3v, c4v, c5v, c6v, c7v, c8v, c9v, c10v, c11v, c12v, c13v, c14v, c15v, c16v, c17v, c18v, c19v, c20v, c21v, c22v, c23v, c24v, c25v, c26v, c27v, c28v, c29v, c30v, c31v, c32v, c33v, c34v, c35v].drop 12).take (Try.prog.cellsOf 30)) = some y4 := hf 4 _ rfl
    rw [cells_ip] at g4
    have q4 := open_ip g4
    have g5 : DataW.trod enc Try.prog W 0 (fun _ => true) true m 32 (([c0v, c1v, c2v, c3v, c4v, c5v, c6v, c7v, c8v, c9v, c10v, c11v, c12v, c13v, c14v, c15v, c16v, c17v, c18v, c19v, c20v, c21v, c22v, c23v, c24v, c25v, c26v, c27v, c28v, c29v, c30v, c31v, c32v, c33v, c34v, c35v].drop 20).take (Try.prog.cellsOf 32)) = some y5 := hf 5 _ rfl
    rw [cells_l4] at g5
    have q5 := open_l4 g5
    have g6 : DataW.trod enc Try.prog W 0 (fun _ => true) true m 9 (([c0v, c1v, c2v, c3v, c4v, c5v, c6v, c7v, c8v, c9v, c10v, c11v, c12v, c13v, c14v, c15v, c16v, c17v, c18v, c19v, c20v, c21v, c22v, c23v, c24v, c25v, c26v, c27v, c28v, c29v, c30v, c31v, c32v, c33v, c34v, c35v].drop 34).take (Try.prog.cellsOf 9)) = some y6 := hf 6 _ rfl
    rw [cells_s] at g6
    have g7 : DataW.trod enc Try.prog W 0 (fun _ => true) true m 9 (([c0v, c1v, c2v, c3v, c4v, c5v, c6v, c7v, c8v, c9v, c10v, c11v, c12v, c13v, c14v, c15v, c16v, c17v, c18v, c19v, c20v, c21v, c22v, c23v, c24v, c25v, c26v, c27v, c28v, c29v, c30v, c31v, c32v, c33v, c34v, c35v].drop 35).take (Try.prog.cellsOf 9)) = some y7 := hf 7 _ rfl
    rw [cells_s] at g7
    exact ⟨q0.1, q0.2.1, q0.2.2.1, q0.2.2.2.1, q0.2.2.2.2, leaf_b g1, q2.1, q2.2.1, q2.2.2.1, q2.2.2.2.1, q2.2.2.2.2, leaf_b g3, q4.1, q4.2.1, q4.2.2.1, q4.2.2.2.1, q4.2.2.2.2.1, q4.2.2.2.2.2.1, q4.2.2.2.2.2.2.1, q4.2.2.2.2.2.2.2, q5.1, q5.2.1, q5.2.2.1, q5.2.2.2.1, q5.2.2.2.2.1, q5.2.2.2.2.2.1, q5.2.2.2.2.2.2.1, q5.2.2.2.2.2.2.2.1, q5.2.2.2.2.2.2.2.2.1, q5.2.2.2.2.2.2.2.2.2.1, q5.2.2.2.2.2.2.2.2.2.2.1, q5.2.2.2.2.2.2.2.2.2.2.2.1, q5.2.2.2.2.2.2.2.2.2.2.2.2.1, q5.2.2.2.2.2.2.2.2.2.2.2.2.2, leaf_s g6, leaf_s g7⟩
end
theorem own : ownKnob Try.prog.godebug = none := by kernel_rfl
theorem laidOut : laidOutB Try.prog = true := by kernel_rfl
set_option maxRecDepth 20000 in
set_option maxHeartbeats 2000000 in
theorem pst_of {H : Type} {enc : TypeId × Value → H} {W : World} {y : DataW H × List MemPlace} {n : Nat} {ps : Array Value} (hs : ps.size = 36) (hf : DataW.trod enc Try.prog W 0 (fun _ => true) true n 34 ps.toList = some y) : PSt ps := by
  obtain ⟨c0v, c1v, c2v, c3v, c4v, c5v, c6v, c7v, c8v, c9v, c10v, c11v, c12v, c13v, c14v, c15v, c16v, c17v, c18v, c19v, c20v, c21v, c22v, c23v, c24v, c25v, c26v, c27v, c28v, c29v, c30v, c31v, c32v, c33v, c34v, c35v, rfl⟩ := thirtysix hs
  have q := open_packet (show DataW.trod enc Try.prog W 0 (fun _ => true) true n 34 [c0v, c1v, c2v, c3v, c4v, c5v, c6v, c7v, c8v, c9v, c10v, c11v, c12v, c13v, c14v, c15v, c16v, c17v, c18v, c19v, c20v, c21v, c22v, c23v, c24v, c25v, c26v, c27v, c28v, c29v, c30v, c31v, c32v, c33v, c34v, c35v] = some y from hf)
  clear hf hs
  obtain ⟨⟨x0, rfl, b0⟩, ⟨x1, rfl, b1⟩, ⟨x2, rfl⟩, ⟨x3, rfl, b3⟩, ⟨x4, rfl, b4⟩, ⟨x5, rfl⟩, ⟨x6, rfl, b6⟩, ⟨x7, rfl, b7⟩, ⟨x8, rfl, b8⟩, ⟨x9, rfl, b9⟩, ⟨x10, rfl, b10⟩, ⟨x11, rfl⟩, ⟨x12, rfl, b12⟩, ⟨x13, rfl, b13⟩, ⟨x14, rfl, b14⟩, ⟨x15, rfl, b15⟩, ⟨x16, rfl, b16⟩, ⟨x17, rfl, b17⟩, ⟨x18, rfl, b18⟩, ⟨x19, rfl⟩, ⟨x20, rfl, b20⟩, ⟨x21, rfl, b21⟩, ⟨x22, rfl, b22⟩, ⟨x23, rfl, b23⟩, ⟨x24, rfl, b24⟩, ⟨x25, rfl, b25⟩, ⟨x26, rfl⟩, ⟨x27, rfl, b27⟩, ⟨x28, rfl, b28⟩, ⟨x29, rfl, b29⟩, ⟨x30, rfl, b30⟩, ⟨x31, rfl, b31⟩, ⟨x32, rfl⟩, ⟨x33, rfl⟩, ⟨x34, rfl⟩, ⟨x35, rfl⟩⟩ := q
  refine ⟨rfl, by simp [Value.oneCell'], fun i hi => ?_, fun i hi => ?_, fun i hi => ?_, fun i hi => ?_, fun i hi => ?_⟩ <;> simp only [List.mem_cons, List.not_mem_nil, or_false] at hi
  · rcases hi with rfl | rfl | rfl | rfl
    · exact ⟨x0, rfl, b0⟩
    · exact ⟨x1, rfl, b1⟩
    · exact ⟨x7, rfl, b7⟩
    · exact ⟨x9, rfl, b9⟩
  · rcases hi with rfl | rfl | rfl | rfl | rfl | rfl | rfl | rfl | rfl | rfl | rfl | rfl | rfl | rfl | rfl | rfl
    · exact ⟨x3, rfl, b3⟩
    · exact ⟨x4, rfl, b4⟩
    · exact ⟨x6, rfl, b6⟩
    · exact ⟨x12, rfl, b12⟩
    · exact ⟨x13, rfl, b13⟩
    · exact ⟨x14, rfl, b14⟩
    · exact ⟨x15, rfl, b15⟩
    · exact ⟨x16, rfl, b16⟩
    · exact ⟨x20, rfl, b20⟩
    · exact ⟨x21, rfl, b21⟩
    · exact ⟨x22, rfl, b22⟩
    · exact ⟨x24, rfl, b24⟩
    · exact ⟨x25, rfl, b25⟩
    · exact ⟨x29, rfl, b29⟩
    · exact ⟨x30, rfl, b30⟩
    · exact ⟨x31, rfl, b31⟩
  · rcases hi with rfl | rfl | rfl | rfl | rfl | rfl | rfl
    · exact ⟨x8, rfl, b8⟩
    · exact ⟨x10, rfl, b10⟩
    · exact ⟨x17, rfl, b17⟩
    · exact ⟨x18, rfl, b18⟩
    · exact ⟨x23, rfl, b23⟩
    · exact ⟨x27, rfl, b27⟩
    · exact ⟨x28, rfl, b28⟩
  · rcases hi with rfl | rfl | rfl | rfl
    · exact ⟨x2, rfl⟩
    · exact ⟨x5, rfl⟩
    · exact ⟨x11, rfl⟩
    · exact ⟨x26, rfl⟩
  · rcases hi with rfl | rfl | rfl | rfl | rfl
    · exact ⟨x19, rfl⟩
    · exact ⟨x32, rfl⟩
    · exact ⟨x33, rfl⟩
    · exact ⟨x34, rfl⟩
    · exact ⟨x35, rfl⟩
set_option maxRecDepth 20000 in
theorem open_pk {H : Type} {enc : TypeId × Value → H} {W : World} {v : Value} {d : DataW H} {p : List MemPlace} {r : Reach} {base : Nat}
    (hv : Value.okWide Try.prog W r base 34 v) (h : DataW.Trod enc Try.prog W 0 (fun _ => true) true 34 v d p) : ∃ ps, v = .agg ps ∧ PSt ps := by
  obtain ⟨ps, rfl, hps⟩ := okWide_struct Try.underlying34 hv
  obtain ⟨fuel, hf⟩ := h
  exact ⟨ps, rfl, pst_of (hps.trans cells_packet) hf⟩
theorem str_nums (s : ByteArray) : ∃ os : List Int, s = strOfNums os ∧ os.length = s.size ∧ (∀ i, 0 ≤ os.getD i 0 ∧ os.getD i 0 ≤ 255) := by
  refine ⟨s.data.toList.map fun x => (x.toNat : Int), ?_, by rw [List.length_map]; rfl, fun i => ?_⟩
  · cases s with
    | mk d =>
      have h : ∀ l : List UInt8, l.map ((fun n : Int => UInt8.ofNat n.toNat) ∘ fun x : UInt8 => (x.toNat : Int)) = l := by
        intro l
        induction l with
        | nil => rfl
        | cons x r ih => simp [ih]
      simp [strOfNums, h]
  · rw [List.getD_eq_getElem?_getD, List.getElem?_map]
    rcases hx : s.data.toList[i]? with _ | x
    · simp
    · have := x.toNat_lt
      simp; omega
set_option maxRecDepth 20000 in
set_option maxHeartbeats 4000000 in
theorem pst_letters {ps : Array Value} (h : PSt ps) : ∃ d s tag et op sha spa tha tpa tos id fr ttl pr src dst k ty co re sp dp sq ak fl wi ur : Int, ∃ tg ia ii ns : Bool, ∃ io lo ds bd pd : List Int, ps = #[.int .u64 d, .int .u64 s, .bool tg, .int .i64 tag, .int .i64 et, .bool ia, .int .i64 op, .int .u64 sha, .int .u32 spa, .int .u64 tha, .int .u32 tpa, .bool ii, .int .i64 tos, .int .i64 id, .int .i64 fr, .int .i64 ttl, .int .i64 pr, .int .u32 src, .int .u32 dst, .string (strOfNums io), .int .i64 k, .int .i64 ty, .int .i64 co, .int .u32 re, .int .i64 sp, .int .i64 dp, .bool ns, .int .u32 sq, .int .u32 ak, .int .i64 fl, .int .i64 wi, .int .i64 ur, .string (strOfNums lo), .string (strOfNums ds), .string (strOfNums bd), .string (strOfNums pd)] := by
  obtain ⟨c0v, c1v, c2v, c3v, c4v, c5v, c6v, c7v, c8v, c9v, c10v, c11v, c12v, c13v, c14v, c15v, c16v, c17v, c18v, c19v, c20v, c21v, c22v, c23v, c24v, c25v, c26v, c27v, c28v, c29v, c30v, c31v, c32v, c33v, c34v, c35v, rfl⟩ := thirtysix h.size
  obtain ⟨x0, hx0, _⟩ := h.u64 0 (by decide)
  obtain ⟨x1, hx1, _⟩ := h.u64 1 (by decide)
  obtain ⟨x2, hx2⟩ := h.bool 2 (by decide)
  obtain ⟨x3, hx3, _⟩ := h.i64 3 (by decide)
  obtain ⟨x4, hx4, _⟩ := h.i64 4 (by decide)
  obtain ⟨x5, hx5⟩ := h.bool 5 (by decide)
  obtain ⟨x6, hx6, _⟩ := h.i64 6 (by decide)
  obtain ⟨x7, hx7, _⟩ := h.u64 7 (by decide)
  obtain ⟨x8, hx8, _⟩ := h.u32 8 (by decide)
  obtain ⟨x9, hx9, _⟩ := h.u64 9 (by decide)
  obtain ⟨x10, hx10, _⟩ := h.u32 10 (by decide)
  obtain ⟨x11, hx11⟩ := h.bool 11 (by decide)
  obtain ⟨x12, hx12, _⟩ := h.i64 12 (by decide)
  obtain ⟨x13, hx13, _⟩ := h.i64 13 (by decide)
  obtain ⟨x14, hx14, _⟩ := h.i64 14 (by decide)
  obtain ⟨x15, hx15, _⟩ := h.i64 15 (by decide)
  obtain ⟨x16, hx16, _⟩ := h.i64 16 (by decide)
  obtain ⟨x17, hx17, _⟩ := h.u32 17 (by decide)
  obtain ⟨x18, hx18, _⟩ := h.u32 18 (by decide)
  obtain ⟨x19, hx19⟩ := h.str 19 (by decide)
  obtain ⟨x20, hx20, _⟩ := h.i64 20 (by decide)
  obtain ⟨x21, hx21, _⟩ := h.i64 21 (by decide)
  obtain ⟨x22, hx22, _⟩ := h.i64 22 (by decide)
  obtain ⟨x23, hx23, _⟩ := h.u32 23 (by decide)
  obtain ⟨x24, hx24, _⟩ := h.i64 24 (by decide)
  obtain ⟨x25, hx25, _⟩ := h.i64 25 (by decide)
  obtain ⟨x26, hx26⟩ := h.bool 26 (by decide)
  obtain ⟨x27, hx27, _⟩ := h.u32 27 (by decide)
  obtain ⟨x28, hx28, _⟩ := h.u32 28 (by decide)
  obtain ⟨x29, hx29, _⟩ := h.i64 29 (by decide)
  obtain ⟨x30, hx30, _⟩ := h.i64 30 (by decide)
  obtain ⟨x31, hx31, _⟩ := h.i64 31 (by decide)
  obtain ⟨x32, hx32⟩ := h.str 32 (by decide)
  obtain ⟨x33, hx33⟩ := h.str 33 (by decide)
  obtain ⟨x34, hx34⟩ := h.str 34 (by decide)
  obtain ⟨x35, hx35⟩ := h.str 35 (by decide)
  simp only [List.getElem?_toArray, List.getElem?_cons_zero, List.getElem?_cons_succ, Option.some.injEq] at hx0 hx1 hx2 hx3 hx4 hx5 hx6 hx7 hx8 hx9 hx10 hx11 hx12 hx13 hx14 hx15 hx16 hx17 hx18 hx19 hx20 hx21 hx22 hx23 hx24 hx25 hx26 hx27 hx28 hx29 hx30 hx31 hx32 hx33 hx34 hx35
  subst hx0 hx1 hx2 hx3 hx4 hx5 hx6 hx7 hx8 hx9 hx10 hx11 hx12 hx13 hx14 hx15 hx16 hx17 hx18 hx19 hx20 hx21 hx22 hx23 hx24 hx25 hx26 hx27 hx28 hx29 hx30 hx31 hx32 hx33 hx34 hx35
  obtain ⟨l19, rfl, _⟩ := str_nums x19
  obtain ⟨l32, rfl, _⟩ := str_nums x32
  obtain ⟨l33, rfl, _⟩ := str_nums x33
  obtain ⟨l34, rfl, _⟩ := str_nums x34
  obtain ⟨l35, rfl, _⟩ := str_nums x35
  exact ⟨x0, x1, x3, x4, x6, x7, x8, x9, x10, x12, x13, x14, x15, x16, x17, x18, x20, x21, x22, x23, x24, x25, x27, x28, x29, x30, x31, x2, x5, x11, x26, l19, l32, l33, l34, l35, rfl⟩
end Go.Proofs.Ytpiokeidcnbmbaa.Ca
/- PacketEchoes: the reply to any packet, as the document says; and that a reply has none. For every input; no condition beyond the given row's own. -/
namespace Go.Proofs.Ytpiokeidcnbmbaa
open Go.ChangeShapes Go.WideShapes Go.ChangeAt Go.RowKit
open Go.Proofs.Ytpiokeidcnbmbaa.Ca (own laidOut)

set_option maxRecDepth 100000 in
theorem packetEchoes_lifted (os : Os) (started : os.Started) (H : Type) (enc : TypeId × Value → H) :
    ReturnsInHanded {} Try.checked os 6 .any (Rows.packetEchoesSpec.pre6 enc Try.prog Try.f6 Rows.packetEchoesRow.domain false) (Rows.packetEchoesSpec.post enc Try.prog Try.f6 false true false false) := by
  refine returnsInHanded_of_change_sized (C := Try.checked) own started (by kernel_rfl) Try.func6
    (ChangeSpec.witness6 (enc := enc) (C := Try.checked) false ⟨#[], #[.agg #[.int .u64 0, .int .u64 0, .bool false, .int .i64 0, .int .i64 0, .bool false, .int .i64 0, .int .u64 0, .int .u32 0, .int .u64 0, .int .u32 0, .bool false, .int .i64 0, .int .i64 0, .int .i64 0, .int .i64 0, .int .i64 0, .int .u32 0, .int .u32 0, .string ⟨#[]⟩, .int .i64 0, .int .i64 0, .int .i64 0, .int .u32 0, .int .i64 0, .int .i64 0, .bool false, .int .u32 0, .int .u32 0, .int .i64 0, .int .i64 0, .int .i64 0, .string ⟨#[]⟩, .string ⟨#[]⟩, .string ⟨#[]⟩, .string ⟨#[]⟩]], []⟩ 8 (by kernel_rfl) (by kernel_rfl) (by kernel_rfl) (by kernel_rfl)) ?_
  intro W base args ds gs before hval0 hW _ hsz0 _
  have hsz : (DataW.weightsEach Try.prog (Try.f6.params.toList ++ Rows.packetEchoesSpec.plain.varTypes Try.prog) (ds ++ gs)).all (· ≤ reachBytes) = true := hsz0
  clear hsz0
  have hval : ∀ (j : Nat) t v, Try.f6.params[j]? = some t → args[j]? = some v → Value.okWide Try.prog W .any base t v := hval0
  have hW' := hW
  obtain ⟨p, q, hA0, hV, rfl, _, _⟩ := hW
  have hA : DataW.TrodAll enc Try.prog W 0 (fun _ => true) true Try.f6.params.toList args.toList ds p := hA0
  rw [Try.params6] at hA hval hsz
  obtain ⟨v0, vs0, d0, ds0, p0, q0, hargs, rfl, rfl, h0, r0⟩ := trodAll_cons hA
  obtain ⟨rfl, rfl, rfl⟩ := trodAll_nil r0
  obtain rfl : args = #[v0] := by cases args; simp_all
  obtain ⟨rfl, rfl⟩ := trodVars_none hV
  have k0 := h0
  have lt0 : ∀ x ∈ p0, x.block < W.heap.size := by obtain ⟨m, hm⟩ := k0; exact DataW.trod_lt m _ _ _ hm
  obtain ⟨ps0, rfl, T0⟩ := Ca.open_pk (hval 0 34 v0 rfl rfl) h0
  obtain ⟨d, s, tag, et, op, sha, spa, tha, tpa, tos, id, fr, ttl, pr, src, dst, k, ty, co, re, sp, dp, sq, ak, fl, wi, ur, tg, ia, ii, ns, io, lo, ds, bd, pd, rfl⟩ := Ca.pst_letters T0
  clear hA0 hval0
  refine (echoes_any d s tag et op sha spa tha tpa tos id fr ttl pr src dst k ty co re sp dp sq ak fl wi ur tg ia ii ns io lo ds bd pd W).mono fun e W' ⟨he, bel⟩ => ?_
  subst he
  exact ⟨_, rfl, _, _, _, [], _, [], hW', trodAll_mk1 (shut_bool Try.underlying4 _), (trodAll_cons_mk (Below.trod laidOut (by kernel_rfl) (of_decide_eq_true (by kernel_rfl)) k0 bel lt0) trodAll_mk0), rfl, bel.frame _, fun h => by cases h⟩

theorem packetEchoes_proved : Rows.PacketEchoesSaid :=
  OpenClaim.holds_of_wide 6 Try.f6 rfl rfl rfl rfl rfl rfl rfl ⟨rfl, rfl, rfl, rfl, rfl⟩ rfl rfl rfl rfl rfl (by kernel_rfl) Try.func6 (by kernel_rfl)
    (of_decide_eq_true (by kernel_rfl)) (by unfold Func.isWrapper; first | (rw [if_pos (by decide +kernel)]; kernel_rfl) | (rw [if_neg (by decide +kernel)]; exact ⟨rfl, rfl⟩))
    (fun os started H enc _ => packetEchoes_lifted os started H enc)
#print axioms packetEchoes_proved
end Go.Proofs.Ytpiokeidcnbmbaa
