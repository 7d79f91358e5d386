/- The walk of L4Decodes. Condition: a slice of at most 2^47 bytes. -/
import Derived.Test.YtanilaofhaelkaaL4rj
import Derived.Test.YtanilaofhaelkaaL4rk
import Derived.Test.YtanilaofhaelkaaL4la
namespace Go.Proofs.Ytanilaofhaelkaa
open Go.RowKit
theorem neq14_same (k ty co re sp dp : Int) (ns : Bool) (sq ak fl wi ur : Int) (os ds : ByteArray) (W : World) :
    (binOp .neq 25 (.agg #[.int .i64 k, .int .i64 ty, .int .i64 co, .int .u32 re, .int .i64 sp, .int .i64 dp, .bool ns, .int .u32 sq, .int .u32 ak, .int .i64 fl, .int .i64 wi, .int .i64 ur, .string os, .string ds]) (.agg #[.int .i64 k, .int .i64 ty, .int .i64 co, .int .u32 re, .int .i64 sp, .int .i64 dp, .bool ns, .int .u32 sq, .int .u32 ak, .int .i64 fl, .int .i64 wi, .int .i64 ur, .string os, .string ds])).run Try.prog W = .ok (.bool false) W := by
  rw [neq14]
  simp
theorem own_shape {w : World} {base : Nat} {e : TypeId} {a : Option Addr} {n cap : Nat} {xs : List Value} (h : w.ownsRow base e 1 (.slice a n cap) n xs) : (∀ x, a = some x → ∃ b off, x = ⟨b, off, none⟩) ∧ (a = none → cap = 0) := by
  obtain ⟨_, h2⟩ := h
  rcases h2 with h2 | ⟨g, c, cur, e1, _⟩
  · obtain ⟨e1, _⟩ := h2
    cases e1
    exact ⟨fun x hx => (by cases hx), fun _ => rfl⟩
  · cases e1
    exact ⟨fun x hx => ⟨g, 0, by cases hx; rfl⟩, fun hx => by cases hx⟩
set_option maxRecDepth 20000 in
set_option maxHeartbeats 4000000 in
theorem decodes_no (src dst p : Int) (hs : 0 ≤ src ∧ src ≤ 4294967295) (ht : 0 ≤ dst ∧ dst ≤ 4294967295) (w : World) (a : Option Addr) (n cap : Nat) (zs : List Int) (h : BS w a n zs) (hcap : n ≤ cap) (hm : n ≤ 140737488351232) (f : Int) (hf : (f != 0) = true) (k ty co re sp dp : Int) (ns : Bool) (sq ak fl wi ur : Int) (os ds : List Int) (hR : decR src dst (kindV p) zs = (L4R.mk k ty co re sp dp ns sq ak fl wi ur os ds)) (hE : decE src dst (kindV p) zs = f) :
    Calls Try.prog 3 #[.int .u32 src, .int .u32 dst, .int .i64 p, .slice a n cap] w fun e w' => e = .returned (.bool true) ∧ Below w.heap.size w w' := by
  obtain ⟨i0, hi, hz0, hz1, hz2⟩ := info_parts info5
  have H : Hid (BS w a n zs) := h
  have HD : Hid (∀ W a' cap', n ≤ cap' → (∀ x, a' = some x → ∃ b off, x = ⟨b, off, none⟩) → (a' = none → cap' = 0) → BS W a' n zs → Calls Try.prog 7 #[.int .u32 src, .int .u32 dst, .int .i64 p, .slice a' n cap'] W fun e w' => e = .returned (.tuple #[.agg #[.int .i64 k, .int .i64 ty, .int .i64 co, .int .u32 re, .int .i64 sp, .int .i64 dp, .bool ns, .int .u32 sq, .int .u32 ak, .int .i64 fl, .int .i64 wi, .int .i64 ur, .string (strOfNums os), .string (strOfNums ds)], .int .i64 f]) ∧ Below W.heap.size W w') := fun W a' cap' h1 h2 h3 hB => by
    have := decode_any src dst p hs ht a' n cap' zs h1 h2 h3 W hB
    rw [hR, hE] at this
    exact this
  have HR : Hid (∀ W, BS W a n zs → Calls Try.prog 8 #[.int .u32 src, .int .u32 dst, .int .i64 p, .slice a n cap] W fun e w' => e = .returned (.tuple #[.agg #[.int .i64 k, .int .i64 ty, .int .i64 co, .int .u32 re, .int .i64 sp, .int .i64 dp, .bool ns, .int .u32 sq, .int .u32 ak, .int .i64 fl, .int .i64 wi, .int .i64 ur, .string (strOfNums os), .string (strOfNums ds)], .int .i64 f]) ∧ Below W.heap.size W w') := fun W hB => by
    have := rdecode_any src dst p hs ht a n cap zs hcap W hB
    rw [hR, hE] at this
    exact this
  have hq := fun W => neq14_same k ty co re sp dp ns sq ak fl wi ur (strOfNums os) (strOfNums ds) W
  have HQ : Hid _ := hq
  clear h hR hE hq
  go_enter Try.func3, Try.ntmps3
  go_wp2_with (at_builtin; refine wpList_append_bs (by rfl) _ _ 23 rfl w.heap.size 5 i0 Try.underlying23 hi hz0 hz1 hz2 _ 0 [] rfl (own_empty w _ (Nat.le_refl _)) a n cap zs rfl (H.out.below ((Below.refl _ _).alloc (Nat.le_refl _) _)) (by omega) (by simp) ?_)
  intro a' cap' w1 hown hgrow
  have hb1 : Below w.heap.size w w1 := ((Below.refl _ _).alloc (Nat.le_refl _) _).grown hgrow (by simp) (by rintro k ⟨⟩; exact Nat.le_refl _)
  have H1 : Hid (BS w1 a' n zs) := own_bs (by simpa using hown) H.out.fits (by omega)
  have hcc := own_caps hown
  have hsh : Hid ((∀ x, a' = some x → ∃ b off, x = ⟨b, off, none⟩) ∧ (a' = none → cap' = 0)) := own_shape hown
  clear hown hgrow hi hz0 hz1 hz2
  go_wp2_with fail
  refine (HD.out w1 a' cap' (by omega) hsh.out.1 hsh.out.2 H1.out).mono ?_
  clear HD hsh
  rintro e W1 ⟨rfl, hb⟩
  have hb2 : Below w.heap.size w W1 := hb1.trans (hb.mono hb1.size)
  have H2 : Hid (BS W1 a' n zs) := H1.out.below hb
  clear hb hb1 H1
  go_wp2_with fail
  refine (HR.out _ ((H.out.below hb2).below (below1 W1 _))).mono ?_
  clear HR
  rintro e W2 ⟨rfl, hb⟩
  have hb3 : Below w.heap.size w W2 := (hb2.alloc hb2.size _).trans (hb.mono (by have := hb2.size; simp; omega))
  have H3 : Hid (BS W2 a' n zs) := (H2.out.below (below1 W1 _)).below hb
  have A1 : Hid (AtB W2 W1.heap.size #[.int .i64 k, .int .i64 ty, .int .i64 co, .int .u32 re, .int .i64 sp, .int .i64 dp, .bool ns, .int .u32 sq, .int .u32 ak, .int .i64 fl, .int .i64 wi, .int .i64 ur, .string (strOfNums os), .string (strOfNums ds)]) := AtB.below (atB_new W1 #[.int .i64 k, .int .i64 ty, .int .i64 co, .int .u32 re, .int .i64 sp, .int .i64 dp, .bool ns, .int .u32 sq, .int .u32 ak, .int .i64 fl, .int .i64 wi, .int .i64 ur, .string (strOfNums os), .string (strOfNums ds)] 25 _ rfl) hb
  clear hb hb2 H2
  go_wp2_with fail
  refine (lives_any _).mono ?_
  rintro e W3 ⟨rfl, hb⟩
  have hb4 : Hid (Below w.heap.size w W3) := (hb3.alloc hb3.size _).trans (hb.mono (by have := hb3.size; simp; omega))
  have A2 := AtB.below (atB_new W2 #[.int .i64 k, .int .i64 ty, .int .i64 co, .int .u32 re, .int .i64 sp, .int .i64 dp, .bool ns, .int .u32 sq, .int .u32 ak, .int .i64 fl, .int .i64 wi, .int .i64 ur, .string (strOfNums os), .string (strOfNums ds)] 25 _ rfl) hb
  have A3 : Hid (AtB W3 W1.heap.size #[.int .i64 k, .int .i64 ty, .int .i64 co, .int .u32 re, .int .i64 sp, .int .i64 dp, .bool ns, .int .u32 sq, .int .u32 ak, .int .i64 fl, .int .i64 wi, .int .i64 ur, .string (strOfNums os), .string (strOfNums ds)]) := AtB.below (AtB.below A1.out (below1 W2 _)) hb
  obtain ⟨y0, y1, y2, y3, y4, y5, y6, y7, y8, y9, y10, y11, y12, y13⟩ := AtB.cells14 A2
  obtain ⟨x0, x1, x2, x3, x4, x5, x6, x7, x8, x9, x10, x11, x12, x13⟩ := AtB.cells14 A3.out
  have cv1 : (convert 23 9 (.slice a n cap)).run Try.prog W3 = .ok (.string (strOfNums zs)) W3 := run_conv_bs _ (H.out.below hb4.out) 23 9 5 Try.underlying23 Try.underlying5 Try.underlying9
  have cv2 : (convert 23 9 (.slice a' n cap')).run Try.prog W3 = .ok (.string (strOfNums zs)) W3 := run_conv_bs _ ((H3.out.below (below1 W2 _)).below hb) 23 9 5 Try.underlying23 Try.underlying5 Try.underlying9
  clear A1 A2 hb hb3 H3
  have hq := HQ.out
  go_wp2
  go_ret
  exact ⟨rfl, hb4.out⟩
set_option maxRecDepth 20000 in
set_option maxHeartbeats 4000000 in
theorem decodes_long (src dst p : Int) (hs : 0 ≤ src ∧ src ≤ 4294967295) (ht : 0 ≤ dst ∧ dst ≤ 4294967295) (w : World) (a : Option Addr) (n cap : Nat) (zs : List Int) (h : BS w a n zs) (hcap : n ≤ cap) (hm : n ≤ 140737488351232) (hlong : 65515 < (n : Int)) (k ty co re sp dp : Int) (ns : Bool) (sq ak fl wi ur : Int) (os ds : List Int) (hR : decR src dst (kindV p) zs = (L4R.mk k ty co re sp dp ns sq ak fl wi ur os ds)) (hE : decE src dst (kindV p) zs = 0) :
    Calls Try.prog 3 #[.int .u32 src, .int .u32 dst, .int .i64 p, .slice a n cap] w fun e w' => e = .returned (.bool true) ∧ Below w.heap.size w w' := by
  obtain ⟨i0, hi, hz0, hz1, hz2⟩ := info_parts info5
  have H : Hid (BS w a n zs) := h
  have HD : Hid (∀ W a' cap', n ≤ cap' → (∀ x, a' = some x → ∃ b off, x = ⟨b, off, none⟩) → (a' = none → cap' = 0) → BS W a' n zs → Calls Try.prog 7 #[.int .u32 src, .int .u32 dst, .int .i64 p, .slice a' n cap'] W fun e w' => e = .returned (.tuple #[.agg #[.int .i64 k, .int .i64 ty, .int .i64 co, .int .u32 re, .int .i64 sp, .int .i64 dp, .bool ns, .int .u32 sq, .int .u32 ak, .int .i64 fl, .int .i64 wi, .int .i64 ur, .string (strOfNums os), .string (strOfNums ds)], .int .i64 0]) ∧ Below W.heap.size W w') := fun W a' cap' h1 h2 h3 hB => by
    have := decode_any src dst p hs ht a' n cap' zs h1 h2 h3 W hB
    rw [hR, hE] at this
    exact this
  have HR : Hid (∀ W, BS W a n zs → Calls Try.prog 8 #[.int .u32 src, .int .u32 dst, .int .i64 p, .slice a n cap] W fun e w' => e = .returned (.tuple #[.agg #[.int .i64 k, .int .i64 ty, .int .i64 co, .int .u32 re, .int .i64 sp, .int .i64 dp, .bool ns, .int .u32 sq, .int .u32 ak, .int .i64 fl, .int .i64 wi, .int .i64 ur, .string (strOfNums os), .string (strOfNums ds)], .int .i64 0]) ∧ Below W.heap.size W w') := fun W hB => by
    have := rdecode_any src dst p hs ht a n cap zs hcap W hB
    rw [hR, hE] at this
    exact this
  have hq := fun W => neq14_same k ty co re sp dp ns sq ak fl wi ur (strOfNums os) (strOfNums ds) W
  have HQ : Hid _ := hq
  clear h hR hE hq
  go_enter Try.func3, Try.ntmps3
  go_wp2_with (at_builtin; refine wpList_append_bs (by rfl) _ _ 23 rfl w.heap.size 5 i0 Try.underlying23 hi hz0 hz1 hz2 _ 0 [] rfl (own_empty w _ (Nat.le_refl _)) a n cap zs rfl (H.out.below ((Below.refl _ _).alloc (Nat.le_refl _) _)) (by omega) (by simp) ?_)
  intro a' cap' w1 hown hgrow
  have hb1 : Below w.heap.size w w1 := ((Below.refl _ _).alloc (Nat.le_refl _) _).grown hgrow (by simp) (by rintro k ⟨⟩; exact Nat.le_refl _)
  have H1 : Hid (BS w1 a' n zs) := own_bs (by simpa using hown) H.out.fits (by omega)
  have hcc := own_caps hown
  have hsh : Hid ((∀ x, a' = some x → ∃ b off, x = ⟨b, off, none⟩) ∧ (a' = none → cap' = 0)) := own_shape hown
  clear hown hgrow hi hz0 hz1 hz2
  go_wp2_with fail
  refine (HD.out w1 a' cap' (by omega) hsh.out.1 hsh.out.2 H1.out).mono ?_
  clear HD hsh
  rintro e W1 ⟨rfl, hb⟩
  have hb2 : Below w.heap.size w W1 := hb1.trans (hb.mono hb1.size)
  have H2 : Hid (BS W1 a' n zs) := H1.out.below hb
  clear hb hb1 H1
  go_wp2_with fail
  refine (HR.out _ ((H.out.below hb2).below (below1 W1 _))).mono ?_
  clear HR
  rintro e W2 ⟨rfl, hb⟩
  have hb3 : Below w.heap.size w W2 := (hb2.alloc hb2.size _).trans (hb.mono (by have := hb2.size; simp; omega))
  have H3 : Hid (BS W2 a' n zs) := (H2.out.below (below1 W1 _)).below hb
  have A1 : Hid (AtB W2 W1.heap.size #[.int .i64 k, .int .i64 ty, .int .i64 co, .int .u32 re, .int .i64 sp, .int .i64 dp, .bool ns, .int .u32 sq, .int .u32 ak, .int .i64 fl, .int .i64 wi, .int .i64 ur, .string (strOfNums os), .string (strOfNums ds)]) := AtB.below (atB_new W1 #[.int .i64 k, .int .i64 ty, .int .i64 co, .int .u32 re, .int .i64 sp, .int .i64 dp, .bool ns, .int .u32 sq, .int .u32 ak, .int .i64 fl, .int .i64 wi, .int .i64 ur, .string (strOfNums os), .string (strOfNums ds)] 25 _ rfl) hb
  clear hb hb2 H2
  go_wp2_with fail
  refine (lives_any _).mono ?_
  rintro e W3 ⟨rfl, hb⟩
  have hb4 : Hid (Below w.heap.size w W3) := (hb3.alloc hb3.size _).trans (hb.mono (by have := hb3.size; simp; omega))
  have A2 := AtB.below (atB_new W2 #[.int .i64 k, .int .i64 ty, .int .i64 co, .int .u32 re, .int .i64 sp, .int .i64 dp, .bool ns, .int .u32 sq, .int .u32 ak, .int .i64 fl, .int .i64 wi, .int .i64 ur, .string (strOfNums os), .string (strOfNums ds)] 25 _ rfl) hb
  have A3 : Hid (AtB W3 W1.heap.size #[.int .i64 k, .int .i64 ty, .int .i64 co, .int .u32 re, .int .i64 sp, .int .i64 dp, .bool ns, .int .u32 sq, .int .u32 ak, .int .i64 fl, .int .i64 wi, .int .i64 ur, .string (strOfNums os), .string (strOfNums ds)]) := AtB.below (AtB.below A1.out (below1 W2 _)) hb
  obtain ⟨y0, y1, y2, y3, y4, y5, y6, y7, y8, y9, y10, y11, y12, y13⟩ := AtB.cells14 A2
  obtain ⟨x0, x1, x2, x3, x4, x5, x6, x7, x8, x9, x10, x11, x12, x13⟩ := AtB.cells14 A3.out
  have cv1 : (convert 23 9 (.slice a n cap)).run Try.prog W3 = .ok (.string (strOfNums zs)) W3 := run_conv_bs _ (H.out.below hb4.out) 23 9 5 Try.underlying23 Try.underlying5 Try.underlying9
  have cv2 : (convert 23 9 (.slice a' n cap')).run Try.prog W3 = .ok (.string (strOfNums zs)) W3 := run_conv_bs _ ((H3.out.below (below1 W2 _)).below hb) 23 9 5 Try.underlying23 Try.underlying5 Try.underlying9
  clear A1 A2 hb hb3 H3
  have hq := HQ.out
  go_wp2
  go_ret
  exact ⟨rfl, hb4.out⟩
end Go.Proofs.Ytanilaofhaelkaa
