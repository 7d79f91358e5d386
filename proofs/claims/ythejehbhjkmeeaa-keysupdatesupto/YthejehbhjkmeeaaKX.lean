/- Same: keys held against the same keys. Conditions: the keys can be read. -/
import Derived.Test.YthejehbhjkmeeaaKR
import Derived.Test.YthejehbhjkmeeaaKW
namespace Go.Proofs.Ythejehbhjkmeeaa
open Go.RowKit
theorem neq_key (n : ByteArray) (v : Int) (W : World) : (binOp .neq 37 (.agg #[.string n, .int .i64 v]) (.agg #[.string n, .int .i64 v])).run Try.prog W = .ok (.bool false) W := by
  simp [binOp, Op.equal, Op.maxDepth, go_sem]
set_option maxRecDepth 20000 in
set_option maxHeartbeats 1000000 in
theorem sameList_eq (a b : Option Addr) (n ca cb : Nat) (ks : List Ky) (w : World) (h1 : KS w a n ks) (h2 : KS w b n ks) :
    Calls Try.prog 23 #[.slice a n ca, .slice b n cb] w fun e w' => e = .returned (.bool true) ∧ Below w.heap.size w w' := by
  have hl := h1.len
  have hr := h1.room
  have H1 : Hid _ := h1
  have H2 : Hid _ := h2
  have hnq := neq_key
  clear h1 h2
  go_enter Try.func23, Try.ntmps23
  go_wp2_with fail
  go_loopw [5] (fun i wr => ∃ k : Nat, k ≤ n ∧ i = .int .i64 k ∧ Below w.heap.size w wr) (fun i _ => n - (intOf i).toNat)
  case atStart => exact ⟨0, by omega, rfl, Below.refl _ _⟩
  case round =>
    obtain ⟨k, hk, rfl, hb⟩ := hrel
    have HB : Hid _ := hb
    by_cases hlt : k < n
    · have hkI : (k : Int) < n := by omega
      have hk0 : (0 : Int) ≤ k := by omega
      obtain ⟨o, ho⟩ := getK (os := ks) (k := k) (by omega)
      obtain ⟨b1, off1, rfl, c0, c1, hbl1⟩ := (H1.out.below hb).at ho
      obtain ⟨b2, off2, rfl, d0, d1, hbl2⟩ := (H2.out.below hb).at ho
      clear ho hb
      generalize o.n = on at *
      generalize o.v = ov at *
      go_wp2_with fail
      go_quiet (fail)
      go_wp2
      go_roundw
      case rel => exact ⟨k + 1, by omega, by go_num, below_drewN HB.out _⟩
      case measure => simp [intOf]; omega
    · obtain rfl : k = n := by omega
      clear hb
      go_wp2
      go_ret
      exact ⟨rfl, HB.out⟩
theorem sameL_call {w W : World} {u v : Value} {A : List Ky} (h1 : KV w u A) (h2 : KV w v A) (hb : Below w.heap.size w W) : Calls Try.prog 23 #[u, v] W fun e w' => e = .returned (.bool true) ∧ Below W.heap.size W w' := by
  obtain ⟨a1, n1, c1, rfl, _, k1⟩ := h1
  obtain ⟨a2, n2, c2, rfl, _, k2⟩ := h2
  obtain rfl : n1 = n2 := by rw [← k1.len, k2.len]
  exact sameList_eq _ _ _ _ _ A W (k1.below hb) (k2.below hb)
set_option maxRecDepth 20000 in
set_option maxHeartbeats 1000000 in
theorem same_eq (u1 u2 u3 u4 v1 v2 v3 v4 : Value) (A B C D : List Ky) (w : World) (h1 : KV w u1 A) (h2 : KV w u2 B) (h3 : KV w u3 C) (h4 : KV w u4 D) (g1 : KV w v1 A) (g2 : KV w v2 B) (g3 : KV w v3 C) (g4 : KV w v4 D) :
    Calls Try.prog 12 #[.agg #[u1, u2, u3, u4], .agg #[v1, v2, v3, v4]] w fun e w' => e = .returned (.bool true) ∧ Below w.heap.size w w' := by
  have X1 : Hid (∀ W, Below w.heap.size w W → Calls Try.prog 23 #[u1, v1] W fun e w' => e = .returned (.bool true) ∧ Below W.heap.size W w') := fun W hW => sameL_call h1 g1 hW
  have X2 : Hid (∀ W, Below w.heap.size w W → Calls Try.prog 23 #[u2, v2] W fun e w' => e = .returned (.bool true) ∧ Below W.heap.size W w') := fun W hW => sameL_call h2 g2 hW
  have X3 : Hid (∀ W, Below w.heap.size w W → Calls Try.prog 23 #[u3, v3] W fun e w' => e = .returned (.bool true) ∧ Below W.heap.size W w') := fun W hW => sameL_call h3 g3 hW
  have X4 : Hid (∀ W, Below w.heap.size w W → Calls Try.prog 23 #[u4, v4] W fun e w' => e = .returned (.bool true) ∧ Below W.heap.size W w') := fun W hW => sameL_call h4 g4 hW
  obtain ⟨a1, n1, c1, rfl, _, _⟩ := h1
  obtain ⟨a2, n2, c2, rfl, _, _⟩ := h2
  obtain ⟨a3, n3, c3, rfl, _, _⟩ := h3
  obtain ⟨a4, n4, c4, rfl, _, _⟩ := h4
  obtain ⟨b1, m1, d1, rfl, _, _⟩ := g1
  obtain ⟨b2, m2, d2, rfl, _, _⟩ := g2
  obtain ⟨b3, m3, d3, rfl, _, _⟩ := g3
  obtain ⟨b4, m4, d4, rfl, _, _⟩ := g4
  have P1 : Hid _ := two_first w (.cells #[.slice a1 n1 c1, .slice a2 n2 c2, .slice a3 n3 c3, .slice a4 n4 c4] 24) (.cells #[.slice b1 m1 d1, .slice b2 m2 d2, .slice b3 m3 d3, .slice b4 m4 d4] 24)
  have P2 : Hid _ := two_last w (.cells #[.slice a1 n1 c1, .slice a2 n2 c2, .slice a3 n3 c3, .slice a4 n4 c4] 24) (.cells #[.slice b1 m1 d1, .slice b2 m2 d2, .slice b3 m3 d3, .slice b4 m4 d4] 24)
  have key : ∀ W, Below (w.heap.size + 1 + 1) ((w.alloc (.cells #[.slice a1 n1 c1, .slice a2 n2 c2, .slice a3 n3 c3, .slice a4 n4 c4] 24)).alloc (.cells #[.slice b1 m1 d1, .slice b2 m2 d2, .slice b3 m3 d3, .slice b4 m4 d4] 24)) W → Below w.heap.size w W ∧ (W.cell? ⟨w.heap.size, 1, none⟩ = some (.slice a2 n2 c2) ∧ W.cell? ⟨w.heap.size, 2, none⟩ = some (.slice a3 n3 c3) ∧ W.cell? ⟨w.heap.size, 3, none⟩ = some (.slice a4 n4 c4)) ∧ W.cell? ⟨w.heap.size + 1, 1, none⟩ = some (.slice b2 m2 d2) ∧ W.cell? ⟨w.heap.size + 1, 2, none⟩ = some (.slice b3 m3 d3) ∧ W.cell? ⟨w.heap.size + 1, 3, none⟩ = some (.slice b4 m4 d4) := fun W hW => by
    have q1 := (hW.block w.heap.size (by omega)).trans P1.out
    have q2 := (hW.block (w.heap.size + 1) (by omega)).trans P2.out
    exact ⟨(below2 w _ _).trans (hW.mono (by omega)), ⟨cell_row q1 1, cell_row q1 2, cell_row q1 3⟩, cell_row q2 1, cell_row q2 2, cell_row q2 3⟩
  have KEY : Hid _ := key
  clear key
  go_enter Try.func12, Try.ntmps12
  go_wp2_with fail
  refine (X1.out _ (below2 _ _ _)).mono ?_
  rintro e W1 ⟨rfl, hb1⟩
  have hs : ((w.alloc (.cells #[.slice a1 n1 c1, .slice a2 n2 c2, .slice a3 n3 c3, .slice a4 n4 c4] 24)).alloc (.cells #[.slice b1 m1 d1, .slice b2 m2 d2, .slice b3 m3 d3, .slice b4 m4 d4] 24)).heap.size = w.heap.size + 1 + 1 := by simp
  rw [hs] at hb1
  have HB1 : Hid _ := hb1
  obtain ⟨b9, ⟨p1, p2, p3⟩, p4, p5, p6⟩ := KEY.out W1 hb1
  have BW1 : Hid _ := b9
  clear hb1 hs b9
  go_wp2_with fail
  refine (X2.out _ BW1.out).mono ?_
  rintro e W2 ⟨rfl, hb2⟩
  have HB2 : Hid _ := HB1.out.trans (hb2.mono (by have := HB1.out.size; simp at this; omega))
  obtain ⟨b9, ⟨p1', p2', p3'⟩, p4', p5', p6'⟩ := KEY.out W2 HB2.out
  have BW2 : Hid _ := b9
  clear hb2 b9 p1 p2 p3 p4 p5 p6
  go_wp2_with fail
  refine (X3.out _ BW2.out).mono ?_
  rintro e W3 ⟨rfl, hb3⟩
  have HB3 : Hid _ := HB2.out.trans (hb3.mono (by have := HB2.out.size; simp at this; omega))
  obtain ⟨b9, ⟨p1, p2, p3⟩, p4, p5, p6⟩ := KEY.out W3 HB3.out
  have BW3 : Hid _ := b9
  clear hb3 b9 p1' p2' p3' p4' p5' p6'
  go_wp2_with fail
  refine (X4.out _ BW3.out).mono ?_
  rintro e W4 ⟨rfl, hb4⟩
  have HB4 : Hid (Below w.heap.size w W4) := BW3.out.trans (hb4.mono BW3.out.size)
  clear hb4 p1 p2 p3 p4 p5 p6
  go_wp2
  go_ret
  exact ⟨rfl, HB4.out⟩
end Go.Proofs.Ythejehbhjkmeeaa
