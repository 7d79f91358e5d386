/- Check. Conditions: the keys can be read. -/
import Derived.Test.YthejehbhjkmeeaaKE
namespace Go.Proofs.Ythejehbhjkmeeaa
open Go.RowKit
def two (a b : List Ky) : Nat → List Ky := fun j => if j = 0 then a else b
def rightB (most : Int) (a b : List Ky) : Bool := (accR most (two a b) 2).isSome
def chkE (a b c d : List Ky) : Int := bif rightB 16777215 a b && rightB 65535 c d then 0 else 190
theorem lists_two {w : World} {g : Nat} {v1 v2 : Value} {a b : List Ky} (hg : w.heap[g]? = some (.cells #[v1, v2] 22 (0, 0))) (h1 : KV w v1 a) (h2 : KV w v2 b) : Lists w g (two a b) := ⟨fun j hj => by
  obtain ⟨a1, n1, c1, rfl, l1, k1⟩ := h1
  obtain ⟨a2, n2, c2, rfl, l2, k2⟩ := h2
  match j, hj with
  | 0, _ => exact ⟨a1, n1, c1, cell_row hg 0, l1, k1⟩
  | 1, _ => exact ⟨a2, n2, c2, cell_row hg 1, l2, k2⟩⟩
theorem right_call {most : Int} {g : Nat} {v1 v2 : Value} {a b : List Ky} {w : World} (hg : w.heap[g]? = some (.cells #[v1, v2] 22 (0, 0))) (h1 : KV w v1 a) (h2 : KV w v2 b) :
    Calls Try.prog 17 #[.int .i64 most, .slice (some ⟨g, 0, none⟩) 2 2] w fun e w' => e = .returned (.bool (rightB most a b)) ∧ Below w.heap.size w w' := areRight_any most g (two a b) w (lists_two hg h1 h2)
set_option maxRecDepth 20000 in
set_option maxHeartbeats 1000000 in
theorem check_any (v1 v2 v3 v4 : Value) (a b c d : List Ky) (w : World) (h1 : KV w v1 a) (h2 : KV w v2 b) (h3 : KV w v3 c) (h4 : KV w v4 d) :
    Calls Try.prog 8 #[.agg #[v1, v2, v3, v4]] w fun e w' => e = .returned (.int .i64 (chkE a b c d)) ∧ Below w.heap.size w w' := by
  have H1 : Hid _ := h1
  have H2 : Hid _ := h2
  have H3 : Hid _ := h3
  have H4 : Hid _ := h4
  obtain ⟨a1, n1, c1, rfl, _, _⟩ := h1
  obtain ⟨a2, n2, c2, rfl, _, _⟩ := h2
  obtain ⟨a3, n3, c3, rfl, _, _⟩ := h3
  obtain ⟨a4, n4, c4, rfl, _, _⟩ := h4
  go_enter Try.func8, Try.ntmps8
  go_wp2_with fail
  refine (right_call (two_last w _ _) (KV.below (w := w) (v := .slice a1 n1 c1) (ks := a) H1.out (below2 _ _ _)) (KV.below (w := w) (v := .slice a2 n2 c2) (ks := b) H2.out (below2 _ _ _))).mono ?_
  rintro e W1 ⟨rfl, hb1⟩
  have hb : Below w.heap.size w W1 := (below2 _ _ _).trans (hb1.mono (by simp; omega))
  have HB1 : Hid _ := hb
  have hbox : W1.heap[w.heap.size]? = some (.cells #[.slice a1 n1 c1, .slice a2 n2 c2, .slice a3 n3 c3, .slice a4 n4 c4] 24 (0, 0)) := (hb1.block _ (by simp; omega)).trans (two_first _ _ _)
  have d2 := cell_row hbox 2
  have d3 := cell_row hbox 3
  simp only [List.getElem?_toArray, List.getElem?_cons_succ, List.getElem?_cons_zero] at d2 d3
  clear hb1 hb hbox
  cases hr : rightB 16777215 a b
  · have HE : Hid (chkE a b c d = 190) := by show _ = _; unfold chkE; rw [hr]; rfl
    go_wp2
    go_ret
    exact ⟨by rw [HE.out]; rfl, HB1.out⟩
  · have HE : Hid (chkE a b c d = bif rightB 65535 c d then 0 else 190) := by show _ = _; unfold chkE; rw [hr]; rfl
    go_wp2_with fail
    refine (right_call (heap_alloc_new W1 _) (KV.below (w := w) (v := .slice a3 n3 c3) (ks := c) H3.out (HB1.out.trans ((below1 _ _).mono HB1.out.size))) (KV.below (w := w) (v := .slice a4 n4 c4) (ks := d) H4.out (HB1.out.trans ((below1 _ _).mono HB1.out.size)))).mono ?_
    rintro e W2 ⟨rfl, hb2⟩
    have HB2 : Hid (Below w.heap.size w W2) := HB1.out.trans (((below1 _ _).trans (hb2.mono (by simp))).mono HB1.out.size)
    clear hb2
    cases hr2 : rightB 65535 c d
    · rw [hr2] at HE
      go_wp2
      go_ret
      exact ⟨by rw [HE.out]; rfl, HB2.out⟩
    · rw [hr2] at HE
      go_wp2
      go_ret
      exact ⟨by rw [HE.out]; rfl, HB2.out⟩
end Go.Proofs.Ythejehbhjkmeeaa
