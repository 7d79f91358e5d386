/- lives: the walk. No condition. -/
import Derived.Test.YthejehbhjkmeeaaKO
import Derived.Test.YthejehbhjkmeeaaKP
namespace Go.Proofs.Ythejehbhjkmeeaa
open Go.RowKit
def rowsZ : Array Value := (rowZ 1 nmB ++ rowZ 3 nmR ++ rowZ 1 nmA).toArray
theorem rs_lives {w : World} {g : Nat} (hg : w.heap[g]? = some (.cells rowsZ 47 (0, 0))) : RS w (some ⟨g, 0, none⟩) 3 livesR := by
  refine ⟨rfl, by omega, fun r hr => ?_, .inr ⟨g, 0, rfl, fun i r hi => ?_⟩⟩
  · simp only [livesR, List.mem_cons, List.not_mem_nil, or_false] at hr
    rcases hr with rfl | rfl | rfl
    · exact rwZ_ok _ _ (by decide)
    · exact rwZ_ok _ _ (by decide)
    · exact rwZ_ok _ _ (by decide)
  · match i, hi with
    | 0, hi =>
      cases hi
      intro j v hv
      rw [cell_row hg]
      match j, hv with
      | 0, hv | 1, hv | 2, hv | 3, hv | 4, hv | 5, hv | 6, hv | 7, hv | 8, hv | 9, hv | 10, hv | 11, hv | 12, hv => exact hv
      | j + 13, hv => simp [rwZ, rowZ] at hv
    | 1, hi =>
      cases hi
      intro j v hv
      rw [cell_row hg]
      match j, hv with
      | 0, hv | 1, hv | 2, hv | 3, hv | 4, hv | 5, hv | 6, hv | 7, hv | 8, hv | 9, hv | 10, hv | 11, hv | 12, hv => exact hv
      | j + 13, hv => simp [rwZ, rowZ] at hv
    | 2, hi =>
      cases hi
      intro j v hv
      rw [cell_row hg]
      match j, hv with
      | 0, hv | 1, hv | 2, hv | 3, hv | 4, hv | 5, hv | 6, hv | 7, hv | 8, hv | 9, hv | 10, hv | 11, hv | 12, hv => exact hv
      | j + 13, hv => simp [rwZ, rowZ] at hv
    | i + 3, hi => simp [livesR] at hi
set_option maxRecDepth 20000 in
set_option maxHeartbeats 4000000 in
theorem lives_any (w : World) : Calls Try.prog 7 #[] w fun e w' => e = .returned (.bool true) ∧ Below w.heap.size w w' := by
  go_enter Try.func7, Try.ntmps7
  go_wp2_with fail
  refine (update_any _ _ _ _ [] [] [] [] _ _ _ livesR _ KV.nil KV.nil KV.nil KV.nil (rs_lives (heap_alloc_new _ _))).mono ?_
  rintro e W1 hpost
  unfold UpdPost at hpost
  rw [lives_upd] at hpost
  obtain ⟨hb1, u1, u2, u3, u4, rfl, k1, k2, k3, k4⟩ := hpost
  have HB1 : Hid (Below w.heap.size w W1) := (below1 _ _).trans (hb1.mono (by simp))
  obtain ⟨b1, m1, d1, rfl, l1, q1⟩ := k1
  obtain ⟨b2, m2, d2, rfl, l2, q2⟩ := k2
  obtain ⟨b3, m3, d3, rfl, l3, q3⟩ := k3
  obtain ⟨b4, m4, d4, rfl, l4, q4⟩ := k4
  obtain rfl : m1 = 2 := q1.len.symm
  obtain rfl : m2 = 1 := q2.len.symm
  obtain ⟨g1, o1, rfl, c10, c11, hg1⟩ := q1.at (k := 0) (t := ⟨nmA, 1⟩) rfl
  have HQ2 : Hid _ := q2
  unfold nmA at c10
  simp only [Nat.zero_mul, Nat.add_zero] at c10 c11
  clear hb1 q1 q2 q3 q4 l1 l2 l3 l4
  go_wp2_with fail
  refine (find_any _ _ _ [⟨nmR, 3⟩] nmR _ (HQ2.out.below (below1 _ _))).mono ?_
  rintro e W2 ⟨rfl, hb2⟩
  have hbx : W2.heap[W1.heap.size]? = some (.cells #[.slice (some ⟨g1, o1, none⟩) 2 d1, .slice b2 1 d2, .slice b3 m3 d3, .slice b4 m4 d4] 24 (0, 0)) := (hb2.block _ (by simp)).trans (heap_alloc_new _ _)
  have f0 := cell_row hbx 0
  simp only [List.getElem?_toArray, List.getElem?_cons_zero] at f0
  have hb3 : Below W1.heap.size W1 W2 := (below1 _ _).trans (hb2.mono (by simp))
  have c20 := (hb3.cell (p := ⟨g1, o1, none⟩) hg1).trans c10
  have c21 := (hb3.cell (p := ⟨g1, o1 + 1, none⟩) hg1).trans c11
  have HB2 : Hid (Below w.heap.size w W2) := HB1.out.trans (hb3.mono HB1.out.size)
  clear hb2 hb3 hbx c10 c11 hg1
  rw [show findV [⟨nmR, 3⟩] nmR = .tuple #[.int .i64 3, .bool true] from by kernel_rfl]
  go_wp2_with fail
  refine (check_any _ _ _ _ [] [] [⟨⟨#[120]⟩, 0⟩] [] _ KV.nil KV.nil ⟨_, 1, 1, rfl, Nat.le_refl _, ks_one W2 ⟨⟨#[120]⟩, 0⟩ (by decide)⟩ KV.nil).mono ?_
  rintro e W3 ⟨rfl, hb3⟩
  have HB3 : Hid (Below w.heap.size w W3) := HB2.out.trans (((below1 _ _).trans (hb3.mono (by simp))).mono HB2.out.size)
  rw [lives_chk]
  clear hb3
  go_wp2
  go_ret
  exact ⟨rfl, HB3.out⟩
end Go.Proofs.Ythejehbhjkmeeaa
