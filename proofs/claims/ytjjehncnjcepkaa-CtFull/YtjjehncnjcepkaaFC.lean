/- The order of connections: All's closure. Conditions: as said. -/
import Derived.Test.YtjjehncnjcepkaaFB
import Derived.Lib.Hide
namespace Go.Proofs.Ytjjehncnjcepkaa
open Go.RowKit Go.Sort
def encT (z : Int) (t : Tup) : List Value := (connC z t (turn t) false 30).toList
theorem encT_len (z : Int) (t : Tup) : (encT z t).length = 13 := rfl
theorem encT_one (z : Int) (t : Tup) : ∀ v ∈ encT z t, v.oneCell' = true := by
  intro v hv
  simp [encT, connC] at hv
  rcases hv with rfl | rfl | rfl | rfl | rfl | rfl | rfl | rfl | rfl | rfl | rfl | rfl | rfl <;> rfl
theorem all_closure (z : Int) (x y : Tup) (w : World) : Calls Try.prog 17 #[.agg (encT z x).toArray, .agg (encT z y).toArray] w fun e w' => e = .returned (.int .i64 (cfT x y)) ∧ ∃ q os, w' = grow (w.drewN q) os := by
  unfold encT
  rw [Array.toArray_toList, Array.toArray_toList]
  obtain ⟨A, hA⟩ : ∃ A, connC z x (turn x) false 30 = A := ⟨_, rfl⟩
  obtain ⟨B, hB⟩ : ∃ B, connC z y (turn y) false 30 = B := ⟨_, rfl⟩
  have hsA : A.size = 13 := by rw [← hA]; rfl
  have hsB : B.size = 13 := by rw [← hB]; rfl
  have heA : A.extract 1 (1 + 5) = tupC x.1 x.2.1 x.2.2.1 x.2.2.2.1 x.2.2.2.2 := by rw [← hA]; exact conn_orig _ _ _ _ _
  have heB : B.extract 1 (1 + 5) = tupC y.1 y.2.1 y.2.2.1 y.2.2.2.1 y.2.2.2.2 := by rw [← hB]; exact conn_orig _ _ _ _ _
  rw [hA, hB]
  have a1 := two_first w (.cells A 51) (.cells B 51)
  have b1 := two_last w (.cells A 51) (.cells B 51)
  have HIN : Hid _ := inOrder_any x y ((w.alloc (.cells A 51)).alloc (.cells B 51))
  unfold tv at HIN
  obtain ⟨TA, hTA⟩ : ∃ TA, tupC x.1 x.2.1 x.2.2.1 x.2.2.2.1 x.2.2.2.2 = TA := ⟨_, rfl⟩
  obtain ⟨TB, hTB⟩ : ∃ TB, tupC y.1 y.2.1 y.2.2.1 y.2.2.2.1 y.2.2.2.2 = TB := ⟨_, rfl⟩
  have h5A : TA.size = 5 := by rw [← hTA]; rfl
  have h5B : TB.size = 5 := by rw [← hTB]; rfl
  rw [hTA] at HIN heA
  rw [hTB] at HIN heB
  have A1 : Hid _ := a1
  have B1 : Hid _ := b1
  have EA : Hid _ := heA
  have EB : Hid _ := heB
  have S5A : Hid _ := h5A
  have S5B : Hid _ := h5B
  clear hA hB hTA hTB heA heB a1 b1 h5A h5B
  go_enter Try.func17, Try.ntmps17
  go_wp2_with (first
    | refine wpList_load_as rfl 44 _ rfl w.heap.size 1 5 rfl A TA 51 _ A1.out Try.underlying44 rfl EA.out S5A.out size5 ?_
    | refine wpList_load_as rfl 44 _ rfl (w.heap.size + 1) 1 5 rfl B TB 51 _ B1.out Try.underlying44 rfl EB.out S5B.out size5 ?_
    | fail)
  refine Calls.mono HIN.out ?_
  rintro e W1 ⟨rfl, q, os, rfl⟩
  go_wp2
  go_ret
  exact ⟨rfl, q, _, by rw [alloc_eq_grow, alloc_eq_grow, grow_grow, show (grow w (#[Obj.cells A 51 (0, 0)] ++ #[Obj.cells B 51 (0, 0)])).drewN q = grow (w.drewN q) (#[Obj.cells A 51 (0, 0)] ++ #[Obj.cells B 51 (0, 0)]) from rfl, grow_grow]⟩
end Go.Proofs.Ytjjehncnjcepkaa
