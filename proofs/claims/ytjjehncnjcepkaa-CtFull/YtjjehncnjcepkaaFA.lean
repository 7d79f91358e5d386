/- The order of tuples: cmp.Compare, cmp.Or, inOrder. Conditions: as said. -/
import Derived.Test.YtjjehncnjcepkaaCH
import Derived.Sort.Grow
import Derived.Handy
import Derived.Lib.Hide
namespace Go.Proofs.Ytjjehncnjcepkaa
open Go.RowKit Go.Sort
def cmpI (x y : Int) : Int := if x < y then -1 else if y < x then 1 else 0
def orI : List Int → Int
  | [] => 0
  | c :: r => if c = 0 then orI r else c
def cfT (x y : Tup) : Int := orI [cmpI x.1 y.1, cmpI x.2.1 y.2.1, cmpI x.2.2.1 y.2.2.1, cmpI x.2.2.2.1 y.2.2.2.1, cmpI x.2.2.2.2 y.2.2.2.2]
theorem isNaN_int (x : Int) (w : World) : Calls Try.prog 56 #[.int .i64 x] w fun e w' => e = .returned (.bool false) ∧ w' = w := by
  go_enter Try.func56, Try.ntmps56
  go_wp2
  go_ret
  exact ⟨by simp, rfl⟩
theorem isNaN_u32 (x : Int) (w : World) : Calls Try.prog 57 #[.int .u32 x] w fun e w' => e = .returned (.bool false) ∧ w' = w := by
  go_enter Try.func57, Try.ntmps57
  go_wp2
  go_ret
  exact ⟨by simp, rfl⟩
set_option linter.unusedSimpArgs false in
theorem compare_int (x y : Int) (w : World) : Calls Try.prog 35 #[.int .i64 x, .int .i64 y] w fun e w' => e = .returned (.int .i64 (cmpI x y)) ∧ w' = w := by
  have h1 := isNaN_int x w
  have h2 := isNaN_int y w
  unfold cmpI
  by_cases d1 : x < y
  all_goals by_cases d2 : y < x
  all_goals try (exfalso; omega)
  all_goals go_enter Try.func35, Try.ntmps35
  all_goals go_wp2_with (go_at_call 56; first | (refine h1.mono ?_; rintro e w' ⟨rfl, rfl⟩) | (refine h2.mono ?_; rintro e w' ⟨rfl, rfl⟩) | fail)
  all_goals go_ret
  all_goals exact ⟨by simp [d1, d2], rfl⟩
set_option linter.unusedSimpArgs false in
theorem compare_u32 (x y : Int) (w : World) : Calls Try.prog 36 #[.int .u32 x, .int .u32 y] w fun e w' => e = .returned (.int .i64 (cmpI x y)) ∧ w' = w := by
  have h1 := isNaN_u32 x w
  have h2 := isNaN_u32 y w
  unfold cmpI
  by_cases d1 : x < y
  all_goals by_cases d2 : y < x
  all_goals try (exfalso; omega)
  all_goals go_enter Try.func36, Try.ntmps36
  all_goals go_wp2_with (go_at_call 57; first | (refine h1.mono ?_; rintro e w' ⟨rfl, rfl⟩) | (refine h2.mono ?_; rintro e w' ⟨rfl, rfl⟩) | fail)
  all_goals go_ret
  all_goals exact ⟨by simp [d1, d2], rfl⟩
set_option maxHeartbeats 2000000 in
theorem or_any (c0 c1 c2 c3 c4 : Int) (g : Nat) (w : World) (h0 : w.cell? ⟨g, 0, none⟩ = some (.int .i64 c0)) (h1 : w.cell? ⟨g, 1, none⟩ = some (.int .i64 c1)) (h2 : w.cell? ⟨g, 2, none⟩ = some (.int .i64 c2)) (h3 : w.cell? ⟨g, 3, none⟩ = some (.int .i64 c3)) (h4 : w.cell? ⟨g, 4, none⟩ = some (.int .i64 c4)) :
    Calls Try.prog 34 #[.slice (some ⟨g, 0, none⟩) 5 5] w fun e w' => e = .returned (.int .i64 (orI [c0, c1, c2, c3, c4])) ∧ w' = w := by
  by_cases d0 : c0 = 0
  rotate_left
  · go_enter Try.func34, Try.ntmps34
    go_wp2
    go_rounds 1
    all_goals go_wp2
    all_goals go_ret
    all_goals exact ⟨by simp [orI, d0], rfl⟩
  by_cases d1 : c1 = 0
  rotate_left
  · go_enter Try.func34, Try.ntmps34
    go_wp2
    go_rounds 2
    all_goals go_wp2
    all_goals go_ret
    all_goals exact ⟨by simp [orI, d0, d1], rfl⟩
  by_cases d2 : c2 = 0
  rotate_left
  · go_enter Try.func34, Try.ntmps34
    go_wp2
    go_rounds 3
    all_goals go_wp2
    all_goals go_ret
    all_goals exact ⟨by simp [orI, d0, d1, d2], rfl⟩
  by_cases d3 : c3 = 0
  rotate_left
  · go_enter Try.func34, Try.ntmps34
    go_wp2
    go_rounds 4
    all_goals go_wp2
    all_goals go_ret
    all_goals exact ⟨by simp [orI, d0, d1, d2, d3], rfl⟩
  by_cases d4 : c4 = 0
  · go_enter Try.func34, Try.ntmps34
    go_wp2
    go_rounds 6
    all_goals go_wp2
    all_goals go_ret
    all_goals exact ⟨by simp [orI, d0, d1, d2, d3, d4], rfl⟩
  · go_enter Try.func34, Try.ntmps34
    go_wp2
    go_rounds 5
    all_goals go_wp2
    all_goals go_ret
    all_goals exact ⟨by simp [orI, d0, d1, d2, d3, d4], rfl⟩
end Go.Proofs.Ytjjehncnjcepkaa
