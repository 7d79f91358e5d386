/- The law FieldApart where a number is no field, or the two are one. No condition. -/
import Derived.Test.YtbodenmdcbfflaaDoorFK
namespace Go.Proofs.YtbodenmdcbfflaaDoor
open Go.RowKit

set_option maxHeartbeats 1000000 in
set_option maxRecDepth 20000 in
theorem apart_out (f g : Int) (h : f = g ∨ f < 1 ∨ 28 < f ∨ g < 1 ∨ 28 < g) (cs : Array Value) (a b : Int) (w : World) :
    Calls Tryd.prog 6 #[.agg cs, .int .i64 f, .int .u64 a, .int .i64 g, .int .u64 b] w fun e w' => e = .returned (.bool true) ∧ Below w.heap.size w w' := by
  by_cases h1 : f = g
  · subst h1
    go_enter Tryd.func6, Tryd.ntmps6
    go_wp2_with fail
    refine (lives_any _).mono ?_
    rintro e W1 ⟨rfl, hb1⟩
    have HB1 : Hid (Below w.heap.size w W1) := (below1 w _).trans (hb1.mono (by simp))
    clear hb1
    go_wp2
    go_ret
    exact ⟨rfl, HB1.out⟩
  · have n1 : (f == g) = false := by simp [h1]
    by_cases h2 : f < 1
    · go_enter Tryd.func6, Tryd.ntmps6
      go_wp2_with fail
      refine (lives_any _).mono ?_
      rintro e W1 ⟨rfl, hb1⟩
      have HB1 : Hid (Below w.heap.size w W1) := (below1 w _).trans (hb1.mono (by simp))
      clear hb1 h
      go_wp2
      go_ret
      exact ⟨rfl, HB1.out⟩
    · have h2' : 1 ≤ f := by omega
      by_cases h3 : 28 < f
      · go_enter Tryd.func6, Tryd.ntmps6
        go_wp2_with fail
        refine (lives_any _).mono ?_
        rintro e W1 ⟨rfl, hb1⟩
        have HB1 : Hid (Below w.heap.size w W1) := (below1 w _).trans (hb1.mono (by simp))
        clear hb1 h
        go_wp2
        go_ret
        exact ⟨rfl, HB1.out⟩
      · have h3' : f ≤ 28 := by omega
        by_cases h4 : g < 1
        · go_enter Tryd.func6, Tryd.ntmps6
          go_wp2_with fail
          refine (lives_any _).mono ?_
          rintro e W1 ⟨rfl, hb1⟩
          have HB1 : Hid (Below w.heap.size w W1) := (below1 w _).trans (hb1.mono (by simp))
          clear hb1 h
          go_wp2
          go_ret
          exact ⟨rfl, HB1.out⟩
        · have h5 : 28 < g := by omega
          have h4' : 1 ≤ g := by omega
          go_enter Tryd.func6, Tryd.ntmps6
          go_wp2_with fail
          refine (lives_any _).mono ?_
          rintro e W1 ⟨rfl, hb1⟩
          have HB1 : Hid (Below w.heap.size w W1) := (below1 w _).trans (hb1.mono (by simp))
          clear hb1 h
          go_wp2
          go_ret
          exact ⟨rfl, HB1.out⟩
end Go.Proofs.YtbodenmdcbfflaaDoor
