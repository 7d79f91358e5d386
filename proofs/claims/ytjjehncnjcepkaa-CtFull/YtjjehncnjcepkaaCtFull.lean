/- CtFull: a full zone stays as it is, and others have room; of any packets. For every input; no condition beyond the given row's own. -/
import Derived.Test.YtjjehncnjcepkaaFH
namespace Go.Proofs.Ytjjehncnjcepkaa
open Go.ChangeShapes Go.WideShapes Go.ChangeAt Go.RowKit
set_option linter.unusedSimpArgs false in
set_option maxRecDepth 20000 in
set_option maxHeartbeats 4000000 in
theorem full_early (room : Int) (a : Option Addr) (n c : Nat) (z : Int) (w : World) (h : z < 0 ∨ 65534 < z) :
    Calls Try.prog 3 #[.int .i64 room, .slice a n c, .int .i64 z] w fun e w' => e = .returned (.bool true) ∧ Below w.heap.size w w' := by
  obtain ⟨m, hm0, hm1, hmm⟩ := full_num room
  have hb6 := bound6 room
  have HN : Hid _ := new_emp (m + 1) (by omega) (by omega) w
  have hne := eql_ptab
  by_cases d1 : z < 0
  all_goals by_cases d2 : 65534 < z
  all_goals try (exfalso; omega)
  all_goals clear h
  all_goals rcases hmm with ⟨hsg, hm⟩ | ⟨hsg, hm⟩
  all_goals go_enter Try.func3, Try.ntmps3
  all_goals go_wp2_with fail
  all_goals clear hm hsg hb6
  all_goals refine Calls.mono HN.out ?_
  all_goals rintro e W1 ⟨rfl, h1, b1⟩
  all_goals go_wp2_with fail
  all_goals refine (lives_any _).mono ?_
  all_goals rintro e W2 ⟨rfl, b2⟩
  all_goals have B2 : Hid (Below w.heap.size w W2) := b1.trans (b2.mono b1.size)
  all_goals clear h1 b1 b2
  all_goals go_wp2
  all_goals go_ret
  all_goals exact ⟨rfl, B2.out⟩
theorem full_any (room : Int) (a : Option Addr) (n c : Nat) (l : List (Array Value)) (z : Int) (w : World) (hP : PL w a n l) :
    Calls Try.prog 3 #[.int .i64 room, .slice a n c, .int .i64 z] w fun e w' => e = .returned (.bool true) ∧ Below w.heap.size w w' := by
  by_cases h : z < 0 ∨ 65534 < z
  · exact full_early room a n c z w h
  · exact full_walk room a n c l z w hP (by omega) (by omega)

set_option maxRecDepth 100000 in
theorem ctFull_lifted (os : Os) (started : os.Started) (H : Type) (enc : TypeId × Value → H) :
    ReturnsInHanded {} Try.checked os 3 .any (Rows.ctFullSpec.pre6 enc Try.prog Try.f3 Rows.ctFullRow.domain false) (Rows.ctFullSpec.post enc Try.prog Try.f3 false true false false) := by
  refine returnsInHanded_of_change_sized (C := Try.checked) own started (by kernel_rfl) Try.func3
    (ChangeSpec.witness6 (enc := enc) (C := Try.checked) false ⟨#[], #[.int .i64 0, .slice none 0 0, .int .i64 0], []⟩ 8 (by kernel_rfl) (by kernel_rfl) (by kernel_rfl) (by kernel_rfl)) ?_
  intro W base args ds gs before hval0 hW _ hsz0 _
  have hsz : (DataW.weightsEach Try.prog (Try.f3.params.toList ++ Rows.ctFullSpec.plain.varTypes Try.prog) (ds ++ gs)).all (· ≤ reachBytes) = true := hsz0
  clear hsz0
  have hval : ∀ (j : Nat) t v, Try.f3.params[j]? = some t → args[j]? = some v → Value.okWide Try.prog W .any base t v := hval0
  have hW' := hW
  obtain ⟨p, q, hA0, hV, rfl, _, _⟩ := hW
  have hA : DataW.TrodAll enc Try.prog W 0 (fun _ => true) true Try.f3.params.toList args.toList ds p := hA0
  rw [Try.params3] at hA hval hsz
  obtain ⟨v0, vs0, d0, ds0, p0, q0, hargs, rfl, rfl, h0, r0⟩ := trodAll_cons hA
  obtain ⟨v1, vs1, d1, ds1, p1, q1, rfl, rfl, rfl, h1, r1⟩ := trodAll_cons r0
  obtain ⟨v2, vs2, d2, ds2, p2, q2, rfl, rfl, rfl, h2, r2⟩ := trodAll_cons r1
  obtain ⟨rfl, rfl, rfl⟩ := trodAll_nil r2
  obtain rfl : args = #[v0, v1, v2] := by cases args; simp_all
  obtain ⟨rfl, rfl⟩ := trodVars_none hV
  have k1 := h1
  have lt1 : ∀ x ∈ p1, x.block < W.heap.size := by obtain ⟨m, hm⟩ := k1; exact DataW.trod_lt m _ _ _ hm
  obtain ⟨a0, rfl, rfl, rfl, w0⟩ := open_int Try.underlying3 (hval 0 3 v0 rfl rfl) h0
  obtain ⟨l1, b1, n1, c1, rfl, T1⟩ := open_packets 1 (hval 1 22 v1 rfl rfl) h1 hsz rfl rfl
  obtain ⟨a2, rfl, rfl, rfl, w2⟩ := open_int Try.underlying3 (hval 2 3 v2 rfl rfl) h2
  clear hA0 hval0
  refine (full_any a0 b1 n1 c1 l1 a2 W T1).mono fun e W' ⟨he, bel⟩ => ?_
  subst he
  exact ⟨_, rfl, _, _, _, [], _, [], hW', trodAll_mk1 (shut_bool Try.underlying4 _), (trodAll_cons_mk (shut_int Try.underlying3 w0) (trodAll_cons_mk (Below.trod laidOut (by kernel_rfl) (of_decide_eq_true (by kernel_rfl)) k1 bel lt1) (trodAll_cons_mk (shut_int Try.underlying3 w2) trodAll_mk0))), rfl, bel.frame _, fun h => by cases h⟩

theorem ctFull_proved : Rows.CtFullSaid :=
  OpenClaim.holds_of_wide 3 Try.f3 rfl rfl rfl rfl rfl rfl rfl ⟨rfl, rfl, rfl, rfl, rfl⟩ rfl rfl rfl rfl rfl (by kernel_rfl) Try.func3 (by kernel_rfl)
    (of_decide_eq_true (by kernel_rfl)) (by unfold Func.isWrapper; first | (rw [if_pos (by decide +kernel)]; kernel_rfl) | (rw [if_neg (by decide +kernel)]; exact ⟨rfl, rfl⟩))
    (fun os started H enc _ => ctFull_lifted os started H enc)
#print axioms ctFull_proved
end Go.Proofs.Ytjjehncnjcepkaa
