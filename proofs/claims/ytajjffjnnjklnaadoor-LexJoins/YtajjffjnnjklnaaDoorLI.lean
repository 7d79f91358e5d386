/- Operators at a text's beginning (lex.isOperator, lex.readOp). Conditions: none beyond a string's size. -/
import Derived.Test.YtajjffjnnjklnaaDoorLH
namespace Go.Proofs.YtajjffjnnjklnaaDoor
open Go.RowKit
set_option linter.unusedSimpArgs false
/-- Is a text an operator? -/
def opB (s : ByteArray) : Bool := s.toList == [38, 38] || (s.toList == [124, 124] || (s.toList == [61, 61] || (s.toList == [33, 61] || (s.toList == [60, 61] || (s.toList == [62, 61] || (s.toList == [60] || (s.toList == [62] || (s.toList == [33] || (s.toList == [40] || (s.toList == [41] || (s.toList == [123] || (s.toList == [125] || (s.toList == [44] || (s.toList == [47] || (s.toList == [46, 46])))))))))))))))
set_option maxHeartbeats 4000000 in
theorem isOperator_any (s : ByteArray) (w : World) :
    Calls Tryd.prog 39 #[.string s] w fun e w' => e = .returned (.bool (opB s)) ∧ w' = w := by
  go_enter Tryd.func39, Tryd.ntmps39
  go_wp2
  all_goals first
    | (exfalso; simp_all; done)
    | (go_ret; exact ⟨congrArg (fun b => Ending.returned (.bool b)) (by simp [opB, *]), rfl⟩)
def rdOp (s : ByteArray) : Array Value × Int := if 2 ≤ s.size ∧ opB (s.extract 0 2) = true then (tokC 5 (s.extract 0 2) 0 0, 2) else if 1 ≤ s.size ∧ opB (s.extract 0 1) = true then (tokC 5 (s.extract 0 1) 0 0, 1) else (tokC 5 ⟨#[]⟩ 0 0, 0)
set_option maxRecDepth 20000 in
set_option maxHeartbeats 4000000 in
theorem readOp_any (s : ByteArray) (hs : s.size ≤ maxLen) (h0 : 0 < s.size) (w : World) :
    Calls Tryd.prog 23 #[.string s] w fun e w' => e = .returned (.tuple #[.agg (rdOp s).1, .int .i64 (rdOp s).2]) ∧ Below w.heap.size w w' := by
  unfold maxLen at hs
  by_cases e1 : s.size = 1
  · have hx1 : s.extract 0 1 = s := by rw [← e1]; simp
    have hI : (s.size : Int) = 1 := by omega
    have hI2 : (s.size : Int) ≤ 2 := by omega
    cases h1 : opB s
    · have HZ : Hid (rdOp s = (tokC 5 ⟨#[]⟩ 0 0, 0)) := by
        show _ = _
        unfold rdOp
        rw [if_neg (by omega), if_neg (fun h => by rw [hx1, h1] at h; exact Bool.noConfusion h.2)]
      go_enter Tryd.func23, Tryd.ntmps23
      go_wp2_with fail
      refine scope_from ?_
      go_wp2_with fail
      go_step3
      rename_i K9 hK9
      refine hK9 _ _ ?_
      clear hK9 K9
      go_wp2_with fail
      refine (isOperator_any s _).mono ?_
      rintro e W ⟨rfl, hw9⟩
      rw [hw9, h1]
      clear hw9
      go_wp2_with fail
      go_step3
      show FromLabel _ _ _ _ _ _
      refine from_label rfl ?_
      go_wp2_with fail
      go_wp2
      simp only [Exit.jumpTo]
      refine bodyPost_ret (results_tok (p := 2) (u := 3) rfl _ _ w.heap.size _ rfl (heap_alloc_new _ _) rfl) rfl ⟨?_, (Below.refl _ _).alloc (Nat.le_refl _) _⟩
      rw [HZ.out]; rfl
    · have HZ : Hid (rdOp s = (tokC 5 s 0 0, 1)) := by
        show _ = _
        unfold rdOp
        rw [if_neg (by omega), if_pos ⟨by omega, by rw [hx1, h1]⟩, hx1]
      go_enter Tryd.func23, Tryd.ntmps23
      go_wp2_with fail
      refine scope_from ?_
      go_wp2_with fail
      go_step3
      rename_i K9 hK9
      refine hK9 _ _ ?_
      clear hK9 K9
      go_wp2_with fail
      refine (isOperator_any s _).mono ?_
      rintro e W ⟨rfl, hw9⟩
      rw [hw9, h1]
      clear hw9
      go_wp2
      simp only [Exit.jumpTo]
      refine bodyPost_ret (results_tok (p := 2) (u := 3) rfl _ _ w.heap.size _ rfl (heap_alloc_new _ _) rfl) rfl ⟨?_, (Below.refl _ _).alloc (Nat.le_refl _) _⟩
      rw [HZ.out]; rfl
  by_cases e2 : s.size = 2
  · have hx2 : s.extract 0 2 = s := by rw [← e2]; simp
    have hI : (s.size : Int) = 2 := by omega
    have hI2 : (s.size : Int) ≤ 2 := by omega
    have hI3 : (1 : Int) ≤ s.size := by omega
    cases h2 : opB s
    · cases h1 : opB (s.extract 0 1)
      · have HZ : Hid (rdOp s = (tokC 5 ⟨#[]⟩ 0 0, 0)) := by
          show _ = _
          unfold rdOp
          rw [if_neg (fun h => by rw [hx2, h2] at h; exact Bool.noConfusion h.2), if_neg (fun h => by rw [h1] at h; exact Bool.noConfusion h.2)]
        go_enter Tryd.func23, Tryd.ntmps23
        go_wp2_with fail
        refine scope_from ?_
        go_wp2_with fail
        go_step3
        rename_i K9 hK9
        refine hK9 _ _ ?_
        clear hK9 K9
        go_wp2_with fail
        refine (isOperator_any s _).mono ?_
        rintro e W ⟨rfl, hw9⟩
        rw [hw9, h2]
        clear hw9
        go_wp2_with fail
        go_step3
        show FromLabel _ _ _ _ _ _
        refine from_label rfl ?_
        go_wp2_with fail
        refine (isOperator_any (s.extract 0 1) _).mono ?_
        rintro e W ⟨rfl, hw9⟩
        rw [hw9, h1]
        clear hw9
        go_wp2_with fail
        go_step3
        show FromLabel _ _ _ _ _ _
        refine from_label rfl ?_
        go_wp2_with fail
        go_wp2
        simp only [Exit.jumpTo]
        refine bodyPost_ret (results_tok (p := 2) (u := 3) rfl _ _ w.heap.size _ rfl (heap_alloc_new _ _) rfl) rfl ⟨?_, (Below.refl _ _).alloc (Nat.le_refl _) _⟩
        rw [HZ.out]; rfl
      · have HZ : Hid (rdOp s = (tokC 5 (s.extract 0 1) 0 0, 1)) := by
          show _ = _
          unfold rdOp
          rw [if_neg (fun h => by rw [hx2, h2] at h; exact Bool.noConfusion h.2), if_pos ⟨by omega, h1⟩]
        go_enter Tryd.func23, Tryd.ntmps23
        go_wp2_with fail
        refine scope_from ?_
        go_wp2_with fail
        go_step3
        rename_i K9 hK9
        refine hK9 _ _ ?_
        clear hK9 K9
        go_wp2_with fail
        refine (isOperator_any s _).mono ?_
        rintro e W ⟨rfl, hw9⟩
        rw [hw9, h2]
        clear hw9
        go_wp2_with fail
        go_step3
        show FromLabel _ _ _ _ _ _
        refine from_label rfl ?_
        go_wp2_with fail
        refine (isOperator_any (s.extract 0 1) _).mono ?_
        rintro e W ⟨rfl, hw9⟩
        rw [hw9, h1]
        clear hw9
        go_wp2
        simp only [Exit.jumpTo]
        refine bodyPost_ret (results_tok (p := 2) (u := 3) rfl _ _ w.heap.size _ rfl (heap_alloc_new _ _) rfl) rfl ⟨?_, (Below.refl _ _).alloc (Nat.le_refl _) _⟩
        rw [HZ.out]; rfl
    · have HZ : Hid (rdOp s = (tokC 5 s 0 0, 2)) := by
        show _ = _
        unfold rdOp
        rw [if_pos ⟨by omega, by rw [hx2, h2]⟩, hx2]
      go_enter Tryd.func23, Tryd.ntmps23
      go_wp2_with fail
      refine scope_from ?_
      go_wp2_with fail
      go_step3
      rename_i K9 hK9
      refine hK9 _ _ ?_
      clear hK9 K9
      go_wp2_with fail
      refine (isOperator_any s _).mono ?_
      rintro e W ⟨rfl, hw9⟩
      rw [hw9, h2]
      clear hw9
      go_wp2
      simp only [Exit.jumpTo]
      refine bodyPost_ret (results_tok (p := 2) (u := 3) rfl _ _ w.heap.size _ rfl (heap_alloc_new _ _) rfl) rfl ⟨?_, (Below.refl _ _).alloc (Nat.le_refl _) _⟩
      rw [HZ.out]; rfl
  · have hI : (2 : Int) < s.size := by omega
    have hI2 : ¬ (s.size : Int) ≤ 2 := by omega
    have hI3 : (1 : Int) ≤ s.size := by omega
    have hI4 : (2 : Int) ≤ s.size := by omega
    cases h2 : opB (s.extract 0 2)
    · cases h1 : opB (s.extract 0 1)
      · have HZ : Hid (rdOp s = (tokC 5 ⟨#[]⟩ 0 0, 0)) := by
          show _ = _
          unfold rdOp
          rw [if_neg (fun h => by rw [h2] at h; exact Bool.noConfusion h.2), if_neg (fun h => by rw [h1] at h; exact Bool.noConfusion h.2)]
        go_enter Tryd.func23, Tryd.ntmps23
        go_wp2_with fail
        refine scope_from ?_
        go_wp2_with fail
        go_step3
        rename_i K9 hK9
        refine hK9 _ _ ?_
        clear hK9 K9
        go_wp2_with fail
        refine (isOperator_any (s.extract 0 2) _).mono ?_
        rintro e W ⟨rfl, hw9⟩
        rw [hw9, h2]
        clear hw9
        go_wp2_with fail
        go_step3
        show FromLabel _ _ _ _ _ _
        refine from_label rfl ?_
        go_wp2_with fail
        refine (isOperator_any (s.extract 0 1) _).mono ?_
        rintro e W ⟨rfl, hw9⟩
        rw [hw9, h1]
        clear hw9
        go_wp2_with fail
        go_step3
        show FromLabel _ _ _ _ _ _
        refine from_label rfl ?_
        go_wp2_with fail
        go_wp2
        simp only [Exit.jumpTo]
        refine bodyPost_ret (results_tok (p := 2) (u := 3) rfl _ _ w.heap.size _ rfl (heap_alloc_new _ _) rfl) rfl ⟨?_, (Below.refl _ _).alloc (Nat.le_refl _) _⟩
        rw [HZ.out]; rfl
      · have HZ : Hid (rdOp s = (tokC 5 (s.extract 0 1) 0 0, 1)) := by
          show _ = _
          unfold rdOp
          rw [if_neg (fun h => by rw [h2] at h; exact Bool.noConfusion h.2), if_pos ⟨by omega, h1⟩]
        go_enter Tryd.func23, Tryd.ntmps23
        go_wp2_with fail
        refine scope_from ?_
        go_wp2_with fail
        go_step3
        rename_i K9 hK9
        refine hK9 _ _ ?_
        clear hK9 K9
        go_wp2_with fail
        refine (isOperator_any (s.extract 0 2) _).mono ?_
        rintro e W ⟨rfl, hw9⟩
        rw [hw9, h2]
        clear hw9
        go_wp2_with fail
        go_step3
        show FromLabel _ _ _ _ _ _
        refine from_label rfl ?_
        go_wp2_with fail
        refine (isOperator_any (s.extract 0 1) _).mono ?_
        rintro e W ⟨rfl, hw9⟩
        rw [hw9, h1]
        clear hw9
        go_wp2
        simp only [Exit.jumpTo]
        refine bodyPost_ret (results_tok (p := 2) (u := 3) rfl _ _ w.heap.size _ rfl (heap_alloc_new _ _) rfl) rfl ⟨?_, (Below.refl _ _).alloc (Nat.le_refl _) _⟩
        rw [HZ.out]; rfl
    · have HZ : Hid (rdOp s = (tokC 5 (s.extract 0 2) 0 0, 2)) := by
        show _ = _
        unfold rdOp
        rw [if_pos ⟨by omega, by rw [h2]⟩]
      go_enter Tryd.func23, Tryd.ntmps23
      go_wp2_with fail
      refine scope_from ?_
      go_wp2_with fail
      go_step3
      rename_i K9 hK9
      refine hK9 _ _ ?_
      clear hK9 K9
      go_wp2_with fail
      refine (isOperator_any (s.extract 0 2) _).mono ?_
      rintro e W ⟨rfl, hw9⟩
      rw [hw9, h2]
      clear hw9
      go_wp2
      simp only [Exit.jumpTo]
      refine bodyPost_ret (results_tok (p := 2) (u := 3) rfl _ _ w.heap.size _ rfl (heap_alloc_new _ _) rfl) rfl ⟨?_, (Below.refl _ _).alloc (Nat.le_refl _) _⟩
      rw [HZ.out]; rfl
end Go.Proofs.YtajjffjnnjklnaaDoor
