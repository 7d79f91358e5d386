/- The address token at a text's beginning (lex.readMac). Conditions: none beyond a string's size. -/
import Derived.Test.YtajjffjnnjklnaaDoorLD
import Derived.Laws.ResultCell
namespace Go.Proofs.YtajjffjnnjklnaaDoor
open Go.RowKit
/-- A token's cells. -/
def tokC (kind : Int) (text : ByteArray) (num at9 : Int) : Array Value := #[.int .i64 kind, .string text, .int .u64 num, .int .i64 at9]
theorem sizeTok : (Tryd.prog.info? 32).map (·.size) = some 4 := by kernel_rfl
theorem results_tok {fn : Func} {p u : Tmp} (h : fn.results = #[.cell p 32, .tmp u]) (tmps : Array Value) (w : World) (g : Nat) (cs : Array Value)
    (hp : tmps.getD p undef = .pointer (some ⟨g, 0, none⟩)) (hg : w.heap[g]? = some (.cells cs 32 (0, 0))) (hs : cs.size = 4) :
    (results fn tmps).run Tryd.prog w = .ok (.tuple #[.agg cs, tmps.getD u undef]) w := by
  rw [results_cell_tmp h, hp]
  simp only [asAddr, Sem.run_pure, Result.andThen_ok, run_loadVar_row w g 32 32 cs (0, 0) _ hg Tryd.underlying32 rfl (show (Tryd.prog.info? 32).map (·.size) = some cs.size by rw [hs]; exact sizeTok)]
/-- What readMac tells. -/
def rdMac (s : ByteArray) : Array Value × Int := match macSpec (s.extract 0 (min s.size 17)) with | some m => (tokC 3 (s.extract 0 (min s.size 17)) m 0, 17) | none => (tokC 0 ⟨#[]⟩ 0 0, 0)
set_option maxRecDepth 20000 in
set_option maxHeartbeats 1000000 in
theorem readMac_any (s : ByteArray) (hs : s.size ≤ maxLen) (w : World) :
    Calls Tryd.prog 21 #[.string s] w fun e w' => e = .returned (.tuple #[.agg (rdMac s).1, .int .i64 (rdMac s).2]) ∧ Below w.heap.size w w' := by
  unfold maxLen at hs
  by_cases h17 : s.size < 17
  · have hI : (s.size : Int) < 17 := by omega
    have hm : min s.size 17 = s.size := by omega
    have HM : Hid (∀ W, Calls Tryd.prog 37 #[.string s] W fun e w' => e = .returned (.tuple #[.int .u64 0, .bool false]) ∧ w' = W) := by
      show ∀ W, _
      intro W
      have h := mac_any s W
      rw [show macSpec s = none by unfold macSpec; rw [if_neg (by omega)]] at h
      exact h
    have HR : Hid (rdMac s = (tokC 0 ⟨#[]⟩ 0 0, 0)) := by
      show _ = _
      unfold rdMac; rw [hm, show macSpec (s.extract 0 s.size) = none by unfold macSpec; rw [if_neg (by simp; omega)]]
    clear hm h17
    go_enter Tryd.func21, Tryd.ntmps21
    go_wp2_with fail
    refine (HM.out _).mono ?_
    rintro e W ⟨rfl, hw⟩
    rw [hw]
    clear hw
    go_wp2
    refine bodyPost_ret (results_tok (p := 2) (u := 3) rfl _ _ w.heap.size _ rfl (heap_alloc_new _ _) rfl) rfl ⟨?_, (Below.refl _ _).alloc (Nat.le_refl _) _⟩
    rw [HR.out]; rfl
  · by_cases heq : s.size = 17
    · have hI1 : (s.size : Int) ≤ 17 := by omega
      have hI2 : (17 : Int) ≤ s.size := by omega
      have hfull : s.extract 0 17 = s := by rw [← heq]; simp
      have hm : min s.size 17 = 17 := by omega
      have HM : Hid (∀ W, Calls Tryd.prog 37 #[.string s] W fun e w' => e = .returned (.tuple #[.int .u64 ((macSpec s).getD 0), .bool (macSpec s).isSome]) ∧ w' = W) := fun W => mac_any _ W
      cases hc : macSpec s with
      | none =>
        have HR : Hid (rdMac s = (tokC 0 ⟨#[]⟩ 0 0, 0)) := by
          show _ = _
          unfold rdMac; rw [hm, hfull, hc]
        rw [hc] at HM
        have HM : Hid (∀ W, Calls Tryd.prog 37 #[.string s] W fun e w' => e = .returned (.tuple #[.int .u64 0, .bool false]) ∧ w' = W) := HM
        clear hm h17 hc hfull heq
        go_enter Tryd.func21, Tryd.ntmps21
        go_wp2_with fail
        refine (HM.out _).mono ?_
        rintro e W ⟨rfl, hw⟩
        rw [hw]
        clear hw
        go_wp2
        refine bodyPost_ret (results_tok (p := 2) (u := 3) rfl _ _ w.heap.size _ rfl (heap_alloc_new _ _) rfl) rfl ⟨?_, (Below.refl _ _).alloc (Nat.le_refl _) _⟩
        rw [HR.out]; rfl
      | some m =>
        have HR : Hid (rdMac s = (tokC 3 s m 0, 17)) := by
          show _ = _
          unfold rdMac; rw [hm, hfull, hc]
        rw [hc] at HM
        have HM : Hid (∀ W, Calls Tryd.prog 37 #[.string s] W fun e w' => e = .returned (.tuple #[.int .u64 m, .bool true]) ∧ w' = W) := HM
        clear hm h17 hc hfull heq
        go_enter Tryd.func21, Tryd.ntmps21
        go_wp2_with fail
        refine (HM.out _).mono ?_
        rintro e W ⟨rfl, hw⟩
        rw [hw]
        clear hw
        go_wp2
        refine bodyPost_ret (results_tok (p := 2) (u := 3) rfl _ _ w.heap.size _ rfl (heap_alloc_new _ _) rfl) rfl ⟨?_, (Below.refl _ _).alloc (Nat.le_refl _) _⟩
        rw [HR.out]
        show Ending.returned (.tuple #[.agg (tokC 3 s m 0), .int .i64 (s.size : Int)]) = Ending.returned (.tuple #[.agg (tokC 3 s m 0), .int .i64 17])
        rw [show (s.size : Int) = 17 by omega]
    · have hI : (17 : Int) < s.size := by omega
      have hm : min s.size 17 = 17 := by omega
      have HM : Hid (∀ W, Calls Tryd.prog 37 #[.string (s.extract 0 17)] W fun e w' => e = .returned (.tuple #[.int .u64 ((macSpec (s.extract 0 17)).getD 0), .bool (macSpec (s.extract 0 17)).isSome]) ∧ w' = W) := fun W => mac_any _ W
      cases hc : macSpec (s.extract 0 17) with
      | none =>
        have HR : Hid (rdMac s = (tokC 0 ⟨#[]⟩ 0 0, 0)) := by
          show _ = _
          unfold rdMac; rw [hm, hc]
        rw [hc] at HM
        have HM : Hid (∀ W, Calls Tryd.prog 37 #[.string (s.extract 0 17)] W fun e w' => e = .returned (.tuple #[.int .u64 0, .bool false]) ∧ w' = W) := HM
        clear hm h17 hc heq
        go_enter Tryd.func21, Tryd.ntmps21
        go_wp2_with fail
        refine (HM.out _).mono ?_
        rintro e W ⟨rfl, hw⟩
        rw [hw]
        clear hw
        go_wp2
        refine bodyPost_ret (results_tok (p := 2) (u := 3) rfl _ _ w.heap.size _ rfl (heap_alloc_new _ _) rfl) rfl ⟨?_, (Below.refl _ _).alloc (Nat.le_refl _) _⟩
        rw [HR.out]; rfl
      | some m =>
        have HR : Hid (rdMac s = (tokC 3 (s.extract 0 17) m 0, 17)) := by
          show _ = _
          unfold rdMac; rw [hm, hc]
        rw [hc] at HM
        have HM : Hid (∀ W, Calls Tryd.prog 37 #[.string (s.extract 0 17)] W fun e w' => e = .returned (.tuple #[.int .u64 m, .bool true]) ∧ w' = W) := HM
        clear hm h17 hc heq
        go_enter Tryd.func21, Tryd.ntmps21
        go_wp2_with fail
        refine (HM.out _).mono ?_
        rintro e W ⟨rfl, hw⟩
        rw [hw]
        clear hw
        go_wp2
        refine bodyPost_ret (results_tok (p := 2) (u := 3) rfl _ _ w.heap.size _ rfl (heap_alloc_new _ _) rfl) rfl ⟨?_, (Below.refl _ _).alloc (Nat.le_refl _) _⟩
        rw [HR.out]; rfl
end Go.Proofs.YtajjffjnnjklnaaDoor
