/- heap.Push where nothing has to move; the queue's add. Conditions: as said. -/
import Derived.Test.YtjjehncnjcepkaaCI
namespace Go.Proofs.Ytjjehncnjcepkaa
open Go.RowKit
theorem nilchk (ats : Array TypeId) (ty : TypeId) (a : Addr) (s n : String) (W : World) : (Builtin.ssaWrapNilChk_ ats ty #[.pointer (some a), strVal s, strVal n]).run Try.prog W = .ok (.pointer (some a)) W := rfl
theorem run_meth (name : String) (f : Nat) (hr0 : (Try.prog.info? 95).map (fun i => (i.methods.find? (·.name == name)).map (fun m => (m.path.size, m.func))) = some (some (0, some (f, false)))) (a : Addr) (W : World) (v : Value) (hv : (loadVar 63 a).run Try.prog W = .ok v W) : (method 247 95 (.pointer (some a)) name).run Try.prog W = .ok (f, v) W := by
  have hr := hr0
  cases hi : Try.prog.info? 95 with
  | none => rw [hi] at hr; cases hr
  | some i =>
    rw [hi] at hr
    simp only [Option.map_some, Option.some.injEq] at hr
    cases hm : i.methods.find? (·.name == name) with
    | none => rw [hm] at hr; cases hr
    | some m =>
      rw [hm] at hr
      simp only [Option.map_some, Option.some.injEq, Prod.mk.injEq] at hr
      obtain ⟨hp, hf⟩ := hr
      have hp0 : m.path = #[] := Array.size_eq_zero_iff.1 hp
      have ht : (typeInfo 95).run Try.prog W = .ok i W := by simp [typeInfo, hi]
      unfold method
      simp only [Sem.run_bind, ht, Result.andThen_ok, hm, hp0, follow, Sem.run_pure, hf, receiverAt, run_underlying Try.underlying95, Place.get, Array.isEmpty_empty, if_true, nilchk, asAddr, hv]
theorem load_queue {a : Addr} {W : World} {v : Value} (h : W.cell? a = some v) : (loadVar 63 a).run Try.prog W = .ok v W := by
  simp [go_sem, loadVar, h]
theorem meth_len {a : Addr} {W : World} {v : Value} (h : W.cell? a = some v) : (method 247 95 (.pointer (some a)) "Len").run Try.prog W = .ok (89, v) W := run_meth "Len" _ (by kernel_rfl) a W v (load_queue h)
theorem meth_less {a : Addr} {W : World} {v : Value} (h : W.cell? a = some v) : (method 247 95 (.pointer (some a)) "Less").run Try.prog W = .ok (90, v) W := run_meth "Less" _ (by kernel_rfl) a W v (load_queue h)
set_option maxHeartbeats 400000 in
theorem qLen_any (a : Option Addr) (n c : Nat) (w : World) : Calls Try.prog 89 #[.slice a n c] w fun e w' => e = .returned (.int .i64 n) ∧ w' = w := by
  go_enter Try.func89, Try.ntmps89
  go_wp2
  go_ret
  exact ⟨rfl, rfl⟩
set_option maxRecDepth 20000 in
set_option maxHeartbeats 1000000 in
theorem up_zero (x : Value) (w : World) : Calls Try.prog 61 #[x, .int .i64 0] w fun e w' => e = .returned (.tuple #[]) ∧ w' = w := by
  go_enter Try.func61, Try.ntmps61
  go_wp2_with fail
  go_loopw [1] (fun i wr => i = .int .i64 0 ∧ wr = w) (fun _ _ => 0)
  case atStart => exact ⟨rfl, rfl⟩
  case round =>
    obtain ⟨rfl, rfl⟩ := hrel
    go_wp2
    go_end0
    exact ⟨rfl, rfl⟩
set_option maxRecDepth 20000 in
set_option maxHeartbeats 1000000 in
theorem hPush_zero (tb zb eb B : Nat) (room clock : Int) (q : Value) (z : Int) (o r : Tup) (nat : Bool) (ex pl : Int) (w : World) (h : w.heap[tb]? = some (.cells (tabV room clock zb q) 65 (0, 0))) (he : w.heap[eb]? = some (.cells (entC z o r nat ex pl) 68 (0, 0))) (hq : w.ownsRow B 66 1 q 0 []) (hB : B ≤ w.heap.size) (hBt : B ≤ tb) (hBe : B ≤ eb) :
    Calls Try.prog 70 #[.iface 95 (.pointer (some ⟨tb, 3, none⟩)), .iface 66 (.pointer (some ⟨eb, 0, none⟩))] w fun e w' => e = .returned (.tuple #[]) ∧ ∃ qa qc, w'.heap[tb]? = some (.cells (tabV room clock zb (.slice qa 1 qc)) 65 (0, 0)) ∧ w'.heap[eb]? = some (.cells (entC z o r nat ex 0) 68 (0, 0)) ∧ w'.ownsRow B 66 1 (.slice qa 1 qc) 1 [.pointer (some ⟨eb, 0, none⟩)] ∧ (∀ g, g < w.heap.size → g ≠ tb → g ≠ eb → some g ≠ q.ownBlock → w'.heap[g]? = w.heap[g]?) ∧ Below B w w' := by
  have HP : Hid _ := qPush_any tb zb eb B 0 (by omega) room clock q [] z o r nat ex pl w h he hq hB hBt hBe
  clear h he hq
  go_enter Try.func70, Try.ntmps70
  go_wp2_with fail
  refine Calls.mono HP.out ?_
  rintro e W1 ⟨rfl, qa, qc, t1, e1, o1, n1, b1⟩
  have c3 : W1.cell? ⟨tb, 3, none⟩ = some (.slice qa 1 qc) := cell_row t1 3
  have K1 : Hid _ := And.intro t1 (And.intro e1 (And.intro o1 (And.intro n1 b1)))
  clear t1 e1 o1 n1 b1
  have hm := meth_len c3
  go_wp2_with fail
  refine (qLen_any qa 1 qc _).mono ?_
  rintro e W2 ⟨rfl, hw2⟩
  rw [hw2]
  clear hw2 hm
  go_wp2_with fail
  refine (up_zero _ _).mono ?_
  rintro e W3 ⟨rfl, hw3⟩
  rw [hw3]
  clear hw3
  go_wp2
  go_end0
  exact ⟨rfl, qa, qc, K1.out⟩
set_option maxHeartbeats 400000 in
theorem qadd_zero (tb zb eb B : Nat) (room clock : Int) (q : Value) (z : Int) (o r : Tup) (nat : Bool) (ex pl : Int) (w : World) (h : w.heap[tb]? = some (.cells (tabV room clock zb q) 65 (0, 0))) (he : w.heap[eb]? = some (.cells (entC z o r nat ex pl) 68 (0, 0))) (hq : w.ownsRow B 66 1 q 0 []) (hB : B ≤ w.heap.size) (hBt : B ≤ tb) (hBe : B ≤ eb) :
    Calls Try.prog 64 #[.pointer (some ⟨tb, 3, none⟩), .pointer (some ⟨eb, 0, none⟩)] w fun e w' => e = .returned (.tuple #[]) ∧ ∃ qa qc, w'.heap[tb]? = some (.cells (tabV room clock zb (.slice qa 1 qc)) 65 (0, 0)) ∧ w'.heap[eb]? = some (.cells (entC z o r nat ex 0) 68 (0, 0)) ∧ w'.ownsRow B 66 1 (.slice qa 1 qc) 1 [.pointer (some ⟨eb, 0, none⟩)] ∧ (∀ g, g < w.heap.size → g ≠ tb → g ≠ eb → some g ≠ q.ownBlock → w'.heap[g]? = w.heap[g]?) ∧ Below B w w' := by
  have HP : Hid _ := hPush_zero tb zb eb B room clock q z o r nat ex pl w h he hq hB hBt hBe
  clear h he hq
  go_enter Try.func64, Try.ntmps64
  go_wp2_with fail
  refine Calls.mono HP.out ?_
  rintro e W1 ⟨rfl, k1⟩
  have K1 : Hid _ := k1
  clear k1
  go_wp2
  go_end0
  exact ⟨rfl, K1.out⟩
end Go.Proofs.Ytjjehncnjcepkaa
