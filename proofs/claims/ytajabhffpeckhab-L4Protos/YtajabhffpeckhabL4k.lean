/- The function lives of the laws of l4 answers true. No condition. -/
import Derived.Test.YtajabhffpeckhabL4j
namespace Go.Proofs.Ytajabhffpeckhab
open Go.RowKit

def liveB : List Int := udpB 167772161 167772162 68 67 [120]
theorem live_eq : liveB = udpB 167772161 167772162 68 67 [120] := rfl
theorem live_len : liveB.getD 4 0 * 256 + liveB.getD 5 0 = 9 := by decide +kernel
theorem live_ne : liveB.getD 6 0 * 256 + liveB.getD 7 0 ≠ 0 := by decide +kernel
theorem live_sum : sumV 167772161 167772162 2 liveB = 65535 := by decide +kernel
theorem live_sp : num ((liveB.drop 0).take 2) = 68 := by decide +kernel
theorem live_data : liveB.drop 8 = [120] := by decide +kernel

set_option maxHeartbeats 1000000 in
theorem lives_any (w : World) : Calls Try.prog 9 #[] w fun e w' => e = .returned (.bool true) ∧ Below w.heap.size w w' := by
  go_enter Try.func9, Try.ntmps9
  go_wp2_with fail
  have hst : strOfNums [120] = ⟨#[120]⟩ := by decide +kernel
  have hsn : strOfNums [] = ⟨#[]⟩ := rfl
  have hE0 := encode_udp 167772161 167772162 68 67 [120] w (by omega) (by omega) (by omega) (by omega) (by simp) (by simp) (fun i => by rcases i with _ | i <;> simp)
  rw [l4V, hst, hsn, ← live_eq] at hE0
  refine hE0.mono ?_
  rintro e W1 ⟨g, rfl, hE⟩
  simp only [List.length_cons, List.length_nil, Nat.zero_add, Nat.reduceAdd] at hE ⊢
  clear hE0
  have hD := decode_udp 167772161 167772162 (by omega) (by omega) W1 g 0 9 9 liveB hE.bs (by omega) (by omega) live_len live_ne live_sum
  rw [live_sp, live_data, hst] at hD
  go_wp2_with (first
    | (go_at_call 13; refine hD.mono ?_; rintro e W2 ⟨rfl, hB2⟩)
    | (go_at_call 12; refine (proto_any _ _).mono ?_; rintro e w' ⟨rfl, rfl⟩; rw [show protoV 3 = .tuple #[.int .i64 6, .bool true] from rfl])
    | fail)
  go_ret
  have hB3 := hE.bel.trans (hB2.mono hE.bel.size)
  exact ⟨rfl, hB3.alloc hB3.size _⟩

set_option maxHeartbeats 1000000 in
theorem l4protos_walk (w : World) (k : Int) (_hk : -9223372036854775808 ≤ k ∧ k ≤ 9223372036854775807) : Calls Try.prog 5 #[.int .i64 k] w fun e w' => e = .returned (.bool true) ∧ Below w.heap.size w w' := by
  rcases (show k = 1 ∨ k = 2 ∨ k = 3 ∨ (k ≠ 1 ∧ k ≠ 2 ∧ k ≠ 3) by omega) with rfl | rfl | rfl | ⟨h1, h2, h3⟩
  · have hp : protoV 1 = .tuple #[.int .i64 1, .bool true] := rfl
    go_enter Try.func5, Try.ntmps5
    go_wp2_with (first
      | (go_at_call 12; refine (proto_any _ _).mono ?_; rintro e w' ⟨rfl, rfl⟩; rw [hp])
      | (go_at_call 9; refine (lives_any _).mono ?_; rintro e w' ⟨rfl, hB⟩)
      | fail)
    go_ret
    exact ⟨rfl, hB⟩
  · have hp : protoV 2 = .tuple #[.int .i64 17, .bool true] := rfl
    go_enter Try.func5, Try.ntmps5
    go_wp2_with (first
      | (go_at_call 12; refine (proto_any _ _).mono ?_; rintro e w' ⟨rfl, rfl⟩; rw [hp])
      | (go_at_call 9; refine (lives_any _).mono ?_; rintro e w' ⟨rfl, hB⟩)
      | fail)
    go_ret
    exact ⟨rfl, hB⟩
  · have hp : protoV 3 = .tuple #[.int .i64 6, .bool true] := rfl
    go_enter Try.func5, Try.ntmps5
    go_wp2_with (first
      | (go_at_call 12; refine (proto_any _ _).mono ?_; rintro e w' ⟨rfl, rfl⟩; rw [hp])
      | (go_at_call 9; refine (lives_any _).mono ?_; rintro e w' ⟨rfl, hB⟩)
      | fail)
    go_ret
    exact ⟨rfl, hB⟩
  · have hp : protoV k = .tuple #[.int .i64 0, .bool false] := by simp [protoV, h1, h2, h3]
    go_enter Try.func5, Try.ntmps5
    go_wp2_with (first
      | (go_at_call 12; refine (proto_any _ _).mono ?_; rintro e w' ⟨rfl, rfl⟩; rw [hp])
      | (go_at_call 9; refine (lives_any _).mono ?_; rintro e w' ⟨rfl, hB⟩)
      | fail)
    go_ret
    exact ⟨rfl, hB⟩
end Go.Proofs.Ytajabhffpeckhab
