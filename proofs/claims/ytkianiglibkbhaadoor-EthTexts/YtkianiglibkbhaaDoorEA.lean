/- The document's Mac: as the program's. Multicast of both. No condition. -/
import Derived.Test.YtkianiglibkbhaaDoorLD
namespace Go.Proofs.YtkianiglibkbhaaDoor
open Go.RowKit
set_option maxRecDepth 20000 in
set_option maxHeartbeats 4000000 in
theorem rmac_any (s : ByteArray) (w : World) :
    Calls Tryd.prog 5 #[.string s] w fun e w' => e = .returned (.tuple #[.int .u64 ((macSpec s).getD 0), .bool (macSpec s).isSome]) ∧ w' = w := by
  by_cases hn : s.size = 17
  · have hN : (s.size : Int) = 17 := by omega
    have HM : Hid (macFrom s 0 17 0 = macSpec s) := by show _ = _; unfold macSpec; rw [if_pos hn]
    have e0 : ((s.size : Int) != 17) = false := by simp; omega
    go_enter Tryd.func5, Tryd.ntmps5
    go_wp2_with fail
    go_loopw [4, 5] (fun x i wr => ∃ (k : Nat) (acc : Int), k ≤ 17 ∧ i = .int .i64 k ∧ x = .int .u64 acc ∧ 0 ≤ acc ∧ Hid (acc + 1 ≤ 16 ^ (k - k / 3)) ∧ Hid (macFrom s k (17 - k) acc = macSpec s) ∧ wr = w) (fun _ i _ => 17 - (intOf i).toNat)
    case atStart => exact ⟨0, 0, by omega, rfl, rfl, by omega, by show (0 : Int) + 1 ≤ 16 ^ 0; decide, HM, rfl⟩
    case round =>
      obtain ⟨k, acc, hk, rfl, rfl, ha0, hA, hF, rfl⟩ := hrel
      rcases (by omega : k = 17 ∨ k < 17) with rfl | hk17
      · have HZ : Hid (macSpec s = some acc) := hF.out.symm
        clear hF
        go_wp2
        go_ret2
        exact ⟨by rw [HZ.out]; rfl, rfl⟩
      · have hkI : (k : Int) < 17 := by omega
        have hks : k < s.size := by omega
        have hksI : (k : Int) < s.size := by omega
        have hc := byt_eq s k hks
        have hc0 := byt_lo s k
        have hc9 := byt_hi s k
        have hF1 : macFrom s k (17 - k) acc = if k % 3 = 2 then (if byt s k = 58 then macFrom s (k + 1) (16 - k) acc else none) else (if hexB (byt s k) then macFrom s (k + 1) (16 - k) (acc * 16 + hexV (byt s k)) else none) := by
          rw [show 17 - k = (16 - k) + 1 by omega]; rfl
        have HF1 : Hid _ := hF.out.symm.trans hF1
        obtain ⟨c, hcc⟩ : ∃ c, byt s k = c := ⟨_, rfl⟩
        rw [hcc] at hc hc0 hc9 HF1
        clear hF1 hF hcc
        by_cases h2 : k % 3 = 2
        · have hm : (k : Int) % 3 = 2 := by omega
          have h2b : ((k : Int) % 3 == 2) = true := by simp [hm]
          cases h58 : (c == 58)
          · have h58' : (c != 58) = true := by simp [bne, h58]
            have HZ : Hid (macSpec s = none) := by show _ = _; rw [HF1.out, if_pos h2, if_neg (by simpa using h58)]
            clear HF1
            go_wp2
            go_ret2
            exact ⟨by rw [HZ.out]; rfl, rfl⟩
          · have h58' : (c != 58) = false := by simp [bne, h58]
            have HZ : Hid (macFrom s (k + 1) (17 - (k + 1)) acc = macSpec s) := by show _ = _; rw [HF1.out, if_pos h2, if_pos (by simpa using h58), show 17 - (k + 1) = 16 - k by omega]
            have HA : Hid (acc + 1 ≤ 16 ^ (k + 1 - (k + 1) / 3)) := by show _ ≤ _; rw [show k + 1 - (k + 1) / 3 = k - k / 3 by omega]; exact hA.out
            clear HF1 hA
            go_wp2
            go_roundw
            case rel => exact ⟨k + 1, acc, by omega, by go_num, rfl, ha0, HA, HZ, trivial⟩
            case measure => simp [intOf]; omega
        · have hm : ¬ (k : Int) % 3 = 2 := by omega
          have h2b : ((k : Int) % 3 == 2) = false := by simp [hm]
          have hA1 : acc + 1 ≤ 16 ^ 11 := Int.le_trans hA.out (pow_le (by omega))
          have ha1 : acc ≤ 17592186044415 := by
            have : (16 : Int) ^ 11 = 17592186044416 := by decide
            omega
          clear hA1 hm
          rw [if_neg h2] at HF1
          have HA : Hid (∀ v : Int, 0 ≤ v → v ≤ 15 → acc * 16 + v + 1 ≤ 16 ^ (k + 1 - (k + 1) / 3)) := by
            intro v v0 v1
            rw [show k + 1 - (k + 1) / 3 = (k - k / 3) + 1 by omega, Int.pow_succ]
            have := hA.out
            omega
          clear hA
          rcases (by omega : 48 ≤ c ∧ c ≤ 57 ∨ 97 ≤ c ∧ c ≤ 102 ∨ c < 48 ∨ 57 < c ∧ c < 97 ∨ 102 < c) with ⟨c1, c2⟩ | ⟨c1, c2⟩ | c1 | ⟨c1, c2⟩ | c1
          · have HZ : Hid (macFrom s (k + 1) (17 - (k + 1)) (acc * 16 + (c - 48)) = macSpec s) := by
              show _ = _
              rw [HF1.out, show hexB c = true by simp [hexB, digB]; omega, if_pos rfl, show hexV c = c - 48 by unfold hexV; rw [if_pos c2], show 17 - (k + 1) = 16 - k by omega]
            clear HF1
            have w1 : IntKind.u64.wrap (acc * 16) = acc * 16 := by rw [IntKind.wrap_u64]; omega
            have w2 : IntKind.u8.wrap (c - 48) = c - 48 := by rw [IntKind.wrap_u8]; omega
            have w3 : IntKind.u64.wrap (c - 48) = c - 48 := by rw [IntKind.wrap_u64]; omega
            have w4 : IntKind.u64.wrap (acc * 16 + (c - 48)) = acc * 16 + (c - 48) := by rw [IntKind.wrap_u64]; omega
            go_wp2
            go_roundw
            case rel => exact ⟨k + 1, _, by omega, by go_num, rfl, by omega, HA.out _ (by omega) (by omega), HZ, trivial⟩
            case measure => simp [intOf]; omega
          · have HZ : Hid (macFrom s (k + 1) (17 - (k + 1)) (acc * 16 + (c - 97) + 10) = macSpec s) := by
              show _ = _
              rw [HF1.out, show hexB c = true by simp [hexB, digB]; omega, if_pos rfl, show hexV c = c - 87 by unfold hexV; rw [if_neg (by omega)], show 17 - (k + 1) = 16 - k by omega, show acc * 16 + (c - 87) = acc * 16 + (c - 97) + 10 by omega]
            have HA2 : Hid (acc * 16 + (c - 97) + 10 + 1 ≤ 16 ^ (k + 1 - (k + 1) / 3)) := by have := HA.out (c - 87) (by omega) (by omega); show _ ≤ _; omega
            clear HF1 HA
            have w1 : IntKind.u64.wrap (acc * 16) = acc * 16 := by rw [IntKind.wrap_u64]; omega
            have w2 : IntKind.u8.wrap (c - 97) = c - 97 := by rw [IntKind.wrap_u8]; omega
            have w3 : IntKind.u64.wrap (c - 97) = c - 97 := by rw [IntKind.wrap_u64]; omega
            have w4 : IntKind.u64.wrap (acc * 16 + (c - 97)) = acc * 16 + (c - 97) := by rw [IntKind.wrap_u64]; omega
            have w5 : IntKind.u64.wrap (acc * 16 + (c - 97) + 10) = acc * 16 + (c - 97) + 10 := by rw [IntKind.wrap_u64]; omega
            have d1 : ¬ (c ≤ 57) := by omega
            have d2 : decide (c ≤ 57) = false := decide_eq_false d1
            go_wp2
            go_roundw
            case rel => exact ⟨k + 1, _, by omega, by go_num, rfl, by omega, HA2, HZ, trivial⟩
            case measure => simp [intOf]; omega
          all_goals
            have HZ : Hid (macSpec s = none) := by show _ = _; rw [HF1.out, show hexB c = false by simp [hexB, digB]; omega]; rfl
            clear HF1 HA
            go_wp2
            go_ret2
            exact ⟨by rw [HZ.out]; rfl, rfl⟩
  · have e0 : ((s.size : Int) != 17) = true := by simp; omega
    have HZ : Hid (macSpec s = none) := by show _ = _; unfold macSpec; rw [if_neg hn]
    go_enter Tryd.func5, Tryd.ntmps5
    go_wp2
    go_ret2
    exact ⟨by rw [HZ.out]; rfl, rfl⟩
end Go.Proofs.YtkianiglibkbhaaDoor
