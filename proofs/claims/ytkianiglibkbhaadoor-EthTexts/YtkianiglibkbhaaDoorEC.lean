/- The document's Addr: as the program's; Multicast of both. No condition beyond a text's own length. -/
import Derived.Test.YtkianiglibkbhaaDoorEB
namespace Go.Proofs.YtkianiglibkbhaaDoor
open Go.RowKit
theorem multi_any (m : Int) (h : 0 ≤ m ∧ m ≤ 18446744073709551615) (w : World) : Calls Tryd.prog 9 #[.int .u64 m] w fun e w' => e = .returned (.bool (m / 1099511627776 % 2 == 1)) ∧ w' = w := by
  have hb : bits .and .u64 (m / 1099511627776) 1 = m / 1099511627776 % 2 := and_one_u64 _ (by omega) (by omega)
  go_enter Tryd.func9, Tryd.ntmps9
  go_wp2
  go_ret
  exact ⟨rfl, rfl⟩
theorem rmulti_any (m : Int) (h : 0 ≤ m ∧ m ≤ 18446744073709551615) (w : World) : Calls Tryd.prog 10 #[.int .u64 m] w fun e w' => e = .returned (.bool (m / 1099511627776 % 2 == 1)) ∧ w' = w := by
  go_enter Tryd.func10, Tryd.ntmps10
  go_wp2
  go_ret
  exact ⟨rfl, rfl⟩
/-- What holds at the head of the document's loop. -/
def RAt (s : ByteArray) (k : Nat) (x : Int) (parts : Nat) (n : Int) (size : Nat) : Prop :=
  (k ≤ s.size ∧ rA s (s.size - k) k x parts n size = addrSpec s) ∨ (k = s.size + 1 ∧ (if parts = 4 then some x else none) = addrSpec s)
set_option maxRecDepth 20000 in
set_option maxHeartbeats 4000000 in
theorem raddr_any (s : ByteArray) (hs : s.size ≤ 140737488355328) (w : World) :
    Calls Tryd.prog 7 #[.string s] w fun e w' => e = .returned (.tuple #[.int .u32 ((addrSpec s).getD 0), .bool (addrSpec s).isSome]) ∧ w' = w := by
  have HM : Hid (RAt s 0 0 0 0 0) := .inl ⟨by omega, rA_spec s⟩
  go_enter Tryd.func7, Tryd.ntmps7
  go_wp2_with fail
  go_loopw [4, 5, 6, 7, 8] (fun x p n z i wr => ∃ (k : Nat) (X : Int) (P : Nat) (N : Int) (Z : Nat), k ≤ s.size + 1 ∧ i = .int .i64 k ∧ x = .int .u32 X ∧ p = .int .i64 P ∧ n = .int .i64 N ∧ z = .int .i64 Z ∧ (0 ≤ X ∧ P ≤ 4 ∧ 0 ≤ N ∧ N ≤ 255 ∧ Z ≤ 3 ∧ (0 < Z → P ≤ 3)) ∧ Hid (X + 1 ≤ 256 ^ P) ∧ Hid (RAt s k X P N Z) ∧ wr = w) (fun _ _ _ _ i _ => s.size + 2 - (intOf i).toNat)
  case atStart => exact ⟨0, 0, 0, 0, 0, by omega, rfl, rfl, rfl, rfl, rfl, by omega, by show (0 : Int) + 1 ≤ 256 ^ 0; decide, HM, rfl⟩
  case round =>
    obtain ⟨k, X, P, N, Z, hk, rfl, rfl, rfl, rfl, rfl, ⟨hX, hP, hN0, hN1, hZ, hZP⟩, hXP, HR, rfl⟩ := hrel
    rcases (by omega : k = s.size + 1 ∨ k = s.size ∨ k < s.size) with rfl | rfl | hlt
    · have hkI : ¬ ((s.size + 1 : Nat) : Int) ≤ s.size := by omega
      have hF : (if P = 4 then some X else none) = addrSpec s := by
        rcases HR.out with ⟨h, _⟩ | ⟨_, h⟩
        · omega
        · exact h
      by_cases h4 : P = 4
      · subst h4
        rw [if_pos rfl] at hF
        have HF : Hid _ := hF.symm
        clear hF HR
        go_wp2
        go_ret2
        exact ⟨by rw [HF.out]; rfl, rfl⟩
      · rw [if_neg h4] at hF
        have HF : Hid _ := hF.symm
        have h4b : ((P : Int) != 4) = true := by simp; omega
        clear hF HR
        go_wp2
        go_ret2
        exact ⟨by rw [HF.out]; rfl, rfl⟩
    · have hF : rA s 0 s.size X P N Z = addrSpec s := by
        rcases HR.out with ⟨_, h⟩ | ⟨h, _⟩
        · rwa [Nat.sub_self] at h
        · omega
      rw [rA] at hF
      by_cases hz : Z = 0
      · subst hz
        rw [if_pos rfl] at hF
        have HF : Hid _ := hF.symm
        clear hF HR
        go_wp2
        go_ret2
        exact ⟨by rw [HF.out]; rfl, rfl⟩
      · rw [if_neg hz] at hF
        have hP3 : P ≤ 3 := hZP (by omega)
        have hXb : X + 1 ≤ 16777216 := Int.le_trans hXP.out (by have := pow256_le (m := P) (n := 3) hP3; simpa using this)
        have NEW : Hid (RAt s (s.size + 1) (X * 256 + N) (P + 1) 0 0) := .inr ⟨rfl, hF⟩
        have NXP : Hid (X * 256 + N + 1 ≤ 256 ^ (P + 1)) := by show _ ≤ _; rw [Int.pow_succ]; have := hXP.out; omega
        have hzb : ((Z : Int) == 0) = false := by simp; omega
        have w1 : IntKind.u32.wrap (X * 256) = X * 256 := by rw [IntKind.wrap_u32]; omega
        have w2 : IntKind.u32.wrap N = N := by rw [IntKind.wrap_u32]; omega
        have w3 : IntKind.u32.wrap (X * 256 + N) = X * 256 + N := by rw [IntKind.wrap_u32]; omega
        clear hF HR hXP
        go_wp2
        go_roundw
        case rel => exact ⟨s.size + 1, X * 256 + N, P + 1, 0, 0, by omega, by go_num, rfl, by go_num, rfl, rfl, by omega, NXP, NEW, trivial⟩
        case measure => first | (simp [intOf]; done) | (simp [intOf]; omega)
    · have hkI : (k : Int) < s.size := by omega
      have hF : rA s (s.size - k) k X P N Z = addrSpec s := by
        rcases HR.out with ⟨_, h⟩ | ⟨h, _⟩
        · exact h
        · omega
      rw [show s.size - k = (s.size - (k + 1)) + 1 by omega, rA] at hF
      have hc := byt_eq s k hlt
      have hc0 := byt_lo s k
      have hc9 := byt_hi s k
      obtain ⟨c, hcc⟩ : ∃ c, byt s k = c := ⟨_, rfl⟩
      rw [hcc] at hc hc0 hc9 hF
      clear hcc HR
      have hnk : ((k : Int) == s.size) = false := by simp; omega
      by_cases h46 : c = 46
      · rw [if_pos h46] at hF
        have h46b : (c == 46) = true := by simp [h46]
        clear h46
        by_cases hz : Z = 0
        · subst hz
          rw [if_pos rfl] at hF
          have HF : Hid _ := hF.symm
          clear hF
          go_wp2
          go_ret2
          exact ⟨by rw [HF.out]; rfl, rfl⟩
        · rw [if_neg hz] at hF
          have hP3 : P ≤ 3 := hZP (by omega)
          have hXb : X + 1 ≤ 16777216 := Int.le_trans hXP.out (by have := pow256_le (m := P) (n := 3) hP3; simpa using this)
          have NEW : Hid (RAt s (k + 1) (X * 256 + N) (P + 1) 0 0) := .inl ⟨by omega, hF⟩
          have NXP : Hid (X * 256 + N + 1 ≤ 256 ^ (P + 1)) := by show _ ≤ _; rw [Int.pow_succ]; have := hXP.out; omega
          have hzb : ((Z : Int) == 0) = false := by simp; omega
          have w1 : IntKind.u32.wrap (X * 256) = X * 256 := by rw [IntKind.wrap_u32]; omega
          have w2 : IntKind.u32.wrap N = N := by rw [IntKind.wrap_u32]; omega
          have w3 : IntKind.u32.wrap (X * 256 + N) = X * 256 + N := by rw [IntKind.wrap_u32]; omega
          clear hF hXP
          go_wp2
          go_roundw
          case rel => exact ⟨k + 1, X * 256 + N, P + 1, 0, 0, by omega, by go_num, rfl, by go_num, rfl, rfl, by omega, NXP, NEW, trivial⟩
          case measure => simp [intOf]; omega
      · rw [if_neg h46] at hF
        have h46b : (c == 46) = false := by simp [h46]
        clear h46
        by_cases hbad : c < 48 ∨ 57 < c ∨ (0 < Z ∧ N = 0) ∨ Z = 3
        · rw [if_pos hbad] at hF
          have HF : Hid _ := hF.symm
          clear hF
          rcases (by omega : c < 48 ∨ (48 ≤ c ∧ 57 < c) ∨ (48 ≤ c ∧ c ≤ 57 ∧ 0 < Z ∧ N = 0) ∨ (48 ≤ c ∧ c ≤ 57 ∧ 0 < Z ∧ ¬ N = 0 ∧ Z = 3)) with b1 | ⟨b1, b2⟩ | ⟨b1, b2, b3, b4⟩ | ⟨b1, b2, b3, b4, b5⟩
          · clear hbad
            go_wp2
            go_ret2
            exact ⟨by rw [HF.out]; rfl, rfl⟩
          · clear hbad
            go_wp2
            go_ret2
            exact ⟨by rw [HF.out]; rfl, rfl⟩
          · clear hbad
            subst b4
            have b3I : (0 : Int) < Z := by omega
            go_wp2
            go_ret2
            exact ⟨by rw [HF.out]; rfl, rfl⟩
          · clear hbad
            subst b5
            have b4b : (N == 0) = false := by simp [b4]
            go_wp2
            go_ret2
            exact ⟨by rw [HF.out]; rfl, rfl⟩
        · rw [if_neg hbad] at hF
          have b1 : 48 ≤ c := by omega
          have b2 : c ≤ 57 := by omega
          have b3 : Z ≠ 3 := by omega
          have b4 : Z = 0 ∨ (0 < Z ∧ ¬ N = 0) := by omega
          have b3b : ((Z : Int) == 3) = false := by simp; omega
          clear hbad
          have w1 : IntKind.i64.wrap (10 * N) = 10 * N := by simp [IntKind.wrap, IntKind.bits, IntKind.signed]; omega
          have w2 : IntKind.u8.wrap (c - 48) = c - 48 := by rw [IntKind.wrap_u8]; omega
          have w3 : IntKind.i64.wrap (c - 48) = c - 48 := by simp [IntKind.wrap, IntKind.bits, IntKind.signed]; omega
          have w4 : IntKind.i64.wrap (10 * N + (c - 48)) = 10 * N + (c - 48) := by simp [IntKind.wrap, IntKind.bits, IntKind.signed]; omega
          by_cases hover : 255 < 10 * N + (c - 48) ∨ 3 < P
          · rw [if_pos hover] at hF
            have HF : Hid _ := hF.symm
            clear hF
            rcases (by omega : 255 < 10 * N + (c - 48) ∨ (10 * N + (c - 48) ≤ 255 ∧ 3 < P)) with o1 | ⟨o1, o2⟩
            all_goals
              clear hover
              rcases b4 with rfl | ⟨z1, b4⟩
              · go_wp2
                go_ret2
                exact ⟨by rw [HF.out]; rfl, rfl⟩
              · first
                  | (exfalso; omega)
                  | (have b4b : (N == 0) = false := by simp [b4]
                     have z1I : (0 : Int) < Z := by omega
                     go_wp2
                     go_ret2
                     exact ⟨by rw [HF.out]; rfl, rfl⟩)
          · rw [if_neg hover] at hF
            have o1 : 10 * N + (c - 48) ≤ 255 := by omega
            have o2 : P ≤ 3 := by omega
            have NEW : Hid (RAt s (k + 1) X P (10 * N + (c - 48)) (Z + 1)) := .inl ⟨by omega, hF⟩
            have HXP : Hid _ := hXP
            clear hF hover hXP
            rcases b4 with rfl | ⟨z1, b4⟩
            · go_wp2
              go_roundw
              case rel => exact ⟨k + 1, X, P, 10 * N + (c - 48), 0 + 1, by omega, by go_num, rfl, rfl, rfl, by go_num, by omega, HXP.out, NEW, trivial⟩
              case measure => simp [intOf]; omega
            · have b4b : (N == 0) = false := by simp [b4]
              have z1I : (0 : Int) < Z := by omega
              go_wp2
              go_roundw
              case rel => exact ⟨k + 1, X, P, 10 * N + (c - 48), Z + 1, by omega, by go_num, rfl, rfl, rfl, by go_num, by omega, HXP.out, NEW, trivial⟩
              case measure => simp [intOf]; omega
end Go.Proofs.YtkianiglibkbhaaDoor
