/- The IPv4 address of any text (eth.Addr). Conditions: none beyond a string's size. -/
import Derived.Test.YtajjffjnnjklnaaDoorLC
namespace Go.Proofs.YtajjffjnnjklnaaDoor
open Go.RowKit
theorem octFrom_b (s : ByteArray) : ∀ (n k : Nat) (v : Int), k ≤ s.size → 0 ≤ v → (octFrom s k n v).2 ≤ s.size ∧ 0 ≤ (octFrom s k n v).1
  | 0, k, v, h, hv => ⟨h, hv⟩
  | n + 1, k, v, h, hv => by
    unfold octFrom
    split
    · rename_i hc
      have hd : 48 ≤ byt s k := by have := hc.2; unfold digB at this; simp at this; omega
      exact octFrom_b s n (k + 1) _ (by omega) (by omega)
    · exact ⟨h, hv⟩
theorem octS_b (s : ByteArray) : (octS s).2 ≤ s.size ∧ 0 ≤ (octS s).1 ∧ (octS s).1 ≤ 255 := by
  have hb := octFrom_b s 3 0 0 (by omega) (by omega)
  unfold octS
  cases hbad : octBad s (octFrom s 0 3 0).1 (octFrom s 0 3 0).2
  · rw [if_neg Bool.false_ne_true]
    refine ⟨hb.1, hb.2, ?_⟩
    unfold octBad at hbad
    simp at hbad
    omega
  · rw [if_pos rfl]; exact ⟨by simp, by simp, by simp⟩
/-- What eth.Addr reads from a place on: so many numbers. -/
def addrFrom (s : ByteArray) : Nat → Nat → Int → Option Int
  | _, 0, _ => none
  | k, n + 1, ip => if (octS (s.extract k s.size)).2 = 0 then none else
      (if n = 0 then (if k + (octS (s.extract k s.size)).2 = s.size then some (ip * 256 + (octS (s.extract k s.size)).1) else none)
       else if k + (octS (s.extract k s.size)).2 = s.size then none else if byt s (k + (octS (s.extract k s.size)).2) = 46 then addrFrom s (k + (octS (s.extract k s.size)).2 + 1) n (ip * 256 + (octS (s.extract k s.size)).1) else none)
def addrSpec (s : ByteArray) : Option Int := addrFrom s 0 4 0
theorem ip_or (ip v : Int) (h0 : 0 ≤ ip) (h1 : ip ≤ 16777215) (v0 : 0 ≤ v) (v1 : v ≤ 255) : bits BinOp.or IntKind.u32 (ip * 256) v = ip * 256 + v := by
  have hw : ∀ n : Int, 0 ≤ n → n < 2 ^ 32 → IntKind.u32.wrap n = n := fun n a b => by rw [IntKind.wrap_u32]; omega
  exact bits_join .u32 32 (by decide) hw 8 (ip * 256) v (by omega) (by omega) (by omega) v0 (by omega) (by omega)
set_option maxRecDepth 20000 in
theorem pow256_le {m n : Nat} (h : m ≤ n) : (256 : Int) ^ m ≤ 256 ^ n := by
  exact_mod_cast Nat.pow_le_pow_right (by decide) h
/-- What holds at Addr's label. -/
def AddrAt (s : ByteArray) (w : World) (a' : Act) (w' : World) : Prop :=
  ∃ (k p : Nat) (ip : Int) (u1 u7 u8 u9 u10 u11 u12 u13 u14 u15 u16 u17 u18 u19 u20 u21 u22 u23 u24 u25 u26 u27 u28 u29 u30 u31 u32 u33 u34 u35 u36 u37 u38 u39 u40 u41 u42 u43 u44 u45 u46 u47 u48 u49 u50 u51 : Value), a' = { tmps := #[.string s, u1, .int .u32 0, .bool false, .int .u32 ip, .int .i64 (k : Nat), .int .i64 (p : Nat), u7, u8, u9, u10, u11, u12, u13, u14, u15, u16, u17, u18, u19, u20, u21, u22, u23, u24, u25, u26, u27, u28, u29, u30, u31, u32, u33, u34, u35, u36, u37, u38, u39, u40, u41, u42, u43, u44, u45, u46, u47, u48, u49, u50, u51], defers := [] } ∧ p ≤ 3 ∧ k ≤ s.size ∧ Hid (addrFrom s k (4 - p) ip = addrSpec s) ∧ 0 ≤ ip ∧ Hid (ip + 1 ≤ 256 ^ p) ∧ w' = w
set_option maxRecDepth 20000 in
set_option maxHeartbeats 4000000 in
theorem addr_any (s : ByteArray) (hs : s.size ≤ maxLen) (w : World) :
    Calls Tryd.prog 38 #[.string s] w fun e w' => e = .returned (.tuple #[.int .u32 ((addrSpec s).getD 0), .bool (addrSpec s).isSome]) ∧ w' = w := by
  have HS : Hid (s.size ≤ maxLen) := hs
  unfold maxLen at hs
  go_enter Tryd.func38, Tryd.ntmps38
  go_wp2_with fail
  refine scope_loop 0 (AddrAt s w) (fun a' w' => 4 - slotAt 6 a' w') rfl ?_ ?_
  · rintro a' w' ⟨k, p, ip, u1, u7, u8, u9, u10, u11, u12, u13, u14, u15, u16, u17, u18, u19, u20, u21, u22, u23, u24, u25, u26, u27, u28, u29, u30, u31, u32, u33, u34, u35, u36, u37, u38, u39, u40, u41, u42, u43, u44, u45, u46, u47, u48, u49, u50, u51, rfl, hp, hks, hF, hi0, hI, rfl⟩ IH
    have hpI : (p : Int) ≤ 3 := by omega
    have hksI : (k : Int) ≤ s.size := by omega
    have hi9 : ip ≤ 16777215 := by
      have h1 := Int.le_trans hI.out (pow256_le hp)
      have : (256 : Int) ^ 3 = 16777216 := by decide
      omega
    have hsz : (s.extract k s.size).size = s.size - k := by simp
    have hob := octS_b (s.extract k s.size)
    rw [hsz] at hob
    have HO : Hid (∀ W, Calls Tryd.prog 49 #[.string (s.extract k s.size)] W fun e w' => e = .returned (.tuple #[.int .u32 (octS (s.extract k s.size)).1, .int .i64 (octS (s.extract k s.size)).2]) ∧ w' = W) := by
      show ∀ W, _
      intro W
      exact octet_any _ (by rw [hsz]; have := HS.out; omega) W
    have hE : addrFrom s k (4 - p) ip = if (octS (s.extract k s.size)).2 = 0 then none else
        (if 3 - p = 0 then (if k + (octS (s.extract k s.size)).2 = s.size then some (ip * 256 + (octS (s.extract k s.size)).1) else none)
         else if k + (octS (s.extract k s.size)).2 = s.size then none else if byt s (k + (octS (s.extract k s.size)).2) = 46 then addrFrom s (k + (octS (s.extract k s.size)).2 + 1) (3 - p) (ip * 256 + (octS (s.extract k s.size)).1) else none) := by
      rw [show 4 - p = (3 - p) + 1 by omega]; rfl
    have HE : Hid _ := hF.out.symm.trans hE
    obtain ⟨v, hv⟩ : ∃ v, (octS (s.extract k s.size)).1 = v := ⟨_, rfl⟩
    obtain ⟨m, hm⟩ : ∃ m, (octS (s.extract k s.size)).2 = m := ⟨_, rfl⟩
    rw [hv, hm] at HO HE hob
    obtain ⟨ob1, ob2, ob3⟩ := hob
    have hor := ip_or ip v hi0 hi9 ob2 ob3
    clear hE hF hv hm
    by_cases hm0 : m = 0
    · have HZ : Hid (addrSpec s = none) := by show _ = _; rw [HE.out, if_pos hm0]
      subst hm0
      clear HE IH hor
      go_wp2_with fail
      refine (HO.out _).mono ?_
      rintro e W ⟨rfl, hw⟩
      rw [hw]
      clear hw
      go_wp2
      simp only [Exit.jumpTo]
      go_ret2
      exact ⟨by rw [HZ.out] <;> rfl, rfl⟩
    · have hmI : (0 : Int) < m := by omega
      have hmb : ((m : Int) == 0) = false := by simp; omega
      have hkm : (k : Int) + m ≤ s.size := by omega
      by_cases hp3 : p = 3
      · by_cases hend : k + m = s.size
        · have HZ : Hid (addrSpec s = some (ip * 256 + v)) := by show _ = _; rw [HE.out, if_neg hm0, if_pos (by omega), if_pos hend]
          have he : ((k : Int) + m == s.size) = true := by simp; omega
          subst hp3
          clear HE IH hend hm0
          go_wp2_with fail
          refine (HO.out _).mono ?_
          rintro e W ⟨rfl, hw⟩
          rw [hw]
          clear hw
          go_wp2
          simp only [Exit.jumpTo]
          go_ret2
          exact ⟨by rw [HZ.out] <;> rfl, rfl⟩
        · have HZ : Hid (addrSpec s = none) := by show _ = _; rw [HE.out, if_neg hm0, if_pos (by omega), if_neg hend]
          have he : ((k : Int) + m == s.size) = false := by simp; omega
          subst hp3
          clear HE IH hend hm0
          go_wp2_with fail
          refine (HO.out _).mono ?_
          rintro e W ⟨rfl, hw⟩
          rw [hw]
          clear hw
          go_wp2
          simp only [Exit.jumpTo]
          go_ret2
          exact ⟨by rw [HZ.out] <;> rfl, rfl⟩
      · have hp3b : ((p : Int) + 1 == 4) = false := by simp; omega
        have hpI3 : (p : Int) < 3 := by omega
        by_cases hend : k + m = s.size
        · have HZ : Hid (addrSpec s = none) := by show _ = _; rw [HE.out, if_neg hm0, if_neg (by omega), if_pos hend]
          have he : ((k : Int) + m == s.size) = true := by simp; omega
          clear HE IH hend hm0 hp3
          go_wp2_with fail
          refine (HO.out _).mono ?_
          rintro e W ⟨rfl, hw⟩
          rw [hw]
          clear hw
          go_wp2
          simp only [Exit.jumpTo]
          go_ret2
          exact ⟨by rw [HZ.out] <;> rfl, rfl⟩
        · have he : ((k : Int) + m == s.size) = false := by simp; omega
          have hlt : k + m < s.size := by omega
          have hltI : (k : Int) + m < s.size := by omega
          have hc := byt_eq s (k + m) hlt
          obtain ⟨c, hcc⟩ : ∃ c, byt s (k + m) = c := ⟨_, rfl⟩
          rw [hcc] at hc HE
          have hnat : ((k : Int) + m).toNat = k + m := by omega
          cases h46 : (c == 46)
          · have HZ : Hid (addrSpec s = none) := by show _ = _; rw [HE.out, if_neg hm0, if_neg (by omega), if_neg hend, if_neg (by simpa using h46)]
            clear HE IH hend hm0 hp3 hcc
            go_wp2_with fail
            refine (HO.out _).mono ?_
            rintro e W ⟨rfl, hw⟩
            rw [hw]
            clear hw
            go_wp2
            simp only [Exit.jumpTo]
            go_ret2
            exact ⟨by rw [HZ.out] <;> rfl, rfl⟩
          · have HZ : Hid (addrFrom s (k + m + 1) (3 - p) (ip * 256 + v) = addrSpec s) := by show _ = _; rw [HE.out, if_neg hm0, if_neg (by omega), if_neg hend, if_pos (by simpa using h46)]
            clear HE hend hm0 hcc
            go_wp2_with fail
            refine (HO.out _).mono ?_
            rintro e W ⟨rfl, hw⟩
            rw [hw]
            clear hw
            go_wp2_with fail
            go_step3
            show FromLabel _ _ _ _ _ _
            refine IH.out _ _ ⟨k + m + 1, p + 1, ip * 256 + v, _, _, _, _, _, _, _, _, _, _, _, _, _, _, _, _, _, _, _, _, _, _, _, _, _, _, _, _, _, _, _, _, _, _, _, _, _, _, _, _, _, _, _, _, _, _, by first | rfl | go_num | (simp; omega), by omega, by omega, by rw [show 4 - (p + 1) = 3 - p by omega]; exact HZ, by omega, ?_, rfl⟩ ?_
            · show ip * 256 + v + 1 ≤ 256 ^ (p + 1)
              rw [Int.pow_succ]
              have := hI.out
              omega
            · simp [slotAt, intOf]; omega
  · intro HG
    go_wp2_with fail
    go_step3
    rename_i K hK
    exact hK _ _ (HG.out _ _ ⟨0, 0, 0, _, _, _, _, _, _, _, _, _, _, _, _, _, _, _, _, _, _, _, _, _, _, _, _, _, _, _, _, _, _, _, _, _, _, _, _, _, _, _, _, _, _, _, _, _, _, rfl, by omega, by omega, rfl, by omega, by show (0 : Int) + 1 ≤ 256 ^ 0; decide, rfl⟩)
end Go.Proofs.YtajjffjnnjklnaaDoor
