/- A number from 0 to 255 at a text's beginning (eth.octet). Conditions: none beyond a string's size. -/
import Derived.Test.YtajjffjnnjklnaaDoorLB
namespace Go.Proofs.YtajjffjnnjklnaaDoor
open Go.RowKit
/-- The digits from a place on, at most so many: the number, and the place behind. -/
def octFrom (s : ByteArray) : Nat → Nat → Int → Int × Nat
  | k, 0, v => (v, k)
  | k, n + 1, v => if k < s.size ∧ digB (byt s k) = true then octFrom s (k + 1) n (v * 10 + (byt s k - 48)) else (v, k)
def octBad (s : ByteArray) (v : Int) (m : Nat) : Bool := decide (255 < v) || (decide (1 < m) && byt s 0 == 48)
def octS (s : ByteArray) : Int × Nat := if octBad s (octFrom s 0 3 0).1 (octFrom s 0 3 0).2 then (0, 0) else octFrom s 0 3 0
/-- What holds at octet's label. -/
def OctAt (s : ByteArray) (w : World) (a' : Act) (w' : World) : Prop :=
  ∃ (k : Nat) (v : Int) (u1 u4 u5 u6 u7 u8 u9 u10 u11 u12 u13 u14 u15 u16 u17 u18 u19 u20 u21 u22 u23 u24 u25 u26 u27 u28 u29 u30 u31 u32 u33 u34 u35 u36 u37 u38 u39 u40 u41 u42 u43 u44 u45 u46 : Value), a' = { tmps := #[.string s, u1, .int .u32 v, .int .i64 (k : Nat), u4, u5, u6, u7, u8, u9, u10, u11, u12, u13, u14, u15, u16, u17, u18, u19, u20, u21, u22, u23, u24, u25, u26, u27, u28, u29, u30, u31, u32, u33, u34, u35, u36, u37, u38, u39, u40, u41, u42, u43, u44, u45, u46], defers := [] } ∧ k ≤ 3 ∧ k ≤ s.size ∧ Hid (octFrom s k (3 - k) v = octFrom s 0 3 0) ∧ 0 ≤ v ∧ Hid (v + 1 ≤ 10 ^ k) ∧ w' = w
theorem pow10_le {m n : Nat} (h : m ≤ n) : (10 : Int) ^ m ≤ 10 ^ n := by
  exact_mod_cast Nat.pow_le_pow_right (by decide) h
set_option maxRecDepth 20000 in
set_option maxHeartbeats 4000000 in
theorem octet_any (s : ByteArray) (hs : s.size ≤ maxLen) (w : World) :
    Calls Tryd.prog 49 #[.string s] w fun e w' => e = .returned (.tuple #[.int .u32 (octS s).1, .int .i64 (octS s).2]) ∧ w' = w := by
  unfold maxLen at hs
  go_enter Tryd.func49, Tryd.ntmps49
  go_wp2_with fail
  refine scope_loop 0 (OctAt s w) (fun a' w' => 3 - slotAt 3 a' w') rfl ?_ ?_
  · rintro a' w' ⟨k, v, u1, u4, u5, u6, u7, u8, u9, u10, u11, u12, u13, u14, u15, u16, u17, u18, u19, u20, u21, u22, u23, u24, u25, u26, u27, u28, u29, u30, u31, u32, u33, u34, u35, u36, u37, u38, u39, u40, u41, u42, u43, u44, u45, u46, rfl, hk, hks, hF, hv0, hV, rfl⟩ IH
    have hkI : (k : Int) ≤ 3 := by omega
    have hksI : (k : Int) ≤ s.size := by omega
    have hv9 : v ≤ 999 := by
      have h1 := Int.le_trans hV.out (pow10_le hk)
      have : (10 : Int) ^ 3 = 1000 := by decide
      omega
    by_cases hgo : k < s.size ∧ k < 3 ∧ digB (byt s k) = true
    · obtain ⟨g1, g2, g3⟩ := hgo
      have hc := byt_eq s k g1
      have HZ : Hid (octFrom s (k + 1) (3 - (k + 1)) (v * 10 + (byt s k - 48)) = octFrom s 0 3 0) := by
        show _ = _
        rw [← hF.out, show 3 - k = (3 - (k + 1)) + 1 by omega]
        show _ = if k < s.size ∧ digB (byt s k) = true then _ else _
        rw [if_pos ⟨g1, g3⟩]
      have hd : 48 ≤ byt s k ∧ byt s k ≤ 57 := by unfold digB at g3; simpa using g3
      obtain ⟨c, hcc⟩ : ∃ c, byt s k = c := ⟨_, rfl⟩
      rw [hcc] at hc HZ hd
      obtain ⟨d1, d2⟩ := hd
      have g1I : (k : Int) < s.size := by omega
      have g2I : (k : Int) < 3 := by omega
      clear hF g3 hcc hksI
      go_wp2_with fail
      go_step3
      show FromLabel _ _ _ _ _ _
      refine IH.out _ _ ⟨k + 1, v * 10 + (c - 48), _, _, _, _, _, _, _, _, _, _, _, _, _, _, _, _, _, _, _, _, _, _, _, _, _, _, _, _, _, _, _, _, _, _, _, _, _, _, _, _, _, _, _, _, by first | rfl | go_num, by omega, by omega, HZ, by omega, ?_, rfl⟩ ?_
      · show v * 10 + (c - 48) + 1 ≤ 10 ^ (k + 1)
        rw [Int.pow_succ]
        have := hV.out
        omega
      · simp [slotAt, intOf]; omega
    · have HE : Hid (octFrom s 0 3 0 = (v, k)) := by
        show _ = _
        rw [← hF.out]
        by_cases h3 : k = 3
        · subst h3; rfl
        · rw [show 3 - k = (2 - k) + 1 by omega]
          show (if k < s.size ∧ digB (byt s k) = true then _ else (v, k)) = _
          rw [if_neg (fun h => hgo ⟨h.1, by omega, h.2⟩)]
      have HS : Hid (octS s = if octBad s v k then (0, 0) else (v, k)) := by show _ = _; unfold octS; rw [HE.out]
      clear IH hF HE hV
      have hgo' : k = s.size ∨ (k < s.size ∧ k = 3) ∨ (k < s.size ∧ k < 3 ∧ (byt s k < 48 ∨ 57 < byt s k)) := by
        by_cases e1 : k < s.size
        · by_cases e2 : k < 3
          · right; right
            refine ⟨e1, e2, ?_⟩
            by_cases e3 : byt s k < 48
            · exact .inl e3
            · refine .inr ?_
              apply Int.lt_of_not_ge
              intro e4
              exact hgo ⟨e1, e2, by unfold digB; simp; omega⟩
          · right; left; exact ⟨e1, by omega⟩
        · left; omega
      clear hgo
      have hbad : (255 < v ∧ octBad s v k = true) ∨ (v ≤ 255 ∧ 1 < k ∧ (byt s 0 == 48) = true ∧ octBad s v k = true) ∨ (v ≤ 255 ∧ 1 < k ∧ (byt s 0 == 48) = false ∧ octBad s v k = false) ∨ (v ≤ 255 ∧ k ≤ 1 ∧ octBad s v k = false) := by
        unfold octBad
        by_cases e1 : 255 < v
        · exact .inl ⟨e1, by simp [e1]⟩
        · have e1' : v ≤ 255 := by omega
          by_cases e2 : 1 < k
          · cases e3 : (byt s 0 == 48)
            · exact .inr (.inr (.inl ⟨e1', e2, rfl, by simp [e1]⟩))
            · exact .inr (.inl ⟨e1', e2, rfl, by simp [e2]⟩)
          · exact .inr (.inr (.inr ⟨e1', by omega, by simp [e1, e2]⟩))
      rcases hgo' with ga | ⟨g1, g2⟩ | ⟨g1, g2, gc⟩
      · have ga' : ¬ (k : Int) < s.size := by omega
        have hsz : (s.size : Int) ≤ k := by omega
        clear ga' ga
        rcases hbad with ⟨e1, eb⟩ | ⟨e1, e2, e3, eb⟩ | ⟨e1, e2, e3, eb⟩ | ⟨e1, e2, eb⟩
        · have HR : Hid (octS s = (0, 0)) := by show _ = _; rw [HS.out, eb]; rfl
          clear HS eb
          go_wp2
          simp only [Exit.jumpTo]
          go_ret2
          exact ⟨by rw [HR.out] <;> rfl, rfl⟩
        · have HR : Hid (octS s = (0, 0)) := by show _ = _; rw [HS.out, eb]; rfl
          have hb0 := byt_eq s 0 (by omega)
          have hz0 : (0 : Int) < s.size := by omega
          have hk1 : (1 : Int) < (k : Int) := by omega
          obtain ⟨b0, hbb⟩ : ∃ b0, byt s 0 = b0 := ⟨_, rfl⟩
          rw [hbb] at hb0 e3
          clear HS eb hbb
          go_wp2
          simp only [Exit.jumpTo]
          go_ret2
          exact ⟨by rw [HR.out] <;> rfl, rfl⟩
        · have HR : Hid (octS s = (v, k)) := by show _ = _; rw [HS.out, eb]; rfl
          have hb0 := byt_eq s 0 (by omega)
          have hz0 : (0 : Int) < s.size := by omega
          have hk1 : (1 : Int) < (k : Int) := by omega
          obtain ⟨b0, hbb⟩ : ∃ b0, byt s 0 = b0 := ⟨_, rfl⟩
          rw [hbb] at hb0 e3
          clear HS eb hbb
          go_wp2
          simp only [Exit.jumpTo]
          go_ret2
          exact ⟨by rw [HR.out] <;> rfl, rfl⟩
        · have HR : Hid (octS s = (v, k)) := by show _ = _; rw [HS.out, eb]; rfl
          have hk1 : (k : Int) ≤ (1 : Int) := by omega
          clear HS eb
          go_wp2
          simp only [Exit.jumpTo]
          go_ret2
          exact ⟨by rw [HR.out] <;> rfl, rfl⟩
      · have g3 : (3 : Int) ≤ k := by omega
        have g1I : (k : Int) < s.size := by omega
        clear g2
        rcases hbad with ⟨e1, eb⟩ | ⟨e1, e2, e3, eb⟩ | ⟨e1, e2, e3, eb⟩ | ⟨e1, e2, eb⟩
        · have HR : Hid (octS s = (0, 0)) := by show _ = _; rw [HS.out, eb]; rfl
          clear HS eb
          go_wp2
          simp only [Exit.jumpTo]
          go_ret2
          exact ⟨by rw [HR.out] <;> rfl, rfl⟩
        · have HR : Hid (octS s = (0, 0)) := by show _ = _; rw [HS.out, eb]; rfl
          have hb0 := byt_eq s 0 (by omega)
          have hz0 : (0 : Int) < s.size := by omega
          have hk1 : (1 : Int) < (k : Int) := by omega
          obtain ⟨b0, hbb⟩ : ∃ b0, byt s 0 = b0 := ⟨_, rfl⟩
          rw [hbb] at hb0 e3
          clear HS eb hbb
          go_wp2
          simp only [Exit.jumpTo]
          go_ret2
          exact ⟨by rw [HR.out] <;> rfl, rfl⟩
        · have HR : Hid (octS s = (v, k)) := by show _ = _; rw [HS.out, eb]; rfl
          have hb0 := byt_eq s 0 (by omega)
          have hz0 : (0 : Int) < s.size := by omega
          have hk1 : (1 : Int) < (k : Int) := by omega
          obtain ⟨b0, hbb⟩ : ∃ b0, byt s 0 = b0 := ⟨_, rfl⟩
          rw [hbb] at hb0 e3
          clear HS eb hbb
          go_wp2
          simp only [Exit.jumpTo]
          go_ret2
          exact ⟨by rw [HR.out] <;> rfl, rfl⟩
        · exfalso; omega
      · have hc := byt_eq s k g1
        obtain ⟨c, hcc⟩ : ∃ c, byt s k = c := ⟨_, rfl⟩
        rw [hcc] at hc gc
        have g1I : (k : Int) < s.size := by omega
        have g2I : (k : Int) < 3 := by omega
        clear hcc
        rcases gc with gc | gc
        · rcases hbad with ⟨e1, eb⟩ | ⟨e1, e2, e3, eb⟩ | ⟨e1, e2, e3, eb⟩ | ⟨e1, e2, eb⟩
          · have HR : Hid (octS s = (0, 0)) := by show _ = _; rw [HS.out, eb]; rfl
            clear HS eb
            go_wp2
            simp only [Exit.jumpTo]
            go_ret2
            exact ⟨by rw [HR.out] <;> rfl, rfl⟩
          · have HR : Hid (octS s = (0, 0)) := by show _ = _; rw [HS.out, eb]; rfl
            have hb0 := byt_eq s 0 (by omega)
            have hz0 : (0 : Int) < s.size := by omega
            have hk1 : (1 : Int) < (k : Int) := by omega
            obtain ⟨b0, hbb⟩ : ∃ b0, byt s 0 = b0 := ⟨_, rfl⟩
            rw [hbb] at hb0 e3
            clear HS eb hbb
            go_wp2
            simp only [Exit.jumpTo]
            go_ret2
            exact ⟨by rw [HR.out] <;> rfl, rfl⟩
          · have HR : Hid (octS s = (v, k)) := by show _ = _; rw [HS.out, eb]; rfl
            have hb0 := byt_eq s 0 (by omega)
            have hz0 : (0 : Int) < s.size := by omega
            have hk1 : (1 : Int) < (k : Int) := by omega
            obtain ⟨b0, hbb⟩ : ∃ b0, byt s 0 = b0 := ⟨_, rfl⟩
            rw [hbb] at hb0 e3
            clear HS eb hbb
            go_wp2
            simp only [Exit.jumpTo]
            go_ret2
            exact ⟨by rw [HR.out] <;> rfl, rfl⟩
          · have HR : Hid (octS s = (v, k)) := by show _ = _; rw [HS.out, eb]; rfl
            have hk1 : (k : Int) ≤ (1 : Int) := by omega
            clear HS eb
            go_wp2
            simp only [Exit.jumpTo]
            go_ret2
            exact ⟨by rw [HR.out] <;> rfl, rfl⟩
        · have gc8 : 48 ≤ c := by omega
          rcases hbad with ⟨e1, eb⟩ | ⟨e1, e2, e3, eb⟩ | ⟨e1, e2, e3, eb⟩ | ⟨e1, e2, eb⟩
          · have HR : Hid (octS s = (0, 0)) := by show _ = _; rw [HS.out, eb]; rfl
            clear HS eb
            go_wp2
            simp only [Exit.jumpTo]
            go_ret2
            exact ⟨by rw [HR.out] <;> rfl, rfl⟩
          · have HR : Hid (octS s = (0, 0)) := by show _ = _; rw [HS.out, eb]; rfl
            have hb0 := byt_eq s 0 (by omega)
            have hz0 : (0 : Int) < s.size := by omega
            have hk1 : (1 : Int) < (k : Int) := by omega
            obtain ⟨b0, hbb⟩ : ∃ b0, byt s 0 = b0 := ⟨_, rfl⟩
            rw [hbb] at hb0 e3
            clear HS eb hbb
            go_wp2
            simp only [Exit.jumpTo]
            go_ret2
            exact ⟨by rw [HR.out] <;> rfl, rfl⟩
          · have HR : Hid (octS s = (v, k)) := by show _ = _; rw [HS.out, eb]; rfl
            have hb0 := byt_eq s 0 (by omega)
            have hz0 : (0 : Int) < s.size := by omega
            have hk1 : (1 : Int) < (k : Int) := by omega
            obtain ⟨b0, hbb⟩ : ∃ b0, byt s 0 = b0 := ⟨_, rfl⟩
            rw [hbb] at hb0 e3
            clear HS eb hbb
            go_wp2
            simp only [Exit.jumpTo]
            go_ret2
            exact ⟨by rw [HR.out] <;> rfl, rfl⟩
          · have HR : Hid (octS s = (v, k)) := by show _ = _; rw [HS.out, eb]; rfl
            have hk1 : (k : Int) ≤ (1 : Int) := by omega
            clear HS eb
            go_wp2
            simp only [Exit.jumpTo]
            go_ret2
            exact ⟨by rw [HR.out] <;> rfl, rfl⟩
  · intro HG
    go_wp2_with fail
    go_step3
    rename_i K hK
    exact hK _ _ (HG.out _ _ ⟨0, 0, _, _, _, _, _, _, _, _, _, _, _, _, _, _, _, _, _, _, _, _, _, _, _, _, _, _, _, _, _, _, _, _, _, _, _, _, _, _, _, _, _, _, _, _, rfl, by omega, by omega, rfl, by omega, by show (0 : Int) + 1 ≤ 10 ^ 0; decide, rfl⟩)
end Go.Proofs.YtajjffjnnjklnaaDoor
