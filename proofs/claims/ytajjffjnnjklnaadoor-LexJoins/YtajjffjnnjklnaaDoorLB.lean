/- The Ethernet address of any text (eth.Mac). Conditions: none beyond a string's size. -/
import Derived.Test.YtajjffjnnjklnaaDoorLA
import Derived.Laws.BitsLemmas
namespace Go.Proofs.YtajjffjnnjklnaaDoor
open Go.RowKit
theorem from_loop {P : Program} {Q : Exit → Act → World → Prop} {c rest : Code} {l : Nat} (hf : findLabel c l = some (Code.skip.seq rest)) (J : Act → World → Prop) (μ : Act → World → Nat)
    (pass : ∀ a w, J a w → (∀ a' w', J a' w' → μ a' w' < μ a w → FromLabel P c Q l a' w') → rest.wp P (Exit.jumpTo P c Q) a w) : ∀ a w, J a w → FromLabel P c Q l a w := by
  have key : ∀ n a w, μ a w = n → J a w → FromLabel P c Q l a w := by
    intro n
    induction n using Nat.strongRecOn with
    | _ n ih =>
      intro a w hn hJ
      exact from_label hf (pass a w hJ fun a' w' hJ' hlt => ih _ (hn ▸ hlt) a' w' rfl hJ')
  exact fun a w => key _ a w rfl

/-- A scope with several labels, of which l heads a loop. -/
theorem scope_loop {P : Program} {a : Act} {w : World} {Q : Exit → Act → World → Prop} {c rest : Code} (l : Nat) (J : Act → World → Prop) (μ : Act → World → Nat) (hf : findLabel c l = some (Code.skip.seq rest))
    (pass : ∀ a w, J a w → Hid (∀ a' w', J a' w' → μ a' w' < μ a w → FromLabel P c Q l a' w') → rest.wp P (Exit.jumpTo P c Q) a w)
    (first : Hid (∀ a w, J a w → rest.wp P (Exit.jumpTo P c Q) a w) → c.wp P (Exit.jumpTo P c Q) a w) : (Code.scope c).wp P Q a w :=
  scope_from (first (fun a w hJ => pass a w hJ (fun a' w' hJ' _ => from_loop hf J μ pass a' w' hJ')))
/-- A text's byte. -/
def byt (s : ByteArray) (i : Nat) : Int := ((s.data.getD i 0).toNat : Int)
theorem byt_lo (s : ByteArray) (i : Nat) : 0 ≤ byt s i := Int.natCast_nonneg _
theorem byt_hi (s : ByteArray) (i : Nat) : byt s i ≤ 255 := by
  have := (s.data.getD i 0).toNat_lt; unfold byt; omega
/-- What eth.Mac reads from a place on. -/
def macFrom (s : ByteArray) : Nat → Nat → Int → Option Int
  | _, 0, acc => some acc
  | k, n + 1, acc => if k % 3 = 2 then (if byt s k = 58 then macFrom s (k + 1) n acc else none) else (if hexB (byt s k) then macFrom s (k + 1) n (acc * 16 + hexV (byt s k)) else none)
def macSpec (s : ByteArray) : Option Int := if s.size = 17 then macFrom s 0 17 0 else none
theorem hexV_b {c : Int} (h : hexB c = true) : 0 ≤ hexV c ∧ hexV c ≤ 15 := by
  unfold hexB digB at h
  simp only [Bool.or_eq_true, Bool.and_eq_true, decide_eq_true_eq] at h
  unfold hexV
  rcases h with ⟨h1, h2⟩ | ⟨h1, h2⟩
  · rw [if_pos h2]; omega
  · rw [if_neg (by omega)]; omega
theorem mac_or (acc d : Int) (h0 : 0 ≤ acc) (h1 : acc ≤ 17592186044415) (d0 : 0 ≤ d) (d1 : d ≤ 15) : bits BinOp.or IntKind.u64 (acc * 16) d = acc * 16 + d := by
  have hw : ∀ n : Int, 0 ≤ n → n < 2 ^ 64 → IntKind.u64.wrap n = n := fun n a b => by
    simp [IntKind.wrap, IntKind.bits, IntKind.signed]; omega
  exact bits_join .u64 64 (by decide) hw 4 (acc * 16) d (by omega) (by omega) (by omega) d0 (by omega) (by omega)
/-- What holds at eth.Mac's label. -/
def MacAt (s : ByteArray) (w : World) (a' : Act) (w' : World) : Prop :=
  ∃ (k : Nat) (acc : Int) (u1 u6 u7 u8 u9 u10 u11 u12 u13 u14 u15 u16 u17 u18 u19 u20 u21 u22 u23 u24 u25 u26 u27 u28 u29 u30 u31 u32 u33 u34 u35 u36 u37 : Value), a' = { tmps := #[.string s, u1, .int .u64 0, .bool false, .int .u64 acc, .int .i64 (k : Nat), u6, u7, u8, u9, u10, u11, u12, u13, u14, u15, u16, u17, u18, u19, u20, u21, u22, u23, u24, u25, u26, u27, u28, u29, u30, u31, u32, u33, u34, u35, u36, u37], defers := [] } ∧ k ≤ 16 ∧ Hid (macFrom s k (17 - k) acc = macSpec s) ∧ 0 ≤ acc ∧ Hid (acc + 1 ≤ 16 ^ (k - k / 3)) ∧ w' = w
theorem pow_le {m n : Nat} (h : m ≤ n) : (16 : Int) ^ m ≤ 16 ^ n := by
  exact_mod_cast Nat.pow_le_pow_right (by decide) h
theorem byt_eq (s : ByteArray) (k : Nat) (h : k < s.size) : (s[k].toNat : Int) = byt s k := by
  unfold byt
  rw [Array.getD_eq_getD_getElem?, Array.getElem?_eq_getElem (by simpa using h)]
  rfl
set_option maxRecDepth 20000 in
set_option maxHeartbeats 4000000 in
theorem mac_any (s : ByteArray) (w : World) :
    Calls Tryd.prog 37 #[.string s] w fun e w' => e = .returned (.tuple #[.int .u64 ((macSpec s).getD 0), .bool (macSpec s).isSome]) ∧ w' = w := by
  by_cases hn : s.size = 17
  · have hN : (s.size : Int) = 17 := by omega
    have HM : Hid (macFrom s 0 17 0 = macSpec s) := by show _ = _; unfold macSpec; rw [if_pos hn]
    have HN : Hid _ := hn
    have e0 : ((s.size : Int) == 17) = true := by simp; omega
    go_enter Tryd.func37, Tryd.ntmps37
    go_wp2_with fail
    refine scope_loop 1 (MacAt s w) (fun a' w' => 17 - slotAt 5 a' w') rfl ?_ ?_
    · rintro a' w' ⟨k, acc, u1, u6, u7, u8, u9, u10, u11, u12, u13, u14, u15, u16, u17, u18, u19, u20, u21, u22, u23, u24, u25, u26, u27, u28, u29, u30, u31, u32, u33, u34, u35, u36, u37, rfl, hk, hF, ha0, hA, rfl⟩ IH
      have hkI : (k : Int) ≤ 16 := by omega
      have hks : k < s.size := by omega
      have hksI : (k : Int) < s.size := by omega
      have hc := byt_eq s k hks
      have hc0 := byt_lo s k
      have hc9 := byt_hi s k
      have hF1 : macFrom s k (17 - k) acc = if k % 3 = 2 then (if byt s k = 58 then macFrom s (k + 1) (16 - k) acc else none) else (if hexB (byt s k) then macFrom s (k + 1) (16 - k) (acc * 16 + hexV (byt s k)) else none) := by
        rw [show 17 - k = (16 - k) + 1 by omega]; rfl
      have HF1 : Hid _ := hF.out.symm.trans hF1
      obtain ⟨c, hcc⟩ : ∃ c, byt s k = c := ⟨_, rfl⟩
      rw [hcc] at hc hc0 hc9 HF1
      clear hF1 hF hcc
      by_cases h2 : k % 3 = 2
      · have hm : (k : Int) % 3 = 2 := by omega
        have h2b : ((k : Int) % 3 == 2) = true := by simp [hm]
        cases h58 : (c == 58)
        · have HZ : Hid (macSpec s = none) := by show _ = _; rw [HF1.out, if_pos h2, if_neg (by simpa using h58)]
          clear HF1 IH
          go_wp2_with fail
          go_step3
          show FromLabel _ _ _ _ _ _
          refine from_label rfl ?_
          go_wp2
          simp only [Exit.jumpTo]
          go_ret2
          exact ⟨by rw [HZ.out]; rfl, rfl⟩
        · have HZ : Hid (macFrom s (k + 1) (16 - k) acc = macSpec s) := by show _ = _; rw [HF1.out, if_pos h2, if_pos (by simpa using h58)]
          clear HF1
          have hlt16 : k < 16 := by omega
          have hl2 : (k : Int) + 1 < 17 := by omega
          go_wp2_with fail
          go_step3
          show FromLabel _ _ _ _ _ _
          refine IH.out _ _ ⟨k + 1, acc, _, _, _, _, _, _, _, _, _, _, _, _, _, _, _, _, _, _, _, _, _, _, _, _, _, _, _, _, _, _, _, _, _, by first | rfl | go_num, by omega, by rw [show 17 - (k + 1) = 16 - k by omega]; exact HZ, ha0, ?_, rfl⟩ ?_
          · show acc + 1 ≤ 16 ^ (k + 1 - (k + 1) / 3)
            rw [show k + 1 - (k + 1) / 3 = k - k / 3 by omega]; exact hA.out
          · simp [slotAt, intOf]; omega
      · have hm : ¬ (k : Int) % 3 = 2 := by omega
        have h2b : ((k : Int) % 3 == 2) = false := by simp [hm]
        have hA1 : acc + 1 ≤ 16 ^ 11 := Int.le_trans hA.out (pow_le (by omega))
        have ha1 : acc ≤ 17592186044415 := by
          have : (16 : Int) ^ 11 = 17592186044416 := by decide
          omega
        clear hA1 hm
        have HX : Hid (∀ W, Calls Tryd.prog 48 #[.int .u8 c] W fun e w' => e = .returned (.tuple #[.int .u64 (if hexB c then hexV c else 0), .bool (hexB c)]) ∧ w' = W) := fun W => hexDigit_any c hc0 hc9 W
        cases hx : hexB c
        · have HZ : Hid (macSpec s = none) := by show _ = _; rw [HF1.out, if_neg h2, hx]; rfl
          rw [hx] at HX
          clear HF1 IH hx
          go_wp2_with fail
          refine (HX.out _).mono ?_
          rintro e W ⟨rfl, hw⟩
          rw [hw]
          clear hw
          go_wp2_with fail
          go_step3
          show FromLabel _ _ _ _ _ _
          refine from_label rfl ?_
          go_wp2
          simp only [Exit.jumpTo]
          go_ret2
          exact ⟨by rw [HZ.out]; rfl, rfl⟩
        · have hvb := hexV_b hx
          have HZ : Hid (macFrom s (k + 1) (16 - k) (acc * 16 + hexV c) = macSpec s) := by show _ = _; rw [HF1.out, if_neg h2, hx]; rfl
          rw [hx, if_pos rfl] at HX
          obtain ⟨v, hv⟩ : ∃ v, hexV c = v := ⟨_, rfl⟩
          rw [hv] at HX HZ hvb
          obtain ⟨v0, v1⟩ := hvb
          have hor := mac_or acc v ha0 ha1 v0 v1
          clear HF1 hx hv
          by_cases hlt16 : k < 16
          · have hl2 : (k : Int) + 1 < 17 := by omega
            go_wp2_with fail
            refine (HX.out _).mono ?_
            rintro e W ⟨rfl, hw⟩
            rw [hw]
            clear hw
            go_wp2_with fail
            go_step3
            show FromLabel _ _ _ _ _ _
            refine IH.out _ _ ⟨k + 1, acc * 16 + v, _, _, _, _, _, _, _, _, _, _, _, _, _, _, _, _, _, _, _, _, _, _, _, _, _, _, _, _, _, _, _, _, _, by first | rfl | go_num, by omega, by rw [show 17 - (k + 1) = 16 - k by omega]; exact HZ, by omega, ?_, rfl⟩ ?_
            · show acc * 16 + v + 1 ≤ 16 ^ (k + 1 - (k + 1) / 3)
              rw [show k + 1 - (k + 1) / 3 = k - k / 3 + 1 by omega, Int.pow_succ]
              have := hA.out
              omega
            · simp [slotAt, intOf]; omega
          · have hk16 : k = 16 := by omega
            subst hk16
            have HQ : Hid (macSpec s = some (acc * 16 + v)) := HZ.out.symm
            clear IH HZ hlt16 h2 hk
            go_wp2_with fail
            refine (HX.out _).mono ?_
            rintro e W ⟨rfl, hw⟩
            rw [hw]
            clear hw
            go_wp2
            simp only [Exit.jumpTo]
            go_ret2
            exact ⟨by rw [HQ.out]; rfl, rfl⟩
    · intro HG
      go_wp2_with fail
      go_step3
      rename_i K hK
      exact hK _ _ (HG.out _ _ ⟨0, 0, _, _, _, _, _, _, _, _, _, _, _, _, _, _, _, _, _, _, _, _, _, _, _, _, _, _, _, _, _, _, _, _, _, rfl, by omega, HM, by omega, by show (0 : Int) + 1 ≤ 16 ^ 0; decide, rfl⟩)
  · have e : Hid (macSpec s = none) := by show _ = _; unfold macSpec; rw [if_neg hn]
    have e0 : ((s.size : Int) == 17) = false := by simp; omega
    clear hn
    go_enter Tryd.func37, Tryd.ntmps37
    go_wp2_with fail
    refine scope_from ?_
    go_wp2_with fail
    go_step3
    show FromLabel _ _ _ _ _ _
    refine from_label rfl ?_
    go_wp2
    simp only [Exit.jumpTo]
    go_ret2
    exact ⟨by rw [e.out]; rfl, rfl⟩
end Go.Proofs.YtajjffjnnjklnaaDoor
