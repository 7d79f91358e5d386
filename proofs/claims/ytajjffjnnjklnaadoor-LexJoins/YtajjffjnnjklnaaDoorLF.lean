/- How many bytes at a text's beginning are of a kind (lex.run). Conditions: as said. -/
import Derived.Test.YtajjffjnnjklnaaDoorLE
import Derived.Laws.EntriesVeiled
namespace Go.Proofs.YtajjffjnnjklnaaDoor
open Go.RowKit
/-- A function as a value. -/
abbrev fnV (f : Nat) : Value := .func (Fn.func f) #[] #[]
/-- How many bytes from a place on are of a kind. -/
def runFrom (s : ByteArray) (B : Int → Bool) : Nat → Nat → Nat
  | k, 0 => k
  | k, n + 1 => if B (byt s k) then runFrom s B (k + 1) n else k
def runS (s : ByteArray) (B : Int → Bool) : Nat := runFrom s B 0 s.size
/-- What holds at run's label. -/
def RunAt (s : ByteArray) (B : Int → Bool) (f : Nat) (w : World) (a' : Act) (w' : World) : Prop :=
  ∃ (k : Nat) (u2 u3 u6 u7 u8 u9 u10 u11 u12 u13 u14 u15 u16 u17 u18 u19 : Value), a' = { tmps := #[.string s, fnV f, u2, u3, .int .i64 0, .int .i64 (k : Nat), u6, u7, u8, u9, u10, u11, u12, u13, u14, u15, u16, u17, u18, u19], defers := [] } ∧ k ≤ s.size ∧ Hid (runFrom s B k (s.size - k) = runS s B) ∧ w' = w
set_option maxRecDepth 20000 in
set_option maxHeartbeats 4000000 in
theorem run_any (s : ByteArray) (hs : s.size ≤ maxLen) (B : Int → Bool) (f : Nat) (hf : ∀ args W, (callFunc f args).run Tryd.prog W = .ok (.enter f args) W) (hB : ∀ c, 0 ≤ c → c ≤ 255 → ∀ W, Calls Tryd.prog f #[.int .u8 c] W fun e w' => e = .returned (.bool (B c)) ∧ w' = W) (w : World) :
    Calls Tryd.prog 31 #[.string s, fnV f] w fun e w' => e = .returned (.int .i64 (runS s B : Nat)) ∧ w' = w := by
  unfold maxLen at hs
  have HBH : Hid _ := hB
  clear hB
  go_enter Tryd.func31, Tryd.ntmps31
  go_wp2_with fail
  refine scope_loop 0 (RunAt s B f w) (fun a' w' => s.size - slotAt 5 a' w') rfl ?_ ?_
  · rintro a' w' ⟨k, u2, u3, u6, u7, u8, u9, u10, u11, u12, u13, u14, u15, u16, u17, u18, u19, rfl, hks, hF, rfl⟩ IH
    have hksI : (k : Int) ≤ s.size := by omega
    by_cases hlt : k < s.size
    · have hltI : (k : Int) < s.size := by omega
      have hc := byt_eq s k hlt
      have HE : Hid (runS s B = if B (byt s k) then runFrom s B (k + 1) (s.size - (k + 1)) else k) := by
        show _ = _
        rw [← hF.out, show s.size - k = (s.size - (k + 1)) + 1 by omega]; rfl
      have HC : Hid (∀ W, Calls Tryd.prog f #[.int .u8 (byt s k)] W fun e w' => e = .returned (.bool (B (byt s k))) ∧ w' = W) := HBH.out (byt s k) (byt_lo s k) (byt_hi s k)
      obtain ⟨c, hcc⟩ : ∃ c, byt s k = c := ⟨_, rfl⟩
      rw [hcc] at hc HE HC
      obtain ⟨b, hb⟩ : ∃ b, B c = b := ⟨_, rfl⟩
      rw [hb] at HE HC
      clear hF hcc hb HBH
      cases b
      · have HZ : Hid (runS s B = k) := HE.out
        clear HE IH
        go_wp2_with fail
        refine (HC.out _).mono ?_
        rintro e W ⟨rfl, hw⟩
        rw [hw]
        clear hw
        go_wp2
        simp only [Exit.jumpTo]
        go_ret
        exact ⟨by rw [HZ.out] <;> rfl, rfl⟩
      · have HZ : Hid (runFrom s B (k + 1) (s.size - (k + 1)) = runS s B) := HE.out.symm
        clear HE
        go_wp2_with fail
        refine (HC.out _).mono ?_
        rintro e W ⟨rfl, hw⟩
        rw [hw]
        clear hw
        go_wp2_with fail
        go_step3
        show FromLabel _ _ _ _ _ _
        refine IH.out _ _ ⟨k + 1, _, _, _, _, _, _, _, _, _, _, _, _, _, _, _, _, by first | rfl | go_num, by omega, HZ, rfl⟩ ?_
        simp [slotAt, intOf]; omega
    · have HZ : Hid (runS s B = k) := by
        show _ = _
        rw [← hF.out, show s.size - k = 0 by omega]; rfl
      have hge : (s.size : Int) ≤ k := by omega
      clear hF IH HBH hlt
      go_wp2
      simp only [Exit.jumpTo]
      go_ret
      exact ⟨by rw [HZ.out] <;> rfl, rfl⟩
  · intro HG
    go_wp2_with fail
    go_step3
    rename_i K hK
    exact hK _ _ (HG.out _ _ ⟨0, _, _, _, _, _, _, _, _, _, _, _, _, _, _, _, _, rfl, by omega, rfl, rfl⟩)
end Go.Proofs.YtajjffjnnjklnaaDoor
