/- The IPv4 address token at a text's beginning (lex.readAddr). Conditions: none beyond a string's size. -/
import Derived.Test.YtajjffjnnjklnaaDoorLG
namespace Go.Proofs.YtajjffjnnjklnaaDoor
open Go.RowKit
theorem addrFrom_bd (s : ByteArray) : ∀ (n k : Nat) (ip r : Int), 0 ≤ ip → addrFrom s k n ip = some r → 0 ≤ r ∧ r + 1 ≤ (ip + 1) * 256 ^ n := by
  intro n
  induction n with
  | zero => intro k ip r _ h; cases h
  | succ n ih =>
    intro k ip r h0 h
    have hb := octS_b (s.extract k s.size)
    unfold addrFrom at h
    split at h
    · cases h
    split at h
    · rename_i hn
      subst hn
      split at h
      · cases h
        rw [show (256 : Int) ^ (0 + 1) = 256 from by decide]
        omega
      · cases h
    · split at h
      · cases h
      split at h
      · obtain ⟨h1, h2⟩ := ih _ _ _ (by omega) h
        refine ⟨h1, Int.le_trans h2 ?_⟩
        rw [show (256 : Int) ^ (n + 1) = 256 * 256 ^ n from by rw [Int.pow_succ, Int.mul_comm], ← Int.mul_assoc]
        exact Int.mul_le_mul_of_nonneg_right (by omega) (Int.pow_nonneg (by decide))
      · cases h
theorem addr_bd {s : ByteArray} {r : Int} (h : addrSpec s = some r) : 0 ≤ r ∧ r ≤ 4294967295 := by
  obtain ⟨h1, h2⟩ := addrFrom_bd s 4 0 0 r (by decide) h
  rw [show (256 : Int) ^ 4 = 4294967296 from by decide] at h2
  omega
def pick9 (o : Option Int) (k : Nat) (r : Option (Nat × Int)) : Option (Nat × Int) := match o with | some ip => some (k, ip) | none => r
/-- The longest address of at most so many bytes. -/
def adFrom (s : ByteArray) : Nat → Option (Nat × Int)
  | 0 => none
  | k + 1 => if k + 1 < 7 then none else pick9 (addrSpec (s.extract 0 (k + 1))) (k + 1) (adFrom s k)
def rdAddr (s : ByteArray) : Array Value × Int := match adFrom s (min s.size 15) with | some r => (tokC 4 (s.extract 0 r.1) r.2 0, ((r.1 : Nat) : Int)) | none => (tokC 0 ⟨#[]⟩ 0 0, 0)
theorem adFrom_lt {s : ByteArray} {k : Nat} (h : k < 7) : adFrom s k = none := by
  cases k with
  | zero => rfl
  | succ k => unfold adFrom; rw [if_pos h]
theorem adFrom_ge {s : ByteArray} {k : Nat} (h : 7 ≤ k) : adFrom s k = pick9 (addrSpec (s.extract 0 k)) k (adFrom s (k - 1)) := by
  cases k with
  | zero => omega
  | succ k => rw [adFrom, if_neg (by omega), Nat.add_sub_cancel]
/-- What holds at readAddr's label. -/
def RdAt (s : ByteArray) (w : World) (a' : Act) (w' : World) : Prop :=
  ∃ (k : Nat) (u1 u5 u6 u7 u8 u9 u10 u11 u12 u13 u14 u15 u16 u17 u18 u19 u20 u21 u22 u23 u24 u25 u26 u27 u28 u29 u30 : Value), a' = { tmps := #[.string s, u1, .pointer (some ⟨w.heap.size, 0, none⟩), .int .i64 0, .int .i64 (k : Nat), u5, u6, u7, u8, u9, u10, u11, u12, u13, u14, u15, u16, u17, u18, u19, u20, u21, u22, u23, u24, u25, u26, u27, u28, u29, u30], defers := [] } ∧ k ≤ s.size ∧ k ≤ 15 ∧ Hid (adFrom s k = adFrom s (min s.size 15)) ∧ w' = w.alloc (.cells #[.int .i64 0, .string ⟨#[]⟩, .int .u64 0, .int .i64 0] 32)
set_option maxRecDepth 20000 in
set_option maxHeartbeats 4000000 in
theorem readAddr_any (s : ByteArray) (hs : s.size ≤ maxLen) (w : World) :
    Calls Tryd.prog 22 #[.string s] w fun e w' => e = .returned (.tuple #[.agg (rdAddr s).1, .int .i64 (rdAddr s).2]) ∧ Below w.heap.size w w' := by
  have HA : Hid (∀ k, k ≤ s.size → ∀ W, Calls Tryd.prog 38 #[.string (s.extract 0 k)] W fun e w' => e = .returned (.tuple #[.int .u32 ((addrSpec (s.extract 0 k)).getD 0), .bool (addrSpec (s.extract 0 k)).isSome]) ∧ w' = W) := by
    show ∀ k, _
    intro k hk W
    exact addr_any _ (by simp; omega) W
  unfold maxLen at hs
  go_enter Tryd.func22, Tryd.ntmps22
  go_wp2_with fail
  refine scope_loop 0 (RdAt s w) (fun a' w' => slotAt 4 a' w') rfl ?_ ?_
  · rintro a' w' ⟨k, u1, u5, u6, u7, u8, u9, u10, u11, u12, u13, u14, u15, u16, u17, u18, u19, u20, u21, u22, u23, u24, u25, u26, u27, u28, u29, u30, rfl, hks, hk15, hF, rfl⟩ IH
    have hksI : (k : Int) ≤ s.size := by omega
    have hkI : (k : Int) ≤ 15 := by omega
    by_cases h7 : k < 7
    · have h7I : (k : Int) < 7 := by omega
      have HZ : Hid (rdAddr s = (tokC 0 ⟨#[]⟩ 0 0, 0)) := by show _ = _; unfold rdAddr; rw [← hF.out, adFrom_lt h7]
      clear hF IH HA h7
      go_wp2
      simp only [Exit.jumpTo]
      refine bodyPost_ret (results_tok (p := 2) (u := 3) rfl _ _ w.heap.size _ rfl (heap_alloc_new _ _) rfl) rfl ⟨?_, (Below.refl _ _).alloc (Nat.le_refl _) _⟩
      rw [HZ.out]; rfl
    have h7I : (7 : Int) ≤ k := by omega
    have HC := HA.out k hks
    have HE : Hid (adFrom s (min s.size 15) = pick9 (addrSpec (s.extract 0 k)) k (adFrom s (k - 1))) := by show _ = _; rw [← hF.out]; exact adFrom_ge (by omega)
    by_cases hw : k = s.size
    · have hex : s.extract 0 k = s := by rw [hw]; simp
      rw [hex] at HC HE
      clear hF HA
      cases hc : addrSpec s with
      | none =>
        rw [hc] at HC HE
        have HC : Hid (∀ W, Calls Tryd.prog 38 #[.string s] W fun e w' => e = .returned (.tuple #[.int .u32 0, .bool false]) ∧ w' = W) := HC
        have HZ : Hid (adFrom s (k - 1) = adFrom s (min s.size 15)) := HE.out.symm
        clear HE hc hex
        subst hw
        go_wp2_with fail
        refine (HC.out _).mono ?_
        rintro e W ⟨rfl, hw9⟩
        rw [hw9]
        clear hw9
        go_wp2_with fail
        go_step3
        show FromLabel _ _ _ _ _ _
        refine IH.out _ _ ⟨s.size - 1, _, _, _, _, _, _, _, _, _, _, _, _, _, _, _, _, _, _, _, _, _, _, _, _, _, _, _, by rw [show (((s.size - 1 : Nat)) : Int) = (s.size : Int) - 1 by omega], by omega, by omega, HZ, rfl⟩ ?_
        simp [slotAt, intOf]; omega
      | some ip =>
        rw [hc] at HC HE
        have HC : Hid (∀ W, Calls Tryd.prog 38 #[.string s] W fun e w' => e = .returned (.tuple #[.int .u32 ip, .bool true]) ∧ w' = W) := HC
        have HZ : Hid (rdAddr s = (tokC 4 s ip 0, ((k : Nat) : Int))) := by show _ = _; unfold rdAddr; rw [HE.out]; show (tokC 4 (s.extract 0 k) ip 0, ((k : Nat) : Int)) = _; rw [hex]
        have hip := addr_bd hc
        have hwi : IntKind.u64.wrap ip = ip := by simp [IntKind.wrap, IntKind.bits, IntKind.signed]; omega
        clear HE hc IH hex
        subst hw
        go_wp2_with fail
        refine (HC.out _).mono ?_
        rintro e W ⟨rfl, hw9⟩
        rw [hw9]
        clear hw9 HC
        go_wp2
        simp only [Exit.jumpTo]
        refine bodyPost_ret (results_tok (p := 2) (u := 3) rfl _ _ w.heap.size _ rfl (heap_alloc_new _ _) rfl) rfl ⟨?_, (Below.refl _ _).alloc (Nat.le_refl _) _⟩
        rw [HZ.out]; rfl

    · have hwI : ¬ (k : Int) = s.size := by omega
      clear hF HA
      cases hc : addrSpec (s.extract 0 k) with
      | none =>
        rw [hc] at HC HE
        have HC : Hid (∀ W, Calls Tryd.prog 38 #[.string (s.extract 0 k)] W fun e w' => e = .returned (.tuple #[.int .u32 0, .bool false]) ∧ w' = W) := HC
        have HZ : Hid (adFrom s (k - 1) = adFrom s (min s.size 15)) := HE.out.symm
        clear HE hc
        
        go_wp2_with fail
        refine (HC.out _).mono ?_
        rintro e W ⟨rfl, hw9⟩
        rw [hw9]
        clear hw9
        go_wp2_with fail
        go_step3
        show FromLabel _ _ _ _ _ _
        refine IH.out _ _ ⟨k - 1, _, _, _, _, _, _, _, _, _, _, _, _, _, _, _, _, _, _, _, _, _, _, _, _, _, _, _, by rw [show (((k - 1 : Nat)) : Int) = (k : Int) - 1 by omega], by omega, by omega, HZ, rfl⟩ ?_
        simp [slotAt, intOf]; omega
      | some ip =>
        rw [hc] at HC HE
        have HC : Hid (∀ W, Calls Tryd.prog 38 #[.string (s.extract 0 k)] W fun e w' => e = .returned (.tuple #[.int .u32 ip, .bool true]) ∧ w' = W) := HC
        have HZ : Hid (rdAddr s = (tokC 4 (s.extract 0 k) ip 0, ((k : Nat) : Int))) := by show _ = _; unfold rdAddr; rw [HE.out]; show (tokC 4 (s.extract 0 k) ip 0, ((k : Nat) : Int)) = _; rfl
        have hip := addr_bd hc
        have hwi : IntKind.u64.wrap ip = ip := by simp [IntKind.wrap, IntKind.bits, IntKind.signed]; omega
        clear HE hc IH
        
        go_wp2_with fail
        refine (HC.out _).mono ?_
        rintro e W ⟨rfl, hw9⟩
        rw [hw9]
        clear hw9 HC
        go_wp2
        simp only [Exit.jumpTo]
        refine bodyPost_ret (results_tok (p := 2) (u := 3) rfl _ _ w.heap.size _ rfl (heap_alloc_new _ _) rfl) rfl ⟨?_, (Below.refl _ _).alloc (Nat.le_refl _) _⟩
        rw [HZ.out]; rfl

  · intro HG
    by_cases h15 : s.size ≤ 15
    · have hI : (s.size : Int) ≤ 15 := by omega
      go_wp2_with fail
      go_step3
      rename_i K hK
      exact hK _ _ (HG.out _ _ ⟨s.size, _, _, _, _, _, _, _, _, _, _, _, _, _, _, _, _, _, _, _, _, _, _, _, _, _, _, _, by first | rfl | go_num, by omega, by omega, by show _ = _; rw [show min s.size 15 = s.size by omega], rfl⟩)
    · have hI : (15 : Int) < s.size := by omega
      have hI2 : ¬ (s.size : Int) ≤ 15 := by omega
      go_wp2_with fail
      go_step3
      rename_i K hK
      exact hK _ _ (HG.out _ _ ⟨15, _, _, _, _, _, _, _, _, _, _, _, _, _, _, _, _, _, _, _, _, _, _, _, _, _, _, _, by first | rfl | go_num, by omega, by omega, by show _ = _; rw [show min s.size 15 = 15 by omega], rfl⟩)
end Go.Proofs.YtajjffjnnjklnaaDoor
