/- What Sum, Check, Add, Update of package sum and of the reference answer: the sum with carry of the words of readable bytes. Condition: a slice of at most 2^47 bytes. -/
import Derived.Test.YtgonckbdkgiddaaLOpen
namespace Go.Proofs.Ytgonckbdkgiddaa
open Go.RowKit

theorem scope_jumps {P : Program} {a : Act} {w : World} {Q : Exit → Act → World → Prop} {c rest : Code} (l : Nat) (J : Act → World → Prop) (μ : Act → World → Nat) (hf : findLabel c l = some (Code.skip.seq rest))
    (pass : ∀ a w, J a w → rest.wp P (Exit.jump l (fun a' w' => J a' w' ∧ μ a' w' < μ a w) Q) a w)
    (first : Hid (∀ a w, J a w → rest.wp P (Exit.jump l J Q) a w) → c.wp P (Exit.jump l J Q) a w) : (Code.scope c).wp P Q a w := by
  refine wp_scope_jumps l J μ hf (first ?_) (fun a w hJ => wp_seq (wp_skip (pass a w hJ)))
  intro a w hJ
  refine Code.wp_mono ?_ (pass a w hJ)
  intro e a' w' h
  cases e <;> first | exact h | exact ⟨h.1, h.2.1⟩

def fld (t : Int) : Int := if t = 0 then 0 else (t - 1) % 65535 + 1

theorem and16 (m : Int) (h0 : 0 ≤ m) (h1 : m < 18446744073709551616) : bits .and .u64 m 65535 = m % 65536 := by
  rw [u64_and m 65535 h0 h1 (by omega) (by omega)]
  rw [show (65535 : Int).toNat = 65535 from rfl, nat_mask16]
  omega

theorem fld_step (m : Int) (_h0 : 0 ≤ m) : fld (m / 65536 + m % 65536) = fld m := by
  unfold fld; split <;> split <;> omega

theorem fld_small (m : Int) (_h0 : 0 ≤ m) (h1 : m ≤ 65535) : fld m = m := by
  unfold fld; split <;> omega

theorem fld_bd (m : Int) (_h0 : 0 ≤ m) : 0 ≤ fld m ∧ fld m ≤ 65535 := by
  unfold fld; split <;> omega

theorem fld_add (a b : Int) (h0 : 0 ≤ a) (h1 : 0 ≤ b) : fld (fld a + b) = fld (a + b) := by
  unfold fld; split <;> split <;> split <;> omega

set_option maxHeartbeats 400000 in
theorem fold_any (t : Int) (h0 : 0 ≤ t) (h1 : t < 18446744073709551616) (w : World) :
    Calls Try.prog 73 #[.int .u64 t] w fun e w' => e = .returned (.int .u16 (fld t)) ∧ w' = w := by
  go_enter Try.func73, Try.ntmps73
  go_wp2
  refine scope_jumps 0 (fun a' w' => w' = w ∧ ∃ (m : Int) (u3 u4 u5 u6 u7 u8 u9 : Value), a' = { tmps := #[.int .u64 m, undef, .int .u16 0, u3, u4, u5, u6, u7, u8, u9, undef, undef], defers := [] } ∧ 0 ≤ m ∧ m < 18446744073709551616 ∧ Hid (fld m = fld t)) (fun a' _ => (intOf (a'.tmps.getD 0 undef)).toNat) rfl ?_ ?_
  · rintro a' w' ⟨rfl, m, u3, u4, u5, u6, u7, u8, u9, rfl, hm0, hm1, hm⟩
    by_cases hlt : 65535 < m
    · have ha : Hid (bits .and .u64 m 65535 = m % 65536) := and16 m hm0 hm1
      go_wp2
      go_step3
      rw [ha.out, show IntKind.u64.wrap (m / 65536 + m % 65536) = m / 65536 + m % 65536 from by rw [IntKind.wrap_u64]; omega]
      refine ⟨rfl, ⟨rfl, _, _, _, _, _, _, _, _, rfl, by omega, by omega, ?_⟩, ?_⟩
      · exact (fld_step m hm0).trans hm.out
      · simp [intOf]; omega
    · go_wp2
      simp only [Exit.jump]
      go_ret
      exact ⟨ret_int ((fld_small m hm0 (by omega)).symm.trans hm.out), rfl⟩
  · intro HG
    exact label_seq (HG.out _ _ ⟨rfl, t, undef, undef, undef, undef, undef, undef, undef, rfl, h0, h1, rfl⟩)

theorem add_any (a b : Int) (ha0 : 0 ≤ a) (ha1 : a ≤ 65535) (hb0 : 0 ≤ b) (hb1 : b ≤ 65535) (w : World) :
    Calls Try.prog 68 #[.int .u16 a, .int .u16 b] w fun e w' => e = .returned (.int .u16 (fld (a + b))) ∧ w' = w := by
  go_enter Try.func68, Try.ntmps68
  go_wp2_with (go_at_call 73; refine (fold_any _ (by omega) (by omega) _).mono ?_; rintro e w' ⟨rfl, rfl⟩)
  go_ret
  exact ⟨rfl, rfl⟩

theorem fld_high (m : Int) (h0 : 65536 ≤ m) (h1 : m ≤ 131070) : fld m = m - 65535 := by
  unfold fld; split <;> omega

theorem radd_any (a b : Int) (ha0 : 0 ≤ a) (ha1 : a ≤ 65535) (hb0 : 0 ≤ b) (hb1 : b ≤ 65535) (w : World) :
    Calls Try.prog 50 #[.int .u16 a, .int .u16 b] w fun e w' => e = .returned (.int .u16 (fld (a + b))) ∧ w' = w := by
  by_cases h : 65536 ≤ a + b
  · go_enter Try.func50, Try.ntmps50
    go_wp2
    go_ret
    exact ⟨ret_int (fld_high _ h (by omega)).symm, rfl⟩
  · go_enter Try.func50, Try.ntmps50
    go_wp2
    go_ret
    exact ⟨ret_int (fld_small _ (by omega) (by omega)).symm, rfl⟩

theorem nat_not16 (n : Nat) (h : n < 65536) : 65535 ^^^ n = 65535 - n := by
  have e : (~~~ (BitVec.ofNat 16 n)).toNat = (BitVec.allOnes 16 ^^^ BitVec.ofNat 16 n).toNat := by rw [BitVec.not_def]
  rw [BitVec.toNat_not, BitVec.toNat_xor, BitVec.toNat_allOnes, BitVec.toNat_ofNat, Nat.mod_eq_of_lt (by simpa using h)] at e
  simpa using e.symm

theorem not16 (n : Int) (h0 : 0 ≤ n) (h1 : n ≤ 65535) : bits .xor .u16 65535 n = 65535 - n := by
  rw [u16_xor _ _ (by omega) (by omega) (by omega) (by omega), show (65535 : Int).toNat = 65535 from rfl, nat_not16 _ (by omega)]
  omega

def wsum : List Int → Int
  | [] => 0
  | [x] => x * 256
  | x :: y :: r => x * 256 + y + wsum r

theorem wsum_drop2 (zs : List Int) (j : Nat) (h : j + 1 < zs.length) : wsum (zs.drop j) = zs.getD j 0 * 256 + zs.getD (j + 1) 0 + wsum (zs.drop (j + 2)) := by
  rw [List.drop_eq_getElem_cons (by omega), List.drop_eq_getElem_cons h, wsum]
  simp [List.getD_eq_getElem?_getD, h, show j < zs.length by omega]

theorem wsum_drop1 (zs : List Int) (j : Nat) (h : j + 1 = zs.length) : wsum (zs.drop j) = zs.getD j 0 * 256 := by
  rw [List.drop_eq_getElem_cons (by omega), List.drop_of_length_le (by omega), wsum]
  simp [List.getD_eq_getElem?_getD, show j < zs.length by omega]

theorem wsum_drop0 (zs : List Int) (j : Nat) (h : zs.length ≤ j) : wsum (zs.drop j) = 0 := by
  rw [List.drop_of_length_le h, wsum]

theorem or8 (x y : Int) (hx0 : 0 ≤ x) (hx1 : x ≤ 255) (hy0 : 0 ≤ y) (hy1 : y ≤ 255) : bits .or .u64 (x * 256) y = x * 256 + y := by
  rw [u64_or _ _ (by omega) (by omega) (by omega) (by omega)]
  rw [nat_join 8 (x * 256).toNat y.toNat (by omega) (by omega)]
  omega

/-- What holds at Sum's label: j bytes have been taken, their words add up to T. -/
def SumAt (b off cap : Nat) (zs : List Int) (w : World) (a' : Act) (w' : World) : Prop :=
  ∃ (nq : Nat) (T : Int) (j : Nat) (u5 u6 u7 u8 u9 u10 u11 u12 u13 u14 u15 u16 u17 u18 u19 u20 u21 u22 u23 u24 u25 u26 u27 u28 u29 u30 u31 u32 u33 u34 u35 u36 u37 u38 u39 u40 : Value), w' = w.drewN nq ∧ a' = { tmps := #[.slice (some ⟨b, off, none⟩) zs.length cap, undef, .int .u16 0, .int .u64 T, .int .i64 (j : Nat), u5, u6, u7, u8, u9, u10, u11, u12, u13, u14, u15, u16, u17, u18, u19, u20, u21, u22, u23, u24, u25, u26, u27, u28, u29, u30, u31, u32, u33, u34, u35, u36, u37, u38, u39, u40], defers := [] } ∧ j ≤ zs.length ∧ 0 ≤ T ∧ T ≤ 65535 * j ∧ Hid (T + wsum (zs.drop j) = wsum zs)

set_option maxHeartbeats 1000000 in
theorem sum_some (b : Nat) (off cap : Nat) (zs : List Int) (w : World) (hm : zs.length ≤ 281474976710656) (hc : ∀ i, i < zs.length → w.cell? ⟨b, off + i, none⟩ = some (.int .u8 (zs.getD i 0))) (hf : ∀ i, 0 ≤ zs.getD i 0 ∧ zs.getD i 0 ≤ 255) :
    Calls Try.prog 66 #[.slice (some ⟨b, off, none⟩) zs.length cap] w fun e w' => e = .returned (.int .u16 (fld (wsum zs))) ∧ ∃ nq, w' = w.drewN nq := by
  go_enter Try.func66, Try.ntmps66
  go_wp2
  refine scope_jumps 0 (SumAt b off cap zs w) (fun a' w' => zs.length - slotAt 4 a' w') rfl ?_ ?_
  · rintro a' w' ⟨nq, T, j, u5, u6, u7, u8, u9, u10, u11, u12, u13, u14, u15, u16, u17, u18, u19, u20, u21, u22, u23, u24, u25, u26, u27, u28, u29, u30, u31, u32, u33, u34, u35, u36, u37, u38, u39, u40, rfl, rfl, hj, hT0, hT1, hT⟩
    rcases (show j = zs.length ∨ j + 1 = zs.length ∨ j + 1 < zs.length from by omega) with h | h | h
    · have e0 : ((zs.length : Int) - (j : Int) == 0) = true := by simp; omega
      have HT : Hid (T = wsum zs) := by have := hT.out; rw [wsum_drop0 zs j (by omega)] at this; show T = wsum zs; omega
      clear hT h
      go_wp2_with (go_at_call 73; refine (fold_any _ (by omega) (by omega) _).mono ?_; rintro e w' ⟨rfl, rfl⟩)
      simp only [Exit.jump]
      go_ret
      exact ⟨ret_int (by rw [HT.out]), _, rfl⟩
    · have e0 : ((zs.length : Int) - (j : Int) == 0) = false := by simp; omega
      have e1 : ((zs.length : Int) - (j : Int) == 1) = true := by simp; omega
      have hlt : (j : Int) < (zs.length : Int) := by omega
      have HT : Hid (T + zs.getD j 0 * 256 = wsum zs) := by have := hT.out; rw [wsum_drop1 zs j (by omega)] at this; exact this
      have hcj := hc j (by omega)
      have hfj := hf j
      clear hT h hc hf
      generalize zs.getD j 0 = z at *
      go_wp2_with (go_at_call 73; refine (fold_any _ (by omega) (by omega) _).mono ?_; rintro e w' ⟨rfl, rfl⟩)
      simp only [Exit.jump]
      go_ret
      exact ⟨ret_int (by rw [HT.out]), _, rfl⟩
    · have e0 : ((zs.length : Int) - (j : Int) == 0) = false := by simp; omega
      have e1 : ((zs.length : Int) - (j : Int) == 1) = false := by simp; omega
      have hlt : (j : Int) < (zs.length : Int) := by omega
      have hlt1 : (j : Int) + 1 < (zs.length : Int) := by omega
      have HT : Hid (T + (zs.getD j 0 * 256 + zs.getD (j + 1) 0) + wsum (zs.drop (j + 2)) = wsum zs) := by have := hT.out; rw [wsum_drop2 zs j (by omega)] at this; show T + _ + _ = _; omega
      have hcj := hc j (by omega)
      have hfj := hf j
      have hck := hc (j + 1) (by omega)
      have hfk := hf (j + 1)
      have HO : Hid _ := or8 (zs.getD j 0) (zs.getD (j + 1) 0) hfj.1 hfj.2 hfk.1 hfk.2
      clear hT h hc hf
      generalize zs.getD j 0 = z at *
      generalize zs.getD (j + 1) 0 = y at *
      go_wp2
      go_quiet (fail)
      go_wp2
      go_step3
      rw [HO.out, show IntKind.u64.wrap (T + (z * 256 + y)) = T + (z * 256 + y) from by rw [IntKind.wrap_u64]; omega]
      refine ⟨rfl, ⟨_, T + (z * 256 + y), j + 2, _, _, _, _, _, _, _, _, _, _, _, _, _, _, _, _, _, _, _, _, _, _, _, _, _, _, _, _, _, _, _, _, _, _, _, _, rfl, rfl, by omega, by omega, by omega, HT.out⟩, ?_⟩
      simp [slotAt, intOf]; omega
  · intro HG
    go_wp2
    go_step3
    rename_i K hK
    exact hK _ _ (HG.out _ _ ⟨0, 0, 0, _, _, _, _, _, _, _, _, _, _, _, _, _, _, _, _, _, _, _, _, _, _, _, _, _, _, _, _, _, _, _, _, _, _, _, _, rfl, rfl, by omega, by omega, by omega, by show _ + _ = _; simp⟩)

theorem sum_empty (a : Option Addr) (cap : Nat) (w : World) :
    Calls Try.prog 66 #[.slice a 0 cap] w fun e w' => e = .returned (.int .u16 (fld (wsum []))) ∧ ∃ nq, w' = w.drewN nq := by
  go_enter Try.func66, Try.ntmps66
  go_wp2
  go_step3
  go_wp2
  go_step3
  go_wp2_with (go_at_call 73; refine (fold_any _ (by omega) (by omega) _).mono ?_; rintro e w' ⟨rfl, rfl⟩)
  rw [Exit.noGoto_ret]
  go_ret
  exact ⟨rfl, 0, rfl⟩

theorem wsum_nonneg (zs : List Int) (h : ∀ i, 0 ≤ zs.getD i 0 ∧ zs.getD i 0 ≤ 255) (n : Nat) : ∀ j, zs.length ≤ j + n → 0 ≤ wsum (zs.drop j) := by
  induction n using Nat.strongRecOn with
  | _ n ih =>
    intro j hj
    rcases (show zs.length ≤ j ∨ j + 1 = zs.length ∨ j + 1 < zs.length from by omega) with h1 | h1 | h1
    · rw [wsum_drop0 zs j h1]; exact Int.le_refl _
    · rw [wsum_drop1 zs j h1]; have := h j; omega
    · rw [wsum_drop2 zs j h1]; have := h j; have := h (j + 1); have := ih (n - 2) (by omega) (j + 2) (by omega); omega

set_option maxHeartbeats 1000000 in
theorem rsum_some (b : Nat) (off cap : Nat) (zs : List Int) (w : World) (hm : zs.length ≤ 281474976710656) (hc : ∀ i, i < zs.length → w.cell? ⟨b, off + i, none⟩ = some (.int .u8 (zs.getD i 0))) (hf : ∀ i, 0 ≤ zs.getD i 0 ∧ zs.getD i 0 ≤ 255) :
    Calls Try.prog 52 #[.slice (some ⟨b, off, none⟩) zs.length cap] w fun e w' => e = .returned (.int .u16 (fld (wsum zs))) ∧ w' = w := by
  go_enter Try.func52, Try.ntmps52
  go_wp2
  go_loop [3, 4, 5] (fun x i _ => ∃ (k : Nat) (X : Int), i = .int .i64 k ∧ x = .int .u16 X ∧ k ≤ zs.length + 1 ∧ 0 ≤ X ∧ X ≤ 65535 ∧ Hid (fld (X + wsum (zs.drop k)) = fld (wsum zs))) (fun _ i _ => zs.length + 1 - (intOf i).toNat)
  case atStart => exact ⟨0, 0, rfl, rfl, by omega, by omega, by omega, by show fld _ = _; simp⟩
  case round =>
    obtain ⟨k, X, rfl, rfl, hk, hX0, hX1, hX⟩ := hrel
    rcases (show zs.length ≤ k ∨ k + 1 = zs.length ∨ k + 1 < zs.length from by omega) with h | h | h
    · have HX : Hid (X = fld (wsum zs)) := by have := hX.out; rw [wsum_drop0 zs k h, Int.add_zero, fld_small X hX0 hX1] at this; exact this
      clear hX
      go_wp2
      go_ret
      exact ⟨ret_int HX.out, rfl⟩
    · have hlt : (k : Int) < (zs.length : Int) := by omega
      have hlt1 : ¬ (k : Int) + 1 < (zs.length : Int) := by omega
      have hcj := hc k (by omega)
      have hfj := hf k
      have HX : Hid (fld (X + zs.getD k 0 * 256) = fld (wsum zs)) := by have := hX.out; rw [wsum_drop1 zs k h] at this; exact this
      have HD : Hid (wsum (zs.drop (k + 2)) = 0) := wsum_drop0 _ _ (by omega)
      clear hX h hc hf
      generalize zs.getD k 0 = z at *
      go_wp2_with (go_at_call 50; refine (radd_any _ _ (by omega) (by omega) (by omega) (by omega) _).mono ?_; rintro e w' ⟨rfl, rfl⟩)
      go_round
      case rel => exact ⟨k + 2, fld (X + z * 256), by go_num, rfl, by omega, (fld_bd _ (by omega)).1, (fld_bd _ (by omega)).2, by show fld _ = _; rw [HD.out, Int.add_zero, fld_small _ (fld_bd _ (by omega)).1 (fld_bd _ (by omega)).2]; exact HX.out⟩
      case measure => simp [intOf]; omega
    · have hlt : (k : Int) < (zs.length : Int) := by omega
      have hlt1 : (k : Int) + 1 < (zs.length : Int) := by omega
      have hcj := hc k (by omega)
      have hfj := hf k
      have hck := hc (k + 1) (by omega)
      have hfk := hf (k + 1)
      have hnn : Hid (0 ≤ wsum (zs.drop (k + 2))) := wsum_nonneg zs hf zs.length (k + 2) (by omega)
      have HX : Hid (fld (X + (zs.getD k 0 * 256 + zs.getD (k + 1) 0 + wsum (zs.drop (k + 2)))) = fld (wsum zs)) := by have := hX.out; rw [wsum_drop2 zs k h] at this; exact this
      clear hX h hc hf
      generalize zs.getD k 0 = z at *
      generalize zs.getD (k + 1) 0 = y at *
      go_wp2_with (go_at_call 50; refine (radd_any _ _ (by omega) (by omega) (by omega) (by omega) _).mono ?_; rintro e w' ⟨rfl, rfl⟩)
      go_round
      case rel => exact ⟨k + 2, fld (X + (z * 256 + y)), by go_num, rfl, by omega, (fld_bd _ (by omega)).1, (fld_bd _ (by omega)).2, by show fld _ = _; rw [fld_add _ _ (by omega) hnn.out, ← HX.out]; congr 1; omega⟩
      case measure => simp [intOf]; omega

theorem rsum_empty (a : Option Addr) (cap : Nat) (w : World) :
    Calls Try.prog 52 #[.slice a 0 cap] w fun e w' => e = .returned (.int .u16 (fld (wsum []))) ∧ w' = w := by
  go_enter Try.func52, Try.ntmps52
  go_wp2
  refine wp_loop_rounds 1 ?_
  rw [rounds_succ]
  go_wp2
  go_ret
  exact ⟨rfl, rfl⟩

theorem sum_any {a : Option Addr} {n : Nat} {zs : List Int} {w : World} (cap : Nat) (h : BS w a n zs) :
    Calls Try.prog 66 #[.slice a n cap] w fun e w' => e = .returned (.int .u16 (fld (wsum zs))) ∧ ∃ nq, w' = w.drewN nq := by
  obtain ⟨rfl, hf, hm, hc⟩ := h
  rcases hc with h0 | ⟨b, off, rfl, hc⟩
  · have hz : zs = [] := List.length_eq_zero_iff.1 h0
    subst hz
    exact sum_empty a cap w
  · exact sum_some b off cap zs w hm hc hf

theorem rsum_any {a : Option Addr} {n : Nat} {zs : List Int} {w : World} (cap : Nat) (h : BS w a n zs) :
    Calls Try.prog 52 #[.slice a n cap] w fun e w' => e = .returned (.int .u16 (fld (wsum zs))) ∧ w' = w := by
  obtain ⟨rfl, hf, hm, hc⟩ := h
  rcases hc with h0 | ⟨b, off, rfl, hc⟩
  · have hz : zs = [] := List.length_eq_zero_iff.1 h0
    subst hz
    exact rsum_empty a cap w
  · exact rsum_some b off cap zs w hm hc hf

theorem wsum_bd {zs : List Int} (h : ∀ i, 0 ≤ zs.getD i 0 ∧ zs.getD i 0 ≤ 255) : 0 ≤ wsum zs := by
  have := wsum_nonneg zs h zs.length 0 (by omega)
  simpa using this

theorem check_any {a : Option Addr} {n : Nat} {zs : List Int} {w : World} (cap : Nat) (h : BS w a n zs) :
    Calls Try.prog 46 #[.slice a n cap] w fun e w' => e = .returned (.int .u16 (65535 - fld (wsum zs))) ∧ ∃ nq, w' = w.drewN nq := by
  have hb := fld_bd (wsum zs) (wsum_bd h.fits)
  have hx := not16 _ hb.1 hb.2
  have hsg : IntKind.u16.signed = false := rfl
  have hmx : IntKind.u16.max = 65535 := rfl
  go_enter Try.func46, Try.ntmps46
  go_wp2_with (go_at_call 66; refine (sum_any _ h).mono ?_; rintro e w' ⟨rfl, nq, rfl⟩)
  go_ret
  exact ⟨rfl, _, rfl⟩

theorem rcheck_any {a : Option Addr} {n : Nat} {zs : List Int} {w : World} (cap : Nat) (h : BS w a n zs) :
    Calls Try.prog 48 #[.slice a n cap] w fun e w' => e = .returned (.int .u16 (65535 - fld (wsum zs))) ∧ w' = w := by
  have hb := fld_bd (wsum zs) (wsum_bd h.fits)
  go_enter Try.func48, Try.ntmps48
  go_wp2_with (go_at_call 52; refine (rsum_any _ h).mono ?_; rintro e w' ⟨rfl, rfl⟩)
  go_ret
  exact ⟨rfl, rfl⟩

theorem wsum_take (m : Nat) : ∀ (zs : List Int) (k : Nat), k ≤ m → k % 2 = 0 → k ≤ zs.length → wsum (zs.take k) + wsum (zs.drop k) = wsum zs := by
  induction m with
  | zero => intro zs k hk _ _; have : k = 0 := by omega
            subst this; simp [wsum]
  | succ m ih =>
    intro zs k hk he hl
    match zs, k with
    | zs, 0 => simp [wsum]
    | zs, 1 => omega
    | [], k + 2 => simp at hl
    | [x], k + 2 => simp at hl
    | x :: y :: r, k + 2 =>
      have := ih r k (by omega) (by omega) (by simp at hl; omega)
      simp only [List.take_succ_cons, List.drop_succ_cons, wsum]
      omega

theorem fld_both (a b : Int) (ha : 0 ≤ a) (hb : 0 ≤ b) : fld (fld a + fld b) = fld (a + b) := by
  rw [fld_add _ _ ha (fld_bd b hb).1, Int.add_comm, fld_add _ _ hb ha, Int.add_comm]

theorem wsum_set (k : Nat) : ∀ (zs : List Int) (x y : Int), 2 * k + 1 < zs.length → wsum ((zs.set (2 * k) x).set (2 * k + 1) y) = wsum zs - (zs.getD (2 * k) 0 * 256 + zs.getD (2 * k + 1) 0) + (x * 256 + y) := by
  induction k with
  | zero =>
    intro zs x y h
    match zs with
    | [] => simp at h
    | [u] => simp at h
    | u :: v :: r => simp [wsum]; omega
  | succ k ih =>
    intro zs x y h
    match zs with
    | [] => simp at h
    | [u] => simp at h
    | u :: v :: r =>
      have := ih r x y (by simp at h; omega)
      rw [show 2 * (k + 1) = 2 * k + 1 + 1 from by omega]
      simp only [List.set_cons_succ, List.getD_cons_succ, wsum]
      omega

theorem upd_same (S o n : Int) (hS : 0 ≤ S) (ho0 : 0 ≤ o) (ho1 : o ≤ 65535) (hn0 : 0 ≤ n) (hd : 0 ≤ S - o) :
    fld (fld (65535 - (65535 - fld S) + (65535 - o)) + n) = fld (S - o + n) ∨ (fld (fld (65535 - (65535 - fld S) + (65535 - o)) + n) = 65535 ∧ fld (S - o + n) = 0) := by
  rw [show 65535 - (65535 - fld S) + (65535 - o) = fld S + (65535 - o) from by omega, fld_add S _ hS (by omega), fld_add _ _ (by omega) hn0]
  unfold fld
  split <;> split <;> omega

theorem or8u16 (x y : Int) (hx0 : 0 ≤ x) (hx1 : x ≤ 255) (hy0 : 0 ≤ y) (hy1 : y ≤ 255) : bits .or .u16 (x * 256) y = x * 256 + y := by
  rw [u16_or _ _ (by omega) (by omega) (by omega) (by omega)]
  rw [nat_join 8 (x * 256).toNat y.toNat (by omega) (by omega)]
  omega

end Go.Proofs.Ytgonckbdkgiddaa
