/- What a pulse is asked: isMade, Ticks, At, Fourth. Conditions: it can be read. -/
import Derived.Test.YthefgplobhmfcabPB
namespace Go.Proofs.Ythefgplobhmfcab
open Go.RowKit
theorem isMade_nil (w : World) : Calls Try.prog 13 #[.pointer none] w fun e w' => e = .returned (.bool false) ∧ w' = w := by
  go_enter Try.func13, Try.ntmps13
  go_wp2
  go_ret
  exact ⟨rfl, rfl⟩
theorem isMade_any (b : Nat) (a : Option Addr) (n c : Nat) (L : List Int) (w : World) (h : PR w b a n c L) :
    Calls Try.prog 13 #[.pointer (some ⟨b, 0, none⟩)] w fun e w' => e = .returned (.bool (decide (0 < n))) ∧ w' = w := by
  have hc := h.cell
  have hle := h.le
  clear h
  go_enter Try.func13, Try.ntmps13
  go_wp2
  go_ret
  exact ⟨by simp, rfl⟩
theorem ticks_nil (w : World) : Calls Try.prog 14 #[.pointer none] w fun e w' => e = .returned (.int .i64 0) ∧ w' = w := by
  go_enter Try.func14, Try.ntmps14
  go_wp2_with fail
  refine (isMade_nil _).mono ?_
  rintro e W ⟨rfl, rfl⟩
  go_wp2
  go_ret
  exact ⟨rfl, rfl⟩
theorem ticks_any (b : Nat) (a : Option Addr) (n c : Nat) (L : List Int) (w : World) (h : PR w b a n c L) (h0 : 0 < n) :
    Calls Try.prog 14 #[.pointer (some ⟨b, 0, none⟩)] w fun e w' => e = .returned (.int .i64 n) ∧ w' = w := by
  have hc := h.cell
  have hle := h.le
  have H : Hid _ := h
  have h0I : decide (0 < n) = true := by simpa using h0
  clear h
  go_enter Try.func14, Try.ntmps14
  go_wp2_with fail
  refine (isMade_any _ _ _ _ L _ H.out).mono ?_
  rintro e W ⟨rfl, rfl⟩
  rw [h0I]
  go_wp2
  go_ret
  exact ⟨rfl, rfl⟩
/-- The count of a tick. -/
def atL (L : List Int) (t : Int) : Int := if t < 0 then 0 else L.getD t.toNat 0
theorem fourth_nil (k : Int) (w : World) : Calls Try.prog 8 #[.pointer none, .int .i64 k] w fun e w' => e = .returned (.int .i64 0) ∧ w' = w := by
  go_enter Try.func8, Try.ntmps8
  rcases (by omega : k < 0 ∨ 4 ≤ k ∨ 0 ≤ k ∧ k < 4) with hk | hk | ⟨hk, hk'⟩
  · go_wp2
    go_ret
    exact ⟨rfl, rfl⟩
  · go_wp2
    go_ret
    exact ⟨rfl, rfl⟩
  · go_wp2_with fail
    go_loopw [5, 6] (fun s i wr => s = .int .i64 0 ∧ i = .int .i64 k ∧ wr = w) (fun _ _ _ => 0)
    case atStart => exact ⟨rfl, rfl, rfl⟩
    case round =>
      obtain ⟨rfl, rfl, rfl⟩ := hrel
      go_wp2_with fail
      refine (ticks_nil _).mono ?_
      rintro e W ⟨rfl, rfl⟩
      go_wp2
      go_ret
      exact ⟨rfl, rfl⟩
theorem fourth_out (v : Value) (k : Int) (hk : k < 0 ∨ 4 ≤ k) (w : World) : Calls Try.prog 8 #[v, .int .i64 k] w fun e w' => e = .returned (.int .i64 0) ∧ w' = w := by
  go_enter Try.func8, Try.ntmps8
  rcases hk with hk | hk
  · go_wp2
    go_ret
    exact ⟨rfl, rfl⟩
  · go_wp2
    go_ret
    exact ⟨rfl, rfl⟩
theorem fourth_any (b : Nat) (a : Option Addr) (n c : Nat) (L : List Int) (k : Nat) (hk : k < 4) (w : World) (h : PR w b a n c L) (hL : Cnt L) :
    Calls Try.prog 8 #[.pointer (some ⟨b, 0, none⟩), .int .i64 k] w fun e w' => e = .returned (.int .i64 (F4 L k)) ∧ w' = w := by
  have hc := h.cell
  have hle := h.le
  have hlen := h.is.len
  have h0 : 0 < n := by have := hL.one; omega
  have hfew : n ≤ 1048576 := by have := hL.few; omega
  have H : Hid _ := h
  have HL : Hid _ := hL
  clear h hL
  go_enter Try.func8, Try.ntmps8
  have hk0 : (0 : Int) ≤ k := by omega
  have hk4 : (k : Int) < 4 := by omega
  go_wp2_with fail
  go_loopw [5, 6] (fun s i wr => ∃ t : Nat, t % 4 = k ∧ t ≤ n + 3 ∧ i = .int .i64 t ∧ s = .int .i64 (S4 L k t) ∧ wr = w) (fun s i _ => n + 4 - (intOf i).toNat)
  case atStart => exact ⟨k, by omega, by omega, rfl, by rw [S4_low (Nat.le_refl _) hk], rfl⟩
  case round =>
    obtain ⟨t, ht4, htn, rfl, rfl, rfl⟩ := hrel
    have hbd := S4_bd HL.out k t
    rcases (by omega : t < n ∨ n ≤ t) with hlt | hge
    · have hltI : (t : Int) < n := by omega
      obtain ⟨x, hx⟩ := getK (os := L) (k := t) (by omega)
      have hx' : L.getD t 0 = x := by rw [List.getD_eq_getElem?_getD, hx]; rfl
      have hxb := HL.out.get t
      rw [hx'] at hxb
      obtain ⟨g, off, rfl, hcell, _⟩ := H.out.is.at hx
      have hstep : S4 L k (t + 4) = S4 L k t + x := by rw [S4_four ht4, hx']
      have hw1 : IntKind.i64.wrap (S4 L k t + x) = S4 L k t + x := by simp [IntKind.wrap, IntKind.bits, IntKind.signed]; omega
      have hw2 : IntKind.i64.wrap ((t : Int) + 4) = t + 4 := by simp [IntKind.wrap, IntKind.bits, IntKind.signed]; omega
      have HS : Hid _ := hstep
      clear hstep
      generalize S4 L k t = s0 at *
      go_wp2_with fail
      refine (ticks_any _ _ _ _ L _ H.out h0).mono ?_
      rintro e W ⟨rfl, rfl⟩
      go_wp2
      go_roundw
      case rel => exact ⟨t + 4, by omega, by omega, by go_num, by rw [HS.out], trivial⟩
      case measure => simp [intOf]; omega
    · have hgeI : (n : Int) ≤ t := by omega
      have HE : Hid (S4 L k t = F4 L k) := by
        have := S4_end (L := L) (k := k) (t - L.length)
        rwa [show L.length + (t - L.length) = t by omega] at this
      go_wp2_with fail
      refine (ticks_any _ _ _ _ L _ H.out h0).mono ?_
      rintro e W ⟨rfl, rfl⟩
      go_wp2
      go_ret
      exact ⟨by rw [HE.out]; rfl, rfl⟩
end Go.Proofs.Ythefgplobhmfcab
