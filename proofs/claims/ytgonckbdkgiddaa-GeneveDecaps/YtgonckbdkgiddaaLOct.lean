/- What Word, SetWord and Fits of package octets do. Conditions: the bytes can be read; 8, 12 or 16 bits. -/
import Derived.Test.YtgonckbdkgiddaaLNum
import Derived.Test.YtgonckbdkgiddaaLSum
namespace Go.Proofs.Ytgonckbdkgiddaa
open Go.RowKit

def fit8 (v : Int) : Bool := decide (0 ≤ v ∧ v ≤ 255)
def fit16 (v : Int) : Bool := decide (0 ≤ v ∧ v ≤ 65535)
def fit12 (v : Int) : Bool := decide (0 ≤ v ∧ v ≤ 4095)

theorem fits8_any (v : Int) (w : World) : Calls Try.prog 34 #[.int .i64 v, .int .u64 8] w fun e w' => e = .returned (.bool (fit8 v)) ∧ w' = w := by
  have e : (v / 256 == 0) = fit8 v := by
    unfold fit8; rw [Bool.eq_iff_iff]; simp; omega
  go_enter Try.func34, Try.ntmps34
  go_wp2
  go_ret
  exact ⟨rfl, rfl⟩
theorem fits12_any (v : Int) (w : World) : Calls Try.prog 34 #[.int .i64 v, .int .u64 12] w fun e w' => e = .returned (.bool (fit12 v)) ∧ w' = w := by
  have e : (v / 4096 == 0) = fit12 v := by
    unfold fit12; rw [Bool.eq_iff_iff]; simp; omega
  go_enter Try.func34, Try.ntmps34
  go_wp2
  go_ret
  exact ⟨rfl, rfl⟩
theorem fits16_any (v : Int) (w : World) : Calls Try.prog 34 #[.int .i64 v, .int .u64 16] w fun e w' => e = .returned (.bool (fit16 v)) ∧ w' = w := by
  have e : (v / 65536 == 0) = fit16 v := by
    unfold fit16; rw [Bool.eq_iff_iff]; simp; omega
  go_enter Try.func34, Try.ntmps34
  go_wp2
  go_ret
  exact ⟨rfl, rfl⟩

/-- Fits of 8, 12 or 16 bits. -/
def fitN (b v : Int) : Bool := if b = 8 then fit8 v else if b = 12 then fit12 v else fit16 v
theorem fitN_any (v b : Int) (hb : b = 8 ∨ b = 12 ∨ b = 16) (w : World) : Calls Try.prog 34 #[.int .i64 v, .int .u64 b] w fun e w' => e = .returned (.bool (fitN b v)) ∧ w' = w := by
  rcases hb with rfl | rfl | rfl
  · exact fits8_any v w
  · exact fits12_any v w
  · exact fits16_any v w

theorem word_any (w : World) (b off n cap t : Nat) (zs : List Int) (h : BS w (some ⟨b, off, none⟩) n zs) (hts : t + 2 ≤ n) (hcap : n ≤ cap) :
    Calls Try.prog 71 #[.slice (some ⟨b, off, none⟩) n cap, .int .i64 t] w fun e w' => e = .returned (.int .u16 (num ((zs.drop t).take 2))) ∧ w' = w := by
  have hle : (t : Int) + 2 ≤ cap := by omega
  have hne : ¬ cap = t := by omega
  have ht' : (t : Int) ≤ 281474976710656 := by have := h.room; omega
  have H1 := (h.drop (by omega) t (by omega)).take 2 (by omega)
  have hb := num_bd2 H1
  have H : Hid (BS w (some ⟨b, off + t, none⟩) 2 ((zs.drop t).take 2)) := H1
  clear h H1
  go_enter Try.func71, Try.ntmps71
  go_wp2_with fail
  refine (number_any _ H.out (by omega)).mono ?_
  rintro e w1 ⟨rfl, rfl⟩
  go_wp2
  go_ret
  exact ⟨rfl, rfl⟩

theorem setWord_any (w : World) (g n cap t : Nat) (v : Int) (x y : Value) (hx : w.cell? ⟨g, t, none⟩ = some x) (hy : w.cell? ⟨g, t + 1, none⟩ = some y) (hfx : w.frozen? ⟨g, t, none⟩ = false) (hfy : w.frozen? ⟨g, t + 1, none⟩ = false) (hv : 0 ≤ v ∧ v ≤ 65535) (hts : t + 2 ≤ n) (hn : n ≤ 281474976710656) :
    Calls Try.prog 42 #[.slice (some ⟨g, 0, none⟩) n cap, .int .i64 t, .int .u16 v] w fun e w' => e = .returned (.tuple #[]) ∧ w' = (w.setCell ⟨g, t, none⟩ (.int .u8 (v / 256))).setCell ⟨g, t + 1, none⟩ (.int .u8 (v % 256)) := by
  have hle : (t : Int) + 1 < n := by omega
  have hle2 : (t : Int) < n := by omega
  have ht' : (t : Int) ≤ 281474976710656 := by omega
  go_enter Try.func42, Try.ntmps42
  go_wp2
  go_end0
  exact ⟨rfl, rfl⟩
end Go.Proofs.Ytgonckbdkgiddaa
