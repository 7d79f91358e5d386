/- The law DhcpTalks, but for its frame. Conditions: numbers of their kinds. -/
import Derived.Test.YtglaheblbomhpaaDH
namespace Go.Proofs.Ytglaheblbomhpaa
open Go.RowKit

theorem be4 (v : Int) : be v 4 = [v / 16777216 % 256, v / 65536 % 256, v / 256 % 256, v % 256] := by
  have q3 : (2 : Int) ^ (8 * 3) = 16777216 := by decide
  have q2 : (2 : Int) ^ (8 * 2) = 65536 := by decide
  have q1 : (2 : Int) ^ (8 * 1) = 256 := by decide
  have q0 : (2 : Int) ^ (8 * 0) = 1 := by decide
  simp only [be, q3, q2, q1, q0, Int.ediv_one]
theorem u8_inj {a b : Int} (ha : 0 ≤ a ∧ a ≤ 255) (hb : 0 ≤ b ∧ b ≤ 255) (h : UInt8.ofNat a.toNat = UInt8.ofNat b.toNat) : a = b := by
  have := congrArg UInt8.toNat h
  rw [UInt8.toNat_ofNat', UInt8.toNat_ofNat'] at this
  omega
theorem fourS_eq (a b : Int) (ha : 0 ≤ a ∧ a ≤ 4294967295) (hb : 0 ≤ b ∧ b ≤ 4294967295) : ((fourS a).toList == (fourS b).toList) = decide (a = b) := by
  rw [Bool.eq_iff_iff]
  simp only [beq_iff_eq, decide_eq_true_eq]
  constructor
  · intro h
    rw [ByteArray.toList_eq, ByteArray.toList_eq] at h
    unfold fourS at h
    rw [strOfNums_data, strOfNums_data, be4, be4] at h
    simp only [List.map_cons, List.map_nil, List.cons.injEq, and_true] at h
    obtain ⟨h1, h2, h3, h4⟩ := h
    have e1 := u8_inj (by omega) (by omega) h1
    have e2 := u8_inj (by omega) (by omega) h2
    have e3 := u8_inj (by omega) (by omega) h3
    have e4 := u8_inj (by omega) (by omega) h4
    omega
  · rintro rfl; rfl

theorem bs_four (w : World) (x y z u : Int) (B : Nat) (hB : B = w.heap.size) (hx : 0 ≤ x ∧ x ≤ 255) (hy : 0 ≤ y ∧ y ≤ 255) (hz : 0 ≤ z ∧ z ≤ 255) (hu : 0 ≤ u ∧ u ≤ 255) :
    BS (w.alloc (.cells #[.int .u8 x, .int .u8 y, .int .u8 z, .int .u8 u] 5)) (some ⟨B, 0, none⟩) 4 [x, y, z, u] := by
  refine bs_new 5 w _ [x, y, z, u] 4 B hB rfl rfl ?_ (by omega)
  simp [hx, hy, hz, hu]

set_option maxHeartbeats 400000 in
theorem four_any (v : Int) (_hv : 0 ≤ v ∧ v ≤ 4294967295) (w : World) :
    Calls Try.prog 17 #[.int .u32 v] w fun e w' => e = .returned (.string (fourS v)) ∧ Below w.heap.size w w' := by
  have e0 : IntKind.u8.wrap (v / 16777216) = v / 16777216 % 256 := by rw [IntKind.wrap_u8]
  have e1 : IntKind.u8.wrap (v / 65536) = v / 65536 % 256 := by rw [IntKind.wrap_u8]
  have e2 : IntKind.u8.wrap (v / 256) = v / 256 % 256 := by rw [IntKind.wrap_u8]
  have e3 : IntKind.u8.wrap v = v % 256 := by rw [IntKind.wrap_u8]
  have cvt : ∀ W : World, (convert 22 9 (.slice (some ⟨W.heap.size, 0, none⟩) 4 4)).run Try.prog (W.alloc (.cells #[.int .u8 (v / 16777216 % 256), .int .u8 (v / 65536 % 256), .int .u8 (v / 256 % 256), .int .u8 (v % 256)] 5)) = .ok (.string (fourS v)) (W.alloc (.cells #[.int .u8 (v / 16777216 % 256), .int .u8 (v / 65536 % 256), .int .u8 (v / 256 % 256), .int .u8 (v % 256)] 5)) := fun W => by
    have := run_conv_bs (P := Try.prog) 4 (bs_four W (v / 16777216 % 256) (v / 65536 % 256) (v / 256 % 256) (v % 256) _ rfl (by omega) (by omega) (by omega) (by omega)) 22 9 5 Try.underlying22 Try.underlying5 Try.underlying9
    rw [← be4] at this
    exact this
  go_enter Try.func17, Try.ntmps17
  go_wp2
  go_ret
  exact ⟨rfl, below1 w _⟩

theorem AtB.six {W : World} {b : Nat} {x0 x1 x2 x3 x4 x5 : Value} (h : AtB W b #[x0, x1, x2, x3, x4, x5]) : W.cell? ⟨b, 0, none⟩ = some x0 ∧ W.cell? ⟨b, 1, none⟩ = some x1 ∧ W.cell? ⟨b, 2, none⟩ = some x2 ∧ W.cell? ⟨b, 3, none⟩ = some x3 ∧ W.cell? ⟨b, 4, none⟩ = some x4 ∧ W.cell? ⟨b, 5, none⟩ = some x5 :=
  ⟨h.2 0, h.2 1, h.2 2, h.2 3, h.2 4, h.2 5⟩
end Go.Proofs.Ytglaheblbomhpaa
