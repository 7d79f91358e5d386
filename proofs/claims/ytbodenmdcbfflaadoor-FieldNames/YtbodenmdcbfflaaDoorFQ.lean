/- The reference's names, widths, Name, Bits, Is, Find; what both Needs answer. No condition. -/
import Derived.Test.YtbodenmdcbfflaaDoorFK
namespace Go.Proofs.YtbodenmdcbfflaaDoor
open Go.RowKit

def namesC : Array Value := #[.string ⟨#[]⟩, .string ⟨#[101, 116, 104, 46, 100, 115, 116]⟩, .string ⟨#[101, 116, 104, 46, 115, 114, 99]⟩, .string ⟨#[101, 116, 104, 46, 116, 121, 112, 101]⟩, .string ⟨#[118, 108, 97, 110, 46, 116, 97, 103]⟩, .string ⟨#[97, 114, 112, 46, 111, 112]⟩, .string ⟨#[97, 114, 112, 46, 115, 104, 97]⟩, .string ⟨#[97, 114, 112, 46, 115, 112, 97]⟩, .string ⟨#[97, 114, 112, 46, 116, 104, 97]⟩, .string ⟨#[97, 114, 112, 46, 116, 112, 97]⟩, .string ⟨#[105, 112, 52, 46, 115, 114, 99]⟩, .string ⟨#[105, 112, 52, 46, 100, 115, 116]⟩, .string ⟨#[105, 112, 46, 112, 114, 111, 116, 111]⟩, .string ⟨#[105, 112, 46, 116, 116, 108]⟩, .string ⟨#[105, 112, 46, 116, 111, 115]⟩, .string ⟨#[105, 112, 46, 102, 114, 97, 103]⟩, .string ⟨#[105, 99, 109, 112, 46, 116, 121, 112, 101]⟩, .string ⟨#[105, 99, 109, 112, 46, 99, 111, 100, 101]⟩, .string ⟨#[116, 112, 46, 115, 114, 99]⟩, .string ⟨#[116, 112, 46, 100, 115, 116]⟩, .string ⟨#[116, 99, 112, 46, 102, 108, 97, 103, 115]⟩, .string ⟨#[99, 116, 46, 115, 116, 97, 116, 101]⟩, .string ⟨#[100, 97, 116, 97, 112, 97, 116, 104]⟩, .string ⟨#[105, 110, 112, 111, 114, 116]⟩, .string ⟨#[111, 117, 116, 112, 111, 114, 116]⟩, .string ⟨#[114, 101, 103, 48]⟩, .string ⟨#[114, 101, 103, 49]⟩, .string ⟨#[114, 101, 103, 50]⟩, .string ⟨#[114, 101, 103, 51]⟩]
def widthsC : Array Value := #[.int .i64 0, .int .i64 48, .int .i64 48, .int .i64 16, .int .i64 17, .int .i64 16, .int .i64 48, .int .i64 32, .int .i64 48, .int .i64 32, .int .i64 32, .int .i64 32, .int .i64 8, .int .i64 8, .int .i64 8, .int .i64 16, .int .i64 8, .int .i64 8, .int .i64 16, .int .i64 16, .int .i64 12, .int .i64 8, .int .i64 24, .int .i64 16, .int .i64 16, .int .i64 32, .int .i64 32, .int .i64 32, .int .i64 32]
theorem names_get : ∀ f, f < 29 → namesC[f]? = some (.string (fName f)) := by
  intro f hf
  rcases (show f = 0 ∨ f = 1 ∨ f = 2 ∨ f = 3 ∨ f = 4 ∨ f = 5 ∨ f = 6 ∨ f = 7 ∨ f = 8 ∨ f = 9 ∨ f = 10 ∨ f = 11 ∨ f = 12 ∨ f = 13 ∨ f = 14 ∨ f = 15 ∨ f = 16 ∨ f = 17 ∨ f = 18 ∨ f = 19 ∨ f = 20 ∨ f = 21 ∨ f = 22 ∨ f = 23 ∨ f = 24 ∨ f = 25 ∨ f = 26 ∨ f = 27 ∨ f = 28 from by omega) with rfl | rfl | rfl | rfl | rfl | rfl | rfl | rfl | rfl | rfl | rfl | rfl | rfl | rfl | rfl | rfl | rfl | rfl | rfl | rfl | rfl | rfl | rfl | rfl | rfl | rfl | rfl | rfl | rfl <;> rfl
theorem widths_get : ∀ f, f < 29 → widthsC[f]? = some (.int .i64 (fBits f)) := by
  intro f hf
  rcases (show f = 0 ∨ f = 1 ∨ f = 2 ∨ f = 3 ∨ f = 4 ∨ f = 5 ∨ f = 6 ∨ f = 7 ∨ f = 8 ∨ f = 9 ∨ f = 10 ∨ f = 11 ∨ f = 12 ∨ f = 13 ∨ f = 14 ∨ f = 15 ∨ f = 16 ∨ f = 17 ∨ f = 18 ∨ f = 19 ∨ f = 20 ∨ f = 21 ∨ f = 22 ∨ f = 23 ∨ f = 24 ∨ f = 25 ∨ f = 26 ∨ f = 27 ∨ f = 28 from by omega) with rfl | rfl | rfl | rfl | rfl | rfl | rfl | rfl | rfl | rfl | rfl | rfl | rfl | rfl | rfl | rfl | rfl | rfl | rfl | rfl | rfl | rfl | rfl | rfl | rfl | rfl | rfl | rfl | rfl <;> rfl
set_option maxHeartbeats 1000000 in
set_option maxRecDepth 20000 in
theorem names_any (w : World) : Calls Tryd.prog 21 #[] w fun e w' => e = .returned (.slice (some ⟨w.heap.size, 0, none⟩) 29 29) ∧ w' = w.alloc (.cells namesC 9) := by
  go_enter Tryd.func21, Tryd.ntmps21
  go_wp2
  go_ret
  exact ⟨rfl, rfl⟩
set_option maxHeartbeats 1000000 in
set_option maxRecDepth 20000 in
theorem widths_any (w : World) : Calls Tryd.prog 25 #[] w fun e w' => e = .returned (.slice (some ⟨w.heap.size, 0, none⟩) 29 29) ∧ w' = w.alloc (.cells widthsC 3) := by
  go_enter Tryd.func25, Tryd.ntmps25
  go_wp2
  go_ret
  exact ⟨rfl, rfl⟩
set_option maxHeartbeats 400000 in
theorem is_any (f : Int) (w : World) : Calls Tryd.prog 16 #[.int .i64 f] w fun e w' => e = .returned (.bool (decide (1 ≤ f ∧ f ≤ 28))) ∧ w' = w := by
  by_cases h1 : 1 ≤ f
  · by_cases h2 : f ≤ 28
    · go_enter Tryd.func16, Tryd.ntmps16
      go_wp2
      go_ret
      exact ⟨by simp [h1, h2], rfl⟩
    · go_enter Tryd.func16, Tryd.ntmps16
      go_wp2
      go_ret
      exact ⟨by simp; omega, rfl⟩
  · go_enter Tryd.func16, Tryd.ntmps16
    go_wp2
    go_ret
    exact ⟨by simp; omega, rfl⟩
set_option maxHeartbeats 1000000 in
set_option maxRecDepth 20000 in
theorem rname_any (f : Nat) (hf : 1 ≤ f) (hf2 : f ≤ 28) (w : World) : Calls Tryd.prog 13 #[.int .i64 f] w fun e w' => e = .returned (.string (fName f)) ∧ Below w.heap.size w w' := by
  have h1 : (1 : Int) ≤ f := by omega
  have h2 : (f : Int) ≤ 28 := by omega
  have h3 : (f : Int) < 29 := by omega
  go_enter Tryd.func13, Tryd.ntmps13
  go_wp2_with fail
  refine (is_any _ _).mono ?_
  rw [show decide ((1 : Int) ≤ f ∧ (f : Int) ≤ 28) = true from by simp [h1, h2]]
  rintro e W1 ⟨rfl, rfl⟩
  go_wp2_with fail
  refine (names_any _).mono ?_
  rintro e W2 ⟨rfl, hw2⟩
  have hc : W2.cell? ⟨W1.heap.size, f, none⟩ = some (.string (fName f)) := by rw [hw2, cell_row (heap_alloc_new _ _)]; exact names_get f (by omega)
  have hB : Below W1.heap.size W1 W2 := by rw [hw2]; exact below1 _ _
  have HB : Hid _ := hB
  clear hw2 hB
  go_wp2
  go_ret
  exact ⟨rfl, HB.out⟩
set_option maxHeartbeats 1000000 in
set_option maxRecDepth 20000 in
theorem rbits_any (f : Nat) (hf : 1 ≤ f) (hf2 : f ≤ 28) (w : World) : Calls Tryd.prog 15 #[.int .i64 f] w fun e w' => e = .returned (.int .i64 (fBits f)) ∧ Below w.heap.size w w' := by
  have h1 : (1 : Int) ≤ f := by omega
  have h2 : (f : Int) ≤ 28 := by omega
  have h3 : (f : Int) < 29 := by omega
  go_enter Tryd.func15, Tryd.ntmps15
  go_wp2_with fail
  refine (is_any _ _).mono ?_
  rw [show decide ((1 : Int) ≤ f ∧ (f : Int) ≤ 28) = true from by simp [h1, h2]]
  rintro e W1 ⟨rfl, rfl⟩
  go_wp2_with fail
  refine (widths_any _).mono ?_
  rintro e W2 ⟨rfl, hw2⟩
  have hc : W2.cell? ⟨W1.heap.size, f, none⟩ = some (.int .i64 (fBits f)) := by rw [hw2, cell_row (heap_alloc_new _ _)]; exact widths_get f (by omega)
  have hB : Below W1.heap.size W1 W2 := by rw [hw2]; exact below1 _ _
  have HB : Hid _ := hB
  clear hw2 hB
  go_wp2
  go_ret
  exact ⟨rfl, HB.out⟩

set_option maxHeartbeats 400000 in
theorem rname_none (f : Int) (hf : f < 1 ∨ 28 < f) (w : World) : Calls Tryd.prog 13 #[.int .i64 f] w fun e w' => e = .returned (.string ⟨#[]⟩) ∧ Below w.heap.size w w' := by
  go_enter Tryd.func13, Tryd.ntmps13
  go_wp2_with fail
  refine (is_any _ _).mono ?_
  rw [show decide ((1 : Int) ≤ f ∧ f ≤ 28) = false from by simp; omega]
  rintro e W1 ⟨rfl, rfl⟩
  go_wp2
  go_ret
  exact ⟨rfl, Below.refl _ _⟩

set_option maxHeartbeats 400000 in
theorem rbits_none (f : Int) (hf : f < 1 ∨ 28 < f) (w : World) : Calls Tryd.prog 15 #[.int .i64 f] w fun e w' => e = .returned (.int .i64 0) ∧ Below w.heap.size w w' := by
  go_enter Tryd.func15, Tryd.ntmps15
  go_wp2_with fail
  refine (is_any _ _).mono ?_
  rw [show decide ((1 : Int) ≤ f ∧ f ≤ 28) = false from by simp; omega]
  rintro e W1 ⟨rfl, rfl⟩
  go_wp2
  go_ret
  exact ⟨rfl, Below.refl _ _⟩

set_option maxHeartbeats 1000000 in
set_option maxRecDepth 20000 in
theorem rfind_any (name : ByteArray) (w : World) : Calls Tryd.prog 8 #[.string name] w fun e w' => e = .returned (.tuple #[.int .i64 (findF name 1 28), .bool (decide (0 < findF name 1 28))]) ∧ Below w.heap.size w w' := by
  go_enter Tryd.func8, Tryd.ntmps8
  go_wp2_with fail
  go_loopw [4] (fun i wr => ∃ k : Nat, 1 ≤ k ∧ k ≤ 29 ∧ i = .int .i64 k ∧ findF name 1 28 = findF name k (29 - k) ∧ Below w.heap.size w wr) (fun i _ => 29 - (intOf i).toNat)
  case atStart => exact ⟨1, by omega, by omega, rfl, rfl, Below.refl _ _⟩
  case round =>
    obtain ⟨k, hk1, hk2, rfl, hfi, hb⟩ := hrel
    have HB : Hid _ := hb
    have HF : Hid _ := hfi
    clear hb hfi
    by_cases hlt : k ≤ 28
    · have hkI : (k : Int) ≤ 28 := by omega
      have hkJ : (k : Int) < 29 := by omega
      go_wp2_with fail
      refine (names_any _).mono ?_
      rintro e W1 ⟨rfl, hw1⟩
      have hc : W1.cell? ⟨wr.heap.size, k, none⟩ = some (.string (fName k)) := by rw [hw1, cell_row (heap_alloc_new _ _)]; exact names_get k (by omega)
      have hb1 : Below wr.heap.size wr W1 := by rw [hw1]; exact below1 _ _
      have HB1 : Hid _ := HB.out.trans (hb1.mono HB.out.size)
      clear hb1 hw1
      have hst := findF_step name k hlt
      cases hcc : ((fName k).toList == name.toList)
      · rw [hcc, if_neg (by simp)] at hst
        have HF2 : Hid _ := HF.out.trans hst
        clear hst
        go_wp2
        go_roundw
        case rel => exact ⟨k + 1, by omega, by omega, by go_num, HF2.out, HB1.out⟩
        case measure => simp [intOf]; omega
      · rw [hcc, if_pos rfl] at hst
        have HF2 : Hid _ := HF.out.trans hst
        clear hst
        go_wp2
        go_ret2
        refine ⟨?_, HB1.out⟩
        rw [HF2.out]
        simp; omega
    · obtain rfl : k = 29 := by omega
      go_wp2
      go_ret2
      refine ⟨?_, HB.out⟩
      rw [HF.out]
      rfl
end Go.Proofs.YtbodenmdcbfflaaDoor
