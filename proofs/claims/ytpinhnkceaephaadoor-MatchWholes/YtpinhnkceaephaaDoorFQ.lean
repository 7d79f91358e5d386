/- The reference's names, widths, Name, Bits, Is, Find; what both Needs answer. No condition. -/
import Derived.Test.YtpinhnkceaephaaDoorFI
namespace Go.Proofs.YtpinhnkceaephaaDoor
open Go.RowKit

def namesC : Array Value := #[.string ⟨#[]⟩, .string ⟨#[101, 116, 104, 46, 100, 115, 116]⟩, .string ⟨#[101, 116, 104, 46, 115, 114, 99]⟩, .string ⟨#[101, 116, 104, 46, 116, 121, 112, 101]⟩, .string ⟨#[118, 108, 97, 110, 46, 116, 97, 103]⟩, .string ⟨#[97, 114, 112, 46, 111, 112]⟩, .string ⟨#[97, 114, 112, 46, 115, 104, 97]⟩, .string ⟨#[97, 114, 112, 46, 115, 112, 97]⟩, .string ⟨#[97, 114, 112, 46, 116, 104, 97]⟩, .string ⟨#[97, 114, 112, 46, 116, 112, 97]⟩, .string ⟨#[105, 112, 52, 46, 115, 114, 99]⟩, .string ⟨#[105, 112, 52, 46, 100, 115, 116]⟩, .string ⟨#[105, 112, 46, 112, 114, 111, 116, 111]⟩, .string ⟨#[105, 112, 46, 116, 116, 108]⟩, .string ⟨#[105, 112, 46, 116, 111, 115]⟩, .string ⟨#[105, 112, 46, 102, 114, 97, 103]⟩, .string ⟨#[105, 99, 109, 112, 46, 116, 121, 112, 101]⟩, .string ⟨#[105, 99, 109, 112, 46, 99, 111, 100, 101]⟩, .string ⟨#[116, 112, 46, 115, 114, 99]⟩, .string ⟨#[116, 112, 46, 100, 115, 116]⟩, .string ⟨#[116, 99, 112, 46, 102, 108, 97, 103, 115]⟩, .string ⟨#[99, 116, 46, 115, 116, 97, 116, 101]⟩, .string ⟨#[100, 97, 116, 97, 112, 97, 116, 104]⟩, .string ⟨#[105, 110, 112, 111, 114, 116]⟩, .string ⟨#[111, 117, 116, 112, 111, 114, 116]⟩, .string ⟨#[114, 101, 103, 48]⟩, .string ⟨#[114, 101, 103, 49]⟩, .string ⟨#[114, 101, 103, 50]⟩, .string ⟨#[114, 101, 103, 51]⟩]
def widthsC : Array Value := #[.int .i64 0, .int .i64 48, .int .i64 48, .int .i64 16, .int .i64 17, .int .i64 16, .int .i64 48, .int .i64 32, .int .i64 48, .int .i64 32, .int .i64 32, .int .i64 32, .int .i64 8, .int .i64 8, .int .i64 8, .int .i64 16, .int .i64 8, .int .i64 8, .int .i64 16, .int .i64 16, .int .i64 12, .int .i64 8, .int .i64 24, .int .i64 16, .int .i64 16, .int .i64 32, .int .i64 32, .int .i64 32, .int .i64 32]
theorem names_get : ∀ f, f < 29 → namesC[f]? = some (.string (fName f)) := by
  intro f hf
  rcases (show f = 0 ∨ f = 1 ∨ f = 2 ∨ f = 3 ∨ f = 4 ∨ f = 5 ∨ f = 6 ∨ f = 7 ∨ f = 8 ∨ f = 9 ∨ f = 10 ∨ f = 11 ∨ f = 12 ∨ f = 13 ∨ f = 14 ∨ f = 15 ∨ f = 16 ∨ f = 17 ∨ f = 18 ∨ f = 19 ∨ f = 20 ∨ f = 21 ∨ f = 22 ∨ f = 23 ∨ f = 24 ∨ f = 25 ∨ f = 26 ∨ f = 27 ∨ f = 28 from by omega) with rfl | rfl | rfl | rfl | rfl | rfl | rfl | rfl | rfl | rfl | rfl | rfl | rfl | rfl | rfl | rfl | rfl | rfl | rfl | rfl | rfl | rfl | rfl | rfl | rfl | rfl | rfl | rfl | rfl <;> rfl
theorem widths_get : ∀ f, f < 29 → widthsC[f]? = some (.int .i64 (fBits f)) := by
  intro f hf
  rcases (show f = 0 ∨ f = 1 ∨ f = 2 ∨ f = 3 ∨ f = 4 ∨ f = 5 ∨ f = 6 ∨ f = 7 ∨ f = 8 ∨ f = 9 ∨ f = 10 ∨ f = 11 ∨ f = 12 ∨ f = 13 ∨ f = 14 ∨ f = 15 ∨ f = 16 ∨ f = 17 ∨ f = 18 ∨ f = 19 ∨ f = 20 ∨ f = 21 ∨ f = 22 ∨ f = 23 ∨ f = 24 ∨ f = 25 ∨ f = 26 ∨ f = 27 ∨ f = 28 from by omega) with rfl | rfl | rfl | rfl | rfl | rfl | rfl | rfl | rfl | rfl | rfl | rfl | rfl | rfl | rfl | rfl | rfl | rfl | rfl | rfl | rfl | rfl | rfl | rfl | rfl | rfl | rfl | rfl | rfl <;> rfl
set_option maxHeartbeats 1000000 in
set_option maxRecDepth 20000 in
theorem widths_any (w : World) : Calls Tryd.prog 80 #[] w fun e w' => e = .returned (.slice (some ⟨w.heap.size, 0, none⟩) 29 29) ∧ w' = w.alloc (.cells widthsC 3) := by
  go_enter Tryd.func80, Tryd.ntmps80
  go_wp2
  go_ret
  exact ⟨rfl, rfl⟩
set_option maxHeartbeats 400000 in
theorem is_any (f : Int) (w : World) : Calls Tryd.prog 31 #[.int .i64 f] w fun e w' => e = .returned (.bool (decide (1 ≤ f ∧ f ≤ 28))) ∧ w' = w := by
  by_cases h1 : 1 ≤ f
  · by_cases h2 : f ≤ 28
    · go_enter Tryd.func31, Tryd.ntmps31
      go_wp2
      go_ret
      exact ⟨by simp [h1, h2], rfl⟩
    · go_enter Tryd.func31, Tryd.ntmps31
      go_wp2
      go_ret
      exact ⟨by simp; omega, rfl⟩
  · go_enter Tryd.func31, Tryd.ntmps31
    go_wp2
    go_ret
    exact ⟨by simp; omega, rfl⟩
set_option maxHeartbeats 1000000 in
set_option maxRecDepth 20000 in
theorem rbits_any (f : Nat) (hf : 1 ≤ f) (hf2 : f ≤ 28) (w : World) : Calls Tryd.prog 44 #[.int .i64 f] w fun e w' => e = .returned (.int .i64 (fBits f)) ∧ Below w.heap.size w w' := by
  have h1 : (1 : Int) ≤ f := by omega
  have h2 : (f : Int) ≤ 28 := by omega
  have h3 : (f : Int) < 29 := by omega
  go_enter Tryd.func44, Tryd.ntmps44
  go_wp2_with fail
  refine (is_any _ _).mono ?_
  rw [show decide ((1 : Int) ≤ f ∧ (f : Int) ≤ 28) = true from by simp [h1, h2]]
  rintro e W1 ⟨rfl, rfl⟩
  go_wp2_with fail
  refine (widths_any _).mono ?_
  rintro e W2 ⟨rfl, hw2⟩
  have hc : W2.cell? ⟨W1.heap.size, f, none⟩ = some (.int .i64 (fBits f)) := by rw [hw2, cell_row (heap_alloc_new _ _)]; exact widths_get f (by omega)
  have hB : Below W1.heap.size W1 W2 := by rw [hw2]; exact below1 _ _
  have HB : Hid _ := hB
  clear hw2 hB
  go_wp2
  go_ret
  exact ⟨rfl, HB.out⟩

set_option maxHeartbeats 400000 in
theorem rbits_none (f : Int) (hf : f < 1 ∨ 28 < f) (w : World) : Calls Tryd.prog 44 #[.int .i64 f] w fun e w' => e = .returned (.int .i64 0) ∧ Below w.heap.size w w' := by
  go_enter Tryd.func44, Tryd.ntmps44
  go_wp2_with fail
  refine (is_any _ _).mono ?_
  rw [show decide ((1 : Int) ≤ f ∧ f ≤ 28) = false from by simp; omega]
  rintro e W1 ⟨rfl, rfl⟩
  go_wp2
  go_ret
  exact ⟨rfl, Below.refl _ _⟩

end Go.Proofs.YtpinhnkceaephaaDoor
