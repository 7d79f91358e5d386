/- Hexadecimal digits of the two numbers that the laws' lives prints. Condition: the table of trailing zeros holds 4 at its fifteenth place. -/
import Derived.Test.YtijeakggeichcaaGreatDoorMH
import Derived.Handy
import Derived.Laws.BytesArg
namespace Go.Proofs.YtijeakggeichcaaGreatDoor
open Go.RowKit
set_option maxHeartbeats 400000 in
theorem tz64_16 (w : World) (htab : w.cell? ⟨2, 15, none⟩ = some (.int .u8 4)) : Calls Tryz.prog 157 #[.int .u64 16] w fun e w' => e = .returned (.int .i64 4) ∧ w' = w := by
  have hb : bits BinOp.and IntKind.u64 16 (IntKind.u64.wrap (-16)) = 16 := by decide +kernel
  have h2 : IntKind.u64.wrap (16 * 285870213051353865) = 4573923408821661840 := by decide +kernel
  have h3 : IntKind.u64.wrap 4573923408821661840 = 4573923408821661840 := by decide +kernel
  go_enter Tryz.func157, Tryz.ntmps157
  go_wp2
  go_ret
  exact ⟨rfl, rfl⟩
set_option maxHeartbeats 400000 in
theorem tz_16 (w : World) (htab : w.cell? ⟨2, 15, none⟩ = some (.int .u8 4)) : Calls Tryz.prog 155 #[.int .u64 16] w fun e w' => e = .returned (.int .i64 4) ∧ w' = w := by
  have HT : Hid _ := htab
  clear htab
  go_enter Tryz.func155, Tryz.ntmps155
  go_wp2_with fail
  refine (tz64_16 _ HT.out).mono ?_
  rintro e w' ⟨rfl, rfl⟩
  go_wp2_with fail
  go_ret
  exact ⟨rfl, rfl⟩
set_option maxHeartbeats 400000 in
theorem pow2_16 (w : World) : Calls Tryz.prog 154 #[.int .i64 16] w fun e w' => e = .returned (.bool true) ∧ w' = w := by
  go_enter Tryz.func154, Tryz.ntmps154
  go_wp2
  go_ret
  exact ⟨rfl, rfl⟩
set_option maxRecDepth 20000 in
set_option maxHeartbeats 1000000 in
theorem formatBits_2048 (w : World) (htab : w.cell? ⟨2, 15, none⟩ = some (.int .u8 4)) : Calls Tryz.prog 150 #[.slice none 0 0, .int .u64 2048, .int .i64 16, .bool false, .bool false] w fun e w' => e = .returned (.tuple #[.slice none 0 0, .string ⟨#[56, 48, 48]⟩]) ∧ Below w.heap.size w w' := by
  have hlt : 2 < w.heap.size := cell_lt htab
  have HT : Hid _ := htab
  clear htab
  have b1 : bits BinOp.and IntKind.u64 2048 15 = 0 := by decide +kernel
  have b2 : bits BinOp.and IntKind.u64 128 15 = 0 := by decide +kernel
  go_enter Tryz.func150, Tryz.ntmps150
  go_wp2_with fail
  refine (pow2_16 _).mono ?_
  rintro e w' ⟨rfl, rfl⟩
  go_wp2_with fail
  refine (tz_16 _ ((World.cell?_alloc_lt (a := ⟨2, 15, none⟩) _ _ hlt).trans HT.out)).mono ?_
  rintro e w' ⟨rfl, rfl⟩
  go_wp2_with fail
  go_rounds 4
  rw [run_convert_bytes_arg (P := Tryz.prog) _ 112 5 Tryz.underlying112 Tryz.underlying5 w.heap.size 62 3 3 [56, 48, 48] rfl ?hc 9 Tryz.underlying9]
  case hc =>
    intro i hi
    rw [World.cell?_alloc_new]
    rcases (show i = 0 ∨ i = 1 ∨ i = 2 by omega) with rfl | rfl | rfl <;> rfl
  simp only [Result.andThen]
  rw [Oper.upon_value]
  go_wp2
  go_ret2
  exact ⟨rfl, below1 _ _⟩
set_option maxRecDepth 20000 in
set_option maxHeartbeats 1000000 in
theorem formatBits_80 (w : World) (htab : w.cell? ⟨2, 15, none⟩ = some (.int .u8 4)) : Calls Tryz.prog 150 #[.slice none 0 0, .int .u64 80, .int .i64 16, .bool false, .bool false] w fun e w' => e = .returned (.tuple #[.slice none 0 0, .string ⟨#[53, 48]⟩]) ∧ Below w.heap.size w w' := by
  have hlt : 2 < w.heap.size := cell_lt htab
  have HT : Hid _ := htab
  clear htab
  have b1 : bits BinOp.and IntKind.u64 80 15 = 0 := by decide +kernel
  go_enter Tryz.func150, Tryz.ntmps150
  go_wp2_with fail
  refine (pow2_16 _).mono ?_
  rintro e w' ⟨rfl, rfl⟩
  go_wp2_with fail
  refine (tz_16 _ ((World.cell?_alloc_lt (a := ⟨2, 15, none⟩) _ _ hlt).trans HT.out)).mono ?_
  rintro e w' ⟨rfl, rfl⟩
  go_wp2_with fail
  go_rounds 4
  rw [run_convert_bytes_arg (P := Tryz.prog) _ 112 5 Tryz.underlying112 Tryz.underlying5 w.heap.size 63 2 2 [53, 48] rfl ?hc 9 Tryz.underlying9]
  case hc =>
    intro i hi
    rw [World.cell?_alloc_new]
    rcases (show i = 0 ∨ i = 1 by omega) with rfl | rfl <;> rfl
  simp only [Result.andThen]
  rw [Oper.upon_value]
  go_wp2
  go_ret2
  exact ⟨rfl, below1 _ _⟩

set_option maxHeartbeats 400000 in
theorem formatUint_2048 (w : World) (htab : w.cell? ⟨2, 15, none⟩ = some (.int .u8 4)) : Calls Tryz.prog 135 #[.int .u64 2048, .int .i64 16] w fun e w' => e = .returned (.string ⟨#[56, 48, 48]⟩) ∧ Below w.heap.size w w' := by
  have HT : Hid _ := htab
  clear htab
  go_enter Tryz.func135, Tryz.ntmps135
  go_wp2_with fail
  refine (formatBits_2048 _ HT.out).mono ?_
  rintro e w' ⟨rfl, hb⟩
  have HB : Hid _ := hb
  clear hb
  go_wp2_with fail
  go_ret
  exact ⟨rfl, HB.out⟩
set_option maxHeartbeats 400000 in
theorem sformatUint_2048 (w : World) (htab : w.cell? ⟨2, 15, none⟩ = some (.int .u8 4)) : Calls Tryz.prog 89 #[.int .u64 2048, .int .i64 16] w fun e w' => e = .returned (.string ⟨#[56, 48, 48]⟩) ∧ Below w.heap.size w w' := by
  have HT : Hid _ := htab
  clear htab
  go_enter Tryz.func89, Tryz.ntmps89
  go_wp2_with fail
  refine (formatUint_2048 _ HT.out).mono ?_
  rintro e w' ⟨rfl, hb⟩
  have HB : Hid _ := hb
  clear hb
  go_wp2_with fail
  go_ret
  exact ⟨rfl, HB.out⟩
set_option maxHeartbeats 400000 in
theorem hex_2048 (w : World) (htab : w.cell? ⟨2, 15, none⟩ = some (.int .u8 4)) : Calls Tryz.prog 60 #[.int .u64 2048] w fun e w' => e = .returned (.string ⟨#[48, 120, 56, 48, 48]⟩) ∧ Below w.heap.size w w' := by
  have HT : Hid _ := htab
  clear htab
  go_enter Tryz.func60, Tryz.ntmps60
  go_wp2_with fail
  refine (sformatUint_2048 _ HT.out).mono ?_
  rintro e w' ⟨rfl, hb⟩
  have HB : Hid _ := hb
  clear hb
  go_wp2_with fail
  go_ret
  exact ⟨rfl, HB.out⟩

set_option maxHeartbeats 400000 in
theorem formatUint_80 (w : World) (htab : w.cell? ⟨2, 15, none⟩ = some (.int .u8 4)) : Calls Tryz.prog 135 #[.int .u64 80, .int .i64 16] w fun e w' => e = .returned (.string ⟨#[53, 48]⟩) ∧ Below w.heap.size w w' := by
  have HT : Hid _ := htab
  clear htab
  go_enter Tryz.func135, Tryz.ntmps135
  go_wp2_with fail
  refine (formatBits_80 _ HT.out).mono ?_
  rintro e w' ⟨rfl, hb⟩
  have HB : Hid _ := hb
  clear hb
  go_wp2_with fail
  go_ret
  exact ⟨rfl, HB.out⟩
set_option maxHeartbeats 400000 in
theorem sformatUint_80 (w : World) (htab : w.cell? ⟨2, 15, none⟩ = some (.int .u8 4)) : Calls Tryz.prog 89 #[.int .u64 80, .int .i64 16] w fun e w' => e = .returned (.string ⟨#[53, 48]⟩) ∧ Below w.heap.size w w' := by
  have HT : Hid _ := htab
  clear htab
  go_enter Tryz.func89, Tryz.ntmps89
  go_wp2_with fail
  refine (formatUint_80 _ HT.out).mono ?_
  rintro e w' ⟨rfl, hb⟩
  have HB : Hid _ := hb
  clear hb
  go_wp2_with fail
  go_ret
  exact ⟨rfl, HB.out⟩
set_option maxHeartbeats 400000 in
theorem hex_80 (w : World) (htab : w.cell? ⟨2, 15, none⟩ = some (.int .u8 4)) : Calls Tryz.prog 60 #[.int .u64 80] w fun e w' => e = .returned (.string ⟨#[48, 120, 53, 48]⟩) ∧ Below w.heap.size w w' := by
  have HT : Hid _ := htab
  clear htab
  go_enter Tryz.func60, Tryz.ntmps60
  go_wp2_with fail
  refine (sformatUint_80 _ HT.out).mono ?_
  rintro e w' ⟨rfl, hb⟩
  have HB : Hid _ := hb
  clear hb
  go_wp2_with fail
  go_ret
  exact ⟨rfl, HB.out⟩

set_option maxHeartbeats 400000 in
theorem nameOf_any (f : Nat) (hf : 1 ≤ f) (hf2 : f ≤ 28) (w : World) : Calls Tryz.prog 59 #[.int .i64 f] w fun e w' => e = .returned (.string (fName f)) ∧ Below w.heap.size w w' := by
  have hne : ((fName f).toList == ([] : List UInt8)) = false := by
    have := fName_ne f hf hf2
    cases h : (fName f).toList with
    | nil => rw [h] at this; cases this
    | cons x r => rfl
  go_enter Tryz.func59, Tryz.ntmps59
  go_wp2_with fail
  refine (name_any f hf hf2 _).mono ?_
  rintro e w' ⟨rfl, hb⟩
  have HB : Hid _ := hb
  clear hb
  go_wp2_with fail
  · go_ret
    exact ⟨rfl, HB.out⟩
end Go.Proofs.YtijeakggeichcaaGreatDoor
