/- All, Len, Tuples; the States that the laws' lives asks. Conditions: as said. -/
import Derived.Test.YtijeakggeichcaaGreatDoorQQ
import Derived.Lib.Hide
namespace Go.Proofs.YtijeakggeichcaaGreatDoor
open Go.RowKit
set_option maxHeartbeats 1000000 in
theorem all_any (p : Option Addr) (w : World) : Calls Tryz.prog 15 #[.pointer p] w fun e w' => e = .returned (.func (Fn.func 30) #[] #[.pointer (some ⟨w.heap.size, 0, none⟩)]) ∧ w' = w.alloc (.cells #[.pointer p] 24) := by
  go_enter Tryz.func15, Tryz.ntmps15
  go_wp2
  go_ret
  exact ⟨rfl, rfl⟩
theorem len_tup {W : World} {r c : Nat} {l : List (ByteArray × Value × Nat)} (h : W.heap[r]? = some (.map (entG sv l).toArray c)) : (Builtin.len_ #[64] 3 #[.map (some r)]).run Tryz.prog W = .ok (.int .i64 l.length) W := by
  simp [Builtin.len_, run_underlying Tryz.underlying64, MapKept.run_getObj_map h, entG, goInt]
set_option maxHeartbeats 1000000 in
theorem len_yes {w : World} {B cb rb tm cr ct : Nat} {lr : List (Int × Value × Nat)} {lt : List (ByteArray × Value × Nat)} (h : Cl w B cb rb tm cr ct lr lt) : Calls Tryz.prog 12 #[.pointer (some ⟨cb, 0, none⟩)] w fun e w' => e = .returned (.int .i64 lr.length) ∧ w' = w := by
  have HM : Hid _ := isMade_yes h.c
  have c0 : w.cell? ⟨cb, 0, none⟩ = some (.map (some rb)) := cell_row h.c 0
  have hln := len_map h.r
  clear h
  go_enter Tryz.func12, Tryz.ntmps12
  go_wp2_with fail
  refine Calls.mono HM.out ?_
  rintro e W1 ⟨rfl, hw⟩
  rw [hw]
  clear hw HM
  go_wp2
  go_ret
  exact ⟨rfl, rfl⟩
set_option maxHeartbeats 1000000 in
theorem tuples_yes {w : World} {B cb rb tm cr ct : Nat} {lr : List (Int × Value × Nat)} {lt : List (ByteArray × Value × Nat)} (h : Cl w B cb rb tm cr ct lr lt) : Calls Tryz.prog 16 #[.pointer (some ⟨cb, 0, none⟩)] w fun e w' => e = .returned (.int .i64 lt.length) ∧ w' = w := by
  have HM : Hid _ := isMade_yes h.c
  have c0 : w.cell? ⟨cb, 1, none⟩ = some (.map (some tm)) := cell_row h.c 1
  have hln := len_tup h.m
  clear h
  go_enter Tryz.func16, Tryz.ntmps16
  go_wp2_with fail
  refine Calls.mono HM.out ?_
  rintro e W1 ⟨rfl, hw⟩
  rw [hw]
  clear hw HM
  go_wp2
  go_ret
  exact ⟨rfl, rfl⟩
theorem zeroSt : St zeroC := by
  refine ⟨rfl, zeroC_one, fun i hi => ?_, fun i hi => ?_, fun i hi => ?_, fun i hi => ?_, fun i hi => ?_⟩
  · simp only [List.mem_cons, List.not_mem_nil, or_false] at hi
    refine ⟨0, ?_, by omega, by omega⟩
    rcases hi with rfl | rfl | rfl | rfl <;> rfl
  · simp only [List.mem_cons, List.not_mem_nil, or_false] at hi
    refine ⟨0, ?_, by omega, by omega⟩
    rcases hi with rfl | rfl | rfl | rfl | rfl | rfl | rfl | rfl | rfl | rfl | rfl | rfl | rfl | rfl | rfl | rfl | rfl | rfl | rfl | rfl | rfl | rfl | rfl <;> rfl
  · simp only [List.mem_cons, List.not_mem_nil, or_false] at hi
    refine ⟨0, ?_, by omega, by omega⟩
    rcases hi with rfl | rfl | rfl | rfl | rfl | rfl | rfl | rfl | rfl | rfl | rfl | rfl | rfl <;> rfl
  · simp only [List.mem_cons, List.not_mem_nil, or_false] at hi
    refine ⟨false, ?_⟩
    rcases hi with rfl | rfl | rfl | rfl <;> rfl
  · simp only [List.mem_cons, List.not_mem_nil, or_false] at hi
    refine ⟨⟨#[]⟩, ?_⟩
    rcases hi with rfl | rfl | rfl | rfl | rfl <;> rfl
/-- The State of an IPv4 packet to 0.0.0.1. -/
def oneC : Array Value := (zeroC.setIfInBounds 11 (.bool true)).setIfInBounds 18 (.int .u32 1)
theorem oneSt : St oneC := by
  refine st_put (st_put zeroSt 11 (.bool true) (by decide) rfl (fun hx => absurd hx (by decide)) (fun hx => absurd hx (by decide)) (fun hx => absurd hx (by decide)) (fun _ => ⟨true, rfl⟩) (fun hx => absurd hx (by decide))) 18 (.int .u32 1) (by decide) rfl (fun hx => absurd hx (by decide)) (fun hx => absurd hx (by decide)) (fun _ => ⟨1, rfl, by omega, by omega⟩) (fun hx => absurd hx (by decide)) (fun hx => absurd hx (by decide))
theorem built_ip : Tryz.prog.built 41 [(6, .int .u32 1)] = some (oneC.extract 12 20) := by kernel_rfl
theorem built_pk : Tryz.prog.built 45 [(3, .bool true), (4, .agg (oneC.extract 12 20))] = some (oneC.extract 0 36) := by kernel_rfl
theorem built_st : Tryz.prog.built 50 [(0, .agg (oneC.extract 0 36))] = some oneC := by kernel_rfl
theorem built_st0 : Tryz.prog.built 50 [] = some zeroC := by kernel_rfl
theorem built_ru0 : Tryz.prog.built 29 [(0, .int .i64 10), (2, .int .i64 2)] = some (ruC 10 (.slice none 0 0) 2) := by kernel_rfl
/-- The laws' own rule's terms. -/
def tR : Tm := ⟨11, 1#64, 4294967295#64⟩
theorem chk_R : chkR 10 1 [tR] false 0 = 0 := by
  have h : chk abV 0 [tR] = true := by decide +kernel
  unfold chkR chkE
  rw [h]
  rfl
theorem chk_0 : chkR 10 2 [] false 1 = 0 := by
  have h : chk abV 0 [] = true := by decide +kernel
  unfold chkR chkE
  rw [h]
  rfl
theorem z0_R : [tR].map z0 = [tD] := rfl
theorem tell_one : tellK oneC [tD] = some (keyZ [tR]) := by
  have h1 : hasF 11 oneC = true := by kernel_rfl
  have h2 : gv 11 oneC = 1 := by kernel_rfl
  have h3 : bits BinOp.and IntKind.u64 1 4294967295 = 1 := by decide +kernel
  show (if hasF 11 oneC then _ else _) = _
  rw [if_pos h1]
  show some (Nm.be (bits BinOp.and IntKind.u64 (gv 11 oneC) 4294967295) 8 ++ []) = _
  rw [h2, h3]
  rfl
theorem tell_zero : tellK zeroC [tD] = none := by
  have h1 : hasF 11 zeroC = false := by kernel_rfl
  show (if hasF 11 zeroC then _ else _) = _
  rw [h1]
  rfl
def txD : ByteArray := ⟨#[105, 112, 52, 46, 100, 115, 116, 32, 61, 61, 32, 48, 120, 48]⟩
theorem tx_ne : (⟨#[]⟩ : ByteArray) ≠ txD := by decide
end Go.Proofs.YtijeakggeichcaaGreatDoor
