/- A State among a law's arguments has its 49 cells, each of its kind. A law of the frame; no condition. -/
import Derived.Test.YtnahhmcmahbnkaaGreatDoorGFHtoAA
import Derived.ProofKit
import Derived.ShutString
import Derived.ChangeOld
import Derived.SizedLaws
import Derived.Deep.Slices
namespace Go.Proofs.YtnahhmcmahbnkaaGreatDoor
open Go.ChangeShapes Go.WideShapes Go.ChangeAt Go.RowKit

def OU64 (v : Value) : Prop := ∃ x, v = .int .u64 x ∧ 0 ≤ x ∧ x ≤ 18446744073709551615
def OI64 (v : Value) : Prop := ∃ x, v = .int .i64 x ∧ -9223372036854775808 ≤ x ∧ x ≤ 9223372036854775807
def OU32 (v : Value) : Prop := ∃ x, v = .int .u32 x ∧ 0 ≤ x ∧ x ≤ 4294967295
def OBool (v : Value) : Prop := ∃ x, v = .bool x
def OStr (v : Value) : Prop := ∃ x, v = .string x
theorem cells_u64 : Tryz.prog.cellsOf 22 = 1 := by kernel_rfl
theorem cells_i64 : Tryz.prog.cellsOf 3 = 1 := by kernel_rfl
theorem cells_u32 : Tryz.prog.cellsOf 25 = 1 := by kernel_rfl
theorem cells_b : Tryz.prog.cellsOf 4 = 1 := by kernel_rfl
theorem cells_s : Tryz.prog.cellsOf 9 = 1 := by kernel_rfl
theorem cells_eth : Tryz.prog.cellsOf 24 = 5 := by kernel_rfl
theorem cells_arp : Tryz.prog.cellsOf 27 = 5 := by kernel_rfl
theorem cells_ip : Tryz.prog.cellsOf 29 = 8 := by kernel_rfl
theorem cells_l4 : Tryz.prog.cellsOf 31 = 14 := by kernel_rfl
theorem cells_tuple : Tryz.prog.cellsOf 36 = 5 := by kernel_rfl
theorem cells_packet : Tryz.prog.cellsOf 33 = 36 := by kernel_rfl
theorem cells_regs : Tryz.prog.cellsOf 34 = 4 := by kernel_rfl
theorem cells_state : Tryz.prog.cellsOf 38 = 49 := by kernel_rfl

section
variable {H : Type} {enc : TypeId × Value → H} {W : World} {n : Nat} {c : Value} {y : DataW H × List MemPlace}
theorem leaf_u64 (g : DataW.trod enc Tryz.prog W 0 (fun _ => true) true n 22 [c] = some y) : OU64 c := by
  obtain ⟨x, e, _, w⟩ := DataW.trod_int Tryz.underlying22 g
  simp at e; subst e
  exact ⟨x, rfl, bounds_u64 w⟩
theorem leaf_i64 (g : DataW.trod enc Tryz.prog W 0 (fun _ => true) true n 3 [c] = some y) : OI64 c := by
  obtain ⟨x, e, _, w⟩ := DataW.trod_int Tryz.underlying3 g
  simp at e; subst e
  exact ⟨x, rfl, bounds_i64 w⟩
theorem leaf_u32 (g : DataW.trod enc Tryz.prog W 0 (fun _ => true) true n 25 [c] = some y) : OU32 c := by
  obtain ⟨x, e, _, w⟩ := DataW.trod_int Tryz.underlying25 g
  simp at e; subst e
  exact ⟨x, rfl, bounds_u32 w⟩
theorem leaf_b (g : DataW.trod enc Tryz.prog W 0 (fun _ => true) true n 4 [c] = some y) : OBool c := by
  obtain ⟨x, e, _⟩ := DataW.trod_bool Tryz.underlying4 g
  simp at e; subst e
  exact ⟨x, rfl⟩
theorem leaf_s (g : DataW.trod enc Tryz.prog W 0 (fun _ => true) true n 9 [c] = some y) : OStr c := by
  obtain ⟨x, e, _⟩ := DataW.trod_string Tryz.underlying9 g
  simp at e; subst e
  exact ⟨x, rfl⟩
theorem open_eth {c0v c1v c2v c3v c4v : Value} (g : DataW.trod enc Tryz.prog W 0 (fun _ => true) true n 24 [c0v, c1v, c2v, c3v, c4v] = some y) : OU64 c0v ∧ OU64 c1v ∧ OBool c2v ∧ OI64 c3v ∧ OI64 c4v := by
  obtain ⟨xs, m, _, _, _, hlen, hf⟩ := DataW.trod_struct Tryz.underlying24 g
  match xs, hlen with
  | [y0, y1, y2, y3, y4], _ =>
    have g0 : DataW.trod enc Tryz.prog W 0 (fun _ => true) true m 22 (([c0v, c1v, c2v, c3v, c4v].drop 0).take (Tryz.prog.cellsOf 22)) = some y0 := hf 0 _ rfl
    rw [cells_u64] at g0
    have g1 : DataW.trod enc Tryz.prog W 0 (fun _ => true) true m 22 (([c0v, c1v, c2v, c3v, c4v].drop 1).take (Tryz.prog.cellsOf 22)) = some y1 := hf 1 _ rfl
    rw [cells_u64] at g1
    have g2 : DataW.trod enc Tryz.prog W 0 (fun _ => true) true m 4 (([c0v, c1v, c2v, c3v, c4v].drop 2).take (Tryz.prog.cellsOf 4)) = some y2 := hf 2 _ rfl
    rw [cells_b] at g2
    have g3 : DataW.trod enc Tryz.prog W 0 (fun _ => true) true m 3 (([c0v, c1v, c2v, c3v, c4v].drop 3).take (Tryz.prog.cellsOf 3)) = some y3 := hf 3 _ rfl
    rw [cells_i64] at g3
    have g4 : DataW.trod enc Tryz.prog W 0 (fun _ => true) true m 3 (([c0v, c1v, c2v, c3v, c4v].drop 4).take (Tryz.prog.cellsOf 3)) = some y4 := hf 4 _ rfl
    rw [cells_i64] at g4
    exact ⟨leaf_u64 g0, leaf_u64 g1, leaf_b g2, leaf_i64 g3, leaf_i64 g4⟩
theorem open_arp {c0v c1v c2v c3v c4v : Value} (g : DataW.trod enc Tryz.prog W 0 (fun _ => true) true n 27 [c0v, c1v, c2v, c3v, c4v] = some y) : OI64 c0v ∧ OU64 c1v ∧ OU32 c2v ∧ OU64 c3v ∧ OU32 c4v := by
  obtain ⟨xs, m, _, _, _, hlen, hf⟩ := DataW.trod_struct Tryz.underlying27 g
  match xs, hlen with
  | [y0, y1, y2, y3, y4], _ =>
    have g0 : DataW.trod enc Tryz.prog W 0 (fun _ => true) true m 3 (([c0v, c1v, c2v, c3v, c4v].drop 0).take (Tryz.prog.cellsOf 3)) = some y0 := hf 0 _ rfl
    rw [cells_i64] at g0
    have g1 : DataW.trod enc Tryz.prog W 0 (fun _ => true) true m 22 (([c0v, c1v, c2v, c3v, c4v].drop 1).take (Tryz.prog.cellsOf 22)) = some y1 := hf 1 _ rfl
    rw [cells_u64] at g1
    have g2 : DataW.trod enc Tryz.prog W 0 (fun _ => true) true m 25 (([c0v, c1v, c2v, c3v, c4v].drop 2).take (Tryz.prog.cellsOf 25)) = some y2 := hf 2 _ rfl
    rw [cells_u32] at g2
    have g3 : DataW.trod enc Tryz.prog W 0 (fun _ => true) true m 22 (([c0v, c1v, c2v, c3v, c4v].drop 3).take (Tryz.prog.cellsOf 22)) = some y3 := hf 3 _ rfl
    rw [cells_u64] at g3
    have g4 : DataW.trod enc Tryz.prog W 0 (fun _ => true) true m 25 (([c0v, c1v, c2v, c3v, c4v].drop 4).take (Tryz.prog.cellsOf 25)) = some y4 := hf 4 _ rfl
    rw [cells_u32] at g4
    exact ⟨leaf_i64 g0, leaf_u64 g1, leaf_u32 g2, leaf_u64 g3, leaf_u32 g4⟩
theorem open_ip {c0v c1v c2v c3v c4v c5v c6v c7v : Value} (g : DataW.trod enc Tryz.prog W 0 (fun _ => true) true n 29 [c0v, c1v, c2v, c3v, c4v, c5v, c6v, c7v] = some y) : OI64 c0v ∧ OI64 c1v ∧ OI64 c2v ∧ OI64 c3v ∧ OI64 c4v ∧ OU32 c5v ∧ OU32 c6v ∧ OStr c7v := by
  obtain ⟨xs, m, _, _, _, hlen, hf⟩ := DataW.trod_struct Tryz.underlying29 g
  match xs, hlen with
  | [y0, y1, y2, y3, y4, y5, y6, y7], _ =>
    have g0 : DataW.trod enc Tryz.prog W 0 (fun _ => true) true m 3 (([c0v, c1v, c2v, c3v, c4v, c5v, c6v, c7v].drop 0).take (Tryz.prog.cellsOf 3)) = some y0 := hf 0 _ rfl
    rw [cells_i64] at g0
    have g1 : DataW.trod enc Tryz.prog W 0 (fun _ => true) true m 3 (([c0v, c1v, c2v, c3v, c4v, c5v, c6v, c7v].drop 1).take (Tryz.prog.cellsOf 3)) = some y1 := hf 1 _ rfl
    rw [cells_i64] at g1
    have g2 : DataW.trod enc Tryz.prog W 0 (fun _ => true) true m 3 (([c0v, c1v, c2v, c3v, c4v, c5v, c6v, c7v].drop 2).take (Tryz.prog.cellsOf 3)) = some y2 := hf 2 _ rfl
    rw [cells_i64] at g2
    have g3 : DataW.trod enc Tryz.prog W 0 (fun _ => true) true m 3 (([c0v, c1v, c2v, c3v, c4v, c5v, c6v, c7v].drop 3).take (Tryz.prog.cellsOf 3)) = some y3 := hf 3 _ rfl
    rw [cells_i64] at g3
    have g4 : DataW.trod enc Tryz.prog W 0 (fun _ => true) true m 3 (([c0v, c1v, c2v, c3v, c4v, c5v, c6v, c7v].drop 4).take (Tryz.prog.cellsOf 3)) = some y4 := hf 4 _ rfl
    rw [cells_i64] at g4
    have g5 : DataW.trod enc Tryz.prog W 0 (fun _ => true) true m 25 (([c0v, c1v, c2v, c3v, c4v, c5v, c6v, c7v].drop 5).take (Tryz.prog.cellsOf 25)) = some y5 := hf 5 _ rfl
    rw [cells_u32] at g5
    have g6 : DataW.trod enc Tryz.prog W 0 (fun _ => true) true m 25 (([c0v, c1v, c2v, c3v, c4v, c5v, c6v, c7v].drop 6).take (Tryz.prog.cellsOf 25)) = some y6 := hf 6 _ rfl
    rw [cells_u32] at g6
    have g7 : DataW.trod enc Tryz.prog W 0 (fun _ => true) true m 9 (([c0v, c1v, c2v, c3v, c4v, c5v, c6v, c7v].drop 7).take (Tryz.prog.cellsOf 9)) = some y7 := hf 7 _ rfl
    rw [cells_s] at g7
    exact ⟨leaf_i64 g0, leaf_i64 g1, leaf_i64 g2, leaf_i64 g3, leaf_i64 g4, leaf_u32 g5, leaf_u32 g6, leaf_s g7⟩
theorem open_l4 {c0v c1v c2v c3v c4v c5v c6v c7v c8v c9v c10v c11v c12v c13v : Value} (g : DataW.trod enc Tryz.prog W 0 (fun _ => true) true n 31 [c0v, c1v, c2v, c3v, c4v, c5v, c6v, c7v, c8v, c9v, c10v, c11v, c12v, c13v] = some y) : OI64 c0v ∧ OI64 c1v ∧ OI64 c2v ∧ OU32 c3v ∧ OI64 c4v ∧ OI64 c5v ∧ OBool c6v ∧ OU32 c7v ∧ OU32 c8v ∧ OI64 c9v ∧ OI64 c10v ∧ OI64 c11v ∧ OStr c12v ∧ OStr c13v := by
  obtain ⟨xs, m, _, _, _, hlen, hf⟩ := DataW.trod_struct Tryz.underlying31 g
  match xs, hlen with
  | [y0, y1, y2, y3, y4, y5, y6, y7, y8, y9, y10, y11, y12, y13], _ =>
    have g0 : DataW.trod enc Tryz.prog W 0 (fun _ => true) true m 3 (([c0v, c1v, c2v, c3v, c4v, c5v, c6v, c7v, c8v, c9v, c10v, c11v, c12v, c13v].drop 0).take (Tryz.prog.cellsOf 3)) = some y0 := hf 0 _ rfl
    rw [cells_i64] at g0
    have g1 : DataW.trod enc Tryz.prog W 0 (fun _ => true) true m 3 (([c0v, c1v, c2v, c3v, c4v, c5v, c6v, c7v, c8v, c9v, c10v, c11v, c12v, c13v].drop 1).take (Tryz.prog.cellsOf 3)) = some y1 := hf 1 _ rfl
    rw [cells_i64] at g1
    have g2 : DataW.trod enc Tryz.prog W 0 (fun _ => true) true m 3 (([c0v, c1v, c2v, c3v, c4v, c5v, c6v, c7v, c8v, c9v, c10v, c11v, c12v, c13v].drop 2).take (Tryz.prog.cellsOf 3)) = some y2 := hf 2 _ rfl
    rw [cells_i64] at g2
    have g3 : DataW.trod enc Tryz.prog W 0 (fun _ => true) true m 25 (([c0v, c1v, c2v, c3v, c4v, c5v, c6v, c7v, c8v, c9v, c10v, c11v, c12v, c13v].drop 3).take (Tryz.prog.cellsOf 25)) = some y3 := hf 3 _ rfl
    rw [cells_u32] at g3
    have g4 : DataW.trod enc Tryz.prog W 0 (fun _ => true) true m 3 (([c0v, c1v, c2v, c3v, c4v, c5v, c6v, c7v, c8v, c9v, c10v, c11v, c12v, c13v].drop 4).take (Tryz.prog.cellsOf 3)) = some y4 := hf 4 _ rfl
    rw [cells_i64] at g4
    have g5 : DataW.trod enc Tryz.prog W 0 (fun _ => true) true m 3 (([c0v, c1v, c2v, c3v, c4v, c5v, c6v, c7v, c8v, c9v, c10v, c11v, c12v, c13v].drop 5).take (Tryz.prog.cellsOf 3)) = some y5 := hf 5 _ rfl
    rw [cells_i64] at g5
    have g6 : DataW.trod enc Tryz.prog W 0 (fun _ => true) true m 4 (([c0v, c1v, c2v, c3v, c4v, c5v, c6v, c7v, c8v, c9v, c10v, c11v, c12v, c13v].drop 6).take (Tryz.prog.cellsOf 4)) = some y6 := hf 6 _ rfl
    rw [cells_b] at g6
    have g7 : DataW.trod enc Tryz.prog W 0 (fun _ => true) true m 25 (([c0v, c1v, c2v, c3v, c4v, c5v, c6v, c7v, c8v, c9v, c10v, c11v, c12v, c13v].drop 7).take (Tryz.prog.cellsOf 25)) = some y7 := hf 7 _ rfl
    rw [cells_u32] at g7
    have g8 : DataW.trod enc Tryz.prog W 0 (fun _ => true) true m 25 (([c0v, c1v, c2v, c3v, c4v, c5v, c6v, c7v, c8v, c9v, c10v, c11v, c12v, c13v].drop 8).take (Tryz.prog.cellsOf 25)) = some y8 := hf 8 _ rfl
    rw [cells_u32] at g8
    have g9 : DataW.trod enc Tryz.prog W 0 (fun _ => true) true m 3 (([c0v, c1v, c2v, c3v, c4v, c5v, c6v, c7v, c8v, c9v, c10v, c11v, c12v, c13v].drop 9).take (Tryz.prog.cellsOf 3)) = some y9 := hf 9 _ rfl
    rw [cells_i64] at g9
    have g10 : DataW.trod enc Tryz.prog W 0 (fun _ => true) true m 3 (([c0v, c1v, c2v, c3v, c4v, c5v, c6v, c7v, c8v, c9v, c10v, c11v, c12v, c13v].drop 10).take (Tryz.prog.cellsOf 3)) = some y10 := hf 10 _ rfl
    rw [cells_i64] at g10
    have g11 : DataW.trod enc Tryz.prog W 0 (fun _ => true) true m 3 (([c0v, c1v, c2v, c3v, c4v, c5v, c6v, c7v, c8v, c9v, c10v, c11v, c12v, c13v].drop 11).take (Tryz.prog.cellsOf 3)) = some y11 := hf 11 _ rfl
    rw [cells_i64] at g11
    have g12 : DataW.trod enc Tryz.prog W 0 (fun _ => true) true m 9 (([c0v, c1v, c2v, c3v, c4v, c5v, c6v, c7v, c8v, c9v, c10v, c11v, c12v, c13v].drop 12).take (Tryz.prog.cellsOf 9)) = some y12 := hf 12 _ rfl
    rw [cells_s] at g12
    have g13 : DataW.trod enc Tryz.prog W 0 (fun _ => true) true m 9 (([c0v, c1v, c2v, c3v, c4v, c5v, c6v, c7v, c8v, c9v, c10v, c11v, c12v, c13v].drop 13).take (Tryz.prog.cellsOf 9)) = some y13 := hf 13 _ rfl
    rw [cells_s] at g13
    exact ⟨leaf_i64 g0, leaf_i64 g1, leaf_i64 g2, leaf_u32 g3, leaf_i64 g4, leaf_i64 g5, leaf_b g6, leaf_u32 g7, leaf_u32 g8, leaf_i64 g9, leaf_i64 g10, leaf_i64 g11, leaf_s g12, leaf_s g13⟩
theorem open_tuple {c0v c1v c2v c3v c4v : Value} (g : DataW.trod enc Tryz.prog W 0 (fun _ => true) true n 36 [c0v, c1v, c2v, c3v, c4v] = some y) : OI64 c0v ∧ OU32 c1v ∧ OU32 c2v ∧ OI64 c3v ∧ OI64 c4v := by
  obtain ⟨xs, m, _, _, _, hlen, hf⟩ := DataW.trod_struct Tryz.underlying36 g
  match xs, hlen with
  | [y0, y1, y2, y3, y4], _ =>
    have g0 : DataW.trod enc Tryz.prog W 0 (fun _ => true) true m 3 (([c0v, c1v, c2v, c3v, c4v].drop 0).take (Tryz.prog.cellsOf 3)) = some y0 := hf 0 _ rfl
    rw [cells_i64] at g0
    have g1 : DataW.trod enc Tryz.prog W 0 (fun _ => true) true m 25 (([c0v, c1v, c2v, c3v, c4v].drop 1).take (Tryz.prog.cellsOf 25)) = some y1 := hf 1 _ rfl
    rw [cells_u32] at g1
    have g2 : DataW.trod enc Tryz.prog W 0 (fun _ => true) true m 25 (([c0v, c1v, c2v, c3v, c4v].drop 2).take (Tryz.prog.cellsOf 25)) = some y2 := hf 2 _ rfl
    rw [cells_u32] at g2
    have g3 : DataW.trod enc Tryz.prog W 0 (fun _ => true) true m 3 (([c0v, c1v, c2v, c3v, c4v].drop 3).take (Tryz.prog.cellsOf 3)) = some y3 := hf 3 _ rfl
    rw [cells_i64] at g3
    have g4 : DataW.trod enc Tryz.prog W 0 (fun _ => true) true m 3 (([c0v, c1v, c2v, c3v, c4v].drop 4).take (Tryz.prog.cellsOf 3)) = some y4 := hf 4 _ rfl
    rw [cells_i64] at g4
    exact ⟨leaf_i64 g0, leaf_u32 g1, leaf_u32 g2, leaf_i64 g3, leaf_i64 g4⟩
set_option maxRecDepth 20000 in
theorem open_packet {c0v c1v c2v c3v c4v c5v c6v c7v c8v c9v c10v c11v c12v c13v c14v c15v c16v c17v c18v c19v c20v c21v c22v c23v c24v c25v c26v c27v c28v c29v c30v c31v c32v c33v c34v c35v : Value} (g : DataW.trod enc Tryz.prog W 0 (fun _ => true) true n 33 [c0v, c1v, c2v, c3v, c4v, c5v, c6v, c7v, c8v, c9v, c10v, c11v, c12v, c13v, c14v, c15v, c16v, c17v, c18v, c19v, c20v, c21v, c22v, c23v, c24v, c25v, c26v, c27v, c28v, c29v, c30v, c31v, c32v, c33v, c34v, c35v] = some y) : OU64 c0v ∧ OU64 c1v ∧ OBool c2v ∧ OI64 c3v ∧ OI64 c4v ∧ OBool c5v ∧ OI64 c6v ∧ OU64 c7v ∧ OU32 c8v ∧ OU64 c9v ∧ OU32 c10v ∧ OBool c11v ∧ OI64 c12v ∧ OI64 c13v ∧ OI64 c14v ∧ OI64 c15v ∧ OI64 c16v ∧ OU32 c17v ∧ OU32 c18v ∧ OStr c19v ∧ OI64 c20v ∧ OI64 c21v ∧ OI64 c22v ∧ OU32 c23v ∧ OI64 c24v ∧ OI64 c25v ∧ OBool c26v ∧ OU32 c27v ∧ OU32 c28v ∧ OI64 c29v ∧ OI64 c30v ∧ OI64 c31v ∧ OStr c32v ∧ OStr c33v ∧ OStr c34v ∧ OStr c35v := by
  obtain ⟨xs, m, _, _, _, hlen, hf⟩ := DataW.trod_struct Tryz.underlying33 g
  match xs, hlen with
  | [y0, y1, y2, y3, y4, y5, y6, y7], _ =>
    have g0 : DataW.trod enc Tryz.prog W 0 (fun _ => true) true m 24 (([c0v, c1v, c2v, c3v, c4v, c5v, c6v, c7v, c8v, c9v, c10v, c11v, c12v, c13v, c14v, c15v, c16v, c17v, c18v, c19v, c20v, c21v, c22v, c23v, c24v, c25v, c26v, c27v, c28v, c29v, c30v, c31v, c32v, c33v, c34v, c35v].drop 0).take (Tryz.prog.cellsOf 24)) = some y0 := hf 0 _ rfl
    rw [cells_eth] at g0
    have q0 := open_eth g0
    have g1 : DataW.trod enc Tryz.prog W 0 (fun _ => true) true m 4 (([c0v, c1v, c2v, c3v, c4v, c5v, c6v, c7v, c8v, c9v, c10v, c11v, c12v, c13v, c14v, c15v, c16v, c17v, c18v, c19v, c20v, c21v, c22v, c23v, c24v, c25v, c26v, c27v, c28v, c29v, c30v, c31v, c32v, c33v, c34v, c35v].drop 5).take (Tryz.prog.cellsOf 4)) = some y1 := hf 1 _ rfl
    rw [cells_b] at g1
    have g2 : DataW.trod enc Tryz.prog W 0 (fun _ => true) true m 27 (([c0v, c1v, c2v, c3v, c4v, c5v, c6v, c7v, c8v, c9v, c10v, c11v, c12v, c13v, c14v, c15v, c16v, c17v, c18v, c19v, c20v, c21v, c22v, c23v, c24v, c25v, c26v, c27v, c28v, c29v, c30v, c31v, c32v, c33v, c34v, c35v].drop 6).take (Tryz.prog.cellsOf 27)) = some y2 := hf 2 _ rfl
    rw [cells_arp] at g2
    have q2 := open_arp g2
    have g3 : DataW.trod enc Tryz.prog W 0 (fun _ => true) true m 4 (([c0v, c1v, c2v, c3v, c4v, c5v, c6v, c7v, c8v, c9v, c10v, c11v, c12v, c13v, c14v, c15v, c16v, c17v, c18v, c19v, c20v, c21v, c22v, c23v, c24v, c25v, c26v, c27v, c28v, c29v, c30v, c31v, c32v, c33v, c34v, c35v].drop 11).take (Tryz.prog.cellsOf 4)) = some y3 := hf 3 _ rfl
    rw [cells_b] at g3
    have g4 : DataW.trod enc Tryz.prog W 0 (fun _ => true) true m 29 (([c0v, c1v, c2v, c3v, c4v, c5v, c6v, c7v, c8v, c9v, c10v, c11v, c12v, c13v, c14v, c15v, c16v, c17v, c18v, c19v, c20v, c21v, c22v, c23v, c24v, c25v, c26v, c27v, c28v, c29v, c30v, c31v, c32v, c33v, c34v, c35v].drop 12).take (Tryz.prog.cellsOf 29)) = some y4 := hf 4 _ rfl
    rw [cells_ip] at g4
    have q4 := open_ip g4
    have g5 : DataW.trod enc Tryz.prog W 0 (fun _ => true) true m 31 (([c0v, c1v, c2v, c3v, c4v, c5v, c6v, c7v, c8v, c9v, c10v, c11v, c12v, c13v, c14v, c15v, c16v, c17v, c18v, c19v, c20v, c21v, c22v, c23v, c24v, c25v, c26v, c27v, c28v, c29v, c30v, c31v, c32v, c33v, c34v, c35v].drop 20).take (Tryz.prog.cellsOf 31)) = some y5 := hf 5 _ rfl
    rw [cells_l4] at g5
    have q5 := open_l4 g5
    have g6 : DataW.trod enc Tryz.prog W 0 (fun _ => true) true m 9 (([c0v, c1v, c2v, c3v, c4v, c5v, c6v, c7v, c8v, c9v, c10v, c11v, c12v, c13v, c14v, c15v, c16v, c17v, c18v, c19v, c20v, c21v, c22v, c23v, c24v, c25v, c26v, c27v, c28v, c29v, c30v, c31v, c32v, c33v, c34v, c35v].drop 34).take (Tryz.prog.cellsOf 9)) = some y6 := hf 6 _ rfl
    rw [cells_s] at g6
    have g7 : DataW.trod enc Tryz.prog W 0 (fun _ => true) true m 9 (([c0v, c1v, c2v, c3v, c4v, c5v, c6v, c7v, c8v, c9v, c10v, c11v, c12v, c13v, c14v, c15v, c16v, c17v, c18v, c19v, c20v, c21v, c22v, c23v, c24v, c25v, c26v, c27v, c28v, c29v, c30v, c31v, c32v, c33v, c34v, c35v].drop 35).take (Tryz.prog.cellsOf 9)) = some y7 := hf 7 _ rfl
    rw [cells_s] at g7
    exact ⟨q0.1, q0.2.1, q0.2.2.1, q0.2.2.2.1, q0.2.2.2.2, leaf_b g1, q2.1, q2.2.1, q2.2.2.1, q2.2.2.2.1, q2.2.2.2.2, leaf_b g3, q4.1, q4.2.1, q4.2.2.1, q4.2.2.2.1, q4.2.2.2.2.1, q4.2.2.2.2.2.1, q4.2.2.2.2.2.2.1, q4.2.2.2.2.2.2.2, q5.1, q5.2.1, q5.2.2.1, q5.2.2.2.1, q5.2.2.2.2.1, q5.2.2.2.2.2.1, q5.2.2.2.2.2.2.1, q5.2.2.2.2.2.2.2.1, q5.2.2.2.2.2.2.2.2.1, q5.2.2.2.2.2.2.2.2.2.1, q5.2.2.2.2.2.2.2.2.2.2.1, q5.2.2.2.2.2.2.2.2.2.2.2.1, q5.2.2.2.2.2.2.2.2.2.2.2.2.1, q5.2.2.2.2.2.2.2.2.2.2.2.2.2, leaf_s g6, leaf_s g7⟩
theorem open_regs {c0v c1v c2v c3v : Value} (g : DataW.trod enc Tryz.prog W 0 (fun _ => true) true n 34 [c0v, c1v, c2v, c3v] = some y) : OU32 c0v ∧ OU32 c1v ∧ OU32 c2v ∧ OU32 c3v := by
  obtain ⟨xs, m, _, _, _, hlen, hf⟩ := DataW.trod_array Tryz.underlying34 g
  match xs, hlen with
  | [y0, y1, y2, y3], _ =>
    simp only [cells_u32] at hf
    have g0 := leaf_u32 (c := c0v) (y := y0) (hf 0 (by decide))
    have g1 := leaf_u32 (c := c1v) (y := y1) (hf 1 (by decide))
    have g2 := leaf_u32 (c := c2v) (y := y2) (hf 2 (by decide))
    have g3 := leaf_u32 (c := c3v) (y := y3) (hf 3 (by decide))
    exact ⟨g0, g1, g2, g3⟩
set_option maxRecDepth 20000 in
theorem open_state {c0v c1v c2v c3v c4v c5v c6v c7v c8v c9v c10v c11v c12v c13v c14v c15v c16v c17v c18v c19v c20v c21v c22v c23v c24v c25v c26v c27v c28v c29v c30v c31v c32v c33v c34v c35v c36v c37v c38v c39v c40v c41v c42v c43v c44v c45v c46v c47v c48v : Value} (g : DataW.trod enc Tryz.prog W 0 (fun _ => true) true n 38 [c0v, c1v, c2v, c3v, c4v, c5v, c6v, c7v, c8v, c9v, c10v, c11v, c12v, c13v, c14v, c15v, c16v, c17v, c18v, c19v, c20v, c21v, c22v, c23v, c24v, c25v, c26v, c27v, c28v, c29v, c30v, c31v, c32v, c33v, c34v, c35v, c36v, c37v, c38v, c39v, c40v, c41v, c42v, c43v, c44v, c45v, c46v, c47v, c48v] = some y) : OU64 c0v ∧ OU64 c1v ∧ OBool c2v ∧ OI64 c3v ∧ OI64 c4v ∧ OBool c5v ∧ OI64 c6v ∧ OU64 c7v ∧ OU32 c8v ∧ OU64 c9v ∧ OU32 c10v ∧ OBool c11v ∧ OI64 c12v ∧ OI64 c13v ∧ OI64 c14v ∧ OI64 c15v ∧ OI64 c16v ∧ OU32 c17v ∧ OU32 c18v ∧ OStr c19v ∧ OI64 c20v ∧ OI64 c21v ∧ OI64 c22v ∧ OU32 c23v ∧ OI64 c24v ∧ OI64 c25v ∧ OBool c26v ∧ OU32 c27v ∧ OU32 c28v ∧ OI64 c29v ∧ OI64 c30v ∧ OI64 c31v ∧ OStr c32v ∧ OStr c33v ∧ OStr c34v ∧ OStr c35v ∧ OI64 c36v ∧ OI64 c37v ∧ OI64 c38v ∧ OI64 c39v ∧ OU32 c40v ∧ OU32 c41v ∧ OU32 c42v ∧ OU32 c43v ∧ OI64 c44v ∧ OU32 c45v ∧ OU32 c46v ∧ OI64 c47v ∧ OI64 c48v := by
  obtain ⟨xs, m, _, _, _, hlen, hf⟩ := DataW.trod_struct Tryz.underlying38 g
  match xs, hlen with
  | [y0, y1, y2, y3, y4, y5, y6], _ =>
    have g0 : DataW.trod enc Tryz.prog W 0 (fun _ => true) true m 33 (([c0v, c1v, c2v, c3v, c4v, c5v, c6v, c7v, c8v, c9v, c10v, c11v, c12v, c13v, c14v, c15v, c16v, c17v, c18v, c19v, c20v, c21v, c22v, c23v, c24v, c25v, c26v, c27v, c28v, c29v, c30v, c31v, c32v, c33v, c34v, c35v, c36v, c37v, c38v, c39v, c40v, c41v, c42v, c43v, c44v, c45v, c46v, c47v, c48v].drop 0).take (Tryz.prog.cellsOf 33)) = some y0 := hf 0 _ rfl
    rw [cells_packet] at g0
    have q0 := open_packet g0
    have g1 : DataW.trod enc Tryz.prog W 0 (fun _ => true) true m 3 (([c0v, c1v, c2v, c3v, c4v, c5v, c6v, c7v, c8v, c9v, c10v, c11v, c12v, c13v, c14v, c15v, c16v, c17v, c18v, c19v, c20v, c21v, c22v, c23v, c24v, c25v, c26v, c27v, c28v, c29v, c30v, c31v, c32v, c33v, c34v, c35v, c36v, c37v, c38v, c39v, c40v, c41v, c42v, c43v, c44v, c45v, c46v, c47v, c48v].drop 36).take (Tryz.prog.cellsOf 3)) = some y1 := hf 1 _ rfl
    rw [cells_i64] at g1
    have g2 : DataW.trod enc Tryz.prog W 0 (fun _ => true) true m 3 (([c0v, c1v, c2v, c3v, c4v, c5v, c6v, c7v, c8v, c9v, c10v, c11v, c12v, c13v, c14v, c15v, c16v, c17v, c18v, c19v, c20v, c21v, c22v, c23v, c24v, c25v, c26v, c27v, c28v, c29v, c30v, c31v, c32v, c33v, c34v, c35v, c36v, c37v, c38v, c39v, c40v, c41v, c42v, c43v, c44v, c45v, c46v, c47v, c48v].drop 37).take (Tryz.prog.cellsOf 3)) = some y2 := hf 2 _ rfl
    rw [cells_i64] at g2
    have g3 : DataW.trod enc Tryz.prog W 0 (fun _ => true) true m 3 (([c0v, c1v, c2v, c3v, c4v, c5v, c6v, c7v, c8v, c9v, c10v, c11v, c12v, c13v, c14v, c15v, c16v, c17v, c18v, c19v, c20v, c21v, c22v, c23v, c24v, c25v, c26v, c27v, c28v, c29v, c30v, c31v, c32v, c33v, c34v, c35v, c36v, c37v, c38v, c39v, c40v, c41v, c42v, c43v, c44v, c45v, c46v, c47v, c48v].drop 38).take (Tryz.prog.cellsOf 3)) = some y3 := hf 3 _ rfl
    rw [cells_i64] at g3
    have g4 : DataW.trod enc Tryz.prog W 0 (fun _ => true) true m 3 (([c0v, c1v, c2v, c3v, c4v, c5v, c6v, c7v, c8v, c9v, c10v, c11v, c12v, c13v, c14v, c15v, c16v, c17v, c18v, c19v, c20v, c21v, c22v, c23v, c24v, c25v, c26v, c27v, c28v, c29v, c30v, c31v, c32v, c33v, c34v, c35v, c36v, c37v, c38v, c39v, c40v, c41v, c42v, c43v, c44v, c45v, c46v, c47v, c48v].drop 39).take (Tryz.prog.cellsOf 3)) = some y4 := hf 4 _ rfl
    rw [cells_i64] at g4
    have g5 : DataW.trod enc Tryz.prog W 0 (fun _ => true) true m 34 (([c0v, c1v, c2v, c3v, c4v, c5v, c6v, c7v, c8v, c9v, c10v, c11v, c12v, c13v, c14v, c15v, c16v, c17v, c18v, c19v, c20v, c21v, c22v, c23v, c24v, c25v, c26v, c27v, c28v, c29v, c30v, c31v, c32v, c33v, c34v, c35v, c36v, c37v, c38v, c39v, c40v, c41v, c42v, c43v, c44v, c45v, c46v, c47v, c48v].drop 40).take (Tryz.prog.cellsOf 34)) = some y5 := hf 5 _ rfl
    rw [cells_regs] at g5
    have q5 := open_regs g5
    have g6 : DataW.trod enc Tryz.prog W 0 (fun _ => true) true m 36 (([c0v, c1v, c2v, c3v, c4v, c5v, c6v, c7v, c8v, c9v, c10v, c11v, c12v, c13v, c14v, c15v, c16v, c17v, c18v, c19v, c20v, c21v, c22v, c23v, c24v, c25v, c26v, c27v, c28v, c29v, c30v, c31v, c32v, c33v, c34v, c35v, c36v, c37v, c38v, c39v, c40v, c41v, c42v, c43v, c44v, c45v, c46v, c47v, c48v].drop 44).take (Tryz.prog.cellsOf 36)) = some y6 := hf 6 _ rfl
    rw [cells_tuple] at g6
    have q6 := open_tuple g6
    exact ⟨q0.1, q0.2.1, q0.2.2.1, q0.2.2.2.1, q0.2.2.2.2.1, q0.2.2.2.2.2.1, q0.2.2.2.2.2.2.1, q0.2.2.2.2.2.2.2.1, q0.2.2.2.2.2.2.2.2.1, q0.2.2.2.2.2.2.2.2.2.1, q0.2.2.2.2.2.2.2.2.2.2.1, q0.2.2.2.2.2.2.2.2.2.2.2.1, q0.2.2.2.2.2.2.2.2.2.2.2.2.1, q0.2.2.2.2.2.2.2.2.2.2.2.2.2.1, q0.2.2.2.2.2.2.2.2.2.2.2.2.2.2.1, q0.2.2.2.2.2.2.2.2.2.2.2.2.2.2.2.1, q0.2.2.2.2.2.2.2.2.2.2.2.2.2.2.2.2.1, q0.2.2.2.2.2.2.2.2.2.2.2.2.2.2.2.2.2.1, q0.2.2.2.2.2.2.2.2.2.2.2.2.2.2.2.2.2.2.1, q0.2.2.2.2.2.2.2.2.2.2.2.2.2.2.2.2.2.2.2.1, q0.2.2.2.2.2.2.2.2.2.2.2.2.2.2.2.2.2.2.2.2.1, q0.2.2.2.2.2.2.2.2.2.2.2.2.2.2.2.2.2.2.2.2.2.1, q0.2.2.2.2.2.2.2.2.2.2.2.2.2.2.2.2.2.2.2.2.2.2.1, q0.2.2.2.2.2.2.2.2.2.2.2.2.2.2.2.2.2.2.2.2.2.2.2.1, q0.2.2.2.2.2.2.2.2.2.2.2.2.2.2.2.2.2.2.2.2.2.2.2.2.1, q0.2.2.2.2.2.2.2.2.2.2.2.2.2.2.2.2.2.2.2.2.2.2.2.2.2.1, q0.2.2.2.2.2.2.2.2.2.2.2.2.2.2.2.2.2.2.2.2.2.2.2.2.2.2.1, q0.2.2.2.2.2.2.2.2.2.2.2.2.2.2.2.2.2.2.2.2.2.2.2.2.2.2.2.1, q0.2.2.2.2.2.2.2.2.2.2.2.2.2.2.2.2.2.2.2.2.2.2.2.2.2.2.2.2.1, q0.2.2.2.2.2.2.2.2.2.2.2.2.2.2.2.2.2.2.2.2.2.2.2.2.2.2.2.2.2.1, q0.2.2.2.2.2.2.2.2.2.2.2.2.2.2.2.2.2.2.2.2.2.2.2.2.2.2.2.2.2.2.1, q0.2.2.2.2.2.2.2.2.2.2.2.2.2.2.2.2.2.2.2.2.2.2.2.2.2.2.2.2.2.2.2.1, q0.2.2.2.2.2.2.2.2.2.2.2.2.2.2.2.2.2.2.2.2.2.2.2.2.2.2.2.2.2.2.2.2.1, q0.2.2.2.2.2.2.2.2.2.2.2.2.2.2.2.2.2.2.2.2.2.2.2.2.2.2.2.2.2.2.2.2.2.1, q0.2.2.2.2.2.2.2.2.2.2.2.2.2.2.2.2.2.2.2.2.2.2.2.2.2.2.2.2.2.2.2.2.2.2.1, q0.2.2.2.2.2.2.2.2.2.2.2.2.2.2.2.2.2.2.2.2.2.2.2.2.2.2.2.2.2.2.2.2.2.2.2, leaf_i64 g1, leaf_i64 g2, leaf_i64 g3, leaf_i64 g4, q5.1, q5.2.1, q5.2.2.1, q5.2.2.2, q6.1, q6.2.1, q6.2.2.1, q6.2.2.2.1, q6.2.2.2.2⟩
end
theorem list_cut {α : Type} {l : List α} {n : Nat} (h : l.length = n + 1) : ∃ a r, l = a :: r ∧ r.length = n := by
  cases l with
  | nil => simp at h
  | cons a r => exact ⟨a, r, rfl, by simpa using h⟩
set_option maxRecDepth 20000 in
set_option maxHeartbeats 2000000 in
theorem open_st {H : Type} {enc : TypeId × Value → H} {W : World} {v : Value} {d : DataW H} {p : List MemPlace} {r : Reach} {base : Nat}
    (hv : Value.okWide Tryz.prog W r base 38 v) (h : DataW.Trod enc Tryz.prog W 0 (fun _ => true) true 38 v d p) : ∃ cs, v = .agg cs ∧ St cs := by
  obtain ⟨cs, rfl, hcs⟩ := okWide_struct Tryz.underlying38 hv
  obtain ⟨fuel, hf⟩ := h
  refine ⟨cs, rfl, ?_⟩
  obtain ⟨l⟩ := cs
  have hl : l.length = 49 := by have := hcs.trans cells_state; simpa using this
  obtain ⟨c0v, l0, rfl, k0⟩ := list_cut hl
  obtain ⟨c1v, l1, rfl, k1⟩ := list_cut k0
  obtain ⟨c2v, l2, rfl, k2⟩ := list_cut k1
  obtain ⟨c3v, l3, rfl, k3⟩ := list_cut k2
  obtain ⟨c4v, l4, rfl, k4⟩ := list_cut k3
  obtain ⟨c5v, l5, rfl, k5⟩ := list_cut k4
  obtain ⟨c6v, l6, rfl, k6⟩ := list_cut k5
  obtain ⟨c7v, l7, rfl, k7⟩ := list_cut k6
  obtain ⟨c8v, l8, rfl, k8⟩ := list_cut k7
  obtain ⟨c9v, l9, rfl, k9⟩ := list_cut k8
  obtain ⟨c10v, l10, rfl, k10⟩ := list_cut k9
  obtain ⟨c11v, l11, rfl, k11⟩ := list_cut k10
  obtain ⟨c12v, l12, rfl, k12⟩ := list_cut k11
  obtain ⟨c13v, l13, rfl, k13⟩ := list_cut k12
  obtain ⟨c14v, l14, rfl, k14⟩ := list_cut k13
  obtain ⟨c15v, l15, rfl, k15⟩ := list_cut k14
  obtain ⟨c16v, l16, rfl, k16⟩ := list_cut k15
  obtain ⟨c17v, l17, rfl, k17⟩ := list_cut k16
  obtain ⟨c18v, l18, rfl, k18⟩ := list_cut k17
  obtain ⟨c19v, l19, rfl, k19⟩ := list_cut k18
  obtain ⟨c20v, l20, rfl, k20⟩ := list_cut k19
  obtain ⟨c21v, l21, rfl, k21⟩ := list_cut k20
  obtain ⟨c22v, l22, rfl, k22⟩ := list_cut k21
  obtain ⟨c23v, l23, rfl, k23⟩ := list_cut k22
  obtain ⟨c24v, l24, rfl, k24⟩ := list_cut k23
  obtain ⟨c25v, l25, rfl, k25⟩ := list_cut k24
  obtain ⟨c26v, l26, rfl, k26⟩ := list_cut k25
  obtain ⟨c27v, l27, rfl, k27⟩ := list_cut k26
  obtain ⟨c28v, l28, rfl, k28⟩ := list_cut k27
  obtain ⟨c29v, l29, rfl, k29⟩ := list_cut k28
  obtain ⟨c30v, l30, rfl, k30⟩ := list_cut k29
  obtain ⟨c31v, l31, rfl, k31⟩ := list_cut k30
  obtain ⟨c32v, l32, rfl, k32⟩ := list_cut k31
  obtain ⟨c33v, l33, rfl, k33⟩ := list_cut k32
  obtain ⟨c34v, l34, rfl, k34⟩ := list_cut k33
  obtain ⟨c35v, l35, rfl, k35⟩ := list_cut k34
  obtain ⟨c36v, l36, rfl, k36⟩ := list_cut k35
  obtain ⟨c37v, l37, rfl, k37⟩ := list_cut k36
  obtain ⟨c38v, l38, rfl, k38⟩ := list_cut k37
  obtain ⟨c39v, l39, rfl, k39⟩ := list_cut k38
  obtain ⟨c40v, l40, rfl, k40⟩ := list_cut k39
  obtain ⟨c41v, l41, rfl, k41⟩ := list_cut k40
  obtain ⟨c42v, l42, rfl, k42⟩ := list_cut k41
  obtain ⟨c43v, l43, rfl, k43⟩ := list_cut k42
  obtain ⟨c44v, l44, rfl, k44⟩ := list_cut k43
  obtain ⟨c45v, l45, rfl, k45⟩ := list_cut k44
  obtain ⟨c46v, l46, rfl, k46⟩ := list_cut k45
  obtain ⟨c47v, l47, rfl, k47⟩ := list_cut k46
  obtain ⟨c48v, l48, rfl, k48⟩ := list_cut k47
  obtain rfl := List.length_eq_zero_iff.1 k48
  have q := open_state (show DataW.trod enc Tryz.prog W 0 (fun _ => true) true fuel 38 [c0v, c1v, c2v, c3v, c4v, c5v, c6v, c7v, c8v, c9v, c10v, c11v, c12v, c13v, c14v, c15v, c16v, c17v, c18v, c19v, c20v, c21v, c22v, c23v, c24v, c25v, c26v, c27v, c28v, c29v, c30v, c31v, c32v, c33v, c34v, c35v, c36v, c37v, c38v, c39v, c40v, c41v, c42v, c43v, c44v, c45v, c46v, c47v, c48v] = some (d, p) from hf)
  obtain ⟨⟨x0, rfl, b0⟩, ⟨x1, rfl, b1⟩, ⟨x2, rfl⟩, ⟨x3, rfl, b3⟩, ⟨x4, rfl, b4⟩, ⟨x5, rfl⟩, ⟨x6, rfl, b6⟩, ⟨x7, rfl, b7⟩, ⟨x8, rfl, b8⟩, ⟨x9, rfl, b9⟩, ⟨x10, rfl, b10⟩, ⟨x11, rfl⟩, ⟨x12, rfl, b12⟩, ⟨x13, rfl, b13⟩, ⟨x14, rfl, b14⟩, ⟨x15, rfl, b15⟩, ⟨x16, rfl, b16⟩, ⟨x17, rfl, b17⟩, ⟨x18, rfl, b18⟩, ⟨x19, rfl⟩, ⟨x20, rfl, b20⟩, ⟨x21, rfl, b21⟩, ⟨x22, rfl, b22⟩, ⟨x23, rfl, b23⟩, ⟨x24, rfl, b24⟩, ⟨x25, rfl, b25⟩, ⟨x26, rfl⟩, ⟨x27, rfl, b27⟩, ⟨x28, rfl, b28⟩, ⟨x29, rfl, b29⟩, ⟨x30, rfl, b30⟩, ⟨x31, rfl, b31⟩, ⟨x32, rfl⟩, ⟨x33, rfl⟩, ⟨x34, rfl⟩, ⟨x35, rfl⟩, ⟨x36, rfl, b36⟩, ⟨x37, rfl, b37⟩, ⟨x38, rfl, b38⟩, ⟨x39, rfl, b39⟩, ⟨x40, rfl, b40⟩, ⟨x41, rfl, b41⟩, ⟨x42, rfl, b42⟩, ⟨x43, rfl, b43⟩, ⟨x44, rfl, b44⟩, ⟨x45, rfl, b45⟩, ⟨x46, rfl, b46⟩, ⟨x47, rfl, b47⟩, ⟨x48, rfl, b48⟩⟩ := q
  clear hv hf hcs hl k0 k1 k2 k3 k4 k5 k6 k7 k8 k9 k10 k11 k12 k13 k14 k15 k16 k17 k18 k19 k20 k21 k22 k23 k24 k25 k26 k27 k28 k29 k30 k31 k32 k33 k34 k35 k36 k37 k38 k39 k40 k41 k42 k43 k44 k45 k46 k47 k48
  refine ⟨rfl, by simp [Value.oneCell'], fun i hi => ?_, fun i hi => ?_, fun i hi => ?_, fun i hi => ?_, fun i hi => ?_⟩ <;> simp only [List.mem_cons, List.not_mem_nil, or_false] at hi
  · rcases hi with rfl | rfl | rfl | rfl
    · exact ⟨x0, rfl, b0⟩
    · exact ⟨x1, rfl, b1⟩
    · exact ⟨x7, rfl, b7⟩
    · exact ⟨x9, rfl, b9⟩
  · rcases hi with rfl | rfl | rfl | rfl | rfl | rfl | rfl | rfl | rfl | rfl | rfl | rfl | rfl | rfl | rfl | rfl | rfl | rfl | rfl | rfl | rfl | rfl | rfl
    · exact ⟨x3, rfl, b3⟩
    · exact ⟨x4, rfl, b4⟩
    · exact ⟨x6, rfl, b6⟩
    · exact ⟨x12, rfl, b12⟩
    · exact ⟨x13, rfl, b13⟩
    · exact ⟨x14, rfl, b14⟩
    · exact ⟨x15, rfl, b15⟩
    · exact ⟨x16, rfl, b16⟩
    · exact ⟨x20, rfl, b20⟩
    · exact ⟨x21, rfl, b21⟩
    · exact ⟨x22, rfl, b22⟩
    · exact ⟨x24, rfl, b24⟩
    · exact ⟨x25, rfl, b25⟩
    · exact ⟨x29, rfl, b29⟩
    · exact ⟨x30, rfl, b30⟩
    · exact ⟨x31, rfl, b31⟩
    · exact ⟨x36, rfl, b36⟩
    · exact ⟨x37, rfl, b37⟩
    · exact ⟨x38, rfl, b38⟩
    · exact ⟨x39, rfl, b39⟩
    · exact ⟨x44, rfl, b44⟩
    · exact ⟨x47, rfl, b47⟩
    · exact ⟨x48, rfl, b48⟩
  · rcases hi with rfl | rfl | rfl | rfl | rfl | rfl | rfl | rfl | rfl | rfl | rfl | rfl | rfl
    · exact ⟨x8, rfl, b8⟩
    · exact ⟨x10, rfl, b10⟩
    · exact ⟨x17, rfl, b17⟩
    · exact ⟨x18, rfl, b18⟩
    · exact ⟨x23, rfl, b23⟩
    · exact ⟨x27, rfl, b27⟩
    · exact ⟨x28, rfl, b28⟩
    · exact ⟨x40, rfl, b40⟩
    · exact ⟨x41, rfl, b41⟩
    · exact ⟨x42, rfl, b42⟩
    · exact ⟨x43, rfl, b43⟩
    · exact ⟨x45, rfl, b45⟩
    · exact ⟨x46, rfl, b46⟩
  · rcases hi with rfl | rfl | rfl | rfl
    · exact ⟨x2, rfl⟩
    · exact ⟨x5, rfl⟩
    · exact ⟨x11, rfl⟩
    · exact ⟨x26, rfl⟩
  · rcases hi with rfl | rfl | rfl | rfl | rfl
    · exact ⟨x19, rfl⟩
    · exact ⟨x32, rfl⟩
    · exact ⟨x33, rfl⟩
    · exact ⟨x34, rfl⟩
    · exact ⟨x35, rfl⟩
end Go.Proofs.YtnahhmcmahbnkaaGreatDoor
