/- A rule among a law's arguments. Laws of the frame; no condition. -/
import Derived.Test.YtijeakggeichcaaGreatDoorQW
import Derived.Test.YtijeakggeichcaaGreatDoorMM
import Derived.Test.YtijeakggeichcaaGreatDoorFN
namespace Go.Proofs.YtijeakggeichcaaGreatDoor
open Go.ChangeShapes Go.WideShapes Go.ChangeAt Go.RowKit
theorem cellsRule : Tryz.prog.cellsOf 29 = 3 := by kernel_rfl
set_option maxRecDepth 100000 in
theorem open_rule {H : Type} {enc : TypeId × Value → H} {W : World} {v : Value} {d : DataW H} {pl : List MemPlace} {r : Reach} {base : Nat}
    (hv : Value.okWide Tryz.prog W r base 29 v) (h : DataW.Trod enc Tryz.prog W 0 (fun _ => true) true 29 v d pl) : ∃ p s id, v = .agg (ruC p s id) := by
  obtain ⟨cs, rfl, hcs⟩ := okWide_struct Tryz.underlying29 hv
  obtain ⟨fuel, hf⟩ := h
  obtain ⟨l⟩ := cs
  have hl : l.length = 3 := by have := hcs.trans cellsRule; simpa using this
  match l, hl with
  | [c0, c1, c2], _ =>
    have hf' : DataW.trod enc Tryz.prog W 0 (fun _ => true) true fuel 29 [c0, c1, c2] = some (d, pl) := hf
    obtain ⟨xs, k, _, _, _, hxl, hg⟩ := DataW.trod_struct Tryz.underlying29 hf'
    match xs, hxl with
    | [y0, y1, y2], _ =>
      have g0 : DataW.trod enc Tryz.prog W 0 (fun _ => true) true k 3 (([c0, c1, c2].drop 0).take (Tryz.prog.cellsOf 3)) = some y0 := hg 0 _ rfl
      have g2 : DataW.trod enc Tryz.prog W 0 (fun _ => true) true k 3 (([c0, c1, c2].drop 2).take (Tryz.prog.cellsOf 3)) = some y2 := hg 2 _ rfl
      rw [cellsInt] at g0 g2
      obtain ⟨x0, e0, _, _⟩ := DataW.trod_int Tryz.underlying3 g0
      obtain ⟨x2, e2, _, _⟩ := DataW.trod_int Tryz.underlying3 g2
      simp at e0 e2
      subst e0 e2
      exact ⟨x0, c1, x2, rfl⟩
end Go.Proofs.YtijeakggeichcaaGreatDoor
