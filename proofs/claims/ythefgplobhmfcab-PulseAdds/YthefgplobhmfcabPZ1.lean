/- A slice of integers among a law's arguments. A law of the frame; no condition beyond the form's own reach. -/
import Derived.Test.YthefgplobhmfcabPY1
namespace Go.Proofs.Ythefgplobhmfcab
open Go.ChangeShapes Go.WideShapes Go.ChangeAt Go.RowKit
theorem bytes_i : Try.prog.bytesOf 3 = 8 := by kernel_rfl
theorem open_intsl {H : Type} {enc : TypeId × Value → H} {W : World} {a : Option Addr} {len cap : Nat} {d : DataW H} {p : List MemPlace} {ts : List TypeId} {ds : List (DataW H)} (j : Nat)
    (h : DataW.Trod enc Try.prog W 0 (fun _ => true) true 22 (.slice a len cap) d p) (hsz : (DataW.weightsEach Try.prog ts ds).all (· ≤ reachBytes) = true) (ht : ts[j]? = some 22) (hd : ds[j]? = some d) :
    ∃ zs, IS W a len zs ∧ len ≤ cap ∧ len ≤ 17592186044416 := by
  obtain ⟨fuel, hf⟩ := h
  rcases open_ints Try.underlying22 Try.underlying3 (by kernel_rfl) hf with ⟨hcs, _⟩ | ⟨x, l, c, zs, hcs, _, hl, hm, hz, hx, hcell, hwz⟩
  · simp [Value.cells] at hcs
    obtain ⟨rfl, rfl, rfl⟩ := hcs
    exact ⟨[], ⟨rfl, .inl rfl⟩, by omega, by omega⟩
  · simp [Value.cells] at hcs
    obtain ⟨rfl, rfl, rfl⟩ := hcs
    simp only [Prod.mk.injEq] at hx
    obtain ⟨rfl, _⟩ := hx
    have hz' : zs.length = cap := by simpa using hz
    have hs := sized_slice hsz ht hd Try.underlying22
    rw [bytes_i] at hs
    simp only [lits, List.length_map, List.length_take, List.length_drop, reachBytes] at hs
    refine ⟨zs.take len, ⟨by simp; omega, ?_⟩, by omega, by omega⟩
    by_cases h0 : len = 0
    · exact .inl h0
    · obtain ⟨b, off, spot⟩ := x
      have hc := hcell 0 (by omega)
      have hspot : spot = none := by simpa [Addr.add] using World.cell?_spot hc
      subst hspot
      refine .inr ⟨b, off, rfl, fun i t hi => ?_⟩
      have hi' := (List.getElem?_eq_some_iff.1 hi).1
      have := hcell i (by simp at hi'; omega)
      rw [plain_add3] at this
      rw [this]
      rw [List.getElem?_take] at hi
      split at hi
      · simp [List.getD_eq_getElem?_getD, hi]
      · cases hi
end Go.Proofs.Ythefgplobhmfcab
