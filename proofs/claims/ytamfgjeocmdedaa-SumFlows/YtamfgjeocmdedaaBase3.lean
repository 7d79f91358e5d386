/- Rows of bytes: carried over worlds, cut in two; the words of pieces. Plain laws, no condition. -/
import Derived.Test.YtamfgjeocmdedaaFrame
namespace Go.Proofs.Ytamfgjeocmdedaa
open Go.ChangeShapes Go.WideShapes Go.ChangeAt Go.RowKit

theorem cell_lt {w : World} {a : Addr} {v : Value} (h : w.cell? a = some v) : a.block < w.heap.size := by
  unfold World.cell? at h
  by_cases hb : a.block < w.heap.size
  · exact hb
  · have : w.heap[a.block]? = none := Array.getElem?_eq_none (by omega)
    simp [this] at h

theorem BS.drewN {w : World} {a : Option Addr} {n : Nat} {zs : List Int} (h : BS w a n zs) (q : Nat) : BS (w.drewN q) a n zs := ⟨h.len, h.fits, h.room, h.cells⟩
theorem BS.drew {w : World} {a : Option Addr} {n : Nat} {zs : List Int} (h : BS w a n zs) : BS w.drew a n zs := ⟨h.len, h.fits, h.room, h.cells⟩

theorem BS.below {w w' : World} {a : Option Addr} {n : Nat} {zs : List Int} (h : BS w a n zs) (hb : Below w.heap.size w w') : BS w' a n zs := by
  refine ⟨h.len, h.fits, h.room, ?_⟩
  rcases h.cells with h0 | ⟨b, off, rfl, hc⟩
  · exact .inl h0
  · exact .inr ⟨b, off, rfl, fun i hi => (hb.cell (cell_lt (hc i hi))).trans (hc i hi)⟩

theorem BS.take {w : World} {a : Option Addr} {n : Nat} {zs : List Int} (h : BS w a n zs) (k : Nat) (hk : k ≤ n) : BS w a k (zs.take k) := by
  have hl := h.len
  refine ⟨by simp; omega, fun i => ?_, by have := h.room; omega, ?_⟩
  · have := h.fits i
    simp only [List.getD_eq_getElem?_getD, List.getElem?_take] at *
    split <;> simp_all
  · rcases h.cells with h0 | ⟨b, off, rfl, hc⟩
    · exact .inl (by omega)
    · refine .inr ⟨b, off, rfl, fun i hi => ?_⟩
      have hi' : i < k := by simp at hi; omega
      rw [hc i (by omega)]
      simp [List.getD_eq_getElem?_getD, hi']

theorem BS.drop {w : World} {b off : Nat} {n : Nat} {zs : List Int} (h : BS w (some ⟨b, off, none⟩) n zs) (hn : 0 < n) (k : Nat) (hk : k ≤ n) : BS w (some ⟨b, off + k, none⟩) (n - k) (zs.drop k) := by
  have hl := h.len
  refine ⟨by simp; omega, fun i => ?_, by have := h.room; omega, ?_⟩
  · have := h.fits (k + i)
    simpa [List.getD_eq_getElem?_getD, List.getElem?_drop] using this
  · rcases h.cells with h0 | ⟨b, off, e, hc⟩
    · omega
    · cases e
      refine .inr ⟨_, _, rfl, fun i hi => ?_⟩
      have := hc (k + i) (by simp at hi; omega)
      rw [Nat.add_assoc, this]
      simp [List.getD_eq_getElem?_getD, List.getElem?_drop]

theorem BS.empty {w : World} (a : Option Addr) : BS w a 0 [] := ⟨rfl, fun i => by simp, by omega, .inl rfl⟩

theorem wsum_take (m : Nat) : ∀ (zs : List Int) (k : Nat), k ≤ m → k % 2 = 0 → k ≤ zs.length → wsum (zs.take k) + wsum (zs.drop k) = wsum zs := by
  induction m with
  | zero => intro zs k hk _ _; have : k = 0 := by omega
            subst this; simp [wsum]
  | succ m ih =>
    intro zs k hk he hl
    match zs, k with
    | zs, 0 => simp [wsum]
    | zs, 1 => omega
    | [], k + 2 => simp at hl
    | [x], k + 2 => simp at hl
    | x :: y :: r, k + 2 =>
      have := ih r k (by omega) (by omega) (by simp at hl; omega)
      simp only [List.take_succ_cons, List.drop_succ_cons, wsum]
      omega

theorem fld_both (a b : Int) (ha : 0 ≤ a) (hb : 0 ≤ b) : fld (fld a + fld b) = fld (a + b) := by
  rw [fld_add _ _ ha (fld_bd b hb).1, Int.add_comm, fld_add _ _ hb ha, Int.add_comm]
end Go.Proofs.Ytamfgjeocmdedaa
