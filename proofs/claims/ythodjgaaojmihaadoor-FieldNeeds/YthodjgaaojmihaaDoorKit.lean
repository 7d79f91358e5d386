/- Laws over any program: scopes with labels, rows of bytes, appends, strings. Plain laws, no condition. -/
import Derived.WalkKit
import Derived.ScopeJumps
import Derived.WalkMore
import Derived.OpenShut
import Derived.WalkLawsBesides
import Derived.WalkSmall
import Derived.Below
import Derived.Deep.QuietTactic
import Derived.BigQuiet
import Derived.Laws.BytesArg
import Derived.Laws.AppendOwnNone
namespace Go.Proofs.YthodjgaaojmihaaDoor
open Go.RowKit

/-- The rest of a scope's run from one of its labels on. -/
def FromLabel (P : Program) (c : Code) (Q : Exit → Act → World → Prop) (l : Nat) (a : Act) (w : World) : Prop :=
  ∀ b k cs, ∃ e a' w', Q e a' w' ∧ ∃ k1, gotoIn l (.inScope c :: k) = some k1 ∧ Arrives P (lone (b.at a k1) cs w) b k cs e a' w'

/-- As Q; by a goto: what follows from that label on. -/
def Exit.jumpTo (P : Program) (c : Code) (Q : Exit → Act → World → Prop) : Exit → Act → World → Prop
  | .goto l, a, w => FromLabel P c Q l a w
  | e, a, w => Q e a w

theorem scope_from {P : Program} {a : Act} {w : World} {Q : Exit → Act → World → Prop} {c : Code} (h : c.wp P (Exit.jumpTo P c Q) a w) : (Code.scope c).wp P Q a w := by
  intro b k cs
  obtain ⟨e, a₁, w₁, hq, harr⟩ := h b (.inScope c :: k) cs
  cases e with
  | normal => exact ⟨.normal, a₁, w₁, hq, .head step_scope (Steps.trans harr (.one step_inScope))⟩
  | exit id => exact ⟨.exit id, a₁, w₁, hq, fun k' hk => .head step_scope (harr k' (by simp [exitTo, hk]))⟩
  | goto l' =>
    obtain ⟨e₂, a₂, w₂, hq₂, k1, hg, harr₂⟩ := hq b k cs
    exact ⟨e₂, a₂, w₂, hq₂, .of_steps (.head step_scope (harr _ hg)) harr₂⟩
  | ret => exact ⟨_, a₁, w₁, hq, .of_steps (.one step_scope) harr⟩
  | panic ch => exact ⟨_, a₁, w₁, hq, .of_steps (.one step_scope) harr⟩
  | outgrown => exact ⟨_, a₁, w₁, hq, .of_steps (.one step_scope) harr⟩

theorem from_label {P : Program} {a : Act} {w : World} {Q : Exit → Act → World → Prop} {c rest : Code} {l : Nat} (hf : findLabel c l = some (Code.skip.seq rest)) (h : rest.wp P (Exit.jumpTo P c Q) a w) : FromLabel P c Q l a w := by
  intro b k cs
  have hg : gotoIn l (.inScope c :: k) = some (.code (Code.skip.seq rest) :: .inScope c :: k) := by simp [gotoIn, hf]
  obtain ⟨e, a₁, w₁, hq, harr⟩ := (wp_seq (wp_skip h) : (Code.skip.seq rest).wp P (Exit.jumpTo P c Q) a w) b (.inScope c :: k) cs
  cases e with
  | normal => exact ⟨.normal, a₁, w₁, hq, _, hg, Steps.trans harr (.one step_inScope)⟩
  | exit id => exact ⟨.exit id, a₁, w₁, hq, _, hg, fun k' hk => harr k' (by simp [exitTo, hk])⟩
  | goto l' =>
    obtain ⟨e₂, a₂, w₂, hq₂, k1, hg2, harr₂⟩ := hq b k cs
    exact ⟨e₂, a₂, w₂, hq₂, _, hg, .of_steps (harr _ hg2) harr₂⟩
  | ret => exact ⟨_, a₁, w₁, hq, _, hg, harr⟩
  | panic ch => exact ⟨_, a₁, w₁, hq, _, hg, harr⟩
  | outgrown => exact ⟨_, a₁, w₁, hq, _, hg, harr⟩

theorem label_seq {P : Program} {a : Act} {w : World} {Q : Exit → Act → World → Prop} {l : Nat} {r : Code} (h : r.wp P Q a w) : ((Code.label l).seq r).wp P Q a w :=
  wp_seq (wp_label h)

theorem ret_int {k : IntKind} {a b : Int} (h : a = b) : Ending.returned (.int k a) = .returned (.int k b) := by rw [h]

def slotAt (k : Nat) (a' : Act) (_ : World) : Nat := (intOf (a'.tmps.getD k undef)).toNat

/-- A slice of n bytes that can be read: the bytes are zs. -/
structure BS (w : World) (a : Option Addr) (n : Nat) (zs : List Int) : Prop where
  len : zs.length = n
  fits : ∀ i, 0 ≤ zs.getD i 0 ∧ zs.getD i 0 ≤ 255
  room : n ≤ 140737488355328
  cells : n = 0 ∨ ∃ b off, a = some ⟨b, off, none⟩ ∧ ∀ i, i < zs.length → w.cell? ⟨b, off + i, none⟩ = some (.int .u8 (zs.getD i 0))

theorem cell_lt {w : World} {a : Addr} {v : Value} (h : w.cell? a = some v) : a.block < w.heap.size := by
  unfold World.cell? at h
  by_cases hb : a.block < w.heap.size
  · exact hb
  · have : w.heap[a.block]? = none := Array.getElem?_eq_none (by omega)
    simp [this] at h

theorem BS.drewN {w : World} {a : Option Addr} {n : Nat} {zs : List Int} (h : BS w a n zs) (q : Nat) : BS (w.drewN q) a n zs := ⟨h.len, h.fits, h.room, h.cells⟩

theorem BS.drew {w : World} {a : Option Addr} {n : Nat} {zs : List Int} (h : BS w a n zs) : BS w.drew a n zs := ⟨h.len, h.fits, h.room, h.cells⟩

theorem BS.below {w w' : World} {a : Option Addr} {n : Nat} {zs : List Int} (h : BS w a n zs) (hb : Below w.heap.size w w') : BS w' a n zs := by
  refine ⟨h.len, h.fits, h.room, ?_⟩
  rcases h.cells with h0 | ⟨b, off, rfl, hc⟩
  · exact .inl h0
  · exact .inr ⟨b, off, rfl, fun i hi => (hb.cell (cell_lt (hc i hi))).trans (hc i hi)⟩

theorem BS.take {w : World} {a : Option Addr} {n : Nat} {zs : List Int} (h : BS w a n zs) (k : Nat) (hk : k ≤ n) : BS w a k (zs.take k) := by
  have hl := h.len
  refine ⟨by simp; omega, fun i => ?_, by have := h.room; omega, ?_⟩
  · have := h.fits i
    simp only [List.getD_eq_getElem?_getD, List.getElem?_take] at *
    split <;> simp_all
  · rcases h.cells with h0 | ⟨b, off, rfl, hc⟩
    · exact .inl (by omega)
    · refine .inr ⟨b, off, rfl, fun i hi => ?_⟩
      have hi' : i < k := by simp at hi; omega
      rw [hc i (by omega)]
      simp [List.getD_eq_getElem?_getD, hi']

theorem BS.drop {w : World} {b off : Nat} {n : Nat} {zs : List Int} (h : BS w (some ⟨b, off, none⟩) n zs) (hn : 0 < n) (k : Nat) (hk : k ≤ n) : BS w (some ⟨b, off + k, none⟩) (n - k) (zs.drop k) := by
  have hl := h.len
  refine ⟨by simp; omega, fun i => ?_, by have := h.room; omega, ?_⟩
  · have := h.fits (k + i)
    simpa [List.getD_eq_getElem?_getD, List.getElem?_drop] using this
  · rcases h.cells with h0 | ⟨b, off, e, hc⟩
    · omega
    · cases e
      refine .inr ⟨_, _, rfl, fun i hi => ?_⟩
      have := hc (k + i) (by simp at hi; omega)
      rw [Nat.add_assoc, this]
      simp [List.getD_eq_getElem?_getD, List.getElem?_drop]

theorem BS.empty {w : World} (a : Option Addr) : BS w a 0 [] := ⟨rfl, fun i => by simp, by omega, .inl rfl⟩

theorem run_conv_bs {P : Program} {w : World} {a : Option Addr} {n : Nat} {zs : List Int} (cap : Nat) (h : BS w a n zs) (src dst e : TypeId) (hs : P.underlying src = some (.slice e)) (he : P.underlying e = some (.int .u8)) (hd : P.underlying dst = some .string) :
    (convert src dst (.slice a n cap)).run P w = .ok (.string (strOfNums zs)) w := by
  rcases h.cells with h0 | ⟨b, off, rfl, hc⟩
  · subst h0
    have hz0 : zs = [] := List.length_eq_zero_iff.1 h.len
    subst hz0
    rcases a with _ | ad
    · exact run_convert_bytes_nil w src e hs he 0 cap dst hd
    · rw [run_convert_bytes_string w src dst e _ 0 cap hs he hd, run_bytesToString w ad 0 cap [] (by simp [loadCells, loadCellsFrom])]
      rfl
  · exact run_convert_bytes_arg w src e hs he b off n cap zs h.len (fun i hi => hc i (by have := h.len; omega)) dst hd

end Go.Proofs.YthodjgaaojmihaaDoor
