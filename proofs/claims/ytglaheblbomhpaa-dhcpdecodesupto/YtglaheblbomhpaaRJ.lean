/- The reference's Decode of dhcp: what passes its first test. Conditions: the bytes can be read, and are not too many. -/
import Derived.Test.YtglaheblbomhpaaRI
namespace Go.Proofs.Ytglaheblbomhpaa
open Go.RowKit
/-- What the reference's Decode gives behind its first test. -/
def RDPost (w : World) (zs : List Int) (e : Ending) (w' : World) : Prop :=
  Below w.heap.size w w' ∧ match parseO (zs.drop 240) with
  | none => e = .returned (.tuple #[.agg zeroArr, .int .i64 60])
  | some os => ∃ a' c', e = .returned (.tuple #[fixV2 zs (.slice a' os.length c'), .int .i64 0]) ∧ OS w' a' os.length os
/-- What holds at the head of the reference's loop. -/
structure RDs (w : World) (n : Nat) (zs : List Int) (k : Nat) (acc : List Opt) (v : Value) (cs : Array Value) (wr : World) : Prop where
  hR : wr.heap[w.heap.size]? = some (.cells zeroArr 27 (0, 0))
  hM : wr.heap[w.heap.size + 1]? = some (.cells cs 27 (0, 0))
  own : wr.ownsRow (w.heap.size + 1 + 1) 45 3 v acc.length (optCells acc)
  bel : Below w.heap.size w wr
  same : parseO (zs.drop 240) = (parseO (zs.drop k)).map (acc ++ ·)
  few : acc.length ≤ k
theorem lt_of_heapD {W : World} {g : Nat} {o : Obj} (h : W.heap[g]? = some o) : g < W.heap.size := by
  rcases Nat.lt_or_ge g W.heap.size with h' | h'
  · exact h'
  · simp [Array.getElem?_eq_none h'] at h
theorem cell_row {W : World} {g : Nat} {cs : Array Value} {t : TypeId} (h : W.heap[g]? = some (.cells cs t (0, 0))) (i : Nat) : W.cell? ⟨g, i, none⟩ = cs[i]? := cell_of_row W g i cs t (0, 0) h
theorem row_setCellD {w : World} {b : Nat} {cs : Array Value} {t : TypeId} (h : w.heap[b]? = some (.cells cs t (0, 0))) (o : Nat) (v : Value) : (w.setCell ⟨b, o, none⟩ v).heap[b]? = some (.cells (cs.setIfInBounds o v) t (0, 0)) := by
  unfold World.setCell
  simp [Array.getElem?_modify, h]
theorem own_blockD {w w' : World} {base : Nat} {e : TypeId} {k : Nat} {v : Value} {n : Nat} {xs : List Value} (h : w.ownsRow base e k v n xs) (hb : ∀ g, base ≤ g → w'.heap[g]? = w.heap[g]?) : w'.ownsRow base e k v n xs := by
  refine ⟨h.1, ?_⟩
  rcases h.2 with h0 | ⟨g, cap, cur, e1, h3, h4, h5⟩
  · exact .inl h0
  · exact .inr ⟨g, cap, cur, e1, h3, (hb g h3).trans h4, h5⟩
theorem own_setCellD {w : World} {base : Nat} {e : TypeId} {k : Nat} {v : Value} {n : Nat} {xs : List Value} (h : w.ownsRow base e k v n xs) {p o : Nat} {u : Value} (hp : p < base) : (w.setCell ⟨p, o, none⟩ u).ownsRow base e k v n xs :=
  own_blockD h (fun g hg => Below.heap_setCell _ _ _ _ (show g ≠ p by omega))
theorem os_ownD {w w' : World} {base : Nat} {a : Option Addr} {cap : Nat} {os : List Opt} (h : w.ownsRow base 45 3 (.slice a os.length cap) os.length (optCells os)) (hm : os.length ≤ 3000000) (hk : ∀ g, base ≤ g → w'.heap[g]? = w.heap[g]?) : OS w' a os.length os := by
  have h' := own_blockD h hk
  rcases h'.2 with ⟨h0, h1⟩ | ⟨g, cap', cur, e, _⟩
  · exact ⟨rfl, by omega, .inl h1⟩
  · cases e
    exact os_own h' (by omega)
theorem BS.emptyD {w : World} (a : Option Addr) : BS w a 0 [] := ⟨rfl, by simp, by omega, .inl rfl⟩
end Go.Proofs.Ytglaheblbomhpaa
